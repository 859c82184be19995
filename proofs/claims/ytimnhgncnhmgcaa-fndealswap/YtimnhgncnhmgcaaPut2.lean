/- Pairs put into pairs: the program's answer. -/
import Derived.Test.YtimnhgncnhmgcaaPut
namespace Go.Proofs.Ytimnhgncnhmgcaa
open Go.RowKit
attribute [local go_sem ↓] Go.wp_at_zero Go.wp_at_succ

/-- Block B holds 32 numbers, and may be written. -/
def Arr (w : World) (B : Nat) (f : Nat → Int) : Prop := ∀ q, q < 32 → w.cell? ⟨B, q, none⟩ = some (.int .i64 (f q)) ∧ w.frozen? ⟨B, q, none⟩ = false

theorem Arr.far {w w' : World} {B : Nat} {f : Nat → Int} {row : Option Nat} (h : Arr w B f) (hg : w.grownBy w' row) (hne : some B ≠ row) : Arr w' B f := fun q hq =>
  ⟨cell_far hg hne (h q hq).1, by rw [hg.frozen_far ⟨B, q, none⟩ (lt_of_cell (h q hq).1) hne]; exact (h q hq).2⟩

theorem Arr.alloc {w : World} {B : Nat} {f : Nat → Int} (h : Arr w B f) (o : Obj) : Arr (w.alloc o) B f := h.far (World.grownBy_alloc w o none) (by simp)

theorem Arr.drew {w : World} {B : Nat} {f : Nat → Int} (h : Arr w B f) : Arr w.drew B f := h

theorem Arr.set {w : World} {B : Nat} {f g : Nat → Int} (h : Arr w B f) {q : Nat} {n : Int} (hq : q < 32) (hg : ∀ r, r < 32 → g r = if r = q then n else f r) : Arr (w.setCell ⟨B, q, none⟩ (.int .i64 n)) B g := fun r hr => by
  refine ⟨?_, by rw [World.frozen?_setCell]; exact (h r hr).2⟩
  rw [hg r hr]
  by_cases e : r = q
  · subst e; rw [if_pos rfl]; exact World.cell?_setCell_same _ _ _ (h r hr).1
  · rw [if_neg e, cell_set_far (.inr (fun h => e h.symm))]; exact (h r hr).1

/-- What lies behind the 32 numbers of block B is as it was. -/
def Rest (w w' : World) (B : Nat) : Prop := ∀ q, 32 ≤ q → w'.cell? ⟨B, q, none⟩ = w.cell? ⟨B, q, none⟩ ∧ w'.frozen? ⟨B, q, none⟩ = w.frozen? ⟨B, q, none⟩

theorem Rest.step {w wr : World} {B q : Nat} {u : Value} {o : Obj} (h : Rest w wr B) (hq : q < 32) (hB : B < wr.heap.size) : Rest w ((wr.setCell ⟨B, q, none⟩ u).alloc o).drew B := fun r hr => by
  have hB' : B < (wr.setCell ⟨B, q, none⟩ u).heap.size := by simpa [World.setCell] using hB
  refine ⟨?_, ?_⟩
  · show ((wr.setCell ⟨B, q, none⟩ u).alloc o).cell? ⟨B, r, none⟩ = _
    rw [World.cell?_alloc_past o B r hB', cell_set_far (by omega)]; exact (h r hr).1
  · show ((wr.setCell ⟨B, q, none⟩ u).alloc o).frozen? ⟨B, r, none⟩ = _
    rw [World.frozen?_alloc_past o B r hB', World.frozen?_setCell]; exact (h r hr).2

theorem inForm_at {ps : List Pr} (h : inForm ps = true) {i : Nat} (hi : i < ps.length) : prAt ps i = true := by
  simp only [inForm, Bool.and_eq_true] at h
  exact List.all_eq_true.1 h.2 i (List.mem_range.2 hi)

theorem inForm_key {ps : List Pr} (h : inForm ps = true) {i : Nat} (hi : i < ps.length) : 0 ≤ (ps.getD i Pr.z).key ∧ (ps.getD i Pr.z).key ≤ 31 := by
  have := inForm_at h hi
  simp only [prAt, Bool.and_eq_true, inB, decide_eq_true_eq] at this
  exact this.1.1

theorem inForm_len {ps : List Pr} (h : inForm ps = true) : ps.length ≤ 32 := by
  simp only [inForm, Bool.and_eq_true, decide_eq_true_eq] at h
  exact h.1

set_option maxRecDepth 100000 in
set_option maxHeartbeats 1000000 in
theorem putPairs_any (B : Nat) (v : Value) (ps : List Pr) (f : Nat → Int) (w : World) (hv : PrsAt w v ps) (hin : inForm ps = true) (hne : ps = [] ∨ v.ownBlock ≠ some B) (hA : Arr w B f) :
    Calls Try.prog 53 #[.pointer (some ⟨B, 0, none⟩), v] w fun e w' => e = .returned (.tuple #[]) ∧ w.grownBy w' (some B) ∧ Arr w' B (fun q => lastP (f q) ps q) ∧ Rest w w' B := by
  have HV := hide hv
  have hlen := inForm_len hin
  have HIN := hide hin
  clear hin
  obtain ⟨a, cap, rfl, h1, h2, h3⟩ := hv
  generalize hN : ps.length = N at *
  have HN := hide hN
  clear hN
  unfold maxLen at h2
  have HNE := hide hne
  have HA := hide hA
  clear hne hA
  go_enter Try.func53, Try.ntmps53
  go_wp2
  go_loopw [8] (fun i wr => ∃ j : Nat, j ≤ N ∧ i = .int .i64 j ∧ w.grownBy wr (some B) ∧ Arr wr B (fun q => lastP (f q) (ps.take j) q) ∧ Rest w wr B) (fun i _ => N - (intOf i).toNat)
  case atStart => exact ⟨0, Nat.zero_le _, rfl, grownBy_refl _ _, unhide HA, fun _ _ => ⟨rfl, rfl⟩⟩
  case round =>
    obtain ⟨j, hj, rfl, hg, harr, hrest⟩ := hrel
    have HREST := hide hrest
    clear hrest
    by_cases hlt : j < N
    · obtain ⟨b, off, rfl, hc⟩ : ∃ b off, a = some ⟨b, off, none⟩ ∧ PrCells w b off N ps := by
        rcases h3 with h3 | h3
        · have := unhide HN; subst h3; simp at this; omega
        · exact h3
      have hnb : some b ≠ some B := by
        rcases unhide HNE with h | h
        · have := unhide HN; subst h; simp at this; omega
        · exact h
      have hky := inForm_key (unhide HIN) (i := j) (by rw [unhide HN]; exact hlt)
      have hst := fun (q : Nat) => lastP_step (n := f q) (k := (q : Int)) (ps := ps) (j := j) (by rw [unhide HN]; exact hlt)
      obtain ⟨c0, c1⟩ := hc j hlt
      have c0' := cell_far hg hnb c0
      have c1' := cell_far hg hnb c1
      generalize hx : ps.getD j Pr.z = x at c0' c1' hky hst
      clear c0 c1 hx
      obtain ⟨q, hq⟩ : ∃ q : Nat, x.key = q := ⟨x.key.toNat, by omega⟩
      rw [hq] at c0'
      have hq32 : q < 32 := by omega
      have hq32' : (q : Int) < 32 := by omega
      obtain ⟨r0, r1⟩ := harr q hq32
      have HST := hide hst
      have HQ := hide hq
      have HARR := hide harr
      clear hst hq hky hc h3 hnb harr
      have hBlt := lt_of_cell r0
      go_wp2
      go_region
      all_goals (try go_wp2)
      go_roundw
      case rel =>
        refine ⟨j + 1, hlt, by go_num, grownBy_drew (grownBy_alloc (grownBy_set hg _ _) _), Arr.drew (Arr.alloc ((unhide HARR).set hq32 (fun r _ => ?_)) _), (unhide HREST).step hq32 hBlt⟩
        show lastP (f r) (ps.take (j + 1)) r = _
        rw [unhide HST r, unhide HQ]
        by_cases e : r = q
        · subst e; simp
        · rw [if_neg (by omega), if_neg e]
      case measure => simp [intOf]; omega
    · go_wp2
      go_end0
      obtain rfl : j = N := by omega
      refine ⟨rfl, hg, ?_, unhide HREST⟩
      rw [List.take_of_length_le (by rw [unhide HN]; omega)] at harr
      exact harr


theorem run_index_arr {P : Program} (t e : TypeId) (n : Nat) (i : TypeInfo) (d : TypeDesc) (cs : Array Value) (k : IntKind) (q : Nat) (v : Value) (w : World) (ht : P.underlying t = some (.array n e)) (hi : P.info? e = some i) (hs : i.size = 1)
    (hd : P.underlying e = some d) (hr : d.isRow = false) (hq : q < n) (hv : cs[q]? = some v) :
    (Instr.index t (.agg cs) (.int k (q : Int))).run P w = .ok v w := by
  have h1 : (0 : Int) ≤ (q : Int) ∧ (q : Int) < (n : Int) := by omega
  cases d <;> simp [TypeDesc.isRow] at hr
  all_goals simp [Instr.index, run_underlying ht, run_underlying hd, asIntOf, typeInfo, hi, sizeOf, part, isAgg, hs, hv, hq]

theorem Try.infoInt : (Try.prog.info? 3).map (fun i => (i.zero, i.size, i.bytes)) = some (some (.int .i64 0), 1, 8) := by kernel_rfl

theorem inForm_up {ps : List Pr} (h : inForm ps = true) : ∀ j i, i < j → j < ps.length → (ps.getD i Pr.z).key < (ps.getD j Pr.z).key := by
  intro j
  induction j with
  | zero => intro i hi; omega
  | succ j ih =>
    intro i hi hj
    have h1 := inForm_at h hj
    have h2 : (ps.getD j Pr.z).key < (ps.getD (j + 1) Pr.z).key := by
      simp only [prAt, Bool.and_eq_true, Nat.add_sub_cancel] at h1
      have := h1.2
      simp at this
      simpa using this
    rcases Nat.lt_or_ge i j with hlt | hge
    · have := ih i hlt (by omega); omega
    · obtain rfl : i = j := by omega
      exact h2

theorem inForm_pairwise {ps : List Pr} (h : inForm ps = true) : ps.Pairwise (fun p q => p.key < q.key) := by
  rw [List.pairwise_iff_getElem]
  intro i j hi hj hij
  have := inForm_up h j i hij hj
  simpa [List.getD, hi, hj] using this

theorem lastP_none {ps : List Pr} {n k : Int} (h : ∀ q ∈ ps, ¬ q.key = k) : lastP n ps k = n := by
  induction ps generalizing n with
  | nil => rfl
  | cons p r ih =>
    have h1 : ¬ p.key = k := h p (by simp)
    have : lastP n (p :: r) k = lastP (if p.key = k then p.val else n) r k := rfl
    rw [this, if_neg h1]
    exact ih (fun q hq => h q (by simp [hq]))

theorem lastP_getP {ps : List Pr} {k : Int} (h : ps.Pairwise (fun p q => p.key < q.key)) : lastP 0 ps k = getP ps k := by
  induction ps with
  | nil => rfl
  | cons p r ih =>
    have e : lastP 0 (p :: r) k = lastP (if p.key = k then p.val else 0) r k := rfl
    obtain ⟨h1, h2⟩ := List.pairwise_cons.1 h
    rw [e]
    by_cases hk : p.key = k
    · rw [if_pos hk, lastP_none (fun q hq => by have := h1 q hq; omega)]; simp [getP, hk]
    · rw [if_neg hk, ih h2]; simp [getP, hk]

theorem Arr.fresh (w : World) (e : Nat) : Arr (w.alloc (.cells (Array.replicate 32 (.int .i64 0)) e)) w.heap.size (fun _ => 0) := fun q hq =>
  ⟨by rw [World.cell?_alloc_at _ _ _ _ rfl]; simp [hq], World.frozen?_alloc_at _ _ _ _ rfl⟩

set_option maxRecDepth 100000 in
set_option maxHeartbeats 1000000 in
theorem implPut_any (v u : Value) (xs ys : List Pr) (w : World) (hv : PrsAt w v xs) (hu : PrsAt w u ys) :
    Calls Try.prog 21 #[v, u] w fun e w' => ∃ r, e = .returned r ∧ w'.ownsRow w.heap.size 39 2 r (putP xs ys).length (prFlat (putP xs ys)) ∧ Below w.heap.size w w' := by
  have HV := hide hv
  have HU := hide hu
  clear hv hu
  cases ha : inForm xs
  · have HP : Hid (putP xs ys = []) := by show putP xs ys = []; unfold putP; rw [ha]; rfl
    go_enter Try.func21, Try.ntmps21
    go_wp2_with fail
    refine (pairsInForm_any _ xs _ (unhide HV)).mono ?_; rintro e w1 ⟨rfl, hb1⟩
    go_wp2_with fail
    go_ret
    have h1 := unhide HP
    rw [h1]
    exact ⟨_, rfl, World.ownsRow_nil _ _ _ _, hb1⟩
  cases hb : inForm ys
  · have HP : Hid (putP xs ys = []) := by show putP xs ys = []; unfold putP; rw [hb]; simp
    go_enter Try.func21, Try.ntmps21
    go_wp2_with fail
    refine (pairsInForm_any _ xs _ (unhide HV)).mono ?_; rintro e w1 ⟨rfl, hb1⟩
    go_wp2_with fail
    refine (pairsInForm_any _ ys _ ((unhide HU).kept hb1)).mono ?_; rintro e w2 ⟨rfl, hb2⟩
    go_wp2_with fail
    go_ret
    have h1 := unhide HP
    rw [h1]
    exact ⟨_, rfl, World.ownsRow_nil _ _ _ _, hb1.trans (hb2.mono hb1.size)⟩
  have HP : Hid (putP xs ys = putTo xs ys 32) := by show putP xs ys = _; unfold putP; rw [ha, hb]; rfl
  obtain ⟨i0, hi, hz0, hz1, hz2⟩ := info_parts Try.infoPr2
  go_enter Try.func21, Try.ntmps21
  go_wp2_with fail
  refine (pairsInForm_any _ xs _ (unhide HV)).mono ?_; rintro e w1 ⟨rfl, hb1⟩
  go_wp2_with fail
  refine (pairsInForm_any _ ys _ ((unhide HU).kept hb1)).mono ?_; rintro e w2 ⟨rfl, hb2⟩
  have hb12 := hb1.trans (hb2.mono hb1.size)
  clear hb1 hb2
  go_wp2_with fail
  obtain ⟨wA, hwA⟩ : ∃ wA, wA = w2.alloc (.cells (Array.replicate 32 (.int .i64 0)) 80) := ⟨_, rfl⟩
  have hA := Arr.fresh w2 80
  rw [← hwA] at hA
  have hbA : Below w.heap.size w wA := by rw [hwA]; exact hb12.alloc hb12.size _
  have hsz2 := hb12.size
  have hBA : w2.heap.size < wA.heap.size := by rw [hwA]; simp
  have hnx : ∀ {v : Value} {ps : List Pr}, PrsAt w v ps → ps = [] ∨ v.ownBlock ≠ some w2.heap.size := by
    rintro v ps ⟨a, c, rfl, _, _, h⟩
    rcases h with h | ⟨b, off, rfl, hc⟩
    · exact .inl h
    · by_cases h0 : ps.length = 0
      · exact .inl (List.eq_nil_of_length_eq_zero h0)
      · right
        have := lt_of_cell (hc 0 (by omega)).1
        simp [Value.ownBlock] at this ⊢; omega
  rw [show (#[.int .i64 0, .int .i64 0, .int .i64 0, .int .i64 0, .int .i64 0, .int .i64 0, .int .i64 0, .int .i64 0, .int .i64 0, .int .i64 0, .int .i64 0, .int .i64 0, .int .i64 0, .int .i64 0, .int .i64 0, .int .i64 0, .int .i64 0, .int .i64 0, .int .i64 0, .int .i64 0, .int .i64 0, .int .i64 0, .int .i64 0, .int .i64 0, .int .i64 0, .int .i64 0, .int .i64 0, .int .i64 0, .int .i64 0, .int .i64 0, .int .i64 0, .int .i64 0] : Array Value) = Array.replicate 32 (.int .i64 0) from rfl, ← hwA]
  clear hwA
  refine (putPairs_any _ _ xs (fun _ => 0) _ ((unhide HV).kept hbA) ha (hnx (unhide HV)) hA).mono ?_; rintro e w3 ⟨rfl, hg3, hA3, -⟩
  have hb3 : Below w.heap.size w w3 := Below.grown hbA hg3 hbA.size (fun k hk => by simp at hk; omega)
  go_wp2_with fail
  refine (putPairs_any _ _ ys _ _ ((unhide HU).kept hb3) hb (hnx (unhide HU)) hA3).mono ?_; rintro e w4 ⟨rfl, hg4, hA4, -⟩
  have hb4 : Below w.heap.size w w4 := Below.grown hb3 hg4 hb3.size (fun k hk => by simp at hk; omega)
  obtain ⟨cs, hcl, hcs, hrg⟩ : ∃ cs : List Value, cs.length = 32 ∧ (∀ q : Nat, q < 32 → cs[q]? = some (.int .i64 (putVal xs ys (q : Int)))) ∧ w4.rangeAt w2.heap.size 0 cs := by
    refine ⟨(List.range 32).map fun (q : Nat) => .int .i64 (putVal xs ys (q : Int)), by simp, fun q hq => by simp [hq], fun q v hv => ?_⟩
    have hq : q < 32 := by
      rcases Nat.lt_or_ge q 32 with hlt | hge
      · exact hlt
      · rw [List.getElem?_eq_none (by simpa using hge)] at hv; cases hv
    have : w4.cell? ⟨w2.heap.size, q, none⟩ = some (.int .i64 (lastP (lastP 0 xs q) ys q)) := (hA4 q hq).1
    simp only [List.getElem?_map, List.getElem?_range hq, Option.map_some, Option.some.injEq] at hv
    subst hv
    rw [Nat.zero_add, this, lastP_getP (inForm_pairwise ha)]; rfl
  have hilen : (Try.prog.info? 80).map (·.size) = some cs.length := by rw [hcl]; kernel_rfl
  clear hA4 hA3 hA hg4 hg3 hb3 hbA hnx hBA
  go_wp2_with (refine wpList_load_mid rfl 80 _ rfl w2.heap.size 0 rfl cs (.array 32 3) hrg Try.underlying80 rfl hilen ?_)
  clear hrg hilen
  go_loopw [6, 22] (fun r i wr => ∃ k : Nat, k ≤ 32 ∧ i = .int .i64 k ∧ Below w.heap.size w wr ∧ wr.ownsRow w.heap.size 39 2 r (putTo xs ys k).length (prFlat (putTo xs ys k))) (fun _ i _ => 32 - (intOf i).toNat)
  case atStart => exact ⟨0, by omega, rfl, hb4, World.ownsRow_nil _ _ _ _⟩
  case round =>
    obtain ⟨k, hk, rfl, hbr, hown⟩ := hrel
    have hpl := putTo_length xs ys k
    by_cases hlt : k < 32
    · obtain ⟨j0, hj, hj0, hj1, hj2⟩ := info_parts Try.infoInt
      have hix : ∀ wx, (Instr.index 80 (.agg cs.toArray) (.int .i64 (k : Int))).run Try.prog wx = .ok (.int .i64 (putVal xs ys k)) wx := fun wx =>
        run_index_arr 80 3 32 j0 _ cs.toArray .i64 k _ wx Try.underlying80 hj hj1 Try.underlying3 rfl hlt (by simpa using hcs k hlt)
      clear hcs hj hj0 hj1 hj2 j0
      by_cases hz : putVal xs ys k = 0
      · have hstep : putTo xs ys (k + 1) = putTo xs ys k := by simp [putTo, putOne, hz]
        have HS := hide hstep
        clear hstep
        generalize putVal xs ys k = nv at *
        have hzb : (nv != 0) = false := by simpa using hz
        clear hz
        go_wp2
        go_roundw
        case rel => exact ⟨k + 1, hlt, by go_num, hbr, by rw [unhide HS]; exact hown⟩
        case measure => simp [intOf]; omega
      · have hstep : putTo xs ys (k + 1) = putTo xs ys k ++ [⟨k, putVal xs ys k⟩] := by simp [putTo, putOne, hz]
        have HS := hide hstep
        clear hstep
        generalize putVal xs ys k = nv at *
        have hzb : (nv != 0) = true := by simpa using hz
        clear hz
        generalize hL : putTo xs ys k = L at *
        have HL := hide hL
        clear hL
        have hszr := hbr.size
        go_wp2_with (at_builtin; refine wpList_append_lies _ rfl _ _ 24 rfl w.heap.size 39 i0 (.agg #[.int .i64 0, .int .i64 0]) 2 16 Try.underlying24 hi hz0 hz1 hz2 rfl (by decide) _ L.length _ rfl (hown.alloc _) ⟨wr.heap.size, 0, none⟩ 1 1 [.int .i64 k, .int .i64 nv] rfl rfl (World.news_of_block (heap_alloc_new _ _)) (by simp [Value.oneCell']) (by decide) (by unfold maxLen; omega) (by omega) (by simp; omega) (wr.heap.size + 1) (by simp) ?_; intro g cp w1 hown2 hgrow hat hlt2)
        have hbw : Below w.heap.size w w1 := Below.grown (hbr.alloc hszr _) hgrow (by simp; omega) (fun q hq => (hown.lt q hq).1)
        go_roundw
        case rel =>
          refine ⟨k + 1, hlt, by go_num, hbw, ?_⟩
          rw [unhide HS, prFlat_append, List.length_append]
          exact hown2
        case measure => simp [intOf]; omega
    · go_wp2
      go_ret
      obtain rfl : k = 32 := by omega
      rw [unhide HP]
      exact ⟨_, rfl, hown, hbr⟩

end Go.Proofs.Ytimnhgncnhmgcaa
