/- Proved: at every code the law FnDealStrict answers true (Every deal has just one text), and its argument reads behind the call as before (every slice of bytes; package variables as the program's text lays them; no other condition). -/
import Derived.Test.YtmikdkdgpomiaaaDoorDraw2
import Derived.Laws.StructEq
import Derived.ChangeKeysEq
import Derived.Test.YtmikdkdgpomiaaaDoorPut2
import Derived.Test.YtmikdkdgpomiaaaDoorSpecRun
import Derived.Test.YtmikdkdgpomiaaaDoorDeal2
import Derived.Laws.OwnMore
import Derived.Test.YtmikdkdgpomiaaaDoorDcS5
import Derived.Test.YtmikdkdgpomiaaaDoorSts2
import Derived.Test.YtmikdkdgpomiaaaDoorHkA
import Derived.Test.YtmikdkdgpomiaaaDoorDcS6
import Derived.Test.YtmikdkdgpomiaaaDoorSteps
import Derived.Test.YtmikdkdgpomiaaaDoorDraw1
import Derived.ProofKit
import Derived.OpenShut
import Derived.ShutString
import Derived.ChangeOld
import Derived.Below
import Derived.Deep.Slices
import Derived.ChangeSame
import Derived.ChangeSlices
import Derived.Test.YtmikdkdgpomiaaaDoorDcI2
import Derived.HandedShaped
import Derived.LaidMore
import Derived.Lay
import Derived.Stop.Joined
import Derived.Shelf.Vars
import Derived.Lib.LaidTab
import Derived.Test.YtmikdkdgpomiaaaDoorTie
import Derived.Test.YtmikdkdgpomiaaaDoorCards
import Derived.SevenTiedAt
namespace Go.Proofs.YtmikdkdgpomiaaaDoor
open Go.RowKit
attribute [local go_sem ↓] Go.wp_at_zero Go.wp_at_succ

theorem neq_pr (x y : Pr) (ws : World) : (binOp .neq 199 (.agg #[.int .i64 x.key, .int .i64 x.val]) (.agg #[.int .i64 y.key, .int .i64 y.val])).run Tryd.prog ws = .ok (.bool (!(x.key == y.key && x.val == y.val))) ws := by
  rw [run_neq_struct, run_equalIn_agg _ 9999 _ _ _ (by kernel_rfl) (by kernel_rfl)]
  have hf : (Tryd.prog.fieldsOf 199).toList.map (fun f => (f.name == "_", f.type, f.offset)) = [(false, 3, 0), (false, 3, 1)] := by kernel_rfl
  have hu := Tryd.underlying3
  generalize (Tryd.prog.fieldsOf 199).toList = fs at hf
  have hk : Tryd.prog.plainKey 3 = true := by kernel_rfl
  match fs, hf with
  | [], hf => simp at hf
  | [_], hf => simp at hf
  | _ :: _ :: _ :: _, hf => simp at hf
  | [f, g], hf =>
    simp only [List.map_cons, List.map_nil, List.cons.injEq, Prod.mk.injEq, beq_eq_false_iff_ne, and_true] at hf
    obtain ⟨⟨f1, f2, f3⟩, g1, g2, g3⟩ := hf
    have e1 : ∀ (a b : Int) (wx : World), (Op.equalIn 9999 3 (.int .i64 a) (.int .i64 b)).run Tryd.prog wx = .ok (a == b) wx := fun a b wx => run_equalIn_int wx 9998 _ .i64 .i64 a b hu
    simp only [Op.eqFields, f1, f2, f3, g1, g2, g3, ne_eq, not_false_eq_true, if_true, Sem.run_bind]
    rw [run_part_plain _ hk (v := .int .i64 x.key) rfl, Result.andThen_ok, run_part_plain _ hk (v := .int .i64 y.key) rfl, Result.andThen_ok, e1, Result.andThen_ok]
    cases (x.key == y.key)
    · rfl
    · simp only [Bool.not_true, Bool.false_eq_true, if_false, Sem.run_bind]
      rw [run_part_plain _ hk (v := .int .i64 x.val) rfl, Result.andThen_ok, run_part_plain _ hk (v := .int .i64 y.val) rfl, Result.andThen_ok, e1, Result.andThen_ok]
      cases (x.val == y.val) <;> rfl

end Go.Proofs.YtmikdkdgpomiaaaDoor

namespace Go.Proofs.YtmikdkdgpomiaaaDoor
open Go.RowKit

theorem putP_length (a b : List Pr) : (putP a b).length ≤ 32 := by
  unfold putP; split
  · exact putTo_length a b 32
  · simp

theorem PrsAt.slice {w : World} {v : Value} {ps : List Pr} (h : PrsAt w v ps) : ∃ a cap, v = .slice a ps.length cap ∧ ps.length ≤ maxLen := by
  obtain ⟨a, cap, hv, h1, h2, _⟩ := h
  exact ⟨a, cap, hv, Nat.le_trans h1 h2⟩

/-- A row of pairs that may be written: marks are laid into it. -/
def OwnPr (w : World) (v : Value) (n lo : Nat) : Prop := (v = .slice none 0 0 ∧ n = 0) ∨ ∃ g cap, v = .slice (some ⟨g, 0, none⟩) n cap ∧ lo ≤ g ∧ g < w.heap.size ∧ Room w g (n * 2)

/-- Marks lie in it. -/
def MarkedPr (w : World) (v : Value) (n : Nat) (k : Int) : Prop := ∃ a cap, v = .slice a n cap ∧ (n = 0 ∨ ∃ g, a = some ⟨g, 0, none⟩ ∧ PrCells w g 0 n (marks k n))

theorem MarkedPr.kept {w w' : World} {v : Value} {n : Nat} {k : Int} (h : MarkedPr w v n k) (hb : Below w.heap.size w w') : MarkedPr w' v n k := by
  obtain ⟨a, cap, hv, h1⟩ := h
  refine ⟨a, cap, hv, ?_⟩
  rcases h1 with h1 | ⟨g, ha, hc⟩
  · exact .inl h1
  · exact .inr ⟨g, ha, hc.kept hb⟩

theorem MarkedPr.far {w w' : World} {v : Value} {n : Nat} {k : Int} {row : Option Nat} (h : MarkedPr w v n k) (hg : w.grownBy w' row) (hne : v.ownBlock = none ∨ v.ownBlock ≠ row) : MarkedPr w' v n k := by
  obtain ⟨a, cap, rfl, h1⟩ := h
  refine ⟨a, cap, rfl, ?_⟩
  rcases h1 with h1 | ⟨g, rfl, hc⟩
  · exact .inl h1
  · refine .inr ⟨g, rfl, fun i hi => ?_⟩
    have hne' : some g ≠ row := by
      rcases hne with hne | hne
      · simp [Value.ownBlock] at hne
      · exact hne
    exact ⟨cell_far hg hne' (hc i hi).1, cell_far hg hne' (hc i hi).2⟩

theorem OwnPr.kept {w w' : World} {v : Value} {n lo : Nat} (h : OwnPr w v n lo) (hb : Below w.heap.size w w') : OwnPr w' v n lo := by
  rcases h with h | ⟨g, cap, hv, hl, hg, hr⟩
  · exact .inl h
  · exact .inr ⟨g, cap, hv, hl, Nat.lt_of_lt_of_le hg hb.size, hr.kept hb⟩

theorem OwnPr.far {w w' : World} {v : Value} {n lo : Nat} {row : Option Nat} (h : OwnPr w v n lo) (hg : w.grownBy w' row) (hne : v.ownBlock = none ∨ v.ownBlock ≠ row) : OwnPr w' v n lo := by
  rcases h with h | ⟨g, cap, rfl, hl, hlt, hr⟩
  · exact .inl h
  · refine .inr ⟨g, cap, rfl, hl, Nat.lt_of_lt_of_le hlt hg.size, hr.far hg ?_⟩
    rcases hne with hne | hne
    · simp [Value.ownBlock] at hne
    · exact hne

theorem OwnPr.block {w : World} {v : Value} {n lo : Nat} (h : OwnPr w v n lo) : v.ownBlock = none ∨ ∃ g, v.ownBlock = some g ∧ lo ≤ g ∧ g < w.heap.size := by
  rcases h with ⟨rfl, _⟩ | ⟨g, cap, rfl, hl, hlt, _⟩
  · exact .inl rfl
  · exact .inr ⟨g, rfl, hl, hlt⟩

/-- What a copy owns. -/
theorem copy_own {w w' : World} {ps : List Pr} (hr : Room w' w.heap.size (ps.length * 2)) (hs : w.heap.size < w'.heap.size) : OwnPr w' (.slice (some ⟨w.heap.size, 0, none⟩) ps.length ps.length) ps.length w.heap.size :=
  .inr ⟨w.heap.size, _, rfl, Nat.le_refl _, hs, hr⟩

end Go.Proofs.YtmikdkdgpomiaaaDoor

namespace Go.Proofs.YtmikdkdgpomiaaaDoor
open Go.RowKit

theorem putTo_chTo (a b : List Pr) (m : Nat) : putTo a b m = chTo (fun q => putVal a b q) (fun q => decide (putVal a b q ≠ 0)) m := by
  induction m with
  | zero => rfl
  | succ m ih =>
    simp only [putTo, chTo, ih, putOne, decide_eq_true_eq]
    by_cases h : putVal a b m = 0 <;> simp [h]

theorem getP_putTo (a b : List Pr) {k m : Nat} (h : k < m) : getP (putTo a b m) k = putVal a b k := by
  rw [putTo_chTo, getP_chTo]
  by_cases hz : putVal a b k = 0 <;> simp [h, hz]

theorem chTo_pairwise (f : Nat → Int) (c : Nat → Bool) (m : Nat) : (chTo f c m).Pairwise (fun p q => p.key < q.key) := by
  induction m with
  | zero => exact List.Pairwise.nil
  | succ m ih =>
    simp only [chTo]
    rw [List.pairwise_append]
    refine ⟨ih, ?_, ?_⟩
    · split <;> simp
    · intro p hp q hq
      obtain ⟨i, hi, _, rfl⟩ := chTo_mem hp
      split at hq
      · simp at hq; subst hq; show (i : Int) < (m : Int); omega
      · cases hq

theorem lastP_val {n : Int} {ps : List Pr} {k : Int} (hn : valB n = true) (h : ∀ p ∈ ps, valB p.val = true) : valB (lastP n ps k) = true := by
  induction ps generalizing n with
  | nil => exact hn
  | cons p r ih =>
    show valB (lastP (if p.key = k then p.val else n) r k) = true
    apply ih
    · split
      · exact h p (List.mem_cons_self ..)
      · exact hn
    · exact fun q hq => h q (List.mem_cons_of_mem _ hq)

theorem inForm_of {ps : List Pr} (hl : ps.length ≤ 32) (hp : ps.Pairwise (fun p q => p.key < q.key)) (hm : ∀ p ∈ ps, 0 ≤ p.key ∧ p.key ≤ 31 ∧ valB p.val = true) : inForm ps = true := by
  simp only [inForm, Bool.and_eq_true, decide_eq_true_eq]
  refine ⟨hl, List.all_eq_true.2 fun i hi => ?_⟩
  have hi' := List.mem_range.1 hi
  have ge : ∀ j, (hj : j < ps.length) → ps.getD j Pr.z = ps[j] := fun j hj => by simp [List.getD, hj]
  obtain ⟨h1, h2, h3⟩ := hm ps[i] (List.getElem_mem hi')
  rw [prAt, ge i hi', h3]
  have hk : inB ps[i].key 0 31 = true := by simp [inB, h1, h2]
  rw [hk]
  by_cases h0 : 0 < i
  · rw [ge (i - 1) (by omega)]
    have := List.pairwise_iff_getElem.1 hp (i - 1) i (by omega) hi' (by omega)
    have hq : decide (ps[i].key ≤ ps[i - 1].key) = false := by simp; omega
    rw [hq]; simp
  · have : decide (0 < i) = false := by simp; omega
    rw [this]; simp

theorem inForm_putTo {a b : List Pr} (ha : inForm a = true) (hb : inForm b = true) : inForm (putTo a b 32) = true := by
  refine inForm_of (putTo_length a b 32) (by rw [putTo_chTo]; exact chTo_pairwise _ _ _) ?_
  intro p hp
  rw [putTo_chTo] at hp
  obtain ⟨q, hq, _, rfl⟩ := chTo_mem hp
  refine ⟨?_, ?_, ?_⟩
  · show 0 ≤ (q : Int); omega
  · show (q : Int) ≤ 31; omega
  · exact lastP_val (start_val ha q) (fun p hp => (inForm_mem hb hp).2.2)

theorem lastP_two (ps : List Pr) (k : Int) : (∀ n, lastP n ps k = n) ∨ (∃ c, ∀ n, lastP n ps k = c) := by
  induction ps with
  | nil => exact .inl fun _ => rfl
  | cons p r ih =>
    have step : ∀ n, lastP n (p :: r) k = lastP (if p.key = k then p.val else n) r k := fun _ => rfl
    rcases ih with h | ⟨c, h⟩
    · by_cases hp : p.key = k
      · exact .inr ⟨p.val, fun n => by rw [step, if_pos hp, h]⟩
      · exact .inl fun n => by rw [step, if_neg hp, h]
    · exact .inr ⟨c, fun n => by rw [step, h]⟩

theorem lastP_twice (n : Int) (ps : List Pr) (k : Int) : lastP (lastP n ps k) ps k = lastP n ps k := by
  rcases lastP_two ps k with h | ⟨c, h⟩
  · rw [h]
  · rw [h, h]

theorem putTo_again (a b : List Pr) (M m : Nat) (h : m ≤ M) : putTo (putTo a b M) b m = putTo a b m := by
  induction m with
  | zero => rfl
  | succ m ih =>
    have : putVal (putTo a b M) b m = putVal a b m := by
      show lastP (getP (putTo a b M) m) b m = _
      rw [getP_putTo a b (by omega)]; exact lastP_twice _ _ _
    simp only [putTo, putOne, this, ih (by omega)]

/-- Put again: nothing changes. -/
theorem putP_again {a b : List Pr} (h : putP a b ≠ []) : putP (putP a b) b = putP a b ∧ ∀ k : Nat, k < 32 → getP (putP a b) k = putVal a b k := by
  cases hc : (inForm a && inForm b)
  · simp [putP, hc] at h
  · have hp : putP a b = putTo a b 32 := by unfold putP; rw [hc]; rfl
    simp only [Bool.and_eq_true] at hc
    rw [hp]
    refine ⟨?_, fun k hk => getP_putTo a b hk⟩
    unfold putP
    rw [inForm_putTo hc.1 hc.2, hc.2]
    exact putTo_again a b 32 32 (Nat.le_refl _)

end Go.Proofs.YtmikdkdgpomiaaaDoor

namespace Go.Proofs.YtmikdkdgpomiaaaDoor
open Go.RowKit

theorem ownBlock_prs {w : World} {v : Value} {ps : List Pr} {base : Nat} (h : (v = .slice none 0 0 ∧ ps = []) ∨ ∃ g cap, v = .slice (some ⟨g, 0, none⟩) ps.length cap ∧ base ≤ g ∧ g < w.heap.size ∧ Room w g (ps.length * 2)) :
    v.ownBlock = none ∨ ∃ g, v.ownBlock = some g ∧ base ≤ g ∧ g < w.heap.size := by
  rcases h with ⟨rfl, _⟩ | ⟨g, cap, rfl, hl, hlt, _⟩
  · exact .inl rfl
  · exact .inr ⟨g, rfl, hl, hlt⟩

end Go.Proofs.YtmikdkdgpomiaaaDoor

namespace Go.Proofs.YtmikdkdgpomiaaaDoor
open Go.RowKit

theorem stFlat_set (L : List St) (j : Nat) (v : Int) (h : j < L.length * 3) : ∃ L' : List St, L'.length = L.length ∧ (stFlat L).set j (.int .i64 v) = stFlat L' := by
  induction L generalizing j with
  | nil => simp at h
  | cons s r ih =>
    match j, h with
    | 0, _ => exact ⟨⟨v, s.key, s.num⟩ :: r, rfl, by simp [stFlat]⟩
    | 1, _ => exact ⟨⟨s.op, v, s.num⟩ :: r, rfl, by simp [stFlat]⟩
    | 2, _ => exact ⟨⟨s.op, s.key, v⟩ :: r, rfl, by simp [stFlat]⟩
    | j + 3, h =>
      obtain ⟨L', h1, h2⟩ := ih j (by simp at h; omega)
      exact ⟨s :: L', by simp [h1], by simp [stFlat] at h2 ⊢; exact h2⟩

theorem two2 (x y : Int) (K : Nat) (hK : K < 2) : ∃ v : Int, (#[.int .i64 x, .int .i64 y] : Array Value)[K]? = some (.int .i64 v) := by
  match K, hK with
  | 0, _ => exact ⟨_, rfl⟩
  | 1, _ => exact ⟨_, rfl⟩
theorem four4 (x y z u : Int) (K : Nat) (hK : K < 4) : ∃ v : Int, (#[.int .i64 x, .int .i64 y, .int .i64 z, .int .i64 u] : Array Value)[K]? = some (.int .i64 v) := by
  match K, hK with
  | 0, _ => exact ⟨_, rfl⟩
  | 1, _ => exact ⟨_, rfl⟩
  | 2, _ => exact ⟨_, rfl⟩
  | 3, _ => exact ⟨_, rfl⟩

/-- A number is written into a row of statements. -/
theorem Pk.stored {w wc : World} {B q g cap : Nat} {L : List St} (h : Pk w wc B q (.slice (some ⟨g, 0, none⟩) L.length cap) L) (hB : B < w.heap.size) {j : Nat} (v : Int) (hj : j < L.length * 3) :
    ∃ L' : List St, L'.length = L.length ∧ Pk w (wc.setCell ⟨g, j, none⟩ (.int .i64 v)) B q (.slice (some ⟨g, 0, none⟩) L.length cap) L' := by
  obtain ⟨L', h1, h2⟩ := stFlat_set L j v hj
  have hg := (h.own.lt g rfl).1
  refine ⟨L', h1, ?_, h.rd.setD (by omega) j _, grownBy_setOwnD h.grown hg j _⟩
  rw [h1, ← h2]; exact (h.own.stored j _).1

def slLen : Value → Nat | .slice _ n _ => n | _ => 0

set_option maxRecDepth 100000 in
set_option maxHeartbeats 4000000 in
theorem drawDeal_any (B p : Nat) (w : World) (hr : Rd w B p) (hp : p ≤ 800000) :
    Calls Tryd.prog 23 #[.pointer (some ⟨B, 0, none⟩)] w fun e w' => ∃ r L p', e = .returned r ∧ w'.ownsRow w.heap.size 45 3 r L.length (stFlat L) ∧ L.length ≤ 8 ∧ Rd w' B p' ∧ p' ≤ p + 200 ∧ w.grownBy w' (some B) := by
  have hBl := hr.lt
  have HRD := hide hr
  clear hr
  obtain ⟨i0, hi, hz0, hz1, hz2⟩ := info_parts Tryd.infoSt
  go_enter Tryd.func23, Tryd.ntmps23
  go_wp2_with fail
  refine (sim_any B _).mono ?_; rintro e w1 ⟨G, rfl, hG, hc1, hb1⟩
  have hr1 := (unhide HRD).kept hb1
  have z1 := hb1.size
  have HG1 : Hid (w.grownBy w1 (some B)) := grownBy_below (grownBy_refl w (some B)) hb1
  have HR1 := hide hr1
  have HC1 := hide hc1
  clear hb1 hr1 hc1
  go_wp2_with fail
  refine (deal_any G B p _ (unhide HC1) (by omega) (unhide HR1) (by omega)).mono ?_; rintro e w2 ⟨r2, L, p2, rfl, ho2, hL1, hL4, hr2, hp2, hg2⟩
  obtain ⟨g, cap, rfl, hgl, -⟩ := ho2.form (by omega)
  have HP2 : Hid (Pk w w2 B p2 (.slice (some ⟨g, 0, none⟩) L.length cap) L) := ⟨ownsRow_base ho2 z1, hr2, grownBy_trans (unhide HG1) hg2⟩
  clear ho2 hr2 hg2 HR1 HC1 HG1 HRD
  go_wp2_with fail
  refine (pick_any B p2 12 _ (unhide HP2).rd (by omega) (by omega)).mono ?_; rintro e w3 ⟨k, rfl, a1, a2, r3, g3, -⟩
  have a2' := a2 (by omega)
  have HP3 : Hid (Pk w w3 B (p2 + 1) (.slice (some ⟨g, 0, none⟩) L.length cap) L) := Pk.pick (unhide HP2) g3 r3 hBl
  have z3 := (unhide HP3).grown.size
  clear r3 g3 a2 HP2
  have hLI : (1 : Int) ≤ (L.length : Int) := by omega
  have hLJ : (L.length : Int) ≤ 4 := by omega
  rcases (by omega : k = 0 ∨ k = 1 ∨ k = 2 ∨ k = 3 ∨ k = 4 ∨ 5 ≤ k) with rfl | rfl | rfl | rfl | rfl | hk5
  · go_wp2_with fail
    refine (pick_any B (p2 + 1) (L.length : Int) _ (unhide HP3).rd (by omega) (by omega)).mono ?_; rintro e w4 ⟨k4, rfl, b1, b2, r4, g4, -⟩
    have b2' := b2 (by omega)
    have HP4 : Hid (Pk w w4 B (p2 + 1 + 1) (.slice (some ⟨g, 0, none⟩) L.length cap) L) := Pk.pick (unhide HP3) g4 r4 hBl
    have z4 := (unhide HP4).grown.size
    clear r4 g4 b2 HP3
    obtain ⟨K4, rfl⟩ := Int.eq_ofNat_of_zero_le b1
    have hK4 : K4 < L.length := by omega
    go_wp2_with fail
    refine (pick_any B (p2 + 1 + 1) 2 _ (unhide HP4).allocK.rd (by omega) (by omega)).mono ?_; rintro e w5 ⟨k5, rfl, c1, c2, r5, g5, -⟩
    have c2' := c2 (by omega)
    have HP5 : Hid (Pk w w5 B (p2 + 1 + 1 + 1) (.slice (some ⟨g, 0, none⟩) L.length cap) L) := Pk.pick (unhide HP4).allocK g5 r5 hBl
    obtain ⟨K5, rfl⟩ := Int.eq_ofNat_of_zero_le c1
    have hK5 : K5 < 2 := by omega
    have hK5' : (K5 : Int) < 2 := by omega
    obtain ⟨kv, hkv⟩ := two2 0 5 K5 hK5
    have hBw4 : B < w4.heap.size := by omega
    have c5 : w5.cell? ⟨w4.heap.size, K5, none⟩ = some (.int .i64 kv) := by
      rw [g5.cell_far ⟨w4.heap.size, K5, none⟩ (by simp) (by simp; omega), World.cell?_alloc_at _ _ _ _ rfl]; exact hkv
    clear r5 g5 c2 HP4 hkv
    have hj : K4 * 3 < L.length * 3 := by omega
    have y0 : w5.cell? ⟨g, K4 * 3, none⟩ = some (.int .i64 (L.getD K4 St.z).op) := by rw [(unhide HP5).own.cellAt _ hj]; exact (stFlat_at L K4 hK4).1
    have f0 : w5.frozen? ⟨g, K4 * 3, none⟩ = false := (unhide HP5).own.frozenAt _
    obtain ⟨L', hL', hP6⟩ := (unhide HP5).stored hBl kv hj
    have HP6 := hide hP6
    have HL' := hide hL'
    clear hP6 HP5 hL'
    go_wp2_with fail
    go_ret
    exact ⟨_, L', _, rfl, by rw [unhide HL']; have := (unhide HP6).own; rwa [unhide HL'] at this, by have := unhide HL'; omega, (unhide HP6).rd, by omega, (unhide HP6).grown⟩
  · go_wp2_with fail
    refine (pick_any B (p2 + 1) (L.length : Int) _ (unhide HP3).rd (by omega) (by omega)).mono ?_; rintro e w4 ⟨k4, rfl, b1, b2, r4, g4, -⟩
    have b2' := b2 (by omega)
    have HP4 : Hid (Pk w w4 B (p2 + 1 + 1) (.slice (some ⟨g, 0, none⟩) L.length cap) L) := Pk.pick (unhide HP3) g4 r4 hBl
    have z4 := (unhide HP4).grown.size
    clear r4 g4 b2 HP3
    obtain ⟨K4, rfl⟩ := Int.eq_ofNat_of_zero_le b1
    have hK4 : K4 < L.length := by omega
    go_wp2_with fail
    refine (pick_any B (p2 + 1 + 1) 3 _ (unhide HP4).allocK.rd (by omega) (by omega)).mono ?_; rintro e w5 ⟨k5, rfl, c1, c2, r5, g5, -⟩
    have c2' := c2 (by omega)
    have HP5 : Hid (Pk w w5 B (p2 + 1 + 1 + 1) (.slice (some ⟨g, 0, none⟩) L.length cap) L) := Pk.pick (unhide HP4).allocK g5 r5 hBl
    obtain ⟨K5, rfl⟩ := Int.eq_ofNat_of_zero_le c1
    have hK5 : K5 < 3 := by omega
    have hK5' : (K5 : Int) < 3 := by omega
    obtain ⟨kv, hkv⟩ := three (-1) 32 31 K5 hK5
    have hBw4 : B < w4.heap.size := by omega
    have c5 : w5.cell? ⟨w4.heap.size, K5, none⟩ = some (.int .i64 kv) := by
      rw [g5.cell_far ⟨w4.heap.size, K5, none⟩ (by simp) (by simp; omega), World.cell?_alloc_at _ _ _ _ rfl]; exact hkv
    clear r5 g5 c2 HP4 hkv
    have hj : K4 * 3 + 1 < L.length * 3 := by omega
    have y0 : w5.cell? ⟨g, K4 * 3 + 1, none⟩ = some (.int .i64 (L.getD K4 St.z).key) := by rw [(unhide HP5).own.cellAt _ hj]; exact (stFlat_at L K4 hK4).2.1
    have f0 : w5.frozen? ⟨g, K4 * 3 + 1, none⟩ = false := (unhide HP5).own.frozenAt _
    obtain ⟨L', hL', hP6⟩ := (unhide HP5).stored hBl kv hj
    have HP6 := hide hP6
    have HL' := hide hL'
    clear hP6 HP5 hL'
    go_wp2_with fail
    go_ret
    exact ⟨_, L', _, rfl, by rw [unhide HL']; have := (unhide HP6).own; rwa [unhide HL'] at this, by have := unhide HL'; omega, (unhide HP6).rd, by omega, (unhide HP6).grown⟩
  · go_wp2_with fail
    refine (pick_any B (p2 + 1) (L.length : Int) _ (unhide HP3).rd (by omega) (by omega)).mono ?_; rintro e w4 ⟨k4, rfl, b1, b2, r4, g4, -⟩
    have b2' := b2 (by omega)
    have HP4 : Hid (Pk w w4 B (p2 + 1 + 1) (.slice (some ⟨g, 0, none⟩) L.length cap) L) := Pk.pick (unhide HP3) g4 r4 hBl
    have z4 := (unhide HP4).grown.size
    clear r4 g4 b2 HP3
    obtain ⟨K4, rfl⟩ := Int.eq_ofNat_of_zero_le b1
    have hK4 : K4 < L.length := by omega
    go_wp2_with fail
    refine (pick_any B (p2 + 1 + 1) 4 _ (unhide HP4).allocK.rd (by omega) (by omega)).mono ?_; rintro e w5 ⟨k5, rfl, c1, c2, r5, g5, -⟩
    have c2' := c2 (by omega)
    have HP5 : Hid (Pk w w5 B (p2 + 1 + 1 + 1) (.slice (some ⟨g, 0, none⟩) L.length cap) L) := Pk.pick (unhide HP4).allocK g5 r5 hBl
    obtain ⟨K5, rfl⟩ := Int.eq_ofNat_of_zero_le c1
    have hK5 : K5 < 4 := by omega
    have hK5' : (K5 : Int) < 4 := by omega
    obtain ⟨kv, hkv⟩ := four4 (-10000) 10000 9999 (-9999) K5 hK5
    have hBw4 : B < w4.heap.size := by omega
    have c5 : w5.cell? ⟨w4.heap.size, K5, none⟩ = some (.int .i64 kv) := by
      rw [g5.cell_far ⟨w4.heap.size, K5, none⟩ (by simp) (by simp; omega), World.cell?_alloc_at _ _ _ _ rfl]; exact hkv
    clear r5 g5 c2 HP4 hkv
    have hj : K4 * 3 + 2 < L.length * 3 := by omega
    have y0 : w5.cell? ⟨g, K4 * 3 + 2, none⟩ = some (.int .i64 (L.getD K4 St.z).num) := by rw [(unhide HP5).own.cellAt _ hj]; exact (stFlat_at L K4 hK4).2.2
    have f0 : w5.frozen? ⟨g, K4 * 3 + 2, none⟩ = false := (unhide HP5).own.frozenAt _
    obtain ⟨L', hL', hP6⟩ := (unhide HP5).stored hBl kv hj
    have HP6 := hide hP6
    have HL' := hide hL'
    clear hP6 HP5 hL'
    go_wp2_with fail
    go_ret
    exact ⟨_, L', _, rfl, by rw [unhide HL']; have := (unhide HP6).own; rwa [unhide HL'] at this, by have := unhide HL'; omega, (unhide HP6).rd, by omega, (unhide HP6).grown⟩
  · go_wp2_with fail
    go_loopw [3] (fun r wr => ∃ (g cap : Nat) (L' : List St) (q : Nat), r = .slice (some ⟨g, 0, none⟩) L'.length cap ∧ Pk w wr B q (.slice (some ⟨g, 0, none⟩) L'.length cap) L' ∧ 1 ≤ L'.length ∧ L'.length ≤ 7 ∧ q ≤ p2 + 1 + 2 * L'.length) (fun r _ => 8 - slLen r)
    case atStart => exact ⟨g, cap, L, p2 + 1, rfl, unhide HP3, hL1, by omega, by omega⟩
    case round =>
      obtain ⟨g', cap', L', q, rfl, hpk, hl1, hl7, hq⟩ := hrel
      have HPK := hide hpk
      clear hpk
      have hlJ : (L'.length : Int) ≤ 7 := by omega
      go_wp2_with fail
      refine (pick_any B q 2 _ (unhide HPK).rd (by omega) (by omega)).mono ?_; rintro e w4 ⟨k4, rfl, b1, b2, r4, g4, -⟩
      have b2' := b2 (by omega)
      have HP4 : Hid (Pk w w4 B (q + 1) (.slice (some ⟨g', 0, none⟩) L'.length cap') L') := Pk.pick (unhide HPK) g4 r4 hBl
      clear r4 g4 b2 HPK
      by_cases hlt : (L'.length : Int) < 6 + k4
      · go_wp2_with fail
        refine (pick_any B (q + 1) 8 _ (unhide HP4).rd (by omega) (by omega)).mono ?_; rintro e w5 ⟨k5, rfl, c1, c2, r5, g5, -⟩
        have HP5 : Hid (Pk w w5 B (q + 1 + 1) (.slice (some ⟨g', 0, none⟩) L'.length cap') L') := Pk.pick (unhide HP4) g5 r5 hBl
        have z5 := (unhide HP5).grown.size
        clear r5 g5 c2 HP4
        go_wp2_with (at_builtin; refine wpList_append_lies _ rfl _ _ 23 rfl w.heap.size 45 i0 (.agg #[.int .i64 0, .int .i64 0, .int .i64 0]) 3 24 Tryd.underlying23 hi hz0 hz1 hz2 rfl (by decide) _ L'.length _ rfl ((unhide HP5).own.alloc _) ⟨w5.heap.size, 0, none⟩ 1 1 [.int .i64 1, .int .i64 k5, .int .i64 0] rfl rfl (World.news_of_block (heap_alloc_new _ _)) (by simp [Value.oneCell']) (by decide) (by unfold maxLen; omega) (by omega) (by simp; omega) (w5.heap.size + 1) (by simp) ?_; intro ga cp w9 hown2 hgrow hat hlt2)
        have hlow : ∀ x, Value.ownBlock (.slice (some ⟨g', 0, none⟩) L'.length cap') = some x → w.heap.size ≤ x := fun x hx => ((unhide HP5).own.lt x hx).1
        have hr9 : Rd w9 B (q + 1 + 1) := ((unhide HP5).rd.kept ((Below.refl _ _).alloc (Nat.le_refl _) _)).far hgrow (fun y hy e => by have := hlow y e.symm; omega)
        have hg9 : w.grownBy w9 (some B) := grownBy_own (grownBy_alloc (unhide HP5).grown _) hgrow hlow
        go_roundw
        case rel =>
          have hL2 : (L' ++ [(⟨1, k5, 0⟩ : St)]).length = L'.length + 1 := by simp
          refine ⟨ga, cp, L' ++ [⟨1, k5, 0⟩], q + 1 + 1, by rw [hL2], ⟨?_, hr9, hg9⟩, by omega, by omega, by omega⟩
          rw [stFlat_append, hL2]; exact hown2
        case measure => simp [slLen]; omega
      · go_wp2_with fail
        go_ret
        exact ⟨_, L', _, rfl, (unhide HP4).own, by omega, (unhide HP4).rd, by omega, (unhide HP4).grown⟩
  · go_wp2_with fail
    go_ret
    refine ⟨_, [], _, rfl, World.ownsRow_made w3 #[] 0 z3 (by simp [maxLen]) (by simp), by simp, (unhide HP3).rd.allocK, by omega, grownBy_alloc (unhide HP3).grown _⟩
  · have e0 : (k == 0) = false := by rw [beq_eq_false_iff_ne]; omega
    have e1 : (k == 1) = false := by rw [beq_eq_false_iff_ne]; omega
    have e2 : (k == 2) = false := by rw [beq_eq_false_iff_ne]; omega
    have e3 : (k == 3) = false := by rw [beq_eq_false_iff_ne]; omega
    have e4 : (k == 4) = false := by rw [beq_eq_false_iff_ne]; omega
    go_wp2_with fail
    go_ret
    exact ⟨_, L, _, rfl, (unhide HP3).own, by omega, (unhide HP3).rd, by omega, (unhide HP3).grown⟩

end Go.Proofs.YtmikdkdgpomiaaaDoor

namespace Go.Proofs.YtmikdkdgpomiaaaDoor
open Go.RowKit

theorem wrL_len (D : List St) : (wrL D).length ≤ 120 := by
  unfold wrL
  split
  · rename_i h
    have h1 := writeL_len (dealOk_all h)
    have h2 := dealOk_num h
    omega
  · simp

set_option maxRecDepth 100000 in
set_option maxHeartbeats 1000000 in
theorem ofStr_any (B p b n cap : Nat) (w : World) (hr : Rd w B p) (hp : p ≤ 900000) (h1 : 1 ≤ n) (h2 : n ≤ 20) (hbB : B < b)
    (hcs : ∀ i, i < n → ∃ s : ByteArray, w.cell? ⟨b, i, none⟩ = some (.string s) ∧ s.size ≤ 20) :
    Calls Tryd.prog 34 #[.pointer (some ⟨B, 0, none⟩), .slice (some ⟨b, 0, none⟩) n cap] w fun e w' => ∃ s : ByteArray, e = .returned (.string s) ∧ s.size ≤ 20 ∧ Rd w' B (p + 1) ∧ w.grownBy w' (some B) := by
  have HR := hide hr
  have HCS := hide hcs
  clear hr hcs
  go_enter Tryd.func34, Tryd.ntmps34
  go_wp2_with fail
  refine (pick_any B p n _ (unhide HR) (by omega) (by omega)).mono ?_; rintro e w1 ⟨k, rfl, a1, a2, r1, g1, -⟩
  have a2' := a2 (by omega)
  obtain ⟨K, rfl⟩ := Int.eq_ofNat_of_zero_le a1
  have hK : K < n := by omega
  obtain ⟨s, c0, hs⟩ := unhide HCS K hK
  have c1 : w1.cell? ⟨b, K, none⟩ = some (.string s) := by
    rw [g1.cell_far ⟨b, K, none⟩ (by show b < _; exact lt_of_cell c0) (by simp; omega)]; exact c0
  have HR1 := hide r1
  have HG1 := hide g1
  clear r1 g1 c0 a2
  go_wp2_with fail
  go_ret
  exact ⟨s, rfl, hs, unhide HR1, unhide HG1⟩

set_option maxRecDepth 100000 in
set_option maxHeartbeats 4000000 in
theorem bend_any (B p : Nat) (s : ByteArray) (w : World) (hr : Rd w B p) (hp : p ≤ 800000) (hs : s.size ≤ 200) :
    Calls Tryd.prog 35 #[.pointer (some ⟨B, 0, none⟩), .string s] w fun e w' => ∃ s' : ByteArray, e = .returned (.string s') ∧ s'.size ≤ 1000 ∧ w.grownBy w' (some B) := by
  have HR := hide hr
  have hBl := hr.lt
  clear hr
  by_cases h0 : s.size = 0
  · have h0' : (s.size : Int) = 0 := by omega
    go_enter Tryd.func35, Tryd.ntmps35
    go_wp2_with fail
    go_ret
    exact ⟨s, rfl, by omega, grownBy_refl _ _⟩
  have h0' : ¬ (s.size : Int) = 0 := by omega
  have h0b : ((s.size : Int) == 0) = false := by simpa using h0'
  go_enter Tryd.func35, Tryd.ntmps35
  go_wp2_with fail
  refine (pick_any B p 2 _ (unhide HR) (by omega) (by omega)).mono ?_; rintro e w1 ⟨k1, rfl, -, -, r1, g1, -⟩
  have HR1 := hide r1
  have HG1 := hide g1
  have z1 := r1.lt
  clear r1 g1 HR
  by_cases hk1 : k1 = 0
  · subst hk1
    go_wp2_with fail
    go_ret
    exact ⟨s, rfl, by omega, unhide HG1⟩
  have hk1b : (k1 == 0) = false := by simpa using hk1
  clear hk1
  go_wp2_with fail
  refine (pick_any B (p + 1) s.size _ (unhide HR1) (by omega) (by omega)).mono ?_; rintro e w2 ⟨k2, rfl, a1, a2, r2, g2, -⟩
  have a2' := a2 (by omega)
  obtain ⟨K, rfl⟩ := Int.eq_ofNat_of_zero_le a1
  have HR2 := hide r2
  have HG2 : Hid (w.grownBy w2 (some B)) := grownBy_trans (unhide HG1) g2
  have z2 := r2.lt
  clear r2 g2 a2 HR1 HG1
  go_wp2_with fail
  refine (pick_any B (p + 1 + 1) 5 _ (unhide HR2) (by omega) (by omega)).mono ?_; rintro e w3 ⟨k3, rfl, a3, a4, r3, g3, -⟩
  have HR3 := hide r3
  have HG3 : Hid (w.grownBy w3 (some B)) := grownBy_trans (unhide HG2) g3
  have z3 := r3.lt
  clear r3 g3 a4 HR2 HG2
  have hKs : K < s.size := by omega
  have hK0 : (0 : Int) ≤ (K : Int) := by omega
  have hKu : (K : Int) ≤ 200 := by omega
  have hKl : K ≤ s.size := by omega
  have hKl1 : K + 1 ≤ s.size := by omega
  have hKi : (K : Int) + 1 ≤ (s.size : Int) := by omega
  have hKw : IntKind.i64.wrap ((K : Int) + 1) = (K : Int) + 1 := by rw [IntKind.wrap_i64]; omega
  have hx1 : (s.extract 0 K).size ≤ 200 := by simp [ByteArray.size_extract]; omega
  have hx2 : (s.extract (K + 1) s.size).size ≤ 200 := by simp [ByteArray.size_extract]; omega
  have hx3 : (s.extract K s.size).size ≤ 200 := by simp [ByteArray.size_extract]; omega
  rcases (by omega : k3 = 0 ∨ k3 = 1 ∨ k3 = 2 ∨ k3 = 3 ∨ (4 ≤ k3)) with rfl | rfl | rfl | rfl | hk4
  · go_wp2_with fail
    go_region
    all_goals go_wp2_with fail
    all_goals go_ret
    all_goals exact ⟨_, rfl, by simp only [ByteArray.size_append, ByteArray.size_extract]; omega, by with_reducible (repeat (first | exact unhide HG3 | apply grownBy_drew))⟩
  · go_wp2_with fail
    go_region_with (first | (go_at_call 34; refine (ofStr_any B (p + 1 + 1 + 1) w3.heap.size 6 6 _ (unhide HR3).drewK.allocK (by omega) (by omega) (by omega) (by omega) (fun i hi => by rw [World.cell?_alloc_at _ _ _ _ (by simp)]; rcases (by omega : i = 0 ∨ i = 1 ∨ i = 2 ∨ i = 3 ∨ i = 4 ∨ i = 5) with rfl | rfl | rfl | rfl | rfl | rfl <;> exact ⟨_, rfl, by decide⟩)).mono ?_; rintro e w4 ⟨x, rfl, hx, r4, g4⟩))
    all_goals go_wp2_with fail
    all_goals go_ret
    all_goals exact ⟨_, rfl, by simp only [ByteArray.size_append, ByteArray.size_extract]; omega, grownBy_trans (grownBy_trans (grownBy_drew (unhide HG3)) (World.grownBy_alloc _ _ _)) g4⟩
  · go_wp2_with fail
    go_region_with (first | (go_at_call 34; refine (ofStr_any B (p + 1 + 1 + 1) w3.heap.size 4 4 _ (unhide HR3).drewK.allocK (by omega) (by omega) (by omega) (by omega) (fun i hi => by rw [World.cell?_alloc_at _ _ _ _ (by simp)]; rcases (by omega : i = 0 ∨ i = 1 ∨ i = 2 ∨ i = 3) with rfl | rfl | rfl | rfl <;> exact ⟨_, rfl, by decide⟩)).mono ?_; rintro e w4 ⟨x, rfl, hx, r4, g4⟩))
    all_goals go_wp2_with fail
    all_goals go_ret
    all_goals exact ⟨_, rfl, by simp only [ByteArray.size_append, ByteArray.size_extract]; omega, grownBy_trans (grownBy_trans (grownBy_drew (unhide HG3)) (World.grownBy_alloc _ _ _)) g4⟩
  · go_wp2_with fail
    go_ret
    exact ⟨_, rfl, by simp only [ByteArray.size_append]; omega, unhide HG3⟩
  · have e0 : (k3 == 0) = false := by simp; omega
    have e1 : (k3 == 1) = false := by simp; omega
    have e2 : (k3 == 2) = false := by simp; omega
    have e3 : (k3 == 3) = false := by simp; omega
    clear a3 hk4
    go_wp2_with fail
    go_ret
    exact ⟨_, rfl, by simp only [ByteArray.size_extract]; omega, unhide HG3⟩

end Go.Proofs.YtmikdkdgpomiaaaDoor

namespace Go.Proofs.YtmikdkdgpomiaaaDoor
open Go.RowKit

/-- The marks from k on. -/
def smarks (k : Int) (n : Nat) : List St := (List.range n).map fun (i : Nat) => ⟨k + 3 * (i : Int), k + 3 * (i : Int) + 1, k + 3 * (i : Int) + 1 + 1⟩
theorem smarks_at (k : Int) (n i : Nat) (h : i < n) : (smarks k n).getD i St.z = ⟨k + 3 * (i : Int), k + 3 * (i : Int) + 1, k + 3 * (i : Int) + 1 + 1⟩ := by simp [smarks, List.getD, h]
/-- Marks lie in it. -/
def MarkedS (w : World) (v : Value) (n : Nat) (k : Int) : Prop := ∃ a cap, v = .slice a n cap ∧ (n = 0 ∨ ∃ g, a = some ⟨g, 0, none⟩ ∧ StCells w g 0 n (smarks k n))
theorem MarkedS.kept {w w' : World} {v : Value} {n : Nat} {k : Int} (h : MarkedS w v n k) (hb : Below w.heap.size w w') : MarkedS w' v n k := by
  obtain ⟨a, cap, hv, h1⟩ := h
  refine ⟨a, cap, hv, ?_⟩
  rcases h1 with h1 | ⟨g, ha, hc⟩
  · exact .inl h1
  · exact .inr ⟨g, ha, hc.kept hb⟩

set_option maxRecDepth 100000 in
set_option maxHeartbeats 2000000 in
theorem markSts_own (g n cap : Nat) (k : Int) (w : World) (hn : n ≤ 1048576) (hk : 0 ≤ k) (hk' : k ≤ 100000000) (hr : Room w g (n * 3)) :
    Calls Tryd.prog 17 #[.slice (some ⟨g, 0, none⟩) n cap, .int .i64 k] w fun e w' => e = .returned (.int .i64 (k + 3 * (n : Int))) ∧ w.grownBy w' (some g) ∧ StCells w' g 0 n (smarks k n) ∧ Room w' g (n * 3) := by
  go_enter Tryd.func17, Tryd.ntmps17
  go_wp2
  go_loopw [1, 5] (fun q i wr => ∃ j : Nat, j ≤ n ∧ i = .int .i64 j ∧ q = .int .i64 (k + 3 * (j : Int)) ∧ w.grownBy wr (some g) ∧ Room wr g (n * 3) ∧ StCells wr g 0 j (smarks k n)) (fun _ i _ => n - (intOf i).toNat)
  case atStart => exact ⟨0, Nat.zero_le _, rfl, by simp, grownBy_refl _ _, hr, fun i hi => absurd hi (Nat.not_lt_zero _)⟩
  case round =>
    obtain ⟨j, hj, rfl, rfl, hg, hroom, hcs⟩ := hrel
    by_cases hlt : j < n
    · obtain ⟨⟨u0, r0⟩, f0⟩ := hroom (j * 3) (by omega)
      obtain ⟨⟨u1, r1⟩, f1⟩ := hroom (j * 3 + 1) (by omega)
      obtain ⟨⟨u2, r2⟩, f2⟩ := hroom (j * 3 + 2) (by omega)
      have HG := hide hg
      have HRM := hide hroom
      have HCS := hide hcs
      have HKM := hide (smarks_at k n j hlt)
      clear hg hroom hcs hr
      have s1 : ∀ u, (wr.setCell ⟨g, j * 3, none⟩ u).cell? ⟨g, j * 3 + 1, none⟩ = some u1 := fun u => by rw [cell_set_far (by omega)]; exact r1
      have s2 : ∀ u v, ((wr.setCell ⟨g, j * 3, none⟩ u).setCell ⟨g, j * 3 + 1, none⟩ v).cell? ⟨g, j * 3 + 2, none⟩ = some u2 := fun u v => by rw [cell_set_far (by omega), cell_set_far (by omega)]; exact r2
      go_wp2
      go_roundw
      case rel =>
        refine ⟨j + 1, hlt, by go_num, by go_num, grownBy_set (grownBy_set (grownBy_set (unhide HG) _ _) _ _) _ _, (((unhide HRM).set _ _).set _ _).set _ _, ?_⟩
        have := (unhide HCS).push (unhide HRM) (by omega) (unhide HKM)
        simpa using this
      case measure => simp [intOf]; omega
    · go_wp2
      go_ret
      obtain rfl : j = n := by omega
      exact ⟨rfl, hg, hcs, hroom⟩

set_option maxHeartbeats 1000000 in
theorem markSts_nil (k : Int) (w : World) :
    Calls Tryd.prog 17 #[.slice none 0 0, .int .i64 k] w fun e w' => e = .returned (.int .i64 k) ∧ w' = w := by
  go_enter Tryd.func17, Tryd.ntmps17
  go_wp2
  refine wp_loop_rounds 1 ?_
  rw [rounds_succ]
  go_wp2
  go_ret
  exact ⟨rfl, rfl⟩

theorem markSts_any (v : Value) (n lo : Nat) (k : Int) (w : World) (hn : n ≤ 1048576) (hk : 0 ≤ k) (hk' : k ≤ 100000000) (h : OwnK w v n lo 3) :
    Calls Tryd.prog 17 #[v, .int .i64 k] w fun e w' => e = .returned (.int .i64 (k + 3 * (n : Int))) ∧ w.grownBy w' v.ownBlock ∧ MarkedS w' v n k := by
  rcases h with ⟨rfl, rfl⟩ | ⟨g, cap, rfl, hl, hlt, hr⟩
  · refine (markSts_nil k w).mono ?_
    rintro e w' ⟨rfl, rfl⟩
    exact ⟨ret_int (by simp), grownBy_refl _ _, ⟨none, 0, rfl, .inl rfl⟩⟩
  · refine (markSts_own g n cap k w hn hk hk' hr).mono ?_
    rintro e w' ⟨rfl, hg, hc, hr'⟩
    exact ⟨rfl, hg, ⟨_, _, rfl, .inr ⟨g, rfl, hc⟩⟩⟩

set_option maxRecDepth 100000 in
set_option maxHeartbeats 2000000 in
theorem heldSts_any (a : Option Addr) (n cap : Nat) (k : Int) (w : World) (hn : n ≤ 1048576) (hk : 0 ≤ k) (hk' : k ≤ 100000000) (hc : n = 0 ∨ ∃ g, a = some ⟨g, 0, none⟩ ∧ StCells w g 0 n (smarks k n)) :
    Calls Tryd.prog 18 #[.slice a n cap, .int .i64 k] w fun e w' => e = .returned (.int .i64 (k + 3 * (n : Int))) ∧ w' = w := by
  go_enter Tryd.func18, Tryd.ntmps18
  go_wp2
  go_loop [1, 5] (fun q i => ∃ j : Nat, j ≤ n ∧ i = .int .i64 j ∧ q = .int .i64 (k + 3 * (j : Int))) (fun _ i => n - (intOf i).toNat)
  case atStart => exact ⟨0, Nat.zero_le _, rfl, by simp⟩
  case round =>
    obtain ⟨j, hj, rfl, rfl⟩ := hrel
    by_cases hlt : j < n
    · obtain ⟨g, rfl, hcs⟩ : ∃ g, a = some ⟨g, 0, none⟩ ∧ StCells w g 0 n (smarks k n) := by
        rcases hc with hc | hc
        · omega
        · exact hc
      obtain ⟨c0, c1, c2⟩ := hcs j hlt
      rw [smarks_at k n j hlt] at c0 c1 c2
      simp only [Nat.zero_add] at c0 c1 c2
      clear hcs hc
      go_wp2
      go_round
      case rel => exact ⟨j + 1, hlt, by go_num, by go_num⟩
      case measure => simp [intOf]; omega
    · go_wp2
      go_ret
      obtain rfl : j = n := by omega
      exact ⟨rfl, rfl⟩

theorem heldSts_marked (v : Value) (n : Nat) (k : Int) (w : World) (hn : n ≤ 1048576) (hk : 0 ≤ k) (hk' : k ≤ 100000000) (h : MarkedS w v n k) :
    Calls Tryd.prog 18 #[v, .int .i64 k] w fun e w' => e = .returned (.int .i64 (k + 3 * (n : Int))) ∧ w' = w := by
  obtain ⟨a, cap, rfl, h1⟩ := h
  exact heldSts_any a n cap k w hn hk hk' h1

end Go.Proofs.YtmikdkdgpomiaaaDoor

namespace Go.Proofs.YtmikdkdgpomiaaaDoor
open Go.RowKit

/-- What DealRead answers, told by the deal and whether there is one. -/
theorem DRes.tell {e : Ending} {w : World} {base : Nat} {t : List UInt8} (h : DRes e w base t) :
    ∃ r, e = .returned (.tuple #[r, .bool (readL t).isSome]) ∧ w.ownsRow base 45 3 r ((readL t).getD []).length (((readL t).getD []).flatMap stE) := by
  rcases h with ⟨D, r, h1, h2, h3⟩ | ⟨r, h1, h2, h3⟩
  · rw [h1]; exact ⟨r, h2, h3⟩
  · rw [h1]; exact ⟨r, h2, h3⟩
theorem readD_len (t : List UInt8) : ((readL t).getD []).length ≤ 6 := by
  cases h : readL t with
  | none => simp
  | some D => exact (dealOk_num (readL_some h).2.1).2

set_option maxRecDepth 100000 in
set_option maxHeartbeats 4000000 in
theorem lawDealRead_any (t : List UInt8) (w : World) (hg : GW w) :
    Calls Tryd.prog 5 #[.string ⟨t.toArray⟩] w fun e w' => e = .returned (.bool true) ∧ Below w.heap.size w w' := by
  have hts : (⟨t.toArray⟩ : ByteArray).size = t.length := by simp [ByteArray.size]
  by_cases hl : 1048576 < t.length
  · have hl' : (1048576 : Int) < (t.length : Int) := by omega
    go_enter Tryd.func5, Tryd.ntmps5
    go_wp2_with fail
    go_ret
    exact ⟨rfl, Below.refl _ _⟩
  have hl' : ¬ (1048576 : Int) < (t.length : Int) := by omega
  have HG := hide hg
  have HSP := hide (fun ww => sRead_any t ww)
  have HIM := hide (fun ww h => iRead_any t ww h)
  have HEQ := hide (fun v u ww h h' => eqSts_any v u ((readL t).getD []) ((readL t).getD []) ww h h')
  rw [eqSts_self] at HEQ
  have hdl := readD_len t
  have HT := hide (fun e w base (h : DRes e w base t) => h.tell)
  have hbb : (((readL t).isSome) != ((readL t).isSome)) = false := by simp
  have hb2 : (((readL t).isSome) == ((readL t).isSome)) = true := by simp
  generalize (readL t).isSome = B at *
  generalize (readL t).getD [] = D at *
  generalize hn : D.length = n at *
  have HN := hide hn
  clear hg hn
  go_enter Tryd.func5, Tryd.ntmps5
  go_wp2_with fail
  refine (unhide HSP _).mono ?_; rintro e w1 ⟨hR1, hb1⟩
  obtain ⟨r1, rfl, o1⟩ := unhide HT _ _ _ hR1
  have HB1 := hide hb1
  have HS1 := hide (sts_of_row (RowAt.of_own (by rw [unhide HN]; exact o1)))
  have HL1 := hide (ownsRow_low o1)
  obtain ⟨a1, c1, rfl, -⟩ := ownsRow_slice o1
  clear hb1 hR1 o1
  go_wp2_with fail
  refine (unhide HIM _ ((unhide HG).kept (unhide HB1))).mono ?_; rintro e w2 ⟨hR2, hb2'⟩
  obtain ⟨r2, rfl, o2⟩ := unhide HT _ _ _ hR2
  have HB2 := hide ((unhide HB1).trans (hb2'.mono (unhide HB1).size))
  have HS2 := hide (sts_of_row (RowAt.of_own (by rw [unhide HN]; exact o2)))
  have HO2 := hide (OwnK.of_own o2)
  have HL2 := hide (ownsRow_low o2)
  obtain ⟨a2, c2, rfl, -⟩ := ownsRow_slice o2
  have HS12 := hide ((unhide HS1).kept hb2')
  clear hb2' hR2 o2
  go_wp2_with fail
  refine (unhide HEQ _ _ _ (unhide HS2) (unhide HS12)).mono ?_; rintro e w3 ⟨rfl, hb3⟩
  have HB3 := hide ((unhide HB2).trans (hb3.mono (unhide HB2).size))
  have HO3 := hide ((unhide HO2).kept hb3)
  have HS13 := hide ((unhide HS12).kept hb3)
  clear hb3
  go_wp2_with fail
  refine (markSts_any _ n w1.heap.size 1 _ (by omega) (by omega) (by omega) (unhide HO3)).mono ?_; rintro e w4 ⟨rfl, hg4, hm4⟩
  have HM4 := hide hm4
  have HB4 : Hid (Below w.heap.size w w4) := Below.grown (unhide HB3) hg4 (unhide HB3).size (fun q hq => by have := (unhide HL2 q hq).1; have := (unhide HB1).size; omega)
  have HS14 := hide ((unhide HS13).far hg4 (by
    rcases h : (Value.slice a1 n c1).ownBlock with _ | q
    · exact .inl rfl
    · refine .inr (fun e => ?_)
      have h1 := unhide HL1 q h
      have h2 := unhide HL2 q (by rw [← e])
      omega))
  clear hg4 hm4
  go_wp2_with fail
  refine (heldSts_marked _ n 1 _ (by omega) (by omega) (by omega) (unhide HM4)).mono ?_; rintro e w5 ⟨rfl, hw5⟩
  rw [hw5]
  clear hw5 w5
  go_wp2_with fail
  refine (unhide HIM _ ((unhide HG).kept (unhide HB4))).mono ?_; rintro e w6 ⟨hR6, hb6⟩
  obtain ⟨r6, rfl, o6⟩ := unhide HT _ _ _ hR6
  have HB6 := hide ((unhide HB4).trans (hb6.mono (unhide HB4).size))
  have HS6 := hide (sts_of_row (RowAt.of_own (by rw [unhide HN]; exact o6)))
  have HS16 := hide ((unhide HS14).kept hb6)
  have HM6 := hide ((unhide HM4).kept hb6)
  obtain ⟨a6, c6, rfl, -⟩ := ownsRow_slice o6
  clear hb6 hR6 o6
  go_wp2_with fail
  refine (unhide HEQ _ _ _ (unhide HS6) (unhide HS16)).mono ?_; rintro e w7 ⟨rfl, hb7⟩
  have HB7 := hide ((unhide HB6).trans (hb7.mono (unhide HB6).size))
  have HM7 := hide ((unhide HM6).kept hb7)
  clear hb7
  go_wp2_with fail
  refine (heldSts_marked _ n 1 _ (by omega) (by omega) (by omega) (unhide HM7)).mono ?_; rintro e w8 ⟨rfl, hw8⟩
  rw [hw8]
  clear hw8 w8
  go_wp2_with fail
  go_ret
  exact ⟨rfl, unhide HB7⟩

end Go.Proofs.YtmikdkdgpomiaaaDoor

namespace Go.Proofs.YtmikdkdgpomiaaaDoor
open Go.RowKit

set_option maxHeartbeats 1000000 in
theorem implDealOk_any (v : Value) (ss : List St) (w : World) (hv : StsAt w v ss) :
    Calls Tryd.prog 11 #[v] w fun e w' => e = .returned (.bool (dealOk ss)) ∧ Below w.heap.size w w' := by
  go_enter Tryd.func11, Tryd.ntmps11
  go_wp2_with (go_at_call 29; refine (stepsOf_any v ss _ hv).mono ?_; rintro e w' ⟨r, rfl, _, _, hb⟩)
  go_ret
  exact ⟨rfl, hb⟩

theorem StsAt.slice {w : World} {v : Value} {ss : List St} (h : StsAt w v ss) : ∃ a cap, v = .slice a ss.length cap ∧ ss.length ≤ maxLen := by
  obtain ⟨a, cap, hv, h1, h2, _⟩ := h
  exact ⟨a, cap, hv, Nat.le_trans h1 h2⟩

end Go.Proofs.YtmikdkdgpomiaaaDoor

namespace Go.Proofs.YtmikdkdgpomiaaaDoor
open Go.RowKit

theorem neq_stSelf (x : St) (ws : World) : (binOp .neq 45 (.agg #[.int .i64 x.op, .int .i64 x.key, .int .i64 x.num]) (.agg #[.int .i64 x.op, .int .i64 x.key, .int .i64 x.num])).run Tryd.prog ws = .ok (.bool false) ws := by
  rw [run_neq_struct, run_equalIn_agg _ 9999 _ _ _ (by kernel_rfl) (by kernel_rfl)]
  have hf : (Tryd.prog.fieldsOf 45).toList.map (fun f => (f.name == "_", f.type, f.offset)) = [(false, 3, 0), (false, 3, 1), (false, 3, 2)] := by kernel_rfl
  have hu := Tryd.underlying3
  generalize (Tryd.prog.fieldsOf 45).toList = fs at hf
  have hk : Tryd.prog.plainKey 3 = true := by kernel_rfl
  match fs, hf with
  | [], hf => simp at hf
  | [_], hf => simp at hf
  | [_, _], hf => simp at hf
  | _ :: _ :: _ :: _ :: _, hf => simp at hf
  | [f, g, h], hf =>
    simp only [List.map_cons, List.map_nil, List.cons.injEq, Prod.mk.injEq, beq_eq_false_iff_ne, and_true] at hf
    obtain ⟨⟨f1, f2, f3⟩, ⟨g1, g2, g3⟩, h1, h2, h3⟩ := hf
    have e1 : ∀ (a : Int) (wx : World), (Op.equalIn 9999 3 (.int .i64 a) (.int .i64 a)).run Tryd.prog wx = .ok true wx := fun a wx => by rw [run_equalIn_int wx 9998 _ .i64 .i64 a a hu]; simp
    simp only [Op.eqFields, f1, f2, f3, g1, g2, g3, h1, h2, h3, ne_eq, not_false_eq_true, if_true, Sem.run_bind]
    rw [run_part_plain _ hk (v := .int .i64 x.op) rfl, Result.andThen_ok, run_part_plain _ hk (v := .int .i64 x.op) rfl, Result.andThen_ok, e1, Result.andThen_ok]
    simp only [Bool.not_true, Bool.false_eq_true, if_false, Sem.run_bind]
    rw [run_part_plain _ hk (v := .int .i64 x.key) rfl, Result.andThen_ok, run_part_plain _ hk (v := .int .i64 x.key) rfl, Result.andThen_ok, e1, Result.andThen_ok]
    simp only [Bool.not_true, Bool.false_eq_true, if_false, Sem.run_bind]
    rw [run_part_plain _ hk (v := .int .i64 x.num) rfl, Result.andThen_ok, run_part_plain _ hk (v := .int .i64 x.num) rfl, Result.andThen_ok, e1, Result.andThen_ok]
    rfl

set_option maxHeartbeats 1000000 in
theorem loDeal_self (v u : Value) (xs : List St) (w : World) (hv : StsAt w v xs) (hu : StsAt w u xs) :
    Calls Tryd.prog 13 #[v, u] w fun e w' => e = .returned (.bool true) ∧ Below w.heap.size w w' := by
  obtain ⟨a, cap, rfl, h1, h2, h3⟩ := hv
  obtain ⟨a', cap', rfl, h1', h2', h3'⟩ := hu
  generalize hN : xs.length = N at *
  have HN := hide hN
  clear hN
  unfold maxLen at h2 h2'
  have hne : ((N : Int) != (N : Int)) = false := by simp
  go_enter Tryd.func13, Tryd.ntmps13
  go_wp2
  go_loopw [5] (fun i wr => ∃ k : Nat, k ≤ N ∧ i = .int .i64 k ∧ Below w.heap.size w wr) (fun i _ => N - (intOf i).toNat)
  case atStart => exact ⟨0, Nat.zero_le _, rfl, Below.refl _ _⟩
  case round =>
    obtain ⟨k, hk, rfl, hb⟩ := hrel
    by_cases hlt : k < N
    · obtain ⟨b, off, rfl, hc⟩ : ∃ b off, a = some ⟨b, off, none⟩ ∧ StCells w b off N xs := by
        rcases h3 with h3 | h3
        · have := unhide HN; subst h3; simp at this; omega
        · exact h3
      obtain ⟨b', off', rfl, hc'⟩ : ∃ b off, a' = some ⟨b, off, none⟩ ∧ StCells w b off N xs := by
        rcases h3' with h3 | h3
        · have := unhide HN; subst h3; simp at this; omega
        · exact h3
      obtain ⟨c0, c1, c2⟩ := (hc.kept hb) k hlt
      obtain ⟨d0, d1, d2⟩ := (hc'.kept hb) k hlt
      generalize xs.getD k St.z = x at *
      have hkI : (k : Int) < (N : Int) := by omega
      have hk0 : (0 : Int) ≤ (k : Int) := by omega
      have hxb := neq_stSelf x
      clear h3 h3' hc hc'
      go_wp2
      go_quiet (fail)
      go_wp2
      go_roundw
      case rel => exact ⟨k + 1, hlt, by go_num, below_drewN hb _⟩
      case measure => simp [intOf]; omega
    · go_wp2
      go_ret
      exact ⟨rfl, hb⟩

end Go.Proofs.YtmikdkdgpomiaaaDoor

namespace Go.Proofs.YtmikdkdgpomiaaaDoor
open Go.RowKit

set_option maxRecDepth 100000 in
set_option maxHeartbeats 2000000 in
theorem drawRead_any (v : Value) (n : Nat) (w : World) (hv : BytesAt w v n) :
    Calls Tryd.prog 14 #[v] w fun e w' => ∃ s : ByteArray, e = .returned (.string s) ∧ s.size ≤ 1000 ∧ Below w.heap.size w w' := by
  have HSW := hide (fun v ss ww h => sWrite_any v ss ww h)
  go_enter Tryd.func14, Tryd.ntmps14
  go_wp2_with fail
  refine (open_any v n w hv).mono ?_; rintro e w1 ⟨rfl, hr1, h1, hs1⟩
  clear hv
  have HB1 := hide h1
  clear h1
  go_wp2_with fail
  refine (pick_any w.heap.size 0 16 w1 hr1 (by omega) (by omega)).mono ?_; rintro e w2 ⟨k, rfl, a1, -, r2, g2, -⟩
  have HG2 := hide g2
  have HR2 := hide r2
  have z2 := r2.lt
  clear hr1 r2 g2
  have HEND : Hid (∀ ww, w1.grownBy ww (some w.heap.size) → Below w.heap.size w ww) := fun ww h => (unhide HB1).grown h (by omega) (fun k hk => by simp at hk; omega)
  by_cases hk : k = 0
  · subst hk
    go_wp2_with fail
    refine (ofStr_any w.heap.size (0 + 1) w2.heap.size 14 14 _ (unhide HR2).allocK (by omega) (by omega) (by omega) (by omega) (fun i hi => by rw [World.cell?_alloc_at _ _ _ _ rfl]; rcases (by omega : i = 0 ∨ i = 1 ∨ i = 2 ∨ i = 3 ∨ i = 4 ∨ i = 5 ∨ i = 6 ∨ i = 7 ∨ i = 8 ∨ i = 9 ∨ i = 10 ∨ i = 11 ∨ i = 12 ∨ i = 13) with rfl | rfl | rfl | rfl | rfl | rfl | rfl | rfl | rfl | rfl | rfl | rfl | rfl | rfl <;> exact ⟨_, rfl, by decide⟩)).mono ?_; rintro e w3 ⟨s, rfl, hs, -, g3⟩
    go_wp2_with fail
    go_ret
    exact ⟨s, rfl, by omega, unhide HEND _ (grownBy_trans (grownBy_trans (unhide HG2) (World.grownBy_alloc _ _ _)) g3)⟩
  · have hkb : (k == 0) = false := by simpa using hk
    clear hk
    go_wp2_with fail
    refine (drawDeal_any w.heap.size (0 + 1) w2 (unhide HR2) (by omega)).mono ?_; rintro e w3 ⟨r, ss, p3, rfl, ho3, hl3, hr3, hp3, g3⟩
    obtain ⟨hx3, -⟩ := owned_sts ho3
    have HG3 : Hid (w1.grownBy w3 (some w.heap.size)) := grownBy_trans (unhide HG2) g3
    have HR3 := hide hr3
    have HX3 := hide hx3
    clear ho3 hr3 g3 hx3
    go_wp2_with fail
    refine (unhide HSW _ ss _ (unhide HX3)).mono ?_; rintro e w4 ⟨rfl, b4⟩
    have HG4 : Hid (w1.grownBy w4 (some w.heap.size)) := grownBy_below (unhide HG3) b4
    have HR4 := hide ((unhide HR3).kept b4)
    have hwl := wrL_len ss
    clear b4
    generalize wrL ss = L at *
    go_wp2_with fail
    refine (bend_any w.heap.size p3 ⟨L.toArray⟩ w4 (unhide HR4) (by omega) (by simp [ByteArray.size]; omega)).mono ?_; rintro e w5 ⟨s, rfl, hs, g5⟩
    go_wp2_with fail
    go_ret
    exact ⟨s, rfl, hs, unhide HEND _ (grownBy_trans (unhide HG4) g5)⟩

theorem wrL_read {t : List UInt8} {D : List St} (h : readL t = some D) : dealOk D = true ∧ wrL D = t := by
  obtain ⟨-, h1, h2⟩ := readL_some h
  exact ⟨h1, by unfold wrL; rw [if_pos h1, h2]⟩

set_option maxRecDepth 100000 in
set_option maxHeartbeats 4000000 in
theorem lawDealStrict_any (v : Value) (n : Nat) (w : World) (hv : BytesAt w v n) (hg : GW w) :
    Calls Tryd.prog 4 #[v] w fun e w' => e = .returned (.bool true) ∧ Below w.heap.size w w' := by
  have HV := hide hv
  have HG := hide hg
  obtain ⟨a, cap, rfl, h1, h2, h3⟩ := hv
  unfold maxLen at h2
  clear h3 hg
  by_cases hn : 1048576 < (n : Int)
  · go_enter Tryd.func4, Tryd.ntmps4
    go_wp2_with fail
    go_ret
    exact ⟨rfl, Below.refl _ _⟩
  have HSP := hide (fun t ww => sRead_any t ww)
  have HIM := hide (fun t ww h => iRead_any t ww h)
  have HIW := hide (fun u D ww h h' => iWriteA_any u D ww h h')
  have HIO := hide (fun u D ww h => implDealOk_any u D ww h)
  have HLS := hide (fun u x D ww hu hx => loDeal_self u x D ww hu hx)
  have HDW := hide (drawRead_any _ n w (unhide HV))
  go_enter Tryd.func4, Tryd.ntmps4
  go_wp2_with fail
  refine (unhide HDW).mono ?_; rintro e w1 ⟨s, rfl, hs, b1⟩
  have HB1 := hide b1
  obtain ⟨⟨t⟩⟩ := s
  have HT := hide (fun e w base (h : DRes e w base t) => h.tell)
  have HRD : Hid (((readL t).isSome = false ∧ (readL t).getD [] = []) ∨ ((readL t).isSome = true ∧ dealOk ((readL t).getD []) = true ∧ wrL ((readL t).getD []) = t)) := by
    show _ ∨ _
    cases h : readL t with
    | none => exact .inl ⟨rfl, rfl⟩
    | some D => exact .inr ⟨rfl, (wrL_read h).1, (wrL_read h).2⟩
  have hbb : (((readL t).isSome) != ((readL t).isSome)) = false := by simp
  generalize (readL t).isSome = B at *
  generalize (readL t).getD [] = D at *
  generalize hm : D.length = m at *
  have HM := hide hm
  clear hm b1 HV h1 h2
  go_wp2_with fail
  refine (unhide HSP t _).mono ?_; rintro e w2 ⟨hR2, b2⟩
  obtain ⟨r2, rfl, o2⟩ := unhide HT _ _ _ hR2
  have HB2 := hide ((unhide HB1).trans (b2.mono (unhide HB1).size))
  have HS2 := hide (sts_of_row (RowAt.of_own (by rw [unhide HM]; exact o2)))
  obtain ⟨a2, c2, rfl, -⟩ := ownsRow_slice o2
  clear b2 hR2 o2
  go_wp2_with fail
  refine (unhide HIM t _ ((unhide HG).kept (unhide HB2))).mono ?_; rintro e w3 ⟨hR3, b3⟩
  obtain ⟨r3, rfl, o3⟩ := unhide HT _ _ _ hR3
  have HB3 := hide ((unhide HB2).trans (b3.mono (unhide HB2).size))
  have HS3 := hide (sts_of_row (RowAt.of_own (by rw [unhide HM]; exact o3)))
  have HS32 := hide ((unhide HS2).kept b3)
  obtain ⟨a3, c3, rfl, -⟩ := ownsRow_slice o3
  clear b3 hR3 o3
  go_wp2_with fail
  refine (unhide HLS _ _ D _ (unhide HS3) (unhide HS32)).mono ?_; rintro e w4 ⟨rfl, b4⟩
  have HB4 := hide ((unhide HB3).trans (b4.mono (unhide HB3).size))
  have HS4 := hide ((unhide HS3).kept b4)
  clear b4
  rcases unhide HRD with ⟨rfl, rfl⟩ | ⟨rfl, hO, hW⟩
  · obtain rfl : m = 0 := (unhide HM).symm
    go_wp2_with fail
    go_ret
    exact ⟨rfl, unhide HB4⟩
  · go_wp2_with fail
    refine (unhide HIO _ D _ (unhide HS4)).mono ?_; rintro e w5 ⟨rfl, b5⟩
    rw [hO]
    have HB5 := hide ((unhide HB4).trans (b5.mono (unhide HB4).size))
    have HS5 := hide ((unhide HS4).kept b5)
    have HW := hide hW
    clear b5 hO hW
    go_wp2_with fail
    refine (unhide HIW _ D _ (unhide HS5) ((unhide HG).kept (unhide HB5))).mono ?_; rintro e w6 ⟨rfl, b6⟩
    rw [unhide HW]
    have HB6 := hide ((unhide HB5).trans (b6.mono (unhide HB5).size))
    clear b6
    go_wp2_with fail
    go_ret
    exact ⟨ret_val (by simp), unhide HB6⟩

end Go.Proofs.YtmikdkdgpomiaaaDoor

namespace Go.Proofs.YtmikdkdgpomiaaaDoor
open Go.ChangeShapes Go.WideShapes Go.ChangeAt Go.RowKit Go.Deep

section
variable {H : Type} {enc : TypeId × Value → H} {P : Program} {w : World} {base : Nat} {spare : Nat → Bool} {held : Bool}

theorem open_bytes {t e : TypeId} {fuel : Nat} {a : Option Addr} {len cap : Nat} {x : DataW H × List MemPlace}
    (ht : P.underlying t = some (.slice e)) (he : P.underlying e = some (.int .u8)) (ce : P.cellsOf e = 1)
    (h : DataW.trod enc P w base spare held fuel t [.slice a len cap] = some x) : ∃ n, BytesAt w (.slice a len cap) n := by
  rcases open_ints ht he ce h with ⟨h0, _⟩ | ⟨ad, l, c, zs, h0, hb, hl, hm, hz, _, hc, hwf⟩
  · simp at h0
    obtain ⟨rfl, rfl, rfl⟩ := h0
    exact ⟨0, none, 0, rfl, by omega, by simp [maxLen], .inl rfl⟩
  · simp at h0
    obtain ⟨rfl, rfl, rfl⟩ := h0
    have hlm : len ≤ zs.length := by rw [hz]; split <;> omega
    refine ⟨len, some ad, cap, rfl, hl, hm, ?_⟩
    by_cases hl0 : len = 0
    · exact .inl hl0
    · right
      obtain ⟨b, off, spot⟩ := ad
      have hspot : spot = none := by
        have := World.cell?_spot (hc 0 (by omega))
        simpa [Addr.add] using this
      subst hspot
      refine ⟨b, off, rfl, fun i => zs.getD i 0, fun i hi => ?_⟩
      have h1 := hc i (by omega)
      rw [add_plain] at h1
      have hw := hwf (zs.getD i 0) (by
        have : zs.getD i 0 = zs[i]'(by omega) := by simp [List.getD, show i < zs.length by omega]
        rw [this]; exact List.getElem_mem _)
      refine ⟨h1, ?_⟩
      show 0 ≤ zs.getD i 0 ∧ zs.getD i 0 ≤ 255
      generalize zs.getD i 0 = z at hw
      simp only [Lit.wf, Bool.and_eq_true, decide_eq_true_eq] at hw
      have e1 : IntKind.u8.min = 0 := by decide
      have e2 : IntKind.u8.max = 255 := by decide
      rw [e1, e2] at hw
      exact hw

end
end Go.Proofs.YtmikdkdgpomiaaaDoor

namespace Go
open Go.RowKit
variable {H : Type} {enc : TypeId × Value → H}

theorem wrapKYtmikdkdgpomiaaaDoor {a : Assume} {C : Checked} {os : Os} {f : FuncId} {fn : Func} {s : ChangeSpec} {conds : List PathCond} {apart fresh handsOn again : Bool} {X : World → Array Value → Prop}
    (hX : ∀ (w w' : World) (args : Array Value), w.heap = w'.heap → X w args → X w' args)
    (own : ownKnob C.prog.godebug = none) (started : os.Started) (noInit : C.prog.inits.idxOf? f = none) (hfn : C.prog.funcs[f]? = some fn)
    (witness : ∃ (w : World) (tape : Tape) (i : Input), w.os = os ∧ (w.forCall tape i).Shaped C.prog ∧ i.vars = [] ∧ Input.okWide C.prog (w.forCall tape i) .any w.heap.size f i ∧
      ((s.pre enc C.prog fn conds apart (w.forCall tape i).memory i.args ∧ X (w.forCall tape i).memory i.args) ∧ sizedMet enc C.prog fn (OpenSpec.ofChange s) apart (w.forCall tape i).memory i.args) ∧ a.holds C.prog (lone (Frame.enter C.prog f i.args .normal) [] (w.forCall tape i)))
    (contract : ∀ (W : World) (base : Nat) (args : Array Value) (ds gs : List (DataW H)) (before : List MemPlace),
      (∀ (j : Nat) t v, fn.params[j]? = some t → args[j]? = some v → Value.okWide C.prog W .any base t v) →
      DataW.Whole enc C.prog fn.params.toList s.vars apart W args.toList ds gs before → X W args → W.ShapedOpen C.prog →
      Calls C.prog f args W fun e W' => ∃ v, e = .returned v ∧ s.post enc C.prog fn apart fresh handsOn again W args v W') :
    ReturnsInHanded a C os f .any (fun w args => (s.pre enc C.prog fn conds apart w args ∧ X w args) ∧ sizedMet enc C.prog fn (OpenSpec.ofChange s) apart w args) (s.post enc C.prog fn apart fresh handsOn again) := by
  refine returnsInHanded_of_calls own started noInit witness ?_
  intro w tape i _ hsh _ hok hpre _
  obtain ⟨_, _, _, fn', hfn', _, _, _, _, hval⟩ := hok
  obtain rfl := Option.some.inj (hfn'.symm.trans hfn)
  obtain ⟨⟨⟨ds, gs, before, hw, -⟩, hx⟩, -⟩ := hpre
  exact (contract (w.forCall tape i) w.heap.size i.args ds gs before hval (hw.of_heap (by rfl)) (hX _ _ _ (by rfl) hx) hsh).mono fun e W' ⟨v, he, hp⟩ => by
    subst he; exact ChangeSpec.post_blind hp

end Go
namespace Go.Proofs.YtmikdkdgpomiaaaDoor
open Go.RowKit

theorem Tryd.cellsU64 : Tryd.prog.cellsOf 133 = 1 := by kernel_rfl
theorem powData : (Rows.laid_internal_strconv_uint64pow10 : DataW Unit) = Lib.tabData .u64 Lib.pow10Tab := by kernel_rfl

theorem gw_of {W : World} (h : laidMetH Tryd.prog Rows.fnExactDealReadRow.laid W) (hs : W.ShapedOpen Tryd.prog) : GW W := by
  rw [MakeChecks.laidMetH_plain _ _ _ (by kernel_rfl)] at h
  obtain ⟨ps, ⟨g0, t0, cs0, f0, p0, q0, hg0, ht0, hv0, hd0, ⟨g1, t1, cs1, f1, p1, q1, hg1, ht1, hv1, hd1, ⟨g2, t2, cs2, f2, p2, q2, hg2, ht2, hv2, hd2, ⟨g3, t3, cs3, f3, p3, q3, hg3, ht3, hv3, hd3, ⟨g4, t4, cs4, f4, p4, q4, hg4, ht4, hv4, hd4, ⟨g5, t5, cs5, f5, p5, q5, hg5, ht5, hv5, hd5, _, _⟩, _⟩, _⟩, _⟩, _⟩, _⟩, _⟩ := h
  obtain rfl := Option.some.inj (Tryd.globPow.symm.trans hg2)
  obtain rfl := Option.some.inj ((show (Tryd.prog.globals[5]?).map (·.type) = some 158 by kernel_rfl).symm.trans ht2)
  obtain rfl := Option.some.inj ((show Tryd.prog.globalNamed "strconv.ErrRange" = some 2 by kernel_rfl).symm.trans hg4)
  obtain rfl := Option.some.inj ((show (Tryd.prog.globals[2]?).map (·.type) = some 59 by kernel_rfl).symm.trans ht4)
  obtain rfl := Option.some.inj ((show Tryd.prog.globalNamed "strconv.ErrSyntax" = some 1 by kernel_rfl).symm.trans hg5)
  obtain rfl := Option.some.inj ((show (Tryd.prog.globals[1]?).map (·.type) = some 59 by kernel_rfl).symm.trans ht5)
  obtain ⟨m, hm⟩ := cell_of_shapedOpen_int (P := Tryd.prog) (g := 0) (t := 3) (zero := #[.int .i64 0]) (k := .i64) hs (of_decide_eq_true (by kernel_rfl)) (by kernel_rfl) (by kernel_rfl) (by kernel_rfl) (by kernel_rfl) Tryd.underlying3
  refine ⟨⟨m, hm⟩, ?_, ?_, ?_⟩
  · obtain ⟨f', u, v, hcs, _, _⟩ := iface_of_trod (name := "*errors.errorString") Tryd.underlying59 hd5
    have := World.var?_cell hg5 hv5 0
    rw [Array.eq_one_of_toList hcs] at this
    exact ⟨u, v, by simpa using this⟩
  · obtain ⟨f', u, v, hcs, _, _⟩ := iface_of_trod (name := "*errors.errorString") Tryd.underlying59 hd4
    have := World.var?_cell hg4 hv4 0
    rw [Array.eq_one_of_toList hcs] at this
    exact ⟨u, v, by simpa using this⟩
  · rw [powData] at hd2
    unfold Lib.TabIs
    rw [hv2, ← Lib.cells_of_tab Tryd.underlying158 Tryd.underlying133 Tryd.cellsU64 (by kernel_rfl) hd2]

end Go.Proofs.YtmikdkdgpomiaaaDoor

namespace Go.Proofs.YtmikdkdgpomiaaaDoor
namespace PfDealStrict
open Go.ChangeShapes Go.WideShapes Go.ChangeAt Go.RowKit
open Go.ChangeMaps (open_string shut_string)
set_option linter.unusedVariables false

theorem own : ownKnob Tryd.prog.godebug = none := by kernel_rfl
theorem laidOut : laidOutB Tryd.prog = true := by kernel_rfl

set_option maxRecDepth 100000 in
theorem lifted (os : Os) (started : os.Started) (H : Type) (enc : TypeId × Value → H) :
    ReturnsInHanded {} Tryd.checked os 4 .any (fun w args => (Rows.fnDealStrictSpec.pre enc Tryd.prog Tryd.f4 Rows.fnDealStrictRow.domain false w args ∧ laidMetH Tryd.prog Rows.fnDealStrictRow.laid w) ∧ sizedMet enc Tryd.prog Tryd.f4 (OpenSpec.ofChange Rows.fnDealStrictSpec) false w args)
      (Rows.fnDealStrictSpec.post enc Tryd.prog Tryd.f4 false true false false) := by
  refine wrapKYtmikdkdgpomiaaaDoor (C := Tryd.checked) (X := fun w _ => laidMetH Tryd.prog Rows.fnDealStrictRow.laid w) (fun _ _ _ hh h => h.of_heap hh) own started (by kernel_rfl) Tryd.func4
    (ChangeSpec.witness_shaped (enc := enc) (C := Tryd.checked) (os := os) (X := fun w _ => laidMetH Tryd.prog Rows.fnDealStrictRow.laid w) false (World.laidAll Tryd.prog os Rows.fnDealStrictRow.laid) #[.slice none 0 0] 8 (World.laidAll_os _ _ _)
      (World.shaped_of_ZipB (by kernel_rfl) (by kernel_rfl)) (by kernel_rfl) (by kernel_rfl) (by kernel_rfl)
      (by rw [MakeChecks.laidMetH_plain _ _ _ (by kernel_rfl)]; exact laidMet_laidAll _ (by kernel_rfl) (by kernel_rfl))) ?_
  intro W base args ds gs before hval0 hW hL hsh
  have hval : ∀ (j : Nat) t v, Tryd.f4.params[j]? = some t → args[j]? = some v → Value.okWide Tryd.prog W .any base t v := hval0
  have hW' := hW
  obtain ⟨p, q, hA0, hV, rfl, hfz, hnd⟩ := hW
  have hA : DataW.TrodAll enc Tryd.prog W 0 (fun _ => true) true Tryd.f4.params.toList args.toList ds p := hA0
  rw [Tryd.params4] at hA hval
  obtain ⟨v0, d0, rfl, rfl, h0⟩ := trodAll_one hA
  obtain ⟨rfl, rfl⟩ := trodVars_none hV
  obtain ⟨a0, len0, cap0, rfl⟩ := okWide_slice Tryd.underlying22 (hval 0 22 v0 rfl rfl)
  have k0 := h0
  have lt0 : ∀ x ∈ p, x.block < W.heap.size := by obtain ⟨m, hm⟩ := k0; exact DataW.trod_lt m _ _ _ hm
  obtain ⟨x0, w0⟩ : ∃ ss, BytesAt W (.slice a0 len0 cap0) ss := by
    obtain ⟨fuel, hf⟩ := h0
    exact open_bytes Tryd.underlying22 Tryd.underlying5 (by kernel_rfl) (by simpa [Value.cells] using hf)
  have hgw := gw_of hL hsh
  clear hA0 hval0
  refine (lawDealStrict_any _ x0 W w0 hgw).mono fun e W' ⟨he, bel⟩ => ?_
  subst he
  exact ⟨_, rfl, _, _, _, [], _, [], hW', trodAll_mk1 (shut_bool Tryd.underlying4 _), trodAll_mk1 (Below.trod laidOut (by kernel_rfl) (of_decide_eq_true (by kernel_rfl)) k0 bel lt0), rfl, bel.frame _, fun h => by cases h⟩

theorem over : Rows.fnDealStrictRow.holds Tryd.pinned (OpenSpec.ofChange Rows.fnDealStrictSpec) :=
  OpenClaim.holds_of_wide 4 Tryd.f4 rfl rfl rfl rfl rfl rfl rfl ⟨rfl, rfl, rfl, rfl, rfl⟩ rfl rfl rfl rfl rfl (by kernel_rfl) Tryd.func4 (by kernel_rfl)
    (of_decide_eq_true (by kernel_rfl)) (by unfold Func.isWrapper; first | (rw [if_pos (by decide +kernel)]; kernel_rfl) | (rw [if_neg (by decide +kernel)]; exact ⟨rfl, rfl⟩))
    (fun os started H enc _ => lifted os started H enc)

end PfDealStrict

set_option maxRecDepth 100000 in
theorem fnDealStrict_holds : Rows.FnDealStrictCardSaid :=
  Claim7.holds_tied_plain_at .later [] [.data, .data, .data, .data, .sentinel, .sentinel, .pinned] true (true, "d084bd9d5f6110e8241ba7bb9b40b0f532f73d399b36352c075e2a3a22522ad6") true PfDealStrict.over (fun _ h => by cases h) (by kernel_rfl) (fun _ h => by cases h) fnDealStrict_row_tie rfl ⟨rfl, rfl⟩ (by kernel_rfl) rfl
    (fun f fn hf hfn => by
      obtain rfl : f = 4 := Option.some.inj ((show Tryd.prog.funcNamed "loop.example/turnpike/laws.FnDealStrict" = some 4 by kernel_rfl).symm.trans hf) |>.symm
      obtain rfl : fn = Tryd.f4 := (Option.some.inj (Tryd.func4.symm.trans hfn)).symm
      exact ⟨by kernel_rfl, fun j t ht => by
        rw [Tryd.params4] at ht
        have hm : t ∈ [22] := by simpa using Array.mem_of_getElem? ht
        have hall : ([22].all fun u => !Tryd.prog.wantsStandIn u) = true := by kernel_rfl
        exact (show Tryd.prog.wantsStandIn t = false by simpa using List.all_eq_true.1 hall t hm)⟩)
    (by kernel_rfl)
#print axioms fnDealStrict_holds
end Go.Proofs.YtmikdkdgpomiaaaDoor
