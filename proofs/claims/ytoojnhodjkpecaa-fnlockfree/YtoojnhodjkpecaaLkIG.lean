/- What stands against who asks; what is taken for it; how many there are. -/
import Derived.Test.YtoojnhodjkpecaaLkIF
import Derived.Deep.DeepCutAuto
import Derived.Laws.StructEq
import Derived.ChangeKeysEq
namespace Go.Proofs.Ytoojnhodjkpecaa
open Go.RowKit Go.Shelf

theorem eqHd_and (a b : Hd) : eqHd a b = (a.stamp == b.stamp && (a.try_ == b.try_ && (a.share == b.share && a.firm == b.firm))) := by
  obtain ⟨a1, a2, a3, a4⟩ := a
  obtain ⟨b1, b2, b3, b4⟩ := b
  rw [Bool.eq_iff_iff]
  simp [eqHd, Hd.tup]
theorem eq_hd (a b : Hd) : ∀ ws, (binOp .eql 27 (.agg #[.int .i64 a.stamp, .int .i64 a.try_, .bool a.share, .bool a.firm]) (.agg #[.int .i64 b.stamp, .int .i64 b.try_, .bool b.share, .bool b.firm])).run Try.prog ws = .ok (.bool (eqHd a b)) ws := by
  intro ws
  rw [eqHd_and]
  rw [run_eql_struct, run_equalIn_agg _ 9999 _ _ _ (by kernel_rfl) (by kernel_rfl)]
  have hf : (Try.prog.fieldsOf 27).toList.map (fun f => (f.name == "_", f.type, f.offset)) = [(false, 3, 0), (false, 3, 1), (false, 4, 2), (false, 4, 3)] := by kernel_rfl
  have hu := Try.underlying3
  have hb := Try.underlying4
  generalize (Try.prog.fieldsOf 27).toList = fs at hf
  have hk : Try.prog.plainKey 3 = true := by kernel_rfl
  have hkb : Try.prog.plainKey 4 = true := by kernel_rfl
  match fs, hf with
  | [], hf => simp at hf
  | [_], hf => simp at hf
  | [_, _], hf => simp at hf
  | [_, _, _], hf => simp at hf
  | _ :: _ :: _ :: _ :: _ :: _, hf => simp at hf
  | [f, g, h, k], hf =>
    simp only [List.map_cons, List.map_nil, List.cons.injEq, Prod.mk.injEq, beq_eq_false_iff_ne, and_true] at hf
    obtain ⟨⟨f1, f2, f3⟩, ⟨g1, g2, g3⟩, ⟨h1, h2, h3⟩, k1, k2, k3⟩ := hf
    have e1 : ∀ (a b : Int) (wx : World), (Op.equalIn 9999 3 (.int .i64 a) (.int .i64 b)).run Try.prog wx = .ok (a == b) wx := fun a b wx => run_equalIn_int wx 9998 _ .i64 .i64 a b hu
    have e2 : ∀ (a b : Bool) (wx : World), (Op.equalIn 9999 4 (.bool a) (.bool b)).run Try.prog wx = .ok (a == b) wx := fun a b wx => run_equalIn_bool' wx 9998 _ a b hb
    simp only [Op.eqFields, f1, f2, f3, g1, g2, g3, h1, h2, h3, k1, k2, k3, ne_eq, not_false_eq_true, if_true, Sem.run_bind]
    rw [run_part_plain _ hk (v := .int .i64 a.stamp) rfl, Result.andThen_ok, run_part_plain _ hk (v := .int .i64 b.stamp) rfl, Result.andThen_ok, e1, Result.andThen_ok]
    cases (a.stamp == b.stamp)
    · rfl
    · simp only [Bool.not_true, Bool.false_eq_true, if_false, Sem.run_bind]
      rw [run_part_plain _ hk (v := .int .i64 a.try_) rfl, Result.andThen_ok, run_part_plain _ hk (v := .int .i64 b.try_) rfl, Result.andThen_ok, e1, Result.andThen_ok]
      cases (a.try_ == b.try_)
      · rfl
      · simp only [Bool.not_true, Bool.false_eq_true, if_false, Sem.run_bind]
        rw [run_part_plain _ hkb (v := .bool a.share) rfl, Result.andThen_ok, run_part_plain _ hkb (v := .bool b.share) rfl, Result.andThen_ok, e2, Result.andThen_ok]
        cases (a.share == b.share)
        · rfl
        · simp only [Bool.not_true, Bool.false_eq_true, if_false, Sem.run_bind]
          rw [run_part_plain _ hkb (v := .bool a.firm) rfl, Result.andThen_ok, run_part_plain _ hkb (v := .bool b.firm) rfl, Result.andThen_ok, e2, Result.andThen_ok]
          cases (a.firm == b.firm) <;> rfl

theorem size_any (l : Lk) (a b : Value) (w : World) (hv : LkAt w l a b) (hn : l.held.length ≤ 1000) (hm : l.waits.length ≤ 1000) :
    Calls Try.prog 54 #[lkV l a b] w fun e w' => e = .returned (.int .i64 ((l.held.length : Int) + (l.waits.length : Int))) ∧ Below w.heap.size w w' := by
  obtain ⟨slot, H, W⟩ := l
  obtain ⟨ah, ch, rfl, -⟩ := hv.held.shape
  obtain ⟨aw, cw, rfl, -⟩ := hv.waits.shape
  simp only [lkV] at *
  clear hv
  go_enter Try.func54, Try.ntmps54
  go_wp2_with fail
  go_ret
  exact ⟨rfl, (Below.refl _ _).alloc (Nat.le_refl _) _⟩

theorem hasIdx_any (h : Hd) (v : Value) (hs : List Hd) (w : World) (hv : RowAt hdE w v hs) :
    Calls Try.prog 64 #[v, .func (.func 65) #[hdV h] #[]] w fun e w' => e = .returned (.int .i64 (idxL (sameB h) hs)) ∧ Below w.heap.size w w' :=
  indexFunc_any 65 _ (sameB h) (enters_of Try.func65 (by kernel_rfl) rfl) (fun x ww => sameStamp_any h x ww) v hs w hv

theorem partTakes_any (h : Hd) (v : Value) (hs : List Hd) (w : World) (hv : RowAt hdE w v hs) (hm : hs.length ≤ 1000) :
    Calls Try.prog 67 #[v, .func (.func 68) #[hdV h] #[]] w fun e w' => ∃ r1 r2, e = .returned (.tuple #[r1, r2]) ∧ w'.ownsRow w.heap.size 27 4 r1 (stayL (takesB h) hs).length ((stayL (takesB h) hs).flatMap hdE) ∧ w'.ownsRow w.heap.size 27 4 r2 (goneL (takesB h) hs).length ((goneL (takesB h) hs).flatMap hdE) ∧ (r1.ownBlock = none ∨ r1.ownBlock ≠ r2.ownBlock) ∧ Below w.heap.size w w' :=
  partedM_any 68 _ (takesB h) w (enters_of Try.func68 (by kernel_rfl) rfl) (fun x ww _ => takesFrom_any h x ww) v hs hv hm

set_option maxRecDepth 100000 in
set_option maxHeartbeats 2000000 in
theorem takeFor_any (g : Nat) (slot : Int) (H : List Hd) (a b : Value) (h : Hd) (w : World) (hbx : Bx w g 25 #[.int .i64 slot, a, b]) (ho : RowAt hdE w a H) (hn : H.length ≤ 1000) :
    Calls Try.prog 53 #[.pointer (some ⟨g, 0, none⟩), hdV h] w fun e w' => ∃ a' r, e = .returned r ∧ Bx w' g 25 #[.int .i64 slot, a', b] ∧ w'.ownsRow w.heap.size 27 4 a' (stayL (takesB h) H).length ((stayL (takesB h) H).flatMap hdE) ∧ w'.ownsRow w.heap.size 27 4 r (goneL (takesB h) H).length ((goneL (takesB h) H).flatMap hdE) ∧ (a'.ownBlock = none ∨ a'.ownBlock ≠ r.ownBlock) ∧ Fr w w' (fun k => k = g) := by
  obtain ⟨ah, ch, rfl, -⟩ := ho.shape
  have HPT := hide (fun ww hk => partTakes_any h (.slice ah H.length ch) H ww hk hn)
  obtain ⟨S, hS⟩ : ∃ S, S = stayL (takesB h) H := ⟨_, rfl⟩
  obtain ⟨G, hG⟩ : ∃ G, G = goneL (takesB h) H := ⟨_, rfl⟩
  rw [← hS, ← hG] at HPT ⊢
  clear hS hG
  obtain ⟨hs, ht, hsh, hf⟩ := h
  unfold hdV at *
  have bA : Below w.heap.size w (w.alloc (.cells #[.int .i64 hs, .int .i64 ht, .bool hsh, .bool hf] 27)) := (Below.refl _ _).alloc (Nat.le_refl _) _
  have HB0 := hide bA
  have HX0 := hide (hbx.kept bA)
  have HY0 := hide (Bx.made w 27 #[.int .i64 hs, .int .i64 ht, .bool hsh, .bool hf])
  have HO0 := hide (ho.kept bA)
  have lg := hbx.lt
  clear bA hbx ho
  obtain ⟨x0, hx0⟩ : ∃ x0, x0 = w.alloc (.cells #[.int .i64 hs, .int .i64 ht, .bool hsh, .bool hf] 27) := ⟨_, rfl⟩
  have HE := hide hx0
  rw [← hx0] at HB0 HX0 HY0 HO0
  clear hx0
  go_enter Try.func53, Try.ntmps53
  go_wp2_with fail
  rw [← unhide HE]
  obtain ⟨q0, q1, q2⟩ := (unhide HX0).three
  obtain ⟨r0, r1, r2, r3⟩ := (unhide HY0).four
  go_cut [5, 6] (fun u v wz => wz.ownsRow w.heap.size 27 4 u S.length (S.flatMap hdE) ∧ wz.ownsRow w.heap.size 27 4 v G.length (G.flatMap hdE) ∧ (u.ownBlock = none ∨ u.ownBlock ≠ v.ownBlock) ∧ Below x0.heap.size x0 wz)
  case first =>
    go_region_law ((go_simp; go_at_call 67; refine (unhide HPT x0.drew ((unhide HO0).drewK)).mono ?_; rintro e w8 ⟨u1, u2, rfl, ho1, ho2, hne, hb8⟩; have HO1 := hide ho1; have HO2 := hide ho2; have HN := hide hne; have HB8 := hide hb8; clear ho1 ho2 hne hb8; obtain ⟨ua, uc, rfl, -⟩ := ownsRow_slice (unhide HO1); obtain ⟨va, vc, rfl, -⟩ := ownsRow_slice (unhide HO2)))
    all_goals
      go_wp2_with fail
      go_meet
      case rel => exact ⟨ownsRow_base (unhide HO1) (unhide HB0).size, ownsRow_base (unhide HO2) (unhide HB0).size, unhide HN, ((Below.refl _ _).drew).trans (unhide HB8)⟩
  case rest =>
    rename World => wz
    obtain ⟨ho1, ho2, hne, hbz⟩ := hcut
    obtain ⟨ua, uc, rfl, -⟩ := ownsRow_slice ho1
    obtain ⟨va, vc, rfl, -⟩ := ownsRow_slice ho2
    have HO1 := hide ho1
    have HO2 := hide ho2
    have HN := hide hne
    have HX8 := hide ((unhide HX0).kept hbz)
    have HBZ := hide ((unhide HB0).trans (hbz.mono (unhide HB0).size))
    clear ho1 ho2 hne hbz q0 q1 q2 r0 r1 r2 r3
    obtain ⟨q0, q1, q2⟩ := (unhide HX8).three
    obtain ⟨f0, f1, f2⟩ := (unhide HX8).free3
    go_wp2_with fail
    go_ret
    refine ⟨.slice ua S.length uc, .slice va G.length vc, rfl, by simpa using (unhide HX8).setC 1 (.slice ua S.length uc), ownsRow_setCell_other (unhide HO1) (fun e => by have := ((unhide HO1).lt _ e).1; omega), ownsRow_setCell_other (unhide HO2) (fun e => by have := ((unhide HO2).lt _ e).1; omega), unhide HN, (fr_below (unhide HBZ) _).set _ _ _ (fun _ => rfl)⟩

theorem rb {a b : Bool} (h : a = b) : Value.bool a = Value.bool b := by rw [h]
theorem idxL_cases (p : Hd → Bool) (hs : List Hd) : (idxL p hs = -1 ∧ ∀ j, j < hs.length → p (hs.getD j Hd.z) = false) ∨ ∃ k : Nat, k < hs.length ∧ idxL p hs = k ∧ p (hs.getD k Hd.z) = true ∧ ∀ j, j < k → p (hs.getD j Hd.z) = false := by
  unfold idxL
  cases h : hs.findIdx? p with
  | none =>
    left
    refine ⟨rfl, fun j hj => ?_⟩
    rw [List.findIdx?_eq_none_iff] at h
    have := h (hs[j]) (List.getElem_mem hj)
    simpa [List.getD, hj] using this
  | some i =>
    right
    rw [List.findIdx?_eq_some_iff_getElem] at h
    obtain ⟨hi, hp, hn⟩ := h
    refine ⟨i, hi, rfl, by simpa [List.getD, hi] using hp, fun j hj => ?_⟩
    have := hn j hj
    simpa [List.getD, show j < hs.length by omega] using this

/-- What stands against who asks, and whether that is just what is asked for. -/
def standsB (l : Lk) (h : Hd) : Bool :=
  if 0 ≤ idxL (sameB h) l.held then (l.held.getD (idxL (sameB h) l.held).toNat Hd.z).firm || decide (h.try_ ≤ (l.held.getD (idxL (sameB h) l.held).toNat Hd.z).try_)
  else decide (0 ≤ idxL (sameB h) l.waits) && decide (h.try_ < (l.waits.getD (idxL (sameB h) l.waits).toNat Hd.z).try_)
def standsH (l : Lk) (h : Hd) : Bool := if 0 ≤ idxL (sameB h) l.held then eqHd (l.held.getD (idxL (sameB h) l.held).toNat Hd.z) h else false

set_option maxRecDepth 100000 in
set_option maxHeartbeats 2000000 in
theorem stands_any (l : Lk) (a b : Value) (h : Hd) (w : World) (hv : LkAt w l a b) (hn : l.held.length ≤ 1000) (hm : l.waits.length ≤ 1000) :
    Calls Try.prog 51 #[lkV l a b, hdV h] w fun e w' => e = .returned (.tuple #[.bool (standsB l h), .bool (standsH l h)]) ∧ Below w.heap.size w w' := by
  obtain ⟨slot, H, W⟩ := l
  obtain ⟨hvh, hvw⟩ := hv
  have HF1 : Hid (standsB ⟨slot, H, W⟩ h = if 0 ≤ idxL (sameB h) H then (H.getD (idxL (sameB h) H).toNat Hd.z).firm || decide (h.try_ ≤ (H.getD (idxL (sameB h) H).toNat Hd.z).try_) else decide (0 ≤ idxL (sameB h) W) && decide (h.try_ < (W.getD (idxL (sameB h) W).toNat Hd.z).try_)) := rfl
  have HF2 : Hid (standsH ⟨slot, H, W⟩ h = if 0 ≤ idxL (sameB h) H then eqHd (H.getD (idxL (sameB h) H).toNat Hd.z) h else false) := rfl
  simp only [lkV] at *
  obtain ⟨ah, ch, rfl, hlh⟩ := hvh.shape
  obtain ⟨aw, cw, rfl, hlw⟩ := hvw.shape
  have HH := hide hvh
  have HW := hide hvw
  have HI1 := hide (fun ww hk => hasIdx_any h (.slice ah H.length ch) H ww hk)
  have HI2 := hide (fun ww hk => hasIdx_any h (.slice aw W.length cw) W ww hk)
  have HC1 := hide (idxL_cases (sameB h) H)
  have HC2 := hide (idxL_cases (sameB h) W)
  have HEQ := hide (fun x => eq_hd x h)
  clear hvh hvw hlh hlw
  generalize standsB ⟨slot, H, W⟩ h = SB at *
  generalize standsH ⟨slot, H, W⟩ h = SH at *
  obtain ⟨hs, ht, hsh, hf⟩ := h
  unfold hdV at *
  simp only at *
  obtain ⟨x0, hx0⟩ : ∃ x0, x0 = (w.alloc (.cells #[.int .i64 slot, .slice ah H.length ch, .slice aw W.length cw] 25)).alloc (.cells #[.int .i64 hs, .int .i64 ht, .bool hsh, .bool hf] 27) := ⟨_, rfl⟩
  have HB0 : Hid (Below w.heap.size w x0) := by rw [hx0]; exact ((Below.refl _ _).alloc (Nat.le_refl _) _).alloc (by simp) _
  have HX0 : Hid (Bx x0 w.heap.size 25 #[.int .i64 slot, .slice ah H.length ch, .slice aw W.length cw]) := by rw [hx0]; exact (Bx.made w _ _).allocK
  have HY0 : Hid (Bx x0 (w.heap.size + 1) 27 #[.int .i64 hs, .int .i64 ht, .bool hsh, .bool hf]) := by
    rw [hx0]
    have := Bx.made (w.alloc (.cells #[.int .i64 slot, .slice ah H.length ch, .slice aw W.length cw] 25)) 27 #[.int .i64 hs, .int .i64 ht, .bool hsh, .bool hf]
    rwa [show (w.alloc (.cells #[.int .i64 slot, .slice ah H.length ch, .slice aw W.length cw] 25)).heap.size = w.heap.size + 1 by simp] at this
  have HE := hide hx0
  clear hx0
  go_enter Try.func51, Try.ntmps51
  go_wp2_with fail
  rw [← unhide HE]
  refine (unhide HI1 _ ((unhide HH).kept (unhide HB0))).mono ?_
  rintro e w1 ⟨rfl, hb1⟩
  have HB1 := hide ((unhide HB0).trans (hb1.mono (unhide HB0).size))
  have HX1 := hide ((unhide HX0).kept hb1)
  have HY1 := hide ((unhide HY0).kept hb1)
  clear hb1 HX0 HY0 HB0 HE
  obtain ⟨q0, q1, q2⟩ := (unhide HX1).three
  obtain ⟨r0, r1, r2, r3⟩ := (unhide HY1).four
  have ly := (unhide HY1).lt
  rcases unhide HC1 with ⟨h1, -⟩ | ⟨k, hk, h1, -, -⟩
  · rw [h1] at HF1 HF2 ⊢
    rw [if_neg (by omega)] at HF1 HF2
    clear h1
    go_wp2_with fail
    refine (unhide HI2 _ ((unhide HW).kept (unhide HB1))).mono ?_
    rintro e w2 ⟨rfl, hb2⟩
    have HB2 := hide ((unhide HB1).trans (hb2.mono (unhide HB1).size))
    have HX2 := hide ((unhide HX1).kept hb2)
    have HY2 := hide ((unhide HY1).kept hb2)
    clear hb2 q0 q1 q2 r0 r1 r2 r3 HX1 HY1
    obtain ⟨q0, q1, q2⟩ := (unhide HX2).three
    obtain ⟨r0, r1, r2, r3⟩ := (unhide HY2).four
    rcases unhide HC2 with ⟨h2, -⟩ | ⟨k, hk, h2, -, -⟩
    · rw [h2] at HF1 ⊢
      clear h2
      go_wp2_with fail
      go_quiet (fail)
      go_wp2_with fail
      go_ret2
      exact ⟨ret_two (rb (a := false) (by rw [unhide HF1]; simp)) (rb (a := false) (unhide HF2).symm), below_drewN (unhide HB2) _⟩
    · rw [h2] at HF1 ⊢
      obtain ⟨bb, off, rfl⟩ := (unhide HW).some_of (show 0 < W.length by omega)
      obtain ⟨c0, c1, c2, c3⟩ := hd_cells ((unhide HW).kept (unhide HB2)) (i := k) hk
      have HF3 : Hid (SB = decide (ht < (W.getD k Hd.z).try_)) := by show SB = _; rw [unhide HF1]; simp
      generalize W.getD k Hd.z = x at c0 c1 c2 c3 HF3
      have hkn : (k : Int) < (W.length : Int) := by omega
      have hk0 : (0 : Int) ≤ (k : Int) := by omega
      have hkd : decide ((0 : Int) ≤ (k : Int)) = true := by simp
      clear h2 HF1
      go_wp2_with fail
      go_quiet (fail)
      go_wp2_with fail
      go_ret2
      exact ⟨ret_two (rb (a := decide (ht < x.try_)) (unhide HF3).symm) (rb (a := false) (unhide HF2).symm), below_drewN (unhide HB2) _⟩
  · rw [h1] at HF1 HF2 ⊢
    obtain ⟨bb, off, rfl⟩ := (unhide HH).some_of (show 0 < H.length by omega)
    obtain ⟨c0, c1, c2, c3⟩ := hd_cells ((unhide HH).kept (unhide HB1)) (i := k) hk
    have HF3 : Hid (SB = ((H.getD k Hd.z).firm || decide (ht ≤ (H.getD k Hd.z).try_))) := by show SB = _; rw [unhide HF1, if_pos (by omega)]; simp
    have HF4 : Hid (SH = eqHd (H.getD k Hd.z) ⟨hs, ht, hsh, hf⟩) := by show SH = _; rw [unhide HF2, if_pos (by omega)]; simp
    generalize H.getD k Hd.z = x at c0 c1 c2 c3 HF3 HF4
    have hkn : (k : Int) < (H.length : Int) := by omega
    have hk0 : (0 : Int) ≤ (k : Int) := by omega
    have heq := unhide HEQ x
    have bD : Below w1.heap.size w1 (w1.alloc (.cells #[.int .i64 x.stamp, .int .i64 x.try_, .bool x.share, .bool x.firm] 27)) := (Below.refl _ _).alloc (Nat.le_refl _) _
    have HB2 := hide ((unhide HB1).trans (bD.mono (unhide HB1).size))
    clear h1 HF1 HF2 bD
    obtain ⟨xs, xt, xsh, xf⟩ := x
    simp only at *
    cases xf
    · go_wp2_with fail
      go_quiet (fail)
      go_wp2_with fail
      go_ret2
      exact ⟨ret_two (rb (a := decide (ht ≤ xt)) (by rw [unhide HF3]; simp)) (rb (a := eqHd ⟨xs, xt, xsh, false⟩ ⟨hs, ht, hsh, hf⟩) (unhide HF4).symm), below_drewN (unhide HB2) _⟩
    · go_wp2_with fail
      go_quiet (fail)
      go_wp2_with fail
      go_ret2
      exact ⟨ret_two (rb (a := true) (by rw [unhide HF3]; simp)) (rb (a := eqHd ⟨xs, xt, xsh, true⟩ ⟨hs, ht, hsh, hf⟩) (unhide HF4).symm), below_drewN (unhide HB2) _⟩

end Go.Proofs.Ytoojnhodjkpecaa
