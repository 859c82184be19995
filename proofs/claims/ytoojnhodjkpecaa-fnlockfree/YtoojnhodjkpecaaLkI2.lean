/- Lists of holds are searched by a method value; they ascend. -/
import Derived.Test.YtoojnhodjkpecaaLkI1
import Derived.Shelf.Abstract
namespace Go.Proofs.Ytoojnhodjkpecaa
open Go.RowKit Go.Shelf

def idxL (p : Hd → Bool) (hs : List Hd) : Int := match hs.findIdx? p with | some i => i | none => -1

theorem idxL_found {p : Hd → Bool} {hs : List Hd} {k : Nat} (hk : k < hs.length) (h : p (hs.getD k Hd.z) = true) (hn : ∀ j, j < k → p (hs.getD j Hd.z) = false) : idxL p hs = k := by
  have : hs.findIdx? p = some k := by
    rw [List.findIdx?_eq_some_iff_getElem]
    refine ⟨hk, by simpa [List.getD, hk] using h, fun j hj => ?_⟩
    have := hn j hj
    simpa [List.getD, show j < hs.length by omega] using this
  simp [idxL, this]

theorem idxL_none {p : Hd → Bool} {hs : List Hd} (hn : ∀ j, j < hs.length → p (hs.getD j Hd.z) = false) : idxL p hs = -1 := by
  have : hs.findIdx? p = none := by
    rw [List.findIdx?_eq_none_iff]
    intro x hx
    obtain ⟨i, hi, rfl⟩ := List.getElem_of_mem hx
    have := hn i hi
    simpa [List.getD, hi] using this
  simp [idxL, this]

theorem idxL_any (p : Hd → Bool) (hs : List Hd) : decide (0 ≤ idxL p hs) = hs.any p := by
  unfold idxL
  cases h : hs.findIdx? p with
  | none =>
    rw [List.findIdx?_eq_none_iff] at h
    have : hs.any p = false := by rw [List.any_eq_false]; intro x hx; simp [h x hx]
    simp [this]
  | some i =>
    rw [List.findIdx?_eq_some_iff_getElem] at h
    obtain ⟨hi, hp, -⟩ := h
    have : hs.any p = true := by rw [List.any_eq_true]; exact ⟨hs[i], List.getElem_mem hi, hp⟩
    rw [this]; simp

theorem idxL_ge (p : Hd → Bool) (hs : List Hd) : -1 ≤ idxL p hs ∧ idxL p hs < hs.length ∨ hs = [] := by
  unfold idxL
  cases h : hs.findIdx? p with
  | none => by_cases e : hs = []
            · exact .inr e
            · left; have := List.length_pos_iff.2 e; constructor <;> simp; omega
  | some i => left; rw [List.findIdx?_eq_some_iff_getElem] at h; obtain ⟨hi, -, -⟩ := h; constructor <;> simp <;> omega

set_option maxRecDepth 100000 in
set_option maxHeartbeats 1000000 in
theorem indexFunc_any (F : FuncId) (u : Value) (p : Hd → Bool) (hent : ∀ args w, (callFunc F args).run Try.prog w = .ok (.enter F args) w)
    (hp : ∀ (x : Hd) (ww : World), Calls Try.prog F #[u, .agg #[.int .i64 x.stamp, .int .i64 x.try_, .bool x.share, .bool x.firm]] ww fun e w' => e = .returned (.bool (p x)) ∧ Below ww.heap.size ww w')
    (v : Value) (hs : List Hd) (w : World) (hv : RowAt hdE w v hs) :
    Calls Try.prog 64 #[v, .func (.func F) #[u] #[]] w fun e w' => e = .returned (.int .i64 (idxL p hs)) ∧ Below w.heap.size w w' := by
  obtain ⟨a, cap, rfl, hl⟩ := hv.shape
  have HV := hide hv
  have HP := hide hp
  clear hv hp
  generalize hN : hs.length = N at *
  have HN := hide hN
  clear hN
  unfold maxLen at hl
  go_enter Try.func64, Try.ntmps64
  go_wp2_with fail
  go_loopw [8] (fun i wr => ∃ k : Nat, k ≤ N ∧ i = .int .i64 k ∧ (∀ j, j < k → p (hs.getD j Hd.z) = false) ∧ Below w.heap.size w wr) (fun i _ => N - (intOf i).toNat)
  case atStart => exact ⟨0, Nat.zero_le _, rfl, fun j hj => by omega, Below.refl _ _⟩
  case round =>
    obtain ⟨k, hk, rfl, hno, hb⟩ := hrel
    have HNO := hide hno
    have HB := hide hb
    clear hno hb
    by_cases hlt : k < N
    · obtain ⟨b, off, rfl⟩ := (unhide HV).some_of (by rw [unhide HN]; omega)
      obtain ⟨c0, c1, c2, c3⟩ := hd_cells ((unhide HV).kept (unhide HB)) (i := k) (by rw [unhide HN]; exact hlt)
      generalize hx : hs.getD k Hd.z = x at *
      have HX := hide hx
      clear hx
      go_wp2_with fail
      refine (unhide HP x _).mono ?_
      rintro e w1 ⟨rfl, hb1⟩
      have HB1 := hide ((unhide HB).trans (hb1.mono (unhide HB).size))
      clear hb1 c0 c1 c2 c3
      cases hpx : p x
      · have HPX := hide hpx
        clear hpx
        go_wp2_with fail
        go_roundw
        case rel =>
          refine ⟨k + 1, hlt, by go_num, fun j hj => ?_, unhide HB1⟩
          by_cases e : j = k
          · subst e; rw [unhide HX]; exact unhide HPX
          · exact unhide HNO j (by omega)
        case measure => simp [intOf]; omega
      · have HPX := hide hpx
        clear hpx
        go_wp2_with fail
        go_ret
        exact ⟨ret_int (idxL_found (by rw [unhide HN]; exact hlt) (by rw [unhide HX]; exact unhide HPX) (unhide HNO)).symm, unhide HB1⟩
    · obtain rfl : k = N := by omega
      go_wp2_with fail
      go_ret
      exact ⟨ret_int (idxL_none (fun j hj => unhide HNO j (by rw [unhide HN] at hj; exact hj))).symm, unhide HB⟩

set_option maxRecDepth 100000 in
set_option maxHeartbeats 1000000 in
theorem containsFunc_any (F : FuncId) (u : Value) (p : Hd → Bool) (hent : ∀ args w, (callFunc F args).run Try.prog w = .ok (.enter F args) w)
    (hp : ∀ (x : Hd) (ww : World), Calls Try.prog F #[u, .agg #[.int .i64 x.stamp, .int .i64 x.try_, .bool x.share, .bool x.firm]] ww fun e w' => e = .returned (.bool (p x)) ∧ Below ww.heap.size ww w')
    (v : Value) (hs : List Hd) (w : World) (hv : RowAt hdE w v hs) :
    Calls Try.prog 69 #[v, .func (.func F) #[u] #[]] w fun e w' => e = .returned (.bool (hs.any p)) ∧ Below w.heap.size w w' := by
  have HI := hide (indexFunc_any F u p hent hp v hs w hv)
  have HD := hide (idxL_any p hs)
  obtain ⟨a, cap, rfl, hl⟩ := hv.shape
  clear hv hp hent
  go_enter Try.func69, Try.ntmps69
  go_wp2_with fail
  refine (unhide HI).mono ?_
  rintro e w1 ⟨rfl, hb1⟩
  have HB1 := hide hb1
  clear hb1
  go_wp2_with fail
  go_ret
  exact ⟨ret_bool (unhide HD), unhide HB1⟩

theorem hasMeet_any (h : Hd) (v : Value) (hs : List Hd) (w : World) (hv : RowAt hdE w v hs) :
    Calls Try.prog 69 #[v, .func (.func 70) #[hdV h] #[]] w fun e w' => e = .returned (.bool (hs.any (meetB h))) ∧ Below w.heap.size w w' :=
  containsFunc_any 70 _ (meetB h) (enters_of Try.func70 (by kernel_rfl) rfl) (fun x ww => meets_any h x ww) v hs w hv
theorem hasSame_any (h : Hd) (v : Value) (hs : List Hd) (w : World) (hv : RowAt hdE w v hs) :
    Calls Try.prog 69 #[v, .func (.func 65) #[hdV h] #[]] w fun e w' => e = .returned (.bool (hs.any (sameB h))) ∧ Below w.heap.size w w' :=
  containsFunc_any 65 _ (sameB h) (enters_of Try.func65 (by kernel_rfl) rfl) (fun x ww => sameStamp_any h x ww) v hs w hv

end Go.Proofs.Ytoojnhodjkpecaa
