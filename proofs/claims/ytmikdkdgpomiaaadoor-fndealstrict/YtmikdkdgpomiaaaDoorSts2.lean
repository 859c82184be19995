/- Statements: how slices of them are compared. -/
import Derived.Test.YtmikdkdgpomiaaaDoorSts
import Derived.Deep.DrawnRows
namespace Go.Proofs.YtmikdkdgpomiaaaDoor
open Go.RowKit
attribute [local go_sem ↓] Go.wp_at_zero Go.wp_at_succ

def eqSts (xs ys : List St) : Bool := decide (xs.map St.tup = ys.map St.tup)
theorem map_tup_inj {xs ys : List St} (h : xs.map St.tup = ys.map St.tup) : xs = ys := List.map_inj_right (fun _ _ e => St.tup_inj e) |>.1 h
theorem eqSts_eq {xs ys : List St} (h : eqSts xs ys = true) : xs = ys := map_tup_inj (by simpa [eqSts] using h)
theorem eqSts_self (xs : List St) : eqSts xs xs = true := by simp [eqSts]

set_option maxHeartbeats 1000000 in
theorem eqSts_any (v u : Value) (xs ys : List St) (w : World) (hv : StsAt w v xs) (hu : StsAt w u ys) :
    Calls Tryd.prog 16 #[v, u] w fun e w' => e = .returned (.bool (eqSts xs ys)) ∧ Below w.heap.size w w' := by
  obtain ⟨a, cap, rfl, h1, h2, h3⟩ := hv
  obtain ⟨a', cap', rfl, h1', h2', h3'⟩ := hu
  generalize hN : xs.length = N at *
  generalize hM : ys.length = M at *
  have HN : Hid (xs.length = N) := hN
  have HM : Hid (ys.length = M) := hM
  clear hN hM
  unfold maxLen at h2 h2'
  by_cases hNM : N = M
  · subst hNM
    have hne : ((N : Int) != (N : Int)) = false := by simp
    go_enter Tryd.func16, Tryd.ntmps16
    go_wp2
    go_loopw [5] (fun i wr => ∃ k : Nat, k ≤ N ∧ i = .int .i64 k ∧ Below w.heap.size w wr ∧ xs.take k = ys.take k) (fun i _ => N - (intOf i).toNat)
    case atStart => exact ⟨0, Nat.zero_le _, rfl, Below.refl _ _, by simp⟩
    case round =>
      obtain ⟨k, hk, rfl, hb, htk⟩ := hrel
      have HT : Hid (xs.take k = ys.take k) := htk
      clear htk
      by_cases hlt : k < N
      · obtain ⟨b, off, rfl, hc⟩ : ∃ b off, a = some ⟨b, off, none⟩ ∧ StCells w b off N xs := by
          rcases h3 with h3 | h3
          · have := HN.out; subst h3; simp at this; omega
          · exact h3
        obtain ⟨b', off', rfl, hc'⟩ : ∃ b off, a' = some ⟨b, off, none⟩ ∧ StCells w b off N ys := by
          rcases h3' with h3 | h3
          · have := HM.out; subst h3; simp at this; omega
          · exact h3
        obtain ⟨c0, c1, c2⟩ := (hc.kept hb) k hlt
        obtain ⟨d0, d1, d2⟩ := (hc'.kept hb) k hlt
        generalize hx : xs.getD k St.z = x at c0 c1 c2
        generalize hy : ys.getD k St.z = y at d0 d1 d2
        have HX : Hid (xs.getD k St.z = x) := hx
        have HY : Hid (ys.getD k St.z = y) := hy
        have hkI : (k : Int) < (N : Int) := by omega
        have hk0 : (0 : Int) ≤ (k : Int) := by omega
        clear h3 h3' hc hc' hx hy
        go_wp2
        go_region_held3 (fun w' => w'.cell? ⟨b, off + k * 3, none⟩ = some (.int .i64 x.op) ∧ w'.cell? ⟨b, off + k * 3 + 1, none⟩ = some (.int .i64 x.key) ∧ w'.cell? ⟨b, off + k * 3 + 2, none⟩ = some (.int .i64 x.num) ∧ w'.cell? ⟨b', off' + k * 3, none⟩ = some (.int .i64 y.op) ∧ w'.cell? ⟨b', off' + k * 3 + 1, none⟩ = some (.int .i64 y.key) ∧ w'.cell? ⟨b', off' + k * 3 + 2, none⟩ = some (.int .i64 y.num)) (first | go_keep | (go_split_ands; refine ⟨?_, ?_, ?_, ?_, ?_, ?_⟩ <;> (refine cell_kept hb1 ?_; simp [*]; done)))
          (first | (go_at_call 38; refine (eqSt_any x y _).mono ?_; rintro e w' ⟨rfl, hb1⟩))
        have hbw : Below w.heap.size w w' := hb.trans (Below.trans (Below.refl _ _).drew (hb1.mono hb.size))
        cases hxy : eqSt x y
        · go_wp2
          go_ret
          refine ⟨?_, hbw⟩
          refine ret_bool ?_
          have : eqSts xs ys = false := by
            have h1 := HX.out; have h2 := HY.out
            simp only [eqSt, decide_eq_false_iff_not] at hxy
            simp only [eqSts, decide_eq_false_iff_not]
            intro e; apply hxy; rw [← h1, ← h2, map_tup_inj e]
          rw [this]
        · go_wp2
          go_roundw
          case rel =>
            have h1 := HX.out; have h2 := HY.out
            simp only [eqSt, decide_eq_true_eq] at hxy
            exact ⟨k + 1, hlt, by go_num, hbw, take_eq_step HT.out (by rw [HN.out]; exact hlt) (by rw [HM.out]; exact hlt) (by rw [h1, h2, St.tup_inj hxy])⟩
          case measure => simp [intOf]; omega
      · go_wp2
        go_ret
        refine ⟨ret_bool ?_, hb⟩
        obtain rfl : k = N := by omega
        have h1 := HT.out; have h2 := HN.out; have h3 := HM.out
        rw [List.take_of_length_le (by omega), List.take_of_length_le (by omega)] at h1
        simp [eqSts, h1]
  · have hne : ((N : Int) != (M : Int)) = true := by simp; omega
    go_enter Tryd.func16, Tryd.ntmps16
    go_wp2
    go_ret
    refine ⟨?_, Below.refl _ _⟩
    have : eqSts xs ys = false := by
      have h1 := HN.out; have h2 := HM.out
      simp only [eqSts, decide_eq_false_iff_not]; intro e; have := map_tup_inj e; subst this; omega
    rw [this]; rfl

end Go.Proofs.YtmikdkdgpomiaaaDoor
