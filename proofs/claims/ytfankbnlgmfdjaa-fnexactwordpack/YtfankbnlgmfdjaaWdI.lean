/- When a word is ok: the program's answer (its parts). -/
import Derived.Test.YtfankbnlgmfdjaaWd
import Derived.Lib.QuietBelow
import Derived.Shelf.Abstract
namespace Go.Proofs.Ytfankbnlgmfdjaa
open Go.RowKit
attribute [local go_sem ↓] Go.wp_at_zero Go.wp_at_succ

theorem ltB (n lo hi : Int) : inB n lo (hi - 1) = (decide (lo ≤ n) && decide (n < hi)) := by
  have : decide (n ≤ hi - 1) = decide (n < hi) := by apply decide_eq_decide.2; omega
  simp [inB, this]

set_option maxHeartbeats 400000 in
theorem isWordKind_any (n : Int) (w : World) :
    Calls Try.prog 42 #[.int .i64 n] w fun e w' => e = .returned (.bool (inB n 1 9)) ∧ w' = w := by
  by_cases h1 : 1 ≤ n <;> by_cases h2 : n ≤ 9
  all_goals
    go_enter Try.func42, Try.ntmps42
    go_wp2
    go_ret
    exact ⟨ret_bool (by simp [inB, h1, h2]), rfl⟩

set_option maxHeartbeats 400000 in
theorem isWordNumber_any (n : Int) (w : World) :
    Calls Try.prog 45 #[.int .i64 n] w fun e w' => e = .returned (.bool (numB n)) ∧ w' = w := by
  by_cases h1 : 0 ≤ n <;> by_cases h2 : n ≤ 9999
  all_goals
    go_enter Try.func45, Try.ntmps45
    go_wp2
    go_ret
    exact ⟨ret_bool (by simp [numB, inB, h1, h2]), rfl⟩

set_option maxHeartbeats 400000 in
theorem isWhat_any (n : Int) (w : World) :
    Calls Try.prog 46 #[.int .i64 n] w fun e w' => e = .returned (.bool (inB n 0 3)) ∧ w' = w := by
  by_cases h1 : 0 ≤ n <;> by_cases h2 : n ≤ 3
  all_goals
    go_enter Try.func46, Try.ntmps46
    go_wp2
    go_ret
    exact ⟨ret_bool (by simp [inB, h1, h2]), rfl⟩

set_option maxHeartbeats 400000 in
theorem isClient_any (n : Int) (w : World) :
    Calls Try.prog 80 #[.int .i64 n] w fun e w' => e = .returned (.bool (inB n 100 102)) ∧ w' = w := by
  by_cases h1 : 100 ≤ n <;> by_cases h2 : n < 103
  all_goals
    go_enter Try.func80, Try.ntmps80
    go_wp2
    go_ret
    exact ⟨ret_bool (by rw [show inB n 100 102 = _ from ltB n 100 103]; simp [h1, h2]), rfl⟩

set_option maxHeartbeats 400000 in
theorem isPlace_any (n : Int) (w : World) :
    Calls Try.prog 44 #[.int .i64 n] w fun e w' => e = .returned (.bool (placeB n)) ∧ w' = w := by
  cases t1 : hsB n <;> cases t2 : (n == 9) <;> cases t3 : inB n 100 102
  all_goals
    go_enter Try.func44, Try.ntmps44
    go_wp2_with (first | (go_at_call 79; refine (isHouse_any _ _).mono ?_; rintro e w' ⟨rfl, rfl⟩) | (go_at_call 80; refine (isClient_any _ _).mono ?_; rintro e w' ⟨rfl, rfl⟩))
    go_ret
    exact ⟨ret_bool (by simp only [placeB, t1, t2, t3]; try rfl), rfl⟩

set_option maxRecDepth 100000 in
set_option maxHeartbeats 1000000 in
theorem allAre_any (F : FuncId) (p : Int → Bool) (hent : ∀ args w, (callFunc F args).run Try.prog w = .ok (.enter F args) w)
    (hp : ∀ (x : Int) (ww : World), Calls Try.prog F #[.int .i64 x] ww fun e w' => e = .returned (.bool (p x)) ∧ w' = ww)
    (v : Value) (xs : List Int) (w : World) (hv : InsAt w v xs) :
    Calls Try.prog 43 #[.func (.func F) #[] #[], v] w fun e w' => e = .returned (.bool (xs.all p)) ∧ w' = w := by
  have HP := hide hp
  obtain ⟨a, cap, rfl, h1, h2, h3⟩ := hv
  generalize hN : xs.length = N at *
  have HN := hide hN
  clear hN hp
  unfold maxLen at h2
  go_enter Try.func43, Try.ntmps43
  go_wp2_with fail
  go_loopw [9] (fun i wr => ∃ k : Nat, k ≤ N ∧ i = .int .i64 k ∧ wr = w ∧ (xs.take k).all p = true) (fun i _ => N - (intOf i).toNat)
  case atStart => exact ⟨0, Nat.zero_le _, rfl, rfl, by simp⟩
  case round =>
    obtain ⟨k, hk, rfl, rfl, htk⟩ := hrel
    have HT := hide htk
    clear htk
    by_cases hlt : k < N
    · obtain ⟨b, off, rfl, hc⟩ : ∃ b off, a = some ⟨b, off, none⟩ ∧ InCells wr b off N xs := by
        rcases h3 with h3 | h3
        · have := unhide HN; subst h3; simp at this; omega
        · exact h3
      have c0 := hc k hlt
      generalize hx : xs.getD k 0 = x at c0
      have HX := hide hx
      clear h3 hc hx
      go_wp2_with fail
      refine (unhide HP x _).mono ?_; rintro e w' ⟨rfl, rfl⟩
      cases t1 : p x
      · go_wp2_with fail
        go_ret
        refine ⟨ret_bool ?_, rfl⟩
        exact (all_getD_false (p := p) (d := (0 : Int)) (by rw [unhide HN]; exact hlt) (by rw [unhide HX]; exact t1)).symm
      · go_wp2_with fail
        go_roundw
        case rel => exact ⟨k + 1, hlt, by go_num, by trivial, all_takeD (d := (0 : Int)) (unhide HT) (by rw [unhide HN]; exact hlt) (by rw [unhide HX]; exact t1)⟩
        case measure => simp [intOf]; omega
    · go_wp2
      go_ret
      obtain rfl : k = N := by omega
      refine ⟨ret_bool ?_, rfl⟩
      have h4 := unhide HT
      rw [List.take_of_length_le (by rw [unhide HN]; omega)] at h4
      exact h4.symm

theorem allAreB_any (F : FuncId) (p : Int → Bool) (hent : ∀ args w, (callFunc F args).run Try.prog w = .ok (.enter F args) w)
    (hp : ∀ (x : Int) (ww : World), Calls Try.prog F #[.int .i64 x] ww fun e w' => e = .returned (.bool (p x)) ∧ w' = ww)
    (v : Value) (xs : List Int) (w : World) (hv : InsAt w v xs) :
    Calls Try.prog 43 #[.func (.func F) #[] #[], v] w fun e w' => e = .returned (.bool (xs.all p)) ∧ Below w.heap.size w w' :=
  (allAre_any F p hent hp v xs w hv).mono fun _ _ ⟨h1, h2⟩ => ⟨h1, by subst h2; exact Below.refl _ _⟩

end Go.Proofs.Ytfankbnlgmfdjaa
