/- When books are ok: the specification's answer. -/
import Derived.Test.YtfankbnlgmfdjaaSdB2
namespace Go.Proofs.Ytfankbnlgmfdjaa
open Go.RowKit
attribute [local go_sem ↓] Go.wp_at_zero Go.wp_at_succ

def valsB (xs : List Int) : Bool := decide (xs.length ≤ 6) && xs.all valB
/-- What was said at place i is in form, and behind the one ahead of it. -/
def sdAt (ss : List Sd) (i : Nat) : Bool := inB (ss.getD i Sd.z).ses 0 2 && inB (ss.getD i Sd.z).num 1 99 && inB (ss.getD i Sd.z).code 0 9 && valsB (ss.getD i Sd.z).vals && !(decide (0 < i) && decide ((ss.getD i Sd.z).ses ≤ (ss.getD (i - 1) Sd.z).ses))
def saidB (ss : List Sd) : Bool := (List.range ss.length).all (sdAt ss)
def nzB (ps : List Pr) : Bool := ps.all fun p => !(p.val == 0)
def storeB (ps : List Pr) : Bool := nzB ps && inForm ps
def booksB (t v : Int) (L : List Int) (ps : List Pr) (ss : List Sd) : Bool := inB t 0 60 && mapOk v L && storeB ps && saidB ss

theorem all_takeD {α : Type} {xs : List α} {p : α → Bool} {k : Nat} {d : α} (h : (xs.take k).all p = true) (hk : k < xs.length) (e : p (xs.getD k d) = true) : (xs.take (k + 1)).all p = true := by
  rw [List.take_add_one, List.all_append, h]
  have : xs[k]? = some (xs.getD k d) := by simp [List.getD, hk]
  rw [this]
  simp only [Option.toList_some, List.all_cons, e, List.all_nil, Bool.and_self]
theorem all_getD_false {α : Type} {xs : List α} {p : α → Bool} {k : Nat} {d : α} (hk : k < xs.length) (e : p (xs.getD k d) = false) : xs.all p = false := by
  rw [List.all_eq_false]
  refine ⟨xs.getD k d, ?_, by rw [e]; simp⟩
  have : xs.getD k d = xs[k] := by simp [List.getD, hk]
  rw [this]; exact List.getElem_mem hk

set_option maxHeartbeats 1000000 in
theorem l3Vals_any (v : Value) (xs : List Int) (w : World) (hv : InsAt w v xs) :
    Calls Try.prog 35 #[v] w fun e w' => e = .returned (.bool (valsB xs)) ∧ w' = w := by
  obtain ⟨a, cap, rfl, h1, h2, h3⟩ := hv
  generalize hN : xs.length = N at *
  have HN := hide hN
  clear hN
  unfold maxLen at h2
  by_cases hhi : (6 : Int) < N
  · go_enter Try.func35, Try.ntmps35
    go_wp2
    go_ret
    exact ⟨ret_bool (by have := unhide HN; simp [valsB]; omega), rfl⟩
  go_enter Try.func35, Try.ntmps35
  go_wp2
  go_loopw [3] (fun i wr => ∃ k : Nat, k ≤ N ∧ i = .int .i64 k ∧ wr = w ∧ (xs.take k).all valB = true) (fun i _ => N - (intOf i).toNat)
  case atStart => exact ⟨0, Nat.zero_le _, rfl, rfl, by simp⟩
  case round =>
    obtain ⟨k, hk, rfl, rfl, htk⟩ := hrel
    have HT := hide htk
    clear htk
    by_cases hlt : k < N
    · obtain ⟨b, off, rfl, hc⟩ : ∃ b off, a = some ⟨b, off, none⟩ ∧ InCells wr b off N xs := by
        rcases h3 with h3 | h3
        · have := unhide HN; subst h3; simp at this; omega
        · exact h3
      have c0 := hc k hlt
      generalize hx : xs.getD k 0 = x at c0
      have HX := hide hx
      clear h3 hc hx
      go_wp2_with fail
      refine (l1Val_any x _).mono ?_; rintro e w' ⟨rfl, rfl⟩
      cases t1 : valB x
      · go_wp2_with fail
        go_ret
        refine ⟨ret_bool ?_, rfl⟩
        have := all_getD_false (p := valB) (d := (0 : Int)) (by rw [unhide HN]; exact hlt) (by rw [unhide HX]; exact t1)
        simp [valsB, this]
      · go_wp2_with fail
        go_roundw
        case rel => exact ⟨k + 1, hlt, by go_num, by trivial, all_takeD (d := (0 : Int)) (unhide HT) (by rw [unhide HN]; exact hlt) (by rw [unhide HX]; exact t1)⟩
        case measure => simp [intOf]; omega
    · go_wp2
      go_ret
      obtain rfl : k = N := by omega
      refine ⟨ret_bool ?_, rfl⟩
      have h4 := unhide HT
      rw [List.take_of_length_le (by rw [unhide HN]; omega)] at h4
      have := unhide HN
      simp only [valsB, h4]; simp; omega

end Go.Proofs.Ytfankbnlgmfdjaa
