/- The specification's house at first. -/
import Derived.Test.YtefbmbdemlcajaaHsI1
import Derived.Test.YtefbmbdemlcajaaMapI
import Derived.Laws.CopyOwn
namespace Go.Proofs.Ytefbmbdemlcajaa
open Go.RowKit

theorem L8.of_own {w : World} {base g c : Nat} (h : w.ownsRow base 42 3 (.slice (some ⟨g, 0, none⟩) 8 c) 8 ((upto 8).flatMap lk0E)) : L8 w g 0 := by
  have key : ∀ m : Nat, m < 8 → ((upto 8).flatMap lk0E)[m * 3]? = some (.int .i64 (m : Int)) ∧ ((upto 8).flatMap lk0E)[m * 3 + 1]? = some (.slice none 0 0) ∧ ((upto 8).flatMap lk0E)[m * 3 + 2]? = some (.slice none 0 0) := fun m hm => by
    rcases (by omega : m = 0 ∨ m = 1 ∨ m = 2 ∨ m = 3 ∨ m = 4 ∨ m = 5 ∨ m = 6 ∨ m = 7) with rfl | rfl | rfl | rfl | rfl | rfl | rfl | rfl <;> exact ⟨rfl, rfl, rfl⟩
  refine ⟨fun j hj => ?_, fun j hj => ?_, fun j hj => ?_, fun j => h.frozenAt j, (h.lt g rfl).2⟩
  · rw [h.cellAt _ (by omega), (key j hj).1, Int.zero_add]
  · rw [h.cellAt _ (by omega), (key j hj).2.1]
  · rw [h.cellAt _ (by omega), (key j hj).2.2]

theorem grownBy_setRow (w : World) (k : Nat) (cs : Array Value) : w.grownBy (w.setRow k cs) (some k) :=
  ⟨rfl, rfl, rfl, by simp [World.setRow], fun b hb hne => setRow_other w k b cs (fun e => hne (by rw [e]))⟩

/-- What HouseStart answers: a house with eight free locks in a row of its own, or nothing at all. -/
def HsRes (e : Ending) (w : World) (base : Nat) (i : Int) : Prop :=
  (hsB i = true ∧ ∃ g c, e = .returned (.agg #[.int .i64 i, .bool true, .slice none 0 0, .int .i64 0, .slice (some ⟨g, 0, none⟩) 8 c, .slice none 0 0]) ∧ base ≤ g ∧ L8 w g 0) ∨
  (hsB i = false ∧ e = .returned (.agg #[.int .i64 0, .bool false, .slice none 0 0, .int .i64 0, .slice none 0 0, .slice none 0 0]))

set_option maxHeartbeats 400000 in
theorem l12House_all (i : Int) (w : World) :
    Calls Try.prog 9 #[.int .i64 i] w fun e w' => e = .returned (.bool (hsB i)) ∧ w' = w := by
  have HI := hide (fun a b c ww => l6In_any a b c ww)
  go_enter Try.func9, Try.ntmps9
  go_wp2_with fail
  refine (unhide HI _ _ _ _).mono ?_; rintro e w1 ⟨rfl, h1⟩
  rw [h1]; clear h1
  go_wp2_with fail
  go_ret
  exact ⟨ret_bool (by simp [hsB, inB]), rfl⟩

set_option maxRecDepth 100000 in
set_option maxHeartbeats 1000000 in
theorem sHouseStart_any (i : Int) (w : World) :
    Calls Try.prog 4 #[.int .i64 i] w fun e w' => HsRes e w' w.heap.size i ∧ Below w.heap.size w w' := by
  have HB0 := hide ((Below.refl w.heap.size w).alloc (Nat.le_refl _) (.cells #[.int .i64 0, .bool false, .slice none 0 0, .int .i64 0, .slice none 0 0, .slice none 0 0] 26))
  have HX0 := hide (heap_alloc_new w (.cells #[.int .i64 0, .bool false, .slice none 0 0, .int .i64 0, .slice none 0 0, .slice none 0 0] 26))
  go_enter Try.func4, Try.ntmps4
  go_wp2_with fail
  refine (l12House_all i _).mono ?_; rintro e w' ⟨rfl, h1⟩
  rw [h1]; clear h1
  cases hi : hsB i
  · go_wp2_with (refine wpList_store_row rfl 26 _ _ rfl w.heap.size _ rfl rfl 26 _ (unhide HX0) (by kernel_rfl) rfl (by simp [Value.oneCell']) ?_)
    refine bodyPost_ret (results_cell_row rfl _ _ w.heap.size _ _ _ _ rfl (setRow_heap _ _ _ _ _ _ (unhide HX0)) Try.underlying26 rfl (by kernel_rfl)) rfl ?_
    exact ⟨.inr ⟨hi, rfl⟩, below_setRow (unhide HB0) (Nat.le_refl _) _⟩
  go_wp2_with fail
  refine (l21Locks_any _).mono ?_; rintro e w1 ⟨r, rfl, ho, h1⟩
  obtain ⟨g, c, rfl, hg1, hg2⟩ := ho.form (by omega)
  have hL := L8.of_own ho
  have HB := hide ((h1.block w.heap.size (by simp)).trans (unhide HX0))
  have HB1 := hide ((unhide HB0).trans (h1.mono (by simp)))
  simp at hg1
  clear ho h1
  go_wp2_with (refine wpList_store_row rfl 26 _ _ rfl w.heap.size _ rfl rfl 26 _ (unhide HB) (by kernel_rfl) rfl (by simp [Value.oneCell']) ?_)
  refine bodyPost_ret (results_cell_row rfl _ _ w.heap.size _ _ _ _ rfl (setRow_heap _ _ _ _ _ _ (unhide HB)) Try.underlying26 rfl (by kernel_rfl)) rfl ?_
  refine ⟨.inl ⟨hi, g, c, rfl, by omega, ?_⟩, below_setRow (unhide HB1) (Nat.le_refl _) _⟩
  exact hL.far (grownBy_setRow w1 w.heap.size _) (by simp; omega)

end Go.Proofs.Ytefbmbdemlcajaa
