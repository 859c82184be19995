/- The program's house at first. -/
import Derived.Test.YtefbmbdemlcajaaHsI2
import Derived.Deep.WholeRow
namespace Go.Proofs.Ytefbmbdemlcajaa
open Go.RowKit

/-- The cells of a keeper that nothing has been told. -/
noncomputable def kzero : Array Value := match (Try.prog.info? 46).bind (fun i => i.zero) with | some (.agg cs) => cs | _ => #[]
theorem kzero_run (w : World) : Sem.run Try.prog (zeroValue 46) w = Result.ok (.agg kzero) w := by kernel_rfl
theorem kz_size : kzero.size = 72 := by kernel_rfl
theorem kzC (i : Int) : KpC ((kzero.setIfInBounds 43 (.int .i64 i)).setIfInBounds 44 (.bool true)) i 0 := by
  have hs := kz_size
  have h40 : kzero[40]? = some (.slice none 0 0) := by kernel_rfl
  have h45 : kzero[45]? = some (.int .i64 0) := by kernel_rfl
  have h70 : kzero[70]? = some (.slice none 0 0) := by kernel_rfl
  have hq : ∀ q, q < 8 → kzero[46 + q * 3 + 1]? = some (.slice none 0 0) ∧ kzero[46 + q * 3 + 2]? = some (.slice none 0 0) := fun q h => by
    rcases (by omega : q = 0 ∨ q = 1 ∨ q = 2 ∨ q = 3 ∨ q = 4 ∨ q = 5 ∨ q = 6 ∨ q = 7) with rfl | rfl | rfl | rfl | rfl | rfl | rfl | rfl <;> exact ⟨by kernel_rfl, by kernel_rfl⟩
  refine ⟨by simp [hs], ?_, ?_, ?_, ?_, ?_, fun q hq => absurd hq (Nat.not_lt_zero _), fun q h => ?_, fun q h => ?_⟩
  · rw [Array.getElem?_setIfInBounds_ne (by omega), Array.getElem?_setIfInBounds_ne (by omega)]; exact h40
  · rw [Array.getElem?_setIfInBounds_ne (by omega), Array.getElem?_setIfInBounds_self_of_lt (by omega)]
  · rw [Array.getElem?_setIfInBounds_self_of_lt (by simp; omega)]
  · rw [Array.getElem?_setIfInBounds_ne (by omega), Array.getElem?_setIfInBounds_ne (by omega)]; exact h45
  · rw [Array.getElem?_setIfInBounds_ne (by omega), Array.getElem?_setIfInBounds_ne (by omega)]; exact h70
  · rw [Array.getElem?_setIfInBounds_ne (by omega), Array.getElem?_setIfInBounds_ne (by omega)]; exact (hq q h).1
  · rw [Array.getElem?_setIfInBounds_ne (by omega), Array.getElem?_setIfInBounds_ne (by omega)]; exact (hq q h).2

theorem kz_one (i : Int) : ((kzero.setIfInBounds 43 (.int .i64 i)).setIfInBounds 44 (.bool true)).all (fun v => v.oneCell') = true := by kernel_rfl

set_option maxRecDepth 100000 in
set_option maxHeartbeats 2000000 in
theorem iHouseStart_any (i : Int) (w : World) :
    Calls Try.prog 5 #[.int .i64 i] w fun e w' => HsRes e w' w.heap.size i ∧ Below w.heap.size w w' := by
  have HB0 := hide ((Below.refl w.heap.size w).alloc (Nat.le_refl _) (.cells #[.int .i64 0, .bool false, .slice none 0 0, .int .i64 0, .slice none 0 0, .slice none 0 0] 26))
  have HX0 := hide (heap_alloc_new w (.cells #[.int .i64 0, .bool false, .slice none 0 0, .int .i64 0, .slice none 0 0, .slice none 0 0] 26))
  go_enter Try.func5, Try.ntmps5
  go_wp2_with fail
  refine (isHouse_any i _).mono ?_; rintro e w' ⟨rfl, h1⟩
  rw [h1]; clear h1
  cases hi : hsB i
  · go_wp2_with (refine wpList_store_row rfl 26 _ _ rfl w.heap.size _ rfl rfl 26 _ (unhide HX0) (by kernel_rfl) rfl (by simp [Value.oneCell']) ?_)
    refine bodyPost_ret (results_cell_row rfl _ _ w.heap.size _ _ _ _ rfl (setRow_heap _ _ _ _ _ _ (unhide HX0)) Try.underlying26 rfl (by kernel_rfl)) rfl ?_
    exact ⟨.inr ⟨hi, rfl⟩, below_setRow (unhide HB0) (Nat.le_refl _) _⟩
  go_wp2_with fail
  rw [kzero_run]
  simp only [Result.andThen_ok]
  rw [if_neg (show ¬ kzero.size < 44 by rw [kz_size]; decide), if_neg (show ¬ kzero.size < 45 by rw [kz_size]; decide)]
  simp only [Sem.run_pure, Result.andThen_ok]
  rw [Oper.upon_value]
  have HC := hide (kzC i)
  have HO := hide (kz_one i)
  generalize (kzero.setIfInBounds 43 (.int .i64 i)).setIfInBounds 44 (.bool true) = KK at *
  go_wp2_with fail
  rw [kzero_run]
  simp only [Result.andThen_ok]
  rw [Oper.upon_value]
  have hk : KK.size = 72 := (unhide HC).size
  have hst := run_storeCells_new (P := Try.prog) (w.alloc (.cells #[.int .i64 0, .bool false, .slice none 0 0, .int .i64 0, .slice none 0 0, .slice none 0 0] 26)) 46 kzero KK (by rw [hk]; kernel_rfl) (by rw [hk]; exact kz_size) (unhide HO)
  have hsz : (w.alloc (.cells #[.int .i64 0, .bool false, .slice none 0 0, .int .i64 0, .slice none 0 0, .slice none 0 0] 26)).heap.size = w.heap.size + 1 := by simp
  rw [hsz] at hst
  have hkn := heap_alloc_new (w.alloc (.cells #[.int .i64 0, .bool false, .slice none 0 0, .int .i64 0, .slice none 0 0, .slice none 0 0] 26)) (.cells KK 46)
  rw [hsz] at hkn
  have HKP : Hid (Kp ((w.alloc (.cells #[.int .i64 0, .bool false, .slice none 0 0, .int .i64 0, .slice none 0 0, .slice none 0 0] 26)).alloc (.cells KK 46)) (w.heap.size + 1) i 0) := ⟨KK, hkn, unhide HC⟩
  have HX1 := hide ((heap_alloc_old (w.alloc (.cells #[.int .i64 0, .bool false, .slice none 0 0, .int .i64 0, .slice none 0 0, .slice none 0 0] 26)) (.cells KK 46) (by simp)).trans (unhide HX0))
  have HB1 := hide ((unhide HB0).alloc (unhide HB0).size (.cells KK 46))
  have HS2 : Hid (((w.alloc (.cells #[.int .i64 0, .bool false, .slice none 0 0, .int .i64 0, .slice none 0 0, .slice none 0 0] 26)).alloc (.cells KK 46)).heap.size = w.heap.size + 2) := by show _ = _; simp
  clear hkn hsz
  go_wp2_with fail
  clear hst
  generalize (w.alloc (.cells #[.int .i64 0, .bool false, .slice none 0 0, .int .i64 0, .slice none 0 0, .slice none 0 0] 26)).alloc (.cells KK 46) = W2 at *
  refine (clearLocks_any _ i _ (unhide HKP)).mono ?_; rintro e w3 ⟨rfl, hk3, hg3⟩
  have HK3 := hide hk3
  have HX3 := hide ((hg3.block w.heap.size (by have := unhide HS2; omega) (by simp)).trans (unhide HX1))
  have HB3 : Hid (Below w.heap.size w w3) := Below.grown (unhide HB1) hg3 (unhide HB1).size (fun q hq => by simp at hq; omega)
  have z3 := hg3.size
  clear hk3 hg3
  go_wp2_with fail
  refine (keeperHouse_any _ i _ (unhide HK3)).mono ?_; rintro e w4 ⟨⟨b, c, rfl, hb, hl⟩, hb4⟩
  have HX4 := hide ((hb4.block w.heap.size (by have := unhide HS2; omega)).trans (unhide HX3))
  have HB4 := hide ((unhide HB3).trans (hb4.mono (unhide HB3).size))
  have HL := hide hl
  have hs2 := unhide HS2
  clear hl hb4
  go_wp2_with (refine wpList_store_row rfl 26 _ _ rfl w.heap.size _ rfl rfl 26 _ (unhide HX4) (by kernel_rfl) rfl (by simp [Value.oneCell']) ?_)
  refine bodyPost_ret (results_cell_row rfl _ _ w.heap.size _ _ _ _ rfl (setRow_heap _ _ _ _ _ _ (unhide HX4)) Try.underlying26 rfl (by kernel_rfl)) rfl ?_
  exact ⟨.inl ⟨hi, b, c, rfl, by omega, (unhide HL).far (grownBy_setRow _ w.heap.size _) (by simp; omega)⟩, below_setRow (unhide HB4) (Nat.le_refl _) _⟩

end Go.Proofs.Ytefbmbdemlcajaa
