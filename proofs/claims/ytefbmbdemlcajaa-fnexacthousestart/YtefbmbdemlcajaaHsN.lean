/- Houses at first: compared, marked, looked at. -/
import Derived.Test.YtefbmbdemlcajaaHsT
namespace Go.Proofs.Ytefbmbdemlcajaa
open Go.RowKit

set_option maxHeartbeats 1000000 in
theorem eqRecS_nil (w : World) :
    Calls Try.prog 14 #[.slice none 0 0, .slice none 0 0] w fun e w' => e = .returned (.bool true) ∧ w' = w := by
  go_enter Try.func14, Try.ntmps14
  go_wp2
  refine wp_loop_rounds 1 ?_
  rw [rounds_succ]
  go_wp2
  go_ret
  exact ⟨rfl, rfl⟩
set_option maxHeartbeats 1000000 in
theorem eqLockS_nil (w : World) :
    Calls Try.prog 15 #[.slice none 0 0, .slice none 0 0] w fun e w' => e = .returned (.bool true) ∧ w' = w := by
  go_enter Try.func15, Try.ntmps15
  go_wp2
  refine wp_loop_rounds 1 ?_
  rw [rounds_succ]
  go_wp2
  go_ret
  exact ⟨rfl, rfl⟩
set_option maxHeartbeats 1000000 in
theorem eqWorkS_nil (w : World) :
    Calls Try.prog 16 #[.slice none 0 0, .slice none 0 0] w fun e w' => e = .returned (.bool true) ∧ w' = w := by
  go_enter Try.func16, Try.ntmps16
  go_wp2
  refine wp_loop_rounds 1 ?_
  rw [rounds_succ]
  go_wp2
  go_ret
  exact ⟨rfl, rfl⟩
set_option maxHeartbeats 1000000 in
theorem markRecS_nil (k : Int) (w : World) :
    Calls Try.prog 17 #[.slice none 0 0, .int .i64 k] w fun e w' => e = .returned (.int .i64 k) ∧ w' = w := by
  go_enter Try.func17, Try.ntmps17
  go_wp2
  refine wp_loop_rounds 1 ?_
  rw [rounds_succ]
  go_wp2
  go_ret
  exact ⟨rfl, rfl⟩
set_option maxHeartbeats 1000000 in
theorem markLockS_nil (k : Int) (w : World) :
    Calls Try.prog 18 #[.slice none 0 0, .int .i64 k] w fun e w' => e = .returned (.int .i64 k) ∧ w' = w := by
  go_enter Try.func18, Try.ntmps18
  go_wp2
  refine wp_loop_rounds 1 ?_
  rw [rounds_succ]
  go_wp2
  go_ret
  exact ⟨rfl, rfl⟩
set_option maxHeartbeats 1000000 in
theorem markWorkS_nil (k : Int) (w : World) :
    Calls Try.prog 19 #[.slice none 0 0, .int .i64 k] w fun e w' => e = .returned (.int .i64 k) ∧ w' = w := by
  go_enter Try.func19, Try.ntmps19
  go_wp2
  refine wp_loop_rounds 1 ?_
  rw [rounds_succ]
  go_wp2
  go_ret
  exact ⟨rfl, rfl⟩
set_option maxHeartbeats 1000000 in
theorem heldRecS_nil (k : Int) (w : World) :
    Calls Try.prog 20 #[.slice none 0 0, .int .i64 k] w fun e w' => e = .returned (.int .i64 k) ∧ w' = w := by
  go_enter Try.func20, Try.ntmps20
  go_wp2
  refine wp_loop_rounds 1 ?_
  rw [rounds_succ]
  go_wp2
  go_ret
  exact ⟨rfl, rfl⟩
set_option maxHeartbeats 1000000 in
theorem heldLockS_nil (k : Int) (w : World) :
    Calls Try.prog 21 #[.slice none 0 0, .int .i64 k] w fun e w' => e = .returned (.int .i64 k) ∧ w' = w := by
  go_enter Try.func21, Try.ntmps21
  go_wp2
  refine wp_loop_rounds 1 ?_
  rw [rounds_succ]
  go_wp2
  go_ret
  exact ⟨rfl, rfl⟩
set_option maxHeartbeats 1000000 in
theorem heldWorkS_nil (k : Int) (w : World) :
    Calls Try.prog 22 #[.slice none 0 0, .int .i64 k] w fun e w' => e = .returned (.int .i64 k) ∧ w' = w := by
  go_enter Try.func22, Try.ntmps22
  go_wp2
  refine wp_loop_rounds 1 ?_
  rw [rounds_succ]
  go_wp2
  go_ret
  exact ⟨rfl, rfl⟩

theorem Box.on (w : World) (o : Obj) (T : TypeId) (cs : Array Value) : Box ((w.alloc o).alloc (.cells cs T)) (w.heap.size + 1) T cs := by
  have := Box.made (w.alloc o) T cs
  rwa [show (w.alloc o).heap.size = w.heap.size + 1 by simp] at this

set_option maxRecDepth 100000 in
set_option maxHeartbeats 2000000 in
theorem eqHouse0_any (i : Int) (b : Bool) (v u : Value) (w : World) (h : ∀ ww, Below w.heap.size w ww → Calls Try.prog 15 #[v, u] ww fun e w' => e = .returned (.bool true) ∧ Below ww.heap.size ww w') :
    Calls Try.prog 6 #[.agg #[.int .i64 i, .bool b, .slice none 0 0, .int .i64 0, v, .slice none 0 0], .agg #[.int .i64 i, .bool b, .slice none 0 0, .int .i64 0, u, .slice none 0 0]] w fun e w' => e = .returned (.bool true) ∧ Below w.heap.size w w' := by
  have H := hide h
  have hb : Below w.heap.size w ((w.alloc (.cells #[.int .i64 i, .bool b, .slice none 0 0, .int .i64 0, v, .slice none 0 0] 26)).alloc (.cells #[.int .i64 i, .bool b, .slice none 0 0, .int .i64 0, u, .slice none 0 0] 26)) := ((Below.refl _ _).alloc (Nat.le_refl _) _).alloc (by simp) _
  have HB := hide hb
  have hne : (i != i) = false := by simp
  have hnb : (b != b) = false := by simp
  have HX := hide (Box.on w (.cells #[.int .i64 i, .bool b, .slice none 0 0, .int .i64 0, v, .slice none 0 0] 26) 26 #[.int .i64 i, .bool b, .slice none 0 0, .int .i64 0, u, .slice none 0 0])
  have HY := hide ((Box.made w 26 #[.int .i64 i, .bool b, .slice none 0 0, .int .i64 0, v, .slice none 0 0]).kept ((Below.refl _ _).alloc (by simp) (.cells #[.int .i64 i, .bool b, .slice none 0 0, .int .i64 0, u, .slice none 0 0] 26)))
  clear h hb
  go_enter Try.func6, Try.ntmps6
  go_wp2_with fail
  refine (eqRecS_nil _).mono ?_; rintro e w1 ⟨rfl, h1⟩
  rw [h1]; clear h1
  go_wp2_with fail
  refine (unhide H _ (unhide HB)).mono ?_; rintro e w2 ⟨rfl, hb2⟩
  have HB2 := hide ((unhide HB).trans (hb2.mono (unhide HB).size))
  have c5 := ((unhide HY).kept hb2).cell 5
  have d5 := ((unhide HX).kept hb2).cell 5
  simp only [List.getElem?_toArray, List.getElem?_cons_zero, List.getElem?_cons_succ] at c5 d5
  clear hb2
  go_wp2_with fail
  refine (eqWorkS_nil _).mono ?_; rintro e w3 ⟨rfl, h1⟩
  rw [h1]; clear h1
  go_wp2_with fail
  go_ret
  exact ⟨rfl, unhide HB2⟩

set_option maxRecDepth 100000 in
set_option maxHeartbeats 2000000 in
theorem markHouse8_any (i : Int) (b : Bool) (g c : Nat) (w : World) (h : L8 w g 0) :
    Calls Try.prog 7 #[.agg #[.int .i64 i, .bool b, .slice none 0 0, .int .i64 0, .slice (some ⟨g, 0, none⟩) 8 c, .slice none 0 0], .int .i64 1] w fun e w' => e = .returned (.int .i64 9) ∧ w.grownBy w' (some g) ∧ L8 w' g 1 := by
  have hlt := h.lt
  have HG := hide (World.grownBy_alloc w (.cells #[.int .i64 i, .bool b, .slice none 0 0, .int .i64 0, .slice (some ⟨g, 0, none⟩) 8 c, .slice none 0 0] 26) (some g))
  have HL := hide (h.far (unhide (hide (World.grownBy_alloc w (.cells #[.int .i64 i, .bool b, .slice none 0 0, .int .i64 0, .slice (some ⟨g, 0, none⟩) 8 c, .slice none 0 0] 26) none))) (by simp))
  have HX := hide (Box.made w 26 #[.int .i64 i, .bool b, .slice none 0 0, .int .i64 0, .slice (some ⟨g, 0, none⟩) 8 c, .slice none 0 0])
  clear h
  go_enter Try.func7, Try.ntmps7
  go_wp2_with fail
  refine (markRecS_nil _ _).mono ?_; rintro e w1 ⟨rfl, h1⟩
  rw [h1]; clear h1
  go_wp2_with fail
  refine (markLocks8_any g c 0 1 _ (unhide HL) (by omega) (by omega)).mono ?_; rintro e w2 ⟨rfl, hg2, hl2⟩
  have HG2 := hide (grownBy_trans (unhide HG) hg2)
  have HL2 := hide hl2
  have c5 := ((unhide HX).far hg2 (by simp; omega)).cell 5
  simp only [List.getElem?_toArray, List.getElem?_cons_zero, List.getElem?_cons_succ] at c5
  clear hg2 hl2
  go_wp2_with fail
  refine (markWorkS_nil _ _).mono ?_; rintro e w3 ⟨rfl, h1⟩
  rw [h1]; clear h1
  go_wp2_with fail
  go_ret
  exact ⟨rfl, unhide HG2, unhide HL2⟩

set_option maxRecDepth 100000 in
set_option maxHeartbeats 2000000 in
theorem heldHouse8_any (i : Int) (b : Bool) (g c : Nat) (w : World) (h : L8 w g 1) :
    Calls Try.prog 8 #[.agg #[.int .i64 i, .bool b, .slice none 0 0, .int .i64 0, .slice (some ⟨g, 0, none⟩) 8 c, .slice none 0 0], .int .i64 1] w fun e w' => e = .returned (.int .i64 9) ∧ Below w.heap.size w w' := by
  have hb : Below w.heap.size w (w.alloc (.cells #[.int .i64 i, .bool b, .slice none 0 0, .int .i64 0, .slice (some ⟨g, 0, none⟩) 8 c, .slice none 0 0] 26)) := (Below.refl _ _).alloc (Nat.le_refl _) _
  have HB := hide hb
  have HL := hide (h.kept hb)
  clear h hb
  go_enter Try.func8, Try.ntmps8
  go_wp2_with fail
  refine (heldRecS_nil _ _).mono ?_; rintro e w1 ⟨rfl, h1⟩
  rw [h1]; clear h1
  go_wp2_with fail
  refine (heldLocks8_any g c 1 _ (unhide HL) (by omega) (by omega)).mono ?_; rintro e w2 ⟨rfl, h1⟩
  rw [h1]; clear h1
  go_wp2_with fail
  refine (heldWorkS_nil _ _).mono ?_; rintro e w3 ⟨rfl, h1⟩
  rw [h1]; clear h1
  go_wp2_with fail
  go_ret
  exact ⟨rfl, unhide HB⟩

set_option maxRecDepth 100000 in
set_option maxHeartbeats 2000000 in
theorem markHouse0_any (i : Int) (b : Bool) (w : World) :
    Calls Try.prog 7 #[.agg #[.int .i64 i, .bool b, .slice none 0 0, .int .i64 0, .slice none 0 0, .slice none 0 0], .int .i64 1] w fun e w' => e = .returned (.int .i64 1) ∧ Below w.heap.size w w' := by
  have HB := hide ((Below.refl w.heap.size w).alloc (Nat.le_refl _) (.cells #[.int .i64 i, .bool b, .slice none 0 0, .int .i64 0, .slice none 0 0, .slice none 0 0] 26))
  go_enter Try.func7, Try.ntmps7
  go_wp2_with fail
  refine (markRecS_nil _ _).mono ?_; rintro e w1 ⟨rfl, h1⟩
  rw [h1]; clear h1
  go_wp2_with fail
  refine (markLockS_nil _ _).mono ?_; rintro e w2 ⟨rfl, h1⟩
  rw [h1]; clear h1
  go_wp2_with fail
  refine (markWorkS_nil _ _).mono ?_; rintro e w3 ⟨rfl, h1⟩
  rw [h1]; clear h1
  go_wp2_with fail
  go_ret
  exact ⟨rfl, unhide HB⟩

set_option maxRecDepth 100000 in
set_option maxHeartbeats 2000000 in
theorem heldHouse0_any (i : Int) (b : Bool) (w : World) :
    Calls Try.prog 8 #[.agg #[.int .i64 i, .bool b, .slice none 0 0, .int .i64 0, .slice none 0 0, .slice none 0 0], .int .i64 1] w fun e w' => e = .returned (.int .i64 1) ∧ Below w.heap.size w w' := by
  have HB := hide ((Below.refl w.heap.size w).alloc (Nat.le_refl _) (.cells #[.int .i64 i, .bool b, .slice none 0 0, .int .i64 0, .slice none 0 0, .slice none 0 0] 26))
  go_enter Try.func8, Try.ntmps8
  go_wp2_with fail
  refine (heldRecS_nil _ _).mono ?_; rintro e w1 ⟨rfl, h1⟩
  rw [h1]; clear h1
  go_wp2_with fail
  refine (heldLockS_nil _ _).mono ?_; rintro e w2 ⟨rfl, h1⟩
  rw [h1]; clear h1
  go_wp2_with fail
  refine (heldWorkS_nil _ _).mono ?_; rintro e w3 ⟨rfl, h1⟩
  rw [h1]; clear h1
  go_wp2_with fail
  go_ret
  exact ⟨rfl, unhide HB⟩

end Go.Proofs.Ytefbmbdemlcajaa
