/- How a hold is drawn. -/
import Derived.Test.YtoojnhodjkpecaaDraw1
import Derived.Test.YtoojnhodjkpecaaLkS2
import Derived.Test.YtoojnhodjkpecaaResK
import Derived.Test.YtoojnhodjkpecaaInsK
namespace Go.Proofs.Ytoojnhodjkpecaa
open Go.RowKit

theorem grownBy_rowD {w w' : World} {row : Option Nat} (h : w.grownBy w' row) {g : Nat} (hg : w.heap.size ≤ g) (cs : Array Value) : w.grownBy (w'.setRow g cs) row :=
  ⟨h.os, h.tape, h.output, by have := (grownBy_setRow w' g cs).size; have := h.size; omega, fun q hq hne => ((grownBy_setRow w' g cs).block q (Nat.lt_of_lt_of_le hq h.size) (fun e => by simp at e; omega)).trans (h.block q hq hne)⟩
theorem Rd.rowD {w : World} {B p g : Nat} (h : Rd w B p) (hg : B < g) (cs : Array Value) : Rd (w.setRow g cs) B p :=
  h.far (grownBy_setRow w g cs) (fun y hy e => by simp at e; omega)

set_option maxRecDepth 100000 in
set_option maxHeartbeats 1000000 in
theorem l72Hold_any (B p : Nat) (w : World) (hr : Rd w B p) (hp : p ≤ 900000) :
    Calls Try.prog 39 #[.pointer (some ⟨B, 0, none⟩)] w fun e w' => ∃ x : Hd, e = .returned (hdV x) ∧ Rd w' B (p + 3) ∧ w.grownBy w' (some B) := by
  have hBl := hr.lt
  have HRD := hide (hr.allocK (o := .cells #[.int .i64 0, .int .i64 0, .bool false, .bool false] 27))
  have HX := hide (Bx.made w 27 #[.int .i64 0, .int .i64 0, .bool false, .bool false])
  have HG := hide (World.grownBy_alloc w (.cells #[.int .i64 0, .int .i64 0, .bool false, .bool false] 27) (some B))
  have hneB : some w.heap.size ≠ some B := by intro e; simp at e; omega
  clear hr
  go_enter Try.func39, Try.ntmps39
  go_wp2_with fail
  refine (pick_any B p 7 _ (unhide HRD) (by omega) (by omega)).mono ?_; rintro e w1 ⟨k1, rfl, a1, b1, r1, g1, -⟩
  have b1' := b1 (by omega)
  have hw1 : IntKind.i64.wrap (1 + k1) = 1 + k1 := by rw [IntKind.wrap_i64]; omega
  have HR1 := hide r1
  have HX1 := hide ((unhide HX).far g1 hneB)
  have HG1 := hide (grownBy_trans (unhide HG) g1)
  clear r1 g1 b1 HRD HX HG
  go_wp2_with fail
  refine (pick_any B (p + 1) 3 _ (unhide HR1) (by omega) (by omega)).mono ?_; rintro e w2 ⟨k2, rfl, a2, b2, r2, g2, -⟩
  have b2' := b2 (by omega)
  have hw2 : IntKind.i64.wrap (1 + k2) = 1 + k2 := by rw [IntKind.wrap_i64]; omega
  have HR2 := hide r2
  have HX2 := hide ((unhide HX1).far g2 hneB)
  have HG2 := hide (grownBy_trans (unhide HG1) g2)
  clear r2 g2 b2 HR1 HX1 HG1
  go_wp2_with fail
  refine (pick_any B (p + 1 + 1) 3 _ (unhide HR2) (by omega) (by omega)).mono ?_; rintro e w3 ⟨k3, rfl, a3, b3, r3, g3, -⟩
  have HR3 := hide r3
  have HX3 := hide ((unhide HX2).far g3 hneB)
  have HG3 := hide (grownBy_trans (unhide HG2) g3)
  clear r3 g3 b3 HR2 HX2 HG2
  go_wp2_with (refine wpList_store_row rfl 27 _ _ rfl w.heap.size _ rfl rfl 27 _ (unhide HX3).row (by kernel_rfl) rfl (by simp [Value.oneCell']) ?_)
  refine bodyPost_ret (results_cell_row rfl _ _ w.heap.size _ _ _ _ rfl (setRow_heap _ _ _ _ _ _ (unhide HX3).row) Try.underlying27 rfl (by kernel_rfl)) rfl ?_
  exact ⟨⟨1 + k1, 1 + k2, _, false⟩, rfl, (unhide HR3).rowD hBl _, grownBy_rowD (unhide HG3) (Nat.le_refl _) _⟩

end Go.Proofs.Ytoojnhodjkpecaa
