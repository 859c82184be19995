/- Statements written: the program's way. -/
import Derived.Test.YtedlhepbbefikaaGreatDoorDcI1
import Derived.Test.YtedlhepbbefikaaGreatDoorSteps
import Derived.Test.YtedlhepbbefikaaGreatDoorSh
import Derived.Lib.AppendIntMem
namespace Go.Proofs.YtedlhepbbefikaaGreatDoor
open Go.RowKit

/-- What the library's functions ask of the package variables. -/
structure GW (w : World) : Prop where
  mx : ∃ m : Int, w.cell? ⟨0, 0, none⟩ = some (.int .i64 m)
  sy : ∃ t p, w.cell? ⟨1, 0, none⟩ = some (.iface t p)
  rg : ∃ t p, w.cell? ⟨2, 0, none⟩ = some (.iface t p)
  tb : Lib.TabIs Tryz.prog w "internal/strconv.uint64pow10" .u64 Lib.pow10Tab

theorem Tryz.globPow : Tryz.prog.globalNamed "internal/strconv.uint64pow10" = some 5 := by kernel_rfl
theorem GW.kept {w w' : World} (h : GW w) (hb : Below w.heap.size w w') : GW w' := by
  obtain ⟨⟨m, h1⟩, ⟨t, p, h2⟩, ⟨u, q, h3⟩, h4⟩ := h
  refine ⟨⟨m, cell_kept hb h1⟩, ⟨t, p, cell_kept hb h2⟩, ⟨u, q, cell_kept hb h3⟩, ?_⟩
  have hc := lt_of_cell (h4.cell Tryz.globPow 0 (by decide))
  have : w'.var? Tryz.prog "internal/strconv.uint64pow10" = w.var? Tryz.prog "internal/strconv.uint64pow10" := by
    unfold World.var?
    simp only [Tryz.globPow]
    have e := hb.block _ hc
    simp only at e
    simp [e]
  exact this.trans h4

theorem itoa_any (n : Int) (w : World) (h : GW w) (h0 : -100000 ≤ n) (h1 : n ≤ 100000) :
    Calls Tryz.prog 107 #[.int .i64 n] w fun e w' => e = .returned (.string (bsL (Lib.itoa n))) ∧ Below w.heap.size w w' := by
  refine (Tryz.strconv_Itoa n (by omega) (by omega) w h.tb).mono ?_
  rintro e w' ⟨rfl, k, os, rfl⟩
  exact ⟨rfl, Lib.below_grow _ w (Nat.le_refl _) k os⟩

set_option maxRecDepth 100000 in
set_option maxHeartbeats 1000000 in
theorem keyAndNum_any (k n : Int) (w : World) (h : GW w) (k0 : 0 ≤ k) (k1 : k ≤ 31) (h0 : -9999 ≤ n) (h1 : n ≤ 9999) :
    Calls Tryz.prog 143 #[.int .i64 k, .int .i64 n] w fun e w' => e = .returned (.string (((bsL (Lib.itoa k) ++ ⟨#[32]⟩) ++ bsL (Lib.itoa n)) ++ ⟨#[59]⟩)) ∧ Below w.heap.size w w' := by
  have HI := hide (fun n ww h h0 h1 => itoa_any n ww h h0 h1)
  have hk := itoa_len (n := k) (by omega) (by omega)
  have hn := itoa_len (n := n) (by omega) (by omega)
  have hks : (bsL (Lib.itoa k)).size ≤ 6 := by rw [bsL_size]; omega
  have hns : (bsL (Lib.itoa n)).size ≤ 6 := by rw [bsL_size]; omega
  have HG := hide h
  clear h hk hn
  go_enter Tryz.func143, Tryz.ntmps143
  go_wp2_with fail
  refine (unhide HI k _ (unhide HG) (by omega) (by omega)).mono ?_; rintro e w1 ⟨rfl, hb1⟩
  have HB1 := hide hb1
  clear hb1
  go_wp2_with fail
  refine (unhide HI n _ ((unhide HG).kept (unhide HB1)) (by omega) (by omega)).mono ?_; rintro e w2 ⟨rfl, hb2⟩
  have HB2 := hide ((unhide HB1).trans (hb2.mono (unhide HB1).size))
  clear hb2
  go_wp2_with fail
  go_ret
  exact ⟨rfl, unhide HB2⟩

set_option maxRecDepth 100000 in
set_option maxHeartbeats 1000000 in
theorem getText_any (k : Int) (w : World) (h : GW w) (k0 : 0 ≤ k) (k1 : k ≤ 31) :
    Calls Tryz.prog 141 #[.agg #[.int .i64 k]] w fun e w' => e = .returned (.string (bsL (stL ⟨1, k, 0⟩))) ∧ Below w.heap.size w w' := by
  have HI := hide (fun n ww h h0 h1 => itoa_any n ww h h0 h1)
  have hk := itoa_len (n := k) (by omega) (by omega)
  have hks : (bsL (Lib.itoa k)).size ≤ 6 := by rw [bsL_size]; omega
  have HG := hide h
  have bA : Below w.heap.size w (w.alloc (.cells #[.int .i64 k] 133)) := (Below.refl _ _).alloc (Nat.le_refl _) _
  have HA := hide bA
  clear h hk bA
  go_enter Tryz.func141, Tryz.ntmps141
  go_wp2_with fail
  refine (unhide HI k _ ((unhide HG).kept (unhide HA)) (by omega) (by omega)).mono ?_; rintro e w1 ⟨rfl, hb1⟩
  have HB1 := hide ((unhide HA).trans (hb1.mono (unhide HA).size))
  clear hb1
  go_wp2_with fail
  go_ret
  refine ⟨ret_val ?_, unhide HB1⟩
  rw [show (⟨#[103, 101, 116, 32]⟩ : ByteArray) = bsL [103, 101, 116, 32] from rfl, show (⟨#[59]⟩ : ByteArray) = bsL [59] from rfl, bsL_app, bsL_app]
  rfl

set_option maxRecDepth 100000 in
set_option maxHeartbeats 1000000 in
theorem putText_any (k n : Int) (w : World) (h : GW w) (k0 : 0 ≤ k) (k1 : k ≤ 31) (h0 : -9999 ≤ n) (h1 : n ≤ 9999) :
    Calls Tryz.prog 142 #[.agg #[.int .i64 k, .int .i64 n]] w fun e w' => e = .returned (.string (bsL (stL ⟨2, k, n⟩))) ∧ Below w.heap.size w w' := by
  have HI := hide (fun ww h => keyAndNum_any k n ww h k0 k1 h0 h1)
  have hk := itoa_len (n := k) (by omega) (by omega)
  have hn := itoa_len (n := n) (by omega) (by omega)
  have hks : ((((bsL (Lib.itoa k) ++ ⟨#[32]⟩) ++ bsL (Lib.itoa n)) ++ ⟨#[59]⟩) : ByteArray).size ≤ 14 := by
    rw [show (⟨#[59]⟩ : ByteArray) = bsL [59] from rfl, show (⟨#[32]⟩ : ByteArray) = bsL [32] from rfl, bsL_app, bsL_app, bsL_app, bsL_size]
    simp; omega
  have he : (⟨#[112, 117, 116, 32]⟩ : ByteArray) ++ (((bsL (Lib.itoa k) ++ ⟨#[32]⟩) ++ bsL (Lib.itoa n)) ++ ⟨#[59]⟩) = bsL (stL ⟨2, k, n⟩) := by
    rw [show (⟨#[112, 117, 116, 32]⟩ : ByteArray) = bsL [112, 117, 116, 32] from rfl, show (⟨#[59]⟩ : ByteArray) = bsL [59] from rfl, show (⟨#[32]⟩ : ByteArray) = bsL [32] from rfl, bsL_app, bsL_app, bsL_app, bsL_app]
    congr 1
    simp [stL, bodyL, opW]
  have HE := hide he
  have HG := hide h
  have bA : Below w.heap.size w (w.alloc (.cells #[.int .i64 k, .int .i64 n] 135)) := (Below.refl _ _).alloc (Nat.le_refl _) _
  have HA := hide bA
  clear h hk hn bA he
  generalize (((bsL (Lib.itoa k) ++ ⟨#[32]⟩) ++ bsL (Lib.itoa n)) ++ ⟨#[59]⟩) = X at *
  go_enter Tryz.func142, Tryz.ntmps142
  go_wp2_with fail
  refine (unhide HI _ ((unhide HG).kept (unhide HA))).mono ?_; rintro e w1 ⟨rfl, hb1⟩
  have HB1 := hide ((unhide HA).trans (hb1.mono (unhide HA).size))
  clear hb1
  go_wp2_with fail
  go_ret
  exact ⟨ret_val (by rw [← unhide HE]; rfl), unhide HB1⟩

set_option maxRecDepth 100000 in
set_option maxHeartbeats 1000000 in
theorem addText_any (k n : Int) (w : World) (h : GW w) (k0 : 0 ≤ k) (k1 : k ≤ 31) (h0 : -9999 ≤ n) (h1 : n ≤ 9999) :
    Calls Tryz.prog 144 #[.agg #[.int .i64 k, .int .i64 n]] w fun e w' => e = .returned (.string (bsL (stL ⟨3, k, n⟩))) ∧ Below w.heap.size w w' := by
  have HI := hide (fun ww h => keyAndNum_any k n ww h k0 k1 h0 h1)
  have hk := itoa_len (n := k) (by omega) (by omega)
  have hn := itoa_len (n := n) (by omega) (by omega)
  have hks : ((((bsL (Lib.itoa k) ++ ⟨#[32]⟩) ++ bsL (Lib.itoa n)) ++ ⟨#[59]⟩) : ByteArray).size ≤ 14 := by
    rw [show (⟨#[59]⟩ : ByteArray) = bsL [59] from rfl, show (⟨#[32]⟩ : ByteArray) = bsL [32] from rfl, bsL_app, bsL_app, bsL_app, bsL_size]
    simp; omega
  have he : (⟨#[97, 100, 100, 32]⟩ : ByteArray) ++ (((bsL (Lib.itoa k) ++ ⟨#[32]⟩) ++ bsL (Lib.itoa n)) ++ ⟨#[59]⟩) = bsL (stL ⟨3, k, n⟩) := by
    rw [show (⟨#[97, 100, 100, 32]⟩ : ByteArray) = bsL [97, 100, 100, 32] from rfl, show (⟨#[59]⟩ : ByteArray) = bsL [59] from rfl, show (⟨#[32]⟩ : ByteArray) = bsL [32] from rfl, bsL_app, bsL_app, bsL_app, bsL_app]
    congr 1
    simp [stL, bodyL, opW]
  have HE := hide he
  have HG := hide h
  have bA : Below w.heap.size w (w.alloc (.cells #[.int .i64 k, .int .i64 n] 136)) := (Below.refl _ _).alloc (Nat.le_refl _) _
  have HA := hide bA
  clear h hk hn bA he
  generalize (((bsL (Lib.itoa k) ++ ⟨#[32]⟩) ++ bsL (Lib.itoa n)) ++ ⟨#[59]⟩) = X at *
  go_enter Tryz.func144, Tryz.ntmps144
  go_wp2_with fail
  refine (unhide HI _ ((unhide HG).kept (unhide HA))).mono ?_; rintro e w1 ⟨rfl, hb1⟩
  have HB1 := hide ((unhide HA).trans (hb1.mono (unhide HA).size))
  clear hb1
  go_wp2_with fail
  go_ret
  exact ⟨ret_val (by rw [← unhide HE]; rfl), unhide HB1⟩

set_option maxRecDepth 100000 in
set_option maxHeartbeats 1000000 in
theorem needText_any (k n : Int) (w : World) (h : GW w) (k0 : 0 ≤ k) (k1 : k ≤ 31) (h0 : -9999 ≤ n) (h1 : n ≤ 9999) :
    Calls Tryz.prog 145 #[.agg #[.int .i64 k, .int .i64 n]] w fun e w' => e = .returned (.string (bsL (stL ⟨4, k, n⟩))) ∧ Below w.heap.size w w' := by
  have HI := hide (fun ww h => keyAndNum_any k n ww h k0 k1 h0 h1)
  have hk := itoa_len (n := k) (by omega) (by omega)
  have hn := itoa_len (n := n) (by omega) (by omega)
  have hks : ((((bsL (Lib.itoa k) ++ ⟨#[32]⟩) ++ bsL (Lib.itoa n)) ++ ⟨#[59]⟩) : ByteArray).size ≤ 14 := by
    rw [show (⟨#[59]⟩ : ByteArray) = bsL [59] from rfl, show (⟨#[32]⟩ : ByteArray) = bsL [32] from rfl, bsL_app, bsL_app, bsL_app, bsL_size]
    simp; omega
  have he : (⟨#[110, 101, 101, 100, 32]⟩ : ByteArray) ++ (((bsL (Lib.itoa k) ++ ⟨#[32]⟩) ++ bsL (Lib.itoa n)) ++ ⟨#[59]⟩) = bsL (stL ⟨4, k, n⟩) := by
    rw [show (⟨#[110, 101, 101, 100, 32]⟩ : ByteArray) = bsL [110, 101, 101, 100, 32] from rfl, show (⟨#[59]⟩ : ByteArray) = bsL [59] from rfl, show (⟨#[32]⟩ : ByteArray) = bsL [32] from rfl, bsL_app, bsL_app, bsL_app, bsL_app]
    congr 1
    simp [stL, bodyL, opW]
  have HE := hide he
  have HG := hide h
  have bA : Below w.heap.size w (w.alloc (.cells #[.int .i64 k, .int .i64 n] 137)) := (Below.refl _ _).alloc (Nat.le_refl _) _
  have HA := hide bA
  clear h hk hn bA he
  generalize (((bsL (Lib.itoa k) ++ ⟨#[32]⟩) ++ bsL (Lib.itoa n)) ++ ⟨#[59]⟩) = X at *
  go_enter Tryz.func145, Tryz.ntmps145
  go_wp2_with fail
  refine (unhide HI _ ((unhide HG).kept (unhide HA))).mono ?_; rintro e w1 ⟨rfl, hb1⟩
  have HB1 := hide ((unhide HA).trans (hb1.mono (unhide HA).size))
  clear hb1
  go_wp2_with fail
  go_ret
  exact ⟨ret_val (by rw [← unhide HE]; rfl), unhide HB1⟩

end Go.Proofs.YtedlhepbbefikaaGreatDoor
