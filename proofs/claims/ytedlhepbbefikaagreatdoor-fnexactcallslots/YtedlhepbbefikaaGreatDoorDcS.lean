/- Numbers in decimals: the specification's way. -/
import Derived.Test.YtedlhepbbefikaaGreatDoorLeafI
import Derived.Test.YtedlhepbbefikaaGreatDoorBase2
import Derived.Deep.RegionHeld3
import Derived.Lib.ItoaNum
import Derived.Laws.IdiomStrings
namespace Go.Proofs.YtedlhepbbefikaaGreatDoor
open Go.RowKit

/-- A digit. -/
def dgB (x : Nat) : UInt8 := UInt8.ofNat (48 + x)
/-- The decimals of a number that is not below 0. -/
def decS (n : Nat) : ByteArray := ⟨(Lib.decDigits n).toArray⟩
theorem decS_small {n : Nat} (h : n < 10) : decS n = ⟨#[dgB n]⟩ := by unfold decS; rw [Lib.decDigits, dif_pos h]; rfl
theorem decS_big {n : Nat} (h : ¬ n < 10) : decS n = decS (n / 10) ++ ⟨#[dgB (n % 10)]⟩ := by
  unfold decS; rw [Lib.decDigits, dif_neg h]; apply ByteArray.ext; simp [dgB]
theorem decS_size : ∀ (k n : Nat), n < 10 ^ (k + 1) → (decS n).size ≤ k + 1
  | 0, n, h => by rw [decS_small (by simpa using h)]; exact Nat.le_refl _
  | k + 1, n, h => by
    by_cases hn : n < 10
    · rw [decS_small hn]; show 1 ≤ _; omega
    · rw [decS_big hn, ByteArray.size_append]
      have := decS_size k (n / 10) (by rw [Nat.div_lt_iff_lt_mul (by omega)]; rwa [Nat.pow_succ] at h)
      show _ + 1 ≤ _
      omega

theorem conv_digit (x : Nat) (h : x < 10) (y : Int) (hy : y = 48 + (x : Int)) (w' : World) (b : Nat) (hc : w'.cell? ⟨b, 0, none⟩ = some (.int .u8 y)) :
    (convert 22 9 (.slice (some ⟨b, 0, none⟩) 1 1)).run Tryz.prog w' = .ok (.string ⟨#[dgB x]⟩) w' := by
  subst hy
  have := run_convert_bytes_back (P := Tryz.prog) w' 22 9 5 ⟨b, 0, none⟩ 1 [dgB x] Tryz.underlying22 Tryz.underlying5 Tryz.underlying9 (fun j hj => by
    have hj0 : j = 0 := by simp at hj; omega
    subst hj0
    rw [Addr.add_lit, hc]
    simp [dgB]
    omega)
  simpa using this

set_option maxRecDepth 100000 in
set_option maxHeartbeats 1000000 in
theorem l6Dec_small (n : Nat) (w : World) (h : n < 10) :
    Calls Tryz.prog 52 #[.int .i64 n] w fun e w' => e = .returned (.string (decS n)) ∧ Below w.heap.size w w' := by
  have hcv : (convert 22 9 (.slice (some ⟨w.heap.size, 0, none⟩) 1 1)).run Tryz.prog (w.alloc (.cells #[.int .u8 (48 + (n : Int))] 5)) = .ok (.string ⟨#[dgB n]⟩) (w.alloc (.cells #[.int .u8 (48 + (n : Int))] 5)) := conv_digit n h _ rfl _ _ (by rw [cell_of_row _ _ 0 _ _ _ (heap_alloc_new _ _)]; rfl)
  rw [decS_small h]
  have hn1 : ¬ (n : Int) < -9223372036854775807 := by omega
  have hn2 : ¬ (n : Int) < 0 := by omega
  have hn3 : (n : Int) < 10 := by omega
  go_enter Tryz.func52, Tryz.ntmps52
  go_wp2_with fail
  go_ret
  exact ⟨rfl, (Below.refl _ _).alloc (Nat.le_refl _) _⟩

set_option maxRecDepth 100000 in
set_option maxHeartbeats 4000000 in
theorem l6Dec_step (n : Nat) (w : World) (h : ¬ n < 10) (h2 : n < 1000000000000000000) (ih : ∀ ww, Calls Tryz.prog 52 #[.int .i64 ((n / 10 : Nat) : Int)] ww fun e w' => e = .returned (.string (decS (n / 10))) ∧ Below ww.heap.size ww w') :
    Calls Tryz.prog 52 #[.int .i64 n] w fun e w' => e = .returned (.string (decS n)) ∧ Below w.heap.size w w' := by
  have HIH := hide ih
  rw [decS_big h]
  have hds := decS_size 17 (n / 10) (by omega)
  have hx : n % 10 < 10 := Nat.mod_lt _ (by omega)
  have hn1 : ¬ (n : Int) < -9223372036854775807 := by omega
  have hn2 : ¬ (n : Int) < 0 := by omega
  have hn3 : ¬ (n : Int) < 10 := by omega
  have e1 : ((n / 10 : Nat) : Int) = (n : Int) / 10 := by omega
  rw [e1] at HIH
  have hwr : IntKind.i64.wrap ((n : Int) / 10) = (n : Int) / 10 := by rw [IntKind.wrap_i64]; omega
  have htm : (n : Int).tmod 10 = (n : Int) % 10 := Int.tmod_eq_emod_of_nonneg (by omega)
  have hw2 : IntKind.i64.wrap (48 + (n : Int) % 10) = 48 + (n : Int) % 10 := by rw [IntKind.wrap_i64]; omega
  have hw3 : IntKind.u8.wrap (48 + (n : Int) % 10) = 48 + (n : Int) % 10 := by show (48 + (n : Int) % 10) % (256 : Int) = _; omega
  clear ih e1
  go_enter Tryz.func52, Tryz.ntmps52
  go_wp2_with fail
  refine wp_region_held_drew (S := fun _ => True) (by kernel_rfl) trivial (fun hHeld => ?_)
  refine wpAnyH_take (i := 0) (v := ?v1) rfl (by kernel_rfl) (by kernel_rfl) (by kernel_rfl) (fun _ _ _ h => h) (Or.inl ⟨by rfl, ?h1⟩) (by assumption) ?_
  case h1 => (intro w0 hSw; clear hSw; go_simp; try (with_reducible rfl))
  try simp only [Act.put]
  refine wpAnyH_take (i := 3) (v := ?v2) rfl (by kernel_rfl) (by kernel_rfl) (by kernel_rfl) (fun _ _ _ h => h) (Or.inl ⟨by rfl, ?h2⟩) (by assumption) ?_
  case h2 => (intro w0 hSw; clear hSw; go_simp; try (with_reducible rfl))
  try simp only [Act.put]
  refine wpAnyH_take (i := 1) (v := ?v3) rfl (by kernel_rfl) (by kernel_rfl) (by kernel_rfl) (fun _ _ _ h => h) (Or.inl ⟨by rfl, ?h3⟩) (by assumption) ?_
  case h3 => (intro w0 hSw; clear hSw; go_simp; try (with_reducible rfl))
  try simp only [Act.put]
  refine wpAnyH_take (i := 4) (v := ?v4) rfl (by kernel_rfl) (by kernel_rfl) (by kernel_rfl) (fun _ _ _ h => h) (Or.inl ⟨by rfl, ?h4⟩) (by assumption) ?_
  case h4 => (intro w0 hSw; clear hSw; go_simp; try (with_reducible rfl))
  try simp only [Act.put]
  refine wpAnyH_take (i := 5) (v := ?v5) rfl (by kernel_rfl) (by kernel_rfl) (by kernel_rfl) (fun _ _ _ h => h) (Or.inl ⟨by rfl, ?h5⟩) (by assumption) ?_
  case h5 => (intro w0 hSw; clear hSw; go_simp; try (with_reducible rfl))
  try simp only [Act.put]
  refine wpAnyH_take (i := 6) (v := ?v6) rfl (by kernel_rfl) (by kernel_rfl) (by kernel_rfl) (fun _ _ _ h => h) (Or.inl ⟨by rfl, ?h6⟩) (by assumption) ?_
  case h6 => (intro w0 hSw; clear hSw; go_simp; try (with_reducible rfl))
  try simp only [Act.put]
  refine wpAnyH_ready (rs := [2, 7]) (by kernel_rfl) (by simp) ?_
  refine AllReadyH.cons rfl (fun K hK => ?_) (AllReadyH.cons rfl (fun K hK => ?_) AllReadyH.nil)
  ·
    go_simp
    go_at_call 52
    refine (unhide HIH _).mono ?_; rintro e w1 ⟨rfl, hb⟩
    have HB := hide hb
    clear hb
    try go_wp2_with fail
    clear hHeld
    refine hK.out _ _ trivial (fun hHeld => ?_)
    clear hK K
    refine wpAnyH_ready (rs := [7]) (by kernel_rfl) (by simp) ?_
    refine AllReadyH.cons rfl (fun K hK => ?_) AllReadyH.nil
    go_simp
    try go_wp2_with fail
    clear hHeld
    refine hK.out _ _ trivial (fun hHeld => ?_)
    clear hK K
    refine wpAnyH_ready (rs := [8]) (by kernel_rfl) (by simp) ?_
    refine AllReadyH.cons rfl (fun K hK => ?_) AllReadyH.nil
    have hcv := conv_digit (n % 10) hx (48 + (n : Int) % 10) (by omega) (w1.alloc (.cells #[.int .u8 (48 + (n : Int) % 10)] 5)) w1.heap.size (by rw [cell_of_row _ _ 0 _ _ _ (heap_alloc_new _ _)]; rfl)
    go_simp
    try go_wp2_with fail
    clear hHeld
    refine hK.out _ _ trivial (fun hHeld => ?_)
    clear hK K
    refine wpAnyH_take (i := 9) (v := ?v7) rfl (by kernel_rfl) (by kernel_rfl) (by kernel_rfl) (fun _ _ _ h => h) (Or.inl ⟨by rfl, ?h7⟩) (by assumption) ?_
    case h7 => (intro w0 hSw; clear hSw; go_simp; rw [if_neg (by omega)])
    try simp only [Act.put]
    refine wpAnyH_ready (rs := [10]) (by kernel_rfl) (by simp) ?_
    refine AllReadyH.cons rfl (fun K hK => ?_) AllReadyH.nil
    go_simp
    try go_wp2_with fail
    clear hHeld
    refine hK.out _ _ trivial (fun hHeld => ?_)
    clear hK K
    refine wpAnyH_done (by kernel_rfl) ?_ _
    go_wp2_with fail
    go_ret
    exact ⟨rfl, (((Below.refl _ _).drew).trans (unhide HB)).alloc (by have := (unhide HB).size; simpa using this) _⟩
  ·
    go_simp
    try go_wp2_with fail
    clear hHeld
    refine hK.out _ _ trivial (fun hHeld => ?_)
    clear hK K
    refine wpAnyH_ready (rs := [2, 8]) (by kernel_rfl) (by simp) ?_
    refine AllReadyH.cons rfl (fun K hK => ?_) (AllReadyH.cons rfl (fun K hK => ?_) AllReadyH.nil)
    ·
      go_simp
      go_at_call 52
      refine (unhide HIH _).mono ?_; rintro e w1 ⟨rfl, hb⟩
      have HB := hide hb
      clear hb
      try go_wp2_with fail
      clear hHeld
      refine hK.out _ _ trivial (fun hHeld => ?_)
      clear hK K
      refine wpAnyH_ready (rs := [8]) (by kernel_rfl) (by simp) ?_
      refine AllReadyH.cons rfl (fun K hK => ?_) AllReadyH.nil
      have hcv := conv_digit (n % 10) hx (48 + (n : Int) % 10) (by omega) w1 w.heap.size (cell_kept (unhide HB) (by show (w.alloc (.cells #[.int .u8 (48 + (n : Int) % 10)] 5)).cell? _ = _; rw [cell_of_row _ _ 0 _ _ _ (heap_alloc_new w _)]; rfl))
      go_simp
      try go_wp2_with fail
      clear hHeld
      refine hK.out _ _ trivial (fun hHeld => ?_)
      clear hK K
      refine wpAnyH_take (i := 9) (v := ?v8) rfl (by kernel_rfl) (by kernel_rfl) (by kernel_rfl) (fun _ _ _ h => h) (Or.inl ⟨by rfl, ?h8⟩) (by assumption) ?_
      case h8 => (intro w0 hSw; clear hSw; go_simp; rw [if_neg (by omega)])
      try simp only [Act.put]
      refine wpAnyH_ready (rs := [10]) (by kernel_rfl) (by simp) ?_
      refine AllReadyH.cons rfl (fun K hK => ?_) AllReadyH.nil
      go_simp
      try go_wp2_with fail
      clear hHeld
      refine hK.out _ _ trivial (fun hHeld => ?_)
      clear hK K
      refine wpAnyH_done (by kernel_rfl) ?_ _
      go_wp2_with fail
      go_ret
      exact ⟨rfl, (((Below.refl _ _).drew).alloc (Nat.le_refl _) _).trans ((unhide HB).mono (by simp))⟩
    ·
      have hcv := conv_digit (n % 10) hx (48 + (n : Int) % 10) (by omega) (w.alloc (.cells #[.int .u8 (48 + (n : Int) % 10)] 5)).drew w.heap.size (by show (w.alloc (.cells #[.int .u8 (48 + (n : Int) % 10)] 5)).cell? _ = _; rw [cell_of_row _ _ 0 _ _ _ (heap_alloc_new w _)]; rfl)
      go_simp
      try go_wp2_with fail
      clear hHeld
      refine hK.out _ _ trivial (fun hHeld => ?_)
      clear hK K
      refine wpAnyH_ready (rs := [2]) (by kernel_rfl) (by simp) ?_
      refine AllReadyH.cons rfl (fun K hK => ?_) AllReadyH.nil
      go_simp
      go_at_call 52
      refine (unhide HIH _).mono ?_; rintro e w1 ⟨rfl, hb⟩
      have HB := hide hb
      clear hb
      try go_wp2_with fail
      clear hHeld
      refine hK.out _ _ trivial (fun hHeld => ?_)
      clear hK K
      refine wpAnyH_take (i := 9) (v := ?v9) rfl (by kernel_rfl) (by kernel_rfl) (by kernel_rfl) (fun _ _ _ h => h) (Or.inl ⟨by rfl, ?h9⟩) (by assumption) ?_
      case h9 => (intro w0 hSw; clear hSw; go_simp; rw [if_neg (by omega)])
      try simp only [Act.put]
      refine wpAnyH_ready (rs := [10]) (by kernel_rfl) (by simp) ?_
      refine AllReadyH.cons rfl (fun K hK => ?_) AllReadyH.nil
      go_simp
      try go_wp2_with fail
      clear hHeld
      refine hK.out _ _ trivial (fun hHeld => ?_)
      clear hK K
      refine wpAnyH_done (by kernel_rfl) ?_ _
      go_wp2_with fail
      go_ret
      exact ⟨rfl, (((Below.refl _ _).drew).alloc (Nat.le_refl _) _).trans ((unhide HB).mono (by simp))⟩

theorem l6Dec_any : ∀ (k n : Nat) (w : World), n < 10 ^ (k + 1) → n < 1000000000000000000 →
    Calls Tryz.prog 52 #[.int .i64 n] w fun e w' => e = .returned (.string (decS n)) ∧ Below w.heap.size w w'
  | 0, n, w, h, _ => l6Dec_small n w (by simpa using h)
  | k + 1, n, w, h, h2 => by
    by_cases hn : n < 10
    · exact l6Dec_small n w hn
    · exact l6Dec_step n w hn h2 (fun ww => l6Dec_any k (n / 10) ww (by rw [Nat.div_lt_iff_lt_mul (by omega)]; rwa [Nat.pow_succ] at h) (by omega))

end Go.Proofs.YtedlhepbbefikaaGreatDoor
