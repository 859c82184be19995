/- How the laws compare, mark and hold bytes, and mark words. -/
import Derived.Test.YtfankbnlgmfdjaaPkS
import Derived.Test.YtfankbnlgmfdjaaRw
import Derived.Test.YtfankbnlgmfdjaaWdR
import Derived.Test.YtfankbnlgmfdjaaPrs3
namespace Go.Proofs.Ytfankbnlgmfdjaa
open Go.RowKit

def u8E (x : Int) : List Value := [.int .u8 x]
theorem u8E_flat (xs : List Int) : xs.flatMap u8E = xs.map (Value.int .u8) := by
  induction xs with
  | nil => rfl
  | cons x t ih => simp [u8E, ih]
theorem OwnB.at {w : World} {base : Nat} {v : Value} {bs : List Int} (h : OwnB w base v bs) : RowAt u8E w v bs := RowAt.of_own (by rw [u8E_flat]; exact h)
theorem OwnB.oin {w : World} {base : Nat} {v : Value} {bs : List Int} (h : OwnB w base v bs) : OwnIn w v bs.length base := by
  obtain ⟨h1, h2⟩ := h
  rcases h2 with ⟨rfl, h0⟩ | ⟨g, cap, cur, rfl, hg, hh, hc1, hc2, hs, ht⟩
  · exact .inl ⟨rfl, h0⟩
  · have hlt : g < w.heap.size := by
      rcases Nat.lt_or_ge g w.heap.size with hlt | hge
      · exact hlt
      · rw [Array.getElem?_eq_none hge] at hh; cases hh
    refine .inr ⟨g, cap, rfl, hg, hlt, fun j hj => ⟨?_, ?_⟩⟩
    · have : j < cur.size := by omega
      exact ⟨cur[j], by rw [cell_of_row w g j cur _ (0, 0) hh]; simp [this]⟩
    · simp [World.frozen?, hh]

set_option maxRecDepth 100000 in
set_option maxHeartbeats 1000000 in
theorem eqBytes_same (v u : Value) (xs : List Int) (w : World) (hv : RowAt u8E w v xs) (hu : RowAt u8E w u xs) :
    Calls Try.prog 19 #[v, u] w fun e w' => e = .returned (.bool true) ∧ Below w.heap.size w w' := by
  obtain ⟨a, cap, rfl, hl⟩ := hv.shape
  obtain ⟨a', cap', rfl, hl'⟩ := hu.shape
  have HV := hide hv
  have HU := hide hu
  clear hv hu
  generalize hN : xs.length = N at *
  have HN := hide hN
  clear hN
  unfold maxLen at hl hl'
  have hne : ((N : Int) != (N : Int)) = false := by simp
  go_enter Try.func19, Try.ntmps19
  go_wp2
  go_loopw [5] (fun i wr => ∃ k : Nat, k ≤ N ∧ i = .int .i64 k ∧ Below w.heap.size w wr) (fun i _ => N - (intOf i).toNat)
  case atStart => exact ⟨0, Nat.zero_le _, rfl, Below.refl _ _⟩
  case round =>
    obtain ⟨k, hk, rfl, hb⟩ := hrel
    have HB := hide hb
    clear hb
    by_cases hlt : k < N
    · obtain ⟨b, off, rfl⟩ := (unhide HV).some_of (by rw [unhide HN]; omega)
      obtain ⟨b', off', rfl⟩ := (unhide HU).some_of (by rw [unhide HN]; omega)
      have c0 := ((unhide HV).kept (unhide HB)).cellsAt (k := 1) (fun _ => rfl) 0 (i := k) (by rw [unhide HN]; exact hlt) (f := 0) rfl
      have d0 := ((unhide HU).kept (unhide HB)).cellsAt (k := 1) (fun _ => rfl) 0 (i := k) (by rw [unhide HN]; exact hlt) (f := 0) rfl
      simp only [Nat.mul_one, Nat.add_zero] at c0 d0
      generalize xs.getD k 0 = x at *
      have hxx : (x != x) = false := by simp
      have hkI : (k : Int) < (N : Int) := by omega
      have hk0 : (0 : Int) ≤ (k : Int) := by omega
      go_wp2
      go_quiet (fail)
      go_wp2
      go_roundw
      case rel => exact ⟨k + 1, hlt, by go_num, below_drewN (unhide HB) _⟩
      case measure => simp [intOf]; omega
    · go_wp2
      go_ret
      exact ⟨rfl, unhide HB⟩

/-- Marks lie there. -/
def ByMk (w : World) (g n : Nat) (k : Int) : Prop := ∀ i : Nat, i < n → w.cell? ⟨g, i, none⟩ = some (.int .u8 ((k + (i : Int)) % 256))

set_option maxHeartbeats 1000000 in
theorem markBytes_any (v : Value) (n lo : Nat) (k : Int) (w : World) (hn : n ≤ 1048576) (hk : 0 ≤ k) (hk' : k ≤ 100000000) (h : OwnIn w v n lo) :
    Calls Try.prog 21 #[v, .int .i64 k] w fun e w' => e = .returned (.int .i64 (k + (n : Int))) ∧ w.grownBy w' v.ownBlock ∧ ∃ a cap, v = .slice a n cap ∧ (n = 0 ∨ ∃ g, a = some ⟨g, 0, none⟩ ∧ ByMk w' g n k) := by
  rcases h with ⟨rfl, rfl⟩ | ⟨g, cap, rfl, hl, hlt, hr⟩
  · go_enter Try.func21, Try.ntmps21
    go_wp2
    refine wp_loop_rounds 1 ?_
    rw [rounds_succ]
    go_wp2
    go_ret
    exact ⟨ret_int (by simp), grownBy_refl _ _, none, 0, rfl, .inl (by first | rfl | trivial)⟩
  · go_enter Try.func21, Try.ntmps21
    go_wp2
    go_loopw [1, 5] (fun q i wr => ∃ j : Nat, j ≤ n ∧ i = .int .i64 j ∧ q = .int .i64 (k + (j : Int)) ∧ w.grownBy wr (some g) ∧ Room wr g n ∧ ByMk wr g j k) (fun _ i _ => n - (intOf i).toNat)
    case atStart => exact ⟨0, Nat.zero_le _, rfl, by simp, grownBy_refl _ _, hr, fun i hi => absurd hi (Nat.not_lt_zero _)⟩
    case round =>
      obtain ⟨j, hj, rfl, rfl, hg, hroom, hcs⟩ := hrel
      by_cases hlt2 : j < n
      · obtain ⟨⟨u0, r0⟩, f0⟩ := hroom j hlt2
        have HCS := hide hcs
        have HRM := hide hroom
        have HG := hide hg
        clear hcs hroom hg
        have hkj : 0 ≤ k + (j : Int) := by omega
        go_wp2
        go_roundw
        case rel =>
          refine ⟨j + 1, hlt2, by go_num, by go_num, grownBy_set (unhide HG) _ _, (unhide HRM).set _ _, fun i hi => ?_⟩
          by_cases e : i = j
          · subst e
            exact World.cell?_setCell_same _ _ _ r0
          · rw [cell_set_far (by omega)]; exact unhide HCS i (by omega)
        case measure => simp [intOf]; omega
      · go_wp2
        go_ret
        obtain rfl : j = n := by omega
        exact ⟨rfl, hg, _, _, rfl, .inr ⟨g, rfl, hcs⟩⟩

set_option maxHeartbeats 1000000 in
theorem heldBytes_any (a : Option Addr) (n cap : Nat) (k : Int) (w : World) (hn : n ≤ 1048576) (hk : 0 ≤ k) (hk' : k ≤ 100000000) (hc : n = 0 ∨ ∃ g, a = some ⟨g, 0, none⟩ ∧ ByMk w g n k) :
    Calls Try.prog 22 #[.slice a n cap, .int .i64 k] w fun e w' => e = .returned (.int .i64 (k + (n : Int))) ∧ w' = w := by
  go_enter Try.func22, Try.ntmps22
  go_wp2
  go_loop [1, 5] (fun q i => ∃ j : Nat, j ≤ n ∧ i = .int .i64 j ∧ q = .int .i64 (k + (j : Int))) (fun _ i => n - (intOf i).toNat)
  case atStart => exact ⟨0, Nat.zero_le _, rfl, by simp⟩
  case round =>
    obtain ⟨j, hj, rfl, rfl⟩ := hrel
    by_cases hlt : j < n
    · obtain ⟨g, rfl, hcs⟩ : ∃ g, a = some ⟨g, 0, none⟩ ∧ ByMk w g n k := by
        rcases hc with hc | hc
        · omega
        · exact hc
      have c0 := hcs j hlt
      have hkj : 0 ≤ k + (j : Int) := by omega
      have hnn : (((k + (j : Int)) % 256) != ((k + (j : Int)) % 256)) = false := by simp
      clear hcs hc
      go_wp2
      go_round
      case rel => exact ⟨j + 1, hlt, by go_num, by go_num⟩
      case measure => simp [intOf]; omega
    · go_wp2
      go_ret
      obtain rfl : j = n := by omega
      exact ⟨rfl, rfl⟩

set_option maxRecDepth 100000 in
set_option maxHeartbeats 4000000 in
theorem markWordR_any (W : Wd) (g1 g2 g3 : Nat) (w : World) (h1 : InsAtR w g1 W.slots) (h2 : PrsAtR w g2 W.prs) (h3 : InsAtR w g3 W.vals) (h12 : g1 < g2) (h23 : g2 < g3) (hf : WdFit W) :
    Calls Try.prog 20 #[wdV W (.slice (some ⟨g1, 0, none⟩) W.slots.length W.slots.length) (.slice (some ⟨g2, 0, none⟩) W.prs.length W.prs.length) (.slice (some ⟨g3, 0, none⟩) W.vals.length W.vals.length), .int .i64 1] w fun e w' => ∃ q : Int, 0 ≤ q ∧ e = .returned (.int .i64 q) ∧ Fw w w' (fun k => k = g1 ∨ k = g2 ∨ k = g3) := by
  obtain ⟨f1, f2, f3⟩ := hf
  have R1 := hide h1.room
  have R2 := hide h2.room
  have R3 := hide h3.room
  have l1 := h1.lt
  have l2 := h2.lt
  have l3 := h3.lt
  clear h1 h2 h3
  obtain ⟨kind, src, dst, stamp, try_, what, yes, slots, prs, code, vals, ses, num, ck, text, slot, house⟩ := W
  simp only [wdV, wdC] at *
  generalize slots.length = n1 at *
  generalize prs.length = n2 at *
  generalize vals.length = n3 at *
  obtain ⟨C, hC⟩ : ∃ C : Array Value, C = #[.int .i64 kind, .int .i64 src, .int .i64 dst, .int .i64 stamp, .int .i64 try_, .int .i64 what, .bool yes, .slice (some ⟨g1, 0, none⟩) n1 n1, .slice (some ⟨g2, 0, none⟩) n2 n2, .int .i64 code, .slice (some ⟨g3, 0, none⟩) n3 n3, .int .i64 ses, .int .i64 num, .int .i64 ck, .string text, .int .i64 slot, .int .i64 house] := ⟨_, rfl⟩
  have hb1 : Below w.heap.size w (w.alloc (.cells C 28)) := (Below.refl _ _).alloc (Nat.le_refl _) _
  have hx1 : Box (w.alloc (.cells C 28)) w.heap.size 28 C := Box.made _ _ _
  obtain ⟨wa, hwa⟩ : ∃ z, z = w.alloc (.cells C 28) := ⟨_, rfl⟩
  rw [← hwa] at hb1 hx1
  have zA : wa.heap.size = w.heap.size + 1 := by rw [hwa]; simp
  rw [hC] at hwa hx1
  clear hC
  have HFA : Hid (Fw w wa (fun k => k = g1 ∨ k = g2 ∨ k = g3)) := fw_below hb1 _
  have RA1 := hide ((unhide R1).kept hb1)
  have RA2 := hide ((unhide R2).kept hb1)
  have RA3 := hide ((unhide R3).kept hb1)
  have HXA := hide hx1
  clear hb1 hx1 R1 R2 R3
  go_enter Try.func20, Try.ntmps20
  go_wp2_with fail
  rw [← hwa]
  refine (markIns_own g1 n1 n1 1 wa f1 (by omega) (by omega) (unhide RA1)).mono ?_; rintro e w1 ⟨rfl, h1, -, -⟩
  have HX1 := hide ((unhide HXA).far h1 (fun e => by simp at e; omega))
  have HF1 : Hid (Fw w w1 (fun k => k = g1 ∨ k = g2 ∨ k = g3)) := (unhide HFA).trans (fw_gr h1) (fun i _ e => by simp at e; omega)
  have RB2 := hide ((unhide RA2).far h1 (fun e => by simp at e; omega))
  have RB3 := hide ((unhide RA3).far h1 (fun e => by simp at e; omega))
  have s8 := (unhide HX1).cell 8
  simp only [List.getElem?_toArray, List.getElem?_cons_succ, List.getElem?_cons_zero] at s8
  have lx1 := (unhide HX1).lt
  clear h1 hwa
  go_wp2_with fail
  refine (markPrs_own g2 n2 n2 (1 + (n1 : Int)) w1 f2 (by omega) (by omega) (unhide RB2)).mono ?_; rintro e w2 ⟨rfl, h2, -, -⟩
  have HX2 := hide ((unhide HX1).far h2 (fun e => by simp at e; omega))
  have HF2 : Hid (Fw w w2 (fun k => k = g1 ∨ k = g2 ∨ k = g3)) := (unhide HF1).trans (fw_gr h2) (fun i _ e => by simp at e; omega)
  have RC3 := hide ((unhide RB3).far h2 (fun e => by simp at e; omega))
  have s10 := (unhide HX2).cell 10
  simp only [List.getElem?_toArray, List.getElem?_cons_succ, List.getElem?_cons_zero] at s10
  have lx2 := (unhide HX2).lt
  clear h2 s8 lx1
  go_wp2_with fail
  refine (markIns_own g3 n3 n3 (1 + (n1 : Int) + 2 * (n2 : Int)) w2 f3 (by omega) (by omega) (unhide RC3)).mono ?_; rintro e w3 ⟨rfl, h3, -, -⟩
  have HF3 : Hid (Fw w w3 (fun k => k = g1 ∨ k = g2 ∨ k = g3)) := (unhide HF2).trans (fw_gr h3) (fun i _ e => by simp at e; omega)
  clear h3 s10 lx2
  go_wp2_with fail
  go_ret
  exact ⟨1 + (n1 : Int) + 2 * (n2 : Int) + (n3 : Int), by omega, rfl, unhide HF3⟩

end Go.Proofs.Ytfankbnlgmfdjaa
