/- The program puts a hold in order. -/
import Derived.Test.YtoojnhodjkpecaaLkIA
import Derived.Test.YtoojnhodjkpecaaLkI8
namespace Go.Proofs.Ytoojnhodjkpecaa
open Go.RowKit Go.Shelf

def posI (hs : List Hd) (s : Int) : Nat := hs.findIdx (fun h => !decide (h.stamp < s))
def putI (hs : List Hd) (x : Hd) : List Hd := insAt hs (posI hs x.stamp) x

theorem posI_le (hs : List Hd) (s : Int) : posI hs s ≤ hs.length := List.findIdx_le_length
theorem posI_at {hs : List Hd} {s : Int} {k : Nat} (hk : k < hs.length) (h : ¬ (hs.getD k Hd.z).stamp < s) (hn : ∀ j, j < k → (hs.getD j Hd.z).stamp < s) : posI hs s = k := by
  unfold posI
  rw [List.findIdx_eq hk]
  refine ⟨by simpa [List.getD, hk] using h, fun j hj => ?_⟩
  have := hn j hj
  simpa [List.getD, show j < hs.length by omega] using this
theorem posI_end {hs : List Hd} {s : Int} (hn : ∀ j, j < hs.length → (hs.getD j Hd.z).stamp < s) : posI hs s = hs.length := by
  unfold posI
  rw [List.findIdx_eq_length]
  intro x hx
  obtain ⟨i, hi, rfl⟩ := List.getElem_of_mem hx
  have := hn i hi
  simpa [List.getD, hi] using this

theorem below_gr {w w' : World} (h : Below w.heap.size w w') (row : Option Nat) : w.grownBy w' row := ⟨h.os, h.tape, h.output, h.size, fun k hk _ => h.block k hk⟩

set_option maxRecDepth 100000 in
set_option maxHeartbeats 1000000 in
theorem putInOrder_any (v : Value) (hs : List Hd) (x : Hd) (base : Nat) (w : World) (hown : w.ownsRow base 27 4 v hs.length (hs.flatMap hdE)) (hn : hs.length ≤ 1000) (hbase : base ≤ w.heap.size) :
    Calls Try.prog 72 #[v, hdV x, .func (.func 73) #[] #[]] w fun e w' => ∃ r, e = .returned r ∧ w'.ownsRow base 27 4 r (putI hs x).length ((putI hs x).flatMap hdE) ∧ w.grownBy w' v.ownBlock ∧ (r.ownBlock = v.ownBlock ∨ ∃ q, r.ownBlock = some q ∧ w.heap.size ≤ q) := by
  have HO := hide hown
  have HV := hide (RowAt.of_own hown)
  have HLT := hide (fun q hq => (hown.lt q hq).2)
  obtain ⟨a, cap, rfl, -⟩ := ownsRow_slice hown
  have HP : Hid (putI hs x = insAt hs (posI hs x.stamp) x) := rfl
  have HIN := hide (fun i vb ww ho hi hb hbb hne => insert_any (.slice a hs.length cap) hs i x base vb ww ho hi hn hb hbb hne)
  have HPA := hide (fun k hk h hn => posI_at (hs := hs) (s := x.stamp) (k := k) hk h hn)
  have HPE := hide (fun hn => posI_end (hs := hs) (s := x.stamp) hn)
  unfold hdV
  clear hown
  generalize hN : hs.length = N at *
  have HN := hide hN
  clear hN
  go_enter Try.func72, Try.ntmps72
  go_wp2_with fail
  go_loopw [7] (fun i wr => ∃ k : Nat, k ≤ N ∧ i = .int .i64 k ∧ (∀ j, j < k → (hs.getD j Hd.z).stamp < x.stamp) ∧ Bx wr w.heap.size 27 #[.int .i64 x.stamp, .int .i64 x.try_, .bool x.share, .bool x.firm] ∧ Below w.heap.size w wr) (fun i _ => N - (intOf i).toNat)
  case atStart => exact ⟨0, Nat.zero_le _, rfl, fun j hj => by omega, Bx.made w _ _, (Below.refl _ _).alloc (Nat.le_refl _) _⟩
  case round =>
    obtain ⟨k, hk, rfl, hno, hbx, hb⟩ := hrel
    have HNO := hide hno
    have HBX := hide hbx
    have HB := hide hb
    have hk0' : (0 : Int) ≤ (k : Int) := by omega
    have hent : ∀ args w, (callFunc 73 args).run Try.prog w = .ok (.enter 73 args) w := enters_of Try.func73 (by kernel_rfl) rfl
    have hz := hbx.lt
    clear hno hbx hb
    by_cases hlt : k < N
    · obtain ⟨b, off, rfl⟩ := (unhide HV).some_of (by rw [unhide HN]; omega)
      obtain ⟨c0, c1, c2, c3⟩ := hd_cells ((unhide HV).kept (unhide HB)) (i := k) (by rw [unhide HN]; exact hlt)
      obtain ⟨d0, d1, d2, d3⟩ := (unhide HBX).four
      generalize hy : hs.getD k Hd.z = y at c0 c1 c2 c3
      have HY := hide hy
      have p0 := fun d os => cell_regrown c0 d os
      have p1 := fun d os => cell_regrown c1 d os
      have p2 := fun d os => cell_regrown c2 d os
      have p3 := fun d os => cell_regrown c3 d os
      have q0 := fun d os => cell_regrown d0 d os
      have q1 := fun d os => cell_regrown d1 d os
      have q2 := fun d os => cell_regrown d2 d os
      have q3 := fun d os => cell_regrown d3 d os
      have hkI : (k : Int) < (N : Int) := by omega
      clear hy c0 c1 c2 c3 d0 d1 d2 d3
      go_wp2_with fail
      refine wp_region_quiet_below (by kernel_rfl) (by kernel_rfl) ?_
      repeat (go_big_quiet_step ((first | (go_at_call 73; refine Calls.regrown_of (stampOf_any y _)) | (go_at_call 73; refine Calls.regrown_of (stampOf_any x _)))))
      refine wpQuiet_nil ?_
      intro w9 hw9
      have hb9 : Below wr.heap.size wr w9 := by obtain ⟨p, e⟩ := hw9; rw [e]; exact below_regrown _ _ _
      have HB9 := hide ((unhide HB).trans (hb9.mono (unhide HB).size))
      have HX9 := hide ((unhide HBX).kept hb9)
      clear hw9 hb9 p0 p1 p2 p3 q0 q1 q2 q3
      by_cases hyx : y.stamp < x.stamp
      · have HYX := hide hyx
        go_wp2_with fail
        go_roundw
        case rel =>
          refine ⟨k + 1, hlt, by go_num, fun j hj => ?_, unhide HX9, unhide HB9⟩
          by_cases e : j = k
          · subst e; rw [unhide HY]; exact unhide HYX
          · exact unhide HNO j (by omega)
        case measure => simp [intOf]; omega
      · have HE : Hid (posI hs x.stamp = k) := unhide HPA k (by omega) (by rw [unhide HY]; omega) (unhide HNO)
        obtain ⟨q0, q1, q2, q3⟩ := (unhide HX9).four
        have HO9 := hide (ownsRow_below (unhide HO) (unhide HB9))
        have z9 := (unhide HB9).size
        have hbA : Below w9.heap.size w9 (w9.alloc (.cells #[.int .i64 x.stamp, .int .i64 x.try_, .bool x.share, .bool x.firm] 27)) := (Below.refl _ _).alloc (Nat.le_refl _) _
        have HOA := hide (ownsRow_below (unhide HO9) hbA)
        have HBA := hide ((unhide HB9).trans (hbA.mono z9))
        clear hbA
        go_wp2_with fail
        refine (unhide HIN k w9.heap.size _ (unhide HOA) (by omega) (Bx.made w9 _ _) (by simp; omega) (fun e => by have := unhide HLT _ e; omega)).mono ?_
        rintro e w8 ⟨r, rfl, ho8, hg8, ha8⟩
        have HO8 := hide ho8
        have HG8 := hide hg8
        have HA8 := hide ha8
        clear ho8 hg8 ha8
        go_wp2_with fail
        go_ret
        rw [unhide HP, unhide HE]
        exact ⟨r, rfl, unhide HO8, grownBy_trans (below_gr (unhide HBA) _) (unhide HG8), (unhide HA8).elim .inl (fun h => .inr ⟨_, h, by simp; omega⟩)⟩
    · obtain rfl : k = N := by omega
      have HE : Hid (posI hs x.stamp = k) := by show posI hs x.stamp = k; rw [unhide HPE (unhide HNO)]
      have hnl : ¬ (k : Int) < (k : Int) := by omega
      obtain ⟨q0, q1, q2, q3⟩ := (unhide HBX).four
      have p0 := fun d os => cell_regrown q0 d os
      have p1 := fun d os => cell_regrown q1 d os
      have p2 := fun d os => cell_regrown q2 d os
      have p3 := fun d os => cell_regrown q3 d os
      clear q0 q1 q2 q3
      go_wp2_with fail
      refine wp_region_quiet_below (by kernel_rfl) (by kernel_rfl) ?_
      repeat (go_big_quiet_step (fail))
      refine wpQuiet_nil ?_
      intro w9 hw9
      have hb9 : Below wr.heap.size wr w9 := by obtain ⟨p, e⟩ := hw9; rw [e]; exact below_regrown _ _ _
      have HB9 := hide ((unhide HB).trans (hb9.mono (unhide HB).size))
      have HX9 := hide ((unhide HBX).kept hb9)
      clear hw9 hb9 p0 p1 p2 p3
      obtain ⟨q0, q1, q2, q3⟩ := (unhide HX9).four
      have HO9 := hide (ownsRow_below (unhide HO) (unhide HB9))
      have z9 := (unhide HB9).size
      have hbA : Below w9.heap.size w9 (w9.alloc (.cells #[.int .i64 x.stamp, .int .i64 x.try_, .bool x.share, .bool x.firm] 27)) := (Below.refl _ _).alloc (Nat.le_refl _) _
      have HOA := hide (ownsRow_below (unhide HO9) hbA)
      have HBA := hide ((unhide HB9).trans (hbA.mono z9))
      clear hbA
      go_wp2_with fail
      refine (unhide HIN k w9.heap.size _ (unhide HOA) (by omega) (Bx.made w9 _ _) (by simp; omega) (fun e => by have := unhide HLT _ e; omega)).mono ?_
      rintro e w8 ⟨r, rfl, ho8, hg8, ha8⟩
      have HO8 := hide ho8
      have HG8 := hide hg8
      have HA8 := hide ha8
      clear ho8 hg8 ha8
      go_wp2_with fail
      go_ret
      rw [unhide HP, unhide HE]
      exact ⟨r, rfl, unhide HO8, grownBy_trans (below_gr (unhide HBA) _) (unhide HG8), (unhide HA8).elim .inl (fun h => .inr ⟨_, h, by simp; omega⟩)⟩

end Go.Proofs.Ytoojnhodjkpecaa
