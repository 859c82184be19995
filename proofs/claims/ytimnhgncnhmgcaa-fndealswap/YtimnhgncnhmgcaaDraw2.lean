/- How inputs are drawn: the reader is opened; pairs are drawn. -/
import Derived.Test.YtimnhgncnhmgcaaDraw1
import Derived.Test.YtimnhgncnhmgcaaSpecRun
namespace Go.Proofs.Ytimnhgncnhmgcaa
open Go.RowKit
attribute [local go_sem ↓] Go.wp_at_zero Go.wp_at_succ

def lack : Bool → Nat
  | true => 0
  | false => 1

theorem setP_length (ps : List Pr) (k v : Int) : (setP ps k v).length ≤ ps.length + 1 := by
  have key : ∀ (l : List Pr) (s : List Pr × Bool), (l.foldl (setStep k v) s).1.length + lack (l.foldl (setStep k v) s).2 ≤ s.1.length + lack s.2 + l.length := by
    intro l
    induction l with
    | nil => intro s; exact Nat.le_refl _
    | cons p r ih =>
      intro s
      have h1 := ih (setStep k v s p)
      have h2 : (setStep k v s p).1.length + lack (setStep k v s p).2 ≤ s.1.length + lack s.2 + 1 := by
        obtain ⟨L, d⟩ := s
        unfold setStep; dsimp only
        cases d <;> by_cases h1 : k ≤ p.key <;> by_cases h2 : p.key = k <;> simp [h1, h2, lack]
      simp only [List.foldl_cons, List.length_cons] at h1 ⊢; omega
  have h := key ps ([], false)
  cases hd : (setFold k v ps).2
  · have e : setP ps k v = (setFold k v ps).1 ++ [⟨k, v⟩] := by simp [setP, hd]
    rw [e, List.length_append]
    change (setFold k v ps).1.length + lack (setFold k v ps).2 ≤ 0 + 1 + ps.length at h
    rw [hd] at h; simp only [lack, List.length_cons, List.length_nil] at h ⊢; omega
  · have e : setP ps k v = (setFold k v ps).1 := by simp [setP, hd]
    rw [e]
    change (setFold k v ps).1.length + lack (setFold k v ps).2 ≤ 0 + 1 + ps.length at h
    rw [hd] at h; simp only [lack] at h; omega

set_option maxRecDepth 100000 in
set_option maxHeartbeats 2000000 in
theorem drawPairs_any (B p : Nat) (w : World) (hr : Rd w B p) (hp : p ≤ 900000) :
    Calls Try.prog 45 #[.pointer (some ⟨B, 0, none⟩)] w fun e w' => ∃ r L p', e = .returned r ∧ w'.ownsRow w.heap.size 39 2 r L.length (prFlat L) ∧ L.length ≤ 20 ∧ Rd w' B p' ∧ p' ≤ p + 100 ∧ w.grownBy w' (some B) := by
  have hBl := hr.lt
  have HRD := hide hr
  clear hr
  have hoA : (w.alloc (.cells #[] 39)).ownsRow w.heap.size 39 2 (.slice (some ⟨w.heap.size, 0, none⟩) 0 0) 0 [] := World.ownsRow_made w #[] 0 (Nat.le_refl _) (by simp [maxLen]) (by simp)
  have HOA := hide hoA
  clear hoA
  obtain ⟨i0, hi, hz0, hz1, hz2⟩ := info_parts Try.infoPr2
  go_enter Try.func45, Try.ntmps45
  go_wp2_with fail
  have bA : Below w.heap.size w (w.alloc (.cells #[] 39)) := (Below.refl _ _).alloc (Nat.le_refl _) _
  refine (pick_any B p 12 _ ((unhide HRD).kept bA) (by omega) (by omega)).mono ?_; rintro e w1 ⟨n, rfl, hn0, hn1, hr1, hg1, -⟩
  have hn2 := hn1 (by omega)
  have hgw1 : w.grownBy w1 (some B) := grownBy_trans (World.grownBy_alloc w _ (some B)) hg1
  have ho1 := (unhide HOA).kept hg1 (.inr (by simp [Value.ownBlock]; omega))
  have HR1 := hide hr1
  have HG1 := hide hgw1
  have HO1 := hide ho1
  clear bA hr1 hg1 hgw1 ho1 hn1
  obtain ⟨N, rfl⟩ := Int.eq_ofNat_of_zero_le hn0
  go_wp2_with fail
  go_loopw [3, 4] (fun r i wr => ∃ (j : Nat) (L : List Pr) (q : Nat), j ≤ N ∧ i = .int .i64 j ∧ wr.ownsRow w.heap.size 39 2 r L.length (prFlat L) ∧ L.length ≤ N - j ∧ Rd wr B q ∧ q ≤ p + 1 + 5 * (N - j) ∧ w.grownBy wr (some B)) (fun _ i _ => (intOf i).toNat)
  case atStart => exact ⟨N, [], p + 1, Nat.le_refl _, rfl, unhide HO1, by simp, unhide HR1, by omega, unhide HG1⟩
  case round =>
    obtain ⟨j, L, q, hj, rfl, hown, hLl, hrq, hq, hgr⟩ := hrel
    have HOW := hide hown
    have HGR := hide hgr
    have HRQ := hide hrq
    clear hown hgr hrq
    by_cases hlt : 0 < j
    · have hlt' : (0 : Int) < (j : Int) := by omega
      go_wp2_with fail
      refine (pick_any B q 32 _ (unhide HRQ) (by omega) (by omega)).mono ?_; rintro e w2 ⟨k2, rfl, a1, a2, r2, g2, -⟩
      clear a2
      have HR2 := hide r2
      have HG2 := hide g2
      clear r2 g2
      go_wp2_with fail
      have bB : Below w2.heap.size w2 (w2.alloc (.cells #[.int .i64 0, .int .i64 1, .int .i64 4, .int .i64 5, .int .i64 8, .int .i64 9, .int .i64 k2] 3)) := (Below.refl _ _).alloc (Nat.le_refl _) _
      refine (pick_any B (q + 1) 7 _ ((unhide HR2).kept bB) (by omega) (by omega)).mono ?_; rintro e w3 ⟨k3, rfl, a3, a4, r3, g3, -⟩
      obtain ⟨K3, rfl⟩ := Int.eq_ofNat_of_zero_le a3
      have hK3 : K3 < 7 := by have := a4 (by omega); omega
      have hK3' : (K3 : Int) < 7 := by omega
      obtain ⟨kv, hkv⟩ := seven k2 K3 hK3
      have hBw2 : B < w2.heap.size := (unhide HR2).lt
      have c3 : w3.cell? ⟨w2.heap.size, K3, none⟩ = some (.int .i64 kv) := by
        rw [g3.cell_far ⟨w2.heap.size, K3, none⟩ (by simp) (by simp; omega), World.cell?_alloc_at _ _ _ _ rfl]; exact hkv
      have HG3 : Hid (w2.grownBy w3 (some B)) := grownBy_trans (World.grownBy_alloc w2 _ (some B)) g3
      have HR3 := hide r3
      clear r3 g3 a4 hkv bB
      go_wp2_with fail
      refine (pick_any B (q + 1 + 1) 60 _ (unhide HR3) (by omega) (by omega)).mono ?_; rintro e w4 ⟨k4, rfl, a5, a6, r4, g4, -⟩
      have HR4 := hide r4
      have HG4 := hide g4
      have a6' := a6 (by omega)
      clear r4 g4 a6
      go_wp2_with fail
      refine (pick_any B (q + 1 + 1 + 1) 20 _ (unhide HR4) (by omega) (by omega)).mono ?_; rintro e w5 ⟨k5, rfl, a7, a8, r5, g5, -⟩
      have HR5 := hide r5
      have HG5 := hide g5
      have a8' := a8 (by omega)
      clear r5 g5 a8
      go_wp2_with fail
      have bC : Below w5.heap.size w5 (w5.alloc (.cells #[.int .i64 k4, .int .i64 (-k5), .int .i64 9999] 3)) := (Below.refl _ _).alloc (Nat.le_refl _) _
      refine (pick_any B (q + 1 + 1 + 1 + 1) 5 _ ((unhide HR5).kept bC) (by omega) (by omega)).mono ?_; rintro e w6 ⟨k6, rfl, a9, a10, r6, g6, -⟩
      obtain ⟨K6, rfl⟩ := Int.eq_ofNat_of_zero_le a9
      have hK6 : K6 < 5 := by have := a10 (by omega); omega
      have hK6' : ((K6 : Int) / 2) = ((K6 / 2 : Nat) : Int) := by omega
      have hK62 : K6 / 2 < 3 := by omega
      have hK62' : ((K6 / 2 : Nat) : Int) < 3 := by omega
      obtain ⟨nv, hnv⟩ := three k4 (-k5) 9999 (K6 / 2) hK62
      have hBw5 : B < w5.heap.size := (unhide HR5).lt
      have c6 : w6.cell? ⟨w5.heap.size, K6 / 2, none⟩ = some (.int .i64 nv) := by
        rw [g6.cell_far ⟨w5.heap.size, K6 / 2, none⟩ (by simp) (by simp; omega), World.cell?_alloc_at _ _ _ _ rfl]; exact hnv
      generalize K6 / 2 = K7 at *
      have HG6 : Hid (w5.grownBy w6 (some B)) := grownBy_trans (World.grownBy_alloc w5 _ (some B)) g6
      have HR6 := hide r6
      clear r6 g6 a10 hnv bC
      have HG26 : Hid (wr.grownBy w6 (some B)) := grownBy_trans (grownBy_trans (grownBy_trans (grownBy_trans (unhide HG2) (unhide HG3)) (unhide HG4)) (unhide HG5)) (unhide HG6)
      have HO6 : Hid (w6.ownsRow w.heap.size 39 2 u3 L.length (prFlat L)) := (unhide HOW).kept (unhide HG26) (by
        cases hv : Value.ownBlock u3 with
        | none => exact .inl rfl
        | some x => right; have := ((unhide HOW).lt x hv).1; intro e; simp at e; omega)
      go_wp2_with fail
      refine (l1Set_any _ L kv nv _ (owned_prs (unhide HO6)).1 (by omega)).mono ?_; rintro e w7 ⟨r7, rfl, ho7, hb7⟩
      have hl7 := setP_length L kv nv
      have z6 := (unhide HG26).size
      have zr := (unhide HGR).size
      have HO7 : Hid (w7.ownsRow w.heap.size 39 2 r7 (setP L kv nv).length (prFlat (setP L kv nv))) := ownsRow_base ho7 (by omega)
      have HR7 : Hid (Rd w7 B (q + 1 + 1 + 1 + 1 + 1)) := (unhide HR6).kept hb7
      have HG7 : Hid (w.grownBy w7 (some B)) := grownBy_below (grownBy_trans (unhide HGR) (unhide HG26)) hb7
      clear ho7 hb7
      go_wp2_with fail
      go_roundw
      case rel => exact ⟨j - 1, _, _, by omega, by have : ((j - 1 : Nat) : Int) = (j : Int) - 1 := by omega
                                                   rw [this], unhide HO7, by omega, unhide HR7, by omega, unhide HG7⟩
      case measure => simp [intOf]; omega
    · obtain rfl : j = 0 := by omega
      go_wp2_with fail
      refine (pick_any B q 16 _ (unhide HRQ) (by omega) (by omega)).mono ?_; rintro e w2 ⟨k2, rfl, a1, a2, r2, g2, -⟩
      have HR2 := hide r2
      have HG2 : Hid (w.grownBy w2 (some B)) := grownBy_trans (unhide HGR) g2
      have HO2 : Hid (w2.ownsRow w.heap.size 39 2 u3 L.length (prFlat L)) := (unhide HOW).kept g2 (by
        cases hv : Value.ownBlock u3 with
        | none => exact .inl rfl
        | some x => right; have := ((unhide HOW).lt x hv).1; intro e; simp at e; omega)
      have zz2 := (unhide HG2).size
      clear a2 r2 g2
      by_cases hk0 : k2 = 0
      · have hb0 : (k2 == 0) = true := by simpa using hk0
        clear hk0
        go_wp2_with (at_builtin; refine wpList_append_lies _ rfl _ _ 24 rfl w.heap.size 39 i0 (.agg #[.int .i64 0, .int .i64 0]) 2 16 Try.underlying24 hi hz0 hz1 hz2 rfl (by decide) _ L.length _ rfl ((unhide HO2).alloc _) ⟨w2.heap.size, 0, none⟩ 1 1 [.int .i64 3, .int .i64 1] rfl rfl (World.news_of_block (heap_alloc_new _ _)) (by simp [Value.oneCell']) (by decide) (by unfold maxLen; omega) (by omega) (by simp; omega) (w2.heap.size + 1) (by simp) ?_; intro g cp w9 hown2 hgrow hat hlt2)
        go_ret
        have hlow : ∀ x, Value.ownBlock u3 = some x → w.heap.size ≤ x := fun x hx => ((unhide HO2).lt x hx).1
        have hr9 : Rd w9 B (q + 1) := ((unhide HR2).kept ((Below.refl _ _).alloc (Nat.le_refl _) _)).far hgrow (fun y hy e => by have := hlow y e.symm; omega)
        have hg9 : w.grownBy w9 (some B) := grownBy_own (grownBy_alloc (unhide HG2) _) hgrow hlow
        refine ⟨_, L ++ [⟨3, 1⟩], q + 1, rfl, ?_, by simp; omega, hr9, by omega, hg9⟩
        rw [prFlat_append, List.length_append]
        exact hown2
      have hb0 : (k2 == 0) = false := by simpa using hk0
      by_cases hk1 : k2 = 1
      · have hb1 : (k2 == 1) = true := by simpa using hk1
        clear hk0 hk1
        go_wp2_with fail
        refine (pick_any B (q + 1) 2 _ (unhide HR2) (by omega) (by omega)).mono ?_; rintro e w3 ⟨k3, rfl, a3, a4, r3, g3, -⟩
        have a4' := a4 (by omega)
        have HR3 := hide r3
        have HG3 : Hid (w.grownBy w3 (some B)) := grownBy_trans (unhide HG2) g3
        have HO3 : Hid (w3.ownsRow w.heap.size 39 2 u3 L.length (prFlat L)) := (unhide HO2).kept g3 (by
          cases hv : Value.ownBlock u3 with
          | none => exact .inl rfl
          | some x => right; have := ((unhide HO2).lt x hv).1; intro e; simp at e; omega)
        have zz3 := (unhide HG3).size
        clear a4 r3 g3
        go_wp2_with (at_builtin; refine wpList_append_lies _ rfl _ _ 24 rfl w.heap.size 39 i0 (.agg #[.int .i64 0, .int .i64 0]) 2 16 Try.underlying24 hi hz0 hz1 hz2 rfl (by decide) _ L.length _ rfl ((unhide HO3).alloc _) ⟨w3.heap.size, 0, none⟩ 1 1 [.int .i64 31, .int .i64 (9999 + k3)] rfl rfl (World.news_of_block (heap_alloc_new _ _)) (by simp [Value.oneCell']) (by decide) (by unfold maxLen; omega) (by omega) (by simp; omega) (w3.heap.size + 1) (by simp) ?_; intro g cp w9 hown2 hgrow hat hlt2)
        go_ret
        have hlow : ∀ x, Value.ownBlock u3 = some x → w.heap.size ≤ x := fun x hx => ((unhide HO3).lt x hx).1
        have hr9 : Rd w9 B (q + 1 + 1) := ((unhide HR3).kept ((Below.refl _ _).alloc (Nat.le_refl _) _)).far hgrow (fun y hy e => by have := hlow y e.symm; omega)
        have hg9 : w.grownBy w9 (some B) := grownBy_own (grownBy_alloc (unhide HG3) _) hgrow hlow
        refine ⟨_, L ++ [⟨31, 9999 + k3⟩], q + 1 + 1, rfl, ?_, by simp; omega, hr9, by omega, hg9⟩
        rw [prFlat_append, List.length_append]
        exact hown2
      · have hb1 : (k2 == 1) = false := by simpa using hk1
        clear hk0 hk1
        go_wp2_with fail
        go_ret
        exact ⟨_, L, q + 1, rfl, unhide HO2, by omega, unhide HR2, by omega, unhide HG2⟩

end Go.Proofs.Ytimnhgncnhmgcaa
