/- A deal is drawn, some spoilt; a deal and values are drawn. -/
import Derived.Test.YtimnhgncnhmgcaaDeal2
import Derived.Test.YtimnhgncnhmgcaaLawPairsPut
import Derived.Laws.OwnMore
namespace Go.Proofs.Ytimnhgncnhmgcaa
open Go.RowKit

theorem stFlat_set (L : List St) (j : Nat) (v : Int) (h : j < L.length * 3) : ∃ L' : List St, L'.length = L.length ∧ (stFlat L).set j (.int .i64 v) = stFlat L' := by
  induction L generalizing j with
  | nil => simp at h
  | cons s r ih =>
    match j, h with
    | 0, _ => exact ⟨⟨v, s.key, s.num⟩ :: r, rfl, by simp [stFlat]⟩
    | 1, _ => exact ⟨⟨s.op, v, s.num⟩ :: r, rfl, by simp [stFlat]⟩
    | 2, _ => exact ⟨⟨s.op, s.key, v⟩ :: r, rfl, by simp [stFlat]⟩
    | j + 3, h =>
      obtain ⟨L', h1, h2⟩ := ih j (by simp at h; omega)
      exact ⟨s :: L', by simp [h1], by simp [stFlat] at h2 ⊢; exact h2⟩

theorem two2 (x y : Int) (K : Nat) (hK : K < 2) : ∃ v : Int, (#[.int .i64 x, .int .i64 y] : Array Value)[K]? = some (.int .i64 v) := by
  match K, hK with
  | 0, _ => exact ⟨_, rfl⟩
  | 1, _ => exact ⟨_, rfl⟩
theorem four4 (x y z u : Int) (K : Nat) (hK : K < 4) : ∃ v : Int, (#[.int .i64 x, .int .i64 y, .int .i64 z, .int .i64 u] : Array Value)[K]? = some (.int .i64 v) := by
  match K, hK with
  | 0, _ => exact ⟨_, rfl⟩
  | 1, _ => exact ⟨_, rfl⟩
  | 2, _ => exact ⟨_, rfl⟩
  | 3, _ => exact ⟨_, rfl⟩

/-- A number is written into a row of statements. -/
theorem Pk.stored {w wc : World} {B q g cap : Nat} {L : List St} (h : Pk w wc B q (.slice (some ⟨g, 0, none⟩) L.length cap) L) (hB : B < w.heap.size) {j : Nat} (v : Int) (hj : j < L.length * 3) :
    ∃ L' : List St, L'.length = L.length ∧ Pk w (wc.setCell ⟨g, j, none⟩ (.int .i64 v)) B q (.slice (some ⟨g, 0, none⟩) L.length cap) L' := by
  obtain ⟨L', h1, h2⟩ := stFlat_set L j v hj
  have hg := (h.own.lt g rfl).1
  refine ⟨L', h1, ?_, h.rd.setD (by omega) j _, grownBy_setOwnD h.grown hg j _⟩
  rw [h1, ← h2]; exact (h.own.stored j _).1

def slLen : Value → Nat | .slice _ n _ => n | _ => 0

set_option maxRecDepth 100000 in
set_option maxHeartbeats 4000000 in
theorem drawDeal_any (B p : Nat) (w : World) (hr : Rd w B p) (hp : p ≤ 800000) :
    Calls Try.prog 44 #[.pointer (some ⟨B, 0, none⟩)] w fun e w' => ∃ r L p', e = .returned r ∧ w'.ownsRow w.heap.size 33 3 r L.length (stFlat L) ∧ L.length ≤ 8 ∧ Rd w' B p' ∧ p' ≤ p + 200 ∧ w.grownBy w' (some B) := by
  have hBl := hr.lt
  have HRD := hide hr
  clear hr
  obtain ⟨i0, hi, hz0, hz1, hz2⟩ := info_parts Try.infoSt
  go_enter Try.func44, Try.ntmps44
  go_wp2_with fail
  refine (sim_any B _).mono ?_; rintro e w1 ⟨G, rfl, hG, hc1, hb1⟩
  have hr1 := (unhide HRD).kept hb1
  have z1 := hb1.size
  have HG1 : Hid (w.grownBy w1 (some B)) := grownBy_below (grownBy_refl w (some B)) hb1
  have HR1 := hide hr1
  have HC1 := hide hc1
  clear hb1 hr1 hc1
  go_wp2_with fail
  refine (deal_any G B p _ (unhide HC1) (by omega) (unhide HR1) (by omega)).mono ?_; rintro e w2 ⟨r2, L, p2, rfl, ho2, hL1, hL4, hr2, hp2, hg2⟩
  obtain ⟨g, cap, rfl, hgl, -⟩ := ho2.form (by omega)
  have HP2 : Hid (Pk w w2 B p2 (.slice (some ⟨g, 0, none⟩) L.length cap) L) := ⟨ownsRow_base ho2 z1, hr2, grownBy_trans (unhide HG1) hg2⟩
  clear ho2 hr2 hg2 HR1 HC1 HG1 HRD
  go_wp2_with fail
  refine (pick_any B p2 12 _ (unhide HP2).rd (by omega) (by omega)).mono ?_; rintro e w3 ⟨k, rfl, a1, a2, r3, g3, -⟩
  have a2' := a2 (by omega)
  have HP3 : Hid (Pk w w3 B (p2 + 1) (.slice (some ⟨g, 0, none⟩) L.length cap) L) := Pk.pick (unhide HP2) g3 r3 hBl
  have z3 := (unhide HP3).grown.size
  clear r3 g3 a2 HP2
  have hLI : (1 : Int) ≤ (L.length : Int) := by omega
  have hLJ : (L.length : Int) ≤ 4 := by omega
  rcases (by omega : k = 0 ∨ k = 1 ∨ k = 2 ∨ k = 3 ∨ k = 4 ∨ 5 ≤ k) with rfl | rfl | rfl | rfl | rfl | hk5
  · go_wp2_with fail
    refine (pick_any B (p2 + 1) (L.length : Int) _ (unhide HP3).rd (by omega) (by omega)).mono ?_; rintro e w4 ⟨k4, rfl, b1, b2, r4, g4, -⟩
    have b2' := b2 (by omega)
    have HP4 : Hid (Pk w w4 B (p2 + 1 + 1) (.slice (some ⟨g, 0, none⟩) L.length cap) L) := Pk.pick (unhide HP3) g4 r4 hBl
    have z4 := (unhide HP4).grown.size
    clear r4 g4 b2 HP3
    obtain ⟨K4, rfl⟩ := Int.eq_ofNat_of_zero_le b1
    have hK4 : K4 < L.length := by omega
    go_wp2_with fail
    refine (pick_any B (p2 + 1 + 1) 2 _ (unhide HP4).allocK.rd (by omega) (by omega)).mono ?_; rintro e w5 ⟨k5, rfl, c1, c2, r5, g5, -⟩
    have c2' := c2 (by omega)
    have HP5 : Hid (Pk w w5 B (p2 + 1 + 1 + 1) (.slice (some ⟨g, 0, none⟩) L.length cap) L) := Pk.pick (unhide HP4).allocK g5 r5 hBl
    obtain ⟨K5, rfl⟩ := Int.eq_ofNat_of_zero_le c1
    have hK5 : K5 < 2 := by omega
    have hK5' : (K5 : Int) < 2 := by omega
    obtain ⟨kv, hkv⟩ := two2 0 5 K5 hK5
    have hBw4 : B < w4.heap.size := by omega
    have c5 : w5.cell? ⟨w4.heap.size, K5, none⟩ = some (.int .i64 kv) := by
      rw [g5.cell_far ⟨w4.heap.size, K5, none⟩ (by simp) (by simp; omega), World.cell?_alloc_at _ _ _ _ rfl]; exact hkv
    clear r5 g5 c2 HP4 hkv
    have hj : K4 * 3 < L.length * 3 := by omega
    have y0 : w5.cell? ⟨g, K4 * 3, none⟩ = some (.int .i64 (L.getD K4 St.z).op) := by rw [(unhide HP5).own.cellAt _ hj]; exact (stFlat_at L K4 hK4).1
    have f0 : w5.frozen? ⟨g, K4 * 3, none⟩ = false := (unhide HP5).own.frozenAt _
    obtain ⟨L', hL', hP6⟩ := (unhide HP5).stored hBl kv hj
    have HP6 := hide hP6
    have HL' := hide hL'
    clear hP6 HP5 hL'
    go_wp2_with fail
    go_ret
    exact ⟨_, L', _, rfl, by rw [unhide HL']; have := (unhide HP6).own; rwa [unhide HL'] at this, by have := unhide HL'; omega, (unhide HP6).rd, by omega, (unhide HP6).grown⟩
  · go_wp2_with fail
    refine (pick_any B (p2 + 1) (L.length : Int) _ (unhide HP3).rd (by omega) (by omega)).mono ?_; rintro e w4 ⟨k4, rfl, b1, b2, r4, g4, -⟩
    have b2' := b2 (by omega)
    have HP4 : Hid (Pk w w4 B (p2 + 1 + 1) (.slice (some ⟨g, 0, none⟩) L.length cap) L) := Pk.pick (unhide HP3) g4 r4 hBl
    have z4 := (unhide HP4).grown.size
    clear r4 g4 b2 HP3
    obtain ⟨K4, rfl⟩ := Int.eq_ofNat_of_zero_le b1
    have hK4 : K4 < L.length := by omega
    go_wp2_with fail
    refine (pick_any B (p2 + 1 + 1) 3 _ (unhide HP4).allocK.rd (by omega) (by omega)).mono ?_; rintro e w5 ⟨k5, rfl, c1, c2, r5, g5, -⟩
    have c2' := c2 (by omega)
    have HP5 : Hid (Pk w w5 B (p2 + 1 + 1 + 1) (.slice (some ⟨g, 0, none⟩) L.length cap) L) := Pk.pick (unhide HP4).allocK g5 r5 hBl
    obtain ⟨K5, rfl⟩ := Int.eq_ofNat_of_zero_le c1
    have hK5 : K5 < 3 := by omega
    have hK5' : (K5 : Int) < 3 := by omega
    obtain ⟨kv, hkv⟩ := three (-1) 32 31 K5 hK5
    have hBw4 : B < w4.heap.size := by omega
    have c5 : w5.cell? ⟨w4.heap.size, K5, none⟩ = some (.int .i64 kv) := by
      rw [g5.cell_far ⟨w4.heap.size, K5, none⟩ (by simp) (by simp; omega), World.cell?_alloc_at _ _ _ _ rfl]; exact hkv
    clear r5 g5 c2 HP4 hkv
    have hj : K4 * 3 + 1 < L.length * 3 := by omega
    have y0 : w5.cell? ⟨g, K4 * 3 + 1, none⟩ = some (.int .i64 (L.getD K4 St.z).key) := by rw [(unhide HP5).own.cellAt _ hj]; exact (stFlat_at L K4 hK4).2.1
    have f0 : w5.frozen? ⟨g, K4 * 3 + 1, none⟩ = false := (unhide HP5).own.frozenAt _
    obtain ⟨L', hL', hP6⟩ := (unhide HP5).stored hBl kv hj
    have HP6 := hide hP6
    have HL' := hide hL'
    clear hP6 HP5 hL'
    go_wp2_with fail
    go_ret
    exact ⟨_, L', _, rfl, by rw [unhide HL']; have := (unhide HP6).own; rwa [unhide HL'] at this, by have := unhide HL'; omega, (unhide HP6).rd, by omega, (unhide HP6).grown⟩
  · go_wp2_with fail
    refine (pick_any B (p2 + 1) (L.length : Int) _ (unhide HP3).rd (by omega) (by omega)).mono ?_; rintro e w4 ⟨k4, rfl, b1, b2, r4, g4, -⟩
    have b2' := b2 (by omega)
    have HP4 : Hid (Pk w w4 B (p2 + 1 + 1) (.slice (some ⟨g, 0, none⟩) L.length cap) L) := Pk.pick (unhide HP3) g4 r4 hBl
    have z4 := (unhide HP4).grown.size
    clear r4 g4 b2 HP3
    obtain ⟨K4, rfl⟩ := Int.eq_ofNat_of_zero_le b1
    have hK4 : K4 < L.length := by omega
    go_wp2_with fail
    refine (pick_any B (p2 + 1 + 1) 4 _ (unhide HP4).allocK.rd (by omega) (by omega)).mono ?_; rintro e w5 ⟨k5, rfl, c1, c2, r5, g5, -⟩
    have c2' := c2 (by omega)
    have HP5 : Hid (Pk w w5 B (p2 + 1 + 1 + 1) (.slice (some ⟨g, 0, none⟩) L.length cap) L) := Pk.pick (unhide HP4).allocK g5 r5 hBl
    obtain ⟨K5, rfl⟩ := Int.eq_ofNat_of_zero_le c1
    have hK5 : K5 < 4 := by omega
    have hK5' : (K5 : Int) < 4 := by omega
    obtain ⟨kv, hkv⟩ := four4 (-10000) 10000 9999 (-9999) K5 hK5
    have hBw4 : B < w4.heap.size := by omega
    have c5 : w5.cell? ⟨w4.heap.size, K5, none⟩ = some (.int .i64 kv) := by
      rw [g5.cell_far ⟨w4.heap.size, K5, none⟩ (by simp) (by simp; omega), World.cell?_alloc_at _ _ _ _ rfl]; exact hkv
    clear r5 g5 c2 HP4 hkv
    have hj : K4 * 3 + 2 < L.length * 3 := by omega
    have y0 : w5.cell? ⟨g, K4 * 3 + 2, none⟩ = some (.int .i64 (L.getD K4 St.z).num) := by rw [(unhide HP5).own.cellAt _ hj]; exact (stFlat_at L K4 hK4).2.2
    have f0 : w5.frozen? ⟨g, K4 * 3 + 2, none⟩ = false := (unhide HP5).own.frozenAt _
    obtain ⟨L', hL', hP6⟩ := (unhide HP5).stored hBl kv hj
    have HP6 := hide hP6
    have HL' := hide hL'
    clear hP6 HP5 hL'
    go_wp2_with fail
    go_ret
    exact ⟨_, L', _, rfl, by rw [unhide HL']; have := (unhide HP6).own; rwa [unhide HL'] at this, by have := unhide HL'; omega, (unhide HP6).rd, by omega, (unhide HP6).grown⟩
  · go_wp2_with fail
    go_loopw [3] (fun r wr => ∃ (g cap : Nat) (L' : List St) (q : Nat), r = .slice (some ⟨g, 0, none⟩) L'.length cap ∧ Pk w wr B q (.slice (some ⟨g, 0, none⟩) L'.length cap) L' ∧ 1 ≤ L'.length ∧ L'.length ≤ 7 ∧ q ≤ p2 + 1 + 2 * L'.length) (fun r _ => 8 - slLen r)
    case atStart => exact ⟨g, cap, L, p2 + 1, rfl, unhide HP3, hL1, by omega, by omega⟩
    case round =>
      obtain ⟨g', cap', L', q, rfl, hpk, hl1, hl7, hq⟩ := hrel
      have HPK := hide hpk
      clear hpk
      have hlJ : (L'.length : Int) ≤ 7 := by omega
      go_wp2_with fail
      refine (pick_any B q 2 _ (unhide HPK).rd (by omega) (by omega)).mono ?_; rintro e w4 ⟨k4, rfl, b1, b2, r4, g4, -⟩
      have b2' := b2 (by omega)
      have HP4 : Hid (Pk w w4 B (q + 1) (.slice (some ⟨g', 0, none⟩) L'.length cap') L') := Pk.pick (unhide HPK) g4 r4 hBl
      clear r4 g4 b2 HPK
      by_cases hlt : (L'.length : Int) < 6 + k4
      · go_wp2_with fail
        refine (pick_any B (q + 1) 8 _ (unhide HP4).rd (by omega) (by omega)).mono ?_; rintro e w5 ⟨k5, rfl, c1, c2, r5, g5, -⟩
        have HP5 : Hid (Pk w w5 B (q + 1 + 1) (.slice (some ⟨g', 0, none⟩) L'.length cap') L') := Pk.pick (unhide HP4) g5 r5 hBl
        have z5 := (unhide HP5).grown.size
        clear r5 g5 c2 HP4
        go_wp2_with (at_builtin; refine wpList_append_lies _ rfl _ _ 23 rfl w.heap.size 33 i0 (.agg #[.int .i64 0, .int .i64 0, .int .i64 0]) 3 24 Try.underlying23 hi hz0 hz1 hz2 rfl (by decide) _ L'.length _ rfl ((unhide HP5).own.alloc _) ⟨w5.heap.size, 0, none⟩ 1 1 [.int .i64 1, .int .i64 k5, .int .i64 0] rfl rfl (World.news_of_block (heap_alloc_new _ _)) (by simp [Value.oneCell']) (by decide) (by unfold maxLen; omega) (by omega) (by simp; omega) (w5.heap.size + 1) (by simp) ?_; intro ga cp w9 hown2 hgrow hat hlt2)
        have hlow : ∀ x, Value.ownBlock (.slice (some ⟨g', 0, none⟩) L'.length cap') = some x → w.heap.size ≤ x := fun x hx => ((unhide HP5).own.lt x hx).1
        have hr9 : Rd w9 B (q + 1 + 1) := ((unhide HP5).rd.kept ((Below.refl _ _).alloc (Nat.le_refl _) _)).far hgrow (fun y hy e => by have := hlow y e.symm; omega)
        have hg9 : w.grownBy w9 (some B) := grownBy_own (grownBy_alloc (unhide HP5).grown _) hgrow hlow
        go_roundw
        case rel =>
          have hL2 : (L' ++ [(⟨1, k5, 0⟩ : St)]).length = L'.length + 1 := by simp
          refine ⟨ga, cp, L' ++ [⟨1, k5, 0⟩], q + 1 + 1, by rw [hL2], ⟨?_, hr9, hg9⟩, by omega, by omega, by omega⟩
          rw [stFlat_append, hL2]; exact hown2
        case measure => simp [slLen]; omega
      · go_wp2_with fail
        go_ret
        exact ⟨_, L', _, rfl, (unhide HP4).own, by omega, (unhide HP4).rd, by omega, (unhide HP4).grown⟩
  · go_wp2_with fail
    go_ret
    refine ⟨_, [], _, rfl, World.ownsRow_made w3 #[] 0 z3 (by simp [maxLen]) (by simp), by simp, (unhide HP3).rd.allocK, by omega, grownBy_alloc (unhide HP3).grown _⟩
  · have e0 : (k == 0) = false := by rw [beq_eq_false_iff_ne]; omega
    have e1 : (k == 1) = false := by rw [beq_eq_false_iff_ne]; omega
    have e2 : (k == 2) = false := by rw [beq_eq_false_iff_ne]; omega
    have e3 : (k == 3) = false := by rw [beq_eq_false_iff_ne]; omega
    have e4 : (k == 4) = false := by rw [beq_eq_false_iff_ne]; omega
    go_wp2_with fail
    go_ret
    exact ⟨_, L, _, rfl, (unhide HP3).own, by omega, (unhide HP3).rd, by omega, (unhide HP3).grown⟩

end Go.Proofs.Ytimnhgncnhmgcaa
