/- A deal is drawn. -/
import Derived.Test.YtmikdkdgpomiaaaDoorDeal1
import Derived.Deep.CutRange
import Derived.Deep.RegionHeld3
namespace Go.Proofs.YtmikdkdgpomiaaaDoor
open Go.RowKit

/-- Seven numbers, one of them by its place, in both spellings. -/
theorem seven2 (x : Int) (K : Nat) (hK : K < 7) : ∃ v : Int, (#[.int .i64 0, .int .i64 1, .int .i64 4, .int .i64 5, .int .i64 8, .int .i64 9, .int .i64 x] : Array Value)[K]? = some (.int .i64 v) ∧ (∀ h, ([.int .i64 0, .int .i64 1, .int .i64 4, .int .i64 5, .int .i64 8, .int .i64 9, .int .i64 x] : List Value)[K]'h = .int .i64 v) := by
  match K, hK with
  | 0, _ => exact ⟨_, rfl, fun _ => rfl⟩
  | 1, _ => exact ⟨_, rfl, fun _ => rfl⟩
  | 2, _ => exact ⟨_, rfl, fun _ => rfl⟩
  | 3, _ => exact ⟨_, rfl, fun _ => rfl⟩
  | 4, _ => exact ⟨_, rfl, fun _ => rfl⟩
  | 5, _ => exact ⟨_, rfl, fun _ => rfl⟩
  | 6, _ => exact ⟨_, rfl, fun _ => rfl⟩

theorem Ce.made3 (w : World) (g : Nat) (x y z : Value) {cs : Array Value} {t : TypeId} {o : Nat} {v : Value} (h : cs[o]? = some v) : Ce ((((w.setCell ⟨g, 0, none⟩ x).setCell ⟨g, 1, none⟩ y).setCell ⟨g, 2, none⟩ z).alloc (.cells cs t)) w.heap.size o v := by
  have := Ce.made (((w.setCell ⟨g, 0, none⟩ x).setCell ⟨g, 1, none⟩ y).setCell ⟨g, 2, none⟩ z) (t := t) h
  rwa [show (((w.setCell ⟨g, 0, none⟩ x).setCell ⟨g, 1, none⟩ y).setCell ⟨g, 2, none⟩ z).heap.size = w.heap.size by simp [World.setCell]] at this

theorem val_pred {j : Nat} (h : 0 < j) : Value.int .i64 ((j : Int) - 1) = .int .i64 ((j - 1 : Nat) : Int) := by
  rw [show ((j - 1 : Nat) : Int) = (j : Int) - 1 by omega]

theorem size_set (w : World) (a : Addr) (v : Value) : (w.setCell a v).heap.size = w.heap.size := by simp [World.setCell]
theorem heap_new_set (w : World) (g j : Nat) (v : Value) (o : Obj) : ((w.setCell ⟨g, j, none⟩ v).alloc o).heap[w.heap.size]? = some o := by
  have := heap_alloc_new (w.setCell ⟨g, j, none⟩ v) o
  rwa [size_set] at this

theorem wpAnyH_mono {P : Program} {md : Region.Mode} {ops : Array Oper} {Q : Exit → Act → World → Prop} {S S' : World → Prop} (hs : ∀ w, S' w → S w) : ∀ (fuel : Nat) (listed : Array Bool) (a : Act) (w : World), wpAnyH P md ops Q S' fuel listed a w → wpAnyH P md ops Q S fuel listed a w
  | 0, _, _, _, h => h
  | fuel + 1, _, _, _, h => ⟨h.1, fun i hi => wpOp_mono (fun a w h2 => ⟨hs w h2.1, wpAnyH_mono hs fuel _ a w h2.2⟩) (h.2 i hi)⟩

set_option maxRecDepth 100000 in
set_option maxHeartbeats 8000000 in
set_option linter.unusedSimpArgs false in
theorem deal_any (G B p : Nat) (w : World) (hg : w.cell? ⟨G, 0, none⟩ = some (.pointer (some ⟨B, 0, none⟩))) (hne : G ≠ B) (hr : Rd w B p) (hp : p ≤ 900000) :
    Calls Tryd.prog 45 #[.pointer (some ⟨G, 0, none⟩)] w fun e w' => ∃ r L p', e = .returned r ∧ w'.ownsRow w.heap.size 45 3 r L.length (stFlat L) ∧ 1 ≤ L.length ∧ L.length ≤ 4 ∧ Rd w' B p' ∧ p' ≤ p + 100 ∧ w.grownBy w' (some B) := by
  have hBl := hr.lt
  have hGl := lt_of_cell hg
  have HRD := hide hr
  clear hr
  have hoA : (w.alloc (.cells #[] 45)).ownsRow w.heap.size 45 3 (.slice (some ⟨w.heap.size, 0, none⟩) 0 0) 0 [] := World.ownsRow_made w #[] 0 (Nat.le_refl _) (by simp [maxLen]) (by simp)
  have HOA := hide hoA
  clear hoA
  obtain ⟨i0, hi, hz0, hz1, hz2⟩ := info_parts Tryd.infoSt
  go_enter Tryd.func45, Tryd.ntmps45
  have bA : Below w.heap.size w (w.alloc (.cells #[] 45)) := (Below.refl _ _).alloc (Nat.le_refl _) _
  have hgA : (w.alloc (.cells #[] 45)).cell? ⟨G, 0, none⟩ = some (.pointer (some ⟨B, 0, none⟩)) := cell_kept bA hg
  go_wp2_with fail
  refine (pick_any B p 4 _ ((unhide HRD).kept bA) (by omega) (by omega)).mono ?_; rintro e w1 ⟨n, rfl, hn0, hn1, hr1, hg1, -⟩
  have hn2 := hn1 (by omega)
  have hgw1 : w.grownBy w1 (some B) := grownBy_trans (World.grownBy_alloc w _ (some B)) hg1
  have ho1 := (unhide HOA).kept hg1 (.inr (by simp [Value.ownBlock]; omega))
  have HP1 : Hid (Pk w w1 B (p + 1) (.slice (some ⟨w.heap.size, 0, none⟩) 0 0) []) := ⟨ho1, hr1, hgw1⟩
  clear bA hr1 hg1 hgw1 ho1 hn1 hgA
  obtain ⟨N, rfl⟩ := Int.eq_ofNat_of_zero_le hn0
  go_wp2_with fail
  go_loopw [3, 4] (fun r i wr => ∃ (j : Nat) (L : List St) (q : Nat), j ≤ N + 1 ∧ i = .int .i64 j ∧ Pk w wr B q r L ∧ L.length = N + 1 - j ∧ q ≤ p + 1 + 4 * (N + 1 - j)) (fun _ i _ => (intOf i).toNat)
  case atStart => exact ⟨N + 1, [], p + 1, Nat.le_refl _, by go_num, unhide HP1, by simp, by omega⟩
  case round =>
    obtain ⟨j, L, q, hj, rfl, hpk, hLl, hq⟩ := hrel
    have hneO : some G ≠ some B := by intro e; simp at e; exact hne e
    have hgG : wr.cell? ⟨G, 0, none⟩ = some (.pointer (some ⟨B, 0, none⟩)) := (hpk.grown.cell_far ⟨G, 0, none⟩ hGl hneO).trans hg
    have HPK := hide hpk
    clear hpk
    by_cases hlt : 0 < j
    · have hlt' : (0 : Int) < (j : Int) := by omega
      have ce0 : Ce wr G 0 (.pointer (some ⟨B, 0, none⟩)) := ⟨hgG⟩
      have pk0 := unhide HPK
      have hwr := pk0.grown.size
      have hGr : G < wr.heap.size := lt_of_cell hgG
      have nX : ∀ X, w.heap.size ≤ X → some X ≠ some B := fun X h e => by simp at e; omega
      have NX := hide nX
      clear nX
      have nR : ∀ X, wr.heap.size ≤ X → Value.ownBlock u3 ≠ some X := fun X h e => by have := (pk0.own.lt X e).2; omega
      have NR := hide nR
      clear nR
      go_wp2_with fail
      go_cut [5] from 13 to 68 (fun s wc => ∃ (g : Nat) (op key : Int), s = .pointer (some ⟨g, 0, none⟩) ∧ 1 ≤ op ∧ op ≤ 4 ∧ DSt w wc B (q + 1 + 1 + 1) u3 L g op key 0)
      case first =>
        refine wp_region_held_drew (S := fun w' => w'.cell? ⟨G, 0, none⟩ = some (.pointer (some ⟨B, 0, none⟩))) (by kernel_rfl) (Ce.cell (by with_reducible (repeat (first | assumption | apply Ce.drewK | apply Ce.allocK)))) (fun hHeld => ?_)
        refine wpAnyH_take (i := 0) (v := ?v0x1) rfl (by kernel_rfl) (by kernel_rfl) (by kernel_rfl) (fun _ _ _ h => h) (Or.inl ⟨by rfl, ?hy0x1⟩) (by assumption) ?_
        case hy0x1 => (intro w0 hSw; (try dsimp only at hSw); go_simp; try (with_reducible rfl))
        try simp only [Act.put, List.setIfInBounds_toArray, List.set_cons_zero, List.set_cons_succ]
        refine wpAnyH_take (i := 1) (v := ?v1x2) rfl (by kernel_rfl) (by kernel_rfl) (by kernel_rfl) (fun _ _ _ h => h) (Or.inl ⟨by rfl, ?hy1x2⟩) (by assumption) ?_
        case hy1x2 => (intro w0 hSw; (try dsimp only at hSw); go_simp; try (with_reducible rfl))
        try simp only [Act.put, List.setIfInBounds_toArray, List.set_cons_zero, List.set_cons_succ]
        refine wpAnyH_take (i := 2) (v := ?v2x3) rfl (by kernel_rfl) (by kernel_rfl) (by kernel_rfl) (fun _ _ _ h => h) (Or.inl ⟨by rfl, ?hy2x3⟩) (by assumption) ?_
        case hy2x3 => (intro w0 hSw; (try dsimp only at hSw); go_simp; try (with_reducible rfl))
        try simp only [Act.put, List.setIfInBounds_toArray, List.set_cons_zero, List.set_cons_succ]
        refine wpAnyH_take (i := 3) (v := ?v3x4) rfl (by kernel_rfl) (by kernel_rfl) (by kernel_rfl) (fun _ _ _ h => h) (Or.inl ⟨by rfl, ?hy3x4⟩) (by assumption) ?_
        case hy3x4 => (intro w0 hSw; (try dsimp only at hSw); go_simp; try (with_reducible rfl))
        try simp only [Act.put, List.setIfInBounds_toArray, List.set_cons_zero, List.set_cons_succ]
        refine wpAnyH_take (i := 6) (v := ?v6x5) rfl (by kernel_rfl) (by kernel_rfl) (by kernel_rfl) (fun _ _ _ h => h) (Or.inl ⟨by rfl, ?hy6x5⟩) (by assumption) ?_
        case hy6x5 => (intro w0 hSw; (try dsimp only at hSw); go_simp; try (with_reducible rfl))
        try simp only [Act.put, List.setIfInBounds_toArray, List.set_cons_zero, List.set_cons_succ]
        refine wpAnyH_take (i := 7) (v := ?v7x6) rfl (by kernel_rfl) (by kernel_rfl) (by kernel_rfl) (fun _ _ _ h => h) (Or.inl ⟨by rfl, ?hy7x6⟩) (by assumption) ?_
        case hy7x6 => (intro w0 hSw; (try dsimp only at hSw); go_simp; try (with_reducible rfl))
        try simp only [Act.put, List.setIfInBounds_toArray, List.set_cons_zero, List.set_cons_succ]
        refine wpAnyH_take (i := 8) (v := ?v8x7) rfl (by kernel_rfl) (by kernel_rfl) (by kernel_rfl) (fun _ _ _ h => h) (Or.inl ⟨by rfl, ?hy8x7⟩) (by assumption) ?_
        case hy8x7 => (intro w0 hSw; (try dsimp only at hSw); go_simp; try (with_reducible rfl))
        try simp only [Act.put, List.setIfInBounds_toArray, List.set_cons_zero, List.set_cons_succ]
        refine wpAnyH_take (i := 9) (v := ?v9x8) rfl (by kernel_rfl) (by kernel_rfl) (by kernel_rfl) (fun _ _ _ h => h) (Or.inl ⟨by rfl, ?hy9x8⟩) (by assumption) ?_
        case hy9x8 => (intro w0 hSw; (try dsimp only at hSw); go_simp; try (with_reducible rfl))
        try simp only [Act.put, List.setIfInBounds_toArray, List.set_cons_zero, List.set_cons_succ]
        refine wpAnyH_take (i := 12) (v := ?v12x9) rfl (by kernel_rfl) (by kernel_rfl) (by kernel_rfl) (fun _ _ _ h => h) (Or.inl ⟨by rfl, ?hy12x9⟩) (by assumption) ?_
        case hy12x9 => (intro w0 hSw; (try dsimp only at hSw); go_simp; try (with_reducible rfl))
        try simp only [Act.put, List.setIfInBounds_toArray, List.set_cons_zero, List.set_cons_succ]
        refine wpAnyH_take (i := 13) (v := ?v13x10) rfl (by kernel_rfl) (by kernel_rfl) (by kernel_rfl) (fun _ _ _ h => h) (Or.inl ⟨by rfl, ?hy13x10⟩) (by assumption) ?_
        case hy13x10 => (intro w0 hSw; (try dsimp only at hSw); go_simp; try (with_reducible rfl))
        try simp only [Act.put, List.setIfInBounds_toArray, List.set_cons_zero, List.set_cons_succ]
        refine wpAnyH_take (i := 14) (v := ?v14x11) rfl (by kernel_rfl) (by kernel_rfl) (by kernel_rfl) (fun _ _ _ h => h) (Or.inl ⟨by rfl, ?hy14x11⟩) (by assumption) ?_
        case hy14x11 => (intro w0 hSw; (try dsimp only at hSw); go_simp; try (with_reducible rfl))
        try simp only [Act.put, List.setIfInBounds_toArray, List.set_cons_zero, List.set_cons_succ]
        refine wpAnyH_take (i := 15) (v := ?v15x12) rfl (by kernel_rfl) (by kernel_rfl) (by kernel_rfl) (fun _ _ _ h => h) (Or.inl ⟨by rfl, ?hy15x12⟩) (by assumption) ?_
        case hy15x12 => (intro w0 hSw; (try dsimp only at hSw); go_simp; try (with_reducible rfl))
        try simp only [Act.put, List.setIfInBounds_toArray, List.set_cons_zero, List.set_cons_succ]
        refine wpAnyH_ready (rs := [4, 20]) (by kernel_rfl) (by simp) ?_
        refine AllReadyH.cons rfl (fun K hK => ?_) ?_
        · -- 4, behind []
          go_simp
          go_at_call 33
          refine (pick_any B q 4 _ (Pk.rd (by with_reducible (repeat (first | assumption | apply Pk.drewK | apply Pk.allocK)))) (by omega) (by omega)).mono ?_; rintro e w2 ⟨k2, rfl, p2, m2, r2, g2, -⟩
          have m2' := m2 (by omega)
          have pk2 : Pk w w2 B (q + 1) u3 L := Pk.pick (by with_reducible (repeat (first | assumption | apply Pk.drewK | apply Pk.allocK))) g2 r2 hBl
          have z2 := g2.size
          try simp at z2
          have ce2 : Ce w2 G 0 (.pointer (some ⟨B, 0, none⟩)) := Ce.far (by with_reducible (repeat (first | assumption | apply Ce.drewK | apply Ce.allocK))) g2 hneO
          have lG2 : G < w2.heap.size := lt_of_cell ce2.cell
          clear r2 g2 m2
          try go_wp2_with fail
          clear hHeld
          refine hK.out _ _ ?_ (fun hHeld => ?_)
          · exact Ce.cell (by with_reducible (repeat (first | assumption | apply Ce.drewK | apply Ce.allocK)))
          clear hK K
          have HW5 : Hid (IntKind.i64.wrap (1 + k2) = 1 + k2) := by show IntKind.i64.wrap (1 + k2) = 1 + k2; rw [IntKind.wrap_i64]; omega
          refine wpAnyH_take (i := 5) (v := ?v5x13) rfl (by kernel_rfl) (by kernel_rfl) (by kernel_rfl) (fun _ _ _ h => h) (Or.inl ⟨by rfl, ?hy5x13⟩) (by assumption) ?_
          case hy5x13 => (intro w0 hSw; (try dsimp only at hSw); go_simp; try (with_reducible rfl))
          try simp only [Act.put, List.setIfInBounds_toArray, List.set_cons_zero, List.set_cons_succ]
          refine wpAnyH_ready (rs := [10, 20]) (by kernel_rfl) (by simp) ?_
          refine AllReadyH.cons rfl (fun K hK => ?_) ?_
          · -- 10, behind [4]
            go_simp
            go_at_call 33
            refine (pick_any B (q + 1) 32 _ (Pk.rd (by with_reducible (repeat (first | assumption | apply Pk.drewK | apply Pk.allocK)))) (by omega) (by omega)).mono ?_; rintro e w3 ⟨k3, rfl, p3, m3, r3, g3, -⟩
            have m3' := m3 (by omega)
            have pk3 : Pk w w3 B (q + 1 + 1) u3 L := Pk.pick (by with_reducible (repeat (first | assumption | apply Pk.drewK | apply Pk.allocK))) g3 r3 hBl
            have z3 := g3.size
            try simp at z3
            have ce3 : Ce w3 G 0 (.pointer (some ⟨B, 0, none⟩)) := Ce.far (by with_reducible (repeat (first | assumption | apply Ce.drewK | apply Ce.allocK))) g3 hneO
            have lG3 : G < w3.heap.size := lt_of_cell ce3.cell
            clear r3 g3 m3
            try go_wp2_with fail
            clear hHeld
            refine hK.out _ _ ?_ (fun hHeld => ?_)
            · exact Ce.cell (by with_reducible (repeat (first | assumption | apply Ce.drewK | apply Ce.allocK)))
            clear hK K
            refine wpAnyH_ready (rs := [11, 16, 20]) (by kernel_rfl) (by simp) ?_
            refine AllReadyH.cons rfl (fun K hK => ?_) ?_
            · -- 11, behind [4, 10]
              go_simp
              clear hHeld
              refine hK.out _ _ ?_ (fun hHeld => ?_)
              · exact Ce.cell (by with_reducible (repeat (first | assumption | apply Ce.drewK | apply Ce.allocK)))
              clear hK K
              refine wpAnyH_ready (rs := [16, 20]) (by kernel_rfl) (by simp) ?_
              refine AllReadyH.cons rfl (fun K hK => ?_) ?_
              · -- 16, behind [4, 10, 11]
                go_simp
                go_at_call 33
                refine (pick_any B (q + 1 + 1) 7 _ (Pk.rd (by with_reducible (repeat (first | assumption | apply Pk.drewK | apply Pk.allocK)))) (by omega) (by omega)).mono ?_; rintro e w4 ⟨k4, rfl, p4, m4, r4, g4, -⟩
                have m4' := m4 (by omega)
                have pk4 : Pk w w4 B (q + 1 + 1 + 1) u3 L := Pk.pick (by with_reducible (repeat (first | assumption | apply Pk.drewK | apply Pk.allocK))) g4 r4 hBl
                have z4 := g4.size
                try simp at z4
                have ce4 : Ce w4 G 0 (.pointer (some ⟨B, 0, none⟩)) := Ce.far (by with_reducible (repeat (first | assumption | apply Ce.drewK | apply Ce.allocK))) g4 hneO
                have lG4 : G < w4.heap.size := lt_of_cell ce4.cell
                obtain ⟨K4, rfl⟩ := Int.eq_ofNat_of_zero_le p4
                have hK4 : K4 < 7 := by omega
                have hK4' : (K4 : Int) < 7 := by omega
                have hK4'' : (0 : Int) ≤ (K4 : Int) := by omega
                obtain ⟨kv, hkv, hkv'⟩ := seven2 k3 K4 hK4
                have c4 : Ce w4 w3.heap.size K4 (.int .i64 kv) := Ce.far (by with_reducible (repeat (first | assumption | exact Ce.made _ hkv | exact Ce.made1 _ _ hkv | apply Ce.drewK | apply Ce.allocK))) g4 (unhide NX _ (by omega))
                clear r4 g4 m4
                try go_wp2_with fail
                clear hHeld
                refine hK.out _ _ ?_ (fun hHeld => ?_)
                · exact Ce.cell (by with_reducible (repeat (first | assumption | apply Ce.drewK | apply Ce.allocK)))
                clear hK K
                have hrow : Ce w4 w3.heap.size K4 (.int .i64 kv) := (by with_reducible (repeat (first | assumption | exact Ce.made _ hkv | exact Ce.made1 _ _ hkv | apply Ce.drewK | apply Ce.allocK)))
                refine wpAnyH_mono (S' := fun w' => w'.cell? ⟨G, 0, none⟩ = some (.pointer (some ⟨B, 0, none⟩)) ∧ w'.cell? ⟨w3.heap.size, K4, none⟩ = some (.int .i64 kv)) (fun _ h => h.1) _ _ _ _ ?_
                have hHeld2 := And.intro hHeld hrow.cell
                clear hHeld
                refine wpAnyH_take (i := 17) (v := ?v17x14) rfl (by kernel_rfl) (by kernel_rfl) (by kernel_rfl) (fun _ _ _ h => h) (Or.inl ⟨by rfl, ?hy17x14⟩) (by assumption) ?_
                case hy17x14 => (intro w0 hSw; (try dsimp only at hSw); go_simp; try (with_reducible rfl))
                try simp only [Act.put, List.setIfInBounds_toArray, List.set_cons_zero, List.set_cons_succ]
                refine wpAnyH_take (i := 18) (v := ?v18x15) rfl (by kernel_rfl) (by kernel_rfl) (by kernel_rfl) (fun _ _ _ h => h) (Or.inl ⟨by rfl, ?hy18x15⟩) (by assumption) ?_
                case hy18x15 => (intro w0 hSw; (try dsimp only at hSw); go_simp; try (with_reducible rfl))
                try simp only [Act.put, List.setIfInBounds_toArray, List.set_cons_zero, List.set_cons_succ]
                refine wpAnyH_take (i := 19) (v := ?v19x16) rfl (by kernel_rfl) (by kernel_rfl) (by kernel_rfl) (fun _ _ _ h => h) (Or.inl ⟨by rfl, ?hy19x16⟩) (by assumption) ?_
                case hy19x16 => (intro w0 hSw; (try dsimp only at hSw); go_simp; try (with_reducible rfl))
                try simp only [Act.put, List.setIfInBounds_toArray, List.set_cons_zero, List.set_cons_succ]
                refine wpAnyH_ready (rs := [20]) (by kernel_rfl) (by simp) ?_
                refine AllReadyH.cons rfl (fun K hK => ?_) AllReadyH.nil
                go_simp
                refine hK.out _ _ ?_ (fun hHeld3 => ?_)
                · exact ⟨Ce.cell (by with_reducible (repeat (first | assumption | apply Ce.drewK | apply Ce.allocK))), Ce.cell (by with_reducible (repeat (first | assumption | exact Ce.made _ hkv | exact Ce.made1 _ _ hkv | apply Ce.drewK | apply Ce.allocK)))⟩
                clear hK K hHeld2
                refine wpAnyH_ready (rs := [21]) (by kernel_rfl) (by simp) ?_
                refine AllReadyH.cons rfl (fun K hK => ?_) AllReadyH.nil
                go_simp
                try go_wp2_with fail
                refine hK.out _ _ ?_ (fun _ => ?_)
                · exact ⟨Ce.cell (by with_reducible (repeat (first | assumption | exact Ce.made _ hkv | exact Ce.made1 _ _ hkv | apply Ce.drewK | apply Ce.allocK | refine Ce.setK ?_ (by omega)))), Ce.cell (by with_reducible (repeat (first | assumption | exact Ce.made _ hkv | exact Ce.made1 _ _ hkv | apply Ce.drewK | apply Ce.allocK | refine Ce.setK ?_ (by omega))))⟩
                clear hK K
                refine wpAnyH_done (by kernel_rfl) ?_ _
                go_wp2_with fail
                go_meet
                exact ⟨w4.heap.size, IntKind.i64.wrap (1 + k2), kv, rfl, by rw [unhide HW5]; omega, by rw [unhide HW5]; omega, ⟨(by with_reducible (repeat (first | assumption | apply Pk.drewK | apply Pk.allocK | refine Pk.setK ?_ (by omega) hBl (unhide NR _ (by omega)) _ _))), (by with_reducible (repeat (first | assumption | exact BoxD.made _ _ _ | exact BoxD.made1 _ _ _ _ | apply BoxD.drewK | apply BoxD.allocK | apply BoxD.set3))), by omega, unhide NR _ (by omega)⟩⟩
              refine AllReadyH.cons rfl (fun K hK => ?_) ?_
              · -- 20, behind [4, 10, 11]
                go_simp
                clear hHeld
                refine hK.out _ _ ?_ (fun hHeld => ?_)
                · exact Ce.cell (by with_reducible (repeat (first | assumption | apply Ce.drewK | apply Ce.allocK)))
                clear hK K
                refine wpAnyH_ready (rs := [16]) (by kernel_rfl) (by simp) ?_
                refine AllReadyH.cons rfl (fun K hK => ?_) ?_
                · -- 16, behind [4, 10, 11, 20]
                  go_simp
                  go_at_call 33
                  refine (pick_any B (q + 1 + 1) 7 _ (Pk.rd (by with_reducible (repeat (first | assumption | apply Pk.drewK | apply Pk.allocK)))) (by omega) (by omega)).mono ?_; rintro e w4 ⟨k4, rfl, p4, m4, r4, g4, -⟩
                  have m4' := m4 (by omega)
                  have pk4 : Pk w w4 B (q + 1 + 1 + 1) u3 L := Pk.pick (by with_reducible (repeat (first | assumption | apply Pk.drewK | apply Pk.allocK))) g4 r4 hBl
                  have z4 := g4.size
                  try simp at z4
                  have ce4 : Ce w4 G 0 (.pointer (some ⟨B, 0, none⟩)) := Ce.far (by with_reducible (repeat (first | assumption | apply Ce.drewK | apply Ce.allocK))) g4 hneO
                  have lG4 : G < w4.heap.size := lt_of_cell ce4.cell
                  have bx4 : BoxD w4 (w3.heap.size + 1) 45 #[.int .i64 0, .int .i64 0, .int .i64 0] := BoxD.far (by with_reducible (repeat (first | assumption | exact BoxD.made _ _ _ | exact BoxD.made1 _ _ _ _ | apply BoxD.drewK | apply BoxD.allocK))) g4 (unhide NX _ (by omega))
                  have lb4 := bx4.lt
                  obtain ⟨K4, rfl⟩ := Int.eq_ofNat_of_zero_le p4
                  have hK4 : K4 < 7 := by omega
                  have hK4' : (K4 : Int) < 7 := by omega
                  have hK4'' : (0 : Int) ≤ (K4 : Int) := by omega
                  obtain ⟨kv, hkv, hkv'⟩ := seven2 k3 K4 hK4
                  have c4 : Ce w4 w3.heap.size K4 (.int .i64 kv) := Ce.far (by with_reducible (repeat (first | assumption | exact Ce.made _ hkv | exact Ce.made1 _ _ hkv | apply Ce.drewK | apply Ce.allocK))) g4 (unhide NX _ (by omega))
                  clear r4 g4 m4
                  try go_wp2_with fail
                  clear hHeld
                  refine hK.out _ _ ?_ (fun hHeld => ?_)
                  · exact Ce.cell (by with_reducible (repeat (first | assumption | apply Ce.drewK | apply Ce.allocK)))
                  clear hK K
                  have hrow : Ce w4 w3.heap.size K4 (.int .i64 kv) := (by with_reducible (repeat (first | assumption | exact Ce.made _ hkv | exact Ce.made1 _ _ hkv | apply Ce.drewK | apply Ce.allocK)))
                  refine wpAnyH_mono (S' := fun w' => w'.cell? ⟨G, 0, none⟩ = some (.pointer (some ⟨B, 0, none⟩)) ∧ w'.cell? ⟨w3.heap.size, K4, none⟩ = some (.int .i64 kv)) (fun _ h => h.1) _ _ _ _ ?_
                  have hHeld2 := And.intro hHeld hrow.cell
                  clear hHeld
                  refine wpAnyH_take (i := 17) (v := ?v17x17) rfl (by kernel_rfl) (by kernel_rfl) (by kernel_rfl) (fun _ _ _ h => h) (Or.inl ⟨by rfl, ?hy17x17⟩) (by assumption) ?_
                  case hy17x17 => (intro w0 hSw; (try dsimp only at hSw); go_simp; try (with_reducible rfl))
                  try simp only [Act.put, List.setIfInBounds_toArray, List.set_cons_zero, List.set_cons_succ]
                  refine wpAnyH_take (i := 18) (v := ?v18x18) rfl (by kernel_rfl) (by kernel_rfl) (by kernel_rfl) (fun _ _ _ h => h) (Or.inl ⟨by rfl, ?hy18x18⟩) (by assumption) ?_
                  case hy18x18 => (intro w0 hSw; (try dsimp only at hSw); go_simp; try (with_reducible rfl))
                  try simp only [Act.put, List.setIfInBounds_toArray, List.set_cons_zero, List.set_cons_succ]
                  refine wpAnyH_take (i := 19) (v := ?v19x19) rfl (by kernel_rfl) (by kernel_rfl) (by kernel_rfl) (fun _ _ _ h => h) (Or.inl ⟨by rfl, ?hy19x19⟩) (by assumption) ?_
                  case hy19x19 => (intro w0 hSw; (try dsimp only at hSw); go_simp; try (with_reducible rfl))
                  try simp only [Act.put, List.setIfInBounds_toArray, List.set_cons_zero, List.set_cons_succ]
                  have hbx : BoxD w4 (w3.heap.size + 1) 45 #[.int .i64 0, .int .i64 0, .int .i64 0] := (by with_reducible (repeat (first | assumption | exact BoxD.made _ _ _ | exact BoxD.made1 _ _ _ _ | apply BoxD.drewK | apply BoxD.allocK)))
                  obtain ⟨y0, y1, y2⟩ := hbx.three
                  have f0 := hbx.free 0
                  have f1 := hbx.free 1
                  have f2 := hbx.free 2
                  have lbx := hbx.lt
                  refine wpAnyH_ready (rs := [21]) (by kernel_rfl) (by simp) ?_
                  refine AllReadyH.cons rfl (fun K hK => ?_) AllReadyH.nil
                  go_simp
                  try go_wp2_with fail
                  refine hK.out _ _ ?_ (fun _ => ?_)
                  · exact ⟨Ce.cell (by with_reducible (repeat (first | assumption | exact Ce.made _ hkv | exact Ce.made1 _ _ hkv | apply Ce.drewK | apply Ce.allocK | refine Ce.setK ?_ (by omega)))), Ce.cell (by with_reducible (repeat (first | assumption | exact Ce.made _ hkv | exact Ce.made1 _ _ hkv | apply Ce.drewK | apply Ce.allocK | refine Ce.setK ?_ (by omega))))⟩
                  clear hK K
                  refine wpAnyH_done (by kernel_rfl) ?_ _
                  go_wp2_with fail
                  go_meet
                  exact ⟨(w3.heap.size + 1), IntKind.i64.wrap (1 + k2), kv, rfl, by rw [unhide HW5]; omega, by rw [unhide HW5]; omega, ⟨(by with_reducible (repeat (first | assumption | apply Pk.drewK | apply Pk.allocK | refine Pk.setK ?_ (by omega) hBl (unhide NR _ (by omega)) _ _))), (by with_reducible (repeat (first | assumption | exact BoxD.made _ _ _ | exact BoxD.made1 _ _ _ _ | apply BoxD.drewK | apply BoxD.allocK | apply BoxD.set3))), by omega, unhide NR _ (by omega)⟩⟩
                exact AllReadyH.nil
              exact AllReadyH.nil
            refine AllReadyH.cons rfl (fun K hK => ?_) ?_
            · -- 16, behind [4, 10]
              go_simp
              go_at_call 33
              refine (pick_any B (q + 1 + 1) 7 _ (Pk.rd (by with_reducible (repeat (first | assumption | apply Pk.drewK | apply Pk.allocK)))) (by omega) (by omega)).mono ?_; rintro e w4 ⟨k4, rfl, p4, m4, r4, g4, -⟩
              have m4' := m4 (by omega)
              have pk4 : Pk w w4 B (q + 1 + 1 + 1) u3 L := Pk.pick (by with_reducible (repeat (first | assumption | apply Pk.drewK | apply Pk.allocK))) g4 r4 hBl
              have z4 := g4.size
              try simp at z4
              have ce4 : Ce w4 G 0 (.pointer (some ⟨B, 0, none⟩)) := Ce.far (by with_reducible (repeat (first | assumption | apply Ce.drewK | apply Ce.allocK))) g4 hneO
              have lG4 : G < w4.heap.size := lt_of_cell ce4.cell
              obtain ⟨K4, rfl⟩ := Int.eq_ofNat_of_zero_le p4
              have hK4 : K4 < 7 := by omega
              have hK4' : (K4 : Int) < 7 := by omega
              have hK4'' : (0 : Int) ≤ (K4 : Int) := by omega
              obtain ⟨kv, hkv, hkv'⟩ := seven2 k3 K4 hK4
              clear r4 g4 m4
              try go_wp2_with fail
              clear hHeld
              refine hK.out _ _ ?_ (fun hHeld => ?_)
              · exact Ce.cell (by with_reducible (repeat (first | assumption | apply Ce.drewK | apply Ce.allocK)))
              clear hK K
              refine wpAnyH_ready (rs := [11, 20]) (by kernel_rfl) (by simp) ?_
              refine AllReadyH.cons rfl (fun K hK => ?_) ?_
              · -- 11, behind [4, 10, 16]
                go_simp
                clear hHeld
                refine hK.out _ _ ?_ (fun hHeld => ?_)
                · exact Ce.cell (by with_reducible (repeat (first | assumption | apply Ce.drewK | apply Ce.allocK)))
                clear hK K
                have hrow : Ce (w4.alloc (.cells #[.int .i64 0, .int .i64 1, .int .i64 4, .int .i64 5, .int .i64 8, .int .i64 9, .int .i64 k3] 3)) w4.heap.size K4 (.int .i64 kv) := (by with_reducible (repeat (first | assumption | exact Ce.made _ hkv | exact Ce.made1 _ _ hkv | apply Ce.drewK | apply Ce.allocK)))
                refine wpAnyH_mono (S' := fun w' => w'.cell? ⟨G, 0, none⟩ = some (.pointer (some ⟨B, 0, none⟩)) ∧ w'.cell? ⟨w4.heap.size, K4, none⟩ = some (.int .i64 kv)) (fun _ h => h.1) _ _ _ _ ?_
                have hHeld2 := And.intro hHeld hrow.cell
                clear hHeld
                refine wpAnyH_take (i := 17) (v := ?v17x20) rfl (by kernel_rfl) (by kernel_rfl) (by kernel_rfl) (fun _ _ _ h => h) (Or.inl ⟨by rfl, ?hy17x20⟩) (by assumption) ?_
                case hy17x20 => (intro w0 hSw; (try dsimp only at hSw); go_simp; try (with_reducible rfl))
                try simp only [Act.put, List.setIfInBounds_toArray, List.set_cons_zero, List.set_cons_succ]
                refine wpAnyH_take (i := 18) (v := ?v18x21) rfl (by kernel_rfl) (by kernel_rfl) (by kernel_rfl) (fun _ _ _ h => h) (Or.inl ⟨by rfl, ?hy18x21⟩) (by assumption) ?_
                case hy18x21 => (intro w0 hSw; (try dsimp only at hSw); go_simp; try (with_reducible rfl))
                try simp only [Act.put, List.setIfInBounds_toArray, List.set_cons_zero, List.set_cons_succ]
                refine wpAnyH_take (i := 19) (v := ?v19x22) rfl (by kernel_rfl) (by kernel_rfl) (by kernel_rfl) (fun _ _ _ h => h) (Or.inl ⟨by rfl, ?hy19x22⟩) (by assumption) ?_
                case hy19x22 => (intro w0 hSw; (try dsimp only at hSw); go_simp; try (with_reducible rfl))
                try simp only [Act.put, List.setIfInBounds_toArray, List.set_cons_zero, List.set_cons_succ]
                refine wpAnyH_ready (rs := [20]) (by kernel_rfl) (by simp) ?_
                refine AllReadyH.cons rfl (fun K hK => ?_) AllReadyH.nil
                go_simp
                refine hK.out _ _ ?_ (fun hHeld3 => ?_)
                · exact ⟨Ce.cell (by with_reducible (repeat (first | assumption | apply Ce.drewK | apply Ce.allocK))), Ce.cell (by with_reducible (repeat (first | assumption | exact Ce.made _ hkv | exact Ce.made1 _ _ hkv | apply Ce.drewK | apply Ce.allocK)))⟩
                clear hK K hHeld2
                refine wpAnyH_ready (rs := [21]) (by kernel_rfl) (by simp) ?_
                refine AllReadyH.cons rfl (fun K hK => ?_) AllReadyH.nil
                go_simp
                try go_wp2_with fail
                refine hK.out _ _ ?_ (fun _ => ?_)
                · exact ⟨Ce.cell (by with_reducible (repeat (first | assumption | exact Ce.made _ hkv | exact Ce.made1 _ _ hkv | apply Ce.drewK | apply Ce.allocK | refine Ce.setK ?_ (by omega)))), Ce.cell (by with_reducible (repeat (first | assumption | exact Ce.made _ hkv | exact Ce.made1 _ _ hkv | apply Ce.drewK | apply Ce.allocK | refine Ce.setK ?_ (by omega))))⟩
                clear hK K
                refine wpAnyH_done (by kernel_rfl) ?_ _
                go_wp2_with fail
                go_meet
                exact ⟨(w4.heap.size + 1), IntKind.i64.wrap (1 + k2), kv, rfl, by rw [unhide HW5]; omega, by rw [unhide HW5]; omega, ⟨(by with_reducible (repeat (first | assumption | apply Pk.drewK | apply Pk.allocK | refine Pk.setK ?_ (by omega) hBl (unhide NR _ (by omega)) _ _))), (by with_reducible (repeat (first | assumption | exact BoxD.made _ _ _ | exact BoxD.made1 _ _ _ _ | apply BoxD.drewK | apply BoxD.allocK | apply BoxD.set3))), by omega, unhide NR _ (by omega)⟩⟩
              refine AllReadyH.cons rfl (fun K hK => ?_) ?_
              · -- 20, behind [4, 10, 16]
                go_simp
                clear hHeld
                refine hK.out _ _ ?_ (fun hHeld => ?_)
                · exact Ce.cell (by with_reducible (repeat (first | assumption | apply Ce.drewK | apply Ce.allocK)))
                clear hK K
                refine wpAnyH_ready (rs := [11]) (by kernel_rfl) (by simp) ?_
                refine AllReadyH.cons rfl (fun K hK => ?_) ?_
                · -- 11, behind [4, 10, 16, 20]
                  go_simp
                  clear hHeld
                  refine hK.out _ _ ?_ (fun hHeld => ?_)
                  · exact Ce.cell (by with_reducible (repeat (first | assumption | apply Ce.drewK | apply Ce.allocK)))
                  clear hK K
                  have hrow : Ce ((w4.alloc (.cells #[.int .i64 0, .int .i64 0, .int .i64 0] 45)).alloc (.cells #[.int .i64 0, .int .i64 1, .int .i64 4, .int .i64 5, .int .i64 8, .int .i64 9, .int .i64 k3] 3)) (w4.heap.size + 1) K4 (.int .i64 kv) := (by with_reducible (repeat (first | assumption | exact Ce.made _ hkv | exact Ce.made1 _ _ hkv | apply Ce.drewK | apply Ce.allocK)))
                  refine wpAnyH_mono (S' := fun w' => w'.cell? ⟨G, 0, none⟩ = some (.pointer (some ⟨B, 0, none⟩)) ∧ w'.cell? ⟨(w4.heap.size + 1), K4, none⟩ = some (.int .i64 kv)) (fun _ h => h.1) _ _ _ _ ?_
                  have hHeld2 := And.intro hHeld hrow.cell
                  clear hHeld
                  refine wpAnyH_take (i := 17) (v := ?v17x23) rfl (by kernel_rfl) (by kernel_rfl) (by kernel_rfl) (fun _ _ _ h => h) (Or.inl ⟨by rfl, ?hy17x23⟩) (by assumption) ?_
                  case hy17x23 => (intro w0 hSw; (try dsimp only at hSw); go_simp; try (with_reducible rfl))
                  try simp only [Act.put, List.setIfInBounds_toArray, List.set_cons_zero, List.set_cons_succ]
                  refine wpAnyH_take (i := 18) (v := ?v18x24) rfl (by kernel_rfl) (by kernel_rfl) (by kernel_rfl) (fun _ _ _ h => h) (Or.inl ⟨by rfl, ?hy18x24⟩) (by assumption) ?_
                  case hy18x24 => (intro w0 hSw; (try dsimp only at hSw); go_simp; try (with_reducible rfl))
                  try simp only [Act.put, List.setIfInBounds_toArray, List.set_cons_zero, List.set_cons_succ]
                  refine wpAnyH_take (i := 19) (v := ?v19x25) rfl (by kernel_rfl) (by kernel_rfl) (by kernel_rfl) (fun _ _ _ h => h) (Or.inl ⟨by rfl, ?hy19x25⟩) (by assumption) ?_
                  case hy19x25 => (intro w0 hSw; (try dsimp only at hSw); go_simp; try (with_reducible rfl))
                  try simp only [Act.put, List.setIfInBounds_toArray, List.set_cons_zero, List.set_cons_succ]
                  have hbx : BoxD ((w4.alloc (.cells #[.int .i64 0, .int .i64 0, .int .i64 0] 45)).alloc (.cells #[.int .i64 0, .int .i64 1, .int .i64 4, .int .i64 5, .int .i64 8, .int .i64 9, .int .i64 k3] 3)) w4.heap.size 45 #[.int .i64 0, .int .i64 0, .int .i64 0] := (by with_reducible (repeat (first | assumption | exact BoxD.made _ _ _ | exact BoxD.made1 _ _ _ _ | apply BoxD.drewK | apply BoxD.allocK)))
                  obtain ⟨y0, y1, y2⟩ := hbx.three
                  have f0 := hbx.free 0
                  have f1 := hbx.free 1
                  have f2 := hbx.free 2
                  have lbx := hbx.lt
                  refine wpAnyH_ready (rs := [21]) (by kernel_rfl) (by simp) ?_
                  refine AllReadyH.cons rfl (fun K hK => ?_) AllReadyH.nil
                  go_simp
                  try go_wp2_with fail
                  refine hK.out _ _ ?_ (fun _ => ?_)
                  · exact ⟨Ce.cell (by with_reducible (repeat (first | assumption | exact Ce.made _ hkv | exact Ce.made1 _ _ hkv | apply Ce.drewK | apply Ce.allocK | refine Ce.setK ?_ (by omega)))), Ce.cell (by with_reducible (repeat (first | assumption | exact Ce.made _ hkv | exact Ce.made1 _ _ hkv | apply Ce.drewK | apply Ce.allocK | refine Ce.setK ?_ (by omega))))⟩
                  clear hK K
                  refine wpAnyH_done (by kernel_rfl) ?_ _
                  go_wp2_with fail
                  go_meet
                  exact ⟨w4.heap.size, IntKind.i64.wrap (1 + k2), kv, rfl, by rw [unhide HW5]; omega, by rw [unhide HW5]; omega, ⟨(by with_reducible (repeat (first | assumption | apply Pk.drewK | apply Pk.allocK | refine Pk.setK ?_ (by omega) hBl (unhide NR _ (by omega)) _ _))), (by with_reducible (repeat (first | assumption | exact BoxD.made _ _ _ | exact BoxD.made1 _ _ _ _ | apply BoxD.drewK | apply BoxD.allocK | apply BoxD.set3))), by omega, unhide NR _ (by omega)⟩⟩
                exact AllReadyH.nil
              exact AllReadyH.nil
            refine AllReadyH.cons rfl (fun K hK => ?_) ?_
            · -- 20, behind [4, 10]
              go_simp
              clear hHeld
              refine hK.out _ _ ?_ (fun hHeld => ?_)
              · exact Ce.cell (by with_reducible (repeat (first | assumption | apply Ce.drewK | apply Ce.allocK)))
              clear hK K
              refine wpAnyH_ready (rs := [11, 16]) (by kernel_rfl) (by simp) ?_
              refine AllReadyH.cons rfl (fun K hK => ?_) ?_
              · -- 11, behind [4, 10, 20]
                go_simp
                clear hHeld
                refine hK.out _ _ ?_ (fun hHeld => ?_)
                · exact Ce.cell (by with_reducible (repeat (first | assumption | apply Ce.drewK | apply Ce.allocK)))
                clear hK K
                refine wpAnyH_ready (rs := [16]) (by kernel_rfl) (by simp) ?_
                refine AllReadyH.cons rfl (fun K hK => ?_) ?_
                · -- 16, behind [4, 10, 11, 20]
                  go_simp
                  go_at_call 33
                  refine (pick_any B (q + 1 + 1) 7 _ (Pk.rd (by with_reducible (repeat (first | assumption | apply Pk.drewK | apply Pk.allocK)))) (by omega) (by omega)).mono ?_; rintro e w4 ⟨k4, rfl, p4, m4, r4, g4, -⟩
                  have m4' := m4 (by omega)
                  have pk4 : Pk w w4 B (q + 1 + 1 + 1) u3 L := Pk.pick (by with_reducible (repeat (first | assumption | apply Pk.drewK | apply Pk.allocK))) g4 r4 hBl
                  have z4 := g4.size
                  try simp at z4
                  have ce4 : Ce w4 G 0 (.pointer (some ⟨B, 0, none⟩)) := Ce.far (by with_reducible (repeat (first | assumption | apply Ce.drewK | apply Ce.allocK))) g4 hneO
                  have lG4 : G < w4.heap.size := lt_of_cell ce4.cell
                  have bx4 : BoxD w4 w3.heap.size 45 #[.int .i64 0, .int .i64 0, .int .i64 0] := BoxD.far (by with_reducible (repeat (first | assumption | exact BoxD.made _ _ _ | exact BoxD.made1 _ _ _ _ | apply BoxD.drewK | apply BoxD.allocK))) g4 (unhide NX _ (by omega))
                  have lb4 := bx4.lt
                  obtain ⟨K4, rfl⟩ := Int.eq_ofNat_of_zero_le p4
                  have hK4 : K4 < 7 := by omega
                  have hK4' : (K4 : Int) < 7 := by omega
                  have hK4'' : (0 : Int) ≤ (K4 : Int) := by omega
                  obtain ⟨kv, hkv, hkv'⟩ := seven2 k3 K4 hK4
                  have c4 : Ce w4 (w3.heap.size + 1) K4 (.int .i64 kv) := Ce.far (by with_reducible (repeat (first | assumption | exact Ce.made _ hkv | exact Ce.made1 _ _ hkv | apply Ce.drewK | apply Ce.allocK))) g4 (unhide NX _ (by omega))
                  clear r4 g4 m4
                  try go_wp2_with fail
                  clear hHeld
                  refine hK.out _ _ ?_ (fun hHeld => ?_)
                  · exact Ce.cell (by with_reducible (repeat (first | assumption | apply Ce.drewK | apply Ce.allocK)))
                  clear hK K
                  have hrow : Ce w4 (w3.heap.size + 1) K4 (.int .i64 kv) := (by with_reducible (repeat (first | assumption | exact Ce.made _ hkv | exact Ce.made1 _ _ hkv | apply Ce.drewK | apply Ce.allocK)))
                  refine wpAnyH_mono (S' := fun w' => w'.cell? ⟨G, 0, none⟩ = some (.pointer (some ⟨B, 0, none⟩)) ∧ w'.cell? ⟨(w3.heap.size + 1), K4, none⟩ = some (.int .i64 kv)) (fun _ h => h.1) _ _ _ _ ?_
                  have hHeld2 := And.intro hHeld hrow.cell
                  clear hHeld
                  refine wpAnyH_take (i := 17) (v := ?v17x26) rfl (by kernel_rfl) (by kernel_rfl) (by kernel_rfl) (fun _ _ _ h => h) (Or.inl ⟨by rfl, ?hy17x26⟩) (by assumption) ?_
                  case hy17x26 => (intro w0 hSw; (try dsimp only at hSw); go_simp; try (with_reducible rfl))
                  try simp only [Act.put, List.setIfInBounds_toArray, List.set_cons_zero, List.set_cons_succ]
                  refine wpAnyH_take (i := 18) (v := ?v18x27) rfl (by kernel_rfl) (by kernel_rfl) (by kernel_rfl) (fun _ _ _ h => h) (Or.inl ⟨by rfl, ?hy18x27⟩) (by assumption) ?_
                  case hy18x27 => (intro w0 hSw; (try dsimp only at hSw); go_simp; try (with_reducible rfl))
                  try simp only [Act.put, List.setIfInBounds_toArray, List.set_cons_zero, List.set_cons_succ]
                  refine wpAnyH_take (i := 19) (v := ?v19x28) rfl (by kernel_rfl) (by kernel_rfl) (by kernel_rfl) (fun _ _ _ h => h) (Or.inl ⟨by rfl, ?hy19x28⟩) (by assumption) ?_
                  case hy19x28 => (intro w0 hSw; (try dsimp only at hSw); go_simp; try (with_reducible rfl))
                  try simp only [Act.put, List.setIfInBounds_toArray, List.set_cons_zero, List.set_cons_succ]
                  have hbx : BoxD w4 w3.heap.size 45 #[.int .i64 0, .int .i64 0, .int .i64 0] := (by with_reducible (repeat (first | assumption | exact BoxD.made _ _ _ | exact BoxD.made1 _ _ _ _ | apply BoxD.drewK | apply BoxD.allocK)))
                  obtain ⟨y0, y1, y2⟩ := hbx.three
                  have f0 := hbx.free 0
                  have f1 := hbx.free 1
                  have f2 := hbx.free 2
                  have lbx := hbx.lt
                  refine wpAnyH_ready (rs := [21]) (by kernel_rfl) (by simp) ?_
                  refine AllReadyH.cons rfl (fun K hK => ?_) AllReadyH.nil
                  go_simp
                  try go_wp2_with fail
                  refine hK.out _ _ ?_ (fun _ => ?_)
                  · exact ⟨Ce.cell (by with_reducible (repeat (first | assumption | exact Ce.made _ hkv | exact Ce.made1 _ _ hkv | apply Ce.drewK | apply Ce.allocK | refine Ce.setK ?_ (by omega)))), Ce.cell (by with_reducible (repeat (first | assumption | exact Ce.made _ hkv | exact Ce.made1 _ _ hkv | apply Ce.drewK | apply Ce.allocK | refine Ce.setK ?_ (by omega))))⟩
                  clear hK K
                  refine wpAnyH_done (by kernel_rfl) ?_ _
                  go_wp2_with fail
                  go_meet
                  exact ⟨w3.heap.size, IntKind.i64.wrap (1 + k2), kv, rfl, by rw [unhide HW5]; omega, by rw [unhide HW5]; omega, ⟨(by with_reducible (repeat (first | assumption | apply Pk.drewK | apply Pk.allocK | refine Pk.setK ?_ (by omega) hBl (unhide NR _ (by omega)) _ _))), (by with_reducible (repeat (first | assumption | exact BoxD.made _ _ _ | exact BoxD.made1 _ _ _ _ | apply BoxD.drewK | apply BoxD.allocK | apply BoxD.set3))), by omega, unhide NR _ (by omega)⟩⟩
                exact AllReadyH.nil
              refine AllReadyH.cons rfl (fun K hK => ?_) ?_
              · -- 16, behind [4, 10, 20]
                go_simp
                go_at_call 33
                refine (pick_any B (q + 1 + 1) 7 _ (Pk.rd (by with_reducible (repeat (first | assumption | apply Pk.drewK | apply Pk.allocK)))) (by omega) (by omega)).mono ?_; rintro e w4 ⟨k4, rfl, p4, m4, r4, g4, -⟩
                have m4' := m4 (by omega)
                have pk4 : Pk w w4 B (q + 1 + 1 + 1) u3 L := Pk.pick (by with_reducible (repeat (first | assumption | apply Pk.drewK | apply Pk.allocK))) g4 r4 hBl
                have z4 := g4.size
                try simp at z4
                have ce4 : Ce w4 G 0 (.pointer (some ⟨B, 0, none⟩)) := Ce.far (by with_reducible (repeat (first | assumption | apply Ce.drewK | apply Ce.allocK))) g4 hneO
                have lG4 : G < w4.heap.size := lt_of_cell ce4.cell
                have bx4 : BoxD w4 w3.heap.size 45 #[.int .i64 0, .int .i64 0, .int .i64 0] := BoxD.far (by with_reducible (repeat (first | assumption | exact BoxD.made _ _ _ | exact BoxD.made1 _ _ _ _ | apply BoxD.drewK | apply BoxD.allocK))) g4 (unhide NX _ (by omega))
                have lb4 := bx4.lt
                obtain ⟨K4, rfl⟩ := Int.eq_ofNat_of_zero_le p4
                have hK4 : K4 < 7 := by omega
                have hK4' : (K4 : Int) < 7 := by omega
                have hK4'' : (0 : Int) ≤ (K4 : Int) := by omega
                obtain ⟨kv, hkv, hkv'⟩ := seven2 k3 K4 hK4
                clear r4 g4 m4
                try go_wp2_with fail
                clear hHeld
                refine hK.out _ _ ?_ (fun hHeld => ?_)
                · exact Ce.cell (by with_reducible (repeat (first | assumption | apply Ce.drewK | apply Ce.allocK)))
                clear hK K
                refine wpAnyH_ready (rs := [11]) (by kernel_rfl) (by simp) ?_
                refine AllReadyH.cons rfl (fun K hK => ?_) ?_
                · -- 11, behind [4, 10, 16, 20]
                  go_simp
                  clear hHeld
                  refine hK.out _ _ ?_ (fun hHeld => ?_)
                  · exact Ce.cell (by with_reducible (repeat (first | assumption | apply Ce.drewK | apply Ce.allocK)))
                  clear hK K
                  have hrow : Ce (w4.alloc (.cells #[.int .i64 0, .int .i64 1, .int .i64 4, .int .i64 5, .int .i64 8, .int .i64 9, .int .i64 k3] 3)) w4.heap.size K4 (.int .i64 kv) := (by with_reducible (repeat (first | assumption | exact Ce.made _ hkv | exact Ce.made1 _ _ hkv | apply Ce.drewK | apply Ce.allocK)))
                  refine wpAnyH_mono (S' := fun w' => w'.cell? ⟨G, 0, none⟩ = some (.pointer (some ⟨B, 0, none⟩)) ∧ w'.cell? ⟨w4.heap.size, K4, none⟩ = some (.int .i64 kv)) (fun _ h => h.1) _ _ _ _ ?_
                  have hHeld2 := And.intro hHeld hrow.cell
                  clear hHeld
                  refine wpAnyH_take (i := 17) (v := ?v17x29) rfl (by kernel_rfl) (by kernel_rfl) (by kernel_rfl) (fun _ _ _ h => h) (Or.inl ⟨by rfl, ?hy17x29⟩) (by assumption) ?_
                  case hy17x29 => (intro w0 hSw; (try dsimp only at hSw); go_simp; try (with_reducible rfl))
                  try simp only [Act.put, List.setIfInBounds_toArray, List.set_cons_zero, List.set_cons_succ]
                  refine wpAnyH_take (i := 18) (v := ?v18x30) rfl (by kernel_rfl) (by kernel_rfl) (by kernel_rfl) (fun _ _ _ h => h) (Or.inl ⟨by rfl, ?hy18x30⟩) (by assumption) ?_
                  case hy18x30 => (intro w0 hSw; (try dsimp only at hSw); go_simp; try (with_reducible rfl))
                  try simp only [Act.put, List.setIfInBounds_toArray, List.set_cons_zero, List.set_cons_succ]
                  refine wpAnyH_take (i := 19) (v := ?v19x31) rfl (by kernel_rfl) (by kernel_rfl) (by kernel_rfl) (fun _ _ _ h => h) (Or.inl ⟨by rfl, ?hy19x31⟩) (by assumption) ?_
                  case hy19x31 => (intro w0 hSw; (try dsimp only at hSw); go_simp; try (with_reducible rfl))
                  try simp only [Act.put, List.setIfInBounds_toArray, List.set_cons_zero, List.set_cons_succ]
                  have hbx : BoxD (w4.alloc (.cells #[.int .i64 0, .int .i64 1, .int .i64 4, .int .i64 5, .int .i64 8, .int .i64 9, .int .i64 k3] 3)) w3.heap.size 45 #[.int .i64 0, .int .i64 0, .int .i64 0] := (by with_reducible (repeat (first | assumption | exact BoxD.made _ _ _ | exact BoxD.made1 _ _ _ _ | apply BoxD.drewK | apply BoxD.allocK)))
                  obtain ⟨y0, y1, y2⟩ := hbx.three
                  have f0 := hbx.free 0
                  have f1 := hbx.free 1
                  have f2 := hbx.free 2
                  have lbx := hbx.lt
                  obtain ⟨y0b, y1b, y2b⟩ := bx4.three
                  have f0b := bx4.free 0
                  have f1b := bx4.free 1
                  have f2b := bx4.free 2
                  refine wpAnyH_ready (rs := [21]) (by kernel_rfl) (by simp) ?_
                  refine AllReadyH.cons rfl (fun K hK => ?_) AllReadyH.nil
                  go_simp
                  try go_wp2_with fail
                  refine hK.out _ _ ?_ (fun _ => ?_)
                  · exact ⟨Ce.cell (by with_reducible (repeat (first | assumption | exact Ce.made _ hkv | exact Ce.made1 _ _ hkv | apply Ce.drewK | apply Ce.allocK | refine Ce.setK ?_ (by omega)))), Ce.cell (by with_reducible (repeat (first | assumption | exact Ce.made _ hkv | exact Ce.made3 _ _ _ _ _ hkv | exact Ce.made1 _ _ hkv | apply Ce.drewK | apply Ce.allocK | refine Ce.setK ?_ (by omega))))⟩
                  clear hK K
                  refine wpAnyH_done (by kernel_rfl) ?_ _
                  go_wp2_with fail
                  go_meet
                  exact ⟨w3.heap.size, IntKind.i64.wrap (1 + k2), kv, rfl, by rw [unhide HW5]; omega, by rw [unhide HW5]; omega, ⟨(by with_reducible (repeat (first | assumption | apply Pk.drewK | apply Pk.allocK | refine Pk.setK ?_ (by omega) hBl (unhide NR _ (by omega)) _ _))), (by with_reducible (repeat (first | assumption | exact BoxD.made _ _ _ | exact BoxD.made1 _ _ _ _ | apply BoxD.drewK | apply BoxD.allocK | apply BoxD.set3))), by omega, unhide NR _ (by omega)⟩⟩
                exact AllReadyH.nil
              exact AllReadyH.nil
            exact AllReadyH.nil
          refine AllReadyH.cons rfl (fun K hK => ?_) ?_
          · -- 20, behind [4]
            go_simp
            clear hHeld
            refine hK.out _ _ ?_ (fun hHeld => ?_)
            · exact Ce.cell (by with_reducible (repeat (first | assumption | apply Ce.drewK | apply Ce.allocK)))
            clear hK K
            refine wpAnyH_ready (rs := [10]) (by kernel_rfl) (by simp) ?_
            refine AllReadyH.cons rfl (fun K hK => ?_) ?_
            · -- 10, behind [4, 20]
              go_simp
              go_at_call 33
              refine (pick_any B (q + 1) 32 _ (Pk.rd (by with_reducible (repeat (first | assumption | apply Pk.drewK | apply Pk.allocK)))) (by omega) (by omega)).mono ?_; rintro e w3 ⟨k3, rfl, p3, m3, r3, g3, -⟩
              have m3' := m3 (by omega)
              have pk3 : Pk w w3 B (q + 1 + 1) u3 L := Pk.pick (by with_reducible (repeat (first | assumption | apply Pk.drewK | apply Pk.allocK))) g3 r3 hBl
              have z3 := g3.size
              try simp at z3
              have ce3 : Ce w3 G 0 (.pointer (some ⟨B, 0, none⟩)) := Ce.far (by with_reducible (repeat (first | assumption | apply Ce.drewK | apply Ce.allocK))) g3 hneO
              have lG3 : G < w3.heap.size := lt_of_cell ce3.cell
              have bx3 : BoxD w3 w2.heap.size 45 #[.int .i64 0, .int .i64 0, .int .i64 0] := BoxD.far (by with_reducible (repeat (first | assumption | exact BoxD.made _ _ _ | exact BoxD.made1 _ _ _ _ | apply BoxD.drewK | apply BoxD.allocK))) g3 (unhide NX _ (by omega))
              have lb3 := bx3.lt
              clear r3 g3 m3
              try go_wp2_with fail
              clear hHeld
              refine hK.out _ _ ?_ (fun hHeld => ?_)
              · exact Ce.cell (by with_reducible (repeat (first | assumption | apply Ce.drewK | apply Ce.allocK)))
              clear hK K
              refine wpAnyH_ready (rs := [11, 16]) (by kernel_rfl) (by simp) ?_
              refine AllReadyH.cons rfl (fun K hK => ?_) ?_
              · -- 11, behind [4, 10, 20]
                go_simp
                clear hHeld
                refine hK.out _ _ ?_ (fun hHeld => ?_)
                · exact Ce.cell (by with_reducible (repeat (first | assumption | apply Ce.drewK | apply Ce.allocK)))
                clear hK K
                refine wpAnyH_ready (rs := [16]) (by kernel_rfl) (by simp) ?_
                refine AllReadyH.cons rfl (fun K hK => ?_) ?_
                · -- 16, behind [4, 10, 11, 20]
                  go_simp
                  go_at_call 33
                  refine (pick_any B (q + 1 + 1) 7 _ (Pk.rd (by with_reducible (repeat (first | assumption | apply Pk.drewK | apply Pk.allocK)))) (by omega) (by omega)).mono ?_; rintro e w4 ⟨k4, rfl, p4, m4, r4, g4, -⟩
                  have m4' := m4 (by omega)
                  have pk4 : Pk w w4 B (q + 1 + 1 + 1) u3 L := Pk.pick (by with_reducible (repeat (first | assumption | apply Pk.drewK | apply Pk.allocK))) g4 r4 hBl
                  have z4 := g4.size
                  try simp at z4
                  have ce4 : Ce w4 G 0 (.pointer (some ⟨B, 0, none⟩)) := Ce.far (by with_reducible (repeat (first | assumption | apply Ce.drewK | apply Ce.allocK))) g4 hneO
                  have lG4 : G < w4.heap.size := lt_of_cell ce4.cell
                  have bx4 : BoxD w4 w2.heap.size 45 #[.int .i64 0, .int .i64 0, .int .i64 0] := BoxD.far (by with_reducible (repeat (first | assumption | exact BoxD.made _ _ _ | exact BoxD.made1 _ _ _ _ | apply BoxD.drewK | apply BoxD.allocK))) g4 (unhide NX _ (by omega))
                  have lb4 := bx4.lt
                  obtain ⟨K4, rfl⟩ := Int.eq_ofNat_of_zero_le p4
                  have hK4 : K4 < 7 := by omega
                  have hK4' : (K4 : Int) < 7 := by omega
                  have hK4'' : (0 : Int) ≤ (K4 : Int) := by omega
                  obtain ⟨kv, hkv, hkv'⟩ := seven2 k3 K4 hK4
                  have c4 : Ce w4 w3.heap.size K4 (.int .i64 kv) := Ce.far (by with_reducible (repeat (first | assumption | exact Ce.made _ hkv | exact Ce.made1 _ _ hkv | apply Ce.drewK | apply Ce.allocK))) g4 (unhide NX _ (by omega))
                  clear r4 g4 m4
                  try go_wp2_with fail
                  clear hHeld
                  refine hK.out _ _ ?_ (fun hHeld => ?_)
                  · exact Ce.cell (by with_reducible (repeat (first | assumption | apply Ce.drewK | apply Ce.allocK)))
                  clear hK K
                  have hrow : Ce w4 w3.heap.size K4 (.int .i64 kv) := (by with_reducible (repeat (first | assumption | exact Ce.made _ hkv | exact Ce.made1 _ _ hkv | apply Ce.drewK | apply Ce.allocK)))
                  refine wpAnyH_mono (S' := fun w' => w'.cell? ⟨G, 0, none⟩ = some (.pointer (some ⟨B, 0, none⟩)) ∧ w'.cell? ⟨w3.heap.size, K4, none⟩ = some (.int .i64 kv)) (fun _ h => h.1) _ _ _ _ ?_
                  have hHeld2 := And.intro hHeld hrow.cell
                  clear hHeld
                  refine wpAnyH_take (i := 17) (v := ?v17x32) rfl (by kernel_rfl) (by kernel_rfl) (by kernel_rfl) (fun _ _ _ h => h) (Or.inl ⟨by rfl, ?hy17x32⟩) (by assumption) ?_
                  case hy17x32 => (intro w0 hSw; (try dsimp only at hSw); go_simp; try (with_reducible rfl))
                  try simp only [Act.put, List.setIfInBounds_toArray, List.set_cons_zero, List.set_cons_succ]
                  refine wpAnyH_take (i := 18) (v := ?v18x33) rfl (by kernel_rfl) (by kernel_rfl) (by kernel_rfl) (fun _ _ _ h => h) (Or.inl ⟨by rfl, ?hy18x33⟩) (by assumption) ?_
                  case hy18x33 => (intro w0 hSw; (try dsimp only at hSw); go_simp; try (with_reducible rfl))
                  try simp only [Act.put, List.setIfInBounds_toArray, List.set_cons_zero, List.set_cons_succ]
                  refine wpAnyH_take (i := 19) (v := ?v19x34) rfl (by kernel_rfl) (by kernel_rfl) (by kernel_rfl) (fun _ _ _ h => h) (Or.inl ⟨by rfl, ?hy19x34⟩) (by assumption) ?_
                  case hy19x34 => (intro w0 hSw; (try dsimp only at hSw); go_simp; try (with_reducible rfl))
                  try simp only [Act.put, List.setIfInBounds_toArray, List.set_cons_zero, List.set_cons_succ]
                  have hbx : BoxD w4 w2.heap.size 45 #[.int .i64 0, .int .i64 0, .int .i64 0] := (by with_reducible (repeat (first | assumption | exact BoxD.made _ _ _ | exact BoxD.made1 _ _ _ _ | apply BoxD.drewK | apply BoxD.allocK)))
                  obtain ⟨y0, y1, y2⟩ := hbx.three
                  have f0 := hbx.free 0
                  have f1 := hbx.free 1
                  have f2 := hbx.free 2
                  have lbx := hbx.lt
                  refine wpAnyH_ready (rs := [21]) (by kernel_rfl) (by simp) ?_
                  refine AllReadyH.cons rfl (fun K hK => ?_) AllReadyH.nil
                  go_simp
                  try go_wp2_with fail
                  refine hK.out _ _ ?_ (fun _ => ?_)
                  · exact ⟨Ce.cell (by with_reducible (repeat (first | assumption | exact Ce.made _ hkv | exact Ce.made1 _ _ hkv | apply Ce.drewK | apply Ce.allocK | refine Ce.setK ?_ (by omega)))), Ce.cell (by with_reducible (repeat (first | assumption | exact Ce.made _ hkv | exact Ce.made1 _ _ hkv | apply Ce.drewK | apply Ce.allocK | refine Ce.setK ?_ (by omega))))⟩
                  clear hK K
                  refine wpAnyH_done (by kernel_rfl) ?_ _
                  go_wp2_with fail
                  go_meet
                  exact ⟨w2.heap.size, IntKind.i64.wrap (1 + k2), kv, rfl, by rw [unhide HW5]; omega, by rw [unhide HW5]; omega, ⟨(by with_reducible (repeat (first | assumption | apply Pk.drewK | apply Pk.allocK | refine Pk.setK ?_ (by omega) hBl (unhide NR _ (by omega)) _ _))), (by with_reducible (repeat (first | assumption | exact BoxD.made _ _ _ | exact BoxD.made1 _ _ _ _ | apply BoxD.drewK | apply BoxD.allocK | apply BoxD.set3))), by omega, unhide NR _ (by omega)⟩⟩
                exact AllReadyH.nil
              refine AllReadyH.cons rfl (fun K hK => ?_) ?_
              · -- 16, behind [4, 10, 20]
                go_simp
                go_at_call 33
                refine (pick_any B (q + 1 + 1) 7 _ (Pk.rd (by with_reducible (repeat (first | assumption | apply Pk.drewK | apply Pk.allocK)))) (by omega) (by omega)).mono ?_; rintro e w4 ⟨k4, rfl, p4, m4, r4, g4, -⟩
                have m4' := m4 (by omega)
                have pk4 : Pk w w4 B (q + 1 + 1 + 1) u3 L := Pk.pick (by with_reducible (repeat (first | assumption | apply Pk.drewK | apply Pk.allocK))) g4 r4 hBl
                have z4 := g4.size
                try simp at z4
                have ce4 : Ce w4 G 0 (.pointer (some ⟨B, 0, none⟩)) := Ce.far (by with_reducible (repeat (first | assumption | apply Ce.drewK | apply Ce.allocK))) g4 hneO
                have lG4 : G < w4.heap.size := lt_of_cell ce4.cell
                have bx4 : BoxD w4 w2.heap.size 45 #[.int .i64 0, .int .i64 0, .int .i64 0] := BoxD.far (by with_reducible (repeat (first | assumption | exact BoxD.made _ _ _ | exact BoxD.made1 _ _ _ _ | apply BoxD.drewK | apply BoxD.allocK))) g4 (unhide NX _ (by omega))
                have lb4 := bx4.lt
                obtain ⟨K4, rfl⟩ := Int.eq_ofNat_of_zero_le p4
                have hK4 : K4 < 7 := by omega
                have hK4' : (K4 : Int) < 7 := by omega
                have hK4'' : (0 : Int) ≤ (K4 : Int) := by omega
                obtain ⟨kv, hkv, hkv'⟩ := seven2 k3 K4 hK4
                clear r4 g4 m4
                try go_wp2_with fail
                clear hHeld
                refine hK.out _ _ ?_ (fun hHeld => ?_)
                · exact Ce.cell (by with_reducible (repeat (first | assumption | apply Ce.drewK | apply Ce.allocK)))
                clear hK K
                refine wpAnyH_ready (rs := [11]) (by kernel_rfl) (by simp) ?_
                refine AllReadyH.cons rfl (fun K hK => ?_) ?_
                · -- 11, behind [4, 10, 16, 20]
                  go_simp
                  clear hHeld
                  refine hK.out _ _ ?_ (fun hHeld => ?_)
                  · exact Ce.cell (by with_reducible (repeat (first | assumption | apply Ce.drewK | apply Ce.allocK)))
                  clear hK K
                  have hrow : Ce (w4.alloc (.cells #[.int .i64 0, .int .i64 1, .int .i64 4, .int .i64 5, .int .i64 8, .int .i64 9, .int .i64 k3] 3)) w4.heap.size K4 (.int .i64 kv) := (by with_reducible (repeat (first | assumption | exact Ce.made _ hkv | exact Ce.made1 _ _ hkv | apply Ce.drewK | apply Ce.allocK)))
                  refine wpAnyH_mono (S' := fun w' => w'.cell? ⟨G, 0, none⟩ = some (.pointer (some ⟨B, 0, none⟩)) ∧ w'.cell? ⟨w4.heap.size, K4, none⟩ = some (.int .i64 kv)) (fun _ h => h.1) _ _ _ _ ?_
                  have hHeld2 := And.intro hHeld hrow.cell
                  clear hHeld
                  refine wpAnyH_take (i := 17) (v := ?v17x35) rfl (by kernel_rfl) (by kernel_rfl) (by kernel_rfl) (fun _ _ _ h => h) (Or.inl ⟨by rfl, ?hy17x35⟩) (by assumption) ?_
                  case hy17x35 => (intro w0 hSw; (try dsimp only at hSw); go_simp; try (with_reducible rfl))
                  try simp only [Act.put, List.setIfInBounds_toArray, List.set_cons_zero, List.set_cons_succ]
                  refine wpAnyH_take (i := 18) (v := ?v18x36) rfl (by kernel_rfl) (by kernel_rfl) (by kernel_rfl) (fun _ _ _ h => h) (Or.inl ⟨by rfl, ?hy18x36⟩) (by assumption) ?_
                  case hy18x36 => (intro w0 hSw; (try dsimp only at hSw); go_simp; try (with_reducible rfl))
                  try simp only [Act.put, List.setIfInBounds_toArray, List.set_cons_zero, List.set_cons_succ]
                  refine wpAnyH_take (i := 19) (v := ?v19x37) rfl (by kernel_rfl) (by kernel_rfl) (by kernel_rfl) (fun _ _ _ h => h) (Or.inl ⟨by rfl, ?hy19x37⟩) (by assumption) ?_
                  case hy19x37 => (intro w0 hSw; (try dsimp only at hSw); go_simp; try (with_reducible rfl))
                  try simp only [Act.put, List.setIfInBounds_toArray, List.set_cons_zero, List.set_cons_succ]
                  have hbx : BoxD (w4.alloc (.cells #[.int .i64 0, .int .i64 1, .int .i64 4, .int .i64 5, .int .i64 8, .int .i64 9, .int .i64 k3] 3)) w2.heap.size 45 #[.int .i64 0, .int .i64 0, .int .i64 0] := (by with_reducible (repeat (first | assumption | exact BoxD.made _ _ _ | exact BoxD.made1 _ _ _ _ | apply BoxD.drewK | apply BoxD.allocK)))
                  obtain ⟨y0, y1, y2⟩ := hbx.three
                  have f0 := hbx.free 0
                  have f1 := hbx.free 1
                  have f2 := hbx.free 2
                  have lbx := hbx.lt
                  obtain ⟨y0b, y1b, y2b⟩ := bx4.three
                  have f0b := bx4.free 0
                  have f1b := bx4.free 1
                  have f2b := bx4.free 2
                  refine wpAnyH_ready (rs := [21]) (by kernel_rfl) (by simp) ?_
                  refine AllReadyH.cons rfl (fun K hK => ?_) AllReadyH.nil
                  go_simp
                  try go_wp2_with fail
                  refine hK.out _ _ ?_ (fun _ => ?_)
                  · exact ⟨Ce.cell (by with_reducible (repeat (first | assumption | exact Ce.made _ hkv | exact Ce.made1 _ _ hkv | apply Ce.drewK | apply Ce.allocK | refine Ce.setK ?_ (by omega)))), Ce.cell (by with_reducible (repeat (first | assumption | exact Ce.made _ hkv | exact Ce.made3 _ _ _ _ _ hkv | exact Ce.made1 _ _ hkv | apply Ce.drewK | apply Ce.allocK | refine Ce.setK ?_ (by omega))))⟩
                  clear hK K
                  refine wpAnyH_done (by kernel_rfl) ?_ _
                  go_wp2_with fail
                  go_meet
                  exact ⟨w2.heap.size, IntKind.i64.wrap (1 + k2), kv, rfl, by rw [unhide HW5]; omega, by rw [unhide HW5]; omega, ⟨(by with_reducible (repeat (first | assumption | apply Pk.drewK | apply Pk.allocK | refine Pk.setK ?_ (by omega) hBl (unhide NR _ (by omega)) _ _))), (by with_reducible (repeat (first | assumption | exact BoxD.made _ _ _ | exact BoxD.made1 _ _ _ _ | apply BoxD.drewK | apply BoxD.allocK | apply BoxD.set3))), by omega, unhide NR _ (by omega)⟩⟩
                exact AllReadyH.nil
              exact AllReadyH.nil
            exact AllReadyH.nil
          exact AllReadyH.nil
        refine AllReadyH.cons rfl (fun K hK => ?_) ?_
        · -- 20, behind []
          go_simp
          clear hHeld
          refine hK.out _ _ ?_ (fun hHeld => ?_)
          · exact Ce.cell (by with_reducible (repeat (first | assumption | apply Ce.drewK | apply Ce.allocK)))
          clear hK K
          refine wpAnyH_ready (rs := [4]) (by kernel_rfl) (by simp) ?_
          refine AllReadyH.cons rfl (fun K hK => ?_) ?_
          · -- 4, behind [20]
            go_simp
            go_at_call 33
            refine (pick_any B q 4 _ (Pk.rd (by with_reducible (repeat (first | assumption | apply Pk.drewK | apply Pk.allocK)))) (by omega) (by omega)).mono ?_; rintro e w2 ⟨k2, rfl, p2, m2, r2, g2, -⟩
            have m2' := m2 (by omega)
            have pk2 : Pk w w2 B (q + 1) u3 L := Pk.pick (by with_reducible (repeat (first | assumption | apply Pk.drewK | apply Pk.allocK))) g2 r2 hBl
            have z2 := g2.size
            try simp at z2
            have ce2 : Ce w2 G 0 (.pointer (some ⟨B, 0, none⟩)) := Ce.far (by with_reducible (repeat (first | assumption | apply Ce.drewK | apply Ce.allocK))) g2 hneO
            have lG2 : G < w2.heap.size := lt_of_cell ce2.cell
            have bx2 : BoxD w2 wr.heap.size 45 #[.int .i64 0, .int .i64 0, .int .i64 0] := BoxD.far (by with_reducible (repeat (first | assumption | exact BoxD.made _ _ _ | exact BoxD.made1 _ _ _ _ | apply BoxD.drewK | apply BoxD.allocK))) g2 (unhide NX _ (by omega))
            have lb2 := bx2.lt
            clear r2 g2 m2
            try go_wp2_with fail
            clear hHeld
            refine hK.out _ _ ?_ (fun hHeld => ?_)
            · exact Ce.cell (by with_reducible (repeat (first | assumption | apply Ce.drewK | apply Ce.allocK)))
            clear hK K
            have HW5 : Hid (IntKind.i64.wrap (1 + k2) = 1 + k2) := by show IntKind.i64.wrap (1 + k2) = 1 + k2; rw [IntKind.wrap_i64]; omega
            refine wpAnyH_take (i := 5) (v := ?v5x38) rfl (by kernel_rfl) (by kernel_rfl) (by kernel_rfl) (fun _ _ _ h => h) (Or.inl ⟨by rfl, ?hy5x38⟩) (by assumption) ?_
            case hy5x38 => (intro w0 hSw; (try dsimp only at hSw); go_simp; try (with_reducible rfl))
            try simp only [Act.put, List.setIfInBounds_toArray, List.set_cons_zero, List.set_cons_succ]
            refine wpAnyH_ready (rs := [10]) (by kernel_rfl) (by simp) ?_
            refine AllReadyH.cons rfl (fun K hK => ?_) ?_
            · -- 10, behind [4, 20]
              go_simp
              go_at_call 33
              refine (pick_any B (q + 1) 32 _ (Pk.rd (by with_reducible (repeat (first | assumption | apply Pk.drewK | apply Pk.allocK)))) (by omega) (by omega)).mono ?_; rintro e w3 ⟨k3, rfl, p3, m3, r3, g3, -⟩
              have m3' := m3 (by omega)
              have pk3 : Pk w w3 B (q + 1 + 1) u3 L := Pk.pick (by with_reducible (repeat (first | assumption | apply Pk.drewK | apply Pk.allocK))) g3 r3 hBl
              have z3 := g3.size
              try simp at z3
              have ce3 : Ce w3 G 0 (.pointer (some ⟨B, 0, none⟩)) := Ce.far (by with_reducible (repeat (first | assumption | apply Ce.drewK | apply Ce.allocK))) g3 hneO
              have lG3 : G < w3.heap.size := lt_of_cell ce3.cell
              have bx3 : BoxD w3 wr.heap.size 45 #[.int .i64 0, .int .i64 0, .int .i64 0] := BoxD.far (by with_reducible (repeat (first | assumption | exact BoxD.made _ _ _ | exact BoxD.made1 _ _ _ _ | apply BoxD.drewK | apply BoxD.allocK))) g3 (unhide NX _ (by omega))
              have lb3 := bx3.lt
              clear r3 g3 m3
              try go_wp2_with fail
              clear hHeld
              refine hK.out _ _ ?_ (fun hHeld => ?_)
              · exact Ce.cell (by with_reducible (repeat (first | assumption | apply Ce.drewK | apply Ce.allocK)))
              clear hK K
              refine wpAnyH_ready (rs := [11, 16]) (by kernel_rfl) (by simp) ?_
              refine AllReadyH.cons rfl (fun K hK => ?_) ?_
              · -- 11, behind [4, 10, 20]
                go_simp
                clear hHeld
                refine hK.out _ _ ?_ (fun hHeld => ?_)
                · exact Ce.cell (by with_reducible (repeat (first | assumption | apply Ce.drewK | apply Ce.allocK)))
                clear hK K
                refine wpAnyH_ready (rs := [16]) (by kernel_rfl) (by simp) ?_
                refine AllReadyH.cons rfl (fun K hK => ?_) ?_
                · -- 16, behind [4, 10, 11, 20]
                  go_simp
                  go_at_call 33
                  refine (pick_any B (q + 1 + 1) 7 _ (Pk.rd (by with_reducible (repeat (first | assumption | apply Pk.drewK | apply Pk.allocK)))) (by omega) (by omega)).mono ?_; rintro e w4 ⟨k4, rfl, p4, m4, r4, g4, -⟩
                  have m4' := m4 (by omega)
                  have pk4 : Pk w w4 B (q + 1 + 1 + 1) u3 L := Pk.pick (by with_reducible (repeat (first | assumption | apply Pk.drewK | apply Pk.allocK))) g4 r4 hBl
                  have z4 := g4.size
                  try simp at z4
                  have ce4 : Ce w4 G 0 (.pointer (some ⟨B, 0, none⟩)) := Ce.far (by with_reducible (repeat (first | assumption | apply Ce.drewK | apply Ce.allocK))) g4 hneO
                  have lG4 : G < w4.heap.size := lt_of_cell ce4.cell
                  have bx4 : BoxD w4 wr.heap.size 45 #[.int .i64 0, .int .i64 0, .int .i64 0] := BoxD.far (by with_reducible (repeat (first | assumption | exact BoxD.made _ _ _ | exact BoxD.made1 _ _ _ _ | apply BoxD.drewK | apply BoxD.allocK))) g4 (unhide NX _ (by omega))
                  have lb4 := bx4.lt
                  obtain ⟨K4, rfl⟩ := Int.eq_ofNat_of_zero_le p4
                  have hK4 : K4 < 7 := by omega
                  have hK4' : (K4 : Int) < 7 := by omega
                  have hK4'' : (0 : Int) ≤ (K4 : Int) := by omega
                  obtain ⟨kv, hkv, hkv'⟩ := seven2 k3 K4 hK4
                  have c4 : Ce w4 w3.heap.size K4 (.int .i64 kv) := Ce.far (by with_reducible (repeat (first | assumption | exact Ce.made _ hkv | exact Ce.made1 _ _ hkv | apply Ce.drewK | apply Ce.allocK))) g4 (unhide NX _ (by omega))
                  clear r4 g4 m4
                  try go_wp2_with fail
                  clear hHeld
                  refine hK.out _ _ ?_ (fun hHeld => ?_)
                  · exact Ce.cell (by with_reducible (repeat (first | assumption | apply Ce.drewK | apply Ce.allocK)))
                  clear hK K
                  have hrow : Ce w4 w3.heap.size K4 (.int .i64 kv) := (by with_reducible (repeat (first | assumption | exact Ce.made _ hkv | exact Ce.made1 _ _ hkv | apply Ce.drewK | apply Ce.allocK)))
                  refine wpAnyH_mono (S' := fun w' => w'.cell? ⟨G, 0, none⟩ = some (.pointer (some ⟨B, 0, none⟩)) ∧ w'.cell? ⟨w3.heap.size, K4, none⟩ = some (.int .i64 kv)) (fun _ h => h.1) _ _ _ _ ?_
                  have hHeld2 := And.intro hHeld hrow.cell
                  clear hHeld
                  refine wpAnyH_take (i := 17) (v := ?v17x39) rfl (by kernel_rfl) (by kernel_rfl) (by kernel_rfl) (fun _ _ _ h => h) (Or.inl ⟨by rfl, ?hy17x39⟩) (by assumption) ?_
                  case hy17x39 => (intro w0 hSw; (try dsimp only at hSw); go_simp; try (with_reducible rfl))
                  try simp only [Act.put, List.setIfInBounds_toArray, List.set_cons_zero, List.set_cons_succ]
                  refine wpAnyH_take (i := 18) (v := ?v18x40) rfl (by kernel_rfl) (by kernel_rfl) (by kernel_rfl) (fun _ _ _ h => h) (Or.inl ⟨by rfl, ?hy18x40⟩) (by assumption) ?_
                  case hy18x40 => (intro w0 hSw; (try dsimp only at hSw); go_simp; try (with_reducible rfl))
                  try simp only [Act.put, List.setIfInBounds_toArray, List.set_cons_zero, List.set_cons_succ]
                  refine wpAnyH_take (i := 19) (v := ?v19x41) rfl (by kernel_rfl) (by kernel_rfl) (by kernel_rfl) (fun _ _ _ h => h) (Or.inl ⟨by rfl, ?hy19x41⟩) (by assumption) ?_
                  case hy19x41 => (intro w0 hSw; (try dsimp only at hSw); go_simp; try (with_reducible rfl))
                  try simp only [Act.put, List.setIfInBounds_toArray, List.set_cons_zero, List.set_cons_succ]
                  have hbx : BoxD w4 wr.heap.size 45 #[.int .i64 0, .int .i64 0, .int .i64 0] := (by with_reducible (repeat (first | assumption | exact BoxD.made _ _ _ | exact BoxD.made1 _ _ _ _ | apply BoxD.drewK | apply BoxD.allocK)))
                  obtain ⟨y0, y1, y2⟩ := hbx.three
                  have f0 := hbx.free 0
                  have f1 := hbx.free 1
                  have f2 := hbx.free 2
                  have lbx := hbx.lt
                  refine wpAnyH_ready (rs := [21]) (by kernel_rfl) (by simp) ?_
                  refine AllReadyH.cons rfl (fun K hK => ?_) AllReadyH.nil
                  go_simp
                  try go_wp2_with fail
                  refine hK.out _ _ ?_ (fun _ => ?_)
                  · exact ⟨Ce.cell (by with_reducible (repeat (first | assumption | exact Ce.made _ hkv | exact Ce.made1 _ _ hkv | apply Ce.drewK | apply Ce.allocK | refine Ce.setK ?_ (by omega)))), Ce.cell (by with_reducible (repeat (first | assumption | exact Ce.made _ hkv | exact Ce.made1 _ _ hkv | apply Ce.drewK | apply Ce.allocK | refine Ce.setK ?_ (by omega))))⟩
                  clear hK K
                  refine wpAnyH_done (by kernel_rfl) ?_ _
                  go_wp2_with fail
                  go_meet
                  exact ⟨wr.heap.size, IntKind.i64.wrap (1 + k2), kv, rfl, by rw [unhide HW5]; omega, by rw [unhide HW5]; omega, ⟨(by with_reducible (repeat (first | assumption | apply Pk.drewK | apply Pk.allocK | refine Pk.setK ?_ (by omega) hBl (unhide NR _ (by omega)) _ _))), (by with_reducible (repeat (first | assumption | exact BoxD.made _ _ _ | exact BoxD.made1 _ _ _ _ | apply BoxD.drewK | apply BoxD.allocK | apply BoxD.set3))), by omega, unhide NR _ (by omega)⟩⟩
                exact AllReadyH.nil
              refine AllReadyH.cons rfl (fun K hK => ?_) ?_
              · -- 16, behind [4, 10, 20]
                go_simp
                go_at_call 33
                refine (pick_any B (q + 1 + 1) 7 _ (Pk.rd (by with_reducible (repeat (first | assumption | apply Pk.drewK | apply Pk.allocK)))) (by omega) (by omega)).mono ?_; rintro e w4 ⟨k4, rfl, p4, m4, r4, g4, -⟩
                have m4' := m4 (by omega)
                have pk4 : Pk w w4 B (q + 1 + 1 + 1) u3 L := Pk.pick (by with_reducible (repeat (first | assumption | apply Pk.drewK | apply Pk.allocK))) g4 r4 hBl
                have z4 := g4.size
                try simp at z4
                have ce4 : Ce w4 G 0 (.pointer (some ⟨B, 0, none⟩)) := Ce.far (by with_reducible (repeat (first | assumption | apply Ce.drewK | apply Ce.allocK))) g4 hneO
                have lG4 : G < w4.heap.size := lt_of_cell ce4.cell
                have bx4 : BoxD w4 wr.heap.size 45 #[.int .i64 0, .int .i64 0, .int .i64 0] := BoxD.far (by with_reducible (repeat (first | assumption | exact BoxD.made _ _ _ | exact BoxD.made1 _ _ _ _ | apply BoxD.drewK | apply BoxD.allocK))) g4 (unhide NX _ (by omega))
                have lb4 := bx4.lt
                obtain ⟨K4, rfl⟩ := Int.eq_ofNat_of_zero_le p4
                have hK4 : K4 < 7 := by omega
                have hK4' : (K4 : Int) < 7 := by omega
                have hK4'' : (0 : Int) ≤ (K4 : Int) := by omega
                obtain ⟨kv, hkv, hkv'⟩ := seven2 k3 K4 hK4
                clear r4 g4 m4
                try go_wp2_with fail
                clear hHeld
                refine hK.out _ _ ?_ (fun hHeld => ?_)
                · exact Ce.cell (by with_reducible (repeat (first | assumption | apply Ce.drewK | apply Ce.allocK)))
                clear hK K
                refine wpAnyH_ready (rs := [11]) (by kernel_rfl) (by simp) ?_
                refine AllReadyH.cons rfl (fun K hK => ?_) ?_
                · -- 11, behind [4, 10, 16, 20]
                  go_simp
                  clear hHeld
                  refine hK.out _ _ ?_ (fun hHeld => ?_)
                  · exact Ce.cell (by with_reducible (repeat (first | assumption | apply Ce.drewK | apply Ce.allocK)))
                  clear hK K
                  have hrow : Ce (w4.alloc (.cells #[.int .i64 0, .int .i64 1, .int .i64 4, .int .i64 5, .int .i64 8, .int .i64 9, .int .i64 k3] 3)) w4.heap.size K4 (.int .i64 kv) := (by with_reducible (repeat (first | assumption | exact Ce.made _ hkv | exact Ce.made1 _ _ hkv | apply Ce.drewK | apply Ce.allocK)))
                  refine wpAnyH_mono (S' := fun w' => w'.cell? ⟨G, 0, none⟩ = some (.pointer (some ⟨B, 0, none⟩)) ∧ w'.cell? ⟨w4.heap.size, K4, none⟩ = some (.int .i64 kv)) (fun _ h => h.1) _ _ _ _ ?_
                  have hHeld2 := And.intro hHeld hrow.cell
                  clear hHeld
                  refine wpAnyH_take (i := 17) (v := ?v17x42) rfl (by kernel_rfl) (by kernel_rfl) (by kernel_rfl) (fun _ _ _ h => h) (Or.inl ⟨by rfl, ?hy17x42⟩) (by assumption) ?_
                  case hy17x42 => (intro w0 hSw; (try dsimp only at hSw); go_simp; try (with_reducible rfl))
                  try simp only [Act.put, List.setIfInBounds_toArray, List.set_cons_zero, List.set_cons_succ]
                  refine wpAnyH_take (i := 18) (v := ?v18x43) rfl (by kernel_rfl) (by kernel_rfl) (by kernel_rfl) (fun _ _ _ h => h) (Or.inl ⟨by rfl, ?hy18x43⟩) (by assumption) ?_
                  case hy18x43 => (intro w0 hSw; (try dsimp only at hSw); go_simp; try (with_reducible rfl))
                  try simp only [Act.put, List.setIfInBounds_toArray, List.set_cons_zero, List.set_cons_succ]
                  refine wpAnyH_take (i := 19) (v := ?v19x44) rfl (by kernel_rfl) (by kernel_rfl) (by kernel_rfl) (fun _ _ _ h => h) (Or.inl ⟨by rfl, ?hy19x44⟩) (by assumption) ?_
                  case hy19x44 => (intro w0 hSw; (try dsimp only at hSw); go_simp; try (with_reducible rfl))
                  try simp only [Act.put, List.setIfInBounds_toArray, List.set_cons_zero, List.set_cons_succ]
                  have hbx : BoxD (w4.alloc (.cells #[.int .i64 0, .int .i64 1, .int .i64 4, .int .i64 5, .int .i64 8, .int .i64 9, .int .i64 k3] 3)) wr.heap.size 45 #[.int .i64 0, .int .i64 0, .int .i64 0] := (by with_reducible (repeat (first | assumption | exact BoxD.made _ _ _ | exact BoxD.made1 _ _ _ _ | apply BoxD.drewK | apply BoxD.allocK)))
                  obtain ⟨y0, y1, y2⟩ := hbx.three
                  have f0 := hbx.free 0
                  have f1 := hbx.free 1
                  have f2 := hbx.free 2
                  have lbx := hbx.lt
                  obtain ⟨y0b, y1b, y2b⟩ := bx4.three
                  have f0b := bx4.free 0
                  have f1b := bx4.free 1
                  have f2b := bx4.free 2
                  refine wpAnyH_ready (rs := [21]) (by kernel_rfl) (by simp) ?_
                  refine AllReadyH.cons rfl (fun K hK => ?_) AllReadyH.nil
                  go_simp
                  try go_wp2_with fail
                  refine hK.out _ _ ?_ (fun _ => ?_)
                  · exact ⟨Ce.cell (by with_reducible (repeat (first | assumption | exact Ce.made _ hkv | exact Ce.made1 _ _ hkv | apply Ce.drewK | apply Ce.allocK | refine Ce.setK ?_ (by omega)))), Ce.cell (by with_reducible (repeat (first | assumption | exact Ce.made _ hkv | exact Ce.made3 _ _ _ _ _ hkv | exact Ce.made1 _ _ hkv | apply Ce.drewK | apply Ce.allocK | refine Ce.setK ?_ (by omega))))⟩
                  clear hK K
                  refine wpAnyH_done (by kernel_rfl) ?_ _
                  go_wp2_with fail
                  go_meet
                  exact ⟨wr.heap.size, IntKind.i64.wrap (1 + k2), kv, rfl, by rw [unhide HW5]; omega, by rw [unhide HW5]; omega, ⟨(by with_reducible (repeat (first | assumption | apply Pk.drewK | apply Pk.allocK | refine Pk.setK ?_ (by omega) hBl (unhide NR _ (by omega)) _ _))), (by with_reducible (repeat (first | assumption | exact BoxD.made _ _ _ | exact BoxD.made1 _ _ _ _ | apply BoxD.drewK | apply BoxD.allocK | apply BoxD.set3))), by omega, unhide NR _ (by omega)⟩⟩
                exact AllReadyH.nil
              exact AllReadyH.nil
            exact AllReadyH.nil
          exact AllReadyH.nil
        exact AllReadyH.nil
      case rest =>
        obtain ⟨g, op, key, rfl, ho1, ho4, hd⟩ := hcut
        have lbx := hd.box.lt
        have hzc := hd.pk.grown.size
        have ceC : Ce wc G 0 (.pointer (some ⟨B, 0, none⟩)) := ⟨(hd.pk.grown.cell_far ⟨G, 0, none⟩ hGl hneO).trans hg⟩
        have cgC := ceC.cell
        have HD := hide hd
        have HL := hide hLl
        have hL4 : L.length ≤ 4 := by omega
        clear hLl hd ce0 pk0 hgG HPK
        rcases (by omega : op = 1 ∨ op = 2 ∨ op = 3 ∨ op = 4) with rfl | rfl | rfl | rfl
        · obtain ⟨y0, y1, y2⟩ := (unhide HD).box.three
          have HZ := HD
          go_wp2_with (at_builtin; refine wpList_append_lies _ rfl _ _ 23 rfl w.heap.size 45 i0 (.agg #[.int .i64 0, .int .i64 0, .int .i64 0]) 3 24 Tryd.underlying23 hi hz0 hz1 hz2 rfl (by decide) _ L.length _ rfl (((unhide HZ).pk.own).alloc _) ⟨wc.heap.size, 0, none⟩ 1 1 [.int .i64 1, .int .i64 key, .int .i64 0] rfl rfl (World.news_of_block (heap_alloc_new _ _)) (by simp [Value.oneCell']) (by decide) (by unfold maxLen; omega) (by omega) (by simp; omega) (wc.heap.size + 1) (by simp) ?_; intro ga cp w9 hown2 hgrow hat hlt2)
          have hlow : ∀ x, Value.ownBlock u3 = some x → w.heap.size ≤ x := fun x hx => ((unhide HZ).pk.own.lt x hx).1
          have hr9 : Rd w9 B (q + 1 + 1 + 1) := ((unhide HZ).pk.rd.kept ((Below.refl _ _).alloc (Nat.le_refl _) _)).far hgrow (fun y hy e => by have := hlow y e.symm; omega)
          have hg9 : w.grownBy w9 (some B) := grownBy_own (grownBy_alloc (unhide HZ).pk.grown _) hgrow hlow
          go_roundw
          case rel => exact ⟨j - 1, L ++ [⟨1, key, 0⟩], q + 1 + 1 + 1, by omega, val_pred hlt, ⟨by rw [stFlat_append, List.length_append]; exact hown2, hr9, hg9⟩, by have := unhide HL; simp; omega, by omega⟩
          case measure => simp [intOf]; omega
        · have b0 := (unhide HD).box.three.1
          go_wp2_with fail
          refine (pick_any B (q + 1 + 1 + 1) 40 _ (unhide HD).pk.rd (by omega) (by omega)).mono ?_; rintro e w2 ⟨k2, rfl, p2, m2, r2, g2, -⟩
          have m2' := m2 (by omega)
          have pk2 : Pk w w2 B (q + 1 + 1 + 1 + 1) u3 L := Pk.pick (unhide HD).pk g2 r2 hBl
          have bx2 : BoxD w2 g 45 #[.int .i64 2, .int .i64 key, .int .i64 0] := (unhide HD).box.far g2 (unhide NX _ (unhide HD).glo)
          have lb2 := bx2.lt
          obtain ⟨y0, y1, y2⟩ := bx2.three
          have f0 := bx2.free 0
          have f1 := bx2.free 1
          have f2 := bx2.free 2
          have z2 := g2.size
          have HZ : Hid (DSt w (w2.setCell ⟨g, 2, none⟩ (.int .i64 k2)) B (q + 1 + 1 + 1 + 1) u3 L g 2 key k2) := ⟨Pk.setK pk2 (unhide HD).glo hBl (unhide HD).gne 2 _, bx2.set 2 _, (unhide HD).glo, (unhide HD).gne⟩
          clear b0 r2 g2 m2 pk2 bx2 cgC ceC
          go_wp2_with (at_builtin; refine wpList_append_lies _ rfl _ _ 23 rfl w.heap.size 45 i0 (.agg #[.int .i64 0, .int .i64 0, .int .i64 0]) 3 24 Tryd.underlying23 hi hz0 hz1 hz2 rfl (by decide) _ L.length _ rfl (((unhide HZ).pk.own).alloc _) ⟨w2.heap.size, 0, none⟩ 1 1 [.int .i64 2, .int .i64 key, .int .i64 k2] rfl rfl (World.news_of_block (heap_new_set _ _ _ _ _)) (by simp [Value.oneCell']) (by decide) (by unfold maxLen; omega) (by omega) (by simp [size_set]; omega) (w2.heap.size + 1) (by simp [size_set]) ?_; intro ga cp w9 hown2 hgrow hat hlt2)
          have hlow : ∀ x, Value.ownBlock u3 = some x → w.heap.size ≤ x := fun x hx => ((unhide HZ).pk.own.lt x hx).1
          have hr9 : Rd w9 B (q + 1 + 1 + 1 + 1) := ((unhide HZ).pk.rd.kept ((Below.refl _ _).alloc (Nat.le_refl _) _)).far hgrow (fun y hy e => by have := hlow y e.symm; omega)
          have hg9 : w.grownBy w9 (some B) := grownBy_own (grownBy_alloc (unhide HZ).pk.grown _) hgrow hlow
          go_roundw
          case rel => exact ⟨j - 1, L ++ [⟨2, key, k2⟩], q + 1 + 1 + 1 + 1, by omega, val_pred hlt, ⟨by rw [stFlat_append, List.length_append]; exact hown2, hr9, hg9⟩, by have := unhide HL; simp; omega, by omega⟩
          case measure => simp [intOf]; omega
        · have b0 := (unhide HD).box.three.1
          go_wp2_with fail
          refine (pick_any B (q + 1 + 1 + 1) 60 _ (unhide HD).pk.rd (by omega) (by omega)).mono ?_; rintro e w2 ⟨k2, rfl, p2, m2, r2, g2, -⟩
          have m2' := m2 (by omega)
          have pk2 : Pk w w2 B (q + 1 + 1 + 1 + 1) u3 L := Pk.pick (unhide HD).pk g2 r2 hBl
          have bx2 : BoxD w2 g 45 #[.int .i64 3, .int .i64 key, .int .i64 0] := (unhide HD).box.far g2 (unhide NX _ (unhide HD).glo)
          have lb2 := bx2.lt
          obtain ⟨y0, y1, y2⟩ := bx2.three
          have f0 := bx2.free 0
          have f1 := bx2.free 1
          have f2 := bx2.free 2
          have z2 := g2.size
          have HZ : Hid (DSt w (w2.setCell ⟨g, 2, none⟩ (.int .i64 (k2 - 10))) B (q + 1 + 1 + 1 + 1) u3 L g 3 key (k2 - 10)) := ⟨Pk.setK pk2 (unhide HD).glo hBl (unhide HD).gne 2 _, bx2.set 2 _, (unhide HD).glo, (unhide HD).gne⟩
          clear b0 r2 g2 m2 pk2 bx2 cgC ceC
          go_wp2_with (at_builtin; refine wpList_append_lies _ rfl _ _ 23 rfl w.heap.size 45 i0 (.agg #[.int .i64 0, .int .i64 0, .int .i64 0]) 3 24 Tryd.underlying23 hi hz0 hz1 hz2 rfl (by decide) _ L.length _ rfl (((unhide HZ).pk.own).alloc _) ⟨w2.heap.size, 0, none⟩ 1 1 [.int .i64 3, .int .i64 key, .int .i64 (k2 - 10)] rfl rfl (World.news_of_block (heap_new_set _ _ _ _ _)) (by simp [Value.oneCell']) (by decide) (by unfold maxLen; omega) (by omega) (by simp [size_set]; omega) (w2.heap.size + 1) (by simp [size_set]) ?_; intro ga cp w9 hown2 hgrow hat hlt2)
          have hlow : ∀ x, Value.ownBlock u3 = some x → w.heap.size ≤ x := fun x hx => ((unhide HZ).pk.own.lt x hx).1
          have hr9 : Rd w9 B (q + 1 + 1 + 1 + 1) := ((unhide HZ).pk.rd.kept ((Below.refl _ _).alloc (Nat.le_refl _) _)).far hgrow (fun y hy e => by have := hlow y e.symm; omega)
          have hg9 : w.grownBy w9 (some B) := grownBy_own (grownBy_alloc (unhide HZ).pk.grown _) hgrow hlow
          go_roundw
          case rel => exact ⟨j - 1, L ++ [⟨3, key, (k2 - 10)⟩], q + 1 + 1 + 1 + 1, by omega, val_pred hlt, ⟨by rw [stFlat_append, List.length_append]; exact hown2, hr9, hg9⟩, by have := unhide HL; simp; omega, by omega⟩
          case measure => simp [intOf]; omega
        · have b0 := (unhide HD).box.three.1
          go_wp2_with fail
          refine (pick_any B (q + 1 + 1 + 1) 30 _ (unhide HD).pk.rd (by omega) (by omega)).mono ?_; rintro e w2 ⟨k2, rfl, p2, m2, r2, g2, -⟩
          have m2' := m2 (by omega)
          have pk2 : Pk w w2 B (q + 1 + 1 + 1 + 1) u3 L := Pk.pick (unhide HD).pk g2 r2 hBl
          have bx2 : BoxD w2 g 45 #[.int .i64 4, .int .i64 key, .int .i64 0] := (unhide HD).box.far g2 (unhide NX _ (unhide HD).glo)
          have lb2 := bx2.lt
          obtain ⟨y0, y1, y2⟩ := bx2.three
          have f0 := bx2.free 0
          have f1 := bx2.free 1
          have f2 := bx2.free 2
          have z2 := g2.size
          have HZ : Hid (DSt w (w2.setCell ⟨g, 2, none⟩ (.int .i64 (k2 - 20))) B (q + 1 + 1 + 1 + 1) u3 L g 4 key (k2 - 20)) := ⟨Pk.setK pk2 (unhide HD).glo hBl (unhide HD).gne 2 _, bx2.set 2 _, (unhide HD).glo, (unhide HD).gne⟩
          clear b0 r2 g2 m2 pk2 bx2 cgC ceC
          go_wp2_with (at_builtin; refine wpList_append_lies _ rfl _ _ 23 rfl w.heap.size 45 i0 (.agg #[.int .i64 0, .int .i64 0, .int .i64 0]) 3 24 Tryd.underlying23 hi hz0 hz1 hz2 rfl (by decide) _ L.length _ rfl (((unhide HZ).pk.own).alloc _) ⟨w2.heap.size, 0, none⟩ 1 1 [.int .i64 4, .int .i64 key, .int .i64 (k2 - 20)] rfl rfl (World.news_of_block (heap_new_set _ _ _ _ _)) (by simp [Value.oneCell']) (by decide) (by unfold maxLen; omega) (by omega) (by simp [size_set]; omega) (w2.heap.size + 1) (by simp [size_set]) ?_; intro ga cp w9 hown2 hgrow hat hlt2)
          have hlow : ∀ x, Value.ownBlock u3 = some x → w.heap.size ≤ x := fun x hx => ((unhide HZ).pk.own.lt x hx).1
          have hr9 : Rd w9 B (q + 1 + 1 + 1 + 1) := ((unhide HZ).pk.rd.kept ((Below.refl _ _).alloc (Nat.le_refl _) _)).far hgrow (fun y hy e => by have := hlow y e.symm; omega)
          have hg9 : w.grownBy w9 (some B) := grownBy_own (grownBy_alloc (unhide HZ).pk.grown _) hgrow hlow
          go_roundw
          case rel => exact ⟨j - 1, L ++ [⟨4, key, (k2 - 20)⟩], q + 1 + 1 + 1 + 1, by omega, val_pred hlt, ⟨by rw [stFlat_append, List.length_append]; exact hown2, hr9, hg9⟩, by have := unhide HL; simp; omega, by omega⟩
          case measure => simp [intOf]; omega
    · obtain rfl : j = 0 := by omega
      go_wp2_with fail
      go_ret
      exact ⟨_, L, q, rfl, (unhide HPK).own, by omega, by omega, (unhide HPK).rd, by omega, (unhide HPK).grown⟩

end Go.Proofs.YtmikdkdgpomiaaaDoor
