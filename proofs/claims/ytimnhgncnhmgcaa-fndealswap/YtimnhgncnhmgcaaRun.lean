/- A deal that is done, as the program does it: what is recovered, and the whole. -/
import Derived.Test.YtimnhgncnhmgcaaDesk3
namespace Go.Proofs.Ytimnhgncnhmgcaa
open Go.RowKit

set_option maxRecDepth 100000 in
set_option maxHeartbeats 1000000 in
theorem catch_panicking (R : Nat) (k : Int) (a b c : Value) (older : List PanicEntry) (w : World)
    (h0 : w.cell? ⟨R, 0, none⟩ = some a) (z0 : w.frozen? ⟨R, 0, none⟩ = false) (h1 : w.cell? ⟨R + 1, 0, none⟩ = some b) (z1 : w.frozen? ⟨R + 1, 0, none⟩ = false) (h2 : w.cell? ⟨R + 2, 0, none⟩ = some c) (z2 : w.frozen? ⟨R + 2, 0, none⟩ = false) :
    CallsD Try.prog 77 #[.pointer (some ⟨R, 0, none⟩), .pointer (some ⟨R + 1, 0, none⟩), .pointer (some ⟨R + 2, 0, none⟩)] (.panicking ({ v := .iface 146 (.int .i64 k), recovered := false } :: older)) w fun e u' w' =>
      e = .returned (.tuple #[]) ∧ u' = .panicking ({ v := .iface 146 (.int .i64 k), recovered := true } :: older) ∧ w' = ((w.setCell ⟨R, 0, none⟩ (.int .i64 k)).setCell ⟨R + 1, 0, none⟩ (.slice none 0 0)).setCell ⟨R + 2, 0, none⟩ (.slice none 0 0) := by
  refine callsD_of_wpS Try.func77 rfl fun c₀ cs hu => ?_
  apply wpS_seq
  apply wpS_region
  simp [wpOpsS, go_sem, recoverD, hu, Try.ntmps77, Exit.thenS]
  rw [show (#[Value.pointer (some ⟨R, 0, none⟩), .pointer (some ⟨R + 1, 0, none⟩), .pointer (some ⟨R + 2, 0, none⟩)] ++ ((Array.replicate 6 undef).setIfInBounds 1 (.iface 146 (.int .i64 k))).setIfInBounds 0 (.iface 146 (.int .i64 k)) : Array Value) = #[.pointer (some ⟨R, 0, none⟩), .pointer (some ⟨R + 1, 0, none⟩), .pointer (some ⟨R + 2, 0, none⟩), .iface 146 (.int .i64 k), .iface 146 (.int .i64 k), undef, undef, undef, undef] from rfl]
  refine wpS_of_wp ?_
  have r1 : (w.setCell ⟨R, 0, none⟩ (.int .i64 k)).cell? ⟨R + 1, 0, none⟩ = some b := by rw [cell_set_far (by omega)]; exact h1
  have r2 : ((w.setCell ⟨R, 0, none⟩ (.int .i64 k)).setCell ⟨R + 1, 0, none⟩ (.slice none 0 0)).cell? ⟨R + 2, 0, none⟩ = some c := by rw [cell_set_far (by omega), cell_set_far (by omega)]; exact h2
  go_wp2_with (go_at_call 78; refine (codeOf_refusal k _).mono ?_; rintro e w' ⟨rfl, rfl⟩)
  simp [bodyPostS, results, Try.results77]

theorem catch_idle (R : Nat) (w : World) :
    CallsD Try.prog 77 #[.pointer (some ⟨R, 0, none⟩), .pointer (some ⟨R + 1, 0, none⟩), .pointer (some ⟨R + 2, 0, none⟩)] .returning w fun e u' w' => e = .returned (.tuple #[]) ∧ u' = .returning ∧ w' = w := by
  refine callsD_of_wpS Try.func77 rfl fun c₀ cs hu => ?_
  apply wpS_seq
  apply wpS_region
  simp [wpOpsS, go_sem, recoverD, hu, Try.ntmps77, Exit.thenS]
  rw [show (#[Value.pointer (some ⟨R, 0, none⟩), .pointer (some ⟨R + 1, 0, none⟩), .pointer (some ⟨R + 2, 0, none⟩)] ++ ((Array.replicate 6 undef).setIfInBounds 1 .nilIface).setIfInBounds 0 .nilIface : Array Value) = #[.pointer (some ⟨R, 0, none⟩), .pointer (some ⟨R + 1, 0, none⟩), .pointer (some ⟨R + 2, 0, none⟩), .nilIface, .nilIface, undef, undef, undef, undef] from rfl]
  refine wpS_of_wp ?_
  go_wp2
  cases c₀
  simp_all [bodyPostS, results, Try.results77]

/-- The desk as it is made. -/
def deskZero : Array Value := Array.replicate 32 (.int .i64 0) ++ Array.replicate 32 (.bool false) ++ #[.slice none 0 0]

theorem deskZero_eq : Try.zeroCells111 = deskZero := by kernel_rfl

theorem DeskAt.fresh (w : World) : DeskAt (w.alloc (.cells deskZero 111)) w.heap.size w.heap.size ⟨fun _ => 0, fun _ => false, []⟩ := by
  have hc : ∀ q, (w.alloc (.cells deskZero 111)).cell? ⟨w.heap.size, q, none⟩ = deskZero[q]? := fun q => World.cell?_alloc_at _ _ _ _ rfl
  have hf : ∀ q, (w.alloc (.cells deskZero 111)).frozen? ⟨w.heap.size, q, none⟩ = false := fun q => World.frozen?_alloc_at _ _ _ _ rfl
  refine ⟨Nat.le_refl _, fun q hq => ⟨?_, hf q⟩, fun q hq => ⟨?_, hf _⟩, .slice none 0 0, ?_, hf _, World.ownsRow_nil _ _ _ _, .inl rfl⟩
  · rw [hc]; unfold deskZero; rw [Array.getElem?_append_left (by simp; omega), Array.getElem?_append_left (by simpa using hq)]; simp [hq]
  · rw [hc]; unfold deskZero; rw [Array.getElem?_append_left (by simp; omega), Array.getElem?_append_right (by simp)]; simp [hq]
  · rw [hc]; rfl

/-- Behind 'putPairs' the desk is as a deal finds it. -/
theorem DeskAt.start {w w' : World} {D : Nat} {ps : List Pr} (h : DeskAt w D D ⟨fun _ => 0, fun _ => false, []⟩) (hin : inForm ps = true) (hg : w.grownBy w' (some D)) (hA : Arr w' D (fun q => lastP 0 ps q)) (hr : Rest w w' D) : DeskAt w' D D (startM ps) := by
  obtain ⟨gv, h1, h2, h3, h4⟩ := h.got
  refine ⟨h.low, fun q hq => ?_, fun q hq => ?_, gv, ?_, ?_, h3.kept hg h4, h4⟩
  · have : w'.cell? ⟨D, q, none⟩ = some (.int .i64 (lastP 0 ps q)) ∧ w'.frozen? ⟨D, q, none⟩ = false := hA q hq
    rw [lastP_getP (inForm_pairwise hin)] at this
    exact this
  · have := hr (32 + q) (by omega)
    rw [this.1, this.2]; exact h.chg q hq
  · rw [(hr 64 (by omega)).1]; exact h1
  · rw [(hr 64 (by omega)).2]; exact h2

theorem DeskAt.kept {w w' : World} {D B0 : Nat} {s : Sta} (h : DeskAt w D B0 s) (hb : Below w.heap.size w w') : DeskAt w' D B0 s := by
  have hl := h.lt
  have hc : ∀ q, w'.cell? ⟨D, q, none⟩ = w.cell? ⟨D, q, none⟩ := fun q => hb.cell (p := ⟨D, q, none⟩) hl
  have hf : ∀ q, w'.frozen? ⟨D, q, none⟩ = w.frozen? ⟨D, q, none⟩ := fun q => hb.frozen (p := ⟨D, q, none⟩) hl
  obtain ⟨gv, h1, h2, h3, h4⟩ := h.got
  exact ⟨h.low, fun q hq => by rw [hc, hf]; exact h.vals q hq, fun q hq => by rw [hc, hf]; exact h.chg q hq, gv, by rw [hc]; exact h1, by rw [hf]; exact h2, ownsRow_below h3 hb, h4⟩

theorem DeskAt.setLow {w : World} {D B0 : Nat} {s : Sta} (h : DeskAt w D B0 s) {b : Nat} (hb : b < B0) (u : Value) : DeskAt (w.setCell ⟨b, 0, none⟩ u) D B0 s := by
  have hlow := h.low
  have hc : ∀ q, (w.setCell ⟨b, 0, none⟩ u).cell? ⟨D, q, none⟩ = w.cell? ⟨D, q, none⟩ := fun q => cell_set_far (by omega)
  obtain ⟨gv, h1, h2, h3, h4⟩ := h.got
  exact ⟨h.low, fun q hq => by rw [hc, World.frozen?_setCell]; exact h.vals q hq, fun q hq => by rw [hc, World.frozen?_setCell]; exact h.chg q hq, gv, by rw [hc]; exact h1, by rw [World.frozen?_setCell]; exact h2, ownsRow_setCell_below h3 (by exact hb) u, h4⟩

theorem own_slice {w : World} {base e s : Nat} {v : Value} {n : Nat} {xs : List Value} (h : w.ownsRow base e s v n xs) : ∃ a n c, v = .slice a n c := by
  rcases h.2 with ⟨h, _⟩ | ⟨g, cap, cur, h, _⟩
  · exact ⟨_, _, _, h⟩
  · exact ⟨_, _, _, h⟩

theorem isSome_kept {w w' : World} {a : Addr} (hb : Below w.heap.size w w') (h : (w.cell? a).isSome = true) : (w'.cell? a).isSome = true := by
  obtain ⟨v, hv⟩ := Option.isSome_iff_exists.1 h
  rw [cell_kept hb hv]; rfl

theorem frozen_kept {w w' : World} {a : Addr} (hb : Below w.heap.size w w') (h : (w.cell? a).isSome = true) (hf : w.frozen? a = false) : w'.frozen? a = false := by
  obtain ⟨v, hv⟩ := Option.isSome_iff_exists.1 h
  rw [hb.frozen (lt_of_cell hv)]; exact hf

set_option maxRecDepth 100000 in
set_option maxHeartbeats 2000000 in
theorem runSteps_any (r u : Value) (base : Nat) (ss : List St) (ps : List Pr) (w : World) (hr : w.ownsRow base 105 1 r ss.length (ss.map stepV)) (hu : PrsAt w u ps) (hok : dealOk ss = true) (hin : inForm ps = true) :
    Calls Try.prog 52 #[r, u] w fun e w' => ∃ a b, e = .returned (.tuple #[.int .i64 (codeM (runM ss (startM ps))), a, b]) ∧ RunAt w' w.heap.size (runM ss (startM ps)) a b ∧ Below w.heap.size w w' := by
  have hmf : ∀ (fn : Fn) (first cap : Array Value) (w : World), (Instr.makeFunc fn first cap).run Try.prog w = .ok (.func fn first cap) w := fun _ _ _ _ => rfl
  have hlen := dealOk_len hok
  have HOK := hide hok
  have HIN := hide hin
  have HU := hide hu
  have HR := hide hr
  obtain ⟨sg, sc, rfl, -, -⟩ := hr.form (by omega)
  clear hok hin hu hr
  generalize hN : ss.length = N at *
  have HN := hide hN
  clear hN
  generalize hR : runM ss (startM ps) = R at *
  have HRR := hide hR
  clear hR
  obtain ⟨M, HM⟩ : ∃ M : Nat, Hid (M = 32) := ⟨32, rfl⟩
  go_enter_defers Try.func52, Try.ntmps52
  go_wp2_with fail
  rw [deskZero_eq]
  obtain ⟨W3, hW3⟩ : ∃ W3, W3 = ((w.alloc (.cells #[.int .i64 0] 3)).alloc (.cells #[.slice none 0 0] 27)).alloc (.cells #[.slice none 0 0] 24) := ⟨_, rfl⟩
  have hs3 : W3.heap.size = w.heap.size + 1 + 1 + 1 := by rw [hW3]; simp
  have hD := DeskAt.fresh W3
  rw [hs3] at hD
  have hb3 : Below w.heap.size w W3 := by rw [hW3]; exact (((Below.refl _ _).alloc (Nat.le_refl _) _).alloc (by simp) _).alloc (by simp; omega) _
  have q0 : W3.cell? ⟨w.heap.size, 0, none⟩ = some (.int .i64 0) ∧ W3.frozen? ⟨w.heap.size, 0, none⟩ = false := by
    rw [hW3]
    refine ⟨?_, ?_⟩
    · rw [World.cell?_alloc_past _ _ _ (by simp; omega), World.cell?_alloc_past _ _ _ (by simp), World.cell?_alloc_at _ _ _ _ rfl]; rfl
    · rw [World.frozen?_alloc_past _ _ _ (by simp; omega), World.frozen?_alloc_past _ _ _ (by simp), World.frozen?_alloc_at _ _ _ _ rfl]
  have q1 : W3.cell? ⟨w.heap.size + 1, 0, none⟩ = some (.slice none 0 0) ∧ W3.frozen? ⟨w.heap.size + 1, 0, none⟩ = false := by
    rw [hW3]
    refine ⟨?_, ?_⟩
    · rw [World.cell?_alloc_past _ _ _ (by simp), World.cell?_alloc_at _ _ _ _ (by simp)]; rfl
    · rw [World.frozen?_alloc_past _ _ _ (by simp), World.frozen?_alloc_at _ _ _ _ (by simp)]
  have q2 : W3.cell? ⟨w.heap.size + 1 + 1, 0, none⟩ = some (.slice none 0 0) ∧ W3.frozen? ⟨w.heap.size + 1 + 1, 0, none⟩ = false := by
    rw [hW3]
    refine ⟨?_, ?_⟩
    · rw [World.cell?_alloc_at _ _ _ _ (by simp)]; rfl
    · rw [World.frozen?_alloc_at _ _ _ _ (by simp)]
  rw [← hW3]
  clear hW3
  obtain ⟨WA, hWA⟩ : ∃ WA, WA = W3.alloc (.cells deskZero 111) := ⟨_, rfl⟩
  rw [← hWA] at hD ⊢
  have hbA : Below w.heap.size w WA := by rw [hWA]; exact hb3.alloc hb3.size _
  have hbA3 : Below W3.heap.size W3 WA := by rw [hWA]; exact (Below.refl _ _).alloc (Nat.le_refl _) _
  rw [hs3] at hbA3
  clear hWA
  have HQ : Hid (∀ wx, Below (w.heap.size + 1 + 1 + 1) WA wx → (wx.cell? ⟨w.heap.size, 0, none⟩ = some (.int .i64 0) ∧ wx.frozen? ⟨w.heap.size, 0, none⟩ = false) ∧ (wx.cell? ⟨w.heap.size + 1, 0, none⟩ = some (.slice none 0 0) ∧ wx.frozen? ⟨w.heap.size + 1, 0, none⟩ = false) ∧ (wx.cell? ⟨w.heap.size + 1 + 1, 0, none⟩ = some (.slice none 0 0) ∧ wx.frozen? ⟨w.heap.size + 1 + 1, 0, none⟩ = false)) := fun wx hb => by
    have hbx := hbA3.trans hb
    have t0 := hbx.cell (p := ⟨w.heap.size, 0, none⟩) (by show w.heap.size < _; omega)
    have t0' := hbx.frozen (p := ⟨w.heap.size, 0, none⟩) (by show w.heap.size < _; omega)
    have t1 := hbx.cell (p := ⟨w.heap.size + 1, 0, none⟩) (by show w.heap.size + 1 < _; omega)
    have t1' := hbx.frozen (p := ⟨w.heap.size + 1, 0, none⟩) (by show w.heap.size + 1 < _; omega)
    have t2 := hbx.cell (p := ⟨w.heap.size + 1 + 1, 0, none⟩) (by show w.heap.size + 1 + 1 < _; omega)
    have t2' := hbx.frozen (p := ⟨w.heap.size + 1 + 1, 0, none⟩) (by show w.heap.size + 1 + 1 < _; omega)
    exact ⟨⟨t0.trans q0.1, t0'.trans q0.2⟩, ⟨t1.trans q1.1, t1'.trans q1.2⟩, ⟨t2.trans q2.1, t2'.trans q2.2⟩⟩
  clear q0 q1 q2 hb3 hbA3 hs3
  have hne : ps = [] ∨ u.ownBlock ≠ some (w.heap.size + 1 + 1 + 1) := by
    rcases (unhide HU).lt with h | ⟨b, hb, hlt⟩
    · exact .inl h
    · right; rw [hb]; intro e; simp at e; omega
  refine (putPairs_any _ _ ps (fun _ => 0) _ ((unhide HU).kept hbA) (unhide HIN) hne hD.vals).mono ?_; rintro e W1 ⟨rfl, hg1, hA1, hr1⟩
  have hd1 := hD.start (unhide HIN) hg1 hA1 hr1
  have hb1 : Below (w.heap.size + 1 + 1 + 1) WA W1 := Below.grown (Below.refl _ _) hg1 (Nat.le_of_lt hD.lt) (fun k hk => by simp at hk; omega)
  clear hg1 hA1 hr1 hD hne hmf
  have HD1 := hide hd1
  have HB1 := hide hb1
  have HBA := hide hbA
  clear hd1 hb1 hbA
  go_wp2_with fail
  go_loopw [16] (fun i wr => ∃ (j : Nat) (s : Sta), j ≤ N ∧ i = .int .i64 j ∧ Below (w.heap.size + 1 + 1 + 1) WA wr ∧ runM (ss.drop j) s = R ∧ DeskAt wr (w.heap.size + 1 + 1 + 1) (w.heap.size + 1 + 1 + 1) s ∧ (∀ q, valB (s.f q) = true) ∧ s.g.length ≤ j) (fun i _ => N - (intOf i).toNat)
  case atStart => exact ⟨0, startM ps, Nat.zero_le _, rfl, unhide HB1, unhide HRR, unhide HD1, start_val (unhide HIN), by simp [startM]⟩
  case round =>
    obtain ⟨j, s, hj, rfl, hbr, hrun, hdr, hval, hgl⟩ := hrel
    have HBR := hide hbr
    have HRUN := hide hrun
    have HDR := hide hdr
    have HVAL := hide hval
    have hwr : Below w.heap.size w wr := (unhide HBA).trans (hbr.mono (by omega))
    have HWR := hide hwr
    clear hbr hrun hdr hval hwr
    by_cases hlt : j < N
    · have hjl : j < ss.length := by rw [unhide HN]; exact hlt
      have hc0 : w.cell? ⟨sg, j, none⟩ = some (stepV (ss.getD j St.z)) := by
        have := (unhide HR).cells (g := sg) rfl j (stepV (ss.getD j St.z)) (by simp [List.getD, hjl])
        rw [Addr.add_mid] at this; simpa using this
      have hsx := dealOk_at (unhide HOK) hjl
      obtain ⟨T, uv, hsv⟩ := stepV_iface _ hsx
      have hc1 := cell_kept (unhide HWR) hc0
      rw [hsv] at hc1
      have hdo := deskDo_any (ss.getD j St.z) (w.heap.size + 1 + 1 + 1) (w.heap.size + 1 + 1 + 1) s wr hsx (unhide HDR) (unhide HVAL) (by omega)
      rw [hsv] at hdo
      cases hst : stepM (ss.getD j St.z) s with
      | error k =>
        have hR : R = .error k := by rw [← unhide HRUN]; exact runM_err hjl rfl hst
        have hdo' : Calls Try.prog 79 #[.pointer (some ⟨w.heap.size + 1 + 1 + 1, 0, none⟩), .iface T uv] wr fun e w' => Below (w.heap.size + 1 + 1 + 1) wr w' ∧ e = overBy k := by
          refine hdo.mono ?_
          rintro e w' ⟨hb, h⟩
          refine ⟨hb, ?_⟩
          rcases h with ⟨s', hs', _⟩ | ⟨k', hk', he⟩
          · rw [hst] at hs'; cases hs'
          · rw [hst] at hk'; cases hk'; exact he
        have HDO := hide hdo'
        have HRK := hide hR
        clear hdo hdo' hR hst hc0 hsx hsv hjl
        go_wp2_with (go_at_call 79; refine (unhide HDO).mono ?_; rintro e w' ⟨hb', rfl⟩)
        have hbx := (unhide HBR).trans hb'
        obtain ⟨⟨p0, z0⟩, ⟨p1, z1⟩, ⟨p2, z2⟩⟩ := unhide HQ _ hbx
        have hbw : Below w.heap.size w w' := (unhide HBA).trans (hbx.mono (by omega))
        refine leaves_cons (f := 77) (args := #[.pointer (some ⟨w.heap.size, 0, none⟩), .pointer (some ⟨w.heap.size + 1, 0, none⟩), .pointer (some ⟨w.heap.size + 1 + 1, 0, none⟩)]) (by simp) (by simp [go_sem]) ?_
        refine (catch_panicking w.heap.size k _ _ _ [] _ p0 z0 p1 z1 p2 z2).mono ?_
        rintro e u' w'' ⟨rfl, rfl, rfl⟩
        rw [unhide HRK]
        have e2 : (((w'.setCell ⟨w.heap.size, 0, none⟩ (.int .i64 k)).setCell ⟨w.heap.size + 1, 0, none⟩ (.slice none 0 0)).setCell ⟨w.heap.size + 2, 0, none⟩ (.slice none 0 0)).cell? ⟨w.heap.size + 1 + 1, 0, none⟩ = some (.slice none 0 0) :=
          World.cell?_setCell_same _ _ _ (by rw [cell_set_far (by omega), cell_set_far (by omega)]; exact p2)
        have e1 : (((w'.setCell ⟨w.heap.size, 0, none⟩ (.int .i64 k)).setCell ⟨w.heap.size + 1, 0, none⟩ (.slice none 0 0)).setCell ⟨w.heap.size + 2, 0, none⟩ (.slice none 0 0)).cell? ⟨w.heap.size + 1, 0, none⟩ = some (.slice none 0 0) := by
          rw [cell_set_far (by omega)]; exact World.cell?_setCell_same _ _ _ (by rw [cell_set_far (by omega)]; exact p1)
        have e0 : (((w'.setCell ⟨w.heap.size, 0, none⟩ (.int .i64 k)).setCell ⟨w.heap.size + 1, 0, none⟩ (.slice none 0 0)).setCell ⟨w.heap.size + 2, 0, none⟩ (.slice none 0 0)).cell? ⟨w.heap.size, 0, none⟩ = some (.int .i64 k) := by
          rw [cell_set_far (by omega), cell_set_far (by omega)]; exact World.cell?_setCell_same _ _ _ p0
        have hbf : Below w.heap.size w (((w'.setCell ⟨w.heap.size, 0, none⟩ (.int .i64 k)).setCell ⟨w.heap.size + 1, 0, none⟩ (.slice none 0 0)).setCell ⟨w.heap.size + 2, 0, none⟩ (.slice none 0 0)) := ((hbw.setCell (Nat.le_refl _) _).setCell (by show w.heap.size ≤ w.heap.size + 1; omega) _).setCell (by show w.heap.size ≤ w.heap.size + 2; omega) _
        generalize ((w'.setCell ⟨w.heap.size, 0, none⟩ (.int .i64 k)).setCell ⟨w.heap.size + 1, 0, none⟩ (.slice none 0 0)).setCell ⟨w.heap.size + 2, 0, none⟩ (.slice none 0 0) = Wf at *
        clear HDO HDR HVAL HRUN HQ HD1 HB1 HBA HWR HBR
        simp [Leaves, settle, results, Try.results52, go_sem, e0, e1, e2]
        exact ⟨_, _, ⟨rfl, rfl, rfl⟩, ⟨World.ownsRow_nil _ _ _ _, World.ownsRow_nil _ _ _ _, .inl rfl⟩, hbf⟩
      | ok s1 =>
        have hR : runM (ss.drop (j + 1)) s1 = R := by rw [← unhide HRUN]; exact (runM_ok hjl rfl hst).symm
        have hdo' : Calls Try.prog 79 #[.pointer (some ⟨w.heap.size + 1 + 1 + 1, 0, none⟩), .iface T uv] wr fun e w' => e = .returned (.tuple #[]) ∧ Below (w.heap.size + 1 + 1 + 1) wr w' ∧ DeskAt w' (w.heap.size + 1 + 1 + 1) (w.heap.size + 1 + 1 + 1) s1 ∧ (∀ q, valB (s1.f q) = true) ∧ s1.g.length ≤ s.g.length + 1 := by
          refine hdo.mono ?_
          rintro e w' ⟨hb, h⟩
          rcases h with ⟨s', hs', he, hd', hv', hl'⟩ | ⟨k', hk', he⟩
          · rw [hst] at hs'; cases hs'; exact ⟨he, hb, hd', hv', hl'⟩
          · rw [hst] at hk'; cases hk'
        have HDO := hide hdo'
        have HRK := hide hR
        clear hdo hdo' hR hst hc0 hsx hsv hjl
        go_wp2_with (go_at_call 79; refine (unhide HDO).mono ?_; rintro e w' ⟨rfl, hb', hd', hv', hl'⟩)
        go_roundw
        case rel => exact ⟨j + 1, s1, hlt, by go_num, (unhide HBR).trans hb', unhide HRK, hd', hv', by omega⟩
        case measure => simp [intOf]; omega
    · have hend : R = .ok s := by
        rw [← unhide HRUN, List.drop_of_length_le (by rw [unhide HN]; omega)]; rfl
      have HEND := hide hend
      clear hend
      obtain ⟨⟨p0, z0⟩, ⟨p1, z1⟩, ⟨p2, z2⟩⟩ := unhide HQ _ (unhide HBR)
      obtain ⟨gv, g0, g1, g2, g3⟩ := (unhide HDR).got
      obtain ⟨ga, gn, gc, rfl⟩ := own_slice g2
      have HG2 := hide g2
      have HG3 := hide g3
      clear g2 g3
      have hl := (unhide HDR).lt
      go_wp2
      have hdr := (unhide HDR).drew
      go_region_held3 (fun w' => w'.cell? ⟨w.heap.size + 1 + 1 + 1, 64, none⟩ = some (.slice ga gn gc)) (first | go_keep | (exact cell_kept hb' (by assumption)) | (rw [cell_set_far (by omega)]; assumption) | (rw [cell_set_far (by omega), cell_set_far (by omega)]; assumption) | (rw [cell_set_far (by omega), cell_set_far (by omega), cell_set_far (by omega)]; assumption))
        (first | (go_at_call 80; refine (deskChanges_any (w.heap.size + 1 + 1 + 1) (w.heap.size + 1 + 1 + 1) M s _ HM hdr).mono ?_; rintro e w' ⟨rv, rfl, ho, hb'⟩; obtain ⟨ra, rn, rc, rfl⟩ := own_slice ho; have y0 : w'.cell? ⟨w.heap.size, 0, none⟩ = some (.int .i64 0) := cell_kept hb' p0; have y1 : w'.cell? ⟨w.heap.size + 1, 0, none⟩ = some (.slice none 0 0) := cell_kept hb' p1; have y2 : w'.cell? ⟨w.heap.size + 1 + 1, 0, none⟩ = some (.slice none 0 0) := cell_kept hb' p2; have x0 : w'.frozen? ⟨w.heap.size, 0, none⟩ = false := (hb'.frozen (p := ⟨w.heap.size, 0, none⟩) (lt_of_cell p0)).trans z0; have x1 : w'.frozen? ⟨w.heap.size + 1, 0, none⟩ = false := (hb'.frozen (p := ⟨w.heap.size + 1, 0, none⟩) (lt_of_cell p1)).trans z1; have x2 : w'.frozen? ⟨w.heap.size + 1 + 1, 0, none⟩ = false := (hb'.frozen (p := ⟨w.heap.size + 1 + 1, 0, none⟩) (lt_of_cell p2)).trans z2; have y1' : ∀ v, (w'.setCell ⟨w.heap.size, 0, none⟩ v).cell? ⟨w.heap.size + 1, 0, none⟩ = some (.slice none 0 0) := fun v => (cell_set_far (by omega)).trans y1; have y2' : ∀ v v', ((w'.setCell ⟨w.heap.size, 0, none⟩ v).setCell ⟨w.heap.size + 1, 0, none⟩ v').cell? ⟨w.heap.size + 1 + 1, 0, none⟩ = some (.slice none 0 0) := fun v v' => (cell_set_far (by omega)).trans ((cell_set_far (by omega)).trans y2)))
      have hbd : Below wr.heap.size wr w' := Below.trans (Below.refl wr.heap.size wr).drew hb'
      have e2 : (((w'.setCell ⟨w.heap.size, 0, none⟩ (.int .i64 0)).setCell ⟨w.heap.size + 1, 0, none⟩ (.slice ga gn gc)).setCell ⟨w.heap.size + 1 + 1, 0, none⟩ (.slice ra rn rc)).cell? ⟨w.heap.size + 1 + 1, 0, none⟩ = some (.slice ra rn rc) := World.cell?_setCell_same _ _ _ ((cell_set_far (by omega)).trans ((cell_set_far (by omega)).trans y2))
      have e1 : (((w'.setCell ⟨w.heap.size, 0, none⟩ (.int .i64 0)).setCell ⟨w.heap.size + 1, 0, none⟩ (.slice ga gn gc)).setCell ⟨w.heap.size + 1 + 1, 0, none⟩ (.slice ra rn rc)).cell? ⟨w.heap.size + 1, 0, none⟩ = some (.slice ga gn gc) := (cell_set_far (by omega)).trans (World.cell?_setCell_same _ _ _ ((cell_set_far (by omega)).trans y1))
      have e0 : (((w'.setCell ⟨w.heap.size, 0, none⟩ (.int .i64 0)).setCell ⟨w.heap.size + 1, 0, none⟩ (.slice ga gn gc)).setCell ⟨w.heap.size + 1 + 1, 0, none⟩ (.slice ra rn rc)).cell? ⟨w.heap.size, 0, none⟩ = some (.int .i64 0) := (cell_set_far (by omega)).trans ((cell_set_far (by omega)).trans (World.cell?_setCell_same _ _ _ y0))
      have hbw : Below w.heap.size w w' := (unhide HWR).trans (hbd.mono (unhide HWR).size)
      have hbf : Below w.heap.size w (((w'.setCell ⟨w.heap.size, 0, none⟩ (.int .i64 0)).setCell ⟨w.heap.size + 1, 0, none⟩ (.slice ga gn gc)).setCell ⟨w.heap.size + 1 + 1, 0, none⟩ (.slice ra rn rc)) := ((hbw.setCell (Nat.le_refl _) _).setCell (by show w.heap.size ≤ w.heap.size + 1; omega) _).setCell (by show w.heap.size ≤ w.heap.size + 1 + 1; omega) _
      have hgf : (((w'.setCell ⟨w.heap.size, 0, none⟩ (.int .i64 0)).setCell ⟨w.heap.size + 1, 0, none⟩ (.slice ga gn gc)).setCell ⟨w.heap.size + 1 + 1, 0, none⟩ (.slice ra rn rc)).ownsRow (w.heap.size + 1 + 1 + 1) 3 1 (.slice ga gn gc) s.g.length (s.g.map (Value.int .i64)) :=
        ownsRow_setCell_below (ownsRow_setCell_below (ownsRow_setCell_below (ownsRow_below (unhide HG2) hbd) (by show w.heap.size < _; omega) _) (by show w.heap.size + 1 < _; omega) _) (by show w.heap.size + 1 + 1 < _; omega) _
      have ho' : w'.ownsRow wr.heap.size 39 2 (.slice ra rn rc) (chTo s.f s.c M).length (prFlat (chTo s.f s.c M)) := ho
      have hcf : (((w'.setCell ⟨w.heap.size, 0, none⟩ (.int .i64 0)).setCell ⟨w.heap.size + 1, 0, none⟩ (.slice ga gn gc)).setCell ⟨w.heap.size + 1 + 1, 0, none⟩ (.slice ra rn rc)).ownsRow wr.heap.size 39 2 (.slice ra rn rc) (chTo s.f s.c M).length (prFlat (chTo s.f s.c M)) :=
        ownsRow_setCell_below (ownsRow_setCell_below (ownsRow_setCell_below ho' (by show w.heap.size < _; omega) _) (by show w.heap.size + 1 < _; omega) _) (by show w.heap.size + 1 + 1 < _; omega) _
      have hdist := dist_symm (dist_new (unhide HG2) ho' (Nat.le_refl _))
      rw [unhide HM] at hcf
      have hwsz := (unhide HWR).size
      have hrun : RunAt (((w'.setCell ⟨w.heap.size, 0, none⟩ (.int .i64 0)).setCell ⟨w.heap.size + 1, 0, none⟩ (.slice ga gn gc)).setCell ⟨w.heap.size + 1 + 1, 0, none⟩ (.slice ra rn rc)) w.heap.size (.ok s) (.slice ga gn gc) (.slice ra rn rc) := ⟨ownsRow_base hgf (by omega), ownsRow_base hcf (by omega), hdist⟩
      rename_i hHeld
      clear hHeld ho ho' hgf hcf hdist y0 y1 y2 y1' y2' x0 x1 x2 hdr g0 g1 hbd hb' hbw p0 p1 p2 z0 z1 z2
      have HRUN2 := hide hrun
      have HBF := hide hbf
      clear hrun hbf
      generalize ((w'.setCell ⟨w.heap.size, 0, none⟩ (.int .i64 0)).setCell ⟨w.heap.size + 1, 0, none⟩ (.slice ga gn gc)).setCell ⟨w.heap.size + 1 + 1, 0, none⟩ (.slice ra rn rc) = Wf at *
      clear HDR HVAL HRUN HQ HD1 HB1 HBA HWR HBR HG2 HG3
      go_wp2
      refine leaves_cons (f := 77) (args := #[.pointer (some ⟨w.heap.size, 0, none⟩), .pointer (some ⟨w.heap.size + 1, 0, none⟩), .pointer (some ⟨w.heap.size + 1 + 1, 0, none⟩)]) (by simp) (by simp [go_sem]) ?_
      refine (catch_idle w.heap.size _).mono ?_
      rintro e u' w'' ⟨rfl, rfl, rfl⟩
      rw [unhide HEND]
      simp [Leaves, settle, results, Try.results52, go_sem, e0, e1, e2]
      exact ⟨_, _, ⟨rfl, rfl, rfl⟩, unhide HRUN2, unhide HBF⟩

end Go.Proofs.Ytimnhgncnhmgcaa
