/- The law FnExactWordOk answers true. -/
import Derived.Test.YtfankbnlgmfdjaaWdT
import Derived.Test.YtfankbnlgmfdjaaWdI3
namespace Go.Proofs.Ytfankbnlgmfdjaa
open Go.RowKit

/-- The cells C are those of the word W, as it lies in w. -/
structure WordC (W : Wd) (w : World) (C : Array Value) : Prop where
  size : C.size = 17
  one : C.all (·.oneCell') = true
  lies : ∃ a b c, C = wdC W a b c ∧ WdAt w W a b c
theorem WordC.kept {W : Wd} {w w' : World} {C : Array Value} (h : WordC W w C) (hb : Below w.heap.size w w') : WordC W w' C := by
  obtain ⟨h1, h2, a, b, c, h3, h4⟩ := h
  exact ⟨h1, h2, a, b, c, h3, h4.kept hb⟩
theorem WordC.of {W : Wd} {w : World} {a b c : Value} (h : WdAt w W a b c) : WordC W w (wdC W a b c) := by
  refine ⟨rfl, ?_, a, b, c, rfl, h⟩
  obtain ⟨a0, c0, rfl, -⟩ := h.slots.slice
  obtain ⟨a1, c1, rfl, -⟩ := h.prs.shape
  obtain ⟨a2, c2, rfl, -⟩ := h.vals.slice
  simp [wdC, Value.oneCell']

theorem szWordC (W : Wd) (A : Array Value) (w : World) (h : WordC W w A) :
    Calls Try.prog 16 #[.agg A, .int .i64 1048576] w fun e w' => ∃ r : Int, e = .returned (.int .i64 r) ∧ (r < 0 ∨ (0 ≤ r ∧ WdFit W)) ∧ Below w.heap.size w w' := by
  obtain ⟨-, -, a, b, c, rfl, h⟩ := h
  exact szWord_any W a b c w h
theorem toWordC (W : Wd) (A : Array Value) (w : World) (h : WordC W w A) (hf : WdFit W) :
    Calls Try.prog 17 #[.agg A] w fun e w' => ∃ C, e = .returned (.agg C) ∧ WordC W w' C ∧ Below w.heap.size w w' := by
  obtain ⟨-, -, a, b, c, rfl, h⟩ := h
  exact (toWord_any W a b c w h hf).mono fun _ _ ⟨_, _, _, h1, h2, h3⟩ => ⟨_, h1, .of h2, h3⟩
theorem specWordC (W : Wd) (A : Array Value) (w : World) (h : WordC W w A) :
    Calls Try.prog 10 #[.agg A] w fun e w' => e = .returned (.bool (wordB W)) ∧ Below w.heap.size w w' := by
  obtain ⟨-, -, a, b, c, rfl, h⟩ := h
  exact specWordOk_any W a b c w h
theorem implWordC (W : Wd) (A : Array Value) (w : World) (h : WordC W w A) :
    Calls Try.prog 12 #[.agg A] w fun e w' => e = .returned (.bool (wordB W)) ∧ Below w.heap.size w w' := by
  obtain ⟨-, -, a, b, c, rfl, h⟩ := h
  exact implWordOk_any W a b c w h
theorem eqWordC (W : Wd) (A A' : Array Value) (w : World) (h : WordC W w A) (h' : WordC W w A') :
    Calls Try.prog 18 #[.agg A, .agg A'] w fun e w' => e = .returned (.bool true) ∧ Below w.heap.size w w' := by
  obtain ⟨-, -, a, b, c, rfl, h⟩ := h
  obtain ⟨-, -, a', b', c', rfl, h'⟩ := h'
  exact eqWordSelf_any W a b c a' b' c' w h h'

/-- A row that is loaded whole, in any world in which it lies. -/
theorem load_yields {ρ : Operand → Value} {o : Oper} {g : Nat} {t : TypeId} {cs : Array Value} {fs : Array Field} {w : World} (ty : TypeId) (x : Operand) (ho : o.op = .load ty x) (hx : ρ x = .pointer (some ⟨g, 0, none⟩))
    (h : Box w g t cs) (hu : Try.prog.underlying ty = some (.struct fs)) (hi : (Try.prog.info? ty).map (·.size) = some cs.size) : (execOp ρ o).run Try.prog w = .ok (.value (.agg cs)) w := by
  unfold execOp
  simp only [ho, hx, Instr.loadAt, Instr.sureAddr, Sem.run_bind, Sem.run_pure, Result.andThen_ok, run_loadVar_row w g t ty cs (0, 0) _ h.row hu rfl hi]

set_option maxRecDepth 100000 in
set_option maxHeartbeats 4000000 in
theorem lawWordOkC (W : Wd) (A : Array Value) (w : World) (h : WordC W w A) :
    Calls Try.prog 5 #[.agg A] w fun e w' => e = .returned (.bool true) ∧ Below w.heap.size w w' := by
  have HU := hide h
  have HSZ := hide h.size
  have HMS := hide (fun ww hk => szWordC W A ww hk)
  have HTO := hide (fun ww hk hf => toWordC W A ww hk hf)
  have HSP := hide (fun C ww hk => specWordC W C ww hk)
  have HIM := hide (fun C ww hk => implWordC W C ww hk)
  have HEQ := hide (fun C C' ww hk hk' => eqWordC W C C' ww hk hk')
  generalize wordB W = B at *
  have hok : (B != B) = false := by simp
  have bA : Below w.heap.size w (w.alloc (.cells A 39)) := (Below.refl _ _).alloc (Nat.le_refl _) _
  have HA := hide bA
  have HX := hide (Box.made w 39 A)
  clear h bA
  go_enter Try.func5, Try.ntmps5
  go_wp2_with (refine wpList_load_row rfl 39 _ rfl w.heap.size rfl 39 A _ _ (unhide HX).row Try.underlying39 rfl (by rw [unhide HSZ]; kernel_rfl) ?_)
  refine (unhide HMS _ ((unhide HU).kept (unhide HA))).mono ?_; rintro e w1 ⟨r, rfl, hr, hb1⟩
  have HB1 := hide ((unhide HA).trans (hb1.mono (unhide HA).size))
  have HX1 := hide ((unhide HX).kept hb1)
  have HR := hide hr
  clear hb1 HX hr
  by_cases hr0 : r < 0
  · go_wp2_with fail
    go_ret
    exact ⟨rfl, unhide HB1⟩
  have hfit := (unhide HR).resolve_left hr0 |>.2
  have HFT := hide hfit
  clear hfit
  go_wp2_with (refine wpList_load_row rfl 39 _ rfl w.heap.size rfl 39 A _ _ (unhide HX1).row Try.underlying39 rfl (by rw [unhide HSZ]; kernel_rfl) ?_)
  refine (unhide HTO _ ((unhide HU).kept (unhide HB1)) (unhide HFT)).mono ?_; rintro e w2 ⟨C2, rfl, hk2, hb2⟩
  have HB2 := hide ((unhide HB1).trans (hb2.mono (unhide HB1).size))
  have HX2 := hide ((unhide HX1).kept hb2)
  have HK2 := hide hk2
  clear hb2 hk2 HX1
  go_wp2_with fail
  refine (unhide HSP _ _ (unhide HK2)).mono ?_; rintro e w3 ⟨rfl, hb3⟩
  have HB3 := hide ((unhide HB2).trans (hb3.mono (unhide HB2).size))
  have HX3 := hide ((unhide HX2).kept hb3)
  clear hb3 HX2 HK2
  go_wp2_with (refine wpList_load_row rfl 39 _ rfl w.heap.size rfl 39 A _ _ (unhide HX3).row Try.underlying39 rfl (by rw [unhide HSZ]; kernel_rfl) ?_)
  refine (unhide HTO _ ((unhide HU).kept (unhide HB3)) (unhide HFT)).mono ?_; rintro e w4 ⟨C4, rfl, hk4, hb4⟩
  have HO4 := hide (Box.made w4 28 C4)
  have bB : Below w4.heap.size w4 (w4.alloc (.cells C4 28)) := (Below.refl _ _).alloc (Nat.le_refl _) _
  have b4 := (unhide HB3).trans (hb4.mono (unhide HB3).size)
  have HB4 := hide (b4.trans (bB.mono b4.size))
  have HX4 := hide (((unhide HX3).kept hb4).kept bB)
  have HK4 := hide (hk4.kept bB)
  have HS4 := hide hk4.size
  have HO4' := hide hk4.one
  have lx4 := ((unhide HX3).kept hb4).lt
  clear hb4 hk4 bB b4 HX3
  go_wp2_with (first | (refine wpList_store_row rfl 28 _ _ rfl w4.heap.size C4 rfl rfl 28 _ (heap_alloc_new _ _) (by rw [unhide HS4]; kernel_rfl) (by rw [unhide HS4]; rfl) (unhide HO4') ?_; rw [setRow_alloc_new]) | (refine wpList_load_row rfl 28 _ rfl w4.heap.size rfl 28 C4 _ _ (unhide HO4).row Try.underlying28 rfl (by rw [unhide HS4]; kernel_rfl) ?_))
  refine (unhide HIM _ _ (unhide HK4)).mono ?_; rintro e w5 ⟨rfl, hb5⟩
  have HB5 := hide ((unhide HB4).trans (hb5.mono (unhide HB4).size))
  have HX5 := hide ((unhide HX4).kept hb5)
  have HO5 := hide ((unhide HO4).kept hb5)
  have HK5 := hide ((unhide HK4).kept hb5)
  clear hb5 HX4 HO4 HK4
  go_wp2_with fail
  refine wp_region_held_drew (S := fun w' => Box w' w.heap.size 39 A ∧ Box w' w4.heap.size 28 C4) (by kernel_rfl) ⟨⟨(unhide HX5).row⟩, ⟨(unhide HO5).row⟩⟩ (fun hHeld => ?_)
  refine wpAnyH_take (i := 0) (v := .agg C4) rfl (by kernel_rfl) (by kernel_rfl) (by kernel_rfl) (fun _ _ _ h => h) (Or.inl ⟨by rfl, ?ha⟩) (by assumption) ?_
  case ha => exact fun w0 hSw => load_yields 28 (.tmp 5) rfl rfl hSw.2 Try.underlying28 (by rw [unhide HS4]; kernel_rfl)
  try simp only [Act.put]
  refine wpAnyH_take (i := 1) (v := .agg A) rfl (by kernel_rfl) (by kernel_rfl) (by kernel_rfl) (fun _ _ _ h => h) (Or.inl ⟨by rfl, ?hb⟩) (by assumption) ?_
  case hb => exact fun w0 hSw => load_yields 39 (.tmp 1) rfl rfl hSw.1 Try.underlying39 (by rw [unhide HSZ]; kernel_rfl)
  try simp only [Act.put]
  refine wpAnyH_ready (rs := [2]) (by kernel_rfl) (by simp) ?_
  refine AllReadyH.cons rfl (fun K hK => ?_) AllReadyH.nil
  go_simp
  go_at_call 17
  refine (unhide HTO _ ((unhide HU).kept (unhide HB5).drew) (unhide HFT)).mono ?_; rintro e w6 ⟨C6, rfl, hk6, hb6⟩
  have hb6' : Below w5.heap.size w5 w6 := ((Below.refl _ _).drew).trans hb6
  have HK6 := hide hk6
  have HB6 := hide hb6'
  clear hk6 hb6 hb6'
  try go_wp2_with fail
  clear hHeld
  refine hK.out _ _ ⟨(unhide HX5).kept (unhide HB6), (unhide HO5).kept (unhide HB6)⟩ (fun hHeld => ?_)
  clear hK K
  refine wpAnyH_ready (rs := [3]) (by kernel_rfl) (by simp) ?_
  refine AllReadyH.cons rfl (fun K hK => ?_) AllReadyH.nil
  go_simp
  go_at_call 18
  refine (unhide HEQ _ _ _ ((unhide HK5).kept (unhide HB6)) (unhide HK6)).mono ?_; rintro e w7 ⟨rfl, hb7⟩
  have HB7 := hide ((unhide HB6).trans (hb7.mono (unhide HB6).size))
  clear hb7
  try go_wp2_with fail
  clear hHeld
  refine hK.out _ _ ⟨(unhide HX5).kept (unhide HB7), (unhide HO5).kept (unhide HB7)⟩ (fun hHeld => ?_)
  clear hK K
  refine wpAnyH_take (i := 4) (v := ?v4) rfl (by kernel_rfl) (by kernel_rfl) (by kernel_rfl) (fun _ _ _ h => h) (Or.inl ⟨by rfl, ?hc⟩) (by assumption) ?_
  case hc => (intro w0 hSw; (try dsimp only at hSw); go_simp; try (with_reducible rfl))
  try simp only [Act.put]
  refine wpAnyH_done (by kernel_rfl) ?_ _
  go_wp2_with fail
  go_ret
  have b6 := (unhide HB5).trans ((unhide HB7).mono (unhide HB5).size)
  exact ⟨rfl, b6⟩

theorem lawWordOk_any (W : Wd) (a b c : Value) (w : World) (h : WdAt w W a b c) :
    Calls Try.prog 5 #[wdV W a b c] w fun e w' => e = .returned (.bool true) ∧ Below w.heap.size w w' := lawWordOkC W _ w (.of h)

end Go.Proofs.Ytfankbnlgmfdjaa
