/- Proved: at every call the law FnExactCallSlots answers true, and its argument reads behind the call as before (every call; package variables as the program's text lays them; no other condition). -/
import Derived.Test.YtedlhepbbefikaaGreatDoorLawCs1
import Derived.Test.YtedlhepbbefikaaGreatDoorOpenC
import Derived.Test.YtedlhepbbefikaaGreatDoorLaidK
import Derived.Test.YtedlhepbbefikaaGreatDoorTie
import Derived.Test.YtedlhepbbefikaaGreatDoorCards
import Derived.OpenShut
import Derived.SevenTiedAt
namespace Go.Proofs.YtedlhepbbefikaaGreatDoor
namespace PfCallSlots
open Go.ChangeShapes Go.WideShapes Go.ChangeAt Go.RowKit
open Go.ChangeMaps (open_string shut_string)
set_option linter.unusedVariables false

theorem own : ownKnob Tryz.prog.godebug = none := by kernel_rfl
theorem laidOut : laidOutB Tryz.prog = true := by kernel_rfl

set_option maxRecDepth 100000 in
theorem lifted (os : Os) (started : os.Started) (H : Type) (enc : TypeId × Value → H) :
    ReturnsInHanded {} Tryz.checked os 4 .any (fun w args => (Rows.fnExactCallSlotsSpec.pre enc Tryz.prog Tryz.f4 Rows.fnExactCallSlotsRow.domain false w args ∧ laidMetH Tryz.prog Rows.fnExactCallSlotsRow.laid w) ∧ sizedMet enc Tryz.prog Tryz.f4 (OpenSpec.ofChange Rows.fnExactCallSlotsSpec) false w args)
      (Rows.fnExactCallSlotsSpec.post enc Tryz.prog Tryz.f4 false true false false) := by
  refine wrapKYtedlhepbbefikaaGreatDoor (C := Tryz.checked) (X := fun w _ => laidMetH Tryz.prog Rows.fnExactCallSlotsRow.laid w) (fun _ _ _ hh h => h.of_heap hh) own started (by kernel_rfl) Tryz.func4
    (ChangeSpec.witness_shaped (enc := enc) (C := Tryz.checked) (os := os) (X := fun w _ => laidMetH Tryz.prog Rows.fnExactCallSlotsRow.laid w) false (World.laidAll Tryz.prog os Rows.fnExactCallSlotsRow.laid) #[.agg #[.int .i64 0, .int .i64 0, .int .i64 0, .string ⟨#[]⟩, .int .i64 0, .int .i64 0]] 8 (World.laidAll_os _ _ _)
      (World.shaped_of_ZipB (by kernel_rfl) (by kernel_rfl)) (by kernel_rfl) (by kernel_rfl) (by kernel_rfl)
      (by rw [MakeChecks.laidMetH_plain _ _ _ (by kernel_rfl)]; exact laidMet_laidAll _ (by kernel_rfl) (by kernel_rfl))) ?_
  intro W base args ds gs before hval0 hW hL hsh
  have hval : ∀ (j : Nat) t v, Tryz.f4.params[j]? = some t → args[j]? = some v → Value.okWide Tryz.prog W .any base t v := hval0
  have hW' := hW
  obtain ⟨p, q, hA0, hV, rfl, hfz, hnd⟩ := hW
  have hA : DataW.TrodAll enc Tryz.prog W 0 (fun _ => true) true Tryz.f4.params.toList args.toList ds p := hA0
  rw [Tryz.params4] at hA hval
  obtain ⟨v0, d0, rfl, rfl, h0⟩ := trodAll_one hA
  obtain ⟨rfl, rfl⟩ := trodVars_none hV
  have k0 := h0
  have lt0 : ∀ x ∈ p, x.block < W.heap.size := by obtain ⟨m, hm⟩ := k0; exact DataW.trod_lt m _ _ _ hm
  obtain ⟨x0, rfl, w0⟩ := open_callArg Tryz.underlying37 (by kernel_rfl) rfl rfl Tryz.underlying3 (by kernel_rfl) Tryz.underlying9 (by kernel_rfl) (hval 0 37 v0 rfl rfl) h0
  have hgw := gw_of hL hsh
  clear hA0 hval0
  refine (lawCallSlots_any x0 W hgw w0).mono fun e W' ⟨he, bel⟩ => ?_
  subst he
  exact ⟨_, rfl, _, _, _, [], _, [], hW', trodAll_mk1 (shut_bool Tryz.underlying4 _), trodAll_mk1 (Below.trod laidOut (by kernel_rfl) (of_decide_eq_true (by kernel_rfl)) k0 bel lt0), rfl, bel.frame _, fun h => by cases h⟩

theorem over : Rows.fnExactCallSlotsRow.holds Tryz.pinned (OpenSpec.ofChange Rows.fnExactCallSlotsSpec) :=
  OpenClaim.holds_of_wide 4 Tryz.f4 rfl rfl rfl rfl rfl rfl rfl ⟨rfl, rfl, rfl, rfl, rfl⟩ rfl rfl rfl rfl rfl (by kernel_rfl) Tryz.func4 (by kernel_rfl)
    (of_decide_eq_true (by kernel_rfl)) (by unfold Func.isWrapper; first | (rw [if_pos (by decide +kernel)]; kernel_rfl) | (rw [if_neg (by decide +kernel)]; exact ⟨rfl, rfl⟩))
    (fun os started H enc _ => lifted os started H enc)

end PfCallSlots

set_option maxRecDepth 100000 in
theorem fnExactCallSlots_holds : Rows.FnExactCallSlotsCardSaid :=
  Claim7.holds_tied_plain_at .later [] [.data, .data, .data, .data, .sentinel, .sentinel, .pinned] true (true, "2f903e47664138f88594e3a1e65cf0f9808e9532b8c78f536f6c7927624f0413") true PfCallSlots.over (fun _ h => by cases h) (by kernel_rfl) (fun _ h => by cases h) fnExactCallSlots_row_tie rfl ⟨rfl, rfl⟩ (by kernel_rfl) rfl
    (fun f fn hf hfn => by
      obtain rfl : f = 4 := Option.some.inj ((show Tryz.prog.funcNamed "loop.example/turnpike/laws.FnExactCallSlots" = some 4 by kernel_rfl).symm.trans hf) |>.symm
      obtain rfl : fn = Tryz.f4 := (Option.some.inj (Tryz.func4.symm.trans hfn)).symm
      exact ⟨by kernel_rfl, fun j t ht => by
        rw [Tryz.params4] at ht
        have hm : t ∈ [37] := by simpa using Array.mem_of_getElem? ht
        have hall : ([37].all fun u => !Tryz.prog.wantsStandIn u) = true := by kernel_rfl
        exact (show Tryz.prog.wantsStandIn t = false by simpa using List.all_eq_true.1 hall t hm)⟩)
    (by kernel_rfl)
#print axioms fnExactCallSlots_holds
end Go.Proofs.YtedlhepbbefikaaGreatDoor
