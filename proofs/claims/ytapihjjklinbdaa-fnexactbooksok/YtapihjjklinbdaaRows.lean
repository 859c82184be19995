/-
  No cell of these rows narrows 'for every input' (looked for: loops, veiled, ifaces, maps, wideKeys, modest, calm, conditions, laid).
  DERIVED. THE GIVEN ROWS OF THIS SEAT. 10 by the template 'for every input the law returns true; each argument reads behind the call as it read before'; 0 by the template 'total and deterministic' (their statements: YtapihjjklinbdaaTotals.lean).
  GIVEN WITH THE SEED: the statements are not yours to turn. If you find one false, say at which input.
  Laid BY PROGRAM, IN A SANDBOX (cutbox-rows.mjs): the forced cells as the released guide's own fill.sh prints them over the translation c61e59e95892da2b… (all of the seat's roots in one cut). By AI agents, Wed Nov 11 2026. No macro, syntax, notation, axiom, sorry.
-/
import Derived.Test.YtapihjjklinbdaaChecked
import GoSem.Claim
import GoSem.ClaimJoined
import GoSem.ClaimMapViews
import Derived.JoinedTies
import Derived.KernelRfl
namespace Go.Proofs.Ytapihjjklinbdaa
/- THE CELL 'sum', in the pinned program and in every row, IS THE sha256 OF THE DUMP (.gsa) THAT YtapihjjklinbdaaProg.lean LOADS. Nothing in Lean hashes anything: it is a label: what it is worth is what the hold of that sum in a sandbox is worth. -/
noncomputable def Try.pinned : Pinned := { name := "ytapihjjklinbdaa", sum := "c61e59e95892da2b9319c19843ba3dd4d73b8b0d7a48776fdee29c42aa4d6cc6", checked := Try.checked }
namespace Rows
def none {H : Type} : Left H := { results := [], args := [] }

/-- 'laws.FnExactBooksOk': WHATEVER THE INPUT: true; the input reads as it did. -/
def fnExactBooksOkSpec : ChangeSpec := { name := "fnExactBooksOk", fn := fun _ => fun
  | [d] => { results := [.lit (.bool true)], args := [d] }
  | _ => none }
def fnExactBooksOkRow : OpenClaim := { program := "ytapihjjklinbdaa", sum := "c61e59e95892da2b9319c19843ba3dd4d73b8b0d7a48776fdee29c42aa4d6cc6", func := "loop.example/turnpike/laws.FnExactBooksOk", spec := "fnExactBooksOk", apart := false }
def FnExactBooksOkSaid : Prop := fnExactBooksOkRow.holds Try.pinned (OpenSpec.ofChange fnExactBooksOkSpec)

/-- ITS FALSE NEIGHBOUR: 'it returns false'. Refute it at one input. -/
def fnExactBooksOkWrong : ChangeSpec := { name := "fnExactBooksOk", fn := fun _ => fun
  | [d] => { results := [.lit (.bool false)], args := [d] }
  | _ => none }
def FnExactBooksOkWrongFalsely : Prop := fnExactBooksOkRow.holds Try.pinned (OpenSpec.ofChange fnExactBooksOkWrong)

/-- 'laws.FnExactBooksStart': WHATEVER THE INPUT: true; the input reads as it did. -/
def fnExactBooksStartSpec : ChangeSpec := { name := "fnExactBooksStart", fn := fun _ => fun
  | [] => { results := [.lit (.bool true)], args := [] }
  | _ => none }
def fnExactBooksStartRow : OpenClaim := { program := "ytapihjjklinbdaa", sum := "c61e59e95892da2b9319c19843ba3dd4d73b8b0d7a48776fdee29c42aa4d6cc6", func := "loop.example/turnpike/laws.FnExactBooksStart", spec := "fnExactBooksStart", apart := false }
def FnExactBooksStartSaid : Prop := fnExactBooksStartRow.holds Try.pinned (OpenSpec.ofChange fnExactBooksStartSpec)

/-- ITS FALSE NEIGHBOUR: 'it returns false'. Refute it at one input. -/
def fnExactBooksStartWrong : ChangeSpec := { name := "fnExactBooksStart", fn := fun _ => fun
  | [] => { results := [.lit (.bool false)], args := [] }
  | _ => none }
def FnExactBooksStartWrongFalsely : Prop := fnExactBooksStartRow.holds Try.pinned (OpenSpec.ofChange fnExactBooksStartWrong)

/-- 'laws.FnExactMapStart': WHATEVER THE INPUT: true; the input reads as it did. -/
def fnExactMapStartSpec : ChangeSpec := { name := "fnExactMapStart", fn := fun _ => fun
  | [] => { results := [.lit (.bool true)], args := [] }
  | _ => none }
def fnExactMapStartRow : OpenClaim := { program := "ytapihjjklinbdaa", sum := "c61e59e95892da2b9319c19843ba3dd4d73b8b0d7a48776fdee29c42aa4d6cc6", func := "loop.example/turnpike/laws.FnExactMapStart", spec := "fnExactMapStart", apart := false }
def FnExactMapStartSaid : Prop := fnExactMapStartRow.holds Try.pinned (OpenSpec.ofChange fnExactMapStartSpec)

/-- ITS FALSE NEIGHBOUR: 'it returns false'. Refute it at one input. -/
def fnExactMapStartWrong : ChangeSpec := { name := "fnExactMapStart", fn := fun _ => fun
  | [] => { results := [.lit (.bool false)], args := [] }
  | _ => none }
def FnExactMapStartWrongFalsely : Prop := fnExactMapStartRow.holds Try.pinned (OpenSpec.ofChange fnExactMapStartWrong)

/-- 'laws.FnExactMapOk': WHATEVER THE INPUT: true; the input reads as it did. -/
def fnExactMapOkSpec : ChangeSpec := { name := "fnExactMapOk", fn := fun _ => fun
  | [d] => { results := [.lit (.bool true)], args := [d] }
  | _ => none }
def fnExactMapOkRow : OpenClaim := { program := "ytapihjjklinbdaa", sum := "c61e59e95892da2b9319c19843ba3dd4d73b8b0d7a48776fdee29c42aa4d6cc6", func := "loop.example/turnpike/laws.FnExactMapOk", spec := "fnExactMapOk", apart := false }
def FnExactMapOkSaid : Prop := fnExactMapOkRow.holds Try.pinned (OpenSpec.ofChange fnExactMapOkSpec)

/-- ITS FALSE NEIGHBOUR: 'it returns false'. Refute it at one input. -/
def fnExactMapOkWrong : ChangeSpec := { name := "fnExactMapOk", fn := fun _ => fun
  | [d] => { results := [.lit (.bool false)], args := [d] }
  | _ => none }
def FnExactMapOkWrongFalsely : Prop := fnExactMapOkRow.holds Try.pinned (OpenSpec.ofChange fnExactMapOkWrong)

/-- 'laws.FnExactMapSlot': WHATEVER THE INPUT: true; the input reads as it did. -/
def fnExactMapSlotSpec : ChangeSpec := { name := "fnExactMapSlot", fn := fun _ => fun
  | [d] => { results := [.lit (.bool true)], args := [d] }
  | _ => none }
def fnExactMapSlotRow : OpenClaim := { program := "ytapihjjklinbdaa", sum := "c61e59e95892da2b9319c19843ba3dd4d73b8b0d7a48776fdee29c42aa4d6cc6", func := "loop.example/turnpike/laws.FnExactMapSlot", spec := "fnExactMapSlot", apart := false }
def FnExactMapSlotSaid : Prop := fnExactMapSlotRow.holds Try.pinned (OpenSpec.ofChange fnExactMapSlotSpec)

/-- ITS FALSE NEIGHBOUR: 'it returns false'. Refute it at one input. -/
def fnExactMapSlotWrong : ChangeSpec := { name := "fnExactMapSlot", fn := fun _ => fun
  | [d] => { results := [.lit (.bool false)], args := [d] }
  | _ => none }
def FnExactMapSlotWrongFalsely : Prop := fnExactMapSlotRow.holds Try.pinned (OpenSpec.ofChange fnExactMapSlotWrong)

/-- 'laws.FnExactMapHouse': WHATEVER THE INPUT: true; the input reads as it did. -/
def fnExactMapHouseSpec : ChangeSpec := { name := "fnExactMapHouse", fn := fun _ => fun
  | [d1, d2] => { results := [.lit (.bool true)], args := [d1, d2] }
  | _ => none }
def fnExactMapHouseRow : OpenClaim := { program := "ytapihjjklinbdaa", sum := "c61e59e95892da2b9319c19843ba3dd4d73b8b0d7a48776fdee29c42aa4d6cc6", func := "loop.example/turnpike/laws.FnExactMapHouse", spec := "fnExactMapHouse", unfollowed := true, recurses := true, apart := false }
def FnExactMapHouseSaid : Prop := fnExactMapHouseRow.holds Try.pinned (OpenSpec.ofChange fnExactMapHouseSpec)

/-- ITS FALSE NEIGHBOUR: 'it returns false'. Refute it at one input. -/
def fnExactMapHouseWrong : ChangeSpec := { name := "fnExactMapHouse", fn := fun _ => fun
  | [d1, d2] => { results := [.lit (.bool false)], args := [d1, d2] }
  | _ => none }
def FnExactMapHouseWrongFalsely : Prop := fnExactMapHouseRow.holds Try.pinned (OpenSpec.ofChange fnExactMapHouseWrong)

/-- 'laws.FnExactMapMove': WHATEVER THE INPUT: true; the input reads as it did. -/
def fnExactMapMoveSpec : ChangeSpec := { name := "fnExactMapMove", fn := fun _ => fun
  | [d1, d2, d3] => { results := [.lit (.bool true)], args := [d1, d2, d3] }
  | _ => none }
def fnExactMapMoveRow : OpenClaim := { program := "ytapihjjklinbdaa", sum := "c61e59e95892da2b9319c19843ba3dd4d73b8b0d7a48776fdee29c42aa4d6cc6", func := "loop.example/turnpike/laws.FnExactMapMove", spec := "fnExactMapMove", apart := false }
def FnExactMapMoveSaid : Prop := fnExactMapMoveRow.holds Try.pinned (OpenSpec.ofChange fnExactMapMoveSpec)

/-- ITS FALSE NEIGHBOUR: 'it returns false'. Refute it at one input. -/
def fnExactMapMoveWrong : ChangeSpec := { name := "fnExactMapMove", fn := fun _ => fun
  | [d1, d2, d3] => { results := [.lit (.bool false)], args := [d1, d2, d3] }
  | _ => none }
def FnExactMapMoveWrongFalsely : Prop := fnExactMapMoveRow.holds Try.pinned (OpenSpec.ofChange fnExactMapMoveWrong)

/-- 'laws.FnExactDealOk': WHATEVER THE INPUT: true; the input reads as it did. -/
def fnExactDealOkSpec : ChangeSpec := { name := "fnExactDealOk", fn := fun _ => fun
  | [d] => { results := [.lit (.bool true)], args := [d] }
  | _ => none }
def fnExactDealOkRow : OpenClaim := { program := "ytapihjjklinbdaa", sum := "c61e59e95892da2b9319c19843ba3dd4d73b8b0d7a48776fdee29c42aa4d6cc6", func := "loop.example/turnpike/laws.FnExactDealOk", spec := "fnExactDealOk", apart := false }
def FnExactDealOkSaid : Prop := fnExactDealOkRow.holds Try.pinned (OpenSpec.ofChange fnExactDealOkSpec)

/-- ITS FALSE NEIGHBOUR: 'it returns false'. Refute it at one input. -/
def fnExactDealOkWrong : ChangeSpec := { name := "fnExactDealOk", fn := fun _ => fun
  | [d] => { results := [.lit (.bool false)], args := [d] }
  | _ => none }
def FnExactDealOkWrongFalsely : Prop := fnExactDealOkRow.holds Try.pinned (OpenSpec.ofChange fnExactDealOkWrong)

/-- 'laws.FnExactDealRun': WHATEVER THE INPUT: true; the input reads as it did. -/
def fnExactDealRunSpec : ChangeSpec := { name := "fnExactDealRun", fn := fun _ => fun
  | [d1, d2] => { results := [.lit (.bool true)], args := [d1, d2] }
  | _ => none }
def fnExactDealRunRow : OpenClaim := { program := "ytapihjjklinbdaa", sum := "c61e59e95892da2b9319c19843ba3dd4d73b8b0d7a48776fdee29c42aa4d6cc6", func := "loop.example/turnpike/laws.FnExactDealRun", spec := "fnExactDealRun", unfollowed := true, recurses := true, apart := false }
def FnExactDealRunSaid : Prop := fnExactDealRunRow.holds Try.pinned (OpenSpec.ofChange fnExactDealRunSpec)

/-- ITS FALSE NEIGHBOUR: 'it returns false'. Refute it at one input. -/
def fnExactDealRunWrong : ChangeSpec := { name := "fnExactDealRun", fn := fun _ => fun
  | [d1, d2] => { results := [.lit (.bool false)], args := [d1, d2] }
  | _ => none }
def FnExactDealRunWrongFalsely : Prop := fnExactDealRunRow.holds Try.pinned (OpenSpec.ofChange fnExactDealRunWrong)

/-- 'laws.FnExactPairsPut': WHATEVER THE INPUT: true; the input reads as it did. -/
def fnExactPairsPutSpec : ChangeSpec := { name := "fnExactPairsPut", fn := fun _ => fun
  | [d1, d2] => { results := [.lit (.bool true)], args := [d1, d2] }
  | _ => none }
def fnExactPairsPutRow : OpenClaim := { program := "ytapihjjklinbdaa", sum := "c61e59e95892da2b9319c19843ba3dd4d73b8b0d7a48776fdee29c42aa4d6cc6", func := "loop.example/turnpike/laws.FnExactPairsPut", spec := "fnExactPairsPut", apart := false }
def FnExactPairsPutSaid : Prop := fnExactPairsPutRow.holds Try.pinned (OpenSpec.ofChange fnExactPairsPutSpec)

/-- ITS FALSE NEIGHBOUR: 'it returns false'. Refute it at one input. -/
def fnExactPairsPutWrong : ChangeSpec := { name := "fnExactPairsPut", fn := fun _ => fun
  | [d1, d2] => { results := [.lit (.bool false)], args := [d1, d2] }
  | _ => none }
def FnExactPairsPutWrongFalsely : Prop := fnExactPairsPutRow.holds Try.pinned (OpenSpec.ofChange fnExactPairsPutWrong)

/- THE SECOND FORM. 'bulk': how many values and letters a reading holds, each counted each time it is reached (what is shared counts as often as it is met; a slice's spare places count too). A statement '..UptoSaid' is the law's where the arguments, and the package variables that the reading takes, are together of bulk at most 1048576: NARROWER than '..Said'. Prove '..Said' where nothing that the law and all that it calls make is longer than what came in: it says more and counts as full. Else prove '..UptoSaid'. A law counts once. -/
mutual
def uptoBulk {H : Type} : DataW H → Nat
  | .lit (.string bytes) => bytes.length + 1
  | .lit _ => 1
  | .nil => 1
  | .ptr d => uptoBulk d + 1
  | .slice elems spare => uptoBulkAll elems + uptoBulkAll spare + 1
  | .agg parts => uptoBulkAll parts + 1
  | .iface _ d => uptoBulk d + 1
  | .map entries => uptoBulkEntries entries + 1
  | .held _ => 1
def uptoBulkAll {H : Type} : List (DataW H) → Nat
  | [] => 0
  | d :: r => uptoBulk d + uptoBulkAll r
def uptoBulkEntries {H : Type} : List (Lit × DataW H) → Nat
  | [] => 0
  | x :: r => uptoBulkEntry x + uptoBulkEntries r
def uptoBulkEntry {H : Type} : Lit × DataW H → Nat
  | (.string bytes, d) => bytes.length + uptoBulk d + 1
  | (_, d) => uptoBulk d + 1
 end
def uptoSmall : (H : Type) → List (DataW H) → Bool := fun _ ds => decide (uptoBulkAll ds ≤ 1048576)
def OpenSpec.upto (s : _root_.Go.ChangeSpec) : _root_.Go.OpenSpec := { _root_.Go.OpenSpec.ofChange s with cond := some uptoSmall }

/-- 'laws.FnExactBooksOk', WHERE WHAT IT READS IS OF BULK AT MOST 1048576: true; the input reads as it did. -/
def fnExactBooksOkUptoRow : OpenClaim := { program := "ytapihjjklinbdaa", sum := "c61e59e95892da2b9319c19843ba3dd4d73b8b0d7a48776fdee29c42aa4d6cc6", func := "loop.example/turnpike/laws.FnExactBooksOk", spec := "fnExactBooksOk", apart := false, narrowed := true }
def FnExactBooksOkUptoSaid : Prop := fnExactBooksOkUptoRow.holds Try.pinned (OpenSpec.upto fnExactBooksOkSpec)

/-- 'laws.FnExactBooksStart', WHERE WHAT IT READS IS OF BULK AT MOST 1048576: true; the input reads as it did. -/
def fnExactBooksStartUptoRow : OpenClaim := { program := "ytapihjjklinbdaa", sum := "c61e59e95892da2b9319c19843ba3dd4d73b8b0d7a48776fdee29c42aa4d6cc6", func := "loop.example/turnpike/laws.FnExactBooksStart", spec := "fnExactBooksStart", apart := false, narrowed := true }
def FnExactBooksStartUptoSaid : Prop := fnExactBooksStartUptoRow.holds Try.pinned (OpenSpec.upto fnExactBooksStartSpec)

/-- 'laws.FnExactMapStart', WHERE WHAT IT READS IS OF BULK AT MOST 1048576: true; the input reads as it did. -/
def fnExactMapStartUptoRow : OpenClaim := { program := "ytapihjjklinbdaa", sum := "c61e59e95892da2b9319c19843ba3dd4d73b8b0d7a48776fdee29c42aa4d6cc6", func := "loop.example/turnpike/laws.FnExactMapStart", spec := "fnExactMapStart", apart := false, narrowed := true }
def FnExactMapStartUptoSaid : Prop := fnExactMapStartUptoRow.holds Try.pinned (OpenSpec.upto fnExactMapStartSpec)

/-- 'laws.FnExactMapOk', WHERE WHAT IT READS IS OF BULK AT MOST 1048576: true; the input reads as it did. -/
def fnExactMapOkUptoRow : OpenClaim := { program := "ytapihjjklinbdaa", sum := "c61e59e95892da2b9319c19843ba3dd4d73b8b0d7a48776fdee29c42aa4d6cc6", func := "loop.example/turnpike/laws.FnExactMapOk", spec := "fnExactMapOk", apart := false, narrowed := true }
def FnExactMapOkUptoSaid : Prop := fnExactMapOkUptoRow.holds Try.pinned (OpenSpec.upto fnExactMapOkSpec)

/-- 'laws.FnExactMapSlot', WHERE WHAT IT READS IS OF BULK AT MOST 1048576: true; the input reads as it did. -/
def fnExactMapSlotUptoRow : OpenClaim := { program := "ytapihjjklinbdaa", sum := "c61e59e95892da2b9319c19843ba3dd4d73b8b0d7a48776fdee29c42aa4d6cc6", func := "loop.example/turnpike/laws.FnExactMapSlot", spec := "fnExactMapSlot", apart := false, narrowed := true }
def FnExactMapSlotUptoSaid : Prop := fnExactMapSlotUptoRow.holds Try.pinned (OpenSpec.upto fnExactMapSlotSpec)

/-- 'laws.FnExactMapHouse', WHERE WHAT IT READS IS OF BULK AT MOST 1048576: true; the input reads as it did. -/
def fnExactMapHouseUptoRow : OpenClaim := { program := "ytapihjjklinbdaa", sum := "c61e59e95892da2b9319c19843ba3dd4d73b8b0d7a48776fdee29c42aa4d6cc6", func := "loop.example/turnpike/laws.FnExactMapHouse", spec := "fnExactMapHouse", unfollowed := true, recurses := true, apart := false, narrowed := true }
def FnExactMapHouseUptoSaid : Prop := fnExactMapHouseUptoRow.holds Try.pinned (OpenSpec.upto fnExactMapHouseSpec)

/-- 'laws.FnExactMapMove', WHERE WHAT IT READS IS OF BULK AT MOST 1048576: true; the input reads as it did. -/
def fnExactMapMoveUptoRow : OpenClaim := { program := "ytapihjjklinbdaa", sum := "c61e59e95892da2b9319c19843ba3dd4d73b8b0d7a48776fdee29c42aa4d6cc6", func := "loop.example/turnpike/laws.FnExactMapMove", spec := "fnExactMapMove", apart := false, narrowed := true }
def FnExactMapMoveUptoSaid : Prop := fnExactMapMoveUptoRow.holds Try.pinned (OpenSpec.upto fnExactMapMoveSpec)

/-- 'laws.FnExactDealOk', WHERE WHAT IT READS IS OF BULK AT MOST 1048576: true; the input reads as it did. -/
def fnExactDealOkUptoRow : OpenClaim := { program := "ytapihjjklinbdaa", sum := "c61e59e95892da2b9319c19843ba3dd4d73b8b0d7a48776fdee29c42aa4d6cc6", func := "loop.example/turnpike/laws.FnExactDealOk", spec := "fnExactDealOk", apart := false, narrowed := true }
def FnExactDealOkUptoSaid : Prop := fnExactDealOkUptoRow.holds Try.pinned (OpenSpec.upto fnExactDealOkSpec)

/-- 'laws.FnExactDealRun', WHERE WHAT IT READS IS OF BULK AT MOST 1048576: true; the input reads as it did. -/
def fnExactDealRunUptoRow : OpenClaim := { program := "ytapihjjklinbdaa", sum := "c61e59e95892da2b9319c19843ba3dd4d73b8b0d7a48776fdee29c42aa4d6cc6", func := "loop.example/turnpike/laws.FnExactDealRun", spec := "fnExactDealRun", unfollowed := true, recurses := true, apart := false, narrowed := true }
def FnExactDealRunUptoSaid : Prop := fnExactDealRunUptoRow.holds Try.pinned (OpenSpec.upto fnExactDealRunSpec)

/-- 'laws.FnExactPairsPut', WHERE WHAT IT READS IS OF BULK AT MOST 1048576: true; the input reads as it did. -/
def fnExactPairsPutUptoRow : OpenClaim := { program := "ytapihjjklinbdaa", sum := "c61e59e95892da2b9319c19843ba3dd4d73b8b0d7a48776fdee29c42aa4d6cc6", func := "loop.example/turnpike/laws.FnExactPairsPut", spec := "fnExactPairsPut", apart := false, narrowed := true }
def FnExactPairsPutUptoSaid : Prop := fnExactPairsPutUptoRow.holds Try.pinned (OpenSpec.upto fnExactPairsPutSpec)

end Rows
end Go.Proofs.Ytapihjjklinbdaa
