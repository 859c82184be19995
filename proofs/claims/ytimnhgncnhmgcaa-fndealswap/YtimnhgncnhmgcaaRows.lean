/-
  No cell of these rows narrows 'for every input' (looked for: loops, veiled, ifaces, maps, wideKeys, modest, calm, conditions, laid).
  DERIVED. THE GIVEN ROWS OF THIS SEAT. 12 by the template 'for every input the law returns true; each argument reads behind the call as it read before'; 0 by the template 'total and deterministic' (their statements: YtimnhgncnhmgcaaTotals.lean).
  GIVEN WITH THE SEED: the statements are not yours to turn. If you find one false, say at which input.
  Laid BY PROGRAM, IN A SANDBOX (cutbox-rows.mjs): the forced cells as the released guide's own fill.sh prints them over the translation 2fcc5dee8894cbe0… (all of the seat's roots in one cut). By AI agents, Wed Nov 11 2026. No macro, syntax, notation, axiom, sorry.
-/
import Derived.Test.YtimnhgncnhmgcaaChecked
import GoSem.Claim
import GoSem.ClaimJoined
import GoSem.ClaimMapViews
import Derived.JoinedTies
import Derived.KernelRfl
namespace Go.Proofs.Ytimnhgncnhmgcaa
/- THE CELL 'sum', in the pinned program and in every row, IS THE sha256 OF THE DUMP (.gsa) THAT YtimnhgncnhmgcaaProg.lean LOADS. Nothing in Lean hashes anything: it is a label: what it is worth is what the hold of that sum in a sandbox is worth. -/
noncomputable def Try.pinned : Pinned := { name := "ytimnhgncnhmgcaa", sum := "2fcc5dee8894cbe0497bc9d6bfd2b9341bff34f74fe1be579af297e1637125fb", checked := Try.checked }
namespace Rows
def none {H : Type} : Left H := { results := [], args := [] }

/-- 'laws.FnDealWhole': WHATEVER THE INPUT: true; the input reads as it did. -/
def fnDealWholeSpec : ChangeSpec := { name := "fnDealWhole", fn := fun _ => fun
  | [d] => { results := [.lit (.bool true)], args := [d] }
  | _ => none }
def fnDealWholeRow : OpenClaim := { program := "ytimnhgncnhmgcaa", sum := "2fcc5dee8894cbe0497bc9d6bfd2b9341bff34f74fe1be579af297e1637125fb", func := "loop.example/turnpike/laws.FnDealWhole", spec := "fnDealWhole", unfollowed := true, recurses := true, apart := false }
def FnDealWholeSaid : Prop := fnDealWholeRow.holds Try.pinned (OpenSpec.ofChange fnDealWholeSpec)

/-- ITS FALSE NEIGHBOUR: 'it returns false'. Refute it at one input. -/
def fnDealWholeWrong : ChangeSpec := { name := "fnDealWhole", fn := fun _ => fun
  | [d] => { results := [.lit (.bool false)], args := [d] }
  | _ => none }
def FnDealWholeWrongFalsely : Prop := fnDealWholeRow.holds Try.pinned (OpenSpec.ofChange fnDealWholeWrong)

/-- 'laws.FnDealStep': WHATEVER THE INPUT: true; the input reads as it did. -/
def fnDealStepSpec : ChangeSpec := { name := "fnDealStep", fn := fun _ => fun
  | [d1, d2] => { results := [.lit (.bool true)], args := [d1, d2] }
  | _ => none }
def fnDealStepRow : OpenClaim := { program := "ytimnhgncnhmgcaa", sum := "2fcc5dee8894cbe0497bc9d6bfd2b9341bff34f74fe1be579af297e1637125fb", func := "loop.example/turnpike/laws.FnDealStep", spec := "fnDealStep", unfollowed := true, recurses := true, apart := false }
def FnDealStepSaid : Prop := fnDealStepRow.holds Try.pinned (OpenSpec.ofChange fnDealStepSpec)

/-- ITS FALSE NEIGHBOUR: 'it returns false'. Refute it at one input. -/
def fnDealStepWrong : ChangeSpec := { name := "fnDealStep", fn := fun _ => fun
  | [d1, d2] => { results := [.lit (.bool false)], args := [d1, d2] }
  | _ => none }
def FnDealStepWrongFalsely : Prop := fnDealStepRow.holds Try.pinned (OpenSpec.ofChange fnDealStepWrong)

/-- 'laws.FnDealOnly': WHATEVER THE INPUT: true; the input reads as it did. -/
def fnDealOnlySpec : ChangeSpec := { name := "fnDealOnly", fn := fun _ => fun
  | [d] => { results := [.lit (.bool true)], args := [d] }
  | _ => none }
def fnDealOnlyRow : OpenClaim := { program := "ytimnhgncnhmgcaa", sum := "2fcc5dee8894cbe0497bc9d6bfd2b9341bff34f74fe1be579af297e1637125fb", func := "loop.example/turnpike/laws.FnDealOnly", spec := "fnDealOnly", unfollowed := true, recurses := true, apart := false }
def FnDealOnlySaid : Prop := fnDealOnlyRow.holds Try.pinned (OpenSpec.ofChange fnDealOnlySpec)

/-- ITS FALSE NEIGHBOUR: 'it returns false'. Refute it at one input. -/
def fnDealOnlyWrong : ChangeSpec := { name := "fnDealOnly", fn := fun _ => fun
  | [d] => { results := [.lit (.bool false)], args := [d] }
  | _ => none }
def FnDealOnlyWrongFalsely : Prop := fnDealOnlyRow.holds Try.pinned (OpenSpec.ofChange fnDealOnlyWrong)

/-- 'laws.FnDealReads': WHATEVER THE INPUT: true; the input reads as it did. -/
def fnDealReadsSpec : ChangeSpec := { name := "fnDealReads", fn := fun _ => fun
  | [d] => { results := [.lit (.bool true)], args := [d] }
  | _ => none }
def fnDealReadsRow : OpenClaim := { program := "ytimnhgncnhmgcaa", sum := "2fcc5dee8894cbe0497bc9d6bfd2b9341bff34f74fe1be579af297e1637125fb", func := "loop.example/turnpike/laws.FnDealReads", spec := "fnDealReads", unfollowed := true, recurses := true, apart := false }
def FnDealReadsSaid : Prop := fnDealReadsRow.holds Try.pinned (OpenSpec.ofChange fnDealReadsSpec)

/-- ITS FALSE NEIGHBOUR: 'it returns false'. Refute it at one input. -/
def fnDealReadsWrong : ChangeSpec := { name := "fnDealReads", fn := fun _ => fun
  | [d] => { results := [.lit (.bool false)], args := [d] }
  | _ => none }
def FnDealReadsWrongFalsely : Prop := fnDealReadsRow.holds Try.pinned (OpenSpec.ofChange fnDealReadsWrong)

/-- 'laws.FnDealSwap': WHATEVER THE INPUT: true; the input reads as it did. -/
def fnDealSwapSpec : ChangeSpec := { name := "fnDealSwap", fn := fun _ => fun
  | [d] => { results := [.lit (.bool true)], args := [d] }
  | _ => none }
def fnDealSwapRow : OpenClaim := { program := "ytimnhgncnhmgcaa", sum := "2fcc5dee8894cbe0497bc9d6bfd2b9341bff34f74fe1be579af297e1637125fb", func := "loop.example/turnpike/laws.FnDealSwap", spec := "fnDealSwap", unfollowed := true, recurses := true, apart := false }
def FnDealSwapSaid : Prop := fnDealSwapRow.holds Try.pinned (OpenSpec.ofChange fnDealSwapSpec)

/-- ITS FALSE NEIGHBOUR: 'it returns false'. Refute it at one input. -/
def fnDealSwapWrong : ChangeSpec := { name := "fnDealSwap", fn := fun _ => fun
  | [d] => { results := [.lit (.bool false)], args := [d] }
  | _ => none }
def FnDealSwapWrongFalsely : Prop := fnDealSwapRow.holds Try.pinned (OpenSpec.ofChange fnDealSwapWrong)

/-- 'laws.FnDealPuts': WHATEVER THE INPUT: true; the input reads as it did. -/
def fnDealPutsSpec : ChangeSpec := { name := "fnDealPuts", fn := fun _ => fun
  | [d] => { results := [.lit (.bool true)], args := [d] }
  | _ => none }
def fnDealPutsRow : OpenClaim := { program := "ytimnhgncnhmgcaa", sum := "2fcc5dee8894cbe0497bc9d6bfd2b9341bff34f74fe1be579af297e1637125fb", func := "loop.example/turnpike/laws.FnDealPuts", spec := "fnDealPuts", unfollowed := true, recurses := true, apart := false }
def FnDealPutsSaid : Prop := fnDealPutsRow.holds Try.pinned (OpenSpec.ofChange fnDealPutsSpec)

/-- ITS FALSE NEIGHBOUR: 'it returns false'. Refute it at one input. -/
def fnDealPutsWrong : ChangeSpec := { name := "fnDealPuts", fn := fun _ => fun
  | [d] => { results := [.lit (.bool false)], args := [d] }
  | _ => none }
def FnDealPutsWrongFalsely : Prop := fnDealPutsRow.holds Try.pinned (OpenSpec.ofChange fnDealPutsWrong)

/-- 'laws.FnDealNeeds': WHATEVER THE INPUT: true; the input reads as it did. -/
def fnDealNeedsSpec : ChangeSpec := { name := "fnDealNeeds", fn := fun _ => fun
  | [d] => { results := [.lit (.bool true)], args := [d] }
  | _ => none }
def fnDealNeedsRow : OpenClaim := { program := "ytimnhgncnhmgcaa", sum := "2fcc5dee8894cbe0497bc9d6bfd2b9341bff34f74fe1be579af297e1637125fb", func := "loop.example/turnpike/laws.FnDealNeeds", spec := "fnDealNeeds", unfollowed := true, recurses := true, apart := false }
def FnDealNeedsSaid : Prop := fnDealNeedsRow.holds Try.pinned (OpenSpec.ofChange fnDealNeedsSpec)

/-- ITS FALSE NEIGHBOUR: 'it returns false'. Refute it at one input. -/
def fnDealNeedsWrong : ChangeSpec := { name := "fnDealNeeds", fn := fun _ => fun
  | [d] => { results := [.lit (.bool false)], args := [d] }
  | _ => none }
def FnDealNeedsWrongFalsely : Prop := fnDealNeedsRow.holds Try.pinned (OpenSpec.ofChange fnDealNeedsWrong)

/-- 'laws.FnPairsPut': WHATEVER THE INPUT: true; the input reads as it did. -/
def fnPairsPutSpec : ChangeSpec := { name := "fnPairsPut", fn := fun _ => fun
  | [d] => { results := [.lit (.bool true)], args := [d] }
  | _ => none }
def fnPairsPutRow : OpenClaim := { program := "ytimnhgncnhmgcaa", sum := "2fcc5dee8894cbe0497bc9d6bfd2b9341bff34f74fe1be579af297e1637125fb", func := "loop.example/turnpike/laws.FnPairsPut", spec := "fnPairsPut", apart := false }
def FnPairsPutSaid : Prop := fnPairsPutRow.holds Try.pinned (OpenSpec.ofChange fnPairsPutSpec)

/-- ITS FALSE NEIGHBOUR: 'it returns false'. Refute it at one input. -/
def fnPairsPutWrong : ChangeSpec := { name := "fnPairsPut", fn := fun _ => fun
  | [d] => { results := [.lit (.bool false)], args := [d] }
  | _ => none }
def FnPairsPutWrongFalsely : Prop := fnPairsPutRow.holds Try.pinned (OpenSpec.ofChange fnPairsPutWrong)

/-- 'laws.FnExactDealOk': WHATEVER THE INPUT: true; the input reads as it did. -/
def fnExactDealOkSpec : ChangeSpec := { name := "fnExactDealOk", fn := fun _ => fun
  | [d] => { results := [.lit (.bool true)], args := [d] }
  | _ => none }
def fnExactDealOkRow : OpenClaim := { program := "ytimnhgncnhmgcaa", sum := "2fcc5dee8894cbe0497bc9d6bfd2b9341bff34f74fe1be579af297e1637125fb", func := "loop.example/turnpike/laws.FnExactDealOk", spec := "fnExactDealOk", apart := false }
def FnExactDealOkSaid : Prop := fnExactDealOkRow.holds Try.pinned (OpenSpec.ofChange fnExactDealOkSpec)

/-- ITS FALSE NEIGHBOUR: 'it returns false'. Refute it at one input. -/
def fnExactDealOkWrong : ChangeSpec := { name := "fnExactDealOk", fn := fun _ => fun
  | [d] => { results := [.lit (.bool false)], args := [d] }
  | _ => none }
def FnExactDealOkWrongFalsely : Prop := fnExactDealOkRow.holds Try.pinned (OpenSpec.ofChange fnExactDealOkWrong)

/-- 'laws.FnExactDealRun': WHATEVER THE INPUT: true; the input reads as it did. -/
def fnExactDealRunSpec : ChangeSpec := { name := "fnExactDealRun", fn := fun _ => fun
  | [d1, d2] => { results := [.lit (.bool true)], args := [d1, d2] }
  | _ => none }
def fnExactDealRunRow : OpenClaim := { program := "ytimnhgncnhmgcaa", sum := "2fcc5dee8894cbe0497bc9d6bfd2b9341bff34f74fe1be579af297e1637125fb", func := "loop.example/turnpike/laws.FnExactDealRun", spec := "fnExactDealRun", unfollowed := true, recurses := true, apart := false }
def FnExactDealRunSaid : Prop := fnExactDealRunRow.holds Try.pinned (OpenSpec.ofChange fnExactDealRunSpec)

/-- ITS FALSE NEIGHBOUR: 'it returns false'. Refute it at one input. -/
def fnExactDealRunWrong : ChangeSpec := { name := "fnExactDealRun", fn := fun _ => fun
  | [d1, d2] => { results := [.lit (.bool false)], args := [d1, d2] }
  | _ => none }
def FnExactDealRunWrongFalsely : Prop := fnExactDealRunRow.holds Try.pinned (OpenSpec.ofChange fnExactDealRunWrong)

/-- 'laws.FnExactPairsPut': WHATEVER THE INPUT: true; the input reads as it did. -/
def fnExactPairsPutSpec : ChangeSpec := { name := "fnExactPairsPut", fn := fun _ => fun
  | [d1, d2] => { results := [.lit (.bool true)], args := [d1, d2] }
  | _ => none }
def fnExactPairsPutRow : OpenClaim := { program := "ytimnhgncnhmgcaa", sum := "2fcc5dee8894cbe0497bc9d6bfd2b9341bff34f74fe1be579af297e1637125fb", func := "loop.example/turnpike/laws.FnExactPairsPut", spec := "fnExactPairsPut", apart := false }
def FnExactPairsPutSaid : Prop := fnExactPairsPutRow.holds Try.pinned (OpenSpec.ofChange fnExactPairsPutSpec)

/-- ITS FALSE NEIGHBOUR: 'it returns false'. Refute it at one input. -/
def fnExactPairsPutWrong : ChangeSpec := { name := "fnExactPairsPut", fn := fun _ => fun
  | [d1, d2] => { results := [.lit (.bool false)], args := [d1, d2] }
  | _ => none }
def FnExactPairsPutWrongFalsely : Prop := fnExactPairsPutRow.holds Try.pinned (OpenSpec.ofChange fnExactPairsPutWrong)

/-- 'laws.FnExactBooksOk': WHATEVER THE INPUT: true; the input reads as it did. -/
def fnExactBooksOkSpec : ChangeSpec := { name := "fnExactBooksOk", fn := fun _ => fun
  | [d] => { results := [.lit (.bool true)], args := [d] }
  | _ => none }
def fnExactBooksOkRow : OpenClaim := { program := "ytimnhgncnhmgcaa", sum := "2fcc5dee8894cbe0497bc9d6bfd2b9341bff34f74fe1be579af297e1637125fb", func := "loop.example/turnpike/laws.FnExactBooksOk", spec := "fnExactBooksOk", apart := false }
def FnExactBooksOkSaid : Prop := fnExactBooksOkRow.holds Try.pinned (OpenSpec.ofChange fnExactBooksOkSpec)

/-- ITS FALSE NEIGHBOUR: 'it returns false'. Refute it at one input. -/
def fnExactBooksOkWrong : ChangeSpec := { name := "fnExactBooksOk", fn := fun _ => fun
  | [d] => { results := [.lit (.bool false)], args := [d] }
  | _ => none }
def FnExactBooksOkWrongFalsely : Prop := fnExactBooksOkRow.holds Try.pinned (OpenSpec.ofChange fnExactBooksOkWrong)

/- THE SECOND FORM. 'bulk': how many values and letters a reading holds, each counted each time it is reached (what is shared counts as often as it is met; a slice's spare places count too). A statement '..UptoSaid' is the law's where the arguments, and the package variables that the reading takes, are together of bulk at most 1048576: NARROWER than '..Said'. Prove '..Said' where nothing that the law and all that it calls make is longer than what came in: it says more and counts as full. Else prove '..UptoSaid'. A law counts once. -/
mutual
def uptoBulk {H : Type} : DataW H → Nat
  | .lit (.string bytes) => bytes.length + 1
  | .lit _ => 1
  | .nil => 1
  | .ptr d => uptoBulk d + 1
  | .slice elems spare => uptoBulkAll elems + uptoBulkAll spare + 1
  | .agg parts => uptoBulkAll parts + 1
  | .iface _ d => uptoBulk d + 1
  | .map entries => uptoBulkEntries entries + 1
  | .held _ => 1
def uptoBulkAll {H : Type} : List (DataW H) → Nat
  | [] => 0
  | d :: r => uptoBulk d + uptoBulkAll r
def uptoBulkEntries {H : Type} : List (Lit × DataW H) → Nat
  | [] => 0
  | x :: r => uptoBulkEntry x + uptoBulkEntries r
def uptoBulkEntry {H : Type} : Lit × DataW H → Nat
  | (.string bytes, d) => bytes.length + uptoBulk d + 1
  | (_, d) => uptoBulk d + 1
 end
def uptoSmall : (H : Type) → List (DataW H) → Bool := fun _ ds => decide (uptoBulkAll ds ≤ 1048576)
def OpenSpec.upto (s : _root_.Go.ChangeSpec) : _root_.Go.OpenSpec := { _root_.Go.OpenSpec.ofChange s with cond := some uptoSmall }

/-- 'laws.FnDealWhole', WHERE WHAT IT READS IS OF BULK AT MOST 1048576: true; the input reads as it did. -/
def fnDealWholeUptoRow : OpenClaim := { program := "ytimnhgncnhmgcaa", sum := "2fcc5dee8894cbe0497bc9d6bfd2b9341bff34f74fe1be579af297e1637125fb", func := "loop.example/turnpike/laws.FnDealWhole", spec := "fnDealWhole", unfollowed := true, recurses := true, apart := false, narrowed := true }
def FnDealWholeUptoSaid : Prop := fnDealWholeUptoRow.holds Try.pinned (OpenSpec.upto fnDealWholeSpec)

/-- 'laws.FnDealStep', WHERE WHAT IT READS IS OF BULK AT MOST 1048576: true; the input reads as it did. -/
def fnDealStepUptoRow : OpenClaim := { program := "ytimnhgncnhmgcaa", sum := "2fcc5dee8894cbe0497bc9d6bfd2b9341bff34f74fe1be579af297e1637125fb", func := "loop.example/turnpike/laws.FnDealStep", spec := "fnDealStep", unfollowed := true, recurses := true, apart := false, narrowed := true }
def FnDealStepUptoSaid : Prop := fnDealStepUptoRow.holds Try.pinned (OpenSpec.upto fnDealStepSpec)

/-- 'laws.FnDealOnly', WHERE WHAT IT READS IS OF BULK AT MOST 1048576: true; the input reads as it did. -/
def fnDealOnlyUptoRow : OpenClaim := { program := "ytimnhgncnhmgcaa", sum := "2fcc5dee8894cbe0497bc9d6bfd2b9341bff34f74fe1be579af297e1637125fb", func := "loop.example/turnpike/laws.FnDealOnly", spec := "fnDealOnly", unfollowed := true, recurses := true, apart := false, narrowed := true }
def FnDealOnlyUptoSaid : Prop := fnDealOnlyUptoRow.holds Try.pinned (OpenSpec.upto fnDealOnlySpec)

/-- 'laws.FnDealReads', WHERE WHAT IT READS IS OF BULK AT MOST 1048576: true; the input reads as it did. -/
def fnDealReadsUptoRow : OpenClaim := { program := "ytimnhgncnhmgcaa", sum := "2fcc5dee8894cbe0497bc9d6bfd2b9341bff34f74fe1be579af297e1637125fb", func := "loop.example/turnpike/laws.FnDealReads", spec := "fnDealReads", unfollowed := true, recurses := true, apart := false, narrowed := true }
def FnDealReadsUptoSaid : Prop := fnDealReadsUptoRow.holds Try.pinned (OpenSpec.upto fnDealReadsSpec)

/-- 'laws.FnDealSwap', WHERE WHAT IT READS IS OF BULK AT MOST 1048576: true; the input reads as it did. -/
def fnDealSwapUptoRow : OpenClaim := { program := "ytimnhgncnhmgcaa", sum := "2fcc5dee8894cbe0497bc9d6bfd2b9341bff34f74fe1be579af297e1637125fb", func := "loop.example/turnpike/laws.FnDealSwap", spec := "fnDealSwap", unfollowed := true, recurses := true, apart := false, narrowed := true }
def FnDealSwapUptoSaid : Prop := fnDealSwapUptoRow.holds Try.pinned (OpenSpec.upto fnDealSwapSpec)

/-- 'laws.FnDealPuts', WHERE WHAT IT READS IS OF BULK AT MOST 1048576: true; the input reads as it did. -/
def fnDealPutsUptoRow : OpenClaim := { program := "ytimnhgncnhmgcaa", sum := "2fcc5dee8894cbe0497bc9d6bfd2b9341bff34f74fe1be579af297e1637125fb", func := "loop.example/turnpike/laws.FnDealPuts", spec := "fnDealPuts", unfollowed := true, recurses := true, apart := false, narrowed := true }
def FnDealPutsUptoSaid : Prop := fnDealPutsUptoRow.holds Try.pinned (OpenSpec.upto fnDealPutsSpec)

/-- 'laws.FnDealNeeds', WHERE WHAT IT READS IS OF BULK AT MOST 1048576: true; the input reads as it did. -/
def fnDealNeedsUptoRow : OpenClaim := { program := "ytimnhgncnhmgcaa", sum := "2fcc5dee8894cbe0497bc9d6bfd2b9341bff34f74fe1be579af297e1637125fb", func := "loop.example/turnpike/laws.FnDealNeeds", spec := "fnDealNeeds", unfollowed := true, recurses := true, apart := false, narrowed := true }
def FnDealNeedsUptoSaid : Prop := fnDealNeedsUptoRow.holds Try.pinned (OpenSpec.upto fnDealNeedsSpec)

/-- 'laws.FnPairsPut', WHERE WHAT IT READS IS OF BULK AT MOST 1048576: true; the input reads as it did. -/
def fnPairsPutUptoRow : OpenClaim := { program := "ytimnhgncnhmgcaa", sum := "2fcc5dee8894cbe0497bc9d6bfd2b9341bff34f74fe1be579af297e1637125fb", func := "loop.example/turnpike/laws.FnPairsPut", spec := "fnPairsPut", apart := false, narrowed := true }
def FnPairsPutUptoSaid : Prop := fnPairsPutUptoRow.holds Try.pinned (OpenSpec.upto fnPairsPutSpec)

/-- 'laws.FnExactDealOk', WHERE WHAT IT READS IS OF BULK AT MOST 1048576: true; the input reads as it did. -/
def fnExactDealOkUptoRow : OpenClaim := { program := "ytimnhgncnhmgcaa", sum := "2fcc5dee8894cbe0497bc9d6bfd2b9341bff34f74fe1be579af297e1637125fb", func := "loop.example/turnpike/laws.FnExactDealOk", spec := "fnExactDealOk", apart := false, narrowed := true }
def FnExactDealOkUptoSaid : Prop := fnExactDealOkUptoRow.holds Try.pinned (OpenSpec.upto fnExactDealOkSpec)

/-- 'laws.FnExactDealRun', WHERE WHAT IT READS IS OF BULK AT MOST 1048576: true; the input reads as it did. -/
def fnExactDealRunUptoRow : OpenClaim := { program := "ytimnhgncnhmgcaa", sum := "2fcc5dee8894cbe0497bc9d6bfd2b9341bff34f74fe1be579af297e1637125fb", func := "loop.example/turnpike/laws.FnExactDealRun", spec := "fnExactDealRun", unfollowed := true, recurses := true, apart := false, narrowed := true }
def FnExactDealRunUptoSaid : Prop := fnExactDealRunUptoRow.holds Try.pinned (OpenSpec.upto fnExactDealRunSpec)

/-- 'laws.FnExactPairsPut', WHERE WHAT IT READS IS OF BULK AT MOST 1048576: true; the input reads as it did. -/
def fnExactPairsPutUptoRow : OpenClaim := { program := "ytimnhgncnhmgcaa", sum := "2fcc5dee8894cbe0497bc9d6bfd2b9341bff34f74fe1be579af297e1637125fb", func := "loop.example/turnpike/laws.FnExactPairsPut", spec := "fnExactPairsPut", apart := false, narrowed := true }
def FnExactPairsPutUptoSaid : Prop := fnExactPairsPutUptoRow.holds Try.pinned (OpenSpec.upto fnExactPairsPutSpec)

/-- 'laws.FnExactBooksOk', WHERE WHAT IT READS IS OF BULK AT MOST 1048576: true; the input reads as it did. -/
def fnExactBooksOkUptoRow : OpenClaim := { program := "ytimnhgncnhmgcaa", sum := "2fcc5dee8894cbe0497bc9d6bfd2b9341bff34f74fe1be579af297e1637125fb", func := "loop.example/turnpike/laws.FnExactBooksOk", spec := "fnExactBooksOk", apart := false, narrowed := true }
def FnExactBooksOkUptoSaid : Prop := fnExactBooksOkUptoRow.holds Try.pinned (OpenSpec.upto fnExactBooksOkSpec)

end Rows
end Go.Proofs.Ytimnhgncnhmgcaa
