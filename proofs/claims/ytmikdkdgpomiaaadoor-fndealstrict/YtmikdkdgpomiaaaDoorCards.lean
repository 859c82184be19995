/-
  DERIVED. GIVEN WITH THE SEED: THE CARDS: each row of YtmikdkdgpomiaaaDoorRows.lean that lists a variable, with what it lists TIED to the program's text (the seventh form; the later family's looks); each row that meets fmt, with fmt's text TOLD by the authors' own Lean function (tested against real Go, not proved from fmt's source: count such statements apart). THE CARD IS WHAT COUNTS. Prove the row's statement (the work); the ties are given (YtmikdkdgpomiaaaDoorTie.lean); close each card by the builder's one call (the guide's Derived/Test/ToyasCard.lean, 'card_holds'). Laid BY PROGRAM, IN A SANDBOX (cutbox-door.mjs). By AI agents, Wed Nov 11 2026. No macro, syntax, notation, axiom, sorry.
-/
import Derived.Test.YtmikdkdgpomiaaaDoorRows
import GoSem.ClaimSeven
namespace Go.Proofs.YtmikdkdgpomiaaaDoor
namespace Rows

/-- THE TIED CARD OF 'laws.FnDealText'. -/
def fnDealTextCard : Claim7 := { stood := { row := fnDealTextRow, standIns := [], harness := (true, "d084bd9d5f6110e8241ba7bb9b40b0f532f73d399b36352c075e2a3a22522ad6"), looks := true }, kinds := [], alts := [], laidByText := true, laidKinds := [.data, .data, .data, .data, .sentinel, .sentinel, .pinned], laidTests := true, laidLooks := .later }
def FnDealTextCardSaid : Prop := Claim7.holds Tryd.pinned (.plain (OpenSpec.ofChange fnDealTextSpec)) fnDealTextCard

/-- THE TIED CARD OF 'laws.FnDealStrict'. -/
def fnDealStrictCard : Claim7 := { stood := { row := fnDealStrictRow, standIns := [], harness := (true, "d084bd9d5f6110e8241ba7bb9b40b0f532f73d399b36352c075e2a3a22522ad6"), looks := true }, kinds := [], alts := [], laidByText := true, laidKinds := [.data, .data, .data, .data, .sentinel, .sentinel, .pinned], laidTests := true, laidLooks := .later }
def FnDealStrictCardSaid : Prop := Claim7.holds Tryd.pinned (.plain (OpenSpec.ofChange fnDealStrictSpec)) fnDealStrictCard

/-- THE TIED CARD OF 'laws.FnExactDealRead'. -/
def fnExactDealReadCard : Claim7 := { stood := { row := fnExactDealReadRow, standIns := [], harness := (true, "d084bd9d5f6110e8241ba7bb9b40b0f532f73d399b36352c075e2a3a22522ad6"), looks := true }, kinds := [], alts := [], laidByText := true, laidKinds := [.data, .data, .data, .data, .sentinel, .sentinel, .pinned], laidTests := true, laidLooks := .later }
def FnExactDealReadCardSaid : Prop := Claim7.holds Tryd.pinned (.plain (OpenSpec.ofChange fnExactDealReadSpec)) fnExactDealReadCard

/-- THE TIED CARD OF 'laws.FnExactCallOk'. -/
def fnExactCallOkCard : Claim7 := { stood := { row := fnExactCallOkRow, standIns := [], harness := (true, "d084bd9d5f6110e8241ba7bb9b40b0f532f73d399b36352c075e2a3a22522ad6"), looks := true }, kinds := [], alts := [], laidByText := true, laidKinds := [.data, .data, .data, .data, .sentinel, .sentinel, .pinned], laidTests := true, laidLooks := .later }
def FnExactCallOkCardSaid : Prop := Claim7.holds Tryd.pinned (.plain (OpenSpec.ofChange fnExactCallOkSpec)) fnExactCallOkCard

/-- THE SECOND FORM's CARD OF 'laws.FnDealText'. -/
def fnDealTextUptoCard : Claim7 := { stood := { row := fnDealTextUptoRow, standIns := [], harness := (true, "d084bd9d5f6110e8241ba7bb9b40b0f532f73d399b36352c075e2a3a22522ad6"), looks := true }, kinds := [], alts := [], laidByText := true, laidKinds := [.data, .data, .data, .data, .sentinel, .sentinel, .pinned], laidTests := true, laidLooks := .later }
def FnDealTextUptoCardSaid : Prop := Claim7.holds Tryd.pinned (.plain (OpenSpec.upto fnDealTextSpec)) fnDealTextUptoCard

/-- THE SECOND FORM's CARD OF 'laws.FnDealStrict'. -/
def fnDealStrictUptoCard : Claim7 := { stood := { row := fnDealStrictUptoRow, standIns := [], harness := (true, "d084bd9d5f6110e8241ba7bb9b40b0f532f73d399b36352c075e2a3a22522ad6"), looks := true }, kinds := [], alts := [], laidByText := true, laidKinds := [.data, .data, .data, .data, .sentinel, .sentinel, .pinned], laidTests := true, laidLooks := .later }
def FnDealStrictUptoCardSaid : Prop := Claim7.holds Tryd.pinned (.plain (OpenSpec.upto fnDealStrictSpec)) fnDealStrictUptoCard

/-- THE SECOND FORM's CARD OF 'laws.FnExactDealRead'. -/
def fnExactDealReadUptoCard : Claim7 := { stood := { row := fnExactDealReadUptoRow, standIns := [], harness := (true, "d084bd9d5f6110e8241ba7bb9b40b0f532f73d399b36352c075e2a3a22522ad6"), looks := true }, kinds := [], alts := [], laidByText := true, laidKinds := [.data, .data, .data, .data, .sentinel, .sentinel, .pinned], laidTests := true, laidLooks := .later }
def FnExactDealReadUptoCardSaid : Prop := Claim7.holds Tryd.pinned (.plain (OpenSpec.upto fnExactDealReadSpec)) fnExactDealReadUptoCard

/-- THE SECOND FORM's CARD OF 'laws.FnExactCallOk'. -/
def fnExactCallOkUptoCard : Claim7 := { stood := { row := fnExactCallOkUptoRow, standIns := [], harness := (true, "d084bd9d5f6110e8241ba7bb9b40b0f532f73d399b36352c075e2a3a22522ad6"), looks := true }, kinds := [], alts := [], laidByText := true, laidKinds := [.data, .data, .data, .data, .sentinel, .sentinel, .pinned], laidTests := true, laidLooks := .later }
def FnExactCallOkUptoCardSaid : Prop := Claim7.holds Tryd.pinned (.plain (OpenSpec.upto fnExactCallOkSpec)) fnExactCallOkUptoCard
end Rows
end Go.Proofs.YtmikdkdgpomiaaaDoor
