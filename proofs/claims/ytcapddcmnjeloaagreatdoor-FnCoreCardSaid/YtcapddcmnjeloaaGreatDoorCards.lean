/-
  DERIVED. GIVEN WITH THE SEED: THE CARDS: each row of YtcapddcmnjeloaaGreatDoorRows.lean that lists a variable, with what it lists TIED to the program's text (the seventh form; the later family's looks); each row that meets fmt, with fmt's text TOLD by the authors' own Lean function (tested against real Go, not proved from fmt's source: count such statements apart). THE CARD IS WHAT COUNTS. Prove the row's statement (the work); the ties are given (YtcapddcmnjeloaaGreatDoorTie.lean); close each card by the builder's one call (the guide's Derived/Test/ToyasCard.lean, 'card_holds'). Laid BY PROGRAM, IN A SANDBOX (cutbox-door.mjs). By AI agents, Wed Nov 11 2026. No macro, syntax, notation, axiom, sorry.
-/
import Derived.Test.YtcapddcmnjeloaaGreatDoorRows
import GoSem.ClaimSeven
namespace Go.Proofs.YtcapddcmnjeloaaGreatDoor
namespace Rows

/-- THE TIED CARD OF 'laws.FnSolved'. -/
def fnSolvedCard : Claim7 := { stood := { row := fnSolvedRow, standIns := [], harness := (true, "4ab34b3a0f4cd37d6b23f16d655ff7b8bbf254f31dd6992a61f615a2b1f18fb7"), looks := true }, kinds := [], alts := [], laidByText := true, laidKinds := [.handle], laidTests := true, laidLooks := .later }
def FnSolvedCardSaid : Prop := Claim7.holds Tryz.pinned (.plain (OpenSpec.ofChange fnSolvedSpec)) fnSolvedCard

/-- THE TIED CARD OF 'laws.FnCore'. -/
def fnCoreCard : Claim7 := { stood := { row := fnCoreRow, standIns := [], harness := (true, "4ab34b3a0f4cd37d6b23f16d655ff7b8bbf254f31dd6992a61f615a2b1f18fb7"), looks := true }, kinds := [], alts := [], laidByText := true, laidKinds := [.data, .data, .data, .data, .handle, .pinned], laidTests := true, laidLooks := .later }
def FnCoreCardSaid : Prop := Claim7.holds Tryz.pinned (.plain (OpenSpec.ofChange fnCoreSpec)) fnCoreCard

/-- THE TIED CARD OF 'laws.FnExactSolveByLifting'. -/
def fnExactSolveByLiftingCard : Claim7 := { stood := { row := fnExactSolveByLiftingRow, standIns := [], harness := (true, "4ab34b3a0f4cd37d6b23f16d655ff7b8bbf254f31dd6992a61f615a2b1f18fb7"), looks := true }, kinds := [], alts := [], laidByText := true, laidKinds := [.handle], laidTests := true, laidLooks := .later }
def FnExactSolveByLiftingCardSaid : Prop := Claim7.holds Tryz.pinned (.plain (OpenSpec.ofChange fnExactSolveByLiftingSpec)) fnExactSolveByLiftingCard

/-- THE SECOND FORM's CARD OF 'laws.FnSolved'. -/
def fnSolvedUptoCard : Claim7 := { stood := { row := fnSolvedUptoRow, standIns := [], harness := (true, "4ab34b3a0f4cd37d6b23f16d655ff7b8bbf254f31dd6992a61f615a2b1f18fb7"), looks := true }, kinds := [], alts := [], laidByText := true, laidKinds := [.handle], laidTests := true, laidLooks := .later }
def FnSolvedUptoCardSaid : Prop := Claim7.holds Tryz.pinned (.plain (OpenSpec.upto fnSolvedSpec)) fnSolvedUptoCard

/-- THE SECOND FORM's CARD OF 'laws.FnCore'. -/
def fnCoreUptoCard : Claim7 := { stood := { row := fnCoreUptoRow, standIns := [], harness := (true, "4ab34b3a0f4cd37d6b23f16d655ff7b8bbf254f31dd6992a61f615a2b1f18fb7"), looks := true }, kinds := [], alts := [], laidByText := true, laidKinds := [.data, .data, .data, .data, .handle, .pinned], laidTests := true, laidLooks := .later }
def FnCoreUptoCardSaid : Prop := Claim7.holds Tryz.pinned (.plain (OpenSpec.upto fnCoreSpec)) fnCoreUptoCard

/-- THE SECOND FORM's CARD OF 'laws.FnExactSolveByLifting'. -/
def fnExactSolveByLiftingUptoCard : Claim7 := { stood := { row := fnExactSolveByLiftingUptoRow, standIns := [], harness := (true, "4ab34b3a0f4cd37d6b23f16d655ff7b8bbf254f31dd6992a61f615a2b1f18fb7"), looks := true }, kinds := [], alts := [], laidByText := true, laidKinds := [.handle], laidTests := true, laidLooks := .later }
def FnExactSolveByLiftingUptoCardSaid : Prop := Claim7.holds Tryz.pinned (.plain (OpenSpec.upto fnExactSolveByLiftingSpec)) fnExactSolveByLiftingUptoCard
end Rows
end Go.Proofs.YtcapddcmnjeloaaGreatDoor
