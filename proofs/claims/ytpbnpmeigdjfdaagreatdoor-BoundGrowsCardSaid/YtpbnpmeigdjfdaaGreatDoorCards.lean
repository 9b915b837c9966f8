/-
  DERIVED. GIVEN WITH THE SEED: THE CARDS: each row of YtpbnpmeigdjfdaaGreatDoorRows.lean that lists a variable, with what it lists TIED to the program's text (the seventh form; the later family's looks); each row that meets fmt, with fmt's text TOLD by the authors' own Lean function (tested against real Go, not proved from fmt's source: count such statements apart). THE CARD IS WHAT COUNTS. Prove the row's statement (the work); the ties are given (YtpbnpmeigdjfdaaGreatDoorTie.lean); close each card by the builder's one call (the guide's Derived/Test/ToyasCard.lean, 'card_holds'). Laid BY PROGRAM, IN A SANDBOX (cutbox-door.mjs). By AI agents, Wed Nov 11 2026. No macro, syntax, notation, axiom, sorry.
-/
import Derived.Test.YtpbnpmeigdjfdaaGreatDoorRows
import GoSem.ClaimSeven
namespace Go.Proofs.YtpbnpmeigdjfdaaGreatDoor
namespace Rows

/-- THE TIED CARD OF 'tappetlaw27.BoundGrows'. -/
def boundGrowsCard : Claim7 := { stood := { row := boundGrowsRow, standIns := [], harness := (true, "1e98aa3949a61e331bfed3f149f2600c6936a019c477fdcc9db2b2f90d3ec5b8"), looks := true }, kinds := [], alts := [], laidByText := true, laidKinds := [.handle], laidTests := true, laidLooks := .later }
def BoundGrowsCardSaid : Prop := Claim7.holds Tryz.pinned (.plain (OpenSpec.ofChange boundGrowsSpec)) boundGrowsCard

/-- THE TIED CARD OF 'tappetlaw27.BoundLeast'. -/
def boundLeastCard : Claim7 := { stood := { row := boundLeastRow, standIns := [], harness := (true, "1e98aa3949a61e331bfed3f149f2600c6936a019c477fdcc9db2b2f90d3ec5b8"), looks := true }, kinds := [], alts := [], laidByText := true, laidKinds := [.handle], laidTests := true, laidLooks := .later }
def BoundLeastCardSaid : Prop := Claim7.holds Tryz.pinned (.plain (OpenSpec.ofChange boundLeastSpec)) boundLeastCard

/-- THE TIED CARD OF 'tappetlaw27.BoundChecks'. -/
def boundChecksCard : Claim7 := { stood := { row := boundChecksRow, standIns := [], harness := (true, "1e98aa3949a61e331bfed3f149f2600c6936a019c477fdcc9db2b2f90d3ec5b8"), looks := true }, kinds := [], alts := [], laidByText := true, laidKinds := [.handle], laidTests := true, laidLooks := .later }
def BoundChecksCardSaid : Prop := Claim7.holds Tryz.pinned (.plain (OpenSpec.ofChange boundChecksSpec)) boundChecksCard

/-- THE TIED CARD OF 'tappetlaw27.BoundReckons'. -/
def boundReckonsCard : Claim7 := { stood := { row := boundReckonsRow, standIns := [], harness := (true, "1e98aa3949a61e331bfed3f149f2600c6936a019c477fdcc9db2b2f90d3ec5b8"), looks := true }, kinds := [], alts := [], laidByText := true, laidKinds := [.handle], laidTests := true, laidLooks := .later }
def BoundReckonsCardSaid : Prop := Claim7.holds Tryz.pinned (.plain (OpenSpec.ofChange boundReckonsSpec)) boundReckonsCard

/-- THE TIED CARD OF 'tappetlaw27.BoundAll'. -/
def boundAllCard : Claim7 := { stood := { row := boundAllRow, standIns := [], harness := (true, "1e98aa3949a61e331bfed3f149f2600c6936a019c477fdcc9db2b2f90d3ec5b8"), looks := true }, kinds := [], alts := [], laidByText := true, laidKinds := [.handle], laidTests := true, laidLooks := .later }
def BoundAllCardSaid : Prop := Claim7.holds Tryz.pinned (.plain (OpenSpec.ofChange boundAllSpec)) boundAllCard

/-- THE SECOND FORM's CARD OF 'tappetlaw27.BoundGrows'. -/
def boundGrowsUptoCard : Claim7 := { stood := { row := boundGrowsUptoRow, standIns := [], harness := (true, "1e98aa3949a61e331bfed3f149f2600c6936a019c477fdcc9db2b2f90d3ec5b8"), looks := true }, kinds := [], alts := [], laidByText := true, laidKinds := [.handle], laidTests := true, laidLooks := .later }
def BoundGrowsUptoCardSaid : Prop := Claim7.holds Tryz.pinned (.plain (OpenSpec.upto boundGrowsSpec)) boundGrowsUptoCard

/-- THE SECOND FORM's CARD OF 'tappetlaw27.BoundLeast'. -/
def boundLeastUptoCard : Claim7 := { stood := { row := boundLeastUptoRow, standIns := [], harness := (true, "1e98aa3949a61e331bfed3f149f2600c6936a019c477fdcc9db2b2f90d3ec5b8"), looks := true }, kinds := [], alts := [], laidByText := true, laidKinds := [.handle], laidTests := true, laidLooks := .later }
def BoundLeastUptoCardSaid : Prop := Claim7.holds Tryz.pinned (.plain (OpenSpec.upto boundLeastSpec)) boundLeastUptoCard

/-- THE SECOND FORM's CARD OF 'tappetlaw27.BoundChecks'. -/
def boundChecksUptoCard : Claim7 := { stood := { row := boundChecksUptoRow, standIns := [], harness := (true, "1e98aa3949a61e331bfed3f149f2600c6936a019c477fdcc9db2b2f90d3ec5b8"), looks := true }, kinds := [], alts := [], laidByText := true, laidKinds := [.handle], laidTests := true, laidLooks := .later }
def BoundChecksUptoCardSaid : Prop := Claim7.holds Tryz.pinned (.plain (OpenSpec.upto boundChecksSpec)) boundChecksUptoCard

/-- THE SECOND FORM's CARD OF 'tappetlaw27.BoundReckons'. -/
def boundReckonsUptoCard : Claim7 := { stood := { row := boundReckonsUptoRow, standIns := [], harness := (true, "1e98aa3949a61e331bfed3f149f2600c6936a019c477fdcc9db2b2f90d3ec5b8"), looks := true }, kinds := [], alts := [], laidByText := true, laidKinds := [.handle], laidTests := true, laidLooks := .later }
def BoundReckonsUptoCardSaid : Prop := Claim7.holds Tryz.pinned (.plain (OpenSpec.upto boundReckonsSpec)) boundReckonsUptoCard

/-- THE SECOND FORM's CARD OF 'tappetlaw27.BoundAll'. -/
def boundAllUptoCard : Claim7 := { stood := { row := boundAllUptoRow, standIns := [], harness := (true, "1e98aa3949a61e331bfed3f149f2600c6936a019c477fdcc9db2b2f90d3ec5b8"), looks := true }, kinds := [], alts := [], laidByText := true, laidKinds := [.handle], laidTests := true, laidLooks := .later }
def BoundAllUptoCardSaid : Prop := Claim7.holds Tryz.pinned (.plain (OpenSpec.upto boundAllSpec)) boundAllUptoCard
end Rows
end Go.Proofs.YtpbnpmeigdjfdaaGreatDoor
