/-
  DERIVED. GIVEN WITH THE SEED: THE CARDS: each row of YthmecgfbapemjaaDoorRows.lean that lists a variable, with what it lists TIED to the program's text (the seventh form; the later family's looks); each row that meets fmt, with fmt's text TOLD by the authors' own Lean function (tested against real Go, not proved from fmt's source: count such statements apart). THE CARD IS WHAT COUNTS. Prove the row's statement (the work); the ties are given (YthmecgfbapemjaaDoorTie.lean); close each card by the builder's one call (the guide's Derived/Test/ToyasCard.lean, 'card_holds'). Laid BY PROGRAM, IN A SANDBOX (cutbox-door.mjs). By AI agents, Wed Nov 11 2026. No macro, syntax, notation, axiom, sorry.
-/
import Derived.Test.YthmecgfbapemjaaDoorRows
import GoSem.ClaimSeven
namespace Go.Proofs.YthmecgfbapemjaaDoor
namespace Rows

/-- THE TIED CARD OF 'tappetlaw18.TaskRound'. -/
def taskRoundCard : Claim7 := { stood := { row := taskRoundRow, standIns := [], harness := (true, "e58de8547f46f40ae0919d82e250946f42c56e5dd9bcf834ff7668e3107e4574"), looks := false }, kinds := [], alts := [], laidByText := true, laidKinds := [.data], laidTests := true, laidLooks := .later }
def TaskRoundCardSaid : Prop := Claim7.holds Tryd.pinned (.plain (OpenSpec.ofChange taskRoundSpec)) taskRoundCard

/-- THE TIED CARD OF 'tappetlaw18.TaskCounts'. -/
def taskCountsCard : Claim7 := { stood := { row := taskCountsRow, standIns := [], harness := (true, "e58de8547f46f40ae0919d82e250946f42c56e5dd9bcf834ff7668e3107e4574"), looks := false }, kinds := [], alts := [], laidByText := true, laidKinds := [.data], laidTests := true, laidLooks := .later }
def TaskCountsCardSaid : Prop := Claim7.holds Tryd.pinned (.plain (OpenSpec.ofChange taskCountsSpec)) taskCountsCard

/-- THE TIED CARD OF 'tappetlaw18.TaskNobody'. -/
def taskNobodyCard : Claim7 := { stood := { row := taskNobodyRow, standIns := [], harness := (true, "e58de8547f46f40ae0919d82e250946f42c56e5dd9bcf834ff7668e3107e4574"), looks := false }, kinds := [], alts := [], laidByText := true, laidKinds := [.data], laidTests := true, laidLooks := .later }
def TaskNobodyCardSaid : Prop := Claim7.holds Tryd.pinned (.plain (OpenSpec.ofChange taskNobodySpec)) taskNobodyCard

/-- THE TIED CARD OF 'tappetlaw18.TaskPlays'. -/
def taskPlaysCard : Claim7 := { stood := { row := taskPlaysRow, standIns := [], harness := (true, "e58de8547f46f40ae0919d82e250946f42c56e5dd9bcf834ff7668e3107e4574"), looks := false }, kinds := [], alts := [], laidByText := true, laidKinds := [.data], laidTests := true, laidLooks := .later }
def TaskPlaysCardSaid : Prop := Claim7.holds Tryd.pinned (.plain (OpenSpec.ofChange taskPlaysSpec)) taskPlaysCard

/-- THE TIED CARD OF 'tappetlaw18.TaskApart'. -/
def taskApartCard : Claim7 := { stood := { row := taskApartRow, standIns := [], harness := (true, "e58de8547f46f40ae0919d82e250946f42c56e5dd9bcf834ff7668e3107e4574"), looks := false }, kinds := [], alts := [], laidByText := true, laidKinds := [.data], laidTests := true, laidLooks := .later }
def TaskApartCardSaid : Prop := Claim7.holds Tryd.pinned (.plain (OpenSpec.ofChange taskApartSpec)) taskApartCard

/-- THE SECOND FORM's CARD OF 'tappetlaw18.TaskRound'. -/
def taskRoundUptoCard : Claim7 := { stood := { row := taskRoundUptoRow, standIns := [], harness := (true, "e58de8547f46f40ae0919d82e250946f42c56e5dd9bcf834ff7668e3107e4574"), looks := false }, kinds := [], alts := [], laidByText := true, laidKinds := [.data], laidTests := true, laidLooks := .later }
def TaskRoundUptoCardSaid : Prop := Claim7.holds Tryd.pinned (.plain (OpenSpec.upto taskRoundSpec)) taskRoundUptoCard

/-- THE SECOND FORM's CARD OF 'tappetlaw18.TaskCounts'. -/
def taskCountsUptoCard : Claim7 := { stood := { row := taskCountsUptoRow, standIns := [], harness := (true, "e58de8547f46f40ae0919d82e250946f42c56e5dd9bcf834ff7668e3107e4574"), looks := false }, kinds := [], alts := [], laidByText := true, laidKinds := [.data], laidTests := true, laidLooks := .later }
def TaskCountsUptoCardSaid : Prop := Claim7.holds Tryd.pinned (.plain (OpenSpec.upto taskCountsSpec)) taskCountsUptoCard

/-- THE SECOND FORM's CARD OF 'tappetlaw18.TaskNobody'. -/
def taskNobodyUptoCard : Claim7 := { stood := { row := taskNobodyUptoRow, standIns := [], harness := (true, "e58de8547f46f40ae0919d82e250946f42c56e5dd9bcf834ff7668e3107e4574"), looks := false }, kinds := [], alts := [], laidByText := true, laidKinds := [.data], laidTests := true, laidLooks := .later }
def TaskNobodyUptoCardSaid : Prop := Claim7.holds Tryd.pinned (.plain (OpenSpec.upto taskNobodySpec)) taskNobodyUptoCard

/-- THE SECOND FORM's CARD OF 'tappetlaw18.TaskPlays'. -/
def taskPlaysUptoCard : Claim7 := { stood := { row := taskPlaysUptoRow, standIns := [], harness := (true, "e58de8547f46f40ae0919d82e250946f42c56e5dd9bcf834ff7668e3107e4574"), looks := false }, kinds := [], alts := [], laidByText := true, laidKinds := [.data], laidTests := true, laidLooks := .later }
def TaskPlaysUptoCardSaid : Prop := Claim7.holds Tryd.pinned (.plain (OpenSpec.upto taskPlaysSpec)) taskPlaysUptoCard

/-- THE SECOND FORM's CARD OF 'tappetlaw18.TaskApart'. -/
def taskApartUptoCard : Claim7 := { stood := { row := taskApartUptoRow, standIns := [], harness := (true, "e58de8547f46f40ae0919d82e250946f42c56e5dd9bcf834ff7668e3107e4574"), looks := false }, kinds := [], alts := [], laidByText := true, laidKinds := [.data], laidTests := true, laidLooks := .later }
def TaskApartUptoCardSaid : Prop := Claim7.holds Tryd.pinned (.plain (OpenSpec.upto taskApartSpec)) taskApartUptoCard
end Rows
end Go.Proofs.YthmecgfbapemjaaDoor
