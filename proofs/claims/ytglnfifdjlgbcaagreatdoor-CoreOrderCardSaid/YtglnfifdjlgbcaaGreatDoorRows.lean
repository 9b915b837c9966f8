/-
  NARROWER THAN 'FOR EVERY INPUT', by the rows' own cells (each row's printed sentence says how): CoreOrder: laid · CoreRings: laid · CoreApart: laid · CorePlays: laid.
  DERIVED. THE GIVEN ROWS OF THIS SEAT. 4 by the template 'for every input the law returns true; each argument reads behind the call as it read before'; 0 by the template 'total and deterministic' (their statements: YtglnfifdjlgbcaaGreatDoorTotals.lean).
  GIVEN WITH THE SEED: the statements are not yours to turn. If you find one false, say at which input.
  Laid BY PROGRAM, IN A SANDBOX (cutbox-rows.mjs): the forced cells as the released guide's own fill.sh prints them over the translation fb4451ae5996786c… (all of the seat's roots in one cut). By AI agents, Wed Nov 11 2026. No macro, syntax, notation, axiom, sorry.
-/
import Derived.Test.YtglnfifdjlgbcaaGreatDoorChecked
import GoSem.Claim
import GoSem.ClaimJoined
import GoSem.ClaimMapViews
import Derived.JoinedTies
import Derived.KernelRfl
namespace Go.Proofs.YtglnfifdjlgbcaaGreatDoor
/- THE CELL 'sum', in the pinned program and in every row, IS THE sha256 OF THE DUMP (.gsa) THAT YtglnfifdjlgbcaaGreatDoorProg.lean LOADS. Nothing in Lean hashes anything: it is a label: what it is worth is what the hold of that sum in a sandbox is worth. -/
noncomputable def Tryz.pinned : Pinned := { name := "ytglnfifdjlgbcaagreatdoor", sum := "fb4451ae5996786cf28a3312ade9e078a258a61acf59d11b2d2d4826763646db", checked := Tryz.checked }
namespace Rows
def none {H : Type} : Left H := { results := [], args := [] }

/- WHAT THE LISTED PACKAGE-LEVEL VARIABLES READ AS WHEN THE CALL BEGINS. Each datum BY PROGRAM (the guide's laid-datum.mjs) off the statement by which the dump's own 'gosem.cut.vars' lays the variable. In a bare row this is a premise. The card (YtglnfifdjlgbcaaGreatDoorCards.lean) ties it to the program's text. -/
def laid_tappet_task_rules {H : Type} : DataW H := .agg [.agg [.agg [.lit (.int .i64 3), .lit (.int .i64 2)], .lit (.bool true)], .agg [.agg [.lit (.int .i64 2), .lit (.int .i64 0)], .lit (.bool true)], .agg [.agg [.lit (.int .i64 0), .lit (.int .i64 2)], .lit (.bool true)], .agg [.agg [.lit (.int .i64 0), .lit (.int .i64 3)], .lit (.bool true)], .agg [.agg [.lit (.int .i64 0), .lit (.int .i64 1)], .lit (.bool false)], .agg [.agg [.lit (.int .i64 1), .lit (.int .i64 2)], .lit (.bool false)]]

/-- 'tappetlaw20.CoreOrder': WHATEVER THE INPUT: true; the input reads as it did. -/
def coreOrderSpec : ChangeSpec := { name := "coreOrder", fn := fun _ => fun
  | [d1, d2] => { results := [.lit (.bool true)], args := [d1, d2] }
  | _ => none }
def coreOrderRow : OpenClaim := { program := "ytglnfifdjlgbcaagreatdoor", sum := "fb4451ae5996786cf28a3312ade9e078a258a61acf59d11b2d2d4826763646db", func := "tappet/tappetlaw20.CoreOrder", spec := "coreOrder", unfollowed := true, recurses := true, named := ["tappet/task.rules"], plainKeys := false, apart := false, laid := [("tappet/task.rules", laid_tappet_task_rules)] }
def CoreOrderSaid : Prop := coreOrderRow.holds Tryz.pinned (OpenSpec.ofChange coreOrderSpec)

/-- ITS FALSE NEIGHBOUR: 'it returns false'. Refute it at one input. -/
def coreOrderWrong : ChangeSpec := { name := "coreOrder", fn := fun _ => fun
  | [d1, d2] => { results := [.lit (.bool false)], args := [d1, d2] }
  | _ => none }
def CoreOrderWrongFalsely : Prop := coreOrderRow.holds Tryz.pinned (OpenSpec.ofChange coreOrderWrong)

/-- 'tappetlaw20.CoreRings': WHATEVER THE INPUT: true; the input reads as it did. -/
def coreRingsSpec : ChangeSpec := { name := "coreRings", fn := fun _ => fun
  | [d1, d2] => { results := [.lit (.bool true)], args := [d1, d2] }
  | _ => none }
def coreRingsRow : OpenClaim := { program := "ytglnfifdjlgbcaagreatdoor", sum := "fb4451ae5996786cf28a3312ade9e078a258a61acf59d11b2d2d4826763646db", func := "tappet/tappetlaw20.CoreRings", spec := "coreRings", unfollowed := true, recurses := true, named := ["tappet/task.rules"], plainKeys := false, apart := false, laid := [("tappet/task.rules", laid_tappet_task_rules)] }
def CoreRingsSaid : Prop := coreRingsRow.holds Tryz.pinned (OpenSpec.ofChange coreRingsSpec)

/-- ITS FALSE NEIGHBOUR: 'it returns false'. Refute it at one input. -/
def coreRingsWrong : ChangeSpec := { name := "coreRings", fn := fun _ => fun
  | [d1, d2] => { results := [.lit (.bool false)], args := [d1, d2] }
  | _ => none }
def CoreRingsWrongFalsely : Prop := coreRingsRow.holds Tryz.pinned (OpenSpec.ofChange coreRingsWrong)

/-- 'tappetlaw20.CoreApart': WHATEVER THE INPUT: true; the input reads as it did. -/
def coreApartSpec : ChangeSpec := { name := "coreApart", fn := fun _ => fun
  | [d1, d2, d3] => { results := [.lit (.bool true)], args := [d1, d2, d3] }
  | _ => none }
def coreApartRow : OpenClaim := { program := "ytglnfifdjlgbcaagreatdoor", sum := "fb4451ae5996786cf28a3312ade9e078a258a61acf59d11b2d2d4826763646db", func := "tappet/tappetlaw20.CoreApart", spec := "coreApart", inPlace := ["maps.clone"], unfollowed := true, recurses := true, named := ["tappet/task.rules"], plainKeys := false, apart := false, laid := [("tappet/task.rules", laid_tappet_task_rules)] }
def CoreApartSaid : Prop := coreApartRow.holds Tryz.pinned (OpenSpec.ofChange coreApartSpec)

/-- ITS FALSE NEIGHBOUR: 'it returns false'. Refute it at one input. -/
def coreApartWrong : ChangeSpec := { name := "coreApart", fn := fun _ => fun
  | [d1, d2, d3] => { results := [.lit (.bool false)], args := [d1, d2, d3] }
  | _ => none }
def CoreApartWrongFalsely : Prop := coreApartRow.holds Tryz.pinned (OpenSpec.ofChange coreApartWrong)

/-- 'tappetlaw20.CorePlays': WHATEVER THE INPUT: true; the input reads as it did. -/
def corePlaysSpec : ChangeSpec := { name := "corePlays", fn := fun _ => fun
  | [d1, d2] => { results := [.lit (.bool true)], args := [d1, d2] }
  | _ => none }
def corePlaysRow : OpenClaim := { program := "ytglnfifdjlgbcaagreatdoor", sum := "fb4451ae5996786cf28a3312ade9e078a258a61acf59d11b2d2d4826763646db", func := "tappet/tappetlaw20.CorePlays", spec := "corePlays", inPlace := ["maps.clone"], unfollowed := true, recurses := true, named := ["tappet/task.rules"], plainKeys := false, apart := false, laid := [("tappet/task.rules", laid_tappet_task_rules)] }
def CorePlaysSaid : Prop := corePlaysRow.holds Tryz.pinned (OpenSpec.ofChange corePlaysSpec)

/-- ITS FALSE NEIGHBOUR: 'it returns false'. Refute it at one input. -/
def corePlaysWrong : ChangeSpec := { name := "corePlays", fn := fun _ => fun
  | [d1, d2] => { results := [.lit (.bool false)], args := [d1, d2] }
  | _ => none }
def CorePlaysWrongFalsely : Prop := corePlaysRow.holds Tryz.pinned (OpenSpec.ofChange corePlaysWrong)

/- THE SECOND FORM. 'bulk': how many values and letters a reading holds, each counted each time it is reached (what is shared counts as often as it is met; a slice's spare places count too). A statement '..UptoSaid' is the law's where the arguments, and the package variables that the reading takes, are together of bulk at most 1048576: NARROWER than '..Said'. Prove '..Said' where nothing that the law and all that it calls make is longer than what came in: it says more and counts as full. Else prove '..UptoSaid'. A law counts once. -/
mutual
def uptoBulk {H : Type} : DataW H → Nat
  | .lit (.string bytes) => bytes.length + 1
  | .lit _ => 1
  | .nil => 1
  | .ptr d => uptoBulk d + 1
  | .slice elems spare => uptoBulkAll elems + uptoBulkAll spare + 1
  | .agg parts => uptoBulkAll parts + 1
  | .iface _ d => uptoBulk d + 1
  | .map entries => uptoBulkEntries entries + 1
  | .held _ => 1
def uptoBulkAll {H : Type} : List (DataW H) → Nat
  | [] => 0
  | d :: r => uptoBulk d + uptoBulkAll r
def uptoBulkEntries {H : Type} : List (Lit × DataW H) → Nat
  | [] => 0
  | x :: r => uptoBulkEntry x + uptoBulkEntries r
def uptoBulkEntry {H : Type} : Lit × DataW H → Nat
  | (.string bytes, d) => bytes.length + uptoBulk d + 1
  | (_, d) => uptoBulk d + 1
 end
def uptoSmall : (H : Type) → List (DataW H) → Bool := fun _ ds => decide (uptoBulkAll ds ≤ 1048576)
def OpenSpec.upto (s : _root_.Go.ChangeSpec) : _root_.Go.OpenSpec := { _root_.Go.OpenSpec.ofChange s with cond := some uptoSmall }

/-- 'tappetlaw20.CoreOrder', WHERE WHAT IT READS IS OF BULK AT MOST 1048576: true; the input reads as it did. -/
def coreOrderUptoRow : OpenClaim := { program := "ytglnfifdjlgbcaagreatdoor", sum := "fb4451ae5996786cf28a3312ade9e078a258a61acf59d11b2d2d4826763646db", func := "tappet/tappetlaw20.CoreOrder", spec := "coreOrder", unfollowed := true, recurses := true, named := ["tappet/task.rules"], plainKeys := false, apart := false, laid := [("tappet/task.rules", laid_tappet_task_rules)], narrowed := true }
def CoreOrderUptoSaid : Prop := coreOrderUptoRow.holds Tryz.pinned (OpenSpec.upto coreOrderSpec)

/-- 'tappetlaw20.CoreRings', WHERE WHAT IT READS IS OF BULK AT MOST 1048576: true; the input reads as it did. -/
def coreRingsUptoRow : OpenClaim := { program := "ytglnfifdjlgbcaagreatdoor", sum := "fb4451ae5996786cf28a3312ade9e078a258a61acf59d11b2d2d4826763646db", func := "tappet/tappetlaw20.CoreRings", spec := "coreRings", unfollowed := true, recurses := true, named := ["tappet/task.rules"], plainKeys := false, apart := false, laid := [("tappet/task.rules", laid_tappet_task_rules)], narrowed := true }
def CoreRingsUptoSaid : Prop := coreRingsUptoRow.holds Tryz.pinned (OpenSpec.upto coreRingsSpec)

/-- 'tappetlaw20.CoreApart', WHERE WHAT IT READS IS OF BULK AT MOST 1048576: true; the input reads as it did. -/
def coreApartUptoRow : OpenClaim := { program := "ytglnfifdjlgbcaagreatdoor", sum := "fb4451ae5996786cf28a3312ade9e078a258a61acf59d11b2d2d4826763646db", func := "tappet/tappetlaw20.CoreApart", spec := "coreApart", inPlace := ["maps.clone"], unfollowed := true, recurses := true, named := ["tappet/task.rules"], plainKeys := false, apart := false, laid := [("tappet/task.rules", laid_tappet_task_rules)], narrowed := true }
def CoreApartUptoSaid : Prop := coreApartUptoRow.holds Tryz.pinned (OpenSpec.upto coreApartSpec)

/-- 'tappetlaw20.CorePlays', WHERE WHAT IT READS IS OF BULK AT MOST 1048576: true; the input reads as it did. -/
def corePlaysUptoRow : OpenClaim := { program := "ytglnfifdjlgbcaagreatdoor", sum := "fb4451ae5996786cf28a3312ade9e078a258a61acf59d11b2d2d4826763646db", func := "tappet/tappetlaw20.CorePlays", spec := "corePlays", inPlace := ["maps.clone"], unfollowed := true, recurses := true, named := ["tappet/task.rules"], plainKeys := false, apart := false, laid := [("tappet/task.rules", laid_tappet_task_rules)], narrowed := true }
def CorePlaysUptoSaid : Prop := corePlaysUptoRow.holds Tryz.pinned (OpenSpec.upto corePlaysSpec)

end Rows
end Go.Proofs.YtglnfifdjlgbcaaGreatDoor
