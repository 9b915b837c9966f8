/-
  NARROWER THAN 'FOR EVERY INPUT', by the rows' own cells (each row's printed sentence says how): TaskRound: laid · TaskCounts: laid · TaskNobody: laid · TaskPlays: laid · TaskApart: laid.
  DERIVED. THE GIVEN ROWS OF THIS SEAT. 5 by the template 'for every input the law returns true; each argument reads behind the call as it read before'; 0 by the template 'total and deterministic' (their statements: YthmecgfbapemjaaDoorTotals.lean).
  GIVEN WITH THE SEED: the statements are not yours to turn. If you find one false, say at which input.
  Laid BY PROGRAM, IN A SANDBOX (cutbox-rows.mjs): the forced cells as the released guide's own fill.sh prints them over the translation 36f192a86f38c576… (all of the seat's roots in one cut). By AI agents, Wed Nov 11 2026. No macro, syntax, notation, axiom, sorry.
-/
import Derived.Test.YthmecgfbapemjaaDoorChecked
import GoSem.Claim
import GoSem.ClaimJoined
import GoSem.ClaimMapViews
import Derived.JoinedTies
import Derived.KernelRfl
namespace Go.Proofs.YthmecgfbapemjaaDoor
/- THE CELL 'sum', in the pinned program and in every row, IS THE sha256 OF THE DUMP (.gsa) THAT YthmecgfbapemjaaDoorProg.lean LOADS. Nothing in Lean hashes anything: it is a label: what it is worth is what the hold of that sum in a sandbox is worth. -/
noncomputable def Tryd.pinned : Pinned := { name := "ythmecgfbapemjaadoor", sum := "36f192a86f38c5767ae30559258aa53b05af46078870e7b502f6ce90032b44cc", checked := Tryd.checked }
namespace Rows
def none {H : Type} : Left H := { results := [], args := [] }

/- WHAT THE LISTED PACKAGE-LEVEL VARIABLES READ AS WHEN THE CALL BEGINS. Each datum BY PROGRAM (the guide's laid-datum.mjs) off the statement by which the dump's own 'gosem.cut.vars' lays the variable. In a bare row this is a premise. The card (YthmecgfbapemjaaDoorCards.lean) ties it to the program's text. -/
def laid_tappet_task_rules {H : Type} : DataW H := .agg [.agg [.agg [.lit (.int .i64 3), .lit (.int .i64 2)], .lit (.bool true)], .agg [.agg [.lit (.int .i64 2), .lit (.int .i64 0)], .lit (.bool true)], .agg [.agg [.lit (.int .i64 0), .lit (.int .i64 2)], .lit (.bool true)], .agg [.agg [.lit (.int .i64 0), .lit (.int .i64 3)], .lit (.bool true)], .agg [.agg [.lit (.int .i64 0), .lit (.int .i64 1)], .lit (.bool false)], .agg [.agg [.lit (.int .i64 1), .lit (.int .i64 2)], .lit (.bool false)]]

/-- 'tappetlaw18.TaskRound': WHATEVER THE INPUT: true; the input reads as it did. -/
def taskRoundSpec : ChangeSpec := { name := "taskRound", fn := fun _ => fun
  | [d1, d2] => { results := [.lit (.bool true)], args := [d1, d2] }
  | _ => none }
def taskRoundRow : OpenClaim := { program := "ythmecgfbapemjaadoor", sum := "36f192a86f38c5767ae30559258aa53b05af46078870e7b502f6ce90032b44cc", func := "tappet/tappetlaw18.TaskRound", spec := "taskRound", named := ["tappet/task.rules"], apart := false, laid := [("tappet/task.rules", laid_tappet_task_rules)] }
def TaskRoundSaid : Prop := taskRoundRow.holds Tryd.pinned (OpenSpec.ofChange taskRoundSpec)

/-- ITS FALSE NEIGHBOUR: 'it returns false'. Refute it at one input. -/
def taskRoundWrong : ChangeSpec := { name := "taskRound", fn := fun _ => fun
  | [d1, d2] => { results := [.lit (.bool false)], args := [d1, d2] }
  | _ => none }
def TaskRoundWrongFalsely : Prop := taskRoundRow.holds Tryd.pinned (OpenSpec.ofChange taskRoundWrong)

/-- 'tappetlaw18.TaskCounts': WHATEVER THE INPUT: true; the input reads as it did. -/
def taskCountsSpec : ChangeSpec := { name := "taskCounts", fn := fun _ => fun
  | [d1, d2] => { results := [.lit (.bool true)], args := [d1, d2] }
  | _ => none }
def taskCountsRow : OpenClaim := { program := "ythmecgfbapemjaadoor", sum := "36f192a86f38c5767ae30559258aa53b05af46078870e7b502f6ce90032b44cc", func := "tappet/tappetlaw18.TaskCounts", spec := "taskCounts", named := ["tappet/task.rules"], apart := false, laid := [("tappet/task.rules", laid_tappet_task_rules)] }
def TaskCountsSaid : Prop := taskCountsRow.holds Tryd.pinned (OpenSpec.ofChange taskCountsSpec)

/-- ITS FALSE NEIGHBOUR: 'it returns false'. Refute it at one input. -/
def taskCountsWrong : ChangeSpec := { name := "taskCounts", fn := fun _ => fun
  | [d1, d2] => { results := [.lit (.bool false)], args := [d1, d2] }
  | _ => none }
def TaskCountsWrongFalsely : Prop := taskCountsRow.holds Tryd.pinned (OpenSpec.ofChange taskCountsWrong)

/-- 'tappetlaw18.TaskNobody': WHATEVER THE INPUT: true; the input reads as it did. -/
def taskNobodySpec : ChangeSpec := { name := "taskNobody", fn := fun _ => fun
  | [d1, d2] => { results := [.lit (.bool true)], args := [d1, d2] }
  | _ => none }
def taskNobodyRow : OpenClaim := { program := "ythmecgfbapemjaadoor", sum := "36f192a86f38c5767ae30559258aa53b05af46078870e7b502f6ce90032b44cc", func := "tappet/tappetlaw18.TaskNobody", spec := "taskNobody", named := ["tappet/task.rules"], apart := false, laid := [("tappet/task.rules", laid_tappet_task_rules)] }
def TaskNobodySaid : Prop := taskNobodyRow.holds Tryd.pinned (OpenSpec.ofChange taskNobodySpec)

/-- ITS FALSE NEIGHBOUR: 'it returns false'. Refute it at one input. -/
def taskNobodyWrong : ChangeSpec := { name := "taskNobody", fn := fun _ => fun
  | [d1, d2] => { results := [.lit (.bool false)], args := [d1, d2] }
  | _ => none }
def TaskNobodyWrongFalsely : Prop := taskNobodyRow.holds Tryd.pinned (OpenSpec.ofChange taskNobodyWrong)

/-- 'tappetlaw18.TaskPlays': WHATEVER THE INPUT: true; the input reads as it did. -/
def taskPlaysSpec : ChangeSpec := { name := "taskPlays", fn := fun _ => fun
  | [d1, d2] => { results := [.lit (.bool true)], args := [d1, d2] }
  | _ => none }
def taskPlaysRow : OpenClaim := { program := "ythmecgfbapemjaadoor", sum := "36f192a86f38c5767ae30559258aa53b05af46078870e7b502f6ce90032b44cc", func := "tappet/tappetlaw18.TaskPlays", spec := "taskPlays", named := ["tappet/task.rules"], apart := false, laid := [("tappet/task.rules", laid_tappet_task_rules)] }
def TaskPlaysSaid : Prop := taskPlaysRow.holds Tryd.pinned (OpenSpec.ofChange taskPlaysSpec)

/-- ITS FALSE NEIGHBOUR: 'it returns false'. Refute it at one input. -/
def taskPlaysWrong : ChangeSpec := { name := "taskPlays", fn := fun _ => fun
  | [d1, d2] => { results := [.lit (.bool false)], args := [d1, d2] }
  | _ => none }
def TaskPlaysWrongFalsely : Prop := taskPlaysRow.holds Tryd.pinned (OpenSpec.ofChange taskPlaysWrong)

/-- 'tappetlaw18.TaskApart': WHATEVER THE INPUT: true; the input reads as it did. -/
def taskApartSpec : ChangeSpec := { name := "taskApart", fn := fun _ => fun
  | [d1, d2, d3] => { results := [.lit (.bool true)], args := [d1, d2, d3] }
  | _ => none }
def taskApartRow : OpenClaim := { program := "ythmecgfbapemjaadoor", sum := "36f192a86f38c5767ae30559258aa53b05af46078870e7b502f6ce90032b44cc", func := "tappet/tappetlaw18.TaskApart", spec := "taskApart", named := ["tappet/task.rules"], apart := false, laid := [("tappet/task.rules", laid_tappet_task_rules)] }
def TaskApartSaid : Prop := taskApartRow.holds Tryd.pinned (OpenSpec.ofChange taskApartSpec)

/-- ITS FALSE NEIGHBOUR: 'it returns false'. Refute it at one input. -/
def taskApartWrong : ChangeSpec := { name := "taskApart", fn := fun _ => fun
  | [d1, d2, d3] => { results := [.lit (.bool false)], args := [d1, d2, d3] }
  | _ => none }
def TaskApartWrongFalsely : Prop := taskApartRow.holds Tryd.pinned (OpenSpec.ofChange taskApartWrong)

/- THE SECOND FORM. 'bulk': how many values and letters a reading holds, each counted each time it is reached (what is shared counts as often as it is met; a slice's spare places count too). A statement '..UptoSaid' is the law's where the arguments, and the package variables that the reading takes, are together of bulk at most 1048576: NARROWER than '..Said'. Prove '..Said' where nothing that the law and all that it calls make is longer than what came in: it says more and counts as full. Else prove '..UptoSaid'. A law counts once. -/
mutual
def uptoBulk {H : Type} : DataW H → Nat
  | .lit (.string bytes) => bytes.length + 1
  | .lit _ => 1
  | .nil => 1
  | .ptr d => uptoBulk d + 1
  | .slice elems spare => uptoBulkAll elems + uptoBulkAll spare + 1
  | .agg parts => uptoBulkAll parts + 1
  | .iface _ d => uptoBulk d + 1
  | .map entries => uptoBulkEntries entries + 1
  | .held _ => 1
def uptoBulkAll {H : Type} : List (DataW H) → Nat
  | [] => 0
  | d :: r => uptoBulk d + uptoBulkAll r
def uptoBulkEntries {H : Type} : List (Lit × DataW H) → Nat
  | [] => 0
  | x :: r => uptoBulkEntry x + uptoBulkEntries r
def uptoBulkEntry {H : Type} : Lit × DataW H → Nat
  | (.string bytes, d) => bytes.length + uptoBulk d + 1
  | (_, d) => uptoBulk d + 1
 end
def uptoSmall : (H : Type) → List (DataW H) → Bool := fun _ ds => decide (uptoBulkAll ds ≤ 1048576)
def OpenSpec.upto (s : _root_.Go.ChangeSpec) : _root_.Go.OpenSpec := { _root_.Go.OpenSpec.ofChange s with cond := some uptoSmall }

/-- 'tappetlaw18.TaskRound', WHERE WHAT IT READS IS OF BULK AT MOST 1048576: true; the input reads as it did. -/
def taskRoundUptoRow : OpenClaim := { program := "ythmecgfbapemjaadoor", sum := "36f192a86f38c5767ae30559258aa53b05af46078870e7b502f6ce90032b44cc", func := "tappet/tappetlaw18.TaskRound", spec := "taskRound", named := ["tappet/task.rules"], apart := false, laid := [("tappet/task.rules", laid_tappet_task_rules)], narrowed := true }
def TaskRoundUptoSaid : Prop := taskRoundUptoRow.holds Tryd.pinned (OpenSpec.upto taskRoundSpec)

/-- 'tappetlaw18.TaskCounts', WHERE WHAT IT READS IS OF BULK AT MOST 1048576: true; the input reads as it did. -/
def taskCountsUptoRow : OpenClaim := { program := "ythmecgfbapemjaadoor", sum := "36f192a86f38c5767ae30559258aa53b05af46078870e7b502f6ce90032b44cc", func := "tappet/tappetlaw18.TaskCounts", spec := "taskCounts", named := ["tappet/task.rules"], apart := false, laid := [("tappet/task.rules", laid_tappet_task_rules)], narrowed := true }
def TaskCountsUptoSaid : Prop := taskCountsUptoRow.holds Tryd.pinned (OpenSpec.upto taskCountsSpec)

/-- 'tappetlaw18.TaskNobody', WHERE WHAT IT READS IS OF BULK AT MOST 1048576: true; the input reads as it did. -/
def taskNobodyUptoRow : OpenClaim := { program := "ythmecgfbapemjaadoor", sum := "36f192a86f38c5767ae30559258aa53b05af46078870e7b502f6ce90032b44cc", func := "tappet/tappetlaw18.TaskNobody", spec := "taskNobody", named := ["tappet/task.rules"], apart := false, laid := [("tappet/task.rules", laid_tappet_task_rules)], narrowed := true }
def TaskNobodyUptoSaid : Prop := taskNobodyUptoRow.holds Tryd.pinned (OpenSpec.upto taskNobodySpec)

/-- 'tappetlaw18.TaskPlays', WHERE WHAT IT READS IS OF BULK AT MOST 1048576: true; the input reads as it did. -/
def taskPlaysUptoRow : OpenClaim := { program := "ythmecgfbapemjaadoor", sum := "36f192a86f38c5767ae30559258aa53b05af46078870e7b502f6ce90032b44cc", func := "tappet/tappetlaw18.TaskPlays", spec := "taskPlays", named := ["tappet/task.rules"], apart := false, laid := [("tappet/task.rules", laid_tappet_task_rules)], narrowed := true }
def TaskPlaysUptoSaid : Prop := taskPlaysUptoRow.holds Tryd.pinned (OpenSpec.upto taskPlaysSpec)

/-- 'tappetlaw18.TaskApart', WHERE WHAT IT READS IS OF BULK AT MOST 1048576: true; the input reads as it did. -/
def taskApartUptoRow : OpenClaim := { program := "ythmecgfbapemjaadoor", sum := "36f192a86f38c5767ae30559258aa53b05af46078870e7b502f6ce90032b44cc", func := "tappet/tappetlaw18.TaskApart", spec := "taskApart", named := ["tappet/task.rules"], apart := false, laid := [("tappet/task.rules", laid_tappet_task_rules)], narrowed := true }
def TaskApartUptoSaid : Prop := taskApartUptoRow.holds Tryd.pinned (OpenSpec.upto taskApartSpec)

end Rows
end Go.Proofs.YthmecgfbapemjaaDoor
