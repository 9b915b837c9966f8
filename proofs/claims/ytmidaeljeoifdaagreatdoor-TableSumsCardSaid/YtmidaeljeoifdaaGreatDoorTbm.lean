import Derived.Test.YtmidaeljeoifdaaGreatDoorTbl
namespace Go.Proofs.YtmidaeljeoifdaaGreatDoor
open Go.RowKit
set_option linter.unusedVariables false
set_option linter.unusedSimpArgs false
def ringsW (ts : List TkR) : Int → List RgR → Bool
 | _, [] => true
 | ahead, r :: l => inI r.prio 0 (ahead - 1) && ts.any (fun x => x.prio == r.prio) && (r.cap == IntKind.i64.wrap (capN ts r.prio)) && ringsW ts r.prio l
def resOk (tb : Tb) (prio id : Int) : Bool := match tb.ress[id.toNat]? with | some r => !r.inner && decide (prio ≤ r.ceil) | none => false
def ownG (tb : Tb) (prio : Int) : Int → List Int → Bool
 | _, [] => true
 | a, id :: l => decide (a < id) && idB id tb.ress.length && resOk tb prio id && ownG tb prio id l
def autoB (tb : Tb) (a : Nat) : Bool := decide (a < 2 ^ tb.modes.toNat)
def restB (tb : Tb) (x : TkR) : Bool := (x.inner == -1 || inI x.inner x.prio 127) && ownG tb x.prio (-1) x.own && autoB tb x.auto
def tkB (tb : Tb) (x : TkR) : Bool := idB x.ring tb.rings.length && (prioAt tb.rings x.ring == x.prio) && limitB x && restB tb x
def ctB (x : CtR) : Bool := decide (1 ≤ x.max ∧ x.max ≤ 2147483647 ∧ 1 ≤ x.base ∧ x.base ≤ 2147483647 ∧ 1 ≤ x.min ∧ x.min ≤ x.max)
def maskOf (tb : Tb) (i : Int) : Nat := match tb.tasks[i.toNat]? with | some x => x.mask | none => 0
def acB (tb : Tb) (a : AcR) (lo hi : Int) : Bool :=
 inI a.kind lo hi && (if a.kind = 1 then idB a.task tb.tasks.length && (a.mask == 0) else if a.kind = 2 then idB a.task tb.tasks.length && (a.mask != 0) && (bits BinOp.andNot IntKind.u32 (a.mask : Int) (maskOf tb a.task : Int) == 0) else (a.task == 0) && (a.mask == 0))
def ctOf (tb : Tb) (i : Int) : CtR := match tb.ctrs[i.toNat]? with | some x => x | none => ⟨0, 0, 0⟩
def timesB (x : AlR) (k : CtR) : Bool := if x.auto = 0 then (x.time == 0) && (x.cycle == 0) else decide (1 ≤ x.time ∧ x.time ≤ k.max) && (x.cycle == 0 || decide (k.min ≤ x.cycle ∧ x.cycle ≤ k.max))
def alB (tb : Tb) (x : AlR) : Bool := idB x.ctr tb.ctrs.length && acB tb x.ac 1 3 && autoB tb x.auto && timesB x (ctOf tb x.ctr)
def apartB (a b : IsR) : Bool := (a.prio != b.prio) && (a.cat == b.cat || (decide (a.cat < b.cat) == decide (b.prio < a.prio)))
def isB (tb : Tb) (x : IsR) : Bool := inI x.cat 1 2 && inI x.prio 64 127 && (x.cat == 2 || x.own.isEmpty) && ownG tb x.prio (-1) x.own
def isrsG (tb : Tb) (pre : List IsR) : List IsR → Bool
 | [] => true
 | x :: l => isB tb x && pre.all (fun a => apartB a x) && isrsG tb (pre ++ [x]) l
def fldB (x : MsR) : Bool :=
 if x.kind = 1 then (x.len == 1 || x.len == 2 || x.len == 4 || x.len == 8) && (x.frm == 0) && (x.init == 0) && (x.queue == 0)
 else if x.kind = 2 then (x.len == 0) && decide (x.init ≤ 4294967295) && (x.queue == 0)
 else if x.kind = 3 then (x.len == 0) && (x.init == 0) && inI x.queue 1 16 else false
def msOf (tb : Tb) (i : Int) : MsR := match tb.msgs[i.toNat]? with | some x => x | none => ⟨0, 0, 0, 0, 0, ⟨0, 0, 0⟩⟩
def sndB (tb : Tb) (x : MsR) : Bool := idB x.frm tb.msgs.length && ((msOf tb x.frm).kind == 1) && decide (x.init < 2 ^ (8 * (msOf tb x.frm).len.toNat))
def msB (tb : Tb) (x : MsR) : Bool := if x.kind = 1 then acB tb x.ac 0 0 else sndB tb x && acB tb x.ac 0 4
def countsB (tb : Tb) : Bool := inI tb.uses 0 255 && inI tb.modes 1 8 && inI tb.tasks.length 1 256 && decide (tb.ress.length ≤ 65 ∧ tb.ctrs.length ≤ 16 ∧ tb.als.length ≤ 64 ∧ tb.isrs.length ≤ 32 ∧ tb.msgs.length ≤ 64)
def maxL (l : List Nat) : Nat := l.foldl max 0
theorem maxL_le {l : List Nat} {b : Nat} : maxL l ≤ b ↔ ∀ x ∈ l, x ≤ b := by
 have h : ∀ (l : List Nat) (a : Nat), l.foldl max a ≤ b ↔ a ≤ b ∧ ∀ x ∈ l, x ≤ b := by
  intro l
  induction l with
  | nil => intro a; simp
  | cons y l ih =>
   intro a
   rw [List.foldl_cons, ih, Nat.max_le, and_assoc]
   simp only [List.mem_cons, forall_eq_or_imp]
 unfold maxL
 rw [h]
 simp
def crowdL (l : List Int) : Nat := maxL (l.map fun k => l.count k)
def rcvL (tb : Tb) : List Int := (tb.msgs.filter fun x => x.kind != 1).map fun x => x.frm
def callsN (tb : Tb) : Nat := (tb.als.filter fun x => x.ac.kind == 3).length + (tb.msgs.filter fun x => x.ac.kind == 3).length
def roomB (tb : Tb) (most : Nat) : Bool := (tb.depth == (tb.rings.length : Int)) && (tb.frames == (tb.isrs.length : Int) + 4) && (tb.errors == (max 2 most : Nat)) && (tb.calls == (callsN tb : Int))
def chkP (tb : Tb) : Bool := countsB tb && tb.ress.all (fun r => inI r.ceil (-1) 127) && ringsW tb.tasks 64 tb.rings && tb.tasks.all (tkB tb) && tb.ctrs.all ctB && tb.als.all (alB tb) && isrsG tb [] tb.isrs && (tb.msgs.all fldB && tb.msgs.all (msB tb))
 && roomB tb (max (crowdL (tb.als.map fun x => x.ctr)) (crowdL (rcvL tb)))
theorem wrap_id {v : Int} (h0 : 0 ≤ v) (h1 : v ≤ 65280) : IntKind.i64.wrap v = v := by
 unfold IntKind.wrap
 simp [IntKind.signed, IntKind.bits]
 omega
end Go.Proofs.YtmidaeljeoifdaaGreatDoor
