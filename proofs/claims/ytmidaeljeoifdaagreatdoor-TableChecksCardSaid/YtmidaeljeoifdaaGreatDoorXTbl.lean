import Derived.Test.YtmidaeljeoifdaaGreatDoorXKat
namespace Go.Proofs.YtmidaeljeoifdaaGreatDoor
open Go.RowKit
set_option linter.unusedVariables false

/-! ### Tables in memory -/
structure TkR where
  prio : Int
  ring : Int
  full : Bool
  limit : Int
  mask : Nat
  inner : Int
  own : List Int
  auto : Nat
structure RgR where
  prio : Int
  cap : Int
  deriving DecidableEq
structure RsR where
  inner : Bool
  ceil : Int
structure CtR where
  max : Nat
  base : Nat
  min : Nat
structure AcR where
  kind : Int
  task : Int
  mask : Nat
structure AlR where
  ctr : Int
  ac : AcR
  auto : Nat
  time : Nat
  cycle : Nat
structure IsR where
  cat : Int
  prio : Int
  own : List Int
structure MsR where
  kind : Int
  len : Int
  frm : Int
  init : Nat
  queue : Int
  ac : AcR
structure Tb where
  uses : Int
  modes : Int
  tasks : List TkR
  rings : List RgR
  ress : List RsR
  ctrs : List CtR
  als : List AlR
  isrs : List IsR
  msgs : List MsR
  depth : Int
  frames : Int
  errors : Int
  calls : Int
structure Ts where
  t : Sl
  g : Sl
  r : Sl
  k : Sl
  a : Sl
  i : Sl
  s : Sl
def tbC (tb : Tb) (v : Ts) : Array Value := #[I tb.uses, I tb.modes, .slice v.t.a v.t.n v.t.c, .slice v.g.a v.g.n v.g.c, .slice v.r.a v.r.n v.r.c, .slice v.k.a v.k.n v.k.c, .slice v.a.a v.a.n v.a.c, .slice v.i.a v.i.n v.i.c, .slice v.s.a v.s.n v.s.c, I tb.depth, I tb.frames, I tb.errors, I tb.calls]
def tkrP (w : World) (x : TkR) (i : Nat) (u : Value) : Prop := match i with | 0 => u = I x.prio | 1 => u = I x.ring | 2 => u = .bool x.full | 3 => u = I x.limit | 4 => u = .int .u32 (x.mask : Int) | 5 => u = I x.inner | 6 => IntsV w x.own u | _ => u = .int .u32 (x.auto : Int)
def rgrP (x : RgR) (i : Nat) (u : Value) : Prop := match i with | 0 => u = I x.prio | _ => u = I x.cap
def rsrP (x : RsR) (i : Nat) (u : Value) : Prop := match i with | 0 => u = .bool x.inner | _ => u = I x.ceil
def ctrP (x : CtR) (i : Nat) (u : Value) : Prop := match i with | 0 => u = .int .u32 (x.max : Int) | 1 => u = .int .u32 (x.base : Int) | _ => u = .int .u32 (x.min : Int)
def alrP (x : AlR) (i : Nat) (u : Value) : Prop := match i with | 0 => u = I x.ctr | 1 => u = I x.ac.kind | 2 => u = I x.ac.task | 3 => u = .int .u32 (x.ac.mask : Int) | 4 => u = .int .u32 (x.auto : Int) | 5 => u = .int .u32 (x.time : Int) | _ => u = .int .u32 (x.cycle : Int)
def isrP (w : World) (x : IsR) (i : Nat) (u : Value) : Prop := match i with | 0 => u = I x.cat | 1 => u = I x.prio | _ => IntsV w x.own u
def msrP (x : MsR) (i : Nat) (u : Value) : Prop := match i with | 0 => u = I x.kind | 1 => u = I x.len | 2 => u = I x.frm | 3 => u = .int .u64 (x.init : Int) | 4 => u = I x.queue | 5 => u = I x.ac.kind | 6 => u = I x.ac.task | _ => u = .int .u32 (x.ac.mask : Int)
/-- Tables in memory. -/
structure TbAt (w : World) (tb : Tb) (v : Ts) : Prop where
  t : RowsAt w 8 (tkrP w) v.t tb.tasks
  g : RowsAt w 2 rgrP v.g tb.rings
  r : RowsAt w 2 rsrP v.r tb.ress
  k : RowsAt w 3 ctrP v.k tb.ctrs
  a : RowsAt w 7 alrP v.a tb.als
  i : RowsAt w 3 (isrP w) v.i tb.isrs
  s : RowsAt w 8 msrP v.s tb.msgs
theorem TbAt.below {w w' : World} {tb : Tb} {v : Ts} (h : TbAt w tb v) (hb : Below w.heap.size w w') : TbAt w' tb v := by
  refine ⟨h.t.below hb (fun x i u _ h => ?_), h.g.below hb (fun _ _ _ _ h => h), h.r.below hb (fun _ _ _ _ h => h), h.k.below hb (fun _ _ _ _ h => h), h.a.below hb (fun _ _ _ _ h => h), h.i.below hb (fun x i u _ h => ?_), h.s.below hb (fun _ _ _ _ h => h)⟩
  · unfold tkrP at h ⊢
    split at h <;> first | exact h | exact IntsV.below h hb
  · unfold isrP at h ⊢
    split at h <;> first | exact h | exact IntsV.below h hb
theorem tkr_at {w : World} {tb : Tb} {v : Ts} (h : TbAt w tb v) {j : Nat} {x : TkR} (hj : tb.tasks[j]? = some x) : ∃ (g off : Nat) (s6 : Sl), v.t.a = some ⟨g, off, none⟩ ∧ g < w.heap.size ∧ w.cell? ⟨g, off + j * 8, none⟩ = some (I x.prio) ∧ w.cell? ⟨g, off + j * 8 + 1, none⟩ = some (I x.ring) ∧ w.cell? ⟨g, off + j * 8 + 2, none⟩ = some (.bool x.full) ∧ w.cell? ⟨g, off + j * 8 + 3, none⟩ = some (I x.limit) ∧ w.cell? ⟨g, off + j * 8 + 4, none⟩ = some (.int .u32 (x.mask : Int)) ∧ w.cell? ⟨g, off + j * 8 + 5, none⟩ = some (I x.inner) ∧ w.cell? ⟨g, off + j * 8 + 6, none⟩ = some (.slice s6.a s6.n s6.c) ∧ w.cell? ⟨g, off + j * 8 + 7, none⟩ = some (.int .u32 (x.auto : Int)) ∧ RowsAt w 1 intP s6 x.own := by
  obtain ⟨g, off, e, hg, hr⟩ := h.t.row j x hj
  obtain ⟨u0, a0, b0⟩ := hr 0 (by omega)
  have e0 : u0 = I x.prio := b0
  rw [e0] at a0
  obtain ⟨u1, a1, b1⟩ := hr 1 (by omega)
  have e1 : u1 = I x.ring := b1
  rw [e1] at a1
  obtain ⟨u2, a2, b2⟩ := hr 2 (by omega)
  have e2 : u2 = .bool x.full := b2
  rw [e2] at a2
  obtain ⟨u3, a3, b3⟩ := hr 3 (by omega)
  have e3 : u3 = I x.limit := b3
  rw [e3] at a3
  obtain ⟨u4, a4, b4⟩ := hr 4 (by omega)
  have e4 : u4 = .int .u32 (x.mask : Int) := b4
  rw [e4] at a4
  obtain ⟨u5, a5, b5⟩ := hr 5 (by omega)
  have e5 : u5 = I x.inner := b5
  rw [e5] at a5
  obtain ⟨u6, a6, b6⟩ := hr 6 (by omega)
  obtain ⟨s6, e6, r6⟩ := (show IntsV w x.own u6 from b6)
  rw [e6] at a6
  obtain ⟨u7, a7, b7⟩ := hr 7 (by omega)
  have e7 : u7 = .int .u32 (x.auto : Int) := b7
  rw [e7] at a7
  rw [Nat.add_zero] at a0
  exact ⟨g, off, s6, e, hg, a0, a1, a2, a3, a4, a5, a6, a7, r6⟩
theorem rgr_at {w : World} {tb : Tb} {v : Ts} (h : TbAt w tb v) {j : Nat} {x : RgR} (hj : tb.rings[j]? = some x) : ∃ (g off : Nat), v.g.a = some ⟨g, off, none⟩ ∧ g < w.heap.size ∧ w.cell? ⟨g, off + j * 2, none⟩ = some (I x.prio) ∧ w.cell? ⟨g, off + j * 2 + 1, none⟩ = some (I x.cap) := by
  obtain ⟨g, off, e, hg, hr⟩ := h.g.row j x hj
  obtain ⟨u0, a0, b0⟩ := hr 0 (by omega)
  have e0 : u0 = I x.prio := b0
  rw [e0] at a0
  obtain ⟨u1, a1, b1⟩ := hr 1 (by omega)
  have e1 : u1 = I x.cap := b1
  rw [e1] at a1
  rw [Nat.add_zero] at a0
  exact ⟨g, off, e, hg, a0, a1⟩
theorem rsr_at {w : World} {tb : Tb} {v : Ts} (h : TbAt w tb v) {j : Nat} {x : RsR} (hj : tb.ress[j]? = some x) : ∃ (g off : Nat), v.r.a = some ⟨g, off, none⟩ ∧ g < w.heap.size ∧ w.cell? ⟨g, off + j * 2, none⟩ = some (.bool x.inner) ∧ w.cell? ⟨g, off + j * 2 + 1, none⟩ = some (I x.ceil) := by
  obtain ⟨g, off, e, hg, hr⟩ := h.r.row j x hj
  obtain ⟨u0, a0, b0⟩ := hr 0 (by omega)
  have e0 : u0 = .bool x.inner := b0
  rw [e0] at a0
  obtain ⟨u1, a1, b1⟩ := hr 1 (by omega)
  have e1 : u1 = I x.ceil := b1
  rw [e1] at a1
  rw [Nat.add_zero] at a0
  exact ⟨g, off, e, hg, a0, a1⟩
theorem ctr_at {w : World} {tb : Tb} {v : Ts} (h : TbAt w tb v) {j : Nat} {x : CtR} (hj : tb.ctrs[j]? = some x) : ∃ (g off : Nat), v.k.a = some ⟨g, off, none⟩ ∧ g < w.heap.size ∧ w.cell? ⟨g, off + j * 3, none⟩ = some (.int .u32 (x.max : Int)) ∧ w.cell? ⟨g, off + j * 3 + 1, none⟩ = some (.int .u32 (x.base : Int)) ∧ w.cell? ⟨g, off + j * 3 + 2, none⟩ = some (.int .u32 (x.min : Int)) := by
  obtain ⟨g, off, e, hg, hr⟩ := h.k.row j x hj
  obtain ⟨u0, a0, b0⟩ := hr 0 (by omega)
  have e0 : u0 = .int .u32 (x.max : Int) := b0
  rw [e0] at a0
  obtain ⟨u1, a1, b1⟩ := hr 1 (by omega)
  have e1 : u1 = .int .u32 (x.base : Int) := b1
  rw [e1] at a1
  obtain ⟨u2, a2, b2⟩ := hr 2 (by omega)
  have e2 : u2 = .int .u32 (x.min : Int) := b2
  rw [e2] at a2
  rw [Nat.add_zero] at a0
  exact ⟨g, off, e, hg, a0, a1, a2⟩
theorem alr_at {w : World} {tb : Tb} {v : Ts} (h : TbAt w tb v) {j : Nat} {x : AlR} (hj : tb.als[j]? = some x) : ∃ (g off : Nat), v.a.a = some ⟨g, off, none⟩ ∧ g < w.heap.size ∧ w.cell? ⟨g, off + j * 7, none⟩ = some (I x.ctr) ∧ w.cell? ⟨g, off + j * 7 + 1, none⟩ = some (I x.ac.kind) ∧ w.cell? ⟨g, off + j * 7 + 2, none⟩ = some (I x.ac.task) ∧ w.cell? ⟨g, off + j * 7 + 3, none⟩ = some (.int .u32 (x.ac.mask : Int)) ∧ w.cell? ⟨g, off + j * 7 + 4, none⟩ = some (.int .u32 (x.auto : Int)) ∧ w.cell? ⟨g, off + j * 7 + 5, none⟩ = some (.int .u32 (x.time : Int)) ∧ w.cell? ⟨g, off + j * 7 + 6, none⟩ = some (.int .u32 (x.cycle : Int)) := by
  obtain ⟨g, off, e, hg, hr⟩ := h.a.row j x hj
  obtain ⟨u0, a0, b0⟩ := hr 0 (by omega)
  have e0 : u0 = I x.ctr := b0
  rw [e0] at a0
  obtain ⟨u1, a1, b1⟩ := hr 1 (by omega)
  have e1 : u1 = I x.ac.kind := b1
  rw [e1] at a1
  obtain ⟨u2, a2, b2⟩ := hr 2 (by omega)
  have e2 : u2 = I x.ac.task := b2
  rw [e2] at a2
  obtain ⟨u3, a3, b3⟩ := hr 3 (by omega)
  have e3 : u3 = .int .u32 (x.ac.mask : Int) := b3
  rw [e3] at a3
  obtain ⟨u4, a4, b4⟩ := hr 4 (by omega)
  have e4 : u4 = .int .u32 (x.auto : Int) := b4
  rw [e4] at a4
  obtain ⟨u5, a5, b5⟩ := hr 5 (by omega)
  have e5 : u5 = .int .u32 (x.time : Int) := b5
  rw [e5] at a5
  obtain ⟨u6, a6, b6⟩ := hr 6 (by omega)
  have e6 : u6 = .int .u32 (x.cycle : Int) := b6
  rw [e6] at a6
  rw [Nat.add_zero] at a0
  exact ⟨g, off, e, hg, a0, a1, a2, a3, a4, a5, a6⟩
theorem isr_at {w : World} {tb : Tb} {v : Ts} (h : TbAt w tb v) {j : Nat} {x : IsR} (hj : tb.isrs[j]? = some x) : ∃ (g off : Nat) (s2 : Sl), v.i.a = some ⟨g, off, none⟩ ∧ g < w.heap.size ∧ w.cell? ⟨g, off + j * 3, none⟩ = some (I x.cat) ∧ w.cell? ⟨g, off + j * 3 + 1, none⟩ = some (I x.prio) ∧ w.cell? ⟨g, off + j * 3 + 2, none⟩ = some (.slice s2.a s2.n s2.c) ∧ RowsAt w 1 intP s2 x.own := by
  obtain ⟨g, off, e, hg, hr⟩ := h.i.row j x hj
  obtain ⟨u0, a0, b0⟩ := hr 0 (by omega)
  have e0 : u0 = I x.cat := b0
  rw [e0] at a0
  obtain ⟨u1, a1, b1⟩ := hr 1 (by omega)
  have e1 : u1 = I x.prio := b1
  rw [e1] at a1
  obtain ⟨u2, a2, b2⟩ := hr 2 (by omega)
  obtain ⟨s2, e2, r2⟩ := (show IntsV w x.own u2 from b2)
  rw [e2] at a2
  rw [Nat.add_zero] at a0
  exact ⟨g, off, s2, e, hg, a0, a1, a2, r2⟩
theorem msr_at {w : World} {tb : Tb} {v : Ts} (h : TbAt w tb v) {j : Nat} {x : MsR} (hj : tb.msgs[j]? = some x) : ∃ (g off : Nat), v.s.a = some ⟨g, off, none⟩ ∧ g < w.heap.size ∧ w.cell? ⟨g, off + j * 8, none⟩ = some (I x.kind) ∧ w.cell? ⟨g, off + j * 8 + 1, none⟩ = some (I x.len) ∧ w.cell? ⟨g, off + j * 8 + 2, none⟩ = some (I x.frm) ∧ w.cell? ⟨g, off + j * 8 + 3, none⟩ = some (.int .u64 (x.init : Int)) ∧ w.cell? ⟨g, off + j * 8 + 4, none⟩ = some (I x.queue) ∧ w.cell? ⟨g, off + j * 8 + 5, none⟩ = some (I x.ac.kind) ∧ w.cell? ⟨g, off + j * 8 + 6, none⟩ = some (I x.ac.task) ∧ w.cell? ⟨g, off + j * 8 + 7, none⟩ = some (.int .u32 (x.ac.mask : Int)) := by
  obtain ⟨g, off, e, hg, hr⟩ := h.s.row j x hj
  obtain ⟨u0, a0, b0⟩ := hr 0 (by omega)
  have e0 : u0 = I x.kind := b0
  rw [e0] at a0
  obtain ⟨u1, a1, b1⟩ := hr 1 (by omega)
  have e1 : u1 = I x.len := b1
  rw [e1] at a1
  obtain ⟨u2, a2, b2⟩ := hr 2 (by omega)
  have e2 : u2 = I x.frm := b2
  rw [e2] at a2
  obtain ⟨u3, a3, b3⟩ := hr 3 (by omega)
  have e3 : u3 = .int .u64 (x.init : Int) := b3
  rw [e3] at a3
  obtain ⟨u4, a4, b4⟩ := hr 4 (by omega)
  have e4 : u4 = I x.queue := b4
  rw [e4] at a4
  obtain ⟨u5, a5, b5⟩ := hr 5 (by omega)
  have e5 : u5 = I x.ac.kind := b5
  rw [e5] at a5
  obtain ⟨u6, a6, b6⟩ := hr 6 (by omega)
  have e6 : u6 = I x.ac.task := b6
  rw [e6] at a6
  obtain ⟨u7, a7, b7⟩ := hr 7 (by omega)
  have e7 : u7 = .int .u32 (x.ac.mask : Int) := b7
  rw [e7] at a7
  rw [Nat.add_zero] at a0
  exact ⟨g, off, e, hg, a0, a1, a2, a3, a4, a5, a6, a7⟩
theorem var13 {w : World} {b : Nat} {tb : Tb} {v : Ts} (h : w.heap[b]? = some (.cells (tbC tb v) 30 (0, 0))) :
    w.cell? ⟨b, 0, none⟩ = some (I tb.uses) ∧ w.cell? ⟨b, 1, none⟩ = some (I tb.modes) ∧ w.cell? ⟨b, 2, none⟩ = some (.slice v.t.a v.t.n v.t.c) ∧ w.cell? ⟨b, 3, none⟩ = some (.slice v.g.a v.g.n v.g.c) ∧ w.cell? ⟨b, 4, none⟩ = some (.slice v.r.a v.r.n v.r.c) ∧ w.cell? ⟨b, 5, none⟩ = some (.slice v.k.a v.k.n v.k.c) ∧ w.cell? ⟨b, 6, none⟩ = some (.slice v.a.a v.a.n v.a.c) ∧ w.cell? ⟨b, 7, none⟩ = some (.slice v.i.a v.i.n v.i.c) ∧ w.cell? ⟨b, 8, none⟩ = some (.slice v.s.a v.s.n v.s.c) ∧ w.cell? ⟨b, 9, none⟩ = some (I tb.depth) ∧ w.cell? ⟨b, 10, none⟩ = some (I tb.frames) ∧ w.cell? ⟨b, 11, none⟩ = some (I tb.errors) ∧ w.cell? ⟨b, 12, none⟩ = some (I tb.calls) := by
  have a1 := fun i => cell_of_row w b i _ _ (0, 0) h
  exact ⟨a1 0, a1 1, a1 2, a1 3, a1 4, a1 5, a1 6, a1 7, a1 8, a1 9, a1 10, a1 11, a1 12⟩
end Go.Proofs.YtmidaeljeoifdaaGreatDoor

namespace Go.Proofs.YtmidaeljeoifdaaGreatDoor
open Go.RowKit
set_option linter.unusedVariables false
set_option linter.unusedSimpArgs false

/-! ### May tables be? the program's answer, the document's, on lists -/
def inI (v lo hi : Int) : Bool := decide (lo ≤ v) && decide (v ≤ hi)
def idB (v : Int) (n : Nat) : Bool := decide (0 ≤ v) && decide (v < (n : Int))
def limitB (x : TkR) : Bool := if x.mask ≠ 0 then x.limit == 1 else inI x.limit 1 255
/-- What the tasks of a priority have for limits, together. -/
def capN (l : List TkR) (p : Int) : Int := match l with
  | [] => 0
  | x :: r => (if x.prio = p then x.limit else 0) + capN r p
/-- Rings that fall from a priority on, each of some task, each with the room that it needs. -/
def ringsG (ts : List TkR) : Int → List RgR → Bool
  | _, [] => true
  | ahead, r :: l => inI r.prio 0 (ahead - 1) && ts.any (fun x => x.prio == r.prio) && (r.cap == capN ts r.prio) && ringsG ts r.prio l
def prioAt (l : List RgR) (i : Int) : Int := match l[i.toNat]? with | some r => r.prio | none => 0
/-- The document's rings. -/
def ringsD (ts : List TkR) : Nat → List RgR
  | 0 => []
  | p + 1 => if 0 < capN ts (p : Int) then ⟨(p : Int), capN ts (p : Int)⟩ :: ringsD ts p else ringsD ts p
theorem cap_pos {ts : List TkR} (hl : ∀ x ∈ ts, 1 ≤ x.limit) (p : Int) : 0 ≤ capN ts p ∧ (0 < capN ts p ↔ ∃ x ∈ ts, x.prio = p) := by
  induction ts with
  | nil => simp [capN]
  | cons y r ih =>
    have h1 := hl y (List.mem_cons_self ..)
    obtain ⟨i1, i2⟩ := ih (fun x hx => hl x (List.mem_cons_of_mem _ hx))
    rw [capN]
    by_cases hp : y.prio = p
    · rw [if_pos hp]
      refine ⟨by omega, fun _ => ⟨y, List.mem_cons_self .., hp⟩, fun _ => by omega⟩
    · rw [if_neg hp, Int.zero_add]
      refine ⟨i1, ?_⟩
      rw [i2]
      constructor
      · rintro ⟨x, hx, e⟩
        exact ⟨x, List.mem_cons_of_mem _ hx, e⟩
      · rintro ⟨x, hx, e⟩
        rcases List.mem_cons.1 hx with rfl | hx
        · exact absurd e hp
        · exact ⟨x, hx, e⟩
/-- The program's rings and the document's: one row, where each task has a ring of its priority. -/
theorem rings_one {ts : List TkR} (hl : ∀ x ∈ ts, 1 ≤ x.limit) : ∀ (n : Nat) (l : List RgR), ringsG ts (n : Int) l = true → (∀ x ∈ ts, x.prio < (n : Int) → ∃ r ∈ l, r.prio = x.prio) → l = ringsD ts n
  | 0, l, h, hm => by
    cases l with
    | nil => rfl
    | cons r l =>
      rw [ringsG] at h
      simp [inI] at h
      omega
  | n + 1, l, h, hm => by
    rw [ringsD]
    have hc := cap_pos hl (n : Int)
    cases l with
    | nil =>
      have : ¬ 0 < capN ts (n : Int) := fun h0 => by
        obtain ⟨x, hx, e⟩ := hc.2.1 h0
        obtain ⟨r, hr, _⟩ := hm x hx (by omega)
        cases hr
      rw [if_neg this]
      exact rings_one hl n [] (by rw [ringsG]) (fun x hx hp => by
        obtain ⟨r, hr, _⟩ := hm x hx (by omega)
        cases hr)
    | cons r l =>
      have h' := h
      rw [ringsG] at h'
      simp only [Bool.and_eq_true, inI, decide_eq_true_eq, beq_iff_eq, List.any_eq_true] at h'
      obtain ⟨⟨⟨⟨h1, h2⟩, x, hx, hxp⟩, h4⟩, h5⟩ := h'
      by_cases hr : r.prio = (n : Int)
      · have hpos : 0 < capN ts (n : Int) := hc.2.2 ⟨x, hx, by omega⟩
        rw [if_pos hpos]
        have e : r = ⟨(n : Int), capN ts (n : Int)⟩ := by
          cases r
          simp only at hr h4 ⊢
          subst hr
          rw [h4]
        rw [hr] at h5
        have := rings_one hl n l h5 (fun y hy hp => by
          obtain ⟨r', hr', e'⟩ := hm y hy (by omega)
          rcases List.mem_cons.1 hr' with rfl | hr'
          · omega
          · exact ⟨r', hr', e'⟩)
        rw [e, this]
      · have hno : ¬ 0 < capN ts (n : Int) := fun h0 => by
          obtain ⟨y, hy, ey⟩ := hc.2.1 h0
          obtain ⟨r', hr', e'⟩ := hm y hy (by omega)
          rcases List.mem_cons.1 hr' with rfl | hr'
          · omega
          · have := rings_lt h5 r' hr'
            omega
        rw [if_neg hno]
        exact rings_one hl n (r :: l) (by
          rw [ringsG]
          simp only [Bool.and_eq_true, inI, decide_eq_true_eq, beq_iff_eq, List.any_eq_true]
          exact ⟨⟨⟨⟨h1, by omega⟩, x, hx, hxp⟩, h4⟩, h5⟩) (fun y hy hp => hm y hy (by omega))
  where
    rings_lt {ts : List TkR} : ∀ {a : Int} {l : List RgR}, ringsG ts a l = true → ∀ r ∈ l, r.prio < a
      | a, [], _, r, hr => by cases hr
      | a, r0 :: l, h, r, hr => by
        rw [ringsG] at h
        simp only [Bool.and_eq_true, inI, decide_eq_true_eq] at h
        rcases List.mem_cons.1 hr with rfl | hr
        · omega
        · have := rings_lt h.2 r hr
          omega
/-- The document's rings are such. -/
theorem ringsD_ok {ts : List TkR} (hl : ∀ x ∈ ts, 1 ≤ x.limit) : ∀ n : Nat, ringsG ts (n : Int) (ringsD ts n) = true
  | 0 => by rw [ringsD, ringsG]
  | n + 1 => by
    have ih := ringsD_ok hl n
    have hc := cap_pos hl (n : Int)
    rw [ringsD]
    by_cases h0 : 0 < capN ts (n : Int)
    · rw [if_pos h0, ringsG]
      obtain ⟨x, hx, e⟩ := hc.2.1 h0
      simp only [Bool.and_eq_true, inI, decide_eq_true_eq, beq_iff_eq, List.any_eq_true]
      exact ⟨⟨⟨⟨by omega, by omega⟩, x, hx, e⟩, trivial⟩, ih⟩
    · rw [if_neg h0]
      exact ringsG_mono ih (by omega)
  where
    ringsG_mono {ts : List TkR} : ∀ {a b : Int} {l : List RgR}, ringsG ts a l = true → a ≤ b → ringsG ts b l = true
      | a, b, [], _, _ => by rw [ringsG]
      | a, b, r :: l, h, hab => by
        rw [ringsG] at h ⊢
        simp only [Bool.and_eq_true, inI, decide_eq_true_eq] at h ⊢
        exact ⟨⟨⟨⟨h.1.1.1.1, by omega⟩, h.1.1.2⟩, h.1.2⟩, h.2⟩
end Go.Proofs.YtmidaeljeoifdaaGreatDoor

