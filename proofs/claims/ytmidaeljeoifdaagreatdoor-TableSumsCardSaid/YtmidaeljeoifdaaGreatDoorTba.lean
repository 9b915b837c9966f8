import Derived.Test.YtmidaeljeoifdaaGreatDoorKba
namespace Go.Proofs.YtmidaeljeoifdaaGreatDoor
open Go.RowKit
set_option linter.unusedVariables false
structure TkR where
 prio : Int
 ring : Int
 full : Bool
 limit : Int
 mask : Nat
 inner : Int
 own : List Int
 auto : Nat
structure RgR where
 prio : Int
 cap : Int
 deriving DecidableEq
structure RsR where
 inner : Bool
 ceil : Int
structure CtR where
 max : Nat
 base : Nat
 min : Nat
structure AcR where
 kind : Int
 task : Int
 mask : Nat
structure AlR where
 ctr : Int
 ac : AcR
 auto : Nat
 time : Nat
 cycle : Nat
structure IsR where
 cat : Int
 prio : Int
 own : List Int
structure MsR where
 kind : Int
 len : Int
 frm : Int
 init : Nat
 queue : Int
 ac : AcR
structure Tb where
 uses : Int
 modes : Int
 tasks : List TkR
 rings : List RgR
 ress : List RsR
 ctrs : List CtR
 als : List AlR
 isrs : List IsR
 msgs : List MsR
 depth : Int
 frames : Int
 errors : Int
 calls : Int
structure Ts where
 t : Sl
 g : Sl
 r : Sl
 k : Sl
 a : Sl
 i : Sl
 s : Sl
def tbC (tb : Tb) (v : Ts) : Array Value := #[I tb.uses, I tb.modes, .slice v.t.a v.t.n v.t.c, .slice v.g.a v.g.n v.g.c, .slice v.r.a v.r.n v.r.c, .slice v.k.a v.k.n v.k.c, .slice v.a.a v.a.n v.a.c, .slice v.i.a v.i.n v.i.c, .slice v.s.a v.s.n v.s.c, I tb.depth, I tb.frames, I tb.errors, I tb.calls]
def tkrP (w : World) (x : TkR) (i : Nat) (u : Value) : Prop := match i with | 0 => u = I x.prio | 1 => u = I x.ring | 2 => u = .bool x.full | 3 => u = I x.limit | 4 => u = .int .u32 (x.mask : Int) | 5 => u = I x.inner | 6 => IntsV w x.own u | _ => u = .int .u32 (x.auto : Int)
def rgrP (x : RgR) (i : Nat) (u : Value) : Prop := match i with | 0 => u = I x.prio | _ => u = I x.cap
def rsrP (x : RsR) (i : Nat) (u : Value) : Prop := match i with | 0 => u = .bool x.inner | _ => u = I x.ceil
def ctrP (x : CtR) (i : Nat) (u : Value) : Prop := match i with | 0 => u = .int .u32 (x.max : Int) | 1 => u = .int .u32 (x.base : Int) | _ => u = .int .u32 (x.min : Int)
def alrP (x : AlR) (i : Nat) (u : Value) : Prop := match i with | 0 => u = I x.ctr | 1 => u = I x.ac.kind | 2 => u = I x.ac.task | 3 => u = .int .u32 (x.ac.mask : Int) | 4 => u = .int .u32 (x.auto : Int) | 5 => u = .int .u32 (x.time : Int) | _ => u = .int .u32 (x.cycle : Int)
def isrP (w : World) (x : IsR) (i : Nat) (u : Value) : Prop := match i with | 0 => u = I x.cat | 1 => u = I x.prio | _ => IntsV w x.own u
def msrP (x : MsR) (i : Nat) (u : Value) : Prop := match i with | 0 => u = I x.kind | 1 => u = I x.len | 2 => u = I x.frm | 3 => u = .int .u64 (x.init : Int) | 4 => u = I x.queue | 5 => u = I x.ac.kind | 6 => u = I x.ac.task | _ => u = .int .u32 (x.ac.mask : Int)
structure TbAt (w : World) (tb : Tb) (v : Ts) : Prop where
 t : RowsAt w 8 (tkrP w) v.t tb.tasks
 g : RowsAt w 2 rgrP v.g tb.rings
 r : RowsAt w 2 rsrP v.r tb.ress
 k : RowsAt w 3 ctrP v.k tb.ctrs
 a : RowsAt w 7 alrP v.a tb.als
 i : RowsAt w 3 (isrP w) v.i tb.isrs
 s : RowsAt w 8 msrP v.s tb.msgs
theorem TbAt.below {w w' : World} {tb : Tb} {v : Ts} (h : TbAt w tb v) (hb : Below w.heap.size w w') : TbAt w' tb v := by
 refine ⟨h.t.below hb (fun x i u _ h => ?_), h.g.below hb (fun _ _ _ _ h => h), h.r.below hb (fun _ _ _ _ h => h), h.k.below hb (fun _ _ _ _ h => h), h.a.below hb (fun _ _ _ _ h => h), h.i.below hb (fun x i u _ h => ?_), h.s.below hb (fun _ _ _ _ h => h)⟩
 ·unfold tkrP at h ⊢
  split at h <;> first | exact h | exact IntsV.below h hb
 ·unfold isrP at h ⊢
  split at h <;> first | exact h | exact IntsV.below h hb
theorem tkr_at {w : World} {tb : Tb} {v : Ts} (h : TbAt w tb v) {j : Nat} {x : TkR} (hj : tb.tasks[j]? = some x) : ∃ (g off : Nat) (s6 : Sl), v.t.a = some ⟨g, off, none⟩ ∧ g < w.heap.size ∧ w.cell? ⟨g, off + j * 8, none⟩ = some (I x.prio) ∧ w.cell? ⟨g, off + j * 8 + 1, none⟩ = some (I x.ring) ∧ w.cell? ⟨g, off + j * 8 + 2, none⟩ = some (.bool x.full) ∧ w.cell? ⟨g, off + j * 8 + 3, none⟩ = some (I x.limit) ∧ w.cell? ⟨g, off + j * 8 + 4, none⟩ = some (.int .u32 (x.mask : Int)) ∧ w.cell? ⟨g, off + j * 8 + 5, none⟩ = some (I x.inner) ∧ w.cell? ⟨g, off + j * 8 + 6, none⟩ = some (.slice s6.a s6.n s6.c) ∧ w.cell? ⟨g, off + j * 8 + 7, none⟩ = some (.int .u32 (x.auto : Int)) ∧ RowsAt w 1 intP s6 x.own := by
 obtain ⟨g, off, e, hg, hr⟩ := h.t.row j x hj
 obtain ⟨u0, a0, b0⟩ := hr 0 (by omega)
 have e0 : u0 = I x.prio := b0
 rw [e0] at a0
 obtain ⟨u1, a1, b1⟩ := hr 1 (by omega)
 have e1 : u1 = I x.ring := b1
 rw [e1] at a1
 obtain ⟨u2, a2, b2⟩ := hr 2 (by omega)
 have e2 : u2 = .bool x.full := b2
 rw [e2] at a2
 obtain ⟨u3, a3, b3⟩ := hr 3 (by omega)
 have e3 : u3 = I x.limit := b3
 rw [e3] at a3
 obtain ⟨u4, a4, b4⟩ := hr 4 (by omega)
 have e4 : u4 = .int .u32 (x.mask : Int) := b4
 rw [e4] at a4
 obtain ⟨u5, a5, b5⟩ := hr 5 (by omega)
 have e5 : u5 = I x.inner := b5
 rw [e5] at a5
 obtain ⟨u6, a6, b6⟩ := hr 6 (by omega)
 obtain ⟨s6, e6, r6⟩ := (show IntsV w x.own u6 from b6)
 rw [e6] at a6
 obtain ⟨u7, a7, b7⟩ := hr 7 (by omega)
 have e7 : u7 = .int .u32 (x.auto : Int) := b7
 rw [e7] at a7
 rw [Nat.add_zero] at a0
 exact ⟨g, off, s6, e, hg, a0, a1, a2, a3, a4, a5, a6, a7, r6⟩
theorem rgr_at {w : World} {tb : Tb} {v : Ts} (h : TbAt w tb v) {j : Nat} {x : RgR} (hj : tb.rings[j]? = some x) : ∃ (g off : Nat), v.g.a = some ⟨g, off, none⟩ ∧ g < w.heap.size ∧ w.cell? ⟨g, off + j * 2, none⟩ = some (I x.prio) ∧ w.cell? ⟨g, off + j * 2 + 1, none⟩ = some (I x.cap) := by
 obtain ⟨g, off, e, hg, hr⟩ := h.g.row j x hj
 obtain ⟨u0, a0, b0⟩ := hr 0 (by omega)
 have e0 : u0 = I x.prio := b0
 rw [e0] at a0
 obtain ⟨u1, a1, b1⟩ := hr 1 (by omega)
 have e1 : u1 = I x.cap := b1
 rw [e1] at a1
 rw [Nat.add_zero] at a0
 exact ⟨g, off, e, hg, a0, a1⟩
theorem rsr_at {w : World} {tb : Tb} {v : Ts} (h : TbAt w tb v) {j : Nat} {x : RsR} (hj : tb.ress[j]? = some x) : ∃ (g off : Nat), v.r.a = some ⟨g, off, none⟩ ∧ g < w.heap.size ∧ w.cell? ⟨g, off + j * 2, none⟩ = some (.bool x.inner) ∧ w.cell? ⟨g, off + j * 2 + 1, none⟩ = some (I x.ceil) := by
 obtain ⟨g, off, e, hg, hr⟩ := h.r.row j x hj
 obtain ⟨u0, a0, b0⟩ := hr 0 (by omega)
 have e0 : u0 = .bool x.inner := b0
 rw [e0] at a0
 obtain ⟨u1, a1, b1⟩ := hr 1 (by omega)
 have e1 : u1 = I x.ceil := b1
 rw [e1] at a1
 rw [Nat.add_zero] at a0
 exact ⟨g, off, e, hg, a0, a1⟩
theorem ctr_at {w : World} {tb : Tb} {v : Ts} (h : TbAt w tb v) {j : Nat} {x : CtR} (hj : tb.ctrs[j]? = some x) : ∃ (g off : Nat), v.k.a = some ⟨g, off, none⟩ ∧ g < w.heap.size ∧ w.cell? ⟨g, off + j * 3, none⟩ = some (.int .u32 (x.max : Int)) ∧ w.cell? ⟨g, off + j * 3 + 1, none⟩ = some (.int .u32 (x.base : Int)) ∧ w.cell? ⟨g, off + j * 3 + 2, none⟩ = some (.int .u32 (x.min : Int)) := by
 obtain ⟨g, off, e, hg, hr⟩ := h.k.row j x hj
 obtain ⟨u0, a0, b0⟩ := hr 0 (by omega)
 have e0 : u0 = .int .u32 (x.max : Int) := b0
 rw [e0] at a0
 obtain ⟨u1, a1, b1⟩ := hr 1 (by omega)
 have e1 : u1 = .int .u32 (x.base : Int) := b1
 rw [e1] at a1
 obtain ⟨u2, a2, b2⟩ := hr 2 (by omega)
 have e2 : u2 = .int .u32 (x.min : Int) := b2
 rw [e2] at a2
 rw [Nat.add_zero] at a0
 exact ⟨g, off, e, hg, a0, a1, a2⟩
theorem isr_at {w : World} {tb : Tb} {v : Ts} (h : TbAt w tb v) {j : Nat} {x : IsR} (hj : tb.isrs[j]? = some x) : ∃ (g off : Nat) (s2 : Sl), v.i.a = some ⟨g, off, none⟩ ∧ g < w.heap.size ∧ w.cell? ⟨g, off + j * 3, none⟩ = some (I x.cat) ∧ w.cell? ⟨g, off + j * 3 + 1, none⟩ = some (I x.prio) ∧ w.cell? ⟨g, off + j * 3 + 2, none⟩ = some (.slice s2.a s2.n s2.c) ∧ RowsAt w 1 intP s2 x.own := by
 obtain ⟨g, off, e, hg, hr⟩ := h.i.row j x hj
 obtain ⟨u0, a0, b0⟩ := hr 0 (by omega)
 have e0 : u0 = I x.cat := b0
 rw [e0] at a0
 obtain ⟨u1, a1, b1⟩ := hr 1 (by omega)
 have e1 : u1 = I x.prio := b1
 rw [e1] at a1
 obtain ⟨u2, a2, b2⟩ := hr 2 (by omega)
 obtain ⟨s2, e2, r2⟩ := (show IntsV w x.own u2 from b2)
 rw [e2] at a2
 rw [Nat.add_zero] at a0
 exact ⟨g, off, s2, e, hg, a0, a1, a2, r2⟩
theorem msr_at {w : World} {tb : Tb} {v : Ts} (h : TbAt w tb v) {j : Nat} {x : MsR} (hj : tb.msgs[j]? = some x) : ∃ (g off : Nat), v.s.a = some ⟨g, off, none⟩ ∧ g < w.heap.size ∧ w.cell? ⟨g, off + j * 8, none⟩ = some (I x.kind) ∧ w.cell? ⟨g, off + j * 8 + 1, none⟩ = some (I x.len) ∧ w.cell? ⟨g, off + j * 8 + 2, none⟩ = some (I x.frm) ∧ w.cell? ⟨g, off + j * 8 + 3, none⟩ = some (.int .u64 (x.init : Int)) ∧ w.cell? ⟨g, off + j * 8 + 4, none⟩ = some (I x.queue) ∧ w.cell? ⟨g, off + j * 8 + 5, none⟩ = some (I x.ac.kind) ∧ w.cell? ⟨g, off + j * 8 + 6, none⟩ = some (I x.ac.task) ∧ w.cell? ⟨g, off + j * 8 + 7, none⟩ = some (.int .u32 (x.ac.mask : Int)) := by
 obtain ⟨g, off, e, hg, hr⟩ := h.s.row j x hj
 obtain ⟨u0, a0, b0⟩ := hr 0 (by omega)
 have e0 : u0 = I x.kind := b0
 rw [e0] at a0
 obtain ⟨u1, a1, b1⟩ := hr 1 (by omega)
 have e1 : u1 = I x.len := b1
 rw [e1] at a1
 obtain ⟨u2, a2, b2⟩ := hr 2 (by omega)
 have e2 : u2 = I x.frm := b2
 rw [e2] at a2
 obtain ⟨u3, a3, b3⟩ := hr 3 (by omega)
 have e3 : u3 = .int .u64 (x.init : Int) := b3
 rw [e3] at a3
 obtain ⟨u4, a4, b4⟩ := hr 4 (by omega)
 have e4 : u4 = I x.queue := b4
 rw [e4] at a4
 obtain ⟨u5, a5, b5⟩ := hr 5 (by omega)
 have e5 : u5 = I x.ac.kind := b5
 rw [e5] at a5
 obtain ⟨u6, a6, b6⟩ := hr 6 (by omega)
 have e6 : u6 = I x.ac.task := b6
 rw [e6] at a6
 obtain ⟨u7, a7, b7⟩ := hr 7 (by omega)
 have e7 : u7 = .int .u32 (x.ac.mask : Int) := b7
 rw [e7] at a7
 rw [Nat.add_zero] at a0
 exact ⟨g, off, e, hg, a0, a1, a2, a3, a4, a5, a6, a7⟩
theorem var13 {w : World} {b : Nat} {tb : Tb} {v : Ts} (h : w.heap[b]? = some (.cells (tbC tb v) 30 (0, 0))) :
  w.cell? ⟨b, 0, none⟩ = some (I tb.uses) ∧ w.cell? ⟨b, 1, none⟩ = some (I tb.modes) ∧ w.cell? ⟨b, 2, none⟩ = some (.slice v.t.a v.t.n v.t.c) ∧ w.cell? ⟨b, 3, none⟩ = some (.slice v.g.a v.g.n v.g.c) ∧ w.cell? ⟨b, 4, none⟩ = some (.slice v.r.a v.r.n v.r.c) ∧ w.cell? ⟨b, 5, none⟩ = some (.slice v.k.a v.k.n v.k.c) ∧ w.cell? ⟨b, 6, none⟩ = some (.slice v.a.a v.a.n v.a.c) ∧ w.cell? ⟨b, 7, none⟩ = some (.slice v.i.a v.i.n v.i.c) ∧ w.cell? ⟨b, 8, none⟩ = some (.slice v.s.a v.s.n v.s.c) ∧ w.cell? ⟨b, 9, none⟩ = some (I tb.depth) ∧ w.cell? ⟨b, 10, none⟩ = some (I tb.frames) ∧ w.cell? ⟨b, 11, none⟩ = some (I tb.errors) ∧ w.cell? ⟨b, 12, none⟩ = some (I tb.calls) := by
 have a1 := fun i => cell_of_row w b i _ _ (0, 0) h
 exact ⟨a1 0, a1 1, a1 2, a1 3, a1 4, a1 5, a1 6, a1 7, a1 8, a1 9, a1 10, a1 11, a1 12⟩
end Go.Proofs.YtmidaeljeoifdaaGreatDoor
