import Derived.Test.YtijgopkhdjaolaaGreatXKat
import Derived.OpenShut
import Derived.Deep.Strs
import Derived.SizedLaws
import Derived.ChangeOld
namespace Go.Proofs.YtijgopkhdjaolaaGreat
open Go.ChangeShapes Go.RowKit Go.WideShapes
set_option linter.unusedSimpArgs false
set_option linter.unusedVariables false
set_option maxHeartbeats 16000000
set_option maxRecDepth 100000
def qbw (l : List Nat) : Prop := ∀ n,n ∈ l → n ≤ reachBytes
theorem qmk {l : List Nat} (h : l.all (· ≤ reachBytes) = true) : qbw l := fun n hn => by simpa using List.all_eq_true.1 h n hn
theorem qek {H : Type} {P : Program} {t e : TypeId} {es sp : List (DataW H)} (hu : P.underlying t = some (.slice e)) (h : qbw (DataW.weights P t (.slice es sp))) : es.length * P.bytesOf e ≤ reachBytes := by
 unfold DataW.weights at h
 simp only [hu] at h
 exact Nat.le_trans (Nat.mul_le_mul_right _ (Nat.le_add_right _ _)) (h _ (List.mem_cons_self ..))
theorem qd7 {H : Type} {P : Program} {t : TypeId} {fs : Array Field} {parts : List (DataW H)} (hu : P.underlying t = some (.struct fs)) (h : qbw (DataW.weights P t (.agg parts))) {j : Nat} {u : TypeId} {d : DataW H} (hj : (fs.toList.map (·.type))[j]? = some u) (hd : parts[j]? = some d) : qbw (d.weights P u) := by
 unfold DataW.weights at h
 simp only [hu] at h
 exact fun n hn => h n (DataW.weights_mem_each hj hd n hn)
theorem qb6 {α : Type} (inh : Inhabited α) {H : Type} {enc : TypeId × Value → H} {w : World} {spare : Nat → Bool} {held : Bool} {fuel : Nat} {T E : TypeId} {k : Nat} (hk : 0 < k) (hu : Tryz.prog.underlying T = some (.slice E)) (hc : Tryz.prog.cellsOf E = k) {P : α → Nat → Value → Prop} {v : Value} {y : DataW H × List MemPlace}
  (h : DataW.trod enc Tryz.prog w 0 spare held fuel T [v] = some y)
  (one : ∀ n cs z,cs.length = k → DataW.trod enc Tryz.prog w 0 spare held n E cs = some z → ∃ x : α, ∀ i,i < k → ∃ u,cs[i]? = some u ∧ P x i u) :
  ∃ (s : Sl) (l : List α),v = .slice s.a s.n s.c ∧ RowsAt w k P s l ∧ (qbw (y.1.weights Tryz.prog T) → l.length * Tryz.prog.bytesOf E ≤ reachBytes) := by
 rcases DataW.trod_slice hu h with ⟨hcs,_⟩ | ⟨a,len,cap,elems,rest,n,hfu,hcs,hx,_,hlc,hcm,hel,hV,_,_⟩
 ·simp at hcs
  subst hcs
  exact ⟨⟨none,0,0⟩, [],rfl,⟨rfl,Nat.le_refl _,Nat.zero_le _,fun j x hj => by simp at hj⟩,fun _ => by simp⟩
 ·simp at hcs
  subst hcs
  rw [hc] at hV
  obtain ⟨L,hL⟩ := Go.Deep.choose_lt (α := α) (n := len) (p := fun i x => ∃ cs,w.cells? 0 (a.add (i * k)) k = some cs ∧ ∀ t,t < k → ∃ u,cs[t]? = some u ∧ P x t u) (fun i hi => by
   have hVi := hV i hi
   rw [List.getElem?_eq_getElem (by omega : i < elems.length)] at hVi
   obtain ⟨cs',h1,h2⟩ := Option.bind_eq_some_iff.1 hVi
   obtain ⟨_,hcl,_⟩ := World.cells?_some h1
   obtain ⟨x,hx⟩ := one n cs' _ hcl h2
   exact ⟨x,cs',h1,hx⟩)
  obtain ⟨b,off,spot⟩ := a
  refine ⟨⟨some ⟨b,off,spot⟩,len,cap⟩,(List.range len).map L,rfl,⟨by simp,hlc,hcm,fun j x hj => ?_⟩,fun hz => ?_⟩
  ·rw [List.getElem?_map] at hj
   obtain ⟨i,hi,rfl⟩ := Option.map_eq_some_iff.1 hj
   have hjl : j < len := by have := (List.getElem?_eq_some_iff.1 hi).1; simpa using this
   obtain rfl : j = i := by rw [List.getElem?_range hjl] at hi; exact Option.some.inj hi
   obtain ⟨cs,h1,h2⟩ := hL j hjl
   obtain ⟨_,hcl,hcc⟩ := World.cells?_some h1
   have hspot : spot = none := by
    obtain ⟨cs0,g1,g2⟩ := hL 0 (by omega)
    obtain ⟨_,gl,gc⟩ := World.cells?_some g1
    obtain ⟨u,gu,_⟩ := g2 0 hk
    have := World.cell?_spot ((gc 0 hk).trans gu)
    simpa [Addr.add] using this
   subst hspot
   refine ⟨b,off,rfl, ?_,fun t ht => ?_⟩
   ·have := World.cells?_block h1 hk
    rw [WideShapes.add_plain] at this
    exact this
   ·obtain ⟨u,hu1,hu2⟩ := h2 t ht
    have := (hcc t ht).trans hu1
    rw [WideShapes.add_plain,WideShapes.add_plain] at this
    exact ⟨u,this,hu2⟩
  ·rw [hx] at hz
   have := qek hu hz
   rw [List.length_map,hel] at this
   simpa using this
theorem ql1 : Tryz.prog.cellsOf 3 = 1 := by kernel_rfl
theorem qfz {H : Type} {enc : TypeId × Value → H} {w : World} {spare : Nat → Bool} {held : Bool} (n : Nat) (cs : List Value) (z : DataW H × List MemPlace) (hl : cs.length = 1) (h : DataW.trod enc Tryz.prog w 0 spare held n 3 cs = some z) : ∃ x : Int, ∀ i,i < 1 → ∃ u,cs[i]? = some u ∧ intP x i u := by
 obtain ⟨x,rfl,_,_⟩ := DataW.trod_int Tryz.underlying3 h
 exact ⟨x,fun i hi => by obtain rfl : i = 0 := (by omega); exact ⟨_,rfl,rfl⟩⟩
theorem qff {H : Type} {enc : TypeId × Value → H} {w : World} {spare : Nat → Bool} {held : Bool} {fuel : Nat} {v : Value} {y : DataW H × List MemPlace} (h : DataW.trod enc Tryz.prog w 0 spare held fuel 40 [v] = some y) : ∃ l,IntsV w l v := by
 obtain ⟨s,l,e,hr,_⟩ := qb6 ⟨0⟩ (by omega) Tryz.underlying40 ql1 h qfz
 exact ⟨l,s,e,hr⟩
theorem qhx {α : Type} {l : List α} (h : l.length = 3) : ∃ c0 c1 c2,l = [c0,c1,c2] := by
 match l,h with
 | [c0,c1,c2],_ => exact ⟨c0,c1,c2,rfl⟩
theorem qhy {α : Type} {l : List α} (h : l.length = 8) : ∃ c0 c1 c2 c3 c4 c5 c6 c7,l = [c0,c1,c2,c3,c4,c5,c6,c7] := by
 match l,h with
 | [c0,c1,c2,c3,c4,c5,c6,c7],_ => exact ⟨c0,c1,c2,c3,c4,c5,c6,c7,rfl⟩
end Go.Proofs.YtijgopkhdjaolaaGreat
namespace Go.Proofs.YtijgopkhdjaolaaGreat
open Go.RowKit
set_option linter.unusedSimpArgs false
set_option linter.unusedVariables false
set_option maxHeartbeats 16000000
set_option maxRecDepth 100000
structure TkR where
 prio : Int
 ring : Int
 full : Bool
 limit : Int
 mask : Nat
 inner : Int
 own : List Int
 auto : Nat
structure RgR where
 prio : Int
 cap : Int
 deriving DecidableEq
structure RsR where
 inner : Bool
 ceil : Int
structure CtR where
 max : Nat
 base : Nat
 min : Nat
structure AcR where
 kind : Int
 task : Int
 mask : Nat
structure AlR where
 ctr : Int
 ac : AcR
 auto : Nat
 time : Nat
 cycle : Nat
structure IsR where
 cat : Int
 prio : Int
 own : List Int
structure MsR where
 kind : Int
 len : Int
 frm : Int
 init : Nat
 queue : Int
 ac : AcR
structure Tb where
 uses : Int
 modes : Int
 tasks : List TkR
 rings : List RgR
 ress : List RsR
 ctrs : List CtR
 als : List AlR
 isrs : List IsR
 msgs : List MsR
 depth : Int
 frames : Int
 errors : Int
 calls : Int
structure Ts where
 t : Sl
 g : Sl
 r : Sl
 k : Sl
 a : Sl
 i : Sl
 s : Sl
abbrev slT (s : Sl) : Value := .slice s.a s.n s.c
def tbC (tb : Tb) (v : Ts) : Array Value := #[I tb.uses,I tb.modes, .slice v.t.a v.t.n v.t.c, .slice v.g.a v.g.n v.g.c, .slice v.r.a v.r.n v.r.c, .slice v.k.a v.k.n v.k.c, .slice v.a.a v.a.n v.a.c, .slice v.i.a v.i.n v.i.c, .slice v.s.a v.s.n v.s.c,I tb.depth,I tb.frames,I tb.errors,I tb.calls]
def tkrP (w : World) (x : TkR) (i : Nat) (u : Value) : Prop := match i with | 0 => u = I x.prio | 1 => u = I x.ring | 2 => u = .bool x.full | 3 => u = I x.limit | 4 => u = .int .u32 (x.mask : Int) | 5 => u = I x.inner | 6 => IntsV w x.own u | _ => u = .int .u32 (x.auto : Int)
def rgrP (x : RgR) (i : Nat) (u : Value) : Prop := match i with | 0 => u = I x.prio | _ => u = I x.cap
def rsrP (x : RsR) (i : Nat) (u : Value) : Prop := match i with | 0 => u = .bool x.inner | _ => u = I x.ceil
def ctrP (x : CtR) (i : Nat) (u : Value) : Prop := match i with | 0 => u = .int .u32 (x.max : Int) | 1 => u = .int .u32 (x.base : Int) | _ => u = .int .u32 (x.min : Int)
def alrP (x : AlR) (i : Nat) (u : Value) : Prop := match i with | 0 => u = I x.ctr | 1 => u = I x.ac.kind | 2 => u = I x.ac.task | 3 => u = .int .u32 (x.ac.mask : Int) | 4 => u = .int .u32 (x.auto : Int) | 5 => u = .int .u32 (x.time : Int) | _ => u = .int .u32 (x.cycle : Int)
def isrP (w : World) (x : IsR) (i : Nat) (u : Value) : Prop := match i with | 0 => u = I x.cat | 1 => u = I x.prio | _ => IntsV w x.own u
def msrP (x : MsR) (i : Nat) (u : Value) : Prop := match i with | 0 => u = I x.kind | 1 => u = I x.len | 2 => u = I x.frm | 3 => u = .int .u64 (x.init : Int) | 4 => u = I x.queue | 5 => u = I x.ac.kind | 6 => u = I x.ac.task | _ => u = .int .u32 (x.ac.mask : Int)
structure TbAt (w : World) (tb : Tb) (v : Ts) : Prop where
 t : RowsAt w 8 (tkrP w) v.t tb.tasks
 g : RowsAt w 2 rgrP v.g tb.rings
 r : RowsAt w 2 rsrP v.r tb.ress
 k : RowsAt w 3 ctrP v.k tb.ctrs
 a : RowsAt w 7 alrP v.a tb.als
 i : RowsAt w 3 (isrP w) v.i tb.isrs
 s : RowsAt w 8 msrP v.s tb.msgs
theorem TbAt.below {w w' : World} {tb : Tb} {v : Ts} (h : TbAt w tb v) (hb : Below w.heap.size w w') : TbAt w' tb v := by
 refine ⟨h.t.below hb (fun x i u _ h => ?_),h.g.below hb (fun _ _ _ _ h => h),h.r.below hb (fun _ _ _ _ h => h),h.k.below hb (fun _ _ _ _ h => h),h.a.below hb (fun _ _ _ _ h => h),h.i.below hb (fun x i u _ h => ?_),h.s.below hb (fun _ _ _ _ h => h)⟩
 ·unfold tkrP at h ⊢
  split at h <;> first | exact h | exact IntsV.below h hb
 ·unfold isrP at h ⊢
  split at h <;> first | exact h | exact IntsV.below h hb
theorem qdb {w : World} {tb : Tb} {v : Ts} (h : TbAt w tb v) {j : Nat} {x : TkR} (hj : tb.tasks[j]? = some x) : ∃ (g off : Nat) (s6 : Sl),v.t.a = some ⟨g,off,none⟩ ∧ g < w.heap.size ∧ w.cell? ⟨g,off + j * 8,none⟩ = some (I x.prio) ∧ w.cell? ⟨g,off + j * 8 + 1,none⟩ = some (I x.ring) ∧ w.cell? ⟨g,off + j * 8 + 2,none⟩ = some (.bool x.full) ∧ w.cell? ⟨g,off + j * 8 + 3,none⟩ = some (I x.limit) ∧ w.cell? ⟨g,off + j * 8 + 4,none⟩ = some (.int .u32 (x.mask : Int)) ∧ w.cell? ⟨g,off + j * 8 + 5,none⟩ = some (I x.inner) ∧ w.cell? ⟨g,off + j * 8 + 6,none⟩ = some (.slice s6.a s6.n s6.c) ∧ w.cell? ⟨g,off + j * 8 + 7,none⟩ = some (.int .u32 (x.auto : Int)) ∧ RowsAt w 1 intP s6 x.own := by
 obtain ⟨g,off,e,hg,hr⟩ := h.t.row j x hj
 obtain ⟨u0,a0,b0⟩ := hr 0 (by omega)
 have e0 : u0 = I x.prio := b0
 rw [e0] at a0
 obtain ⟨u1,a1,b1⟩ := hr 1 (by omega)
 have e1 : u1 = I x.ring := b1
 rw [e1] at a1
 obtain ⟨u2,a2,b2⟩ := hr 2 (by omega)
 have e2 : u2 = .bool x.full := b2
 rw [e2] at a2
 obtain ⟨u3,a3,b3⟩ := hr 3 (by omega)
 have e3 : u3 = I x.limit := b3
 rw [e3] at a3
 obtain ⟨u4,a4,b4⟩ := hr 4 (by omega)
 have e4 : u4 = .int .u32 (x.mask : Int) := b4
 rw [e4] at a4
 obtain ⟨u5,a5,b5⟩ := hr 5 (by omega)
 have e5 : u5 = I x.inner := b5
 rw [e5] at a5
 obtain ⟨u6,a6,b6⟩ := hr 6 (by omega)
 obtain ⟨s6,e6,r6⟩ := (show IntsV w x.own u6 from b6)
 rw [e6] at a6
 obtain ⟨u7,a7,b7⟩ := hr 7 (by omega)
 have e7 : u7 = .int .u32 (x.auto : Int) := b7
 rw [e7] at a7
 rw [Nat.add_zero] at a0
 exact ⟨g,off,s6,e,hg,a0,a1,a2,a3,a4,a5,a6,a7,r6⟩
theorem qg0 {w : World} {tb : Tb} {v : Ts} (h : TbAt w tb v) {j : Nat} {x : RgR} (hj : tb.rings[j]? = some x) : ∃ (g off : Nat),v.g.a = some ⟨g,off,none⟩ ∧ g < w.heap.size ∧ w.cell? ⟨g,off + j * 2,none⟩ = some (I x.prio) ∧ w.cell? ⟨g,off + j * 2 + 1,none⟩ = some (I x.cap) := by
 obtain ⟨g,off,e,hg,hr⟩ := h.g.row j x hj
 obtain ⟨u0,a0,b0⟩ := hr 0 (by omega)
 have e0 : u0 = I x.prio := b0
 rw [e0] at a0
 obtain ⟨u1,a1,b1⟩ := hr 1 (by omega)
 have e1 : u1 = I x.cap := b1
 rw [e1] at a1
 rw [Nat.add_zero] at a0
 exact ⟨g,off,e,hg,a0,a1⟩
theorem qj0 {w : World} {tb : Tb} {v : Ts} (h : TbAt w tb v) {j : Nat} {x : RsR} (hj : tb.ress[j]? = some x) : ∃ (g off : Nat),v.r.a = some ⟨g,off,none⟩ ∧ g < w.heap.size ∧ w.cell? ⟨g,off + j * 2,none⟩ = some (.bool x.inner) ∧ w.cell? ⟨g,off + j * 2 + 1,none⟩ = some (I x.ceil) := by
 obtain ⟨g,off,e,hg,hr⟩ := h.r.row j x hj
 obtain ⟨u0,a0,b0⟩ := hr 0 (by omega)
 have e0 : u0 = .bool x.inner := b0
 rw [e0] at a0
 obtain ⟨u1,a1,b1⟩ := hr 1 (by omega)
 have e1 : u1 = I x.ceil := b1
 rw [e1] at a1
 rw [Nat.add_zero] at a0
 exact ⟨g,off,e,hg,a0,a1⟩
theorem qj1 {w : World} {tb : Tb} {v : Ts} (h : TbAt w tb v) {j : Nat} {x : CtR} (hj : tb.ctrs[j]? = some x) : ∃ (g off : Nat),v.k.a = some ⟨g,off,none⟩ ∧ g < w.heap.size ∧ w.cell? ⟨g,off + j * 3,none⟩ = some (.int .u32 (x.max : Int)) ∧ w.cell? ⟨g,off + j * 3 + 1,none⟩ = some (.int .u32 (x.base : Int)) ∧ w.cell? ⟨g,off + j * 3 + 2,none⟩ = some (.int .u32 (x.min : Int)) := by
 obtain ⟨g,off,e,hg,hr⟩ := h.k.row j x hj
 obtain ⟨u0,a0,b0⟩ := hr 0 (by omega)
 have e0 : u0 = .int .u32 (x.max : Int) := b0
 rw [e0] at a0
 obtain ⟨u1,a1,b1⟩ := hr 1 (by omega)
 have e1 : u1 = .int .u32 (x.base : Int) := b1
 rw [e1] at a1
 obtain ⟨u2,a2,b2⟩ := hr 2 (by omega)
 have e2 : u2 = .int .u32 (x.min : Int) := b2
 rw [e2] at a2
 rw [Nat.add_zero] at a0
 exact ⟨g,off,e,hg,a0,a1,a2⟩
theorem qml {w : World} {tb : Tb} {v : Ts} (h : TbAt w tb v) {j : Nat} {x : AlR} (hj : tb.als[j]? = some x) : ∃ (g off : Nat),v.a.a = some ⟨g,off,none⟩ ∧ g < w.heap.size ∧ w.cell? ⟨g,off + j * 7,none⟩ = some (I x.ctr) ∧ w.cell? ⟨g,off + j * 7 + 1,none⟩ = some (I x.ac.kind) ∧ w.cell? ⟨g,off + j * 7 + 2,none⟩ = some (I x.ac.task) ∧ w.cell? ⟨g,off + j * 7 + 3,none⟩ = some (.int .u32 (x.ac.mask : Int)) ∧ w.cell? ⟨g,off + j * 7 + 4,none⟩ = some (.int .u32 (x.auto : Int)) ∧ w.cell? ⟨g,off + j * 7 + 5,none⟩ = some (.int .u32 (x.time : Int)) ∧ w.cell? ⟨g,off + j * 7 + 6,none⟩ = some (.int .u32 (x.cycle : Int)) := by
 obtain ⟨g,off,e,hg,hr⟩ := h.a.row j x hj
 obtain ⟨u0,a0,b0⟩ := hr 0 (by omega)
 have e0 : u0 = I x.ctr := b0
 rw [e0] at a0
 obtain ⟨u1,a1,b1⟩ := hr 1 (by omega)
 have e1 : u1 = I x.ac.kind := b1
 rw [e1] at a1
 obtain ⟨u2,a2,b2⟩ := hr 2 (by omega)
 have e2 : u2 = I x.ac.task := b2
 rw [e2] at a2
 obtain ⟨u3,a3,b3⟩ := hr 3 (by omega)
 have e3 : u3 = .int .u32 (x.ac.mask : Int) := b3
 rw [e3] at a3
 obtain ⟨u4,a4,b4⟩ := hr 4 (by omega)
 have e4 : u4 = .int .u32 (x.auto : Int) := b4
 rw [e4] at a4
 obtain ⟨u5,a5,b5⟩ := hr 5 (by omega)
 have e5 : u5 = .int .u32 (x.time : Int) := b5
 rw [e5] at a5
 obtain ⟨u6,a6,b6⟩ := hr 6 (by omega)
 have e6 : u6 = .int .u32 (x.cycle : Int) := b6
 rw [e6] at a6
 rw [Nat.add_zero] at a0
 exact ⟨g,off,e,hg,a0,a1,a2,a3,a4,a5,a6⟩
theorem qdc {w : World} {tb : Tb} {v : Ts} (h : TbAt w tb v) {j : Nat} {x : IsR} (hj : tb.isrs[j]? = some x) : ∃ (g off : Nat) (s2 : Sl),v.i.a = some ⟨g,off,none⟩ ∧ g < w.heap.size ∧ w.cell? ⟨g,off + j * 3,none⟩ = some (I x.cat) ∧ w.cell? ⟨g,off + j * 3 + 1,none⟩ = some (I x.prio) ∧ w.cell? ⟨g,off + j * 3 + 2,none⟩ = some (.slice s2.a s2.n s2.c) ∧ RowsAt w 1 intP s2 x.own := by
 obtain ⟨g,off,e,hg,hr⟩ := h.i.row j x hj
 obtain ⟨u0,a0,b0⟩ := hr 0 (by omega)
 have e0 : u0 = I x.cat := b0
 rw [e0] at a0
 obtain ⟨u1,a1,b1⟩ := hr 1 (by omega)
 have e1 : u1 = I x.prio := b1
 rw [e1] at a1
 obtain ⟨u2,a2,b2⟩ := hr 2 (by omega)
 obtain ⟨s2,e2,r2⟩ := (show IntsV w x.own u2 from b2)
 rw [e2] at a2
 rw [Nat.add_zero] at a0
 exact ⟨g,off,s2,e,hg,a0,a1,a2,r2⟩
theorem qj2 {w : World} {tb : Tb} {v : Ts} (h : TbAt w tb v) {j : Nat} {x : MsR} (hj : tb.msgs[j]? = some x) : ∃ (g off : Nat),v.s.a = some ⟨g,off,none⟩ ∧ g < w.heap.size ∧ w.cell? ⟨g,off + j * 8,none⟩ = some (I x.kind) ∧ w.cell? ⟨g,off + j * 8 + 1,none⟩ = some (I x.len) ∧ w.cell? ⟨g,off + j * 8 + 2,none⟩ = some (I x.frm) ∧ w.cell? ⟨g,off + j * 8 + 3,none⟩ = some (.int .u64 (x.init : Int)) ∧ w.cell? ⟨g,off + j * 8 + 4,none⟩ = some (I x.queue) ∧ w.cell? ⟨g,off + j * 8 + 5,none⟩ = some (I x.ac.kind) ∧ w.cell? ⟨g,off + j * 8 + 6,none⟩ = some (I x.ac.task) ∧ w.cell? ⟨g,off + j * 8 + 7,none⟩ = some (.int .u32 (x.ac.mask : Int)) := by
 obtain ⟨g,off,e,hg,hr⟩ := h.s.row j x hj
 obtain ⟨u0,a0,b0⟩ := hr 0 (by omega)
 have e0 : u0 = I x.kind := b0
 rw [e0] at a0
 obtain ⟨u1,a1,b1⟩ := hr 1 (by omega)
 have e1 : u1 = I x.len := b1
 rw [e1] at a1
 obtain ⟨u2,a2,b2⟩ := hr 2 (by omega)
 have e2 : u2 = I x.frm := b2
 rw [e2] at a2
 obtain ⟨u3,a3,b3⟩ := hr 3 (by omega)
 have e3 : u3 = .int .u64 (x.init : Int) := b3
 rw [e3] at a3
 obtain ⟨u4,a4,b4⟩ := hr 4 (by omega)
 have e4 : u4 = I x.queue := b4
 rw [e4] at a4
 obtain ⟨u5,a5,b5⟩ := hr 5 (by omega)
 have e5 : u5 = I x.ac.kind := b5
 rw [e5] at a5
 obtain ⟨u6,a6,b6⟩ := hr 6 (by omega)
 have e6 : u6 = I x.ac.task := b6
 rw [e6] at a6
 obtain ⟨u7,a7,b7⟩ := hr 7 (by omega)
 have e7 : u7 = .int .u32 (x.ac.mask : Int) := b7
 rw [e7] at a7
 rw [Nat.add_zero] at a0
 exact ⟨g,off,e,hg,a0,a1,a2,a3,a4,a5,a6,a7⟩
theorem qbx {w : World} {b : Nat} {tb : Tb} {v : Ts} (h : w.heap[b]? = some (.cells (tbC tb v) 30 (0,0))) :
  w.cell? ⟨b,0,none⟩ = some (I tb.uses) ∧ w.cell? ⟨b,1,none⟩ = some (I tb.modes) ∧ w.cell? ⟨b,2,none⟩ = some (.slice v.t.a v.t.n v.t.c) ∧ w.cell? ⟨b,3,none⟩ = some (.slice v.g.a v.g.n v.g.c) ∧ w.cell? ⟨b,4,none⟩ = some (.slice v.r.a v.r.n v.r.c) ∧ w.cell? ⟨b,5,none⟩ = some (.slice v.k.a v.k.n v.k.c) ∧ w.cell? ⟨b,6,none⟩ = some (.slice v.a.a v.a.n v.a.c) ∧ w.cell? ⟨b,7,none⟩ = some (.slice v.i.a v.i.n v.i.c) ∧ w.cell? ⟨b,8,none⟩ = some (.slice v.s.a v.s.n v.s.c) ∧ w.cell? ⟨b,9,none⟩ = some (I tb.depth) ∧ w.cell? ⟨b,10,none⟩ = some (I tb.frames) ∧ w.cell? ⟨b,11,none⟩ = some (I tb.errors) ∧ w.cell? ⟨b,12,none⟩ = some (I tb.calls) := by
 have a1 := fun i => cell_of_row w b i _ _ (0,0) h
 exact ⟨a1 0,a1 1,a1 2,a1 3,a1 4,a1 5,a1 6,a1 7,a1 8,a1 9,a1 10,a1 11,a1 12⟩
def inI (v lo hi : Int) : Bool := decide (lo ≤ v) && decide (v ≤ hi)
def idB (v : Int) (n : Nat) : Bool := decide (0 ≤ v) && decide (v < (n : Int))
def qcr (x : TkR) : Bool := if x.mask ≠ 0 then x.limit == 1 else inI x.limit 1 255
def capN (l : List TkR) (p : Int) : Int := match l with
 | [] => 0
 | x :: r => (if x.prio = p then x.limit else 0) + capN r p
def qdd (l : List RgR) (i : Int) : Int := match l[i.toNat]? with | some r => r.prio | none => 0
def qbs (ts : List TkR) : Int → List RgR → Bool
 | _, [] => true
 | ahead,r :: l => inI r.prio 0 (ahead - 1) && ts.any (fun x => x.prio == r.prio) && (r.cap == IntKind.i64.wrap (capN ts r.prio)) && qbs ts r.prio l
def qfv (tb : Tb) (prio id : Int) : Bool := match tb.ress[id.toNat]? with | some r => !r.inner && decide (prio ≤ r.ceil) | none => false
def ownG (tb : Tb) (prio : Int) : Int → List Int → Bool
 | _, [] => true
 | a,id :: l => decide (a < id) && idB id tb.ress.length && qfv tb prio id && ownG tb prio id l
def qc5 (tb : Tb) (a : Nat) : Bool := decide (a < 2 ^ tb.modes.toNat)
def ql2 (tb : Tb) (x : TkR) : Bool := (x.inner == -1 || inI x.inner x.prio 127) && ownG tb x.prio (-1) x.own && qc5 tb x.auto
def tkB (tb : Tb) (x : TkR) : Bool := idB x.ring tb.rings.length && (qdd tb.rings x.ring == x.prio) && qcr x && ql2 tb x
def ctB (x : CtR) : Bool := decide (1 ≤ x.max ∧ x.max ≤ 2147483647 ∧ 1 ≤ x.base ∧ x.base ≤ 2147483647 ∧ 1 ≤ x.min ∧ x.min ≤ x.max)
def qel (tb : Tb) (i : Int) : Nat := match tb.tasks[i.toNat]? with | some x => x.mask | none => 0
def acB (tb : Tb) (a : AcR) (lo hi : Int) : Bool :=
 inI a.kind lo hi && (if a.kind = 1 then idB a.task tb.tasks.length && (a.mask == 0) else if a.kind = 2 then idB a.task tb.tasks.length && (a.mask != 0) && (bits BinOp.andNot IntKind.u32 (a.mask : Int) (qel tb a.task : Int) == 0) else (a.task == 0) && (a.mask == 0))
def ctOf (tb : Tb) (i : Int) : CtR := match tb.ctrs[i.toNat]? with | some x => x | none => ⟨0,0,0⟩
def qde (x : AlR) (k : CtR) : Bool := if x.auto = 0 then (x.time == 0) && (x.cycle == 0) else decide (1 ≤ x.time ∧ x.time ≤ k.max) && (x.cycle == 0 || decide (k.min ≤ x.cycle ∧ x.cycle ≤ k.max))
def alB (tb : Tb) (x : AlR) : Bool := idB x.ctr tb.ctrs.length && acB tb x.ac 1 3 && qc5 tb x.auto && qde x (ctOf tb x.ctr)
def qci (a b : IsR) : Bool := (a.prio != b.prio) && (a.cat == b.cat || (decide (a.cat < b.cat) == decide (b.prio < a.prio)))
def isB (tb : Tb) (x : IsR) : Bool := inI x.cat 1 2 && inI x.prio 64 127 && (x.cat == 2 || x.own.isEmpty) && ownG tb x.prio (-1) x.own
def qc8 (tb : Tb) (pre : List IsR) : List IsR → Bool
 | [] => true
 | x :: l => isB tb x && pre.all (fun a => qci a x) && qc8 tb (pre ++ [x]) l
def fldB (x : MsR) : Bool :=
 if x.kind = 1 then (x.len == 1 || x.len == 2 || x.len == 4 || x.len == 8) && (x.frm == 0) && (x.init == 0) && (x.queue == 0)
 else if x.kind = 2 then (x.len == 0) && decide (x.init ≤ 4294967295) && (x.queue == 0)
 else if x.kind = 3 then (x.len == 0) && (x.init == 0) && inI x.queue 1 16 else false
def msOf (tb : Tb) (i : Int) : MsR := match tb.msgs[i.toNat]? with | some x => x | none => ⟨0,0,0,0,0,⟨0,0,0⟩⟩
def sndB (tb : Tb) (x : MsR) : Bool := idB x.frm tb.msgs.length && ((msOf tb x.frm).kind == 1) && decide (x.init < 2 ^ (8 * (msOf tb x.frm).len.toNat))
def msB (tb : Tb) (x : MsR) : Bool := if x.kind = 1 then acB tb x.ac 0 0 else sndB tb x && acB tb x.ac 0 4
def qbv (tb : Tb) : Bool := inI tb.uses 0 255 && inI tb.modes 1 8 && inI tb.tasks.length 1 256 && decide (tb.ress.length ≤ 65 ∧ tb.ctrs.length ≤ 16 ∧ tb.als.length ≤ 64 ∧ tb.isrs.length ≤ 32 ∧ tb.msgs.length ≤ 64)
def maxL (l : List Nat) : Nat := l.foldl max 0
theorem maxL_le {l : List Nat} {b : Nat} : maxL l ≤ b ↔ ∀ x ∈ l,x ≤ b := by
 have h : ∀ (l : List Nat) (a : Nat),l.foldl max a ≤ b ↔ a ≤ b ∧ ∀ x ∈ l,x ≤ b := by
  intro l
  induction l with
  | nil => intro a; simp
  | cons y l ih =>
   intro a
   rw [List.foldl_cons,ih,Nat.max_le,and_assoc]
   simp only [List.mem_cons,forall_eq_or_imp]
 unfold maxL
 rw [h]
 simp
def qar (l : List Int) : Nat := maxL (l.map fun k => l.count k)
def rcvL (tb : Tb) : List Int := (tb.msgs.filter fun x => x.kind != 1).map fun x => x.frm
def qdv (tb : Tb) : Nat := (tb.als.filter fun x => x.ac.kind == 3).length + (tb.msgs.filter fun x => x.ac.kind == 3).length
def qhz (tb : Tb) (most : Nat) : Bool := (tb.depth == (tb.rings.length : Int)) && (tb.frames == (tb.isrs.length : Int) + 4) && (tb.errors == (max 2 most : Nat)) && (tb.calls == (qdv tb : Int))
def chkP (tb : Tb) : Bool := qbv tb && tb.ress.all (fun r => inI r.ceil (-1) 127) && qbs tb.tasks 64 tb.rings && tb.tasks.all (tkB tb) && tb.ctrs.all ctB && tb.als.all (alB tb) && qc8 tb [] tb.isrs && (tb.msgs.all fldB && tb.msgs.all (msB tb))
 && qhz tb (max (qar (tb.als.map fun x => x.ctr)) (qar (rcvL tb)))
theorem limit_first {x : TkR} : qcr x = true ↔ inI x.limit 1 255 = true ∧ (x.mask = 0 ∨ x.limit = 1) := by
 unfold qcr inI
 by_cases h : x.mask = 0
 ·simp [h]
 ·simp [h]
  omega
theorem qmm {ts : List TkR} (hl : ∀ x ∈ ts,1 ≤ x.limit ∧ x.limit ≤ 255) (p : Int) : 0 ≤ capN ts p ∧ capN ts p ≤ 255 * (ts.length : Int) := by
 induction ts with
 | nil => simp [capN]
 | cons y r ih =>
  have h1 := hl y (List.mem_cons_self ..)
  have ih := ih (fun x hx => hl x (List.mem_cons_of_mem _ hx))
  rw [capN,List.length_cons]
  split <;> omega
theorem qdf {v : Int} (h0 : 0 ≤ v) (h1 : v ≤ 65280) : IntKind.i64.wrap v = v := by
 unfold IntKind.wrap
 simp [IntKind.signed,IntKind.bits]
 omega
theorem qkg {l : List RgR} {i p : Int} (hi : idB i l.length = true) (hp : qdd l i = p) : ∃ r ∈ l,r.prio = p := by
 unfold idB at hi
 simp at hi
 have hlt : i.toNat < l.length := by omega
 unfold qdd at hp
 rw [List.getElem?_eq_getElem hlt] at hp
 exact ⟨_,List.getElem_mem hlt,hp⟩
theorem qa5 {a b : Bool} (h : a = b) : Ending.returned (.bool a) = Ending.returned (.bool b) := by rw [h]
theorem qba (v lo hi : Int) (w : World) : Calls Tryz.prog 72 #[I v,I lo,I hi] w fun e w' => e = .returned (.bool (inI v lo hi)) ∧ w' = w := by
 unfold inI
 go_enter Tryz.func72,Tryz.ntmps72
 by_cases h1 : lo ≤ v
 ·by_cases h2 : v ≤ hi
  ·go_wp2
   go_ret
   exact ⟨qa5 (by first | (rw [Bool.eq_iff_iff]; simp; omega) | (simp; omega) | (simp_all; done)),rfl⟩
  ·have h2' : hi < v := by omega
   go_wp2
   go_ret
   exact ⟨qa5 (by first | (rw [Bool.eq_iff_iff]; simp; omega) | (simp; omega) | (simp_all; done)),rfl⟩
 ·have h1' : v < lo := by omega
  go_wp2
  go_ret
  exact ⟨qa5 (by first | (rw [Bool.eq_iff_iff]; simp; omega) | (simp; omega) | (simp_all; done)),rfl⟩
theorem qgz (v lo hi : Int) (w : World) : Calls Tryz.prog 151 #[I v,I lo,I hi] w fun e w' => e = .returned (.bool (inI v lo hi)) ∧ w' = w := by
 unfold inI
 go_enter Tryz.func151,Tryz.ntmps151
 by_cases h1 : lo ≤ v
 ·by_cases h2 : v ≤ hi
  ·go_wp2
   go_ret
   exact ⟨qa5 (by first | (rw [Bool.eq_iff_iff]; simp; omega) | (simp; omega) | (simp_all; done)),rfl⟩
  ·have h2' : hi < v := by omega
   go_wp2
   go_ret
   exact ⟨qa5 (by first | (rw [Bool.eq_iff_iff]; simp; omega) | (simp; omega) | (simp_all; done)),rfl⟩
 ·have h1' : v < lo := by omega
  go_wp2
  go_ret
  exact ⟨qa5 (by first | (rw [Bool.eq_iff_iff]; simp; omega) | (simp; omega) | (simp_all; done)),rfl⟩
theorem qc7 (v lo hi : Nat) (w : World) : Calls Tryz.prog 85 #[.int .u32 (v : Int), .int .u32 (lo : Int), .int .u32 (hi : Int)] w fun e w' => e = .returned (.bool (decide (lo ≤ v) && decide (v ≤ hi))) ∧ w' = w := by
 go_enter Tryz.func85,Tryz.ntmps85
 by_cases h1 : lo ≤ v
 ·have g1 : (lo : Int) ≤ v := by omega
  by_cases h2 : v ≤ hi
  ·have g2 : (v : Int) ≤ hi := by omega
   go_wp2
   go_ret
   exact ⟨qa5 (by first | (rw [Bool.eq_iff_iff]; simp; omega) | (simp; omega) | (simp_all; done)),rfl⟩
  ·have g2 : ¬ (v : Int) ≤ hi := by omega
   go_wp2
   go_ret
   exact ⟨qa5 (by first | (rw [Bool.eq_iff_iff]; simp; omega) | (simp; omega) | (simp_all; done)),rfl⟩
 ·have g1 : ¬ (lo : Int) ≤ v := by omega
  go_wp2
  go_ret
  exact ⟨qa5 (by first | (rw [Bool.eq_iff_iff]; simp; omega) | (simp; omega) | (simp_all; done)),rfl⟩
theorem qi0 (v : Int) (s : Sl) (w : World) : Calls Tryz.prog 79 #[I v, .slice s.a s.n s.c] w fun e w' => e = .returned (.bool (idB v s.n)) ∧ w' = w := by
 unfold idB
 go_enter Tryz.func79,Tryz.ntmps79
 by_cases h1 : 0 ≤ v
 ·by_cases h2 : v < (s.n : Int)
  ·go_wp2
   go_ret
   exact ⟨qa5 (by first | (rw [Bool.eq_iff_iff]; simp; omega) | (simp; omega) | (simp_all; done)),rfl⟩
  ·go_wp2
   go_ret
   exact ⟨qa5 (by first | (rw [Bool.eq_iff_iff]; simp; omega) | (simp; omega) | (simp_all; done)),rfl⟩
 ·have h1' : v < 0 := by omega
  go_wp2
  go_ret
  exact ⟨qa5 (by first | (rw [Bool.eq_iff_iff]; simp; omega) | (simp; omega) | (simp_all; done)),rfl⟩
theorem qj3 (v : Int) (s : Sl) (w : World) : Calls Tryz.prog 88 #[I v, .slice s.a s.n s.c] w fun e w' => e = .returned (.bool (idB v s.n)) ∧ w' = w := by
 unfold idB
 go_enter Tryz.func88,Tryz.ntmps88
 by_cases h1 : 0 ≤ v
 ·by_cases h2 : v < (s.n : Int)
  ·go_wp2
   go_ret
   exact ⟨qa5 (by first | (rw [Bool.eq_iff_iff]; simp; omega) | (simp; omega) | (simp_all; done)),rfl⟩
  ·go_wp2
   go_ret
   exact ⟨qa5 (by first | (rw [Bool.eq_iff_iff]; simp; omega) | (simp; omega) | (simp_all; done)),rfl⟩
 ·have h1' : v < 0 := by omega
  go_wp2
  go_ret
  exact ⟨qa5 (by first | (rw [Bool.eq_iff_iff]; simp; omega) | (simp; omega) | (simp_all; done)),rfl⟩
theorem qj4 (v : Int) (s : Sl) (w : World) : Calls Tryz.prog 150 #[I v, .slice s.a s.n s.c] w fun e w' => e = .returned (.bool (idB v s.n)) ∧ w' = w := by
 unfold idB
 go_enter Tryz.func150,Tryz.ntmps150
 by_cases h1 : 0 ≤ v
 ·by_cases h2 : v < (s.n : Int)
  ·go_wp2
   go_ret
   exact ⟨qa5 (by first | (rw [Bool.eq_iff_iff]; simp; omega) | (simp; omega) | (simp_all; done)),rfl⟩
  ·go_wp2
   go_ret
   exact ⟨qa5 (by first | (rw [Bool.eq_iff_iff]; simp; omega) | (simp; omega) | (simp_all; done)),rfl⟩
 ·have h1' : v < 0 := by omega
  go_wp2
  go_ret
  exact ⟨qa5 (by first | (rw [Bool.eq_iff_iff]; simp; omega) | (simp; omega) | (simp_all; done)),rfl⟩
theorem qi1 (v : Int) (s : Sl) (w : World) : Calls Tryz.prog 152 #[I v, .slice s.a s.n s.c] w fun e w' => e = .returned (.bool (idB v s.n)) ∧ w' = w := by
 unfold idB
 go_enter Tryz.func152,Tryz.ntmps152
 by_cases h1 : 0 ≤ v
 ·by_cases h2 : v < (s.n : Int)
  ·go_wp2
   go_ret
   exact ⟨qa5 (by first | (rw [Bool.eq_iff_iff]; simp; omega) | (simp; omega) | (simp_all; done)),rfl⟩
  ·go_wp2
   go_ret
   exact ⟨qa5 (by first | (rw [Bool.eq_iff_iff]; simp; omega) | (simp; omega) | (simp_all; done)),rfl⟩
 ·have h1' : v < 0 := by omega
  go_wp2
  go_ret
  exact ⟨qa5 (by first | (rw [Bool.eq_iff_iff]; simp; omega) | (simp; omega) | (simp_all; done)),rfl⟩
theorem qj5 (v : Int) (s : Sl) (w : World) : Calls Tryz.prog 154 #[I v, .slice s.a s.n s.c] w fun e w' => e = .returned (.bool (idB v s.n)) ∧ w' = w := by
 unfold idB
 go_enter Tryz.func154,Tryz.ntmps154
 by_cases h1 : 0 ≤ v
 ·by_cases h2 : v < (s.n : Int)
  ·go_wp2
   go_ret
   exact ⟨qa5 (by first | (rw [Bool.eq_iff_iff]; simp; omega) | (simp; omega) | (simp_all; done)),rfl⟩
  ·go_wp2
   go_ret
   exact ⟨qa5 (by first | (rw [Bool.eq_iff_iff]; simp; omega) | (simp; omega) | (simp_all; done)),rfl⟩
 ·have h1' : v < 0 := by omega
  go_wp2
  go_ret
  exact ⟨qa5 (by first | (rw [Bool.eq_iff_iff]; simp; omega) | (simp; omega) | (simp_all; done)),rfl⟩
def tkrC (x : TkR) (s : Sl) : Array Value := #[I x.prio,I x.ring, .bool x.full,I x.limit, .int .u32 (x.mask : Int),I x.inner, .slice s.a s.n s.c, .int .u32 (x.auto : Int)]
def ctrC (x : CtR) : Array Value := #[.int .u32 (x.max : Int), .int .u32 (x.base : Int), .int .u32 (x.min : Int)]
def acrC (x : AcR) : Array Value := #[I x.kind,I x.task, .int .u32 (x.mask : Int)]
def alrC (x : AlR) : Array Value := #[I x.ctr,I x.ac.kind,I x.ac.task, .int .u32 (x.ac.mask : Int), .int .u32 (x.auto : Int), .int .u32 (x.time : Int), .int .u32 (x.cycle : Int)]
def isrC (x : IsR) (s : Sl) : Array Value := #[I x.cat,I x.prio, .slice s.a s.n s.c]
def msrC (x : MsR) : Array Value := #[I x.kind,I x.len,I x.frm, .int .u64 (x.init : Int),I x.queue,I x.ac.kind,I x.ac.task, .int .u32 (x.ac.mask : Int)]
theorem qfn (x : TkR) (s : Sl) (w : World) : Calls Tryz.prog 80 #[.agg (tkrC x s)] w fun e w' => e = .returned (.bool (qcr x)) ∧ Below w.heap.size w w' := by
 have hb : ∀ o,Below w.heap.size w (w.alloc o) := fun o => qa0 w o
 unfold tkrC at *
 have k1 := qba x.limit 1 255
 unfold qcr
 go_enter Tryz.func80,Tryz.ntmps80
 by_cases h0 : x.mask = 0
 ·have h0' : ((x.mask : Int) != 0) = false := by simp [h0]
  have H0 : Hid (x.mask = 0) := h0
  clear h0
  go_wp2_with (go_at_call 72; refine (k1 _).mono ?_; rintro e w' ⟨rfl,rfl⟩)
  go_ret
  exact ⟨qa5 (by simp [H0.out]),hb _⟩
 ·have h0' : ((x.mask : Int) != 0) = true := by simpa using h0
  have H0 : Hid (¬ x.mask = 0) := h0
  clear h0
  go_wp2
  go_ret
  exact ⟨qa5 (by simp [H0.out]),hb _⟩
theorem qdw (tb : Tb) (v : Ts) (a : Nat) (ha : a < 4294967296) (hm : 1 ≤ tb.modes ∧ tb.modes ≤ 8) (w : World) : Calls Tryz.prog 82 #[.agg (tbC tb v), .int .u32 (a : Int)] w fun e w' => e = .returned (.bool (qc5 tb a)) ∧ Below w.heap.size w w' := by
 have hb : ∀ o,Below w.heap.size w (w.alloc o) := fun o => qa0 w o
 unfold tbC at *
 unfold qc5
 generalize tb.modes = m at *
 have : m = 1 ∨ m = 2 ∨ m = 3 ∨ m = 4 ∨ m = 5 ∨ m = 6 ∨ m = 7 ∨ m = 8 := by omega
 go_enter Tryz.func82,Tryz.ntmps82
 rcases this with rfl | rfl | rfl | rfl | rfl | rfl | rfl | rfl
 all_goals
  go_wp2
  go_ret
  exact ⟨qa5 (by rw [Bool.eq_iff_iff]; simp; omega),hb _⟩
theorem qg1 (x y : IsR) (s t : Sl) (w : World) : Calls Tryz.prog 94 #[.agg (isrC x s), .agg (isrC y t)] w fun e w' => e = .returned (.bool (qci x y)) ∧ Below w.heap.size w w' := by
 have hb : ∀ o p,Below w.heap.size w ((w.alloc o).alloc p) := fun o p => ((Below.refl w.heap.size w).alloc (Nat.le_refl _) o).alloc (by simp) p
 unfold isrC at *
 unfold qci
 generalize x.prio = a at *
 generalize y.prio = b at *
 generalize x.cat = c at *
 generalize y.cat = d at *
 obtain ⟨R,hR⟩ : ∃ R,R = ((a != b) && (c == d || (decide (c < d) == decide (b < a)))) := ⟨_,rfl⟩
 rw [← hR]
 have HR : Hid (R = ((a != b) && (c == d || (decide (c < d) == decide (b < a))))) := hR
 clear hR
 go_enter Tryz.func94,Tryz.ntmps94
 cases h1 : (a != b)
 ·go_wp2
  go_ret
  exact ⟨qa5 (by rw [HR.out,h1]; rfl),hb _ _⟩
 ·cases h2 : (c == d)
  ·go_wp2
   go_ret
   exact ⟨qa5 (by rw [HR.out,h1,h2]; simp),hb _ _⟩
  ·go_wp2
   go_ret
   exact ⟨qa5 (by rw [HR.out,h1,h2]; rfl),hb _ _⟩
theorem qg2 (x : AlR) (k : CtR) (w : World) : Calls Tryz.prog 90 #[.agg (alrC x), .agg (ctrC k)] w fun e w' => e = .returned (.bool (qde x k)) ∧ Below w.heap.size w w' := by
 have hb : ∀ o p,Below w.heap.size w ((w.alloc o).alloc p) := fun o p => ((Below.refl w.heap.size w).alloc (Nat.le_refl _) o).alloc (by simp) p
 have k1 := qc7 x.time 1 k.max
 have k2 := qc7 x.cycle k.min k.max
 unfold alrC ctrC at *
 unfold qde
 go_enter Tryz.func90,Tryz.ntmps90
 by_cases h0 : x.auto = 0
 ·have h0' : ((x.auto : Int) == 0) = true := by simp [h0]
  rw [if_pos h0]
  clear h0
  by_cases h1 : x.time = 0
  ·have h1' : ((x.time : Int) == 0) = true := by simp [h1]
   have H1 : Hid (x.time = 0) := h1
   clear h1
   go_wp2
   go_ret
   exact ⟨qa5 (by rw [Bool.eq_iff_iff]; simp [H1.out]),hb _ _⟩
  ·have h1' : ((x.time : Int) == 0) = false := by simpa using h1
   have H1 : Hid (¬ x.time = 0) := h1
   clear h1
   go_wp2
   go_ret
   exact ⟨qa5 (by rw [Bool.eq_iff_iff]; simp [H1.out]),hb _ _⟩
 ·have h0' : ((x.auto : Int) == 0) = false := by simpa using h0
  rw [if_neg h0]
  clear h0
  have e1 : (decide (1 ≤ x.time ∧ x.time ≤ k.max)) = (decide (1 ≤ x.time) && decide (x.time ≤ k.max)) := by rw [Bool.eq_iff_iff]; simp
  have e2 : (decide (k.min ≤ x.cycle ∧ x.cycle ≤ k.max)) = (decide (k.min ≤ x.cycle) && decide (x.cycle ≤ k.max)) := by rw [Bool.eq_iff_iff]; simp
  rw [e1,e2]
  clear e1 e2
  generalize (decide (1 ≤ x.time) && decide (x.time ≤ k.max)) = b1 at *
  generalize (decide (k.min ≤ x.cycle) && decide (x.cycle ≤ k.max)) = b2 at *
  by_cases h2 : x.cycle = 0
  ·have h2' : ((x.cycle : Int) == 0) = true := by simp [h2]
   have H2 : Hid (x.cycle = 0) := h2
   clear h2
   cases b1
   all_goals
    go_wp2_with (first | (go_at_call 85; refine (k1 _).mono ?_; clear k1; rintro e w' ⟨rfl,rfl⟩) | (go_at_call 85; refine (k2 _).mono ?_; clear k2; rintro e w' ⟨rfl,rfl⟩))
    go_ret
    exact ⟨qa5 (by simp [H2.out]),hb _ _⟩
  ·have h2' : ((x.cycle : Int) == 0) = false := by simpa using h2
   have H2 : Hid (¬ x.cycle = 0) := h2
   clear h2
   cases b1
   all_goals
    go_wp2_with (first | (go_at_call 85; refine (k1 _).mono ?_; clear k1; rintro e w' ⟨rfl,rfl⟩) | (go_at_call 85; refine (k2 _).mono ?_; clear k2; rintro e w' ⟨rfl,rfl⟩))
    go_ret
    exact ⟨qa5 (by simp [H2.out]),hb _ _⟩
theorem qg3 {w : World} {s : Sl} {l : List Int} (h : RowsAt w 1 intP s l) {j : Nat} {x : Int} (hj : l[j]? = some x) : ∃ g off,s.a = some ⟨g,off,none⟩ ∧ g < w.heap.size ∧ w.cell? ⟨g,off + j,none⟩ = some (I x) := by
 obtain ⟨g,off,e,hg,hr⟩ := h.row j x hj
 obtain ⟨u,h1,h2⟩ := hr 0 (by omega)
 refine ⟨g,off,e,hg, ?_⟩
 rw [show off + j * 1 + 0 = off + j by omega] at h1
 rw [h1,h2]
theorem qfo (tb : Tb) (v : Ts) (w : World) (h : TbAt w tb v) : Calls Tryz.prog 25 #[.agg (tbC tb v)] w fun e w' => e = .returned (.bool (qbv tb)) ∧ Below w.heap.size w w' := by
 have hb : ∀ o,Below w.heap.size w (w.alloc o) := fun o => qa0 w o
 obtain ⟨R,hR⟩ : ∃ R,R = qbv tb := ⟨_,rfl⟩
 rw [← hR]
 have HR : Hid (R = (inI tb.uses 0 255 && inI tb.modes 1 8 && inI v.t.n 1 256 && decide (v.r.n ≤ 65 ∧ v.k.n ≤ 16 ∧ v.a.n ≤ 64 ∧ v.i.n ≤ 32 ∧ v.s.n ≤ 64))) := by
  show R = _
  rw [hR,h.t.n,h.r.n,h.k.n,h.a.n,h.i.n,h.s.n]
  rfl
 clear hR h
 have k1 := qba tb.uses 0 255
 have k2 := qba tb.modes 1 8
 have k3 := qba v.t.n 1 256
 unfold tbC
 generalize inI tb.uses 0 255 = b1 at *
 generalize inI tb.modes 1 8 = b2 at *
 generalize inI (v.t.n : Int) 1 256 = b3 at *
 go_enter Tryz.func25,Tryz.ntmps25
 cases b1
 ·go_wp2_with (first | (go_at_call 72; refine (k1 _).mono ?_; clear k1; rintro e w' ⟨rfl,rfl⟩))
  go_ret
  exact ⟨qa5 (by rw [HR.out]; simp),hb _⟩
 ·cases b2
  ·go_wp2_with (first | (go_at_call 72; refine (k1 _).mono ?_; clear k1; rintro e w' ⟨rfl,rfl⟩) | (go_at_call 72; refine (k2 _).mono ?_; clear k2; rintro e w' ⟨rfl,rfl⟩))
   go_ret
   exact ⟨qa5 (by rw [HR.out]; simp),hb _⟩
  ·cases b3
   ·go_wp2_with (first | (go_at_call 72; refine (k1 _).mono ?_; clear k1; rintro e w' ⟨rfl,rfl⟩) | (go_at_call 72; refine (k2 _).mono ?_; clear k2; rintro e w' ⟨rfl,rfl⟩) | (go_at_call 72; refine (k3 _).mono ?_; clear k3; rintro e w' ⟨rfl,rfl⟩))
    go_ret
    exact ⟨qa5 (by rw [HR.out]; simp),hb _⟩
   ·by_cases g1 : (v.r.n : Int) ≤ 65
    ·by_cases g2 : (v.k.n : Int) ≤ 16
     ·by_cases g3 : (v.a.n : Int) ≤ 64
      ·by_cases g4 : (v.i.n : Int) ≤ 32
       ·go_wp2_with (first | (go_at_call 72; refine (k1 _).mono ?_; clear k1; rintro e w' ⟨rfl,rfl⟩) | (go_at_call 72; refine (k2 _).mono ?_; clear k2; rintro e w' ⟨rfl,rfl⟩) | (go_at_call 72; refine (k3 _).mono ?_; clear k3; rintro e w' ⟨rfl,rfl⟩))
        go_ret
        exact ⟨qa5 (by rw [HR.out,Bool.eq_iff_iff]; simp; omega),hb _⟩
       ·go_wp2_with (first | (go_at_call 72; refine (k1 _).mono ?_; clear k1; rintro e w' ⟨rfl,rfl⟩) | (go_at_call 72; refine (k2 _).mono ?_; clear k2; rintro e w' ⟨rfl,rfl⟩) | (go_at_call 72; refine (k3 _).mono ?_; clear k3; rintro e w' ⟨rfl,rfl⟩))
        go_ret
        exact ⟨qa5 (by rw [HR.out,Bool.eq_iff_iff]; simp; omega),hb _⟩
      ·go_wp2_with (first | (go_at_call 72; refine (k1 _).mono ?_; clear k1; rintro e w' ⟨rfl,rfl⟩) | (go_at_call 72; refine (k2 _).mono ?_; clear k2; rintro e w' ⟨rfl,rfl⟩) | (go_at_call 72; refine (k3 _).mono ?_; clear k3; rintro e w' ⟨rfl,rfl⟩))
       go_ret
       exact ⟨qa5 (by rw [HR.out,Bool.eq_iff_iff]; simp; omega),hb _⟩
     ·go_wp2_with (first | (go_at_call 72; refine (k1 _).mono ?_; clear k1; rintro e w' ⟨rfl,rfl⟩) | (go_at_call 72; refine (k2 _).mono ?_; clear k2; rintro e w' ⟨rfl,rfl⟩) | (go_at_call 72; refine (k3 _).mono ?_; clear k3; rintro e w' ⟨rfl,rfl⟩))
      go_ret
      exact ⟨qa5 (by rw [HR.out,Bool.eq_iff_iff]; simp; omega),hb _⟩
    ·go_wp2_with (first | (go_at_call 72; refine (k1 _).mono ?_; clear k1; rintro e w' ⟨rfl,rfl⟩) | (go_at_call 72; refine (k2 _).mono ?_; clear k2; rintro e w' ⟨rfl,rfl⟩) | (go_at_call 72; refine (k3 _).mono ?_; clear k3; rintro e w' ⟨rfl,rfl⟩))
     go_ret
     exact ⟨qa5 (by rw [HR.out,Bool.eq_iff_iff]; simp; omega),hb _⟩
end Go.Proofs.YtijgopkhdjaolaaGreat
