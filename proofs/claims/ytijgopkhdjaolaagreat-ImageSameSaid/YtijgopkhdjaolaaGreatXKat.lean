import Derived.Test.YtijgopkhdjaolaaGreatProg
import Derived.WalkKit
import Derived.WalkSpells
import Derived.WalkLawsBesides
import Derived.BigQuiet
import Derived.OwnWalk
import Derived.Deep.LoopGhost
import Derived.Deep.QuietTactic
namespace Go.Proofs.YtijgopkhdjaolaaGreat
open Go.RowKit
set_option linter.unusedSimpArgs false
set_option linter.unusedVariables false
set_option maxHeartbeats 16000000
set_option maxRecDepth 100000
theorem q7a : type_of% @List.getElem_toArray := @List.getElem_toArray
theorem q7b : type_of% @List.getElem_cons_succ := @List.getElem_cons_succ
theorem q7c : type_of% @List.getElem_cons_zero := @List.getElem_cons_zero
theorem q7d : type_of% @List.setIfInBounds_toArray := @List.setIfInBounds_toArray
theorem q7e : type_of% @List.set_cons_zero := @List.set_cons_zero
theorem q7f : type_of% @List.set_cons_succ := @List.set_cons_succ
theorem qay {w : World} {b : Nat} {o : Obj} (h : w.heap[b]? = some o) : b < w.heap.size := by
 rcases Nat.lt_or_ge b w.heap.size with h' | h'
 ·exact h'
 ·rw [Array.getElem?_eq_none h'] at h; cases h
theorem qa6 {B : Nat} {w w' : World} (hb : Below B w w') (g i : Nat) (h : g < B) : w'.cell? ⟨g,i,none⟩ = w.cell? ⟨g,i,none⟩ :=
 World.cell?_of_block (hb.block g h)
theorem qbl (w : World) (r : Option Nat) : w.grownBy w r := ⟨rfl,rfl,rfl,Nat.le_refl _,fun _ _ _ => rfl⟩
theorem qa9 {a b : World} {r : Option Nat} (h : Below a.heap.size a b) : a.grownBy b r := ⟨h.os,h.tape,h.output,h.size,fun i hi _ => h.block i hi⟩
theorem qhw {a b : World} (h : a.grownBy b none) : Below a.heap.size a b := (Below.refl _ _).grown h (Nat.le_refl _) (fun k e => by cases e)
theorem qa0 (w : World) (o : Obj) : Below w.heap.size w (w.alloc o) := (Below.refl _ _).alloc (Nat.le_refl _) _
theorem qa2 {w w' : World} {base e size n : Nat} {v : Value} {xs : List Value} (h : w.ownsRow base e size v n xs) (hb : Below w.heap.size w w') : w'.ownsRow base e size v n xs := by
 obtain ⟨hl,h0 | ⟨g,cap,cur,hv,hb1,hh,rr⟩⟩ := h
 ·exact ⟨hl, .inl h0⟩
 ·exact ⟨hl, .inr ⟨g,cap,cur,hv,hb1,(hb.block g (qay hh)).trans hh,rr⟩⟩
structure Tk where
 name : List UInt8
 prio : Int
 full : Bool
 act : Int
 auto : List Int
 res : List Int
 evs : List Int
 msgs : List Int
structure Rs where
 name : List UInt8
 kind : Int
 link : Int
structure Ev where
 name : List UInt8
 mask : Nat
 auto : Bool
structure Ct where
 name : List UInt8
 max : Nat
 base : Nat
 min : Nat
structure Ac where
 kind : Int
 task : Int
 event : Int
 name : List UInt8
structure Al where
 name : List UInt8
 ctr : Int
 ac : Ac
 auto : List Int
 time : Nat
 cycle : Nat
structure Is where
 name : List UInt8
 cat : Int
 prio : Int
 res : List Int
 msgs : List Int
structure Ms where
 name : List UInt8
 kind : Int
 len : Int
 frm : Int
 init : Nat
 queue : Int
 ac : Ac
structure Cf where
 cpu : List UInt8
 osn : List UInt8
 o1 : Bool
 o2 : Bool
 o3 : Bool
 o4 : Bool
 o5 : Bool
 o6 : Bool
 o7 : Bool
 o8 : Bool
 modes : List (List UInt8)
 tasks : List Tk
 ress : List Rs
 evs : List Ev
 ctrs : List Ct
 als : List Al
 isrs : List Is
 msgs : List Ms
structure Sl where
 a : Option Addr
 n : Nat
 c : Nat
structure Vs where
 m : Sl
 t : Sl
 r : Sl
 e : Sl
 k : Sl
 a : Sl
 i : Sl
 s : Sl
abbrev S (l : List UInt8) : Value := .string ⟨l.toArray⟩
abbrev I (i : Int) : Value := .int .i64 i
structure RowsAt {α : Type} (w : World) (k : Nat) (P : α → Nat → Value → Prop) (s : Sl) (l : List α) : Prop where
 n : s.n = l.length
 c : s.n ≤ s.c
 m : s.c ≤ maxLen
 row : ∀ (j : Nat) (x : α),l[j]? = some x → ∃ g off,s.a = some ⟨g,off,none⟩ ∧ g < w.heap.size ∧ ∀ i,i < k → ∃ u,w.cell? ⟨g,off + j * k + i,none⟩ = some u ∧ P x i u
theorem RowsAt.below {α : Type} {w w' : World} {k : Nat} {P Q : α → Nat → Value → Prop} {s : Sl} {l : List α} (h : RowsAt w k P s l) (hb : Below w.heap.size w w') (hPQ : ∀ x i u,x ∈ l → P x i u → Q x i u) : RowsAt w' k Q s l := by
 refine ⟨h.n,h.c,h.m,fun j x hj => ?_⟩
 obtain ⟨g,off,e,hg,hr⟩ := h.row j x hj
 refine ⟨g,off,e,Nat.lt_of_lt_of_le hg hb.size,fun i hi => ?_⟩
 obtain ⟨u,h1,h2⟩ := hr i hi
 exact ⟨u,by rw [qa6 hb _ _ hg]; exact h1,hPQ x i u (List.mem_of_getElem? hj) h2⟩
def intP (x : Int) (_ : Nat) (u : Value) : Prop := u = I x
def strP (x : List UInt8) (_ : Nat) (u : Value) : Prop := u = S x
def IntsV (w : World) (l : List Int) (u : Value) : Prop := ∃ s : Sl,u = .slice s.a s.n s.c ∧ RowsAt w 1 intP s l
theorem IntsV.below {w w' : World} {l : List Int} {u : Value} (h : IntsV w l u) (hb : Below w.heap.size w w') : IntsV w' l u := by
 obtain ⟨s,e,h⟩ := h
 exact ⟨s,e,h.below hb (fun _ _ _ _ h => h)⟩
def rsP (x : Rs) (i : Nat) (u : Value) : Prop := match i with | 0 => u = S x.name | 1 => u = I x.kind | _ => u = I x.link
def evP (x : Ev) (i : Nat) (u : Value) : Prop := match i with | 0 => u = S x.name | 1 => u = .int .u32 (x.mask : Int) | _ => u = .bool x.auto
def ctP (x : Ct) (i : Nat) (u : Value) : Prop := match i with | 0 => u = S x.name | 1 => u = .int .u32 (x.max : Int) | 2 => u = .int .u32 (x.base : Int) | _ => u = .int .u32 (x.min : Int)
def tkP (w : World) (x : Tk) (i : Nat) (u : Value) : Prop := match i with | 0 => u = S x.name | 1 => u = I x.prio | 2 => u = .bool x.full | 3 => u = I x.act | 4 => IntsV w x.auto u | 5 => IntsV w x.res u | 6 => IntsV w x.evs u | _ => IntsV w x.msgs u
def alP (w : World) (x : Al) (i : Nat) (u : Value) : Prop := match i with | 0 => u = S x.name | 1 => u = I x.ctr | 2 => u = I x.ac.kind | 3 => u = I x.ac.task | 4 => u = I x.ac.event | 5 => u = S x.ac.name | 6 => IntsV w x.auto u | 7 => u = .int .u32 (x.time : Int) | _ => u = .int .u32 (x.cycle : Int)
def isP (w : World) (x : Is) (i : Nat) (u : Value) : Prop := match i with | 0 => u = S x.name | 1 => u = I x.cat | 2 => u = I x.prio | 3 => IntsV w x.res u | _ => IntsV w x.msgs u
def msP (x : Ms) (i : Nat) (u : Value) : Prop := match i with | 0 => u = S x.name | 1 => u = I x.kind | 2 => u = I x.len | 3 => u = I x.frm | 4 => u = .int .u64 (x.init : Int) | 5 => u = I x.queue | 6 => u = I x.ac.kind | 7 => u = I x.ac.task | 8 => u = I x.ac.event | _ => u = S x.ac.name
structure CfAt (w : World) (c : Cf) (v : Vs) : Prop where
 m : RowsAt w 1 strP v.m c.modes
 t : RowsAt w 8 (tkP w) v.t c.tasks
 r : RowsAt w 3 rsP v.r c.ress
 e : RowsAt w 3 evP v.e c.evs
 k : RowsAt w 4 ctP v.k c.ctrs
 a : RowsAt w 9 (alP w) v.a c.als
 i : RowsAt w 5 (isP w) v.i c.isrs
 s : RowsAt w 10 msP v.s c.msgs
theorem CfAt.below {w w' : World} {c : Cf} {v : Vs} (h : CfAt w c v) (hb : Below w.heap.size w w') : CfAt w' c v := by
 refine ⟨h.m.below hb (fun _ _ _ _ h => h),h.t.below hb (fun x i u _ h => ?_),h.r.below hb (fun _ _ _ _ h => h),h.e.below hb (fun _ _ _ _ h => h),h.k.below hb (fun _ _ _ _ h => h),h.a.below hb (fun x i u _ h => ?_),h.i.below hb (fun x i u _ h => ?_),h.s.below hb (fun _ _ _ _ h => h)⟩
 ·unfold tkP at h ⊢
  split at h <;> first | exact h | exact IntsV.below h hb
 ·unfold alP at h ⊢
  split at h <;> first | exact h | exact IntsV.below h hb
 ·unfold isP at h ⊢
  split at h <;> first | exact h | exact IntsV.below h hb
end Go.Proofs.YtijgopkhdjaolaaGreat
