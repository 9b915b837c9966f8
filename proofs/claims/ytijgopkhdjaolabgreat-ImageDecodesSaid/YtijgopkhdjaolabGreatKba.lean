import Derived.Test.YtijgopkhdjaolabGreatProg
import Derived.WalkKit
import Derived.WalkSpells
import Derived.WalkLawsBesides
import Derived.BigQuiet
import Derived.OwnWalk
import Derived.Deep.LoopGhost
import Derived.Deep.QuietTactic
import Derived.Deep.RegionHeldLaw
set_option linter.unusedSimpArgs false
set_option linter.unusedVariables false
set_option maxHeartbeats 16000000
set_option maxRecDepth 100000
namespace Go.Proofs.YtijgopkhdjaolabGreat
open Go.RowKit
abbrev qZ : Value:=.slice none 0 0
abbrev qV : Array Value:=#[.int .i64 0,.int .i64 0,.slice none 0 0,.slice none 0 0,.slice none 0 0,.slice none 0 0,.slice none 0 0,.slice none 0 0,.slice none 0 0,.int .i64 0,.int .i64 0,.int .i64 0,.int .i64 0]
theorem qcr {w:World} {g j:Nat} {cs:Array Value} {t:TypeId} {fr:Nat×Nat} (h:w.heap[g]?=some (.cells cs t fr)):w.cell? ⟨g,j,none⟩=cs[j]?:=cell_of_row w g j cs t fr h
theorem qn {P:Program} {md:Region.Mode} {ops:Array Oper} {Q:Exit→Act→World→Prop} {S:World→Prop} {fuel:Nat} {listed:Array Bool} {a:Act} {w:World}:AllReadyH P md ops Q S fuel listed a w []:=AllReadyH.nil
abbrev qU (n:Nat):Value:=.int .u32 (n:Int)
abbrev qS2 (W:World) (Z:Nat) (v0 v1:Value):World:=(W.setCell ⟨Z,0,none⟩ v0).setCell ⟨Z,1,none⟩ v1
abbrev qS3 (W:World) (Z:Nat) (v0 v1 v2:Value):World:=((W.setCell ⟨Z,0,none⟩ v0).setCell ⟨Z,1,none⟩ v1).setCell ⟨Z,2,none⟩ v2
abbrev qS4 (W:World) (Z:Nat) (v0 v1 v2 v3:Value):World:=(((W.setCell ⟨Z,0,none⟩ v0).setCell ⟨Z,1,none⟩ v1).setCell ⟨Z,2,none⟩ v2).setCell ⟨Z,3,none⟩ v3
abbrev qS5 (W:World) (Z:Nat) (v0 v1 v2 v3 v4:Value):World:=((((W.setCell ⟨Z,0,none⟩ v0).setCell ⟨Z,1,none⟩ v1).setCell ⟨Z,2,none⟩ v2).setCell ⟨Z,3,none⟩ v3).setCell ⟨Z,4,none⟩ v4
abbrev qS6 (W:World) (Z:Nat) (v0 v1 v2 v3 v4 v5:Value):World:=(((((W.setCell ⟨Z,0,none⟩ v0).setCell ⟨Z,1,none⟩ v1).setCell ⟨Z,2,none⟩ v2).setCell ⟨Z,3,none⟩ v3).setCell ⟨Z,4,none⟩ v4).setCell ⟨Z,5,none⟩ v5
abbrev qS7 (W:World) (Z:Nat) (v0 v1 v2 v3 v4 v5 v6:Value):World:=((((((W.setCell ⟨Z,0,none⟩ v0).setCell ⟨Z,1,none⟩ v1).setCell ⟨Z,2,none⟩ v2).setCell ⟨Z,3,none⟩ v3).setCell ⟨Z,4,none⟩ v4).setCell ⟨Z,5,none⟩ v5).setCell ⟨Z,6,none⟩ v6
abbrev qS8 (W:World) (Z:Nat) (v0 v1 v2 v3 v4 v5 v6 v7:Value):World:=(((((((W.setCell ⟨Z,0,none⟩ v0).setCell ⟨Z,1,none⟩ v1).setCell ⟨Z,2,none⟩ v2).setCell ⟨Z,3,none⟩ v3).setCell ⟨Z,4,none⟩ v4).setCell ⟨Z,5,none⟩ v5).setCell ⟨Z,6,none⟩ v6).setCell ⟨Z,7,none⟩ v7
abbrev qS9 (W:World) (Z:Nat) (v0 v1 v2 v3 v4 v5 v6 v7 v8:Value):World:=((((((((W.setCell ⟨Z,0,none⟩ v0).setCell ⟨Z,1,none⟩ v1).setCell ⟨Z,2,none⟩ v2).setCell ⟨Z,3,none⟩ v3).setCell ⟨Z,4,none⟩ v4).setCell ⟨Z,5,none⟩ v5).setCell ⟨Z,6,none⟩ v6).setCell ⟨Z,7,none⟩ v7).setCell ⟨Z,8,none⟩ v8
abbrev qS10 (W:World) (Z:Nat) (v0 v1 v2 v3 v4 v5 v6 v7 v8 v9:Value):World:=(((((((((W.setCell ⟨Z,0,none⟩ v0).setCell ⟨Z,1,none⟩ v1).setCell ⟨Z,2,none⟩ v2).setCell ⟨Z,3,none⟩ v3).setCell ⟨Z,4,none⟩ v4).setCell ⟨Z,5,none⟩ v5).setCell ⟨Z,6,none⟩ v6).setCell ⟨Z,7,none⟩ v7).setCell ⟨Z,8,none⟩ v8).setCell ⟨Z,9,none⟩ v9
abbrev qS11 (W:World) (Z:Nat) (v0 v1 v2 v3 v4 v5 v6 v7 v8 v9 v10:Value):World:=((((((((((W.setCell ⟨Z,0,none⟩ v0).setCell ⟨Z,1,none⟩ v1).setCell ⟨Z,2,none⟩ v2).setCell ⟨Z,3,none⟩ v3).setCell ⟨Z,4,none⟩ v4).setCell ⟨Z,5,none⟩ v5).setCell ⟨Z,6,none⟩ v6).setCell ⟨Z,7,none⟩ v7).setCell ⟨Z,8,none⟩ v8).setCell ⟨Z,9,none⟩ v9).setCell ⟨Z,10,none⟩ v10
abbrev qS12 (W:World) (Z:Nat) (v0 v1 v2 v3 v4 v5 v6 v7 v8 v9 v10 v11:Value):World:=(((((((((((W.setCell ⟨Z,0,none⟩ v0).setCell ⟨Z,1,none⟩ v1).setCell ⟨Z,2,none⟩ v2).setCell ⟨Z,3,none⟩ v3).setCell ⟨Z,4,none⟩ v4).setCell ⟨Z,5,none⟩ v5).setCell ⟨Z,6,none⟩ v6).setCell ⟨Z,7,none⟩ v7).setCell ⟨Z,8,none⟩ v8).setCell ⟨Z,9,none⟩ v9).setCell ⟨Z,10,none⟩ v10).setCell ⟨Z,11,none⟩ v11
abbrev qS13 (W:World) (Z:Nat) (v0 v1 v2 v3 v4 v5 v6 v7 v8 v9 v10 v11 v12:Value):World:=((((((((((((W.setCell ⟨Z,0,none⟩ v0).setCell ⟨Z,1,none⟩ v1).setCell ⟨Z,2,none⟩ v2).setCell ⟨Z,3,none⟩ v3).setCell ⟨Z,4,none⟩ v4).setCell ⟨Z,5,none⟩ v5).setCell ⟨Z,6,none⟩ v6).setCell ⟨Z,7,none⟩ v7).setCell ⟨Z,8,none⟩ v8).setCell ⟨Z,9,none⟩ v9).setCell ⟨Z,10,none⟩ v10).setCell ⟨Z,11,none⟩ v11).setCell ⟨Z,12,none⟩ v12
theorem qN : (type_of% @Act.put.eq_1)∧(type_of% @List.getElem_toArray.{0})∧(type_of% @List.getElem_cons_succ.{0})∧(type_of% @List.getElem_cons_zero.{0})∧(type_of% @List.setIfInBounds_toArray.{0})∧(type_of% @List.set_cons_zero.{0})∧(type_of% @List.set_cons_succ.{0}):=⟨@Act.put.eq_1,@List.getElem_toArray.{0},@List.getElem_cons_succ.{0},@List.getElem_cons_zero.{0},@List.setIfInBounds_toArray.{0},@List.set_cons_zero.{0},@List.set_cons_succ.{0}⟩
theorem qK {P:Program} {md:Region.Mode} {ops:Array Oper} {Q:Exit→Act→World→Prop} {S:World→Prop} {fuel:Nat} {listed:Array Bool} {a:Act} {w:World} {i:Nat} {o:Oper} {rs:List Nat} (h:∀K':Act→World→Prop,Shut (∀a w,S w→(S w→wpAnyH P md ops Q S fuel (listed.setIfInBounds i true) a w)→K' a w)→if Region.wanted o (yielded ops a.tmps)=true then Oper.wp P o a w K' Q else K' (a.put o.dst undef) w) (hs:AllReadyH P md ops Q S fuel listed a w rs) (ho:ops[i]?=some o:=by rfl):AllReadyH P md ops Q S fuel listed a w (i :: rs):=AllReadyH.cons ho h hs
theorem qW {P:Program} {md:Region.Mode} {ops:Array Oper} {Q:Exit→Act→World→Prop} {S:World→Prop} {fuel:Nat} {listed:Array Bool} {a:Act} {w:World} (rs:List Nat) (h:AllReadyH P md ops Q S fuel listed a w rs) (hr:Region.ready md ops listed=rs:=by kernel_rfl) (hne:rs≠[]:=by simp):wpAnyH P md ops Q S (fuel+1) listed a w:=wpAnyH_ready hr hne h
abbrev qB (a W:World):Prop:=Below a.heap.size a W
theorem qTH {P:Program} {md:Region.Mode} {ops:Array Oper} {Q:Exit→Act→World→Prop} {S:World→Prop} {oi:Oper} {fuel:Nat} {listed:Array Bool} {a:Act} {w:World} (i:Nat) (v:Value) (hi:ops[i]?=some oi) (hS:S w) (h:wpAnyH P md ops Q S fuel (listed.setIfInBounds i true) (a.put oi.dst v) w) (hs:Region.noSelect ops=true:=by kernel_rfl) (hf:Region.free md ops listed i=true:=by kernel_rfl) (hr:(Region.ready md ops listed).contains i=true:=by kernel_rfl) (hQ:∀c a w,Q (.panic c) (a.put oi.dst v) w→Q (.panic c) a w:=by exact fun _ _ _ h=>h) (hw:Region.wanted oi (yielded ops a.tmps)=true:=by rfl) (hy:∀w,S w→(execOp a.eval oi).run P w=.ok (.value v) w:=by intro w' hSw;(try dsimp only at hSw);(try clear hHeld);go_simp):wpAnyH P md ops Q S (fuel+1) listed a w:=wpAnyH_take hi hs hf hr hQ (Or.inl ⟨hw,hy⟩) hS h
theorem qR1 {P:Program} {md:Region.Mode} {ops:Array Oper} {Q:Exit→Act→World→Prop} {S:World→Prop} {i:Nat} {o:Oper} {fuel:Nat} {listed:Array Bool} {a:Act} {w:World} (ho:ops[i]?=some o) (h:∀K':Act→World→Prop,Shut (∀a w,S w→(S w→wpAnyH P md ops Q S fuel (listed.setIfInBounds i true) a w)→K' a w)→if Region.wanted o (yielded ops a.tmps)=true then Oper.wp P o a w K' Q else K' (a.put o.dst undef) w) (hr:Region.ready md ops listed=[i]:=by kernel_rfl):wpAnyH P md ops Q S (fuel+1) listed a w:=wpAnyH_ready hr (by simp) (AllReadyH.cons ho h AllReadyH.nil)
theorem qan {w:World} {b:Nat} {o:Obj} (h:w.heap[b]?=some o):b < w.heap.size:=by
 rcases Nat.lt_or_ge b w.heap.size with h' | h'
 ·exact h'
 ·rw [Array.getElem?_eq_none h'] at h;cases h
theorem qa5 {B:Nat} {w w':World} (hb:Below B w w') (g i:Nat) (h:g < B):w'.cell? ⟨g,i,none⟩=w.cell? ⟨g,i,none⟩:=
 World.cell?_of_block (hb.block g h)
theorem qcf (w:World) (r:Option Nat):w.grownBy w r:=⟨rfl,rfl,rfl,Nat.le_refl _,fun _ _ _=>rfl⟩
theorem qah {a b:World} {r:Option Nat} (h:Below a.heap.size a b):a.grownBy b r:=⟨h.os,h.tape,h.output,h.size,fun i hi _=>h.block i hi⟩
theorem qa0 (w:World) (o:Obj):Below w.heap.size w (w.alloc o):=(Below.refl _ _).alloc (Nat.le_refl _) _
theorem qad {w w':World} {base e size n:Nat} {v:Value} {xs:List Value} (h:w.ownsRow base e size v n xs) (hb:Below w.heap.size w w'):w'.ownsRow base e size v n xs:=by
 obtain ⟨hl,h0 | ⟨g,cap,cur,hv,hb1,hh,rr⟩⟩:=h
 ·exact ⟨hl,.inl h0⟩
 ·exact ⟨hl,.inr ⟨g,cap,cur,hv,hb1,(hb.block g (qan hh)).trans hh,rr⟩⟩
structure Tk where
 name:List UInt8
 prio:Int
 full:Bool
 act:Int
 auto:List Int
 res:List Int
 evs:List Int
 msgs:List Int
structure Rs where
 name:List UInt8
 kind:Int
 link:Int
structure Ev where
 name:List UInt8
 mask:Nat
 auto:Bool
structure Ct where
 name:List UInt8
 max:Nat
 base:Nat
 min:Nat
structure Ac where
 kind:Int
 task:Int
 event:Int
 name:List UInt8
structure Al where
 name:List UInt8
 ctr:Int
 ac:Ac
 auto:List Int
 time:Nat
 cycle:Nat
structure Is where
 name:List UInt8
 cat:Int
 prio:Int
 res:List Int
 msgs:List Int
structure Ms where
 name:List UInt8
 kind:Int
 len:Int
 frm:Int
 init:Nat
 queue:Int
 ac:Ac
structure Cf where
 cpu:List UInt8
 osn:List UInt8
 o1:Bool
 o2:Bool
 o3:Bool
 o4:Bool
 o5:Bool
 o6:Bool
 o7:Bool
 o8:Bool
 modes:List (List UInt8)
 tasks:List Tk
 ress:List Rs
 evs:List Ev
 ctrs:List Ct
 als:List Al
 isrs:List Is
 msgs:List Ms
structure Sl where
 a:Option Addr
 n:Nat
 c:Nat
structure Vs where
 m:Sl
 t:Sl
 r:Sl
 e:Sl
 k:Sl
 a:Sl
 i:Sl
 s:Sl
abbrev S (l:List UInt8):Value:=.string ⟨l.toArray⟩
abbrev I (i:Int):Value:=.int .i64 i
structure RowsAt {α:Type} (w:World) (k:Nat) (P:α→Nat→Value→Prop) (s:Sl) (l:List α):Prop where
 n:s.n=l.length
 c:s.n≤s.c
 m:s.c≤maxLen
 row:∀(j:Nat) (x:α),l[j]?=some x→∃g off,s.a=some ⟨g,off,none⟩∧g < w.heap.size∧∀i,i < k→∃u,w.cell? ⟨g,off+j * k+i,none⟩=some u∧P x i u
theorem RowsAt.below {α:Type} {w w':World} {k:Nat} {P Q:α→Nat→Value→Prop} {s:Sl} {l:List α} (h:RowsAt w k P s l) (hb:Below w.heap.size w w') (hPQ:∀x i u,x∈l→P x i u→Q x i u):RowsAt w' k Q s l:=by
 refine ⟨h.n,h.c,h.m,fun j x hj=>?_⟩;obtain ⟨g,off,e,hg,hr⟩:=h.row j x hj;refine ⟨g,off,e,Nat.lt_of_lt_of_le hg hb.size,fun i hi=>?_⟩;obtain ⟨u,h1,h2⟩:=hr i hi;exact ⟨u,by rw [qa5 hb _ _ hg];exact h1,hPQ x i u (List.mem_of_getElem? hj) h2⟩
def intP (x:Int) (_:Nat) (u:Value):Prop:=u=I x
def strP (x:List UInt8) (_:Nat) (u:Value):Prop:=u=S x
def IntsV (w:World) (l:List Int) (u:Value):Prop:=∃s:Sl,u=.slice s.a s.n s.c∧RowsAt w 1 intP s l
theorem IntsV.below {w w':World} {l:List Int} {u:Value} (h:IntsV w l u) (hb:Below w.heap.size w w'):IntsV w' l u:=by
 obtain ⟨s,e,h⟩:=h;exact ⟨s,e,h.below hb (fun _ _ _ _ h=>h)⟩
def rsP (x:Rs) (i:Nat) (u:Value):Prop:=match i with | 0=>u=S x.name | 1=>u=I x.kind | _=>u=I x.link
def evP (x:Ev) (i:Nat) (u:Value):Prop:=match i with | 0=>u=S x.name | 1=>u=.int .u32 (x.mask:Int) | _=>u=.bool x.auto
def ctP (x:Ct) (i:Nat) (u:Value):Prop:=match i with | 0=>u=S x.name | 1=>u=.int .u32 (x.max:Int) | 2=>u=.int .u32 (x.base:Int) | _=>u=.int .u32 (x.min:Int)
def tkP (w:World) (x:Tk) (i:Nat) (u:Value):Prop:=match i with | 0=>u=S x.name | 1=>u=I x.prio | 2=>u=.bool x.full | 3=>u=I x.act | 4=>IntsV w x.auto u | 5=>IntsV w x.res u | 6=>IntsV w x.evs u | _=>IntsV w x.msgs u
def alP (w:World) (x:Al) (i:Nat) (u:Value):Prop:=match i with | 0=>u=S x.name | 1=>u=I x.ctr | 2=>u=I x.ac.kind | 3=>u=I x.ac.task | 4=>u=I x.ac.event | 5=>u=S x.ac.name | 6=>IntsV w x.auto u | 7=>u=.int .u32 (x.time:Int) | _=>u=.int .u32 (x.cycle:Int)
def isP (w:World) (x:Is) (i:Nat) (u:Value):Prop:=match i with | 0=>u=S x.name | 1=>u=I x.cat | 2=>u=I x.prio | 3=>IntsV w x.res u | _=>IntsV w x.msgs u
def msP (x:Ms) (i:Nat) (u:Value):Prop:=match i with | 0=>u=S x.name | 1=>u=I x.kind | 2=>u=I x.len | 3=>u=I x.frm | 4=>u=.int .u64 (x.init:Int) | 5=>u=I x.queue | 6=>u=I x.ac.kind | 7=>u=I x.ac.task | 8=>u=I x.ac.event | _=>u=S x.ac.name
structure CfAt (w:World) (c:Cf) (v:Vs):Prop where
 m:RowsAt w 1 strP v.m c.modes
 t:RowsAt w 8 (tkP w) v.t c.tasks
 r:RowsAt w 3 rsP v.r c.ress
 e:RowsAt w 3 evP v.e c.evs
 k:RowsAt w 4 ctP v.k c.ctrs
 a:RowsAt w 9 (alP w) v.a c.als
 i:RowsAt w 5 (isP w) v.i c.isrs
 s:RowsAt w 10 msP v.s c.msgs
theorem CfAt.below {w w':World} {c:Cf} {v:Vs} (h:CfAt w c v) (hb:Below w.heap.size w w'):CfAt w' c v:=by
 refine ⟨h.m.below hb (fun _ _ _ _ h=>h),h.t.below hb (fun x i u _ h=>?_),h.r.below hb (fun _ _ _ _ h=>h),h.e.below hb (fun _ _ _ _ h=>h),h.k.below hb (fun _ _ _ _ h=>h),h.a.below hb (fun x i u _ h=>?_),h.i.below hb (fun x i u _ h=>?_),h.s.below hb (fun _ _ _ _ h=>h)⟩
 ·unfold tkP at h ⊢
  split at h <;> first | exact h | exact IntsV.below h hb
 ·unfold alP at h ⊢
  split at h <;> first | exact h | exact IntsV.below h hb
 ·unfold isP at h ⊢
  split at h <;> first | exact h | exact IntsV.below h hb
end Go.Proofs.YtijgopkhdjaolabGreat
