import Derived.Test.YtijgopkhdjaolabGreatKba
set_option linter.unusedSimpArgs false
set_option linter.unusedVariables false
set_option maxHeartbeats 16000000
set_option maxRecDepth 100000
namespace Go.Proofs.YtijgopkhdjaolabGreat
open Go.RowKit
structure TkR where
 prio:Int
 ring:Int
 full:Bool
 limit:Int
 mask:Nat
 inner:Int
 own:List Int
 auto:Nat
structure RgR where
 prio:Int
 cap:Int
 deriving DecidableEq
structure RsR where
 inner:Bool
 ceil:Int
structure CtR where
 max:Nat
 base:Nat
 min:Nat
structure AcR where
 kind:Int
 task:Int
 mask:Nat
structure AlR where
 ctr:Int
 ac:AcR
 auto:Nat
 time:Nat
 cycle:Nat
structure IsR where
 cat:Int
 prio:Int
 own:List Int
structure MsR where
 kind:Int
 len:Int
 frm:Int
 init:Nat
 queue:Int
 ac:AcR
structure Tb where
 uses:Int
 modes:Int
 tasks:List TkR
 rings:List RgR
 ress:List RsR
 ctrs:List CtR
 als:List AlR
 isrs:List IsR
 msgs:List MsR
 depth:Int
 frames:Int
 errors:Int
 calls:Int
structure Ts where
 t:Sl
 g:Sl
 r:Sl
 k:Sl
 a:Sl
 i:Sl
 s:Sl
abbrev slT (s:Sl):Value:=.slice s.a s.n s.c
abbrev qC (x:Tb) (y:Ts):Array Value:=#[I x.uses,I x.modes,.slice y.t.a y.t.n y.t.c,.slice y.g.a y.g.n y.g.c,.slice y.r.a y.r.n y.r.c,.slice y.k.a y.k.n y.k.c,.slice y.a.a y.a.n y.a.c,.slice y.i.a y.i.n y.i.c,.slice y.s.a y.s.n y.s.c,I x.depth,I x.frames,I x.errors,I x.calls]
abbrev qP (W:World) (X:Nat) (x:Tb) (y:Ts):Prop:=W.cell? ⟨X,0,none⟩=some (I x.uses)∧W.cell? ⟨X,1,none⟩=some (I x.modes)∧W.cell? ⟨X,2,none⟩=some (.slice y.t.a y.t.n y.t.c)∧W.cell? ⟨X,3,none⟩=some (.slice y.g.a y.g.n y.g.c)∧W.cell? ⟨X,4,none⟩=some (.slice y.r.a y.r.n y.r.c)∧W.cell? ⟨X,5,none⟩=some (.slice y.k.a y.k.n y.k.c)∧W.cell? ⟨X,6,none⟩=some (.slice y.a.a y.a.n y.a.c)∧W.cell? ⟨X,7,none⟩=some (.slice y.i.a y.i.n y.i.c)∧W.cell? ⟨X,8,none⟩=some (.slice y.s.a y.s.n y.s.c)∧W.cell? ⟨X,9,none⟩=some (I x.depth)∧W.cell? ⟨X,10,none⟩=some (I x.frames)∧W.cell? ⟨X,11,none⟩=some (I x.errors)∧W.cell? ⟨X,12,none⟩=some (I x.calls)
def tbC (tb:Tb) (v:Ts):Array Value:=#[I tb.uses,I tb.modes,.slice v.t.a v.t.n v.t.c,.slice v.g.a v.g.n v.g.c,.slice v.r.a v.r.n v.r.c,.slice v.k.a v.k.n v.k.c,.slice v.a.a v.a.n v.a.c,.slice v.i.a v.i.n v.i.c,.slice v.s.a v.s.n v.s.c,I tb.depth,I tb.frames,I tb.errors,I tb.calls]
def tkrP (w:World) (x:TkR) (i:Nat) (u:Value):Prop:=match i with | 0=>u=I x.prio | 1=>u=I x.ring | 2=>u=.bool x.full | 3=>u=I x.limit | 4=>u=.int .u32 (x.mask:Int) | 5=>u=I x.inner | 6=>IntsV w x.own u | _=>u=.int .u32 (x.auto:Int)
def rgrP (x:RgR) (i:Nat) (u:Value):Prop:=match i with | 0=>u=I x.prio | _=>u=I x.cap
def rsrP (x:RsR) (i:Nat) (u:Value):Prop:=match i with | 0=>u=.bool x.inner | _=>u=I x.ceil
def ctrP (x:CtR) (i:Nat) (u:Value):Prop:=match i with | 0=>u=.int .u32 (x.max:Int) | 1=>u=.int .u32 (x.base:Int) | _=>u=.int .u32 (x.min:Int)
def alrP (x:AlR) (i:Nat) (u:Value):Prop:=match i with | 0=>u=I x.ctr | 1=>u=I x.ac.kind | 2=>u=I x.ac.task | 3=>u=.int .u32 (x.ac.mask:Int) | 4=>u=.int .u32 (x.auto:Int) | 5=>u=.int .u32 (x.time:Int) | _=>u=.int .u32 (x.cycle:Int)
def isrP (w:World) (x:IsR) (i:Nat) (u:Value):Prop:=match i with | 0=>u=I x.cat | 1=>u=I x.prio | _=>IntsV w x.own u
def msrP (x:MsR) (i:Nat) (u:Value):Prop:=match i with | 0=>u=I x.kind | 1=>u=I x.len | 2=>u=I x.frm | 3=>u=.int .u64 (x.init:Int) | 4=>u=I x.queue | 5=>u=I x.ac.kind | 6=>u=I x.ac.task | _=>u=.int .u32 (x.ac.mask:Int)
structure TbAt (w:World) (tb:Tb) (v:Ts):Prop where
 t:RowsAt w 8 (tkrP w) v.t tb.tasks
 g:RowsAt w 2 rgrP v.g tb.rings
 r:RowsAt w 2 rsrP v.r tb.ress
 k:RowsAt w 3 ctrP v.k tb.ctrs
 a:RowsAt w 7 alrP v.a tb.als
 i:RowsAt w 3 (isrP w) v.i tb.isrs
 s:RowsAt w 8 msrP v.s tb.msgs
theorem TbAt.below {w w':World} {tb:Tb} {v:Ts} (h:TbAt w tb v) (hb:qB w w'):TbAt w' tb v:=by
 refine ⟨h.t.below hb (fun x i u _ h=>?_),h.g.below hb (fun _ _ _ _ h=>h),h.r.below hb (fun _ _ _ _ h=>h),h.k.below hb (fun _ _ _ _ h=>h),h.a.below hb (fun _ _ _ _ h=>h),h.i.below hb (fun x i u _ h=>?_),h.s.below hb (fun _ _ _ _ h=>h)⟩
 ·unfold tkrP at h ⊢
  split at h <;> first | exact h | exact IntsV.below h hb
 ·unfold isrP at h ⊢
  split at h <;> first | exact h | exact IntsV.below h hb
theorem qdi {w:World} {tb:Tb} {v:Ts} (h:TbAt w tb v) {j:Nat} {x:TkR} (hj:tb.tasks[j]?=some x):∃(g off:Nat) (s6:Sl),v.t.a=some ⟨g,off,none⟩∧g < w.heap.size∧w.cell? ⟨g,off+j * 8,none⟩=some (I x.prio)∧w.cell? ⟨g,off+j * 8+1,none⟩=some (I x.ring)∧w.cell? ⟨g,off+j * 8+2,none⟩=some (.bool x.full)∧w.cell? ⟨g,off+j * 8+3,none⟩=some (I x.limit)∧w.cell? ⟨g,off+j * 8+4,none⟩=some (.int .u32 (x.mask:Int))∧w.cell? ⟨g,off+j * 8+5,none⟩=some (I x.inner)∧w.cell? ⟨g,off+j * 8+6,none⟩=some (.slice s6.a s6.n s6.c)∧w.cell? ⟨g,off+j * 8+7,none⟩=some (.int .u32 (x.auto:Int))∧RowsAt w 1 intP s6 x.own:=by
 obtain ⟨g,off,e,hg,hr⟩:=h.t.row j x hj;obtain ⟨u0,a0,b0⟩:=hr 0 (by omega);have e0:u0=I x.prio:=b0;rw [e0] at a0;obtain ⟨u1,a1,b1⟩:=hr 1 (by omega);have e1:u1=I x.ring:=b1;rw [e1] at a1;obtain ⟨u2,a2,b2⟩:=hr 2 (by omega);have e2:u2=.bool x.full:=b2;rw [e2] at a2;obtain ⟨u3,a3,b3⟩:=hr 3 (by omega);have e3:u3=I x.limit:=b3;rw [e3] at a3;obtain ⟨u4,a4,b4⟩:=hr 4 (by omega);have e4:u4=.int .u32 (x.mask:Int):=b4;rw [e4] at a4;obtain ⟨u5,a5,b5⟩:=hr 5 (by omega);have e5:u5=I x.inner:=b5;rw [e5] at a5;obtain ⟨u6,a6,b6⟩:=hr 6 (by omega);obtain ⟨s6,e6,r6⟩:=(show IntsV w x.own u6 from b6);rw [e6] at a6;obtain ⟨u7,a7,b7⟩:=hr 7 (by omega);have e7:u7=.int .u32 (x.auto:Int):=b7;rw [e7] at a7;rw [Nat.add_zero] at a0;exact ⟨g,off,s6,e,hg,a0,a1,a2,a3,a4,a5,a6,a7,r6⟩
theorem qgu {w:World} {tb:Tb} {v:Ts} (h:TbAt w tb v) {j:Nat} {x:RgR} (hj:tb.rings[j]?=some x):∃(g off:Nat),v.g.a=some ⟨g,off,none⟩∧g < w.heap.size∧w.cell? ⟨g,off+j * 2,none⟩=some (I x.prio)∧w.cell? ⟨g,off+j * 2+1,none⟩=some (I x.cap):=by
 obtain ⟨g,off,e,hg,hr⟩:=h.g.row j x hj;obtain ⟨u0,a0,b0⟩:=hr 0 (by omega);have e0:u0=I x.prio:=b0;rw [e0] at a0;obtain ⟨u1,a1,b1⟩:=hr 1 (by omega);have e1:u1=I x.cap:=b1;rw [e1] at a1;rw [Nat.add_zero] at a0;exact ⟨g,off,e,hg,a0,a1⟩
theorem qgv {w:World} {tb:Tb} {v:Ts} (h:TbAt w tb v) {j:Nat} {x:RsR} (hj:tb.ress[j]?=some x):∃(g off:Nat),v.r.a=some ⟨g,off,none⟩∧g < w.heap.size∧w.cell? ⟨g,off+j * 2,none⟩=some (.bool x.inner)∧w.cell? ⟨g,off+j * 2+1,none⟩=some (I x.ceil):=by
 obtain ⟨g,off,e,hg,hr⟩:=h.r.row j x hj;obtain ⟨u0,a0,b0⟩:=hr 0 (by omega);have e0:u0=.bool x.inner:=b0;rw [e0] at a0;obtain ⟨u1,a1,b1⟩:=hr 1 (by omega);have e1:u1=I x.ceil:=b1;rw [e1] at a1;rw [Nat.add_zero] at a0;exact ⟨g,off,e,hg,a0,a1⟩
theorem qgw {w:World} {tb:Tb} {v:Ts} (h:TbAt w tb v) {j:Nat} {x:CtR} (hj:tb.ctrs[j]?=some x):∃(g off:Nat),v.k.a=some ⟨g,off,none⟩∧g < w.heap.size∧w.cell? ⟨g,off+j * 3,none⟩=some (.int .u32 (x.max:Int))∧w.cell? ⟨g,off+j * 3+1,none⟩=some (.int .u32 (x.base:Int))∧w.cell? ⟨g,off+j * 3+2,none⟩=some (.int .u32 (x.min:Int)):=by
 obtain ⟨g,off,e,hg,hr⟩:=h.k.row j x hj;obtain ⟨u0,a0,b0⟩:=hr 0 (by omega);have e0:u0=.int .u32 (x.max:Int):=b0;rw [e0] at a0;obtain ⟨u1,a1,b1⟩:=hr 1 (by omega);have e1:u1=.int .u32 (x.base:Int):=b1;rw [e1] at a1;obtain ⟨u2,a2,b2⟩:=hr 2 (by omega);have e2:u2=.int .u32 (x.min:Int):=b2;rw [e2] at a2;rw [Nat.add_zero] at a0;exact ⟨g,off,e,hg,a0,a1,a2⟩
theorem qgx {w:World} {tb:Tb} {v:Ts} (h:TbAt w tb v) {j:Nat} {x:AlR} (hj:tb.als[j]?=some x):∃(g off:Nat),v.a.a=some ⟨g,off,none⟩∧g < w.heap.size∧w.cell? ⟨g,off+j * 7,none⟩=some (I x.ctr)∧w.cell? ⟨g,off+j * 7+1,none⟩=some (I x.ac.kind)∧w.cell? ⟨g,off+j * 7+2,none⟩=some (I x.ac.task)∧w.cell? ⟨g,off+j * 7+3,none⟩=some (.int .u32 (x.ac.mask:Int))∧w.cell? ⟨g,off+j * 7+4,none⟩=some (.int .u32 (x.auto:Int))∧w.cell? ⟨g,off+j * 7+5,none⟩=some (.int .u32 (x.time:Int))∧w.cell? ⟨g,off+j * 7+6,none⟩=some (.int .u32 (x.cycle:Int)):=by
 obtain ⟨g,off,e,hg,hr⟩:=h.a.row j x hj;obtain ⟨u0,a0,b0⟩:=hr 0 (by omega);have e0:u0=I x.ctr:=b0;rw [e0] at a0;obtain ⟨u1,a1,b1⟩:=hr 1 (by omega);have e1:u1=I x.ac.kind:=b1;rw [e1] at a1;obtain ⟨u2,a2,b2⟩:=hr 2 (by omega);have e2:u2=I x.ac.task:=b2;rw [e2] at a2;obtain ⟨u3,a3,b3⟩:=hr 3 (by omega);have e3:u3=.int .u32 (x.ac.mask:Int):=b3;rw [e3] at a3;obtain ⟨u4,a4,b4⟩:=hr 4 (by omega);have e4:u4=.int .u32 (x.auto:Int):=b4;rw [e4] at a4;obtain ⟨u5,a5,b5⟩:=hr 5 (by omega);have e5:u5=.int .u32 (x.time:Int):=b5;rw [e5] at a5;obtain ⟨u6,a6,b6⟩:=hr 6 (by omega);have e6:u6=.int .u32 (x.cycle:Int):=b6;rw [e6] at a6;rw [Nat.add_zero] at a0;exact ⟨g,off,e,hg,a0,a1,a2,a3,a4,a5,a6⟩
theorem qdj {w:World} {tb:Tb} {v:Ts} (h:TbAt w tb v) {j:Nat} {x:IsR} (hj:tb.isrs[j]?=some x):∃(g off:Nat) (s2:Sl),v.i.a=some ⟨g,off,none⟩∧g < w.heap.size∧w.cell? ⟨g,off+j * 3,none⟩=some (I x.cat)∧w.cell? ⟨g,off+j * 3+1,none⟩=some (I x.prio)∧w.cell? ⟨g,off+j * 3+2,none⟩=some (.slice s2.a s2.n s2.c)∧RowsAt w 1 intP s2 x.own:=by
 obtain ⟨g,off,e,hg,hr⟩:=h.i.row j x hj;obtain ⟨u0,a0,b0⟩:=hr 0 (by omega);have e0:u0=I x.cat:=b0;rw [e0] at a0;obtain ⟨u1,a1,b1⟩:=hr 1 (by omega);have e1:u1=I x.prio:=b1;rw [e1] at a1;obtain ⟨u2,a2,b2⟩:=hr 2 (by omega);obtain ⟨s2,e2,r2⟩:=(show IntsV w x.own u2 from b2);rw [e2] at a2;rw [Nat.add_zero] at a0;exact ⟨g,off,s2,e,hg,a0,a1,a2,r2⟩
theorem qf7 {w:World} {tb:Tb} {v:Ts} (h:TbAt w tb v) {j:Nat} {x:MsR} (hj:tb.msgs[j]?=some x):∃(g off:Nat),v.s.a=some ⟨g,off,none⟩∧g < w.heap.size∧w.cell? ⟨g,off+j * 8,none⟩=some (I x.kind)∧w.cell? ⟨g,off+j * 8+1,none⟩=some (I x.len)∧w.cell? ⟨g,off+j * 8+2,none⟩=some (I x.frm)∧w.cell? ⟨g,off+j * 8+3,none⟩=some (.int .u64 (x.init:Int))∧w.cell? ⟨g,off+j * 8+4,none⟩=some (I x.queue)∧w.cell? ⟨g,off+j * 8+5,none⟩=some (I x.ac.kind)∧w.cell? ⟨g,off+j * 8+6,none⟩=some (I x.ac.task)∧w.cell? ⟨g,off+j * 8+7,none⟩=some (.int .u32 (x.ac.mask:Int)):=by
 obtain ⟨g,off,e,hg,hr⟩:=h.s.row j x hj;obtain ⟨u0,a0,b0⟩:=hr 0 (by omega);have e0:u0=I x.kind:=b0;rw [e0] at a0;obtain ⟨u1,a1,b1⟩:=hr 1 (by omega);have e1:u1=I x.len:=b1;rw [e1] at a1;obtain ⟨u2,a2,b2⟩:=hr 2 (by omega);have e2:u2=I x.frm:=b2;rw [e2] at a2;obtain ⟨u3,a3,b3⟩:=hr 3 (by omega);have e3:u3=.int .u64 (x.init:Int):=b3;rw [e3] at a3;obtain ⟨u4,a4,b4⟩:=hr 4 (by omega);have e4:u4=I x.queue:=b4;rw [e4] at a4;obtain ⟨u5,a5,b5⟩:=hr 5 (by omega);have e5:u5=I x.ac.kind:=b5;rw [e5] at a5;obtain ⟨u6,a6,b6⟩:=hr 6 (by omega);have e6:u6=I x.ac.task:=b6;rw [e6] at a6;obtain ⟨u7,a7,b7⟩:=hr 7 (by omega);have e7:u7=.int .u32 (x.ac.mask:Int):=b7;rw [e7] at a7;rw [Nat.add_zero] at a0;exact ⟨g,off,e,hg,a0,a1,a2,a3,a4,a5,a6,a7⟩
theorem qbo {w:World} {b:Nat} {tb:Tb} {v:Ts} (h:w.heap[b]?=some (.cells (tbC tb v) 32 (0,0))) :
  w.cell? ⟨b,0,none⟩=some (I tb.uses)∧w.cell? ⟨b,1,none⟩=some (I tb.modes)∧w.cell? ⟨b,2,none⟩=some (.slice v.t.a v.t.n v.t.c)∧w.cell? ⟨b,3,none⟩=some (.slice v.g.a v.g.n v.g.c)∧w.cell? ⟨b,4,none⟩=some (.slice v.r.a v.r.n v.r.c)∧w.cell? ⟨b,5,none⟩=some (.slice v.k.a v.k.n v.k.c)∧w.cell? ⟨b,6,none⟩=some (.slice v.a.a v.a.n v.a.c)∧w.cell? ⟨b,7,none⟩=some (.slice v.i.a v.i.n v.i.c)∧w.cell? ⟨b,8,none⟩=some (.slice v.s.a v.s.n v.s.c)∧w.cell? ⟨b,9,none⟩=some (I tb.depth)∧w.cell? ⟨b,10,none⟩=some (I tb.frames)∧w.cell? ⟨b,11,none⟩=some (I tb.errors)∧w.cell? ⟨b,12,none⟩=some (I tb.calls):=by
 have a1:=fun i=>cell_of_row w b i _ _ (0,0) h
 exact ⟨a1 0,a1 1,a1 2,a1 3,a1 4,a1 5,a1 6,a1 7,a1 8,a1 9,a1 10,a1 11,a1 12⟩
def inI (v lo hi:Int):Bool:=decide (lo≤v)&&decide (v≤hi)
def idB (v:Int) (n:Nat):Bool:=decide (0≤v)&&decide (v < (n:Int))
def qea (x:TkR):Bool:=if x.mask≠0 then x.limit==1 else inI x.limit 1 255
def capN (l:List TkR) (p:Int):Int:=match l with
 | []=>0
 | x :: r=>(if x.prio=p then x.limit else 0)+capN r p
def qc6 (ts:List TkR):Int→List RgR→Bool
 | _,[]=>true
 | ahead,r :: l=>inI r.prio 0 (ahead - 1)&&ts.any (fun x=>x.prio==r.prio)&&(r.cap==capN ts r.prio)&&qc6 ts r.prio l
def qct (l:List RgR) (i:Int):Int:=match l[i.toNat]? with | some r=>r.prio | none=>0
def qb3 (ts:List TkR):Nat→List RgR
 | 0=>[]
 | p+1=>if 0 < capN ts (p:Int) then ⟨(p:Int),capN ts (p:Int)⟩ :: qb3 ts p else qb3 ts p
theorem qkr {ts:List TkR} (hl:∀x∈ts,1≤x.limit) (p:Int):0≤capN ts p∧(0 < capN ts p ↔ ∃x∈ts,x.prio=p):=by
 induction ts with
 | nil=>simp [capN]
 | cons y r ih=>
  have h1:=hl y (List.mem_cons_self ..);obtain ⟨i1,i2⟩:=ih (fun x hx=>hl x (List.mem_cons_of_mem _ hx));rw [capN];by_cases hp:y.prio=p
  ·rw [if_pos hp]
   refine ⟨by omega,fun _=>⟨y,List.mem_cons_self ..,hp⟩,fun _=>by omega⟩
  ·rw [if_neg hp,Int.zero_add]
   refine ⟨i1,?_⟩;rw [i2];constructor
   ·rintro ⟨x,hx,e⟩
    exact ⟨x,List.mem_cons_of_mem _ hx,e⟩
   ·rintro ⟨x,hx,e⟩
    rcases List.mem_cons.1 hx with rfl | hx
    ·exact absurd e hp
    ·exact ⟨x,hx,e⟩
theorem qew {ts:List TkR} (hl:∀x∈ts,1≤x.limit):∀(n:Nat) (l:List RgR),qc6 ts (n:Int) l=true→(∀x∈ts,x.prio < (n:Int)→∃r∈l,r.prio=x.prio)→l=qb3 ts n
 | 0,l,h,hm=>by
  cases l with
  | nil=>rfl
  | cons r l=>
   rw [qc6] at h;simp [inI] at h;omega
 | n+1,l,h,hm=>by
  rw [qb3];have hc:=qkr hl (n:Int);cases l with
  | nil=>
   have:¬0 < capN ts (n:Int):=fun h0=>by
    obtain ⟨x,hx,e⟩:=hc.2.1 h0;obtain ⟨r,hr,_⟩:=hm x hx (by omega);cases hr
   rw [if_neg this];exact qew hl n [] (by rw [qc6]) (fun x hx hp=>by
    obtain ⟨r,hr,_⟩:=hm x hx (by omega);cases hr)
  | cons r l=>
   have h':=h;rw [qc6] at h';simp only [Bool.and_eq_true,inI,decide_eq_true_eq,beq_iff_eq,List.any_eq_true] at h';obtain ⟨⟨⟨⟨h1,h2⟩,x,hx,hxp⟩,h4⟩,h5⟩:=h';by_cases hr:r.prio=(n:Int)
   ·have hpos:0 < capN ts (n:Int):=hc.2.2 ⟨x,hx,by omega⟩
    rw [if_pos hpos];have e:r=⟨(n:Int),capN ts (n:Int)⟩:=by
     cases r;simp only at hr h4 ⊢;subst hr;rw [h4]
    rw [hr] at h5;have:=qew hl n l h5 (fun y hy hp=>by
     obtain ⟨r',hr',e'⟩:=hm y hy (by omega);rcases List.mem_cons.1 hr' with rfl | hr'
     ·omega
     ·exact ⟨r',hr',e'⟩)
    rw [e,this]
   ·have hno:¬0 < capN ts (n:Int):=fun h0=>by
     obtain ⟨y,hy,ey⟩:=hc.2.1 h0;obtain ⟨r',hr',e'⟩:=hm y hy (by omega);rcases List.mem_cons.1 hr' with rfl | hr'
     ·omega
     ·have:=rings_lt h5 r' hr'
      omega
    rw [if_neg hno];exact qew hl n (r :: l) (by
     rw [qc6];simp only [Bool.and_eq_true,inI,decide_eq_true_eq,beq_iff_eq,List.any_eq_true];exact ⟨⟨⟨⟨h1,by omega⟩,x,hx,hxp⟩,h4⟩,h5⟩) (fun y hy hp=>hm y hy (by omega))
 where
  rings_lt {ts:List TkR}:∀{a:Int} {l:List RgR},qc6 ts a l=true→∀r∈l,r.prio < a
   | a,[],_,r,hr=>by cases hr
   | a,r0 :: l,h,r,hr=>by
    rw [qc6] at h;simp only [Bool.and_eq_true,inI,decide_eq_true_eq] at h;rcases List.mem_cons.1 hr with rfl | hr
    ·omega
    ·have:=rings_lt h.2 r hr
     omega
theorem qi2 {ts:List TkR} (hl:∀x∈ts,1≤x.limit):∀n:Nat,qc6 ts (n:Int) (qb3 ts n)=true
 | 0=>by rw [qb3,qc6]
 | n+1=>by
  have ih:=qi2 hl n;have hc:=qkr hl (n:Int);rw [qb3];by_cases h0:0 < capN ts (n:Int)
  ·rw [if_pos h0,qc6]
   obtain ⟨x,hx,e⟩:=hc.2.1 h0;simp only [Bool.and_eq_true,inI,decide_eq_true_eq,beq_iff_eq,List.any_eq_true];exact ⟨⟨⟨⟨by omega,by omega⟩,x,hx,e⟩,trivial⟩,ih⟩
  ·rw [if_neg h0]
   exact ringsG_mono ih (by omega)
 where
  ringsG_mono {ts:List TkR}:∀{a b:Int} {l:List RgR},qc6 ts a l=true→a≤b→qc6 ts b l=true
   | a,b,[],_,_=>by rw [qc6]
   | a,b,r :: l,h,hab=>by
    rw [qc6] at h ⊢;simp only [Bool.and_eq_true,inI,decide_eq_true_eq] at h ⊢;exact ⟨⟨⟨⟨h.1.1.1.1,by omega⟩,h.1.1.2⟩,h.1.2⟩,h.2⟩
def qch (ts:List TkR):Int→List RgR→Bool
 | _,[]=>true
 | ahead,r :: l=>inI r.prio 0 (ahead - 1)&&ts.any (fun x=>x.prio==r.prio)&&(r.cap==IntKind.i64.wrap (capN ts r.prio))&&qch ts r.prio l
def qfd (tb:Tb) (prio id:Int):Bool:=match tb.ress[id.toNat]? with | some r=>!r.inner&&decide (prio≤r.ceil) | none=>false
def ownG (tb:Tb) (prio:Int):Int→List Int→Bool
 | _,[]=>true
 | a,id :: l=>decide (a < id)&&idB id tb.ress.length&&qfd tb prio id&&ownG tb prio id l
def qcv (tb:Tb) (a:Nat):Bool:=decide (a < 2 ^ tb.modes.toNat)
def qex (tb:Tb) (x:TkR):Bool:=(x.inner==-1 || inI x.inner x.prio 127)&&ownG tb x.prio (-1) x.own&&qcv tb x.auto
def tkB (tb:Tb) (x:TkR):Bool:=idB x.ring tb.rings.length&&(qct tb.rings x.ring==x.prio)&&qea x&&qex tb x
def ctB (x:CtR):Bool:=decide (1≤x.max∧x.max≤2147483647∧1≤x.base∧x.base≤2147483647∧1≤x.min∧x.min≤x.max)
def qeo (tb:Tb) (i:Int):Nat:=match tb.tasks[i.toNat]? with | some x=>x.mask | none=>0
def acB (tb:Tb) (a:AcR) (lo hi:Int):Bool:=
 inI a.kind lo hi&&(if a.kind=1 then idB a.task tb.tasks.length&&(a.mask==0) else if a.kind=2 then idB a.task tb.tasks.length&&(a.mask != 0)&&(bits BinOp.andNot IntKind.u32 (a.mask:Int) (qeo tb a.task:Int)==0) else (a.task==0)&&(a.mask==0))
def ctOf (tb:Tb) (i:Int):CtR:=match tb.ctrs[i.toNat]? with | some x=>x | none=>⟨0,0,0⟩
def qep (x:AlR) (k:CtR):Bool:=if x.auto=0 then (x.time==0)&&(x.cycle==0) else decide (1≤x.time∧x.time≤k.max)&&(x.cycle==0 || decide (k.min≤x.cycle∧x.cycle≤k.max))
def alB (tb:Tb) (x:AlR):Bool:=idB x.ctr tb.ctrs.length&&acB tb x.ac 1 3&&qcv tb x.auto&&qep x (ctOf tb x.ctr)
def qat (a b:IsR):Bool:=(a.prio != b.prio)&&(a.cat==b.cat || (decide (a.cat < b.cat)==decide (b.prio < a.prio)))
def isB (tb:Tb) (x:IsR):Bool:=inI x.cat 1 2&&inI x.prio 64 127&&(x.cat==2 || x.own.isEmpty)&&ownG tb x.prio (-1) x.own
def qbs (tb:Tb) (pre:List IsR):List IsR→Bool
 | []=>true
 | x :: l=>isB tb x&&pre.all (fun a=>qat a x)&&qbs tb (pre++[x]) l
def fldB (x:MsR):Bool:=
 if x.kind=1 then (x.len==1 || x.len==2 || x.len==4 || x.len==8)&&(x.frm==0)&&(x.init==0)&&(x.queue==0)
 else if x.kind=2 then (x.len==0)&&decide (x.init≤4294967295)&&(x.queue==0)
 else if x.kind=3 then (x.len==0)&&(x.init==0)&&inI x.queue 1 16 else false
def msOf (tb:Tb) (i:Int):MsR:=match tb.msgs[i.toNat]? with | some x=>x | none=>⟨0,0,0,0,0,⟨0,0,0⟩⟩
def sndB (tb:Tb) (x:MsR):Bool:=idB x.frm tb.msgs.length&&((msOf tb x.frm).kind==1)&&decide (x.init < 2 ^ (8 * (msOf tb x.frm).len.toNat))
def msB (tb:Tb) (x:MsR):Bool:=if x.kind=1 then acB tb x.ac 0 0 else sndB tb x&&acB tb x.ac 0 4
def qby (tb:Tb):Bool:=inI tb.uses 0 255&&inI tb.modes 1 8&&inI tb.tasks.length 1 256&&decide (tb.ress.length≤65∧tb.ctrs.length≤16∧tb.als.length≤64∧tb.isrs.length≤32∧tb.msgs.length≤64)
def maxL (l:List Nat):Nat:=l.foldl max 0
theorem maxL_le {l:List Nat} {b:Nat}:maxL l≤b ↔ ∀x∈l,x≤b:=by
 have h:∀(l:List Nat) (a:Nat),l.foldl max a≤b ↔ a≤b∧∀x∈l,x≤b:=by
  intro l;induction l with
  | nil=>intro a;simp
  | cons y l ih=>
   intro a;rw [List.foldl_cons,ih,Nat.max_le,and_assoc];simp only [List.mem_cons,forall_eq_or_imp]
 unfold maxL;rw [h];simp
def qb1 (l:List Int):Nat:=maxL (l.map fun k=>l.count k)
def qcg (n:Nat) (l:List Int):Nat:=maxL ((List.range n).map fun (k:Nat)=>l.count (k:Int))
theorem qgy {n:Nat} {l:List Int} (h:∀k∈l,0≤k∧k < (n:Int)):qb1 l=qcg n l:=by
 apply Nat.le_antisymm
 ·refine maxL_le.2 (fun x hx=>?_)
  obtain ⟨k,hk,rfl⟩:=List.mem_map.1 hx;obtain ⟨h0,h1⟩:=h k hk;have:l.count k∈(List.range n).map fun (k:Nat)=>l.count (k:Int):=List.mem_map.2 ⟨k.toNat,List.mem_range.2 (by omega),by rw [Int.toNat_of_nonneg h0]⟩
  exact maxL_le.1 (Nat.le_refl _) _ this
 ·refine maxL_le.2 (fun x hx=>?_)
  obtain ⟨k,hk,rfl⟩:=List.mem_map.1 hx;by_cases hm:(k:Int)∈l
  ·exact maxL_le.1 (Nat.le_refl _) _ (List.mem_map.2 ⟨(k:Int),hm,rfl⟩)
  ·rw [List.count_eq_zero_of_not_mem hm]
   exact Nat.zero_le _
def rcvL (tb:Tb):List Int:=(tb.msgs.filter fun x=>x.kind != 1).map fun x=>x.frm
def qeb (tb:Tb):Nat:=(tb.als.filter fun x=>x.ac.kind==3).length+(tb.msgs.filter fun x=>x.ac.kind==3).length
def qgz (tb:Tb) (most:Nat):Bool:=(tb.depth==(tb.rings.length:Int))&&(tb.frames==(tb.isrs.length:Int)+4)&&(tb.errors==(max 2 most:Nat))&&(tb.calls==(qeb tb:Int))
def chkP (tb:Tb):Bool:=qby tb&&tb.ress.all (fun r=>inI r.ceil (-1) 127)&&qch tb.tasks 64 tb.rings&&tb.tasks.all (tkB tb)&&tb.ctrs.all ctB&&tb.als.all (alB tb)&&qbs tb [] tb.isrs&&(tb.msgs.all fldB&&tb.msgs.all (msB tb))
 && qgz tb (max (qb1 (tb.als.map fun x=>x.ctr)) (qb1 (rcvL tb)))
def qbu (x:TkR):Bool:=inI x.prio 0 63&&inI x.limit 1 255&&(x.mask==0 || x.limit==1)
def msD (tb:Tb) (x:MsR):Bool:=
 if x.kind=1 then (x.len==1 || x.len==2 || x.len==4 || x.len==8)&&(x.frm==0)&&(x.init==0)&&(x.queue==0)&&((x.ac.kind==0)&&(x.ac.task==0)&&(x.ac.mask==0))
 else inI x.kind 1 3&&(x.len==0)&&(x.kind != 2 || x.queue==0)&&(x.kind != 3 || ((x.init==0)&&inI x.queue 1 16))&&idB x.frm tb.msgs.length&&((msOf tb x.frm).kind==1)&&decide (x.init≤4294967295)
  && !(decide (0≤(msOf tb x.frm).len)&&decide ((msOf tb x.frm).len < 8)&&decide (2 ^ (8 * (msOf tb x.frm).len.toNat)≤x.init))&&acB tb x.ac 0 4
def chkD (tb:Tb):Bool:=qby tb&&tb.ress.all (fun r=>inI r.ceil (-1) 127)&&(tb.tasks.all qbu&&decide (tb.rings=qb3 tb.tasks 64)&&tb.tasks.all (fun x=>idB x.ring tb.rings.length&&(qct tb.rings x.ring==x.prio)&&qex tb x))
 && (tb.ctrs.all ctB&&tb.als.all (alB tb))&&qbs tb [] tb.isrs&&tb.msgs.all (msD tb)
 && qgz tb (max (qcg tb.ctrs.length (tb.als.map fun x=>x.ctr)) (qcg tb.msgs.length (rcvL tb)))
theorem limit_first {x:TkR}:qea x=true ↔ inI x.limit 1 255=true∧(x.mask=0∨x.limit=1):=by
 unfold qea inI;by_cases h:x.mask=0
 ·simp [h]
 ·simp [h]
  omega
theorem qmk {ts:List TkR} (hl:∀x∈ts,1≤x.limit∧x.limit≤255) (p:Int):0≤capN ts p∧capN ts p≤255 * (ts.length:Int):=by
 induction ts with
 | nil=>simp [capN]
 | cons y r ih=>
  have h1:=hl y (List.mem_cons_self ..);have ih:=ih (fun x hx=>hl x (List.mem_cons_of_mem _ hx));rw [capN,List.length_cons];split <;> omega
theorem qem {v:Int} (h0:0≤v) (h1:v≤65280):IntKind.i64.wrap v=v:=by
 unfold IntKind.wrap;simp [IntKind.signed,IntKind.bits];omega
theorem qfu {ts:List TkR} (hl:∀x∈ts,1≤x.limit∧x.limit≤255) (hn:ts.length≤256):∀(a:Int) (l:List RgR),qch ts a l=qc6 ts a l
 | _,[]=>by rw [qch,qc6]
 | a,r :: l=>by
  have:=qmk hl r.prio;rw [qch,qc6,qfu hl hn r.prio l,qem this.1 (by omega)]
theorem qiz {l:List RgR} {i p:Int} (hi:idB i l.length=true) (hp:qct l i=p):∃r∈l,r.prio=p:=by
 unfold idB at hi;simp at hi;have hlt:i.toNat < l.length:=by omega
 unfold qct at hp;rw [List.getElem?_eq_getElem hlt] at hp;exact ⟨_,List.getElem_mem hlt,hp⟩
theorem qj0 {ts:List TkR}:∀{a:Int} {l:List RgR},qc6 ts a l=true→∀r∈l,0≤r.prio∧r.prio < a
 | a,[],_,r,hr=>by cases hr
 | a,r0 :: l,h,r,hr=>by
  rw [qc6] at h;simp only [Bool.and_eq_true,inI,decide_eq_true_eq] at h;rcases List.mem_cons.1 hr with rfl | hr
  ·omega
  ·have:=qj0 h.2 r hr
   omega
theorem qom {tb:Tb} (hinit:∀x∈tb.msgs,x.init < 18446744073709551616):(tb.msgs.all fldB&&tb.msgs.all (msB tb))=true ↔ tb.msgs.all (msD tb)=true:=by
 rw [Bool.and_eq_true,List.all_eq_true,List.all_eq_true,List.all_eq_true];have at':∀(i:Int),idB i tb.msgs.length=true→msOf tb i∈tb.msgs:=fun i hi=>by
  unfold idB at hi;simp at hi;have hlt:i.toNat < tb.msgs.length:=by omega
  unfold msOf;rw [List.getElem?_eq_getElem hlt];exact List.getElem_mem hlt
 have ac0:∀a:AcR,acB tb a 0 0=true ↔ a.kind=0∧a.task=0∧a.mask=0:=fun a=>by
  unfold acB inI;by_cases h1:a.kind=1
  ·simp [h1]
  ·by_cases h2:a.kind=2
   ·simp [h2]
   ·simp [h1,h2]
    omega
 constructor
 ·rintro ⟨hf,hm⟩ x hx
  have f:=hf x hx;have m:=hm x hx;unfold fldB at f;unfold msB at m;unfold msD;by_cases h1:x.kind=1
  ·rw [if_pos h1] at f m ⊢
   have:=(ac0 _).1 m;simp only [Bool.and_eq_true,beq_iff_eq] at f ⊢;exact ⟨f,⟨this.1,this.2.1⟩,this.2.2⟩
  ·rw [if_neg h1] at f m ⊢
   simp only [Bool.and_eq_true] at m;obtain ⟨ms,ma⟩:=m;unfold sndB at ms;simp only [Bool.and_eq_true,beq_iff_eq,decide_eq_true_eq] at ms;obtain ⟨⟨s1,s2⟩,s3⟩:=ms;by_cases h2:x.kind=2
   ·rw [if_pos h2] at f
    simp only [Bool.and_eq_true,beq_iff_eq,decide_eq_true_eq] at f;simp [h2,inI,f.1.1,f.2,s1,s2,f.1.2,ma];intros
    omega
   ·rw [if_neg h2] at f
    by_cases h3:x.kind=3
    ·rw [if_pos h3] at f
     simp only [Bool.and_eq_true,beq_iff_eq,decide_eq_true_eq] at f;simp [h3,f.1.1,f.1.2,f.2,s1,s2,ma];simp [inI]
    ·rw [if_neg h3] at f
     cases f
 ·intro h
  refine ⟨fun x hx=>?_,fun x hx=>?_⟩
  ·have d:=h x hx
   unfold msD at d;unfold fldB;by_cases h1:x.kind=1
   ·rw [if_pos h1] at d ⊢
    simp only [Bool.and_eq_true,beq_iff_eq] at d ⊢;exact d.1
   ·rw [if_neg h1] at d ⊢
    simp only [Bool.and_eq_true,beq_iff_eq,decide_eq_true_eq] at d;obtain ⟨⟨⟨⟨⟨⟨⟨⟨d1,d2⟩,d3⟩,d4⟩,d5⟩,d6⟩,d7⟩,d8⟩,d9⟩:=d;by_cases h2:x.kind=2
    ·rw [if_pos h2]
     simp [h2] at d3;simp [d2,d3,d7]
    ·rw [if_neg h2]
     have h3:x.kind=3:=by simp [inI] at d1;omega
     rw [if_pos h3];simp [h3] at d4;simp [d2,d4]
  ·have d:=h x hx
   unfold msD at d;unfold msB;by_cases h1:x.kind=1
   ·rw [if_pos h1] at d ⊢
    simp only [Bool.and_eq_true,beq_iff_eq] at d;exact (ac0 _).2 ⟨d.2.1.1,d.2.1.2,d.2.2⟩
   ·rw [if_neg h1] at d ⊢
    simp only [Bool.and_eq_true,beq_iff_eq,decide_eq_true_eq] at d;obtain ⟨⟨⟨⟨⟨⟨⟨⟨d1,d2⟩,d3⟩,d4⟩,d5⟩,d6⟩,d7⟩,d8⟩,d9⟩:=d;rw [Bool.and_eq_true];refine ⟨?_,d9⟩;unfold sndB;simp only [Bool.and_eq_true,beq_iff_eq,decide_eq_true_eq];refine ⟨⟨d5,d6⟩,?_⟩;have ds:=h _ (at' _ d5);unfold msD at ds;rw [if_pos d6] at ds;simp only [Bool.and_eq_true,Bool.or_eq_true,beq_iff_eq] at ds;have hl:=ds.1.1.1.1;have hi:=hinit x hx;simp at d8;rcases hl with ((e | e) | e) | e
    ·rw [e] at d8 ⊢
     have:=d8.resolve_left (by omega);simpa using this
    ·rw [e] at d8 ⊢
     have:=d8.resolve_left (by omega);simpa using this
    ·rw [e] at d8 ⊢
     have:=d8.resolve_left (by omega);simpa using this
    ·rw [e]
     simpa using hi
theorem qon {tb : Tb} (hinit : ∀ x ∈ tb.msgs, x.init < 18446744073709551616) : chkP tb = chkD tb := by
  rw [Bool.eq_iff_iff];unfold chkP chkD;rw [Bool.and_eq_true, Bool.and_eq_true (a := _ && tb.msgs.all (msD tb))];have key : (qby tb && tb.ress.all (fun r => inI r.ceil (-1) 127) && qch tb.tasks 64 tb.rings && tb.tasks.all (tkB tb) && tb.ctrs.all ctB && tb.als.all (alB tb) && qbs tb [] tb.isrs && (tb.msgs.all fldB && tb.msgs.all (msB tb))) = true ↔
      (qby tb && tb.ress.all (fun r => inI r.ceil (-1) 127) && (tb.tasks.all qbu && decide (tb.rings = qb3 tb.tasks 64) && tb.tasks.all (fun x => idB x.ring tb.rings.length && (qct tb.rings x.ring == x.prio) && qex tb x))
        && (tb.ctrs.all ctB && tb.als.all (alB tb)) && qbs tb [] tb.isrs && tb.msgs.all (msD tb)) = true := by
    rw [Bool.and_eq_true, qom hinit];simp only [Bool.and_eq_true, decide_eq_true_eq];have hn : qby tb = true → tb.tasks.length ≤ 256 := fun h => by
      unfold qby inI at h;simp at h;omega
    constructor
    · rintro ⟨⟨⟨⟨⟨⟨⟨c, r⟩, g⟩, t⟩, k⟩, a⟩, i⟩, m⟩
      have hl : ∀ x ∈ tb.tasks, 1 ≤ x.limit ∧ x.limit ≤ 255 := fun x hx => by
        have := List.all_eq_true.1 t x hx;unfold tkB at this;simp only [Bool.and_eq_true] at this;have := (limit_first.1 this.1.2).1;unfold inI at this;simpa using this
      rw [qfu hl (hn c)] at g;have hm : ∀ x ∈ tb.tasks, ∃ r ∈ tb.rings, r.prio = x.prio := fun x hx => by
        have := List.all_eq_true.1 t x hx;unfold tkB at this;simp only [Bool.and_eq_true, beq_iff_eq] at this;exact qiz this.1.1.1 this.1.1.2
      have e := qew (fun x hx => (hl x hx).1) 64 tb.rings g (fun x hx _ => hm x hx);refine ⟨⟨⟨⟨⟨c, r⟩, ⟨?_, e⟩, ?_⟩, k, a⟩, i⟩, m⟩
      · apply List.all_eq_true.2
        intro x hx;have hx2 := List.all_eq_true.1 t x hx;unfold tkB at hx2;simp only [Bool.and_eq_true] at hx2;obtain ⟨r', hr', ep⟩ := hm x hx;have := qj0 g r' hr';have h2 := limit_first.1 hx2.1.2;unfold qbu;simp only [Bool.and_eq_true, Bool.or_eq_true, beq_iff_eq];refine ⟨⟨?_, h2.1⟩, h2.2⟩;unfold inI;simp;omega
      · apply List.all_eq_true.2
        intro x hx;have hx2 := List.all_eq_true.1 t x hx;unfold tkB at hx2;simp only [Bool.and_eq_true] at hx2 ⊢;exact ⟨hx2.1.1, hx2.2⟩
    · rintro ⟨⟨⟨⟨⟨c, r⟩, ⟨f, e⟩, t⟩, k, a⟩, i⟩, m⟩
      have hf : ∀ x ∈ tb.tasks, inI x.limit 1 255 = true ∧ (x.mask = 0 ∨ x.limit = 1) := fun x hx => by
        have := List.all_eq_true.1 f x hx;unfold qbu at this;simp only [Bool.and_eq_true, Bool.or_eq_true, beq_iff_eq] at this;exact ⟨this.1.2, this.2⟩
      have hl : ∀ x ∈ tb.tasks, 1 ≤ x.limit ∧ x.limit ≤ 255 := fun x hx => by
        have := (hf x hx).1;unfold inI at this;simpa using this
      refine ⟨⟨⟨⟨⟨⟨⟨c, r⟩, ?_⟩, ?_⟩, k⟩, a⟩, i⟩, m⟩
      · rw [qfu hl (hn c), e]
        exact qi2 (fun x hx => (hl x hx).1) 64
      · apply List.all_eq_true.2
        intro x hx;have hx2 := List.all_eq_true.1 t x hx;unfold tkB;simp only [Bool.and_eq_true] at hx2 ⊢;exact ⟨⟨hx2.1, limit_first.2 (hf x hx)⟩, hx2.2⟩
  rw [key];constructor
  · rintro ⟨h, q⟩
    refine ⟨h, ?_⟩;rw [← most_same h];exact q
  · rintro ⟨h, q⟩
    refine ⟨h, ?_⟩;rw [most_same h];exact q
  where
    most_same {tb : Tb} (h : (qby tb && tb.ress.all (fun r => inI r.ceil (-1) 127) && (tb.tasks.all qbu && decide (tb.rings = qb3 tb.tasks 64) && tb.tasks.all (fun x => idB x.ring tb.rings.length && (qct tb.rings x.ring == x.prio) && qex tb x))
          && (tb.ctrs.all ctB && tb.als.all (alB tb)) && qbs tb [] tb.isrs && tb.msgs.all (msD tb)) = true) : max (qb1 (tb.als.map fun x => x.ctr)) (qb1 (rcvL tb)) = max (qcg tb.ctrs.length (tb.als.map fun x => x.ctr)) (qcg tb.msgs.length (rcvL tb)) := by
      simp only [Bool.and_eq_true] at h;have ha := h.1.1.2.2;have hm := h.2;rw [qgy (n := tb.ctrs.length), qgy (n := tb.msgs.length)]
      · intro k hk
        unfold rcvL at hk;obtain ⟨x, hx, rfl⟩ := List.mem_map.1 hk;obtain ⟨hx1, hx2⟩ := List.mem_filter.1 hx;have d := List.all_eq_true.1 hm x hx1;unfold msD at d;rw [if_neg (by simpa using hx2)] at d;simp only [Bool.and_eq_true, idB, decide_eq_true_eq] at d;exact d.1.1.1.1.2
      · intro k hk
        obtain ⟨x, hx, rfl⟩ := List.mem_map.1 hk;have d := List.all_eq_true.1 ha x hx;unfold alB at d;simp only [Bool.and_eq_true, idB, decide_eq_true_eq] at d;exact d.1.1.1
end Go.Proofs.YtijgopkhdjaolabGreat
