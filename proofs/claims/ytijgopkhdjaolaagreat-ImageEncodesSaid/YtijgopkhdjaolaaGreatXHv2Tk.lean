import Derived.Test.YtijgopkhdjaolaaGreatXHm
import Derived.Deep.RegionHeldLaw
import Derived.Test.YtijgopkhdjaolaaGreatXHs9
import Derived.Test.YtijgopkhdjaolaaGreatXHt5
import Derived.Deep.DrawnRows
namespace Go.Proofs.YtijgopkhdjaolaaGreat
open Go.RowKit Go.Shelf Go.Sort
set_option linter.unusedSimpArgs false
set_option linter.unusedVariables false
set_option maxHeartbeats 16000000
set_option maxRecDepth 100000
section
variable {P : Program} {ops : Array Oper} {Q : Exit → Act → World → Prop} {md : Region.Mode} {S : World → Prop} {z : Nat}
def qbs (P:Program) (md:Region.Mode) (ops:Array Oper) (Q:Exit→Act→World→Prop) (S:World→Prop) (z:Nat):Nat→Array Bool→Act→World→Prop
 | 0,listed,a,w=>Region.ready md ops listed=[]∧Q .normal a w
 | fuel+1,listed,a,w=>
  (Region.ready md ops listed=[]→Q .normal a w) ∧
  ∀i∈Region.ready md ops listed,wpOp P ops Q i (fun a' w'=>(i≠z→S w')∧qbs P md ops Q S z fuel (listed.setIfInBounds i true) a' w') a w
theorem qgs : ∀(fuel:Nat) (listed:Array Bool) (a:Act) (w:World),qbs P md ops Q S z fuel listed a w→wpAny P md ops Q fuel listed a w
 | 0,_,_,_,h=>h
 | fuel+1,_,_,_,h=>⟨h.1,fun i hi=>wpOp_mono (fun a' w' h'=>qgs fuel _ a' w' h'.2) (h.2 i hi)⟩
def qfk (md:Region.Mode) (ops:Array Oper) (i:Nat):Nat→Nat→Bool
 | 0,_=>false
 | n+1,z=>match ops[z]? with
  | some o=>o.after.any fun e=>Region.binds md e&&(e.on==i || qfk md ops i n e.on)
  | none=>false
def qfd (md:Region.Mode) (ops:Array Oper) (listed:Array Bool):Prop:=∀j o,ops[j]?=some o→listed.getD j true=true→∀e∈o.after,Region.binds md e=true→listed.getD e.on false=true
def qha (md:Region.Mode) (ops:Array Oper) (listed:Array Bool):Bool:=(List.range ops.size).all fun j=>match ops[j]? with
 | some o=>!listed.getD j true || o.after.all fun e=>!Region.binds md e || listed.getD e.on false
 | none=>true
theorem qn4 {listed:Array Bool} (h:qha md ops listed=true):qfd md ops listed:=fun j o ho hl e he hb=>by
 have h1:=(List.all_eq_true.1 h) j (List.mem_range.2 (Array.getElem?_eq_some_iff.1 ho).1)
 simp only [ho,hl,Bool.not_true,Bool.false_or] at h1
 have h2:=Array.all_eq_true_iff_forall_mem.1 h1 e he
 simpa [hb] using h2
theorem qlh {listed:Array Bool} {j:Nat} (h:qfd md ops listed) (hj:j∈Region.ready md ops listed):qfd md ops (listed.setIfInBounds j true):=fun k o ho hl e he hb=>by
 refine getD_set_true ?_
 by_cases hk:j=k
 ·subst hk
  obtain ⟨-,o',ho',hall⟩:=mem_ready.1 hj
  rw [ho] at ho'
  cases ho'
  exact hall e he hb
 ·rw [getD_set_ne true hk] at hl
  exact h k o ho hl e he hb
theorem qhb {listed:Array Bool} {i:Nat} (h:listed.getD i true=false):listed.getD i false=false:=by
 rcases Nat.lt_or_ge i listed.size with h' | h'
 ·simp [h'] at h ⊢;exact h
 ·simp [Array.getElem?_eq_none h'] at h
theorem qhr {listed:Array Bool} {i:Nat} (h:qfd md ops listed) (hs:∀o∈ops,∀e∈o.after,e.on < listed.size) (hi:listed.getD i true=false):∀n z,qfk md ops i n z=true→∃o,ops[z]?=some o∧∃e∈o.after,Region.binds md e=true∧listed.getD e.on false=false
 | 0,_,h0=>by cases h0
 | n+1,z,h0=>by
  unfold qfk at h0
  split at h0
  ·rename_i o ho
   obtain ⟨e,he,hb⟩:=Array.any_eq_true'.1 h0
   simp only [Bool.and_eq_true,Bool.or_eq_true,beq_iff_eq] at hb
   refine ⟨o,ho,e,he,hb.1,?_⟩
   rcases hb.2 with h1 | h1
   ·rw [h1];exact qhb hi
   ·obtain ⟨o2,ho2,e2,he2,hb2,hl2⟩:=qhr h hs hi n e.on h1
    cases hc:listed.getD e.on true with
    | false=>exact qhb hc
    | true=>
     have:=h e.on o2 ho2 hc e2 he2 hb2
     rw [hl2] at this
     cases this
  ·cases h0
theorem qj9 {i n:Nat} {oi:Oper} {v:Value} (hi:ops[i]?=some oi) (hsel:∀(j:Nat) (o:Oper) cs b,ops[j]?=some o→o.op≠.select cs b)
  (hQ:∀c a w,Q (.panic c) (a.put oi.dst v) w→Q (.panic c) a w) (hz:qfk md ops i n z=true) (hiz:i≠z) :
  ∀(fuel:Nat) (listed:Array Bool) (a:Act) (w:World),
   (∀j oj,ops[j]?=some oj→j≠i→listed.getD j true=false→(∀e∈oj.after,Region.binds md e=true→e.on≠i)→oi.apart ops oj=true) →
   i∈Region.ready md ops listed→qfd md ops listed→(∀o∈ops,∀e∈o.after,e.on < listed.size)→YieldsIf P ops S oi v a→S w →
   qbs P md ops Q S z fuel (listed.setIfInBounds i true) (a.put oi.dst v) w→qbs P md ops Q S z (fuel+1) listed a w:=by
 intro fuel
 induction fuel with
 | zero=>
  intro listed a w _ hr _ _ hy hS H
  refine ⟨fun h=>(by rw [h] at hr;cases hr),fun j hj=>?_⟩
  by_cases hji:j=i
  ·subst hji;exact hy.wpOp hi hS ⟨fun _=>hS,H⟩
  ·have:=ready_mono hj hji
   rw [H.1] at this
   cases this
 | succ fuel ih=>
  intro listed a w hfree hr hcl hsz hy hS H
  refine ⟨fun h=>(by rw [h] at hr;cases hr),fun j hj=>?_⟩
  by_cases hji:j=i
  ·subst hji;exact hy.wpOp hi hS ⟨fun _=>hS,H⟩
  ·have hjz:j≠z:=fun e=>by
    obtain ⟨o,ho,e1,he1,hb1,hl1⟩:=qhr hcl hsz (mem_ready.1 hr).1 n z hz
    rw [e] at hj
    obtain ⟨-,o',ho',hall⟩:=mem_ready.1 hj
    rw [ho] at ho'
    cases ho'
    rw [hall e1 he1 hb1] at hl1
    cases hl1
   have h1:=H.2 j (ready_mono hj hji)
   obtain ⟨hjun,oj,hoj,hall⟩:=mem_ready.1 hj
   have hnot:∀e∈oj.after,Region.binds md e=true→e.on≠i:=fun e he hb heq=>by
    have h1:=hall e he hb
    have h0:=qhb (mem_ready.1 hr).1
    rw [heq,h0] at h1
    cases h1
   have h2:=wpOp_putIf hoj (hfree j oj hoj hji hjun hnot) (fun cs b=>hsel i oi cs b hi) (fun cs b=>hsel j oj cs b hoj) hQ hy h1
   have hfree':∀k ok,ops[k]?=some ok→k≠i→(listed.setIfInBounds j true).getD k true=false →
     (∀e∈ok.after,Region.binds md e=true→e.on≠i)→oi.apart ops ok=true:=fun k ok hk hki hun hno=>by
    refine hfree k ok hk hki ?_ hno
    by_cases hjk:j=k
    ·subst hjk;exact hjun
    ·rw [getD_set_ne true hjk] at hun;exact hun
   refine wpOp_mono (fun a' w' h3=>⟨h3.2.1,ih (listed.setIfInBounds j true) a' w' hfree' (ready_mono hr (Ne.symm hji)) (qlh hcl hj) (fun o ho e he=>by rw [Array.size_setIfInBounds];exact hsz o ho e he) h3.1 (h3.2.1 hjz) ?_⟩) h2
   rw [Array.setIfInBounds_comm _ _ hji]
   exact h3.2.2
theorem qjw {i:Nat} {oi:Oper} {v:Value} {fuel:Nat} {listed:Array Bool} {a:Act} {w:World} (hi:ops[i]?=some oi)
  (hs:Region.noSelect ops=true) (hc:qha md ops listed=true) (hz:(ops.all fun o=>o.after.all fun e=>decide (e.on < listed.size))=true) (hw:qfk md ops i ops.size z=true) (hiz:decide (i=z)=false) (hf:Region.free md ops listed i=true) (hr:(Region.ready md ops listed).contains i=true)
  (hQ:∀c a w,Q (.panic c) (a.put oi.dst v) w→Q (.panic c) a w) (hy:YieldsIf P ops S oi v a) (hS:S w)
  (h:qbs P md ops Q S z fuel (listed.setIfInBounds i true) (a.put oi.dst v) w):qbs P md ops Q S z (fuel+1) listed a w:=
 qj9 hi (Region.noSelect_spec hs) hQ hw (of_decide_eq_false hiz) fuel listed a w (Region.free_spec hi hf) (by simpa using hr) (qn4 hc) (fun o ho e he=>of_decide_eq_true (Array.all_eq_true_iff_forall_mem.1 (Array.all_eq_true_iff_forall_mem.1 hz o ho) e he)) hy hS h
theorem qTG {oi:Oper} {fuel:Nat} {listed:Array Bool} {a:Act} {w:World} (i:Nat) (v:Value) (hi:ops[i]?=some oi) (hS:S w) (h:qbs P md ops Q S z fuel (listed.setIfInBounds i true) (a.put oi.dst v) w) (hs:Region.noSelect ops=true:=by kernel_rfl) (hc:qha md ops listed=true:=by kernel_rfl) (hz:(ops.all fun o=>o.after.all fun e=>decide (e.on < listed.size))=true:=by kernel_rfl) (hw:qfk md ops i ops.size z=true:=by kernel_rfl) (hiz:decide (i=z)=false:=by kernel_rfl) (hf:Region.free md ops listed i=true:=by kernel_rfl) (hr:(Region.ready md ops listed).contains i=true:=by kernel_rfl) (hQ:∀c a w,Q (.panic c) (a.put oi.dst v) w→Q (.panic c) a w:=by exact fun _ _ _ h=>h) (hwa:Region.wanted oi (yielded ops a.tmps)=true:=by rfl) (hy:∀w,S w→(execOp a.eval oi).run P w=.ok (.value v) w:=by intro w' hSw;(try dsimp only at hSw);(try clear hHeld);go_simp):qbs P md ops Q S z (fuel+1) listed a w:=qjw hi hs hc hz hw hiz hf hr hQ (Or.inl ⟨hwa,hy⟩) hS h
theorem qac {i:Nat} {o:Oper} {fuel:Nat} {listed:Array Bool} {a:Act} {w:World} (hr:Region.ready md ops listed=[i]) (ho:ops[i]?=some o)
  (h:∀K':Act→World→Prop,Shut (∀a w,(i≠z→S w)→qbs P md ops Q S z fuel (listed.setIfInBounds i true) a w→K' a w)→if Region.wanted o (yielded ops a.tmps)=true then Oper.wp P o a w K' Q else K' (a.put o.dst undef) w):qbs P md ops Q S z (fuel+1) listed a w:=
 ⟨fun h0=>(by rw [hr] at h0;cases h0),by
  rw [hr]
  intro j hj
  rw [List.mem_singleton] at hj
  subst hj
  exact wpOp_step ho (fun K' hK=>h K' (fun a w hS hW=>hK a w ⟨hS,hW⟩))⟩
theorem qcb {listed:Array Bool} {a:Act} {w:World} (hr:Region.ready md ops listed=[]) (h:Q .normal a w) :
  ∀fuel,qbs P md ops Q S z fuel listed a w
 | 0=>⟨hr,h⟩
 | _+1=>⟨fun _=>h,by rw [hr];simp⟩
theorem qcc {id:Nat} {a:Act} {w:World} (z:Nat) (hm:P.follows .mixedOrders=true) (h:qbs P .any ops Q S z ops.size (Array.replicate ops.size false) a w.drew):(Code.region id ops true).wp P Q a w:=
 wp_region_any hm (qgs _ _ _ _ h)
end
end Go.Proofs.YtijgopkhdjaolaaGreat
namespace Go.Proofs.YtijgopkhdjaolaaGreat
open Go.RowKit Go.Shelf Go.Sort
open Go.Proofs.YtijgopkhdjaolaaGreat.Ob (leB leV qa8 qaj crc Rd RdAll qa9)
set_option linter.unusedSimpArgs false
set_option linter.unusedVariables false
set_option maxHeartbeats 16000000
set_option maxRecDepth 100000
theorem qcx {ops:Array Oper} {o:Oper} {a:Act} {w:World} {K:Act→World→Prop} {Q:Exit→Act→World→Prop} {E:Prop} (hgd:o.guard=none) (s x:Operand)
  (ho:o.op=.call { callee:=.builtin .append,args:=#[s,x],argTypes:=#[31,31] })
  (base b2:Nat) (v u:Value) (l r:List UInt8) (hs:a.eval s=v) (hx:a.eval x=u) (hown:w.ownsRow base 5 1 v l.length (Bs8 l)) (hu:w.ownsRow b2 5 1 u r.length (Bs8 r))
  (h63:l.length+r.length≤140737488355328) (hbase:base≤w.heap.size)
  (h:∀v' w',w'.ownsRow base 5 1 v' (l.length+r.length) (Bs8 (l++r))→w.grownBy w' v.ownBlock→K (a.put o.dst v') w') :
  if Region.wanted o (yielded ops a.tmps)=true then Oper.wp Tryz.prog o a w K Q else E:=by
 have hw:Region.wanted o (yielded ops a.tmps)=true:=by simp [Region.wanted,hgd]
 rw [if_pos hw]
 obtain ⟨i0,hi,hz0,hz1,hz2⟩:=info_parts qgm
 obtain ⟨v',w',hr,h2,h3⟩:=qe9 (P:=Tryz.prog) w base b2 31 o.type 5 i0 (.int .u8 0) 1 1 Tryz.underlying31 hi hz0 hz1 hz2 rfl (by decide) v u l.length r.length (Bs8 l) (Bs8 r) hown (qbp hu) (Ob.one_cells r) (by unfold maxLen;omega) (by omega) hbase
 unfold Oper.wp
 simp [execOp,ho,resolve,invoke,builtin,hs,hx,hr,Result.andThen]
 exact h v' w' (by simpa [Bs8] using h2) h3
theorem qdd {w0 w wr:World} {B:Nat} (h:qB w0 w) (hB:w0.heap.size≤B) (g:w.grownBy wr (some B)):qB w0 wr:=
 ⟨g.os.trans h.os,g.tape.trans h.tape,g.output.trans h.output,Nat.le_trans h.size g.size,fun i hi=>by
  rw [g.block i (Nat.lt_of_lt_of_le hi h.size) (fun e=>by cases e;omega)]
  exact h.block i hi⟩
theorem qr9 {cs:Array Value} {q:Nat} {x:Value} (h:cs[q]?=some x):cs.setIfInBounds q x=cs:=by
 apply Array.ext
 ·simp
 ·intro i h1 h2
  rw [Array.getElem_setIfInBounds]
  split
  ·rename_i e;subst e
   have:=(Array.getElem?_eq_some_iff.mp h).2
   exact this.symm
  ·rfl
structure PI (w W:World) (B q:Nat) (cs:Array Value) (a:Option Addr) (c:Nat) (l:List UInt8):Prop where
 g:w.grownBy W (some B)
 h:W.heap[B]?=some (.cells (cs.setIfInBounds q (.slice a l.length c)) 31)
 o:W.ownsRow w.heap.size 5 1 (.slice a l.length c) l.length (Bs8 l)
 b:B < w.heap.size
 s:q < cs.size
theorem PI.nil {w:World} {B q:Nat} {cs:Array Value} (h:w.heap[B]?=some (.cells cs 31)) (hq:cs[q]?=some qZ):PI w w B q cs none 0 []:=
 ⟨qbx _ _,by show _=some (Obj.cells (cs.setIfInBounds q qZ) _);rw [qr9 hq];exact h,World.ownsRow_nil _ _ _ _,qa5 h,(Array.getElem?_eq_some_iff.mp hq).1⟩
theorem PI.below {w W W':World} {B q:Nat} {cs:Array Value} {a:Option Addr} {c:Nat} {l:List UInt8} (h:PI w W B q cs a c l) (hb:qB W W'):PI w W' B q cs a c l:=
 ⟨qf9 h.g hb,(hb.block _ (qa5 h.h)).trans h.h,qa2 h.o hb,h.b,h.s⟩
theorem PI.cell {w W:World} {B q:Nat} {cs:Array Value} {a:Option Addr} {c:Nat} {l:List UInt8} (h:PI w W B q cs a c l):W.cell? ⟨B,q,none⟩=some (.slice a l.length c):=by
 rw [cell_of_row _ _ _ _ _ _ h.h]
 simp [h.s]
theorem PI.next {w W W':World} {B q:Nat} {cs:Array Value} {a:Option Addr} {c:Nat} {l r:List UInt8} {v':Value} (h:PI w W B q cs a c l)
  (hO:W'.ownsRow w.heap.size 5 1 v' (l.length+r.length) (Bs8 (l++r))) (hg:W.grownBy W' (Value.slice a l.length c).ownBlock) :
  w.grownBy W' (some B)∧(∀(k:Nat) (T:TypeId) (xs:Array Value),W.heap[k]?=some (.cells xs T)→T≠5→W'.heap[k]?=some (.cells xs T))∧∃a' c',v'=.slice a' (l++r).length c'∧W'.cell? ⟨B,q,none⟩=some (.slice a l.length c)∧W'.frozen? ⟨B,q,none⟩=false∧PI w (W'.setCell ⟨B,q,none⟩ (.slice a' (l++r).length c')) B q cs a' c' (l++r):=by
 rw [←List.length_append] at hO
 obtain ⟨a',c',rfl⟩:=qah hO
 have hB:=h.b
 have hh:W'.heap[B]?=some (.cells (cs.setIfInBounds q (.slice a l.length c)) 31):=(hg.block B (qa5 h.h) (fun e=>by have:=(h.o.lt B e.symm).1;omega)).trans h.h
 have hgr:w.grownBy W' (some B):=⟨hg.os.trans h.g.os,hg.tape.trans h.g.tape,hg.output.trans h.g.output,Nat.le_trans h.g.size hg.size,fun k hk hne=>(hg.block k (Nat.lt_of_lt_of_le hk h.g.size) (fun e=>by have:=(h.o.lt k e.symm).1;omega)).trans (h.g.block k hk hne)⟩
 have hty:∀(k:Nat) (T:TypeId) (xs:Array Value),W.heap[k]?=some (.cells xs T)→T≠5→W'.heap[k]?=some (.cells xs T):=fun k T xs hk hT=>(hg.block k (qa5 hk) (fun e=>by
  rcases h.o.2 with ⟨e2,-⟩ | ⟨g2,cap,cur,e2,-,e3,-⟩
  ·rw [e2] at e;cases e
  ·rw [e2] at e;cases e;rw [hk] at e3;cases e3;exact hT rfl)).trans hk
 refine ⟨hgr,hty,a',c',rfl,?_,frozen_of_row _ _ _ _ _ hh,⟨⟨hg.os.trans h.g.os,hg.tape.trans h.g.tape,hg.output.trans h.g.output,?_,fun k hk hne=>?_⟩,?_,qho hO h.b,h.b,h.s⟩⟩
 ·rw [cell_of_row _ _ _ _ _ _ hh]
  simp [h.s]
 ·have:=Nat.le_trans h.g.size hg.size
  simpa using this
 ·rw [heap_setCell_other _ _ _ _ (by show k≠B;exact fun e=>hne (by rw [e]))]
  exact (hg.block k (Nat.lt_of_lt_of_le hk h.g.size) (fun e=>by have:=(h.o.lt k e.symm).1;omega)).trans (h.g.block k hk hne)
 ·rw [heap_setCell_same _ _ _ _ _ _ hh,Array.setIfInBounds_setIfInBounds]
def RdL (w:World):List (Option Addr×Nat×Nat)→List (List UInt8)→Prop
 | [],[]=>True
 | u :: us,l :: ls=>Rd w u.1 u.2.1 u.2.2 l∧RdL w us ls
 | _,_=>False
theorem RdL.get {w:World}:∀{us:List (Option Addr×Nat×Nat)} {ls:List (List UInt8)},RdL w us ls→us.length=ls.length∧∀(i:Nat) (u:Option Addr×Nat×Nat) (l:List UInt8),us[i]?=some u→ls[i]?=some l→Rd w u.1 u.2.1 u.2.2 l
 | [],[],_=>⟨rfl,fun i u l h=>by simp at h⟩
 | u :: us,l :: ls,h=>⟨by simp [(RdL.get h.2).1],fun i u' l' h1 h2=>by
   cases i with
   | zero=>cases h1;cases h2;exact h.1
   | succ i=>exact (RdL.get h.2).2 i u' l' (by simpa using h1) (by simpa using h2)⟩
theorem rowN (w:World) (us:List (Option Addr×Nat×Nat)) (ls:List (List UInt8)) (n:Nat) (h:RdL w us ls) (hn:ls.length=n) (h9:n≤1000) (hs:ls.flatten.length≤100000000):Calls Tryz.prog 50 #[.slice (some ⟨w.heap.size,0,none⟩) n n] (w.alloc (.cells (us.map fun (u:Option Addr×Nat×Nat)=>(.slice u.1 u.2.1 u.2.2:Value)).toArray 31)) fun e w'=>∃u,e=.returned u∧OwB (w.alloc (.cells (us.map fun (u:Option Addr×Nat×Nat)=>(.slice u.1 u.2.1 u.2.2:Value)).toArray 31)) w' u ls.flatten:=by
 obtain ⟨h1,h2⟩:=h.get
 subst hn
 exact qg2 _ _ _ _ ls (qj6 (heap_alloc_new w _) h1 h9 (fun i u l hu hl=>(h2 i u l hu hl).below (qa0 w _))) rfl hs
def PSeg (i q X B:Nat) (w0:World) (l:List UInt8):Prop:=∀(N R:Act→World→Prop) (T:Array Value) (vs:List Deferred) (w:World) (cs:Array Value),T.size=253→T.getD 1 undef=.pointer (some ⟨X,0,none⟩)→T.getD 3 undef=.slice (some ⟨B,0,none⟩) 7 7→qB w0 w→w.heap[B]?=some (.cells cs 31)→cs[q]?=some qZ→(∀T' w' a c,T'.size=253→T'.getD 1 undef=.pointer (some ⟨X,0,none⟩)→T'.getD 3 undef=.slice (some ⟨B,0,none⟩) 7 7→qB w0 w'→PI w w' B q cs a c l→N ⟨T',vs⟩ w')→(hdc (drp i (Tryz.f51.body.getD .skip))).wp Tryz.prog (SQ N R) ⟨T,vs⟩ w
theorem qdr (T:Array Value) (h:T.size=253):T=((List.range 253).map (tk T)).toArray:=by
 apply Array.ext
 ·simp [h]
 ·intro i h1 h2
  simp [tk,h1]
theorem rng2 : List.range 253=[0,1,2,3,4,5,6,7,8,9,10,11,12,13,14,15,16,17,18,19,20,21,22,23,24,25,26,27,28,29,30,31,32,33,34,35,36,37,38,39,40,41,42,43,44,45,46,47,48,49,50,51,52,53,54,55,56,57,58,59,60,61,62,63,64,65,66,67,68,69,70,71,72,73,74,75,76,77,78,79,80,81,82,83,84,85,86,87,88,89,90,91,92,93,94,95,96,97,98,99,100,101,102,103,104,105,106,107,108,109,110,111,112,113,114,115,116,117,118,119,120,121,122,123,124,125,126,127,128,129,130,131,132,133,134,135,136,137,138,139,140,141,142,143,144,145,146,147,148,149,150,151,152,153,154,155,156,157,158,159,160,161,162,163,164,165,166,167,168,169,170,171,172,173,174,175,176,177,178,179,180,181,182,183,184,185,186,187,188,189,190,191,192,193,194,195,196,197,198,199,200,201,202,203,204,205,206,207,208,209,210,211,212,213,214,215,216,217,218,219,220,221,222,223,224,225,226,227,228,229,230,231,232,233,234,235,236,237,238,239,240,241,242,243,244,245,246,247,248,249,250,251,252]:=by kernel_rfl
end Go.Proofs.YtijgopkhdjaolaaGreat
namespace Go.Proofs.YtijgopkhdjaolaaGreat
open Go.RowKit Go.Shelf Go.Sort
open Go.Proofs.YtijgopkhdjaolaaGreat.Ob (leB leV qa8 qaj crc Rd RdAll qa9)
set_option linter.unusedSimpArgs false
set_option linter.unusedVariables false
set_option maxHeartbeats 40000000
set_option maxRecDepth 100000
theorem lfB (w:World) (v:Int) (h:b8 v):Calls Tryz.prog 54 #[I v] w fun e w'=>∃a c,e=.returned (.slice a 1 c)∧Rd w' a 1 c (e1 v)∧qB w w':=(qel w v h.1 h.2).mono fun e w' ⟨a,c,q1,q2⟩=>⟨a,c,q1,qbt q2 (by simp [e1,qa8]) (by omega),q2.2⟩
theorem lfH (w:World) (v:Int) (h:b16 v):Calls Tryz.prog 53 #[I v] w fun e w'=>∃a c,e=.returned (.slice a 2 c)∧Rd w' a 2 c (e2 v)∧qB w w':=(qr3 w v h.1 h.2).mono fun e w' ⟨a,c,q1,q2⟩=>⟨a,c,q1,qbt q2 (by simp [e2,qa8]) (by omega),q2.2⟩
theorem lfW (w:World) (n:Nat) (h:n < 256 ^ 4):Calls Tryz.prog 52 #[(qU n)] w fun e w'=>∃a c,e=.returned (.slice a 4 c)∧Rd w' a 4 c (leB 4 n)∧qB w w':=(qn1 w n (by omega)).mono fun e w' ⟨a,c,q1,q2⟩=>⟨a,c,q1,qbt q2 (by simp [qa8]) (by omega),q2.2⟩
theorem lfF (w:World) (b:Bool):Calls Tryz.prog 127 #[.bool b] w fun e w'=>∃a c,e=.returned (.slice a 1 c)∧Rd w' a 1 c (eF b)∧qB w w':=(qn2 w b).mono fun e w' ⟨a,c,q1,q2⟩=>⟨a,c,q1,qbt q2 (by simp [eF,qa8]) (by omega),q2.2⟩
theorem lfM (w:World) (v:Int) (h:b8 (v+1)):Calls Tryz.prog 128 #[I v] w fun e w'=>∃a c,e=.returned (.slice a 1 c)∧Rd w' a 1 c (e1 (v+1))∧qB w w':=(qlg w v h.1 h.2).mono fun e w' ⟨a,c,q1,q2⟩=>⟨a,c,q1,qbt q2 (by simp [e1,qa8]) (by omega),q2.2⟩
theorem lfU (w:World) (n:Nat) (h:n < 256 ^ 1):Calls Tryz.prog 54 #[I (n:Int)] w fun e w'=>∃a c,e=.returned (.slice a 1 c)∧Rd w' a 1 c (leB 1 n)∧qB w w':=(qel w n (by omega) (by omega)).mono fun e w' ⟨a,c,q1,q2⟩=>⟨a,c,q1,qbt q2 (by simp [e1,qa8]) (by omega),q2.2⟩
theorem lfQ (w:World) (n:Nat) (h:n < 256 ^ 8):Calls Tryz.prog 55 #[.int .u64 (n:Int),I 8] w fun e w'=>∃a c,e=.returned (.slice a 8 c)∧Rd w' a 8 c (leB 8 n)∧qB w w':=(Ob.low_any n 8 w (by omega) (by omega) (by omega) h).mono fun e w' ⟨a,c,q1,q2,q3⟩=>⟨a,c,q1,qa9 q2 (by omega),q3⟩
theorem qhc (x:AcR):(eAc x).length=6:=by simp [eAc,e1,qa8]
theorem lfL (w:World) (s:Sl) (l:List Int) (h:RowsAt w 1 intP s l) (h9:l.length < 256∧∀y∈l,b8 y):Calls Tryz.prog 129 #[slT s] w fun e w'=>∃a c,e=.returned (.slice a (eL l).length c)∧Rd w' a (eL l).length c (eL l)∧qB w w':=(qn3 w s l h h9.1 h9.2).mono fun e w' ⟨u,q1,q2⟩=>by
 obtain ⟨a,c,rfl⟩:=qah q2.1
 exact ⟨a,c,q1,qbt q2 rfl (by rw [qeh];omega),q2.2⟩
theorem lfA (w:World) (x:AcR) (h:okAc x):Calls Tryz.prog 130 #[.agg #[I x.kind,I x.task,(qU x.mask)]] w fun e w'=>∃a c,e=.returned (.slice a 6 c)∧Rd w' a 6 c (eAc x)∧qB w w':=(qjv w x h).mono fun e w' ⟨u,q1,q2⟩=>by
 obtain ⟨a,c,rfl⟩:=qah q2.1
 rw [qhc] at q1
 exact ⟨a,c,q1,qbt (by have:=q2;unfold OwB at this ⊢;rw [qhc] at this ⊢;exact this) (qhc x) (by omega),q2.2⟩
theorem qcm {α:Type} (e:α→List UInt8) {L:List α} {k:Nat} {x:α} (h:L[k]?=some x):(L.take (k+1)).flatMap e=(L.take k).flatMap e++e x:=by rw [List.take_add_one,h];simp
theorem qds {α:Type} (e:α→List UInt8) {L:List α} {k:Nat} {x:α} (h:L[k]?=some x):((L.take k).flatMap e).length+(e x).length≤(L.flatMap e).length:=by
 have h1:=qcm e h
 have h2:L.flatMap e=(L.take (k+1)).flatMap e++(L.drop (k+1)).flatMap e:=by rw [←List.flatMap_append,List.take_append_drop]
 rw [h2,h1,List.length_append,List.length_append]
 omega
theorem qsh {w0:World} {X B:Nat} {tb:Tb} {v:Ts} (HS:Hid (∀W,qB w0 W→W.cell? ⟨X,2,none⟩=some (.slice v.t.a v.t.n v.t.c))) (HT:Hid (∀W,qB w0 W→TbAt W tb v)) (HOK:Hid (w0.heap.size≤B∧(∀x∈tb.tasks,okTk x)∧(tb.tasks.flatMap eTk).length≤100000)):PSeg 2 0 X B w0 (tb.tasks.flatMap eTk):=by
 intro N R T vs w cs hT h1 h3 hb hc hq hK
 have HK:Hid _:=hK
 have HB:Hid (qB w0 w):=hb
 have HI:Hid (PI w w B 0 cs none 0 ((tb.tasks.take 0).flatMap eTk)):=PI.nil hc hq
 rw [qdr T hT]
 simp only [rng2,List.map_cons,List.map_nil,show tk T 1=_ from h1,show tk T 3=_ from h3]
 clear hK hb hc hq h1 h3 hT
 generalize tk T=tt
 conv=>arg 2;whnf
 go_wp2
 go_loopw [4,5] (fun v4 _ wr=>∃(k:Nat) (a:Option Addr) (c:Nat),k≤v.t.n∧v4=I k∧Hid (PI w wr B 0 cs a c ((tb.tasks.take k).flatMap eTk))) (fun v4 _ _=>v.t.n - (intOf v4).toNat)
 case atStart=>exact ⟨0,none,0,by omega,rfl,HI.out⟩
 case round=>
  clear HI
  obtain ⟨k,a,c,hk,rfl,HJ⟩:=hrel
  have HZ:Hid (qB w0 wr):=qdd HB.out HOK.out.1 HJ.out.g
  have cA:=HS.out wr HZ.out
  have hmx:v.t.n≤maxLen:=Nat.le_trans (HT.out wr HZ.out).t.c (HT.out wr HZ.out).t.m
  unfold maxLen at hmx
  by_cases hlt:k < v.t.n
  ·skip
   have hltI:(k:Int) < v.t.n:=by omega
   have hk1:k < tb.tasks.length:=by have:=(HT.out wr HZ.out).t.n;omega
   obtain ⟨x,hx⟩:∃x,tb.tasks[k]?=some x:=⟨_,List.getElem?_eq_getElem hk1⟩
   have hbnd:((tb.tasks.take k).flatMap eTk).length+(eTk x).length≤100000:=Nat.le_trans (qds eTk hx) HOK.out.2.2
   have HN:Hid ((tb.tasks.take (k+1)).flatMap eTk=(tb.tasks.take k).flatMap eTk++eTk x):=qcm eTk hx
   have hok:okTk x:=HOK.out.2.1 x (List.mem_of_getElem? hx)
   obtain ⟨k0,k1,k3,k4,k5,k6,k7⟩:=hok
   have HKS:Hid (b8 x.prio∧b8 x.ring∧b8 x.limit∧x.mask < 256 ^ 4∧b8 (x.inner+1)∧(x.own.length < 256∧∀y∈x.own,b8 y)∧x.auto < 256 ^ 1):=⟨k0,k1,k3,k4,k5,k6,k7⟩
   obtain ⟨g,o,s9,e1,hg,q0,q1,q2,q3,q4,q5,q6,q7,R9⟩:=qcq (HT.out wr HZ.out) hx
   clear hg
   rw [e1] at cA
   clear e1 hx hk1
   clear k0 k1 k3 k4 k5 k6 k7
   generalize (tb.tasks.take k).flatMap eTk=l at *
   have HBD:Hid (l.length+(eTk x).length≤100000):=hbnd
   clear hbnd
   have hv5:=heap_alloc_new wr (.cells #[I x.prio,I x.ring,.bool x.full,I x.limit,.int .u32 (x.mask:Int),I x.inner,.slice s9.a s9.n s9.c,.int .u32 (x.auto:Int)] 61)
   have hb5:=qa0 wr (.cells #[I x.prio,I x.ring,.bool x.full,I x.limit,.int .u32 (x.mask:Int),I x.inner,.slice s9.a s9.n s9.c,.int .u32 (x.auto:Int)] 61)
   have HR9:Hid (RowsAt (wr.alloc (.cells #[I x.prio,I x.ring,.bool x.full,I x.limit,.int .u32 (x.mask:Int),I x.inner,.slice s9.a s9.n s9.c,.int .u32 (x.auto:Int)] 61)) 1 intP s9 x.own):=R9.below hb5 (fun _ _ _ _ h=>h)
   clear R9
   go_upto_region 6 with fail
   have HP:Hid (PI w (wr.alloc (.cells #[I x.prio,I x.ring,.bool x.full,I x.limit,.int .u32 (x.mask:Int),I x.inner,.slice s9.a s9.n s9.c,.int .u32 (x.auto:Int)] 61)) B 0 cs a c l∧qB wr (wr.alloc (.cells #[I x.prio,I x.ring,.bool x.full,I x.limit,.int .u32 (x.mask:Int),I x.inner,.slice s9.a s9.n s9.c,.int .u32 (x.auto:Int)] 61))):=⟨HJ.out.below hb5,hb5⟩
   have HV:Hid ((wr.alloc (.cells #[I x.prio,I x.ring,.bool x.full,I x.limit,.int .u32 (x.mask:Int),I x.inner,.slice s9.a s9.n s9.c,.int .u32 (x.auto:Int)] 61)).heap[wr.heap.size]?=some (.cells #[I x.prio,I x.ring,.bool x.full,I x.limit,.int .u32 (x.mask:Int),I x.inner,.slice s9.a s9.n s9.c,.int .u32 (x.auto:Int)] 61)):=hv5
   clear hv5 hb5 cA q0 q1 q2 q3 q4 q5 q6 q7
   generalize wr.alloc (.cells #[I x.prio,I x.ring,.bool x.full,I x.limit,.int .u32 (x.mask:Int),I x.inner,.slice s9.a s9.n s9.c,.int .u32 (x.auto:Int)] 61)=w5 at *
   generalize hP0:wr.heap.size=P0 at *
   have HSS:Hid (∀W,qB w5 W→W.cell? ⟨P0,0,none⟩=some (I x.prio)∧W.cell? ⟨P0,1,none⟩=some (I x.ring)∧W.cell? ⟨P0,2,none⟩=some (.bool x.full)∧W.cell? ⟨P0,3,none⟩=some (I x.limit)∧W.cell? ⟨P0,4,none⟩=some (.int .u32 (x.mask:Int))∧W.cell? ⟨P0,5,none⟩=some (I x.inner)∧W.cell? ⟨P0,6,none⟩=some (.slice s9.a s9.n s9.c)∧W.cell? ⟨P0,7,none⟩=some (.int .u32 (x.auto:Int))∧W.cell? ⟨B,0,none⟩=some (.slice a l.length c)):=fun W hW=>by
    have h9:=(hW.block _ (qa5 HV.out)).trans HV.out
    refine ⟨?_,?_,?_,?_,?_,?_,?_,?_,(HP.out.1.below hW).cell⟩ <;> (rw [qcr h9];rfl)
   refine qcc (S:=(fun W=>W.cell? ⟨P0,0,none⟩=some (I x.prio)∧W.cell? ⟨P0,1,none⟩=some (I x.ring)∧W.cell? ⟨P0,2,none⟩=some (.bool x.full)∧W.cell? ⟨P0,3,none⟩=some (I x.limit)∧W.cell? ⟨P0,4,none⟩=some (.int .u32 (x.mask:Int))∧W.cell? ⟨P0,5,none⟩=some (I x.inner)∧W.cell? ⟨P0,6,none⟩=some (.slice s9.a s9.n s9.c)∧W.cell? ⟨P0,7,none⟩=some (.int .u32 (x.auto:Int))∧W.cell? ⟨B,0,none⟩=some (.slice a l.length c))) 33 (by kernel_rfl) ?_
   change qbs _ _ _ _ _ _ _ #[false,false,false,false,false,false,false,false,false,false,false,false,false,false,false,false,false,false,false,false,false,false,false,false,false,false,false,false,false,false,false,false,false,false] _ _
   have hHeld:=HSS.out w5.drew (Below.refl w5.heap.size w5).drew
   have hau:IntKind.i64.wrap (x.auto:Int)=x.auto:=by have:=HKS.out;rw [IntKind.wrap_i64] <;> omega
   try simp only [qN]
   refine qTG 0 (.slice (some ⟨B,0,none⟩) 7 7) rfl hHeld ?_
   try simp only [qN]
   refine qTG 1 (.slice (some ⟨B,0,none⟩) 7 7) rfl hHeld ?_
   try simp only [qN]
   refine qTG 2 (.pointer (some ⟨B,0,none⟩)) rfl hHeld ?_
   try simp only [qN]
   refine qTG 3 (.slice a l.length c) rfl hHeld ?_
   try simp only [qN]
   refine qTG 4 (.pointer (some ⟨P0,0,none⟩)) rfl hHeld ?_
   try simp only [qN]
   refine qTG 5 (I x.prio) rfl hHeld ?_
   try simp only [qN]
   refine qTG 7 (.pointer (some ⟨P0,1,none⟩)) rfl hHeld ?_
   try simp only [qN]
   refine qTG 8 (I x.ring) rfl hHeld ?_
   try simp only [qN]
   refine qTG 10 (.pointer (some ⟨P0,2,none⟩)) rfl hHeld ?_
   try simp only [qN]
   refine qTG 11 (.bool x.full) rfl hHeld ?_
   try simp only [qN]
   refine qTG 13 (.pointer (some ⟨P0,3,none⟩)) rfl hHeld ?_
   try simp only [qN]
   refine qTG 14 (I x.limit) rfl hHeld ?_
   try simp only [qN]
   refine qTG 16 (.pointer (some ⟨P0,4,none⟩)) rfl hHeld ?_
   try simp only [qN]
   refine qTG 17 (.int .u32 (x.mask:Int)) rfl hHeld ?_
   try simp only [qN]
   refine qTG 19 (.pointer (some ⟨P0,5,none⟩)) rfl hHeld ?_
   try simp only [qN]
   refine qTG 20 (I x.inner) rfl hHeld ?_
   try simp only [qN]
   refine qTG 22 (.pointer (some ⟨P0,6,none⟩)) rfl hHeld ?_
   try simp only [qN]
   refine qTG 23 (.slice s9.a s9.n s9.c) rfl hHeld ?_
   try simp only [qN]
   refine qTG 25 (.pointer (some ⟨P0,7,none⟩)) rfl hHeld ?_
   try simp only [qN]
   refine qTG 26 (.int .u32 (x.auto:Int)) rfl hHeld ?_
   try simp only [qN]
   refine qTG 27 (I (x.auto:Int)) rfl hHeld ?_
   try simp only [qN]
   clear hHeld
   have hW0:qB w5 w5.drew:=(Below.refl _ _).drew
   refine qac (i:=6) (by kernel_rfl) rfl (fun K hK=>?_)
   have hC:=fun W (hW:W=w5.drew)=>lfB W x.prio (HKS.out.1)
   go_simp
   (go_at_call 54;refine (hC _ rfl).mono ?_;clear hC;rintro e W1 ⟨a1,c1,rfl,r1,b1⟩;refine hK.out _ _ (fun _=>HSS.out _ (belT hW0 b1)) ?_)
   have h1b:=belT hW0 b1
   clear hK K hW0 b1
   try simp only [qN]
   refine qac (i:=9) (by kernel_rfl) rfl (fun K hK=>?_)
   have hC:=fun W (hW:W=W1)=>lfB W x.ring (HKS.out.2.1)
   go_simp
   (go_at_call 54;refine (hC _ rfl).mono ?_;clear hC;rintro e W2 ⟨a2,c2,rfl,r2,b2⟩;refine hK.out _ _ (fun _=>HSS.out _ (belT h1b b2)) ?_)
   have r1:=r1.below b2
   have h2b:=belT h1b b2
   clear hK K h1b b2
   try simp only [qN]
   refine qac (i:=12) (by kernel_rfl) rfl (fun K hK=>?_)
   have hC:=fun W (hW:W=W2)=>lfF W x.full
   go_simp
   (go_at_call 127;refine (hC _ rfl).mono ?_;clear hC;rintro e W3 ⟨a3,c3,rfl,r3,b3⟩;refine hK.out _ _ (fun _=>HSS.out _ (belT h2b b3)) ?_)
   have r1:=r1.below b3
   have r2:=r2.below b3
   have h3b:=belT h2b b3
   clear hK K h2b b3
   try simp only [qN]
   refine qac (i:=15) (by kernel_rfl) rfl (fun K hK=>?_)
   have hC:=fun W (hW:W=W3)=>lfB W x.limit (HKS.out.2.2.1)
   go_simp
   (go_at_call 54;refine (hC _ rfl).mono ?_;clear hC;rintro e W4 ⟨a4,c4,rfl,r4,b4⟩;refine hK.out _ _ (fun _=>HSS.out _ (belT h3b b4)) ?_)
   have r1:=r1.below b4
   have r2:=r2.below b4
   have r3:=r3.below b4
   have h4b:=belT h3b b4
   clear hK K h3b b4
   try simp only [qN]
   refine qac (i:=18) (by kernel_rfl) rfl (fun K hK=>?_)
   have hC:=fun W (hW:W=W4)=>lfW W x.mask (HKS.out.2.2.2.1)
   go_simp
   (go_at_call 52;refine (hC _ rfl).mono ?_;clear hC;rintro e W5 ⟨a5,c5,rfl,r5,b5⟩;refine hK.out _ _ (fun _=>HSS.out _ (belT h4b b5)) ?_)
   have r1:=r1.below b5
   have r2:=r2.below b5
   have r3:=r3.below b5
   have r4:=r4.below b5
   have h5b:=belT h4b b5
   clear hK K h4b b5
   try simp only [qN]
   refine qac (i:=21) (by kernel_rfl) rfl (fun K hK=>?_)
   have hC:=fun W (hW:W=W5)=>lfM W x.inner (HKS.out.2.2.2.2.1)
   go_simp
   (go_at_call 128;refine (hC _ rfl).mono ?_;clear hC;rintro e W6 ⟨a6,c6,rfl,r6,b6⟩;refine hK.out _ _ (fun _=>HSS.out _ (belT h5b b6)) ?_)
   have r1:=r1.below b6
   have r2:=r2.below b6
   have r3:=r3.below b6
   have r4:=r4.below b6
   have r5:=r5.below b6
   have h6b:=belT h5b b6
   clear hK K h5b b6
   try simp only [qN]
   refine qac (i:=24) (by kernel_rfl) rfl (fun K hK=>?_)
   have hC:=lfL (W6) s9 x.own (HR9.out.below h6b (fun _ _ _ _ h=>h)) (HKS.out.2.2.2.2.2.1)
   go_simp
   (go_at_call 129;refine hC.mono ?_;clear hC;rintro e W7 ⟨a7,c7,rfl,r7,b7⟩;refine hK.out _ _ (fun _=>HSS.out _ (belT h6b b7)) ?_)
   have r1:=r1.below b7
   have r2:=r2.below b7
   have r3:=r3.below b7
   have r4:=r4.below b7
   have r5:=r5.below b7
   have r6:=r6.below b7
   have h7b:=belT h6b b7
   clear hK K h6b b7
   try simp only [qN]
   refine qac (i:=28) (by kernel_rfl) rfl (fun K hK=>?_)
   have hC:=fun W (hW:W=W7)=>lfU W x.auto (HKS.out.2.2.2.2.2.2)
   go_simp
   (go_at_call 54;refine (hC _ rfl).mono ?_;clear hC;rintro e W8 ⟨a8,c8,rfl,r8,b8⟩;refine hK.out _ _ (fun _=>HSS.out _ (belT h7b b8)) ?_)
   have r1:=r1.below b8
   have r2:=r2.below b8
   have r3:=r3.below b8
   have r4:=r4.below b8
   have r5:=r5.below b8
   have r6:=r6.below b8
   have r7:=r7.below b8
   have h8b:=belT h7b b8
   clear hK K h7b b8
   try simp only [qN]
   have hfl:[e1 x.prio,e1 x.ring,eF x.full,e1 x.limit,leB 4 x.mask,e1 (x.inner+1),eL x.own,leB 1 x.auto].flatten=eTk x:=by simp [eTk]
   have hR:=rowN W8 [(a1,1,c1),(a2,1,c2),(a3,1,c3),(a4,1,c4),(a5,4,c5),(a6,1,c6),(a7,(eL x.own).length,c7),(a8,1,c8)] [e1 x.prio,e1 x.ring,eF x.full,e1 x.limit,leB 4 x.mask,e1 (x.inner+1),eL x.own,leB 1 x.auto] 8 ⟨r1,r2,r3,r4,r5,r6,r7,r8,trivial⟩ rfl (by omega) (by rw [hfl];have:=HBD.out;omega)
   rw [hfl] at hR
   simp only [List.map_cons,List.map_nil] at hR
   clear hfl r1 r2 r3 r4 r5 r6 r7 r8
   refine qac (i:=29) (by kernel_rfl) rfl (fun K hK=>?_)
   go_simp
   refine hK.out _ _ (fun _=>HSS.out _ (belA h8b)) ?_
   clear hK K
   try simp only [qN]
   refine qac (i:=30) (by kernel_rfl) rfl (fun K hK=>?_)
   go_simp
   (go_at_call 50;refine hR.mono ?_;clear hR;rintro e WR ⟨u,rfl,ho⟩;have hRb:=belT (belA h8b) ho.2;have HPR:=HP.out.1.below hRb;have HVR:Hid (WR.heap[P0]?=some (.cells #[I x.prio,I x.ring,.bool x.full,I x.limit,.int .u32 (x.mask:Int),I x.inner,.slice s9.a s9.n s9.c,.int .u32 (x.auto:Int)] 61)):=(hRb.block _ (qa5 HV.out)).trans HV.out;have ho:=ho.1;refine hK.out _ _ (fun _=>HSS.out _ hRb) ?_)
   clear hK K h8b hRb
   try simp only [qN]
   refine qac (i:=31) (by kernel_rfl) rfl (fun K hK=>?_)
   refine qcx rfl _ _ rfl w.heap.size _ (.slice a l.length c) u l (eTk x) (by simp [Act.eval]) (by simp [Act.eval]) HPR.o ho (by have:=HBD.out;omega) HPR.g.size ?_
   intro v' W9 hO hg
   obtain ⟨hgr,hty,a',c',rfl,hc1,hf1,HPN⟩:=HPR.next hO hg
   have HS9:Hid (W9.cell? ⟨P0,0,none⟩=some (I x.prio)∧W9.cell? ⟨P0,1,none⟩=some (I x.ring)∧W9.cell? ⟨P0,2,none⟩=some (.bool x.full)∧W9.cell? ⟨P0,3,none⟩=some (I x.limit)∧W9.cell? ⟨P0,4,none⟩=some (.int .u32 (x.mask:Int))∧W9.cell? ⟨P0,5,none⟩=some (I x.inner)∧W9.cell? ⟨P0,6,none⟩=some (.slice s9.a s9.n s9.c)∧W9.cell? ⟨P0,7,none⟩=some (.int .u32 (x.auto:Int))∧W9.cell? ⟨B,0,none⟩=some (.slice a l.length c)):=by
    have h9:=hty _ _ _ HVR.out (by decide)
    refine ⟨?_,?_,?_,?_,?_,?_,?_,?_,hc1⟩ <;> (rw [qcr h9];rfl)
   refine hK.out _ _ (fun _=>HS9.out) ?_
   clear hK K hO hg HPR ho hgr hty
   generalize l++eTk x=l2 at *
   try simp only [qN]
   refine qac (i:=32) (by kernel_rfl) rfl (fun K hK=>?_)
   go_simp
   refine hK.out _ _ (fun _=>HS9.out) ?_
   clear hK K
   try simp only [qN]
   refine qac (i:=33) (by kernel_rfl) rfl (fun K hK=>?_)
   go_simp
   refine hK.out _ _ (fun h=>absurd rfl h) ?_
   clear hK K hc1 hf1
   try simp only [qN]
   refine qcb (by kernel_rfl) ?_ _
   have HPF:Hid (PI w (W9.setCell ⟨B,0,none⟩ (.slice a' l2.length c')) B 0 cs a' c' l2):=HPN
   clear HPN
   generalize W9.setCell ⟨B,0,none⟩ (.slice a' l2.length c')=WF at *
   go_wp2
   go_roundw
   case rel=>exact ⟨k+1,a',c',by omega,by go_num,by rw [HN.out];exact HPF.out⟩
   case measure=>simp [intOf];omega
  ·obtain rfl:k=v.t.n:=by omega
   have hge:¬((v.t.n:Int) < v.t.n):=by omega
   have HE:Hid (PI w wr B 0 cs a c (tb.tasks.flatMap eTk)):=by
    have h9:=HJ.out
    rw [List.take_of_length_le (by have:=(HT.out wr HZ.out).t.n;omega)] at h9
    exact h9
   clear HJ
   go_wp2
   (try simp only [Exit.inBlock,Exit.then])
   exact HK.out _ _ a c rfl rfl rfl HZ.out HE.out
end Go.Proofs.YtijgopkhdjaolaaGreat
