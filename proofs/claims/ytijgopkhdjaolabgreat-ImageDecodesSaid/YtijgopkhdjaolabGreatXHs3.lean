import Derived.Test.YtijgopkhdjaolabGreatXHr4
import Derived.Test.YtijgopkhdjaolabGreatXHx
import Derived.Test.YtijgopkhdjaolabGreatXHrrTk
import Derived.Deep.RegionHeldLaw
import Derived.Laws.IdiomStrings
set_option linter.unusedSimpArgs false
set_option linter.unusedVariables false
set_option maxHeartbeats 16000000
set_option maxRecDepth 100000
namespace Go.Proofs.YtijgopkhdjaolabGreat
open Go.RowKit Go.Shelf Go.Sort
open Go.Proofs.YtijgopkhdjaolabGreat.Ob (leB leV qa8 qag crc Rd RdAll qa7 Rdr)
theorem ql1 {w:World} {b o:Nat} (l:List UInt8) (cap:Nat) (hc:∀i x,l[i]?=some x→w.cell? ⟨b,o+i,none⟩=some (.int .u8 (x.toNat:Int))):(convert 22 9 (.slice (some ⟨b,o,none⟩) l.length cap)).run Tryz.prog w=.ok (.string ⟨l.toArray⟩) w:=by
 refine run_convert_bytes_back w 22 9 5 ⟨b,o,none⟩ cap l Tryz.underlying22 Tryz.underlying5 Tryz.underlying9 (fun j hj=>?_);have:=hc j l[j] (List.getElem?_eq_getElem hj);rw [qd6];exact this
theorem qqp (l k:List UInt8):(l==k)=decide (l=k):=by
 rw [Bool.eq_iff_iff];simp
theorem qnk {w:World} {g o g2 o2 c c2 n m:Nat} {l k:List UInt8} (hn:n=l.length) (hm:m=k.length) (h1:∀i x,l[i]?=some x→w.cell? ⟨g,o+i,none⟩=some (.int .u8 (x.toNat:Int))) (h2:∀i x,k[i]?=some x→w.cell? ⟨g2,o2+i,none⟩=some (.int .u8 (x.toNat:Int))):Calls Tryz.prog 107 #[.slice (some ⟨g,o,none⟩) n c,.slice (some ⟨g2,o2,none⟩) m c2] w fun e w'=>e=.returned (.bool (decide (l=k)))∧w'=w:=by
 subst hn hm;have e1:=ql1 l c h1;have e2:=ql1 k c2 h2;have HE:Hid ((l==k)=decide (l=k)):=qqp l k;clear h1 h2;go_enter Tryz.func107,Tryz.ntmps107
 go_wp2;go_ret;exact ⟨by rw [←HE.out];rfl,rfl⟩
theorem qha {w:World} {g off n c:Nat} {bs:List UInt8} (h:Rd w (some ⟨g,off,none⟩) n c bs) (i m c2:Nat) (hi:i+m≤n) (hm:0 < m) (hc:m≤c2):Rd w (some ⟨g,off+i,none⟩) m c2 ((bs.drop i).take m):=by
 have h1:=h.hlen;have h3:=h.hsmall;refine ⟨by simp;omega,hc,by omega,(fun e=>by cases e),fun _=>?_⟩;obtain ⟨b,o,e,hb,hcc⟩:=h.hcell (by omega);simp only [Option.some.injEq,Addr.mk.injEq,and_true] at e;obtain ⟨rfl,rfl⟩:=e;refine ⟨g,off+i,rfl,hb,fun j x hx=>?_⟩;have hj:j < m:=by
  have:=(List.getElem?_eq_some_iff.1 hx).1;simp at this;omega
 rw [List.getElem?_take_of_lt hj,List.getElem?_drop] at hx;rw [Nat.add_assoc];exact hcc _ x hx
theorem qnl {w:World} {a:Option Addr} {n c M:Nat} (hn:n < 4):Calls Tryz.prog 31 #[.slice a n c,.slice (some ⟨M,0,none⟩) 4 4] w fun e w'=>e=.returned (.bool false)∧w'=w:=by
 have h1:¬((n:Int) ≥ 4):=by omega
 have h2:¬((4:Int)≤n):=by omega
 go_enter Tryz.func31,Tryz.ntmps31
 go_wp2;go_ret;exact ⟨rfl,rfl⟩
theorem qm2 {w:World} {g off n c M:Nat} {bs:List UInt8} (h:Rd w (some ⟨g,off,none⟩) n c bs) (hn:4≤n) (hM:rdV w 1 (.slice (some ⟨M,0,none⟩) 4 4) mrk.length (Bs8 mrk)):Calls Tryz.prog 31 #[.slice (some ⟨g,off,none⟩) n c,.slice (some ⟨M,0,none⟩) 4 4] w fun e w'=>e=.returned (.bool (decide (bs.take 4=mrk)))∧w'=w:=by
 have hr:=qha h 0 4 c (by omega) (by omega) (by have:=h.hle;omega);rw [Nat.add_zero,List.drop_zero] at hr;obtain ⟨b,o,e,hb,hc⟩:=hr.hcell (by omega);simp only [Option.some.injEq,Addr.mk.injEq,and_true] at e;obtain ⟨rfl,rfl⟩:=e;have hE:=qnk (w:=w) (g:=g) (o:=off) (g2:=M) (o2:=0) (c:=c) (c2:=4) (n:=4) (m:=4) (l:=bs.take 4) (k:=mrk) hr.hlen.symm rfl hc (fun i x hx=>by
  rcases hM.2 with ⟨q,_⟩ | ⟨g',cap,q,_,hcc⟩
  ·cases q
  ·cases q
   exact hcc i _ (by rw [List.getElem?_map,hx];rfl))
 have h1:(4:Int)≤n:=by omega
 have h2:(4:Int)≤c:=by have:=h.hle;omega
 have h3:(n:Int) ≥ 4:=by omega
 clear hr h hM hc hb;go_enter Tryz.func31,Tryz.ntmps31
 go_wp2_with (first | (go_at_call 107;refine hE.mono ?_;clear hE;rintro e w3 ⟨rfl,hw3⟩;rw [hw3];clear hw3));go_ret;exact ⟨rfl,rfl⟩
theorem qf3 {w:World} {a:Option Addr} {n c:Nat} {l:List UInt8} (h:Rd w a n c l) (h1:1≤n) (h2:n≤8):Calls Tryz.prog 32 #[.slice a n c] w fun e w'=>e=.returned (.int .u64 (leV l:Nat))∧qB w w':=by
 have hl:=h.hlen;have hN:=Ob.newReader_any a n c l w h;have HT:Hid (l.take n=l):=by show _=_;rw [←hl];exact List.take_length
 clear h;go_enter Tryz.func32,Tryz.ntmps32
 go_wp2_with (first | (go_at_call 34;refine hN.mono ?_;clear hN;rintro e w1 ⟨r,a',cap',rfl,hR,hb⟩;have hQ:=Ob.rnumber_made hR n h1 h2 (Nat.le_refl n);have hbr:=hR.hbase;clear hR) | (go_at_call 108;refine hQ.mono ?_;clear hQ;rintro e w2 ⟨rfl,-,hg⟩));go_ret;rw [HT.out];exact ⟨rfl,Go.RowKit.Below.grown hb hg hb.size (fun k e=>by cases e;exact hbr)⟩
end Go.Proofs.YtijgopkhdjaolabGreat
namespace Go.Proofs.YtijgopkhdjaolabGreat
open Go.RowKit Go.Shelf Go.Sort
open Go.Proofs.YtijgopkhdjaolabGreat.Ob (leB leV qa8 qag crc Rd RdAll qa7)
abbrev pcO (k n:Int) (u:Value):Obj:=.cells #[I k,I n,u] 91
theorem qrx {fn:Func} {k:Nat} (hf:fn.results=#[.cell k 91]) (tmps:Array Value) (b:Nat) (w:World) (x y:Int) (a:Option Addr) (n c:Nat)
  (h2:tmps[k]?=some (.pointer (some ⟨b,0,none⟩))) (hk:w.heap[b]?=some (.cells #[I x,I y,.slice a n c] 91 (0,0))):(results fn tmps).run Tryz.prog w=.ok (.agg #[I x,I y,.slice a n c]) w:=by
 have a1:=fun i=>cell_of_row w b i _ _ (0,0) hk
 have z0:=a1 0;have z1:=a1 1;have z2:=a1 2;simp at z0 z1 z2;simp [results,hf,go_sem,h2,z0,z1,z2]
theorem qhr {w:World} {b e k n g i:Nat} {v u:Value} {xs:List Value} (h:w.ownsRow b e k v n xs) (hg:g < b):(w.setCell ⟨g,i,none⟩ u).ownsRow b e k v n xs:=by
 refine ⟨h.1,?_⟩;rcases h.2 with q | ⟨g',cap,cur,q1,q2,q3,q4⟩
 ·exact .inl q
 ·exact .inr ⟨g',cap,cur,q1,q2,(heap_setCell_other w ⟨g,i,none⟩ g' u (by show g'≠g;omega)).trans q3,q4⟩
def set3 (w2:World) (X:Nat) (k n:Int) (u:Value):World:=((w2.setCell ⟨X,0,none⟩ (I k)).setCell ⟨X,1,none⟩ (I n)).setCell ⟨X,2,none⟩ u
theorem qry {w:World} (k n:Int):∀w2 (u:Value) (F:List UInt8),w2.ownsRow (w.alloc (pcO 0 0 qZ)).heap.size 5 1 u F.length (Bs8 F)→qB (w.alloc (pcO 0 0 qZ)) w2 →
  OwB w (set3 w2 w.heap.size k n u) u F∧(set3 w2 w.heap.size k n u).heap[w.heap.size]?=some (pcO k n u)∧(w2.cell? ⟨w.heap.size,0,none⟩=some (I 0)∧(w2.setCell ⟨w.heap.size,0,none⟩ (I k)).cell? ⟨w.heap.size,1,none⟩=some (I 0)∧(qS2 w2 (w.heap.size) (I k) (I n)).cell? ⟨w.heap.size,2,none⟩=some qZ)∧w2.frozen? ⟨w.heap.size,0,none⟩=false∧(w2.setCell ⟨w.heap.size,0,none⟩ (I k)).frozen? ⟨w.heap.size,1,none⟩=false∧(qS2 w2 (w.heap.size) (I k) (I n)).frozen? ⟨w.heap.size,2,none⟩=false:=fun w2 u F ho b2=>by
 have hb:=qa0 w (pcO 0 0 qZ);have hv:=heap_alloc_new w (pcO 0 0 qZ);have q:=(b2.block _ (qa6 hv)).trans hv;have q1:=heap_setCell_same w2 w.heap.size 0 _ _ (I k) q;have q2:=heap_setCell_same _ w.heap.size 1 _ _ (I n) q1;have q3:=heap_setCell_same _ w.heap.size 2 _ _ u q2;have bb:=hb.trans (b2.mono hb.size);have hlt:w.heap.size < (w.alloc (pcO 0 0 qZ)).heap.size:=qa6 hv;exact ⟨⟨qbk (qhr (qhr (qhr ho hlt) hlt) hlt) hb.size,Bset (Bset (Bset bb (Nat.le_refl _)) (Nat.le_refl _)) (Nat.le_refl _)⟩,q3,⟨by rw [qcr q];rfl,by rw [qcr q1];rfl,by rw [qcr q2];rfl⟩,frozen_of_row _ _ _ _ _ q,frozen_of_row _ _ _ _ _ q1,frozen_of_row _ _ _ _ _ q2⟩
theorem qhb {w w':World} {s:Sl} {ls:List (List UInt8)} (h:RowsAt w 1 (segB w) s ls) (hb:qB w w'):RowsAt w' 1 (segB w') s ls:=h.below hb (fun x i u _ q=>qc0 q hb)
theorem qc3 (w:World) (k:Int) (s:Sl) (ls:List (List UInt8)) (F:List UInt8) (hF:ls.flatten=F) (hS:RowsAt w 1 (segB w) s ls) (hlen:F.length≤1000000):Calls Tryz.prog 74 #[I k,slT s] w fun e w'=>∃a c,e=.returned (.agg #[I k,I ls.length,.slice a F.length c])∧OwB w w' (.slice a F.length c) F:=by
 have hC:=catB _ s ls (qhb hS (qa0 w (pcO 0 0 qZ))) (by rw [hF];exact hlen);rw [qd8,hF] at hC;have hsn:s.n=ls.length:=hS.n;have HS:Hid (∀w2 (u:Value) (F:List UInt8),w2.ownsRow (w.alloc (pcO 0 0 qZ)).heap.size 5 1 u F.length (Bs8 F)→qB (w.alloc (pcO 0 0 qZ)) w2 →
  OwB w (set3 w2 w.heap.size k s.n u) u F∧(set3 w2 w.heap.size k s.n u).heap[w.heap.size]?=some (pcO k s.n u)∧(w2.cell? ⟨w.heap.size,0,none⟩=some (I 0)∧(w2.setCell ⟨w.heap.size,0,none⟩ (I k)).cell? ⟨w.heap.size,1,none⟩=some (I 0)∧(qS2 w2 (w.heap.size) (I k) (I s.n)).cell? ⟨w.heap.size,2,none⟩=some qZ)∧w2.frozen? ⟨w.heap.size,0,none⟩=false∧(w2.setCell ⟨w.heap.size,0,none⟩ (I k)).frozen? ⟨w.heap.size,1,none⟩=false∧(qS2 w2 (w.heap.size) (I k) (I s.n)).frozen? ⟨w.heap.size,2,none⟩=false):=qry k s.n
 rw [←hsn];clear hsn hS hF hlen;obtain ⟨sa,sn,sc⟩:=s;dsimp only at *;show Calls _ _ #[I k,.slice sa sn sc] _ _;generalize hw1:w.alloc (pcO 0 0 (.slice none 0 0))=w1 at *;go_enter Tryz.func74,Tryz.ntmps74
 go_upto_region 1 with fail;clear hw1;go_wp2_with (first | (go_at_call 83;refine hC.mono ?_;clear hC;rintro e w2 ⟨u,rfl,o2,b2⟩;obtain ⟨a,c,rfl⟩:=qam o2;obtain ⟨k1,k2,⟨k3,k4,k5⟩,k6,k7,k8⟩:=HS.out w2 _ F o2 b2;have K:Hid (OwB w (set3 w2 w.heap.size k sn (.slice a F.length c)) (.slice a F.length c) F∧(set3 w2 w.heap.size k sn (.slice a F.length c)).heap[w.heap.size]?=some (pcO k sn (.slice a F.length c))):=⟨k1,k2⟩;clear k1 k2 o2 b2));refine bodyPost_ret (qrx Tryz.results74 _ w.heap.size _ _ _ _ _ _ rfl K.out.2) rfl ?_;exact ⟨_,_,rfl,K.out.1⟩
theorem qk8 {W:World} {X g off n c j:Nat} {a:Option Addr} {m c2:Nat} (hX:W.cell? ⟨X,0,none⟩=some (.slice (some ⟨g,off,none⟩) n c)) (hj:j < n) (hc:W.cell? ⟨g,off+j * 3+2,none⟩=some (.slice a m c2)):Calls Tryz.prog 84 #[I j,.pointer (some ⟨X,0,none⟩)] W fun e w'=>e=.returned (.slice a m c2)∧w'=W:=by
 have hjn:(j:Int) < n:=by omega
 go_enter Tryz.func84,Tryz.ntmps84
 go_wp2;go_ret;exact ⟨rfl,rfl⟩
theorem qrz (w:World) (o:Obj):(w.alloc o).heap.size=w.heap.size+1:=by first | simp | (unfold World.alloc;simp)
theorem ql2 {α:Type} (l:List α) (e:α→List UInt8):(List.range l.length).map (fun j=>((l[j]?).map e).getD [])=l.map e:=by
 apply List.ext_getElem?;intro i;rw [List.getElem?_map,List.getElem?_map];by_cases hi:i < l.length
 ·rw [List.getElem?_range hi,List.getElem?_eq_getElem hi]
  simp [List.getElem?_eq_getElem hi]
 ·rw [List.getElem?_eq_none (by simpa using hi),List.getElem?_eq_none (by simpa using hi)]
  rfl
theorem qe7 {w:World} {tb:Tb} {v:Ts} {α:Type} (l:List α) (e:α→List UInt8) (n f:Nat) (hn:n=l.length) (hl:l.length≤1000) (eg:∀args W,(callFunc f args).run Tryz.prog W=.ok (.enter f args) W)
  (hf:∀W,qB w W→∀(j:Nat) (x:α),l[j]?=some x→Calls Tryz.prog f #[.agg (tbC tb v),I j] W fun ee w'=>∃u,ee=.returned u∧OwB W w' u (e x)) :
  ∀W,qB w W→Calls Tryz.prog 75 #[I n,.func (.func f) #[.agg (tbC tb v)] #[]] W fun ee w'=>∃s,ee=.returned (slT s)∧RowsAt w' 1 (segB w') s (l.map e)∧qB W w':=fun W hW=>by
 subst hn;refine (qpl W l.length hl f #[.agg (tbC tb v)] #[] eg (fun j=>((l[j]?).map e).getD []) (fun W' hW' j hj=>?_)).mono ?_
 ·have hx:l[j]?=some l[j]:=List.getElem?_eq_getElem hj
  rw [show (#[.agg (tbC tb v)]++#[I j]++#[]:Array Value)=#[.agg (tbC tb v),I j] from rfl];refine (hf W' (belT hW hW') j _ hx).mono ?_;rintro ee w' ⟨u,rfl,o,b⟩;rw [hx];exact ⟨u,rfl,qba o,b⟩
 ·rintro ee w' ⟨u,rfl,r,b⟩
  rw [ql2] at r;obtain ⟨s,rfl,r2⟩:=r.rows;exact ⟨s,rfl,r2,b⟩
theorem qdp {W:World} {b e k n Y T:Nat} {u x:Value} {xs:List Value} {cs:Array Value} (h:W.ownsRow b e k u n xs) (hY:W.heap[Y]?=some (.cells cs T)) (he:T≠e):(W.setCell ⟨Y,0,none⟩ x).ownsRow b e k u n xs:=by
 refine ⟨h.1,?_⟩;rcases h.2 with q | ⟨g,cap,cur,q1,q2,q3,q4⟩
 ·exact .inl q
 ·refine .inr ⟨g,cap,cur,q1,q2,?_,q4⟩
  rw [heap_setCell_other W ⟨Y,0,none⟩ g x (by rintro rfl;rw [hY] at q3;cases q3;exact he rfl)];exact q3
theorem qsy {w:World} {Y Z n:Nat} (us:List Value) (Fs:List (List UInt8)) (hn:n=Fs.length) (hl:n≤1000) (hu:us.length=n) (hY:w.cell? ⟨Y,0,none⟩=some (.slice (some ⟨Z,0,none⟩) n n)) (hYl:Y < w.heap.size) (hZl:Z < w.heap.size)
  (hZ:∀j u,us[j]?=some u→w.cell? ⟨Z,0+j * 3+2,none⟩=some u) (ho:∀(j:Nat) (F:List UInt8) (u:Value),Fs[j]?=some F→us[j]?=some u→w.ownsRow 0 5 1 u F.length (Bs8 F)) :
  Calls Tryz.prog 75 #[I n,.func (.func 84) #[] #[.pointer (some ⟨Y,0,none⟩)]] w fun e w'=>∃s,e=.returned (slT s)∧RowsAt w' 1 (segB w') s Fs∧qB w w':=by
 refine (qpl w n hl 84 #[] #[.pointer (some ⟨Y,0,none⟩)] (fun _ _=>rfl) (fun j=>(Fs[j]?).getD []) (fun W hW j hj=>?_)).mono ?_
 ·obtain ⟨u,hu1⟩:∃u,us[j]?=some u:=⟨_,List.getElem?_eq_getElem (by omega)⟩
  obtain ⟨F,hF1⟩:∃F,Fs[j]?=some F:=⟨_,List.getElem?_eq_getElem (by omega)⟩
  have o1:=ho j F u hF1 hu1;obtain ⟨a,c,rfl⟩:=qam o1;refine (qk8 (W:=W) (X:=Y) (g:=Z) (off:=0) (n:=n) (c:=n) (j:=j) (by rw [qa5 hW _ _ hYl];exact hY) hj (by rw [qa5 hW _ _ hZl];exact hZ j _ hu1)).mono ?_;rintro e w' ⟨rfl,rfl⟩;rw [hF1];exact ⟨_,rfl,qad o1 hW,Below.refl _ _⟩
 ·rintro ee w' ⟨u,rfl,r,b⟩
  have e:(List.range n).map (fun j=>(Fs[j]?).getD [])=Fs:=by
   have:=ql2 Fs (fun x=>x);simp only [List.map_id',Option.map_id'] at this;rw [hn];exact this
  rw [e] at r;obtain ⟨s,rfl,r2⟩:=r.rows;exact ⟨s,rfl,r2,b⟩
theorem qs0 {W:World} {X:Nat} {u1 u2:Value} {l1 l2:List UInt8} (h:W.heap[X]?=some (.cells #[u1,u2] 22)) (h1:W.ownsRow 0 5 1 u1 l1.length (Bs8 l1)) (h2:W.ownsRow 0 5 1 u2 l2.length (Bs8 l2)) (n1:l1.length≤1000000) (n2:l2.length≤1000000):RdAll W (some ⟨X,0,none⟩) 2 2 [l1,l2]:=by
 obtain ⟨a1,c1,rfl⟩:=qam h1;obtain ⟨a2,c2,rfl⟩:=qam h2;refine ⟨rfl,by omega,fun _=>⟨X,0,rfl,fun i l hi=>?_⟩⟩;match i,hi with
 | 0,hi=>simp at hi;subst hi;exact ⟨a1,_,c1,by rw [qcr h];rfl,qa7 h1 (by omega)⟩
 | 1,hi=>simp at hi;subst hi;exact ⟨a2,_,c2,by rw [qcr h];rfl,qa7 h2 (by omega)⟩
end Go.Proofs.YtijgopkhdjaolabGreat
namespace Go.Proofs.YtijgopkhdjaolabGreat
open Go.RowKit Go.Shelf Go.Sort
open Go.Proofs.YtijgopkhdjaolabGreat.Ob (leB leV qa8 qag crc Rd RdAll qa7 Rdr)
def outE (bs:List UInt8):Nat:=if bs.take 4≠mrk then 100 else if bs.length < 30∨leV ((bs.drop 4).take 4)≠bs.length then 101 else if leV (bs.drop (bs.length - 2))≠crc 65535 (bs.take (bs.length - 2)) then 102 else 0
theorem qs1 {W:World} {X n c:Nat} {a:Option Addr} {l:List UInt8} (h:W.heap[X]?=some (.cells #[.slice a n c] 22)) (h1:Rd W a n c l):RdAll W (some ⟨X,0,none⟩) 1 1 [l]:=by
 refine ⟨rfl,by omega,fun _=>⟨X,0,rfl,fun i l' hi=>?_⟩⟩;match i,hi with
 | 0,hi=>simp at hi;subst hi;exact ⟨a,n,c,by rw [qcr h];rfl,h1⟩
theorem qk9 {w:World} {a:Option Addr} {n c:Nat} {bs:List UInt8} (h:Rd w a n c bs):Calls Tryz.prog 15 #[.slice a n c] w fun e w'=>e=.returned (I (outE bs))∧qB w w':=by
 have hl:=h.hlen;have hle:=h.hle;have hsm:=h.hsmall;have hcv:=qgm (heap_alloc_new w mkO);have hb1:=qef (qa0 w mkO) (Nat.le_refl _);have hM:=qjk (heap_alloc_new w mkO);generalize hW1:(w.alloc mkO).freeze ⟨w.heap.size,4,none⟩ 1=W1 at *;clear hW1;by_cases h4:n < 4
 ·have HE:Hid (outE bs=100):=by
   show _=_;unfold outE;rw [if_pos];intro e;have:=congrArg List.length e;simp [mrk] at this;omega
  have hP:=qnl (w:=W1) (a:=a) (c:=c) (M:=w.heap.size) h4;rw [HE.out];clear h HE hM;go_enter Tryz.func15,Tryz.ntmps15
  go_wp2_with (first | (go_at_call 31;refine hP.mono ?_;clear hP;rintro e w3 ⟨rfl,hw3⟩;rw [hw3];clear hw3));go_ret;exact ⟨rfl,hb1⟩
 obtain ⟨g,off,rfl,hg,-⟩:=h.hcell (by omega);have h':=h.below hb1;have hP:=qm2 (M:=w.heap.size) h' (by omega) hM;by_cases hm:bs.take 4=mrk
 case neg=>
  have HE:Hid (outE bs=100):=by show _=_;unfold outE;rw [if_pos hm]
  rw [HE.out];rw [decide_eq_false hm] at hP;clear h h' HE hM hm;go_enter Tryz.func15,Tryz.ntmps15
  go_wp2_with (first | (go_at_call 31;refine hP.mono ?_;clear hP;rintro e w3 ⟨rfl,hw3⟩;rw [hw3];clear hw3));go_ret;exact ⟨rfl,hb1⟩
 rw [decide_eq_true hm] at hP;by_cases h30:n < 30
 ·have HE:Hid (outE bs=101):=by show _=_;unfold outE;rw [if_neg (by simpa using hm),if_pos (.inl (by omega))]
  have h30i:(n:Int) < 30:=by omega
  rw [HE.out];clear h h' HE hM hm;go_enter Tryz.func15,Tryz.ntmps15
  go_wp2_with (first | (go_at_call 31;refine hP.mono ?_;clear hP;rintro e w3 ⟨rfl,hw3⟩;rw [hw3];clear hw3));go_ret;exact ⟨rfl,hb1⟩
 have h30i:¬((n:Int) < 30):=by omega
 have hN:=qf3 (qha h' 4 4 (c - 4) (by omega) (by omega) (by omega)) (by omega) (by omega);have hc8:(8:Int)≤c:=by omega
 have hwn:IntKind.u64.wrap (n:Int)=n:=by rw [IntKind.wrap_u64];omega
 by_cases hsz:leV ((bs.drop 4).take 4)=n
 case neg=>
  have HE:Hid (outE bs=101):=by show _=_;unfold outE;rw [if_neg (by simpa using hm),if_pos (.inr (by rw [hl];exact hsz))]
  have hne:(((leV ((bs.drop 4).take 4):Nat):Int)==(n:Int))=false:=by rw [beq_eq_false_iff_ne];omega
  rw [HE.out];clear h h' HE hM hm hsz;clear hl hle hg;generalize leV ((bs.drop 4).take 4)=q at *;have hd:decide ((n:Int) < 30)=false:=by rw [decide_eq_false_iff_not];omega
  have hbn:((q:Int) != (n:Int))=true:=by simp [bne,hne]
  have HB1:Hid (qB w W1):=hb1;clear hne h30i hsm hb1 h30 h4;go_enter Tryz.func15,Tryz.ntmps15
  go_wp2_with (first | (go_at_call 31;refine hP.mono ?_;clear hP;rintro e w3 ⟨rfl,hw3⟩;rw [hw3];clear hw3));refine hN.mono ?_;clear hN;rintro e w4 ⟨rfl,b4⟩;have B4:Hid (qB W1 w4):=b4;clear b4 hcv;go_wp2_with fail;go_ret;exact ⟨rfl,belT HB1.out B4.out⟩
 rw [hsz] at hN;have HO:Hid (outE bs=if leV (bs.drop (n - 2))≠crc 65535 (bs.take (n - 2)) then 102 else 0):=by
  show _=_;unfold outE;rw [if_neg (by simpa using hm),if_neg (by rw [hl];rintro (q | q);exact h30 q;exact q hsz),hl]
 obtain ⟨X,hXE⟩:∃X,X=if leV (bs.drop (n - 2))≠crc 65535 (bs.take (n - 2)) then 102 else 0:=⟨_,rfl⟩
 rw [HO.out,←hXE];have HXE:Hid (X=if leV (bs.drop (n - 2))≠crc 65535 (bs.take (n - 2)) then 102 else 0):=hXE;obtain ⟨e,hee⟩:∃e,n - 2=e:=⟨_,rfl⟩
 have HEE:Hid (n - 2=e):=hee;clear hXE hee;have hd:decide ((n:Int) < 30)=false:=by rw [decide_eq_false_iff_not];omega
 have hw2:IntKind.i64.wrap ((n:Int) - 2)=(n:Int) - 2:=by rw [IntKind.wrap_i64];omega
 have HB1:Hid (qB w W1):=hb1;have HN:Hid (30≤n∧n≤c∧n≤140737488351232∧bs.length=n∧Rd W1 (some ⟨g,off,none⟩) n c bs):=⟨by omega,hle,hsm,hl,h'⟩;clear HO hm hsz h h' h4 hM hl hle hsm hg hb1 h30 h30i;go_enter Tryz.func15,Tryz.ntmps15
 go_wp2_with (first | (go_at_call 31;refine hP.mono ?_;clear hP;rintro e w3 ⟨rfl,hw3⟩;rw [hw3];clear hw3));refine hN.mono ?_;clear hN;rintro e w4 ⟨rfl,b4⟩;have B4:Hid (qB W1 w4):=b4;clear b4 hcv;go_wp2_with fail;have hcast:(n:Int) - 2=(e:Int):=by have:=HN.out.1;have:=HEE.out;omega
 rw [hcast];have HN2:Hid (n - e=2∧e < c∧e≤n∧0 < e):=⟨by have:=HN.out.1;have:=HEE.out;omega,by have:=HN.out.1;have:=HEE.out;have:=HN.out.2.1;omega,by have:=HEE.out;omega,by have:=HN.out.1;have:=HEE.out;omega⟩;clear hcast hw2;have hR1:∀W,qB w4 W→Rd W (some ⟨g,off+e,none⟩) (n - e) (c - e) (bs.drop e):=fun W hW=>by
  have:=qha (HN.out.2.2.2.2.below (belT B4.out hW)) e (n - e) (c - e) (by have:=HN2.out.2.2.1;omega) (by have:=HN2.out.1;omega) (by have:=HN.out.2.1;omega);rwa [List.take_of_length_le (by rw [List.length_drop,HN.out.2.2.2.1];exact Nat.le_refl _)] at this
 have hR2:∀W,qB w4 W→Rd W (some ⟨g,off,none⟩) e c (bs.take e):=fun W hW=>by
  have:=qha (HN.out.2.2.2.2.below (belT B4.out hW)) 0 e c (by have:=HN2.out.2.2.1;omega) HN2.out.2.2.2 (by have:=HN2.out.2.1;omega);simpa using this
 have HR:Hid (∀W,qB w4 W→Rd W (some ⟨g,off+e,none⟩) (n - e) (c - e) (bs.drop e)∧Rd W (some ⟨g,off,none⟩) e c (bs.take e)):=fun W hW=>⟨hR1 W hW,hR2 W hW⟩
 have he1:(e:Int)≤n:=by have:=HN2.out.2.2.1;omega
 have he2:(n:Int)≤c:=by have:=HN.out.2.1;omega
 have he3:(e:Int)≤c:=by omega
 have he4:¬(c=e):=by have:=HN2.out.2.1;omega
 have hcl:Ob.crcs 65535 [bs.take e] < 65536:=Ob.crcs_lt _ _ (by decide);have HCE:Hid (Ob.crcs 65535 [bs.take e]=crc 65535 (bs.take e)):=rfl;have hwk:IntKind.u64.wrap ((Ob.crcs 65535 [bs.take e]:Nat):Int)=(Ob.crcs 65535 [bs.take e]:Nat):=by rw [IntKind.wrap_u64];omega
 have hne2:1≤n - e∧n - e≤8:=by have:=HN2.out.1;omega
 clear hR1 hR2 hcl;refine wp_region_held_drew (S:=fun _=>True) (by kernel_rfl) trivial (fun hHeld=>?_);clear hHeld;change wpAnyH _ _ _ _ _ _ #[false,false,false,false,false,false,false,false,false,false,false] _ _;try simp only [qN]
 refine qTH 0 (.slice (some ⟨g,off,none⟩) n c) rfl trivial ?_;try simp only [qN]
 try simp only [qN]
 refine qTH 1 (I e) rfl trivial ?_;try simp only [qN]
 try simp only [qN]
 refine qTH 2 (.slice (some ⟨g,off+e,none⟩) (n - e) (c - e)) rfl trivial ?_;try simp only [qN]
 try simp only [qN]
 refine qTH 4 (.slice (some ⟨g,off,none⟩) n c) rfl trivial ?_;try simp only [qN]
 try simp only [qN]
 refine qTH 5 (I e) rfl trivial ?_;try simp only [qN]
 try simp only [qN]
 refine qTH 6 (.slice (some ⟨g,off,none⟩) e c) rfl trivial ?_;try simp only [qN]
 refine qf1 (fun A HA G HG=>?_);have K11:Hid (∀(W:World) (B:Nat),qB w4 W→W.heap[B]?=some (.cells #[.slice (some ⟨g,off,none⟩) e c] 22)→G 3 #[true,true,true,true,true,true,true,true,false,false,false] ((A.setIfInBounds 27 (.int .u64 (leV (bs.drop e):Nat))).setIfInBounds 31 (.slice (some ⟨B,0,none⟩) 1 1)) W):=fun W B hb hB=>by
  have hA:=HA.out;subst hA;rw [HG.out];try simp only [qN]
  refine qR1 (i:=8) rfl (fun K hK=>?_);go_simp;refine (Ob.crc_any _ 1 1 [bs.take e] _ (qs1 hB (HR.out W hb).2)).mono ?_;rintro e1 w6 ⟨rfl,hw6⟩;rw [←hw6];clear hw6;refine hK.out _ _ trivial (fun _=>?_);clear hK K HG;try simp only [qN]
  refine qTH 9 (.int .u64 ((Ob.crcs 65535 [bs.take e]:Nat):Int)) rfl trivial ?_;try simp only [qN]
  refine qTH 10 (.bool (((leV (bs.drop e):Nat):Int) != ((Ob.crcs 65535 [bs.take e]:Nat):Int))) rfl trivial ?_;try simp only [qN]
  refine wpAnyH_done (by kernel_rfl) ?_ _;have HBF:Hid (qB w W):=belT HB1.out (belT B4.out hb);by_cases hqk:leV (bs.drop e)=Ob.crcs 65535 [bs.take e]
  ·have HX:Hid (X=0):=by show _=_;rw [HXE.out,HEE.out,if_neg (by rw [←HCE.out];simpa using hqk)]
   have hbn:(((leV (bs.drop e):Nat):Int) != ((Ob.crcs 65535 [bs.take e]:Nat):Int))=false:=by rw [hqk];simp [bne]
   clear hB hb HR HN HN2 hwk hwn he1 he2 he3 he4 hne2 hqk HCE;generalize leV (bs.drop e)=q at *;generalize Ob.crcs 65535 [bs.take e]=k at *;go_wp2;go_ret;exact ⟨by rw [HX.out];rfl,HBF.out⟩
  ·have HX:Hid (X=102):=by show _=_;rw [HXE.out,HEE.out,if_pos (by rw [←HCE.out];exact hqk)]
   have hbn:(((leV (bs.drop e):Nat):Int) != ((Ob.crcs 65535 [bs.take e]:Nat):Int))=true:=by simp [bne];omega
   clear hB hb HR HN HN2 hwk hwn he1 he2 he3 he4 hne2 hqk HCE;generalize leV (bs.drop e)=q at *;generalize Ob.crcs 65535 [bs.take e]=k at *;go_wp2;go_ret;exact ⟨by rw [HX.out];rfl,HBF.out⟩
 have K10:Hid (∀(W:World),qB w4 W→G 4 #[true,true,true,true,true,true,true,false,false,false,false] (A.setIfInBounds 27 (.int .u64 (leV (bs.drop e):Nat))) W):=fun W hb=>by
  have hA:=HA.out;subst hA;rw [HG.out];try simp only [qN]
  refine qW [7] ?_;refine qK (fun K hK=>?_) ?_
  ·go_simp
   refine hK.out _ _ trivial (fun _=>?_);try simp only [qN]
   have hq:=K11.out (W.alloc (.cells #[.slice (some ⟨g,off,none⟩) e c] 22)) W.heap.size (belA hb) (heap_alloc_new _ _);try simp only [qN] at hq
   exact (HG.out _ _ _ _).mp hq
  exact qn
 have K01:Hid (∀(W:World) (B:Nat),qB w4 W→W.heap[B]?=some (.cells #[.slice (some ⟨g,off,none⟩) e c] 22)→G 4 #[true,true,true,false,true,true,true,true,false,false,false] (A.setIfInBounds 31 (.slice (some ⟨B,0,none⟩) 1 1)) W):=fun W B hb hB=>by
  have hA:=HA.out;subst hA;rw [HG.out];try simp only [qN]
  refine qW [3] ?_;refine qK (fun K hK=>?_) ?_
  ·go_simp
   refine (qf3 (HR.out W hb).1 hne2.1 hne2.2).mono ?_;rintro e1 w6 ⟨rfl,b6⟩;refine hK.out _ _ trivial (fun _=>?_);try simp only [qN]
   have hq:=K11.out w6 B (belT hb b6) ((b6.block _ (qa6 hB)).trans hB);simp only [qN] at hq;exact (HG.out _ _ _ _).mp hq
  exact qn
 have K00:Hid (∀(W:World),qB w4 W→G 5 #[true,true,true,false,true,true,true,false,false,false,false] A W):=fun W hb=>by
  have hA:=HA.out;subst hA;rw [HG.out];try simp only [qN]
  refine qW [3,7] ?_;refine qK (fun K hK=>?_) ?_
  ·go_simp
   refine (qf3 (HR.out W hb).1 hne2.1 hne2.2).mono ?_;rintro e1 w6 ⟨rfl,b6⟩;refine hK.out _ _ trivial (fun _=>?_);try simp only [qN]
   have hq:=K10.out w6 (belT hb b6);simp only [qN] at hq;exact (HG.out _ _ _ _).mp hq
  refine qK (fun K hK=>?_) ?_
  ·go_simp
   refine hK.out _ _ trivial (fun _=>?_);try simp only [qN]
   have hq:=K01.out (W.alloc (.cells #[.slice (some ⟨g,off,none⟩) e c] 22)) W.heap.size (belA hb) (heap_alloc_new _ _);try simp only [qN] at hq
   exact (HG.out _ _ _ _).mp hq
  exact qn
 exact K00.out _ (Below.refl _ _).drew
end Go.Proofs.YtijgopkhdjaolabGreat
