import Derived.Test.YtijgopkhdjaolabGreatGd
import Derived.Test.YtijgopkhdjaolabGreatXTgx
import Derived.Deep.Cut
import Derived.Deep.CutRange
import Derived.Test.YtijgopkhdjaolabGreatXI6
import Derived.Lib.AppendZeros
set_option linter.unusedSimpArgs false
set_option linter.unusedVariables false
set_option maxHeartbeats 16000000
set_option maxRecDepth 100000
namespace Go.Proofs.YtijgopkhdjaolabGreat
open Go.RowKit Go.Shelf Go.Sort
open Go.Proofs.YtijgopkhdjaolabGreat.Ob (leB leV qa8 qag crc Rd RdAll qa7)
abbrev Q8 (v:Int):Value:=.int .u64 v
abbrev cV (v:Int) (n:Int):Value:=.agg #[Q8 v,I n]
abbrev cO (v:Int) (n:Int):Obj:=.cells #[Q8 v,I n] 140
theorem qce {fn:Func} {k:Nat} (hf:fn.results=#[.cell k 140]) (tmps:Array Value) (b:Nat) (w:World) (x y:Value)
  (h2:tmps[k]?=some (.pointer (some ⟨b,0,none⟩))) (hk:w.heap[b]?=some (.cells #[x,y] 140 (0,0))):(results fn tmps).run Tryz.prog w=.ok (.agg #[x,y]) w:=by
 have a1:=fun i=>cell_of_row w b i _ _ (0,0) hk
 have z0:=a1 0;have z1:=a1 1;simp at z0 z1;simp [results,hf,go_sem,h2,z0,z1]
theorem qa6 {w:World} {g:Nat} {o:Obj} (h:w.heap[g]?=some o):g < w.heap.size:=(Array.getElem?_eq_some_iff.1 h).1
theorem Bset {g a:Nat} {u W:World} {i:Nat} {v:Value} (h:Below a u W) (hg:a≤g):Below a u (W.setCell ⟨g,i,none⟩ v):=
 ⟨h.os,h.tape,h.output,by simpa using h.size,fun b hb=>(heap_setCell_other W ⟨g,i,none⟩ b v (by show b≠g;omega)).trans (h.block b hb)⟩
theorem qgl {w:World} (hb:qB w (w.alloc (cO 0 0))) (hv:(w.alloc (cO 0 0)).heap[w.heap.size]?=some (cO 0 0)):∀w2 (x:Int),qB (w.alloc (cO 0 0)) w2→qB w (qS2 w2 (w.heap.size) (Q8 x) (I 1))∧(qS2 w2 (w.heap.size) (Q8 x) (I 1)).heap[w.heap.size]?=some (cO x 1)∧w2.cell? ⟨w.heap.size,0,none⟩=some (Q8 0)∧(w2.setCell ⟨w.heap.size,0,none⟩ (Q8 x)).cell? ⟨w.heap.size,1,none⟩=some (I 0)∧w2.frozen? ⟨w.heap.size,0,none⟩=false∧(w2.setCell ⟨w.heap.size,0,none⟩ (Q8 x)).frozen? ⟨w.heap.size,1,none⟩=false:=fun w2 x b2=>by
 have q:=(b2.block _ (qa6 hv)).trans hv;have q1:=heap_setCell_same w2 w.heap.size 0 _ _ (Q8 x) q;have q2:=heap_setCell_same _ w.heap.size 1 _ _ (I 1) q1;have bb:=hb.trans (b2.mono hb.size);exact ⟨Bset (Bset bb (Nat.le_refl _)) (Nat.le_refl _),q2,by rw [qcr q];rfl,by rw [qcr q1];rfl,frozen_of_row _ _ _ _ _ q,frozen_of_row _ _ _ _ _ q1⟩
theorem wr64 {v:Int} (h:0≤v) (h2:v < 18446744073709551616):IntKind.u64.wrap v=v:=by rw [IntKind.wrap_u64];omega
theorem qbq (w:World) (v:Int) (h0:0≤v) (h1:v < 9223372036854775808):Calls Tryz.prog 150 #[.int .i64 v] w fun e w'=>e=.returned (cV v 1)∧qB w w':=by
 have hw:=wr64 h0 (by omega);go_enter Tryz.func150,Tryz.ntmps150
 go_wp2;refine bodyPost_ret (qce Tryz.results150 _ w.heap.size _ _ _ rfl (heap_alloc_new w _)) rfl ?_;exact ⟨rfl,qa0 w _⟩
theorem qku (w:World) (v:Int) (h0:0≤v) (h1:v < 9223372036854775808):Calls Tryz.prog 155 #[.int .u32 v] w fun e w'=>e=.returned (cV v 1)∧qB w w':=by
 have hw:=wr64 h0 (by omega);go_enter Tryz.func155,Tryz.ntmps155
 go_wp2;refine bodyPost_ret (qce Tryz.results155 _ w.heap.size _ _ _ rfl (heap_alloc_new w _)) rfl ?_;exact ⟨rfl,qa0 w _⟩
theorem qrf (w:World) (v:Int) (h0:0≤v) (h1:v < 9223372036854775808):Calls Tryz.prog 158 #[.int .i64 v] w fun e w'=>e=.returned (cV v 1)∧qB w w':=by
 have hw:=wr64 h0 (by omega);go_enter Tryz.func158,Tryz.ntmps158
 go_wp2;refine bodyPost_ret (qce Tryz.results158 _ w.heap.size _ _ _ rfl (heap_alloc_new w _)) rfl ?_;exact ⟨rfl,qa0 w _⟩
theorem qrg (w:World) (v:Int) (h0:0≤v) (h1:v < 9223372036854775808):Calls Tryz.prog 190 #[.int .i64 v] w fun e w'=>e=.returned (cV v 1)∧qB w w':=by
 have hw:=wr64 h0 (by omega);go_enter Tryz.func190,Tryz.ntmps190
 go_wp2;refine bodyPost_ret (qce Tryz.results190 _ w.heap.size _ _ _ rfl (heap_alloc_new w _)) rfl ?_;exact ⟨rfl,qa0 w _⟩
theorem qdq (w:World) (v:Int) (h0:0≤v) (h1:v < 9223372036854775808):Calls Tryz.prog 156 #[.int .i64 v] w fun e w'=>e=.returned (cV v 2)∧qB w w':=by
 have hw:=wr64 h0 (by omega);go_enter Tryz.func156,Tryz.ntmps156
 go_wp2;refine bodyPost_ret (qce Tryz.results156 _ w.heap.size _ _ _ rfl (heap_alloc_new w _)) rfl ?_;exact ⟨rfl,qa0 w _⟩
theorem qqd (w:World) (v:Int) (h0:0≤v) (h1:v < 9223372036854775808):Calls Tryz.prog 87 #[.int .u16 v] w fun e w'=>e=.returned (cV v 2)∧qB w w':=by
 have hw:=wr64 h0 (by omega);go_enter Tryz.func87,Tryz.ntmps87
 go_wp2;refine bodyPost_ret (qce Tryz.results87 _ w.heap.size _ _ _ rfl (heap_alloc_new w _)) rfl ?_;exact ⟨rfl,qa0 w _⟩
theorem qdo (w:World) (v:Int) (h0:0≤v) (h1:v < 9223372036854775808):Calls Tryz.prog 152 #[.int .u32 v] w fun e w'=>e=.returned (cV v 4)∧qB w w':=by
 have hw:=wr64 h0 (by omega);go_enter Tryz.func152,Tryz.ntmps152
 go_wp2;refine bodyPost_ret (qce Tryz.results152 _ w.heap.size _ _ _ rfl (heap_alloc_new w _)) rfl ?_;exact ⟨rfl,qa0 w _⟩
theorem qop (w:World) (v:Int) (h0:0≤v) (h1:v < 9223372036854775808):Calls Tryz.prog 161 #[.int .i64 v] w fun e w'=>e=.returned (cV v 4)∧qB w w':=by
 have hw:=wr64 h0 (by omega);go_enter Tryz.func161,Tryz.ntmps161
 go_wp2;refine bodyPost_ret (qce Tryz.results161 _ w.heap.size _ _ _ rfl (heap_alloc_new w _)) rfl ?_;exact ⟨rfl,qa0 w _⟩
theorem qmw (w:World) (v:Int) (h0:0≤v) (h1:v < 18446744073709551616):Calls Tryz.prog 159 #[.int .u64 v] w fun e w'=>e=.returned (cV v 8)∧qB w w':=by
 have hw:=wr64 h0 (by omega);go_enter Tryz.func159,Tryz.ntmps159
 go_wp2;refine bodyPost_ret (qce Tryz.results159 _ w.heap.size _ _ _ rfl (heap_alloc_new w _)) rfl ?_;exact ⟨rfl,qa0 w _⟩
def flI (b:Bool):Int:=if b then 1 else 0
theorem qje (w:World) (b:Bool):Calls Tryz.prog 151 #[.bool b] w fun e w'=>e=.returned (cV (flI b) 1)∧qB w w':=by
 have hb:=qa0 w (cO 0 0);have hv:=heap_alloc_new w (cO 0 0);have H1:=qbq (w.alloc (cO 0 0)) 1 (by omega) (by omega);have H0:=qbq (w.alloc (cO 0 0)) 0 (by omega) (by omega);have HS:Hid (∀w2 (x:Int),qB (w.alloc (cO 0 0)) w2→qB w (qS2 w2 (w.heap.size) (Q8 x) (I 1))∧(qS2 w2 (w.heap.size) (Q8 x) (I 1)).heap[w.heap.size]?=some (cO x 1)∧w2.cell? ⟨w.heap.size,0,none⟩=some (Q8 0)∧(w2.setCell ⟨w.heap.size,0,none⟩ (Q8 x)).cell? ⟨w.heap.size,1,none⟩=some (I 0)∧w2.frozen? ⟨w.heap.size,0,none⟩=false∧(w2.setCell ⟨w.heap.size,0,none⟩ (Q8 x)).frozen? ⟨w.heap.size,1,none⟩=false):=qgl hb hv;clear hb hv;generalize hw1:w.alloc (cO 0 0)=w1 at *;cases b with
 | true=>
  go_enter Tryz.func151,Tryz.ntmps151
  go_upto_region 1 with fail;clear hw1;go_wp2_with (first | (go_at_call 150;refine H1.mono ?_;clear H1 H0;rintro e w2 ⟨rfl,b2⟩;obtain ⟨k1,k2,k3,k4,k5,k6⟩:=HS.out w2 1 b2;have K:Hid (qB w (qS2 w2 (w.heap.size) (Q8 1) (I 1))∧(qS2 w2 (w.heap.size) (Q8 1) (I 1)).heap[w.heap.size]?=some (cO 1 1)):=⟨k1,k2⟩;clear k1 k2 b2));refine bodyPost_ret (qce Tryz.results151 _ w.heap.size _ _ _ rfl K.out.2) rfl ?_;exact ⟨rfl,K.out.1⟩
 | false=>
  go_enter Tryz.func151,Tryz.ntmps151
  go_upto_region 1 with fail;clear hw1;go_wp2_with (first | (go_at_call 150;refine H0.mono ?_;clear H1 H0;rintro e w2 ⟨rfl,b2⟩;obtain ⟨k1,k2,k3,k4,k5,k6⟩:=HS.out w2 0 b2;have K:Hid (qB w (qS2 w2 (w.heap.size) (Q8 0) (I 1))∧(qS2 w2 (w.heap.size) (Q8 0) (I 1)).heap[w.heap.size]?=some (cO 0 1)):=⟨k1,k2⟩;clear k1 k2 b2));refine bodyPost_ret (qce Tryz.results151 _ w.heap.size _ _ _ rfl K.out.2) rfl ?_;exact ⟨rfl,K.out.1⟩
theorem qi5 (w:World) (v:Int) (h0:0≤v+1) (h1:v < 1000):Calls Tryz.prog 153 #[I v] w fun e w'=>e=.returned (cV (v+1) 1)∧qB w w':=by
 have hb:=qa0 w (cO 0 0);have hv:=heap_alloc_new w (cO 0 0);have hw:IntKind.i64.wrap (v+1)=v+1:=by rw [IntKind.wrap_i64];omega
 have H1:=qbq (w.alloc (cO 0 0)) (v+1) (by omega) (by omega);have HS:Hid (∀w2 (x:Int),qB (w.alloc (cO 0 0)) w2→qB w (qS2 w2 (w.heap.size) (Q8 x) (I 1))∧(qS2 w2 (w.heap.size) (Q8 x) (I 1)).heap[w.heap.size]?=some (cO x 1)∧w2.cell? ⟨w.heap.size,0,none⟩=some (Q8 0)∧(w2.setCell ⟨w.heap.size,0,none⟩ (Q8 x)).cell? ⟨w.heap.size,1,none⟩=some (I 0)∧w2.frozen? ⟨w.heap.size,0,none⟩=false∧(w2.setCell ⟨w.heap.size,0,none⟩ (Q8 x)).frozen? ⟨w.heap.size,1,none⟩=false):=qgl hb hv;clear hb hv;generalize hw1:w.alloc (cO 0 0)=w1 at *;go_enter Tryz.func153,Tryz.ntmps153
 go_upto_region 1 with fail;clear hw1;go_wp2_with (first | (go_at_call 150;refine H1.mono ?_;clear H1;rintro e w2 ⟨rfl,b2⟩;obtain ⟨k1,k2,k3,k4,k5,k6⟩:=HS.out w2 (v+1) b2;have K:Hid (qB w (qS2 w2 (w.heap.size) (Q8 (v+1)) (I 1))∧(qS2 w2 (w.heap.size) (Q8 (v+1)) (I 1)).heap[w.heap.size]?=some (cO (v+1) 1)):=⟨k1,k2⟩;clear k1 k2 b2));refine bodyPost_ret (qce Tryz.results153 _ w.heap.size _ _ _ rfl K.out.2) rfl ?_;exact ⟨rfl,K.out.1⟩
end Go.Proofs.YtijgopkhdjaolabGreat
namespace Go.Proofs.YtijgopkhdjaolabGreat
open Go.RowKit Go.Shelf Go.Sort
open Go.Proofs.YtijgopkhdjaolabGreat.Ob (leB leV qa8 qag crc Rd RdAll qa7 rd_drop)
theorem qrh (v x:Nat) (hv:v < 256 ^ 7) (hx:x < 256):bits .or .u64 ((v:Int) * 256) (x:Int)=((x+256 * v:Nat):Int):=by
 have e2:((v:Int) * 256)=((2 ^ 8 * v:Nat):Int):=by omega
 rw [e2,bits_or_u64_nat _ _ (by omega) (by omega),←Nat.two_pow_add_eq_or_of_lt (by omega) v];omega
theorem qoq (x:UInt8) (l:List UInt8):leV (x :: l)=x.toNat+256 * leV l:=rfl
theorem qdr (w:World) (a:Option Addr) (n c:Nat) (l:List UInt8) (h:Rd w a n c l) (h8:n≤8):Calls Tryz.prog 18 #[.slice a n c] w fun e w'=>e=.returned (.int .u64 (leV l:Nat))∧w=w':=by
 have hl:=h.hlen;go_enter Tryz.func18,Tryz.ntmps18
 go_wp2;go_loopw [3,4] (fun v3 v4 wr=>∃k:Nat,k≤n∧v4=I ((k:Int) - 1)∧v3=.int .u64 (leV (l.drop k):Nat)∧w=wr) (fun _ v4 _=>(intOf v4+1).toNat)
 case atStart=>exact ⟨n,Nat.le_refl _,by first | rfl | go_num,by rw [List.drop_of_length_le (by omega)];rfl,rfl⟩
 case round=>
  obtain ⟨k,hk,rfl,rfl,rfl⟩:=hrel;cases k with
  | zero=>
   go_wp2;go_ret;exact ⟨rfl,rfl⟩
  | succ j=>
   rw [show (((j+1:Nat):Int) - 1)=(j:Int) by omega];obtain ⟨b,off,rfl,hb,hc⟩:=h.hcell (by omega);have hjl:j < l.length:=by omega
   have hcl:=hc j l[j] (List.getElem?_eq_getElem hjl);have hcc:=h.hle;have hs:=h.hsmall;have hjI:(0:Int)≤(j:Int):=by omega
   have hd:l.drop j=l[j] :: l.drop (j+1):=List.drop_eq_getElem_cons hjl;have hv:leV (l.drop (j+1)) < 256 ^ 7:=by
    have:=qag (l.drop (j+1));rw [List.length_drop] at this;exact Nat.lt_of_lt_of_le this (Nat.pow_le_pow_right (by decide) (by omega))
   have hx:l[j].toNat < 256:=l[j].toNat_lt;have ho:=qrh _ _ hv hx;obtain ⟨v,hve⟩:∃v,v=leV (l.drop (j+1)):=⟨_,rfl⟩
   obtain ⟨x,hxe⟩:∃x,x=l[j].toNat:=⟨_,rfl⟩
   rw [←hve] at hv ho ⊢;rw [←hxe] at hcl hx ho;have HV:Hid (v=leV (l.drop (j+1))):=hve;have HXX:Hid (x=l[j].toNat):=hxe;clear hve hxe;go_wp2;go_roundw
   case rel=>exact ⟨j,by omega,rfl,by rw [hd,qoq,←HV.out,←HXX.out];first | rfl | (simp;done),trivial⟩
   case measure=>first | (simp [intOf];done) | (simp [intOf];omega)
end Go.Proofs.YtijgopkhdjaolabGreat
namespace Go.Proofs.YtijgopkhdjaolabGreat
open Go.RowKit Go.Shelf Go.Sort
open Go.Proofs.YtijgopkhdjaolabGreat.Ob (leB leV qa8 qag crc Rd RdAll qa7)
abbrev Bs8 (l:List UInt8):List Value:=l.map Ob.B
theorem qlg (l:List UInt8):∀u∈Bs8 l,u.oneCell'=true:=by
 intro u hu;obtain ⟨x,-,rfl⟩:=List.mem_map.1 hu;rfl
def qlh (x:Int×Nat) (i:Nat) (u:Value):Prop:=match i with | 0=>u=Q8 x.1 | _=>u=I x.2
def putB (cs:List (Int×Nat)):List UInt8:=cs.flatMap (fun x=>leB x.2 x.1.toNat)
def okC (x:Int×Nat):Prop:=1≤x.2∧x.2≤8∧x.1.toNat < 256 ^ x.2∧0≤x.1∧x.1 < 18446744073709551616
theorem qor {cs:List (Int×Nat)} (h:∀x∈cs,okC x):(putB cs).length≤cs.length * 8:=by
 unfold putB;exact qcp (fun x hx=>by rw [qa8];exact (h x hx).2.1)
theorem qmx (cs:List (Int×Nat)) {k:Nat} {x:Int×Nat} (h:cs[k]?=some x):putB (cs.take (k+1))=putB (cs.take k)++leB x.2 x.1.toNat:=by
 unfold putB;rw [Ob.take_succ' _ _ _ h,List.flatMap_append];simp
def OwB (w w':World) (u:Value) (l:List UInt8):Prop:=w'.ownsRow w.heap.size 5 1 u l.length (Bs8 l)∧qB w w'
theorem qh3 : (Tryz.prog.info? 5).map (fun i=>(i.zero,i.size,i.bytes))=some (some (.int .u8 0),1,1):=by kernel_rfl
theorem Below.grown {a W w6:World} {e k n:Nat} {v:Value} {xs:List Value} (h:W.ownsRow a.heap.size e k v n xs) (hb:qB a W) (hg:W.grownBy w6 v.ownBlock):qB a w6:=
 ⟨hg.os.trans hb.os,hg.tape.trans hb.tape,hg.output.trans hb.output,Nat.le_trans hb.size hg.size,fun i hi=>by
  rw [hg.block i (Nat.lt_of_lt_of_le hi hb.size) (fun e=>by have:=(h.lt i e.symm).1;omega)];exact hb.block i hi⟩
theorem qkv {w:World} {s:Sl} {cs:List (Int×Nat)} (h:RowsAt w 2 qlh s cs) (hok:∀x∈cs,okC x) (hl:cs.length≤1000):Calls Tryz.prog 86 #[slT s] w fun e w'=>∃u,e=.returned u∧OwB w w' u (putB cs):=by
 obtain ⟨i0,hi0,hz0,hz1,hz2⟩:=info_parts qh3;obtain ⟨sa,sn,sc⟩:=s;have hn:sn=cs.length:=h.n;have HH:Hid (RowsAt w 2 qlh ⟨sa,sn,sc⟩ cs∧(∀x∈cs,okC x)∧sn=cs.length):=⟨h,hok,hn⟩;have hs1:sn≤1000:=by omega
 have HI:Hid (OwB w w qZ (putB (cs.take 0))):=⟨by simpa [putB] using World.ownsRow_nil w _ _ _,Below.refl _ _⟩;clear h hok hn hl;show Calls _ _ #[.slice sa sn sc] _ _;go_enter Tryz.func86,Tryz.ntmps86
 go_wp2;go_loopw [3,5,6,7,10] (fun v3 _ _ _ v10 wr=>∃k:Nat,k≤sn∧v10=I k∧Hid (OwB w wr v3 (putB (cs.take k)))) (fun _ _ _ _ v10 _=>sn - (intOf v10).toNat)
 case atStart=>exact ⟨0,by omega,rfl,HI.out⟩
 case round=>
  clear HI;obtain ⟨k,hk,rfl,HJ⟩:=hrel;by_cases hlt:k < sn
  ·have hltI:(k:Int) < sn:=by omega
   obtain ⟨⟨v,n⟩,hx⟩:∃x,cs[k]?=some x:=⟨_,List.getElem?_eq_getElem (by rw [←HH.out.2.2];exact hlt)⟩
   obtain ⟨o1,o2,o3,o6,o4⟩:=HH.out.2.1 _ (List.mem_of_getElem? hx);dsimp only at o1 o2 o3 o4 o6;obtain ⟨v,rfl⟩:=Int.eq_ofNat_of_zero_le o6;rw [Int.toNat_natCast] at o3;replace o4:v < 18446744073709551616:=by omega
   obtain ⟨g,off,ea,hg,hr⟩:=(HH.out.1).row k _ hx;obtain ⟨c0,d0,e0⟩:=hr 0 (by omega);obtain ⟨c1,d1,e1⟩:=hr 1 (by omega);have e0':c0=Q8 v:=e0;have e1':c1=I n:=e1;subst e0' e1';have q0:wr.cell? ⟨g,off+k * 2,none⟩=some (Q8 v):=by rw [qa5 HJ.out.2 _ _ hg];exact d0
   have q1:wr.cell? ⟨g,off+k * 2+1,none⟩=some (I n):=by rw [qa5 HJ.out.2 _ _ hg];exact d1
   have HS:Hid (putB (cs.take (k+1))=putB (cs.take k)++leB n v):=by have:=qmx cs hx;rwa [Int.toNat_natCast] at this
   have hpl:(putB (cs.take k)).length≤8000:=by
    have:=qor (cs:=cs.take k) (fun x hx=>HH.out.2.1 x (List.mem_of_mem_take hx));rw [List.length_take] at this;omega
   have ha:sa=some ⟨g,off,none⟩:=ea;clear hr d0 d1 hx ea hg e0 e1;subst ha;go_upto_region 5 with fail;have hb1:=qa0 wr (cO v n);have hv1:=heap_alloc_new wr (cO v n);have J1:Hid (OwB w (wr.alloc (cO v n)) u3 (putB (cs.take k))):=⟨qad HJ.out.1 hb1,HJ.out.2.trans (hb1.mono HJ.out.2.size)⟩;have y0:(wr.alloc (cO v n)).cell? ⟨wr.heap.size,0,none⟩=some (Q8 v):=by rw [qcr hv1];rfl
   have y1:(wr.alloc (cO v n)).cell? ⟨wr.heap.size,1,none⟩=some (I n):=by rw [qcr hv1];rfl
   have hN:=Ob.number_yes v n (wr.alloc (cO v n)) o1 o2 o4 o3;clear HJ hb1 hv1 q0 q1;generalize wr.alloc (cO v n)=w1 at *;generalize wr.heap.size=X at *;go_wp2_with (first
    | (go_at_call 162;refine hN.mono ?_;clear hN;rintro e w2 ⟨rfl,o5,b5⟩;have J2:Hid (OwB w w2 u3 (putB (cs.take k))):=⟨qad J1.out.1 b5,J1.out.2.trans (b5.mono J1.out.2.size)⟩;have hO:=J2.out.1;have hcl:=o5.cells rfl;have hsz:=J2.out.2.size;clear b5)
    | (at_builtin;refine wpList_append_own _ rfl (.tmp 22) (.tmp 23) 22 rfl w.heap.size 5 i0 (.int .u8 0) 1 1 Tryz.underlying22 hi0 hz0 hz1 hz2 rfl (by decide) _ _ _ rfl hO ⟨w1.heap.size,0,none⟩ n n (Bs8 (leB n v)) rfl (by simp [qa8]) hcl (qlg _) (by unfold maxLen;omega) (by omega) hsz ?_;intro v6 w6 ho6 hg6 _;have J3:Hid (OwB w w6 v6 (putB (cs.take (k+1)))):=⟨by rw [HS.out,List.length_append,qa8,show Bs8 (putB (cs.take k)++leB n v)=Bs8 (putB (cs.take k))++Bs8 (leB n v) from List.map_append ..];exact ho6,Below.grown J2.out.1 J2.out.2 hg6⟩;clear ho6 hg6))
   go_roundw
   case rel=>exact ⟨k+1,by omega,by go_num,J3.out⟩
   case measure=>simp [intOf];omega
  ·obtain rfl:k=sn:=by omega
   have hge:¬((k:Int) < k):=by omega
   go_wp2;go_ret;have e:=HJ.out;rw [show cs.take k=cs by rw [HH.out.2.2];exact List.take_length] at e;exact ⟨_,rfl,e⟩
def qdm (x:Int×Nat):List Value:=[Q8 x.1,I x.2]
theorem qjf (cs:List (Int×Nat)) {k:Nat} {x:Int×Nat} (h:cs[k]?=some x):(cs.flatMap qdm)[k * 2]?=some (Q8 x.1)∧(cs.flatMap qdm)[k * 2+1]?=some (I x.2):=by
 induction cs generalizing k with
 | nil=>cases h
 | cons y l ih=>
  cases k with
  | zero=>simp at h;subst h;exact ⟨rfl,rfl⟩
  | succ k=>
   have:=ih (k:=k) (by simpa using h);rw [List.flatMap_cons,show (k+1) * 2=k * 2+2 by omega];exact this
theorem qcl {W:World} {X n:Nat} (cs:List (Int×Nat)) (h:W.heap[X]?=some (.cells (cs.flatMap qdm).toArray 140)) (hn:n=cs.length) (hok:∀x∈cs,okC x) (hl:cs.length≤1000):Calls Tryz.prog 86 #[.slice (some ⟨X,0,none⟩) n n] W fun e w'=>∃u,e=.returned u∧OwB W w' u (putB cs):=by
 subst hn;refine qkv (s:=⟨some ⟨X,0,none⟩,cs.length,cs.length⟩) ⟨rfl,Nat.le_refl _,by show cs.length≤maxLen;unfold maxLen;omega,fun j x hj=>⟨X,0,rfl,(Array.getElem?_eq_some_iff.1 h).1,fun i hi=>?_⟩⟩ hok hl;obtain ⟨c0,c1⟩:=qjf cs hj;rw [Nat.zero_add];match i,hi with
 | 0,_=>exact ⟨_,by rw [Nat.add_zero,qcr h];simpa using c0,rfl⟩
 | 1,_=>exact ⟨_,by rw [qcr h];simpa using c1,rfl⟩
theorem qd6 (b o i:Nat):(⟨b,o,none⟩:Addr).add i=⟨b,o+i,none⟩:=by unfold Addr.add;split <;> simp_all
def rdV (w:World) (k:Nat) (u:Value) (n:Nat) (xs:List Value):Prop:=xs.length=n * k∧((u=qZ∧n=0)∨∃g cap,u=.slice (some ⟨g,0,none⟩) n cap∧g < w.heap.size∧∀(j:Nat) (v:Value),xs[j]?=some v→w.cell? ⟨g,0+j,none⟩=some v)
theorem qc7 {w:World} {b e k n:Nat} {u:Value} {xs:List Value} (h:w.ownsRow b e k u n xs):rdV w k u n xs:=by
 refine ⟨h.1,?_⟩;rcases h.2 with q | ⟨g,cap,cur,q1,q2,q3,q4⟩
 ·exact .inl q
 ·refine .inr ⟨g,cap,q1,qa6 q3,fun j v hj=>?_⟩
  have hq:u.ownBlock=some g:=by rw [q1];rfl
  have:=h.cells hq j v hj;rw [qd6] at this;exact this
theorem qc0 {w w':World} {k n:Nat} {u:Value} {xs:List Value} (h:rdV w k u n xs) (hb:qB w w'):rdV w' k u n xs:=by
 refine ⟨h.1,?_⟩;rcases h.2 with q | ⟨g,cap,q1,q2,q3⟩
 ·exact .inl q
 ·exact .inr ⟨g,cap,q1,Nat.lt_of_lt_of_le q2 hb.size,fun j v hj=>by rw [qa5 hb _ _ q2];exact q3 j v hj⟩
theorem qh4 {w:World} {k n:Nat} {u:Value} {xs:List Value} (h:rdV w k u n xs):∃a c,u=.slice a n c:=by
 rcases h.2 with ⟨q,rfl⟩ | ⟨g,cap,q1,q2,q3⟩
 ·exact ⟨_,_,q⟩
 ·exact ⟨_,_,q1⟩
theorem qey {P:Program} (w:World) (base b2:Nat) (t ty e:TypeId) (i:TypeInfo) (z:Value) (k bytes:Nat) (ht:P.underlying t=some (.slice e)) (hi:P.info? e=some i) (hz:i.zero=some z)
  (hsize:i.size=k) (hby:i.bytes=bytes) (hzs:z.cells.size=k) (hk:0 < k) (v u:Value) (n m:Nat) (xs ys:List Value) (hown:w.ownsRow base e k v n xs) (hu:rdV w k u m ys) (h1:∀y∈ys,y.oneCell'=true)
  (h63:n+m≤maxLen) (hbytes:(n+m) * bytes≤140737488355328) (hbase:base≤w.heap.size) :
  ∃v' w',(Builtin.append_ #[t,t] ty #[v,u]).run P w=.ok v' w'∧w'.ownsRow base e k v' (n+m) (xs++ys)∧w.grownBy w' v.ownBlock:=by
 rcases hu.2 with ⟨rfl,rfl⟩ | ⟨g,cap,rfl,_,hc⟩
 ·have hy:ys=[]:=List.eq_nil_of_length_eq_zero (by have:=hu.1;simpa using this)
  subst hy;exact ⟨v,w,run_append_owned_none (P:=P) w base t ty e i k ht hi v n xs hown,by simpa using hown,World.grownBy.refl _ _⟩
 ·obtain ⟨v',w',hr,h2,h3,_⟩:=run_append_own (P:=P) w base t ty e i z k bytes ht hi hz hsize hby hzs hk v n xs hown ⟨g,0,none⟩ m cap ys hu.1 (fun j v hj=>by rw [qd6];exact hc j v hj) h1 h63 hbytes hbase
  exact ⟨v',w',hr,h2,h3⟩
theorem qd7 {P:Program} {ops:Array Oper} {rest:List Oper} {o:Oper} {a:Act} {w:World} {Q:Exit→Act→World→Prop} (hgd:o.guard=none) (s x:Operand) (t:TypeId)
  (ho:o.op=.call { callee:=.builtin .append,args:=#[s,x],argTypes:=#[t,t] })
  (base b2:Nat) (e:TypeId) (i:TypeInfo) (z:Value) (k bytes:Nat) (ht:P.underlying t=some (.slice e)) (hi:P.info? e=some i) (hz:i.zero=some z)
  (hsize:i.size=k) (hby:i.bytes=bytes) (hzs:z.cells.size=k) (hk:0 < k) (v u:Value) (n m:Nat) (xs ys:List Value) (hs:a.eval s=v) (hx:a.eval x=u) (hown:w.ownsRow base e k v n xs) (hu:rdV w k u m ys) (h1:∀y∈ys,y.oneCell'=true)
  (h63:n+m≤maxLen) (hbytes:(n+m) * bytes≤140737488355328) (hbase:base≤w.heap.size)
  (h:∀v' w',w'.ownsRow base e k v' (n+m) (xs++ys)→w.grownBy w' v.ownBlock→wpList P ops Q rest (a.put o.dst v') w'):wpList P ops Q (o :: rest) a w:=by
 refine wpList_plain hgd fun K hK=>?_
 obtain ⟨v',w',hr,h2,h3⟩:=qey (P:=P) w base b2 t o.type e i z k bytes ht hi hz hsize hby hzs hk v u n m xs ys hown hu h1 h63 hbytes hbase;unfold Oper.wp;simp [execOp,ho,resolve,invoke,builtin,hs,hx,hr,Result.andThen];exact hK _ _ (h v' w' h2 h3)
theorem qg9 {α:Type} {l:List (List α)} {j:Nat} {x:List α} (h:l[j]?=some x):(l.take (j+1)).flatten=(l.take j).flatten++x:=by
 rw [List.take_add_one,h,Option.toList_some,List.flatten_append];simp
theorem qit {α:Type} (l:List (List α)) (j:Nat):(l.take j).flatten.length≤l.flatten.length:=by
 have h:l.flatten=(l.take j).flatten++(l.drop j).flatten:=by rw [←List.flatten_append,List.take_append_drop]
 rw [h,List.length_append];omega
structure Pc where
 kind:Int
 rows:Nat
 u:Value
def pcC (x:Pc):List Value:=[I x.kind,I x.rows,x.u]
def ukC (b:UInt8):List Value:=[Ob.B b]
theorem qd8 (l:List UInt8):l.flatMap ukC=Bs8 l:=by
 induction l with
 | nil=>rfl
 | cons y l ih=>rw [List.flatMap_cons,ih];rfl
theorem qpj : (Tryz.prog.info? 5).map (fun i=>(i.zero,i.size,i.bytes))=some (some (.int .u8 0:Value),1,1):=by kernel_rfl
theorem qsn (n:Nat) (h2:n≤1000000) (w:World):Calls Tryz.prog 160 #[qZ,I n] w fun e w'=>∃v,e=.returned v∧w'.ownsRow w.heap.size 5 1 v 0 []∧qB w w':=by
 obtain ⟨i0,hi,hz,hs,hby⟩:=info_parts qpj;by_cases h1:n=0
 ·subst h1
  go_enter Tryz.func160,Tryz.ntmps160
  go_wp2;go_ret;exact ⟨_,rfl,World.ownsRow_nil _ _ _ _,Below.refl _ _⟩
 have hr:=fun ty=>Lib.run_append_nil_zeros (P:=Tryz.prog) w 22 3 ty 5 i0 _ .i64 .i64 Tryz.underlying22 Tryz.underlying3 hi hz n (by omega) (by omega) (by omega) (by rw [hby];omega)
 have hG:=grownCap_ge w n 0 5;have hGm:=grownCap_le_maxLen w n 0 5 (by unfold maxLen;omega);obtain ⟨G,hGe⟩:∃G,G=grownCap w n 0 5:=⟨_,rfl⟩
 rw [←hGe] at hr hG hGm;have hsz:(Builtin.zeroCells ((.int .u8 0:Value)).cells n++Builtin.zeroCells ((.int .u8 0:Value)).cells (G - n)).size=G * 1:=by
  simp only [Array.size_append,size_zeroCells];show n * 1+(G - n) * 1=G * 1;omega
 generalize Builtin.zeroCells ((.int .u8 0:Value)).cells n++Builtin.zeroCells ((.int .u8 0:Value)).cells (G - n)=Z at *;have hfin:(w.drew.alloc (.cells Z 5)).ownsRow w.heap.size 5 1 (.slice (some ⟨w.heap.size,0,none⟩) 0 G) 0 []:=
  ⟨rfl,.inr ⟨w.heap.size,G,Z,rfl,Nat.le_refl _,heap_alloc_new w.drew _,Nat.zero_le _,hGm,hsz,by simp⟩⟩
 have hbl:qB w (w.drew.alloc (.cells Z 5)):=⟨rfl,rfl,rfl,by simp,fun k hk=>heap_alloc_old w.drew _ hk⟩;have hG63:(G:Int)≤9223372036854775807:=by unfold maxLen at hGm;omega
 have hn0:¬((n:Int) < 0):=by omega
 have hn1:(n:Int) > 0:=by omega
 have hw1:wrap64 ((n:Int) - 0)=n:=by unfold wrap64;omega
 clear hGe hsz hGm h1;go_enter Tryz.func160,Tryz.ntmps160
 go_wp2_with (at_builtin;refine Lib.wpList_append_run _ rfl _ _ _ _ rfl _ _ rfl rfl _ _ (hr _) ?_);all_goals (go_ret;exact ⟨_,rfl,hfin,hbl⟩)
def segB (w:World) (x:List UInt8) (_:Nat) (u:Value):Prop:=rdV w 1 u x.length (x.flatMap ukC)
theorem catB (w:World) (s:Sl) (ls:List (List UInt8)) (hS:RowsAt w 1 (segB w) s ls) (hlen:ls.flatten.length≤1000000):Calls Tryz.prog 83 #[slT s] w fun e w'=>∃u,e=.returned u∧w'.ownsRow w.heap.size 5 1 u ls.flatten.length (ls.flatten.flatMap ukC)∧qB w w':=by
 obtain ⟨i0,hi0,hz0,hz1,hz2⟩:=info_parts qpj;obtain ⟨sa,sn,sc⟩:=s;have hsc:sn≤sc:=hS.c;have hsm:sc≤maxLen:=hS.m;unfold maxLen at hsm;have hg:=qsn ls.flatten.length hlen w;have HH:Hid (RowsAt w 1 (segB w) ⟨sa,sn,sc⟩ ls∧sn=ls.length∧ls.flatten.length≤1000000∧(∀y∈ls.flatten.flatMap ukC,y.oneCell'=true)):=⟨hS,hS.n,hlen,by rw [qd8];exact qlg _⟩;have hrow:Hid (∀(j:Nat) (x:List UInt8),ls[j]?=some x→∃g off:Nat,sa=some ⟨g,off,none⟩∧g < w.heap.size∧∃(a:Option Addr) (c:Nat),w.cell? ⟨g,off+j,none⟩=some (.slice a x.length c)∧segB w x 0 (.slice a x.length c)):=fun j x hj=>by
  obtain ⟨g,off,e,hg,hr⟩:=hS.row j x hj;obtain ⟨u,hu,hx⟩:=hr 0 (by omega);obtain ⟨a,c,rfl⟩:=qh4 hx;exact ⟨g,off,e,hg,a,c,by simpa using hu,hx⟩
 clear hS hlen;obtain ⟨F,hF⟩:∃F,F=ls.flatten:=⟨_,rfl⟩
 rw [←hF] at hg ⊢;have HF:Hid (F=ls.flatten):=hF;clear hF;show Calls _ _ #[.slice sa sn sc] _ _;go_enter Tryz.func83,Tryz.ntmps83
 go_wp2;go_loopw [3,5,11] (fun n _ iv wr=>∃j:Nat,j≤sn∧iv=.int .i64 j∧Hid (n=I ((ls.take j).flatten.length:Nat))∧w=wr) (fun _ _ iv _=>sn - (intOf iv).toNat)
 case atStart=>exact ⟨0,by omega,rfl,rfl,rfl⟩
 case round=>
  obtain ⟨j,hj,rfl,HJ,rfl⟩:=hrel;have hJ:=HJ.out;subst hJ;by_cases hlt:j < sn
  ·have hlt':(j:Int) < sn:=by omega
   have hjl:j < ls.length:=by rw [←HH.out.2.1];exact hlt
   obtain ⟨x,hx⟩:∃x,ls[j]?=some x:=⟨_,List.getElem?_eq_getElem hjl⟩
   obtain ⟨g,off,rfl,hgl,xa,xc,hcell,-⟩:=hrow.out j x hx;have hf:=qg9 hx;have hle:=Nat.le_trans (qit ls (j+1)) HH.out.2.2.1;have hle0:(ls.take j).flatten.length+x.length=(ls.take (j+1)).flatten.length:=by rw [hf,List.length_append]
   have HQ:Hid (I ((((ls.take j).flatten.length:Nat):Int)+((x.length:Nat):Int))=I ((ls.take (j+1)).flatten.length:Nat)):=by show _=_;rw [←hle0];simp
   have hq:(ls.take j).flatten.length+x.length≤1000000:=by omega
   have hnn:¬((((ls.take j).flatten.length:Nat):Int)+((x.length:Nat):Int) < 0):=by omega
   clear hf hle hle0 hx hrow hg HJ hjl hlt hj HH;generalize (ls.take j).flatten.length=q0 at *;generalize x.length=q1 at *;go_wp2;go_roundw
   case rel=>exact ⟨j+1,by omega,by go_num,HQ.out,by trivial⟩
   case measure=>simp [intOf];omega
  ·obtain rfl:j=sn:=by omega
   have hlt':¬((j:Nat):Int) < (j:Nat):=by omega
   have htk:(ls.take j).flatten.length=F.length:=by rw [HH.out.2.1,List.take_length,HF.out]
   rw [htk];clear htk HJ hj hlt;go_wp2_with (first | (go_at_call 160;refine hg.mono ?_;rintro e w1 ⟨v0,rfl,hown,hb1⟩));clear hg;go_loopw [6,8,27] (fun nv _ iv wr=>∃i:Nat,i≤j∧iv=.int .i64 i∧Hid (wr.ownsRow w.heap.size 5 1 nv (ls.take i).flatten.length ((ls.take i).flatten.flatMap ukC)∧qB w wr)) (fun _ _ iv _=>j - (intOf iv).toNat)
   case atStart=>exact ⟨0,by omega,rfl,by simpa using hown,hb1⟩
   case round=>
    clear hown hb1;obtain ⟨i,hi,rfl,HI⟩:=hrel;by_cases hlt2:i < j
    ·have hlt3:(i:Int) < j:=by omega
     have hjl:i < ls.length:=by rw [←HH.out.2.1];exact hlt2
     obtain ⟨x,hx⟩:∃x,ls[i]?=some x:=⟨_,List.getElem?_eq_getElem hjl⟩
     obtain ⟨g,off,rfl,hgl,xa,xc,hcell,hseg⟩:=hrow.out i x hx;have hf:=qg9 hx;have hle:=Nat.le_trans (qit ls (i+1)) HH.out.2.2.1;have hle0:(ls.take i).flatten.length+x.length=(ls.take (i+1)).flatten.length:=by rw [hf,List.length_append]
     have hcellr:wr.cell? ⟨g,off+i,none⟩=some (.slice xa x.length xc):=by rw [qa5 HI.out.2 _ _ hgl];exact hcell
     have hown:=HI.out.1;have hx0:rdV wr 1 (.slice xa x.length xc) x.length (x.flatMap ukC):=qc0 hseg HI.out.2;have hx1:∀y∈x.flatMap ukC,y.oneCell'=true:=fun y hy=>HH.out.2.2.2 y (by
      obtain ⟨b,hb,hy⟩:=List.mem_flatMap.1 hy;exact List.mem_flatMap.2 ⟨b,List.mem_flatten.2 ⟨x,List.mem_of_getElem? hx,hb⟩,hy⟩)
     have hbs:=HI.out.2.size;have hq1:(ls.take i).flatten.length+x.length≤1000000:=by omega
     have HK:Hid (∀v' w',w'.ownsRow w.heap.size 5 1 v' ((ls.take i).flatten.length+x.length) ((ls.take i).flatten.flatMap ukC++x.flatMap ukC)→wr.grownBy w' u6.ownBlock→w'.ownsRow w.heap.size 5 1 v' (ls.take (i+1)).flatten.length ((ls.take (i+1)).flatten.flatMap ukC)∧qB w w'):=fun v' w' ho hg'=>by
      refine ⟨?_,Below.grown HI.out.1 HI.out.2 hg'⟩;rw [hf,List.length_append,List.flatMap_append];exact ho
     clear hf hle hle0 hcell hseg hrow HH hjl hx;go_wp2_with (at_builtin;refine qd7 rfl (.tmp 31) (.tmp 32) 22 rfl w.heap.size 0 5 i0 (.int .u8 0:Value) 1 1 Tryz.underlying22 hi0 hz0 hz1 hz2 rfl (by decide) u6 (.slice xa x.length xc) _ _ _ _ rfl rfl hown hx0 hx1 (by unfold maxLen;omega) (by omega) hbs ?_;intro v' w' ho hg';have K2:Hid _:=HK.out v' w' ho hg';clear ho hg');go_roundw
     case rel=>exact ⟨i+1,by omega,by go_num,K2.out⟩
     case measure=>simp [intOf];omega
    ·obtain rfl:i=j:=by omega
     have hge:¬((i:Int) < i):=by omega
     have e:=HI.out;rw [show ls.take i=ls by rw [HH.out.2.1];exact List.take_length,←HF.out] at e;have E:Hid _:=e;clear e HI HH hrow;go_wp2;go_ret;exact ⟨_,rfl,E.out⟩
theorem qpk : (Tryz.prog.info? 91).map (fun i=>(i.zero,i.size,i.bytes))=some (some (.agg #[I 0,I 0,qZ]:Value),3,40):=by kernel_rfl
theorem qso (n:Nat) (h2:n≤1000) (w:World):Calls Tryz.prog 163 #[qZ,I n] w fun e w'=>∃v,e=.returned v∧w'.ownsRow w.heap.size 91 3 v 0 []∧qB w w':=by
 obtain ⟨i0,hi,hz,hs,hby⟩:=info_parts qpk;by_cases h1:n=0
 ·subst h1
  go_enter Tryz.func163,Tryz.ntmps163
  go_wp2;go_ret;exact ⟨_,rfl,World.ownsRow_nil _ _ _ _,Below.refl _ _⟩
 have hr:=fun ty=>Lib.run_append_nil_zeros (P:=Tryz.prog) w 88 3 ty 91 i0 _ .i64 .i64 Tryz.underlying88 Tryz.underlying3 hi hz n (by omega) (by omega) (by omega) (by rw [hby];omega)
 have hG:=grownCap_ge w n 0 91;have hGm:=grownCap_le_maxLen w n 0 91 (by unfold maxLen;omega);obtain ⟨G,hGe⟩:∃G,G=grownCap w n 0 91:=⟨_,rfl⟩
 rw [←hGe] at hr hG hGm;have hsz:(Builtin.zeroCells ((.agg #[I 0,I 0,qZ]:Value)).cells n++Builtin.zeroCells ((.agg #[I 0,I 0,qZ]:Value)).cells (G - n)).size=G * 3:=by
  simp only [Array.size_append,size_zeroCells];show n * 3+(G - n) * 3=G * 3;omega
 generalize Builtin.zeroCells ((.agg #[I 0,I 0,.slice none 0 0]:Value)).cells n++Builtin.zeroCells ((.agg #[I 0,I 0,.slice none 0 0]:Value)).cells (G - n)=Z at *;have hfin:(w.drew.alloc (.cells Z 91)).ownsRow w.heap.size 91 3 (.slice (some ⟨w.heap.size,0,none⟩) 0 G) 0 []:=
  ⟨rfl,.inr ⟨w.heap.size,G,Z,rfl,Nat.le_refl _,heap_alloc_new w.drew _,Nat.zero_le _,hGm,hsz,by simp⟩⟩
 have hbl:qB w (w.drew.alloc (.cells Z 91)):=⟨rfl,rfl,rfl,by simp,fun k hk=>heap_alloc_old w.drew _ hk⟩;have hG63:(G:Int)≤9223372036854775807:=by unfold maxLen at hGm;omega
 have hn0:¬((n:Int) < 0):=by omega
 have hn1:(n:Int) > 0:=by omega
 have hw1:wrap64 ((n:Int) - 0)=n:=by unfold wrap64;omega
 clear hGe hsz hGm h1;go_enter Tryz.func163,Tryz.ntmps163
 go_wp2_with (at_builtin;refine Lib.wpList_append_run _ rfl _ _ _ _ rfl _ _ rfl rfl _ _ (hr _) ?_);all_goals (go_ret;exact ⟨_,rfl,hfin,hbl⟩)
def segP (w:World) (x:List Pc) (_:Nat) (u:Value):Prop:=rdV w 3 u x.length (x.flatMap pcC)
theorem catP (w:World) (s:Sl) (ls:List (List Pc)) (hS:RowsAt w 1 (segP w) s ls) (hlen:ls.flatten.length≤1000) (h1:∀y∈ls.flatten.flatMap pcC,y.oneCell'=true):Calls Tryz.prog 88 #[slT s] w fun e w'=>∃u,e=.returned u∧w'.ownsRow w.heap.size 91 3 u ls.flatten.length (ls.flatten.flatMap pcC)∧qB w w':=by
 obtain ⟨i0,hi0,hz0,hz1,hz2⟩:=info_parts qpk;obtain ⟨sa,sn,sc⟩:=s;have hsc:sn≤sc:=hS.c;have hsm:sc≤maxLen:=hS.m;unfold maxLen at hsm;have hg:=qso ls.flatten.length hlen w;have HH:Hid (RowsAt w 1 (segP w) ⟨sa,sn,sc⟩ ls∧sn=ls.length∧ls.flatten.length≤1000∧(∀y∈ls.flatten.flatMap pcC,y.oneCell'=true)):=⟨hS,hS.n,hlen,h1⟩;have hrow:Hid (∀(j:Nat) (x:List Pc),ls[j]?=some x→∃g off:Nat,sa=some ⟨g,off,none⟩∧g < w.heap.size∧∃(a:Option Addr) (c:Nat),w.cell? ⟨g,off+j,none⟩=some (.slice a x.length c)∧segP w x 0 (.slice a x.length c)):=fun j x hj=>by
  obtain ⟨g,off,e,hg,hr⟩:=hS.row j x hj;obtain ⟨u,hu,hx⟩:=hr 0 (by omega);obtain ⟨a,c,rfl⟩:=qh4 hx;exact ⟨g,off,e,hg,a,c,by simpa using hu,hx⟩
 clear hS hlen;obtain ⟨F,hF⟩:∃F,F=ls.flatten:=⟨_,rfl⟩
 rw [←hF] at hg ⊢;have HF:Hid (F=ls.flatten):=hF;clear hF;show Calls _ _ #[.slice sa sn sc] _ _;go_enter Tryz.func88,Tryz.ntmps88
 go_wp2;go_loopw [3,5,11] (fun n _ iv wr=>∃j:Nat,j≤sn∧iv=.int .i64 j∧Hid (n=I ((ls.take j).flatten.length:Nat))∧w=wr) (fun _ _ iv _=>sn - (intOf iv).toNat)
 case atStart=>exact ⟨0,by omega,rfl,rfl,rfl⟩
 case round=>
  obtain ⟨j,hj,rfl,HJ,rfl⟩:=hrel;have hJ:=HJ.out;subst hJ;by_cases hlt:j < sn
  ·have hlt':(j:Int) < sn:=by omega
   have hjl:j < ls.length:=by rw [←HH.out.2.1];exact hlt
   obtain ⟨x,hx⟩:∃x,ls[j]?=some x:=⟨_,List.getElem?_eq_getElem hjl⟩
   obtain ⟨g,off,rfl,hgl,xa,xc,hcell,-⟩:=hrow.out j x hx;have hf:=qg9 hx;have hle:=Nat.le_trans (qit ls (j+1)) HH.out.2.2.1;have hle0:(ls.take j).flatten.length+x.length=(ls.take (j+1)).flatten.length:=by rw [hf,List.length_append]
   have HQ:Hid (I ((((ls.take j).flatten.length:Nat):Int)+((x.length:Nat):Int))=I ((ls.take (j+1)).flatten.length:Nat)):=by show _=_;rw [←hle0];simp
   have hq:(ls.take j).flatten.length+x.length≤1000:=by omega
   have hnn:¬((((ls.take j).flatten.length:Nat):Int)+((x.length:Nat):Int) < 0):=by omega
   clear hf hle hle0 hx hrow hg HJ hjl hlt hj HH;generalize (ls.take j).flatten.length=q0 at *;generalize x.length=q1 at *;go_wp2;go_roundw
   case rel=>exact ⟨j+1,by omega,by go_num,HQ.out,by trivial⟩
   case measure=>simp [intOf];omega
  ·obtain rfl:j=sn:=by omega
   have hlt':¬((j:Nat):Int) < (j:Nat):=by omega
   have htk:(ls.take j).flatten.length=F.length:=by rw [HH.out.2.1,List.take_length,HF.out]
   rw [htk];clear htk HJ hj hlt;go_wp2_with (first | (go_at_call 163;refine hg.mono ?_;rintro e w1 ⟨v0,rfl,hown,hb1⟩));clear hg;go_loopw [6,8,27] (fun nv _ iv wr=>∃i:Nat,i≤j∧iv=.int .i64 i∧Hid (wr.ownsRow w.heap.size 91 3 nv (ls.take i).flatten.length ((ls.take i).flatten.flatMap pcC)∧qB w wr)) (fun _ _ iv _=>j - (intOf iv).toNat)
   case atStart=>exact ⟨0,by omega,rfl,by simpa using hown,hb1⟩
   case round=>
    clear hown hb1;obtain ⟨i,hi,rfl,HI⟩:=hrel;by_cases hlt2:i < j
    ·have hlt3:(i:Int) < j:=by omega
     have hjl:i < ls.length:=by rw [←HH.out.2.1];exact hlt2
     obtain ⟨x,hx⟩:∃x,ls[i]?=some x:=⟨_,List.getElem?_eq_getElem hjl⟩
     obtain ⟨g,off,rfl,hgl,xa,xc,hcell,hseg⟩:=hrow.out i x hx;have hf:=qg9 hx;have hle:=Nat.le_trans (qit ls (i+1)) HH.out.2.2.1;have hle0:(ls.take i).flatten.length+x.length=(ls.take (i+1)).flatten.length:=by rw [hf,List.length_append]
     have hcellr:wr.cell? ⟨g,off+i,none⟩=some (.slice xa x.length xc):=by rw [qa5 HI.out.2 _ _ hgl];exact hcell
     have hown:=HI.out.1;have hx0:rdV wr 3 (.slice xa x.length xc) x.length (x.flatMap pcC):=qc0 hseg HI.out.2;have hx1:∀y∈x.flatMap pcC,y.oneCell'=true:=fun y hy=>HH.out.2.2.2 y (by
      obtain ⟨b,hb,hy⟩:=List.mem_flatMap.1 hy;exact List.mem_flatMap.2 ⟨b,List.mem_flatten.2 ⟨x,List.mem_of_getElem? hx,hb⟩,hy⟩)
     have hbs:=HI.out.2.size;have hq1:(ls.take i).flatten.length+x.length≤1000:=by omega
     have HK:Hid (∀v' w',w'.ownsRow w.heap.size 91 3 v' ((ls.take i).flatten.length+x.length) ((ls.take i).flatten.flatMap pcC++x.flatMap pcC)→wr.grownBy w' u6.ownBlock→w'.ownsRow w.heap.size 91 3 v' (ls.take (i+1)).flatten.length ((ls.take (i+1)).flatten.flatMap pcC)∧qB w w'):=fun v' w' ho hg'=>by
      refine ⟨?_,Below.grown HI.out.1 HI.out.2 hg'⟩;rw [hf,List.length_append,List.flatMap_append];exact ho
     clear hf hle hle0 hcell hseg hrow HH hjl hx;go_wp2_with (at_builtin;refine qd7 rfl (.tmp 31) (.tmp 32) 88 rfl w.heap.size 0 91 i0 (.agg #[I 0,I 0,qZ]:Value) 3 40 Tryz.underlying88 hi0 hz0 hz1 hz2 rfl (by decide) u6 (.slice xa x.length xc) _ _ _ _ rfl rfl hown hx0 hx1 (by unfold maxLen;omega) (by omega) hbs ?_;intro v' w' ho hg';have K2:Hid _:=HK.out v' w' ho hg';clear ho hg');go_roundw
     case rel=>exact ⟨i+1,by omega,by go_num,K2.out⟩
     case measure=>simp [intOf];omega
    ·obtain rfl:i=j:=by omega
     have hge:¬((i:Int) < i):=by omega
     have e:=HI.out;rw [show ls.take i=ls by rw [HH.out.2.1];exact List.take_length,←HF.out] at e;have E:Hid _:=e;clear e HI HH hrow;go_wp2;go_ret;exact ⟨_,rfl,E.out⟩
end Go.Proofs.YtijgopkhdjaolabGreat
