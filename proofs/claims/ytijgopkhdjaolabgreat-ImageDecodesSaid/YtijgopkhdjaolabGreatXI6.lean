import Derived.Laws.BitsAllLaws
import Derived.Test.YtijgopkhdjaolabGreatProg
import Derived.WalkKit
import Derived.WalkSpells
import Derived.WalkLawsBesides
import Derived.BigQuiet
import Derived.Lib.AppendStr
import Derived.Laws.AppendOwnNone
set_option linter.unusedSimpArgs false
set_option linter.unusedVariables false
set_option maxHeartbeats 16000000
set_option maxRecDepth 100000
namespace Go.Proofs.YtijgopkhdjaolabGreat.Ob
def stp (r:Nat):Nat:=if r / 32768=1 then (r * 2 % 65536) ^^^ 4129 else r * 2 % 65536
def stps : Nat→Nat→Nat
 | 0,r=>r
 | k+1,r=>stp (stps k r)
def sumB (s c:Nat):Nat:=stps 8 (s ^^^ (c * 256))
def crc (s:Nat) (l:List UInt8):Nat:=l.foldl (fun s c=>sumB s c.toNat) s
def crcs (s:Nat) (ls:List (List UInt8)):Nat:=ls.foldl crc s
theorem qgg (a b:Nat) (ha:a < 65536) (hb:b < 65536):a ^^^ b < 65536:=Nat.xor_lt_two_pow (n:=16) ha hb
theorem qmi (r:Nat):stp r < 65536:=by
 unfold stp;split
 ·exact qgg _ _ (Nat.mod_lt _ (by decide)) (by decide)
 ·exact Nat.mod_lt _ (by decide)
theorem qkl (k r:Nat) (h:r < 65536):stps k r < 65536:=by
 cases k with
 | zero=>exact h
 | succ k=>exact qmi _
theorem qq3 (s c:Nat):sumB s c < 65536:=qmi _
theorem crc_lt (s:Nat) (l:List UInt8) (h:s < 65536):crc s l < 65536:=by
 unfold crc;induction l generalizing s with
 | nil=>exact h
 | cons a l ih=>exact ih _ (qq3 _ _)
theorem crcs_lt (s:Nat) (ls:List (List UInt8)) (h:s < 65536):crcs s ls < 65536:=by
 unfold crcs;induction ls generalizing s with
 | nil=>exact h
 | cons a l ih=>exact ih _ (crc_lt _ _ h)
theorem qiu (s:Nat) (l:List UInt8) (c:UInt8):crc s (l++[c])=sumB (crc s l) c.toNat:=by simp [crc]
theorem qmj (s:Nat) (ls:List (List UInt8)) (l:List UInt8):crcs s (ls++[l])=crc (crcs s ls) l:=by simp [crcs]
theorem qlc (s:Nat) (l m:List UInt8):crc s (l++m)=crc (crc s l) m:=by simp [crc]
theorem crcs_flatten (s:Nat) (ls:List (List UInt8)):crcs s ls=crc s ls.flatten:=by
 induction ls generalizing s with
 | nil=>rfl
 | cons a l ih=>simp only [List.flatten_cons,qlc];exact ih _
theorem take_succ' {α:Type} (l:List α) (k:Nat) (x:α) (h:l[k]?=some x):l.take (k+1)=l.take k++[x]:=by
 rw [List.take_add_one,h];rfl
end Go.Proofs.YtijgopkhdjaolabGreat.Ob
namespace Go.Proofs.YtijgopkhdjaolabGreat.Ob
open Go.RowKit
theorem qkm {k:IntKind} {a b:Int} (h:a=b):Ending.returned (.int k a)=.returned (.int k b):=by rw [h]
theorem qe1 {a b:Bool} (h:a=b):Ending.returned (.bool a)=.returned (.bool b):=by rw [h]
theorem qft (n:Int) (w:World) (h1:1≤n) (h2:n≤8) :
  Calls Tryz.prog 166 #[.int .i64 n] w fun e w'=>e=.returned (.bool true)∧w=w':=by
 go_enter Tryz.func166,Tryz.ntmps166
 go_wp2;go_ret;exact ⟨qe1 (by simp),rfl⟩
theorem qtv (n:Int) (w:World) (h:n < 1∨8 < n) :
  Calls Tryz.prog 166 #[.int .i64 n] w fun e w'=>e=.returned (.bool false)∧w=w':=by
 by_cases a:1≤n
 ·have h8:8 < n:=by omega
  clear h;go_enter Tryz.func166,Tryz.ntmps166
  go_wp2;go_ret;exact ⟨qe1 (by simp;omega),rfl⟩
 ·clear h
  go_enter Tryz.func166,Tryz.ntmps166
  go_wp2;go_ret;exact ⟨rfl,rfl⟩
theorem qkn (v n:Int) (h1:1≤n) (hv:0≤v):(v / 2 ^ (8 * n).toNat==0)=decide (v < 256 ^ n.toNat):=by
 obtain ⟨m,rfl⟩:=Int.eq_ofNat_of_zero_le (show 0≤n by omega);obtain ⟨u,rfl⟩:=Int.eq_ofNat_of_zero_le hv;have e:(8 * (m:Int)).toNat=8 * m:=by omega
 have e2:((m:Int)).toNat=m:=by omega
 rw [e,e2];have:(2:Int) ^ (8 * m)=(256:Int) ^ m:=by rw [Int.pow_mul];rfl
 rw [this];have hp:(0:Int) < 256 ^ m:=Int.pow_pos (by decide);rw [Bool.eq_iff_iff];simp only [beq_iff_eq,decide_eq_true_eq];constructor
 ·intro h
  have:=Int.emod_lt_of_pos (u:Int) hp;have:=Int.mul_ediv_add_emod (u:Int) (256 ^ m);rw [h] at this;omega
 ·intro h
  exact Int.ediv_eq_zero_of_lt (by omega) h
theorem qoi (v n:Int) (w:World) (h1:1≤n) (h2:n≤8) (hv:0≤v) (hv2:v < 18446744073709551616) :
  Calls Tryz.prog 191 #[.int .u64 v,.int .i64 n] w fun e w'=>e=.returned (.bool (decide (v < 256 ^ n.toNat)))∧w=w':=by
 have H:Hid ((v / 2 ^ (8 * n).toNat==0)=decide (v < 256 ^ n.toNat)):=qkn v n h1 hv;go_enter Tryz.func191,Tryz.ntmps191
 go_wp2;go_ret;exact ⟨qe1 H.out,rfl⟩
theorem qgh (b o:Nat) (m:Bool) (w:World) (hc:w.cell? ⟨b,o,none⟩=some (.bool m)) :
  Calls Tryz.prog 116 #[.pointer (some ⟨b,o,none⟩)] w fun e w'=>e=.returned (.bool (!m))∧w=w':=by
 go_enter Tryz.func116,Tryz.ntmps116
 go_wp2;go_ret;exact ⟨rfl,rfl⟩
theorem qko (r:Nat) (h:r < 65536) (hy:((r:Int) / 32768==1)=true):bits .xor .u16 ((r:Int) * 2 % 65536) 4129=(stp r:Nat):=by
 have e:r / 32768=1:=by simp at hy;omega
 have e2:((r:Int) * 2 % 65536)=((r * 2 % 65536:Nat):Int):=by omega
 rw [e2,show (4129:Int)=((4129:Nat):Int) from rfl,u16_xor_nat _ _ (Nat.mod_lt _ (by decide)) (by decide),stp,if_pos e]
theorem qiv (r:Nat) (h:r < 65536) (hn:((r:Int) / 32768==1)=false):((r:Int) * 2 % 65536)=(stp r:Nat):=by
 have e:¬r / 32768=1:=by simp at hn;omega
 have e2:((r:Int) * 2 % 65536)=((r * 2 % 65536:Nat):Int):=by omega
 rw [e2,stp,if_neg e]
theorem qk0 (s:Nat) (c:UInt8) (w:World) (hs:s < 65536) :
  Calls Tryz.prog 109 #[.int .u16 s,.int .u8 c.toNat] w fun e w'=>e=.returned (.int .u16 (sumB s c.toNat:Nat))∧w=w':=by
 have hc:=c.toNat_lt;have hx:bits .xor .u16 (s:Int) ((c.toNat:Int) * 256)=((s ^^^ (c.toNat * 256):Nat):Int):=by
  rw [show (c.toNat:Int) * 256=((c.toNat * 256:Nat):Int) by omega];exact u16_xor_nat _ _ hs (by omega)
 have hx0:s ^^^ (c.toNat * 256) < 65536:=qgg _ _ hs (by omega);have HX:=(show Hid (_=_) from hx);clear hx;go_enter Tryz.func109,Tryz.ntmps109
 go_wp2;rw [HX.out];go_loop [0,11] (fun r i=>∃k:Nat,k≤8∧i=.int .i64 k∧r=.int .u16 ((stps k (s ^^^ (c.toNat * 256)):Nat):Int)) (fun _ i=>8 - (intOf i).toNat)
 case atStart=>exact ⟨0,by omega,rfl,rfl⟩
 case round=>
  obtain ⟨k,hk,rfl,rfl⟩:=hrel;have hl:=qkl k _ hx0;have HN:Hid (stps (k+1) (s ^^^ (c.toNat * 256))=stp (stps k (s ^^^ (c.toNat * 256)))):=rfl;by_cases hlt:k < 8
  ·generalize stps k (s ^^^ (c.toNat * 256))=r at *
   cases hy:((r:Int) / 32768==1) with
   | true=>
    have HY:Hid (((r:Int) / 32768==1)=true):=hy;go_wp2;go_round
    case rel=>exact ⟨k+1,by omega,by go_num,by rw [HN.out,←qko r hl HY.out,IntKind.wrap_u16]⟩
    case measure=>simp [intOf];omega
   | false=>
    have HY:Hid (((r:Int) / 32768==1)=false):=hy;go_wp2;go_round
    case rel=>exact ⟨k+1,by omega,by go_num,by rw [HN.out,←qiv r hl HY.out,IntKind.wrap_u16]⟩
    case measure=>simp [intOf];omega
  ·have hk8:k=8:=by omega
   subst hk8;go_wp2;go_ret;exact ⟨rfl,rfl⟩
structure Rd (w:World) (a:Option Addr) (len cap:Nat) (l:List UInt8):Prop where
 hlen:l.length=len
 hle:len≤cap
 hsmall:len≤140737488351232
 hnil:a=none→len=0∧cap=0
 hcell:0 < len→∃b off,a=some ⟨b,off,none⟩∧b < w.heap.size∧∀i x,l[i]?=some x→w.cell? ⟨b,off+i,none⟩=some (.int .u8 (x.toNat:Int))
theorem Rd.below {w w':World} {a:Option Addr} {len cap:Nat} {l:List UInt8} (h:Rd w a len cap l) (hb:Below w.heap.size w w'):Rd w' a len cap l:=by
 refine ⟨h.hlen,h.hle,h.hsmall,h.hnil,fun hp=>?_⟩;obtain ⟨b,off,e,hlt,hc⟩:=h.hcell hp;exact ⟨b,off,e,Nat.lt_of_lt_of_le hlt hb.size,fun i x hx=>(hb.cell (p:=⟨b,off+i,none⟩) hlt).trans (hc i x hx)⟩
theorem same_any (a b:Option Addr) (n m c d:Nat) (l k:List UInt8) (w:World) (ha:Rd w a n c l) (hb:Rd w b m d k) :
  Calls Tryz.prog 9 #[.slice a n c,.slice b m d] w fun e w'=>e=.returned (.bool (l==k))∧∃q,w'=w.drewN q:=by
 have hs1:=ha.hsmall;have hs2:=hb.hsmall;have hl1:=ha.hlen;have hl2:=hb.hlen;by_cases hnm:n=m
 ·subst hnm
  go_enter Tryz.func9,Tryz.ntmps9
  go_wp2;go_loopw [5] (fun i wr=>∃j:Nat,j≤n∧i=.int .i64 j∧l.take j=k.take j∧∃q,wr=w.drewN q) (fun i _=>n - (intOf i).toNat)
  case atStart=>exact ⟨0,by omega,rfl,rfl,0,rfl⟩
  case round=>
   obtain ⟨j,hj,rfl,ht,q,rfl⟩:=hrel;have HT:Hid (l.take j=k.take j):=ht;clear ht;by_cases hlt:j < n
   ·obtain ⟨b1,o1,rfl,h1,hc1⟩:=ha.hcell (by omega)
    obtain ⟨b2,o2,rfl,h2,hc2⟩:=hb.hcell (by omega);obtain ⟨x,hx⟩:∃x,l[j]?=some x:=⟨l[j],List.getElem?_eq_getElem (by omega)⟩
    obtain ⟨y,hy⟩:∃y,k[j]?=some y:=⟨k[j],List.getElem?_eq_getElem (by omega)⟩
    have c1:=hc1 j x hx;have c2:=hc2 j y hy;have HX:Hid (l[j]?=some x):=hx;have HY:Hid (k[j]?=some y):=hy;clear hc1 hc2 hx hy hl1 hl2;by_cases hxy:x=y
    ·subst hxy
     go_wp2;go_quiet (fail)
     go_wp2;go_roundw
     case rel=>exact ⟨j+1,by omega,by go_num,by rw [take_succ' _ _ _ HX.out,take_succ' _ _ _ HY.out,HT.out],_,rfl⟩
     case measure=>simp [intOf];omega
    ·have hne:((x.toNat:Int) != (y.toNat:Int))=true:=by
      rw [bne_iff_ne];intro h;exact hxy (UInt8.toNat_inj.mp (by omega))
     have HF:Hid ((l==k)=false):=by
      show (l==k)=false;rw [beq_eq_false_iff_ne];intro h;have:=HX.out;rw [h,HY.out] at this;exact hxy (Option.some.inj this).symm
     go_wp2;go_quiet (fail)
     go_wp2;go_ret;exact ⟨qe1 HF.out.symm,_,World.drewN_drewN ..⟩
   ·have hjn:j=n:=by omega
    subst hjn;go_wp2;go_ret;refine ⟨qe1 ?_,q,rfl⟩;have:=HT.out;rw [List.take_of_length_le (by omega),List.take_of_length_le (by omega)] at this;rw [this];simp
 ·have hne:((n:Int) != (m:Int))=true:=by rw [bne_iff_ne];omega
  have HF:Hid ((l==k)=false):=by
   show (l==k)=false;rw [beq_eq_false_iff_ne];intro h;exact hnm (by rw [←hl1,←hl2,h])
  go_enter Tryz.func9,Tryz.ntmps9
  go_wp2;go_ret;exact ⟨qe1 HF.out.symm,0,rfl⟩
structure RdAll (w:World) (a:Option Addr) (len cap:Nat) (ls:List (List UInt8)):Prop where
 hlen:ls.length=len
 hsmall:len≤140737488351232
 hcell:0 < len→∃b off,a=some ⟨b,off,none⟩∧∀i l,ls[i]?=some l→∃a' n' c',w.cell? ⟨b,off+i,none⟩=some (.slice a' n' c')∧Rd w a' n' c' l
theorem crc_any (a:Option Addr) (n c:Nat) (ls:List (List UInt8)) (w:World) (ha:RdAll w a n c ls) :
  Calls Tryz.prog 33 #[.slice a n c] w fun e w'=>e=.returned (.int .u16 (crcs 65535 ls:Nat))∧w=w':=by
 have hs1:=ha.hsmall;have hl1:=ha.hlen;go_enter Tryz.func33,Tryz.ntmps33
 go_wp2;go_loop [3,10] (fun r i=>∃j:Nat,j≤n∧i=.int .i64 j∧r=.int .u16 ((crcs 65535 (ls.take j):Nat):Int)) (fun _ i=>n - (intOf i).toNat)
 case atStart=>exact ⟨0,by omega,rfl,rfl⟩
 case round=>
  obtain ⟨j,hj,rfl,rfl⟩:=hrel;have hr:=crcs_lt 65535 (ls.take j) (by decide);by_cases hlt:j < n
  ·obtain ⟨b,off,rfl,hc⟩:=ha.hcell (by omega)
   obtain ⟨l,hl⟩:∃l,ls[j]?=some l:=⟨ls[j],List.getElem?_eq_getElem (by omega)⟩
   obtain ⟨a',n',c',hcl,hrd⟩:=hc j l hl;have HN:Hid (crcs 65535 (ls.take (j+1))=crc (crcs 65535 (ls.take j)) l):=by
    show crcs 65535 (ls.take (j+1))=crc (crcs 65535 (ls.take j)) l;rw [take_succ' _ _ _ hl,qmj]
   have hs2:=hrd.hsmall;have hl2:=hrd.hlen;clear hc hl hl1;generalize crcs 65535 (ls.take j)=r at *;go_wp2;go_loop [3,16] (fun x i=>∃t:Nat,t≤n'∧i=.int .i64 t∧x=.int .u16 ((crc r (l.take t):Nat):Int)) (fun _ i=>n' - (intOf i).toNat)
   case atStart=>exact ⟨0,by omega,rfl,rfl⟩
   case round=>
    obtain ⟨t,ht,rfl,rfl⟩:=hrel;have hr2:=crc_lt r (l.take t) hr;by_cases hlt2:t < n'
    ·obtain ⟨b2,o2,rfl,_,hc2⟩:=hrd.hcell (by omega)
     obtain ⟨x,hx⟩:∃x,l[t]?=some x:=⟨l[t],List.getElem?_eq_getElem (by omega)⟩
     have hcx:=hc2 t x hx;have HN2:Hid (crc r (l.take (t+1))=sumB (crc r (l.take t)) x.toNat):=by
      show crc r (l.take (t+1))=sumB (crc r (l.take t)) x.toNat;rw [take_succ' _ _ _ hx,qiu]
     clear hc2 hx hl2;generalize crc r (l.take t)=s at *;go_wp2_with (go_at_call 109;refine (qk0 _ _ _ hr2).mono ?_;rintro e w' ⟨rfl,rfl⟩);go_round
     case rel=>exact ⟨t+1,by omega,by go_num,by rw [HN2.out]⟩
     case measure=>simp [intOf];omega
    ·have htn:t=n':=by omega
     subst htn;have HT:Hid (l.take t=l):=List.take_of_length_le (by omega);go_wp2;go_round
     case rel=>exact ⟨j+1,by omega,by go_num,by rw [HN.out,HT.out]⟩
     case measure=>simp [intOf];omega
  ·have hjn:j=n:=by omega
   subst hjn;go_wp2;go_ret;exact ⟨qkm (by rw [List.take_of_length_le (by omega)]),rfl⟩
def B (c:UInt8):Value:=.int .u8 (c.toNat:Int)
theorem Tryz.info5 : (Tryz.prog.info? 5).map (fun i=>(i.zero,i.size,i.bytes))=some (some (.int .u8 0),1,1):=by kernel_rfl
theorem qa7 {w:World} {base:Nat} {a:Option Addr} {n cap:Nat} {l:List UInt8} (h:w.ownsRow base 5 1 (.slice a n cap) n (l.map B)) (hs:n≤140737488351232):Rd w a n cap l:=by
 have hl:l.length=n:=by have:=h.1;simpa using this
 rcases h.2 with ⟨h1,h2⟩ | ⟨g,cap',cur,hv,hg,hh,hle,_,_,_⟩
 ·simp only [Value.slice.injEq] at h1
  obtain ⟨rfl,rfl,rfl⟩:=h1;exact ⟨hl,Nat.le_refl _,hs,fun _=>⟨rfl,rfl⟩,fun hp=>by omega⟩
 ·simp only [Value.slice.injEq] at hv
  obtain ⟨rfl,_,rfl⟩:=hv;refine ⟨hl,hle,hs,(fun e=>by cases e),fun hp=>⟨g,0,rfl,?_,fun i x hx=>?_⟩⟩
  ·rcases Nat.lt_or_ge g w.heap.size with h' | h'
   ·exact h'
   ·rw [Array.getElem?_eq_none h'] at hh;cases hh
  ·have hi:i < l.length:=by exact (List.getElem?_eq_some_iff.mp hx).1
   have:=h.cellAt i (by omega);rw [Nat.zero_add,this];simp [hx,B]
def fill (l:List UInt8) (j n:Nat):List Value:=(l.take j).map B++List.replicate (n - j) (.int .u8 0)
theorem qi0 (l:List UInt8) (n:Nat):fill l 0 n=List.replicate n (.int .u8 0):=by simp [fill]
theorem qiw (l:List UInt8) (n:Nat) (h:l.length=n):fill l n n=l.map B:=by
 unfold fill;rw [List.take_of_length_le (by omega)];simp
theorem qix (l:List UInt8) (j n:Nat) (h:l.length=n) (hj:j < n):(fill l j n)[j]?=some (.int .u8 0):=by
 unfold fill;rw [List.getElem?_append_right (by simp;omega),List.getElem?_replicate,if_pos (by simp;omega)]
theorem qiy (l:List UInt8) (j n:Nat) (x:UInt8) (h:l.length=n) (hx:l[j]?=some x):(fill l j n).set j (.int .u8 (x.toNat:Int))=fill l (j+1) n:=by
 have hj:j < n:=by rw [←h];exact (List.getElem?_eq_some_iff.mp hx).1
 unfold fill;rw [take_succ' _ _ _ hx,show n - j=(n - (j+1))+1 by omega,List.replicate_succ,List.set_append_right _ _ (by simp;omega)];simp [B,show min j l.length=j by omega]
theorem copy_any (a:Option Addr) (n c:Nat) (l:List UInt8) (w:World) (ha:Rd w a n c l) :
  Calls Tryz.prog 4 #[.slice a n c] w fun e w'=>e=.returned (.slice (some ⟨w.heap.size,0,none⟩) n n)∧w'.ownsRow w.heap.size 5 1 (.slice (some ⟨w.heap.size,0,none⟩) n n) n (l.map B)∧Below w.heap.size w w':=by
 obtain ⟨i0,hi,hz0,hz1,hz2⟩:=info_parts Tryz.info5;have hs1:=ha.hsmall;have hl1:=ha.hlen;go_enter Tryz.func4,Tryz.ntmps4
 go_wp2_with (at_make;refine wpList_make_full _ rfl _ _ 22 rfl w.heap.size 5 i0 (.int .u8 0) 1 Tryz.underlying22 hi hz0 hz1 .i64 .i64 _ _ n rfl rfl rfl rfl (by rw [hz2];omega) (by unfold maxLen;omega) (Nat.le_refl _) ?_);intro w1 hown hg;have hown0:w1.ownsRow w.heap.size 5 1 (.slice (some ⟨w.heap.size,0,none⟩) n n) n (List.replicate n (.int .u8 0)):=by
  rw [←toList_madeCells_one];exact hown
 have hbel:Below w.heap.size w w1:=(Below.refl _ _).grown hg (Nat.le_refl _) (fun k h=>by cases h);clear hown hg;go_wp2;go_loopw [4] (fun i wr=>∃j:Nat,j≤n∧i=.int .i64 j∧wr.ownsRow w.heap.size 5 1 (.slice (some ⟨w.heap.size,0,none⟩) n n) n (fill l j n)∧Below w.heap.size w wr) (fun i _=>n - (intOf i).toNat)
 case atStart=>exact ⟨0,by omega,rfl,by rw [qi0];exact hown0,hbel⟩
 case round=>
  obtain ⟨j,hj,rfl,ho,hb⟩:=hrel;by_cases hlt:j < n
  ·obtain ⟨b1,o1,rfl,h1,hc1⟩:=ha.hcell (by omega)
   obtain ⟨x,hx⟩:∃x,l[j]?=some x:=⟨l[j],List.getElem?_eq_getElem (by omega)⟩
   have c1:wr.cell? ⟨b1,o1+j,none⟩=some (.int .u8 (x.toNat:Int)):=(hb.cell (p:=⟨b1,o1+j,none⟩) h1).trans (hc1 j x hx);have f1:=ho.frozenAt j;have c2:wr.cell? ⟨w.heap.size,j,none⟩=some (.int .u8 0):=by
    rw [ho.cellAt j (by omega)];exact qix l j n hl1 hlt
   have R:(wr.setCell ⟨w.heap.size,j,none⟩ (.int .u8 (x.toNat:Int))).ownsRow w.heap.size 5 1 (.slice (some ⟨w.heap.size,0,none⟩) n n) n (fill l (j+1) n)∧Below w.heap.size w (wr.setCell ⟨w.heap.size,j,none⟩ (.int .u8 (x.toNat:Int))):=by
    refine ⟨?_,hb.setCell (Nat.le_refl _) _⟩;rw [←qiy l j n x hl1 hx];exact (ho.stored j _).1
   have HR:Hid (_∧_):=R;clear hc1 hx hl1 ho hb R;go_wp2;go_roundw
   case rel=>exact ⟨j+1,by omega,by go_num,HR.out.1,HR.out.2⟩
   case measure=>simp [intOf];omega
  ·have hjn:j=n:=by omega
   subst hjn;go_wp2;go_ret;refine ⟨rfl,?_,hb⟩;rw [←qiw l j hl1];exact ho
def leB : Nat→Nat→List UInt8
 | 0,_=>[]
 | n+1,v=>UInt8.ofNat (v % 256) :: leB n (v / 256)
theorem qa8 (n v:Nat):(leB n v).length=n:=by
 induction n generalizing v with
 | zero=>rfl
 | succ n ih=>simp [leB,ih]
theorem qkp (n v j:Nat) (h:j < n):(leB n v)[j]?=some (UInt8.ofNat (v / 256 ^ j % 256)):=by
 induction n generalizing v j with
 | zero=>omega
 | succ n ih=>
  cases j with
  | zero=>simp [leB]
  | succ j=>
   simp only [leB,List.getElem?_cons_succ];rw [ih _ _ (by omega),Nat.div_div_eq_div_mul,Nat.pow_succ,Nat.mul_comm]
theorem number_yes (v n:Nat) (w:World) (h1:1≤n) (h2:n≤8) (hv2:v < 18446744073709551616) (hf:v < 256 ^ n) :
  Calls Tryz.prog 162 #[.int .u64 v,.int .i64 n] w fun e w'=>e=.returned (.tuple #[.slice (some ⟨w.heap.size,0,none⟩) n n,.int .i64 0])∧w'.ownsRow w.heap.size 5 1 (.slice (some ⟨w.heap.size,0,none⟩) n n) n ((leB n v).map B)∧Below w.heap.size w w':=by
 obtain ⟨i0,hi,hz0,hz1,hz2⟩:=info_parts Tryz.info5;have hd:decide ((v:Int) < 256 ^ ((n:Int)).toNat)=true:=by
  rw [Int.toNat_natCast];exact decide_eq_true (by have:=Int.ofNat_lt.mpr hf;rwa [Int.natCast_pow] at this)
 have c:=fun w=>qoi v n w (by omega) (by omega) (by omega) (by omega)
 rw [hd] at c;have C:=(show Hid (∀w,_) from c);have HL:Hid ((leB n v).length=n):=qa8 n v;clear c hd hf;go_enter Tryz.func162,Tryz.ntmps162
 go_wp2_with (first | (go_at_call 166;refine (qft _ _ (by omega) (by omega)).mono ?_;rintro e w' ⟨rfl,rfl⟩) | (go_at_call 191;refine (C.out _).mono ?_;rintro e w' ⟨rfl,rfl⟩) | (at_make;refine wpList_make_full _ rfl _ _ 22 rfl w.heap.size 5 i0 (.int .u8 0) 1 Tryz.underlying22 hi hz0 hz1 .i64 .i64 _ _ n rfl rfl rfl rfl (by rw [hz2];omega) (by unfold maxLen;omega) (Nat.le_refl _) ?_));intro w1 hown hg;have hown0:w1.ownsRow w.heap.size 5 1 (.slice (some ⟨w.heap.size,0,none⟩) n n) n (List.replicate n (.int .u8 0)):=by
  rw [←toList_madeCells_one];exact hown
 have hbel:Below w.heap.size w w1:=(Below.refl _ _).grown hg (Nat.le_refl _) (fun k h=>by cases h);clear hown hg;go_wp2;go_loopw [0,21] (fun u i wr=>∃j:Nat,j≤n∧i=.int .i64 j∧u=.int .u64 ((v / 256 ^ j:Nat):Int)∧wr.ownsRow w.heap.size 5 1 (.slice (some ⟨w.heap.size,0,none⟩) n n) n (fill (leB n v) j n)∧Below w.heap.size w wr) (fun _ i _=>n - (intOf i).toNat)
 case atStart=>exact ⟨0,by omega,rfl,by simp,by rw [qi0];exact hown0,hbel⟩
 case round=>
  obtain ⟨j,hj,rfl,rfl,ho,hb⟩:=hrel;by_cases hlt:j < n
  ·have hx:=qkp n v j hlt
   have hu:v / 256 ^ j < 18446744073709551616:=Nat.lt_of_le_of_lt (Nat.div_le_self _ _) hv2;have HD:Hid (v / 256 ^ (j+1)=v / 256 ^ j / 256):=by
    show v / 256 ^ (j+1)=v / 256 ^ j / 256;rw [Nat.pow_succ,Nat.div_div_eq_div_mul]
   generalize v / 256 ^ j=u at *;have hxn:((UInt8.ofNat (u % 256)).toNat:Int)=(u:Int) % 256:=by simp
   have f1:=ho.frozenAt j;have c2:wr.cell? ⟨w.heap.size,j,none⟩=some (.int .u8 0):=by
    rw [ho.cellAt j (by omega)];exact qix _ j n HL.out hlt
   have R:(wr.setCell ⟨w.heap.size,j,none⟩ (.int .u8 ((u:Int) % 256))).ownsRow w.heap.size 5 1 (.slice (some ⟨w.heap.size,0,none⟩) n n) n (fill (leB n v) (j+1) n)∧Below w.heap.size w (wr.setCell ⟨w.heap.size,j,none⟩ (.int .u8 ((u:Int) % 256))):=by
    refine ⟨?_,hb.setCell (Nat.le_refl _) _⟩;rw [←qiy _ j n _ HL.out hx,hxn];exact (ho.stored j _).1
   have HR:Hid (_∧_):=R;clear hx ho hb R hxn;go_wp2;go_roundw
   case rel=>exact ⟨j+1,by omega,by go_num,by rw [HD.out];go_num,HR.out.1,HR.out.2⟩
   case measure=>simp [intOf];omega
  ·have hjn:j=n:=by omega
   subst hjn;go_wp2;go_ret2
   refine ⟨rfl,?_,hb⟩;rw [←qiw _ j HL.out];exact ho
theorem qgt {w:World} {base:Nat} {v:Value} {n:Nat} {xs:List Value} (h:w.ownsRow base 5 1 v n xs):∃a cap,v=.slice a n cap:=by
 rcases h.2 with ⟨h1,h2⟩ | ⟨g,cap',cur,hv,_⟩
 ·exact ⟨none,0,by rw [h1,h2]⟩
 ·exact ⟨_,_,hv⟩
theorem qoj (v n:Int) (h1:1≤n) (hv:0≤v):(v / 2 ^ (8 * n).toNat != 0)=!decide (v < 256 ^ n.toNat):=by
 rw [←qkn v n h1 hv];rfl
theorem qok (v j:Nat):B (UInt8.ofNat (v / 256 ^ j % 256))=.int .u8 ((v:Int) / 2 ^ (8 * j) % 256):=by
 unfold B;congr 1
 have hp:(256:Nat) ^ j=2 ^ (8 * j):=by rw [Nat.pow_mul]
 have e:(UInt8.ofNat (v / 256 ^ j % 256)).toNat=v / 256 ^ j % 256:=by simp
 rw [e,hp];simp
theorem qig (n v j:Nat) (h:j < n):(leB n v).take (j+1)=(leB n v).take j++[UInt8.ofNat (v / 256 ^ j % 256)]:=take_succ' _ _ _ (qkp n v j h)
theorem qih (v n:Nat) (w:World) (h1:1≤n) (h2:n≤8) (hv2:v < 18446744073709551616) (hf:v < 256 ^ n) :
  Calls Tryz.prog 164 #[.int .u64 v,.int .i64 n] w fun e w'=>∃a cap,e=.returned (.tuple #[.slice a n cap,.int .i64 0])∧w'.ownsRow w.heap.size 5 1 (.slice a n cap) n ((leB n v).map B)∧Below w.heap.size w w':=by
 obtain ⟨i0,hi,hz0,hz1,hz2⟩:=info_parts Tryz.info5;have hd:decide ((v:Int) < 256 ^ ((n:Int)).toNat)=true:=by
  rw [Int.toNat_natCast];exact decide_eq_true (by have:=Int.ofNat_lt.mpr hf;rwa [Int.natCast_pow] at this)
 have hs:((v:Int) / 2 ^ (8 * (n:Int)).toNat != 0)=false:=by rw [qoj _ _ (by omega) (by omega),hd];rfl
 have hs':((v:Int) / 2 ^ (8 * n) != 0)=false:=by
  rw [show (8 * (n:Int)).toNat=8 * n by omega] at hs;exact hs
 have HL:Hid ((leB n v).length=n):=qa8 n v;clear hd hf;by_cases h8:n < 8
 all_goals
  go_enter Tryz.func164,Tryz.ntmps164
  go_wp2;go_loopw [6,7] (fun u i wr=>∃j:Nat,j≤n∧i=.int .i64 j∧wr.ownsRow w.heap.size 5 1 u j (((leB n v).take j).map B)∧Below w.heap.size w wr) (fun _ i _=>n - (intOf i).toNat)
  case atStart=>exact ⟨0,by omega,rfl,World.ownsRow_nil _ _ _ _,Below.refl _ _⟩
  case round=>
   obtain ⟨j,hj,rfl,ho,hb⟩:=hrel;obtain ⟨aj,cj,rfl⟩:=qgt ho;by_cases hlt:j < n
   ·have HT:Hid (_=_):=qig n v j hlt
    have hsz:=hb.size;have HB:Hid (_=_):=qok v j;go_wp2_with (at_builtin;refine wpList_append_own _ rfl (.tmp 31) (.tmp 38) 22 rfl w.heap.size 5 i0 (.int .u8 0) 1 1 Tryz.underlying22 hi hz0 hz1 hz2 rfl (by decide) _ _ _ rfl (ho.alloc _) ⟨wr.heap.size,0,none⟩ 1 1 [.int .u8 ((v:Int) / 2 ^ (8 * j) % 256)] rfl rfl (cell_one_new _ _ _) (by intro u hu;simp at hu;subst hu;rfl) (by unfold maxLen;omega) (by omega) (by simp;omega) ?_);intro v2 w2 ho2 hg2 _;have hb2:Below w.heap.size w w2:=(hb.alloc hsz _).grown hg2 (by simp;omega) (fun k e=>(ho.lt k e).1);rw [←HB.out,show [B (UInt8.ofNat (v / 256 ^ j % 256))]=[UInt8.ofNat (v / 256 ^ j % 256)].map B from rfl,←List.map_take,←List.map_append,←HT.out] at ho2;clear hg2 ho;go_wp2;go_roundw
    case rel=>exact ⟨j+1,by omega,by go_num,ho2,hb2⟩
    case measure=>simp [intOf];omega
   ·have hjn:j=n:=by omega
    subst hjn;rw [List.take_of_length_le (by rw [HL.out];omega)] at ho;go_wp2;go_ret2
    exact ⟨_,_,rfl,ho,hb⟩
theorem low_any (v n:Nat) (w:World) (h1:1≤n) (h2:n≤8) (hv2:v < 18446744073709551616) (hf:v < 256 ^ n) :
  Calls Tryz.prog 97 #[.int .u64 v,.int .i64 n] w fun e w'=>∃a cap,e=.returned (.slice a n cap)∧w'.ownsRow w.heap.size 5 1 (.slice a n cap) n ((leB n v).map B)∧Below w.heap.size w w':=by
 have hN:=qih v n w h1 h2 hv2 hf;go_enter Tryz.func97,Tryz.ntmps97
 go_wp2_with (first | (go_at_call 164;refine hN.mono ?_;clear hN;rintro e w2 ⟨a,cap,rfl,ho,hb⟩;have HO:Hid (w2.ownsRow w.heap.size 5 1 (.slice a n cap) n ((leB n v).map B)∧Below w.heap.size w w2):=⟨ho,hb⟩;clear ho hb));go_ret;exact ⟨_,_,rfl,HO.out⟩
theorem qq4 (r:Nat) (h:r < 65536):r &&& 32768=r / 32768 * 32768:=by
 apply Nat.eq_of_testBit_eq;intro i;rw [show (32768:Nat)=2 ^ 15 from rfl,Nat.testBit_and];by_cases hi:i=15
 ·subst hi
  rw [Nat.testBit_two_pow_self,Bool.and_true,Nat.testBit_eq_decide_div_mod_eq,Nat.testBit_eq_decide_div_mod_eq,Nat.mul_div_cancel _ (by decide)]
 ·rw [Nat.testBit_two_pow_of_ne (Ne.symm hi),Bool.and_false]
  have h2:r / 2 ^ 15=0∨r / 2 ^ 15=1:=by rw [show (2:Nat) ^ 15=32768 from rfl];omega
  rcases h2 with h2 | h2 <;> rw [h2]
  ·simp
  ·rw [Nat.one_mul,Nat.testBit_two_pow_of_ne (Ne.symm hi)]
theorem qkq (r:Nat) (h:r < 65536):(bits .and .u16 (r:Int) 32768 != 0)=decide (r / 32768=1):=by
 rw [show (32768:Int)=((32768:Nat):Int) from rfl,u16_and_nat _ _ h (by decide)];have e:=qq4 r h;rw [e,Bool.eq_iff_iff,bne_iff_ne,decide_eq_true_eq];omega
theorem qq5 (r:Nat) (h:r < 65536) (hy:(bits .and .u16 (r:Int) 32768 != 0)=true):bits .xor .u16 (IntKind.u16.wrap ((r:Int) * 2)) 4129=(stp r:Nat):=by
 rw [qkq r h,decide_eq_true_eq] at hy;rw [IntKind.wrap_u16];exact qko r h (by rw [beq_iff_eq];omega)
theorem qrd (r:Nat) (h:r < 65536) (hy:(bits .and .u16 (r:Int) 32768 != 0)=false):IntKind.u16.wrap ((r:Int) * 2)=(stp r:Nat):=by
 rw [qkq r h,decide_eq_false_iff_not] at hy;rw [IntKind.wrap_u16];exact qiv r h (by rw [beq_eq_false_iff_ne];omega)
theorem refcrc_any (a:Option Addr) (n c x:Nat) (l:List UInt8) (w:World) (ha:Rd w a n c l) (hx:crc 65535 l=x) :
  Calls Tryz.prog 19 #[.slice a n c] w fun e w'=>e=.returned (.int .u16 (x:Nat))∧w=w':=by
 subst hx;have hs1:=ha.hsmall;have hl1:=ha.hlen;go_enter Tryz.func19,Tryz.ntmps19
 go_wp2;go_loop [3,4] (fun r i=>∃j:Nat,j≤n∧i=.int .i64 j∧r=.int .u16 ((crc 65535 (l.take j):Nat):Int)) (fun _ i=>n - (intOf i).toNat)
 case atStart=>exact ⟨0,by omega,rfl,rfl⟩
 case round=>
  obtain ⟨j,hj,rfl,rfl⟩:=hrel;have hr:=crc_lt 65535 (l.take j) (by decide);by_cases hlt:j < n
  ·obtain ⟨b,off,rfl,_,hc⟩:=ha.hcell (by omega)
   obtain ⟨x,hx⟩:∃x,l[j]?=some x:=⟨l[j],List.getElem?_eq_getElem (by omega)⟩
   have hcx:=hc j x hx;have hx8:=x.toNat_lt;have HN:Hid (crc 65535 (l.take (j+1))=stps 8 (crc 65535 (l.take j) ^^^ (x.toNat * 256))):=by
    show crc 65535 (l.take (j+1))=stps 8 (crc 65535 (l.take j) ^^^ (x.toNat * 256));rw [take_succ' _ _ _ hx,qiu];rfl
   clear hc hx hl1;generalize crc 65535 (l.take j)=r at *;have HX:Hid (bits .xor .u16 (r:Int) ((x.toNat:Int) * 256)=((r ^^^ (x.toNat * 256):Nat):Int)):=by
    show bits .xor .u16 (r:Int) ((x.toNat:Int) * 256)=((r ^^^ (x.toNat * 256):Nat):Int);rw [show (x.toNat:Int) * 256=((x.toNat * 256:Nat):Int) by omega];exact u16_xor_nat _ _ hr (by omega)
   have hx0:r ^^^ (x.toNat * 256) < 65536:=qgg _ _ hr (by omega);go_wp2;rw [HX.out];generalize r ^^^ (x.toNat * 256)=s0 at *;go_loop [3,5] (fun r i=>∃t:Nat,t≤8∧i=.int .i64 t∧r=.int .u16 ((stps t s0:Nat):Int)) (fun _ i=>8 - (intOf i).toNat)
   case atStart=>exact ⟨0,by omega,rfl,rfl⟩
   case round=>
    obtain ⟨t,ht,rfl,rfl⟩:=hrel;have hr2:=qkl t s0 hx0;by_cases hlt2:t < 8
    ·have HN2:Hid (stps (t+1) s0=stp (stps t s0)):=rfl
     generalize stps t s0=s at *;cases hy:(bits .and .u16 (s:Int) 32768 != 0) with
     | true=>
      have HY:Hid (_=_):=qq5 s hr2 hy;go_wp2;go_round
      case rel=>exact ⟨t+1,by omega,by go_num,by rw [HN2.out,←HY.out]⟩
      case measure=>simp [intOf];omega
     | false=>
      have HY:Hid (_=_):=qrd s hr2 hy;go_wp2;go_round
      case rel=>exact ⟨t+1,by omega,by go_num,by rw [HN2.out,←HY.out]⟩
      case measure=>simp [intOf];omega
    ·have htn:t=8:=by omega
     subst htn;go_wp2;go_round
     case rel=>exact ⟨j+1,by omega,by go_num,by rw [HN.out]⟩
     case measure=>simp [intOf];omega
  ·have hjn:j=n:=by omega
   subst hjn;go_wp2;go_ret;exact ⟨qkm (by rw [List.take_of_length_le (by omega)]),rfl⟩
structure IsR (w:World) (base r:Nat) (a:Option Addr) (n cap:Nat) (l:List UInt8):Prop where
 hheap:w.heap[r]?=some (.cells #[.bool true,.slice a n cap] 161 (0,0))
 hbase:base≤r
 hrd:Rd w a n cap l
 hlt:∀b off,a=some ⟨b,off,none⟩→0 < n→b < r
theorem IsR.c0 {w:World} {base r:Nat} {a:Option Addr} {n cap:Nat} {l:List UInt8} (h:IsR w base r a n cap l):w.cell? ⟨r,0,none⟩=some (.bool true):=by
 rw [cell_of_row w r 0 _ 161 (0,0) h.hheap];rfl
theorem IsR.c1 {w:World} {base r:Nat} {a:Option Addr} {n cap:Nat} {l:List UInt8} (h:IsR w base r a n cap l):w.cell? ⟨r,1,none⟩=some (.slice a n cap):=by
 rw [cell_of_row w r 1 _ 161 (0,0) h.hheap];rfl
theorem IsR.f1 {w:World} {base r:Nat} {a:Option Addr} {n cap:Nat} {l:List UInt8} (h:IsR w base r a n cap l):w.frozen? ⟨r,1,none⟩=false:=
 frozen_of_row w r 1 _ 161 h.hheap
theorem IsR.rlt {w:World} {base r:Nat} {a:Option Addr} {n cap:Nat} {l:List UInt8} (h:IsR w base r a n cap l):r < w.heap.size:=by
 rcases Nat.lt_or_ge r w.heap.size with h' | h'
 ·exact h'
 ·have:=h.hheap;rw [Array.getElem?_eq_none h'] at this;cases this
theorem IsR.below {w w':World} {base r:Nat} {a:Option Addr} {n cap:Nat} {l:List UInt8} (h:IsR w base r a n cap l) (hb:Below w.heap.size w w'):IsR w' base r a n cap l:=
 ⟨(hb.block r h.rlt).trans h.hheap,h.hbase,h.hrd.below hb,h.hlt⟩
theorem qf6 {w w1:World} {v:Value} {n:Nat} {l:List UInt8} (ho:w1.ownsRow w.heap.size 5 1 v n (l.map B)) (hb:Below w.heap.size w w1) (hs:n≤140737488351232) :
  ∃a cap,v=.slice a n cap∧IsR (w1.alloc (.cells #[.bool true,v] 161)) w.heap.size w1.heap.size a n cap l∧Below w.heap.size w (w1.alloc (.cells #[.bool true,v] 161)):=by
 obtain ⟨a,cap,rfl⟩:=qgt ho;have hrd:=qa7 ho hs;have hba:Below w1.heap.size w1 (w1.alloc (.cells #[.bool true,.slice a n cap] 161)):=(Below.refl _ _).alloc (Nat.le_refl _) _;refine ⟨a,cap,rfl,⟨heap_alloc_new w1 _,hb.size,hrd.below hba,fun b off e hp=>?_⟩,hb.alloc hb.size _⟩;obtain ⟨b',off',e',hlt',_⟩:=hrd.hcell hp;rw [e] at e';simp only [Option.some.injEq,Addr.mk.injEq] at e';omega
theorem Rd.news {w:World} {ad:Addr} {n c:Nat} {l:List UInt8} (ha:Rd w (some ad) n c l):∀j u,(l.map B)[j]?=some u→w.cell? (ad.add j)=some u:=by
 intro j u hj;rw [List.getElem?_map] at hj;cases hx:l[j]? with
 | none=>rw [hx] at hj;cases hj
 | some x=>
  rw [hx] at hj;have hj':B x=u:=by simpa using hj
  subst hj';have hlt:=(List.getElem?_eq_some_iff.mp hx).1;have hl:=ha.hlen;obtain ⟨b,off,e,_,hc⟩:=ha.hcell (by omega);simp only [Option.some.injEq] at e;subst e;have:=hc j x hx;by_cases h0:j=0
  ·subst h0;simpa [Addr.add,B] using this
  ·simpa [Addr.add,B,h0] using this
theorem one_cells (l:List UInt8):∀u∈l.map B,u.oneCell'=true:=by
 intro u hu;simp only [List.mem_map] at hu;obtain ⟨x,_,rfl⟩:=hu;rfl
theorem newReader_any (a:Option Addr) (n c:Nat) (l:List UInt8) (w:World) (ha:Rd w a n c l) :
  Calls Tryz.prog 34 #[.slice a n c] w fun e w'=>∃r a' cap',e=.returned (.pointer (some ⟨r,0,none⟩))∧IsR w' w.heap.size r a' n cap' l∧Below w.heap.size w w':=by
 obtain ⟨i0,hi,hz0,hz1,hz2⟩:=info_parts Tryz.info5;have hs1:=ha.hsmall;have hl1:=ha.hlen;cases a with
 | none=>
  obtain ⟨rfl,rfl⟩:=ha.hnil rfl;have hl0:l=[]:=List.eq_nil_of_length_eq_zero hl1;subst hl0;go_enter Tryz.func34,Tryz.ntmps34
  go_wp2_with (at_builtin;refine wpList_append_own_none rfl _ (.tmp 3) 22 rfl w.heap.size 5 i0 1 Tryz.underlying22 hi _ _ _ rfl (World.ownsRow_nil _ _ _ _) rfl ?_);go_ret;obtain ⟨a,cap,e,h1,h2⟩:=qf6 (w:=w) (w1:=w) (v:=.slice none 0 0) (n:=0) (l:=[]) (World.ownsRow_nil _ _ _ _) (Below.refl _ _) (by omega);exact ⟨_,a,cap,rfl,h1,h2⟩
 | some ad=>
  go_enter Tryz.func34,Tryz.ntmps34
  go_wp2_with (at_builtin;refine wpList_append_own _ rfl _ (.tmp 3) 22 rfl w.heap.size 5 i0 (.int .u8 0) 1 1 Tryz.underlying22 hi hz0 hz1 hz2 rfl (by decide) _ _ _ rfl (World.ownsRow_nil _ _ _ _) ad n c (l.map B) rfl ?c0 ?c1 ?c2 ?c3 ?c4 ?c5 ?_)
  case c0=>simp [hl1]
  case c1=>exact ha.news
  case c2=>exact one_cells l
  case c3=>unfold maxLen;omega
  case c4=>omega
  case c5=>exact Nat.le_refl _
  intro v2 w2 hown2 hg2 _;have hb2:Below w.heap.size w w2:=(Below.refl _ _).grown hg2 (Nat.le_refl _) (fun k h=>by cases h);obtain ⟨a,cap,rfl,h1,h2⟩:=qf6 hown2 hb2 hs1;clear hown2 hg2 hb2;go_wp2;go_ret;exact ⟨_,a,cap,rfl,h1,h2⟩
def leV : List UInt8→Nat
 | []=>0
 | x :: l=>x.toNat+256 * leV l
theorem qol (l:List UInt8) (x:UInt8):leV (l++[x])=leV l+x.toNat * 256 ^ l.length:=by
 induction l with
 | nil=>simp [leV]
 | cons a l ih=>
  simp only [List.cons_append,leV,ih,List.length_cons,Nat.pow_succ];rw [Nat.mul_add,Nat.mul_comm (256 ^ l.length) 256,←Nat.mul_assoc,←Nat.mul_assoc,Nat.mul_comm 256 x.toNat];exact (Nat.add_assoc _ _ _).symm
theorem qag (l:List UInt8):leV l < 256 ^ l.length:=by
 induction l with
 | nil=>simp [leV]
 | cons a l ih=>
  simp only [leV,List.length_cons,Nat.pow_succ];have:=a.toNat_lt;omega
theorem rleft_made {w:World} {base r:Nat} {a:Option Addr} {n cap:Nat} {l:List UInt8} (h:IsR w base r a n cap l):Calls Tryz.prog 51 #[.pointer (some ⟨r,0,none⟩)] w fun e w'=>e=.returned (.int .i64 n)∧w=w':=by
 have c0:=h.c0;have c1:=h.c1;go_enter Tryz.func51,Tryz.ntmps51
 go_wp2_with (go_at_call 116;refine (qgh _ _ true _ c0).mono ?_;rintro e w' ⟨rfl,rfl⟩);go_ret;exact ⟨rfl,rfl⟩
theorem rnumber_short {w:World} {base r:Nat} {a:Option Addr} {n cap:Nat} {l:List UInt8} (h:IsR w base r a n cap l) (m:Int) (h1:1≤m) (h2:m≤8) (hm:n < m):Calls Tryz.prog 108 #[.pointer (some ⟨r,0,none⟩),.int .i64 m] w fun e w'=>e=.returned (.tuple #[.int .u64 0,.int .i64 10])∧w=w':=by
 have c0:=h.c0;have c1:=h.c1;go_enter Tryz.func108,Tryz.ntmps108
 go_wp2_with (first | (go_at_call 116;refine (qgh _ _ true _ c0).mono ?_;rintro e w' ⟨rfl,rfl⟩) | (go_at_call 166;refine (qft _ _ h1 h2).mono ?_;rintro e w' ⟨rfl,rfl⟩));go_ret2
 exact ⟨rfl,rfl⟩
def Rdr (w:World) (base r:Nat) (l:List UInt8):Prop:=∃a cap,IsR w base r a l.length cap l
theorem IsR.rdr {w:World} {base r:Nat} {a:Option Addr} {n cap:Nat} {l:List UInt8} (h:IsR w base r a n cap l):Rdr w base r l:=⟨a,cap,by rw [h.hrd.hlen];exact h⟩
theorem qi1 {w:World} {base r:Nat} {a:Option Addr} {n cap:Nat} {l:List UInt8} (h:IsR w base r a n cap l) (a':Option Addr) (n' cap':Nat) (l':List UInt8)
  (hr:Rd w a' n' cap' l') (hlt:∀b off,a'=some ⟨b,off,none⟩→0 < n'→b < r) :
  IsR (w.setCell ⟨r,1,none⟩ (.slice a' n' cap')) base r a' n' cap' l'∧w.grownBy (w.setCell ⟨r,1,none⟩ (.slice a' n' cap')) (some r):=by
 refine ⟨⟨heap_setCell_same w r 1 _ 161 _ h.hheap,h.hbase,⟨hr.hlen,hr.hle,hr.hsmall,hr.hnil,fun hp=>?_⟩,hlt⟩,rfl,rfl,rfl,by simp,fun k _ hk=>heap_setCell_other w ⟨r,1,none⟩ k _ (fun e=>hk (by simp [e]))⟩;obtain ⟨b,off,e,hb,hc⟩:=hr.hcell hp;have hbr:=hlt b off e hp;refine ⟨b,off,e,by simpa using hb,fun i x hx=>?_⟩;rw [World.cell?_of_block (w:=w) (heap_setCell_other w ⟨r,1,none⟩ b _ (by simp;omega))];exact hc i x hx
theorem rd_drop {w:World} {b o n cap:Nat} {l:List UInt8} (h:Rd w (some ⟨b,o,none⟩) n cap l) (m:Nat) (hm:m≤n):(cap=m→Rd w (some ⟨b,o,none⟩) (n - m) 0 (l.drop m))∧(¬cap=m→Rd w (some ⟨b,o+m,none⟩) (n - m) (cap - m) (l.drop m)):=by
 have hl:=h.hlen;have hle:=h.hle;have hs:=h.hsmall;refine ⟨fun e=>⟨by simp;omega,by omega,by omega,(fun e=>by cases e),fun hp=>by omega⟩,fun e=>⟨by simp;omega,by omega,by omega,(fun e=>by cases e),fun hp=>?_⟩⟩;obtain ⟨b',o',e',hb,hc⟩:=h.hcell (by omega);simp only [Option.some.injEq,Addr.mk.injEq,and_true] at e';obtain ⟨rfl,rfl⟩:=e';refine ⟨b,o+m,rfl,hb,fun i x hx=>?_⟩;rw [List.getElem?_drop] at hx;rw [Nat.add_assoc];exact hc _ x hx
theorem qq6 (v x j:Nat) (hv:v < 256 ^ j) (hx:x < 256) (hj:j < 8):bits .or .u64 (v:Int) (IntKind.u64.wrap ((x:Int) * 2 ^ (8 * j)))=((v+x * 256 ^ j:Nat):Int):=by
 have hp:(256:Nat) ^ j=2 ^ (8 * j):=by rw [Nat.pow_mul]
 have hp8:(256:Nat) ^ j≤256 ^ 7:=Nat.pow_le_pow_right (by decide) (by omega);have hxb:x * 256 ^ j≤255 * 256 ^ 7:=Nat.mul_le_mul (by omega) hp8;have e1:((x:Int) * 2 ^ (8 * j))=((x * 256 ^ j:Nat):Int):=by rw [hp];simp
 rw [e1,IntKind.wrap_u64];have e2:((x * 256 ^ j:Nat):Int) % 18446744073709551616=((x * 256 ^ j:Nat):Int):=by omega
 rw [e2,bits_or_u64_nat _ _ (by omega) (by omega)];rw [hp] at hv ⊢;rw [Nat.or_comm,Nat.mul_comm x,←Nat.two_pow_add_eq_or_of_lt hv x,Nat.add_comm]
theorem rnumber_made {w:World} {base r:Nat} {a:Option Addr} {n cap:Nat} {l:List UInt8} (h:IsR w base r a n cap l) (m:Nat) (h1:1≤m) (h2:m≤8) (hm:m≤n):Calls Tryz.prog 108 #[.pointer (some ⟨r,0,none⟩),.int .i64 m] w fun e w'=>e=.returned (.tuple #[.int .u64 (leV (l.take m):Nat),.int .i64 0])∧Rdr w' base r (l.drop m)∧w.grownBy w' (some r):=by
 have c0:=h.c0;have c1:=h.c1;have f1:=h.f1;have hs1:=h.hrd.hsmall;have hl1:=h.hrd.hlen;have hle:=h.hrd.hle;have hnm:¬(n:Int) < m:=by omega
 obtain ⟨b1,o1,rfl,hb1,hc1⟩:=h.hrd.hcell (by omega);have HC:Hid (∀i x,l[i]?=some x→w.cell? ⟨b1,o1+i,none⟩=some (.int .u8 (x.toNat:Int))):=hc1;clear hc1;have hbr:=h.hlt b1 o1 rfl (by omega);go_enter Tryz.func108,Tryz.ntmps108
 go_wp2_with (first | (go_at_call 116;refine (qgh _ _ true _ c0).mono ?_;rintro e w' ⟨rfl,rfl⟩) | (go_at_call 166;refine (qft _ _ (by omega) (by omega)).mono ?_;rintro e w' ⟨rfl,rfl⟩));go_loop [6,21] (fun v i=>∃j:Nat,j≤m∧i=.int .i64 j∧v=.int .u64 ((leV (l.take j):Nat):Int)) (fun _ i=>m - (intOf i).toNat)
 case atStart=>exact ⟨0,by omega,rfl,rfl⟩
 case round=>
  obtain ⟨j,hj,rfl,rfl⟩:=hrel;by_cases hlt:j < m
  ·obtain ⟨x,hx⟩:∃x,l[j]?=some x:=⟨l[j],List.getElem?_eq_getElem (by omega)⟩
   have hcx:=HC.out j x hx;have hx8:=x.toNat_lt;have hvl:leV (l.take j) < 256 ^ j:=by have:=qag (l.take j);rwa [List.length_take,Nat.min_eq_left (by omega)] at this
   have HN:Hid (leV (l.take (j+1))=leV (l.take j)+x.toNat * 256 ^ j):=by
    show leV (l.take (j+1))=leV (l.take j)+x.toNat * 256 ^ j;rw [take_succ' _ _ _ hx,qol,List.length_take,Nat.min_eq_left (by omega)]
   have HO:Hid (_=_):=qq6 _ x.toNat j hvl (by omega) (by omega);clear hx hvl;go_wp2;go_round
   case rel=>exact ⟨j+1,by omega,by go_num,by rw [HN.out,←HO.out]⟩
   case measure=>simp [intOf];omega
  ·have hjm:j=m:=by omega
   subst hjm;have HE:=(show Hid (_∧_) from rd_drop h.hrd j hm);by_cases hcm:cap=j
   ·have R:=qi1 h _ _ _ _ (HE.out.1 hcm) (fun b off e hp=>by omega)
    have HR:=(show Hid (_∧_) from R);clear R;go_wp2;go_ret2
    exact ⟨rfl,HR.out.1.rdr,HR.out.2⟩
   ·have R:=qi1 h _ _ _ _ (HE.out.2 hcm) (fun b off e hp=>by simp only [Option.some.injEq,Addr.mk.injEq] at e;omega)
    have HR:=(show Hid (_∧_) from R);clear R;go_wp2;go_ret2
    exact ⟨rfl,HR.out.1.rdr,HR.out.2⟩
end Go.Proofs.YtijgopkhdjaolabGreat.Ob
