import Derived.Test.YtijgopkhdjaolabGreatXHv2Tk
import Derived.Test.YtijgopkhdjaolabGreatXHv4
import Derived.Deep.RegionHeldLaw
import Derived.Deep.DrawnRows
import Derived.Deep.Cut
import Derived.Test.YtijgopkhdjaolabGreatXHv1
import Derived.Test.YtijgopkhdjaolabGreatXI6
set_option linter.unusedSimpArgs false
set_option linter.unusedVariables false
set_option maxRecDepth 100000
namespace Go.Proofs.YtijgopkhdjaolabGreat
open Go.RowKit Go.Shelf Go.Sort
open Go.Proofs.YtijgopkhdjaolabGreat.Ob (leB leV qa8 qag crc Rd RdAll qa7)
set_option maxHeartbeats 40000000
theorem qev {W:World} {b i:Nat} {v:Value} (h:W.cell? ⟨b,i,none⟩=some v):b < W.heap.size:=by
 apply Classical.byContradiction;intro hn;have:W.heap[b]?=none:=Array.getElem?_eq_none (by omega);simp [World.cell?,this] at h
theorem ps_k (tb:Tb):∀k,k < 7→∃(b:List UInt8) (m:Nat),(sevP tb)[k]?=some b∧(lenL tb)[k]?=some (m:Int)∧(psOf tb)[k+1]?=some (((k+2:Nat):Int),m,b)
 | 0,_=>⟨_,_,rfl,rfl,rfl⟩
 | 1,_=>⟨_,_,rfl,rfl,rfl⟩
 | 2,_=>⟨_,_,rfl,rfl,rfl⟩
 | 3,_=>⟨_,_,rfl,rfl,rfl⟩
 | 4,_=>⟨_,_,rfl,rfl,rfl⟩
 | 5,_=>⟨_,_,rfl,rfl,rfl⟩
 | 6,_=>⟨_,_,rfl,rfl,rfl⟩
 | k+7,h=>absurd h (by omega)
theorem qkj {w:World} {a:Option Addr} {n c:Nat} {bs:List UInt8} {tb:Tb} (h:Rd w a n c bs) (hd:dec bs=.ok tb):Calls Tryz.prog 11 #[.slice a n c] w fun e w'=>∃u,e=.returned (.tuple #[u,I 0])∧w'.ownsRow w.heap.size 48 4 u 9 (prC 0 (psOf tb))∧qB w w':=by
 obtain ⟨i0,hi0,hz0,hz1,hz2⟩:=info_parts qo0;have hD:=qf5 h;rw [hd] at hD;obtain ⟨rfl,hok,hc⟩:=qml hd;have hwf:=qm8 hok;have hbody:=(qfz hc hwf).2;have HPa:Hid (∀W v,TbAt W tb v→Calls Tryz.prog 27 #[.agg (tbC tb v)] W fun e w'=>∃B,e=.returned (.slice (some ⟨B,0,none⟩) 7 7)∧RdAll w' (some ⟨B,0,none⟩) 7 7 (sevP tb)∧qB W w'):=fun W v hT=>qmh W tb v hT hok hbody
 have HRo:Hid (∀W v,TbAt W tb v→Calls Tryz.prog 25 #[.agg (tbC tb v)] W fun e w'=>e=.returned (.slice (some ⟨W.heap.size+1,0,none⟩) 7 7)∧w'.ownsRow W.heap.size 3 1 (.slice (some ⟨W.heap.size+1,0,none⟩) 7 7) 7 ((lenL tb).map I)∧qB W w'):=fun W v hT=>qog W tb v hT
 have HK:Hid _:=ps_k tb;have HL:Hid ((flP (psOf tb)).length≤1000000):=by show _≤_;rw [qfn,qg8];omega
 have hi9:(Tryz.prog.info? 32).map (·.size)=some (qV:Array Value).size:=by kernel_rfl
 unfold DP at hD;clear h hd hc hok hwf hbody;go_enter Tryz.func11,Tryz.ntmps11
 go_upto_region 2 with (first
  | (go_at_call 6;refine hD.mono ?_;clear hD;rintro e w2 ⟨v,lo,hlo,rfl,hO,b2⟩;unfold tbC)
  | (refine wpList_store_row rfl 32 _ _ rfl _ _ rfl rfl 32 _ (heap_alloc_new _ _) hi9 rfl (by simp [Value.oneCell']) ?_))
 have hv3:=setRow_heap _ _ _ (qC tb v) _ _ (heap_alloc_new w2 (.cells qV 32));have hb3:=qbe (cs:=(qC tb v)) (qa0 w2 (.cells qV 32));have hT3:=(hO.below hb3);have hB3:=belT b2 hb3;clear hO b2 hlo hb3;change Code.wp _ _ _ _ ((w2.alloc (.cells qV 32)).setRow w2.heap.size (qC tb v));generalize (w2.alloc (.cells qV 32)).setRow w2.heap.size (qC tb v)=w3 at *;generalize w2.heap.size=X at *;have hv4:=heap_alloc_new w3 (.cells #[I 1,I 0,I 28,I 1] 48);have hb4:=qa0 w3 (.cells #[I 1,I 0,I 28,I 1] 48);have hown:=World.ownsRow_lit (base:=w.heap.size) (e:=48) (size:=4) w3 #[I 1,I 0,I 28,I 1] 1 hB3.size (by unfold maxLen;omega) rfl;have hX4:=(hb4.block _ (qa6 hv3)).trans hv3;have hT4:=hT3.below hb4;have hB4:=belT hB3 hb4;clear hv4 hb4 hv3 hT3 hB3;go_upto_region 6 with fail;generalize w3.alloc (.cells #[I 1,I 0,I 28,I 1] 48)=w4 at *;generalize w3.heap.size=G at *;have c0:w4.cell? ⟨X,0,none⟩=some (I tb.uses):=by rw [qcr hX4];rfl
 have c1:w4.cell? ⟨X,1,none⟩=some (I tb.modes):=by rw [qcr hX4];rfl
 have c2:w4.cell? ⟨X,2,none⟩=some (.slice v.t.a v.t.n v.t.c):=by rw [qcr hX4];rfl
 have c3:w4.cell? ⟨X,3,none⟩=some (.slice v.g.a v.g.n v.g.c):=by rw [qcr hX4];rfl
 have c4:w4.cell? ⟨X,4,none⟩=some (.slice v.r.a v.r.n v.r.c):=by rw [qcr hX4];rfl
 have c5:w4.cell? ⟨X,5,none⟩=some (.slice v.k.a v.k.n v.k.c):=by rw [qcr hX4];rfl
 have c6:w4.cell? ⟨X,6,none⟩=some (.slice v.a.a v.a.n v.a.c):=by rw [qcr hX4];rfl
 have c7:w4.cell? ⟨X,7,none⟩=some (.slice v.i.a v.i.n v.i.c):=by rw [qcr hX4];rfl
 have c8:w4.cell? ⟨X,8,none⟩=some (.slice v.s.a v.s.n v.s.c):=by rw [qcr hX4];rfl
 have c9:w4.cell? ⟨X,9,none⟩=some (I tb.depth):=by rw [qcr hX4];rfl
 have c10:w4.cell? ⟨X,10,none⟩=some (I tb.frames):=by rw [qcr hX4];rfl
 have c11:w4.cell? ⟨X,11,none⟩=some (I tb.errors):=by rw [qcr hX4];rfl
 have c12:w4.cell? ⟨X,12,none⟩=some (I tb.calls):=by rw [qcr hX4];rfl
 have hP:=HPa.out w4 v hT4.at;unfold tbC at hP;go_upto_region 7 with (first | (go_at_call 27;refine hP.mono ?_;clear hP;rintro e w5 ⟨B,rfl,hRA,b5⟩));clear c0 c1 c2 c3 c4 c5 c6 c7 c8 c9 c10 c11 c12;have hX5:=(b5.block _ (qa6 hX4)).trans hX4;have hT5:=hT4.below b5;have c0:w5.cell? ⟨X,0,none⟩=some (I tb.uses):=by rw [qcr hX5];rfl
 have c1:w5.cell? ⟨X,1,none⟩=some (I tb.modes):=by rw [qcr hX5];rfl
 have c2:w5.cell? ⟨X,2,none⟩=some (.slice v.t.a v.t.n v.t.c):=by rw [qcr hX5];rfl
 have c3:w5.cell? ⟨X,3,none⟩=some (.slice v.g.a v.g.n v.g.c):=by rw [qcr hX5];rfl
 have c4:w5.cell? ⟨X,4,none⟩=some (.slice v.r.a v.r.n v.r.c):=by rw [qcr hX5];rfl
 have c5:w5.cell? ⟨X,5,none⟩=some (.slice v.k.a v.k.n v.k.c):=by rw [qcr hX5];rfl
 have c6:w5.cell? ⟨X,6,none⟩=some (.slice v.a.a v.a.n v.a.c):=by rw [qcr hX5];rfl
 have c7:w5.cell? ⟨X,7,none⟩=some (.slice v.i.a v.i.n v.i.c):=by rw [qcr hX5];rfl
 have c8:w5.cell? ⟨X,8,none⟩=some (.slice v.s.a v.s.n v.s.c):=by rw [qcr hX5];rfl
 have c9:w5.cell? ⟨X,9,none⟩=some (I tb.depth):=by rw [qcr hX5];rfl
 have c10:w5.cell? ⟨X,10,none⟩=some (I tb.frames):=by rw [qcr hX5];rfl
 have c11:w5.cell? ⟨X,11,none⟩=some (I tb.errors):=by rw [qcr hX5];rfl
 have c12:w5.cell? ⟨X,12,none⟩=some (I tb.calls):=by rw [qcr hX5];rfl
 have hR:=HRo.out w5 v hT5.at;unfold tbC at hR;go_upto_region 8 with (first | (go_at_call 25;refine hR.mono ?_;clear hR;rintro e w6 ⟨rfl,oR,b6⟩));clear c0 c1 c2 c3 c4 c5 c6 c7 c8 c9 c10 c11 c12;have hO6:=qad (qad hown b5) b6;have hB6:=belT (belT hB4 b5) b6;obtain ⟨B',o',e',hcB⟩:=hRA.hcell (by omega);cases e';have hS6:∀j b,(sevP tb)[j]?=some b→∃la lc,w6.cell? ⟨B,j,none⟩=some (.slice la b.length lc):=fun j b q=>by
  obtain ⟨a',n',c',q1,q2⟩:=hcB j b q;rw [Nat.zero_add] at q1;have:=q2.hlen;subst this;exact ⟨a',c',by rw [qa5 b6 _ _ (qev q1)];exact q1⟩
 clear hRA hcB hown hB4 b5 b6 hT4 hT5 hX4 hX5;generalize w5.heap.size+1=R at *;generalize w5.heap.size=z5 at *;have H6:Hid (w6.ownsRow w.heap.size 48 4 (.slice (some ⟨G,0,none⟩) 1 1) 1 [I 1,I 0,I 28,I 1]∧qB w w6∧(∀j b,(sevP tb)[j]?=some b→∃la lc,w6.cell? ⟨B,j,none⟩=some (.slice la b.length lc))∧w6.ownsRow z5 3 1 (.slice (some ⟨R,0,none⟩) 7 7) 7 ((lenL tb).map I)):=⟨hO6,hB6,hS6,oR⟩;clear hO6 hB6 hS6 oR HPa HRo;go_wp2;go_loopw [6,7,10] (fun v6 v7 v10 wr=>∃(k:Nat) (va:Option Addr) (vc:Nat),k≤7∧v10=I k∧v6=.slice va (k+1) vc∧Hid (v7=I ((flP ((psOf tb).take (k+1))).length:Nat))∧Hid (wr.ownsRow w.heap.size 48 4 (.slice va (k+1) vc) (k+1) (prC 0 ((psOf tb).take (k+1)))∧qB w wr∧(∀j b,(sevP tb)[j]?=some b→∃la lc,wr.cell? ⟨B,j,none⟩=some (.slice la b.length lc))∧wr.ownsRow z5 3 1 (.slice (some ⟨R,0,none⟩) 7 7) 7 ((lenL tb).map I))) (fun _ _ v10 _=>7 - (intOf v10).toNat)
 case atStart=>
  have e0:(psOf tb).take (0+1)=[(1,1,qal tb (30+(qbz tb).length))]:=rfl;refine ⟨0,_,_,by omega,rfl,rfl,(by show _=_;rw [e0];simp [flP,qfv]),?_,H6.out.2⟩;rw [e0];simpa [prC,prX,qfv] using H6.out.1
 case round=>
  clear H6;obtain ⟨k,va,vc,hk,rfl,rfl,HV7,HJ⟩:=hrel;have hv7:=HV7.out;subst hv7;by_cases hlt:k < 7
  ·have hltI:(k:Int) < 7:=by omega
   obtain ⟨b,m,q1,q2,q3⟩:=HK.out k hlt;have hf:=qgq q3;have hle:=Nat.le_trans (qjw (psOf tb) (k+1+1)) HL.out;rw [hf,List.length_append] at hle;have HF:Hid ((flP ((psOf tb).take (k+1+1))).length=(flP ((psOf tb).take (k+1))).length+b.length):=by show _=_;rw [hf,List.length_append]
   have HS:Hid (prC 0 ((psOf tb).take (k+1+1))=prC 0 ((psOf tb).take (k+1))++[I ((k:Int)+2),I (flP ((psOf tb).take (k+1))).length,I b.length,I m]):=by show _=_;rw [qfb q3,qfo,Nat.zero_add];simp [prX]
   obtain ⟨la,lc,cB⟩:=HJ.out.2.2.1 k b q1;have cR:wr.cell? ⟨R,k,none⟩=some (I m):=by rw [HJ.out.2.2.2.cellAt k (by omega),List.getElem?_map,q2];rfl
   have hwr:IntKind.i64.wrap ((k:Int)+2)=(k:Int)+2:=by rw [IntKind.wrap_i64] <;> omega
   dsimp only at hle;clear hf q1 q2 q3;generalize hofs:(flP ((psOf tb).take (k+1))).length=ofs at *;clear hofs HV7;have dd:qB wr wr.drew:=(Below.refl wr.heap.size wr).drew;have J1:Hid (wr.drew.ownsRow w.heap.size 48 4 (.slice va (k+1) vc) (k+1) (prC 0 ((psOf tb).take (k+1)))∧qB w wr.drew∧(∀j b,(sevP tb)[j]?=some b→∃la lc,wr.drew.cell? ⟨B,j,none⟩=some (.slice la b.length lc))∧wr.drew.ownsRow z5 3 1 (.slice (some ⟨R,0,none⟩) 7 7) 7 ((lenL tb).map I)):=⟨qad HJ.out.1 dd,HJ.out.2.1.drew,HJ.out.2.2.1,qad HJ.out.2.2.2 dd⟩;have dB:wr.drew.cell? ⟨B,k,none⟩=some (.slice la b.length lc):=cB;have dR:wr.drew.cell? ⟨R,k,none⟩=some (I m):=cR;have hba:=qa0 wr.drew (.cells #[I ((k:Int)+2),I ofs,I b.length,I m] 48);have eB:(wr.drew.alloc (.cells #[I ((k:Int)+2),I ofs,I b.length,I m] 48)).cell? ⟨B,k,none⟩=some (.slice la b.length lc):=(qa5 hba _ _ (qev dB)).trans dB;have eR:(wr.drew.alloc (.cells #[I ((k:Int)+2),I ofs,I b.length,I m] 48)).cell? ⟨R,k,none⟩=some (I m):=(qa5 hba _ _ (qev dR)).trans dR;have hO:=J1.out.1.alloc (.cells #[I ((k:Int)+2),I ofs,I b.length,I m] 48);have oR:=qad J1.out.2.2.2 hba;have hnew:∀j u,(#[I ((k:Int)+2),I ofs,I b.length,I m]:Array Value).toList[j]?=some u→(wr.alloc (.cells #[I ((k:Int)+2),I ofs,I b.length,I m] 48)).drew.cell? ((⟨wr.heap.size,0,none⟩:Addr).add j)=some u:=qaz wr.drew #[I ((k:Int)+2),I ofs,I b.length,I m] 48
   have hone:∀u∈(#[I ((k:Int)+2),I ofs,I b.length,I m]:Array Value).toList,u.oneCell'=true:=by
    intro u hu;simp only [List.mem_cons,List.not_mem_nil,or_false] at hu;rcases hu with rfl | rfl | rfl | rfl <;> rfl
   have hsz:w.heap.size≤(wr.drew.alloc (.cells #[I ((k:Int)+2),I ofs,I b.length,I m] 48)).heap.size:=Nat.le_trans J1.out.2.1.size hba.size;have hb0:Hid (Value.ownBlock (.slice va (k+1) vc)≠some B):=by
    intro e;rcases hO.2 with ⟨q,_⟩ | ⟨g1,cap1,cur1,q,_,hh,_⟩
    ·rw [q] at e;cases e
    ·cases q
     cases e;have z:=hO.cellAt 0 (by omega);obtain ⟨lb,ld,q0⟩:=J1.out.2.2.1 0 _ rfl;rw [(qa5 hba _ _ (qev q0)).trans q0] at z;cases hp:prC 0 ((psOf tb).take (k+1)) with
     | nil=>rw [hp] at z;cases z
     | cons y ys=>
      rw [hp] at z;have e1:(psOf tb).take (k+1)=(1,1,qal tb (30+(qbz tb).length)) :: ((psOf tb).drop 1).take k:=rfl;rw [e1] at hp;injection hp with hp _
      rw [←hp] at z;cases z
   have Y2:Hid (∀w',(wr.alloc (.cells #[I ((k:Int)+2),I ofs,I b.length,I m] 48)).drew.grownBy w' (Value.slice va (k+1) vc).ownBlock→((∀j b,(sevP tb)[j]?=some b→∃la lc,w'.cell? ⟨B,j,none⟩=some (.slice la b.length lc))∧w'.ownsRow z5 3 1 (.slice (some ⟨R,0,none⟩) 7 7) 7 ((lenL tb).map I))∧w'.cell? ⟨B,k,none⟩=some (.slice la b.length lc)∧w'.cell? ⟨R,k,none⟩=some (I m)):=fun w' hg'=>by
    have oR':=qsl oR hO (by decide) hg';refine ⟨⟨fun j b q=>?_,oR'⟩,hg'.cell eB (Ne.symm hb0.out),(oR'.cellAt k (by omega)).trans ((oR.cellAt k (by omega)).symm.trans eR)⟩;obtain ⟨la,lc,qq⟩:=J1.out.2.2.1 j b q;exact ⟨la,lc,hg'.cell ((qa5 hba _ _ (qev qq)).trans qq) (Ne.symm hb0.out)⟩
   have HG:Hid (qB w (wr.drew.alloc (.cells #[I ((k:Int)+2),I ofs,I b.length,I m] 48))):=belT J1.out.2.1 hba;clear HJ cB cR oR hba dd J1;go_upto_region 11 with fail;go_region_held_law (fun U=>U.cell? ⟨B,k,none⟩=some (.slice la b.length lc)∧U.cell? ⟨R,k,none⟩=some (I m)) (first | exact ⟨dB,dR⟩ | exact ⟨eB,eR⟩ | exact hS9 | (go_keep;done)) (first
    | (refine qej rfl (.tmp 29) (.tmp 43) 41 rfl w.heap.size 48 i0 _ 4 32 Tryz.underlying41 hi0 hz0 hz1 hz2 rfl (by decide) (.slice va (k+1) vc) (k+1) _ (by simp [Act.eval,Act.put]) hO ⟨wr.heap.size,0,none⟩ 1 1 (#[I ((k:Int)+2),I ofs,I b.length,I m]:Array Value).toList (by simp [Act.eval,Act.put]) rfl hnew hone (by unfold maxLen;omega) (by omega) hsz ?_;intro v6 w9 ho9 hg9;obtain ⟨a9,c9,rfl⟩:=qam ho9;obtain ⟨hY9,hS9⟩:=Y2.out w9 hg9;have H9:Hid (_∧_):=⟨ho9,Below.grown hO HG.out hg9⟩))
   have H10:Hid (w9.ownsRow w.heap.size 48 4 (.slice a9 (k+1+1) c9) (k+1+1) (prC 0 ((psOf tb).take (k+1+1)))∧qB w w9∧(∀j b,(sevP tb)[j]?=some b→∃la lc,w9.cell? ⟨B,j,none⟩=some (.slice la b.length lc))∧w9.ownsRow z5 3 1 (.slice (some ⟨R,0,none⟩) 7 7) 7 ((lenL tb).map I)):=⟨by rw [HS.out];exact H9.out.1,H9.out.2,hY9⟩;have cB9:=hS9.1;have hle':(ofs:Int)+b.length≤1000000:=by omega
   clear H9 hY9 hS9 HG Y2 hb0 hnew hone hO eB eR dB dR hsz;(try simp only [Act.put])
   go_wp2;go_roundw
   case rel=>exact ⟨k+1,a9,c9,by omega,by go_num,rfl,(by show _=_;rw [HF.out];simp),H10.out⟩
   case measure=>simp [intOf];omega
  ·obtain rfl:k=7:=by omega
   have hge:¬(((7:Nat):Int) < 7):=by omega
   have e8:(psOf tb)[7+1]?=some (9,1,leB 2 (crc 65535 (eAll tb))):=rfl;have HS:Hid (prC 0 (psOf tb)=prC 0 ((psOf tb).take (7+1))++[I 9,I (flP ((psOf tb).take (7+1))).length,I 2,I 1]):=by
    show _=_;have e9:prC 0 (psOf tb)=prC 0 ((psOf tb).take (7+1+1)):=rfl;rw [e9,qfb e8,qfo,Nat.zero_add];simp [prX,qa8]
   clear e8 HV7;generalize hofs:(flP ((psOf tb).take (7+1))).length=ofs at *;clear hofs;have hba:=qa0 wr (.cells #[I 9,I ofs,I 2,I 1] 48);have hO:=HJ.out.1.alloc (.cells #[I 9,I ofs,I 2,I 1] 48);have hnew:=qaz wr #[I 9,I ofs,I 2,I 1] 48;have hone:∀u∈(#[I 9,I ofs,I 2,I 1]:Array Value).toList,u.oneCell'=true:=by
    intro u hu;simp only [List.mem_cons,List.not_mem_nil,or_false] at hu;rcases hu with rfl | rfl | rfl | rfl <;> rfl
   have hsz:w.heap.size≤(wr.alloc (.cells #[I 9,I ofs,I 2,I 1] 48)).heap.size:=Nat.le_trans HJ.out.2.1.size hba.size;have HG:Hid (qB w (wr.alloc (.cells #[I 9,I ofs,I 2,I 1] 48))):=belT HJ.out.2.1 hba;clear HJ hba;go_wp2_with (at_builtin;refine wpList_append_own _ rfl (.tmp 52) (.tmp 55) 41 rfl w.heap.size 48 i0 _ 4 32 Tryz.underlying41 hi0 hz0 hz1 hz2 rfl (by decide) _ _ _ rfl hO ⟨wr.heap.size,0,none⟩ 1 1 (#[I 9,I ofs,I 2,I 1]:Array Value).toList rfl rfl hnew hone (by unfold maxLen;omega) (by omega) hsz ?_;intro v6 w9 ho9 hg9 _;have H9:Hid (_∧_):=⟨ho9,Below.grown hO HG.out hg9⟩;clear ho9 hg9 hO hnew hone hsz);refine bodyPost_ret (results_tmp2 Tryz.results11 _ _ _) rfl ?_;exact ⟨v6,rfl,by rw [HS.out];exact H9.out.1,H9.out.2⟩
def decB (bs:List UInt8):Tb:=match dec bs with
 | .ok tb=>tb
 | .error _=>tb0 0 0 0 0 0 0
def decZ (bs:List UInt8):Nat:=match dec bs with
 | .ok _=>0
 | .error c=>c
def prtN (bs:List UInt8):Nat:=match dec bs with
 | .ok _=>9
 | .error _=>0
def prtL (bs:List UInt8):List Value:=match dec bs with
 | .ok tb=>prC 0 (psOf tb)
 | .error _=>[]
theorem qq2 {w:World} {bs:List UInt8} {e:Ending} {w':World} (h:DP w (dec bs) e w'):∃v,e=.returned (.tuple #[.agg (tbC (decB bs) v),I (decZ bs:Nat)])∧TbAt w' (decB bs) v∧qB w w':=by
 unfold decB decZ;cases hd:dec bs with
 | ok tb=>
  rw [hd] at h;obtain ⟨v,lo,hlo,h1,h2,h3⟩:=h;exact ⟨v,h1,h2.at,h3⟩
 | error c=>
  rw [hd] at h;exact ⟨ts0,h.1,(ql8 w' 0 0 0 0 0 0 0).at,h.2⟩
theorem qr6 {w:World} {a:Option Addr} {n c:Nat} {bs:List UInt8} (h:Rd w a n c bs):Calls Tryz.prog 5 #[.slice a n c] w fun e w'=>∃v,e=.returned (.tuple #[.agg (tbC (decB bs) v),I (decZ bs:Nat)])∧TbAt w' (decB bs) v∧qB w w':=(qdx h).mono fun _ _ q=>qq2 q
theorem qr7 {w:World} {a:Option Addr} {n c:Nat} {bs:List UInt8} (h:Rd w a n c bs):Calls Tryz.prog 6 #[.slice a n c] w fun e w'=>∃v,e=.returned (.tuple #[.agg (tbC (decB bs) v),I (decZ bs:Nat)])∧TbAt w' (decB bs) v∧qB w w':=(qf5 h).mono fun _ _ q=>qq2 q
theorem qoh {bs:List UInt8} {c:Nat} (hd:dec bs=.error c):c≠0:=by
 intro e;subst e;by_cases h:outE bs=0
 ·have q:=(qjt h).2
  rw [hd] at q;have hs:=qla ((bs.drop 8).take (bs.length - 10));cases hp:pMid ((bs.drop 8).take (bs.length - 10)) with
  | error c=>
   rw [hp] at q;have:=(hs.2 c hp).2;simp at q;omega
  | ok x=>
   obtain ⟨tb,r⟩:=x;rw [hp] at q;dsimp only at q;split at q
   ·cases q
   ·split at q <;> cases q
 ·have q:=qhu h
  rw [hd] at q;exact h (Except.error.inj q).symm
theorem qr8 {w:World} {a:Option Addr} {n c:Nat} {bs:List UInt8} (h:Rd w a n c bs):Calls Tryz.prog 10 #[.slice a n c] w fun e w'=>∃u,e=.returned (.tuple #[u,I (decZ bs:Nat)])∧w'.ownsRow w.heap.size 48 4 u (prtN bs) (prtL bs)∧qB w w':=by
 unfold decZ prtN prtL;cases hd:dec bs with
 | ok tb=>exact qib h hd
 | error c=>exact (qp5 h hd (qoh hd)).mono fun _ w' q=>⟨_,q.1,World.ownsRow_nil _ _ _ _,q.2⟩
theorem qr9 {w:World} {a:Option Addr} {n c:Nat} {bs:List UInt8} (h:Rd w a n c bs):Calls Tryz.prog 11 #[.slice a n c] w fun e w'=>∃u,e=.returned (.tuple #[u,I (decZ bs:Nat)])∧w'.ownsRow w.heap.size 48 4 u (prtN bs) (prtL bs)∧qB w w':=by
 unfold decZ prtN prtL;cases hd:dec bs with
 | ok tb=>exact qkj h hd
 | error c=>exact (qmg h hd (qoh hd)).mono fun _ w' q=>⟨_,q.1,World.ownsRow_nil _ _ _ _,q.2⟩
theorem qlb : ∀(l:List Pce) (o k:Nat),k < l.length→∃a b c d:Int,(prC o l)[k * 4]?=some (I a)∧(prC o l)[k * 4+1]?=some (I b)∧(prC o l)[k * 4+2]?=some (I c)∧(prC o l)[k * 4+3]?=some (I d)
 | [],_,_,h=>absurd h (by simp)
 | x :: l,o,0,_=>⟨_,_,_,_,rfl,rfl,rfl,rfl⟩
 | x :: l,o,k+1,h=>by
  obtain ⟨a,b,c,d,h1,h2,h3,h4⟩:=qlb l (o+x.2.2.length) k (by simpa using h);have hp:(prX x o).length=4:=rfl;refine ⟨a,b,c,d,?_,?_,?_,?_⟩ <;> rw [prC,List.getElem?_append_right (by omega),hp]
  ·rw [show (k+1) * 4 - 4=k * 4 by omega];exact h1
  ·rw [show (k+1) * 4+1 - 4=k * 4+1 by omega];exact h2
  ·rw [show (k+1) * 4+2 - 4=k * 4+2 by omega];exact h3
  ·rw [show (k+1) * 4+3 - 4=k * 4+3 by omega];exact h4
theorem qpg (bs:List UInt8) (k:Nat) (hk:k < prtN bs):∃a b c d:Int,(prtL bs)[k * 4]?=some (I a)∧(prtL bs)[k * 4+1]?=some (I b)∧(prtL bs)[k * 4+2]?=some (I c)∧(prtL bs)[k * 4+3]?=some (I d):=by
 unfold prtN at hk;unfold prtL;cases hd:dec bs with
 | ok tb=>rw [hd] at hk;exact qlb _ _ _ hk
 | error c=>rw [hd] at hk;exact absurd hk (by simp)
theorem qjz {w:World} {B T k n c:Nat} {a:Option Addr} {xs:List Value} (h:w.ownsRow B T k (.slice a n c) n xs) (hn:0 < n):∃g,a=some ⟨g,0,none⟩:=by
 rcases h.2 with ⟨-,q⟩ | ⟨g,c1,cur,q,-⟩
 ·omega
 ·cases q;exact ⟨g,rfl⟩
theorem qgs (w:World) (ba:Option Addr) (bn bc:Nat) (bs:List UInt8) (hbs:Rd w ba bn bc bs):Calls Tryz.prog 3 #[.slice ba bn bc] w fun e w'=>e=.returned (.bool true)∧qB w w':=by
 have hCp:Calls Tryz.prog 4 #[.slice ba bn bc] w _:=Ob.copy_any _ _ _ _ w hbs;have HB:Hid (∀W,qB w W→Rd W ba bn bc bs):=fun W q=>hbs.below q
 have hsm:=hbs.hsmall;have hi9:(Tryz.prog.info? 32).map (·.size)=some (qV:Array Value).size:=by kernel_rfl
 have hnn:∀W (x:Int),Calls Tryz.prog 7 #[I x] W fun e w'=>e=.returned (I x)∧W=w':=fun W x=>(qhx W x).mono fun _ _ q=>⟨q.1,q.2.symm⟩
 have hA:=fun W=>qo3 W
 clear hbs;go_enter Tryz.func3,Tryz.ntmps3
 go_upto_region 2 with (first | (go_at_call 4;refine hCp.mono ?_;clear hCp;rintro e w1 ⟨rfl,o1,b1⟩));have HR:Hid (∀W,qB w1 W→Rd W (some ⟨w.heap.size,0,none⟩) bn bn bs):=fun W q=>(qa7 o1 hsm).below q
 have hD:=qr6 (HR.out w1 (Below.refl _ _));have HSa:Hid (∀W,qB w1 W→Calls Tryz.prog 9 #[.slice (some ⟨w.heap.size,0,none⟩) bn bn,.slice ba bn bc] W fun e w'=>e=.returned (.bool true)∧∃q,w'=W.drewN q):=fun W q=>(Ob.same_any _ _ _ _ _ _ _ _ W (HR.out W q) (HB.out W (belT b1 q))).mono fun e w' h=>⟨by rw [h.1];simp,h.2⟩
 have HPp:Hid (∀W,qB w1 W→Calls Tryz.prog 10 #[.slice (some ⟨w.heap.size,0,none⟩) bn bn] W fun e w'=>∃u,e=.returned (.tuple #[u,I (decZ bs:Nat)])∧w'.ownsRow W.heap.size 48 4 u (prtN bs) (prtL bs)∧qB W w'):=fun W q=>qr8 (HR.out W q)
 have HPd:Hid (∀W,qB w1 W→Calls Tryz.prog 11 #[.slice ba bn bc] W fun e w'=>∃u,e=.returned (.tuple #[u,I (decZ bs:Nat)])∧w'.ownsRow W.heap.size 48 4 u (prtN bs) (prtL bs)∧qB W w'):=fun W q=>qr9 (HB.out W (belT b1 q))
 have HDd:Hid (∀W,qB w1 W→Calls Tryz.prog 6 #[.slice ba bn bc] W fun e w'=>∃v,e=.returned (.tuple #[.agg (tbC (decB bs) v),I (decZ bs:Nat)])∧TbAt w' (decB bs) v∧qB W w'):=fun W q=>qr7 (HB.out W (belT b1 q))
 have hgt:=qpg bs;have hpn:prtN bs≤9:=by unfold prtN;cases dec bs <;> simp
 have HB1:Hid (qB w w1):=b1;clear o1 b1 HB HR;generalize decB bs=tb at *;generalize decZ bs=z at *;generalize prtN bs=pn at *;generalize prtL bs=pl at *;unfold tbC at hD;go_upto_region 3 with (first
  | (go_at_call 5;refine hD.mono ?_;clear hD;rintro e w2 ⟨v,rfl,hT,b2⟩)
  | (refine wpList_store_row rfl 32 _ _ rfl _ _ rfl rfl 32 _ (heap_alloc_new _ _) hi9 rfl (by simp [Value.oneCell']) ?_))
 have hv3:=setRow_heap _ _ _ (qC tb v) _ _ (heap_alloc_new w2 (.cells qV 32));have hb3:=qbe (cs:=(qC tb v)) (qa0 w2 (.cells qV 32));have hT3:=hT.below hb3;have hB3:=belT b2 hb3;clear hT b2 hb3;change Code.wp _ _ _ _ ((w2.alloc (.cells qV 32)).setRow w2.heap.size (qC tb v));generalize (w2.alloc (.cells qV 32)).setRow w2.heap.size (qC tb v)=w3 at *;generalize w2.heap.size=X at *;have hD:=HDd.out w3 hB3;unfold tbC at hD;go_upto_region 4 with (first
  | (go_at_call 6;refine hD.mono ?_;clear hD;rintro e w4 ⟨y,rfl,hT4,b4⟩)
  | (refine wpList_store_row rfl 32 _ _ rfl _ _ rfl rfl 32 _ (heap_alloc_new _ _) hi9 rfl (by simp [Value.oneCell']) ?_))
 have hv5:=setRow_heap _ _ _ (qC tb y) _ _ (heap_alloc_new w4 (.cells qV 32));have hb5:=qbe (cs:=(qC tb y)) (qa0 w4 (.cells qV 32));have hT5:=hT4.below hb5;have hB45:=belT b4 hb5;have hT35:=hT3.below hB45;have hX5:=(hB45.block _ (qa6 hv3)).trans hv3;have hB5:=belT hB3 hB45;clear hT4 b4 hb5 hB45 hT3 hv3 hB3 HDd;change Code.wp _ _ _ _ ((w4.alloc (.cells qV 32)).setRow w4.heap.size (qC tb y));generalize (w4.alloc (.cells qV 32)).setRow w4.heap.size (qC tb y)=w5 at *;generalize w4.heap.size=Y at *;have c0:w5.cell? ⟨X,0,none⟩=some (I tb.uses):=by rw [qcr hX5];rfl
 have c1:w5.cell? ⟨X,1,none⟩=some (I tb.modes):=by rw [qcr hX5];rfl
 have c2:w5.cell? ⟨X,2,none⟩=some (.slice v.t.a v.t.n v.t.c):=by rw [qcr hX5];rfl
 have c3:w5.cell? ⟨X,3,none⟩=some (.slice v.g.a v.g.n v.g.c):=by rw [qcr hX5];rfl
 have c4:w5.cell? ⟨X,4,none⟩=some (.slice v.r.a v.r.n v.r.c):=by rw [qcr hX5];rfl
 have c5:w5.cell? ⟨X,5,none⟩=some (.slice v.k.a v.k.n v.k.c):=by rw [qcr hX5];rfl
 have c6:w5.cell? ⟨X,6,none⟩=some (.slice v.a.a v.a.n v.a.c):=by rw [qcr hX5];rfl
 have c7:w5.cell? ⟨X,7,none⟩=some (.slice v.i.a v.i.n v.i.c):=by rw [qcr hX5];rfl
 have c8:w5.cell? ⟨X,8,none⟩=some (.slice v.s.a v.s.n v.s.c):=by rw [qcr hX5];rfl
 have c9:w5.cell? ⟨X,9,none⟩=some (I tb.depth):=by rw [qcr hX5];rfl
 have c10:w5.cell? ⟨X,10,none⟩=some (I tb.frames):=by rw [qcr hX5];rfl
 have c11:w5.cell? ⟨X,11,none⟩=some (I tb.errors):=by rw [qcr hX5];rfl
 have c12:w5.cell? ⟨X,12,none⟩=some (I tb.calls):=by rw [qcr hX5];rfl
 have d0:w5.cell? ⟨Y,0,none⟩=some (I tb.uses):=by rw [qcr hv5];rfl
 have d1:w5.cell? ⟨Y,1,none⟩=some (I tb.modes):=by rw [qcr hv5];rfl
 have d2:w5.cell? ⟨Y,2,none⟩=some (.slice y.t.a y.t.n y.t.c):=by rw [qcr hv5];rfl
 have d3:w5.cell? ⟨Y,3,none⟩=some (.slice y.g.a y.g.n y.g.c):=by rw [qcr hv5];rfl
 have d4:w5.cell? ⟨Y,4,none⟩=some (.slice y.r.a y.r.n y.r.c):=by rw [qcr hv5];rfl
 have d5:w5.cell? ⟨Y,5,none⟩=some (.slice y.k.a y.k.n y.k.c):=by rw [qcr hv5];rfl
 have d6:w5.cell? ⟨Y,6,none⟩=some (.slice y.a.a y.a.n y.a.c):=by rw [qcr hv5];rfl
 have d7:w5.cell? ⟨Y,7,none⟩=some (.slice y.i.a y.i.n y.i.c):=by rw [qcr hv5];rfl
 have d8:w5.cell? ⟨Y,8,none⟩=some (.slice y.s.a y.s.n y.s.c):=by rw [qcr hv5];rfl
 have d9:w5.cell? ⟨Y,9,none⟩=some (I tb.depth):=by rw [qcr hv5];rfl
 have d10:w5.cell? ⟨Y,10,none⟩=some (I tb.frames):=by rw [qcr hv5];rfl
 have d11:w5.cell? ⟨Y,11,none⟩=some (I tb.errors):=by rw [qcr hv5];rfl
 have d12:w5.cell? ⟨Y,12,none⟩=some (I tb.calls):=by rw [qcr hv5];rfl
 have hS:=qhh w5 tb v y hT35 hT5;unfold tbC at hS;clear hT35 hT5 hX5 hv5;go_upto_region 6 with (first
  | (go_at_call 7;refine (hnn _ _).mono ?_;rintro e w' ⟨rfl,rfl⟩)
  | (go_at_call 8;refine hS.mono ?_;clear hS c0 c1 c2 c3 c4 c5 c6 c7 c8 c9 c10 c11 c12 d0 d1 d2 d3 d4 d5 d6 d7 d8 d9 d10 d11 d12;rintro e w6 ⟨rfl,b6⟩;have hB6:=belT hB5 b6;have hS1:=HSa.out w6 hB6)
  | (go_at_call 9;refine hS1.mono ?_;clear hS1;rintro e w7 ⟨rfl,q7,hw7⟩;have hB7:qB w1 w7:=(by rw [hw7];exact below_drewN hB6 q7);clear hw7 q7))
 go_upto_region 8 with (first
  | (go_at_call 10;refine (HPp.out w7 hB7).mono ?_;rintro e w8 ⟨u,rfl,o8,b8⟩;obtain ⟨ua,uc,rfl⟩:=qam o8;have hB8:=belT hB7 b8;clear b8)
  | (go_at_call 11;refine (HPd.out w8 hB8).mono ?_;rintro e w9 ⟨u',rfl,o9,b9⟩;obtain ⟨ya,yc,rfl⟩:=qam o9;have o89:=qad o8 b9;have hB9:=belT hB8 b9;have hS2:=HSa.out w9 hB9;clear b9 o8))
 go_upto_region 10 with (first
  | (go_at_call 7;refine (hnn _ _).mono ?_;rintro e w' ⟨rfl,rfl⟩)
  | (go_at_call 9;refine hS2.mono ?_;clear hS2;rintro e w10 ⟨rfl,q10,hw10⟩;have b10:qB w9 w10:=(by rw [hw10];exact below_drewN (Below.refl _ _) q10);clear hw10 q10;have p10:=qad o89 b10;have r10:=qad o9 b10;have hB10:=belT hB9 b10;clear o89 o9))
 skip;have HGT:Hid _:=hgt;have H10:Hid (w10.ownsRow w7.heap.size 48 4 (.slice ua pn uc) pn pl∧w10.ownsRow w8.heap.size 48 4 (.slice ya pn yc) pn pl∧qB w w10):=⟨p10,r10,belT HB1.out hB10⟩;clear p10 r10 hB10 hgt;go_wp2;go_loopw [12] (fun v12 wr=>∃k:Nat,k≤pn∧v12=I k∧Hid (qB w10 wr)) (fun v12 _=>pn - (intOf v12).toNat)
 case atStart=>exact ⟨0,by omega,rfl,Below.refl _ _⟩
 case round=>
  obtain ⟨k,hk,rfl,HJ⟩:=hrel;by_cases hlt:k < pn
  ·have hltI:(k:Int) < pn:=by omega
   obtain ⟨xa,xb,xc,xd,g0,g1,g2,g3⟩:=HGT.out k hlt;obtain ⟨g,rfl⟩:=qjz H10.out.1 (by omega);obtain ⟨y,rfl⟩:=qjz H10.out.2.1 (by omega);have dd:=(Below.refl wr.heap.size wr).drew;have P9:=qad (qad H10.out.1 HJ.out) dd;have R9:=qad (qad H10.out.2.1 HJ.out) dd;have HN:Hid (qB w10 wr.drew):=belT HJ.out dd;have a0:=(P9.cellAt (k * 4) (by omega)).trans g0;have a1:=(P9.cellAt (k * 4+1) (by omega)).trans g1;have a2:=(P9.cellAt (k * 4+2) (by omega)).trans g2;have a3:=(P9.cellAt (k * 4+3) (by omega)).trans g3;have b0:=(R9.cellAt (k * 4) (by omega)).trans g0;have b1:=(R9.cellAt (k * 4+1) (by omega)).trans g1;have b2:=(R9.cellAt (k * 4+2) (by omega)).trans g2;have b3:=(R9.cellAt (k * 4+3) (by omega)).trans g3;clear P9 R9 dd HJ g0 g1 g2 g3;go_upto_region 13 with fail;go_region_held_law (fun U=>U.cell? ⟨g,k * 4,none⟩=some (I xa)∧U.cell? ⟨g,k * 4+1,none⟩=some (I xb)∧U.cell? ⟨g,k * 4+2,none⟩=some (I xc)∧U.cell? ⟨g,k * 4+3,none⟩=some (I xd)∧U.cell? ⟨y,k * 4,none⟩=some (I xa)∧U.cell? ⟨y,k * 4+1,none⟩=some (I xb)∧U.cell? ⟨y,k * 4+2,none⟩=some (I xc)∧U.cell? ⟨y,k * 4+3,none⟩=some (I xd)) (first | exact ⟨a0,a1,a2,a3,b0,b1,b2,b3⟩ | (go_keep;done)) (fail)
   clear a0 a1 a2 a3 b0 b1 b2 b3;go_wp2;go_roundw
   case rel=>exact ⟨k+1,by omega,by go_num,HN.out⟩
   case measure=>simp [intOf];omega
  ·obtain rfl:k=pn:=by omega
   have hge:¬((k:Int) < k):=by omega
   have HE:Hid (qB w wr):=belT H10.out.2.2 HJ.out;clear HJ;go_wp2_with (first | (go_at_call 12;refine (hA _).mono ?_;rintro e w12 ⟨rfl,b12⟩));go_ret;exact ⟨rfl,belT HE.out b12⟩
end Go.Proofs.YtijgopkhdjaolabGreat
