import Derived.Test.YtijgopkhdjaolabGreatXHs9
import Derived.Deep.RegionHeldLaw
import Derived.Deep.DrawnRows
set_option linter.unusedSimpArgs false
set_option linter.unusedVariables false
set_option maxHeartbeats 16000000
set_option maxRecDepth 100000
namespace Go.Proofs.YtijgopkhdjaolabGreat
open Go.RowKit Go.Shelf Go.Sort
open Go.Proofs.YtijgopkhdjaolabGreat.Ob (leB leV qa8 qag crc Rd RdAll qa7)
theorem qe8 {α:Type} {W:World} {k:Nat} {P:α→Nat→Value→Prop}:RowsAt W k P ⟨none,0,0⟩ []:=⟨rfl,Nat.le_refl _,Nat.zero_le _,fun j x hj=>by simp at hj⟩
theorem qo2 (w:World):Calls Tryz.prog 29 #[] w fun e w'=>∃v,e=.returned (.agg (tbC qau v))∧TbAt w' qau v∧qB w w':=by
 have hY:=heap_alloc_new w (.cells #[I 0,I 1,.slice (some ⟨w.heap.size+1,0,none⟩) 1 1,.slice (some ⟨w.heap.size+1+1,0,none⟩) 1 1,qZ,qZ,qZ,qZ,qZ,I 1,I 4,I 2,I 0] 32);have hT:=heap_alloc_new (w.alloc (.cells #[I 0,I 1,.slice (some ⟨w.heap.size+1,0,none⟩) 1 1,.slice (some ⟨w.heap.size+1+1,0,none⟩) 1 1,qZ,qZ,qZ,qZ,qZ,I 1,I 4,I 2,I 0] 32)) (.cells #[I 1,I 0,.bool true,I 1,.int .u32 0,I (-1),qZ,.int .u32 0] 71);have hR:=heap_alloc_new ((w.alloc (.cells #[I 0,I 1,.slice (some ⟨w.heap.size+1,0,none⟩) 1 1,.slice (some ⟨w.heap.size+1+1,0,none⟩) 1 1,qZ,qZ,qZ,qZ,qZ,I 1,I 4,I 2,I 0] 32)).alloc (.cells #[I 1,I 0,.bool true,I 1,.int .u32 0,I (-1),qZ,.int .u32 0] 71)) (.cells #[I 1,I 1] 73);have hY3:=((qa0 ((w.alloc (.cells #[I 0,I 1,.slice (some ⟨w.heap.size+1,0,none⟩) 1 1,.slice (some ⟨w.heap.size+1+1,0,none⟩) 1 1,qZ,qZ,qZ,qZ,qZ,I 1,I 4,I 2,I 0] 32)).alloc (.cells #[I 1,I 0,.bool true,I 1,.int .u32 0,I (-1),qZ,.int .u32 0] 71)) (.cells #[I 1,I 1] 73)).block _ (qa6 (((qa0 (w.alloc (.cells #[I 0,I 1,.slice (some ⟨w.heap.size+1,0,none⟩) 1 1,.slice (some ⟨w.heap.size+1+1,0,none⟩) 1 1,qZ,qZ,qZ,qZ,qZ,I 1,I 4,I 2,I 0] 32)) (.cells #[I 1,I 0,.bool true,I 1,.int .u32 0,I (-1),qZ,.int .u32 0] 71)).block _ (qa6 hY)).trans hY))).trans (((qa0 (w.alloc (.cells #[I 0,I 1,.slice (some ⟨w.heap.size+1,0,none⟩) 1 1,.slice (some ⟨w.heap.size+1+1,0,none⟩) 1 1,qZ,qZ,qZ,qZ,qZ,I 1,I 4,I 2,I 0] 32)) (.cells #[I 1,I 0,.bool true,I 1,.int .u32 0,I (-1),qZ,.int .u32 0] 71)).block _ (qa6 hY)).trans hY);have hT3:=((qa0 ((w.alloc (.cells #[I 0,I 1,.slice (some ⟨w.heap.size+1,0,none⟩) 1 1,.slice (some ⟨w.heap.size+1+1,0,none⟩) 1 1,qZ,qZ,qZ,qZ,qZ,I 1,I 4,I 2,I 0] 32)).alloc (.cells #[I 1,I 0,.bool true,I 1,.int .u32 0,I (-1),qZ,.int .u32 0] 71)) (.cells #[I 1,I 1] 73)).block _ (qa6 hT)).trans hT;have e1:(w.alloc (.cells #[I 0,I 1,.slice (some ⟨w.heap.size+1,0,none⟩) 1 1,.slice (some ⟨w.heap.size+1+1,0,none⟩) 1 1,qZ,qZ,qZ,qZ,qZ,I 1,I 4,I 2,I 0] 32)).heap.size=w.heap.size+1:=by simp
 have e2:((w.alloc (.cells #[I 0,I 1,.slice (some ⟨w.heap.size+1,0,none⟩) 1 1,.slice (some ⟨w.heap.size+1+1,0,none⟩) 1 1,qZ,qZ,qZ,qZ,qZ,I 1,I 4,I 2,I 0] 32)).alloc (.cells #[I 1,I 0,.bool true,I 1,.int .u32 0,I (-1),qZ,.int .u32 0] 71)).heap.size=w.heap.size+2:=by simp
 rw [e1] at hT3;rw [e2,show w.heap.size+2=w.heap.size+1+1 from rfl] at hR;have hB:=belT (qa0 w (.cells #[I 0,I 1,.slice (some ⟨w.heap.size+1,0,none⟩) 1 1,.slice (some ⟨w.heap.size+1+1,0,none⟩) 1 1,qZ,qZ,qZ,qZ,qZ,I 1,I 4,I 2,I 0] 32)) (belT (qa0 (w.alloc (.cells #[I 0,I 1,.slice (some ⟨w.heap.size+1,0,none⟩) 1 1,.slice (some ⟨w.heap.size+1+1,0,none⟩) 1 1,qZ,qZ,qZ,qZ,qZ,I 1,I 4,I 2,I 0] 32)) (.cells #[I 1,I 0,.bool true,I 1,.int .u32 0,I (-1),qZ,.int .u32 0] 71)) (qa0 ((w.alloc (.cells #[I 0,I 1,.slice (some ⟨w.heap.size+1,0,none⟩) 1 1,.slice (some ⟨w.heap.size+1+1,0,none⟩) 1 1,qZ,qZ,qZ,qZ,qZ,I 1,I 4,I 2,I 0] 32)).alloc (.cells #[I 1,I 0,.bool true,I 1,.int .u32 0,I (-1),qZ,.int .u32 0] 71)) (.cells #[I 1,I 1] 73)));clear hY hT e1 e2;go_enter Tryz.func29,Tryz.ntmps29
 go_wp2;have hbF:=hB;have hTF:=hT3;have hRF:=hR;have k13:=hY3;generalize (((w.alloc (.cells #[I 0,I 1,.slice (some ⟨w.heap.size+1,0,none⟩) 1 1,.slice (some ⟨w.heap.size+1+1,0,none⟩) 1 1,.slice none 0 0,.slice none 0 0,.slice none 0 0,.slice none 0 0,.slice none 0 0,I 1,I 4,I 2,I 0] 32)).alloc (.cells #[I 1,I 0,.bool true,I 1,.int .u32 0,I (-1),.slice none 0 0,.int .u32 0] 71)).alloc (.cells #[I 1,I 1] 73))=W at *;refine bodyPost_ret (qjn Tryz.results29 _ w.heap.size _ _ _ _ _ _ _ _ _ _ _ _ _ _ rfl k13) rfl ?_;refine ⟨⟨⟨some ⟨w.heap.size+1,0,none⟩,1,1⟩,⟨some ⟨w.heap.size+1+1,0,none⟩,1,1⟩,⟨none,0,0⟩,⟨none,0,0⟩,⟨none,0,0⟩,⟨none,0,0⟩,⟨none,0,0⟩⟩,rfl,⟨?_,?_,qe8,qe8,qe8,qe8,qe8⟩,hbF⟩
 ·refine ⟨rfl,Nat.le_refl _,by show 1≤maxLen;unfold maxLen;omega,fun j x hj=>⟨w.heap.size+1,0,rfl,qa6 hTF,fun i hi=>?_⟩⟩
  match j,hj with
  | 0,hj=>
   have hx:x=smTk:=by simpa [qau] using hj.symm
   subst hx;have cc:=fun i=>cell_of_row W (w.heap.size+1) i _ _ (0,0) hTF
   match i,hi with
   | 0,_=>exact ⟨I 1,by simpa using cc 0,rfl⟩
   | 1,_=>exact ⟨I 0,by simpa using cc 1,rfl⟩
   | 2,_=>exact ⟨.bool true,by simpa using cc 2,rfl⟩
   | 3,_=>exact ⟨I 1,by simpa using cc 3,rfl⟩
   | 4,_=>exact ⟨.int .u32 0,by simpa using cc 4,rfl⟩
   | 5,_=>exact ⟨I (-1),by simpa using cc 5,rfl⟩
   | 6,_=>exact ⟨qZ,by simpa using cc 6,⟨⟨none,0,0⟩,rfl,qe8⟩⟩
   | 7,_=>exact ⟨.int .u32 0,by simpa using cc 7,rfl⟩
 ·refine ⟨rfl,Nat.le_refl _,by show 1≤maxLen;unfold maxLen;omega,fun j x hj=>⟨w.heap.size+1+1,0,rfl,qa6 hRF,fun i hi=>?_⟩⟩
  match j,hj with
  | 0,hj=>
   have hx:x=⟨1,1⟩:=by simpa [qau] using hj.symm
   subst hx;have cc:=fun i=>cell_of_row W (w.heap.size+1+1) i _ _ (0,0) hRF
   match i,hi with
   | 0,_=>exact ⟨I 1,by simpa using cc 0,rfl⟩
   | 1,_=>exact ⟨I 1,by simpa using cc 1,rfl⟩
end Go.Proofs.YtijgopkhdjaolabGreat
namespace Go.Proofs.YtijgopkhdjaolabGreat
open Go.RowKit Go.Shelf Go.Sort
set_option maxHeartbeats 40000000
abbrev Cx (tb:Tb) (va vb:Ts) (X0 X1:Nat) (W:World):Prop:=W.cell? ⟨X0,0,none⟩=some (I tb.uses)∧W.cell? ⟨X0,1,none⟩=some (I tb.modes)∧W.cell? ⟨X0,2,none⟩=some (.slice va.t.a va.t.n va.t.c)∧W.cell? ⟨X0,3,none⟩=some (.slice va.g.a va.g.n va.g.c)∧W.cell? ⟨X0,4,none⟩=some (.slice va.r.a va.r.n va.r.c)∧W.cell? ⟨X0,5,none⟩=some (.slice va.k.a va.k.n va.k.c)∧W.cell? ⟨X0,6,none⟩=some (.slice va.a.a va.a.n va.a.c)∧W.cell? ⟨X0,7,none⟩=some (.slice va.i.a va.i.n va.i.c)∧W.cell? ⟨X0,8,none⟩=some (.slice va.s.a va.s.n va.s.c)∧W.cell? ⟨X0,9,none⟩=some (I tb.depth)∧W.cell? ⟨X0,10,none⟩=some (I tb.frames)∧W.cell? ⟨X0,11,none⟩=some (I tb.errors)∧W.cell? ⟨X0,12,none⟩=some (I tb.calls)∧W.cell? ⟨X1,0,none⟩=some (I tb.uses)∧W.cell? ⟨X1,1,none⟩=some (I tb.modes)∧W.cell? ⟨X1,2,none⟩=some (.slice vb.t.a vb.t.n vb.t.c)∧W.cell? ⟨X1,3,none⟩=some (.slice vb.g.a vb.g.n vb.g.c)∧W.cell? ⟨X1,4,none⟩=some (.slice vb.r.a vb.r.n vb.r.c)∧W.cell? ⟨X1,5,none⟩=some (.slice vb.k.a vb.k.n vb.k.c)∧W.cell? ⟨X1,6,none⟩=some (.slice vb.a.a vb.a.n vb.a.c)∧W.cell? ⟨X1,7,none⟩=some (.slice vb.i.a vb.i.n vb.i.c)∧W.cell? ⟨X1,8,none⟩=some (.slice vb.s.a vb.s.n vb.s.c)∧W.cell? ⟨X1,9,none⟩=some (I tb.depth)∧W.cell? ⟨X1,10,none⟩=some (I tb.frames)∧W.cell? ⟨X1,11,none⟩=some (I tb.errors)∧W.cell? ⟨X1,12,none⟩=some (I tb.calls)
theorem sg_A {w1:World} {X0 X1:Nat} {tb:Tb} {va vb:Ts} (HS:Hid (∀W,qB w1 W→W.cell? ⟨X0,0,none⟩=some (I tb.uses)∧W.cell? ⟨X0,1,none⟩=some (I tb.modes)∧W.cell? ⟨X0,2,none⟩=some (.slice va.t.a va.t.n va.t.c)∧W.cell? ⟨X0,3,none⟩=some (.slice va.g.a va.g.n va.g.c)∧W.cell? ⟨X0,4,none⟩=some (.slice va.r.a va.r.n va.r.c)∧W.cell? ⟨X0,5,none⟩=some (.slice va.k.a va.k.n va.k.c)∧W.cell? ⟨X0,6,none⟩=some (.slice va.a.a va.a.n va.a.c)∧W.cell? ⟨X0,7,none⟩=some (.slice va.i.a va.i.n va.i.c)∧W.cell? ⟨X0,8,none⟩=some (.slice va.s.a va.s.n va.s.c)∧W.cell? ⟨X0,9,none⟩=some (I tb.depth)∧W.cell? ⟨X0,10,none⟩=some (I tb.frames)∧W.cell? ⟨X0,11,none⟩=some (I tb.errors)∧W.cell? ⟨X0,12,none⟩=some (I tb.calls)∧W.cell? ⟨X1,0,none⟩=some (I tb.uses)∧W.cell? ⟨X1,1,none⟩=some (I tb.modes)∧W.cell? ⟨X1,2,none⟩=some (.slice vb.t.a vb.t.n vb.t.c)∧W.cell? ⟨X1,3,none⟩=some (.slice vb.g.a vb.g.n vb.g.c)∧W.cell? ⟨X1,4,none⟩=some (.slice vb.r.a vb.r.n vb.r.c)∧W.cell? ⟨X1,5,none⟩=some (.slice vb.k.a vb.k.n vb.k.c)∧W.cell? ⟨X1,6,none⟩=some (.slice vb.a.a vb.a.n vb.a.c)∧W.cell? ⟨X1,7,none⟩=some (.slice vb.i.a vb.i.n vb.i.c)∧W.cell? ⟨X1,8,none⟩=some (.slice vb.s.a vb.s.n vb.s.c)∧W.cell? ⟨X1,9,none⟩=some (I tb.depth)∧W.cell? ⟨X1,10,none⟩=some (I tb.frames)∧W.cell? ⟨X1,11,none⟩=some (I tb.errors)∧W.cell? ⟨X1,12,none⟩=some (I tb.calls))) (HT:Hid (∀W,qB w1 W→TbAt W tb va∧TbAt W tb vb)):Seg 1 X0 X1 w1:=by
 intro N R T vs w hT h2 h3 hb hK;have HK:Hid _:=hK;clear hK;rw [qdz T hT];simp only [rng,List.map_cons,List.map_nil,show tk T 2=_ from h2,show tk T 3=_ from h3];clear h2 h3 hT;generalize tk T=tt;conv=>arg 2;whnf
 refine wp_seq_k (fun K hK=>?_);have hRA:∀(W:World),qB w1 W→Calls Tryz.prog 25 #[.agg (qC tb va)] W fun e w'=>∃s,e=.returned (slT s)∧RowsAt w' 1 intP s (lenL tb)∧qB W w':=fun W hW=>qic W tb va (HT.out W hW).1
 have hRB:∀(W:World),qB w1 W→Calls Tryz.prog 25 #[.agg (qC tb vb)] W fun e w'=>∃s,e=.returned (slT s)∧RowsAt w' 1 intP s (lenL tb)∧qB W w':=fun W hW=>qic W tb vb (HT.out W hW).2
 have hn0:(tb.uses != tb.uses)=false:=by simp
 have hn1:(tb.modes != tb.modes)=false:=by simp
 have hn2:(tb.depth != tb.depth)=false:=by simp
 have hn3:(tb.frames != tb.frames)=false:=by simp
 have hn4:(tb.errors != tb.errors)=false:=by simp
 have hn5:(tb.calls != tb.calls)=false:=by simp
 have hEL:decide (lenL tb=lenL tb)=true:=by simp
 have HY:=HS.out w.drew hb.drew;have hbz:=hb.drew;go_region_held_law (fun W=>W.cell? ⟨X0,0,none⟩=some (I tb.uses)∧W.cell? ⟨X0,1,none⟩=some (I tb.modes)∧W.cell? ⟨X0,2,none⟩=some (.slice va.t.a va.t.n va.t.c)∧W.cell? ⟨X0,3,none⟩=some (.slice va.g.a va.g.n va.g.c)∧W.cell? ⟨X0,4,none⟩=some (.slice va.r.a va.r.n va.r.c)∧W.cell? ⟨X0,5,none⟩=some (.slice va.k.a va.k.n va.k.c)∧W.cell? ⟨X0,6,none⟩=some (.slice va.a.a va.a.n va.a.c)∧W.cell? ⟨X0,7,none⟩=some (.slice va.i.a va.i.n va.i.c)∧W.cell? ⟨X0,8,none⟩=some (.slice va.s.a va.s.n va.s.c)∧W.cell? ⟨X0,9,none⟩=some (I tb.depth)∧W.cell? ⟨X0,10,none⟩=some (I tb.frames)∧W.cell? ⟨X0,11,none⟩=some (I tb.errors)∧W.cell? ⟨X0,12,none⟩=some (I tb.calls)∧W.cell? ⟨X1,0,none⟩=some (I tb.uses)∧W.cell? ⟨X1,1,none⟩=some (I tb.modes)∧W.cell? ⟨X1,2,none⟩=some (.slice vb.t.a vb.t.n vb.t.c)∧W.cell? ⟨X1,3,none⟩=some (.slice vb.g.a vb.g.n vb.g.c)∧W.cell? ⟨X1,4,none⟩=some (.slice vb.r.a vb.r.n vb.r.c)∧W.cell? ⟨X1,5,none⟩=some (.slice vb.k.a vb.k.n vb.k.c)∧W.cell? ⟨X1,6,none⟩=some (.slice vb.a.a vb.a.n vb.a.c)∧W.cell? ⟨X1,7,none⟩=some (.slice vb.i.a vb.i.n vb.i.c)∧W.cell? ⟨X1,8,none⟩=some (.slice vb.s.a vb.s.n vb.s.c)∧W.cell? ⟨X1,9,none⟩=some (I tb.depth)∧W.cell? ⟨X1,10,none⟩=some (I tb.frames)∧W.cell? ⟨X1,11,none⟩=some (I tb.errors)∧W.cell? ⟨X1,12,none⟩=some (I tb.calls)) (first | exact HY | exact HS.out _ (by repeat' (first | exact hbz | apply Below.drew | apply belA)) | (go_keep;done)) (first
  | (go_at_call 25;refine (hRA _ hbz).mono ?_;clear hRA;rintro e w2 ⟨⟨p1,n1,c1⟩,rfl,r1,b2⟩;dsimp only [slT];have hbz:=belT hbz b2;have HY:=HS.out _ hbz;clear b2)
  | (go_at_call 25;refine (hRB _ hbz).mono ?_;clear hRB;rintro e w3 ⟨⟨p2,n2,c2⟩,rfl,r2,b3⟩;dsimp only [slT];have hbz:=belT hbz b3;have HY:=HS.out _ hbz;have r1:=r1.below b3 (fun _ _ _ _ h=>h);clear b3)
  | (go_at_call 24;refine (qg4 _ ⟨p1,n1,c1⟩ ⟨p2,n2,c2⟩ _ _ r1 r2).mono ?_;rintro e w4 ⟨rfl,b4⟩;have hbz:=belT hbz b4;have HY:=HS.out _ hbz;clear b4 r1 r2;(try rw [hEL]);(try simp only [decide_true])))
 go_wp2;(try simp only [Exit.inBlock,Exit.then])
 exact HK.out _ _ rfl rfl rfl hbz
end Go.Proofs.YtijgopkhdjaolabGreat
