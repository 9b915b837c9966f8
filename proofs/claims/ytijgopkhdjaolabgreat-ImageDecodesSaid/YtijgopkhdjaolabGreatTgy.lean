import Derived.Test.YtijgopkhdjaolabGreatXTgx
import Derived.Maps.AppendAt
set_option linter.unusedSimpArgs false
set_option linter.unusedVariables false
set_option maxHeartbeats 16000000
set_option maxRecDepth 100000
namespace Go.Proofs.YtijgopkhdjaolabGreat
open Go.Maps Go.RowKit Go.Shelf Go.Sort
theorem qqf : (Tryz.prog.info? 3).map (fun i=>(i.zero,i.size,i.bytes))=some (some (I 0),1,8):=by kernel_rfl
structure Two9 (B E k:Nat) (w:World) (u1:Value) (n:Nat) (xs:List Value) (u2:Value) (m:Nat) (ys:List Value):Prop where
 o1:w.ownsRow B E k u1 n xs
 o2:w.ownsRow B E k u2 m ys
 ap:∀g,u1.ownBlock=some g→u2.ownBlock≠some g
theorem Two9.symm {B E k:Nat} {w:World} {u1 u2:Value} {n m:Nat} {xs ys:List Value} (h:Two9 B E k w u1 n xs u2 m ys):Two9 B E k w u2 m ys u1 n xs:=⟨h.o2,h.o1,fun g e e'=>h.ap g e' e⟩
theorem Two9.below {B E k:Nat} {w w':World} {u1 u2:Value} {n m:Nat} {xs ys:List Value} (h:Two9 B E k w u1 n xs u2 m ys) (hb:qB w w'):Two9 B E k w' u1 n xs u2 m ys:=⟨qad h.o1 hb,qad h.o2 hb,h.ap⟩
theorem Two9.left {B E k:Nat} {w w':World} {u1 u2 u3:Value} {n m n':Nat} {xs ys xs':List Value} (h:Two9 B E k w u1 n xs u2 m ys) (o:w'.ownsRow B E k u3 n' xs') (g:w.grownBy w' u1.ownBlock) (ha:u3.ownBlock=u1.ownBlock∨u3.ownBlock=some w.heap.size):Two9 B E k w' u3 n' xs' u2 m ys:=by
 refine ⟨o,h.o2.kept g ?_,fun b e e'=>?_⟩
 ·cases e:u2.ownBlock with
  | none=>exact .inl rfl
  | some b=>exact .inr (fun e'=>h.ap b e'.symm e)
 ·rcases ha with ha | ha
  ·exact h.ap b (ha ▸ e) e'
  ·rw [ha] at e
   cases e;have:=(h.o2.lt _ e').2;omega
theorem Two9.nil {B E k:Nat} {w:World}:Two9 B E k w (.slice none 0 0) 0 [] (.slice none 0 0) 0 []:=⟨World.ownsRow_nil _ _ _ _,World.ownsRow_nil _ _ _ _,fun g e=>by cases e⟩
theorem qh5 {a b:World} {r:Option Nat} (h:a.grownBy b r) {i:Nat} (hi:i < a.heap.size) (hr:some i≠r):b.heap[i]?=a.heap[i]?:=by
 obtain ⟨_,_,_,_,h5⟩:=h;exact h5 i hi hr
theorem qi6 {α β:Type} (f:α→β) {l:List α} {j:Nat} {x:α} (h:l[j]?=some x):(l.take (j+1)).map f=(l.take j).map f++[f x]:=by
 rw [List.take_add_one,h,Option.toList_some,List.map_append];rfl
theorem qfj {w:World} {base n:Nat} {s:Sl} {l:List Int} (hn:n=l.length) (ho:w.ownsRow base 3 1 (.slice s.a s.n s.c) n (l.map fun x=>I x)):RowsAt w 1 intP s l:=by
 subst hn;refine RwX.rows (P:=intP) ho ⟨by simp,fun j x hj i hi=>⟨I x,?_,rfl⟩⟩;obtain rfl:i=0:=by omega
 rw [Nat.mul_one,Nat.add_zero,List.getElem?_map,hj];rfl
end Go.Proofs.YtijgopkhdjaolabGreat
