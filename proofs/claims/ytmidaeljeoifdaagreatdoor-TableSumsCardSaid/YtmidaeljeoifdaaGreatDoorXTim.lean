import Derived.Test.YtmidaeljeoifdaaGreatDoorXTik
import Derived.Lib.SlicesCompact
namespace Go.Proofs.YtmidaeljeoifdaaGreatDoor
open Go.Maps Go.RowKit Go.Shelf Go.Sort
set_option linter.unusedSimpArgs false
set_option linter.unusedVariables false
set_option maxHeartbeats 16000000
set_option maxRecDepth 100000
theorem qst (w : World) (x : Is) (s3 s4 : Sl) (base : Nat) (hbase : base ≤ w.heap.size) (h3 : RowsAt w 1 intP s3 x.res) (hl3 : x.res.length ≤ 1048576) :
  Calls Tryz.prog 91 #[.agg #[S x.name,I x.cat,I x.prio, .slice s3.a s3.n s3.c, .slice s4.a s4.n s4.c]] w fun e w' => ∃ so : Sl,e = .returned (.agg #[I x.cat,I x.prio, .slice so.a so.n so.c]) ∧ qa9 w' base x.res (.slice so.a so.n so.c) ∧ Below w.heap.size w w' := by
 have B0 : Below w.heap.size w ((w.alloc (.cells #[S x.name,I x.cat,I x.prio, .slice s3.a s3.n s3.c, .slice s4.a s4.n s4.c] 88)).alloc (.cells #[I 0,I 0, .slice none 0 0] 72)) := (qa0 w _).trans ((qa0 _ _).mono (by simp))
 have hX : ((w.alloc (.cells #[S x.name,I x.cat,I x.prio, .slice s3.a s3.n s3.c, .slice s4.a s4.n s4.c] 88)).alloc (.cells #[I 0,I 0, .slice none 0 0] 72)).heap[w.heap.size]? = some (.cells #[S x.name,I x.cat,I x.prio, .slice s3.a s3.n s3.c, .slice s4.a s4.n s4.c] 88) := by
  rw [heap_alloc_old _ _ (by simp)]; exact heap_alloc_new w _
 have hY : ((w.alloc (.cells #[S x.name,I x.cat,I x.prio, .slice s3.a s3.n s3.c, .slice s4.a s4.n s4.c] 88)).alloc (.cells #[I 0,I 0, .slice none 0 0] 72)).heap[w.heap.size + 1]? = some (.cells #[I 0,I 0, .slice none 0 0] 72) := qda _ _ _
 have H3 : Hid (∀ W,Below w.heap.size w W → RowsAt W 1 intP s3 x.res) := fun W hW => h3.below hW (fun _ _ _ _ h => h)
 clear h3
 go_enter Tryz.func91,Tryz.ntmps91
 go_upto_region 1 with fail
 have HY : Hid _ := hY
 clear hY
 generalize hW : ((w.alloc (.cells #[S x.name,I x.cat,I x.prio, .slice s3.a s3.n s3.c, .slice s4.a s4.n s4.c] 88)).alloc (.cells #[I 0,I 0, .slice none 0 0] 72)) = W0 at *
 clear hW
 have HS : Hid (∀ W,Below W0.heap.size W0 W → W.cell? ⟨w.heap.size,1,none⟩ = some (I x.cat) ∧ W.cell? ⟨w.heap.size,2,none⟩ = some (I x.prio) ∧ W.cell? ⟨w.heap.size,3,none⟩ = some (.slice s3.a s3.n s3.c)) := fun W hW => by
  have h1 := (hW.block _ (qa1 hX)).trans hX
  exact ⟨by rw [cell_of_row W _ 1 _ _ (0,0) h1]; rfl,by rw [cell_of_row W _ 2 _ _ (0,0) h1]; rfl,by rw [cell_of_row W _ 3 _ _ (0,0) h1]; rfl⟩
 have HB : Hid (∀ W,Below W0.heap.size W0 W → Below w.heap.size w W) := fun W hW => B0.trans (hW.mono B0.size)
 have B1 : Below W0.heap.size W0 W0.drew := (Below.refl _ _).drew
 refine wp_region_held_drew (S := fun W' => W'.cell? ⟨w.heap.size,1,none⟩ = some (I x.cat) ∧ W'.cell? ⟨w.heap.size,2,none⟩ = some (I x.prio) ∧ W'.cell? ⟨w.heap.size,3,none⟩ = some (.slice s3.a s3.n s3.c)) (by kernel_rfl) (HS.out _ B1) (fun hHeld => ?_)
 refine wpAnyH_take (i := 0) (v := ?_) rfl (by kernel_rfl) (by kernel_rfl) (by kernel_rfl) (fun _ _ _ h => h) (Or.inl ⟨by rfl, ?_⟩) hHeld ?_
 rotate_left
 ·intro w' hSw
  obtain ⟨y1,y2,y3⟩ := hSw
  go_simp
  try with_reducible rfl
 try simp only [Act.put,q7a,q7b,q7c,q7d,q7e,q7f]
 refine wpAnyH_take (i := 1) (v := ?_) rfl (by kernel_rfl) (by kernel_rfl) (by kernel_rfl) (fun _ _ _ h => h) (Or.inl ⟨by rfl, ?_⟩) hHeld ?_
 rotate_left
 ·intro w' hSw
  obtain ⟨y1,y2,y3⟩ := hSw
  go_simp
  try with_reducible rfl
 try simp only [Act.put,q7a,q7b,q7c,q7d,q7e,q7f]
 refine wpAnyH_take (i := 2) (v := ?_) rfl (by kernel_rfl) (by kernel_rfl) (by kernel_rfl) (fun _ _ _ h => h) (Or.inl ⟨by rfl, ?_⟩) hHeld ?_
 rotate_left
 ·intro w' hSw
  obtain ⟨y1,y2,y3⟩ := hSw
  go_simp
  try with_reducible rfl
 try simp only [Act.put,q7a,q7b,q7c,q7d,q7e,q7f]
 refine wpAnyH_take (i := 3) (v := ?_) rfl (by kernel_rfl) (by kernel_rfl) (by kernel_rfl) (fun _ _ _ h => h) (Or.inl ⟨by rfl, ?_⟩) hHeld ?_
 rotate_left
 ·intro w' hSw
  obtain ⟨y1,y2,y3⟩ := hSw
  go_simp
  try with_reducible rfl
 try simp only [Act.put,q7a,q7b,q7c,q7d,q7e,q7f]
 refine wpAnyH_take (i := 4) (v := ?_) rfl (by kernel_rfl) (by kernel_rfl) (by kernel_rfl) (fun _ _ _ h => h) (Or.inl ⟨by rfl, ?_⟩) hHeld ?_
 rotate_left
 ·intro w' hSw
  obtain ⟨y1,y2,y3⟩ := hSw
  go_simp
  try with_reducible rfl
 try simp only [Act.put,q7a,q7b,q7c,q7d,q7e,q7f]
 refine wpAnyH_take (i := 5) (v := ?_) rfl (by kernel_rfl) (by kernel_rfl) (by kernel_rfl) (fun _ _ _ h => h) (Or.inl ⟨by rfl, ?_⟩) hHeld ?_
 rotate_left
 ·intro w' hSw
  obtain ⟨y1,y2,y3⟩ := hSw
  go_simp
  try with_reducible rfl
 try simp only [Act.put,q7a,q7b,q7c,q7d,q7e,q7f]
 refine wpAnyH_ready (rs := [6]) (by kernel_rfl) (by simp) ?_
 refine AllReadyH.cons rfl (fun K hK => ?_) AllReadyH.nil
 go_simp
 go_wp2_with (go_at_call 157; refine (qom _ s3 x.res (H3.out _ (HB.out _ B1)) hl3).mono ?_; rintro e w2 ⟨so,rfl,i2,b2⟩)
 have B2 : Below W0.heap.size W0 w2 := B1.trans (b2.mono B1.size)
 refine hK.out _ _ (HS.out _ B2) (fun hHeld => ?_)
 clear hK K
 try simp only [Act.put,q7a,q7b,q7c,q7d,q7e,q7f]
 refine wpAnyH_take (i := 7) (v := ?_) rfl (by kernel_rfl) (by kernel_rfl) (by kernel_rfl) (fun _ _ _ h => h) (Or.inl ⟨by rfl, ?_⟩) hHeld ?_
 rotate_left
 ·intro w' hSw
  obtain ⟨y1,y2,y3⟩ := hSw
  go_simp
  try with_reducible rfl
 try simp only [Act.put,q7a,q7b,q7c,q7d,q7e,q7f]
 have Y6 := (B2.block _ (qa1 HY.out)).trans HY.out
 have I6 : qa9 w2 base x.res (.slice so.a so.n so.c) := qby i2 (Nat.le_trans hbase ((HB.out _ B1).size))
 have hi8 : (Tryz.prog.info? 72).map (·.size) = some (#[I x.cat,I x.prio, .slice so.a so.n so.c] : Array Value).size := by kernel_rfl
 have g7 : w2.grownBy (w2.setRow (w.heap.size + 1) #[I x.cat,I x.prio, .slice so.a so.n so.c]) (some (w.heap.size + 1)) := Ce.grown_row _ _ _
 have B7 : Below w.heap.size w (w2.setRow (w.heap.size + 1) #[I x.cat,I x.prio, .slice so.a so.n so.c]) := (HB.out _ B2).grown g7 (HB.out _ B2).size (fun k e => by cases e; omega)
 have I7 := qcg I6 Y6 (by decide) g7
 have Y7 : (w2.setRow (w.heap.size + 1) #[I x.cat,I x.prio, .slice so.a so.n so.c]).heap[w.heap.size + 1]? = some (.cells #[I x.cat,I x.prio, .slice so.a so.n so.c] 72 (0,0)) := setRow_heap _ _ _ _ _ _ Y6
 refine wpAnyH_ready (rs := [8]) (by kernel_rfl) (by simp) ?_
 refine AllReadyH.cons rfl (fun K hK => ?_) AllReadyH.nil
 rw [if_pos (by kernel_rfl)]
 refine wp_store_row 72 _ _ rfl (w.heap.size + 1) _ rfl rfl 72 _ Y6 hi8 rfl (by simp [Value.oneCell']) ?_
 have hS7 := HS.out _ B2
 have hlt6 : w.heap.size < w2.heap.size := by have := qa1 Y6; omega
 have q : ∀ b,b ≠ w.heap.size + 1 → b < w2.heap.size → ∀ i,(w2.setRow (w.heap.size + 1) #[I x.cat,I x.prio, .slice so.a so.n so.c]).cell? ⟨b,i,none⟩ = w2.cell? ⟨b,i,none⟩ := fun b hb hl i => World.cell?_of_block (qay g7 hl (fun e => hb (Option.some.inj e)))
 refine hK.out _ _ ⟨by rw [q _ (by omega) hlt6]; exact hS7.1,by rw [q _ (by omega) hlt6]; exact hS7.2.1,by rw [q _ (by omega) hlt6]; exact hS7.2.2⟩ (fun hHeld => ?_)
 clear hK K q
 refine wpAnyH_done (by kernel_rfl) ?_ _
 go_wp2_with fail
 refine bodyPost_ret (v := .agg #[I x.cat,I x.prio, .slice so.a so.n so.c]) (results_cell_row Tryz.results91 _ _ (w.heap.size + 1) 72 _ (0,0) _ rfl Y7 Tryz.underlying72 rfl hi8) rfl ?_
 exact ⟨so,rfl,I7,B7⟩
theorem qvp (w : World) (c : Cf) (v : Vs) (h : CfAt w c v) (hn : c.isrs.length ≤ 1048576) (hr : ∀ x ∈ c.isrs,x.res.length ≤ 1048576) : Calls Tryz.prog 90 #[.slice v.i.a v.i.n v.i.c, .func (.func 91) #[] #[]] w fun e w' => (∃ a k,e = .returned (.slice a c.isrs.length k) ∧ RI w.heap.size w' (c.isrs.map mkI) (.slice a c.isrs.length k)) ∧ Below w.heap.size w w' :=
 (qhn w v.i c.isrs h.i hn 91 #[] (enters_of Tryz.func91 (by kernel_rfl) rfl) mkI (fun W hW x hx s3 h3 s4 h4 => qst W x s3 s4 w.heap.size hW.size h3 (hr x hx))).mono (fun e w' h => by
  obtain ⟨⟨a1,c1,xs,h1,h2,h3⟩,hb⟩ := h
  exact ⟨⟨a1,c1,h1,xs,by rw [List.length_map]; exact h2,h3⟩,hb⟩)
theorem qli (W : World) (g : Nat) (cur : Array Value) (cap q : Nat) (os : Array Obj) (l : List Int) (hg : W.heap[g]? = some (.cells cur 3 (0,0))) (hs : cur.size = cap) (hl : l.length ≤ cap) :
  (∃ cur',(grow (putRow (Value.int .i64) (Sort.ahead W q) g 0 l.toArray) os).heap[g]? = some (.cells cur' 3 (0,0)) ∧ cur'.size = cap ∧ cur'.toList.take l.length = l.map fun x => I x) ∧ W.grownBy (grow (putRow (Value.int .i64) (Sort.ahead W q) g 0 l.toArray) os) (some g) := by
 have hlt : g < W.heap.size := qa1 hg
 have hz : (grow (putRow (Value.int .i64) (Sort.ahead W q) g 0 l.toArray) os).heap = (W.heap.modify g (onCells (putCells (Value.int .i64) 0 l.toArray))) ++ os := rfl
 refine ⟨⟨putCells (Value.int .i64) 0 l.toArray cur, ?_, ?_, ?_⟩,⟨rfl,rfl,rfl, ?_, ?_⟩⟩
 ·rw [hz,Array.getElem?_append_left (by simpa using hlt),Array.getElem?_modify,if_pos rfl,hg]
  rfl
 ·simp [putCells,hs]
 ·apply List.ext_getElem?
  intro j
  by_cases hj : j < l.length
  ·rw [List.getElem?_take_of_lt hj,List.getElem?_map,List.getElem?_eq_getElem hj]
   simp only [putCells,Array.toList_mapIdx,List.getElem?_mapIdx]
   rw [List.getElem?_eq_getElem (by simpa using (by omega : j < cur.size))]
   simp [hj,I]
  ·rw [List.getElem?_eq_none (by simp; omega),List.getElem?_eq_none (by simp; omega)]
 ·rw [hz]; simp
 ·intro k hk hne
  rw [hz,Array.getElem?_append_left (by simpa using hk),Array.getElem?_modify,if_neg (fun e => hne (by rw [e]))]
theorem qhp {W : World} {base g cap : Nat} {l : List Int} (h : qa9 W base l (.slice (some ⟨g,0,none⟩) l.length cap)) : Holds (Value.int .i64) W g 0 l.toArray ∧ g < W.heap.size ∧ base ≤ g ∧ l.length ≤ cap ∧ cap ≤ maxLen ∧ ∃ cur,W.heap[g]? = some (.cells cur 3 (0,0)) ∧ cur.size = cap := by
 obtain ⟨h1,h2 | ⟨g',cap',cur,hv,hb,hg,hn,hm,hs,ht⟩⟩ := h
 ·cases h2.1
 ·cases hv
  rw [Nat.mul_one] at hs ht
  refine ⟨fun j hj => ?_,qa1 hg,hb,hn,hm,cur,hg,hs⟩
  have hj' : j < l.length := by simpa using hj
  have hc : cur[j]? = some (I l[j]) := by
   have : (cur.toList.take l.length)[j]? = (l.map fun x => I x)[j]? := by rw [ht]
   rw [List.getElem?_take_of_lt hj',List.getElem?_map,List.getElem?_eq_getElem hj'] at this
   rw [← Array.getElem?_toList]
   exact this
  rw [Nat.zero_add]
  refine ⟨?_, ?_⟩
  ·rw [cell_of_row _ _ j _ _ (0,0) hg,hc]
   simp [hj',I]
  ·simp [World.frozen?,hg]
theorem qqu (d : List Int) (x : Int) : x ∈ Lib.compact d ↔ x ∈ d := by
 unfold Lib.compact Lib.compactUpTo
 rw [List.mem_map]
 constructor
 ·rintro ⟨j,hj,rfl⟩
  rw [List.mem_filter,List.mem_range] at hj
  rw [List.getElem!_toArray,getElem!_pos d j hj.1]
  exact List.getElem_mem _
 ·intro hx
  obtain ⟨j0,hj0⟩ := List.mem_iff_getElem?.1 hx
  suffices H : ∀ n j : Nat,j ≤ n → d[j]? = some x → ∃ k,k ∈ (List.range d.length).filter (Lib.keeps d.toArray) ∧ d.toArray[k]! = x from H j0 j0 (Nat.le_refl _) hj0
  intro n
  induction n with
  | zero =>
   intro j hj h
   obtain rfl : j = 0 := by omega
   have hl := (List.getElem?_eq_some_iff.1 h)
   refine ⟨0, ?_, ?_⟩
   ·rw [List.mem_filter,List.mem_range]; exact ⟨hl.1,by simp [Lib.keeps]⟩
   ·rw [List.getElem!_toArray,getElem!_pos d 0 hl.1]; exact hl.2
  | succ n ih =>
   intro j hj h
   have hl := (List.getElem?_eq_some_iff.1 h)
   by_cases hk : Lib.keeps d.toArray j = true
   ·refine ⟨j, ?_, ?_⟩
    ·rw [List.mem_filter,List.mem_range]; exact ⟨hl.1,hk⟩
    ·rw [List.getElem!_toArray,getElem!_pos d j hl.1]; exact hl.2
   ·have hk' : j ≠ 0 ∧ d.toArray[j]! = d.toArray[j - 1]! := by
     simp [Lib.keeps] at hk
     simpa using hk
    refine ih (j - 1) (by omega) ?_
    have h2 := hk'.2
    have hjl := hl.1
    rw [List.getElem!_toArray,List.getElem!_toArray,getElem!_pos d j hl.1,getElem!_pos d (j - 1) (by omega)] at h2
    rw [List.getElem?_eq_getElem (by omega), ← h2]
    exact congrArg some hl.2
theorem qon (d : List Int) (hd : d.Pairwise fun x y => y ≤ x) : (Lib.compact d).Pairwise fun x y => y < x := by
 unfold Lib.compact Lib.compactUpTo
 rw [List.pairwise_map,List.pairwise_filter]
 refine List.pairwise_lt_range.imp_of_mem (fun {i j} hi hj hlt ki kj => ?_)
 rw [List.mem_range] at hi hj
 have hk' : d.toArray[j]! ≠ d.toArray[j - 1]! := by
  have : ¬ j = 0 := by omega
  simpa [Lib.keeps,this] using kj
 rw [List.getElem!_toArray,List.getElem!_toArray,getElem!_pos d j hj,getElem!_pos d (j - 1) (by omega)] at hk'
 rw [List.getElem!_toArray,List.getElem!_toArray,getElem!_pos d j hj,getElem!_pos d i hi]
 have h1 := List.pairwise_iff_getElem.1 hd (j - 1) j (by omega) hj (by omega)
 rcases Nat.lt_or_ge i (j - 1) with h | h
 ·have h2 := List.pairwise_iff_getElem.1 hd i (j - 1) hi (by omega) h
  omega
 ·obtain rfl : i = j - 1 := by omega
  omega
theorem qir (d : List Int) : (Lib.compact d).length ≤ d.length := by
 unfold Lib.compact Lib.compactUpTo
 rw [List.length_map]
 exact Nat.le_trans (List.length_filter_le _ _) (by simp)
def prL9 (l : List Tk) : List Int := Lib.compact ((l.map fun x => x.prio).mergeSort fun x y => decide (y ≤ x))
theorem qmy (l : List Tk) (p : Int) : p ∈ prL9 l ↔ ∃ x ∈ l,x.prio = p := by
 unfold prL9
 rw [qqu,(List.mergeSort_perm _ _).mem_iff,List.mem_map]
theorem qgt (l : List Tk) : (prL9 l).Pairwise fun x y => y < x := by
 refine qon _ ?_
 refine (List.pairwise_mergeSort (le := fun x y : Int => decide (y ≤ x)) (fun a b c h1 h2 => ?_) (fun a b => ?_) _).imp (fun {a b} h => by simpa using h)
 ·simp at *; omega
 ·simp; omega
theorem qmz (l : List Tk) : (prL9 l).length ≤ l.length := by
 refine Nat.le_trans (qir _) ?_
 rw [List.length_mergeSort,List.length_map]
 exact Nat.le_refl _
end Go.Proofs.YtmidaeljeoifdaaGreatDoor
