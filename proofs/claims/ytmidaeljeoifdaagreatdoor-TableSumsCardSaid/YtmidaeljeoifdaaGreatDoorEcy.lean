import Derived.Test.YtmidaeljeoifdaaGreatDoorEcx
namespace Go.Proofs.YtmidaeljeoifdaaGreatDoor.Ce
set_option maxRecDepth 100000
set_option maxHeartbeats 16000000
open Go.RowKit Go.Maps
set_option linter.unusedVariables false
set_option linter.unusedSimpArgs false
theorem wpList_top_at {w : World} {ops : Array Oper} {rest : List Oper} {o : Oper} {a : Act} {Q : Exit → Act → World → Prop} (hg : o.guard = none) (m x : Operand) (t : TypeId) (hop : o.op = Op.lookup t m x false) (ht : Tryz.prog.underlying t = some (.map 3 209)) (b n : Nat) (ks : List Nat) (f : Nat → Option Int)
  (hm : a.eval m = .map (some b)) (h : MapT w b n ks f) (j : Nat) (hj : j < 9223372036854775808) (hx : a.eval x = .int .i64 (j : Int)) (hK : wpList Tryz.prog ops Q rest (a.put o.dst (.agg (topC (f j)))) w) : wpList Tryz.prog ops Q (o :: rest) a w :=
 wpList_plain hg fun K hKK => wp_top_at m x t hop ht b n ks f hm h j hj hx (hKK _ _ hK)
def topT (c : Cf) (k : Nat) : Nat → Option Int := (c.tasks.take k).foldl (fun f x => addL c x.prio x.res f) (fun _ => none)
def topI (c : Cf) (k : Nat) : Nat → Option Int := (c.isrs.take k).foldl (fun f x => addL c x.prio x.res f) (topT c c.tasks.length)
theorem topT_succ {c : Cf} {k : Nat} {x : Tk} (h : c.tasks[k]? = some x) : topT c (k + 1) = addL c x.prio x.res (topT c k) := by
 unfold topT
 rw [List.take_add_one, h, Option.toList_some, List.foldl_append]
 rfl
theorem topI_succ {c : Cf} {k : Nat} {x : Is} (h : c.isrs[k]? = some x) : topI c (k + 1) = addL c x.prio x.res (topI c k) := by
 unfold topI
 rw [List.take_add_one, h, Option.toList_some, List.foldl_append]
 rfl
def ceilE (c : Cf) (i : Nat) : Int := toldI (topI c c.isrs.length (rootN c (i : Int)).toNat)
def ceilL (c : Cf) : List Int := (List.range c.ress.length).map (ceilE c)
def OwnI (w : World) (l : List Int) (e : Ending) (w' : World) : Prop := ∃ u, e = .returned u ∧ w'.ownsRow w.heap.size 3 1 u l.length (l.map fun x => I x) ∧ Below w.heap.size w w'
def rowJ (c : Cf) (j : Nat) : List Value := (List.range c.ress.length).map (fun i => if i < j then I (ceilE c i) else I 0)
theorem rowJ_set (c : Cf) (j : Nat) : (rowJ c j).set j (I (ceilE c j)) = rowJ c (j + 1) := by
 unfold rowJ
 apply List.ext_getElem?
 intro i
 rw [List.getElem?_set]
 by_cases hij : j = i
 ·subst hij
  by_cases hl : j < c.ress.length
  ·simp [hl]
  ·simp [hl]
 ·rw [if_neg hij]
  by_cases hl : i < c.ress.length
  ·simp only [List.getElem?_map, List.getElem?_range hl, Option.map_some]
   by_cases h1 : i < j
   ·rw [if_pos h1, if_pos (by omega)]
   ·rw [if_neg h1, if_neg (by omega)]
  ·simp [hl]
theorem rowJ_end (c : Cf) : rowJ c c.ress.length = (ceilL c).map fun x => I x := by
 unfold rowJ ceilL
 rw [List.map_map]
 apply List.map_congr_left
 intro i hi
 rw [if_pos (List.mem_range.1 hi)]
 rfl
theorem rowJ_zero (c : Cf) : rowJ c 0 = List.replicate c.ress.length (.int .i64 0) := by
 unfold rowJ
 apply List.ext_getElem?
 intro i
 by_cases hl : i < c.ress.length
 ·simp [hl]
 ·simp [hl]
theorem users_tops (w : World) (c : Cf) (v : Vs) (h : CfAt w c v) (hn : c.ress.length ≤ 8796093022208) (hmt : meetB c = true) (hends : endsB c = true) (b : Nat) (hE : EndsAt w b c) (W4 : World) (hs4 : W4.heap.size = w.heap.size + 4) (hb4 : Below w.heap.size w W4)
  (q1 : BoxM W4 (w.heap.size + 3) (w.heap.size + 2) 204) (q2 : BoxM W4 (w.heap.size + 1) b 152) (q3 : BoxC W4 w.heap.size c v) (q4 : MapT W4 (w.heap.size + 2) c.ress.length [] (fun _ => none)) :
  Calls Tryz.prog 130 #[.agg (cfC c v), .func (.func 131) #[] #[.pointer (some ⟨w.heap.size + 3, 0, none⟩), .pointer (some ⟨w.heap.size + 1, 0, none⟩)]] W4 fun e w' => e = .returned (.tuple #[]) ∧
   (BoxM w' (w.heap.size + 3) (w.heap.size + 2) 204 ∧ BoxM w' (w.heap.size + 1) b 152 ∧ BoxC w' w.heap.size c v ∧ EndsAt w' b c ∧ Below w.heap.size w w' ∧ ∃ ks, MapT w' (w.heap.size + 2) c.ress.length ks (topI c c.isrs.length)) := by
 have hbl : b < w.heap.size := by obtain ⟨ks, hM, _⟩ := hE; exact hM.block
 refine (eachUser_any W4 c v 131 _ (enters_of Tryz.func131 (by kernel_rfl) rfl)
  (fun j W => BoxM W (w.heap.size + 3) (w.heap.size + 2) 204 ∧ BoxM W (w.heap.size + 1) b 152 ∧ BoxC W w.heap.size c v ∧ EndsAt W b c ∧ Below w.heap.size w W ∧ ∃ ks, MapT W (w.heap.size + 2) c.ress.length ks (topT c j))
  (fun j W => BoxM W (w.heap.size + 3) (w.heap.size + 2) 204 ∧ BoxM W (w.heap.size + 1) b 152 ∧ BoxC W w.heap.size c v ∧ EndsAt W b c ∧ Below w.heap.size w W ∧ ∃ ks, MapT W (w.heap.size + 2) c.ress.length ks (topI c j))
  ?_ ?_ (fun j W hI => h.below hI.2.2.2.2.1) (fun j W hI => h.below hI.2.2.2.2.1) ⟨q1, q2, q3, hE.below hb4, hb4, [], q4⟩ (fun W hI => hI) ?_ ?_)
 ·rintro j W W' ⟨h1, h2, h3, h4, h5, ks, h6⟩ hb
  exact ⟨(hb.block _ (heap_lt h1)).trans h1, (hb.block _ (heap_lt h2)).trans h2, (hb.block _ (heap_lt h3)).trans h3, h4.below hb, h5.trans (hb.mono h5.size), ks, h6.below hb⟩
 ·rintro j W W' ⟨h1, h2, h3, h4, h5, ks, h6⟩ hb
  exact ⟨(hb.block _ (heap_lt h1)).trans h1, (hb.block _ (heap_lt h2)).trans h2, (hb.block _ (heap_lt h3)).trans h3, h4.below hb, h5.trans (hb.mono h5.size), ks, h6.below hb⟩
 ·rintro j x s W hx hr ⟨h1, h2, h3, h4, h5, ks, h6⟩ hlt
  obtain ⟨hid, hlen⟩ := meet_task hmt hn (List.mem_of_getElem? hx)
  refine (ceilings1_any W c v hn hends false j x.prio s x.res hr hid _ _ _ b ks _ h1 h2 h6 h4 (by omega)).mono ?_
  rintro e w' ⟨rfl, hg, ks', hM⟩
  refine ⟨rfl, ⟨heap_kept h1 hg (fun e => by have := Option.some.inj e; omega), heap_kept h2 hg (fun e => by have := Option.some.inj e; omega), heap_kept h3 hg (fun e => by have := Option.some.inj e; omega), h4.kept hg (fun e => by have := Option.some.inj e; omega), h5.grown hg h5.size (fun k e => by cases e; omega), ks', by rw [topT_succ hx]; exact hM⟩, ?_, hg.size⟩
  exact hg.block _ hlt (fun e => by have := Option.some.inj e; omega)
 ·rintro j x s W hx hr ⟨h1, h2, h3, h4, h5, ks, h6⟩ hlt
  obtain ⟨hid, hlen⟩ := meet_isr hmt hn (List.mem_of_getElem? hx)
  refine (ceilings1_any W c v hn hends true j x.prio s x.res hr hid _ _ _ b ks _ h1 h2 h6 h4 (by omega)).mono ?_
  rintro e w' ⟨rfl, hg, ks', hM⟩
  refine ⟨rfl, ⟨heap_kept h1 hg (fun e => by have := Option.some.inj e; omega), heap_kept h2 hg (fun e => by have := Option.some.inj e; omega), heap_kept h3 hg (fun e => by have := Option.some.inj e; omega), h4.kept hg (fun e => by have := Option.some.inj e; omega), h5.grown hg h5.size (fun k e => by cases e; omega), ks', by rw [topI_succ hx]; exact hM⟩, ?_, hg.size⟩
  exact hg.block _ hlt (fun e => by have := Option.some.inj e; omega)
end Go.Proofs.YtmidaeljeoifdaaGreatDoor.Ce
