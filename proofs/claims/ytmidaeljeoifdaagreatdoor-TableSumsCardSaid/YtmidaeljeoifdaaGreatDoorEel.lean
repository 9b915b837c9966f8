import Derived.Test.YtmidaeljeoifdaaGreatDoorEek
namespace Go.Proofs.YtmidaeljeoifdaaGreatDoor.Ce
set_option maxHeartbeats 16000000
open Go.RowKit Go.Maps
set_option linter.unusedVariables false
set_option linter.unusedSimpArgs false
structure TwoN (w : World) (base b1 b2 : Nat) (u1 u2 : Value) (l1 l2 : List Int) : Prop where
 x1 : BoxS w b1 u1
 x2 : BoxS w b2 u2
 o1 : w.ownsRow base 3 1 u1 l1.length (l1.map fun x => I x)
 o2 : w.ownsRow base 3 1 u2 l2.length (l2.map fun x => I x)
 ap : ∀ g, u1.ownBlock = some g → u2.ownBlock ≠ some g
theorem TwoN.below {w w' : World} {base b1 b2 : Nat} {u1 u2 : Value} {l1 l2 : List Int} (h : TwoN w base b1 b2 u1 u2 l1 l2) (hb : Below w.heap.size w w') : TwoN w' base b1 b2 u1 u2 l1 l2 :=
 ⟨(hb.block _ (heap_lt h.x1)).trans h.x1, (hb.block _ (heap_lt h.x2)).trans h.x2, own_below h.o1 hb, own_below h.o2 hb, h.ap⟩
def cntT (c : Cf) (j : Nat) : List Int := (c.tasks.take j).map (fun x => (cntU c false x.res : Int))
def cntI (c : Cf) (j : Nat) : List Int := (c.isrs.take j).map (fun x => (cntU c true x.res : Int))
theorem cntT_succ {c : Cf} {j : Nat} {x : Tk} (h : c.tasks[j]? = some x) : cntT c (j + 1) = cntT c j ++ [(cntU c false x.res : Int)] := by
 unfold cntT
 rw [List.take_add_one, h, Option.toList_some, List.map_append]
 rfl
theorem cntI_succ {c : Cf} {j : Nat} {x : Is} (h : c.isrs[j]? = some x) : cntI c (j + 1) = cntI c j ++ [(cntU c true x.res : Int)] := by
 unfold cntI
 rw [List.take_add_one, h, Option.toList_some, List.map_append]
 rfl
theorem cntT_len (c : Cf) (j : Nat) : (cntT c j).length ≤ c.tasks.length := by
 unfold cntT
 rw [List.length_map, List.length_take]
 omega
theorem cntI_len (c : Cf) (j : Nat) : (cntI c j).length ≤ c.isrs.length := by
 unfold cntI
 rw [List.length_map, List.length_take]
 omega
theorem counts_users (w w3 : World) (c : Cf) (v : Vs) (h : CfAt w c v) (hn : c.ress.length ≤ 8796093022208) (hnt : c.tasks.length ≤ 8796093022208) (hni : c.isrs.length ≤ 8796093022208) (hm : meetB c = true)
  (hb3 : Below w.heap.size w w3) (hs3 : w3.heap.size = w.heap.size + 3) (hc3 : BoxC w3 w.heap.size c v) (ht3 : BoxS w3 (w.heap.size + 1) (.slice none 0 0)) (hi3 : BoxS w3 (w.heap.size + 2) (.slice none 0 0)) :
  Calls Tryz.prog 130 #[.agg (cfC c v), .func (.func 134) #[] #[.pointer (some ⟨w.heap.size, 0, none⟩), .pointer (some ⟨w.heap.size + 2, 0, none⟩), .pointer (some ⟨w.heap.size + 1, 0, none⟩)]] w3 fun e w' => e = .returned (.tuple #[]) ∧ ∃ ui ut, TwoN w' (w.heap.size + 4) (w.heap.size + 2) (w.heap.size + 1) ui ut (cntI c c.isrs.length) (cntT c c.tasks.length) ∧ Below w.heap.size w w' := by
 refine (eachUser_any w3 c v 134 #[.pointer (some ⟨w.heap.size, 0, none⟩), .pointer (some ⟨w.heap.size + 2, 0, none⟩), .pointer (some ⟨w.heap.size + 1, 0, none⟩)] (enters_of Tryz.func134 (by kernel_rfl) rfl)
  (fun j W => ∃ ui ut, TwoN W (w.heap.size + 4) (w.heap.size + 2) (w.heap.size + 1) ui ut [] (cntT c j) ∧ BoxC W w.heap.size c v ∧ Below w.heap.size w W)
  (fun j W => ∃ ui ut, TwoN W (w.heap.size + 4) (w.heap.size + 2) (w.heap.size + 1) ui ut (cntI c j) (cntT c c.tasks.length) ∧ BoxC W w.heap.size c v ∧ Below w.heap.size w W)
  (fun j W W' ⟨ui, ut, h1, h2, h3⟩ hb => ⟨ui, ut, h1.below hb, (hb.block _ (heap_lt h2)).trans h2, h3.trans (hb.mono h3.size)⟩)
  (fun j W W' ⟨ui, ut, h1, h2, h3⟩ hb => ⟨ui, ut, h1.below hb, (hb.block _ (heap_lt h2)).trans h2, h3.trans (hb.mono h3.size)⟩)
  (fun j W ⟨_, _, _, _, h3⟩ => h.below h3) (fun j W ⟨_, _, _, _, h3⟩ => h.below h3)
  ⟨_, _, ⟨hi3, ht3, World.ownsRow_nil _ _ _ _, World.ownsRow_nil _ _ _ _, (fun g h => by cases h)⟩, hc3, hb3⟩
  (fun W ⟨ui, ut, h1, h2, h3⟩ => ⟨ui, ut, h1, h2, h3⟩) ?_ ?_).mono ?_
 ·rintro j x s W hx hr ⟨ui, ut, h1, h2, h3⟩ hlt
  have hme := meet_task hm hn (List.mem_of_getElem? hx)
  refine (counts1_any W c v (h.below h3) false j x.prio s x.res hr hme.1 hme.2 w.heap.size (w.heap.size + 2) (w.heap.size + 1) (w.heap.size + 4) h2 ⟨by omega, by omega, by omega⟩ ui ut [] (cntT c j) ⟨h1.x1, h1.x2, h1.o1, h1.o2, h1.ap, by omega, by omega, by omega, by omega⟩ (by simp) (Nat.le_trans (cntT_len c j) hnt)).mono ?_
  rintro e w' ⟨rfl, hf, ui', ut', ht⟩
  simp only [Bool.false_eq_true, if_false] at ht
  rw [← cntT_succ hx] at ht
  refine ⟨rfl, ⟨ui', ut', ⟨ht.x1, ht.x2, ht.o1, ht.o2, ht.ap⟩, (hf.block _ (by omega) (by omega) (by omega)).trans h2, h3.trans (hf.below (by omega) (by omega) (by omega))⟩, ?_, hf.size⟩
  exact hf.block _ (by omega) (by omega) (by omega)
 ·rintro j x s W hx hr ⟨ui, ut, h1, h2, h3⟩ hlt
  have hme := meet_isr hm hn (List.mem_of_getElem? hx)
  refine (counts1_any W c v (h.below h3) true j x.prio s x.res hr hme.1 hme.2 w.heap.size (w.heap.size + 2) (w.heap.size + 1) (w.heap.size + 4) h2 ⟨by omega, by omega, by omega⟩ ui ut (cntI c j) (cntT c c.tasks.length) ⟨h1.x1, h1.x2, h1.o1, h1.o2, h1.ap, by omega, by omega, by omega, by omega⟩ (Nat.le_trans (cntI_len c j) hni) (Nat.le_trans (cntT_len c _) hnt)).mono ?_
  rintro e w' ⟨rfl, hf, ui', ut', ht⟩
  simp only [if_true] at ht
  rw [← cntI_succ hx] at ht
  refine ⟨rfl, ⟨ui', ut', ⟨ht.x1, ht.x2, ht.o1, ht.o2, ht.ap⟩, (hf.block _ (by omega) (by omega) (by omega)).trans h2, h3.trans (hf.below (by omega) (by omega) (by omega))⟩, ?_, hf.size⟩
  exact hf.block _ (by omega) (by omega) (by omega)
 ·rintro e w' ⟨rfl, ui, ut, h1, h2, h3⟩
  exact ⟨rfl, ui, ut, h1, h3⟩
end Go.Proofs.YtmidaeljeoifdaaGreatDoor.Ce
