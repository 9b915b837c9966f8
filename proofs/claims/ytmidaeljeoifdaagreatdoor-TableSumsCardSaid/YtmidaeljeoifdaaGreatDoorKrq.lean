import Derived.Test.YtmidaeljeoifdaaGreatDoorKrp
namespace Go.Proofs.YtmidaeljeoifdaaGreatDoor
set_option maxHeartbeats 16000000
open Go.RowKit
set_option linter.unusedVariables false
def ActAns (w : World) (a : Ac) (lo hi : Int) (e : Ending) (w' : World) : Prop := e = .returned (.agg (actC a lo hi)) ∧ Below w.heap.size w w'
theorem res_act {fn : Func} {n : Nat} (hf : fn.results = #[.cell n 312]) (tmps : Array Value) (b : Nat) (w : World) (v0 v1 v2 v3 v4 v5 : Value)
  (h2 : tmps[n]? = some (.pointer (some ⟨b, 0, none⟩))) (hk : w.heap[b]? = some (.cells #[v0, v1, v2, v3, v4, v5] 312 (0, 0))) :
  (results fn tmps).run Tryz.prog w = .ok (.agg #[v0, v1, v2, v3, v4, v5]) w := by
 have a1 := fun i => cell_of_row w b i _ _ (0, 0) hk
 have z0 := a1 0; have z1 := a1 1; have z2 := a1 2; have z3 := a1 3; have z4 := a1 4; have z5 := a1 5
 simp at z0 z1 z2 z3 z4 z5
 simp [results, hf, go_sem, h2, z0, z1, z2, z3, z4, z5]
theorem heap_two (w : World) (a b : Obj) : ((w.alloc a).alloc b).heap[w.heap.size + 1]? = some b := by
 have := heap_alloc_new (w.alloc a) b
 rwa [show (w.alloc a).heap.size = w.heap.size + 1 by simp] at this
theorem heap_three (w : World) (a b c : Obj) : (((w.alloc a).alloc b).alloc c).heap[w.heap.size + 1]? = some b := by
 rw [heap_alloc_old ((w.alloc a).alloc b) c (by simp)]
 exact heap_two w a b
theorem alarmAct_any (w : World) (c : Cf) (v : Vs) (h : CfAt w c v) (i : Nat) (x : Al) (hi : c.als[i]? = some x) :
  Calls Tryz.prog 241 #[.agg (cfC c v), I i] w fun e w' => ActAns w x.ac 1 3 e w' := by
 have hn : v.a.n = c.als.length := h.a.n
 have hlt : (i : Int) < v.a.n := by have := (List.getElem?_eq_some_iff.1 hi).1; omega
 obtain ⟨g, off, s6, e, hg, a0, a1, a2, a3, a4, a5, a6, a7, a8, r6⟩ := al_at h hi
 have hne : g ≠ w.heap.size := by omega
 have hb := below_alloc w
 have hb2 := fun o o' => (hb o).trans ((below_alloc (w.alloc o) o').mono (hb o).size)
 have f15 : ∀ h : 15 < (cfC c v).size, (cfC c v)[15] = .slice v.a.a v.a.n v.a.c := fun _ => rfl
 have hs18 : (cfC c v).size = 18 := rfl
 generalize cfC c v = C at *
 replace f15 := f15 (by omega)
 rw [e] at f15
 clear hi hn
 go_enter Tryz.func241, Tryz.ntmps241
 go_wp2
 exact bodyPost_ret (v := .agg (actC x.ac 1 3)) (res_act Tryz.results241 _ (w.heap.size + 1) _ _ _ _ _ _ _ rfl (heap_two _ _ _)) rfl ⟨rfl, hb2 _ _⟩
theorem messageAct_any (w : World) (c : Cf) (v : Vs) (h : CfAt w c v) (i : Nat) (x : Ms) (hi : c.msgs[i]? = some x) :
  Calls Tryz.prog 256 #[.agg (cfC c v), I i] w fun e w' => ActAns w x.ac 0 (if x.kind == 1 then 0 else 4) e w' := by
 have hn : v.s.n = c.msgs.length := h.s.n
 have hlt : (i : Int) < v.s.n := by have := (List.getElem?_eq_some_iff.1 hi).1; omega
 obtain ⟨g, off, e, hg, a0, a1, a2, a3, a4, a5, a6, a7, a8, a9⟩ := ms_at h hi
 have hne : g ≠ w.heap.size := by omega
 have hb := below_alloc w
 have hb2 := fun o o' => (hb o).trans ((below_alloc (w.alloc o) o').mono (hb o).size)
 have hb3 := fun o o' o'' => (hb2 o o').trans ((below_alloc ((w.alloc o).alloc o') o'').mono (hb2 o o').size)
 have f17 : ∀ h : 17 < (cfC c v).size, (cfC c v)[17] = .slice v.s.a v.s.n v.s.c := fun _ => rfl
 have hs18 : (cfC c v).size = 18 := rfl
 generalize cfC c v = C at *
 replace f17 := f17 (by omega)
 rw [e] at f17
 clear hi hn
 cases hk : x.kind == 1 with
 | true =>
  rw [if_pos rfl]
  go_enter Tryz.func256, Tryz.ntmps256
  go_wp2
  all_goals exact bodyPost_ret (v := .agg (actC x.ac 0 0)) (res_act Tryz.results256 _ (w.heap.size + 1) _ _ _ _ _ _ _ rfl (heap_three _ _ _ _)) rfl ⟨rfl, hb3 _ _ _⟩
 | false =>
  rw [if_neg (by decide)]
  go_enter Tryz.func256, Tryz.ntmps256
  go_wp2
  all_goals exact bodyPost_ret (v := .agg (actC x.ac 0 4)) (res_act Tryz.results256 _ (w.heap.size + 1) _ _ _ _ _ _ _ rfl (heap_three _ _ _ _)) rfl ⟨rfl, hb3 _ _ _⟩
end Go.Proofs.YtmidaeljeoifdaaGreatDoor
