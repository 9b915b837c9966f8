import Derived.Test.YtmidaeljeoifdaaGreatDoorKna
import Derived.Test.YtmidaeljeoifdaaGreatDoorKnk
import Derived.Test.YtmidaeljeoifdaaGreatDoorKlb
import Derived.Test.YtmidaeljeoifdaaGreatDoorKtb
import Derived.Test.YtmidaeljeoifdaaGreatDoorKtc
import Derived.Test.YtmidaeljeoifdaaGreatDoorKth
namespace Go.Proofs.YtmidaeljeoifdaaGreatDoor
set_option maxRecDepth 100000
set_option maxHeartbeats 16000000
open Go.RowKit
set_option linter.unusedVariables false
theorem rone_res (w : World) (c : Cf) (v : Vs) (h : CfAt w c v) (i : Nat) (x : Rs) (hi : c.ress[i]? = some x) (hl : c.ress.length ≤ 8796093022208) : Calls Tryz.prog 97 #[.agg (cfC c v), .string ⟨#[82, 69, 83, 79, 85, 82, 67, 69]⟩, I i] w fun e w' => e = .returned (I (resE c i x)) ∧ Below w.heap.size w w' := by
 have hi18 : (Tryz.prog.info? 47).map (·.size) = some (cfC c v).size := by rw [show (cfC c v).size = 18 from rfl]; kernel_rfl
 have hV0 := heap_alloc_new w (.cells (cfC c v) 47)
 have hb := below_alloc w (.cells (cfC c v) 47)
 have k1 := rresource_any _ c v (h.below hb) i x hi hl
 generalize cfC c v = C at *
 generalize resE c i x = R at *
 clear h hi
 go_enter Tryz.func97, Tryz.ntmps97
 go_wp2_with (first | (refine wpList_load_row rfl 47 _ rfl w.heap.size rfl 47 _ (0, 0) _ hV0 Tryz.underlying47 rfl hi18 ?_) | (go_at_call 161; refine k1.mono ?_; clear k1; rintro e w1 ⟨rfl, hb1⟩))
 go_ret
 exact ⟨rfl, hb.trans (hb1.mono hb.size)⟩
theorem rone_task (w : World) (c : Cf) (v : Vs) (h : CfAt w c v) (i : Nat) (x : Tk) (hi : c.tasks[i]? = some x) : Calls Tryz.prog 97 #[.agg (cfC c v), .string ⟨#[84, 65, 83, 75]⟩, I i] w fun e w' => e = .returned (I (tskE c x)) ∧ Below w.heap.size w w' := by
 have hi18 : (Tryz.prog.info? 47).map (·.size) = some (cfC c v).size := by rw [show (cfC c v).size = 18 from rfl]; kernel_rfl
 have hV0 := heap_alloc_new w (.cells (cfC c v) 47)
 have hb := below_alloc w (.cells (cfC c v) 47)
 have k1 := rtask_any _ c v (h.below hb) i x hi
 generalize cfC c v = C at *
 generalize tskE c x = R at *
 clear h hi
 go_enter Tryz.func97, Tryz.ntmps97
 go_wp2_with (first | (refine wpList_load_row rfl 47 _ rfl w.heap.size rfl 47 _ (0, 0) _ hV0 Tryz.underlying47 rfl hi18 ?_) | (go_at_call 162; refine k1.mono ?_; clear k1; rintro e w1 ⟨rfl, hb1⟩))
 go_ret
 exact ⟨rfl, hb.trans (hb1.mono hb.size)⟩
theorem rone_ctr (w : World) (c : Cf) (v : Vs) (h : CfAt w c v) (i : Nat) (x : Ct) (hi : c.ctrs[i]? = some x) : Calls Tryz.prog 97 #[.agg (cfC c v), .string ⟨#[67, 79, 85, 78, 84, 69, 82]⟩, I i] w fun e w' => e = .returned (I (ctrE x)) ∧ Below w.heap.size w w' := by
 have hi18 : (Tryz.prog.info? 47).map (·.size) = some (cfC c v).size := by rw [show (cfC c v).size = 18 from rfl]; kernel_rfl
 have hV0 := heap_alloc_new w (.cells (cfC c v) 47)
 have hb := below_alloc w (.cells (cfC c v) 47)
 have k1 := rcounter_any _ c v (h.below hb) i x hi
 generalize cfC c v = C at *
 generalize ctrE x = R at *
 clear h hi
 go_enter Tryz.func97, Tryz.ntmps97
 go_wp2_with (first | (refine wpList_load_row rfl 47 _ rfl w.heap.size rfl 47 _ (0, 0) _ hV0 Tryz.underlying47 rfl hi18 ?_) | (go_at_call 163; refine k1.mono ?_; clear k1; rintro e w1 ⟨rfl, hb1⟩))
 go_ret
 exact ⟨rfl, hb.trans (hb1.mono hb.size)⟩
theorem rone_alm (w : World) (c : Cf) (v : Vs) (h : CfAt w c v) (i : Nat) (x : Al) (hi : c.als[i]? = some x) (hsz : x.ac.name.length < 9223372036854775808) : Calls Tryz.prog 97 #[.agg (cfC c v), .string ⟨#[65, 76, 65, 82, 77]⟩, I i] w fun e w' => e = .returned (I (almE c x)) ∧ Below w.heap.size w w' := by
 have hi18 : (Tryz.prog.info? 47).map (·.size) = some (cfC c v).size := by rw [show (cfC c v).size = 18 from rfl]; kernel_rfl
 have hV0 := heap_alloc_new w (.cells (cfC c v) 47)
 have hb := below_alloc w (.cells (cfC c v) 47)
 have k1 := ralarm_any _ c v (h.below hb) i x hi hsz
 generalize cfC c v = C at *
 generalize almE c x = R at *
 clear h hi
 go_enter Tryz.func97, Tryz.ntmps97
 go_wp2_with (first | (refine wpList_load_row rfl 47 _ rfl w.heap.size rfl 47 _ (0, 0) _ hV0 Tryz.underlying47 rfl hi18 ?_) | (go_at_call 164; refine k1.mono ?_; clear k1; rintro e w1 ⟨rfl, hb1⟩))
 go_ret
 exact ⟨rfl, hb.trans (hb1.mono hb.size)⟩
theorem rone_isr (w : World) (c : Cf) (v : Vs) (h : CfAt w c v) (i : Nat) (x : Is) (hi : c.isrs[i]? = some x) (hlr : c.ress.length ≤ 8796093022208) (hls : c.msgs.length ≤ 8796093022208) : Calls Tryz.prog 97 #[.agg (cfC c v), .string ⟨#[73, 83, 82]⟩, I i] w fun e w' => e = .returned (I (isrE c i x)) ∧ Below w.heap.size w w' := by
 have hi18 : (Tryz.prog.info? 47).map (·.size) = some (cfC c v).size := by rw [show (cfC c v).size = 18 from rfl]; kernel_rfl
 have hV0 := heap_alloc_new w (.cells (cfC c v) 47)
 have hb := below_alloc w (.cells (cfC c v) 47)
 have k1 := risr_any _ c v (h.below hb) i x hi hlr hls
 generalize cfC c v = C at *
 generalize isrE c i x = R at *
 clear h hi
 go_enter Tryz.func97, Tryz.ntmps97
 go_wp2_with (first | (refine wpList_load_row rfl 47 _ rfl w.heap.size rfl 47 _ (0, 0) _ hV0 Tryz.underlying47 rfl hi18 ?_) | (go_at_call 165; refine k1.mono ?_; clear k1; rintro e w1 ⟨rfl, hb1⟩))
 go_ret
 exact ⟨rfl, hb.trans (hb1.mono hb.size)⟩
theorem rone_msg (w : World) (c : Cf) (v : Vs) (h : CfAt w c v) (i : Nat) (x : Ms) (hi : c.msgs[i]? = some x) (hsz : x.ac.name.length < 9223372036854775808) : Calls Tryz.prog 97 #[.agg (cfC c v), .string ⟨#[77, 69, 83, 83, 65, 71, 69]⟩, I i] w fun e w' => e = .returned (I (msgE c x)) ∧ Below w.heap.size w w' := by
 have hi18 : (Tryz.prog.info? 47).map (·.size) = some (cfC c v).size := by rw [show (cfC c v).size = 18 from rfl]; kernel_rfl
 have hV0 := heap_alloc_new w (.cells (cfC c v) 47)
 have hb := below_alloc w (.cells (cfC c v) 47)
 have k1 := rmessage_any _ c v (h.below hb) i x hi hsz
 generalize cfC c v = C at *
 generalize msgE c x = R at *
 clear h hi
 go_enter Tryz.func97, Tryz.ntmps97
 go_wp2_with (first | (refine wpList_load_row rfl 47 _ rfl w.heap.size rfl 47 _ (0, 0) _ hV0 Tryz.underlying47 rfl hi18 ?_) | (go_at_call 166; refine k1.mono ?_; clear k1; rintro e w1 ⟨rfl, hb1⟩))
 go_ret
 exact ⟨rfl, hb.trans (hb1.mono hb.size)⟩
theorem rone_ev (w : World) (c : Cf) (v : Vs) (h : CfAt w c v) (i : Nat) (x : Ev) (hi : c.evs[i]? = some x) : Calls Tryz.prog 97 #[.agg (cfC c v), .string ⟨#[69, 86, 69, 78, 84]⟩, I i] w fun e w' => e = .returned (I (evE x)) ∧ Below w.heap.size w w' := by
 have hn : v.e.n = c.evs.length := h.e.n
 have hlt : (i : Int) < v.e.n := by have := (List.getElem?_eq_some_iff.1 hi).1; omega
 obtain ⟨g, off, e, hg, a0, a1, a2⟩ := ev_at h hi
 have hne : g ≠ w.heap.size := by omega
 have hb := below_alloc w
 have f13 : ∀ h : 13 < (cfC c v).size, (cfC c v)[13] = .slice v.e.a v.e.n v.e.c := fun _ => rfl
 have hs18 : (cfC c v).size = 18 := rfl
 generalize cfC c v = C at *
 replace f13 := f13 (by omega)
 rw [e] at f13
 obtain ⟨R, hR⟩ : ∃ R, R = evE x := ⟨_, rfl⟩
 rw [← hR]
 unfold evE at hR
 have HR : Hid (R = _) := hR
 clear hR hi hn h e
 generalize (x.mask : Int) = m at *
 cases hm : m == 0 with
 | true =>
  have HE : Hid (R = 74) := by show _ = _; rw [HR.out, if_pos (by simpa using hm)]
  clear HR
  go_enter Tryz.func97, Tryz.ntmps97
  go_wp2
  go_ret
  exact ⟨ret_int HE.out.symm, hb _⟩
 | false =>
  have HE : Hid (R = 0) := by show _ = _; rw [HR.out, if_neg (by simpa using hm)]
  clear HR
  go_enter Tryz.func97, Tryz.ntmps97
  go_wp2
  go_ret
  exact ⟨ret_int HE.out.symm, hb _⟩
theorem rone_cpu (w : World) (c : Cf) (v : Vs) (i : Int) : Calls Tryz.prog 97 #[.agg (cfC c v), .string ⟨#[67, 80, 85]⟩, I i] w fun e w' => e = .returned (I 0) ∧ Below w.heap.size w w' := by
 have hb := below_alloc w
 generalize cfC c v = C at *
 go_enter Tryz.func97, Tryz.ntmps97
 go_wp2
 go_ret
 exact ⟨rfl, hb _⟩
theorem rone_os (w : World) (c : Cf) (v : Vs) (i : Int) : Calls Tryz.prog 97 #[.agg (cfC c v), .string ⟨#[79, 83]⟩, I i] w fun e w' => e = .returned (I 0) ∧ Below w.heap.size w w' := by
 have hb := below_alloc w
 generalize cfC c v = C at *
 go_enter Tryz.func97, Tryz.ntmps97
 go_wp2
 go_ret
 exact ⟨rfl, hb _⟩
theorem rone_mode (w : World) (c : Cf) (v : Vs) (i : Int) : Calls Tryz.prog 97 #[.agg (cfC c v), .string ⟨#[65, 80, 80, 77, 79, 68, 69]⟩, I i] w fun e w' => e = .returned (I 0) ∧ Below w.heap.size w w' := by
 have hb := below_alloc w
 generalize cfC c v = C at *
 go_enter Tryz.func97, Tryz.ntmps97
 go_wp2
 go_ret
 exact ⟨rfl, hb _⟩
structure Dk where
 word : List UInt8
 lo : Int
 hi : Int
 names : List (List UInt8)
 E : Nat → Int
def onB {α : Type} (l : List α) (E : Nat → α → Int) (j : Nat) : Int := match l[j]? with | some x => E j x | none => 0
theorem onB_at {α : Type} {l : List α} {E : Nat → α → Int} {j : Nat} {x : α} (h : l[j]? = some x) : onB l E j = E j x := by unfold onB; rw [h]
def wordsL : List (List UInt8) := [[67, 80, 85], [79, 83], [65, 80, 80, 77, 79, 68, 69], [82, 69, 83, 79, 85, 82, 67, 69], [69, 86, 69, 78, 84], [84, 65, 83, 75], [67, 79, 85, 78, 84, 69, 82], [65, 76, 65, 82, 77], [73, 83, 82], [77, 69, 83, 83, 65, 71, 69]]
def leastL : List Int := [0, 0, 1, 0, 0, 1, 0, 0, 0, 0]
def mostL : List Int := [1, 1, 8, 64, 256, 256, 16, 64, 32, 64]
def tenD (c : Cf) : List Dk := [
 ⟨[67, 80, 85], 0, 1, [c.cpu], fun _ => 0⟩, ⟨[79, 83], 0, 1, [c.osn], fun _ => 0⟩, ⟨[65, 80, 80, 77, 79, 68, 69], 1, 8, c.modes, fun _ => 0⟩,
 ⟨[82, 69, 83, 79, 85, 82, 67, 69], 0, 64, c.ress.map fun x => x.name, onB c.ress (resE c)⟩,
 ⟨[69, 86, 69, 78, 84], 0, 256, c.evs.map fun x => x.name, onB c.evs (fun _ x => evE x)⟩,
 ⟨[84, 65, 83, 75], 1, 256, c.tasks.map fun x => x.name, onB c.tasks (fun _ x => tskE c x)⟩,
 ⟨[67, 79, 85, 78, 84, 69, 82], 0, 16, c.ctrs.map fun x => x.name, onB c.ctrs (fun _ x => ctrE x)⟩,
 ⟨[65, 76, 65, 82, 77], 0, 64, c.als.map fun x => x.name, onB c.als (fun _ x => almE c x)⟩,
 ⟨[73, 83, 82], 0, 32, c.isrs.map fun x => x.name, onB c.isrs (isrE c)⟩,
 ⟨[77, 69, 83, 83, 65, 71, 69], 0, 64, c.msgs.map fun x => x.name, onB c.msgs (fun _ x => msgE c x)⟩]
theorem map_len {α : Type} {l : List α} {f : α → List UInt8} {n : Nat} (h : ∀ x ∈ l, (f x).length < n) : ∀ y ∈ l.map f, y.length < n := fun y hy => by
 obtain ⟨x, hx, rfl⟩ := List.mem_map.1 hy
 exact h x hx
theorem ten_names (w : World) (c : Cf) (v : Vs) (h : CfAt w c v) (hl : LensOK c) (hz : NamesOK c) (j : Nat) (d : Dk) (hj : (tenD c)[j]? = some d) :
  (∀ W, Below w.heap.size w W → Calls Tryz.prog 95 #[.agg (cfC c v), S d.word] W fun e w' => NamesPost W d.names e w') ∧
  (∀ i, i < d.names.length → ∀ W, Below w.heap.size w W → Calls Tryz.prog 97 #[.agg (cfC c v), S d.word, I i] W fun e w' => e = .returned (I (d.E i)) ∧ Below W.heap.size W w') ∧
  (∀ x ∈ d.names, x.length < 9223372036854775808) ∧ wordsL[j]? = some d.word ∧ leastL[j]? = some d.lo ∧ mostL[j]? = some d.hi := by
 rcases j with _ | _ | _ | _ | _ | _ | _ | _ | _ | _ | j
 ·obtain rfl := Option.some.inj hj
  exact ⟨fun W hW => rNames_cpu W c v, fun i hi W hW => rone_cpu W c v i, fun x hx => by obtain rfl := List.mem_singleton.1 hx; exact hz.p, rfl, rfl, rfl⟩
 ·obtain rfl := Option.some.inj hj
  exact ⟨fun W hW => rNames_os W c v, fun i hi W hW => rone_os W c v i, fun x hx => by obtain rfl := List.mem_singleton.1 hx; exact hz.o, rfl, rfl, rfl⟩
 ·obtain rfl := Option.some.inj hj
  exact ⟨fun W hW => rNames_modes W c v (h.below hW), fun i hi W hW => rone_mode W c v i, hz.m, rfl, rfl, rfl⟩
 ·obtain rfl := Option.some.inj hj
  refine ⟨fun W hW => rNames_ress W c v (h.below hW) hl.r, fun i hi W hW => ?_, map_len (hz.r), rfl, rfl, rfl⟩
  have hi2 : i < c.ress.length := by simpa using hi
  obtain ⟨x, hx⟩ : ∃ x, c.ress[i]? = some x := ⟨_, List.getElem?_eq_getElem hi2⟩
  dsimp only
  rw [onB_at hx]
  exact rone_res W c v (h.below hW) i x hx hl.r
 ·obtain rfl := Option.some.inj hj
  refine ⟨fun W hW => rNames_evs W c v (h.below hW) hl.e, fun i hi W hW => ?_, map_len (hz.e), rfl, rfl, rfl⟩
  have hi2 : i < c.evs.length := by simpa using hi
  obtain ⟨x, hx⟩ : ∃ x, c.evs[i]? = some x := ⟨_, List.getElem?_eq_getElem hi2⟩
  dsimp only
  rw [onB_at hx]
  exact rone_ev W c v (h.below hW) i x hx
 ·obtain rfl := Option.some.inj hj
  refine ⟨fun W hW => rNames_tasks W c v (h.below hW) hl.t, fun i hi W hW => ?_, map_len (hz.t), rfl, rfl, rfl⟩
  have hi2 : i < c.tasks.length := by simpa using hi
  obtain ⟨x, hx⟩ : ∃ x, c.tasks[i]? = some x := ⟨_, List.getElem?_eq_getElem hi2⟩
  dsimp only
  rw [onB_at hx]
  exact rone_task W c v (h.below hW) i x hx
 ·obtain rfl := Option.some.inj hj
  refine ⟨fun W hW => rNames_ctrs W c v (h.below hW) hl.k, fun i hi W hW => ?_, map_len (hz.k), rfl, rfl, rfl⟩
  have hi2 : i < c.ctrs.length := by simpa using hi
  obtain ⟨x, hx⟩ : ∃ x, c.ctrs[i]? = some x := ⟨_, List.getElem?_eq_getElem hi2⟩
  dsimp only
  rw [onB_at hx]
  exact rone_ctr W c v (h.below hW) i x hx
 ·obtain rfl := Option.some.inj hj
  refine ⟨fun W hW => rNames_als W c v (h.below hW) hl.a, fun i hi W hW => ?_, map_len (fun x hx => (hz.a x hx).1), rfl, rfl, rfl⟩
  have hi2 : i < c.als.length := by simpa using hi
  obtain ⟨x, hx⟩ : ∃ x, c.als[i]? = some x := ⟨_, List.getElem?_eq_getElem hi2⟩
  dsimp only
  rw [onB_at hx]
  exact rone_alm W c v (h.below hW) i x hx (hz.a x (List.mem_of_getElem? hx)).2
 ·obtain rfl := Option.some.inj hj
  refine ⟨fun W hW => rNames_isrs W c v (h.below hW) hl.i, fun i hi W hW => ?_, map_len (hz.i), rfl, rfl, rfl⟩
  have hi2 : i < c.isrs.length := by simpa using hi
  obtain ⟨x, hx⟩ : ∃ x, c.isrs[i]? = some x := ⟨_, List.getElem?_eq_getElem hi2⟩
  dsimp only
  rw [onB_at hx]
  exact rone_isr W c v (h.below hW) i x hx hl.r hl.s
 ·obtain rfl := Option.some.inj hj
  refine ⟨fun W hW => rNames_msgs W c v (h.below hW) hl.s, fun i hi W hW => ?_, map_len (fun x hx => (hz.s x hx).1), rfl, rfl, rfl⟩
  have hi2 : i < c.msgs.length := by simpa using hi
  obtain ⟨x, hx⟩ : ∃ x, c.msgs[i]? = some x := ⟨_, List.getElem?_eq_getElem hi2⟩
  dsimp only
  rw [onB_at hx]
  exact rone_msg W c v (h.below hW) i x hx (hz.s x (List.mem_of_getElem? hx)).2
 ·simp [tenD] at hj
def objD (d : Dk) (j : Nat) : Option Int := match d.names[j]? with
 | none => none
 | some nm => if (!isNm nm || hasS (d.names.take j) nm) = true then some 72 else codeO (d.E j)
def lookD (d : Dk) : Option (Int × Int) := if inR d.names.length d.lo d.hi = true then looksF (objD d) d.names.length 0 else some (71, 0)
def docAll : List Dk → Option (Int × List UInt8 × Int)
 | [] => none
 | d :: r => pickR d.word (docAll r) (lookD d)
theorem lookD_of (d : Dk) (names : List (List UInt8)) (lo hi : Int) (cs : List Ck) (B : Nat → Nat → Bool) (hn : d.names = names) (hr : inR names.length d.lo d.hi = inR names.length lo hi)
  (hE : ∀ j nm, names[j]? = some nm → codeO (d.E j) = firstF cs 0 (fun k => B k j)) : lookD d = lookL names lo hi cs B := by
 unfold lookD lookL
 subst hn
 rw [hr]
 have e : objD d = objF d.names cs B := by
  funext j
  unfold objD objF
  cases hj : d.names[j]? with
  | none => rfl
  | some nm => simp only [hE j nm hj]
 rw [e]
theorem byB_first {α : Type} {l : List α} {B : Nat → α → Nat → Bool} {j : Nat} {x : α} (h : l[j]? = some x) (cs : List Ck) : firstF cs 0 (fun k => byB l B k j) = firstF cs 0 (B j x) := by
 rw [show (fun k => byB l B k j) = B j x from funext fun k => byB_at h]
theorem map_at {α : Type} {l : List α} {f : α → List UInt8} {j : Nat} {nm : List UInt8} (h : (l.map f)[j]? = some nm) : ∃ x, l[j]? = some x := by
 rw [List.getElem?_map] at h
 cases hl : l[j]? with
 | none => rw [hl] at h; cases h
 | some x => exact ⟨x, rfl⟩
theorem docAll_eq (c : Cf) : docAll (tenD c) = allF c := by
 have e0 : lookD ⟨[67, 80, 85], 0, 1, [c.cpu], fun _ => 0⟩ = lookL [c.cpu] 1 1 [] noB := lookD_of _ _ 1 1 [] noB rfl rfl (fun j nm hj => rfl)
 have e1 : lookD ⟨[79, 83], 0, 1, [c.osn], fun _ => 0⟩ = lookL [c.osn] 1 1 [] noB := lookD_of _ _ 1 1 [] noB rfl rfl (fun j nm hj => rfl)
 have e2 : lookD ⟨[65, 80, 80, 77, 79, 68, 69], 1, 8, c.modes, fun _ => 0⟩ = lookL c.modes 1 8 [] noB := lookD_of _ _ 1 8 [] noB rfl rfl (fun j nm hj => rfl)
 have e3 : lookD ⟨[82, 69, 83, 79, 85, 82, 67, 69], 0, 64, c.ress.map fun x => x.name, onB c.ress (resE c)⟩ = lookL (c.ress.map fun x => x.name) 0 64 resourceChecksL (byB c.ress (resQ c)) := lookD_of _ _ 0 64 _ _ rfl rfl (fun j nm hj => by
  obtain ⟨x, hx⟩ := map_at hj
  rw [byB_first hx]
  dsimp only
  rw [onB_at hx]
  exact (res_first c j x (List.getElem?_eq_some_iff.1 hx).1).symm)
 have e4 : lookD ⟨[69, 86, 69, 78, 84], 0, 256, c.evs.map fun x => x.name, onB c.evs (fun _ x => evE x)⟩ = lookL (c.evs.map fun x => x.name) 0 256 eventChecksL (byB c.evs (evQ c)) := lookD_of _ _ 0 256 _ _ rfl rfl (fun j nm hj => by
  obtain ⟨x, hx⟩ := map_at hj
  rw [byB_first hx]
  dsimp only
  rw [onB_at hx]
  exact (ev_first c j x).symm)
 have e5 : lookD ⟨[84, 65, 83, 75], 1, 256, c.tasks.map fun x => x.name, onB c.tasks (fun _ x => tskE c x)⟩ = lookL (c.tasks.map fun x => x.name) 1 256 taskChecksL (byB c.tasks (tkQ c)) := lookD_of _ _ 1 256 _ _ rfl rfl (fun j nm hj => by
  obtain ⟨x, hx⟩ := map_at hj
  rw [byB_first hx]
  dsimp only
  rw [onB_at hx]
  exact (tk_first c j x hx).symm)
 have e6 : lookD ⟨[67, 79, 85, 78, 84, 69, 82], 0, 16, c.ctrs.map fun x => x.name, onB c.ctrs (fun _ x => ctrE x)⟩ = lookL (c.ctrs.map fun x => x.name) 0 16 counterChecksL (byB c.ctrs (ctQ c)) := lookD_of _ _ 0 16 _ _ rfl rfl (fun j nm hj => by
  obtain ⟨x, hx⟩ := map_at hj
  rw [byB_first hx]
  dsimp only
  rw [onB_at hx]
  exact (ctr_first x).symm)
 have e7 : lookD ⟨[65, 76, 65, 82, 77], 0, 64, c.als.map fun x => x.name, onB c.als (fun _ x => almE c x)⟩ = lookL (c.als.map fun x => x.name) 0 64 (alarmChecksL 0) (byB c.als (alQ c)) := lookD_of _ _ 0 64 _ _ rfl rfl (fun j nm hj => by
  obtain ⟨x, hx⟩ := map_at hj
  rw [byB_first hx]
  dsimp only
  rw [onB_at hx]
  exact (al_first c j x).symm)
 have e8 : lookD ⟨[73, 83, 82], 0, 32, c.isrs.map fun x => x.name, onB c.isrs (isrE c)⟩ = lookL (c.isrs.map fun x => x.name) 0 32 isrChecksL (byB c.isrs (isQ c)) := lookD_of _ _ 0 32 _ _ rfl rfl (fun j nm hj => by
  obtain ⟨x, hx⟩ := map_at hj
  rw [byB_first hx]
  dsimp only
  rw [onB_at hx]
  exact (is_first c j x).symm)
 have e9 : lookD ⟨[77, 69, 83, 83, 65, 71, 69], 0, 64, c.msgs.map fun x => x.name, onB c.msgs (fun _ x => msgE c x)⟩ = lookL (c.msgs.map fun x => x.name) 0 64 (messageChecksL 0) (byB c.msgs (msQ c)) := lookD_of _ _ 0 64 _ _ rfl rfl (fun j nm hj => by
  obtain ⟨x, hx⟩ := map_at hj
  rw [byB_first hx]
  dsimp only
  rw [onB_at hx]
  exact (ms_first c j x).symm)
 unfold allF tenR tenD
 simp only [docAll, lookAll, e0, e1, e2, e3, e4, e5, e6, e7, e8, e9]
end Go.Proofs.YtmidaeljeoifdaaGreatDoor
