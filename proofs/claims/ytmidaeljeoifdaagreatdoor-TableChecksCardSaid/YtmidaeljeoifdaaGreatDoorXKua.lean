import Derived.Test.YtmidaeljeoifdaaGreatDoorKru
import Derived.Shelf.Abstract
import Derived.Test.YtmidaeljeoifdaaGreatDoorXKrv
import Derived.Lib.AppendZeros
import Derived.Deep.DeepAppendWide
namespace Go.Proofs.YtmidaeljeoifdaaGreatDoor
open Go.RowKit
set_option linter.unusedVariables false

/-! ### The table's rows: what each check says, and a look at a whole kind -/
def byB {α : Type} (l : List α) (B : Nat → α → Nat → Bool) (k j : Nat) : Bool := match l[j]? with | some x => B j x k | none => true
theorem byB_at {α : Type} {l : List α} {B : Nat → α → Nat → Bool} {k j : Nat} {x : α} (h : l[j]? = some x) : byB l B k j = B j x k := by unfold byB; rw [h]
theorem lt_len {α : Type} {l : List α} {k n : Nat} {x : α} (h : l[k]? = some x) (hn : l.length = n) : k < n := by have := (List.getElem?_eq_some_iff.1 h).1; omega
theorem and4 {a b c d : Bool} (h : (a && b && c && d) = true) : a = true ∧ b = true ∧ c = true ∧ d = true := by simpa [and_assoc] using h
theorem and2 {a b : Bool} (h : (a && b) = true) : a = true ∧ b = true := by simpa using h
theorem obj_task {w : World} {c : Cf} {v : Vs} (h : CfAt w c v) {a : Ac} (ho : objB c a = true) : uE a.kind = true → isId a.task v.t.n = true := fun hu => by
  rw [h.t.n]
  have h1 := (and2 ho).1
  have h2 : uT a.kind = true := by unfold uE at hu; unfold uT; rw [hu]; simp
  rw [h2] at h1
  simpa using h1
theorem sent_or {k : Bool} {a b : Bool} (h : (k || (a && b)) = true) : k = true ∨ a = true := by
  cases k with
  | true => exact .inl rfl
  | false => exact .inr (and2 (by simpa using h)).1
def resQ (c : Cf) (j : Nat) (x : Rs) : Nat → Bool
  | 0 => inR x.kind 1 3
  | 1 => x.kind == 2 || x.link == 0
  | 2 => isId x.link c.ress.length
  | _ => x.kind != 2 || (decide (0 ≤ rootF c c.ress.length j) && rkind c (rootF c c.ress.length j) == 1)
set_option maxHeartbeats 2000000 in
theorem look_res (w : World) (c : Cf) (v : Vs) (h0 : CfAt w c v) (hl : c.ress.length ≤ 8796093022208) (word : List UInt8) (lo hi : Int) (s : Sl) (hcs : RowsAt w 2 ckP s resourceChecksL) :
    Calls Tryz.prog 124 #[.agg (kdC word lo hi 179 s), .agg (cfC c v)] w fun e w' => LookPost w word (lookL (c.ress.map fun x => x.name) lo hi resourceChecksL (byB c.ress (resQ c))) e w' := by
  refine look_any w c v h0 word lo hi _ s _ hcs _ (enters_of Tryz.func179 (by kernel_rfl) rfl) (fun W hW => resourceNames_any W c v (h0.below hW) hl) _ ?_ ?_
  · intro x hx
    simp only [resourceChecksL, List.mem_cons, List.not_mem_nil, or_false] at hx
    rcases hx with rfl | rfl | rfl | rfl
    · exact enters_of Tryz.func218 (by kernel_rfl) rfl
    · exact enters_of Tryz.func219 (by kernel_rfl) rfl
    · exact enters_of Tryz.func220 (by kernel_rfl) rfl
    · exact enters_of Tryz.func221 (by kernel_rfl) rfl
  · intro j k y hj hk hpre W hWb
    rw [List.length_map] at hj
    obtain ⟨x, hx⟩ : ∃ x, c.ress[j]? = some x := ⟨_, List.getElem?_eq_getElem hj⟩
    have hW := h0.below hWb
    have h := hW
    have hp : ∀ k', k' < k → resQ c j x k' = true := fun k' h' => by rw [← byB_at (B := resQ c) hx]; exact hpre k' h'
    have hQ : byB c.ress (resQ c) k j = resQ c j x k := byB_at hx
    rw [hQ]
    have hkn : k < 4 := lt_len hk rfl
    have hk2 : k = 0 ∨ k = 1 ∨ k = 2 ∨ k = 3 := by omega
    rcases hk2 with rfl | rfl | rfl | rfl
    · obtain rfl := Option.some.inj hk
      have t := resourceHasKind_any W c v hW j x hx
      exact t
    · obtain rfl := Option.some.inj hk
      have t := linkIsUsed_any W c v hW j x hx
      exact t
    · obtain rfl := Option.some.inj hk
      have t := linkIsID_any W c v hW j x hx
      rw [h.r.n] at t
      exact t
    · obtain rfl := Option.some.inj hk
      have t := linkEnds_any W c v hW j x hx
      exact t
def evQ (c : Cf) (j : Nat) (x : Ev) : Nat → Bool
  | _ => (x.mask : Int) != 0
set_option maxHeartbeats 2000000 in
theorem look_ev (w : World) (c : Cf) (v : Vs) (h0 : CfAt w c v) (hl : c.evs.length ≤ 8796093022208) (word : List UInt8) (lo hi : Int) (s : Sl) (hcs : RowsAt w 2 ckP s eventChecksL) :
    Calls Tryz.prog 124 #[.agg (kdC word lo hi 181 s), .agg (cfC c v)] w fun e w' => LookPost w word (lookL (c.evs.map fun x => x.name) lo hi eventChecksL (byB c.evs (evQ c))) e w' := by
  refine look_any w c v h0 word lo hi _ s _ hcs _ (enters_of Tryz.func181 (by kernel_rfl) rfl) (fun W hW => eventNames_any W c v (h0.below hW) hl) _ ?_ ?_
  · intro x hx
    simp only [eventChecksL, List.mem_cons, List.not_mem_nil, or_false] at hx
    subst hx
    exact enters_of Tryz.func224 (by kernel_rfl) rfl
  · intro j k y hj hk hpre W hWb
    rw [List.length_map] at hj
    obtain ⟨x, hx⟩ : ∃ x, c.evs[j]? = some x := ⟨_, List.getElem?_eq_getElem hj⟩
    have hW := h0.below hWb
    have h := hW
    have hp : ∀ k', k' < k → evQ c j x k' = true := fun k' h' => by rw [← byB_at (B := evQ c) hx]; exact hpre k' h'
    have hQ : byB c.evs (evQ c) k j = evQ c j x k := byB_at hx
    rw [hQ]
    have hkn : k < 1 := lt_len hk rfl
    obtain rfl : k = 0 := by omega
    obtain rfl := Option.some.inj hk
    have t := maskIsSome_any W c v hW j x hx
    exact t
def tkQ (c : Cf) (j : Nat) (x : Tk) : Nat → Bool
  | 0 => inR x.prio 0 63 && inR x.act 1 255
  | 1 => risF (-1) x.auto c.modes.length && risF (-1) x.res c.ress.length && risF (-1) x.evs c.evs.length && risF (-1) x.msgs c.msgs.length
  | 2 => decide ((x.evs.length : Int) ≤ 32)
  | 3 => !extL c j || x.act == 1
  | 4 => decide ((intN c x.res : Int) ≤ 1)
  | _ => apartF c 0 x.evs
set_option maxHeartbeats 2000000 in
theorem look_tk (w : World) (c : Cf) (v : Vs) (h0 : CfAt w c v) (hl : c.tasks.length ≤ 8796093022208) (word : List UInt8) (lo hi : Int) (s : Sl) (hcs : RowsAt w 2 ckP s taskChecksL) :
    Calls Tryz.prog 124 #[.agg (kdC word lo hi 183 s), .agg (cfC c v)] w fun e w' => LookPost w word (lookL (c.tasks.map fun x => x.name) lo hi taskChecksL (byB c.tasks (tkQ c))) e w' := by
  refine look_any w c v h0 word lo hi _ s _ hcs _ (enters_of Tryz.func183 (by kernel_rfl) rfl) (fun W hW => taskNames_any W c v (h0.below hW) hl) _ ?_ ?_
  · intro x hx
    simp only [taskChecksL, List.mem_cons, List.not_mem_nil, or_false] at hx
    rcases hx with rfl | rfl | rfl | rfl | rfl | rfl
    · exact enters_of Tryz.func227 (by kernel_rfl) rfl
    · exact enters_of Tryz.func228 (by kernel_rfl) rfl
    · exact enters_of Tryz.func229 (by kernel_rfl) rfl
    · exact enters_of Tryz.func230 (by kernel_rfl) rfl
    · exact enters_of Tryz.func231 (by kernel_rfl) rfl
    · exact enters_of Tryz.func232 (by kernel_rfl) rfl
  · intro j k y hj hk hpre W hWb
    rw [List.length_map] at hj
    obtain ⟨x, hx⟩ : ∃ x, c.tasks[j]? = some x := ⟨_, List.getElem?_eq_getElem hj⟩
    have hW := h0.below hWb
    have h := hW
    have hp : ∀ k', k' < k → tkQ c j x k' = true := fun k' h' => by rw [← byB_at (B := tkQ c) hx]; exact hpre k' h'
    have hQ : byB c.tasks (tkQ c) k j = tkQ c j x k := byB_at hx
    rw [hQ]
    have hkn : k < 6 := lt_len hk rfl
    have hk2 : k = 0 ∨ k = 1 ∨ k = 2 ∨ k = 3 ∨ k = 4 ∨ k = 5 := by omega
    rcases hk2 with rfl | rfl | rfl | rfl | rfl | rfl
    · obtain rfl := Option.some.inj hk
      have t := taskNumbersFit_any W c v hW j x hx
      exact t
    · obtain rfl := Option.some.inj hk
      have t := taskListsRise_any W c v hW j x hx
      rw [h.m.n] at t
      rw [h.r.n] at t
      rw [h.e.n] at t
      rw [h.s.n] at t
      exact t
    · obtain rfl := Option.some.inj hk
      have t := taskEventsFit_any W c v hW j x hx
      exact t
    · obtain rfl := Option.some.inj hk
      have t := extendedIsSingle_any W c v hW j x hx
      exact t
    · obtain rfl := Option.some.inj hk
      have t := oneInternal_any W c v hW j x hx (by rw [h.r.n]; exact ids_of_ris (and4 (hp 1 (by omega))).2.1)
      exact t
    · obtain rfl := Option.some.inj hk
      have t := masksAreApart_any W c v hW j x hx (by rw [h.e.n]; exact ids_of_ris (and4 (hp 1 (by omega))).2.2.1)
      exact t
def ctQ (c : Cf) (j : Nat) (x : Ct) : Nat → Bool
  | _ => inR x.max 1 2147483647 && inR x.base 1 2147483647 && inR x.min 1 x.max
set_option maxHeartbeats 2000000 in
theorem look_ct (w : World) (c : Cf) (v : Vs) (h0 : CfAt w c v) (hl : c.ctrs.length ≤ 8796093022208) (word : List UInt8) (lo hi : Int) (s : Sl) (hcs : RowsAt w 2 ckP s counterChecksL) :
    Calls Tryz.prog 124 #[.agg (kdC word lo hi 185 s), .agg (cfC c v)] w fun e w' => LookPost w word (lookL (c.ctrs.map fun x => x.name) lo hi counterChecksL (byB c.ctrs (ctQ c))) e w' := by
  refine look_any w c v h0 word lo hi _ s _ hcs _ (enters_of Tryz.func185 (by kernel_rfl) rfl) (fun W hW => counterNames_any W c v (h0.below hW) hl) _ ?_ ?_
  · intro x hx
    simp only [counterChecksL, List.mem_cons, List.not_mem_nil, or_false] at hx
    subst hx
    exact enters_of Tryz.func235 (by kernel_rfl) rfl
  · intro j k y hj hk hpre W hWb
    rw [List.length_map] at hj
    obtain ⟨x, hx⟩ : ∃ x, c.ctrs[j]? = some x := ⟨_, List.getElem?_eq_getElem hj⟩
    have hW := h0.below hWb
    have h := hW
    have hp : ∀ k', k' < k → ctQ c j x k' = true := fun k' h' => by rw [← byB_at (B := ctQ c) hx]; exact hpre k' h'
    have hQ : byB c.ctrs (ctQ c) k j = ctQ c j x k := byB_at hx
    rw [hQ]
    have hkn : k < 1 := lt_len hk rfl
    obtain rfl : k = 0 := by omega
    obtain rfl := Option.some.inj hk
    have t := counterFits_any W c v hW j x hx
    exact t
def alarmChecksL (bo : Nat) : List Ck := [⟨73, 239, #[]⟩, ⟨74, 279, #[.pointer (some ⟨bo, 0, none⟩)]⟩, ⟨74, 281, #[.pointer (some ⟨bo, 0, none⟩)]⟩, ⟨73, 283, #[.pointer (some ⟨bo, 0, none⟩)]⟩, ⟨70, 285, #[.pointer (some ⟨bo, 0, none⟩)]⟩, ⟨72, 287, #[.pointer (some ⟨bo, 0, none⟩)]⟩, ⟨73, 242, #[]⟩, ⟨74, 243, #[]⟩]
def alQ (c : Cf) (j : Nat) (x : Al) : Nat → Bool
  | 0 => isId x.ctr c.ctrs.length
  | 1 => inR x.ac.kind 1 3
  | 2 => bareB x.ac
  | 3 => objB c x.ac
  | 4 => ownB c x.ac
  | 5 => calB x.ac
  | 6 => risF (-1) x.auto c.modes.length
  | _ => timesL c x
set_option maxHeartbeats 2000000 in
theorem look_al (w : World) (c : Cf) (v : Vs) (h0 : CfAt w c v) (hl : c.als.length ≤ 8796093022208) (word : List UInt8) (lo hi : Int) (s : Sl) (bo : Nat) (hbo : w.cell? ⟨bo, 0, none⟩ = some (.func (.func 241) #[] #[])) (hcs : RowsAt w 2 ckP s (alarmChecksL bo)) :
    Calls Tryz.prog 124 #[.agg (kdC word lo hi 187 s), .agg (cfC c v)] w fun e w' => LookPost w word (lookL (c.als.map fun x => x.name) lo hi (alarmChecksL bo) (byB c.als (alQ c))) e w' := by
  refine look_any w c v h0 word lo hi _ s _ hcs _ (enters_of Tryz.func187 (by kernel_rfl) rfl) (fun W hW => alarmNames_any W c v (h0.below hW) hl) _ ?_ ?_
  · intro x hx
    simp only [alarmChecksL, List.mem_cons, List.not_mem_nil, or_false] at hx
    rcases hx with rfl | rfl | rfl | rfl | rfl | rfl | rfl | rfl
    · exact enters_of Tryz.func239 (by kernel_rfl) rfl
    · exact enters_of Tryz.func279 (by kernel_rfl) rfl
    · exact enters_of Tryz.func281 (by kernel_rfl) rfl
    · exact enters_of Tryz.func283 (by kernel_rfl) rfl
    · exact enters_of Tryz.func285 (by kernel_rfl) rfl
    · exact enters_of Tryz.func287 (by kernel_rfl) rfl
    · exact enters_of Tryz.func242 (by kernel_rfl) rfl
    · exact enters_of Tryz.func243 (by kernel_rfl) rfl
  · intro j k y hj hk hpre W hWb
    rw [List.length_map] at hj
    obtain ⟨x, hx⟩ : ∃ x, c.als[j]? = some x := ⟨_, List.getElem?_eq_getElem hj⟩
    have hW := h0.below hWb
    have h := hW
    have hp : ∀ k', k' < k → alQ c j x k' = true := fun k' h' => by rw [← byB_at (B := alQ c) hx]; exact hpre k' h'
    have hQ : byB c.als (alQ c) k j = alQ c j x k := byB_at hx
    rw [hQ]
    have hkn : k < 8 := lt_len hk rfl
    have ho : Of W c v j bo 241 x.ac 1 3 := ⟨by rw [cell_below hWb _ _ (World.block_lt_of_cell? w _ hbo)]; exact hbo, Nat.lt_of_lt_of_le (World.block_lt_of_cell? w _ hbo) hWb.size, enters_of Tryz.func241 (by kernel_rfl) rfl, fun W2 hW2 => alarmAct_any W2 c v (hW.below hW2) j x hx⟩
    have hk2 : k = 0 ∨ k = 1 ∨ k = 2 ∨ k = 3 ∨ k = 4 ∨ k = 5 ∨ k = 6 ∨ k = 7 := by omega
    rcases hk2 with rfl | rfl | rfl | rfl | rfl | rfl | rfl | rfl
    · obtain rfl := Option.some.inj hk
      have t := counterIsID_any W c v hW j x hx
      rw [h.k.n] at t
      exact t
    · obtain rfl := Option.some.inj hk
      have t := act1_any W c v hW j bo _ x.ac 1 3 ho
      exact t
    · obtain rfl := Option.some.inj hk
      have t := act2_any W c v hW j bo _ x.ac 1 3 ho
      exact t
    · obtain rfl := Option.some.inj hk
      have t := act3_any W c v hW j bo _ x.ac 1 3 ho
      exact t
    · obtain rfl := Option.some.inj hk
      have t := act4_any W c v hW j bo _ x.ac 1 3 ho (obj_task h (hp 3 (by omega)))
      exact t
    · obtain rfl := Option.some.inj hk
      have t := act5_any W c v hW j bo _ x.ac 1 3 ho
      exact t
    · obtain rfl := Option.some.inj hk
      have t := alarmModesRise_any W c v hW j x hx
      rw [h.m.n] at t
      exact t
    · obtain rfl := Option.some.inj hk
      have t := alarmTimesFit_any W c v hW j x hx (by rw [h.k.n]; exact hp 0 (by omega))
      exact t
def isQ (c : Cf) (j : Nat) (x : Is) : Nat → Bool
  | 0 => inR x.cat 1 2 && inR x.prio 64 127
  | 1 => risF (-1) x.res c.ress.length && risF (-1) x.msgs c.msgs.length
  | 2 => (intN c x.res : Int) == 0
  | 3 => x.cat != 1 || ((x.res.length : Int) == 0 && (x.msgs.length : Int) == 0)
  | _ => (c.isrs.take j).all (fun a => !clashL a x)
set_option maxHeartbeats 2000000 in
theorem look_is (w : World) (c : Cf) (v : Vs) (h0 : CfAt w c v) (hl : c.isrs.length ≤ 8796093022208) (word : List UInt8) (lo hi : Int) (s : Sl) (hcs : RowsAt w 2 ckP s isrChecksL) :
    Calls Tryz.prog 124 #[.agg (kdC word lo hi 189 s), .agg (cfC c v)] w fun e w' => LookPost w word (lookL (c.isrs.map fun x => x.name) lo hi isrChecksL (byB c.isrs (isQ c))) e w' := by
  refine look_any w c v h0 word lo hi _ s _ hcs _ (enters_of Tryz.func189 (by kernel_rfl) rfl) (fun W hW => isrNames_any W c v (h0.below hW) hl) _ ?_ ?_
  · intro x hx
    simp only [isrChecksL, List.mem_cons, List.not_mem_nil, or_false] at hx
    rcases hx with rfl | rfl | rfl | rfl | rfl
    · exact enters_of Tryz.func246 (by kernel_rfl) rfl
    · exact enters_of Tryz.func247 (by kernel_rfl) rfl
    · exact enters_of Tryz.func248 (by kernel_rfl) rfl
    · exact enters_of Tryz.func249 (by kernel_rfl) rfl
    · exact enters_of Tryz.func250 (by kernel_rfl) rfl
  · intro j k y hj hk hpre W hWb
    rw [List.length_map] at hj
    obtain ⟨x, hx⟩ : ∃ x, c.isrs[j]? = some x := ⟨_, List.getElem?_eq_getElem hj⟩
    have hW := h0.below hWb
    have h := hW
    have hp : ∀ k', k' < k → isQ c j x k' = true := fun k' h' => by rw [← byB_at (B := isQ c) hx]; exact hpre k' h'
    have hQ : byB c.isrs (isQ c) k j = isQ c j x k := byB_at hx
    rw [hQ]
    have hkn : k < 5 := lt_len hk rfl
    have hk2 : k = 0 ∨ k = 1 ∨ k = 2 ∨ k = 3 ∨ k = 4 := by omega
    rcases hk2 with rfl | rfl | rfl | rfl | rfl
    · obtain rfl := Option.some.inj hk
      have t := isrNumbersFit_any W c v hW j x hx
      exact t
    · obtain rfl := Option.some.inj hk
      have t := isrListsRise_any W c v hW j x hx
      rw [h.r.n] at t
      rw [h.s.n] at t
      exact t
    · obtain rfl := Option.some.inj hk
      have t := noInternal_any W c v hW j x hx (by rw [h.r.n]; exact ids_of_ris (and2 (hp 1 (by omega))).1)
      exact t
    · obtain rfl := Option.some.inj hk
      have t := firstCategoryIsBare_any W c v hW j x hx
      exact t
    · obtain rfl := Option.some.inj hk
      have t := isrsAreInOrder_any W c v hW j x hx
      exact t
def messageChecksL (bo : Nat) : List Ck := [⟨74, 253, #[]⟩, ⟨73, 254, #[]⟩, ⟨74, 255, #[]⟩, ⟨74, 279, #[.pointer (some ⟨bo, 0, none⟩)]⟩, ⟨74, 281, #[.pointer (some ⟨bo, 0, none⟩)]⟩, ⟨73, 283, #[.pointer (some ⟨bo, 0, none⟩)]⟩, ⟨70, 285, #[.pointer (some ⟨bo, 0, none⟩)]⟩, ⟨72, 287, #[.pointer (some ⟨bo, 0, none⟩)]⟩]
def msQ (c : Cf) (j : Nat) (x : Ms) : Nat → Bool
  | 0 => msgF x
  | 1 => x.kind == 1 || (isId x.frm c.msgs.length && mkind c x.frm == 1)
  | 2 => x.kind == 1 || (decide ((x.init : Int) ≤ 4294967295) && fitI x.init (mlen c x.frm))
  | 3 => inR x.ac.kind 0 (if x.kind == 1 then 0 else 4)
  | 4 => bareB x.ac
  | 5 => objB c x.ac
  | 6 => ownB c x.ac
  | _ => calB x.ac
set_option maxHeartbeats 2000000 in
theorem look_ms (w : World) (c : Cf) (v : Vs) (h0 : CfAt w c v) (hl : c.msgs.length ≤ 8796093022208) (word : List UInt8) (lo hi : Int) (s : Sl) (bo : Nat) (hbo : w.cell? ⟨bo, 0, none⟩ = some (.func (.func 256) #[] #[])) (hcs : RowsAt w 2 ckP s (messageChecksL bo)) :
    Calls Tryz.prog 124 #[.agg (kdC word lo hi 191 s), .agg (cfC c v)] w fun e w' => LookPost w word (lookL (c.msgs.map fun x => x.name) lo hi (messageChecksL bo) (byB c.msgs (msQ c))) e w' := by
  refine look_any w c v h0 word lo hi _ s _ hcs _ (enters_of Tryz.func191 (by kernel_rfl) rfl) (fun W hW => messageNames_any W c v (h0.below hW) hl) _ ?_ ?_
  · intro x hx
    simp only [messageChecksL, List.mem_cons, List.not_mem_nil, or_false] at hx
    rcases hx with rfl | rfl | rfl | rfl | rfl | rfl | rfl | rfl
    · exact enters_of Tryz.func253 (by kernel_rfl) rfl
    · exact enters_of Tryz.func254 (by kernel_rfl) rfl
    · exact enters_of Tryz.func255 (by kernel_rfl) rfl
    · exact enters_of Tryz.func279 (by kernel_rfl) rfl
    · exact enters_of Tryz.func281 (by kernel_rfl) rfl
    · exact enters_of Tryz.func283 (by kernel_rfl) rfl
    · exact enters_of Tryz.func285 (by kernel_rfl) rfl
    · exact enters_of Tryz.func287 (by kernel_rfl) rfl
  · intro j k y hj hk hpre W hWb
    rw [List.length_map] at hj
    obtain ⟨x, hx⟩ : ∃ x, c.msgs[j]? = some x := ⟨_, List.getElem?_eq_getElem hj⟩
    have hW := h0.below hWb
    have h := hW
    have hp : ∀ k', k' < k → msQ c j x k' = true := fun k' h' => by rw [← byB_at (B := msQ c) hx]; exact hpre k' h'
    have hQ : byB c.msgs (msQ c) k j = msQ c j x k := byB_at hx
    rw [hQ]
    have hkn : k < 8 := lt_len hk rfl
    have ho : Of W c v j bo 256 x.ac 0 (if x.kind == 1 then 0 else 4) := ⟨by rw [cell_below hWb _ _ (World.block_lt_of_cell? w _ hbo)]; exact hbo, Nat.lt_of_lt_of_le (World.block_lt_of_cell? w _ hbo) hWb.size, enters_of Tryz.func256 (by kernel_rfl) rfl, fun W2 hW2 => messageAct_any W2 c v (hW.below hW2) j x hx⟩
    have hk2 : k = 0 ∨ k = 1 ∨ k = 2 ∨ k = 3 ∨ k = 4 ∨ k = 5 ∨ k = 6 ∨ k = 7 := by omega
    rcases hk2 with rfl | rfl | rfl | rfl | rfl | rfl | rfl | rfl
    · obtain rfl := Option.some.inj hk
      have t := messageFieldsFit_any W c v hW j x hx
      exact t
    · obtain rfl := Option.some.inj hk
      have t := fromIsSent_any W c v hW j x hx
      rw [h.s.n] at t
      exact t
    · obtain rfl := Option.some.inj hk
      have t := initFits_any W c v hW j x hx (by rw [h.s.n]; exact sent_or (hp 1 (by omega)))
      exact t
    · obtain rfl := Option.some.inj hk
      have t := act1_any W c v hW j bo _ x.ac 0 _ ho
      exact t
    · obtain rfl := Option.some.inj hk
      have t := act2_any W c v hW j bo _ x.ac 0 _ ho
      exact t
    · obtain rfl := Option.some.inj hk
      have t := act3_any W c v hW j bo _ x.ac 0 _ ho
      exact t
    · obtain rfl := Option.some.inj hk
      have t := act4_any W c v hW j bo _ x.ac 0 _ ho (obj_task h (hp 5 (by omega)))
      exact t
    · obtain rfl := Option.some.inj hk
      have t := act5_any W c v hW j bo _ x.ac 0 _ ho
      exact t
end Go.Proofs.YtmidaeljeoifdaaGreatDoor

namespace Go.Proofs.YtmidaeljeoifdaaGreatDoor
open Go.RowKit
set_option linter.unusedVariables false

/-! ### Checks, one list behind the other -/
theorem info_of {P : Program} {t : TypeId} {z : Option Value} {s b : Nat} (h : (P.info? t).map (fun i => (i.zero, i.size, i.bytes)) = some (z, s, b)) : ∃ i, P.info? t = some i ∧ i.zero = z ∧ i.size = s ∧ i.bytes = b := by
  cases hi : P.info? t with
  | none => rw [hi] at h; cases h
  | some i =>
    rw [hi] at h
    simp at h
    exact ⟨i, rfl, h.1, h.2.1, h.2.2⟩
theorem infoCk : ∃ i, Tryz.prog.info? 254 = some i ∧ i.zero = some (.agg #[.int .i64 0, .nilFunc]) ∧ i.size = 2 ∧ i.bytes = 16 :=
  info_of (show (Tryz.prog.info? 254).map (fun i => (i.zero, i.size, i.bytes)) = some (some (.agg #[.int .i64 0, .nilFunc]), 2, 16) by kernel_rfl)
set_option maxHeartbeats 1000000 in
set_option maxRecDepth 100000 in
theorem grow_nil (n : Nat) (h1 : 1 ≤ n) (h2 : n ≤ 1000) (w : World) : Calls Tryz.prog 278 #[.slice none 0 0, I n] w fun e w' => ∃ v, e = .returned v ∧ w'.ownsRow w.heap.size 254 2 v 0 [] ∧ Below w.heap.size w w' := by
  obtain ⟨i0, hi, hz, hs, hby⟩ := infoCk
  have hr := fun ty => Lib.run_append_nil_zeros (P := Tryz.prog) w 197 3 ty 254 i0 _ .i64 .i64 Tryz.underlying197 Tryz.underlying3 hi hz n (by omega) (by omega) (by omega) (by rw [hby]; omega)
  have hG := grownCap_ge w n 0 254
  have hGm := grownCap_le_maxLen w n 0 254 (by unfold maxLen; omega)
  obtain ⟨G, hGe⟩ : ∃ G, G = grownCap w n 0 254 := ⟨_, rfl⟩
  rw [← hGe] at hr hG hGm
  have hsz : (Builtin.zeroCells (Value.agg #[.int .i64 0, .nilFunc]).cells n ++ Builtin.zeroCells (Value.agg #[.int .i64 0, .nilFunc]).cells (G - n)).size = G * 2 := by
    simp only [Array.size_append, size_zeroCells]
    show n * 2 + (G - n) * 2 = G * 2
    omega
  generalize Builtin.zeroCells (Value.agg #[.int .i64 0, .nilFunc]).cells n ++ Builtin.zeroCells (Value.agg #[.int .i64 0, .nilFunc]).cells (G - n) = Z at *
  have hfin : (w.drew.alloc (.cells Z 254)).ownsRow w.heap.size 254 2 (.slice (some ⟨w.heap.size, 0, none⟩) 0 G) 0 [] :=
    ⟨rfl, .inr ⟨w.heap.size, G, Z, rfl, Nat.le_refl _, heap_alloc_new w.drew _, Nat.zero_le _, hGm, hsz, by simp⟩⟩
  have hbl : Below w.heap.size w (w.drew.alloc (.cells Z 254)) := ⟨rfl, rfl, rfl, by simp, fun k hk => heap_alloc_old w.drew _ hk⟩
  have hG63 : (G : Int) ≤ 9223372036854775807 := by unfold maxLen at hGm; omega
  have hn0 : ¬ ((n : Int) < 0) := by omega
  have hn1 : (n : Int) > 0 := by omega
  have hw1 : wrap64 ((n : Int) - 0) = n := by unfold wrap64; omega
  clear hGe hsz hGm
  go_enter Tryz.func278, Tryz.ntmps278
  go_wp2_with (at_builtin; refine Lib.wpList_append_run _ rfl _ _ _ _ rfl _ _ rfl rfl _ _ (hr _) ?_)
  all_goals (go_ret; exact ⟨_, rfl, hfin, hbl⟩)
theorem add_row (b o i : Nat) : (⟨b, o, none⟩ : Addr).add i = ⟨b, o + i, none⟩ := by unfold Addr.add; split <;> simp_all
/-- A slice of checks. -/
def CksV (w : World) (l : List Ck) (u : Value) : Prop := ∃ g off c : Nat, u = .slice (some ⟨g, off, none⟩) l.length c ∧ RowsAt w 2 ckP ⟨some ⟨g, off, none⟩, l.length, c⟩ l
theorem cksV_of {w : World} {s : Sl} {l : List Ck} (h : RowsAt w 2 ckP s l) (hne : l ≠ []) : CksV w l (.slice s.a s.n s.c) := by
  obtain ⟨x, t, rfl⟩ := List.exists_cons_of_ne_nil hne
  obtain ⟨g, off, e, _⟩ := h.row 0 x rfl
  obtain ⟨sa, sn, sc⟩ := s
  have hn : sn = _ := h.n
  obtain rfl : sa = _ := e
  subst hn
  exact ⟨g, off, sc, rfl, h⟩
theorem cks_cells {w : World} {g off c : Nat} {l : List Ck} (h : RowsAt w 2 ckP ⟨some ⟨g, off, none⟩, l.length, c⟩ l) : ∀ j u, (l.flatMap ckC)[j]? = some u → w.cell? ((⟨g, off, none⟩ : Addr).add j) = some u := by
  intro j u hj
  have hl : (l.flatMap ckC).length = l.length * 2 := by
    clear h hj
    induction l with
    | nil => rfl
    | cons y r ih => rw [List.flatMap_cons, List.length_append, ih]; simp [ckC]; omega
  have hjl := (List.getElem?_eq_some_iff.1 hj).1
  rw [hl] at hjl
  have hq : j / 2 < l.length := by omega
  obtain ⟨x, hx⟩ : ∃ x, l[j / 2]? = some x := ⟨_, List.getElem?_eq_getElem hq⟩
  obtain ⟨g', off', e', _, hr⟩ := h.row _ x hx
  cases e'
  obtain ⟨y, hy, hp⟩ := hr (j % 2) (by omega)
  have hc := ck_at l (j / 2) x hx (j % 2) (by omega)
  rw [show j / 2 * 2 + j % 2 = j by omega, hj] at hc
  rw [add_row]
  rw [show off + j = off + j / 2 * 2 + j % 2 by omega, hy]
  have h01 : j % 2 = 0 ∨ j % 2 = 1 := by omega
  rcases h01 with e0 | e0
  · rw [e0] at hp hc
    obtain rfl : y = I x.code := hp
    exact congrArg some (Option.some.inj hc).symm
  · rw [e0] at hp hc
    obtain rfl : y = .func (.func x.f) #[] x.caps := hp
    exact congrArg some (Option.some.inj hc).symm
theorem cks_len (l : List Ck) : (l.flatMap ckC).length = l.length * 2 := by
  induction l with
  | nil => rfl
  | cons y r ih => rw [List.flatMap_cons, List.length_append, ih]; simp [ckC]; omega
theorem cks_one (l : List Ck) : ∀ u ∈ l.flatMap ckC, u.oneCell' = true := by
  intro u hu
  obtain ⟨x, _, hx⟩ := List.mem_flatMap.1 hu
  simp [ckC] at hx
  rcases hx with rfl | rfl <;> rfl
theorem rows_of_own7 {w : World} {base : Nat} {v : Value} {l : List Ck} (h : w.ownsRow base 254 2 v l.length (l.flatMap ckC)) (hne : l ≠ []) : ∃ s : Sl, v = .slice s.a s.n s.c ∧ RowsAt w 2 ckP s l := by
  obtain ⟨hl, ⟨rfl, h0⟩ | ⟨g, cap, cur, rfl, hb1, hh, hnc, hcm, hcs, htk⟩⟩ := h
  · exact absurd (List.eq_nil_of_length_eq_zero h0) hne
  · refine ⟨⟨some ⟨g, 0, none⟩, l.length, cap⟩, rfl, rfl, hnc, hcm, fun j x hj => ⟨g, 0, rfl, heap_lt hh, fun i hi => ?_⟩⟩
    have hc := ck_at l j x hj i hi
    have hjl := (List.getElem?_eq_some_iff.1 hj).1
    rw [← htk, List.getElem?_take, if_pos (by omega), Array.getElem?_toList] at hc
    have h1 : w.cell? ⟨g, 0 + j * 2 + i, none⟩ = (ckC x)[i]? := by rw [Nat.zero_add, cell_of_row w g _ _ _ (0, 0) hh]; exact hc
    have h01 : i = 0 ∨ i = 1 := by omega
    rcases h01 with rfl | rfl
    · exact ⟨_, h1, rfl⟩
    · exact ⟨_, h1, rfl⟩
theorem flat_take {l : List (List Ck)} {j : Nat} {x : List Ck} (h : l[j]? = some x) : (l.take (j + 1)).flatten = (l.take j).flatten ++ x := by
  rw [List.take_add_one, h, Option.toList_some, List.flatten_append]
  simp
theorem flat_le (l : List (List Ck)) (j : Nat) : (l.take j).flatten.length ≤ l.flatten.length := by
  have h : l.flatten = (l.take j).flatten ++ (l.drop j).flatten := by rw [← List.flatten_append, List.take_append_drop]
  rw [h, List.length_append]
  omega
set_option maxHeartbeats 4000000 in
set_option maxRecDepth 100000 in
theorem concat_any (w : World) (s : Sl) (ls : List (List Ck)) (hS : RowsAt w 1 (fun x _ u => CksV w x u) s ls) (hne : ls.flatten ≠ []) (hlen : ls.flatten.length ≤ 1000) :
    Calls Tryz.prog 238 #[.slice s.a s.n s.c] w fun e w' => ChecksPost w ls.flatten e w' := by
  obtain ⟨sa, sn, sc⟩ := s
  have HN : Hid (sn = ls.length) := hS.n
  have hsc : sn ≤ sc := hS.c
  have hsm : sc ≤ maxLen := hS.m
  unfold maxLen at hsm
  have h1L : 1 ≤ ls.flatten.length := by
    rcases Nat.eq_zero_or_pos ls.flatten.length with h | h
    · exact absurd (List.eq_nil_of_length_eq_zero h) hne
    · exact h
  have hg := grow_nil ls.flatten.length h1L hlen w
  have hrow : Hid (∀ (j : Nat) (x : List Ck), ls[j]? = some x → ∃ g off : Nat, sa = some ⟨g, off, none⟩ ∧ g < w.heap.size ∧ ∃ gx ox cx : Nat, w.cell? ⟨g, off + j, none⟩ = some (.slice (some ⟨gx, ox, none⟩) x.length cx) ∧ RowsAt w 2 ckP ⟨some ⟨gx, ox, none⟩, x.length, cx⟩ x) := fun j x hj => by
    obtain ⟨g, off, e, hg, hr⟩ := hS.row j x hj
    obtain ⟨u, hu, gx, ox, cx, rfl, hx⟩ := hr 0 (by omega)
    exact ⟨g, off, e, hg, gx, ox, cx, by simpa using hu, hx⟩
  have hfl : Hid (∀ j, (ls.take j).flatten.length ≤ ls.flatten.length) := flat_le ls
  have HLL : Hid (ls.flatten.length ≤ 1000) := hlen
  have HNE : Hid (ls.flatten ≠ []) := hne
  clear hS
  go_enter Tryz.func238, Tryz.ntmps238
  go_wp2
  go_loopw [3, 5, 11] (fun n _ iv wr => ∃ j : Nat, j ≤ sn ∧ iv = .int .i64 j ∧ Hid (n = I ((ls.take j).flatten.length : Nat)) ∧ wr = w) (fun _ _ iv _ => sn - (intOf iv).toNat)
  case atStart => exact ⟨0, by omega, rfl, rfl, rfl⟩
  case round =>
    obtain ⟨j, hj, rfl, HJ, hww⟩ := hrel
    replace hww := hww.symm
    subst hww
    have hJ := HJ.out
    subst hJ
    by_cases hlt : j < sn
    · have hlt' : (j : Int) < sn := by omega
      have hjl : j < ls.length := by rw [← HN.out]; exact hlt
      obtain ⟨x, hx⟩ : ∃ x, ls[j]? = some x := ⟨_, List.getElem?_eq_getElem hjl⟩
      obtain ⟨g, off, rfl, hgl, gx, ox, cx, hcell, hxr⟩ := hrow.out j x hx
      have hf := flat_take hx
      have hle := Nat.le_trans (hfl.out (j + 1)) HLL.out
      have hle0 : (ls.take j).flatten.length + x.length = (ls.take (j + 1)).flatten.length := by rw [hf, List.length_append]
      have hxm : cx ≤ maxLen := hxr.m
      have hxc : x.length ≤ cx := hxr.c
      have HQ : Hid (I ((((ls.take j).flatten.length : Nat) : Int) + ((x.length : Nat) : Int)) = I ((ls.take (j + 1)).flatten.length : Nat)) := by show _ = _; rw [← hle0]; simp
      have hq : (ls.take j).flatten.length + x.length ≤ 1000 := by omega
      have hnn : ¬ ((((ls.take j).flatten.length : Nat) : Int) + ((x.length : Nat) : Int) < 0) := by omega
      clear hf hle hle0 hxr hxm hx hrow hg hfl HJ hne hlen h1L hjl hlt hj HN HLL HNE
      generalize (ls.take j).flatten.length = q0 at *
      generalize x.length = q1 at *
      go_wp2
      go_roundw
      case rel => exact ⟨j + 1, by omega, by go_num, HQ.out, by trivial⟩
      case measure => simp [intOf]; omega
    · obtain rfl : j = sn := by omega
      have hlt' : ¬ ((j : Nat) : Int) < (j : Nat) := by omega
      have htk : (ls.take j).flatten.length = ls.flatten.length := by rw [HN.out, List.take_length]
      rw [htk]
      clear htk HJ hlen hne h1L hj hlt
      generalize hLL : ls.flatten.length = L at hg ⊢
      have HLQ : Hid (ls.flatten.length = L) := hLL
      clear hLL
      go_wp2_with (first | (go_at_call 278; refine hg.mono ?_; rintro e w1 ⟨v0, rfl, hown, hb1⟩))
      clear hg
      go_loopw [6, 8, 27] (fun nv _ iv wr => ∃ i : Nat, i ≤ j ∧ iv = .int .i64 i ∧ Hid (wr.ownsRow w.heap.size 254 2 nv (ls.take i).flatten.length ((ls.take i).flatten.flatMap ckC) ∧ Below w.heap.size w wr)) (fun _ _ iv _ => j - (intOf iv).toNat)
      case atStart => exact ⟨0, by omega, rfl, hown, hb1⟩
      case round =>
        clear hown hb1
        obtain ⟨i, hi, rfl, HI⟩ := hrel
        obtain ⟨hown, hB⟩ := HI.out
        clear HI
        by_cases hlt2 : i < j
        · have hlt3 : (i : Int) < j := by omega
          have hjl : i < ls.length := by rw [← HN.out]; exact hlt2
          obtain ⟨x, hx⟩ : ∃ x, ls[i]? = some x := ⟨_, List.getElem?_eq_getElem hjl⟩
          obtain ⟨g, off, rfl, hgl, gx, ox, cx, hcell, hxr⟩ := hrow.out i x hx
          have hf := flat_take hx
          have hle := Nat.le_trans (hfl.out (i + 1)) HLL.out
          have hle0 : (ls.take i).flatten.length + x.length = (ls.take (i + 1)).flatten.length := by rw [hf, List.length_append]
          have hcellr : wr.cell? ⟨g, off + i, none⟩ = some (.slice (some ⟨gx, ox, none⟩) x.length cx) := by rw [cell_below hB _ _ hgl]; exact hcell
          have hxw := cks_cells (hxr.below hB (fun _ _ _ _ h => h))
          obtain ⟨i0, hi0, hz, hs, hby⟩ := infoCk
          have HK : Hid (∀ v' w', w'.ownsRow w.heap.size 254 2 v' ((ls.take i).flatten.length + x.length) ((ls.take i).flatten.flatMap ckC ++ x.flatMap ckC) → wr.grownBy w' u6.ownBlock → w'.ownsRow w.heap.size 254 2 v' (ls.take (i + 1)).flatten.length ((ls.take (i + 1)).flatten.flatMap ckC) ∧ Below w.heap.size w w') := fun v' w' ho hg' => by
            refine ⟨?_, hB.grown hg' hB.size (fun k e => (hown.lt k e).1)⟩
            rw [hf, List.length_append, List.flatMap_append]
            exact ho
          have hq1 : (ls.take i).flatten.length + x.length ≤ 1000 := by omega
          have hxl := cks_len x
          have hx1 := cks_one x
          have hBs := hB.size
          have hxc : x.length ≤ cx := hxr.c
          clear hf hle hle0 hxr hrow hfl hcell
          go_wp2_with (at_builtin; refine wpList_append_own_wide _ rfl _ _ 197 rfl w.heap.size 254 i0 _ 2 16 Tryz.underlying197 hi0 hz hs hby rfl (by decide) u6 _ _ rfl hown ⟨gx, ox, none⟩ x.length cx _ rfl hxl hxw hx1 (by unfold maxLen; omega) (by omega) hBs ?_; intro v' w' ho hg' _)
          obtain ⟨ho2, hb2⟩ := HK.out v' w' ho hg'
          go_roundw
          case rel => exact ⟨i + 1, by omega, by go_num, ho2, hb2⟩
          case measure => simp [intOf]; omega
        · obtain rfl : i = j := by omega
          have hlt3 : ¬ ((i : Nat) : Int) < (i : Nat) := by omega
          rw [HN.out, List.take_length] at hown
          obtain ⟨s', rfl, hs'⟩ := rows_of_own7 hown HNE.out
          have HF : Hid (RowsAt wr 2 ckP s' ls.flatten ∧ Below w.heap.size w wr) := ⟨hs', hB⟩
          clear hown hs' hB hrow hfl
          go_wp2
          go_ret
          exact ⟨s', rfl, HF.out.1, HF.out.2⟩
end Go.Proofs.YtmidaeljeoifdaaGreatDoor

