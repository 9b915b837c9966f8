import Derived.Test.YtpbnpmeigdjfdaaGreatDoorXKru
import Derived.Shelf.Abstract
namespace Go.Proofs.YtpbnpmeigdjfdaaGreatDoor
open Go.RowKit
set_option linter.unusedSimpArgs false
set_option linter.unusedVariables false
set_option maxHeartbeats 16000000
set_option maxRecDepth 100000
def byB {α : Type} (l : List α) (B : Nat → α → Nat → Bool) (k j : Nat) : Bool := match l[j]? with | some x => B j x k | none => true
theorem byB_at {α : Type} {l : List α} {B : Nat → α → Nat → Bool} {k j : Nat} {x : α} (h : l[j]? = some x) : byB l B k j = B j x k := by unfold byB; rw [h]
theorem lt_len {α : Type} {l : List α} {k n : Nat} {x : α} (h : l[k]? = some x) (hn : l.length = n) : k < n := by have := (List.getElem?_eq_some_iff.1 h).1; omega
theorem and4 {a b c d : Bool} (h : (a && b && c && d) = true) : a = true ∧ b = true ∧ c = true ∧ d = true := by simpa [and_assoc] using h
theorem and2 {a b : Bool} (h : (a && b) = true) : a = true ∧ b = true := by simpa using h
theorem obj_task {w : World} {c : Cf} {v : Vs} (h : CfAt w c v) {a : Ac} (ho : objB c a = true) : uE a.kind = true → isId a.task v.t.n = true := fun hu => by
 rw [h.t.n]
 have h1 := (and2 ho).1
 have h2 : uT a.kind = true := by unfold uE at hu; unfold uT; rw [hu]; simp
 rw [h2] at h1
 simpa using h1
theorem sent_or {k : Bool} {a b : Bool} (h : (k || (a && b)) = true) : k = true ∨ a = true := by
 cases k with
 | true => exact .inl rfl
 | false => exact .inr (and2 (by simpa using h)).1
def resQ (c : Cf) (j : Nat) (x : Rs) : Nat → Bool
 | 0 => inR x.kind 1 3
 | 1 => x.kind == 2 || x.link == 0
 | 2 => isId x.link c.ress.length
 | _ => x.kind != 2 || (decide (0 ≤ rootF c c.ress.length j) && rkind c (rootF c c.ress.length j) == 1)
theorem look_res (w : World) (c : Cf) (v : Vs) (h0 : CfAt w c v) (hl : c.ress.length ≤ 8796093022208) (word : List UInt8) (lo hi : Int) (s : Sl) (hcs : RowsAt w 2 ckP s resourceChecksL) :
  Calls Tryz.prog 53 #[.agg (kdC word lo hi 72 s), .agg (cfC c v)] w fun e w' => LookPost w word (lookL (c.ress.map fun x => x.name) lo hi resourceChecksL (byB c.ress (resQ c))) e w' := by
 refine look_any w c v h0 word lo hi _ s _ hcs _ (enters_of Tryz.func72 (by kernel_rfl) rfl) (fun W hW => resourceNames_any W c v (h0.below hW) hl) _ ?_ ?_
 ·intro x hx
  simp only [resourceChecksL, List.mem_cons, List.not_mem_nil, or_false] at hx
  rcases hx with rfl | rfl | rfl | rfl
  ·exact enters_of Tryz.func114 (by kernel_rfl) rfl
  ·exact enters_of Tryz.func115 (by kernel_rfl) rfl
  ·exact enters_of Tryz.func116 (by kernel_rfl) rfl
  ·exact enters_of Tryz.func117 (by kernel_rfl) rfl
 ·intro j k y hj hk hpre W hWb
  rw [List.length_map] at hj
  obtain ⟨x, hx⟩ : ∃ x, c.ress[j]? = some x := ⟨_, List.getElem?_eq_getElem hj⟩
  have hW := h0.below hWb
  have h := hW
  have hp : ∀ k', k' < k → resQ c j x k' = true := fun k' h' => by rw [← byB_at (B := resQ c) hx]; exact hpre k' h'
  have hQ : byB c.ress (resQ c) k j = resQ c j x k := byB_at hx
  rw [hQ]
  have hkn : k < 4 := lt_len hk rfl
  have hk2 : k = 0 ∨ k = 1 ∨ k = 2 ∨ k = 3 := by omega
  rcases hk2 with rfl | rfl | rfl | rfl
  ·obtain rfl := Option.some.inj hk
   have t := resourceHasKind_any W c v hW j x hx
   exact t
  ·obtain rfl := Option.some.inj hk
   have t := linkIsUsed_any W c v hW j x hx
   exact t
  ·obtain rfl := Option.some.inj hk
   have t := linkIsID_any W c v hW j x hx
   rw [h.r.n] at t
   exact t
  ·obtain rfl := Option.some.inj hk
   have t := linkEnds_any W c v hW j x hx
   exact t
def evQ (c : Cf) (j : Nat) (x : Ev) : Nat → Bool
 | _ => (x.mask : Int) != 0
theorem look_ev (w : World) (c : Cf) (v : Vs) (h0 : CfAt w c v) (hl : c.evs.length ≤ 8796093022208) (word : List UInt8) (lo hi : Int) (s : Sl) (hcs : RowsAt w 2 ckP s eventChecksL) :
  Calls Tryz.prog 53 #[.agg (kdC word lo hi 74 s), .agg (cfC c v)] w fun e w' => LookPost w word (lookL (c.evs.map fun x => x.name) lo hi eventChecksL (byB c.evs (evQ c))) e w' := by
 refine look_any w c v h0 word lo hi _ s _ hcs _ (enters_of Tryz.func74 (by kernel_rfl) rfl) (fun W hW => eventNames_any W c v (h0.below hW) hl) _ ?_ ?_
 ·intro x hx
  simp only [eventChecksL, List.mem_cons, List.not_mem_nil, or_false] at hx
  subst hx
  exact enters_of Tryz.func120 (by kernel_rfl) rfl
 ·intro j k y hj hk hpre W hWb
  rw [List.length_map] at hj
  obtain ⟨x, hx⟩ : ∃ x, c.evs[j]? = some x := ⟨_, List.getElem?_eq_getElem hj⟩
  have hW := h0.below hWb
  have h := hW
  have hp : ∀ k', k' < k → evQ c j x k' = true := fun k' h' => by rw [← byB_at (B := evQ c) hx]; exact hpre k' h'
  have hQ : byB c.evs (evQ c) k j = evQ c j x k := byB_at hx
  rw [hQ]
  have hkn : k < 1 := lt_len hk rfl
  obtain rfl : k = 0 := by omega
  obtain rfl := Option.some.inj hk
  have t := maskIsSome_any W c v hW j x hx
  exact t
def tkQ (c : Cf) (j : Nat) (x : Tk) : Nat → Bool
 | 0 => inR x.prio 0 63 && inR x.act 1 255
 | 1 => risF (-1) x.auto c.modes.length && risF (-1) x.res c.ress.length && risF (-1) x.evs c.evs.length && risF (-1) x.msgs c.msgs.length
 | 2 => decide ((x.evs.length : Int) ≤ 32)
 | 3 => !extL c j || x.act == 1
 | 4 => decide ((intN c x.res : Int) ≤ 1)
 | _ => apartF c 0 x.evs
theorem look_tk (w : World) (c : Cf) (v : Vs) (h0 : CfAt w c v) (hl : c.tasks.length ≤ 8796093022208) (word : List UInt8) (lo hi : Int) (s : Sl) (hcs : RowsAt w 2 ckP s taskChecksL) :
  Calls Tryz.prog 53 #[.agg (kdC word lo hi 76 s), .agg (cfC c v)] w fun e w' => LookPost w word (lookL (c.tasks.map fun x => x.name) lo hi taskChecksL (byB c.tasks (tkQ c))) e w' := by
 refine look_any w c v h0 word lo hi _ s _ hcs _ (enters_of Tryz.func76 (by kernel_rfl) rfl) (fun W hW => taskNames_any W c v (h0.below hW) hl) _ ?_ ?_
 ·intro x hx
  simp only [taskChecksL, List.mem_cons, List.not_mem_nil, or_false] at hx
  rcases hx with rfl | rfl | rfl | rfl | rfl | rfl
  ·exact enters_of Tryz.func123 (by kernel_rfl) rfl
  ·exact enters_of Tryz.func124 (by kernel_rfl) rfl
  ·exact enters_of Tryz.func125 (by kernel_rfl) rfl
  ·exact enters_of Tryz.func126 (by kernel_rfl) rfl
  ·exact enters_of Tryz.func127 (by kernel_rfl) rfl
  ·exact enters_of Tryz.func128 (by kernel_rfl) rfl
 ·intro j k y hj hk hpre W hWb
  rw [List.length_map] at hj
  obtain ⟨x, hx⟩ : ∃ x, c.tasks[j]? = some x := ⟨_, List.getElem?_eq_getElem hj⟩
  have hW := h0.below hWb
  have h := hW
  have hp : ∀ k', k' < k → tkQ c j x k' = true := fun k' h' => by rw [← byB_at (B := tkQ c) hx]; exact hpre k' h'
  have hQ : byB c.tasks (tkQ c) k j = tkQ c j x k := byB_at hx
  rw [hQ]
  have hkn : k < 6 := lt_len hk rfl
  have hk2 : k = 0 ∨ k = 1 ∨ k = 2 ∨ k = 3 ∨ k = 4 ∨ k = 5 := by omega
  rcases hk2 with rfl | rfl | rfl | rfl | rfl | rfl
  ·obtain rfl := Option.some.inj hk
   have t := taskNumbersFit_any W c v hW j x hx
   exact t
  ·obtain rfl := Option.some.inj hk
   have t := taskListsRise_any W c v hW j x hx
   rw [h.m.n] at t
   rw [h.r.n] at t
   rw [h.e.n] at t
   rw [h.s.n] at t
   exact t
  ·obtain rfl := Option.some.inj hk
   have t := taskEventsFit_any W c v hW j x hx
   exact t
  ·obtain rfl := Option.some.inj hk
   have t := extendedIsSingle_any W c v hW j x hx
   exact t
  ·obtain rfl := Option.some.inj hk
   have t := oneInternal_any W c v hW j x hx (by rw [h.r.n]; exact ids_of_ris (and4 (hp 1 (by omega))).2.1)
   exact t
  ·obtain rfl := Option.some.inj hk
   have t := masksAreApart_any W c v hW j x hx (by rw [h.e.n]; exact ids_of_ris (and4 (hp 1 (by omega))).2.2.1)
   exact t
def ctQ (c : Cf) (j : Nat) (x : Ct) : Nat → Bool
 | _ => inR x.max 1 2147483647 && inR x.base 1 2147483647 && inR x.min 1 x.max
theorem look_ct (w : World) (c : Cf) (v : Vs) (h0 : CfAt w c v) (hl : c.ctrs.length ≤ 8796093022208) (word : List UInt8) (lo hi : Int) (s : Sl) (hcs : RowsAt w 2 ckP s counterChecksL) :
  Calls Tryz.prog 53 #[.agg (kdC word lo hi 78 s), .agg (cfC c v)] w fun e w' => LookPost w word (lookL (c.ctrs.map fun x => x.name) lo hi counterChecksL (byB c.ctrs (ctQ c))) e w' := by
 refine look_any w c v h0 word lo hi _ s _ hcs _ (enters_of Tryz.func78 (by kernel_rfl) rfl) (fun W hW => counterNames_any W c v (h0.below hW) hl) _ ?_ ?_
 ·intro x hx
  simp only [counterChecksL, List.mem_cons, List.not_mem_nil, or_false] at hx
  subst hx
  exact enters_of Tryz.func131 (by kernel_rfl) rfl
 ·intro j k y hj hk hpre W hWb
  rw [List.length_map] at hj
  obtain ⟨x, hx⟩ : ∃ x, c.ctrs[j]? = some x := ⟨_, List.getElem?_eq_getElem hj⟩
  have hW := h0.below hWb
  have h := hW
  have hp : ∀ k', k' < k → ctQ c j x k' = true := fun k' h' => by rw [← byB_at (B := ctQ c) hx]; exact hpre k' h'
  have hQ : byB c.ctrs (ctQ c) k j = ctQ c j x k := byB_at hx
  rw [hQ]
  have hkn : k < 1 := lt_len hk rfl
  obtain rfl : k = 0 := by omega
  obtain rfl := Option.some.inj hk
  have t := counterFits_any W c v hW j x hx
  exact t
def alarmChecksL (bo : Nat) : List Ck := [⟨73, 135, #[]⟩, ⟨74, 172, #[.pointer (some ⟨bo, 0, none⟩)]⟩, ⟨74, 174, #[.pointer (some ⟨bo, 0, none⟩)]⟩, ⟨73, 176, #[.pointer (some ⟨bo, 0, none⟩)]⟩, ⟨70, 178, #[.pointer (some ⟨bo, 0, none⟩)]⟩, ⟨72, 180, #[.pointer (some ⟨bo, 0, none⟩)]⟩, ⟨73, 138, #[]⟩, ⟨74, 139, #[]⟩]
def alQ (c : Cf) (j : Nat) (x : Al) : Nat → Bool
 | 0 => isId x.ctr c.ctrs.length
 | 1 => inR x.ac.kind 1 3
 | 2 => bareB x.ac
 | 3 => objB c x.ac
 | 4 => ownB c x.ac
 | 5 => calB x.ac
 | 6 => risF (-1) x.auto c.modes.length
 | _ => timesL c x
theorem look_al (w : World) (c : Cf) (v : Vs) (h0 : CfAt w c v) (hl : c.als.length ≤ 8796093022208) (word : List UInt8) (lo hi : Int) (s : Sl) (bo : Nat) (hbo : w.cell? ⟨bo, 0, none⟩ = some (.func (.func 137) #[] #[])) (hcs : RowsAt w 2 ckP s (alarmChecksL bo)) :
  Calls Tryz.prog 53 #[.agg (kdC word lo hi 80 s), .agg (cfC c v)] w fun e w' => LookPost w word (lookL (c.als.map fun x => x.name) lo hi (alarmChecksL bo) (byB c.als (alQ c))) e w' := by
 refine look_any w c v h0 word lo hi _ s _ hcs _ (enters_of Tryz.func80 (by kernel_rfl) rfl) (fun W hW => alarmNames_any W c v (h0.below hW) hl) _ ?_ ?_
 ·intro x hx
  simp only [alarmChecksL, List.mem_cons, List.not_mem_nil, or_false] at hx
  rcases hx with rfl | rfl | rfl | rfl | rfl | rfl | rfl | rfl
  ·exact enters_of Tryz.func135 (by kernel_rfl) rfl
  ·exact enters_of Tryz.func172 (by kernel_rfl) rfl
  ·exact enters_of Tryz.func174 (by kernel_rfl) rfl
  ·exact enters_of Tryz.func176 (by kernel_rfl) rfl
  ·exact enters_of Tryz.func178 (by kernel_rfl) rfl
  ·exact enters_of Tryz.func180 (by kernel_rfl) rfl
  ·exact enters_of Tryz.func138 (by kernel_rfl) rfl
  ·exact enters_of Tryz.func139 (by kernel_rfl) rfl
 ·intro j k y hj hk hpre W hWb
  rw [List.length_map] at hj
  obtain ⟨x, hx⟩ : ∃ x, c.als[j]? = some x := ⟨_, List.getElem?_eq_getElem hj⟩
  have hW := h0.below hWb
  have h := hW
  have hp : ∀ k', k' < k → alQ c j x k' = true := fun k' h' => by rw [← byB_at (B := alQ c) hx]; exact hpre k' h'
  have hQ : byB c.als (alQ c) k j = alQ c j x k := byB_at hx
  rw [hQ]
  have hkn : k < 8 := lt_len hk rfl
  have ho : Of W c v j bo 137 x.ac 1 3 := ⟨by rw [cell_below hWb _ _ (World.block_lt_of_cell? w _ hbo)]; exact hbo, Nat.lt_of_lt_of_le (World.block_lt_of_cell? w _ hbo) hWb.size, enters_of Tryz.func137 (by kernel_rfl) rfl, fun W2 hW2 => alarmAct_any W2 c v (hW.below hW2) j x hx⟩
  have hk2 : k = 0 ∨ k = 1 ∨ k = 2 ∨ k = 3 ∨ k = 4 ∨ k = 5 ∨ k = 6 ∨ k = 7 := by omega
  rcases hk2 with rfl | rfl | rfl | rfl | rfl | rfl | rfl | rfl
  ·obtain rfl := Option.some.inj hk
   have t := counterIsID_any W c v hW j x hx
   rw [h.k.n] at t
   exact t
  ·obtain rfl := Option.some.inj hk
   have t := act1_any W c v hW j bo _ x.ac 1 3 ho
   exact t
  ·obtain rfl := Option.some.inj hk
   have t := act2_any W c v hW j bo _ x.ac 1 3 ho
   exact t
  ·obtain rfl := Option.some.inj hk
   have t := act3_any W c v hW j bo _ x.ac 1 3 ho
   exact t
  ·obtain rfl := Option.some.inj hk
   have t := act4_any W c v hW j bo _ x.ac 1 3 ho (obj_task h (hp 3 (by omega)))
   exact t
  ·obtain rfl := Option.some.inj hk
   have t := act5_any W c v hW j bo _ x.ac 1 3 ho
   exact t
  ·obtain rfl := Option.some.inj hk
   have t := alarmModesRise_any W c v hW j x hx
   rw [h.m.n] at t
   exact t
  ·obtain rfl := Option.some.inj hk
   have t := alarmTimesFit_any W c v hW j x hx (by rw [h.k.n]; exact hp 0 (by omega))
   exact t
def isQ (c : Cf) (j : Nat) (x : Is) : Nat → Bool
 | 0 => inR x.cat 1 2 && inR x.prio 64 127
 | 1 => risF (-1) x.res c.ress.length && risF (-1) x.msgs c.msgs.length
 | 2 => (intN c x.res : Int) == 0
 | 3 => x.cat != 1 || ((x.res.length : Int) == 0 && (x.msgs.length : Int) == 0)
 | _ => (c.isrs.take j).all (fun a => !clashL a x)
theorem look_is (w : World) (c : Cf) (v : Vs) (h0 : CfAt w c v) (hl : c.isrs.length ≤ 8796093022208) (word : List UInt8) (lo hi : Int) (s : Sl) (hcs : RowsAt w 2 ckP s isrChecksL) :
  Calls Tryz.prog 53 #[.agg (kdC word lo hi 82 s), .agg (cfC c v)] w fun e w' => LookPost w word (lookL (c.isrs.map fun x => x.name) lo hi isrChecksL (byB c.isrs (isQ c))) e w' := by
 refine look_any w c v h0 word lo hi _ s _ hcs _ (enters_of Tryz.func82 (by kernel_rfl) rfl) (fun W hW => isrNames_any W c v (h0.below hW) hl) _ ?_ ?_
 ·intro x hx
  simp only [isrChecksL, List.mem_cons, List.not_mem_nil, or_false] at hx
  rcases hx with rfl | rfl | rfl | rfl | rfl
  ·exact enters_of Tryz.func142 (by kernel_rfl) rfl
  ·exact enters_of Tryz.func143 (by kernel_rfl) rfl
  ·exact enters_of Tryz.func144 (by kernel_rfl) rfl
  ·exact enters_of Tryz.func145 (by kernel_rfl) rfl
  ·exact enters_of Tryz.func146 (by kernel_rfl) rfl
 ·intro j k y hj hk hpre W hWb
  rw [List.length_map] at hj
  obtain ⟨x, hx⟩ : ∃ x, c.isrs[j]? = some x := ⟨_, List.getElem?_eq_getElem hj⟩
  have hW := h0.below hWb
  have h := hW
  have hp : ∀ k', k' < k → isQ c j x k' = true := fun k' h' => by rw [← byB_at (B := isQ c) hx]; exact hpre k' h'
  have hQ : byB c.isrs (isQ c) k j = isQ c j x k := byB_at hx
  rw [hQ]
  have hkn : k < 5 := lt_len hk rfl
  have hk2 : k = 0 ∨ k = 1 ∨ k = 2 ∨ k = 3 ∨ k = 4 := by omega
  rcases hk2 with rfl | rfl | rfl | rfl | rfl
  ·obtain rfl := Option.some.inj hk
   have t := isrNumbersFit_any W c v hW j x hx
   exact t
  ·obtain rfl := Option.some.inj hk
   have t := isrListsRise_any W c v hW j x hx
   rw [h.r.n] at t
   rw [h.s.n] at t
   exact t
  ·obtain rfl := Option.some.inj hk
   have t := noInternal_any W c v hW j x hx (by rw [h.r.n]; exact ids_of_ris (and2 (hp 1 (by omega))).1)
   exact t
  ·obtain rfl := Option.some.inj hk
   have t := firstCategoryIsBare_any W c v hW j x hx
   exact t
  ·obtain rfl := Option.some.inj hk
   have t := isrsAreInOrder_any W c v hW j x hx
   exact t
def messageChecksL (bo : Nat) : List Ck := [⟨74, 149, #[]⟩, ⟨73, 150, #[]⟩, ⟨74, 151, #[]⟩, ⟨74, 172, #[.pointer (some ⟨bo, 0, none⟩)]⟩, ⟨74, 174, #[.pointer (some ⟨bo, 0, none⟩)]⟩, ⟨73, 176, #[.pointer (some ⟨bo, 0, none⟩)]⟩, ⟨70, 178, #[.pointer (some ⟨bo, 0, none⟩)]⟩, ⟨72, 180, #[.pointer (some ⟨bo, 0, none⟩)]⟩]
def msQ (c : Cf) (j : Nat) (x : Ms) : Nat → Bool
 | 0 => msgF x
 | 1 => x.kind == 1 || (isId x.frm c.msgs.length && mkind c x.frm == 1)
 | 2 => x.kind == 1 || (decide ((x.init : Int) ≤ 4294967295) && fitI x.init (mlen c x.frm))
 | 3 => inR x.ac.kind 0 (if x.kind == 1 then 0 else 4)
 | 4 => bareB x.ac
 | 5 => objB c x.ac
 | 6 => ownB c x.ac
 | _ => calB x.ac
theorem look_ms (w : World) (c : Cf) (v : Vs) (h0 : CfAt w c v) (hl : c.msgs.length ≤ 8796093022208) (word : List UInt8) (lo hi : Int) (s : Sl) (bo : Nat) (hbo : w.cell? ⟨bo, 0, none⟩ = some (.func (.func 152) #[] #[])) (hcs : RowsAt w 2 ckP s (messageChecksL bo)) :
  Calls Tryz.prog 53 #[.agg (kdC word lo hi 84 s), .agg (cfC c v)] w fun e w' => LookPost w word (lookL (c.msgs.map fun x => x.name) lo hi (messageChecksL bo) (byB c.msgs (msQ c))) e w' := by
 refine look_any w c v h0 word lo hi _ s _ hcs _ (enters_of Tryz.func84 (by kernel_rfl) rfl) (fun W hW => messageNames_any W c v (h0.below hW) hl) _ ?_ ?_
 ·intro x hx
  simp only [messageChecksL, List.mem_cons, List.not_mem_nil, or_false] at hx
  rcases hx with rfl | rfl | rfl | rfl | rfl | rfl | rfl | rfl
  ·exact enters_of Tryz.func149 (by kernel_rfl) rfl
  ·exact enters_of Tryz.func150 (by kernel_rfl) rfl
  ·exact enters_of Tryz.func151 (by kernel_rfl) rfl
  ·exact enters_of Tryz.func172 (by kernel_rfl) rfl
  ·exact enters_of Tryz.func174 (by kernel_rfl) rfl
  ·exact enters_of Tryz.func176 (by kernel_rfl) rfl
  ·exact enters_of Tryz.func178 (by kernel_rfl) rfl
  ·exact enters_of Tryz.func180 (by kernel_rfl) rfl
 ·intro j k y hj hk hpre W hWb
  rw [List.length_map] at hj
  obtain ⟨x, hx⟩ : ∃ x, c.msgs[j]? = some x := ⟨_, List.getElem?_eq_getElem hj⟩
  have hW := h0.below hWb
  have h := hW
  have hp : ∀ k', k' < k → msQ c j x k' = true := fun k' h' => by rw [← byB_at (B := msQ c) hx]; exact hpre k' h'
  have hQ : byB c.msgs (msQ c) k j = msQ c j x k := byB_at hx
  rw [hQ]
  have hkn : k < 8 := lt_len hk rfl
  have ho : Of W c v j bo 152 x.ac 0 (if x.kind == 1 then 0 else 4) := ⟨by rw [cell_below hWb _ _ (World.block_lt_of_cell? w _ hbo)]; exact hbo, Nat.lt_of_lt_of_le (World.block_lt_of_cell? w _ hbo) hWb.size, enters_of Tryz.func152 (by kernel_rfl) rfl, fun W2 hW2 => messageAct_any W2 c v (hW.below hW2) j x hx⟩
  have hk2 : k = 0 ∨ k = 1 ∨ k = 2 ∨ k = 3 ∨ k = 4 ∨ k = 5 ∨ k = 6 ∨ k = 7 := by omega
  rcases hk2 with rfl | rfl | rfl | rfl | rfl | rfl | rfl | rfl
  ·obtain rfl := Option.some.inj hk
   have t := messageFieldsFit_any W c v hW j x hx
   exact t
  ·obtain rfl := Option.some.inj hk
   have t := fromIsSent_any W c v hW j x hx
   rw [h.s.n] at t
   exact t
  ·obtain rfl := Option.some.inj hk
   have t := initFits_any W c v hW j x hx (by rw [h.s.n]; exact sent_or (hp 1 (by omega)))
   exact t
  ·obtain rfl := Option.some.inj hk
   have t := act1_any W c v hW j bo _ x.ac 0 _ ho
   exact t
  ·obtain rfl := Option.some.inj hk
   have t := act2_any W c v hW j bo _ x.ac 0 _ ho
   exact t
  ·obtain rfl := Option.some.inj hk
   have t := act3_any W c v hW j bo _ x.ac 0 _ ho
   exact t
  ·obtain rfl := Option.some.inj hk
   have t := act4_any W c v hW j bo _ x.ac 0 _ ho (obj_task h (hp 5 (by omega)))
   exact t
  ·obtain rfl := Option.some.inj hk
   have t := act5_any W c v hW j bo _ x.ac 0 _ ho
   exact t
end Go.Proofs.YtpbnpmeigdjfdaaGreatDoor
