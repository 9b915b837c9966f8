import Derived.Test.YtidhjajobacnaaaGreatDoorLvX
import Derived.Laws.BitsAllLaws
namespace Go.Proofs.YtidhjajobacnaaaGreatDoor
set_option linter.unusedVariables false

/-! ### What ClassHolds asks, on lists -/
theorem or_add (m q : Nat) (hm : m < 4294967296) (hq : q < 4294967296) (h : m &&& q = 0) : m ||| q = m + q := by
  have hb : BitVec.ofNat 33 m &&& BitVec.ofNat 33 q = 0#33 := by
    apply BitVec.eq_of_toNat_eq
    rw [BitVec.toNat_and, BitVec.toNat_ofNat, BitVec.toNat_ofNat, Nat.mod_eq_of_lt (by omega), Nat.mod_eq_of_lt (by omega), h]
    rfl
  have := congrArg BitVec.toNat (BitVec.add_eq_or_of_and_eq_zero _ _ hb)
  rw [BitVec.toNat_add, BitVec.toNat_or, BitVec.toNat_ofNat, BitVec.toNat_ofNat, Nat.mod_eq_of_lt (a := m) (by omega), Nat.mod_eq_of_lt (a := q) (by omega), Nat.mod_eq_of_lt (by omega)] at this
  exact this.symm
theorem emask_at {c : Cf} {e : Nat} {x : Ev} (h : c.evs[e]? = some x) : emask c (e : Int) = (x.mask : Int) := by simp [emask, h]
theorem apart_step {c : Cf} {m e : Nat} {x : Ev} {r : List Int} (hm : m < 4294967296) (hx : c.evs[e]? = some x) (hq : x.mask < 4294967296) (h : apartF c (m : Int) ((e : Int) :: r) = true) :
    m + x.mask < 4294967296 ∧ bits .or .u32 (m : Int) (x.mask : Int) = ((m + x.mask : Nat) : Int) ∧ apartF c ((m + x.mask : Nat) : Int) r = true := by
  rw [apartF, emask_at hx] at h
  obtain ⟨h1, h2⟩ := and2 h
  rw [u32_and_nat _ _ hm hq] at h1
  have h0 : m &&& x.mask = 0 := by
    simp at h1
    exact_mod_cast h1
  have ho := or_add m x.mask hm hq h0
  have hlt : m ||| x.mask < 4294967296 := Nat.or_lt_two_pow (n := 32) hm hq
  rw [u32_or_nat _ _ hm hq, ho] at h2
  rw [u32_or_nat _ _ hm hq, ho]
  exact ⟨by omega, rfl, h2⟩
theorem may_task {c : Cf} (h : May c) {j : Nat} {x : Tk} (hx : c.tasks[j]? = some x) :
    (0 ≤ x.prio ∧ x.prio ≤ 63) ∧ 1 ≤ x.act ∧ (∀ y ∈ x.evs, 0 ≤ y ∧ y < c.evs.length) ∧ (∀ y ∈ x.res, 0 ≤ y ∧ y < c.ress.length) ∧ (0 < x.evs.length → x.act = 1) ∧ apartF c 0 x.evs = true ∧ ∀ (k : Nat) (y : Tk), k < j → c.tasks[k]? = some y → y.name ≠ x.name := by
  obtain ⟨_, hn, hq⟩ := h.t.2 j x hx
  have q0 : (inR x.prio 0 63 && inR x.act 1 255) = true := hq 0 (by omega)
  have q1 : (risF (-1) x.auto c.modes.length && risF (-1) x.res c.ress.length && risF (-1) x.evs c.evs.length && risF (-1) x.msgs c.msgs.length) = true := hq 1 (by omega)
  have q3 : (!extL c j || x.act == 1) = true := hq 3 (by omega)
  have q5 : apartF c 0 x.evs = true := hq 5 (by omega)
  obtain ⟨a1, a2⟩ := and2 q0
  obtain ⟨_, r1, r2, _⟩ := and4 q1
  have b1 : 0 ≤ x.prio ∧ x.prio ≤ 63 := by simpa [inR] using a1
  have b2 : 1 ≤ x.act ∧ x.act ≤ 255 := by simpa [inR] using a2
  refine ⟨b1, b2.1, fun y hy => by simpa [isId] using ids_of_ris r2 y hy, fun y hy => by simpa [isId] using ids_of_ris r1 y hy, fun he => ?_, q5, fun k y hk hy e => ?_⟩
  · have hj := (List.getElem?_eq_some_iff.1 hx).1
    have he2 : extL c j = true := by
      unfold extL
      simp [isId, hx]
      omega
    rw [he2] at q3
    simpa using q3
  · have : hasS ((c.tasks.map fun x => x.name).take j) x.name = true := by
      unfold hasS
      rw [List.any_eq_true]
      refine ⟨y.name, ?_, by simp [e]⟩
      rw [List.mem_iff_getElem?]
      exact ⟨k, by rw [List.getElem?_take, if_pos hk, List.getElem?_map, hy]; rfl⟩
    rw [hn] at this
    cases this
theorem clash_of {c : Cf} (h : May c) {i k : Nat} {a b : Is} (hik : i < k) (ha : c.isrs[i]? = some a) (hb : c.isrs[k]? = some b) : clashL a b = false := by
  have q : (c.isrs.take k).all (fun a => !clashL a b) = true := (h.i.2 k b hb).2.2 4 (by omega)
  rw [List.all_eq_true] at q
  have hm : a ∈ c.isrs.take k := by
    rw [List.mem_iff_getElem?]
    exact ⟨i, by rw [List.getElem?_take, if_pos hik]; exact ha⟩
  simpa using q a hm
theorem may_isrs {c : Cf} (h : May c) {i k : Nat} {a b : Is} (ha : c.isrs[i]? = some a) (hb : c.isrs[k]? = some b) : (i ≠ k → a.prio ≠ b.prio) ∧ (a.cat = 1 → b.cat = 2 → ¬ a.prio < b.prio) := by
  rcases Nat.lt_trichotomy i k with hik | hik | hik
  · have q := clash_of h hik ha hb
    unfold clashL at q
    simp at q
    refine ⟨fun _ => q.1, fun h1 h2 h3 => ?_⟩
    have := q.2 (by omega)
    rw [h1, h2] at this
    simp at this
    omega
  · subst hik
    obtain rfl := Option.some.inj (ha.symm.trans hb)
    exact ⟨fun h => absurd rfl h, fun h1 h2 => by omega⟩
  · have q := clash_of h hik hb ha
    unfold clashL at q
    simp at q
    refine ⟨fun _ e => q.1 e.symm, fun h1 h2 h3 => ?_⟩
    have := q.2 (by omega)
    rw [h1, h2] at this
    simp at this
    omega
theorem may_alarm {c : Cf} (h : May c) {j : Nat} {x : Al} (hx : c.als[j]? = some x) : ∃ (p : Nat) (y : Ct), x.ctr = (p : Int) ∧ c.ctrs[p]? = some y ∧ (0 < x.auto.length → 1 ≤ x.time ∧ x.time ≤ y.max) := by
  have q0 : isId x.ctr c.ctrs.length = true := (h.a.2 j x hx).2.2 0 (by omega)
  have q7 : timesL c x = true := (h.a.2 j x hx).2.2 7 (by omega)
  have h0 : 0 ≤ x.ctr ∧ x.ctr < c.ctrs.length := by simpa [isId] using q0
  obtain ⟨p, hp⟩ := Int.eq_ofNat_of_zero_le h0.1
  have hpl : p < c.ctrs.length := by omega
  obtain ⟨y, hy⟩ : ∃ y, c.ctrs[p]? = some y := ⟨_, List.getElem?_eq_getElem hpl⟩
  refine ⟨p, y, hp, hy, fun ha => ?_⟩
  unfold timesL at q7
  rw [if_neg (by simp; intro e; rw [e] at ha; simp at ha)] at q7
  have h1 := (and2 q7).1
  have hc : ctrOf c x.ctr = y := by rw [hp]; simp [ctrOf, hy]
  rw [hc] at h1
  have : (1 : Int) ≤ x.time ∧ (x.time : Int) ≤ y.max := by simpa [inR] using h1
  omega
end Go.Proofs.YtidhjajobacnaaaGreatDoor
