import Derived.Test.YtglnfifdjlgbcaaGreatDoorKba
import Derived.Maps.OwnSet
import Derived.Maps.OwnOps
import Derived.Maps.RangeWalk
import Derived.DeepKeys4
import Derived.Test.YtglnfifdjlgbcaaGreatDoorXZitl
import Derived.Test.YtglnfifdjlgbcaaGreatDoorXTca
import Derived.Deep.Cut
import Derived.Shelf.Abstract
import Derived.Test.YtglnfifdjlgbcaaGreatDoorXTcp
namespace Go.Proofs.YtglnfifdjlgbcaaGreatDoor
open Go.RowKit Go.Maps
set_option linter.unusedVariables false
set_option linter.unusedSimpArgs false

/-! ### Owners as keys -/
structure Own where
  isr : Bool
  id : Int
  deriving DecidableEq
def ov (o : Own) : Value := .agg #[.bool o.isr, I o.id]
def Own.wf (o : Own) : Prop := (Lit.int .i64 o.id).wf = true
theorem ov_inj {a b : Own} (h : ov a = ov b) : a = b := by
  cases a; cases b
  simp [ov] at h
  simp [h]
theorem laidOut9 : laidOutB Tryz.prog = true := by kernel_rfl
theorem rowO : (109 : TypeId) < Tryz.prog.types.size := of_decide_eq_true (by kernel_rfl)
theorem keyOwn : Keyed Tryz.prog 109 := Keyed.of_law (deep_law_laid laidOut9 (m := 2) (by omega) rowO (by kernel_rfl) (by rw [Tryz.underlying109]))
def kl (o : Own) : Lit := .string (keyBytes [.bool o.isr, .int .i64 o.id])
theorem cellsO : Tryz.prog.cellsOf 109 = 2 := by kernel_rfl
theorem keyTypeO : Tryz.prog.keyType 109 = true := by kernel_rfl
theorem typesN : ∃ n, Tryz.prog.types.size + 1 = n + 2 := ⟨Tryz.prog.types.size - 1, by have h : 0 < Tryz.prog.types.size := Nat.lt_of_le_of_lt (Nat.zero_le _) rowO; omega⟩
theorem lits_own (n : Nat) (o : Own) (h : o.wf) : Tryz.prog.keyLits (n + 2) 109 [.bool o.isr, I o.id] = some [.bool o.isr, .int .i64 o.id] := by
  have c1 : Tryz.prog.cellsOf 4 = 1 := by kernel_rfl
  have c2 : Tryz.prog.cellsOf 3 = 1 := by kernel_rfl
  unfold Own.wf at h
  simp [Program.keyLits, Tryz.underlying109, Tryz.underlying4, Tryz.underlying3, cellsO, c1, c2, h]
theorem key_own (o : Own) (h : o.wf) : keyOf Tryz.prog 109 (ov o) = some (kl o) := by
  obtain ⟨n, hn⟩ := typesN
  have hf : (ov o).formed Tryz.prog 109 = true := by simp [ov, Value.formed, Tryz.underlying109, cellsO]
  unfold keyOf
  rw [Tryz.underlying109]
  simp only [keyTypeO, hf, Bool.and_self, if_true, hn]
  rw [show (ov o).cells.toList = [.bool o.isr, I o.id] from rfl, lits_own n o h]
  rfl
theorem kl_inj {a b : Own} (ha : a.wf) (hb : b.wf) (h : kl a = kl b) : a = b := ov_inj (keyOwn.inj (key_own a ha) (by rw [h]; exact key_own b hb))
theorem kl_ne {a b : Own} (ha : a.wf) (hb : b.wf) (h : a ≠ b) : kl a ≠ kl b := fun e => h (kl_inj ha hb e)
theorem kl_lit (o : Own) : WideAt.IsKeyLit (kl o) := trivial
theorem two_of {l : List Value} (h : l.length = 2) : ∃ x y, l = [x, y] := by
  match l, h with
  | [x, y], _ => exact ⟨x, y, rfl⟩
theorem lits_inv (n : Nat) (x y : Value) (ls : List Lit) (h : Tryz.prog.keyLits (n + 2) 109 [x, y] = some ls) : ∃ o : Own, x = .bool o.isr ∧ y = I o.id ∧ o.wf ∧ ls = [.bool o.isr, .int .i64 o.id] := by
  have c1 : Tryz.prog.cellsOf 4 = 1 := by kernel_rfl
  have c2 : Tryz.prog.cellsOf 3 = 1 := by kernel_rfl
  simp [Program.keyLits, Tryz.underlying109, cellsO, c1, c2, Tryz.underlying4, Tryz.underlying3] at h
  cases x <;> simp at h
  cases y <;> simp at h
  rename_i b k m
  by_cases hc : k = IntKind.i64 ∧ (Lit.int IntKind.i64 m).wf = true
  · rw [if_pos hc] at h
    simp at h
    obtain ⟨rfl, h2⟩ := hc
    exact ⟨⟨b, m⟩, rfl, rfl, h2, h.symm⟩
  · rw [if_neg hc] at h
    simp at h
set_option maxRecDepth 100000 in
/-- What reads as an owner's key is an owner. -/
theorem key_own_inv {v : Value} {l : Lit} (h : keyOf Tryz.prog 109 v = some l) : ∃ o : Own, v = ov o ∧ o.wf ∧ l = kl o := by
  obtain ⟨n, hn⟩ := typesN
  unfold keyOf at h
  rw [Tryz.underlying109] at h
  simp only [keyTypeO, Bool.true_and, hn] at h
  split at h
  · rename_i hf
    cases v <;> simp [Value.formed, Tryz.underlying109, cellsO] at hf
    rename_i cs
    obtain ⟨l0⟩ := cs
    obtain ⟨x, y, rfl⟩ := two_of hf
    rw [Option.map_eq_some_iff] at h
    obtain ⟨ls, h1, rfl⟩ := h
    obtain ⟨o, rfl, rfl, h2, rfl⟩ := lits_inv n x y ls h1
    exact ⟨o, rfl, h2, rfl⟩
  · cases h
end Go.Proofs.YtglnfifdjlgbcaaGreatDoor

namespace Go.Proofs.YtglnfifdjlgbcaaGreatDoor
open Go.RowKit Go.Maps
open Go.Proofs.YtglnfifdjlgbcaaGreatDoor.St (Fx Fz iQ iP)
set_option linter.unusedVariables false
set_option linter.unusedSimpArgs false

/-! ### The map of the owners -/
def opV : Option Nat → Value
  | some q => .pointer (some ⟨q, 0, none⟩)
  | none => .pointer none
def opD : Option Nat → DataW Unit
  | some q => .lit (.int .i64 (q : Int))
  | none => .lit (.int .i64 (-1))
def Rp : Value → Option (DataW Unit × List MemPlace)
  | .pointer none => some (opD none, [])
  | .pointer (some ⟨q, 0, none⟩) => some (opD (some q), [])
  | _ => none
theorem Rp_op (q : Option Nat) : Rp (opV q) = some (opD q, []) := by cases q <;> rfl
theorem opD_inj {p q : Option Nat} (h : opD p = opD q) : p = q := by
  cases p <;> cases q <;> simp [opD] at h <;> first | rfl | omega | (congr 1; omega)
theorem Rp_inv {v : Value} {y : DataW Unit × List MemPlace} (h : Rp v = some y) : ∃ q, v = opV q ∧ y.1 = opD q := by
  unfold Rp at h
  split at h
  · cases h; exact ⟨none, rfl, rfl⟩
  · cases h; exact ⟨some _, rfl, rfl⟩
  · cases h
/-- The map in block b leads from each owner o to what p says. -/
def OwM (w : World) (b n : Nat) (p : Own → Option Nat) : Prop := ∃ D : DataW Unit, w.ownsMap Tryz.prog 109 Rp b n D ∧ (∀ o, o.wf → Maps.has D (kl o) = (p o).isSome ∧ ((p o).isSome = true → ∀ z, D.atKey (kl o) z = opD (p o)))
section
variable {w : World} {b n : Nat} {p : Own → Option Nat}
theorem OwM.made (w : World) (n : Nat) : OwM (w.alloc (.map #[] 0)) w.heap.size n (fun _ => none) :=
  ⟨.map [], (World.ownsMap_made _ _ _ _).mono (Nat.zero_le _), fun o _ => ⟨by simp [Maps.has], fun h => by cases h⟩⟩
theorem OwM.lt (h : OwM w b n p) : b < w.heap.size := by obtain ⟨D, h, _⟩ := h; exact h.lt
theorem OwM.kept {w' : World} (h : OwM w b n p) (hb : w'.heap[b]? = w.heap[b]?) : OwM w' b n p := by
  obtain ⟨D, ⟨es, clock, h1, h2⟩, h3⟩ := h
  exact ⟨D, ⟨es, clock, hb.trans h1, h2⟩, h3⟩
theorem zeroP (w : World) : (zeroValue 229).run Tryz.prog w = .ok (opV none) w := by kernel_rfl
theorem OwM.look (h : OwM w b n p) (o : Own) (ho : o.wf) : (Instr.lookup 169 (.map (some b)) (.agg #[.bool o.isr, I o.id]) true).run Tryz.prog w = .ok (.tuple #[opV (p o), .bool (p o).isSome]) w := by
  obtain ⟨D, hD, h2⟩ := h
  obtain ⟨v, ps, hrun, hv⟩ := hD.look_ok keyOwn Tryz.underlying169 (zeroP w) (Rp_op none) (key_own o ho)
  obtain ⟨q, rfl, hq⟩ := Rp_inv hv
  rw [(h2 o ho).1] at hrun
  have : q = p o := by
    cases hp : p o with
    | none =>
      have h3 := (h2 o ho).1
      rw [hp] at h3
      rw [Maps.atKey_of_not_has h3] at hq
      exact (opD_inj hq).symm
    | some r =>
      have h3 := (h2 o ho).2 (by rw [hp]; rfl)
      rw [h3, hp] at hq
      exact (opD_inj hq).symm
  rw [this] at hrun
  exact hrun
theorem OwM.put (h : OwM w b n p) (hn : n < 1048576) (o : Own) (ho : o.wf) (q : Nat) : ∃ w', (Instr.mapUpdate 169 (.map (some b)) (.agg #[.bool o.isr, I o.id]) (.pointer (some ⟨q, 0, none⟩))).run Tryz.prog w = .ok () w' ∧ OwM w' b (n + 1) (fun x => if x = o then some q else p x) ∧ w.grownBy w' (some b) := by
  obtain ⟨D, hD, h2⟩ := h
  obtain ⟨w', hrun, r1, r2⟩ := hD.update keyOwn Tryz.underlying169 (by unfold maxLen; omega) (key_own o ho) (Rp_op (some q))
  refine ⟨w', hrun, ⟨_, r1, fun x hx => ?_⟩, r2⟩
  dsimp only
  by_cases e : x = o
  · subst e
    rw [if_pos rfl]
    exact ⟨Maps.has_put_same hD.isMap (kl_lit x) _, fun _ z => Maps.atKey_put_same hD.isMap (kl_lit x) _ _⟩
  · rw [if_neg e, Maps.has_put_other (kl_ne hx ho e)]
    refine ⟨(h2 x hx).1, fun hp z => ?_⟩
    rw [Maps.atKey_put_other (kl_ne hx ho e)]
    exact (h2 x hx).2 hp z
end

/-! ### The takes -/
abbrev Tks := List (Own × Int)
def hld (L : Tks) (o : Own) : List Int := (L.filter fun t => decide (t.1 = o)).map (·.2)
def hdr (L : Tks) (r : Int) : Option Own := (L.find? fun t => decide (t.2 = r)).map (·.1)
def nodR (L : Tks) (r : Int) : Tks := L.filter fun t => decide (t.2 ≠ r)
theorem hdr_some {L : Tks} {r : Int} {o : Own} (h : hdr L r = some o) : (o, r) ∈ L := by
  unfold hdr at h
  rw [Option.map_eq_some_iff] at h
  obtain ⟨t, h1, rfl⟩ := h
  have h2 := List.find?_some h1
  have h3 := List.mem_of_find?_eq_some h1
  simp at h2
  rw [← h2]
  exact h3
theorem hdr_none {L : Tks} {r : Int} : hdr L r = none ↔ ∀ o, (o, r) ∉ L := by
  unfold hdr
  rw [Option.map_eq_none_iff, List.find?_eq_none]
  simp only [decide_eq_true_eq]
  exact ⟨fun h o hm => h _ hm rfl, fun h t ht e => h t.1 (by rw [← e]; exact ht)⟩
theorem hdr_mem {L : Tks} (hn : (L.map (·.2)).Nodup) {o : Own} {r : Int} (h : (o, r) ∈ L) : hdr L r = some o := by
  cases hh : hdr L r with
  | none => exact absurd h (hdr_none.1 hh o)
  | some o' =>
    have h' := hdr_some hh
    congr 1
    induction L with
    | nil => cases h
    | cons t L ih =>
      rw [List.map_cons, List.nodup_cons] at hn
      rcases List.mem_cons.1 h with rfl | h1 <;> rcases List.mem_cons.1 h' with h2 | h2
      · exact congrArg Prod.fst h2
      · exact absurd (List.mem_map.2 ⟨_, h2, rfl⟩) hn.1
      · rw [← h2] at hn; exact absurd (List.mem_map.2 ⟨_, h1, rfl⟩) hn.1
      · have : hdr L r = some o' := by
          cases h3 : hdr L r with
          | none => exact absurd h2 (hdr_none.1 h3 o')
          | some o'' =>
            unfold hdr at hh h3
            rw [List.find?_cons] at hh
            have h4 : decide (t.2 = r) = false := decide_eq_false (fun e => hn.1 (List.mem_map.2 ⟨_, h1, e.symm⟩))
            rw [h4] at hh
            simp only at hh
            rw [← hh, h3]
        exact ih hn.2 h1 this h2
theorem mem_hld {L : Tks} {o : Own} {r : Int} : r ∈ hld L o ↔ (o, r) ∈ L := by
  unfold hld
  rw [List.mem_map]
  constructor
  · rintro ⟨t, ht, rfl⟩
    rw [List.mem_filter] at ht
    have := ht.2
    simp at this
    rw [← this]
    exact ht.1
  · intro h
    exact ⟨(o, r), List.mem_filter.2 ⟨h, by simp⟩, rfl⟩
theorem hld_nodup {L : Tks} (hn : (L.map (·.2)).Nodup) (o : Own) : (hld L o).Nodup := by
  unfold hld
  exact hn.sublist (List.filter_sublist.map _)
theorem nod_len {L : Tks} (hn : (L.map (·.2)).Nodup) (r : Int) : (nodR L r).length + (if (hdr L r).isSome then 1 else 0) = L.length := by
  induction L with
  | nil => rfl
  | cons t L ih =>
    rw [List.map_cons, List.nodup_cons] at hn
    by_cases e : t.2 = r
    · have hz : nodR L r = L := List.filter_eq_self.2 (fun x hx => by
        simp only [decide_eq_true_eq]
        intro e2
        exact hn.1 (List.mem_map.2 ⟨x, hx, e2.trans e.symm⟩))
      have h1 : nodR (t :: L) r = nodR L r := by unfold nodR; rw [List.filter_cons, if_neg (by simp [e])]
      have h2 : hdr (t :: L) r = some t.1 := by unfold hdr; rw [List.find?_cons, decide_eq_true e]; rfl
      rw [h1, hz, h2]
      rfl
    · have h1 : nodR (t :: L) r = t :: nodR L r := by unfold nodR; rw [List.filter_cons, if_pos (by simp [e])]
      have h2 : hdr (t :: L) r = hdr L r := by unfold hdr; rw [List.find?_cons, decide_eq_false e]
      have := ih hn.2
      rw [h1, h2, List.length_cons, List.length_cons]
      omega
theorem hdr_nod {L : Tks} {r x : Int} : hdr (nodR L r) x = if x = r then none else hdr L x := by
  unfold hdr nodR
  rw [List.find?_filter]
  by_cases e : x = r
  · rw [if_pos e, Option.map_eq_none_iff, List.find?_eq_none]
    intro t _
    simp [e]
  · rw [if_neg e]
    congr 2
    funext t
    by_cases e2 : t.2 = x
    · simp [e2, e]
    · simp [e2]
theorem hdr_snoc {L : Tks} {o : Own} {r x : Int} : hdr (L ++ [(o, r)]) x = match hdr L x with | some y => some y | none => if x = r then some o else none := by
  unfold hdr
  rw [List.find?_append]
  cases h : List.find? (fun t => decide (t.2 = x)) L with
  | some t => simp
  | none =>
    by_cases e : x = r
    · simp [e]
    · have : ¬ r = x := fun k => e k.symm
      simp [e, this]
theorem hld_snoc {L : Tks} {o x : Own} {r : Int} : hld (L ++ [(o, r)]) x = if x = o then hld L o ++ [r] else hld L x := by
  unfold hld
  rw [List.filter_append, List.map_append]
  by_cases e : x = o
  · simp [e]
  · have : ¬ o = x := fun k => e k.symm
    simp [e, this]
theorem hld_nod {L : Tks} {x : Own} {r : Int} : hld (nodR L r) x = (hld L x).filter (fun y => decide (y ≠ r)) := by
  unfold hld nodR
  rw [List.filter_map, List.filter_filter, List.filter_filter]
  congr 1
  apply List.filter_congr
  intro t _
  simp [Bool.and_comm]

/-! ### The map of the holders -/
def ozV (o : Option Own) : Value := match o with | some x => ov x | none => ov ⟨false, 0⟩
def ozD (o : Own) : DataW Unit := .agg [.lit (.bool o.isr), .lit (.int .i64 o.id)]
def Ro (v : Value) : Option (DataW Unit × List MemPlace) := match v with
  | .agg ⟨[.bool x, .int .i64 i]⟩ => some (ozD ⟨x, i⟩, [])
  | _ => none
theorem Ro_ov (o : Own) : Ro (ov o) = some (ozD o, []) := rfl
theorem ozD_inj {a b : Own} (h : ozD a = ozD b) : a = b := by
  cases a; cases b
  simp [ozD] at h
  simp [h]
theorem Ro_inv {v : Value} {y : DataW Unit × List MemPlace} (h : Ro v = some y) : ∃ o, v = ov o ∧ y.1 = ozD o := by
  unfold Ro at h
  split at h
  · cases h; exact ⟨_, rfl, rfl⟩
  · cases h
theorem keyI9 : Keyed Tryz.prog 3 := int_keyed Tryz.underlying3
def HdM (w : World) (b : Nat) (L : Tks) : Prop := ∃ D : DataW Unit, w.ownsMap Tryz.prog 3 Ro b L.length D ∧ Maps.size D = L.length ∧ ∀ r, (Lit.int .i64 r).wf = true → Maps.has D (.int .i64 r) = (hdr L r).isSome ∧ ∀ o, hdr L r = some o → ∀ z, D.atKey (.int .i64 r) z = ozD o
section
variable {w : World} {b : Nat} {L : Tks}
theorem own_tight9 {H : Type} {w : World} {P : Program} {k : TypeId} {R : Value → Option (DataW H × List MemPlace)} {b n : Nat} {D : DataW H} (h : w.ownsMap P k R b n D) : w.ownsMap P k R b (Maps.size D) D := by
  obtain ⟨es, clock, hb, F, hs, rfl⟩ := h
  refine ⟨es, clock, hb, F, ?_, rfl⟩
  rw [Maps.size_eq, length_sorted]
  simp
theorem HdM.made (w : World) : HdM (w.alloc (.map #[] 0)) w.heap.size [] :=
  ⟨.map [], World.ownsMap_made _ _ _ _, rfl, fun r _ => ⟨by simp [Maps.has, hdr], fun o h => by simp [hdr] at h⟩⟩
theorem HdM.lt (h : HdM w b L) : b < w.heap.size := by obtain ⟨D, h, _⟩ := h; exact h.lt
theorem HdM.kept {w' : World} (h : HdM w b L) (hb : w'.heap[b]? = w.heap[b]?) : HdM w' b L := by
  obtain ⟨D, ⟨es, clock, h1, h2⟩, h3⟩ := h
  exact ⟨D, ⟨es, clock, hb.trans h1, h2⟩, h3⟩
theorem zeroO (w : World) : (zeroValue 109).run Tryz.prog w = .ok (ov ⟨false, 0⟩) w := by kernel_rfl
theorem HdM.look (h : HdM w b L) (r : Int) (hr : (Lit.int .i64 r).wf = true) : (Instr.lookup 171 (.map (some b)) (.int .i64 r) true).run Tryz.prog w = .ok (.tuple #[ozV (hdr L r), .bool (hdr L r).isSome]) w := by
  obtain ⟨D, hD, hs, h2⟩ := h
  obtain ⟨v, ps, hrun, hv⟩ := hD.look_ok keyI9 Tryz.underlying171 (zeroO w) (Ro_ov _) (keyOf_int_mk Tryz.underlying3 hr)
  obtain ⟨q, rfl, hq⟩ := Ro_inv hv
  rw [(h2 r hr).1] at hrun
  have : ov q = ozV (hdr L r) := by
    cases hp : hdr L r with
    | none =>
      have h3 := (h2 r hr).1
      rw [hp] at h3
      rw [Maps.atKey_of_not_has h3] at hq
      rw [← ozD_inj hq]
      rfl
    | some o =>
      have h3 := (h2 r hr).2 o hp
      rw [h3] at hq
      rw [← ozD_inj hq]
      rfl
  rw [this] at hrun
  exact hrun
theorem HdM.put (h : HdM w b L) (hn : L.length < 1048576) (o : Own) (r : Int) (hr : (Lit.int .i64 r).wf = true) (hf : hdr L r = none) : ∃ w', (Instr.mapUpdate 171 (.map (some b)) (.int .i64 r) (.agg #[.bool o.isr, I o.id])).run Tryz.prog w = .ok () w' ∧ HdM w' b (L ++ [(o, r)]) ∧ w.grownBy w' (some b) := by
  obtain ⟨D, hD, hs, h2⟩ := h
  have hT := hD.tidy keyI9
  have hkl : WideAt.IsKeyLit (.int .i64 r) := trivial
  obtain ⟨w', hrun, r1, r2⟩ := hD.update keyI9 Tryz.underlying171 (by unfold maxLen; omega) (keyOf_int_mk Tryz.underlying3 hr) (Ro_ov o)
  have hsz : Maps.size (D.put (.int .i64 r) (ozD o)) = (L ++ [(o, r)]).length := by
    rw [Maps.size_put hT, (h2 r hr).1, hf, hs]
    simp
  refine ⟨w', hrun, ⟨_, by rw [← hsz]; exact own_tight9 r1, hsz, fun x hx => ?_⟩, r2⟩
  rw [hdr_snoc]
  by_cases e : x = r
  · subst e
    rw [hf, Maps.has_put_same hD.isMap hkl]
    refine ⟨by simp, fun o' ho' z => ?_⟩
    simp at ho'
    rw [Maps.atKey_put_same hD.isMap hkl, ho']
  · have hne : (Lit.int .i64 x) ≠ .int .i64 r := fun k => e (by injection k)
    rw [Maps.has_put_other hne, if_neg e]
    have h3 := h2 x hx
    cases hp : hdr L x with
    | none => rw [hp] at h3; exact ⟨h3.1, fun o' ho' => by cases ho'⟩
    | some y =>
      rw [hp] at h3
      refine ⟨h3.1, fun o' ho' z => ?_⟩
      rw [Maps.atKey_put_other hne]
      exact h3.2 o' ho' z
theorem HdM.del (h : HdM w b L) (hnd : (L.map (·.2)).Nodup) (r : Int) (hr : (Lit.int .i64 r).wf = true) (ty : TypeId) : ∃ w', (Builtin.delete_ #[171, 3] ty #[.map (some b), .int .i64 r]).run Tryz.prog w = .ok (.tuple #[]) w' ∧ HdM w' b (nodR L r) ∧ w.grownBy w' (some b) := by
  obtain ⟨D, hD, hs, h2⟩ := h
  have hT := hD.tidy keyI9
  obtain ⟨w', hrun, r1, r2⟩ := hD.drop keyI9 Tryz.underlying171 (keyOf_int_mk Tryz.underlying3 hr) ty
  have hsz : Maps.size (D.del (.int .i64 r)) = (nodR L r).length := by
    have h3 := Maps.size_del hT (k := .int .i64 r)
    have h4 := nod_len hnd r
    rw [(h2 r hr).1, hs] at h3
    omega
  refine ⟨w', hrun, ⟨_, by rw [← hsz]; exact own_tight9 r1, hsz, fun x hx => ?_⟩, r2.grown⟩
  rw [hdr_nod]
  by_cases e : x = r
  · subst e
    rw [if_pos rfl, Maps.has_del_same]
    exact ⟨rfl, fun o ho => by cases ho⟩
  · have hne : (Lit.int .i64 x) ≠ .int .i64 r := fun k => e (by injection k)
    rw [if_neg e, Maps.has_del_other hne]
    refine ⟨(h2 x hx).1, fun o ho z => ?_⟩
    rw [Maps.atKey_del_other hne]
    exact (h2 x hx).2 o ho z
end
end Go.Proofs.YtglnfifdjlgbcaaGreatDoor

namespace Go.Proofs.YtglnfifdjlgbcaaGreatDoor
open Go.RowKit Go.Maps
open Go.Proofs.YtglnfifdjlgbcaaGreatDoor.St (Fx Fz iQ iP)
set_option linter.unusedVariables false
set_option linter.unusedSimpArgs false

/-! ### A lock -/
structure Ob where
  prio : Int
  cat : Int
  inner : Int
  own : List Int
def obs (tb : Tb) (o : Own) : Option Ob := if o.id < 0 then none else if o.isr = true then (tb.isrs[o.id.toNat]?).map (fun x => ⟨x.prio, x.cat, -1, x.own⟩) else (tb.tasks[o.id.toNat]?).map (fun x => ⟨x.prio, 0, x.inner, x.own⟩)
structure Gt where
  shut : Bool
  all : Int
  os : Int
structure Ls where
  L : Tks
  i : Own → Bool
  g : Gt
/-- What always holds of a lock over these tables. -/
structure OKl (tb : Tb) (s : Ls) : Prop where
  nd : (s.L.map (·.2)).Nodup
  own : ∀ o r, (o, r) ∈ s.L → ∃ b, obs tb o = some b ∧ r ∈ b.own
  i : ∀ o, s.i o = true → ∃ b, obs tb o = some b ∧ b.inner ≠ -1
  g : 0 ≤ s.g.all ∧ s.g.all ≤ 255 ∧ 0 ≤ s.g.os ∧ s.g.os ≤ 255
/-- What Check says of the tables of a lock. -/
structure OKt (tb : Tb) : Prop where
  own : ∀ o b, obs tb o = some b → b.own.Nodup ∧ ∀ r ∈ b.own, 0 ≤ r ∧ ∃ x, tb.ress[r.toNat]? = some x ∧ x.inner = false ∧ b.prio ≤ x.ceil
  ress : tb.ress.length ≤ 65
  tasks : tb.tasks.length ≤ 256
  isrs : tb.isrs.length ≤ 32
  inner : ∀ x ∈ tb.tasks, x.inner = -1 ∨ 0 ≤ x.inner
  cat : ∀ x ∈ tb.isrs, x.cat = 1 ∨ x.cat = 2
/-- Where a lock lies. -/
structure Ly where
  rs : Sl
  mo : Nat
  mh : Nat
  n : Nat
  p : Own → Option Nat
  sb : Own → Nat
  gb : Own → Nat
  sl : Own → Sl
abbrev lp (B : Nat) : Value := .pointer (some ⟨B, 0, none⟩)
structure OwB (w : World) (b : Ob) (ins : Bool) (xs : List Int) (q s g : Nat) (sl : Sl) : Prop where
  o : w.heap[q]? = some (.cells #[I b.prio, I b.cat, .slice sl.a sl.n sl.c, I b.inner, .bool ins, lp s] 235)
  r : RowsAt w 1 intP sl b.own
  k : ∃ hi, iQ w s g b.own.length hi xs
def zRow {α : Type} (Z : Nat → Prop) (s : Sl) (l : List α) : Prop := l ≠ [] → ∃ g off, s.a = some ⟨g, off, none⟩ ∧ Z g
/-- The blocks that a lock writes. -/
def Ly.M (y : Ly) (B b : Nat) : Prop := b = B ∨ b = y.mo ∨ b = y.mh ∨ ∃ o q, y.p o = some q ∧ (b = q ∨ b = y.sb o ∨ b = y.gb o)
structure Lk (w : World) (tb : Tb) (Z : Nat → Prop) (y : Ly) (B : Nat) (s : Ls) : Prop where
  ok : OKl tb s
  tk : OKt tb
  o : w.heap[B]? = some (.cells #[.slice y.rs.a y.rs.n y.rs.c, .map (some y.mo), .map (some y.mh), .bool s.g.shut, I s.g.all, I s.g.os] 175)
  r : RowsAt w 2 rsrP y.rs tb.ress
  zr : zRow Z y.rs tb.ress
  m : OwM w y.mo y.n y.p
  n : y.n ≤ 1024
  h : HdM w y.mh s.L
  ne : y.mo ≠ y.mh
  pn : ∀ o, obs tb o = none → y.p o = none
  ps : ∀ o b, obs tb o = some b → o.wf ∧ ∃ q, y.p o = some q ∧ OwB w b (s.i o) (hld s.L o) q (y.sb o) (y.gb o) (y.sl o) ∧ zRow Z (y.sl o) b.own
  inj : ∀ o o' q q', y.p o = some q → y.p o' = some q' → q = q' ∨ y.sb o = y.sb o' ∨ y.gb o = y.gb o' → o = o'
  z : ∀ b, Z b → ¬ y.M B b
theorem rows_kept {α : Type} {w w' : World} {k : Nat} {P : α → Nat → Value → Prop} {s : Sl} {l : List α} {Z : Nat → Prop} (h : RowsAt w k P s l) (hz : zRow Z s l) (hk : ∀ b, Z b → b < w.heap.size → w'.heap[b]? = w.heap[b]?) (hs : w.heap.size ≤ w'.heap.size) : RowsAt w' k P s l := by
  refine ⟨h.n, h.c, h.m, fun j x hj => ?_⟩
  obtain ⟨g, off, e, hg, hr⟩ := h.row j x hj
  obtain ⟨g', off', e', hZ⟩ := hz (fun e => by rw [e] at hj; cases hj)
  rw [e] at e'
  cases e'
  refine ⟨g, off, e, by omega, fun i hi => ?_⟩
  obtain ⟨u, h1, h2⟩ := hr i hi
  exact ⟨u, (World.cell?_of_block (hk g hZ hg)).trans h1, h2⟩
section
variable {w w' : World} {tb : Tb} {Z : Nat → Prop} {y : Ly} {B : Nat} {s : Ls}
theorem OwB.kept {N : Nat → Prop} {b : Ob} {ins : Bool} {xs : List Int} {q s g : Nat} {sl : Sl} (h : OwB w b ins xs q s g sl) (hf : Fz N w w') (hz : zRow Z sl b.own) (h1 : ¬ N q) (h2 : ¬ N s) (h3 : ¬ N g) (h4 : ∀ b, Z b → ¬ N b) : OwB w' b ins xs q s g sl := by
  obtain ⟨hi, hk⟩ := h.k
  exact ⟨hf.heap h.o h1, rows_kept h.r hz (fun b hb hlt => hf.block b hlt (h4 b hb)) hf.size, hi, hk.keptZ hf h2 h3⟩
/-- The lock stays what it is while other blocks are written. -/
theorem Lk.kept (h : Lk w tb Z y B s) {N : Nat → Prop} (hf : Fz N w w') (hM : ∀ b, y.M B b → ¬ N b) (hZ : ∀ b, Z b → ¬ N b) : Lk w' tb Z y B s := by
  refine ⟨h.ok, h.tk, hf.heap h.o (hM _ (.inl rfl)), rows_kept h.r h.zr (fun b hb hlt => hf.block b hlt (hZ b hb)) hf.size, h.zr, h.m.kept (hf.block _ h.m.lt (hM _ (.inr (.inl rfl)))), h.n, h.h.kept (hf.block _ h.h.lt (hM _ (.inr (.inr (.inl rfl))))), h.ne, h.pn, fun o b ho => ?_, h.inj, h.z⟩
  obtain ⟨hw, q, hq, hb, hz⟩ := h.ps o b ho
  exact ⟨hw, q, hq, hb.kept hf hz (hM _ (.inr (.inr (.inr ⟨o, q, hq, .inl rfl⟩)))) (hM _ (.inr (.inr (.inr ⟨o, q, hq, .inr (.inl rfl)⟩)))) (hM _ (.inr (.inr (.inr ⟨o, q, hq, .inr (.inr rfl)⟩)))) hZ, hz⟩
theorem Lk.below (h : Lk w tb Z y B s) (hb : Below w.heap.size w w') : Lk w' tb Z y B s := h.kept (N := fun _ => False) (Fz.of_below hb) (fun _ _ => id) (fun _ _ => id)
theorem Lk.pq (h : Lk w tb Z y B s) {o : Own} {q : Nat} (hq : y.p o = some q) : ∃ b, obs tb o = some b ∧ o.wf ∧ OwB w b (s.i o) (hld s.L o) q (y.sb o) (y.gb o) (y.sl o) ∧ zRow Z (y.sl o) b.own := by
  cases ho : obs tb o with
  | none => rw [h.pn o ho] at hq; cases hq
  | some b =>
    obtain ⟨hw, q', hq', hb, hz⟩ := h.ps o b ho
    rw [hq] at hq'
    cases hq'
    exact ⟨b, rfl, hw, hb, hz⟩
/-- The blocks of a lock lie in memory. -/
theorem Lk.lts (h : Lk w tb Z y B s) {b : Nat} (hb : y.M B b) : b < w.heap.size := by
  rcases hb with rfl | rfl | rfl | ⟨o, q, hq, hb⟩
  · exact heap_lt h.o
  · exact h.m.lt
  · exact h.h.lt
  · obtain ⟨b, _, _, hB, _⟩ := h.pq hq
    obtain ⟨hi, hk⟩ := hB.k
    rcases hb with rfl | rfl | rfl
    · exact heap_lt hB.o
    · exact hk.lts.1
    · exact hk.lts.2
theorem cells_ne {w : World} {a b : Nat} {cs ds : Array Value} {t u : TypeId} (ha : w.heap[a]? = some (.cells cs t)) (hb : w.heap[b]? = some (.cells ds u)) (h : t ≠ u) : a ≠ b := by
  rintro rfl
  rw [ha] at hb
  cases hb
  exact h rfl
theorem OwM.ne {w : World} {b n : Nat} {p : Own → Option Nat} (h : OwM w b n p) {a : Nat} {cs : Array Value} {t : TypeId} (ha : w.heap[a]? = some (.cells cs t)) : a ≠ b := by
  rintro rfl
  obtain ⟨D, ⟨es, clock, h1, _⟩, _⟩ := h
  rw [ha] at h1
  cases h1
theorem HdM.ne {w : World} {b : Nat} {L : Tks} (h : HdM w b L) {a : Nat} {cs : Array Value} {t : TypeId} (ha : w.heap[a]? = some (.cells cs t)) : a ≠ b := by
  rintro rfl
  obtain ⟨D, ⟨es, clock, h1, _⟩, _⟩ := h
  rw [ha] at h1
  cases h1
/-- The blocks of an owner are apart from the lock's and from each other. -/
structure Apt (y : Ly) (B q s g : Nat) : Prop where
  a : q ≠ B ∧ s ≠ B ∧ g ≠ B
  b : q ≠ y.mo ∧ s ≠ y.mo ∧ g ≠ y.mo
  c : q ≠ y.mh ∧ s ≠ y.mh ∧ g ≠ y.mh
  d : q ≠ s ∧ q ≠ g ∧ s ≠ g
theorem Lk.apt (h : Lk w tb Z y B s) {o : Own} {q : Nat} (hq : y.p o = some q) : Apt y B q (y.sb o) (y.gb o) := by
  obtain ⟨b, _, _, hB, _⟩ := h.pq hq
  obtain ⟨hi, hk⟩ := hB.k
  obtain ⟨cs, hs⟩ := hk.ty
  obtain ⟨ds, hg⟩ := hk.tyg
  exact ⟨⟨cells_ne hB.o h.o (by decide), cells_ne hs h.o (by decide), cells_ne hg h.o (by decide)⟩, ⟨h.m.ne hB.o, h.m.ne hs, h.m.ne hg⟩, ⟨h.h.ne hB.o, h.h.ne hs, h.h.ne hg⟩, ⟨cells_ne hB.o hs (by decide), cells_ne hB.o hg (by decide), cells_ne hs hg (by decide)⟩⟩
theorem Lk.ap2 (h : Lk w tb Z y B s) {o o' : Own} {q q' : Nat} (hq : y.p o = some q) (hq' : y.p o' = some q') (hne : o ≠ o') : ∀ x, x = q ∨ x = y.sb o ∨ x = y.gb o → ¬ (x = q' ∨ x = y.sb o' ∨ x = y.gb o') := by
  obtain ⟨b, _, _, hB, _⟩ := h.pq hq
  obtain ⟨hi, hk⟩ := hB.k
  obtain ⟨cs, hs⟩ := hk.ty
  obtain ⟨ds, hg⟩ := hk.tyg
  obtain ⟨b', _, _, hB', _⟩ := h.pq hq'
  obtain ⟨hi', hk'⟩ := hB'.k
  obtain ⟨cs', hs'⟩ := hk'.ty
  obtain ⟨ds', hg'⟩ := hk'.tyg
  have hi := h.inj o o' q q' hq hq'
  rintro x (rfl | rfl | rfl) (e | e | e)
  · exact hne (hi (.inl e))
  · exact cells_ne hB.o hs' (by decide) e
  · exact cells_ne hB.o hg' (by decide) e
  · exact cells_ne hs hB'.o (by decide) e
  · exact hne (hi (.inr (.inl e)))
  · exact cells_ne hs hg' (by decide) e
  · exact cells_ne hg hB'.o (by decide) e
  · exact cells_ne hg hs' (by decide) e
  · exact hne (hi (.inr (.inr e)))
end
end Go.Proofs.YtglnfifdjlgbcaaGreatDoor

namespace Go.Proofs.YtglnfifdjlgbcaaGreatDoor
open Go.RowKit Go.Maps Go.Shelf Go.Sort
open Go.Proofs.YtglnfifdjlgbcaaGreatDoor.St (Fx Fz iQ iP)
set_option linter.unusedVariables false
set_option linter.unusedSimpArgs false

/-! ### find, asker -/
section
variable {w w' : World} {tb : Tb} {Z : Nat → Prop} {y : Ly} {B : Nat} {s : Ls}
theorem Lk.cells (h : Lk w tb Z y B s) : w.cell? ⟨B, 0, none⟩ = some (.slice y.rs.a y.rs.n y.rs.c) ∧ w.cell? ⟨B, 1, none⟩ = some (.map (some y.mo)) ∧ w.cell? ⟨B, 2, none⟩ = some (.map (some y.mh)) ∧ w.cell? ⟨B, 3, none⟩ = some (.bool s.g.shut) ∧ w.cell? ⟨B, 4, none⟩ = some (I s.g.all) ∧ w.cell? ⟨B, 5, none⟩ = some (I s.g.os) := by
  refine ⟨?_, ?_, ?_, ?_, ?_, ?_⟩ <;> (rw [cell_of_row w B _ _ _ (0, 0) h.o]; rfl)
theorem Lk.frz (h : Lk w tb Z y B s) (j : Nat) : w.frozen? ⟨B, j, none⟩ = false := frozen_of_row w B j _ _ h.o
theorem equalIn_map_nil {P : Program} (w : World) (d : Nat) (t k e : TypeId) (p : Option Nat) (h : P.underlying t = some (.map k e)) : (Op.equalIn (d + 1) t (.map p) (.map none)).run P w = .ok p.isNone w := by
  cases p <;> simp [Op.equalIn, run_underlying h]
theorem eql_map_nil {P : Program} (w : World) (t k e : TypeId) (p : Option Nat) (h : P.underlying t = some (.map k e)) : (binOp .eql t (.map p) (.map none)).run P w = .ok (.bool p.isNone) w := by
  simp only [binOp]
  simp [show Op.equal t (.map p) (.map none) = Op.equalIn (9999 + 1) t (.map p) (.map none) from rfl, equalIn_map_nil w 9999 t k e p h]
set_option maxHeartbeats 2000000 in
set_option maxRecDepth 100000 in
theorem none_any (h : Lk w tb Z y B s) : Calls Tryz.prog 177 #[lp B] w fun e w' => e = .returned (.bool false) ∧ w' = w := by
  obtain ⟨c0, c1, c2, c3, c4, c5⟩ := h.cells
  have hq := fun w => eql_map_nil w 169 _ _ (some y.mo) Tryz.underlying169
  clear h
  go_enter Tryz.func177, Tryz.ntmps177
  go_wp2
  go_ret
  exact ⟨rfl, rfl⟩
theorem box_own (w : World) (o : Own) : (w.alloc (.cells #[.bool o.isr, I o.id] 109)).cell? ⟨w.heap.size, 0, none⟩ = some (.bool o.isr) ∧ (w.alloc (.cells #[.bool o.isr, I o.id] 109)).cell? ⟨w.heap.size, 1, none⟩ = some (I o.id) := by
  refine ⟨?_, ?_⟩ <;> (rw [cell_of_row _ _ _ _ _ (0, 0) (heap_alloc_new w _)]; rfl)
theorem OwM.drewN {w : World} {b n : Nat} {p : Own → Option Nat} (h : OwM w b n p) (k : Nat) : OwM (w.drewN k) b n p := h.kept ((St.below_drewN k (Below.refl w.heap.size w)).block b h.lt)
set_option maxHeartbeats 2000000 in
set_option maxRecDepth 100000 in
theorem find_any (h : Lk w tb Z y B s) (o : Own) (ho : o.wf) : Calls Tryz.prog 219 #[lp B, .agg #[.bool o.isr, I o.id]] w fun e w' => e = .returned (.tuple #[opV (y.p o), .bool (y.p o).isSome]) ∧ Below w.heap.size w w' := by
  have hb := below_alloc w (.cells #[.bool o.isr, I o.id] 109)
  obtain ⟨y0, y1⟩ := box_own w o
  have h1 := h.below hb
  have hN := none_any h1
  have hl : ∀ n, (Instr.lookup 169 (.map (some y.mo)) (.agg #[.bool o.isr, I o.id]) true).run Tryz.prog ((w.alloc (.cells #[.bool o.isr, I o.id] 109)).drewN n) = .ok (.tuple #[opV (y.p o), .bool (y.p o).isSome]) ((w.alloc (.cells #[.bool o.isr, I o.id] 109)).drewN n) := fun n => (h1.m.drewN n).look o ho
  obtain ⟨c0, c1, c2, c3, c4, c5⟩ := h1.cells
  have HB : Hid (∀ n, Below w.heap.size w ((w.alloc (.cells #[.bool o.isr, I o.id] 109)).drewN n)) := fun n => St.below_drewN n hb
  clear h h1 hb
  go_enter Tryz.func219, Tryz.ntmps219
  go_upto_region 1 with fail
  generalize w.alloc (.cells #[.bool o.isr, I o.id] 109) = w1 at *
  go_upto_region 3 with (first | (go_at_call 177; refine hN.mono ?_; clear hN; rintro e w2 ⟨rfl, rfl⟩))
  go_quiet (fail)
  go_wp2
  go_ret2
  exact ⟨rfl, HB.out _⟩

/-- May this one ask for this resource? -/
def asks (tb : Tb) (o : Own) (r : Int) : Bool := (obs tb o).isSome && decide (0 ≤ r) && (match tb.ress[r.toNat]? with | some x => !x.inner | none => false)
theorem Lk.some_iff (h : Lk w tb Z y B s) (o : Own) : (y.p o).isSome = (obs tb o).isSome := by
  cases ho : obs tb o with
  | none => rw [h.pn o ho]; rfl
  | some b => obtain ⟨_, q, hq, _⟩ := h.ps o b ho; rw [hq]; rfl
theorem Lk.res (h : Lk w tb Z y B s) {j : Nat} {x : RsR} (hj : tb.ress[j]? = some x) : ∃ g off, y.rs.a = some ⟨g, off, none⟩ ∧ g < w.heap.size ∧ w.cell? ⟨g, off + j * 2, none⟩ = some (.bool x.inner) ∧ w.cell? ⟨g, off + j * 2 + 1, none⟩ = some (I x.ceil) := by
  obtain ⟨g, off, e, hg, hr⟩ := h.r.row j x hj
  obtain ⟨u0, a0, b0⟩ := hr 0 (by omega)
  have e0 : u0 = .bool x.inner := b0
  rw [e0] at a0
  obtain ⟨u1, a1, b1⟩ := hr 1 (by omega)
  have e1 : u1 = I x.ceil := b1
  rw [e1] at a1
  exact ⟨g, off, e, hg, a0, a1⟩
theorem Lk.rn (h : Lk w tb Z y B s) : y.rs.n = tb.ress.length ∧ y.rs.n ≤ y.rs.c ∧ y.rs.c ≤ 9223372036854775807 := ⟨h.r.n, h.r.c, h.r.m⟩
set_option maxHeartbeats 2000000 in
set_option maxRecDepth 100000 in
theorem asker_no (h : Lk w tb Z y B s) (o : Own) (ho : o.wf) (r : Int) (hr : asks tb o r = false) : Calls Tryz.prog 231 #[lp B, .agg #[.bool o.isr, I o.id], I r] w fun e w' => e = .returned (.tuple #[.pointer none, I 3]) ∧ Below w.heap.size w w' := by
  have hb := below_alloc w (.cells #[.bool o.isr, I o.id] 109)
  obtain ⟨y0, y1⟩ := box_own w o
  have h1 := h.below hb
  have hF := find_any h1 o ho
  have HL : Hid (∀ w', Below (w.alloc (.cells #[.bool o.isr, I o.id] 109)).heap.size (w.alloc (.cells #[.bool o.isr, I o.id] 109)) w' → Lk w' tb Z y B s) := fun w' hb' => h1.below hb'
  have HB : Hid (∀ w', Below (w.alloc (.cells #[.bool o.isr, I o.id] 109)).heap.size (w.alloc (.cells #[.bool o.isr, I o.id] 109)) w' → Below w.heap.size w w') := fun w' hb' => hb.trans (hb'.mono (by simp))
  have HS : Hid ((y.p o).isSome = (obs tb o).isSome) := h.some_iff o
  clear h h1 hb
  go_enter Tryz.func231, Tryz.ntmps231
  go_upto_region 1 with fail
  generalize w.alloc (.cells #[.bool o.isr, I o.id] 109) = w1 at *
  go_upto_region 2 with (first | (go_at_call 219; refine hF.mono ?_; clear hF; rintro e w2 ⟨rfl, hb2⟩))
  have h2 := HL.out _ hb2
  have HB2 : Hid (Below w.heap.size w w2) := HB.out _ hb2
  clear HL HB hb2 y0 y1
  obtain ⟨c0, c1, c2, c3, c4, c5⟩ := h2.cells
  obtain ⟨n1, n2, n3⟩ := h2.rn
  have hS := HS.out
  generalize hz : (y.p o).isSome = z at *
  cases z with
  | false =>
    clear h2 n1 n2 n3 hS hz hr c0 c1 c2 c3 c4 c5
    go_wp2
    go_ret2
    exact ⟨rfl, HB2.out⟩
  | true =>
    by_cases hr0 : r < 0
    · clear h2 n1 n2 n3 hS hz hr c1 c2 c3 c4 c5
      go_wp2
      go_ret2
      exact ⟨rfl, HB2.out⟩
    · by_cases hr1 : r < tb.ress.length
      · obtain ⟨k, rfl⟩ := Int.eq_ofNat_of_zero_le (Int.not_lt.1 hr0)
        obtain ⟨x, hx⟩ : ∃ x, tb.ress[k]? = some x := ⟨_, List.getElem?_eq_getElem (by omega)⟩
        have hin : x.inner = true := by
          unfold asks at hr
          rw [← hS] at hr
          simp [hx] at hr
          exact hr
        obtain ⟨g, off, e1, hg, q0, q1⟩ := h2.res hx
        rw [hin] at q0
        rw [e1] at c0
        have hk1 : (k : Int) < y.rs.n := by omega
        have hk2 : ¬ ((k : Int) < 0) := by omega
        clear h2 n1 hx hr hr0 hr1 hin e1 hS hz
        go_wp2
        go_ret2
        exact ⟨rfl, HB2.out⟩
      · have hk1 : (y.rs.n : Int) ≤ r := by omega
        clear h2 n1 hr hr1 hS hz
        go_wp2
        go_ret2
        exact ⟨rfl, HB2.out⟩
set_option maxHeartbeats 2000000 in
set_option maxRecDepth 100000 in
theorem asker_ok (h : Lk w tb Z y B s) (o : Own) (ho : o.wf) (r : Int) (hr : asks tb o r = true) (q : Nat) (hq : y.p o = some q) : Calls Tryz.prog 231 #[lp B, .agg #[.bool o.isr, I o.id], I r] w fun e w' => e = .returned (.tuple #[lp q, I 0]) ∧ Below w.heap.size w w' := by
  have hb := below_alloc w (.cells #[.bool o.isr, I o.id] 109)
  obtain ⟨y0, y1⟩ := box_own w o
  have h1 := h.below hb
  have hF := find_any h1 o ho
  rw [hq] at hF
  have HL : Hid (∀ w', Below (w.alloc (.cells #[.bool o.isr, I o.id] 109)).heap.size (w.alloc (.cells #[.bool o.isr, I o.id] 109)) w' → Lk w' tb Z y B s) := fun w' hb' => h1.below hb'
  have HB : Hid (∀ w', Below (w.alloc (.cells #[.bool o.isr, I o.id] 109)).heap.size (w.alloc (.cells #[.bool o.isr, I o.id] 109)) w' → Below w.heap.size w w') := fun w' hb' => hb.trans (hb'.mono (by simp))
  clear h h1 hb
  go_enter Tryz.func231, Tryz.ntmps231
  go_upto_region 1 with fail
  generalize w.alloc (.cells #[.bool o.isr, I o.id] 109) = w1 at *
  go_upto_region 2 with (first | (go_at_call 219; refine hF.mono ?_; clear hF; rintro e w2 ⟨rfl, hb2⟩))
  have h2 := HL.out _ hb2
  have HB2 : Hid (Below w.heap.size w w2) := HB.out _ hb2
  clear HL HB hb2 y0 y1
  obtain ⟨c0, c1, c2, c3, c4, c5⟩ := h2.cells
  obtain ⟨n1, n2, n3⟩ := h2.rn
  unfold asks at hr
  simp only [Bool.and_eq_true, decide_eq_true_eq] at hr
  obtain ⟨⟨hr0, hr1⟩, hr2⟩ := hr
  obtain ⟨k, rfl⟩ := Int.eq_ofNat_of_zero_le hr1
  simp only [Int.toNat_natCast] at hr2
  split at hr2
  · rename_i x hx
    obtain ⟨g, off, e1, hg, q0, q1⟩ := h2.res hx
    have hin : x.inner = false := by simpa using hr2
    rw [hin] at q0
    rw [e1] at c0
    have hk0 : k < tb.ress.length := (List.getElem?_eq_some_iff.1 hx).1
    have hk1 : (k : Int) < y.rs.n := by omega
    have hk2 : ¬ ((k : Int) < 0) := by omega
    simp only [opV, Option.isSome_some]
    clear h2 n1 hx hr0 hr1 hin e1 hr2 hq
    go_wp2
    go_ret2
    exact ⟨rfl, HB2.out⟩
  · cases hr2
end
end Go.Proofs.YtglnfifdjlgbcaaGreatDoor

namespace Go.Proofs.YtglnfifdjlgbcaaGreatDoor
open Go.RowKit Go.Maps Go.Shelf Go.Sort
open Go.Proofs.YtglnfifdjlgbcaaGreatDoor.St (Fx Fz iQ iP)
set_option linter.unusedVariables false
set_option linter.unusedSimpArgs false

/-! ### Get, Release -/
section
variable {w w' : World} {tb : Tb} {Z : Nat → Prop} {y : Ly} {B : Nat} {s : Ls}
theorem OwB.cells {b : Ob} {ins : Bool} {xs : List Int} {q s g : Nat} {sl : Sl} (h : OwB w b ins xs q s g sl) : w.cell? ⟨q, 0, none⟩ = some (I b.prio) ∧ w.cell? ⟨q, 1, none⟩ = some (I b.cat) ∧ w.cell? ⟨q, 2, none⟩ = some (.slice sl.a sl.n sl.c) ∧ w.cell? ⟨q, 3, none⟩ = some (I b.inner) ∧ w.cell? ⟨q, 4, none⟩ = some (.bool ins) ∧ w.cell? ⟨q, 5, none⟩ = some (lp s) := by
  refine ⟨?_, ?_, ?_, ?_, ?_, ?_⟩ <;> (rw [cell_of_row w q _ _ _ (0, 0) h.o]; rfl)
theorem OwB.frz {b : Ob} {ins : Bool} {xs : List Int} {q s g : Nat} {sl : Sl} (h : OwB w b ins xs q s g sl) (j : Nat) : w.frozen? ⟨q, j, none⟩ = false := frozen_of_row w q j _ _ h.o
theorem two_boxes (w : World) (o p : Own) : Below w.heap.size w ((w.alloc (.cells #[.bool o.isr, I o.id] 109)).alloc (.cells #[.bool p.isr, I p.id] 109)) := (below_alloc w _).trans ((below_alloc _ _).mono (by simp))
theorem ozV_agg (L : Tks) (r : Int) : ∃ p : Own, ozV (hdr L r) = .agg #[.bool p.isr, I p.id] := by
  cases h : hdr L r with
  | none => exact ⟨⟨false, 0⟩, rfl⟩
  | some p => exact ⟨p, rfl⟩
set_option maxHeartbeats 2000000 in
set_option maxRecDepth 100000 in
theorem Get_no (h : Lk w tb Z y B s) (o : Own) (ho : o.wf) (r : Int) (hr : asks tb o r = false) : Calls Tryz.prog 138 #[lp B, .agg #[.bool o.isr, I o.id], I r] w fun e w' => e = .returned (I 3) ∧ Below w.heap.size w w' := by
  have hb := below_alloc w (.cells #[.bool o.isr, I o.id] 109)
  obtain ⟨y0, y1⟩ := box_own w o
  have hF := asker_no (h.below hb) o ho r hr
  have HB : Hid (∀ w', Below (w.alloc (.cells #[.bool o.isr, I o.id] 109)).heap.size (w.alloc (.cells #[.bool o.isr, I o.id] 109)) w' → Below w.heap.size w w') := fun w' hb' => hb.trans (hb'.mono (by simp))
  clear h hb hr
  go_enter Tryz.func138, Tryz.ntmps138
  go_upto_region 1 with fail
  generalize w.alloc (.cells #[.bool o.isr, I o.id] 109) = w1 at *
  go_wp2_with (first | (go_at_call 231; refine hF.mono ?_; clear hF; rintro e w2 ⟨rfl, hb2⟩))
  go_ret
  exact ⟨rfl, HB.out _ hb2⟩
set_option maxHeartbeats 2000000 in
set_option maxRecDepth 100000 in
theorem Release_no (h : Lk w tb Z y B s) (o : Own) (ho : o.wf) (r : Int) (hr : asks tb o r = false) : Calls Tryz.prog 143 #[lp B, .agg #[.bool o.isr, I o.id], I r] w fun e w' => e = .returned (I 3) ∧ Below w.heap.size w w' := by
  have hb := below_alloc w (.cells #[.bool o.isr, I o.id] 109)
  obtain ⟨y0, y1⟩ := box_own w o
  have hF := asker_no (h.below hb) o ho r hr
  have HB : Hid (∀ w', Below (w.alloc (.cells #[.bool o.isr, I o.id] 109)).heap.size (w.alloc (.cells #[.bool o.isr, I o.id] 109)) w' → Below w.heap.size w w') := fun w' hb' => hb.trans (hb'.mono (by simp))
  clear h hb hr
  go_enter Tryz.func143, Tryz.ntmps143
  go_upto_region 1 with fail
  generalize w.alloc (.cells #[.bool o.isr, I o.id] 109) = w1 at *
  go_wp2_with (first | (go_at_call 231; refine hF.mono ?_; clear hF; rintro e w2 ⟨rfl, hb2⟩))
  go_ret
  exact ⟨rfl, HB.out _ hb2⟩
/-- May it be got? -/
def gets (tb : Tb) (s : Ls) (o : Own) (r : Int) : Bool := (hdr s.L r).isNone && (match obs tb o with | some b => b.own.any (fun x => x == r) | none => false)
set_option maxHeartbeats 4000000 in
set_option maxRecDepth 100000 in
theorem Get_bar (h : Lk w tb Z y B s) (o : Own) (ho : o.wf) (r : Int) (hw : (Lit.int .i64 r).wf = true) (hr : asks tb o r = true) (hg : gets tb s o r = false) : Calls Tryz.prog 138 #[lp B, .agg #[.bool o.isr, I o.id], I r] w fun e w' => e = .returned (I 1) ∧ Below w.heap.size w w' := by
  have hb := below_alloc w (.cells #[.bool o.isr, I o.id] 109)
  obtain ⟨y0, y1⟩ := box_own w o
  obtain ⟨b, hob⟩ : ∃ b, obs tb o = some b := by
    unfold asks at hr
    cases hz : obs tb o with
    | none => rw [hz] at hr; simp at hr
    | some b => exact ⟨b, rfl⟩
  obtain ⟨-, q, hq, -, -⟩ := h.ps o b hob
  have hF := asker_ok (h.below hb) o ho r hr q hq
  have HL : Hid (∀ w', Below (w.alloc (.cells #[.bool o.isr, I o.id] 109)).heap.size (w.alloc (.cells #[.bool o.isr, I o.id] 109)) w' → Lk w' tb Z y B s) := fun w' hb' => (h.below hb).below hb'
  have HB : Hid (∀ w', Below (w.alloc (.cells #[.bool o.isr, I o.id] 109)).heap.size (w.alloc (.cells #[.bool o.isr, I o.id] 109)) w' → Below w.heap.size w w') := fun w' hb' => hb.trans (hb'.mono (by simp))
  have HQ : Hid (y.p o = some q) := hq
  have HG : Hid (gets tb s o r = false) := hg
  have HO : Hid (obs tb o = some b) := hob
  have HW : Hid ((Lit.int .i64 r).wf = true) := hw
  clear h hb hr hq hg hob hw
  go_enter Tryz.func138, Tryz.ntmps138
  go_upto_region 1 with fail
  generalize w.alloc (.cells #[.bool o.isr, I o.id] 109) = w1 at *
  go_upto_region 4 with (first | (go_at_call 231; refine hF.mono ?_; clear hF; rintro e w2 ⟨rfl, hb2⟩))
  have h2 := HL.out _ hb2
  have HB2 : Hid (Below w.heap.size w w2) := HB.out _ hb2
  clear HL HB hb2 y0 y1
  obtain ⟨c0, c1, c2, c3, c4, c5⟩ := h2.cells
  have hl := h2.h.look r HW.out
  obtain ⟨pz, hpz⟩ := ozV_agg s.L r
  rw [hpz] at hl
  have HLK : Hid (Lk w2 tb Z y B s) := h2
  clear h2 hpz
  go_upto_region 5 with fail
  have hb3 := below_alloc w2 (.cells #[.bool pz.isr, I pz.id] 109)
  have HB3 : Hid (∀ n, Below w.heap.size w ((w2.alloc (.cells #[.bool pz.isr, I pz.id] 109)).drewN n)) := fun n => St.below_drewN n (HB2.out.trans (hb3.mono HB2.out.size))
  have h3 := HLK.out.below hb3
  clear c0 c1 c2 c3 c4 c5 hl hb3
  generalize w2.alloc (.cells #[.bool pz.isr, I pz.id] 109) = w3 at *
  cases hz : (hdr s.L r).isSome with
  | true =>
    clear h3 hz
    go_quiet (fail)
    go_wp2
    go_ret
    exact ⟨rfl, HB3.out _⟩
  | false =>
    obtain ⟨b', hob', -, hB, -⟩ := h3.pq HQ.out
    rw [HO.out] at hob'
    cases hob'
    have hany : b.own.any (fun x => x == r) = false := by
      have := HG.out
      unfold gets at this
      rw [HO.out] at this
      cases hh : hdr s.L r with
      | none => rw [hh] at this; simpa using this
      | some _ => rw [hh] at hz; cases hz
    obtain ⟨d0, d1, d2, d3, d4, d5⟩ := hB.cells
    have hC : ∀ n, Calls Tryz.prog 232 #[.slice (y.sl o).a (y.sl o).n (y.sl o).c, I r] (w3.drewN n) fun e w' => e = .returned (.bool false) ∧ w' = w3.drewN n := fun n => by
      have := contains9_any (w3.drewN n) (y.sl o) b.own (hB.r.below (St.below_drewN n (Below.refl _ _)) (fun _ _ _ _ h => h)) r
      rw [hany] at this
      exact this.mono (fun e w' hh => ⟨hh.1, hh.2.symm⟩)
    clear h3 hz hB hany
    go_quiet (first | (go_at_call 232; refine Calls.quiet_of_same (hC _)))
    go_wp2
    go_ret
    exact ⟨rfl, HB3.out _⟩
end
end Go.Proofs.YtglnfifdjlgbcaaGreatDoor

