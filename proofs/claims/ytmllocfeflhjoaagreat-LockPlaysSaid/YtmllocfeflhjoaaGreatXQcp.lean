import Derived.Test.YtmllocfeflhjoaaGreatXQde
import Derived.Test.YtmllocfeflhjoaaGreatXQda
import Derived.Test.YtmllocfeflhjoaaGreatXQdb
import Derived.Shelf.SlMaps.Clone
namespace Go.Proofs.YtmllocfeflhjoaaGreat
open Go.RowKit Go.Maps Go.Shelf Go.Sort
open Go.Proofs.YtmllocfeflhjoaaGreat.St (Fx Fz iQ iP iV)
set_option linter.unusedVariables false
set_option linter.unusedSimpArgs false

/-! ### Reset: the map of the owners is never written -/
def Ly.M2 (y : Ly) (B b : Nat) : Prop := b = B ∨ b = y.mh ∨ ∃ o q, y.p o = some q ∧ (b = q ∨ b = y.sb o ∨ b = y.gb o)
section
variable {w w' : World} {tb : Tb} {Z : Nat → Prop} {y : Ly} {B : Nat} {s : Ls}
theorem Ly.M2.m {b : Nat} (h : y.M2 B b) : y.M B b := by
  rcases h with h | h | h
  · exact .inl h
  · exact .inr (.inr (.inl h))
  · exact .inr (.inr (.inr h))
theorem Lk.mo2 (h : Lk w tb Z y B s) : ¬ y.M2 B y.mo := by
  rintro (e | e | ⟨o, q, hq, e⟩)
  · exact (h.m.ne h.o) e.symm
  · exact h.ne e
  · have ha := h.apt hq
    rcases e with e | e | e
    · exact ha.b.1 e.symm
    · exact ha.b.2.1 e.symm
    · exact ha.b.2.2 e.symm
theorem Lk.turn2 (h : Lk w tb Z y B s) {o : Own} {b : Ob} {q : Nat} (hob : obs tb o = some b) (hq : y.p o = some q) {L' : Tks} (hL : ∀ x, x ≠ o → hld L' x = hld s.L x) (ok : OKl tb ⟨L', s.i, s.g⟩)
    (hf : Fx [y.sb o, y.gb o, y.mh] w w') (hk : ∃ hi, iQ w' (y.sb o) (y.gb o) b.own.length hi (hld L' o)) (hh : HdM w' y.mh L') : Lk w' tb Z y B ⟨L', s.i, s.g⟩ ∧ Fz (y.M2 B) w w' := by
  refine ⟨(h.turn hob hq hL ok hf hk hh).1, Fz.of_fx hf ?_⟩
  intro x hx
  simp only [List.mem_cons, List.not_mem_nil, or_false] at hx
  rcases hx with rfl | rfl | rfl
  · exact .inr (.inr ⟨o, q, hq, .inr (.inl rfl)⟩)
  · exact .inr (.inr ⟨o, q, hq, .inr (.inr rfl)⟩)
  · exact .inr (.inl rfl)
set_option maxHeartbeats 4000000 in
set_option maxRecDepth 100000 in
theorem Drop_ok2 (h : Lk w tb Z y B s) (o : Own) (ho : o.wf) (xs : List Int) (r : Int) (hl : hld s.L o = xs ++ [r]) : Calls Tryz.prog 17 #[lp B, .agg #[.bool o.isr, I o.id]] w fun e w' => e = .returned (.tuple #[I r, .bool true]) ∧ Lk w' tb Z y B ⟨nodO s.L o, s.i, s.g⟩ ∧ Fz (y.M2 B) w w' := by
  have hb := below_alloc w (.cells #[.bool o.isr, I o.id] 23)
  obtain ⟨y0, y1⟩ := box_own w o
  have h1 := h.below hb
  have hF := find_any h1 o ho
  obtain ⟨b, hob, -⟩ := h.ok.own o r (mem_hld.1 (by rw [hl]; simp))
  obtain ⟨-, q, hq, -, -⟩ := h.ps o b hob
  rw [hq] at hF
  have HL : Hid (∀ w', Below (w.alloc (.cells #[.bool o.isr, I o.id] 23)).heap.size (w.alloc (.cells #[.bool o.isr, I o.id] 23)) w' → Lk w' tb Z y B s) := fun w' hb' => h1.below hb'
  have HB : Hid (∀ w', Below (w.alloc (.cells #[.bool o.isr, I o.id] 23)).heap.size (w.alloc (.cells #[.bool o.isr, I o.id] 23)) w' → Below w.heap.size w w') := fun w' hb' => hb.trans (hb'.mono (by simp))
  have HLL : Hid (hld s.L o = xs ++ [r]) := hl
  have HQ : Hid (y.p o = some q) := hq
  have HO : Hid (obs tb o = some b) := hob
  clear h h1 hb hl hq hob
  go_enter Tryz.func17, Tryz.ntmps17
  go_upto_region 1 with fail
  generalize w.alloc (.cells #[.bool o.isr, I o.id] 23) = w1 at *
  go_upto_region 2 with (first | (go_at_call 58; refine hF.mono ?_; clear hF; rintro e w2 ⟨rfl, hb2⟩))
  have h2 := HL.out _ hb2
  have HB2 : Hid (Below w.heap.size w w2) := HB.out _ hb2
  have H2 : Hid (Lk w2 tb Z y B s) := h2
  clear HL HB hb2 y0 y1
  simp only [opV, Option.isSome_some]
  obtain ⟨b', hob', -, hB, -⟩ := h2.pq HQ.out
  rw [HO.out] at hob'
  cases hob'
  obtain ⟨d0, d1, d2, d3, d4, d5⟩ := hB.cells
  obtain ⟨hi, hK⟩ := hB.k
  have hT := St.iLenQ hK
  have hCt := St.iCutQ hK 0 (Nat.zero_le _)
  simp only [Nat.sub_zero, List.drop_zero, List.take_zero, Int.ofNat_zero] at hCt
  have hlen : ¬ (((hld s.L o).length : Int) = 0) := by rw [HLL.out]; simp; omega
  have hlen2 : (((hld s.L o).length : Int) == 0) = false := beq_eq_false_iff_ne.2 hlen
  clear h2 hB hK
  go_upto_region 5 with (first | (go_at_call 59; refine hT.mono ?_; clear hT; rintro e w3 ⟨rfl, rfl⟩) | (go_at_call 60; refine hCt.mono ?_; clear hCt; rintro e w3 ⟨X, cap, rfl, hO3, hk3, hf3⟩))
  have ha := H2.out.apt HQ.out
  have hBn : B ∉ [y.sb o, y.gb o] := by
    simp only [List.mem_cons, List.not_mem_nil, or_false, not_or]
    exact ⟨ha.a.2.1.symm, ha.a.2.2.symm⟩
  have hmn : y.mh ∉ [y.sb o, y.gb o] := by
    simp only [List.mem_cons, List.not_mem_nil, or_false, not_or]
    exact ⟨ha.c.2.1.symm, ha.c.2.2.symm⟩
  have k2 := hf3.cell H2.out.cells.2.2.1 hBn
  have hm3 := H2.out.h.kept (hf3.block _ H2.out.h.lt hmn)
  obtain ⟨r1, r2, r3, r4, r5⟩ := row_at hO3
  unfold maxLen at r4
  have hXm : X ≠ y.mh := by have := H2.out.h.lt; omega
  have HR : Hid (∀ j z, (hld s.L o).reverse[j]? = some z → w3.cell? ⟨X, j, none⟩ = some (I z)) := fun j z hj => r5 j _ (by show (List.map _ _)[j]? = _; rw [List.getElem?_map, hj]; rfl)
  have HK3 : Hid (iQ w3 (y.sb o) (y.gb o) b.own.length hi [] ∧ Fx [y.sb o, y.gb o] w2 w3) := ⟨hk3, hf3⟩
  have HI : Hid (HdM w3 y.mh (nodS s.L ((hld s.L o).reverse.take 0)) ∧ Fx [y.mh] w3 w3) := ⟨by rw [List.take_zero, nodS_nil]; exact hm3, Fx.refl _ _⟩
  have HK2 : Hid (w3.cell? ⟨B, 2, none⟩ = some (.map (some y.mh)) ∧ B ≠ y.mh ∧ X ≠ y.mh) := ⟨k2, H2.out.h.ne H2.out.o, hXm⟩
  generalize hN : (hld s.L o).length = N at *
  have HN : Hid ((hld s.L o).length = N) := hN
  clear hk3 hf3 ha hBn hmn d0 d1 d2 d3 d4 d5 hm3 r1 r2 r5 hO3 hXm k2 hlen hlen2 hN
  go_wp2
  go_loopw [11, 38] (fun _ v38 wr => ∃ k : Nat, k ≤ N ∧ v38 = I k ∧ Hid (HdM wr y.mh (nodS s.L ((hld s.L o).reverse.take k)) ∧ Fx [y.mh] w3 wr)) (fun _ v38 _ => N - (intOf v38).toNat)
  case atStart => exact ⟨0, by omega, rfl, HI.out⟩
  case round =>
    clear HI
    obtain ⟨k, hk, rfl, HJ⟩ := hrel
    by_cases hlt : k < N
    · have hltI : (k : Int) < N := by omega
      obtain ⟨x, hx⟩ : ∃ x, (hld s.L o).reverse[k]? = some x := ⟨_, List.getElem?_eq_getElem (by rw [List.length_reverse, HN.out]; exact hlt)⟩
      have q0 := HJ.out.2.cell (HR.out k x hx) (by simp only [List.mem_singleton]; exact HK2.out.2.2)
      have k2 := HJ.out.2.cell HK2.out.1 (by simp only [List.mem_singleton]; exact HK2.out.2.1)
      have hm4 := HJ.out.1
      have hnd : ((nodS s.L ((hld s.L o).reverse.take k)).map (·.2)).Nodup := H2.out.ok.nd.sublist (List.filter_sublist.map _)
      have hrm : (Lit.int .i64 x).wf = true := H2.out.wfr (List.mem_reverse.1 (List.mem_of_getElem? hx))
      have HX : Hid ((hld s.L o).reverse[k]? = some x) := hx
      clear hx
      go_wp2_with (first | (at_delete; refine wpList_del rfl (.tmp 45) (.tmp 46) rfl y.mh _ rfl hm4 hnd x hrm rfl ?_; clear hm4 hnd hrm k2 q0; intro w5 hm5 hf5))
      go_roundw
      case rel => exact ⟨k + 1, by omega, by go_num, by rw [List.take_add_one, HX.out, Option.toList_some, ← nodS_snoc]; exact hm5, HJ.out.2.trans hf5⟩
      case measure => simp [intOf]; omega
    · have hkN : k = N := by omega
      subst hkN
      have hbr : ¬ ((k : Int) < k) := by omega
      obtain ⟨hm4, hf4⟩ := HJ.out
      have q0 := hf4.cell (HR.out 0 r (by rw [HLL.out]; simp)) (by simp only [List.mem_singleton]; exact HK2.out.2.2)
      have hkp : (0 : Int) < k := by have := HN.out; rw [HLL.out] at this; simp at this; omega
      have HJ2 : Hid (HdM wr y.mh (nodO s.L o) ∧ Fx [y.mh] w3 wr) := ⟨by rw [List.take_of_length_le (by rw [List.length_reverse, HN.out]; exact Nat.le_refl _), nodS_own H2.out.ok.nd] at hm4; exact hm4, hf4⟩
      clear hm4 hf4 HJ hlt
      go_wp2
      go_ret2
      obtain ⟨m5, f5⟩ := HJ2.out
      obtain ⟨k3, f3⟩ := HK3.out
      have ha := H2.out.apt HQ.out
      have hs1 : y.sb o ∉ [y.mh] := by simp only [List.mem_singleton]; exact ha.c.2.1
      have hs2 : y.gb o ∉ [y.mh] := by simp only [List.mem_singleton]; exact ha.c.2.2
      have f25 : Fx [y.sb o, y.gb o, y.mh] w2 wr := (f3.mono (by intro x hx; simp only [List.mem_cons, List.not_mem_nil, or_false] at hx ⊢; rcases hx with h | h <;> simp [h])).trans (f5.mono (by intro x hx; simp only [List.mem_singleton] at hx; simp [hx]))
      obtain ⟨hn, hf⟩ := H2.out.turn2 HO.out HQ.out (L' := nodO s.L o) (fun x hx => by rw [hld_nodO, if_neg hx]) (ok_nodO H2.out.ok o) f25 ⟨_, by rw [hld_nodO, if_pos rfl]; exact k3.keptZ (Fz.of_fx (M := fun b => b ∈ [y.mh]) f5 (fun _ h => h)) hs1 hs2⟩ m5
      exact ⟨rfl, hn, (Fz.of_below HB2.out).trans hf⟩
/-- Drop, whatever is held. -/
theorem Drop_any (h : Lk w tb Z y B s) (o : Own) (ho : o.wf) : Calls Tryz.prog 17 #[lp B, .agg #[.bool o.isr, I o.id]] w fun e w' => (∃ v, e = .returned v) ∧ Lk w' tb Z y B ⟨nodO s.L o, s.i, s.g⟩ ∧ Fz (y.M2 B) w w' := by
  rcases List.eq_nil_or_concat (hld s.L o) with hn | ⟨xs, x, hn⟩
  · refine (Drop_none h o ho hn).mono (fun e w' k => ⟨⟨_, k.1⟩, ?_, Fz.of_below k.2⟩)
    have e1 : nodO s.L o = s.L := List.filter_eq_self.2 (fun t ht => by
      simp only [decide_eq_true_eq]
      intro e
      have : t.2 ∈ hld s.L o := mem_hld.2 (by rw [← e]; exact ht)
      rw [hn] at this
      cases this)
    rw [e1]
    exact h.below k.2
  · rw [List.concat_eq_append] at hn
    exact (Drop_ok2 h o ho xs x hn).mono (fun e w' k => ⟨⟨_, k.1⟩, k.2.1, k.2.2⟩)
theorem Lk.ins2 (h : Lk w tb Z y B s) {o : Own} {b : Ob} {q : Nat} (hob : obs tb o = some b) (hq : y.p o = some q) (x : Bool) (hx : x = true → b.inner ≠ -1) : Lk (w.setCell ⟨q, 4, none⟩ (.bool x)) tb Z y B ⟨s.L, insF s.i o x, s.g⟩ ∧ Fz (y.M2 B) w (w.setCell ⟨q, 4, none⟩ (.bool x)) :=
  ⟨(h.ins hob hq x hx).1, (fz_set w q 4 (.bool x)).mono (fun z e => .inr (.inr ⟨o, q, hq, .inl e⟩))⟩
end
end Go.Proofs.YtmllocfeflhjoaaGreat

namespace Go.Proofs.YtmllocfeflhjoaaGreat
open Go.RowKit Go.Maps Go.Shelf Go.Sort
open Go.Proofs.YtmllocfeflhjoaaGreat.St (Fx Fz iQ iP iV)
set_option linter.unusedVariables false
set_option linter.unusedSimpArgs false
set_option maxRecDepth 100000
set_option maxHeartbeats 8000000

/-- The map reads as D, and D leads to what p says. -/
def ChD (D : DataW Unit) (p : Own → Option Nat) : Prop := ∀ o : Own, o.wf → Maps.has D (kl o) = (p o).isSome ∧ ((p o).isSome = true → ∀ z, D.atKey (kl o) z = opD (p o))
abbrev rgO (w : World) (b r n : Nat) (D : DataW Unit) (left : Lit → Bool) (cnt : Nat) : Prop := w.ranges Tryz.prog 23 Rp b r n D left cnt
theorem rgO.kept {w w' : World} {b r n cnt : Nat} {D : DataW Unit} {left : Lit → Bool} (h : rgO w b r n D left cnt) (hb : w'.heap[b]? = w.heap[b]?) (hr : w'.heap[r]? = w.heap[r]?) : rgO w' b r n D left cnt := by
  obtain ⟨es, clock, since, seen, c0, h1, F, hs, hD, h2, rest⟩ := h
  exact ⟨es, clock, since, seen, c0, hb.trans h1, F, hs, hD, hr.trans h2, rest⟩
theorem wpList_next_own {w : World} {ops : Array Oper} {rest : List Oper} {o : Oper} {a : Act} {Q : Exit → Act → World → Prop} (hg : o.guard = none) (it : Operand) (hop : o.op = Op.next it false) (b r n : Nat) (D : DataW Unit) (p : Own → Option Nat) (left : Lit → Bool) (cnt : Nat)
    (hit : a.eval it = .pointer (some ⟨r, 0, none⟩)) (h : rgO w b r n D left cnt) (hD : ChD D p) (hsub : ∀ z, left z = true → Maps.has D z = true)
    (hDone : (∀ z, left z = false) → wpList Tryz.prog ops Q rest (a.put o.dst (.tuple #[.bool false])) w)
    (hMore : ∀ (x : Own) (q : Nat) (w' : World) (cnt' : Nat), x.wf → p x = some q → left (kl x) = true → rgO w' b r n D (fun z => left z && !z.sameKey (kl x)) cnt' → cnt' < cnt → w.grownBy w' (some r) → w'.heap.size = w.heap.size →
      (Instr.entry (.pointer (some ⟨r, 0, none⟩))).run Tryz.prog w' = .ok (.tuple #[.agg #[.bool x.isr, I x.id], .pointer (some ⟨q, 0, none⟩)]) w' → wpList Tryz.prog ops Q rest (a.put o.dst (.tuple #[.bool true, .agg #[.bool x.isr, I x.id], .pointer (some ⟨q, 0, none⟩)])) w') : wpList Tryz.prog ops Q (o :: rest) a w := by
  refine wpList_next_ranges w hg it hop 23 keyOwn Rp ov opV (fun key kl' hk => by obtain ⟨x, e, _⟩ := key_own_inv hk; exact ⟨x, e⟩) (fun v y' hv => by obtain ⟨c, e, _⟩ := Rp_inv hv; exact ⟨c, e⟩) b r n D left cnt hit h (fun _ hl => hDone hl) ?_
  intro x c kl' y' w' cnt' hk hl hR hat hrg hlt hgr hsz hen
  obtain ⟨x', e1, hw, e2⟩ := key_own_inv hk
  have := ov_inj e1
  subst this
  subst e2
  have h1 := hD x hw
  rw [hsub _ hl] at h1
  have h2 := h1.2 h1.1.symm
  have h3 := hat (opD none)
  rw [h2] at h3
  rw [Rp_op] at hR
  cases hR
  have h4 : p x = c := opD_inj h3
  subst h4
  obtain ⟨q, hq⟩ := Option.isSome_iff_exists.1 h1.1.symm
  rw [hq] at hen ⊢
  exact hMore x q w' cnt' hw hq hl hrg hlt hgr hsz hen
section
variable {w w' : World} {tb : Tb} {Z : Nat → Prop} {y : Ly} {B : Nat} {s : Ls}
/-- Reset under way: who is no longer to come holds nothing. -/
structure Rst (w wr : World) (tb : Tb) (Z : Nat → Prop) (y : Ly) (B r : Nat) (g : Gt) (D : DataW Unit) (left : Lit → Bool) (cnt : Nat) (s : Ls) : Prop where
  l : Lk wr tb Z y B s
  rg : rgO wr y.mo r y.n D left cnt
  f : Fz (y.M2 B) w wr
  sub : ∀ z, left z = true → Maps.has D z = true
  c : ∀ o : Own, o.wf → left (kl o) = false → hld s.L o = [] ∧ s.i o = false
  g : s.g = g
  r : w.heap.size ≤ r
theorem rst_end (h : Lk w tb Z y B s) (hc : ∀ o : Own, o.wf → hld s.L o = [] ∧ s.i o = false) : s = ⟨[], fun _ => false, s.g⟩ := by
  have hL : s.L = [] := by
    cases hl : s.L with
    | nil => rfl
    | cons t l =>
      obtain ⟨b, hb, _⟩ := h.ok.own t.1 t.2 (by rw [hl]; simp)
      have hw := (h.ps _ b hb).1
      have : t.2 ∈ hld s.L t.1 := mem_hld.2 (by rw [hl]; simp)
      rw [(hc _ hw).1] at this
      cases this
  have hi : s.i = fun _ => false := by
    funext o
    cases ho : s.i o with
    | false => rfl
    | true =>
      obtain ⟨b, hb, _⟩ := h.ok.i o ho
      have hw := (h.ps _ b hb).1
      rw [(hc _ hw).2] at ho
      cases ho
  cases s
  simp_all
theorem Reset_any (h : Lk w tb Z y B s) (hZ : ∀ b, Z b → b < w.heap.size) : Calls Tryz.prog 29 #[lp B] w fun e w' => e = .returned (I 0) ∧ Lk w' tb Z y B ⟨[], fun _ => false, ⟨false, 0, 0⟩⟩ ∧ Fz (y.M2 B) w w' := by
  have hN := none_any h
  obtain ⟨c0, c1, c2, c3, c4, c5⟩ := h.cells
  obtain ⟨D, hown, hD⟩ := h.m
  have HD : Hid (ChD D y.p) := hD
  have HL : Hid (Lk w tb Z y B s) := h
  have HZ : Hid (∀ b, Z b → b < w.heap.size) := hZ
  clear h hD hZ
  go_enter Tryz.func29, Tryz.ntmps29
  go_wp2_with (first
    | (go_at_call 35; refine hN.mono ?_; clear hN; rintro e w1 ⟨rfl, hw1⟩; cases hw1.symm)
    | (at_range; refine wpList_range_own _ rfl _ 29 rfl 23 83 keyOwn Tryz.underlying29 _ y.mo y.n D rfl hown ?_; intro w0 hrg0 hg0 hs0)
    | go_in)
  go_frame
  have HI : Hid (Rst w w0 tb Z y B w.heap.size s.g D (Maps.has D) (Maps.size D) s) := by
    have hb : Below w.heap.size w w0 := below_none hg0
    refine ⟨HL.out.below hb, hrg0, Fz.of_below hb, fun z hz => hz, fun o ho hl => ?_, rfl, Nat.le_refl _⟩
    have h1 := (HD.out o ho).1
    rw [hl] at h1
    have h2 : y.p o = none := by cases hp : y.p o with | none => rfl | some _ => rw [hp] at h1; cases h1
    refine ⟨HL.out.hld_none h2, ?_⟩
    cases hi : s.i o with
    | false => rfl
    | true =>
      obtain ⟨b, hb, _⟩ := HL.out.ok.i o hi
      obtain ⟨_, q, hq, _⟩ := HL.out.ps o b hb
      rw [h2] at hq
      cases hq
  clear hown hrg0 hg0 hs0 c0 c1 c2 c3 c4 c5
  generalize hr : w.heap.size = r at *
  have HR : Hid (w.heap.size = r) := hr
  clear hr
  go_loopw [3, 4] (fun _ _ wr => ∃ (left : Lit → Bool) (cnt : Nat) (s' : Ls), Hid (Rst w wr tb Z y B r s.g D left cnt s')) (fun _ _ wr => wr.rangeLeft y.mo r)
  case atStart => exact ⟨_, _, _, HI.out⟩
  case round =>
    clear HI
    obtain ⟨left, cnt, s', HJ⟩ := hrel
    go_wp2_with (first
      | (at_next; refine wpList_next_own rfl (.tmp 11) rfl y.mo r y.n D y.p left cnt rfl HJ.out.rg HD.out HJ.out.sub ?_ ?_)
      | go_in)
    · intro hl0
      have hE := rst_end HJ.out.l (fun o ho => HJ.out.c o ho (hl0 _))
      obtain ⟨c0, c1, c2, c3, c4, c5⟩ := HJ.out.l.cells
      have fr := HJ.out.l.frz
      have HK : Hid (Lk (((wr.setCell ⟨B, 3, none⟩ (.bool false)).setCell ⟨B, 4, none⟩ (I 0)).setCell ⟨B, 5, none⟩ (I 0)) tb Z y B ⟨[], fun _ => false, ⟨false, 0, 0⟩⟩ ∧ Fz (y.M2 B) w (((wr.setCell ⟨B, 3, none⟩ (.bool false)).setCell ⟨B, 4, none⟩ (I 0)).setCell ⟨B, 5, none⟩ (I 0))) := by
        have hf := ((((Fz.refl (fun b => b = B) wr).set (.inl rfl) 3 (.bool false)).set (.inl rfl) 4 (I 0)).set (.inl rfl) 5 (I 0))
        obtain ⟨k1, k2⟩ := HJ.out.l.setG (g := ⟨false, 0, 0⟩) (by unfold okG; simp) hf (setB (setB (setB HJ.out.l.o).1).2.1).2.2
        rw [show s'.L = [] from congrArg Ls.L hE, show s'.i = fun _ => false from congrArg Ls.i hE] at k1
        exact ⟨k1, HJ.out.f.trans (hf.mono (fun z e => .inl e))⟩
      clear hE hl0
      go_wp2
      go_ret
      exact ⟨rfl, HK.out⟩
    · intro x q w1 cnt1 hwx hpx hlx hrg1 hlt hg1 hs1 hen
      have hrw : w.heap.size ≤ r := HJ.out.r
      have hrM : ∀ b, y.M B b → b ≠ r := fun b hb e => by have := HL.out.lts hb; omega
      have hrZ : ∀ b, Z b → b ≠ r := fun b hb e => by have := HZ.out b hb; omega
      have hF1 : Fz (fun b => b = r) wr w1 := ⟨hg1.os, hg1.tape, hg1.output, hg1.size, fun i hi hn => hg1.block i hi (fun e => hn (by injection e))⟩
      have hL1 := HJ.out.l.kept hF1 hrM hrZ
      have hb2 := below_alloc w1 (.cells #[.bool x.isr, I x.id] 23)
      have hL2 := hL1.below hb2
      obtain ⟨y0, y1⟩ := box_own w1 x
      have hDr := Drop_any hL2 x hwx
      have hrg2 : rgO (w1.alloc (.cells #[.bool x.isr, I x.id] 23)) y.mo r y.n D (fun z => left z && !z.sameKey (kl x)) cnt1 := hrg1.kept (hb2.block _ hrg1.owns.lt) (hb2.block _ hrg1.lt)
      have HF2 : Hid (Fz (y.M2 B) w (w1.alloc (.cells #[.bool x.isr, I x.id] 23)) ∧ rgO (w1.alloc (.cells #[.bool x.isr, I x.id] 23)) y.mo r y.n D (fun z => left z && !z.sameKey (kl x)) cnt1) := ⟨(HJ.out.f.step hF1 (fun z e => .inr (by rw [e]; exact hrw))).step (Fz.of_below (M := fun _ => False) hb2) (fun _ e => e.elim), hrg2⟩
      have HX : Hid (x.wf ∧ y.p x = some q ∧ cnt1 < cnt ∧ (∀ b, y.M B b → b ≠ r) ∧ ¬ y.M2 B y.mo) := ⟨hwx, hpx, hlt, hrM, hL1.mo2⟩
      clear hF1 hL1 hL2 hrg1 hrg2 hg1 hs1 hwx hpx hlt hrM hrZ hrw hb2
      go_upto_region 6 with fail
      clear hen
      generalize w1.alloc (.cells #[.bool x.isr, I x.id] 23) = w2 at *
      generalize w1.heap.size = X2 at *
      go_upto_region 7 with (first | (go_at_call 17; refine hDr.mono ?_; clear hDr; rintro e w3 ⟨⟨ev, rfl⟩, hL3, hf3⟩))
      clear y0 y1
      obtain ⟨b, hob, -, hB, -⟩ := hL3.pq HX.out.2.1
      obtain ⟨d0, d1, d2, d3, d4, d5⟩ := hB.cells
      have df := hB.frz 4
      obtain ⟨hL4, hf4⟩ := hL3.ins2 hob HX.out.2.1 false (fun e => by cases e)
      have HN : Hid (Rst w (w3.setCell ⟨q, 4, none⟩ (.bool false)) tb Z y B r s.g D (fun z => left z && !z.sameKey (kl x)) cnt1 ⟨nodO s'.L x, insF s'.i x false, s'.g⟩) := by
        have hf24 := hf3.trans hf4
        have hrr : ¬ y.M2 B r := fun e => HX.out.2.2.2.1 r e.m rfl
        refine ⟨hL4, HF2.out.2.kept (hf24.block _ HF2.out.2.owns.lt HX.out.2.2.2.2) (hf24.block _ HF2.out.2.lt hrr), HF2.out.1.trans hf24, fun z hz => ?_, fun o ho hl => ?_, HJ.out.g, HJ.out.r⟩
        · rw [Bool.and_eq_true] at hz
          exact HJ.out.sub z hz.1
        · show hld (nodO s'.L x) o = [] ∧ insF s'.i x false o = false
          by_cases e : o = x
          · subst e
            rw [hld_nodO, if_pos rfl]
            exact ⟨rfl, if_pos rfl⟩
          · rw [hld_nodO, if_neg e]
            have hne := Maps.sameKey_ne (kl_ne ho HX.out.1 e)
            have hl' : (left (kl o) && !(kl o).sameKey (kl x)) = false := hl
            rw [hne] at hl'
            have h1 := HJ.out.c o ho (by simpa using hl')
            exact ⟨h1.1, (if_neg e).trans h1.2⟩
      clear hL3 hf3 hB hL4 hf4 hob
      go_wp2
      go_roundw
      case rel => exact ⟨_, _, _, HN.out⟩
      case measure => rw [HN.out.rg.left_eq, HJ.out.rg.left_eq]; exact HX.out.2.2.1
end
end Go.Proofs.YtmllocfeflhjoaaGreat

namespace Go.Proofs.YtmllocfeflhjoaaGreat
open Go.RowKit Go.Maps Go.Shelf Go.Sort
open Go.Proofs.YtmllocfeflhjoaaGreat.St (Fx Fz iQ iP iV)
set_option linter.unusedVariables false
set_option linter.unusedSimpArgs false
set_option maxRecDepth 100000
set_option maxHeartbeats 8000000

/-! ### Copy -/
theorem mapClone_any (w : World) (b : Nat) (L : Tks) (h : HdM w b L) : Calls Tryz.prog 37 #[.map (some b)] w fun e w' => e = .returned (.map (some w.heap.size)) ∧ HdM w' w.heap.size L ∧ Below w.heap.size w w' ∧ w'.heap.size = w.heap.size + 1 := by
  obtain ⟨D, ⟨es, clock, hb, F, hs, hD⟩, h3⟩ := h
  have hq := fun w => eql_map_nil (P := Tryz.prog) w 30 _ _ (some b) Tryz.underlying30
  have HK : Hid (HdM (w.alloc (.map es clock)) w.heap.size L) := ⟨D, ⟨es, clock, heap_alloc_new w _, F, hs, hD⟩, h3⟩
  have hcl := run_maps_clone_sl (P := Tryz.prog) w 30 hb
  clear F hs hD h3
  go_enter Tryz.func37, Tryz.ntmps37
  go_wp2
  rw [run_callFunc_extern Tryz.func82 (by kernel_rfl) (by kernel_rfl) (by kernel_rfl) (e := Extern.MapsClone.clone) (by kernel_rfl), hcl]
  simp only [Result.andThen]
  rw [Oper.upon_value]
  go_wp2
  rw [run_typeAssert_map_sl _ 30 _ _ _ _ Tryz.underlying30]
  simp only [Result.andThen]
  rw [Oper.upon_value]
  go_wp2
  go_ret
  exact ⟨rfl, HK.out, below_alloc w _, by simp⟩
section
variable {w w' : World} {tb : Tb} {Z : Nat → Prop} {y : Ly} {B : Nat} {s : Ls}
theorem ocopy_any {b : Ob} {i : Bool} {xs : List Int} {q sb g : Nat} {sl : Sl} (h : OwB w b i xs q sb g sl) : Calls Tryz.prog 36 #[lp q] w fun e w' => ∃ q' sb' g', e = .returned (lp q') ∧ OwB w' b i xs q' sb' g' sl ∧ w.heap.size ≤ q' ∧ w.heap.size ≤ sb' ∧ w.heap.size ≤ g' ∧ q' < w'.heap.size ∧ Below w.heap.size w w' := by
  obtain ⟨d0, d1, d2, d3, d4, d5⟩ := h.cells
  have hb1 := below_alloc w (.cells #[I b.prio, I b.cat, .slice sl.a sl.n sl.c, I b.inner, .bool i, lp sb] 91)
  have hV := heap_alloc_new w (.cells #[I b.prio, I b.cat, .slice sl.a sl.n sl.c, I b.inner, .bool i, lp sb] 91)
  obtain ⟨hi, hk⟩ := h.k
  have hC := St.iCopyQ (hk.below hb1)
  have e5 : (w.alloc (.cells #[I b.prio, I b.cat, .slice sl.a sl.n sl.c, I b.inner, .bool i, lp sb] 91)).cell? ⟨q, 5, none⟩ = some (lp sb) := (cell_below hb1 _ _ (heap_lt h.o)).trans d5
  have H : Hid (OwB w b i xs q sb g sl) := h
  have HB : Hid (Below w.heap.size w (w.alloc (.cells #[I b.prio, I b.cat, .slice sl.a sl.n sl.c, I b.inner, .bool i, lp sb] 91)) ∧ (w.alloc (.cells #[I b.prio, I b.cat, .slice sl.a sl.n sl.c, I b.inner, .bool i, lp sb] 91)).heap[w.heap.size]? = some (.cells #[I b.prio, I b.cat, .slice sl.a sl.n sl.c, I b.inner, .bool i, lp sb] 91) ∧ w.heap.size < (w.alloc (.cells #[I b.prio, I b.cat, .slice sl.a sl.n sl.c, I b.inner, .bool i, lp sb] 91)).heap.size) := ⟨hb1, hV, by simp⟩
  clear h hb1 hV hk
  go_enter Tryz.func36, Tryz.ntmps36
  go_upto_region 2 with fail
  clear d0 d1 d2 d3 d4 d5
  generalize w.alloc (.cells #[I b.prio, I b.cat, .slice sl.a sl.n sl.c, I b.inner, .bool i, lp sb] 91) = w1 at *
  generalize hX : w.heap.size = X at *
  have HX : Hid (w.heap.size = X) := hX
  clear hX
  have hQ : ∀ w2 : World, Below w1.heap.size w1 w2 → w2.cell? ⟨X, 5, none⟩ = some (lp sb) ∧ w2.frozen? ⟨X, 5, none⟩ = false := fun w2 hb2 => by
    have hv := (hb2.block X HB.out.2.2).trans HB.out.2.1
    exact ⟨by rw [cell_of_row _ _ _ _ _ (0, 0) hv]; rfl, frozen_of_row _ _ 5 _ _ hv⟩
  have hC2 : Calls Tryz.prog 81 #[lp sb] w1 fun e w' => ∃ B' g', e = .returned (lp B') ∧ iQ w' B' g' b.own.length hi xs ∧ w1.heap.size ≤ B' ∧ w1.heap.size ≤ g' ∧ Below w1.heap.size w1 w' := hC
  clear hC
  go_upto_region 3 with (first | (go_at_call 81; refine hC2.mono ?_; clear hC2; rintro e w2 ⟨sb', g', rfl, hk2, l1, l2, hb2⟩; obtain ⟨f5, f6⟩ := hQ w2 hb2; have HK : Hid (iQ w2 sb' g' b.own.length hi xs ∧ w1.heap.size ≤ sb' ∧ w1.heap.size ≤ g' ∧ Below w1.heap.size w1 w2) := ⟨hk2, l1, l2, hb2⟩; clear hk2 l1 l2 hb2))
  clear e5 f5 f6
  go_wp2
  go_ret
  obtain ⟨hk2, l1, l2, hb2⟩ := HK.out
  have hXl := HB.out.2.2
  have hF : Fz (fun z => z = X) w2 (w2.setCell ⟨X, 5, none⟩ (lp sb')) := fz_set w2 X 5 _
  have hb12 : Below X w w2 := HB.out.1.trans (hb2.mono (Nat.le_of_lt hXl))
  have hXe := HX.out
  have hV2 := (hb2.block X hXl).trans HB.out.2.1
  have hr2 : RowsAt w2 1 intP sl b.own := H.out.r.below (by rw [hXe]; exact hb12) (fun _ _ _ _ h => h)
  have hb13 : Below X w (w2.setCell ⟨X, 5, none⟩ (lp sb')) := hb12.trans (hF.below (by have := hb12.size; omega) (fun z e => by omega))
  have hrr : RowsAt (w2.setCell ⟨X, 5, none⟩ (lp sb')) 1 intP sl b.own := H.out.r.below (by rw [hXe]; exact hb13) (fun _ _ _ _ h => h)
  refine ⟨X, sb', g', rfl, ⟨heap_setCell_same _ X 5 _ _ _ hV2, hrr, hi, hk2.keptZ hF (fun e => by omega) (fun e => by omega)⟩, by omega, by omega, by omega, ?_, by rw [hXe]; exact hb13⟩
  have := hb2.size
  simp
  omega
end
end Go.Proofs.YtmllocfeflhjoaaGreat

namespace Go.Proofs.YtmllocfeflhjoaaGreat
open Go.RowKit Go.Maps Go.Shelf Go.Sort
open Go.Proofs.YtmllocfeflhjoaaGreat.St (Fx Fz iQ iP iV)
set_option linter.unusedVariables false
set_option linter.unusedSimpArgs false
set_option maxRecDepth 100000
set_option maxHeartbeats 8000000

theorem OwM.upd {w : World} {b n : Nat} {p : Own → Option Nat} (h : OwM w b n p) (hn : n < 1048576) (o : Own) (ho : o.wf) (q : Nat) : ∃ f : World → World, ∀ W : World, W.heap[b]? = w.heap[b]? → (Instr.mapUpdate 29 (.map (some b)) (.agg #[.bool o.isr, I o.id]) (.pointer (some ⟨q, 0, none⟩))).run Tryz.prog W = .ok () (f W) ∧ OwM (f W) b (n + 1) (fun x => if x = o then some q else p x) ∧ W.grownBy (f W) (some b) := by
  have : ∀ W : World, ∃ w', W.heap[b]? = w.heap[b]? → (Instr.mapUpdate 29 (.map (some b)) (.agg #[.bool o.isr, I o.id]) (.pointer (some ⟨q, 0, none⟩))).run Tryz.prog W = .ok () w' ∧ OwM w' b (n + 1) (fun x => if x = o then some q else p x) ∧ W.grownBy w' (some b) := fun W => by
    by_cases hW : W.heap[b]? = w.heap[b]?
    · obtain ⟨w', h1⟩ := (h.kept hW).put hn o ho q
      exact ⟨w', fun _ => h1⟩
    · exact ⟨W, fun k => absurd k hW⟩
  exact Classical.skolem.1 this
/-- those who are copied already -/
def domL (tb : Tb) (left : Lit → Bool) (o : Own) : Option Ob := if left (kl o) = true then none else obs tb o
theorem domL_step {tb : Tb} {left : Lit → Bool} {x : Own} {b : Ob} (hx : x.wf) (hb : obs tb x = some b) (hwf : ∀ o b, obs tb o = some b → o.wf) : updF (domL tb left) x (some b) = domL tb (fun z => left z && !z.sameKey (kl x)) := by
  funext o
  by_cases e : o = x
  · subst e
    rw [updF_same]
    unfold domL
    have h0 : (left (kl o) && !(kl o).sameKey (kl o)) = false := by rw [WideAt.sameKey_self (kl_lit o)]; simp
    simp [h0, hb]
  · rw [updF_ne _ _ e]
    unfold domL
    cases ho : obs tb o with
    | none => simp
    | some c =>
      have h0 := Maps.sameKey_ne (kl_ne (hwf o c ho) hx e)
      simp [h0]
structure Cpy (w wr : World) (tb : Tb) (Z : Nat → Prop) (y : Ly) (s : Ls) (m r : Nat) (D : DataW Unit) (left : Lit → Bool) (cnt n : Nat) (p : Own → Option Nat) (sb gb : Own → Nat) (sl : Own → Sl) (Z' : Nat → Prop) : Prop where
  rg : rgO wr y.mo r y.n D left cnt
  b : Below w.heap.size w wr
  sub : ∀ z, left z = true → Maps.has D z = true
  g : Gth wr w.heap.size m n p sb gb sl Z' (domL tb left) s.i (hld s.L)
  n : n + cnt ≤ y.n
  z1 : ∀ g, Z' g → Z g ∨ r < g
  r : w.heap.size < r
  z2 : ∀ g, Z g → Z' g
section
variable {w w' : World} {tb : Tb} {Z : Nat → Prop} {y : Ly} {B : Nat} {s : Ls}
theorem Gth.keptR {wr w1 : World} {X0 m n r : Nat} {p : Own → Option Nat} {sb gb : Own → Nat} {sl : Own → Sl} {Z : Nat → Prop} {dom : Own → Option Ob} {ins : Own → Bool} {hl : Own → List Int} (h : Gth wr X0 m n p sb gb sl Z dom ins hl) {mb : Option Nat} {si : Nat} {sn : Array Nat} {c0 : Nat} (hr : wr.heap[r]? = some (.mapIter mb si sn c0)) (hf : Fz (fun b => b = r) wr w1) (hz : ∀ g, Z g → g ≠ r) : Gth w1 X0 m n p sb gb sl Z dom ins hl := by
  have hne : ∀ {a : Nat} {cs : Array Value} {t : TypeId}, wr.heap[a]? = some (.cells cs t) → a ≠ r := by
    rintro a cs t ha rfl
    rw [hr] at ha
    cases ha
  have hmr : m ≠ r := by
    rintro rfl
    obtain ⟨D, ⟨es, clock, h1, _⟩, _⟩ := h.mp
    rw [hr] at h1
    cases h1
  refine ⟨h.mp.kept (hf.block _ h.mp.lt hmr), h.lo, h.pn, fun o b ho => ?_, h.inj, fun g hg => ?_⟩
  · obtain ⟨hw, q, hq, hB, hzz, h1⟩ := h.ps o b ho
    obtain ⟨hi, hk⟩ := hB.k
    obtain ⟨cs, hs⟩ := hk.ty
    obtain ⟨ds, hg⟩ := hk.tyg
    exact ⟨hw, q, hq, hB.kept hf hzz (hne hB.o) (hne hs) (hne hg) hz, hzz, h1⟩
  · obtain ⟨a, b, c⟩ := h.z g hg
    exact ⟨Nat.lt_of_lt_of_le a hf.size, b, c⟩
theorem copy_fin {wr we : World} {p : Own → Option Nat} {sb gb : Own → Nat} {sl : Own → Sl} {Z' : Nat → Prop} {m n X0 mh B' : Nat} (h : Lk w tb Z y B s) (hX : X0 = w.heap.size) (hbw : Below w.heap.size w we) (hg : Gth wr X0 m n p sb gb sl Z' (obs tb) s.i (hld s.L)) (hn : n ≤ 1024) (hbe : Below wr.heap.size wr we) (hz1 : ∀ g, Z' g → Z g ∨ X0 ≤ g) (hz2 : ∀ g, Z g → Z' g) (hh : HdM we mh s.L) (hmh : wr.heap.size ≤ mh) (hB : we.heap[B']? = some (.cells #[.slice y.rs.a y.rs.n y.rs.c, .map (some m), .map (some mh), .bool s.g.shut, I s.g.all, I s.g.os] 32)) (hB4 : wr.heap.size ≤ B') (hXr : X0 ≤ wr.heap.size) :
    ∃ Z'' y', Lk we tb Z'' y' B' s ∧ (∀ b, y'.M B' b → X0 ≤ b) ∧ ∀ b, Z'' b → (Z b ∨ X0 ≤ b) ∧ b < we.heap.size := by
  have hg' := hg.below hbe
  have hm4 := hg.mp.lt
  have hlo := hg.lo
  have hsz := hbe.size
  refine ⟨Z', ⟨y.rs, m, mh, n, p, sb, gb, sl⟩, ⟨h.ok, h.tk, hB, h.r.below hbw (fun _ _ _ _ h => h), fun hne => ?_, hg'.mp, hn, hh, ?_, hg'.pn, fun o b ho => ?_, hg'.inj, fun x hx => ?_⟩, fun x hx => ?_, fun x hx => ⟨hz1 x hx, (hg'.z x hx).1⟩⟩
  · obtain ⟨g, off, e1, e2⟩ := h.zr hne
    exact ⟨g, off, e1, hz2 g e2⟩
  · show m ≠ mh
    omega
  · obtain ⟨hw, q, hq, hBq, hz, _⟩ := hg'.ps o b ho
    exact ⟨hw, q, hq, hBq, hz⟩
  · obtain ⟨c1, c2, c3⟩ := hg.z x hx
    rintro (e | e | e | ⟨o, q, hq, e | e | e⟩)
    · omega
    · exact c2 e
    · have e' : x = mh := e
      omega
    · exact (c3 o q hq).1 e
    · exact (c3 o q hq).2.1 e
    · exact (c3 o q hq).2.2 e
  · rcases hx with e | e | e | ⟨o, q, hq, e⟩
    · omega
    · have e' : x = m := e
      omega
    · have e' : x = mh := e
      omega
    · obtain ⟨b, _, _, h1, h2, h3⟩ := hg.pq hq
      have e' : x = q ∨ x = sb o ∨ x = gb o := e
      omega
theorem Copy_any (h : Lk w tb Z y B s) (hZ : ∀ b, Z b → b < w.heap.size) : Calls Tryz.prog 9 #[lp B] w fun e w' => ∃ B' Z' y', e = .returned (lp B') ∧ Lk w' tb Z' y' B' s ∧ Below w.heap.size w w' ∧ (∀ b, y'.M B' b → w.heap.size ≤ b) ∧ (∀ b, Z' b → (Z b ∨ w.heap.size ≤ b) ∧ b < w'.heap.size) := by
  have hN := none_any h
  have hmm := make_hint
  obtain ⟨D, hown, hD⟩ := h.m
  have hb1 := below_alloc w (.map #[] 0)
  have hown1 := hown.kept (World.grownBy_alloc w (.map #[] 0) none) (by simp)
  have hlen := fun ty => hown.len Tryz.underlying29 ty
  obtain ⟨c0, c1, c2, c3, c4, c5⟩ := h.cells
  have d1 : (w.alloc (.map #[] 0)).cell? ⟨B, 1, none⟩ = some (.map (some y.mo)) := (cell_below hb1 _ _ (heap_lt h.o)).trans c1
  have HD : Hid (ChD D y.p) := hD
  have HL : Hid (Lk w tb Z y B s ∧ (∀ b, Z b → b < w.heap.size) ∧ Maps.size D ≤ y.n) := ⟨h, hZ, hown.size_le⟩
  clear h hD hZ hown
  go_enter Tryz.func9, Tryz.ntmps9
  go_upto_region 4 with (first | (go_at_call 35; refine hN.mono ?_; clear hN; rintro e w1 ⟨rfl, hw1⟩; cases hw1.symm))
  clear hlen hmm c0 c1 c2 c3 c4 c5
  have HA : Hid (Below w.heap.size w (w.alloc (.map #[] 0)) ∧ (w.alloc (.map #[] 0)).heap.size = w.heap.size + 1 ∧ OwM (w.alloc (.map #[] 0)) w.heap.size 0 (fun _ => none)) := ⟨hb1, by simp, OwM.made w 0⟩
  clear hb1
  generalize w.alloc (.map #[] 0) = wA at *
  go_wp2_with (first
    | (at_range; refine wpList_range_own _ rfl _ 29 rfl 23 83 keyOwn Tryz.underlying29 _ y.mo y.n D rfl hown1 ?_; intro w0 hrg0 hg0 hs0)
    | go_in)
  go_frame
  have HI : Hid (Cpy w w0 tb Z y s w.heap.size wA.heap.size D (Maps.has D) (Maps.size D) 0 (fun _ => none) (fun _ => 0) (fun _ => 0) (fun _ => ⟨none, 0, 0⟩) Z) := by
    have hb : Below wA.heap.size wA w0 := below_none hg0
    have hA2 := HA.out.2.1
    have hdom : domL tb (Maps.has D) = fun _ => none := by
      funext o
      unfold domL
      split
      · rfl
      · rename_i hh
        cases ho : obs tb o with
        | none => rfl
        | some b =>
          obtain ⟨hw, q, hq, _⟩ := HL.out.1.ps o b ho
          exact absurd ((HD.out o hw).1.trans (by rw [hq]; rfl)) hh
    refine ⟨hrg0, HA.out.1.trans (hb.mono (by omega)), fun z hz => hz, ⟨HA.out.2.2.kept (hb.block _ HA.out.2.2.lt), Nat.le_refl _, fun _ _ => rfl, fun o b ho => ?_, fun o o' q q' h => (by cases h), fun g hg => ?_⟩, by have := HL.out.2.2; omega, fun g hg => .inl hg, by omega, fun g hg => hg⟩
    · rw [hdom] at ho
      cases ho
    · have h1 := HL.out.2.1 g hg
      have h2 := hb.size
      exact ⟨by omega, by omega, fun o q h => by cases h⟩
  clear hown1 hrg0 hg0 hs0 d1
  generalize hr : wA.heap.size = r at *
  generalize hm : w.heap.size = m at *
  have HR : Hid (r = m + 1 ∧ w.heap.size = m) := ⟨HA.out.2.1, hm⟩
  clear hr hm HA
  go_loopw [4, 5] (fun _ _ wr => ∃ (left : Lit → Bool) (cnt n : Nat) (p : Own → Option Nat) (sb gb : Own → Nat) (sl : Own → Sl) (Z' : Nat → Prop), Hid (Cpy w wr tb Z y s m r D left cnt n p sb gb sl Z')) (fun _ _ wr => wr.rangeLeft y.mo r)
  case atStart => exact ⟨_, _, _, _, _, _, _, _, HI.out⟩
  case round =>
    clear HI
    obtain ⟨left, cnt, n, p, sb, gb, sl, Z', HJ⟩ := hrel
    go_wp2_with (first
      | (at_next; refine wpList_next_own rfl (.tmp 18) rfl y.mo r y.n D y.p left cnt rfl HJ.out.rg HD.out HJ.out.sub ?_ ?_)
      | go_in)
    · intro hl0
      have hw := HR.out.2
      have hbw : Below w.heap.size w wr := HJ.out.b
      have hLr := HL.out.1.below hbw
      have HG : Hid (Gth wr w.heap.size m n p sb gb sl Z' (obs tb) s.i (hld s.L)) := by
        have := HJ.out.g
        rw [show domL tb left = obs tb by funext o; unfold domL; rw [hl0]; simp] at this
        exact this
      obtain ⟨c0, c1, c2, c3, c4, c5⟩ := hLr.cells
      have hS : ∀ W, Below wr.heap.size wr W → W.cell? ⟨B, 0, none⟩ = some (.slice y.rs.a y.rs.n y.rs.c) ∧ W.cell? ⟨B, 2, none⟩ = some (.map (some y.mh)) ∧ W.cell? ⟨B, 3, none⟩ = some (.bool s.g.shut) ∧ W.cell? ⟨B, 4, none⟩ = some (I s.g.all) ∧ W.cell? ⟨B, 5, none⟩ = some (I s.g.os) := fun W hb => by
        obtain ⟨e0, e1, e2, e3, e4, e5⟩ := (hLr.below hb).cells
        exact ⟨e0, e2, e3, e4, e5⟩
      have hCl : ∀ W, Below wr.heap.size wr W → Calls Tryz.prog 37 #[.map (some y.mh)] W fun e w' => e = .returned (.map (some W.heap.size)) ∧ HdM w' W.heap.size s.L ∧ Below W.heap.size W w' ∧ w'.heap.size = W.heap.size + 1 := fun W hb => mapClone_any W y.mh s.L (hLr.below hb).h
      clear hl0 hLr
      go_upto_region 8 with fail
      go_region_held_law (fun W => W.cell? ⟨B, 0, none⟩ = some (.slice y.rs.a y.rs.n y.rs.c) ∧ W.cell? ⟨B, 2, none⟩ = some (.map (some y.mh)) ∧ W.cell? ⟨B, 3, none⟩ = some (.bool s.g.shut) ∧ W.cell? ⟨B, 4, none⟩ = some (I s.g.all) ∧ W.cell? ⟨B, 5, none⟩ = some (I s.g.os)) (first | exact ⟨c0, c2, c3, c4, c5⟩ | exact k3 | (go_keep; done)) (first
        | (go_at_call 37; refine (hCl _ (by first | exact (Below.refl _ _).drew | exact Below.refl _ _)).mono ?_; rintro e w3 ⟨rfl, hh3, b3, s3⟩; have B3 : Below wr.heap.size wr w3 := (Below.refl _ wr).drew.trans b3; have k3 := hS w3 B3))
      go_wp2
      go_ret
      have hz := s3
      have hszr : wr.drew.heap.size = wr.heap.size := rfl
      have hb4 := below_alloc w3 (.cells #[.slice y.rs.a y.rs.n y.rs.c, .map (some m), .map (some wr.heap.size), .bool s.g.shut, I s.g.all, I s.g.os] 32)
      have hbe : Below wr.heap.size wr (w3.alloc (.cells #[.slice y.rs.a y.rs.n y.rs.c, .map (some m), .map (some wr.heap.size), .bool s.g.shut, I s.g.all, I s.g.os] 32)) := B3.trans (hb4.mono B3.size)
      obtain ⟨Z2, y2, q1, q2, q3⟩ := copy_fin (wr := wr) (we := w3.alloc (.cells #[.slice y.rs.a y.rs.n y.rs.c, .map (some m), .map (some wr.heap.size), .bool s.g.shut, I s.g.all, I s.g.os] 32)) (mh := wr.heap.size) (B' := w3.heap.size) HL.out.1 rfl (hbw.trans (hbe.mono hbw.size)) HG.out (by have h1 := HJ.out.n; have h2 := HL.out.1.n; omega) hbe (fun g hg => (HJ.out.z1 g hg).imp id (fun h => by have := HJ.out.r; omega)) HJ.out.z2 (hh3.kept (hb4.block _ hh3.lt)) (Nat.le_refl _) (heap_alloc_new _ _) (by omega) hbw.size
      rw [s3, hszr] at q1 q2
      exact ⟨_, Z2, y2, rfl, q1, hbw.trans (hbe.mono hbw.size), q2, q3⟩
    · intro x q w1 cnt1 hwx hpx hlx hrg1 hlt hg1 hs1 hen
      have hw := HR.out
      have hr0 := HJ.out.r
      have hB1 : Below w.heap.size w w1 := HJ.out.b.trans (below_of_grown hg1 (by omega) HJ.out.b.size)
      have hL1 := HL.out.1.below hB1
      have hb2 := below_alloc w1 (.cells #[.bool x.isr, I x.id] 23)
      have hB2 : Below w.heap.size w (w1.alloc (.cells #[.bool x.isr, I x.id] 23)) := hB1.trans (hb2.mono hB1.size)
      obtain ⟨y0, y1⟩ := box_own w1 x
      obtain ⟨b, hob, -, hBx, hzx⟩ := (hL1.below hb2).pq hpx
      have hF1 : Fz (fun b => b = r) wr w1 := ⟨hg1.os, hg1.tape, hg1.output, hg1.size, fun i hi hn => hg1.block i hi (fun e => hn (by injection e))⟩
      have hG1 : Gth w1 w.heap.size m n p sb gb sl Z' (domL tb left) s.i (hld s.L) := by
        obtain ⟨es, clock, since, seen, c0, h1, F, hs, hDD, h2, rest⟩ := HJ.out.rg
        exact HJ.out.g.keptR h2 hF1 (fun g hg e => by rcases HJ.out.z1 g hg with h3 | h3; (have := HL.out.2.1 g h3; omega); omega)
      have hG2 := hG1.below hb2
      have hrg2 : rgO (w1.alloc (.cells #[.bool x.isr, I x.id] 23)) y.mo r y.n D (fun z => left z && !z.sameKey (kl x)) cnt1 := hrg1.kept (hb2.block _ hrg1.owns.lt) (hb2.block _ hrg1.lt)
      have hmo : y.mo < m := by have := HL.out.1.m.lt; omega
      have hrr := hrg2.lt
      have H2 : Hid (Gth (w1.alloc (.cells #[.bool x.isr, I x.id] 23)) w.heap.size m n p sb gb sl Z' (domL tb left) s.i (hld s.L) ∧ rgO (w1.alloc (.cells #[.bool x.isr, I x.id] 23)) y.mo r y.n D (fun z => left z && !z.sameKey (kl x)) cnt1 ∧ Below w.heap.size w (w1.alloc (.cells #[.bool x.isr, I x.id] 23)) ∧ r < (w1.alloc (.cells #[.bool x.isr, I x.id] 23)).heap.size) := ⟨hG2, hrg2, hB2, hrr⟩
      have hC : ∀ W, Below (w1.alloc (.cells #[.bool x.isr, I x.id] 23)).heap.size (w1.alloc (.cells #[.bool x.isr, I x.id] 23)) W → Calls Tryz.prog 36 #[lp q] W fun e w' => ∃ q' sb' g', e = .returned (lp q') ∧ OwB w' b (s.i x) (hld s.L x) q' sb' g' (y.sl x) ∧ W.heap.size ≤ q' ∧ W.heap.size ≤ sb' ∧ W.heap.size ≤ g' ∧ q' < w'.heap.size ∧ Below W.heap.size W w' := fun W hb => ocopy_any (hBx.kept (N := fun _ => False) (Fz.of_below hb) hzx id id id (fun _ _ => id))
      have HX : Hid (x.wf ∧ obs tb x = some b ∧ cnt1 < cnt ∧ domL tb left x = none ∧ zRow Z (y.sl x) b.own ∧ w1.heap.size < (w1.alloc (.cells #[.bool x.isr, I x.id] 23)).heap.size ∧ m < w1.heap.size ∧ y.mo < m ∧ m < r) := ⟨hwx, hob, hlt, if_pos hlx, hzx, by simp, by rw [World.size_alloc] at hrr; omega, hmo, by omega⟩
      clear hw hr0 hmo hrr hG1 hG2 hrg1 hrg2 hF1 hL1 hB1 hB2 hb2 hBx hzx hob hwx hpx hlt hlx hg1 hs1
      go_upto_region 7 with fail
      clear hen
      generalize w1.alloc (.cells #[.bool x.isr, I x.id] 23) = w2 at *
      generalize w1.heap.size = X2 at *
      have hST : ∀ W, Below w2.heap.size w2 W → W.cell? ⟨X2, 0, none⟩ = some (.bool x.isr) ∧ W.cell? ⟨X2, 1, none⟩ = some (I x.id) := fun W hb => ⟨(cell_below hb _ _ HX.out.2.2.2.2.2.1).trans y0, (cell_below hb _ _ HX.out.2.2.2.2.2.1).trans y1⟩
      go_region_held_law (fun W => W.cell? ⟨X2, 0, none⟩ = some (.bool x.isr) ∧ W.cell? ⟨X2, 1, none⟩ = some (I x.id)) (first | exact ⟨y0, y1⟩ | exact k3 | exact k4 | (go_keep; done)) (first
        | (go_at_call 36; refine (hC _ (by first | exact (Below.refl _ _).drew | exact Below.refl _ _)).mono ?_; rintro e w3 ⟨q', sb', g', rfl, hO3, l1, l2, l3, l4, b3⟩; have B3 : Below w2.heap.size w2 w3 := (Below.refl _ w2).drew.trans b3; have k3 := hST w3 B3; obtain ⟨f, hf⟩ := OwM.upd (H2.out.1.below B3).mp (by have h1 := HJ.out.n; have h2 := HL.out.1.n; omega) x HX.out.1 q'; have hU1 := (hf w3 rfl).1; have hU2 := (hf w3.drew rfl).1; have k4 : (f w3).cell? ⟨X2, 0, none⟩ = some (.bool x.isr) ∧ (f w3).cell? ⟨X2, 1, none⟩ = some (I x.id) := (by have h9 := (Fx.refl [m] w3).grown (hf w3 rfl).2.2 (fun g e => by cases e; exact .inl (List.mem_singleton.2 rfl)); have h8 := HX.out.2.2.2.2.2.2.1; exact ⟨h9.cell k3.1 (by simp; omega), h9.cell k3.2 (by simp; omega)⟩)))
      have HN : Hid (Cpy w (f w3) tb Z y s m r D (fun z => left z && !z.sameKey (kl x)) cnt1 (n + 1) (updF p x (some q')) (updF sb x sb') (updF gb x g') (updF sl x (y.sl x)) (fun z => Z' z ∨ (w2.heap.size ≤ z ∧ z < (f w3).heap.size ∧ z ≠ q' ∧ z ≠ sb' ∧ z ≠ g'))) := by
        obtain ⟨-, hm4, hg4⟩ := hf w3 rfl
        have hF3 : Fx [m] w3 (f w3) := (Fx.refl [m] w3).grown hg4 (fun g e => by cases e; exact .inl (List.mem_singleton.2 rfl))
        have hF2 : Fx [m] w2 (f w3) := (Fx.of_below B3).trans hF3
        obtain ⟨x1, x2, x3, x4, x5, x6, x7, x8, x9⟩ := HX.out
        have hz1 : w2.drew.heap.size = w2.heap.size := rfl
        have hm0 := HR.out.2
        have hB4 : OwB (f w3) b (s.i x) (hld s.L x) q' sb' g' (y.sl x) := hO3.kept (N := fun z => z ∈ [m]) (Z := Z) (Fz.of_fx hF3 (fun _ h => h)) x5 (by simp; omega) (by simp; omega) (by simp; omega) (fun z hz => by have := HL.out.2.1 z hz; simp; omega)
        have hst := H2.out.1.step H2.out.2.2.1.size x1 x4 (b := b) (q := q') (s := sb') (g := g') (so := y.sl x) rfl rfl hm4 hF2 hB4 (by omega) (by omega) (by omega) (fun e => by obtain ⟨g, off, e1, e2⟩ := x5 e; exact ⟨g, off, e1, .inl (HJ.out.z2 g e2)⟩)
        rw [domL_step x1 x2 (fun o b ho => (HL.out.1.ps o b ho).1)] at hst
        refine ⟨H2.out.2.1.kept (hF2.block _ H2.out.2.1.owns.lt (by simp; omega)) (hF2.block _ H2.out.2.1.lt (by simp; omega)), H2.out.2.2.1.trans (hF2.below H2.out.2.2.1.size (fun z hz => by simp at hz; omega)), fun z hz => ?_, hst, by have := HJ.out.n; omega, fun z hz => ?_, HJ.out.r, fun z hz => .inl (HJ.out.z2 z hz)⟩
        · rw [Bool.and_eq_true] at hz
          exact HJ.out.sub z hz.1
        · rcases hz with hz | hz
          · exact HJ.out.z1 z hz
          · right
            have := H2.out.2.2.2
            omega
      clear hO3 l1 l2 l3 l4 b3 B3 k3 k4 hU1 hU2 hC hST y0 y1
      go_wp2
      go_roundw
      case rel => exact ⟨_, _, _, _, _, _, _, _, HN.out⟩
      case measure => rw [HN.out.rg.left_eq, HJ.out.rg.left_eq]; exact HX.out.2.2.1
end
end Go.Proofs.YtmllocfeflhjoaaGreat

