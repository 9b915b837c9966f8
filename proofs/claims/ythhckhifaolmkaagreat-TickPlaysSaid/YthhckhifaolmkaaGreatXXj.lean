import Derived.Test.YthhckhifaolmkaaGreatXXb
import Derived.Test.YthhckhifaolmkaaGreatXXh
namespace Go.Proofs.YthhckhifaolmkaaGreat
open Go.RowKit Go.Shelf Go.Sort
open Go.Proofs.YthhckhifaolmkaaGreat.Cl (Fx Fz Ck Cb Alm psA dueA dueF U Q cP own_sl own_some own_below own_base inL ret_bool ret_int heap_lt iinfo cell_one_new)
set_option linter.unusedVariables false
set_option linter.unusedSimpArgs false

/-! ### Bits -/
theorem bit_u8 (x m : Nat) (hx : x < 256) : (bits BinOp.and IntKind.u8 ((x : Int) / 2 ^ m) 1 == 1) = x.testBit m := by
  have e : ((x : Int) / 2 ^ m) = ((x / 2 ^ m : Nat) : Int) := by norm_cast
  have hy : x / 2 ^ m < 256 := Nat.lt_of_le_of_lt (Nat.div_le_self _ _) hx
  rw [e, Nat.testBit_eq_decide_div_mod_eq]
  generalize x / 2 ^ m = y at *
  show ((IntKind.u8.wrap ((BitVec.ofInt 8 (y : Int) &&& BitVec.ofInt 8 1).toNat : Int)) == 1) = _
  have e1 : (BitVec.ofInt 8 (y : Int) &&& BitVec.ofInt 8 1).toNat = y % 2 := by
    rw [BitVec.toNat_and, BitVec.ofInt_natCast, BitVec.toNat_ofNat, Nat.mod_eq_of_lt (by omega), show (BitVec.ofInt 8 1).toNat = 1 from rfl, Nat.and_one_is_mod]
  rw [e1]
  rcases Nat.mod_two_eq_zero_or_one y with h | h <;> rw [h] <;> rfl
theorem bit_u32 (x m : Nat) (hx : x < 4294967296) : (bits BinOp.and IntKind.u32 ((x : Int) / 2 ^ m) 1 == 1) = x.testBit m := by
  have e : ((x : Int) / 2 ^ m) = ((x / 2 ^ m : Nat) : Int) := by norm_cast
  have hy : x / 2 ^ m < 4294967296 := Nat.lt_of_le_of_lt (Nat.div_le_self _ _) hx
  rw [e, Nat.testBit_eq_decide_div_mod_eq]
  generalize x / 2 ^ m = y at *
  show ((IntKind.u32.wrap ((BitVec.ofInt 32 (y : Int) &&& BitVec.ofInt 32 1).toNat : Int)) == 1) = _
  have e1 : (BitVec.ofInt 32 (y : Int) &&& BitVec.ofInt 32 1).toNat = y % 2 := by
    rw [BitVec.toNat_and, BitVec.ofInt_natCast, BitVec.toNat_ofNat, Nat.mod_eq_of_lt (by omega), show (BitVec.ofInt 32 1).toNat = 1 from rfl, Nat.and_one_is_mod]
  rw [e1]
  rcases Nat.mod_two_eq_zero_or_one y with h | h <;> rw [h] <;> rfl
theorem at_four (q : Nat → Nat) {k : Nat} (hk : k < 4) : [B8 (q 0), B8 (q 1), B8 (q 2), B8 (q 3)][k]? = some (B8 (q k)) := by
  match k, hk with
  | 0, _ => rfl
  | 1, _ => rfl
  | 2, _ => rfl
  | 3, _ => rfl
set_option maxRecDepth 100000 in
theorem has_any (w : World) (q : Nat → Nat) (hq : OKq q) (i : Nat) (hi : i < 32) : Calls Tryz.prog 36 #[.agg #[B8 (q 0), B8 (q 1), B8 (q 2), B8 (q 3)], I i] w fun e w' => e = .returned (.bool (hasQ q i)) ∧ Below w.heap.size w w' := by
  have hl := at_four q (k := i / 8) (by omega)
  have hb := fun o => below_alloc w o
  have e := bit_u8 (q (i / 8)) (i % 8) (hq _)
  unfold hasQ
  generalize q (i / 8) = x at *
  generalize q 0 = q0 at *
  generalize q 1 = q1 at *
  generalize q 2 = q2 at *
  generalize q 3 = q3 at *
  have HE : Hid ((bits BinOp.and IntKind.u8 ((x : Int) / 2 ^ (i % 8)) 1 == 1) = x.testBit (i % 8)) := e
  clear e hq
  go_enter Tryz.func36, Tryz.ntmps36
  go_wp2
  go_ret
  exact ⟨ret_bool HE.out, hb _⟩
theorem passes_any (w : World) (c p : Int) (s : Bool) (a o : Int) : Calls Tryz.prog 58 #[.agg #[I c, I p], .agg #[.bool s, I a, I o]] w fun e w' => e = .returned (.bool (!s && (a == 0) && (c != 2 || o == 0))) ∧ Below w.heap.size w w' := by
  have hb : ∀ o o', Below w.heap.size w ((w.alloc o).alloc o') := fun o o' => (below_alloc w o).trans ((below_alloc _ _).mono (by simp))
  cases s with
  | true =>
    go_enter Tryz.func58, Tryz.ntmps58
    go_wp2
    go_ret
    exact ⟨rfl, hb _ _⟩
  | false =>
    by_cases ha : a = 0
    · subst ha
      by_cases hc : c = 2
      · subst hc
        by_cases ho : o = 0
        · subst ho
          go_enter Tryz.func58, Tryz.ntmps58
          go_wp2
          go_ret
          exact ⟨rfl, hb _ _⟩
        · have e1 : (o == 0) = false := by simpa using ho
          rw [e1]
          go_enter Tryz.func58, Tryz.ntmps58
          go_wp2
          go_ret
          exact ⟨ret_bool (by simp [ho]), hb _ _⟩
      · have e1 : (c != 2) = true := by simpa using hc
        rw [e1]
        go_enter Tryz.func58, Tryz.ntmps58
        go_wp2
        go_ret
        exact ⟨ret_bool (by simp [hc]), hb _ _⟩
    · have e1 : (a == 0) = false := by simpa using ha
      rw [e1]
      go_enter Tryz.func58, Tryz.ntmps58
      go_wp2
      go_ret
      exact ⟨ret_bool (by simp [ha]), hb _ _⟩
theorem starts_any (w : World) (c p : Int) (a t y m : Nat) (ha : a < 4294967296) (hm : m < 32) : Calls Tryz.prog 75 #[.agg #[I c, I p, U a, U t, U y], I m] w fun e w' => e = .returned (.bool (a.testBit m)) ∧ Below w.heap.size w w' := by
  have hb := fun o => below_alloc w o
  have HE : Hid ((bits BinOp.and IntKind.u32 ((a : Int) / 2 ^ m) 1 == 1) = a.testBit m) := bit_u32 a m ha
  go_enter Tryz.func75, Tryz.ntmps75
  go_wp2
  go_ret
  exact ⟨ret_bool HE.out, hb _⟩
theorem or_u8 (a b : Nat) (ha : a < 256) (hb : b < 256) : bits .or .u8 (a : Int) (b : Int) = ((a ||| b : Nat) : Int) := by
  have h1 : a ||| b < 256 := Nat.or_lt_two_pow (n := 8) ha hb
  show IntKind.u8.wrap ((BitVec.ofInt 8 (a : Int) ||| BitVec.ofInt 8 (b : Int)).toNat : Int) = _
  have e1 : (BitVec.ofInt 8 (a : Int) ||| BitVec.ofInt 8 (b : Int)).toNat = a ||| b := by
    rw [BitVec.toNat_or, BitVec.ofInt_natCast, BitVec.ofInt_natCast, BitVec.toNat_ofNat, BitVec.toNat_ofNat, Nat.mod_eq_of_lt (by omega), Nat.mod_eq_of_lt (by omega)]
  rw [e1]
  generalize a ||| b = y at *
  rw [IntKind.wrap_u8]
  omega
theorem and_cmpl : ∀ m < 8, (~~~ (BitVec.ofInt 8 ((2 ^ m : Nat) : Int))).toNat = 255 - 2 ^ m := by decide
theorem clr_u8 (a m : Nat) (ha : a < 256) (hm : m < 8) : bits .andNot .u8 (a : Int) ((2 ^ m : Nat) : Int) = ((a &&& (255 - 2 ^ m) : Nat) : Int) := by
  have h1 : a &&& (255 - 2 ^ m) < 256 := Nat.lt_of_le_of_lt Nat.and_le_left ha
  show IntKind.u8.wrap ((BitVec.ofInt 8 (a : Int) &&& ~~~ (BitVec.ofInt 8 ((2 ^ m : Nat) : Int))).toNat : Int) = _
  have e1 : (BitVec.ofInt 8 (a : Int) &&& ~~~ (BitVec.ofInt 8 ((2 ^ m : Nat) : Int))).toNat = a &&& (255 - 2 ^ m) := by
    rw [BitVec.toNat_and, and_cmpl m hm, BitVec.ofInt_natCast, BitVec.toNat_ofNat, Nat.mod_eq_of_lt (by omega)]
  rw [e1]
  generalize a &&& (255 - 2 ^ m) = y at *
  rw [IntKind.wrap_u8]
  omega
theorem pow_u8 {m : Nat} (hp : 2 ^ m < 256) : IntKind.u8.wrap ((2 : Int) ^ m) = ((2 ^ m : Nat) : Int) := by
  have e : ((2 : Int) ^ m) = ((2 ^ m : Nat) : Int) := by norm_cast
  rw [e, IntKind.wrap_u8]
  generalize 2 ^ m = z at *
  omega
section
variable {w w' : World} {zn : Nat → Nat} {tb : Tb} {B : Nat} {p : Pl} {s : Bs}
theorem Bo.byte (h : Bo w zn tb B p s) {k : Nat} (hk : k < 4) : w.cell? ⟨B, 4 + k, none⟩ = some (B8 (s.q k)) := by
  obtain ⟨-, -, -, -, c4, c5, c6, c7⟩ := h.cells
  match k, hk with
  | 0, _ => exact c4
  | 1, _ => exact c5
  | 2, _ => exact c6
  | 3, _ => exact c7
theorem Bo.setQ (h : Bo w zn tb B p s) {k x : Nat} (hk : k < 4) (hx : x < 256) : Bo (w.setCell ⟨B, 4 + k, none⟩ (B8 x)) zn tb B p ⟨s.v, s.a, upN s.q k x⟩ ∧ Fz (Wr zn) w (w.setCell ⟨B, 4 + k, none⟩ (B8 x)) := by
  have hf : Fz (fun b => b = B) w (w.setCell ⟨B, 4 + k, none⟩ (B8 x)) := (Fz.refl (fun b => b = B) w).set (.inl rfl) _ _
  have hn : ∀ b, zn b ≠ 1 → ¬ (b = B) := fun b hb e => hb (by rw [e]; exact h.zB)
  refine ⟨⟨?_, hf.own h.c (fun g e => hn g (by rw [h.zc g e]; decide)), hf.own h.a (fun g e => hn g (by rw [h.za g e]; decide)), hf.own h.i (fun g e => hn g (by rw [h.zi g e]; decide)),
    fun i hi => (h.k i hi).keptZ hf (fun b hb => hn b (by rw [h.zk i hi b hb]; omega)), fun i hi => hf.own (h.n i hi) (fun g e => hn g (by rw [h.zm i hi g e]; decide)), h.zB, h.zc, h.za, h.zi, h.zk, h.zm, fun b hb => Nat.lt_of_lt_of_le (h.zs b hb) hf.size, h.ok, ?_, h.l⟩, hf.mono (by rintro b rfl; exact .inl h.zB)⟩
  · rw [heap_setCell_same w B (4 + k) _ _ (B8 x) h.o]
    match k, hk with
    | 0, _ => rfl
    | 1, _ => rfl
    | 2, _ => rfl
    | 3, _ => rfl
  · intro j
    show upN s.q k x j < 256
    unfold upN
    split
    · exact hx
    · exact h.q j
set_option maxRecDepth 100000 in
theorem add_any (h : Bo w zn tb B p s) (i : Nat) (hi : i < 32) : Calls Tryz.prog 35 #[.pointer (some ⟨B, 4, none⟩), I i] w fun e w' => e = .returned (.tuple #[]) ∧ Bo w' zn tb B p ⟨s.v, s.a, addQ s.q i⟩ ∧ Fz (Wr zn) w w' := by
  obtain ⟨k, hk⟩ : ∃ k : Nat, k = i / 8 := ⟨_, rfl⟩
  obtain ⟨m, hm⟩ : ∃ m : Nat, m = i % 8 := ⟨_, rfl⟩
  have hd := h.below ((Below.refl _ w).drew)
  have k4 : k < 4 := by omega
  have m8 : m < 8 := by omega
  have hl := hd.byte k4
  have hf := hd.frz (4 + k)
  have h0 : (0 : Int) ≤ (k : Int) := by omega
  have h1 : (k : Int) < 4 := by omega
  have hw : IntKind.i64.wrap ((i : Int) / 8) = (k : Int) := by rw [IntKind.wrap_i64]; omega
  have ht : ((i : Int).tmod 8) = (m : Int) := by rw [Int.tmod_eq_emod_of_nonneg (by omega)]; omega
  have hp : 2 ^ m < 256 := Nat.pow_lt_pow_right (n := 8) (by omega) m8
  have ho := or_u8 (s.q k) (2 ^ m) (h.q _) hp
  obtain ⟨hB, hZ⟩ := hd.setQ (k := k) (x := s.q k ||| 2 ^ m) k4 (Nat.or_lt_two_pow (n := 8) (h.q _) hp)
  have HB : Hid (Bo (w.drew.setCell ⟨B, 4 + k, none⟩ (B8 (s.q k ||| 2 ^ m))) zn tb B p ⟨s.v, s.a, addQ s.q i⟩ ∧ Fz (Wr zn) w (w.drew.setCell ⟨B, 4 + k, none⟩ (B8 (s.q k ||| 2 ^ m)))) := ⟨by unfold addQ; rw [← hk, ← hm]; exact hB, (Fz.of_below ((Below.refl _ w).drew)).trans hZ⟩
  have hcl : w.cell? ⟨B, 4 + k, none⟩ = some (B8 (s.q k)) := hl
  have hfl : w.frozen? ⟨B, 4 + k, none⟩ = false := hf
  have hv : IntKind.u8.wrap ((2 : Int) ^ m) = ((2 ^ m : Nat) : Int) := pow_u8 hp
  rw [← hv] at ho
  clear hB hZ h hd hk hm hv
  generalize s.q k ||| 2 ^ m = y at *
  generalize s.q k = x at *
  go_enter Tryz.func35, Tryz.ntmps35
  go_region_law (fail)
  all_goals
    refine bodyPost_end (v := .tuple #[]) (by simp [results, Tryz.results35, go_sem]) rfl ?_
    exact ⟨rfl, HB.out.1, HB.out.2⟩
set_option maxRecDepth 100000 in
theorem remove_any (h : Bo w zn tb B p s) (i : Nat) (hi : i < 32) : Calls Tryz.prog 37 #[.pointer (some ⟨B, 4, none⟩), I i] w fun e w' => e = .returned (.tuple #[]) ∧ Bo w' zn tb B p ⟨s.v, s.a, remQ s.q i⟩ ∧ Fz (Wr zn) w w' := by
  obtain ⟨k, hk⟩ : ∃ k : Nat, k = i / 8 := ⟨_, rfl⟩
  obtain ⟨m, hm⟩ : ∃ m : Nat, m = i % 8 := ⟨_, rfl⟩
  have hd := h.below ((Below.refl _ w).drew)
  have k4 : k < 4 := by omega
  have m8 : m < 8 := by omega
  have hl := hd.byte k4
  have hf := hd.frz (4 + k)
  have h0 : (0 : Int) ≤ (k : Int) := by omega
  have h1 : (k : Int) < 4 := by omega
  have hw : IntKind.i64.wrap ((i : Int) / 8) = (k : Int) := by rw [IntKind.wrap_i64]; omega
  have ht : ((i : Int).tmod 8) = (m : Int) := by rw [Int.tmod_eq_emod_of_nonneg (by omega)]; omega
  have hp : 2 ^ m < 256 := Nat.pow_lt_pow_right (n := 8) (by omega) m8
  have ho := clr_u8 (s.q k) m (h.q _) m8
  obtain ⟨hB, hZ⟩ := hd.setQ (k := k) (x := s.q k &&& (255 - 2 ^ m)) k4 (Nat.lt_of_le_of_lt Nat.and_le_left (h.q _))
  have HB : Hid (Bo (w.drew.setCell ⟨B, 4 + k, none⟩ (B8 (s.q k &&& (255 - 2 ^ m)))) zn tb B p ⟨s.v, s.a, remQ s.q i⟩ ∧ Fz (Wr zn) w (w.drew.setCell ⟨B, 4 + k, none⟩ (B8 (s.q k &&& (255 - 2 ^ m))))) := ⟨by unfold remQ; rw [← hk, ← hm]; exact hB, (Fz.of_below ((Below.refl _ w).drew)).trans hZ⟩
  have hcl : w.cell? ⟨B, 4 + k, none⟩ = some (B8 (s.q k)) := hl
  have hfl : w.frozen? ⟨B, 4 + k, none⟩ = false := hf
  have hv : IntKind.u8.wrap ((2 : Int) ^ m) = ((2 ^ m : Nat) : Int) := pow_u8 hp
  rw [← hv] at ho
  clear hB hZ h hd hk hm hv
  generalize s.q k &&& (255 - 2 ^ m) = y at *
  generalize s.q k = x at *
  go_enter Tryz.func37, Tryz.ntmps37
  go_region_law (fail)
  all_goals
    refine bodyPost_end (v := .tuple #[]) (by simp [results, Tryz.results37, go_sem]) rfl ?_
    exact ⟨rfl, HB.out.1, HB.out.2⟩
end
end Go.Proofs.YthhckhifaolmkaaGreat

namespace Go.Proofs.YthhckhifaolmkaaGreat
open Go.RowKit Go.Shelf Go.Sort
open Go.Proofs.YthhckhifaolmkaaGreat.Cl (Fx Fz Ck Cb Alm psA dueA dueF U Q cP own_sl own_some own_below own_base inL ret_bool ret_int heap_lt iinfo cell_one_new take_snoc aftN)
set_option linter.unusedVariables false
set_option linter.unusedSimpArgs false

/-! ### look, Alarms -/
def lkF (s : Bs) (j : Nat) : List Value := [.bool (decide ((s.a j).1 ≠ 0)), U (s.a j).1, U (s.a j).2]
theorem res_look {fn : Func} (hf : fn.results = #[.cell 4 130]) (tmps : Array Value) (b : Nat) (w : World) (v0 v1 v2 : Value)
    (h2 : tmps[4]? = some (.pointer (some ⟨b, 0, none⟩))) (hk : w.heap[b]? = some (.cells #[v0, v1, v2] 130 (0, 0))) :
    (results fn tmps).run Tryz.prog w = .ok (.agg #[v0, v1, v2]) w := by
  have a1 := fun i => cell_of_row w b i _ _ (0, 0) hk
  have z0 := a1 0; have z1 := a1 1; have z2 := a1 2
  simp at z0 z1 z2
  simp [results, hf, go_sem, h2, z0, z1, z2]
theorem two_at3 (w : World) (o : Obj) (a b c : Value) (t : TypeId) : ((w.alloc o).alloc (.cells #[a, b, c] t)).heap[w.heap.size + 1]? = some (.cells #[a, b, c] t) := by
  have := heap_alloc_new (w.alloc o) (.cells #[a, b, c] t)
  rwa [World.size_alloc] at this
theorem put3 {W : World} {b e n g c k : Nat} {xs : List Value} (o : W.ownsRow b e 3 (.slice (some ⟨g, 0, none⟩) n c) n xs) (hk : k < n) (a0 a1 a2 : Value) :
    (∃ y, W.cell? ⟨g, k * 3, none⟩ = some y) ∧ (∃ y, (W.setCell ⟨g, k * 3, none⟩ a0).cell? ⟨g, k * 3 + 1, none⟩ = some y) ∧ (∃ y, ((W.setCell ⟨g, k * 3, none⟩ a0).setCell ⟨g, k * 3 + 1, none⟩ a1).cell? ⟨g, k * 3 + 2, none⟩ = some y) ∧
    W.frozen? ⟨g, k * 3, none⟩ = false ∧ (W.setCell ⟨g, k * 3, none⟩ a0).frozen? ⟨g, k * 3 + 1, none⟩ = false ∧ ((W.setCell ⟨g, k * 3, none⟩ a0).setCell ⟨g, k * 3 + 1, none⟩ a1).frozen? ⟨g, k * 3 + 2, none⟩ = false ∧
    (((W.setCell ⟨g, k * 3, none⟩ a0).setCell ⟨g, k * 3 + 1, none⟩ a1).setCell ⟨g, k * 3 + 2, none⟩ a2).ownsRow b e 3 (.slice (some ⟨g, 0, none⟩) n c) n (((xs.set (k * 3) a0).set (k * 3 + 1) a1).set (k * 3 + 2) a2) := by
  have hl := o.1
  have o1 := (o.stored (k * 3) a0).1
  have o2 := (o1.stored (k * 3 + 1) a1).1
  have o3 := (o2.stored (k * 3 + 2) a2).1
  refine ⟨⟨xs[k * 3]'(by omega), ?_⟩, ⟨(xs.set (k * 3) a0)[k * 3 + 1]'(by simp; omega), ?_⟩, ⟨((xs.set (k * 3) a0).set (k * 3 + 1) a1)[k * 3 + 2]'(by simp; omega), ?_⟩, o.frozenAt _, o1.frozenAt _, o2.frozenAt _, o3⟩
  · rw [o.cellAt _ (by omega)]; exact List.getElem?_eq_getElem _
  · rw [o1.cellAt _ (by omega)]; exact List.getElem?_eq_getElem _
  · rw [o2.cellAt _ (by omega)]; exact List.getElem?_eq_getElem _
section
variable {w w' : World} {zn : Nat → Nat} {tb : Tb} {B : Nat} {p : Pl} {s : Bs}
theorem Bo.lim (h : Bo w zn tb B p s) {j : Nat} (hj : j < tb.als.length) : (s.a j).1 ≤ 2147483648 ∧ (s.a j).2 ≤ 2147483647 := by
  have hi := (h.ok.a j hj).2.1
  have h1 := (h.k _ hi).x (s.a j) (List.mem_of_getElem? (alC_at tb s.a hj))
  have := (h.ok.k _ hi).2.1
  omega
set_option maxRecDepth 100000 in
theorem blook (h : Bo w zn tb B p s) {j : Nat} (hj : j < tb.als.length) : Calls Tryz.prog 77 #[ctV tb p (ctrN tb j), I (plN tb j)] w fun e w' => e = .returned (.agg #[.bool (decide ((s.a j).1 ≠ 0)), U (s.a j).1, U (s.a j).2]) ∧ Below w.heap.size w w' := by
  have hbb : ∀ o o', Below w.heap.size w ((w.alloc o).alloc o') := fun o o' => (below_alloc w o).trans ((below_alloc _ _).mono (by simp))
  have hi := (h.ok.a j hj).2.1
  have hL : ∀ o o', Calls Tryz.prog 38 #[cP (p.cb (ctrN tb j)), I (plN tb j)] ((w.alloc o).alloc o') fun e w' => e = .returned (.tuple #[Q (s.a j).1, I (if (s.a j).1 = 0 then 5 else 0)]) ∧ (w.alloc o).alloc o' = w' := fun o o' => by
    refine (Cl.Left_any ((h.below (hbb o o')).k _ hi) (plN tb j)).mono ?_
    rintro e w' ⟨rfl, rfl⟩
    rw [lftN_al hj, getS_al hj]
    exact ⟨rfl, rfl⟩
  have hC : ∀ o o', Calls Tryz.prog 122 #[cP (p.cb (ctrN tb j)), I (plN tb j)] ((w.alloc o).alloc o') fun e w' => e = .returned (.tuple #[U (s.a j).2, I (if (s.a j).1 = 0 then 5 else 0)]) ∧ (w.alloc o).alloc o' = w' := fun o o' => by
    refine (Cl.Cycle_any ((h.below (hbb o o')).k _ hi) (plN tb j)).mono ?_
    rintro e w' ⟨rfl, rfl⟩
    rw [cycN_al hj (h.l j hj), getS_al hj]
    exact ⟨rfl, rfl⟩
  have hlim := h.lim hj
  have hwr := wrap_u32 (n := (s.a j).1) (by omega)
  have hll := h.l j hj
  clear h hlim
  generalize s.a j = x at *
  by_cases h0 : x.1 = 0
  · rw [if_pos h0] at hL hC
    have h2 := hll h0
    rw [show decide (x.1 ≠ 0) = false by simpa using h0, h0, h2]
    clear hll h2
    go_enter Tryz.func77, Tryz.ntmps77
    go_wp2_with (first | (go_at_call 38; refine (hL _ _).mono ?_; rintro e w2 ⟨rfl, rfl⟩))
    refine bodyPost_ret (res_look Tryz.results77 _ (w.heap.size + 1) _ _ _ _ rfl (two_at3 w _ _ _ _ _)) rfl ?_
    exact ⟨rfl, hbb _ _⟩
  · rw [if_neg h0] at hL hC
    rw [show decide (x.1 ≠ 0) = true by simpa using h0]
    clear hll h0
    go_enter Tryz.func77, Tryz.ntmps77
    go_wp2_with (first | (go_at_call 38; refine (hL _ _).mono ?_; rintro e w2 ⟨rfl, rfl⟩) | (go_at_call 122; refine (hC _ _).mono ?_; rintro e w2 ⟨rfl, rfl⟩))
    refine bodyPost_ret (res_look Tryz.results77 _ (w.heap.size + 1) _ _ _ _ rfl (two_at3 w _ _ _ _ _)) rfl ?_
    exact ⟨rfl, hbb _ _⟩
theorem lkinfo : (Tryz.prog.info? 130).map (fun i => (i.zero, i.size, i.bytes)) = some (some (.agg #[.bool false, .int .u32 0, .int .u32 0]), 3, 12) := by kernel_rfl
set_option maxRecDepth 100000 in
set_option maxHeartbeats 8000000 in
theorem bAlarms (h : Bo w zn tb B p s) : Calls Tryz.prog 41 #[bP B] w fun e w' => ∃ u, e = .returned u ∧ w'.ownsRow w.heap.size 130 3 u tb.als.length (flat (lkF s) tb.als.length) ∧ Below w.heap.size w w' := by
  obtain ⟨i0, hi0, hz0, hz1, hz2⟩ := info_parts lkinfo
  obtain ⟨c0, c1, c2, c3, -⟩ := h.cells
  have hN := bnone_any h
  have hn := h.ok.na
  obtain ⟨w1, hmk, ho1, hg1⟩ := run_make_full (P := Tryz.prog) w w.heap.size 111 130 i0 _ 3 Tryz.underlying111 hi0 hz0 hz1 .i64 .i64 tb.als.length (by rw [hz2]; omega) (by unfold maxLen; omega) (Nat.le_refl _)
  have b1 : Below w.heap.size w w1 := ⟨hg1.os, hg1.tape, hg1.output, hg1.size, fun i hi => hg1.block i hi (by simp)⟩
  have h1 := h.below b1
  obtain ⟨-, -, c2', -⟩ := h1.cells
  obtain ⟨a, cc, hv⟩ := own_sl h.a
  rw [hv] at c2 c2'
  have HI : Hid ((∃ xs, w1.ownsRow w.heap.size 130 3 (.slice (some ⟨w.heap.size, 0, none⟩) tb.als.length tb.als.length) tb.als.length xs ∧ Fil (lkF s) 3 tb.als.length 0 xs) ∧ Below w.heap.size w w1) := ⟨⟨_, ho1, Fil.zero _ (by simp [size_madeCells])⟩, b1⟩
  have HH : Hid (Bo w zn tb B p s ∧ slT p.va = .slice a tb.als.length cc) := ⟨h, hv⟩
  clear h h1 ho1 hg1 b1 hv
  go_enter Tryz.func41, Tryz.ntmps41
  go_wp2_with (first | (go_at_call 28; refine hN.mono ?_; rintro e w1 ⟨rfl, rfl⟩))
  clear c0 c1 c2 c3 c2' hmk
  go_loopw [4, 5, 19] (fun _ _ v19 wr => ∃ k : Nat, k ≤ tb.als.length ∧ v19 = I k ∧ Hid ((∃ xs, wr.ownsRow w.heap.size 130 3 (.slice (some ⟨w.heap.size, 0, none⟩) tb.als.length tb.als.length) tb.als.length xs ∧ Fil (lkF s) 3 tb.als.length k xs) ∧ Below w.heap.size w wr)) (fun _ _ v19 _ => tb.als.length - (intOf v19).toNat)
  case atStart => exact ⟨0, by omega, rfl, HI.out⟩
  case round =>
    clear HI
    obtain ⟨k, hk, rfl, HJ⟩ := hrel
    by_cases hlt : k < tb.als.length
    · have hltI : (k : Int) < tb.als.length := by omega
      obtain ⟨⟨xs, o, hF⟩, b⟩ := HJ.out
      have hr := HH.out.1.below b
      obtain ⟨g, c, ev, d0, d1, d2, d3, d4⟩ := hr.al hlt
      have ea : a = some ⟨g, 0, none⟩ := by have := HH.out.2; rw [this] at ev; cases ev; rfl
      have hb1 := below_alloc wr (.cells #[I (ctrN tb k), I (plN tb k), U (alK tb k).auto, U (alK tb k).time, U (alK tb k).cycle] 136)
      have hv1 := heap_alloc_new wr (.cells #[I (ctrN tb k), I (plN tb k), U (alK tb k).auto, U (alK tb k).time, U (alK tb k).cycle] 136)
      have H1 : Hid ((wr.alloc (.cells #[I (ctrN tb k), I (plN tb k), U (alK tb k).auto, U (alK tb k).time, U (alK tb k).cycle] 136)).ownsRow w.heap.size 130 3 (.slice (some ⟨w.heap.size, 0, none⟩) tb.als.length tb.als.length) tb.als.length xs ∧ Fil (lkF s) 3 tb.als.length k xs ∧ Below w.heap.size w (wr.alloc (.cells #[I (ctrN tb k), I (plN tb k), U (alK tb k).auto, U (alK tb k).time, U (alK tb k).cycle] 136)) ∧ (wr.alloc (.cells #[I (ctrN tb k), I (plN tb k), U (alK tb k).auto, U (alK tb k).time, U (alK tb k).cycle] 136)).heap[wr.heap.size]? = some (.cells #[I (ctrN tb k), I (plN tb k), U (alK tb k).auto, U (alK tb k).time, U (alK tb k).cycle] 136)) := ⟨own_below o hb1, hF, b.trans (hb1.mono b.size), hv1⟩
      have NX : Hid (wr.heap.size ≠ w.heap.size) := by show _ ≠ _; have := (o.lt w.heap.size rfl).2; omega
      clear HJ o hF b hr hb1 ev hv1
      subst ea
      go_upto_region 7 with fail
      clear d0 d1 d2 d3 d4
      generalize wr.alloc (.cells #[I (ctrN tb k), I (plN tb k), U (alK tb k).auto, U (alK tb k).time, U (alK tb k).cycle] 136) = w2 at *
      generalize wr.heap.size = X1 at *
      have hiK := (HH.out.1.ok.a k hlt).2.1
      have hiI : (ctrN tb k : Int) < tb.ctrs.length := by omega
      obtain ⟨gc, kc, ec, -⟩ := HH.out.1.ct hiK
      have HS : Hid (∀ W, Below w.heap.size w W → W.heap[X1]? = some (.cells #[I (ctrN tb k), I (plN tb k), U (alK tb k).auto, U (alK tb k).time, U (alK tb k).cycle] 136) → (fun w' : World => w'.cell? ⟨B, 1, none⟩ = some (.slice (some ⟨gc, 0, none⟩) tb.ctrs.length kc) ∧ w'.cell? ⟨X1, 0, none⟩ = some (I (ctrN tb k)) ∧ w'.cell? ⟨X1, 1, none⟩ = some (I (plN tb k)) ∧ w'.cell? ⟨gc, ctrN tb k * 5, none⟩ = some (cP (p.cb (ctrN tb k))) ∧ w'.cell? ⟨gc, ctrN tb k * 5 + 1, none⟩ = some (U (ctK tb (ctrN tb k)).max) ∧ w'.cell? ⟨gc, ctrN tb k * 5 + 2, none⟩ = some (U (ctK tb (ctrN tb k)).base) ∧ w'.cell? ⟨gc, ctrN tb k * 5 + 3, none⟩ = some (U (ctK tb (ctrN tb k)).min) ∧ w'.cell? ⟨gc, ctrN tb k * 5 + 4, none⟩ = some (slT (p.ca (ctrN tb k)))) W) := fun W hb hx => by
        have hW := HH.out.1.below hb
        obtain ⟨-, q1, -⟩ := hW.cells
        obtain ⟨g6, c6, e6, k0, k1, k2, k3, k4⟩ := hW.ct hiK
        rw [ec] at e6
        cases e6
        rw [ec] at q1
        exact ⟨q1, by rw [cell_of_row _ _ _ _ _ (0, 0) hx]; rfl, by rw [cell_of_row _ _ _ _ _ (0, 0) hx]; rfl, k0, k1, k2, k3, k4⟩
      have hLk := blook (HH.out.1.below (H1.out.2.2.1.drew)) hlt
      obtain ⟨s1, s2, s3, s4, s5, s6, s7, s8⟩ := HS.out w2 H1.out.2.2.1 H1.out.2.2.2
      have HE : Hid (lkF s k = [.bool (decide ((s.a k).1 ≠ 0)), U (s.a k).1, U (s.a k).2]) := rfl
      generalize decide ((s.a k).1 ≠ 0) = y0 at *
      generalize (s.a k).1 = y1 at *
      generalize (s.a k).2 = y2 at *
      go_region_held_law (fun w' : World => w'.cell? ⟨B, 1, none⟩ = some (.slice (some ⟨gc, 0, none⟩) tb.ctrs.length kc) ∧ w'.cell? ⟨X1, 0, none⟩ = some (I (ctrN tb k)) ∧ w'.cell? ⟨X1, 1, none⟩ = some (I (plN tb k)) ∧ w'.cell? ⟨gc, ctrN tb k * 5, none⟩ = some (cP (p.cb (ctrN tb k))) ∧ w'.cell? ⟨gc, ctrN tb k * 5 + 1, none⟩ = some (U (ctK tb (ctrN tb k)).max) ∧ w'.cell? ⟨gc, ctrN tb k * 5 + 2, none⟩ = some (U (ctK tb (ctrN tb k)).base) ∧ w'.cell? ⟨gc, ctrN tb k * 5 + 3, none⟩ = some (U (ctK tb (ctrN tb k)).min) ∧ w'.cell? ⟨gc, ctrN tb k * 5 + 4, none⟩ = some (slT (p.ca (ctrN tb k)))) (first | exact ⟨s1, s2, s3, s4, s5, s6, s7, s8⟩ | exact HY | exact HZ | (go_keep; done)) (first | (go_at_call 77; refine hLk.mono ?_; clear hLk; rintro e w3 ⟨rfl, b3⟩; have B3 : Below w.heap.size w w3 := (H1.out.2.2.1.drew).trans (b3.mono (H1.out.2.2.1.size)); have o3 := own_below (own_below H1.out.1 ((Below.refl _ w2).drew)) b3; have hx3 := (b3.block X1 (heap_lt H1.out.2.2.2)).trans H1.out.2.2.2; have HY := HS.out w3 B3 hx3; obtain ⟨⟨q0, p0⟩, ⟨q1, p1⟩, ⟨q2, p2⟩, f0, f1, f2, o4⟩ := put3 o3 hlt (.bool y0) (U y1) (U y2); have B4 : Below w.heap.size w (((w3.setCell ⟨w.heap.size, k * 3, none⟩ (.bool y0)).setCell ⟨w.heap.size, k * 3 + 1, none⟩ (U y1)).setCell ⟨w.heap.size, k * 3 + 2, none⟩ (U y2)) := below_set (below_set (below_set B3 (Nat.le_refl _)) (Nat.le_refl _)) (Nat.le_refl _); have hx4 : (((w3.setCell ⟨w.heap.size, k * 3, none⟩ (.bool y0)).setCell ⟨w.heap.size, k * 3 + 1, none⟩ (U y1)).setCell ⟨w.heap.size, k * 3 + 2, none⟩ (U y2)).heap[X1]? = some (.cells #[I (ctrN tb k), I (plN tb k), U (alK tb k).auto, U (alK tb k).time, U (alK tb k).cycle] 136) := (heap_setCell_other _ ⟨w.heap.size, k * 3 + 2, none⟩ X1 _ NX.out).trans ((heap_setCell_other _ ⟨w.heap.size, k * 3 + 1, none⟩ X1 _ NX.out).trans ((heap_setCell_other w3 ⟨w.heap.size, k * 3, none⟩ X1 _ NX.out).trans hx3)); have HZ := HS.out _ B4 hx4; have H4 : Hid ((∃ xs, (((w3.setCell ⟨w.heap.size, k * 3, none⟩ (.bool y0)).setCell ⟨w.heap.size, k * 3 + 1, none⟩ (U y1)).setCell ⟨w.heap.size, k * 3 + 2, none⟩ (U y2)).ownsRow w.heap.size 130 3 (.slice (some ⟨w.heap.size, 0, none⟩) tb.als.length tb.als.length) tb.als.length xs ∧ Fil (lkF s) 3 tb.als.length (k + 1) xs) ∧ Below w.heap.size w (((w3.setCell ⟨w.heap.size, k * 3, none⟩ (.bool y0)).setCell ⟨w.heap.size, k * 3 + 1, none⟩ (U y1)).setCell ⟨w.heap.size, k * 3 + 2, none⟩ (U y2))) := ⟨⟨_, o4, H1.out.2.1.three hlt HE.out⟩, B4⟩; clear B3 o3 hx3 o4 B4 hx4 b3))
      all_goals
        go_wp2
        go_roundw
        case rel => exact ⟨k + 1, by omega, by go_num, H4.out⟩
        case measure => simp [intOf]; omega
    · obtain rfl : k = tb.als.length := by omega
      have hge : ¬ ((tb.als.length : Int) < tb.als.length) := by omega
      go_wp2
      go_ret
      obtain ⟨⟨xs, o, hF⟩, b⟩ := HJ.out
      rw [hF.all (by omega) (fun _ => rfl)] at o
      exact ⟨_, rfl, o, b⟩
end
end Go.Proofs.YthhckhifaolmkaaGreat

namespace Go.Proofs.YthhckhifaolmkaaGreat
open Go.RowKit Go.Shelf Go.Sort
open Go.Proofs.YthhckhifaolmkaaGreat.Cl (Fx Fz Ck Cb Alm psA dueA dueF U Q cP own_sl own_some own_below own_base inL ret_bool ret_int heap_lt iinfo cell_one_new take_snoc aftN)
set_option linter.unusedVariables false
set_option linter.unusedSimpArgs false

/-! ### Auto, Calm -/
def autS (tb : Tb) (m : Nat) (x : (Nat → Alm) × Nat) (j : Nat) : (Nat → Alm) × Nat := if (alK tb j).auto.testBit m && decide ((x.1 j).1 = 0) then (upN x.1 j ((alK tb j).time, (alK tb j).cycle), x.2 + 1) else x
def autL (tb : Tb) (m : Nat) (a : Nat → Alm) (k : Nat) : (Nat → Alm) × Nat := (List.range k).foldl (autS tb m) (a, 0)
theorem autL_succ (tb : Tb) (m : Nat) (a : Nat → Alm) (k : Nat) : autL tb m a (k + 1) = autS tb m (autL tb m a k) k := by
  unfold autL
  rw [List.range_succ, List.foldl_append]
  rfl
theorem autL_le (tb : Tb) (m : Nat) (a : Nat → Alm) : ∀ k, (autL tb m a k).2 ≤ k
  | 0 => Nat.le_refl _
  | k + 1 => by
    rw [autL_succ]
    unfold autS
    have := autL_le tb m a k
    split
    · show (autL tb m a k).2 + 1 ≤ k + 1; omega
    · omega
def outM (tb : Tb) (t : Int) : Prop := t < 0 ∨ tb.modes ≤ t
instance (tb : Tb) (t : Int) : Decidable (outM tb t) := by unfold outM; exact inferInstance
def autE (tb : Tb) (t : Int) : Int := if outM tb t then 2 else 0
def autN (tb : Tb) (s : Bs) (t : Int) : Nat := if outM tb t then 0 else (autL tb t.toNat s.a tb.als.length).2
def autT (tb : Tb) (s : Bs) (t : Int) : Bs := if outM tb t then s else ⟨s.v, (autL tb t.toNat s.a tb.als.length).1, s.q⟩
section
variable {w w' : World} {zn : Nat → Nat} {tb : Tb} {B : Nat} {p : Pl} {s : Bs}
/-- what Set does with an alarm that starts -/
theorem bset (h : Bo w zn tb B p s) {j : Nat} (hj : j < tb.als.length) (ha : (alK tb j).auto ≠ 0) : Calls Tryz.prog 76 #[cP (p.cb (ctrN tb j)), I (plN tb j), U (alK tb j).time, U (alK tb j).cycle] w fun e w' => e = .returned (I (if (s.a j).1 ≠ 0 then 7 else 0)) ∧ Bo w' zn tb B p ⟨s.v, (if (s.a j).1 = 0 then upN s.a j ((alK tb j).time, (alK tb j).cycle) else s.a), s.q⟩ ∧ Fz (Wr zn) w w' := by
  obtain ⟨-, hi, -, ht, -, ho⟩ := h.ok.a j hj
  obtain ⟨o1, o2, o3⟩ := ho ha
  have hm : Cl.staB (ctK tb (ctrN tb j)).max (alK tb j).time (alK tb j).cycle = true := by unfold Cl.staB; simp; omega
  refine (Cl.Set_any (h.k _ hi) (plN tb j) (alK tb j).time (alK tb j).cycle ht).mono ?_
  rintro e w' ⟨rfl, k, z⟩
  rw [hm] at k ⊢
  rw [setS_al hj]
  rw [setA_al hj] at k
  simp only [if_true] at k ⊢
  refine ⟨trivial, ?_⟩
  by_cases h0 : (s.a j).1 = 0
  · rw [if_neg (show ¬ (s.a j).1 ≠ 0 by simpa using h0), if_pos rfl] at k
    rw [if_pos h0]
    exact h.putA hj z k (fun e => by have e' : (alK tb j).time = 0 := e; omega)
  · rw [if_pos h0, if_neg (by decide)] at k
    rw [if_neg h0]
    exact h.same hj z k
set_option maxRecDepth 100000 in
set_option maxHeartbeats 8000000 in
theorem bAuto (h : Bo w zn tb B p s) (t : Int) : Calls Tryz.prog 40 #[bP B, I t] w fun e w' => e = .returned (.tuple #[I (autN tb s t), I (autE tb t)]) ∧ Bo w' zn tb B p (autT tb s t) ∧ Fz (Wr zn) w w' := by
  obtain ⟨c0, c1, c2, c3, -⟩ := h.cells
  have hN := bnone_any h
  unfold autN autE autT
  by_cases ho : outM tb t
  · simp only [if_pos ho]
    have HH : Hid (Bo w zn tb B p s) := h
    clear h
    unfold outM at ho
    generalize tb.modes = n at *
    by_cases h0 : t < 0
    · clear ho
      go_enter Tryz.func40, Tryz.ntmps40
      go_wp2_with (first | (go_at_call 28; refine hN.mono ?_; rintro e w1 ⟨rfl, rfl⟩))
      go_ret2
      exact ⟨rfl, HH.out, Fz.refl _ _⟩
    · have h1 : n ≤ t := by omega
      clear ho
      go_enter Tryz.func40, Tryz.ntmps40
      go_wp2_with (first | (go_at_call 28; refine hN.mono ?_; rintro e w1 ⟨rfl, rfl⟩))
      go_ret2
      exact ⟨rfl, HH.out, Fz.refl _ _⟩
  · simp only [if_neg ho]
    obtain ⟨m, rfl, hm⟩ : ∃ m : Nat, t = m ∧ (m : Int) < tb.modes := by unfold outM at ho; exact ⟨t.toNat, by omega, by omega⟩
    rw [Int.toNat_natCast]
    have m0 : ¬ ((m : Int) < 0) := by omega
    have m1 : ¬ (tb.modes ≤ (m : Int)) := by omega
    have m8 : m < 32 := by have := h.ok.modes; omega
    obtain ⟨a, cc, hv⟩ := own_sl h.a
    rw [hv] at c2
    have hn := h.ok.na
    have HI : Hid (Bo w zn tb B p ⟨s.v, (autL tb m s.a 0).1, s.q⟩ ∧ Fz (Wr zn) w w) := ⟨h, Fz.refl _ _⟩
    have HV : Hid (slT p.va = .slice a tb.als.length cc) := hv
    clear h hv ho hm
    go_enter Tryz.func40, Tryz.ntmps40
    go_wp2_with (first | (go_at_call 28; refine hN.mono ?_; rintro e w1 ⟨rfl, rfl⟩))
    clear c0 c1 c2 c3
    go_loopw [6, 8, 26] (fun v6 _ v26 wr => ∃ k : Nat, k ≤ tb.als.length ∧ v26 = I k ∧ v6 = I (autL tb m s.a k).2 ∧ Hid (Bo wr zn tb B p ⟨s.v, (autL tb m s.a k).1, s.q⟩ ∧ Fz (Wr zn) w wr)) (fun _ _ v26 _ => tb.als.length - (intOf v26).toNat)
    case atStart => exact ⟨0, by omega, rfl, rfl, HI.out⟩
    case round =>
      clear HI
      obtain ⟨k, hk, rfl, rfl, HJ⟩ := hrel
      have HA : Hid ((autL tb m s.a k).2 ≤ k) := autL_le tb m s.a k
      by_cases hlt : k < tb.als.length
      · have hltI : (k : Int) < tb.als.length := by omega
        have HS : Hid (autL tb m s.a (k + 1) = autS tb m (autL tb m s.a k) k) := autL_succ tb m s.a k
        have hc64 : (autL tb m s.a k).2 ≤ 64 := by have := HA.out; omega
        generalize hx : autL tb m s.a k = x at *
        clear hx HA
        obtain ⟨xa, xn⟩ := x
        have HS1 : Hid (autL tb m s.a (k + 1) = if (alK tb k).auto.testBit m && decide ((xa k).1 = 0) then (upN xa k ((alK tb k).time, (alK tb k).cycle), xn + 1) else (xa, xn)) := HS.out
        clear HS
        obtain ⟨b, z⟩ := HJ.out
        obtain ⟨g, c, ev, d0, d1, d2, d3, d4⟩ := b.al hlt
        have ea : a = some ⟨g, 0, none⟩ := by have := HV.out; rw [this] at ev; cases ev; rfl
        have hb1 := below_alloc wr (.cells #[I (ctrN tb k), I (plN tb k), U (alK tb k).auto, U (alK tb k).time, U (alK tb k).cycle] 136)
        have hv1 := heap_alloc_new wr (.cells #[I (ctrN tb k), I (plN tb k), U (alK tb k).auto, U (alK tb k).time, U (alK tb k).cycle] 136)
        have H1 : Hid (Bo (wr.alloc (.cells #[I (ctrN tb k), I (plN tb k), U (alK tb k).auto, U (alK tb k).time, U (alK tb k).cycle] 136)) zn tb B p ⟨s.v, xa, s.q⟩ ∧ Fz (Wr zn) w (wr.alloc (.cells #[I (ctrN tb k), I (plN tb k), U (alK tb k).auto, U (alK tb k).time, U (alK tb k).cycle] 136)) ∧ (wr.alloc (.cells #[I (ctrN tb k), I (plN tb k), U (alK tb k).auto, U (alK tb k).time, U (alK tb k).cycle] 136)).heap[wr.heap.size]? = some (.cells #[I (ctrN tb k), I (plN tb k), U (alK tb k).auto, U (alK tb k).time, U (alK tb k).cycle] 136) ∧ ¬ Wr zn wr.heap.size) := ⟨b.below hb1, z.alloc _, hv1, fun e => by have := b.zs wr.heap.size (by rcases e with e | e <;> omega); omega⟩
        clear HJ b z hb1 ev hv1
        subst ea
        go_upto_region 9 with fail
        clear d0 d1 d2 d3 d4
        generalize wr.alloc (.cells #[I (ctrN tb k), I (plN tb k), U (alK tb k).auto, U (alK tb k).time, U (alK tb k).cycle] 136) = w2 at *
        generalize wr.heap.size = X1 at *
        have hiK := (H1.out.1.ok.a k hlt).2.1
        have hiI : (ctrN tb k : Int) < tb.ctrs.length := by omega
        have hau := (H1.out.1.ok.a k hlt).2.2.1
        obtain ⟨gc, kc, ec, -⟩ := H1.out.1.ct hiK
        have HS : Hid (∀ W s', Bo W zn tb B p s' → W.heap[X1]? = some (.cells #[I (ctrN tb k), I (plN tb k), U (alK tb k).auto, U (alK tb k).time, U (alK tb k).cycle] 136) → (fun w' : World => w'.cell? ⟨B, 1, none⟩ = some (.slice (some ⟨gc, 0, none⟩) tb.ctrs.length kc) ∧ w'.cell? ⟨X1, 0, none⟩ = some (I (ctrN tb k)) ∧ w'.cell? ⟨X1, 1, none⟩ = some (I (plN tb k)) ∧ w'.cell? ⟨X1, 2, none⟩ = some (U (alK tb k).auto) ∧ w'.cell? ⟨X1, 3, none⟩ = some (U (alK tb k).time) ∧ w'.cell? ⟨X1, 4, none⟩ = some (U (alK tb k).cycle) ∧ w'.cell? ⟨gc, ctrN tb k * 5, none⟩ = some (cP (p.cb (ctrN tb k)))) W) := fun W s' hW hx => by
          obtain ⟨-, q1, -⟩ := hW.cells
          obtain ⟨g6, c6, e6, k0, -⟩ := hW.ct hiK
          rw [ec] at e6
          cases e6
          rw [ec] at q1
          exact ⟨q1, by rw [cell_of_row _ _ _ _ _ (0, 0) hx]; rfl, by rw [cell_of_row _ _ _ _ _ (0, 0) hx]; rfl, by rw [cell_of_row _ _ _ _ _ (0, 0) hx]; rfl, by rw [cell_of_row _ _ _ _ _ (0, 0) hx]; rfl, by rw [cell_of_row _ _ _ _ _ (0, 0) hx]; rfl, k0⟩
        obtain ⟨s1, s2, s3, s4, s5, s6, s7⟩ := HS.out w2 _ H1.out.1 H1.out.2.2.1
        cases hbit : (alK tb k).auto.testBit m with
        | false =>
          have HS2 : Hid (autL tb m s.a (k + 1) = (xa, xn)) := by show _ = _; rw [HS1.out, hbit]; rfl
          have cS : ∀ d os, Calls Tryz.prog 75 #[.agg #[I (ctrN tb k), I (plN tb k), U (alK tb k).auto, U (alK tb k).time, U (alK tb k).cycle], I m] (grow (redrawn w2 d) os) fun e w'' => e = .returned (.bool false) ∧ ∃ p : Regrown, w'' = grow (redrawn w2 p.d) p.os := fun d os => Calls.regrown_of (by
            have := starts_any (grow (redrawn w2 d) os) (ctrN tb k) (plN tb k) (alK tb k).auto (alK tb k).time (alK tb k).cycle m hau m8
            rwa [hbit] at this)
          have x0 := cell_regrown s2
          have x1 := cell_regrown s3
          have x2 := cell_regrown s4
          have x3 := cell_regrown s5
          have x4 := cell_regrown s6
          clear s1 s2 s3 s4 s5 s6 s7 HS1 hbit HS
          refine wp_region_quiet_below (by kernel_rfl) (by kernel_rfl) ?_
          repeat (go_big_quiet_step (first | exact cS _ _))
          refine wpQuiet_nil ?_
          rintro _ ⟨⟨dq, osq⟩, rfl⟩
          dsimp only
          have b0 := below_regrown w2 dq osq
          generalize grow (redrawn w2 dq) osq = w3 at *
          have H3 : Hid (Below w2.heap.size w2 w3) := b0
          clear b0 cS x0 x1 x2 x3 x4
          go_wp2
          go_roundw
          case rel => exact ⟨k + 1, by omega, by go_num, by rw [HS2.out], by rw [HS2.out]; exact ⟨H1.out.1.below H3.out, H1.out.2.1.trans (Fz.of_below H3.out)⟩⟩
          case measure => simp [intOf]; omega
        | true =>
          have hane : (alK tb k).auto ≠ 0 := fun e => by rw [e] at hbit; simp at hbit
          have cS := starts_any w2.drew (ctrN tb k) (plN tb k) (alK tb k).auto (alK tb k).time (alK tb k).cycle m hau m8
          rw [hbit] at cS HS1
          have HSet : Hid (∀ W, Below w2.heap.size w2 W → Calls Tryz.prog 76 #[cP (p.cb (ctrN tb k)), I (plN tb k), U (alK tb k).time, U (alK tb k).cycle] W fun e w' => e = .returned (I (if (xa k).1 ≠ 0 then 7 else 0)) ∧ Bo w' zn tb B p ⟨s.v, (if (xa k).1 = 0 then upN xa k ((alK tb k).time, (alK tb k).cycle) else xa), s.q⟩ ∧ Fz (Wr zn) W w') := fun W hb => bset (H1.out.1.below hb) hlt hane
          clear hbit
          by_cases hz : (xa k).1 = 0
          · have HS2 : Hid (autL tb m s.a (k + 1) = (upN xa k ((alK tb k).time, (alK tb k).cycle), xn + 1)) := by show _ = _; rw [HS1.out, hz]; rfl
            rw [if_neg (show ¬ (xa k).1 ≠ 0 by simpa using hz), if_pos hz] at HSet
            clear HS1 hz hane
            have hx64 : xn ≤ 64 := hc64
            go_region_held_law (fun w' : World => w'.cell? ⟨B, 1, none⟩ = some (.slice (some ⟨gc, 0, none⟩) tb.ctrs.length kc) ∧ w'.cell? ⟨X1, 0, none⟩ = some (I (ctrN tb k)) ∧ w'.cell? ⟨X1, 1, none⟩ = some (I (plN tb k)) ∧ w'.cell? ⟨X1, 2, none⟩ = some (U (alK tb k).auto) ∧ w'.cell? ⟨X1, 3, none⟩ = some (U (alK tb k).time) ∧ w'.cell? ⟨X1, 4, none⟩ = some (U (alK tb k).cycle) ∧ w'.cell? ⟨gc, ctrN tb k * 5, none⟩ = some (cP (p.cb (ctrN tb k)))) (first | exact ⟨s1, s2, s3, s4, s5, s6, s7⟩ | exact HY | exact HZ | (go_keep; done)) (first
              | (go_at_call 75; refine cS.mono ?_; clear cS; rintro e w3 ⟨rfl, b3⟩; have B3 : Below w2.heap.size w2 w3 := ((Below.refl _ w2).drew).trans b3; have hx3 := (B3.block X1 (heap_lt H1.out.2.2.1)).trans H1.out.2.2.1; have HY := HS.out w3 _ (H1.out.1.below B3) hx3; have hC := HSet.out w3 B3; have H3 : Hid (Below w2.heap.size w2 w3 ∧ w3.heap[X1]? = some (.cells #[I (ctrN tb k), I (plN tb k), U (alK tb k).auto, U (alK tb k).time, U (alK tb k).cycle] 136)) := ⟨B3, hx3⟩; clear B3 hx3 b3)
              | (go_at_call 76; refine hC.mono ?_; clear hC; rintro e w4 ⟨rfl, k4, z4⟩; have HZ := HS.out w4 _ k4 (z4.heap H3.out.2 H1.out.2.2.2); have H4 : Hid (Bo w4 zn tb B p ⟨s.v, upN xa k ((alK tb k).time, (alK tb k).cycle), s.q⟩ ∧ Fz (Wr zn) w w4) := ⟨k4, (H1.out.2.1.trans (Fz.of_below H3.out.1)).trans z4⟩; clear k4 z4))
            all_goals
              go_wp2
              go_roundw
              case rel => exact ⟨k + 1, by omega, by go_num, by rw [HS2.out]; go_num, by rw [HS2.out]; exact H4.out⟩
              case measure => simp [intOf]; omega
          · have HS2 : Hid (autL tb m s.a (k + 1) = (xa, xn)) := by show _ = _; rw [HS1.out, show decide ((xa k).1 = 0) = false by simpa using hz]; rfl
            rw [if_pos hz, if_neg hz] at HSet
            clear HS1 hz hane
            go_region_held_law (fun w' : World => w'.cell? ⟨B, 1, none⟩ = some (.slice (some ⟨gc, 0, none⟩) tb.ctrs.length kc) ∧ w'.cell? ⟨X1, 0, none⟩ = some (I (ctrN tb k)) ∧ w'.cell? ⟨X1, 1, none⟩ = some (I (plN tb k)) ∧ w'.cell? ⟨X1, 2, none⟩ = some (U (alK tb k).auto) ∧ w'.cell? ⟨X1, 3, none⟩ = some (U (alK tb k).time) ∧ w'.cell? ⟨X1, 4, none⟩ = some (U (alK tb k).cycle) ∧ w'.cell? ⟨gc, ctrN tb k * 5, none⟩ = some (cP (p.cb (ctrN tb k)))) (first | exact ⟨s1, s2, s3, s4, s5, s6, s7⟩ | exact HY | exact HZ | (go_keep; done)) (first
              | (go_at_call 75; refine cS.mono ?_; clear cS; rintro e w3 ⟨rfl, b3⟩; have B3 : Below w2.heap.size w2 w3 := ((Below.refl _ w2).drew).trans b3; have hx3 := (B3.block X1 (heap_lt H1.out.2.2.1)).trans H1.out.2.2.1; have HY := HS.out w3 _ (H1.out.1.below B3) hx3; have hC := HSet.out w3 B3; have H3 : Hid (Below w2.heap.size w2 w3 ∧ w3.heap[X1]? = some (.cells #[I (ctrN tb k), I (plN tb k), U (alK tb k).auto, U (alK tb k).time, U (alK tb k).cycle] 136)) := ⟨B3, hx3⟩; clear B3 hx3 b3)
              | (go_at_call 76; refine hC.mono ?_; clear hC; rintro e w4 ⟨rfl, k4, z4⟩; have HZ := HS.out w4 _ k4 (z4.heap H3.out.2 H1.out.2.2.2); have H4 : Hid (Bo w4 zn tb B p ⟨s.v, xa, s.q⟩ ∧ Fz (Wr zn) w w4) := ⟨k4, (H1.out.2.1.trans (Fz.of_below H3.out.1)).trans z4⟩; clear k4 z4))
            all_goals
              go_wp2
              go_roundw
              case rel => exact ⟨k + 1, by omega, by go_num, by rw [HS2.out], by rw [HS2.out]; exact H4.out⟩
              case measure => simp [intOf]; omega
      · obtain rfl : k = tb.als.length := by omega
        have hge : ¬ ((tb.als.length : Int) < tb.als.length) := by omega
        go_wp2
        go_ret2
        exact ⟨rfl, HJ.out.1, HJ.out.2⟩
end
end Go.Proofs.YthhckhifaolmkaaGreat

