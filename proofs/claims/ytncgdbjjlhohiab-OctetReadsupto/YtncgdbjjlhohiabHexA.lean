import Derived.Test.YtncgdbjjlhohiabDig
import Derived.Deep.RegionLaw
namespace Go.Proofs.Ytncgdbjjlhohiab
open Go.RowKit
set_option linter.unusedVariables false

/-- append onto a row of the call's own, as one step of a region that draws. -/
theorem step_append_own {P : Program} {ops : Array Oper} {o : Oper} {a : Act} {w : World} {K : Act → World → Prop} {Q : Exit → Act → World → Prop} {F : Prop}
    (hgd : o.guard = none) (s x : Operand) (t : TypeId) (ho : o.op = .call { callee := .builtin .append, args := #[s, x], argTypes := #[t, t] })
    (base : Nat) (e : TypeId) (i : TypeInfo) (z : Value) (size bytes : Nat) (ht : P.underlying t = some (.slice e)) (hi : P.info? e = some i) (hz : i.zero = some z)
    (hsize : i.size = size) (hby : i.bytes = bytes) (hzs : z.cells.size = size) (hsz : 0 < size)
    (v : Value) (n : Nat) (xs : List Value) (hs : a.eval s = v) (hown : w.ownsRow base e size v n xs)
    (ad : Addr) (m c : Nat) (news : List Value) (hx : a.eval x = .slice (some ad) m c) (hl : news.length = m * size) (hnews : ∀ j u, news[j]? = some u → w.cell? (ad.add j) = some u) (h1 : ∀ u ∈ news, u.oneCell' = true)
    (h63 : n + m ≤ maxLen) (hbytes : (n + m) * bytes ≤ 140737488355328) (hbase : base ≤ w.heap.size)
    (h : ∀ v' w', w'.ownsRow base e size v' (n + m) (xs ++ news) → w.grownBy w' v.ownBlock → K (a.put o.dst v') w') :
    if Region.wanted o (yielded ops a.tmps) = true then Oper.wp P o a w K Q else F := by
  have hw : Region.wanted o (yielded ops a.tmps) = true := by simp [Region.wanted, hgd]
  rw [if_pos hw]
  exact wp_append_own w s x t ho base e i z size bytes ht hi hz hsize hby hzs hsz v n xs hs hown ad m c news hx hl hnews h1 h63 hbytes hbase fun v' w' h2 h3 _ => h v' w' h2 h3

/-- The two digits of a byte. -/
def hi4 (c : UInt8) : UInt8 := digs.getD (c.toNat / 16) 0
def lo4 (c : UInt8) : UInt8 := digs.getD (c.toNat % 16) 0
theorem digS_at (x : Nat) (h : x < 16) : digS[x]'h = digs.getD x 0 := by
  rw [List.getD_eq_getElem?_getD, List.getElem?_eq_getElem (show x < digs.length from h)]; rfl

theorem q16 (c : UInt8) : ((c.toNat : Int) / 16).toNat < ({ data := #[48, 49, 50, 51, 52, 53, 54, 55, 56, 57, 97, 98, 99, 100, 101, 102] } : ByteArray).size := by
  have := c.toNat_lt
  show ((c.toNat : Int) / 16).toNat < 16
  omega
theorem r16 (c : UInt8) : ((c.toNat : Int) % 16).toNat < ({ data := #[48, 49, 50, 51, 52, 53, 54, 55, 56, 57, 97, 98, 99, 100, 101, 102] } : ByteArray).size := by
  show ((c.toNat : Int) % 16).toNat < 16
  omega
/-- The digits as the text finds them. -/
def hiV (c : UInt8) : UInt8 := ({ data := #[48, 49, 50, 51, 52, 53, 54, 55, 56, 57, 97, 98, 99, 100, 101, 102] } : ByteArray)[((c.toNat : Int) / 16).toNat]'(q16 c)
def loV (c : UInt8) : UInt8 := ({ data := #[48, 49, 50, 51, 52, 53, 54, 55, 56, 57, 97, 98, 99, 100, 101, 102] } : ByteArray)[((c.toNat : Int) % 16).toNat]'(r16 c)
theorem hiV_eq (c : UInt8) : hiV c = hi4 c := by
  have hc := c.toNat_lt
  have e := digS_at (c.toNat / 16) (by omega)
  unfold hi4
  rw [← e]
  unfold hiV
  have : ((c.toNat : Int) / 16).toNat = c.toNat / 16 := by omega
  simp only [this]
  rfl
theorem loV_eq (c : UInt8) : loV c = lo4 c := by
  have e := digS_at (c.toNat % 16) (by omega)
  unfold lo4
  rw [← e]
  unfold loV
  have : ((c.toNat : Int) % 16).toNat = c.toNat % 16 := by omega
  simp only [this]
  rfl
theorem two_new (W : World) (x y : Value) : ∀ j u, [x, y][j]? = some u → (W.alloc (.cells #[x, y] 5)).cell? ((⟨W.heap.size, 0, none⟩ : Addr).add j) = some u := by
  intro j u hj
  have e : ((⟨W.heap.size, 0, none⟩ : Addr).add j) = ⟨W.heap.size, j, none⟩ := by unfold Addr.add; by_cases h0 : j = 0 <;> simp [h0]
  rw [e, cell_of_row _ _ _ _ 5 (0, 0) (heap_alloc_new W _)]
  match j, hj with
  | 0, hj => exact hj
  | 1, hj => exact hj
  | k + 2, hj => simp at hj

theorem grown_pre {w w' : World} {o : Obj} {row : Option Nat} (h : (w.drew.alloc o).grownBy w' row) : w.grownBy w' row := by
  refine ⟨h.os, h.tape, h.output, ?_, fun k hk hne => ?_⟩
  · have := h.size
    simp at this
    omega
  · rw [h.block k (by simp; omega) hne]
    exact Below.heap_alloc w.drew o k hk

set_option maxHeartbeats 1000000 in
theorem appendHex_any (v : Value) (n base : Nat) (xs : List Value) (c : UInt8) (w : World) (ho : w.ownsRow base 5 1 v n xs) (hb : base ≤ w.heap.size) (hn : n ≤ 1099511627776) :
    Calls Try.prog 36 #[v, .int .u8 c.toNat] w fun e w' => ∃ v', e = .returned v' ∧ w'.ownsRow base 5 1 v' (n + 2) (xs ++ [B (hi4 c), B (lo4 c)]) ∧ w.grownBy w' v.ownBlock := by
  obtain ⟨i0, hi, hz0, hz1, hz2⟩ := info_parts Try.info5
  have hc8 := c.toNat_lt
  obtain ⟨a, cap, rfl⟩ := owns_shape ho
  have h1 : 0 ≤ (c.toNat : Int) / 16 := by omega
  have h2 : (c.toNat : Int) / 16 < 16 := by omega
  have h3 : 0 ≤ (c.toNat : Int) % 16 := by omega
  have h4 : (c.toNat : Int) % 16 < 16 := by omega
  have ha : bits .and .u8 (c.toNat : Int) 15 = (c.toNat : Int) % 16 := u8_and15 _ (by omega) (by omega)
  go_enter Try.func36, Try.ntmps36
  go_wp2
  go_region_law (refine step_append_own rfl (.tmp 5) (.tmp 12) 30 rfl base 5 i0 (.int .u8 0) 1 1 Try.underlying30 hi hz0 hz1 hz2 rfl (by decide) (.slice a n cap) n xs rfl (World.ownsRow.alloc (w := w.drew) ho _) ⟨w.heap.size, 0, none⟩ 2 2 [.int .u8 ((hiV c).toNat : Int), .int .u8 ((loV c).toNat : Int)] rfl rfl (two_new w.drew _ _) (by intro u hu; simp at hu; rcases hu with rfl | rfl <;> rfl) (by unfold maxLen; omega) (by omega) (by simp; omega) ?_; intro v' w' ho' hg')
  all_goals
    rw [hiV_eq, loV_eq] at ho'
    have R := (show Hid (_ ∧ _) from And.intro ho' (grown_pre hg'))
    clear ho' hg' ho
    go_wp2
    go_ret
    exact ⟨_, rfl, R.out.1, R.out.2⟩
set_option maxHeartbeats 1000000 in
theorem hexByte_short (s : ByteArray) (w : World) (h : s.size < 2) :
    Calls Try.prog 35 #[.string s] w fun e w' => e = .returned (.tuple #[.int .u8 0, .bool false]) ∧ w = w' := by
  go_enter Try.func35, Try.ntmps35
  go_wp2
  go_ret2
  exact ⟨rfl, rfl⟩
def hbOk (c0 c1 : UInt8) : Bool := okV c0 && okV c1
def hbV (c0 c1 : UInt8) : Int := if hbOk c0 c1 = true then ((16 * nib c0 + nib c1 : Nat) : Int) else 0
theorem or16 (x y : Nat) (hx : x < 16) (hy : y < 16) : bits .or .i64 ((x : Int) * 16) (y : Int) = ((16 * x + y : Nat) : Int) := by
  rw [bits_join .i64 8 (by decide) (fun n h0 h1 => by rw [IntKind.wrap_i64]; omega) 4 _ _ (by omega) (by omega) (by omega) (by omega) (by omega) (by omega)]
  omega
set_option maxHeartbeats 1000000 in
theorem hexByte_long (s : ByteArray) (c0 c1 : UInt8) (w : World) (h : 2 ≤ s.size) (hm : s.size ≤ maxLen) (hc0 : s[0] = c0) (hc1 : s[1] = c1) :
    Calls Try.prog 35 #[.string s] w fun e w' => e = .returned (.tuple #[.int .u8 (hbV c0 c1), .bool (hbOk c0 c1)]) ∧ Below w.heap.size w w' := by
  unfold maxLen at hm
  have V0 := fun w => value_any c0 w
  have V1 := fun w => value_any c1 w
  have hR0 : okV c0 = true → nib c0 < 16 ∧ vOf c0 = nib c0 := fun h => by
    unfold okV at h; have := of_decide_eq_true h; exact ⟨this, by unfold vOf; rw [if_pos this]⟩
  have hR1 : okV c1 = true → nib c1 < 16 ∧ vOf c1 = nib c1 := fun h => by
    unfold okV at h; have := of_decide_eq_true h; exact ⟨this, by unfold vOf; rw [if_pos this]⟩
  cases h0 : okV c0 with
  | false =>
    have HR : Hid (hbV c0 c1 = 0 ∧ hbOk c0 c1 = false) := by
      have : hbOk c0 c1 = false := by unfold hbOk; rw [h0]; rfl
      exact ⟨by unfold hbV; rw [if_neg (by rw [this]; simp)], this⟩
    rw [h0] at V0
    have HV0 : Hid (∀ w, _) := V0
    have HV1 : Hid (∀ w, _) := V1
    clear V0 V1 hR0 hR1 h0
    generalize okV c1 = b1 at *
    rw [HR.out.1, HR.out.2]
    go_enter Try.func35, Try.ntmps35
    go_wp2_with fail
    refine (HV0.out _).mono ?_
    rintro e w1 ⟨rfl, hb1⟩
    go_wp2_with fail
    refine (HV1.out _).mono ?_
    rintro e w2 ⟨rfl, hb2⟩
    go_wp2
    go_ret2
    exact ⟨rfl, hb1.trans (hb2.mono hb1.size)⟩
  | true =>
    cases h1 : okV c1 with
    | false =>
      have HR : Hid (hbV c0 c1 = 0 ∧ hbOk c0 c1 = false) := by
        have : hbOk c0 c1 = false := by unfold hbOk; rw [h0, h1]; rfl
        exact ⟨by unfold hbV; rw [if_neg (by rw [this]; simp)], this⟩
      rw [h0] at V0
      rw [h1] at V1
      have HV0 : Hid (∀ w, _) := V0
      have HV1 : Hid (∀ w, _) := V1
      clear V0 V1 hR0 hR1 h0 h1
      rw [HR.out.1, HR.out.2]
      go_enter Try.func35, Try.ntmps35
      go_wp2_with fail
      refine (HV0.out _).mono ?_
      rintro e w1 ⟨rfl, hb1⟩
      go_wp2_with fail
      refine (HV1.out _).mono ?_
      rintro e w2 ⟨rfl, hb2⟩
      go_wp2
      go_ret2
      exact ⟨rfl, hb1.trans (hb2.mono hb1.size)⟩
    | true =>
      obtain ⟨n0, e0⟩ := hR0 h0
      obtain ⟨n1, e1⟩ := hR1 h1
      have HR : Hid (hbV c0 c1 = ((16 * nib c0 + nib c1 : Nat) : Int) ∧ hbOk c0 c1 = true) := by
        have : hbOk c0 c1 = true := by unfold hbOk; rw [h0, h1]; rfl
        exact ⟨by unfold hbV; rw [if_pos this], this⟩
      have HO : Hid (_ = _) := or16 _ _ n0 n1
      rw [h0, e0] at V0
      rw [h1, e1] at V1
      have HV0 : Hid (∀ w, _) := V0
      have HV1 : Hid (∀ w, _) := V1
      rw [HR.out.1, HR.out.2]
      clear V0 V1 hR0 hR1 h0 h1 e0 e1 HR
      generalize nib c0 = x0 at *
      generalize nib c1 = x1 at *
      go_enter Try.func35, Try.ntmps35
      go_wp2_with fail
      refine (HV0.out _).mono ?_
      rintro e w1 ⟨rfl, hb1⟩
      go_wp2_with fail
      refine (HV1.out _).mono ?_
      rintro e w2 ⟨rfl, hb2⟩
      go_wp2
      go_ret2
      refine ⟨tup2 ?_ rfl, hb1.trans (hb2.mono hb1.size)⟩
      show Value.int IntKind.u8 (bits BinOp.or IntKind.i64 ((x0 : Int) * 16) (x1 : Int) % 256) = _
      rw [HO.out]
      congr 1
      omega
end Go.Proofs.Ytncgdbjjlhohiab
