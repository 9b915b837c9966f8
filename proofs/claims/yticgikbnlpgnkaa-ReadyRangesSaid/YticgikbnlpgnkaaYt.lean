import Derived.Test.YticgikbnlpgnkaaYs
namespace Go.Proofs.Yticgikbnlpgnkaa
open Go.RowKit
set_option linter.unusedVariables false
set_option linter.unusedSimpArgs false

/-! ### The document's queue: All, Clear -/
theorem step_append_gen {P : Program} {ops : Array Oper} {o : Oper} {a : Act} {w : World} {K : Act → World → Prop} {Q : Exit → Act → World → Prop} {E : Prop} (hgd : o.guard = none) (s x : Operand) (t : TypeId)
    (ho : o.op = .call { callee := .builtin .append, args := #[s, x], argTypes := #[t, t] })
    (base : Nat) (e : TypeId) (i : TypeInfo) (z : Value) (size bytes : Nat) (ht : P.underlying t = some (.slice e)) (hi : P.info? e = some i) (hz : i.zero = some z)
    (hsize : i.size = size) (hby : i.bytes = bytes) (hzs : z.cells.size = size) (hsz : 0 < size) (v : Value) (n : Nat) (xs : List Value) (hs : a.eval s = v) (hown : w.ownsRow base e size v n xs)
    (ad : Addr) (m c : Nat) (news : List Value) (hx : a.eval x = .slice (some ad) m c) (hl : news.length = m * size) (hnews : ∀ j u, news[j]? = some u → w.cell? (ad.add j) = some u) (h1 : ∀ y ∈ news, y.oneCell' = true)
    (h63 : n + m ≤ maxLen) (hbytes : (n + m) * bytes ≤ 140737488355328) (hbase : base ≤ w.heap.size)
    (h : ∀ v' w', w'.ownsRow base e size v' (n + m) (xs ++ news) → w.grownBy w' v.ownBlock → K (a.put o.dst v') w') :
    if Region.wanted o (yielded ops a.tmps) = true then Oper.wp P o a w K Q else E := by
  have hw : Region.wanted o (yielded ops a.tmps) = true := by simp [Region.wanted, hgd]
  rw [if_pos hw]
  obtain ⟨v', w', hr, h2, h3, _⟩ := run_append_own (P := P) w base t o.type e i z size bytes ht hi hz hsize hby hzs hsz v n xs hown ad m c news hl hnews h1 h63 hbytes hbase
  unfold Oper.wp
  simp [execOp, ho, resolve, invoke, builtin, hs, hx, hr, Result.andThen]
  exact h v' w' h2 h3
theorem allR_app : ∀ (a b : List Rr), allR (a ++ b) = allR a ++ allR b
  | [], b => rfl
  | r :: t, b => by simp only [List.cons_append, allR, allR_app t b, List.append_assoc]
theorem allR_take {rs : List Rr} {k : Nat} {y : Rr} (h : rs[k]? = some y) : allR (rs.take (k + 1)) = allR (rs.take k) ++ tag y.p y.l := by
  rw [List.take_add_one, h, allR_app]
  simp [allR]
theorem allR_part {rs : List Rr} (k : Nat) : (allR (rs.take k)).length ≤ (allR rs).length := by
  conv => rhs; rw [← List.take_append_drop k rs, allR_app]
  simp
theorem tag_take {y : Rr} {m : Nat} {x : Int} (h : y.l[m]? = some x) : tag y.p (y.l.take (m + 1)) = tag y.p (y.l.take m) ++ [((y.p : Int), x)] := by
  rw [List.take_add_one, h, ← tag_snoc]
  rfl
section
variable {w : World} {D : Nat} {N Y : Nat → Prop} {rs : List Rr}
set_option maxRecDepth 100000 in
set_option maxHeartbeats 4000000 in
theorem eAll (h : DQ w D N Y rs) (hn : rs.length ≤ 64) (hal : (allR rs).length ≤ 4194304) (h16 : ∀ (i : Nat) (r : Rr), rs[i]? = some r → r.l.length ≤ 65536) : Calls Try.prog 18 #[dQ D] w fun e w' => ∃ v, e = .returned v ∧ w'.ownsRow w.heap.size 35 2 v (allR rs).length (pairsC (allR rs)) ∧ Below w.heap.size w w' := by
  obtain ⟨vr, vl, vh, ls, h⟩ := h
  obtain ⟨i0, hi0, hz0, hz1, hz2⟩ := info_parts qinfo
  obtain ⟨a, c, hv⟩ := own_sl2 h.l
  obtain ⟨a2, c2, hv2⟩ := own_sl2 h.r
  subst hv hv2
  have HA : Hid (∀ (k : Nat), k < rs.length → ∃ (g g2 : Nat) (y : Rr) (sa : Option Addr) (sc : Nat), rs[k]? = some y ∧ a = some ⟨g, 0, none⟩ ∧ a2 = some ⟨g2, 0, none⟩ ∧ y.l.length ≤ 65536 ∧ (∀ wr, Below w.heap.size w wr → wr.cell? ⟨D, 0, none⟩ = some (.slice (some ⟨g2, 0, none⟩) rs.length c2) ∧ wr.cell? ⟨D, 1, none⟩ = some (.slice (some ⟨g, 0, none⟩) rs.length c) ∧ wr.cell? ⟨g, k, none⟩ = some (.slice sa y.l.length sc) ∧ wr.cell? ⟨g2, k * 2, none⟩ = some (I y.p)) ∧ ∀ (m : Nat) (x : Int), y.l[m]? = some x → ∃ sg so, sa = some ⟨sg, so, none⟩ ∧ ∀ wr, Below w.heap.size w wr → wr.cell? ⟨sg, so + m, none⟩ = some (I x)) := fun k hk => by
    obtain ⟨y, hy⟩ : ∃ y, rs[k]? = some y := ⟨_, List.getElem?_eq_getElem (by omega)⟩
    obtain ⟨g3, c3, s3, e3, hs3, k1, _, k2⟩ := h.lAt hy
    obtain ⟨g4, c4, e4, k4, _⟩ := h.rowAt hy
    cases e3
    cases e4
    refine ⟨g3, g4, y, s3.a, s3.c, hy, rfl, rfl, h16 k y hy, fun wr hb => ?_, fun m x hx => ?_⟩
    · have h9 := h.below hb
      obtain ⟨g5, c5, s5, e5, hs5, m1, _, m2⟩ := h9.lAt hy
      obtain ⟨g6, c6, e6, m4, _⟩ := h9.rowAt hy
      cases e5
      cases e6
      rw [hs3] at hs5
      cases hs5
      rw [k2.n] at m1
      exact ⟨h9.cells.1, h9.cells.2.1, m1, m4⟩
    · obtain ⟨sg, so, e, hg, hr⟩ := k2.row m x hx
      refine ⟨sg, so, e, fun wr hb => ?_⟩
      obtain ⟨u, hu, hp⟩ := hr 0 (by decide)
      cases hp
      rw [Nat.mul_one, Nat.add_zero] at hu
      exact (World.cell?_of_block (hb.block sg hg)).trans hu
  have hc1 := fun (wr : World) (hb : Below w.heap.size w wr) => (h.below hb).cells.2.1
  have HP : Hid (∀ k, (allR (rs.take k)).length ≤ (allR rs).length) := fun k => allR_part k
  have HT : Hid (∀ (k : Nat) (y : Rr), rs[k]? = some y → allR (rs.take (k + 1)) = allR (rs.take k) ++ tag y.p y.l) := fun k y hy => allR_take hy
  have HE : Hid (allR (rs.take rs.length) = allR rs) := by show _ = _; rw [List.take_length]
  have HC1 : Hid (∀ wr, Below w.heap.size w wr → wr.cell? ⟨D, 1, none⟩ = some (.slice a rs.length c)) := hc1
  clear h h16 hc1
  go_enter Try.func18, Try.ntmps18
  go_wp2
  go_loopw [3, 4] (fun l j wr => ∃ k : Nat, k ≤ rs.length ∧ j = .int .i64 k ∧ Hid (wr.ownsRow w.heap.size 35 2 l (allR (rs.take k)).length (pairsC (allR (rs.take k))) ∧ Below w.heap.size w wr)) (fun _ j _ => rs.length - (intOf j).toNat)
  case atStart => exact ⟨0, Nat.zero_le _, rfl, World.ownsRow_nil _ _ _ _, Below.refl _ _⟩
  case round =>
    obtain ⟨k, hk, rfl, HI⟩ := hrel
    have hk0 : ¬ (k : Int) < 0 := by omega
    by_cases hlt : k < rs.length
    · obtain ⟨g, g2, y, sa, sc, hy, rfl, rfl, hyl, hcs, hin⟩ := HA.out k hlt
      have hkI : (k : Int) < rs.length := by omega
      have HT2 := HT.out k y hy
      have HP2 := HP.out (k + 1)
      rw [HT2] at HP2
      have HT3 : Hid (allR (rs.take (k + 1)) = allR (rs.take k) ++ tag y.p y.l) := HT2
      obtain ⟨e0, e1, e2, e3⟩ := hcs wr HI.out.2
      have HCS : Hid (∀ wr, Below w.heap.size w wr → wr.cell? ⟨D, 0, none⟩ = some (.slice (some ⟨g2, 0, none⟩) rs.length c2) ∧ wr.cell? ⟨D, 1, none⟩ = some (.slice (some ⟨g, 0, none⟩) rs.length c) ∧ wr.cell? ⟨g, k, none⟩ = some (.slice sa y.l.length sc) ∧ wr.cell? ⟨g2, k * 2, none⟩ = some (I y.p)) := hcs
      have HIN : Hid (∀ (m : Nat) (x : Int), y.l[m]? = some x → ∃ sg so, sa = some ⟨sg, so, none⟩ ∧ ∀ wr, Below w.heap.size w wr → wr.cell? ⟨sg, so + m, none⟩ = some (I x)) := hin
      clear HT2 hcs hin hy
      generalize allR (rs.take k) = acc at *
      go_wp2
      go_loopw [3, 5] (fun l j wr => ∃ m : Nat, m ≤ y.l.length ∧ j = .int .i64 m ∧ Hid (wr.ownsRow w.heap.size 35 2 l (acc ++ tag y.p (y.l.take m)).length (pairsC (acc ++ tag y.p (y.l.take m))) ∧ Below w.heap.size w wr)) (fun _ j _ => y.l.length - (intOf j).toNat)
      case atStart => exact ⟨0, Nat.zero_le _, rfl, by simp only [tag, List.take_zero, List.map_nil, List.append_nil]; exact HI.out⟩
      case round =>
        clear e0 e1 e2 e3 HI
        obtain ⟨m, hm, rfl, HJ⟩ := hrel
        have hm0 : ¬ (m : Int) < 0 := by omega
        obtain ⟨e0, e1, e2, e3⟩ := HCS.out wr HJ.out.2
        by_cases hml : m < y.l.length
        · obtain ⟨x, hx⟩ : ∃ x, y.l[m]? = some x := ⟨_, List.getElem?_eq_getElem hml⟩
          obtain ⟨sg, so, rfl, hxc⟩ := HIN.out m x hx
          have hmI : (m : Int) < y.l.length := by omega
          have e4 := hxc wr HJ.out.2
          have HTT : Hid (tag y.p (y.l.take (m + 1)) = tag y.p (y.l.take m) ++ [((y.p : Int), x)]) := tag_take hx
          have hbd : (acc ++ tag y.p (y.l.take m)).length + 1 ≤ 4194304 := by
            simp only [List.length_append, tag, List.length_map, List.length_take] at HP2 ⊢
            omega
          have hown := HJ.out.1
          have hbb := HJ.out.2
          have hbs := hbb.size
          have hown2 := (own_below hown ((Below.refl _ wr).drew)).alloc (.cells #[I y.p, I x] 35)
          clear hx
          have hbz : Below w.heap.size w (wr.drew.alloc (.cells #[I y.p, I x] 35)) := (hbb.drew).alloc (by simpa using hbs) _
          go_wp2
          go_region_held_law (fun w' => w'.cell? ⟨D, 0, none⟩ = some (.slice (some ⟨g2, 0, none⟩) rs.length c2) ∧ w'.cell? ⟨D, 1, none⟩ = some (.slice (some ⟨g, 0, none⟩) rs.length c) ∧ w'.cell? ⟨g, k, none⟩ = some (.slice (some ⟨sg, so, none⟩) y.l.length sc) ∧ w'.cell? ⟨g2, k * 2, none⟩ = some (I y.p) ∧ w'.cell? ⟨sg, so + m, none⟩ = some (I x))
            (first | exact ⟨e0, e1, e2, e3, e4⟩ | exact ⟨(HCS.out _ b2).1, (HCS.out _ b2).2.1, (HCS.out _ b2).2.2.1, (HCS.out _ b2).2.2.2, hxc _ b2⟩ | (go_keep; done))
            (first | (refine step_append_gen rfl (.tmp 27) (.tmp 47) 29 rfl w.heap.size 35 i0 (.agg #[.int .i64 0, .int .i64 0]) 2 16 Try.underlying29 hi0 hz0 hz1 hz2 rfl (by decide) _ _ _ (by simp [Act.eval, Act.put]) hown2 ⟨wr.drew.heap.size, 0, none⟩ 1 1 [I y.p, I x] (by simp [Act.eval, Act.put]) rfl (cell_two_new _ _ _ _) (by simp [Value.oneCell']) (by unfold maxLen; omega) (by omega) hbz.size ?_; intro v' w2 h2 hg2; have b2 : Below w.heap.size w w2 := hbz.grown hg2 hbz.size (fun k e => (hown.lt k e).1)))
          all_goals
            have H9 : Hid (w2.ownsRow w.heap.size 35 2 v' (acc ++ tag y.p (y.l.take (m + 1))).length (pairsC (acc ++ tag y.p (y.l.take (m + 1)))) ∧ Below w.heap.size w w2) := by
              rw [HTT.out, ← List.append_assoc, pairsC_app, List.length_append]
              exact ⟨h2, b2⟩
            clear h2 hg2 hown hown2 e0 e1 e2 e3 e4 hbz hbb
            go_wp2
            go_roundw
            case rel => exact ⟨m + 1, by omega, by go_num, H9.out⟩
            case measure => simp [intOf]; omega
        · obtain rfl : m = y.l.length := by omega
          have hge : ¬ ((y.l.length : Int) < y.l.length) := by omega
          have H9 := HJ.out
          rw [List.take_length] at H9
          have H8 : Hid (wr.ownsRow w.heap.size 35 2 u3 (allR (rs.take (k + 1))).length (pairsC (allR (rs.take (k + 1)))) ∧ Below w.heap.size w wr) := by
            rw [HT3.out]
            exact H9
          clear H9 HJ
          go_wp2
          go_roundw
          case rel => exact ⟨k + 1, by omega, by go_num, H8.out⟩
          case measure => simp [intOf]; omega
    · obtain rfl : k = rs.length := by omega
      have hge : ¬ ((rs.length : Int) < rs.length) := by omega
      have e1 := HC1.out wr HI.out.2
      go_wp2
      go_ret
      refine ⟨_, rfl, ?_, HI.out.2⟩
      have := HI.out.1
      rw [HE.out] at this
      exact this
/-- The first k rows are empty. -/
def clrR (rs : List Rr) (k : Nat) : List Rr := clearR (rs.take k) ++ rs.drop k
theorem clrR_len (rs : List Rr) (k : Nat) : (clrR rs k).length = rs.length := by simp [clrR, clearR]; omega
theorem clrR_zero (rs : List Rr) : clrR rs 0 = rs := rfl
theorem clrR_all (rs : List Rr) : clrR rs rs.length = clearR rs := by simp [clrR]
theorem clrR_step {rs : List Rr} {k : Nat} {y : Rr} (h : rs[k]? = some y) : (clrR rs k)[k]? = some y ∧ (clrR rs k).set k ⟨y.p, y.c, y.h, []⟩ = clrR rs (k + 1) := by
  have hlt := (List.getElem?_eq_some_iff.1 h).1
  have hl : (clearR (rs.take k)).length = k := by simp [clearR]; omega
  have hd : rs.drop k = y :: rs.drop (k + 1) := by
    rw [List.drop_eq_getElem_cons hlt]
    congr 1
    have := List.getElem?_eq_getElem hlt
    rw [h] at this
    exact (Option.some.inj this).symm
  refine ⟨?_, ?_⟩
  · unfold clrR
    rw [List.getElem?_append_right (by omega), hl, hd]
    simp
  · unfold clrR
    rw [List.set_append_right k _ (by omega), hl, hd, Nat.sub_self, List.set_cons_zero, List.take_add_one, h]
    simp [clearR]
set_option maxRecDepth 100000 in
set_option maxHeartbeats 4000000 in
theorem eClear (h : DQ w D N Y rs) (hn : rs.length ≤ 64) (hal : (allR rs).length ≤ 4194304) (h16 : ∀ (i : Nat) (r : Rr), rs[i]? = some r → r.l.length ≤ 65536) : Calls Try.prog 25 #[dQ D] w fun e w' => e = .returned (I (allR rs).length) ∧ DQ w' D N Y (clearR rs) ∧ Fz Y w w' := by
  have t1 := eAll h hn hal h16
  have t2 := t1.mono (R' := fun e w' => ∃ a c, e = .returned (.slice a (allR rs).length c) ∧ Hid (∃ vr vl vh ls, DV w' D N Y rs vr vl vh ls ∧ Fz Y w w')) (fun e w' ⟨v, k1, k2, k3⟩ => by
    obtain ⟨a, c, rfl⟩ := own_sl2 k2
    obtain ⟨vr, vl, vh, ls, h⟩ := h.below k3
    exact ⟨a, c, k1, vr, vl, vh, ls, h, Fz.of_below k3⟩)
  clear t1 h h16
  have HC : Hid (clrR rs rs.length = clearR rs) := clrR_all rs
  go_enter Try.func25, Try.ntmps25
  go_wp2_with (first | (go_at_call 18; refine t2.mono ?_; clear t2; rintro e w1 ⟨a, c, rfl, HI⟩))
  obtain ⟨vr, vl, vh, ls, hd0, hf0⟩ := HI.out
  have H0 : Hid (∃ ls, DV w1 D N Y rs vr vl vh ls ∧ Fz Y w w1) := ⟨ls, hd0, hf0⟩
  obtain ⟨a9, c9, hv9⟩ := own_sl2 hd0.l
  clear HI hd0 hf0
  subst hv9
  go_loopw [4] (fun j wr => ∃ k : Nat, k ≤ rs.length ∧ j = .int .i64 k ∧ Hid (∃ ls, DV wr D N Y (clrR rs k) vr (.slice a9 rs.length c9) vh ls ∧ Fz Y w wr)) (fun j _ => rs.length - (intOf j).toNat)
  case atStart => exact ⟨0, Nat.zero_le _, rfl, by rw [clrR_zero]; exact H0.out⟩
  case round =>
    clear H0
    obtain ⟨k, hk, rfl, HI⟩ := hrel
    obtain ⟨ls2, hd, hf⟩ := HI.out
    clear HI
    have hk0 : ¬ (k : Int) < 0 := by omega
    have c1 := hd.cells.2.1
    by_cases hlt : k < rs.length
    · obtain ⟨y, hy⟩ : ∃ y, rs[k]? = some y := ⟨_, List.getElem?_eq_getElem hlt⟩
      obtain ⟨s1, s2⟩ := clrR_step hy
      obtain ⟨g, c2, s, hvl, hs, hcl, hz, hr⟩ := hd.lAt s1
      rw [clrR_len] at hvl
      cases hvl
      have hkI : (k : Int) < rs.length := by omega
      have hzk := hz k
      obtain ⟨D2, F2⟩ := hd.setL s1 (g := g) (c := c9) (by rw [clrR_len]) (s' := ⟨none, 0, 0⟩) (l' := []) ⟨rfl, Nat.le_refl _, Nat.zero_le _, fun j x hj => by simp at hj⟩ (fun g off e => by cases e)
      rw [s2] at D2
      have H9 : Hid (∃ ls, DV (wr.setCell ⟨g, k, none⟩ (.slice none 0 0)) D N Y (clrR rs (k + 1)) vr (.slice (some ⟨g, 0, none⟩) rs.length c9) vh ls ∧ Fz Y w (wr.setCell ⟨g, k, none⟩ (.slice none 0 0))) := ⟨_, D2, hf.trans F2⟩
      clear D2 F2 hd hf s1 s2 hy hz hs hr
      go_wp2
      go_roundw
      case rel => exact ⟨k + 1, by omega, by go_num, H9.out⟩
      case measure => simp [intOf]; omega
    · obtain rfl : k = rs.length := by omega
      have hge : ¬ ((rs.length : Int) < rs.length) := by omega
      rw [HC.out] at hd
      have H9 : Hid (DV wr D N Y (clearR rs) vr (.slice a9 rs.length c9) vh ls2 ∧ Fz Y w wr) := ⟨hd, hf⟩
      clear hd hf
      go_wp2
      go_ret
      exact ⟨rfl, ⟨_, _, _, _, H9.out.1⟩, H9.out.2⟩
end
end Go.Proofs.Yticgikbnlpgnkaa
