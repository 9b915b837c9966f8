import Derived.Test.YtlbgppijeoonjaaGreatDoorAtcX
namespace Go.Proofs.YtlbgppijeoonjaaGreatDoor
open Go.RowKit
set_option linter.unusedVariables false

/-! ### Attr, at a path that leads to none -/
set_option maxHeartbeats 1000000 in
theorem within_any (i : Int) (n : Nat) (w : World) :
    Calls Tryz.prog 26 #[.int .i64 i, .int .i64 (n : Int)] w fun e w' => e = .returned (.bool (decide (0 ≤ i) && decide (i < (n : Int)))) ∧ w' = w := by
  by_cases h1 : (0 : Int) ≤ i
  · by_cases h2 : i < (n : Int)
    · go_enter Tryz.func26, Tryz.ntmps26
      go_wp2
      go_ret
      exact ⟨ret_bool (by simp [h1, h2]), rfl⟩
    · go_enter Tryz.func26, Tryz.ntmps26
      go_wp2
      go_ret
      exact ⟨ret_bool (by simp [h2]), rfl⟩
  · go_enter Tryz.func26, Tryz.ntmps26
    go_wp2
    go_ret
    exact ⟨ret_bool (by simp; omega), rfl⟩
inductive FailP : List At → List Int → Prop
  | out {l : List At} {i : Int} {is : List Int} : ¬ (0 ≤ i ∧ i < (l.length : Int)) → FailP l (i :: is)
  | more {l : List At} {i : Nat} {b : At} {is : List Int} : l[i]? = some b → FailP b.params is → FailP l ((i : Int) :: is)
theorem fail_head {l : List At} {q : List Int} (h : FailP l q) {i : Int} {r : List Int} (hq : q = i :: r) : ¬ (0 ≤ i ∧ i < (l.length : Int)) ∨ ∃ (n : Nat) (b : At), i = (n : Int) ∧ l[n]? = some b ∧ FailP b.params r := by
  cases h with
  | out h1 => cases hq; exact .inl h1
  | more h1 h2 => cases hq; exact .inr ⟨_, _, rfl, h1, h2⟩
theorem fail_ne {l : List At} {q : List Int} (h : FailP l q) : q ≠ [] := by cases h <;> simp
theorem attrsAt_len {w : World} {F : Nat → Prop} {v : Value} {l : List At} (h : AttrsAt w F v l) : ∃ a cap, v = .slice a l.length cap := by
  cases h with
  | nil => exact ⟨_, _, rfl⟩
  | row _ _ _ _ _ => exact ⟨_, _, by rw [List.length_map]⟩
set_option maxHeartbeats 8000000 in
set_option maxRecDepth 100000 in
theorem attr_no (w : World) (F : Nat → Prop) (tv tc : List UInt8) (tnd : Bool) (tnt : List UInt8) (g off cap : Nat) (qs : List (Ob × Value)) (N : Nat) (hl : qs.length = N) (hN : N ≤ maxLen) (hg : g < w.heap.size)
    (hc : ∀ j u, (rowsO qs)[j]? = some u → w.cell? ⟨g, off + j, none⟩ = some u) (hA : ∀ q, q ∈ qs → AttrsAt w F q.2 q.1.attrs)
    (gp op mq capp i0 : Nat) (q : List Int) (hq : q.length = mq) (hq1 : 1 ≤ mq) (hmq : mq < capp) (hcp : capp ≤ maxLen) (hgp : gp < w.heap.size) (hp0 : w.cell? ⟨gp, op, none⟩ = some (.int .i64 (i0 : Int)))
    (hp : ∀ (k : Nat) (i : Int), q[k]? = some i → w.cell? ⟨gp, op + 1 + k, none⟩ = some (.int .i64 i)) (ob : Ob) (pv0 : Value) (ho : qs[i0]? = some (ob, pv0)) (hW : FailP ob.attrs q) :
    Calls Tryz.prog 9 #[.agg #[.string ⟨tv.toArray⟩, .string ⟨tc.toArray⟩, .slice (some ⟨g, off, none⟩) N cap, .bool tnd, .string ⟨tnt.toArray⟩], .slice (some ⟨gp, op, none⟩) (mq + 1) capp] w
      fun e w' => e = .returned (.tuple #[.agg zero12, .int .i64 2]) ∧ Below w.heap.size w w' := by
  have hi0 : i0 < N := by rw [← hl]; exact (List.getElem?_eq_some_iff.1 ho).1
  have hA0 : AttrsAt w (fun g => F g ∧ g < w.heap.size) pv0 ob.attrs := attrsAt_move (Nat.le_refl _) (fun g hF hl => ⟨rfl, hF, hl⟩) (hA _ (List.mem_of_getElem? ho))
  have hx5 : w.cell? ⟨g, off + i0 * 8 + 5, none⟩ = some pv0 := by
    rw [Nat.add_assoc]
    exact hc _ _ ((rowsO_at qs i0 _ ho 5 (by omega)).trans rfl)
  obtain ⟨la0, ln0, lc0, rfl⟩ := attrsAt_shape hA0
  have hsl : ∀ W : World, (Instr.slice 25 (.slice (some ⟨gp, op, none⟩) (mq + 1) capp) (some (.int .i64 1)) none none).run Tryz.prog W = .ok (.slice (some ⟨gp, op + 1, none⟩) mq (capp - 1)) W := fun W => by
    have h2 : (1 : Int) ≤ (mq : Int) + 1 := by omega
    have h3 : ¬ capp = 1 := by omega
    simp [go_sem, h2, h3]
  have HQ : Hid (q.length = mq) := hq
  have HP : Hid (∀ (k : Nat) (i : Int), q[k]? = some i → w.cell? ⟨gp, op + 1 + k, none⟩ = some (.int .i64 i)) := hp
  have HW : Hid (FailP ob.attrs (q.drop 0)) := hW
  have hmb : (mq : Int) ≤ 9223372036854775806 := by unfold maxLen at hcp; omega
  have hm1 : (1 : Int) ≤ (mq : Int) := by omega
  have hd2 : decide ((mq : Int) + 1 < 2) = false := by rw [decide_eq_false_iff_not]; omega
  have hi0' : (i0 : Int) < (N : Int) := by omega
  have hi00 : (0 : Int) ≤ (i0 : Int) := by omega
  have hm0 : (0 : Int) < (mq : Int) + 1 := by omega
  have cw := fun w => within_yes i0 N w hi0
  clear hc hA ho hW hp hq hl hN hcp
  go_enter Tryz.func9, Tryz.ntmps9
  go_wp2
  have hb1 := ((Below.refl w.heap.size w).alloc (Nat.le_refl _) (.cells #[.string ⟨tv.toArray⟩, .string ⟨tc.toArray⟩, .slice (some ⟨g, off, none⟩) N cap, .bool tnd, .string ⟨tnt.toArray⟩] 24)).alloc (by simp) (.cells #[.string ⟨#[]⟩, .int .i64 0, .int .i64 0, .int .i64 0, .int .i64 0, .string ⟨#[]⟩, .int .u32 0, .bool false, .bool false, .slice none 0 0, .bool false, .string ⟨#[]⟩] 34)
  have h1 := heap2_0' w (.cells #[.string ⟨tv.toArray⟩, .string ⟨tc.toArray⟩, .slice (some ⟨g, off, none⟩) N cap, .bool tnd, .string ⟨tnt.toArray⟩] 24) (.cells #[.string ⟨#[]⟩, .int .i64 0, .int .i64 0, .int .i64 0, .int .i64 0, .string ⟨#[]⟩, .int .u32 0, .bool false, .bool false, .slice none 0 0, .bool false, .string ⟨#[]⟩] 34)
  have h2 := heap2_1' w (.cells #[.string ⟨tv.toArray⟩, .string ⟨tc.toArray⟩, .slice (some ⟨g, off, none⟩) N cap, .bool tnd, .string ⟨tnt.toArray⟩] 24) (.cells #[.string ⟨#[]⟩, .int .i64 0, .int .i64 0, .int .i64 0, .int .i64 0, .string ⟨#[]⟩, .int .u32 0, .bool false, .bool false, .slice none 0 0, .bool false, .string ⟨#[]⟩] 34)
  generalize ((w.alloc (.cells #[.string ⟨tv.toArray⟩, .string ⟨tc.toArray⟩, .slice (some ⟨g, off, none⟩) N cap, .bool tnd, .string ⟨tnt.toArray⟩] 24)).alloc (.cells #[.string ⟨#[]⟩, .int .i64 0, .int .i64 0, .int .i64 0, .int .i64 0, .string ⟨#[]⟩, .int .u32 0, .bool false, .bool false, .slice none 0 0, .bool false, .string ⟨#[]⟩] 34)) = w1 at *
  obtain ⟨⟨_, _, t2, _, _⟩, _⟩ := var5 h1
  have p0 := (cell_below hb1 gp op hgp).trans hp0
  go_quiet (first | (go_at_call 26; refine Calls.quiet_of_same (cw _)))
  have hbq : Below w1.heap.size w1 (w1.drewN nq) := below_drewN (Below.refl _ _) nq
  have hb2 := hb1.trans (hbq.mono hb1.size)
  have h1b := (hbq.block _ (heap_lt h1)).trans h1
  have h2b := (hbq.block _ (heap_lt h2)).trans h2
  clear hb1 h1 h2 t2 p0 hbq cw
  generalize w1.drewN nq = w2 at *
  go_wp2
  have hb3 := hb2.alloc hb2.size (.cells #[.string ⟨#[]⟩, .int .i64 0, .int .i64 0, .int .i64 0, .int .i64 0, .string ⟨#[]⟩, .int .u32 0, .bool false, .bool false, .slice none 0 0, .bool false, .string ⟨#[]⟩] 34)
  have hal := (Below.refl w2.heap.size w2).alloc (Nat.le_refl _) (.cells #[.string ⟨#[]⟩, .int .i64 0, .int .i64 0, .int .i64 0, .int .i64 0, .string ⟨#[]⟩, .int .u32 0, .bool false, .bool false, .slice none 0 0, .bool false, .string ⟨#[]⟩] 34)
  have h1c := (hal.block _ (heap_lt h1b)).trans h1b
  have h2c := (hal.block _ (heap_lt h2b)).trans h2b
  have h3c : (w2.alloc (.cells #[.string ⟨#[]⟩, .int .i64 0, .int .i64 0, .int .i64 0, .int .i64 0, .string ⟨#[]⟩, .int .u32 0, .bool false, .bool false, .slice none 0 0, .bool false, .string ⟨#[]⟩] 34)).heap[w2.heap.size]? = some (.cells #[.string ⟨#[]⟩, .int .i64 0, .int .i64 0, .int .i64 0, .int .i64 0, .string ⟨#[]⟩, .int .u32 0, .bool false, .bool false, .slice none 0 0, .bool false, .string ⟨#[]⟩] 34 (0, 0)) := heap_alloc_new w2 _
  have hba : w.heap.size + 1 < w2.heap.size := heap_lt h2b
  clear hb2 h1b h2b hal
  generalize (w2.alloc (.cells #[.string ⟨#[]⟩, .int .i64 0, .int .i64 0, .int .i64 0, .int .i64 0, .string ⟨#[]⟩, .int .u32 0, .bool false, .bool false, .slice none 0 0, .bool false, .string ⟨#[]⟩] 34)) = w3 at *
  generalize w2.heap.size = ba at *
  obtain ⟨⟨_, _, t2, _, _⟩, _⟩ := var5 h1c
  have p0 := (cell_below hb3 gp op hgp).trans hp0
  have x5 := (cell_below hb3 g (off + i0 * 8 + 5) hg).trans hx5
  go_quiet (fail)
  have hbq : Below w3.heap.size w3 (w3.drewN nq) := below_drewN (Below.refl _ _) nq
  have hb4 := hb3.trans (hbq.mono hb3.size)
  have h2d := (hbq.block _ (heap_lt h2c)).trans h2c
  have h3d := (hbq.block _ (heap_lt h3c)).trans h3c
  clear hb3 h1c h2c h3c t2 p0 x5 hbq
  generalize w3.drewN nq = w4 at *
  go_wp2
  go_loopw [7, 9, 35] (fun s7 _ s35 wr => ∃ (k : Nat) (lv : Value) (l : List At) (b : At) (bv : Value), k ≤ mq ∧ s35 = .int .i64 (k : Int) ∧ s7 = lv ∧ AttrsAt wr (fun g => F g ∧ g < w.heap.size) lv l ∧ Hid (FailP l (q.drop k)) ∧ wr.heap[ba]? = some (.cells (atC b bv) 34 (0, 0)) ∧ (∃ x y z, bv = .slice x y z) ∧ wr.heap[w.heap.size + 1]? = some (.cells #[.string ⟨#[]⟩, .int .i64 0, .int .i64 0, .int .i64 0, .int .i64 0, .string ⟨#[]⟩, .int .u32 0, .bool false, .bool false, .slice none 0 0, .bool false, .string ⟨#[]⟩] 34 (0, 0)) ∧ Below w.heap.size w wr) (fun _ _ s35 _ => mq - (intOf s35).toNat)
  case atStart => exact ⟨0, _, ob.attrs, at0, .slice none 0 0, by omega, rfl, rfl, attrsAt_move hb4.size (fun g hF hl => ⟨hb4.block g hl, hF⟩) hA0, HW, h3d, ⟨_, _, _, rfl⟩, h2d, hb4⟩
  case round =>
    obtain ⟨k, lv, l, b, bv, hk, rfl, rfl, hAl, HWk, hbb, hbs, hrb, hb⟩ := hrel
    clear HW h2d h3d hb4 hA0 hx5
    have hlt : k < mq := by
      rcases Nat.lt_or_ge k mq with h | h
      · exact h
      · exact absurd (List.drop_eq_nil_of_le (by rw [HQ.out]; exact h)) (fail_ne HWk.out)
    have hlt' : (k : Int) < (mq : Int) := by omega
    have hk0 : (0 : Int) ≤ (k : Int) := by omega
    obtain ⟨i, hi⟩ : ∃ x, q[k]? = some x := ⟨q[k]'(by rw [HQ.out]; exact hlt), List.getElem?_eq_getElem _⟩
    have hdr : q.drop k = i :: q.drop (k + 1) := by
      have := List.drop_eq_getElem_cons (l := q) (i := k) (by rw [HQ.out]; exact hlt)
      rw [this]
      rw [List.getElem?_eq_getElem (by rw [HQ.out]; exact hlt)] at hi
      cases hi
      rfl
    have hpk := (cell_below hb gp (op + 1 + k) hgp).trans (HP.out k i hi)
    rcases fail_head HWk.out hdr with hout | ⟨i, b2, rfl, hb2, hb4⟩
    · obtain ⟨la, lc, rfl⟩ := attrsAt_len hAl
      have cw : ∀ w, Calls Tryz.prog 26 #[.int .i64 i, .int .i64 (l.length : Int)] w fun e w' => e = .returned (.bool false) ∧ w' = w := fun w => by
        have h := within_any i l.length w
        rw [show (decide (0 ≤ i) && decide (i < (l.length : Int))) = false by rw [Bool.eq_false_iff]; intro e; rw [Bool.and_eq_true, decide_eq_true_eq, decide_eq_true_eq] at e; exact hout e] at h
        exact h
      obtain ⟨⟨u0, u1, u2, u3, u4, u5, u6, u7, u8, u9, u10, u11⟩, fu⟩ := var12 hrb
      have hrb7 := set12_at wr (w.heap.size + 1) _ _ _ _ _ _ _ _ _ _ _ _ _ (.string ⟨#[]⟩) (.int .i64 0) (.int .i64 0) (.int .i64 0) (.int .i64 0) (.string ⟨#[]⟩) (.int .u32 0) (.bool false) (.bool false) (.slice none 0 0) (.bool false) (.string ⟨#[]⟩) hrb
      have hg7 := set12_grown wr (w.heap.size + 1) (.string ⟨#[]⟩) (.int .i64 0) (.int .i64 0) (.int .i64 0) (.int .i64 0) (.string ⟨#[]⟩) (.int .u32 0) (.bool false) (.bool false) (.slice none 0 0) (.bool false) (.string ⟨#[]⟩)
      have hbw7 := hb.trans (below_of_grown hg7 (by omega) hb.size)
      generalize l.length = ll at *
      clear hAl HWk hdr hi hout hbb hbs hg7 hb hrb
      go_wp2_with (go_at_call 26; refine (cw _).mono ?_; rintro e w' ⟨rfl, rfl⟩)
      exact bodyPost_ret (res_attr2 Tryz.results9 _ (w.heap.size + 1) _ _ _ _ _ _ _ _ _ _ _ _ _ _ rfl rfl hrb7) rfl ⟨rfl, hbw7⟩
    · cases hAl with
      | nil => cases hb2
      | @row g2 off2 cap2 ps hF2 hg2 hc2 hcap2 hA2 =>
        obtain ⟨p, hp⟩ : ∃ p, ps[i]? = some p := by
          rw [List.getElem?_map] at hb2
          cases e : ps[i]? with
          | none => rw [e] at hb2; cases hb2
          | some p => exact ⟨p, rfl⟩
        have hpb : p.1 = b2 := by rw [List.getElem?_map, hp] at hb2; exact Option.some.inj hb2
        have hil : i < ps.length := (List.getElem?_eq_some_iff.1 hp).1
        have hil' : (i : Int) < (ps.length : Int) := by omega
        have hi0'' : (0 : Int) ≤ (i : Int) := by omega
        have hAp := hA2 p (List.mem_of_getElem? hp)
        have hx : ∀ j u, j < 12 → (atC p.1 p.2)[j]? = some u → wr.cell? ⟨g2, off2 + i * 12 + j, none⟩ = some u := fun j u hj hu => by
          rw [Nat.add_assoc]
          exact hc2 _ _ ((rowsA_at ps i p hp j hj).trans hu)
        have cw := fun w => within_yes i ps.length w hil
        have hne2 : g2 ≠ ba := by omega
        obtain ⟨b2', pv2⟩ := p
        dsimp only at hpb hAp hx
        subst hpb
        obtain ⟨pa, pn, pc, rfl⟩ := attrsAt_shape hAp
        obtain ⟨name, o, l, c, ⟨vk, vt, vn, vh⟩, br, prm, nd, nt⟩ := b2'
        have x0 : wr.cell? ⟨g2, off2 + i * 12, none⟩ = some (.string ⟨name.toArray⟩) := hx 0 _ (by omega) rfl
        have x1 : wr.cell? ⟨g2, off2 + i * 12 + 1, none⟩ = some (.int .i64 o) := hx 1 _ (by omega) rfl
        have x2 : wr.cell? ⟨g2, off2 + i * 12 + 2, none⟩ = some (.int .i64 l) := hx 2 _ (by omega) rfl
        have x3 : wr.cell? ⟨g2, off2 + i * 12 + 3, none⟩ = some (.int .i64 c) := hx 3 _ (by omega) rfl
        have x4 : wr.cell? ⟨g2, off2 + i * 12 + 4, none⟩ = some (.int .i64 vk) := hx 4 _ (by omega) rfl
        have x5 : wr.cell? ⟨g2, off2 + i * 12 + 5, none⟩ = some (.string ⟨vt.toArray⟩) := hx 5 _ (by omega) rfl
        have x6 : wr.cell? ⟨g2, off2 + i * 12 + 6, none⟩ = some (.int .u32 (vn : Int)) := hx 6 _ (by omega) rfl
        have x7 : wr.cell? ⟨g2, off2 + i * 12 + 7, none⟩ = some (.bool vh) := hx 7 _ (by omega) rfl
        have x8 : wr.cell? ⟨g2, off2 + i * 12 + 8, none⟩ = some (.bool br) := hx 8 _ (by omega) rfl
        have x9 : wr.cell? ⟨g2, off2 + i * 12 + 9, none⟩ = some (.slice pa pn pc) := hx 9 _ (by omega) rfl
        have x10 : wr.cell? ⟨g2, off2 + i * 12 + 10, none⟩ = some (.bool nd) := hx 10 _ (by omega) rfl
        have x11 : wr.cell? ⟨g2, off2 + i * 12 + 11, none⟩ = some (.string ⟨nt.toArray⟩) := hx 11 _ (by omega) rfl
        obtain ⟨bn, bo, bl, bc, ⟨bvk, bvt, bvn, bvh⟩, bbr, bprm, bnd, bnt⟩ := b
        obtain ⟨zx, zy, zz, rfl⟩ := hbs
        unfold atC at hbb
        obtain ⟨⟨y0, y1, y2, y3, y4, y5, y6, y7, y8, y9, y10, y11⟩, fy⟩ := var12 hbb
        have hbb2 := set12_at wr ba _ _ _ _ _ _ _ _ _ _ _ _ _ (.string ⟨name.toArray⟩) (.int .i64 o) (.int .i64 l) (.int .i64 c) (.int .i64 vk) (.string ⟨vt.toArray⟩) (.int .u32 (vn : Int)) (.bool vh) (.bool br) (.slice pa pn pc) (.bool nd) (.string ⟨nt.toArray⟩) hbb
        have hgs := set12_grown wr ba (.string ⟨name.toArray⟩) (.int .i64 o) (.int .i64 l) (.int .i64 c) (.int .i64 vk) (.string ⟨vt.toArray⟩) (.int .u32 (vn : Int)) (.bool vh) (.bool br) (.slice pa pn pc) (.bool nd) (.string ⟨nt.toArray⟩)
        have HW2 : Hid (FailP prm (q.drop (k + 1))) := hb4
        have hA3 := attrsAt_grown hgs (fun hF => by omega) hAp
        have hrb3 := (hgs.block _ (heap_lt hrb) (fun e => by cases e; omega)).trans hrb
        have hbz := hb.trans (below_of_grown hgs (by omega) hb.size)
        generalize hw5 : ((((((((((((wr.setCell ⟨ba, 0, none⟩ (.string ⟨name.toArray⟩)).setCell ⟨ba, 1, none⟩ (.int .i64 o)).setCell ⟨ba, 2, none⟩ (.int .i64 l)).setCell ⟨ba, 3, none⟩ (.int .i64 c)).setCell ⟨ba, 4, none⟩ (.int .i64 vk)).setCell ⟨ba, 5, none⟩ (.string ⟨vt.toArray⟩)).setCell ⟨ba, 6, none⟩ (.int .u32 (vn : Int))).setCell ⟨ba, 7, none⟩ (.bool vh)).setCell ⟨ba, 8, none⟩ (.bool br)).setCell ⟨ba, 9, none⟩ (.slice pa pn pc)).setCell ⟨ba, 10, none⟩ (.bool nd)).setCell ⟨ba, 11, none⟩ (.string ⟨nt.toArray⟩)) = w5 at hbb2 hgs hA3 hrb3 hbz
        have x9w : w5.cell? ⟨g2, off2 + i * 12 + 9, none⟩ = some (.slice pa pn pc) := by rw [World.cell?_of_block (hgs.block g2 hg2 (fun e => hne2 (Option.some.inj e)))]; exact x9
        clear hx hc2 hA2 hp hb2 hb4 HWk hAp hdr hi hgs hb hbb hrb hF2 hg2 hcap2
        go_wp2_with (go_at_call 26; refine (cw _).mono ?_; rintro e w' ⟨rfl, rfl⟩)
        go_region
        all_goals
          have hA4 := attrsAt_below (Below.refl w5.heap.size w5).drew hA3
          have hbb4 : w5.drew.heap[ba]? = _ := hbb2
          have hrb4 : w5.drew.heap[w.heap.size + 1]? = _ := hrb3
          have hbz4 : Below w.heap.size w w5.drew := hbz.drew
          clear hA3 hbb2 hrb3 hbz hw5
          generalize w5.drew = w6 at *
          clear cw x9w x0 x1 x2 x3 x4 x5 x6 x7 x8 x9 x10 x11 y0 y1 y2 y3 y4 y5 y6 y7 y8 y9 y10 y11 fy hpk
          go_wp2
          go_roundw
          case rel => exact ⟨k + 1, _, prm, .mk name o l c ⟨vk, vt, vn, vh⟩ br prm nd nt, .slice pa pn pc, by omega, by go_num, rfl, hA4, HW2, hbb4, ⟨_, _, _, rfl⟩, hrb4, hbz4⟩
          case measure => simp [intOf]; omega
end Go.Proofs.YtlbgppijeoonjaaGreatDoor

namespace Go.Proofs.YtlbgppijeoonjaaGreatDoor
open Go.RowKit
set_option linter.unusedVariables false

/-! ### The document's Attr, at a path that leads to an attribute -/
set_option maxHeartbeats 8000000 in
set_option maxRecDepth 100000 in
theorem rattr_ok (w : World) (F : Nat → Prop) (tv tc : List UInt8) (tnd : Bool) (tnt : List UInt8) (g off cap : Nat) (qs : List (Ob × Value)) (N : Nat) (hl : qs.length = N) (hN : N ≤ maxLen) (hg : g < w.heap.size)
    (hc : ∀ j u, (rowsO qs)[j]? = some u → w.cell? ⟨g, off + j, none⟩ = some u) (hA : ∀ q, q ∈ qs → AttrsAt w F q.2 q.1.attrs)
    (gp op mq capp i0 : Nat) (q : List Nat) (hq : q.length = mq) (hq1 : 1 ≤ mq) (hmq : mq < capp) (hcp : capp ≤ maxLen) (hgp : gp < w.heap.size) (hp0 : w.cell? ⟨gp, op, none⟩ = some (.int .i64 (i0 : Int)))
    (hp : ∀ (k i : Nat), q[k]? = some i → w.cell? ⟨gp, op + 1 + k, none⟩ = some (.int .i64 (i : Int))) (ob : Ob) (pv0 : Value) (ho : qs[i0]? = some (ob, pv0)) (a : At) (hW : WalkP ob.attrs q a) :
    Calls Tryz.prog 10 #[.agg #[.string ⟨tv.toArray⟩, .string ⟨tc.toArray⟩, .slice (some ⟨g, off, none⟩) N cap, .bool tnd, .string ⟨tnt.toArray⟩], .slice (some ⟨gp, op, none⟩) (mq + 1) capp] w
      fun e w' => ∃ pv', e = .returned (.tuple #[.agg (atC a pv'), .int .i64 0]) ∧ AttrsAt w' F pv' a.params ∧ Below w.heap.size w w' := by
  have hi0 : i0 < N := by rw [← hl]; exact (List.getElem?_eq_some_iff.1 ho).1
  have hA0 : AttrsAt w (fun g => F g ∧ g < w.heap.size) pv0 ob.attrs := attrsAt_move (Nat.le_refl _) (fun g hF hl => ⟨rfl, hF, hl⟩) (hA _ (List.mem_of_getElem? ho))
  have hx5 : w.cell? ⟨g, off + i0 * 8 + 5, none⟩ = some pv0 := by
    rw [Nat.add_assoc]
    exact hc _ _ ((rowsO_at qs i0 _ ho 5 (by omega)).trans rfl)
  obtain ⟨la0, ln0, lc0, rfl⟩ := attrsAt_shape hA0
  have HQ : Hid (q.length = mq) := hq
  have HP : Hid (∀ (k i : Nat), q[k]? = some i → w.cell? ⟨gp, op + 1 + k, none⟩ = some (.int .i64 (i : Int))) := hp
  have HW : Hid (WalkP ob.attrs (q.drop 0) a) := hW
  have hmb : (mq : Int) ≤ 9223372036854775806 := by unfold maxLen at hcp; omega
  have hm1 : (1 : Int) ≤ (mq : Int) := by omega
  have hd2 : decide ((mq : Int) + 1 < 2) = false := by rw [decide_eq_false_iff_not]; omega
  have hd3 : decide ((i0 : Int) < 0) = false := by rw [decide_eq_false_iff_not]; omega
  have hd4 : decide ((N : Int) ≤ (i0 : Int)) = false := by rw [decide_eq_false_iff_not]; omega
  have hi0' : (i0 : Int) < (N : Int) := by omega
  have hi00 : (0 : Int) ≤ (i0 : Int) := by omega
  have hm0 : (0 : Int) < (mq : Int) + 1 := by omega
  clear hc hA ho hW hp hq hl hN hcp
  go_enter Tryz.func10, Tryz.ntmps10
  go_wp2
  have hb1 := ((Below.refl w.heap.size w).alloc (Nat.le_refl _) (.cells #[.string ⟨tv.toArray⟩, .string ⟨tc.toArray⟩, .slice (some ⟨g, off, none⟩) N cap, .bool tnd, .string ⟨tnt.toArray⟩] 24)).alloc (by simp) (.cells #[.string ⟨#[]⟩, .int .i64 0, .int .i64 0, .int .i64 0, .int .i64 0, .string ⟨#[]⟩, .int .u32 0, .bool false, .bool false, .slice none 0 0, .bool false, .string ⟨#[]⟩] 34)
  have h1 := heap2_0' w (.cells #[.string ⟨tv.toArray⟩, .string ⟨tc.toArray⟩, .slice (some ⟨g, off, none⟩) N cap, .bool tnd, .string ⟨tnt.toArray⟩] 24) (.cells #[.string ⟨#[]⟩, .int .i64 0, .int .i64 0, .int .i64 0, .int .i64 0, .string ⟨#[]⟩, .int .u32 0, .bool false, .bool false, .slice none 0 0, .bool false, .string ⟨#[]⟩] 34)
  have h2 := heap2_1' w (.cells #[.string ⟨tv.toArray⟩, .string ⟨tc.toArray⟩, .slice (some ⟨g, off, none⟩) N cap, .bool tnd, .string ⟨tnt.toArray⟩] 24) (.cells #[.string ⟨#[]⟩, .int .i64 0, .int .i64 0, .int .i64 0, .int .i64 0, .string ⟨#[]⟩, .int .u32 0, .bool false, .bool false, .slice none 0 0, .bool false, .string ⟨#[]⟩] 34)
  generalize ((w.alloc (.cells #[.string ⟨tv.toArray⟩, .string ⟨tc.toArray⟩, .slice (some ⟨g, off, none⟩) N cap, .bool tnd, .string ⟨tnt.toArray⟩] 24)).alloc (.cells #[.string ⟨#[]⟩, .int .i64 0, .int .i64 0, .int .i64 0, .int .i64 0, .string ⟨#[]⟩, .int .u32 0, .bool false, .bool false, .slice none 0 0, .bool false, .string ⟨#[]⟩] 34)) = w1 at *
  obtain ⟨⟨_, _, t2, _, _⟩, _⟩ := var5 h1
  have p0 := (cell_below hb1 gp op hgp).trans hp0
  have x5 := (cell_below hb1 g (off + i0 * 8 + 5) hg).trans hx5
  go_quiet (fail)
  have hbq : Below w1.heap.size w1 (w1.drewN nq) := below_drewN (Below.refl _ _) nq
  have hb2 := hb1.trans (hbq.mono hb1.size)
  have h1b := (hbq.block _ (heap_lt h1)).trans h1
  have h2b := (hbq.block _ (heap_lt h2)).trans h2
  clear hb1 h1 h2 t2 p0 x5 hbq
  generalize w1.drewN nq = w2 at *
  obtain ⟨⟨_, _, t2, _, _⟩, _⟩ := var5 h1b
  have p0 := (cell_below hb2 gp op hgp).trans hp0
  have x5 := (cell_below hb2 g (off + i0 * 8 + 5) hg).trans hx5
  go_wp2
  go_quiet (fail)
  have hbq : Below w2.heap.size w2 (w2.drewN nq) := below_drewN (Below.refl _ _) nq
  have hb3 := hb2.trans (hbq.mono hb2.size)
  have h2c := (hbq.block _ (heap_lt h2b)).trans h2b
  clear hb2 h1b h2b t2 p0 x5 hbq
  generalize w2.drewN nq = w3 at *
  go_wp2
  have hb4 := hb3.alloc hb3.size (.cells #[.string ⟨#[]⟩, .int .i64 0, .int .i64 0, .int .i64 0, .int .i64 0, .string ⟨#[]⟩, .int .u32 0, .bool false, .bool false, .slice none 0 0, .bool false, .string ⟨#[]⟩] 34)
  have hal := (Below.refl w3.heap.size w3).alloc (Nat.le_refl _) (.cells #[.string ⟨#[]⟩, .int .i64 0, .int .i64 0, .int .i64 0, .int .i64 0, .string ⟨#[]⟩, .int .u32 0, .bool false, .bool false, .slice none 0 0, .bool false, .string ⟨#[]⟩] 34)
  have h2d := (hal.block _ (heap_lt h2c)).trans h2c
  have h3d : (w3.alloc (.cells #[.string ⟨#[]⟩, .int .i64 0, .int .i64 0, .int .i64 0, .int .i64 0, .string ⟨#[]⟩, .int .u32 0, .bool false, .bool false, .slice none 0 0, .bool false, .string ⟨#[]⟩] 34)).heap[w3.heap.size]? = some (.cells #[.string ⟨#[]⟩, .int .i64 0, .int .i64 0, .int .i64 0, .int .i64 0, .string ⟨#[]⟩, .int .u32 0, .bool false, .bool false, .slice none 0 0, .bool false, .string ⟨#[]⟩] 34 (0, 0)) := heap_alloc_new w3 _
  have hba : w.heap.size + 1 < w3.heap.size := heap_lt h2c
  clear hb3 h2c hal
  generalize (w3.alloc (.cells #[.string ⟨#[]⟩, .int .i64 0, .int .i64 0, .int .i64 0, .int .i64 0, .string ⟨#[]⟩, .int .u32 0, .bool false, .bool false, .slice none 0 0, .bool false, .string ⟨#[]⟩] 34)) = w4 at *
  generalize w3.heap.size = ba at *
  go_loopw [6, 8] (fun s6 s8 wr => ∃ (k : Nat) (lv : Value) (l : List At) (b : At) (bv : Value), k ≤ mq ∧ s8 = .int .i64 ((k : Int) + 1) ∧ s6 = lv ∧ AttrsAt wr (fun g => F g ∧ g < w.heap.size) lv l ∧ Hid (k < mq → WalkP l (q.drop k) a) ∧ Hid (k = mq → b = a ∧ bv = lv ∧ l = a.params) ∧ wr.heap[ba]? = some (.cells (atC b bv) 34 (0, 0)) ∧ (∃ x y z, bv = .slice x y z) ∧ wr.heap[w.heap.size + 1]? = some (.cells #[.string ⟨#[]⟩, .int .i64 0, .int .i64 0, .int .i64 0, .int .i64 0, .string ⟨#[]⟩, .int .u32 0, .bool false, .bool false, .slice none 0 0, .bool false, .string ⟨#[]⟩] 34 (0, 0)) ∧ Below w.heap.size w wr) (fun _ s8 _ => mq + 1 - (intOf s8).toNat)
  case atStart => exact ⟨0, _, ob.attrs, at0, .slice none 0 0, by omega, rfl, rfl, attrsAt_move hb4.size (fun g hF hl => ⟨hb4.block g hl, hF⟩) hA0, (fun _ => HW.out), (fun e => by omega), h3d, ⟨_, _, _, rfl⟩, h2d, hb4⟩
  case round =>
    obtain ⟨k, lv, l, b, bv, hk, rfl, rfl, hAl, HWk, HBk, hbb, hbs, hrb, hb⟩ := hrel
    clear HW h2d h3d hb4 hA0 hx5
    by_cases hlt : k < mq
    · have hlt' : (k : Int) + 1 < (mq : Int) + 1 := by omega
      have hk0 : (0 : Int) ≤ (k : Int) + 1 := by omega
      have hkn : ((k : Int) + 1).toNat = k + 1 := by omega
      obtain ⟨i, hi⟩ : ∃ x, q[k]? = some x := ⟨q[k]'(by rw [HQ.out]; exact hlt), List.getElem?_eq_getElem _⟩
      have hdr : q.drop k = i :: q.drop (k + 1) := by
        have := List.drop_eq_getElem_cons (l := q) (i := k) (by rw [HQ.out]; exact hlt)
        rw [this]
        rw [List.getElem?_eq_getElem (by rw [HQ.out]; exact hlt)] at hi
        cases hi
        rfl
      obtain ⟨b2, hb2, hb3, hb4⟩ := walk_head (k := 0) (HWk.out hlt) hdr
      have hpk : wr.cell? ⟨gp, op + (k + 1), none⟩ = some (.int .i64 (i : Int)) := by
        rw [show op + (k + 1) = op + 1 + k by omega]
        exact (cell_below hb gp (op + 1 + k) hgp).trans (HP.out k i hi)
      cases hAl with
      | nil => cases hb2
      | @row g2 off2 cap2 ps hF2 hg2 hc2 hcap2 hA2 =>
        obtain ⟨p, hp⟩ : ∃ p, ps[i]? = some p := by
          rw [List.getElem?_map] at hb2
          cases e : ps[i]? with
          | none => rw [e] at hb2; cases hb2
          | some p => exact ⟨p, rfl⟩
        have hpb : p.1 = b2 := by rw [List.getElem?_map, hp] at hb2; exact Option.some.inj hb2
        have hil : i < ps.length := (List.getElem?_eq_some_iff.1 hp).1
        have hil' : (i : Int) < (ps.length : Int) := by omega
        have hi0'' : (0 : Int) ≤ (i : Int) := by omega
        have hnn : ¬ (i : Int) < 0 := by omega
        have hnl : ¬ (ps.length : Int) ≤ (i : Int) := by omega
        have hAp := hA2 p (List.mem_of_getElem? hp)
        have hx : ∀ j u, j < 12 → (atC p.1 p.2)[j]? = some u → wr.cell? ⟨g2, off2 + i * 12 + j, none⟩ = some u := fun j u hj hu => by
          rw [Nat.add_assoc]
          exact hc2 _ _ ((rowsA_at ps i p hp j hj).trans hu)
        have hne2 : g2 ≠ ba := by omega
        obtain ⟨b2', pv2⟩ := p
        dsimp only at hpb hAp hx
        subst hpb
        obtain ⟨pa, pn, pc, rfl⟩ := attrsAt_shape hAp
        obtain ⟨name, o, l, c, ⟨vk, vt, vn, vh⟩, br, prm, nd, nt⟩ := b2'
        have x0 : wr.cell? ⟨g2, off2 + i * 12, none⟩ = some (.string ⟨name.toArray⟩) := hx 0 _ (by omega) rfl
        have x1 : wr.cell? ⟨g2, off2 + i * 12 + 1, none⟩ = some (.int .i64 o) := hx 1 _ (by omega) rfl
        have x2 : wr.cell? ⟨g2, off2 + i * 12 + 2, none⟩ = some (.int .i64 l) := hx 2 _ (by omega) rfl
        have x3 : wr.cell? ⟨g2, off2 + i * 12 + 3, none⟩ = some (.int .i64 c) := hx 3 _ (by omega) rfl
        have x4 : wr.cell? ⟨g2, off2 + i * 12 + 4, none⟩ = some (.int .i64 vk) := hx 4 _ (by omega) rfl
        have x5 : wr.cell? ⟨g2, off2 + i * 12 + 5, none⟩ = some (.string ⟨vt.toArray⟩) := hx 5 _ (by omega) rfl
        have x6 : wr.cell? ⟨g2, off2 + i * 12 + 6, none⟩ = some (.int .u32 (vn : Int)) := hx 6 _ (by omega) rfl
        have x7 : wr.cell? ⟨g2, off2 + i * 12 + 7, none⟩ = some (.bool vh) := hx 7 _ (by omega) rfl
        have x8 : wr.cell? ⟨g2, off2 + i * 12 + 8, none⟩ = some (.bool br) := hx 8 _ (by omega) rfl
        have x9 : wr.cell? ⟨g2, off2 + i * 12 + 9, none⟩ = some (.slice pa pn pc) := hx 9 _ (by omega) rfl
        have x10 : wr.cell? ⟨g2, off2 + i * 12 + 10, none⟩ = some (.bool nd) := hx 10 _ (by omega) rfl
        have x11 : wr.cell? ⟨g2, off2 + i * 12 + 11, none⟩ = some (.string ⟨nt.toArray⟩) := hx 11 _ (by omega) rfl
        obtain ⟨bn, bo, bl, bc, ⟨bvk, bvt, bvn, bvh⟩, bbr, bprm, bnd, bnt⟩ := b
        obtain ⟨zx, zy, zz, rfl⟩ := hbs
        unfold atC at hbb
        obtain ⟨⟨y0, y1, y2, y3, y4, y5, y6, y7, y8, y9, y10, y11⟩, fy⟩ := var12 hbb
        have hbb2 := set12_at wr ba _ _ _ _ _ _ _ _ _ _ _ _ _ (.string ⟨name.toArray⟩) (.int .i64 o) (.int .i64 l) (.int .i64 c) (.int .i64 vk) (.string ⟨vt.toArray⟩) (.int .u32 (vn : Int)) (.bool vh) (.bool br) (.slice pa pn pc) (.bool nd) (.string ⟨nt.toArray⟩) hbb
        have hgs := set12_grown wr ba (.string ⟨name.toArray⟩) (.int .i64 o) (.int .i64 l) (.int .i64 c) (.int .i64 vk) (.string ⟨vt.toArray⟩) (.int .u32 (vn : Int)) (.bool vh) (.bool br) (.slice pa pn pc) (.bool nd) (.string ⟨nt.toArray⟩)
        have HW2 : Hid (k + 1 < mq → WalkP prm (q.drop (k + 1)) a) := fun hkk => hb4 (fun e => by
          have := congrArg List.length e
          rw [List.length_drop, HQ.out] at this
          simp at this
          omega)
        have HB2 : Hid (k + 1 = mq → (.mk name o l c ⟨vk, vt, vn, vh⟩ br prm nd nt : At) = a ∧ prm = a.params) := fun hkk => by
          have e : q.drop (k + 1) = [] := List.drop_eq_nil_of_le (by rw [HQ.out]; omega)
          have := hb3 e
          exact ⟨this, by rw [← this]; rfl⟩
        have hA3 := attrsAt_grown hgs (fun hF => by omega) hAp
        have hrb3 := (hgs.block _ (heap_lt hrb) (fun e => by cases e; omega)).trans hrb
        have hbz := hb.trans (below_of_grown hgs (by omega) hb.size)
        generalize hw5 : ((((((((((((wr.setCell ⟨ba, 0, none⟩ (.string ⟨name.toArray⟩)).setCell ⟨ba, 1, none⟩ (.int .i64 o)).setCell ⟨ba, 2, none⟩ (.int .i64 l)).setCell ⟨ba, 3, none⟩ (.int .i64 c)).setCell ⟨ba, 4, none⟩ (.int .i64 vk)).setCell ⟨ba, 5, none⟩ (.string ⟨vt.toArray⟩)).setCell ⟨ba, 6, none⟩ (.int .u32 (vn : Int))).setCell ⟨ba, 7, none⟩ (.bool vh)).setCell ⟨ba, 8, none⟩ (.bool br)).setCell ⟨ba, 9, none⟩ (.slice pa pn pc)).setCell ⟨ba, 10, none⟩ (.bool nd)).setCell ⟨ba, 11, none⟩ (.string ⟨nt.toArray⟩)) = w5 at hbb2 hgs hA3 hrb3 hbz
        have z9 : w5.cell? ⟨ba, 9, none⟩ = some (.slice pa pn pc) := cell_of_row w5 ba 9 _ _ (0, 0) hbb2
        clear hx hc2 hA2 hp hb2 hb3 hb4 HWk HBk hAp hdr hi hgs hb hbb hrb hF2 hg2 hcap2
        go_wp2
        go_roundw
        case rel => exact ⟨k + 1, _, prm, .mk name o l c ⟨vk, vt, vn, vh⟩ br prm nd nt, .slice pa pn pc, by omega, by go_num, rfl, hA3, HW2, (fun e => ⟨(HB2.out e).1, rfl, (HB2.out e).2⟩), hbb2, ⟨_, _, _, rfl⟩, hrb3, hbz⟩
        case measure => simp [intOf]; omega
    · obtain rfl : k = mq := by omega
      have hlt' : ¬ (k : Int) + 1 < (k : Int) + 1 := by omega
      obtain ⟨rfl, rfl, rfl⟩ := HBk.out rfl
      obtain ⟨zx, zy, zz, rfl⟩ := hbs
      obtain ⟨bn, bo, bl, bc, ⟨bvk, bvt, bvn, bvh⟩, bbr, bprm, bnd, bnt⟩ := b
      unfold atC at hbb
      obtain ⟨⟨z0, z1, z2, z3, z4, z5, z6, z7, z8, z9, z10, z11⟩, _⟩ := var12 hbb
      obtain ⟨⟨u0, u1, u2, u3, u4, u5, u6, u7, u8, u9, u10, u11⟩, fu⟩ := var12 hrb
      have hrb7 := set12_at wr (w.heap.size + 1) _ _ _ _ _ _ _ _ _ _ _ _ _ (.string ⟨bn.toArray⟩) (.int .i64 bo) (.int .i64 bl) (.int .i64 bc) (.int .i64 bvk) (.string ⟨bvt.toArray⟩) (.int .u32 (bvn : Int)) (.bool bvh) (.bool bbr) (.slice zx zy zz) (.bool bnd) (.string ⟨bnt.toArray⟩) hrb
      have hg7 := set12_grown wr (w.heap.size + 1) (.string ⟨bn.toArray⟩) (.int .i64 bo) (.int .i64 bl) (.int .i64 bc) (.int .i64 bvk) (.string ⟨bvt.toArray⟩) (.int .u32 (bvn : Int)) (.bool bvh) (.bool bbr) (.slice zx zy zz) (.bool bnd) (.string ⟨bnt.toArray⟩)
      have hA7 := attrsAt_grown hg7 (fun hF => by omega) hAl
      have hbw7 := hb.trans (below_of_grown hg7 (by omega) hb.size)
      have hA8 := attrsAt_mono (G := F) (fun g hF => hF.1) hA7
      clear HWk HBk hAl hbb hrb hA7 hg7 hb
      go_wp2
      exact bodyPost_ret (res_attr2 Tryz.results10 _ (w.heap.size + 1) _ _ _ _ _ _ _ _ _ _ _ _ _ _ rfl rfl hrb7) rfl ⟨_, rfl, hA8, hbw7⟩
end Go.Proofs.YtlbgppijeoonjaaGreatDoor

namespace Go.Proofs.YtlbgppijeoonjaaGreatDoor
open Go.RowKit
set_option linter.unusedVariables false

/-! ### The document's Attr, at a path that leads to none -/
set_option maxHeartbeats 8000000 in
set_option maxRecDepth 100000 in
theorem rattr_no (w : World) (F : Nat → Prop) (tv tc : List UInt8) (tnd : Bool) (tnt : List UInt8) (g off cap : Nat) (qs : List (Ob × Value)) (N : Nat) (hl : qs.length = N) (hN : N ≤ maxLen) (hg : g < w.heap.size)
    (hc : ∀ j u, (rowsO qs)[j]? = some u → w.cell? ⟨g, off + j, none⟩ = some u) (hA : ∀ q, q ∈ qs → AttrsAt w F q.2 q.1.attrs)
    (gp op mq capp i0 : Nat) (q : List Int) (hq : q.length = mq) (hq1 : 1 ≤ mq) (hmq : mq < capp) (hcp : capp ≤ maxLen) (hgp : gp < w.heap.size) (hp0 : w.cell? ⟨gp, op, none⟩ = some (.int .i64 (i0 : Int)))
    (hp : ∀ (k : Nat) (i : Int), q[k]? = some i → w.cell? ⟨gp, op + 1 + k, none⟩ = some (.int .i64 i)) (ob : Ob) (pv0 : Value) (ho : qs[i0]? = some (ob, pv0)) (hW : FailP ob.attrs q) :
    Calls Tryz.prog 10 #[.agg #[.string ⟨tv.toArray⟩, .string ⟨tc.toArray⟩, .slice (some ⟨g, off, none⟩) N cap, .bool tnd, .string ⟨tnt.toArray⟩], .slice (some ⟨gp, op, none⟩) (mq + 1) capp] w
      fun e w' => e = .returned (.tuple #[.agg zero12, .int .i64 2]) ∧ Below w.heap.size w w' := by
  have hi0 : i0 < N := by rw [← hl]; exact (List.getElem?_eq_some_iff.1 ho).1
  have hA0 : AttrsAt w (fun g => F g ∧ g < w.heap.size) pv0 ob.attrs := attrsAt_move (Nat.le_refl _) (fun g hF hl => ⟨rfl, hF, hl⟩) (hA _ (List.mem_of_getElem? ho))
  have hx5 : w.cell? ⟨g, off + i0 * 8 + 5, none⟩ = some pv0 := by
    rw [Nat.add_assoc]
    exact hc _ _ ((rowsO_at qs i0 _ ho 5 (by omega)).trans rfl)
  obtain ⟨la0, ln0, lc0, rfl⟩ := attrsAt_shape hA0
  have HQ : Hid (q.length = mq) := hq
  have HP : Hid (∀ (k : Nat) (i : Int), q[k]? = some i → w.cell? ⟨gp, op + 1 + k, none⟩ = some (.int .i64 i)) := hp
  have HW : Hid (FailP ob.attrs (q.drop 0)) := hW
  have hmb : (mq : Int) ≤ 9223372036854775806 := by unfold maxLen at hcp; omega
  have hm1 : (1 : Int) ≤ (mq : Int) := by omega
  have hd2 : decide ((mq : Int) + 1 < 2) = false := by rw [decide_eq_false_iff_not]; omega
  have hd3 : decide ((i0 : Int) < 0) = false := by rw [decide_eq_false_iff_not]; omega
  have hd4 : decide ((N : Int) ≤ (i0 : Int)) = false := by rw [decide_eq_false_iff_not]; omega
  have hi0' : (i0 : Int) < (N : Int) := by omega
  have hi00 : (0 : Int) ≤ (i0 : Int) := by omega
  have hm0 : (0 : Int) < (mq : Int) + 1 := by omega
  clear hc hA ho hW hp hq hl hN hcp
  go_enter Tryz.func10, Tryz.ntmps10
  go_wp2
  have hb1 := ((Below.refl w.heap.size w).alloc (Nat.le_refl _) (.cells #[.string ⟨tv.toArray⟩, .string ⟨tc.toArray⟩, .slice (some ⟨g, off, none⟩) N cap, .bool tnd, .string ⟨tnt.toArray⟩] 24)).alloc (by simp) (.cells #[.string ⟨#[]⟩, .int .i64 0, .int .i64 0, .int .i64 0, .int .i64 0, .string ⟨#[]⟩, .int .u32 0, .bool false, .bool false, .slice none 0 0, .bool false, .string ⟨#[]⟩] 34)
  have h1 := heap2_0' w (.cells #[.string ⟨tv.toArray⟩, .string ⟨tc.toArray⟩, .slice (some ⟨g, off, none⟩) N cap, .bool tnd, .string ⟨tnt.toArray⟩] 24) (.cells #[.string ⟨#[]⟩, .int .i64 0, .int .i64 0, .int .i64 0, .int .i64 0, .string ⟨#[]⟩, .int .u32 0, .bool false, .bool false, .slice none 0 0, .bool false, .string ⟨#[]⟩] 34)
  have h2 := heap2_1' w (.cells #[.string ⟨tv.toArray⟩, .string ⟨tc.toArray⟩, .slice (some ⟨g, off, none⟩) N cap, .bool tnd, .string ⟨tnt.toArray⟩] 24) (.cells #[.string ⟨#[]⟩, .int .i64 0, .int .i64 0, .int .i64 0, .int .i64 0, .string ⟨#[]⟩, .int .u32 0, .bool false, .bool false, .slice none 0 0, .bool false, .string ⟨#[]⟩] 34)
  generalize ((w.alloc (.cells #[.string ⟨tv.toArray⟩, .string ⟨tc.toArray⟩, .slice (some ⟨g, off, none⟩) N cap, .bool tnd, .string ⟨tnt.toArray⟩] 24)).alloc (.cells #[.string ⟨#[]⟩, .int .i64 0, .int .i64 0, .int .i64 0, .int .i64 0, .string ⟨#[]⟩, .int .u32 0, .bool false, .bool false, .slice none 0 0, .bool false, .string ⟨#[]⟩] 34)) = w1 at *
  obtain ⟨⟨_, _, t2, _, _⟩, _⟩ := var5 h1
  have p0 := (cell_below hb1 gp op hgp).trans hp0
  have x5 := (cell_below hb1 g (off + i0 * 8 + 5) hg).trans hx5
  go_quiet (fail)
  have hbq : Below w1.heap.size w1 (w1.drewN nq) := below_drewN (Below.refl _ _) nq
  have hb2 := hb1.trans (hbq.mono hb1.size)
  have h1b := (hbq.block _ (heap_lt h1)).trans h1
  have h2b := (hbq.block _ (heap_lt h2)).trans h2
  clear hb1 h1 h2 t2 p0 x5 hbq
  generalize w1.drewN nq = w2 at *
  obtain ⟨⟨_, _, t2, _, _⟩, _⟩ := var5 h1b
  have p0 := (cell_below hb2 gp op hgp).trans hp0
  have x5 := (cell_below hb2 g (off + i0 * 8 + 5) hg).trans hx5
  go_wp2
  go_quiet (fail)
  have hbq : Below w2.heap.size w2 (w2.drewN nq) := below_drewN (Below.refl _ _) nq
  have hb3 := hb2.trans (hbq.mono hb2.size)
  have h2c := (hbq.block _ (heap_lt h2b)).trans h2b
  clear hb2 h1b h2b t2 p0 x5 hbq
  generalize w2.drewN nq = w3 at *
  go_wp2
  have hb4 := hb3.alloc hb3.size (.cells #[.string ⟨#[]⟩, .int .i64 0, .int .i64 0, .int .i64 0, .int .i64 0, .string ⟨#[]⟩, .int .u32 0, .bool false, .bool false, .slice none 0 0, .bool false, .string ⟨#[]⟩] 34)
  have hal := (Below.refl w3.heap.size w3).alloc (Nat.le_refl _) (.cells #[.string ⟨#[]⟩, .int .i64 0, .int .i64 0, .int .i64 0, .int .i64 0, .string ⟨#[]⟩, .int .u32 0, .bool false, .bool false, .slice none 0 0, .bool false, .string ⟨#[]⟩] 34)
  have h2d := (hal.block _ (heap_lt h2c)).trans h2c
  have h3d : (w3.alloc (.cells #[.string ⟨#[]⟩, .int .i64 0, .int .i64 0, .int .i64 0, .int .i64 0, .string ⟨#[]⟩, .int .u32 0, .bool false, .bool false, .slice none 0 0, .bool false, .string ⟨#[]⟩] 34)).heap[w3.heap.size]? = some (.cells #[.string ⟨#[]⟩, .int .i64 0, .int .i64 0, .int .i64 0, .int .i64 0, .string ⟨#[]⟩, .int .u32 0, .bool false, .bool false, .slice none 0 0, .bool false, .string ⟨#[]⟩] 34 (0, 0)) := heap_alloc_new w3 _
  have hba : w.heap.size + 1 < w3.heap.size := heap_lt h2c
  clear hb3 h2c hal
  generalize (w3.alloc (.cells #[.string ⟨#[]⟩, .int .i64 0, .int .i64 0, .int .i64 0, .int .i64 0, .string ⟨#[]⟩, .int .u32 0, .bool false, .bool false, .slice none 0 0, .bool false, .string ⟨#[]⟩] 34)) = w4 at *
  generalize w3.heap.size = ba at *
  go_loopw [6, 8] (fun s6 s8 wr => ∃ (k : Nat) (lv : Value) (l : List At) (b : At) (bv : Value), k ≤ mq ∧ s8 = .int .i64 ((k : Int) + 1) ∧ s6 = lv ∧ AttrsAt wr (fun g => F g ∧ g < w.heap.size) lv l ∧ Hid (FailP l (q.drop k)) ∧ wr.heap[ba]? = some (.cells (atC b bv) 34 (0, 0)) ∧ (∃ x y z, bv = .slice x y z) ∧ wr.heap[w.heap.size + 1]? = some (.cells #[.string ⟨#[]⟩, .int .i64 0, .int .i64 0, .int .i64 0, .int .i64 0, .string ⟨#[]⟩, .int .u32 0, .bool false, .bool false, .slice none 0 0, .bool false, .string ⟨#[]⟩] 34 (0, 0)) ∧ Below w.heap.size w wr) (fun _ s8 _ => mq + 1 - (intOf s8).toNat)
  case atStart => exact ⟨0, _, ob.attrs, at0, .slice none 0 0, by omega, rfl, rfl, attrsAt_move hb4.size (fun g hF hl => ⟨hb4.block g hl, hF⟩) hA0, HW, h3d, ⟨_, _, _, rfl⟩, h2d, hb4⟩
  case round =>
    obtain ⟨k, lv, l, b, bv, hk, rfl, rfl, hAl, HWk, hbb, hbs, hrb, hb⟩ := hrel
    clear HW h2d h3d hb4 hA0 hx5
    have hlt : k < mq := by
      rcases Nat.lt_or_ge k mq with h | h
      · exact h
      · exact absurd (List.drop_eq_nil_of_le (by rw [HQ.out]; exact h)) (fail_ne HWk.out)
    have hlt' : (k : Int) + 1 < (mq : Int) + 1 := by omega
    have hk0 : (0 : Int) ≤ (k : Int) + 1 := by omega
    have hkn : ((k : Int) + 1).toNat = k + 1 := by omega
    obtain ⟨i, hi⟩ : ∃ x, q[k]? = some x := ⟨q[k]'(by rw [HQ.out]; exact hlt), List.getElem?_eq_getElem _⟩
    have hdr : q.drop k = i :: q.drop (k + 1) := by
      have := List.drop_eq_getElem_cons (l := q) (i := k) (by rw [HQ.out]; exact hlt)
      rw [this]
      rw [List.getElem?_eq_getElem (by rw [HQ.out]; exact hlt)] at hi
      cases hi
      rfl
    have hpk : wr.cell? ⟨gp, op + (k + 1), none⟩ = some (.int .i64 i) := by
      rw [show op + (k + 1) = op + 1 + k by omega]
      exact (cell_below hb gp (op + 1 + k) hgp).trans (HP.out k i hi)
    rcases fail_head HWk.out hdr with hout | ⟨i, b2, rfl, hb2, hb4⟩
    · obtain ⟨la, lc, rfl⟩ := attrsAt_len hAl
      obtain ⟨⟨u0, u1, u2, u3, u4, u5, u6, u7, u8, u9, u10, u11⟩, fu⟩ := var12 hrb
      have hrb7 := set12_at wr (w.heap.size + 1) _ _ _ _ _ _ _ _ _ _ _ _ _ (.string ⟨#[]⟩) (.int .i64 0) (.int .i64 0) (.int .i64 0) (.int .i64 0) (.string ⟨#[]⟩) (.int .u32 0) (.bool false) (.bool false) (.slice none 0 0) (.bool false) (.string ⟨#[]⟩) hrb
      have hg7 := set12_grown wr (w.heap.size + 1) (.string ⟨#[]⟩) (.int .i64 0) (.int .i64 0) (.int .i64 0) (.int .i64 0) (.string ⟨#[]⟩) (.int .u32 0) (.bool false) (.bool false) (.slice none 0 0) (.bool false) (.string ⟨#[]⟩)
      have hbw7 := hb.trans (below_of_grown hg7 (by omega) hb.size)
      generalize l.length = ll at *
      clear hAl HWk hdr hi hbb hbs hg7 hb hrb
      by_cases hneg : i < 0
      · clear hout
        go_wp2
        exact bodyPost_ret (res_attr2 Tryz.results10 _ (w.heap.size + 1) _ _ _ _ _ _ _ _ _ _ _ _ _ _ rfl rfl hrb7) rfl ⟨rfl, hbw7⟩
      · have hge : (ll : Int) ≤ i := by omega
        clear hout
        go_wp2
        exact bodyPost_ret (res_attr2 Tryz.results10 _ (w.heap.size + 1) _ _ _ _ _ _ _ _ _ _ _ _ _ _ rfl rfl hrb7) rfl ⟨rfl, hbw7⟩
    · cases hAl with
      | nil => cases hb2
      | @row g2 off2 cap2 ps hF2 hg2 hc2 hcap2 hA2 =>
        obtain ⟨p, hp⟩ : ∃ p, ps[i]? = some p := by
          rw [List.getElem?_map] at hb2
          cases e : ps[i]? with
          | none => rw [e] at hb2; cases hb2
          | some p => exact ⟨p, rfl⟩
        have hpb : p.1 = b2 := by rw [List.getElem?_map, hp] at hb2; exact Option.some.inj hb2
        have hil : i < ps.length := (List.getElem?_eq_some_iff.1 hp).1
        have hil' : (i : Int) < (ps.length : Int) := by omega
        have hi0'' : (0 : Int) ≤ (i : Int) := by omega
        have hnn : ¬ (i : Int) < 0 := by omega
        have hnl : ¬ (ps.length : Int) ≤ (i : Int) := by omega
        have hAp := hA2 p (List.mem_of_getElem? hp)
        have hx : ∀ j u, j < 12 → (atC p.1 p.2)[j]? = some u → wr.cell? ⟨g2, off2 + i * 12 + j, none⟩ = some u := fun j u hj hu => by
          rw [Nat.add_assoc]
          exact hc2 _ _ ((rowsA_at ps i p hp j hj).trans hu)
        have hne2 : g2 ≠ ba := by omega
        obtain ⟨b2', pv2⟩ := p
        dsimp only at hpb hAp hx
        subst hpb
        obtain ⟨pa, pn, pc, rfl⟩ := attrsAt_shape hAp
        obtain ⟨name, o, l, c, ⟨vk, vt, vn, vh⟩, br, prm, nd, nt⟩ := b2'
        have x0 : wr.cell? ⟨g2, off2 + i * 12, none⟩ = some (.string ⟨name.toArray⟩) := hx 0 _ (by omega) rfl
        have x1 : wr.cell? ⟨g2, off2 + i * 12 + 1, none⟩ = some (.int .i64 o) := hx 1 _ (by omega) rfl
        have x2 : wr.cell? ⟨g2, off2 + i * 12 + 2, none⟩ = some (.int .i64 l) := hx 2 _ (by omega) rfl
        have x3 : wr.cell? ⟨g2, off2 + i * 12 + 3, none⟩ = some (.int .i64 c) := hx 3 _ (by omega) rfl
        have x4 : wr.cell? ⟨g2, off2 + i * 12 + 4, none⟩ = some (.int .i64 vk) := hx 4 _ (by omega) rfl
        have x5 : wr.cell? ⟨g2, off2 + i * 12 + 5, none⟩ = some (.string ⟨vt.toArray⟩) := hx 5 _ (by omega) rfl
        have x6 : wr.cell? ⟨g2, off2 + i * 12 + 6, none⟩ = some (.int .u32 (vn : Int)) := hx 6 _ (by omega) rfl
        have x7 : wr.cell? ⟨g2, off2 + i * 12 + 7, none⟩ = some (.bool vh) := hx 7 _ (by omega) rfl
        have x8 : wr.cell? ⟨g2, off2 + i * 12 + 8, none⟩ = some (.bool br) := hx 8 _ (by omega) rfl
        have x9 : wr.cell? ⟨g2, off2 + i * 12 + 9, none⟩ = some (.slice pa pn pc) := hx 9 _ (by omega) rfl
        have x10 : wr.cell? ⟨g2, off2 + i * 12 + 10, none⟩ = some (.bool nd) := hx 10 _ (by omega) rfl
        have x11 : wr.cell? ⟨g2, off2 + i * 12 + 11, none⟩ = some (.string ⟨nt.toArray⟩) := hx 11 _ (by omega) rfl
        obtain ⟨bn, bo, bl, bc, ⟨bvk, bvt, bvn, bvh⟩, bbr, bprm, bnd, bnt⟩ := b
        obtain ⟨zx, zy, zz, rfl⟩ := hbs
        unfold atC at hbb
        obtain ⟨⟨y0, y1, y2, y3, y4, y5, y6, y7, y8, y9, y10, y11⟩, fy⟩ := var12 hbb
        have hbb2 := set12_at wr ba _ _ _ _ _ _ _ _ _ _ _ _ _ (.string ⟨name.toArray⟩) (.int .i64 o) (.int .i64 l) (.int .i64 c) (.int .i64 vk) (.string ⟨vt.toArray⟩) (.int .u32 (vn : Int)) (.bool vh) (.bool br) (.slice pa pn pc) (.bool nd) (.string ⟨nt.toArray⟩) hbb
        have hgs := set12_grown wr ba (.string ⟨name.toArray⟩) (.int .i64 o) (.int .i64 l) (.int .i64 c) (.int .i64 vk) (.string ⟨vt.toArray⟩) (.int .u32 (vn : Int)) (.bool vh) (.bool br) (.slice pa pn pc) (.bool nd) (.string ⟨nt.toArray⟩)
        have HW2 : Hid (FailP prm (q.drop (k + 1))) := hb4
        have hA3 := attrsAt_grown hgs (fun hF => by omega) hAp
        have hrb3 := (hgs.block _ (heap_lt hrb) (fun e => by cases e; omega)).trans hrb
        have hbz := hb.trans (below_of_grown hgs (by omega) hb.size)
        generalize hw5 : ((((((((((((wr.setCell ⟨ba, 0, none⟩ (.string ⟨name.toArray⟩)).setCell ⟨ba, 1, none⟩ (.int .i64 o)).setCell ⟨ba, 2, none⟩ (.int .i64 l)).setCell ⟨ba, 3, none⟩ (.int .i64 c)).setCell ⟨ba, 4, none⟩ (.int .i64 vk)).setCell ⟨ba, 5, none⟩ (.string ⟨vt.toArray⟩)).setCell ⟨ba, 6, none⟩ (.int .u32 (vn : Int))).setCell ⟨ba, 7, none⟩ (.bool vh)).setCell ⟨ba, 8, none⟩ (.bool br)).setCell ⟨ba, 9, none⟩ (.slice pa pn pc)).setCell ⟨ba, 10, none⟩ (.bool nd)).setCell ⟨ba, 11, none⟩ (.string ⟨nt.toArray⟩)) = w5 at hbb2 hgs hA3 hrb3 hbz
        have z9 : w5.cell? ⟨ba, 9, none⟩ = some (.slice pa pn pc) := cell_of_row w5 ba 9 _ _ (0, 0) hbb2
        clear hx hc2 hA2 hp hb2 hb4 HWk hAp hdr hi hgs hb hbb hrb hF2 hg2 hcap2
        go_wp2
        go_roundw
        case rel => exact ⟨k + 1, _, prm, .mk name o l c ⟨vk, vt, vn, vh⟩ br prm nd nt, .slice pa pn pc, by omega, by go_num, rfl, hA3, HW2, hbb2, ⟨_, _, _, rfl⟩, hrb3, hbz⟩
        case measure => simp [intOf]; omega
end Go.Proofs.YtlbgppijeoonjaaGreatDoor

namespace Go.Proofs.YtlbgppijeoonjaaGreatDoor
open Go.RowKit
set_option linter.unusedVariables false

/-! ### Attr, where the path's length or its first number will not do -/
set_option maxHeartbeats 4000000 in
set_option maxRecDepth 100000 in
theorem attr_short (w : World) (tv tc : List UInt8) (tnd : Bool) (tnt : List UInt8) (oa : Option Addr) (N cap : Nat) (pa : Option Addr) (m capp : Nat) (hm : m < 2) :
    Calls Tryz.prog 9 #[.agg #[.string ⟨tv.toArray⟩, .string ⟨tc.toArray⟩, .slice oa N cap, .bool tnd, .string ⟨tnt.toArray⟩], .slice pa m capp] w fun e w' => e = .returned (.tuple #[.agg zero12, .int .i64 2]) ∧ Below w.heap.size w w' := by
  have hm2 : (m : Int) < 2 := by omega
  clear hm
  go_enter Tryz.func9, Tryz.ntmps9
  go_wp2
  have hb1 := ((Below.refl w.heap.size w).alloc (Nat.le_refl _) (.cells #[.string ⟨tv.toArray⟩, .string ⟨tc.toArray⟩, .slice oa N cap, .bool tnd, .string ⟨tnt.toArray⟩] 24)).alloc (by simp) (.cells #[.string ⟨#[]⟩, .int .i64 0, .int .i64 0, .int .i64 0, .int .i64 0, .string ⟨#[]⟩, .int .u32 0, .bool false, .bool false, .slice none 0 0, .bool false, .string ⟨#[]⟩] 34)
  have h1 := heap2_0' w (.cells #[.string ⟨tv.toArray⟩, .string ⟨tc.toArray⟩, .slice oa N cap, .bool tnd, .string ⟨tnt.toArray⟩] 24) (.cells #[.string ⟨#[]⟩, .int .i64 0, .int .i64 0, .int .i64 0, .int .i64 0, .string ⟨#[]⟩, .int .u32 0, .bool false, .bool false, .slice none 0 0, .bool false, .string ⟨#[]⟩] 34)
  have h2 := heap2_1' w (.cells #[.string ⟨tv.toArray⟩, .string ⟨tc.toArray⟩, .slice oa N cap, .bool tnd, .string ⟨tnt.toArray⟩] 24) (.cells #[.string ⟨#[]⟩, .int .i64 0, .int .i64 0, .int .i64 0, .int .i64 0, .string ⟨#[]⟩, .int .u32 0, .bool false, .bool false, .slice none 0 0, .bool false, .string ⟨#[]⟩] 34)
  generalize ((w.alloc (.cells #[.string ⟨tv.toArray⟩, .string ⟨tc.toArray⟩, .slice oa N cap, .bool tnd, .string ⟨tnt.toArray⟩] 24)).alloc (.cells #[.string ⟨#[]⟩, .int .i64 0, .int .i64 0, .int .i64 0, .int .i64 0, .string ⟨#[]⟩, .int .u32 0, .bool false, .bool false, .slice none 0 0, .bool false, .string ⟨#[]⟩] 34)) = w1 at *
  obtain ⟨⟨_, _, t2, _, _⟩, _⟩ := var5 h1
  go_quiet (fail)
  have hbq : Below w1.heap.size w1 (w1.drewN nq) := below_drewN (Below.refl _ _) nq
  have hb2 := hb1.trans (hbq.mono hb1.size)
  have h2b := (hbq.block _ (heap_lt h2)).trans h2
  clear hb1 h1 h2 t2 hbq
  generalize w1.drewN nq = w2 at *
  obtain ⟨⟨u0, u1, u2, u3, u4, u5, u6, u7, u8, u9, u10, u11⟩, fu⟩ := var12 h2b
  have hrb7 := set12_at w2 (w.heap.size + 1) _ _ _ _ _ _ _ _ _ _ _ _ _ (.string ⟨#[]⟩) (.int .i64 0) (.int .i64 0) (.int .i64 0) (.int .i64 0) (.string ⟨#[]⟩) (.int .u32 0) (.bool false) (.bool false) (.slice none 0 0) (.bool false) (.string ⟨#[]⟩) h2b
  have hg7 := set12_grown w2 (w.heap.size + 1) (.string ⟨#[]⟩) (.int .i64 0) (.int .i64 0) (.int .i64 0) (.int .i64 0) (.string ⟨#[]⟩) (.int .u32 0) (.bool false) (.bool false) (.slice none 0 0) (.bool false) (.string ⟨#[]⟩)
  have hbw7 := hb2.trans (below_of_grown hg7 (by omega) hb2.size)
  clear hb2 hg7 h2b
  go_wp2
  exact bodyPost_ret (res_attr2 Tryz.results9 _ (w.heap.size + 1) _ _ _ _ _ _ _ _ _ _ _ _ _ _ rfl rfl hrb7) rfl ⟨rfl, hbw7⟩
set_option maxHeartbeats 4000000 in
set_option maxRecDepth 100000 in
theorem rattr_short (w : World) (tv tc : List UInt8) (tnd : Bool) (tnt : List UInt8) (oa : Option Addr) (N cap : Nat) (pa : Option Addr) (m capp : Nat) (hm : m < 2) :
    Calls Tryz.prog 10 #[.agg #[.string ⟨tv.toArray⟩, .string ⟨tc.toArray⟩, .slice oa N cap, .bool tnd, .string ⟨tnt.toArray⟩], .slice pa m capp] w fun e w' => e = .returned (.tuple #[.agg zero12, .int .i64 2]) ∧ Below w.heap.size w w' := by
  have hm2 : (m : Int) < 2 := by omega
  clear hm
  go_enter Tryz.func10, Tryz.ntmps10
  go_wp2
  have hb1 := ((Below.refl w.heap.size w).alloc (Nat.le_refl _) (.cells #[.string ⟨tv.toArray⟩, .string ⟨tc.toArray⟩, .slice oa N cap, .bool tnd, .string ⟨tnt.toArray⟩] 24)).alloc (by simp) (.cells #[.string ⟨#[]⟩, .int .i64 0, .int .i64 0, .int .i64 0, .int .i64 0, .string ⟨#[]⟩, .int .u32 0, .bool false, .bool false, .slice none 0 0, .bool false, .string ⟨#[]⟩] 34)
  have h1 := heap2_0' w (.cells #[.string ⟨tv.toArray⟩, .string ⟨tc.toArray⟩, .slice oa N cap, .bool tnd, .string ⟨tnt.toArray⟩] 24) (.cells #[.string ⟨#[]⟩, .int .i64 0, .int .i64 0, .int .i64 0, .int .i64 0, .string ⟨#[]⟩, .int .u32 0, .bool false, .bool false, .slice none 0 0, .bool false, .string ⟨#[]⟩] 34)
  have h2 := heap2_1' w (.cells #[.string ⟨tv.toArray⟩, .string ⟨tc.toArray⟩, .slice oa N cap, .bool tnd, .string ⟨tnt.toArray⟩] 24) (.cells #[.string ⟨#[]⟩, .int .i64 0, .int .i64 0, .int .i64 0, .int .i64 0, .string ⟨#[]⟩, .int .u32 0, .bool false, .bool false, .slice none 0 0, .bool false, .string ⟨#[]⟩] 34)
  generalize ((w.alloc (.cells #[.string ⟨tv.toArray⟩, .string ⟨tc.toArray⟩, .slice oa N cap, .bool tnd, .string ⟨tnt.toArray⟩] 24)).alloc (.cells #[.string ⟨#[]⟩, .int .i64 0, .int .i64 0, .int .i64 0, .int .i64 0, .string ⟨#[]⟩, .int .u32 0, .bool false, .bool false, .slice none 0 0, .bool false, .string ⟨#[]⟩] 34)) = w1 at *
  obtain ⟨⟨_, _, t2, _, _⟩, _⟩ := var5 h1
  go_quiet (fail)
  have hbq : Below w1.heap.size w1 (w1.drewN nq) := below_drewN (Below.refl _ _) nq
  have hb2 := hb1.trans (hbq.mono hb1.size)
  have h2b := (hbq.block _ (heap_lt h2)).trans h2
  clear hb1 h1 h2 t2 hbq
  generalize w1.drewN nq = w2 at *
  obtain ⟨⟨u0, u1, u2, u3, u4, u5, u6, u7, u8, u9, u10, u11⟩, fu⟩ := var12 h2b
  have hrb7 := set12_at w2 (w.heap.size + 1) _ _ _ _ _ _ _ _ _ _ _ _ _ (.string ⟨#[]⟩) (.int .i64 0) (.int .i64 0) (.int .i64 0) (.int .i64 0) (.string ⟨#[]⟩) (.int .u32 0) (.bool false) (.bool false) (.slice none 0 0) (.bool false) (.string ⟨#[]⟩) h2b
  have hg7 := set12_grown w2 (w.heap.size + 1) (.string ⟨#[]⟩) (.int .i64 0) (.int .i64 0) (.int .i64 0) (.int .i64 0) (.string ⟨#[]⟩) (.int .u32 0) (.bool false) (.bool false) (.slice none 0 0) (.bool false) (.string ⟨#[]⟩)
  have hbw7 := hb2.trans (below_of_grown hg7 (by omega) hb2.size)
  clear hb2 hg7 h2b
  go_wp2
  exact bodyPost_ret (res_attr2 Tryz.results10 _ (w.heap.size + 1) _ _ _ _ _ _ _ _ _ _ _ _ _ _ rfl rfl hrb7) rfl ⟨rfl, hbw7⟩
set_option maxHeartbeats 4000000 in
set_option maxRecDepth 100000 in
theorem attr_range (w : World) (tv tc : List UInt8) (tnd : Bool) (tnt : List UInt8) (oa : Option Addr) (N cap : Nat) (gp op mq capp : Nat) (i0 : Int) (hq1 : 1 ≤ mq) (hmb : (mq : Int) ≤ 9223372036854775806) (hgp : gp < w.heap.size) (hp0 : w.cell? ⟨gp, op, none⟩ = some (.int .i64 i0)) (hout : ¬ (0 ≤ i0 ∧ i0 < (N : Int))) :
    Calls Tryz.prog 9 #[.agg #[.string ⟨tv.toArray⟩, .string ⟨tc.toArray⟩, .slice oa N cap, .bool tnd, .string ⟨tnt.toArray⟩], .slice (some ⟨gp, op, none⟩) (mq + 1) capp] w fun e w' => e = .returned (.tuple #[.agg zero12, .int .i64 2]) ∧ Below w.heap.size w w' := by
  have hd2 : decide ((mq : Int) + 1 < 2) = false := by rw [decide_eq_false_iff_not]; omega
  have hm0 : (0 : Int) < (mq : Int) + 1 := by omega
  have cw : ∀ w, Calls Tryz.prog 26 #[.int .i64 i0, .int .i64 (N : Int)] w fun e w' => e = .returned (.bool false) ∧ w' = w := fun w => by
    have h := within_any i0 N w
    rw [show (decide (0 ≤ i0) && decide (i0 < (N : Int))) = false by rw [Bool.eq_false_iff]; intro e; rw [Bool.and_eq_true, decide_eq_true_eq, decide_eq_true_eq] at e; exact hout e] at h
    exact h
  clear hout
  go_enter Tryz.func9, Tryz.ntmps9
  go_wp2
  have hb1 := ((Below.refl w.heap.size w).alloc (Nat.le_refl _) (.cells #[.string ⟨tv.toArray⟩, .string ⟨tc.toArray⟩, .slice oa N cap, .bool tnd, .string ⟨tnt.toArray⟩] 24)).alloc (by simp) (.cells #[.string ⟨#[]⟩, .int .i64 0, .int .i64 0, .int .i64 0, .int .i64 0, .string ⟨#[]⟩, .int .u32 0, .bool false, .bool false, .slice none 0 0, .bool false, .string ⟨#[]⟩] 34)
  have h1 := heap2_0' w (.cells #[.string ⟨tv.toArray⟩, .string ⟨tc.toArray⟩, .slice oa N cap, .bool tnd, .string ⟨tnt.toArray⟩] 24) (.cells #[.string ⟨#[]⟩, .int .i64 0, .int .i64 0, .int .i64 0, .int .i64 0, .string ⟨#[]⟩, .int .u32 0, .bool false, .bool false, .slice none 0 0, .bool false, .string ⟨#[]⟩] 34)
  have h2 := heap2_1' w (.cells #[.string ⟨tv.toArray⟩, .string ⟨tc.toArray⟩, .slice oa N cap, .bool tnd, .string ⟨tnt.toArray⟩] 24) (.cells #[.string ⟨#[]⟩, .int .i64 0, .int .i64 0, .int .i64 0, .int .i64 0, .string ⟨#[]⟩, .int .u32 0, .bool false, .bool false, .slice none 0 0, .bool false, .string ⟨#[]⟩] 34)
  generalize ((w.alloc (.cells #[.string ⟨tv.toArray⟩, .string ⟨tc.toArray⟩, .slice oa N cap, .bool tnd, .string ⟨tnt.toArray⟩] 24)).alloc (.cells #[.string ⟨#[]⟩, .int .i64 0, .int .i64 0, .int .i64 0, .int .i64 0, .string ⟨#[]⟩, .int .u32 0, .bool false, .bool false, .slice none 0 0, .bool false, .string ⟨#[]⟩] 34)) = w1 at *
  obtain ⟨⟨_, _, t2, _, _⟩, _⟩ := var5 h1
  have p0 := (cell_below hb1 gp op hgp).trans hp0
  go_quiet (first | (go_at_call 26; refine Calls.quiet_of_same (cw _)))
  have hbq : Below w1.heap.size w1 (w1.drewN nq) := below_drewN (Below.refl _ _) nq
  have hb2 := hb1.trans (hbq.mono hb1.size)
  have h2b := (hbq.block _ (heap_lt h2)).trans h2
  clear hb1 h1 h2 t2 hbq
  generalize w1.drewN nq = w2 at *
  obtain ⟨⟨u0, u1, u2, u3, u4, u5, u6, u7, u8, u9, u10, u11⟩, fu⟩ := var12 h2b
  have hrb7 := set12_at w2 (w.heap.size + 1) _ _ _ _ _ _ _ _ _ _ _ _ _ (.string ⟨#[]⟩) (.int .i64 0) (.int .i64 0) (.int .i64 0) (.int .i64 0) (.string ⟨#[]⟩) (.int .u32 0) (.bool false) (.bool false) (.slice none 0 0) (.bool false) (.string ⟨#[]⟩) h2b
  have hg7 := set12_grown w2 (w.heap.size + 1) (.string ⟨#[]⟩) (.int .i64 0) (.int .i64 0) (.int .i64 0) (.int .i64 0) (.string ⟨#[]⟩) (.int .u32 0) (.bool false) (.bool false) (.slice none 0 0) (.bool false) (.string ⟨#[]⟩)
  have hbw7 := hb2.trans (below_of_grown hg7 (by omega) hb2.size)
  clear hb2 hg7 h2b
  go_wp2
  exact bodyPost_ret (res_attr2 Tryz.results9 _ (w.heap.size + 1) _ _ _ _ _ _ _ _ _ _ _ _ _ _ rfl rfl hrb7) rfl ⟨rfl, hbw7⟩
set_option maxHeartbeats 4000000 in
set_option maxRecDepth 100000 in
theorem rattr_neg (w : World) (tv tc : List UInt8) (tnd : Bool) (tnt : List UInt8) (oa : Option Addr) (N cap : Nat) (gp op mq capp : Nat) (i0 : Int) (hq1 : 1 ≤ mq) (hmb : (mq : Int) ≤ 9223372036854775806) (hgp : gp < w.heap.size) (hp0 : w.cell? ⟨gp, op, none⟩ = some (.int .i64 i0)) (hneg : i0 < 0) :
    Calls Tryz.prog 10 #[.agg #[.string ⟨tv.toArray⟩, .string ⟨tc.toArray⟩, .slice oa N cap, .bool tnd, .string ⟨tnt.toArray⟩], .slice (some ⟨gp, op, none⟩) (mq + 1) capp] w fun e w' => e = .returned (.tuple #[.agg zero12, .int .i64 2]) ∧ Below w.heap.size w w' := by
  have hd2 : decide ((mq : Int) + 1 < 2) = false := by rw [decide_eq_false_iff_not]; omega
  have hm0 : (0 : Int) < (mq : Int) + 1 := by omega
  go_enter Tryz.func10, Tryz.ntmps10
  go_wp2
  have hb1 := ((Below.refl w.heap.size w).alloc (Nat.le_refl _) (.cells #[.string ⟨tv.toArray⟩, .string ⟨tc.toArray⟩, .slice oa N cap, .bool tnd, .string ⟨tnt.toArray⟩] 24)).alloc (by simp) (.cells #[.string ⟨#[]⟩, .int .i64 0, .int .i64 0, .int .i64 0, .int .i64 0, .string ⟨#[]⟩, .int .u32 0, .bool false, .bool false, .slice none 0 0, .bool false, .string ⟨#[]⟩] 34)
  have h1 := heap2_0' w (.cells #[.string ⟨tv.toArray⟩, .string ⟨tc.toArray⟩, .slice oa N cap, .bool tnd, .string ⟨tnt.toArray⟩] 24) (.cells #[.string ⟨#[]⟩, .int .i64 0, .int .i64 0, .int .i64 0, .int .i64 0, .string ⟨#[]⟩, .int .u32 0, .bool false, .bool false, .slice none 0 0, .bool false, .string ⟨#[]⟩] 34)
  have h2 := heap2_1' w (.cells #[.string ⟨tv.toArray⟩, .string ⟨tc.toArray⟩, .slice oa N cap, .bool tnd, .string ⟨tnt.toArray⟩] 24) (.cells #[.string ⟨#[]⟩, .int .i64 0, .int .i64 0, .int .i64 0, .int .i64 0, .string ⟨#[]⟩, .int .u32 0, .bool false, .bool false, .slice none 0 0, .bool false, .string ⟨#[]⟩] 34)
  generalize ((w.alloc (.cells #[.string ⟨tv.toArray⟩, .string ⟨tc.toArray⟩, .slice oa N cap, .bool tnd, .string ⟨tnt.toArray⟩] 24)).alloc (.cells #[.string ⟨#[]⟩, .int .i64 0, .int .i64 0, .int .i64 0, .int .i64 0, .string ⟨#[]⟩, .int .u32 0, .bool false, .bool false, .slice none 0 0, .bool false, .string ⟨#[]⟩] 34)) = w1 at *
  obtain ⟨⟨_, _, t2, _, _⟩, _⟩ := var5 h1
  have p0 := (cell_below hb1 gp op hgp).trans hp0
  go_quiet (fail)
  have hbq : Below w1.heap.size w1 (w1.drewN nq) := below_drewN (Below.refl _ _) nq
  have hb2 := hb1.trans (hbq.mono hb1.size)
  have h2b := (hbq.block _ (heap_lt h2)).trans h2
  clear hb1 h1 h2 t2 hbq
  generalize w1.drewN nq = w2 at *
  obtain ⟨⟨u0, u1, u2, u3, u4, u5, u6, u7, u8, u9, u10, u11⟩, fu⟩ := var12 h2b
  have hrb7 := set12_at w2 (w.heap.size + 1) _ _ _ _ _ _ _ _ _ _ _ _ _ (.string ⟨#[]⟩) (.int .i64 0) (.int .i64 0) (.int .i64 0) (.int .i64 0) (.string ⟨#[]⟩) (.int .u32 0) (.bool false) (.bool false) (.slice none 0 0) (.bool false) (.string ⟨#[]⟩) h2b
  have hg7 := set12_grown w2 (w.heap.size + 1) (.string ⟨#[]⟩) (.int .i64 0) (.int .i64 0) (.int .i64 0) (.int .i64 0) (.string ⟨#[]⟩) (.int .u32 0) (.bool false) (.bool false) (.slice none 0 0) (.bool false) (.string ⟨#[]⟩)
  have hbw7 := hb2.trans (below_of_grown hg7 (by omega) hb2.size)
  clear hb2 hg7 h2b
  go_wp2
  exact bodyPost_ret (res_attr2 Tryz.results10 _ (w.heap.size + 1) _ _ _ _ _ _ _ _ _ _ _ _ _ _ rfl rfl hrb7) rfl ⟨rfl, hbw7⟩
set_option maxHeartbeats 4000000 in
set_option maxRecDepth 100000 in
theorem rattr_big (w : World) (tv tc : List UInt8) (tnd : Bool) (tnt : List UInt8) (oa : Option Addr) (N cap : Nat) (gp op mq capp : Nat) (i0 : Int) (hq1 : 1 ≤ mq) (hmb : (mq : Int) ≤ 9223372036854775806) (hgp : gp < w.heap.size) (hp0 : w.cell? ⟨gp, op, none⟩ = some (.int .i64 i0)) (hnn : 0 ≤ i0) (hge : (N : Int) ≤ i0) :
    Calls Tryz.prog 10 #[.agg #[.string ⟨tv.toArray⟩, .string ⟨tc.toArray⟩, .slice oa N cap, .bool tnd, .string ⟨tnt.toArray⟩], .slice (some ⟨gp, op, none⟩) (mq + 1) capp] w fun e w' => e = .returned (.tuple #[.agg zero12, .int .i64 2]) ∧ Below w.heap.size w w' := by
  have hd2 : decide ((mq : Int) + 1 < 2) = false := by rw [decide_eq_false_iff_not]; omega
  have hm0 : (0 : Int) < (mq : Int) + 1 := by omega
  have hd3 : decide (i0 < 0) = false := by rw [decide_eq_false_iff_not]; omega
  go_enter Tryz.func10, Tryz.ntmps10
  go_wp2
  have hb1 := ((Below.refl w.heap.size w).alloc (Nat.le_refl _) (.cells #[.string ⟨tv.toArray⟩, .string ⟨tc.toArray⟩, .slice oa N cap, .bool tnd, .string ⟨tnt.toArray⟩] 24)).alloc (by simp) (.cells #[.string ⟨#[]⟩, .int .i64 0, .int .i64 0, .int .i64 0, .int .i64 0, .string ⟨#[]⟩, .int .u32 0, .bool false, .bool false, .slice none 0 0, .bool false, .string ⟨#[]⟩] 34)
  have h1 := heap2_0' w (.cells #[.string ⟨tv.toArray⟩, .string ⟨tc.toArray⟩, .slice oa N cap, .bool tnd, .string ⟨tnt.toArray⟩] 24) (.cells #[.string ⟨#[]⟩, .int .i64 0, .int .i64 0, .int .i64 0, .int .i64 0, .string ⟨#[]⟩, .int .u32 0, .bool false, .bool false, .slice none 0 0, .bool false, .string ⟨#[]⟩] 34)
  have h2 := heap2_1' w (.cells #[.string ⟨tv.toArray⟩, .string ⟨tc.toArray⟩, .slice oa N cap, .bool tnd, .string ⟨tnt.toArray⟩] 24) (.cells #[.string ⟨#[]⟩, .int .i64 0, .int .i64 0, .int .i64 0, .int .i64 0, .string ⟨#[]⟩, .int .u32 0, .bool false, .bool false, .slice none 0 0, .bool false, .string ⟨#[]⟩] 34)
  generalize ((w.alloc (.cells #[.string ⟨tv.toArray⟩, .string ⟨tc.toArray⟩, .slice oa N cap, .bool tnd, .string ⟨tnt.toArray⟩] 24)).alloc (.cells #[.string ⟨#[]⟩, .int .i64 0, .int .i64 0, .int .i64 0, .int .i64 0, .string ⟨#[]⟩, .int .u32 0, .bool false, .bool false, .slice none 0 0, .bool false, .string ⟨#[]⟩] 34)) = w1 at *
  obtain ⟨⟨_, _, t2, _, _⟩, _⟩ := var5 h1
  have p0 := (cell_below hb1 gp op hgp).trans hp0
  go_quiet (fail)
  have hbq : Below w1.heap.size w1 (w1.drewN nq) := below_drewN (Below.refl _ _) nq
  have hb2 := hb1.trans (hbq.mono hb1.size)
  have h2b := (hbq.block _ (heap_lt h2)).trans h2
  clear hb1 h1 h2 t2 hbq
  generalize w1.drewN nq = w2 at *
  obtain ⟨⟨u0, u1, u2, u3, u4, u5, u6, u7, u8, u9, u10, u11⟩, fu⟩ := var12 h2b
  have hrb7 := set12_at w2 (w.heap.size + 1) _ _ _ _ _ _ _ _ _ _ _ _ _ (.string ⟨#[]⟩) (.int .i64 0) (.int .i64 0) (.int .i64 0) (.int .i64 0) (.string ⟨#[]⟩) (.int .u32 0) (.bool false) (.bool false) (.slice none 0 0) (.bool false) (.string ⟨#[]⟩) h2b
  have hg7 := set12_grown w2 (w.heap.size + 1) (.string ⟨#[]⟩) (.int .i64 0) (.int .i64 0) (.int .i64 0) (.int .i64 0) (.string ⟨#[]⟩) (.int .u32 0) (.bool false) (.bool false) (.slice none 0 0) (.bool false) (.string ⟨#[]⟩)
  have hbw7 := hb2.trans (below_of_grown hg7 (by omega) hb2.size)
  clear hb2 hg7 h2b
  go_wp2
  exact bodyPost_ret (res_attr2 Tryz.results10 _ (w.heap.size + 1) _ _ _ _ _ _ _ _ _ _ _ _ _ _ rfl rfl hrb7) rfl ⟨rfl, hbw7⟩
end Go.Proofs.YtlbgppijeoonjaaGreatDoor

namespace Go.Proofs.YtlbgppijeoonjaaGreatDoor
open Go.RowKit
set_option linter.unusedVariables false

/-! ### Attr, both, at every path -/
/-- A slice of ints that lies somewhere. -/
inductive PathAt (w : World) : Value → List Int → Prop
  | nil {a : Option Addr} {cap : Nat} : PathAt w (.slice a 0 cap) []
  | row {g off cap : Nat} {p : List Int} : g < w.heap.size → (∀ k i, p[k]? = some i → w.cell? ⟨g, off + k, none⟩ = some (.int .i64 i)) → p.length ≤ cap → cap ≤ maxLen → PathAt w (.slice (some ⟨g, off, none⟩) p.length cap) p
theorem pathAt_below {w w' : World} (hb : Below w.heap.size w w') {v : Value} {p : List Int} (h : PathAt w v p) : PathAt w' v p := by
  cases h with
  | nil => exact .nil
  | row a b c d => exact .row (Nat.lt_of_lt_of_le a hb.size) (fun k i hk => by rw [cell_below hb _ _ a]; exact b k i hk) c d
theorem pathAt_shape {w : World} {v : Value} {p : List Int} (h : PathAt w v p) : ∃ a cap, v = .slice a p.length cap := by
  cases h with
  | nil => exact ⟨_, _, rfl⟩
  | row _ _ _ _ => exact ⟨_, _, rfl⟩
theorem walk_or_fail (q : List Int) : ∀ (l : List At), q ≠ [] → (∃ (qn : List Nat) (a : At), q = qn.map (fun (n : Nat) => (n : Int)) ∧ WalkP l qn a) ∨ FailP l q := by
  induction q with
  | nil => intro l h; exact absurd rfl h
  | cons i r ih =>
    intro l _
    by_cases hi : 0 ≤ i ∧ i < (l.length : Int)
    · obtain ⟨n, rfl⟩ := Int.eq_ofNat_of_zero_le hi.1
      have hn : n < l.length := by omega
      have hl : l[n]? = some l[n] := List.getElem?_eq_getElem hn
      by_cases hr : r = []
      · subst hr
        exact .inl ⟨[n], l[n], rfl, .one hl⟩
      · rcases ih l[n].params hr with ⟨qn, a, rfl, hw⟩ | hf
        · refine .inl ⟨n :: qn, a, rfl, ?_⟩
          cases qn with
          | nil => exact absurd rfl hr
          | cons m qn => exact .more hl hw
        · exact .inr (.more hl hf)
    · exact .inr (.out hi)
theorem walk_len {n : Nat} {l : List At} {q : List Nat} {a : At} (h : WalkP l q a) (hl : LenB n l) : LenB n a.params := by
  induction h with
  | one h1 => exact hl.par (List.mem_of_getElem? h1)
  | more h1 h2 ih => exact ih (hl.par (List.mem_of_getElem? h1))
/-- What an Attr answers: its attributes below lie in what came in (below B), or in memory that the call made. -/
def AttrRes (B : Nat) (a : At) (ec : Int) (W : World) (e : Ending) (w' : World) : Prop := ∃ pv', e = .returned (.tuple #[.agg (atC a pv'), .int .i64 ec]) ∧ AttrsAt w' (fun g => g < B ∨ W.heap.size ≤ g) pv' a.params ∧ Below W.heap.size W w'
set_option maxRecDepth 100000 in
theorem attr_both (w : World) (t : Tr) (pv : Value) (hO : ObjsAt w (fun _ => True) pv t.objs) (nb : Nat) (hnb : nb ≤ 1099511627776) (hLB : ∀ o, o ∈ t.objs → LenB nb o.attrs) (p : List Int) :
    ∃ (a : At) (ec : Int), (∀ W v, Below w.heap.size w W → PathAt W v p → Calls Tryz.prog 9 #[.agg (trC t pv), v] W fun e w' => AttrRes w.heap.size a ec W e w') ∧
      (∀ W v, Below w.heap.size w W → PathAt W v p → Calls Tryz.prog 10 #[.agg (trC t pv), v] W fun e w' => AttrRes w.heap.size a ec W e w') := by
  obtain ⟨tv, tc, tobs, tnd, tnt⟩ := t
  dsimp only at hO hLB
  obtain ⟨oa, on, oc, rfl⟩ := objsAt_shape hO
  have z : ∀ W e w', (e = .returned (.tuple #[.agg zero12, .int .i64 2]) ∧ Below W.heap.size W w') → AttrRes w.heap.size at0 2 W e w' := fun W e w' h => ⟨.slice none 0 0, h.1, .nil, h.2⟩
  by_cases h2 : p.length < 2
  · refine ⟨at0, 2, fun W v hW hp => ?_, fun W v hW hp => ?_⟩
    · obtain ⟨pa, capp, rfl⟩ := pathAt_shape hp
      exact (attr_short W tv tc tnd tnt oa on oc pa p.length capp h2).mono (fun e w' h => z W e w' h)
    · obtain ⟨pa, capp, rfl⟩ := pathAt_shape hp
      exact (rattr_short W tv tc tnd tnt oa on oc pa p.length capp h2).mono (fun e w' h => z W e w' h)
  · match p, h2 with
    | [], h2 => exact absurd (by simp) h2
    | [_], h2 => exact absurd (by simp) h2
    | i0 :: i1 :: r, _ =>
      have hrow : ∀ W v, PathAt W v (i0 :: i1 :: r) → ∃ g off cap, v = .slice (some ⟨g, off, none⟩) ((i1 :: r).length + 1) cap ∧ g < W.heap.size ∧ W.cell? ⟨g, off, none⟩ = some (.int .i64 i0) ∧ (∀ (k : Nat) (i : Int), (i1 :: r)[k]? = some i → W.cell? ⟨g, off + 1 + k, none⟩ = some (.int .i64 i)) ∧ (i1 :: r).length < cap ∧ cap ≤ maxLen := fun W v hp => by
        generalize hq : i0 :: i1 :: r = q at hp
        cases hp with
        | nil => cases hq
        | @row g off cap q a b c d =>
          subst hq
          refine ⟨g, off, cap, rfl, a, b 0 i0 rfl, fun k i hk => ?_, by simp at c ⊢; omega, d⟩
          rw [show off + 1 + k = off + (k + 1) by omega]
          exact b (k + 1) i (by simpa using hk)
      by_cases hr : 0 ≤ i0 ∧ i0 < (on : Int)
      · obtain ⟨n0, rfl⟩ := Int.eq_ofNat_of_zero_le hr.1
        cases hO with
        | nil => simp at hr; omega
        | @row g off cap qs hF hg hc hcap hA =>
          have hn0 : n0 < qs.length := by omega
          obtain ⟨⟨ob, pv0⟩, ho⟩ : ∃ x, qs[n0]? = some x := ⟨qs[n0], List.getElem?_eq_getElem hn0⟩
          have hob : LenB nb ob.attrs := hLB ob (List.mem_map.2 ⟨(ob, pv0), List.mem_of_getElem? ho, rfl⟩)
          have hN := Nat.le_trans hcap.1 hcap.2
          have hA' : ∀ W, Below w.heap.size w W → ∀ q, q ∈ qs → AttrsAt W (fun _ => True) q.2 q.1.attrs := fun W hW q hq => attrsAt_below hW (hA q hq)
          have hc' : ∀ W, Below w.heap.size w W → ∀ j u, (rowsO qs)[j]? = some u → W.cell? ⟨g, off + j, none⟩ = some u := fun W hW j u hj => by rw [cell_below hW _ _ hg]; exact hc j u hj
          rcases walk_or_fail (i1 :: r) ob.attrs (by simp) with ⟨qn, a, hqn, hw⟩ | hf
          · have hln : qn.length = (i1 :: r).length := by rw [hqn, List.length_map]
            have hcells : ∀ (W : World) (g2 off2 : Nat), (∀ (k : Nat) (i : Int), (i1 :: r)[k]? = some i → W.cell? ⟨g2, off2 + 1 + k, none⟩ = some (.int .i64 i)) → ∀ (k i : Nat), qn[k]? = some i → W.cell? ⟨g2, off2 + 1 + k, none⟩ = some (.int .i64 (i : Int)) := fun W g2 off2 h k i hk => h k (i : Int) (by rw [hqn, List.getElem?_map, hk]; rfl)
            refine ⟨a, 0, fun W v hW hp => ?_, fun W v hW hp => ?_⟩
            · obtain ⟨gp, op, capp, rfl, h1, h3, h4, h5, h6⟩ := hrow W v hp
              refine (attr_ok W (fun _ => True) tv tc tnd tnt g off oc qs qs.length rfl hN (Nat.lt_of_lt_of_le hg hW.size) (hc' W hW) (hA' W hW) gp op (i1 :: r).length capp n0 qn hln (by simp) h5 h6 h1 h3 (hcells W gp op h4) ob pv0 ho a hw (copied_any hnb (walk_len hw hob))).mono ?_
              rintro e w' ⟨pv', e1, e2, e3⟩
              exact ⟨pv', e1, attrsAt_mono (fun _ h => .inr h) e2, e3⟩
            · obtain ⟨gp, op, capp, rfl, h1, h3, h4, h5, h6⟩ := hrow W v hp
              refine (rattr_ok W (fun g => g < w.heap.size) tv tc tnd tnt g off oc qs qs.length rfl hN (Nat.lt_of_lt_of_le hg hW.size) (hc' W hW) (fun q hq => attrsAt_move hW.size (fun g _ hl => ⟨hW.block g hl, hl⟩) (hA q hq)) gp op (i1 :: r).length capp n0 qn hln (by simp) h5 h6 h1 h3 (hcells W gp op h4) ob pv0 ho a hw).mono ?_
              rintro e w' ⟨pv', e1, e2, e3⟩
              exact ⟨pv', e1, attrsAt_mono (fun _ h => .inl h) e2, e3⟩
          · refine ⟨at0, 2, fun W v hW hp => ?_, fun W v hW hp => ?_⟩
            · obtain ⟨gp, op, capp, rfl, h1, h3, h4, h5, h6⟩ := hrow W v hp
              exact (attr_no W (fun _ => True) tv tc tnd tnt g off oc qs qs.length rfl hN (Nat.lt_of_lt_of_le hg hW.size) (hc' W hW) (hA' W hW) gp op (i1 :: r).length capp n0 (i1 :: r) rfl (by simp) h5 h6 h1 h3 h4 ob pv0 ho hf).mono (fun e w' h => z W e w' h)
            · obtain ⟨gp, op, capp, rfl, h1, h3, h4, h5, h6⟩ := hrow W v hp
              exact (rattr_no W (fun _ => True) tv tc tnd tnt g off oc qs qs.length rfl hN (Nat.lt_of_lt_of_le hg hW.size) (hc' W hW) (hA' W hW) gp op (i1 :: r).length capp n0 (i1 :: r) rfl (by simp) h5 h6 h1 h3 h4 ob pv0 ho hf).mono (fun e w' h => z W e w' h)
      · refine ⟨at0, 2, fun W v hW hp => ?_, fun W v hW hp => ?_⟩
        · obtain ⟨gp, op, capp, rfl, h1, h3, h4, h5, h6⟩ := hrow W v hp
          exact (attr_range W tv tc tnd tnt oa on oc gp op (i1 :: r).length capp i0 (by simp) (by unfold maxLen at h6; omega) h1 h3 hr).mono (fun e w' h => z W e w' h)
        · obtain ⟨gp, op, capp, rfl, h1, h3, h4, h5, h6⟩ := hrow W v hp
          by_cases hneg : i0 < 0
          · exact (rattr_neg W tv tc tnd tnt oa on oc gp op (i1 :: r).length capp i0 (by simp) (by unfold maxLen at h6; omega) h1 h3 hneg).mono (fun e w' h => z W e w' h)
          · exact (rattr_big W tv tc tnd tnt oa on oc gp op (i1 :: r).length capp i0 (by simp) (by unfold maxLen at h6; omega) h1 h3 (by omega) (by omega)).mono (fun e w' h => z W e w' h)
end Go.Proofs.YtlbgppijeoonjaaGreatDoor

