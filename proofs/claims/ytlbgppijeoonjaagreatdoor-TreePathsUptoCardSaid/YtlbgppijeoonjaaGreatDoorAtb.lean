import Derived.Test.YtlbgppijeoonjaaGreatDoorAta
import Derived.Test.YtlbgppijeoonjaaGreatDoorRrf
namespace Go.Proofs.YtlbgppijeoonjaaGreatDoor
open Go.RowKit
set_option linter.unusedVariables false

theorem res_attr2 {fn : Func} {n m : Nat} (hf : fn.results = #[.cell n 34, .tmp m]) (tmps : Array Value) (b : Nat) (u : Value) (w : World) (v0 v1 v2 v3 v4 v5 v6 v7 v8 v9 v10 v11 : Value)
    (h2 : tmps[n]? = some (.pointer (some ⟨b, 0, none⟩))) (h3 : tmps[m]? = some u) (hk : w.heap[b]? = some (.cells #[v0, v1, v2, v3, v4, v5, v6, v7, v8, v9, v10, v11] 34 (0, 0))) :
    (results fn tmps).run Tryz.prog w = .ok (.tuple #[.agg #[v0, v1, v2, v3, v4, v5, v6, v7, v8, v9, v10, v11], u]) w := by
  have a1 := fun i => cell_of_row w b i _ _ (0, 0) hk
  have z0 := a1 0; have z1 := a1 1; have z2 := a1 2; have z3 := a1 3; have z4 := a1 4; have z5 := a1 5; have z6 := a1 6; have z7 := a1 7; have z8 := a1 8; have z9 := a1 9; have z10 := a1 10; have z11 := a1 11
  simp at z0 z1 z2 z3 z4 z5 z6 z7 z8 z9 z10 z11
  simp [results, hf, go_sem, h2, h3, z0, z1, z2, z3, z4, z5, z6, z7, z8, z9, z10, z11]
theorem walk_head {l : List At} {q : List Nat} {a : At} (h : WalkP l q a) {k i : Nat} {r : List Nat} (hq : q = i :: r) : ∃ b, l[i]? = some b ∧ (r = [] → b = a) ∧ (r ≠ [] → WalkP b.params r a) := by
  cases h with
  | one h1 => cases hq; exact ⟨_, h1, fun _ => rfl, fun e => absurd rfl e⟩
  | more h1 h2 => cases hq; exact ⟨_, h1, (fun e => by cases e), fun _ => h2⟩
def at0 : At := .mk [] 0 0 0 ⟨0, [], 0, false⟩ false [] false []
set_option maxHeartbeats 8000000 in
set_option maxRecDepth 100000 in
theorem attr_ok (w : World) (F : Nat → Prop) (tv tc : List UInt8) (tnd : Bool) (tnt : List UInt8) (g off cap : Nat) (qs : List (Ob × Value)) (N : Nat) (hl : qs.length = N) (hN : N ≤ maxLen) (hg : g < w.heap.size)
    (hc : ∀ j u, (rowsO qs)[j]? = some u → w.cell? ⟨g, off + j, none⟩ = some u) (hA : ∀ q, q ∈ qs → AttrsAt w F q.2 q.1.attrs)
    (gp op mq capp i0 : Nat) (q : List Nat) (hq : q.length = mq) (hq1 : 1 ≤ mq) (hmq : mq < capp) (hcp : capp ≤ maxLen) (hgp : gp < w.heap.size) (hp0 : w.cell? ⟨gp, op, none⟩ = some (.int .i64 (i0 : Int)))
    (hp : ∀ (k i : Nat), q[k]? = some i → w.cell? ⟨gp, op + 1 + k, none⟩ = some (.int .i64 (i : Int))) (ob : Ob) (pv0 : Value) (ho : qs[i0]? = some (ob, pv0)) (a : At) (hW : WalkP ob.attrs q a) (hcop : CopC F a.params) :
    Calls Tryz.prog 9 #[.agg #[.string ⟨tv.toArray⟩, .string ⟨tc.toArray⟩, .slice (some ⟨g, off, none⟩) N cap, .bool tnd, .string ⟨tnt.toArray⟩], .slice (some ⟨gp, op, none⟩) (mq + 1) capp] w
      fun e w' => ∃ pv', e = .returned (.tuple #[.agg (atC a pv'), .int .i64 0]) ∧ AttrsAt w' (fun g => w.heap.size ≤ g) pv' a.params ∧ Below w.heap.size w w' := by
  have hi0 : i0 < N := by rw [← hl]; exact (List.getElem?_eq_some_iff.1 ho).1
  have hA0 : AttrsAt w (fun g => F g ∧ g < w.heap.size) pv0 ob.attrs := attrsAt_move (Nat.le_refl _) (fun g hF hl => ⟨rfl, hF, hl⟩) (hA _ (List.mem_of_getElem? ho))
  have hx5 : w.cell? ⟨g, off + i0 * 8 + 5, none⟩ = some pv0 := by
    rw [Nat.add_assoc]
    exact hc _ _ ((rowsO_at qs i0 _ ho 5 (by omega)).trans rfl)
  obtain ⟨la0, ln0, lc0, rfl⟩ := attrsAt_shape hA0
  have hsl : ∀ W : World, (Instr.slice 25 (.slice (some ⟨gp, op, none⟩) (mq + 1) capp) (some (.int .i64 1)) none none).run Tryz.prog W = .ok (.slice (some ⟨gp, op + 1, none⟩) mq (capp - 1)) W := fun W => by
    have h2 : (1 : Int) ≤ (mq : Int) + 1 := by omega
    have h3 : ¬ capp = 1 := by omega
    simp [go_sem, h2, h3]
  have HQ : Hid (q.length = mq) := hq
  have HP : Hid (∀ (k i : Nat), q[k]? = some i → w.cell? ⟨gp, op + 1 + k, none⟩ = some (.int .i64 (i : Int))) := hp
  have HW : Hid (WalkP ob.attrs (q.drop 0) a) := hW
  have hmb : (mq : Int) ≤ 9223372036854775806 := by unfold maxLen at hcp; omega
  have hm1 : (1 : Int) ≤ (mq : Int) := by omega
  have hd2 : decide ((mq : Int) + 1 < 2) = false := by rw [decide_eq_false_iff_not]; omega
  have hi0' : (i0 : Int) < (N : Int) := by omega
  have hi00 : (0 : Int) ≤ (i0 : Int) := by omega
  have hm0 : (0 : Int) < (mq : Int) + 1 := by omega
  have cw := fun w => within_yes i0 N w hi0
  clear hc hA ho hW hp hq hl hN hcp
  go_enter Tryz.func9, Tryz.ntmps9
  go_wp2
  have hb1 := ((Below.refl w.heap.size w).alloc (Nat.le_refl _) (.cells #[.string ⟨tv.toArray⟩, .string ⟨tc.toArray⟩, .slice (some ⟨g, off, none⟩) N cap, .bool tnd, .string ⟨tnt.toArray⟩] 24)).alloc (by simp) (.cells #[.string ⟨#[]⟩, .int .i64 0, .int .i64 0, .int .i64 0, .int .i64 0, .string ⟨#[]⟩, .int .u32 0, .bool false, .bool false, .slice none 0 0, .bool false, .string ⟨#[]⟩] 34)
  have h1 := heap2_0' w (.cells #[.string ⟨tv.toArray⟩, .string ⟨tc.toArray⟩, .slice (some ⟨g, off, none⟩) N cap, .bool tnd, .string ⟨tnt.toArray⟩] 24) (.cells #[.string ⟨#[]⟩, .int .i64 0, .int .i64 0, .int .i64 0, .int .i64 0, .string ⟨#[]⟩, .int .u32 0, .bool false, .bool false, .slice none 0 0, .bool false, .string ⟨#[]⟩] 34)
  have h2 := heap2_1' w (.cells #[.string ⟨tv.toArray⟩, .string ⟨tc.toArray⟩, .slice (some ⟨g, off, none⟩) N cap, .bool tnd, .string ⟨tnt.toArray⟩] 24) (.cells #[.string ⟨#[]⟩, .int .i64 0, .int .i64 0, .int .i64 0, .int .i64 0, .string ⟨#[]⟩, .int .u32 0, .bool false, .bool false, .slice none 0 0, .bool false, .string ⟨#[]⟩] 34)
  generalize ((w.alloc (.cells #[.string ⟨tv.toArray⟩, .string ⟨tc.toArray⟩, .slice (some ⟨g, off, none⟩) N cap, .bool tnd, .string ⟨tnt.toArray⟩] 24)).alloc (.cells #[.string ⟨#[]⟩, .int .i64 0, .int .i64 0, .int .i64 0, .int .i64 0, .string ⟨#[]⟩, .int .u32 0, .bool false, .bool false, .slice none 0 0, .bool false, .string ⟨#[]⟩] 34)) = w1 at *
  obtain ⟨⟨_, _, t2, _, _⟩, _⟩ := var5 h1
  have p0 := (cell_below hb1 gp op hgp).trans hp0
  go_quiet (first | (go_at_call 26; refine Calls.quiet_of_same (cw _)))
  have hbq : Below w1.heap.size w1 (w1.drewN nq) := below_drewN (Below.refl _ _) nq
  have hb2 := hb1.trans (hbq.mono hb1.size)
  have h1b := (hbq.block _ (heap_lt h1)).trans h1
  have h2b := (hbq.block _ (heap_lt h2)).trans h2
  clear hb1 h1 h2 t2 p0 hbq cw
  generalize w1.drewN nq = w2 at *
  go_wp2
  have hb3 := hb2.alloc hb2.size (.cells #[.string ⟨#[]⟩, .int .i64 0, .int .i64 0, .int .i64 0, .int .i64 0, .string ⟨#[]⟩, .int .u32 0, .bool false, .bool false, .slice none 0 0, .bool false, .string ⟨#[]⟩] 34)
  have hal := (Below.refl w2.heap.size w2).alloc (Nat.le_refl _) (.cells #[.string ⟨#[]⟩, .int .i64 0, .int .i64 0, .int .i64 0, .int .i64 0, .string ⟨#[]⟩, .int .u32 0, .bool false, .bool false, .slice none 0 0, .bool false, .string ⟨#[]⟩] 34)
  have h1c := (hal.block _ (heap_lt h1b)).trans h1b
  have h2c := (hal.block _ (heap_lt h2b)).trans h2b
  have h3c : (w2.alloc (.cells #[.string ⟨#[]⟩, .int .i64 0, .int .i64 0, .int .i64 0, .int .i64 0, .string ⟨#[]⟩, .int .u32 0, .bool false, .bool false, .slice none 0 0, .bool false, .string ⟨#[]⟩] 34)).heap[w2.heap.size]? = some (.cells #[.string ⟨#[]⟩, .int .i64 0, .int .i64 0, .int .i64 0, .int .i64 0, .string ⟨#[]⟩, .int .u32 0, .bool false, .bool false, .slice none 0 0, .bool false, .string ⟨#[]⟩] 34 (0, 0)) := heap_alloc_new w2 _
  have hba : w.heap.size + 1 < w2.heap.size := heap_lt h2b
  clear hb2 h1b h2b hal
  generalize (w2.alloc (.cells #[.string ⟨#[]⟩, .int .i64 0, .int .i64 0, .int .i64 0, .int .i64 0, .string ⟨#[]⟩, .int .u32 0, .bool false, .bool false, .slice none 0 0, .bool false, .string ⟨#[]⟩] 34)) = w3 at *
  generalize w2.heap.size = ba at *
  obtain ⟨⟨_, _, t2, _, _⟩, _⟩ := var5 h1c
  have p0 := (cell_below hb3 gp op hgp).trans hp0
  have x5 := (cell_below hb3 g (off + i0 * 8 + 5) hg).trans hx5
  go_quiet (fail)
  have hbq : Below w3.heap.size w3 (w3.drewN nq) := below_drewN (Below.refl _ _) nq
  have hb4 := hb3.trans (hbq.mono hb3.size)
  have h2d := (hbq.block _ (heap_lt h2c)).trans h2c
  have h3d := (hbq.block _ (heap_lt h3c)).trans h3c
  clear hb3 h1c h2c h3c t2 p0 x5 hbq
  generalize w3.drewN nq = w4 at *
  go_wp2
  go_loopw [7, 9, 35] (fun s7 _ s35 wr => ∃ (k : Nat) (lv : Value) (l : List At) (b : At) (bv : Value), k ≤ mq ∧ s35 = .int .i64 (k : Int) ∧ s7 = lv ∧ AttrsAt wr (fun g => F g ∧ g < w.heap.size) lv l ∧ Hid (k < mq → WalkP l (q.drop k) a) ∧ Hid (k = mq → b = a ∧ bv = lv ∧ l = a.params) ∧ wr.heap[ba]? = some (.cells (atC b bv) 34 (0, 0)) ∧ (∃ x y z, bv = .slice x y z) ∧ wr.heap[w.heap.size + 1]? = some (.cells #[.string ⟨#[]⟩, .int .i64 0, .int .i64 0, .int .i64 0, .int .i64 0, .string ⟨#[]⟩, .int .u32 0, .bool false, .bool false, .slice none 0 0, .bool false, .string ⟨#[]⟩] 34 (0, 0)) ∧ Below w.heap.size w wr) (fun _ _ s35 _ => mq - (intOf s35).toNat)
  case atStart => exact ⟨0, _, ob.attrs, at0, .slice none 0 0, by omega, rfl, rfl, attrsAt_move hb4.size (fun g hF hl => ⟨hb4.block g hl, hF⟩) hA0, (fun _ => HW.out), (fun e => by omega), h3d, ⟨_, _, _, rfl⟩, h2d, hb4⟩
  case round =>
    obtain ⟨k, lv, l, b, bv, hk, rfl, rfl, hAl, HWk, HBk, hbb, hbs, hrb, hb⟩ := hrel
    clear HW h2d h3d hb4 hA0 hx5
    by_cases hlt : k < mq
    · have hlt' : (k : Int) < (mq : Int) := by omega
      have hk0 : (0 : Int) ≤ (k : Int) := by omega
      obtain ⟨i, hi⟩ : ∃ x, q[k]? = some x := ⟨q[k]'(by rw [HQ.out]; exact hlt), List.getElem?_eq_getElem _⟩
      have hdr : q.drop k = i :: q.drop (k + 1) := by
        have := List.drop_eq_getElem_cons (l := q) (i := k) (by rw [HQ.out]; exact hlt)
        rw [this]
        rw [List.getElem?_eq_getElem (by rw [HQ.out]; exact hlt)] at hi
        cases hi
        rfl
      obtain ⟨b2, hb2, hb3, hb4⟩ := walk_head (k := 0) (HWk.out hlt) hdr
      have hpk := (cell_below hb gp (op + 1 + k) hgp).trans (HP.out k i hi)
      cases hAl with
      | nil => cases hb2
      | @row g2 off2 cap2 ps hF2 hg2 hc2 hcap2 hA2 =>
        obtain ⟨p, hp⟩ : ∃ p, ps[i]? = some p := by
          rw [List.getElem?_map] at hb2
          cases e : ps[i]? with
          | none => rw [e] at hb2; cases hb2
          | some p => exact ⟨p, rfl⟩
        have hpb : p.1 = b2 := by rw [List.getElem?_map, hp] at hb2; exact Option.some.inj hb2
        have hil : i < ps.length := (List.getElem?_eq_some_iff.1 hp).1
        have hil' : (i : Int) < (ps.length : Int) := by omega
        have hi0'' : (0 : Int) ≤ (i : Int) := by omega
        have hAp := hA2 p (List.mem_of_getElem? hp)
        have hx : ∀ j u, j < 12 → (atC p.1 p.2)[j]? = some u → wr.cell? ⟨g2, off2 + i * 12 + j, none⟩ = some u := fun j u hj hu => by
          rw [Nat.add_assoc]
          exact hc2 _ _ ((rowsA_at ps i p hp j hj).trans hu)
        have cw := fun w => within_yes i ps.length w hil
        have hne2 : g2 ≠ ba := by omega
        obtain ⟨b2', pv2⟩ := p
        dsimp only at hpb hAp hx
        subst hpb
        obtain ⟨pa, pn, pc, rfl⟩ := attrsAt_shape hAp
        obtain ⟨name, o, l, c, ⟨vk, vt, vn, vh⟩, br, prm, nd, nt⟩ := b2'
        have x0 : wr.cell? ⟨g2, off2 + i * 12, none⟩ = some (.string ⟨name.toArray⟩) := hx 0 _ (by omega) rfl
        have x1 : wr.cell? ⟨g2, off2 + i * 12 + 1, none⟩ = some (.int .i64 o) := hx 1 _ (by omega) rfl
        have x2 : wr.cell? ⟨g2, off2 + i * 12 + 2, none⟩ = some (.int .i64 l) := hx 2 _ (by omega) rfl
        have x3 : wr.cell? ⟨g2, off2 + i * 12 + 3, none⟩ = some (.int .i64 c) := hx 3 _ (by omega) rfl
        have x4 : wr.cell? ⟨g2, off2 + i * 12 + 4, none⟩ = some (.int .i64 vk) := hx 4 _ (by omega) rfl
        have x5 : wr.cell? ⟨g2, off2 + i * 12 + 5, none⟩ = some (.string ⟨vt.toArray⟩) := hx 5 _ (by omega) rfl
        have x6 : wr.cell? ⟨g2, off2 + i * 12 + 6, none⟩ = some (.int .u32 (vn : Int)) := hx 6 _ (by omega) rfl
        have x7 : wr.cell? ⟨g2, off2 + i * 12 + 7, none⟩ = some (.bool vh) := hx 7 _ (by omega) rfl
        have x8 : wr.cell? ⟨g2, off2 + i * 12 + 8, none⟩ = some (.bool br) := hx 8 _ (by omega) rfl
        have x9 : wr.cell? ⟨g2, off2 + i * 12 + 9, none⟩ = some (.slice pa pn pc) := hx 9 _ (by omega) rfl
        have x10 : wr.cell? ⟨g2, off2 + i * 12 + 10, none⟩ = some (.bool nd) := hx 10 _ (by omega) rfl
        have x11 : wr.cell? ⟨g2, off2 + i * 12 + 11, none⟩ = some (.string ⟨nt.toArray⟩) := hx 11 _ (by omega) rfl
        obtain ⟨bn, bo, bl, bc, ⟨bvk, bvt, bvn, bvh⟩, bbr, bprm, bnd, bnt⟩ := b
        obtain ⟨zx, zy, zz, rfl⟩ := hbs
        unfold atC at hbb
        obtain ⟨⟨y0, y1, y2, y3, y4, y5, y6, y7, y8, y9, y10, y11⟩, fy⟩ := var12 hbb
        have hbb2 := set12_at wr ba _ _ _ _ _ _ _ _ _ _ _ _ _ (.string ⟨name.toArray⟩) (.int .i64 o) (.int .i64 l) (.int .i64 c) (.int .i64 vk) (.string ⟨vt.toArray⟩) (.int .u32 (vn : Int)) (.bool vh) (.bool br) (.slice pa pn pc) (.bool nd) (.string ⟨nt.toArray⟩) hbb
        have hgs := set12_grown wr ba (.string ⟨name.toArray⟩) (.int .i64 o) (.int .i64 l) (.int .i64 c) (.int .i64 vk) (.string ⟨vt.toArray⟩) (.int .u32 (vn : Int)) (.bool vh) (.bool br) (.slice pa pn pc) (.bool nd) (.string ⟨nt.toArray⟩)
        have HW2 : Hid (k + 1 < mq → WalkP prm (q.drop (k + 1)) a) := fun hkk => hb4 (fun e => by
          have := congrArg List.length e
          rw [List.length_drop, HQ.out] at this
          simp at this
          omega)
        have HB2 : Hid (k + 1 = mq → (.mk name o l c ⟨vk, vt, vn, vh⟩ br prm nd nt : At) = a ∧ (Value.slice pa pn pc) = (Value.slice pa pn pc) ∧ prm = a.params) := fun hkk => by
          have e : q.drop (k + 1) = [] := List.drop_eq_nil_of_le (by rw [HQ.out]; omega)
          have := hb3 e
          exact ⟨this, rfl, by rw [← this]; rfl⟩
        have hA3 := attrsAt_grown hgs (fun hF => by omega) hAp
        have hrb3 := (hgs.block _ (heap_lt hrb) (fun e => by cases e; omega)).trans hrb
        have hbz := hb.trans (below_of_grown hgs (by omega) hb.size)
        generalize hw5 : ((((((((((((wr.setCell ⟨ba, 0, none⟩ (.string ⟨name.toArray⟩)).setCell ⟨ba, 1, none⟩ (.int .i64 o)).setCell ⟨ba, 2, none⟩ (.int .i64 l)).setCell ⟨ba, 3, none⟩ (.int .i64 c)).setCell ⟨ba, 4, none⟩ (.int .i64 vk)).setCell ⟨ba, 5, none⟩ (.string ⟨vt.toArray⟩)).setCell ⟨ba, 6, none⟩ (.int .u32 (vn : Int))).setCell ⟨ba, 7, none⟩ (.bool vh)).setCell ⟨ba, 8, none⟩ (.bool br)).setCell ⟨ba, 9, none⟩ (.slice pa pn pc)).setCell ⟨ba, 10, none⟩ (.bool nd)).setCell ⟨ba, 11, none⟩ (.string ⟨nt.toArray⟩)) = w5 at hbb2 hgs hA3 hrb3 hbz
        have x9w : w5.cell? ⟨g2, off2 + i * 12 + 9, none⟩ = some (.slice pa pn pc) := by rw [World.cell?_of_block (hgs.block g2 hg2 (fun e => hne2 (Option.some.inj e)))]; exact x9
        clear hx hc2 hA2 hp hb2 hb3 hb4 HWk HBk hAp hdr hi hgs hb hbb hrb hF2 hg2 hcap2
        go_wp2_with (go_at_call 26; refine (cw _).mono ?_; rintro e w' ⟨rfl, rfl⟩)
        go_region
        all_goals
          have hA4 := attrsAt_below (Below.refl w5.heap.size w5).drew hA3
          have hbb4 : w5.drew.heap[ba]? = _ := hbb2
          have hrb4 : w5.drew.heap[w.heap.size + 1]? = _ := hrb3
          have hbz4 : Below w.heap.size w w5.drew := hbz.drew
          clear hA3 hbb2 hrb3 hbz hw5
          generalize w5.drew = w6 at *
          clear cw x9w x0 x1 x2 x3 x4 x5 x6 x7 x8 x9 x10 x11 y0 y1 y2 y3 y4 y5 y6 y7 y8 y9 y10 y11 fy hpk
          go_wp2
          go_roundw
          case rel => exact ⟨k + 1, _, prm, .mk name o l c ⟨vk, vt, vn, vh⟩ br prm nd nt, .slice pa pn pc, by omega, by go_num, rfl, hA4, HW2, (fun e => ⟨(HB2.out e).1, rfl, (HB2.out e).2.2⟩), hbb4, ⟨_, _, _, rfl⟩, hrb4, hbz4⟩
          case measure => simp [intOf]; omega
    · obtain rfl : k = mq := by omega
      have hlt' : ¬ (k : Int) < (k : Int) := by omega
      obtain ⟨rfl, rfl, rfl⟩ := HBk.out rfl
      obtain ⟨zx, zy, zz, rfl⟩ := hbs
      have cc := hcop wr (.slice zx zy zz) (attrsAt_mono (fun g hF => hF.1) hAl)
      obtain ⟨bn, bo, bl, bc, ⟨bvk, bvt, bvn, bvh⟩, bbr, bprm, bnd, bnt⟩ := b
      unfold atC at hbb
      obtain ⟨⟨_, _, _, _, _, _, _, _, _, y9, _, _⟩, _⟩ := var12 hbb
      clear HWk HBk hAl
      go_wp2_with fail
      clear y9
      refine cc.mono ?_
      rintro e w5 ⟨pv', rfl, hA5, hb5⟩
      obtain ⟨sx, sy, sz, rfl⟩ := attrsAt_shape hA5
      have hbb5 := (hb5.block _ (heap_lt hbb)).trans hbb
      have hrb5 := (hb5.block _ (heap_lt hrb)).trans hrb
      have hbw5 := hb.trans (hb5.mono hb.size)
      have hbal := heap_lt hbb
      have hbb6 := set12_9 w5 ba _ _ _ _ _ _ _ _ _ _ _ _ _ (.slice sx sy sz) hbb5
      have hgs := grown_set w5 ba 9 (.slice sx sy sz)
      have hrb6 := (hgs.block _ (heap_lt hrb5) (fun e => by cases e; omega)).trans hrb5
      have hA6 := attrsAt_grown hgs (fun hF => by omega) hA5
      have hbw6 := hbw5.trans (below_of_grown hgs (by omega) hbw5.size)
      obtain ⟨⟨_, _, _, _, _, _, _, _, _, y9, _, _⟩, fy⟩ := var12 hbb5
      generalize hw6 : w5.setCell ⟨ba, 9, none⟩ (.slice sx sy sz) = w6 at hbb6 hgs hrb6 hA6 hbw6
      obtain ⟨⟨z0, z1, z2, z3, z4, z5, z6, z7, z8, z9, z10, z11⟩, _⟩ := var12 hbb6
      obtain ⟨⟨u0, u1, u2, u3, u4, u5, u6, u7, u8, u9, u10, u11⟩, fu⟩ := var12 hrb6
      have hrb7 := set12_at w6 (w.heap.size + 1) _ _ _ _ _ _ _ _ _ _ _ _ _ (.string ⟨bn.toArray⟩) (.int .i64 bo) (.int .i64 bl) (.int .i64 bc) (.int .i64 bvk) (.string ⟨bvt.toArray⟩) (.int .u32 (bvn : Int)) (.bool bvh) (.bool bbr) (.slice sx sy sz) (.bool bnd) (.string ⟨bnt.toArray⟩) hrb6
      have hg7 := set12_grown w6 (w.heap.size + 1) (.string ⟨bn.toArray⟩) (.int .i64 bo) (.int .i64 bl) (.int .i64 bc) (.int .i64 bvk) (.string ⟨bvt.toArray⟩) (.int .u32 (bvn : Int)) (.bool bvh) (.bool bbr) (.slice sx sy sz) (.bool bnd) (.string ⟨bnt.toArray⟩)
      have hA7 := attrsAt_grown hg7 (fun hF => by have := hb.size; omega) hA6
      have hbw7 := hbw6.trans (below_of_grown hg7 (by omega) hbw6.size)
      have hA8 := attrsAt_mono (G := fun g => w.heap.size ≤ g) (fun g hF => Nat.le_trans hb.size hF) hA7
      clear cc hA5 hb5 hbb5 hrb5 hbw5 hbb6 hgs hrb6 hA6 hbw6 hbb hrb hA7 hg7
      go_wp2
      exact bodyPost_ret (res_attr2 Tryz.results9 _ (w.heap.size + 1) _ _ _ _ _ _ _ _ _ _ _ _ _ _ rfl rfl hrb7) rfl ⟨_, rfl, hA8, hbw7⟩
end Go.Proofs.YtlbgppijeoonjaaGreatDoor
