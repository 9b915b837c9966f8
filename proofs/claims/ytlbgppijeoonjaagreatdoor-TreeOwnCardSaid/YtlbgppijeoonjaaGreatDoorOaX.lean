import Derived.Test.YtlbgppijeoonjaaGreatDoorAtd
import Derived.Test.YtlbgppijeoonjaaGreatDoorOtX
import Derived.Laws.OwnMore
namespace Go.Proofs.YtlbgppijeoonjaaGreatDoor.Own
open Go.RowKit
set_option linter.unusedVariables false

/-- What is asked of a copy: it may be written. -/
def CopC (F : Nat → Prop) (l : List At) : Prop := ∀ (W : World) (lv : Value), Go.Proofs.YtlbgppijeoonjaaGreatDoor.AttrsAt W F lv l → Calls Tryz.prog 27 #[lv] W fun e w' => ∃ pv', e = .returned pv' ∧ AttrsAt w' (fun g => W.heap.size ≤ g) pv' l ∧ Below W.heap.size W w'
set_option maxHeartbeats 2000000 in
set_option maxRecDepth 100000 in
theorem clone_zero (w : World) (a : Option Addr) (cap : Nat) :
    Calls Tryz.prog 59 #[.slice a 0 cap] w fun e w' => ∃ a' cap', e = .returned (.slice a' 0 cap') ∧ AttrsAt w' (fun g => w.heap.size ≤ g) (.slice a' 0 cap') [] ∧ Below w.heap.size w w' := by
  have hq : ∀ (w : World) (a : Option Addr) (n c n' c' : Nat), (binOp .eql 32 (.slice a n c) (.slice none n' c')).run Tryz.prog w = .ok (.bool a.isNone) w := fun w a n c n' c' => Lib.run_eql_slice_nil w _ _ a n c n' c' Tryz.underlying32
  cases a with
  | none =>
    go_enter Tryz.func59, Tryz.ntmps59
    go_wp2
    go_ret
    exact ⟨_, _, rfl, .nil, Below.refl _ _⟩
  | some ad =>
    obtain ⟨i0, hi0, hz0, hz1, hz2⟩ := info_parts Tryz.info34
    have hown := World.ownsRow_lit (base := w.heap.size) (e := 34) (size := 12) w #[] 0 (Nat.le_refl _) (Nat.zero_le _) rfl
    go_enter Tryz.func59, Tryz.ntmps59
    go_wp2_with (at_builtin; refine wpList_append_own_at _ rfl (.tmp 5) (.tmp 6) 32 rfl w.heap.size 34 i0 (.agg zero12) 12 128 Tryz.underlying32 hi0 hz0 hz1 hz2 rfl (by decide) _ 0 _ rfl hown ad 0 cap [] rfl rfl (fun j u hj => by cases hj) (fun u hu => by cases hu) (by decide) (by decide) (by simp) ?_)
    intro v6 w6 ho6 hg6 _ hat6
    obtain ⟨av6, cv6, rfl⟩ := own_shape12 ho6
    have hA6 : AttrsAt w6 (fun g => w.heap.size ≤ g) (.slice av6 0 cv6) [] := attrsAt_own (ps := []) ho6 (fun g hg => hg) (fun p hp => by cases hp)
    have hb6 : Below w.heap.size w w6 := ((Below.refl w.heap.size w).alloc (Nat.le_refl _) _).grown hg6 (by simp) (fun k e => by simp [Value.ownBlock] at e; omega)
    clear ho6 hg6 hat6 hown
    go_wp2
    go_ret
    exact ⟨_, _, rfl, hA6, hb6⟩
set_option maxHeartbeats 2000000 in
set_option maxRecDepth 100000 in
theorem copied_zero (w : World) (a : Option Addr) (cap : Nat) :
    Calls Tryz.prog 27 #[.slice a 0 cap] w fun e w' => ∃ a' cap', e = .returned (.slice a' 0 cap') ∧ AttrsAt w' (fun g => w.heap.size ≤ g) (.slice a' 0 cap') [] ∧ Below w.heap.size w w' := by
  have cc := clone_zero w a cap
  go_enter Tryz.func27, Tryz.ntmps27
  go_wp2_with fail
  refine cc.mono ?_
  rintro e w1 ⟨a', cap', rfl, hA1, hb1⟩
  clear cc
  go_wp2
  go_loopg [3, 8] 0 (fun gg _ s8 wr => s8 = .int .i64 0 ∧ Hid (AttrsAt wr (fun g => w.heap.size ≤ g) (.slice a' 0 cap') [] ∧ Below w.heap.size w wr))
  case atStart => exact ⟨rfl, hA1, hb1⟩
  case round =>
    obtain ⟨rfl, BW⟩ := hrel
    go_wp2
    go_ret
    exact ⟨_, _, rfl, BW.out.1, BW.out.2⟩
theorem copied_nil (F : Nat → Prop) : CopC F [] := by
  intro W lv h
  have hv : ∃ a cap, lv = .slice a 0 cap := by
    generalize hl : ([] : List At) = l at h
    cases h with
    | nil => exact ⟨_, _, rfl⟩
    | @row g off cap ps b c d e f =>
      have : ps = [] := by simpa using hl.symm
      subst this
      exact ⟨_, _, rfl⟩
  obtain ⟨a, cap, rfl⟩ := hv
  refine (copied_zero W a cap).mono ?_
  rintro e w' ⟨a', cap', rfl, hA, hb⟩
  exact ⟨_, rfl, hA, hb⟩
set_option maxHeartbeats 4000000 in
set_option maxRecDepth 100000 in
theorem copied_row (W : World) (F : Nat → Prop) (g off N cap : Nat) (ps : List (At × Value)) (hl : ps.length = N) (hN0 : 0 < N) (hN : N ≤ 1099511627776) (hg : g < W.heap.size) (hc : ∀ j u, (rowsA ps)[j]? = some u → W.cell? ⟨g, off + j, none⟩ = some u)
    (hA : ∀ p, p ∈ ps → Go.Proofs.YtlbgppijeoonjaaGreatDoor.AttrsAt W F p.2 p.1.params) (hcop : ∀ p, p ∈ ps → CopC F p.1.params) :
    Calls Tryz.prog 27 #[.slice (some ⟨g, off, none⟩) N cap] W fun e w' => ∃ pv', e = .returned pv' ∧ AttrsAt w' (fun g => W.heap.size ≤ g) pv' (ps.map Prod.fst) ∧ Below W.heap.size W w' := by
  have cc := clone_row W g off N cap ps hl hN hg hc (fun p hp => Go.Proofs.YtlbgppijeoonjaaGreatDoor.attrsAt_shape (hA p hp))
  have HL : Hid (ps.length = N) := hl
  have hN2 : (N : Int) ≤ 1099511627776 := by omega
  clear hc hl
  go_enter Tryz.func27, Tryz.ntmps27
  go_wp2_with fail
  refine cc.mono ?_
  rintro e w1 ⟨v', rfl, hO1, hb1⟩
  obtain ⟨g', cap', rfl⟩ : ∃ g' cap', v' = .slice (some ⟨g', 0, none⟩) N cap' := by
    obtain ⟨_, ⟨_, h0⟩ | ⟨g', cap', cur, rfl, _⟩⟩ := hO1
    · omega
    · exact ⟨g', cap', rfl⟩
  have hg' : W.heap.size ≤ g' := (hO1.lt g' rfl).1
  clear cc
  go_wp2
  go_loopw [3, 8] (fun _ s8 wr => ∃ (i : Nat) (ps1 : List (At × Value)), i ≤ N ∧ s8 = .int .i64 (i : Int) ∧ Hid (ps1.length = i) ∧ Hid (ps1.map Prod.fst = (ps.take i).map Prod.fst) ∧ wr.ownsRow W.heap.size 34 12 (.slice (some ⟨g', 0, none⟩) N cap') N (rowsA (ps1 ++ ps.drop i)) ∧ (∀ p, p ∈ ps1 → AttrsAt wr (fun g => W.heap.size ≤ g ∧ g ≠ g') p.2 p.1.params) ∧ Below W.heap.size W wr) (fun _ s8 _ => N - (intOf s8).toNat)
  case atStart => exact ⟨0, [], by omega, rfl, rfl, rfl, hO1, (fun p hp => by cases hp), hb1⟩
  case round =>
    obtain ⟨i, ps1, hi, rfl, H1, H2, hO, hA1, hb⟩ := hrel
    clear hO1 hb1
    by_cases hlt : i < N
    · have hlt' : (i : Int) < (N : Int) := by omega
      have hi0 : (0 : Int) ≤ (i : Int) := by omega
      have hil : i < ps.length := by rw [HL.out]; exact hlt
      have hdr : ps.drop i = ps[i] :: ps.drop (i + 1) := List.drop_eq_getElem_cons hil
      have hmem : ps[i] ∈ ps := List.getElem_mem hil
      have hAp := hA _ hmem
      have hCp := hcop _ hmem
      have htk : ps.take (i + 1) = ps.take i ++ [ps[i]] := by rw [List.take_succ_eq_append_getElem hil]
      generalize ps[i] = p at *
      have hp : (ps1 ++ ps.drop i)[i]? = some p := by rw [hdr, List.getElem?_append_right (by rw [H1.out]; exact Nat.le_refl _), H1.out, Nat.sub_self]; rfl
      have hx9 : wr.cell? ⟨g', i * 12 + 9, none⟩ = some p.2 := by
        rw [hO.cellAt (i * 12 + 9) (by omega), rowsA_at _ i p hp 9 (by omega)]
        obtain ⟨a, b⟩ := p
        cases a
        rfl
      have hfz := hO.frozenAt
      have cr := hCp wr p.2 (Go.Proofs.YtlbgppijeoonjaaGreatDoor.attrsAt_below hb hAp)
      obtain ⟨pa, pn, pc, e9⟩ := Go.Proofs.YtlbgppijeoonjaaGreatDoor.attrsAt_shape hAp
      rw [e9] at hx9 cr
      have hg's : g' < wr.heap.size := (hO.lt g' rfl).2
      clear hAp hCp hmem
      go_wp2_with fail
      refine cr.mono ?_
      rintro e w2 ⟨pv', rfl, hA2, hb2⟩
      obtain ⟨qa, qn, qc, rfl⟩ := attrsAt_shape hA2
      have hO2 := own_below hO hb2
      have hfz2 := hO2.frozenAt
      have hx92 := (cell_below hb2 g' (i * 12 + 9) hg's).trans hx9
      obtain ⟨hO3, hg3⟩ := hO2.stored (i * 12 + 9) (.slice qa qn qc)
      have hO4 : (w2.setCell ⟨g', i * 12 + 9, none⟩ (.slice qa qn qc)).ownsRow W.heap.size 34 12 (.slice (some ⟨g', 0, none⟩) N cap') N (rowsA ((ps1 ++ [(p.1, .slice qa qn qc)]) ++ ps.drop (i + 1))) := by
        rw [hdr, rowsA_set ps1 (ps.drop (i + 1)) p (.slice qa qn qc) i H1.out] at hO3
        exact hO3
      have hA3 : ∀ x, x ∈ ps1 ++ [(p.1, Value.slice qa qn qc)] → AttrsAt (w2.setCell ⟨g', i * 12 + 9, none⟩ (.slice qa qn qc)) (fun g => W.heap.size ≤ g ∧ g ≠ g') x.2 x.1.params := fun x hx => by
        rcases List.mem_append.1 hx with hx | hx
        · exact attrsAt_grown hg3 (fun hF => hF.2 rfl) (attrsAt_below hb2 (hA1 x hx))
        · have hxe : x = _ := List.mem_singleton.1 hx
          subst hxe
          have hbs := hb.size
          exact attrsAt_move hg3.size (fun g hF hl => ⟨hg3.block g hl (fun e => by cases e; omega), by omega, by omega⟩) hA2
      have hb4 : Below W.heap.size W (w2.setCell ⟨g', i * 12 + 9, none⟩ (.slice qa qn qc)) := (hb.trans (hb2.mono hb.size)).trans (below_of_grown hg3 hg' (Nat.le_trans hb.size hb2.size))
      have H3 : Hid ((ps1 ++ [(p.1, Value.slice qa qn qc)]).length = i + 1) := by show _ = _; rw [List.length_append, H1.out]; rfl
      have H4 : Hid ((ps1 ++ [(p.1, Value.slice qa qn qc)]).map Prod.fst = (ps.take (i + 1)).map Prod.fst) := by show _ = _; rw [List.map_append, H2.out, htk, List.map_append]; rfl
      clear hO hO2 hO3 hA1 hA2 hb hb2 hg3 cr hfz hp hdr htk hx9
      generalize hw3 : w2.setCell ⟨g', i * 12 + 9, none⟩ (.slice qa qn qc) = w3 at hO4 hA3 hb4
      go_wp2
      go_roundw
      case rel => exact ⟨i + 1, ps1 ++ [(p.1, Value.slice qa qn qc)], by omega, by go_num, H3, H4, hO4, hA3, hb4⟩
      case measure => simp [intOf]; omega
    · obtain rfl : i = N := by omega
      have hlt' : ¬ (i : Int) < (i : Int) := by omega
      have e1 : ps.drop i = [] := List.drop_eq_nil_of_le (by rw [HL.out]; exact Nat.le_refl _)
      have e2 : ps.take i = ps := List.take_of_length_le (by rw [HL.out]; exact Nat.le_refl _)
      rw [e1, List.append_nil] at hO
      have hO5 : wr.ownsRow W.heap.size 34 12 (.slice (some ⟨g', 0, none⟩) i cap') ps1.length (rowsA ps1) := by rw [H1.out]; exact hO
      have hR := attrsAt_own hO5 (fun g hg => hg) (fun p hp => attrsAt_mono (fun g hF => hF.1) (hA1 p hp))
      rw [H2.out, e2] at hR
      clear hO hO5 hA1 H1 H2 e1 e2
      go_wp2
      go_ret
      exact ⟨_, rfl, hR, hb⟩
theorem copied_el {F : Nat → Prop} {l : List At} (hl : l.length ≤ 1099511627776) (h : ∀ a, a ∈ l → CopC F a.params) : CopC F l := by
  intro W lv hA
  by_cases h0 : l = []
  · subst h0
    exact copied_nil F W lv hA
  · cases hA with
    | nil => exact absurd rfl h0
    | @row g off cap ps hF hg hc hcap hA =>
      refine copied_row W F g off ps.length cap ps rfl ?_ (by simpa using hl) hg hc hA (fun p hp => h p.1 (List.mem_map.2 ⟨p, hp, rfl⟩))
      cases ps with
      | nil => exact absurd rfl h0
      | cons p ps => simp
/-- copied, of attributes that lie in memory. -/
theorem copied_any {F : Nat → Prop} {n : Nat} (hn : n ≤ 1099511627776) {l : List At} (h : LenB n l) : CopC F l := by
  induction h with
  | mk h1 h2 ih => exact copied_el (Nat.le_trans h1 hn) ih
end Go.Proofs.YtlbgppijeoonjaaGreatDoor.Own

namespace Go.Proofs.YtlbgppijeoonjaaGreatDoor.Own
open Go.RowKit
set_option linter.unusedVariables false

set_option maxHeartbeats 8000000 in
set_option maxRecDepth 100000 in
theorem attr_ok (w : World) (F : Nat → Prop) (tv tc : List UInt8) (tnd : Bool) (tnt : List UInt8) (g off cap : Nat) (qs : List (Ob × Value)) (N : Nat) (hl : qs.length = N) (hN : N ≤ maxLen) (hg : g < w.heap.size)
    (hc : ∀ j u, (rowsO qs)[j]? = some u → w.cell? ⟨g, off + j, none⟩ = some u) (hA : ∀ q, q ∈ qs → Go.Proofs.YtlbgppijeoonjaaGreatDoor.AttrsAt w F q.2 q.1.attrs)
    (gp op mq capp i0 : Nat) (q : List Nat) (hq : q.length = mq) (hq1 : 1 ≤ mq) (hmq : mq < capp) (hcp : capp ≤ maxLen) (hgp : gp < w.heap.size) (hp0 : w.cell? ⟨gp, op, none⟩ = some (.int .i64 (i0 : Int)))
    (hp : ∀ (k i : Nat), q[k]? = some i → w.cell? ⟨gp, op + 1 + k, none⟩ = some (.int .i64 (i : Int))) (ob : Ob) (pv0 : Value) (ho : qs[i0]? = some (ob, pv0)) (a : At) (hW : WalkP ob.attrs q a) (hcop : CopC F a.params) :
    Calls Tryz.prog 9 #[.agg #[.string ⟨tv.toArray⟩, .string ⟨tc.toArray⟩, .slice (some ⟨g, off, none⟩) N cap, .bool tnd, .string ⟨tnt.toArray⟩], .slice (some ⟨gp, op, none⟩) (mq + 1) capp] w
      fun e w' => ∃ pv', e = .returned (.tuple #[.agg (atC a pv'), .int .i64 0]) ∧ AttrsAt w' (fun g => w.heap.size ≤ g) pv' a.params ∧ Below w.heap.size w w' := by
  have hi0 : i0 < N := by rw [← hl]; exact (List.getElem?_eq_some_iff.1 ho).1
  have hA0 : Go.Proofs.YtlbgppijeoonjaaGreatDoor.AttrsAt w (fun g => F g ∧ g < w.heap.size) pv0 ob.attrs := Go.Proofs.YtlbgppijeoonjaaGreatDoor.attrsAt_move (Nat.le_refl _) (fun g hF hl => ⟨rfl, hF, hl⟩) (hA _ (List.mem_of_getElem? ho))
  have hx5 : w.cell? ⟨g, off + i0 * 8 + 5, none⟩ = some pv0 := by
    rw [Nat.add_assoc]
    exact hc _ _ ((rowsO_at qs i0 _ ho 5 (by omega)).trans rfl)
  obtain ⟨la0, ln0, lc0, rfl⟩ := Go.Proofs.YtlbgppijeoonjaaGreatDoor.attrsAt_shape hA0
  have hsl : ∀ W : World, (Instr.slice 25 (.slice (some ⟨gp, op, none⟩) (mq + 1) capp) (some (.int .i64 1)) none none).run Tryz.prog W = .ok (.slice (some ⟨gp, op + 1, none⟩) mq (capp - 1)) W := fun W => by
    have h2 : (1 : Int) ≤ (mq : Int) + 1 := by omega
    have h3 : ¬ capp = 1 := by omega
    simp [go_sem, h2, h3]
  have HQ : Hid (q.length = mq) := hq
  have HP : Hid (∀ (k i : Nat), q[k]? = some i → w.cell? ⟨gp, op + 1 + k, none⟩ = some (.int .i64 (i : Int))) := hp
  have HW : Hid (WalkP ob.attrs (q.drop 0) a) := hW
  have hmb : (mq : Int) ≤ 9223372036854775806 := by unfold maxLen at hcp; omega
  have hm1 : (1 : Int) ≤ (mq : Int) := by omega
  have hd2 : decide ((mq : Int) + 1 < 2) = false := by rw [decide_eq_false_iff_not]; omega
  have hi0' : (i0 : Int) < (N : Int) := by omega
  have hi00 : (0 : Int) ≤ (i0 : Int) := by omega
  have hm0 : (0 : Int) < (mq : Int) + 1 := by omega
  have cw := fun w => within_yes i0 N w hi0
  clear hc hA ho hW hp hq hl hN hcp
  go_enter Tryz.func9, Tryz.ntmps9
  go_wp2
  have hb1 := ((Below.refl w.heap.size w).alloc (Nat.le_refl _) (.cells #[.string ⟨tv.toArray⟩, .string ⟨tc.toArray⟩, .slice (some ⟨g, off, none⟩) N cap, .bool tnd, .string ⟨tnt.toArray⟩] 24)).alloc (by simp) (.cells #[.string ⟨#[]⟩, .int .i64 0, .int .i64 0, .int .i64 0, .int .i64 0, .string ⟨#[]⟩, .int .u32 0, .bool false, .bool false, .slice none 0 0, .bool false, .string ⟨#[]⟩] 34)
  have h1 := heap2_0' w (.cells #[.string ⟨tv.toArray⟩, .string ⟨tc.toArray⟩, .slice (some ⟨g, off, none⟩) N cap, .bool tnd, .string ⟨tnt.toArray⟩] 24) (.cells #[.string ⟨#[]⟩, .int .i64 0, .int .i64 0, .int .i64 0, .int .i64 0, .string ⟨#[]⟩, .int .u32 0, .bool false, .bool false, .slice none 0 0, .bool false, .string ⟨#[]⟩] 34)
  have h2 := heap2_1' w (.cells #[.string ⟨tv.toArray⟩, .string ⟨tc.toArray⟩, .slice (some ⟨g, off, none⟩) N cap, .bool tnd, .string ⟨tnt.toArray⟩] 24) (.cells #[.string ⟨#[]⟩, .int .i64 0, .int .i64 0, .int .i64 0, .int .i64 0, .string ⟨#[]⟩, .int .u32 0, .bool false, .bool false, .slice none 0 0, .bool false, .string ⟨#[]⟩] 34)
  generalize ((w.alloc (.cells #[.string ⟨tv.toArray⟩, .string ⟨tc.toArray⟩, .slice (some ⟨g, off, none⟩) N cap, .bool tnd, .string ⟨tnt.toArray⟩] 24)).alloc (.cells #[.string ⟨#[]⟩, .int .i64 0, .int .i64 0, .int .i64 0, .int .i64 0, .string ⟨#[]⟩, .int .u32 0, .bool false, .bool false, .slice none 0 0, .bool false, .string ⟨#[]⟩] 34)) = w1 at *
  obtain ⟨⟨_, _, t2, _, _⟩, _⟩ := var5 h1
  have p0 := (cell_below hb1 gp op hgp).trans hp0
  go_quiet (first | (go_at_call 26; refine Calls.quiet_of_same (cw _)))
  have hbq : Below w1.heap.size w1 (w1.drewN nq) := below_drewN (Below.refl _ _) nq
  have hb2 := hb1.trans (hbq.mono hb1.size)
  have h1b := (hbq.block _ (heap_lt h1)).trans h1
  have h2b := (hbq.block _ (heap_lt h2)).trans h2
  clear hb1 h1 h2 t2 p0 hbq cw
  generalize w1.drewN nq = w2 at *
  go_wp2
  have hb3 := hb2.alloc hb2.size (.cells #[.string ⟨#[]⟩, .int .i64 0, .int .i64 0, .int .i64 0, .int .i64 0, .string ⟨#[]⟩, .int .u32 0, .bool false, .bool false, .slice none 0 0, .bool false, .string ⟨#[]⟩] 34)
  have hal := (Below.refl w2.heap.size w2).alloc (Nat.le_refl _) (.cells #[.string ⟨#[]⟩, .int .i64 0, .int .i64 0, .int .i64 0, .int .i64 0, .string ⟨#[]⟩, .int .u32 0, .bool false, .bool false, .slice none 0 0, .bool false, .string ⟨#[]⟩] 34)
  have h1c := (hal.block _ (heap_lt h1b)).trans h1b
  have h2c := (hal.block _ (heap_lt h2b)).trans h2b
  have h3c : (w2.alloc (.cells #[.string ⟨#[]⟩, .int .i64 0, .int .i64 0, .int .i64 0, .int .i64 0, .string ⟨#[]⟩, .int .u32 0, .bool false, .bool false, .slice none 0 0, .bool false, .string ⟨#[]⟩] 34)).heap[w2.heap.size]? = some (.cells #[.string ⟨#[]⟩, .int .i64 0, .int .i64 0, .int .i64 0, .int .i64 0, .string ⟨#[]⟩, .int .u32 0, .bool false, .bool false, .slice none 0 0, .bool false, .string ⟨#[]⟩] 34 (0, 0)) := heap_alloc_new w2 _
  have hba : w.heap.size + 1 < w2.heap.size := heap_lt h2b
  clear hb2 h1b h2b hal
  generalize (w2.alloc (.cells #[.string ⟨#[]⟩, .int .i64 0, .int .i64 0, .int .i64 0, .int .i64 0, .string ⟨#[]⟩, .int .u32 0, .bool false, .bool false, .slice none 0 0, .bool false, .string ⟨#[]⟩] 34)) = w3 at *
  generalize w2.heap.size = ba at *
  obtain ⟨⟨_, _, t2, _, _⟩, _⟩ := var5 h1c
  have p0 := (cell_below hb3 gp op hgp).trans hp0
  have x5 := (cell_below hb3 g (off + i0 * 8 + 5) hg).trans hx5
  go_quiet (fail)
  have hbq : Below w3.heap.size w3 (w3.drewN nq) := below_drewN (Below.refl _ _) nq
  have hb4 := hb3.trans (hbq.mono hb3.size)
  have h2d := (hbq.block _ (heap_lt h2c)).trans h2c
  have h3d := (hbq.block _ (heap_lt h3c)).trans h3c
  clear hb3 h1c h2c h3c t2 p0 x5 hbq
  generalize w3.drewN nq = w4 at *
  go_wp2
  go_loopw [7, 9, 35] (fun s7 _ s35 wr => ∃ (k : Nat) (lv : Value) (l : List At) (b : At) (bv : Value), k ≤ mq ∧ s35 = .int .i64 (k : Int) ∧ s7 = lv ∧ Go.Proofs.YtlbgppijeoonjaaGreatDoor.AttrsAt wr (fun g => F g ∧ g < w.heap.size) lv l ∧ Hid (k < mq → WalkP l (q.drop k) a) ∧ Hid (k = mq → b = a ∧ bv = lv ∧ l = a.params) ∧ wr.heap[ba]? = some (.cells (atC b bv) 34 (0, 0)) ∧ (∃ x y z, bv = .slice x y z) ∧ wr.heap[w.heap.size + 1]? = some (.cells #[.string ⟨#[]⟩, .int .i64 0, .int .i64 0, .int .i64 0, .int .i64 0, .string ⟨#[]⟩, .int .u32 0, .bool false, .bool false, .slice none 0 0, .bool false, .string ⟨#[]⟩] 34 (0, 0)) ∧ Below w.heap.size w wr) (fun _ _ s35 _ => mq - (intOf s35).toNat)
  case atStart => exact ⟨0, _, ob.attrs, at0, .slice none 0 0, by omega, rfl, rfl, Go.Proofs.YtlbgppijeoonjaaGreatDoor.attrsAt_move hb4.size (fun g hF hl => ⟨hb4.block g hl, hF⟩) hA0, (fun _ => HW.out), (fun e => by omega), h3d, ⟨_, _, _, rfl⟩, h2d, hb4⟩
  case round =>
    obtain ⟨k, lv, l, b, bv, hk, rfl, rfl, hAl, HWk, HBk, hbb, hbs, hrb, hb⟩ := hrel
    clear HW h2d h3d hb4 hA0 hx5
    by_cases hlt : k < mq
    · have hlt' : (k : Int) < (mq : Int) := by omega
      have hk0 : (0 : Int) ≤ (k : Int) := by omega
      obtain ⟨i, hi⟩ : ∃ x, q[k]? = some x := ⟨q[k]'(by rw [HQ.out]; exact hlt), List.getElem?_eq_getElem _⟩
      have hdr : q.drop k = i :: q.drop (k + 1) := by
        have := List.drop_eq_getElem_cons (l := q) (i := k) (by rw [HQ.out]; exact hlt)
        rw [this]
        rw [List.getElem?_eq_getElem (by rw [HQ.out]; exact hlt)] at hi
        cases hi
        rfl
      obtain ⟨b2, hb2, hb3, hb4⟩ := walk_head (k := 0) (HWk.out hlt) hdr
      have hpk := (cell_below hb gp (op + 1 + k) hgp).trans (HP.out k i hi)
      cases hAl with
      | nil => cases hb2
      | @row g2 off2 cap2 ps hF2 hg2 hc2 hcap2 hA2 =>
        obtain ⟨p, hp⟩ : ∃ p, ps[i]? = some p := by
          rw [List.getElem?_map] at hb2
          cases e : ps[i]? with
          | none => rw [e] at hb2; cases hb2
          | some p => exact ⟨p, rfl⟩
        have hpb : p.1 = b2 := by rw [List.getElem?_map, hp] at hb2; exact Option.some.inj hb2
        have hil : i < ps.length := (List.getElem?_eq_some_iff.1 hp).1
        have hil' : (i : Int) < (ps.length : Int) := by omega
        have hi0'' : (0 : Int) ≤ (i : Int) := by omega
        have hAp := hA2 p (List.mem_of_getElem? hp)
        have hx : ∀ j u, j < 12 → (atC p.1 p.2)[j]? = some u → wr.cell? ⟨g2, off2 + i * 12 + j, none⟩ = some u := fun j u hj hu => by
          rw [Nat.add_assoc]
          exact hc2 _ _ ((rowsA_at ps i p hp j hj).trans hu)
        have cw := fun w => within_yes i ps.length w hil
        have hne2 : g2 ≠ ba := by omega
        obtain ⟨b2', pv2⟩ := p
        dsimp only at hpb hAp hx
        subst hpb
        obtain ⟨pa, pn, pc, rfl⟩ := Go.Proofs.YtlbgppijeoonjaaGreatDoor.attrsAt_shape hAp
        obtain ⟨name, o, l, c, ⟨vk, vt, vn, vh⟩, br, prm, nd, nt⟩ := b2'
        have x0 : wr.cell? ⟨g2, off2 + i * 12, none⟩ = some (.string ⟨name.toArray⟩) := hx 0 _ (by omega) rfl
        have x1 : wr.cell? ⟨g2, off2 + i * 12 + 1, none⟩ = some (.int .i64 o) := hx 1 _ (by omega) rfl
        have x2 : wr.cell? ⟨g2, off2 + i * 12 + 2, none⟩ = some (.int .i64 l) := hx 2 _ (by omega) rfl
        have x3 : wr.cell? ⟨g2, off2 + i * 12 + 3, none⟩ = some (.int .i64 c) := hx 3 _ (by omega) rfl
        have x4 : wr.cell? ⟨g2, off2 + i * 12 + 4, none⟩ = some (.int .i64 vk) := hx 4 _ (by omega) rfl
        have x5 : wr.cell? ⟨g2, off2 + i * 12 + 5, none⟩ = some (.string ⟨vt.toArray⟩) := hx 5 _ (by omega) rfl
        have x6 : wr.cell? ⟨g2, off2 + i * 12 + 6, none⟩ = some (.int .u32 (vn : Int)) := hx 6 _ (by omega) rfl
        have x7 : wr.cell? ⟨g2, off2 + i * 12 + 7, none⟩ = some (.bool vh) := hx 7 _ (by omega) rfl
        have x8 : wr.cell? ⟨g2, off2 + i * 12 + 8, none⟩ = some (.bool br) := hx 8 _ (by omega) rfl
        have x9 : wr.cell? ⟨g2, off2 + i * 12 + 9, none⟩ = some (.slice pa pn pc) := hx 9 _ (by omega) rfl
        have x10 : wr.cell? ⟨g2, off2 + i * 12 + 10, none⟩ = some (.bool nd) := hx 10 _ (by omega) rfl
        have x11 : wr.cell? ⟨g2, off2 + i * 12 + 11, none⟩ = some (.string ⟨nt.toArray⟩) := hx 11 _ (by omega) rfl
        obtain ⟨bn, bo, bl, bc, ⟨bvk, bvt, bvn, bvh⟩, bbr, bprm, bnd, bnt⟩ := b
        obtain ⟨zx, zy, zz, rfl⟩ := hbs
        unfold atC at hbb
        obtain ⟨⟨y0, y1, y2, y3, y4, y5, y6, y7, y8, y9, y10, y11⟩, fy⟩ := var12 hbb
        have hbb2 := set12_at wr ba _ _ _ _ _ _ _ _ _ _ _ _ _ (.string ⟨name.toArray⟩) (.int .i64 o) (.int .i64 l) (.int .i64 c) (.int .i64 vk) (.string ⟨vt.toArray⟩) (.int .u32 (vn : Int)) (.bool vh) (.bool br) (.slice pa pn pc) (.bool nd) (.string ⟨nt.toArray⟩) hbb
        have hgs := set12_grown wr ba (.string ⟨name.toArray⟩) (.int .i64 o) (.int .i64 l) (.int .i64 c) (.int .i64 vk) (.string ⟨vt.toArray⟩) (.int .u32 (vn : Int)) (.bool vh) (.bool br) (.slice pa pn pc) (.bool nd) (.string ⟨nt.toArray⟩)
        have HW2 : Hid (k + 1 < mq → WalkP prm (q.drop (k + 1)) a) := fun hkk => hb4 (fun e => by
          have := congrArg List.length e
          rw [List.length_drop, HQ.out] at this
          simp at this
          omega)
        have HB2 : Hid (k + 1 = mq → (.mk name o l c ⟨vk, vt, vn, vh⟩ br prm nd nt : At) = a ∧ (Value.slice pa pn pc) = (Value.slice pa pn pc) ∧ prm = a.params) := fun hkk => by
          have e : q.drop (k + 1) = [] := List.drop_eq_nil_of_le (by rw [HQ.out]; omega)
          have := hb3 e
          exact ⟨this, rfl, by rw [← this]; rfl⟩
        have hA3 := Go.Proofs.YtlbgppijeoonjaaGreatDoor.attrsAt_grown hgs (fun hF => by omega) hAp
        have hrb3 := (hgs.block _ (heap_lt hrb) (fun e => by cases e; omega)).trans hrb
        have hbz := hb.trans (below_of_grown hgs (by omega) hb.size)
        generalize hw5 : ((((((((((((wr.setCell ⟨ba, 0, none⟩ (.string ⟨name.toArray⟩)).setCell ⟨ba, 1, none⟩ (.int .i64 o)).setCell ⟨ba, 2, none⟩ (.int .i64 l)).setCell ⟨ba, 3, none⟩ (.int .i64 c)).setCell ⟨ba, 4, none⟩ (.int .i64 vk)).setCell ⟨ba, 5, none⟩ (.string ⟨vt.toArray⟩)).setCell ⟨ba, 6, none⟩ (.int .u32 (vn : Int))).setCell ⟨ba, 7, none⟩ (.bool vh)).setCell ⟨ba, 8, none⟩ (.bool br)).setCell ⟨ba, 9, none⟩ (.slice pa pn pc)).setCell ⟨ba, 10, none⟩ (.bool nd)).setCell ⟨ba, 11, none⟩ (.string ⟨nt.toArray⟩)) = w5 at hbb2 hgs hA3 hrb3 hbz
        have x9w : w5.cell? ⟨g2, off2 + i * 12 + 9, none⟩ = some (.slice pa pn pc) := by rw [World.cell?_of_block (hgs.block g2 hg2 (fun e => hne2 (Option.some.inj e)))]; exact x9
        clear hx hc2 hA2 hp hb2 hb3 hb4 HWk HBk hAp hdr hi hgs hb hbb hrb hF2 hg2 hcap2
        go_wp2_with (go_at_call 26; refine (cw _).mono ?_; rintro e w' ⟨rfl, rfl⟩)
        go_region
        all_goals
          have hA4 := Go.Proofs.YtlbgppijeoonjaaGreatDoor.attrsAt_below (Below.refl w5.heap.size w5).drew hA3
          have hbb4 : w5.drew.heap[ba]? = _ := hbb2
          have hrb4 : w5.drew.heap[w.heap.size + 1]? = _ := hrb3
          have hbz4 : Below w.heap.size w w5.drew := hbz.drew
          clear hA3 hbb2 hrb3 hbz hw5
          generalize w5.drew = w6 at *
          clear cw x9w x0 x1 x2 x3 x4 x5 x6 x7 x8 x9 x10 x11 y0 y1 y2 y3 y4 y5 y6 y7 y8 y9 y10 y11 fy hpk
          go_wp2
          go_roundw
          case rel => exact ⟨k + 1, _, prm, .mk name o l c ⟨vk, vt, vn, vh⟩ br prm nd nt, .slice pa pn pc, by omega, by go_num, rfl, hA4, HW2, (fun e => ⟨(HB2.out e).1, rfl, (HB2.out e).2.2⟩), hbb4, ⟨_, _, _, rfl⟩, hrb4, hbz4⟩
          case measure => simp [intOf]; omega
    · obtain rfl : k = mq := by omega
      have hlt' : ¬ (k : Int) < (k : Int) := by omega
      obtain ⟨rfl, rfl, rfl⟩ := HBk.out rfl
      obtain ⟨zx, zy, zz, rfl⟩ := hbs
      have cc := hcop wr (.slice zx zy zz) (Go.Proofs.YtlbgppijeoonjaaGreatDoor.attrsAt_mono (fun g hF => hF.1) hAl)
      obtain ⟨bn, bo, bl, bc, ⟨bvk, bvt, bvn, bvh⟩, bbr, bprm, bnd, bnt⟩ := b
      unfold atC at hbb
      obtain ⟨⟨_, _, _, _, _, _, _, _, _, y9, _, _⟩, _⟩ := var12 hbb
      clear HWk HBk hAl
      go_wp2_with fail
      clear y9
      refine cc.mono ?_
      rintro e w5 ⟨pv', rfl, hA5, hb5⟩
      obtain ⟨sx, sy, sz, rfl⟩ := attrsAt_shape hA5
      have hbb5 := (hb5.block _ (heap_lt hbb)).trans hbb
      have hrb5 := (hb5.block _ (heap_lt hrb)).trans hrb
      have hbw5 := hb.trans (hb5.mono hb.size)
      have hbal := heap_lt hbb
      have hbb6 := set12_9 w5 ba _ _ _ _ _ _ _ _ _ _ _ _ _ (.slice sx sy sz) hbb5
      have hgs := grown_set w5 ba 9 (.slice sx sy sz)
      have hrb6 := (hgs.block _ (heap_lt hrb5) (fun e => by cases e; omega)).trans hrb5
      have hA6 := attrsAt_grown hgs (fun hF => by omega) hA5
      have hbw6 := hbw5.trans (below_of_grown hgs (by omega) hbw5.size)
      obtain ⟨⟨_, _, _, _, _, _, _, _, _, y9, _, _⟩, fy⟩ := var12 hbb5
      generalize hw6 : w5.setCell ⟨ba, 9, none⟩ (.slice sx sy sz) = w6 at hbb6 hgs hrb6 hA6 hbw6
      obtain ⟨⟨z0, z1, z2, z3, z4, z5, z6, z7, z8, z9, z10, z11⟩, _⟩ := var12 hbb6
      obtain ⟨⟨u0, u1, u2, u3, u4, u5, u6, u7, u8, u9, u10, u11⟩, fu⟩ := var12 hrb6
      have hrb7 := set12_at w6 (w.heap.size + 1) _ _ _ _ _ _ _ _ _ _ _ _ _ (.string ⟨bn.toArray⟩) (.int .i64 bo) (.int .i64 bl) (.int .i64 bc) (.int .i64 bvk) (.string ⟨bvt.toArray⟩) (.int .u32 (bvn : Int)) (.bool bvh) (.bool bbr) (.slice sx sy sz) (.bool bnd) (.string ⟨bnt.toArray⟩) hrb6
      have hg7 := set12_grown w6 (w.heap.size + 1) (.string ⟨bn.toArray⟩) (.int .i64 bo) (.int .i64 bl) (.int .i64 bc) (.int .i64 bvk) (.string ⟨bvt.toArray⟩) (.int .u32 (bvn : Int)) (.bool bvh) (.bool bbr) (.slice sx sy sz) (.bool bnd) (.string ⟨bnt.toArray⟩)
      have hA7 := attrsAt_grown hg7 (fun hF => by have := hb.size; omega) hA6
      have hbw7 := hbw6.trans (below_of_grown hg7 (by omega) hbw6.size)
      have hA8 := attrsAt_mono (G := fun g => w.heap.size ≤ g) (fun g hF => Nat.le_trans hb.size hF) hA7
      clear cc hA5 hb5 hbb5 hrb5 hbw5 hbb6 hgs hrb6 hA6 hbw6 hbb hrb hA7 hg7
      go_wp2
      exact bodyPost_ret (res_attr2 Tryz.results9 _ (w.heap.size + 1) _ _ _ _ _ _ _ _ _ _ _ _ _ _ rfl rfl hrb7) rfl ⟨_, rfl, hA8, hbw7⟩
end Go.Proofs.YtlbgppijeoonjaaGreatDoor.Own

