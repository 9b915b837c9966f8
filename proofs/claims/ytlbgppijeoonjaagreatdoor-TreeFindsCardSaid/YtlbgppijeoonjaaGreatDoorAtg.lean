import Derived.Test.YtlbgppijeoonjaaGreatDoorAtf
namespace Go.Proofs.YtlbgppijeoonjaaGreatDoor
open Go.RowKit
set_option linter.unusedVariables false

/-! ### Attr, both, at every path -/
/-- A slice of ints that lies somewhere. -/
inductive PathAt (w : World) : Value → List Int → Prop
  | nil {a : Option Addr} {cap : Nat} : PathAt w (.slice a 0 cap) []
  | row {g off cap : Nat} {p : List Int} : g < w.heap.size → (∀ k i, p[k]? = some i → w.cell? ⟨g, off + k, none⟩ = some (.int .i64 i)) → p.length ≤ cap → cap ≤ maxLen → PathAt w (.slice (some ⟨g, off, none⟩) p.length cap) p
theorem pathAt_below {w w' : World} (hb : Below w.heap.size w w') {v : Value} {p : List Int} (h : PathAt w v p) : PathAt w' v p := by
  cases h with
  | nil => exact .nil
  | row a b c d => exact .row (Nat.lt_of_lt_of_le a hb.size) (fun k i hk => by rw [cell_below hb _ _ a]; exact b k i hk) c d
theorem pathAt_shape {w : World} {v : Value} {p : List Int} (h : PathAt w v p) : ∃ a cap, v = .slice a p.length cap := by
  cases h with
  | nil => exact ⟨_, _, rfl⟩
  | row _ _ _ _ => exact ⟨_, _, rfl⟩
theorem walk_or_fail (q : List Int) : ∀ (l : List At), q ≠ [] → (∃ (qn : List Nat) (a : At), q = qn.map (fun (n : Nat) => (n : Int)) ∧ WalkP l qn a) ∨ FailP l q := by
  induction q with
  | nil => intro l h; exact absurd rfl h
  | cons i r ih =>
    intro l _
    by_cases hi : 0 ≤ i ∧ i < (l.length : Int)
    · obtain ⟨n, rfl⟩ := Int.eq_ofNat_of_zero_le hi.1
      have hn : n < l.length := by omega
      have hl : l[n]? = some l[n] := List.getElem?_eq_getElem hn
      by_cases hr : r = []
      · subst hr
        exact .inl ⟨[n], l[n], rfl, .one hl⟩
      · rcases ih l[n].params hr with ⟨qn, a, rfl, hw⟩ | hf
        · refine .inl ⟨n :: qn, a, rfl, ?_⟩
          cases qn with
          | nil => exact absurd rfl hr
          | cons m qn => exact .more hl hw
        · exact .inr (.more hl hf)
    · exact .inr (.out hi)
theorem walk_len {n : Nat} {l : List At} {q : List Nat} {a : At} (h : WalkP l q a) (hl : LenB n l) : LenB n a.params := by
  induction h with
  | one h1 => exact hl.par (List.mem_of_getElem? h1)
  | more h1 h2 ih => exact ih (hl.par (List.mem_of_getElem? h1))
/-- What an Attr answers: its attributes below lie in what came in (below B), or in memory that the call made. -/
def AttrRes (B : Nat) (a : At) (ec : Int) (W : World) (e : Ending) (w' : World) : Prop := ∃ pv', e = .returned (.tuple #[.agg (atC a pv'), .int .i64 ec]) ∧ AttrsAt w' (fun g => g < B ∨ W.heap.size ≤ g) pv' a.params ∧ Below W.heap.size W w'
set_option maxRecDepth 100000 in
theorem attr_both (w : World) (t : Tr) (pv : Value) (hO : ObjsAt w (fun _ => True) pv t.objs) (nb : Nat) (hnb : nb ≤ 1099511627776) (hLB : ∀ o, o ∈ t.objs → LenB nb o.attrs) (p : List Int) :
    ∃ (a : At) (ec : Int), (∀ W v, Below w.heap.size w W → PathAt W v p → Calls Tryz.prog 9 #[.agg (trC t pv), v] W fun e w' => AttrRes w.heap.size a ec W e w') ∧
      (∀ W v, Below w.heap.size w W → PathAt W v p → Calls Tryz.prog 10 #[.agg (trC t pv), v] W fun e w' => AttrRes w.heap.size a ec W e w') := by
  obtain ⟨tv, tc, tobs, tnd, tnt⟩ := t
  dsimp only at hO hLB
  obtain ⟨oa, on, oc, rfl⟩ := objsAt_shape hO
  have z : ∀ W e w', (e = .returned (.tuple #[.agg zero12, .int .i64 2]) ∧ Below W.heap.size W w') → AttrRes w.heap.size at0 2 W e w' := fun W e w' h => ⟨.slice none 0 0, h.1, .nil, h.2⟩
  by_cases h2 : p.length < 2
  · refine ⟨at0, 2, fun W v hW hp => ?_, fun W v hW hp => ?_⟩
    · obtain ⟨pa, capp, rfl⟩ := pathAt_shape hp
      exact (attr_short W tv tc tnd tnt oa on oc pa p.length capp h2).mono (fun e w' h => z W e w' h)
    · obtain ⟨pa, capp, rfl⟩ := pathAt_shape hp
      exact (rattr_short W tv tc tnd tnt oa on oc pa p.length capp h2).mono (fun e w' h => z W e w' h)
  · match p, h2 with
    | [], h2 => exact absurd (by simp) h2
    | [_], h2 => exact absurd (by simp) h2
    | i0 :: i1 :: r, _ =>
      have hrow : ∀ W v, PathAt W v (i0 :: i1 :: r) → ∃ g off cap, v = .slice (some ⟨g, off, none⟩) ((i1 :: r).length + 1) cap ∧ g < W.heap.size ∧ W.cell? ⟨g, off, none⟩ = some (.int .i64 i0) ∧ (∀ (k : Nat) (i : Int), (i1 :: r)[k]? = some i → W.cell? ⟨g, off + 1 + k, none⟩ = some (.int .i64 i)) ∧ (i1 :: r).length < cap ∧ cap ≤ maxLen := fun W v hp => by
        generalize hq : i0 :: i1 :: r = q at hp
        cases hp with
        | nil => cases hq
        | @row g off cap q a b c d =>
          subst hq
          refine ⟨g, off, cap, rfl, a, b 0 i0 rfl, fun k i hk => ?_, by simp at c ⊢; omega, d⟩
          rw [show off + 1 + k = off + (k + 1) by omega]
          exact b (k + 1) i (by simpa using hk)
      by_cases hr : 0 ≤ i0 ∧ i0 < (on : Int)
      · obtain ⟨n0, rfl⟩ := Int.eq_ofNat_of_zero_le hr.1
        cases hO with
        | nil => simp at hr; omega
        | @row g off cap qs hF hg hc hcap hA =>
          have hn0 : n0 < qs.length := by omega
          obtain ⟨⟨ob, pv0⟩, ho⟩ : ∃ x, qs[n0]? = some x := ⟨qs[n0], List.getElem?_eq_getElem hn0⟩
          have hob : LenB nb ob.attrs := hLB ob (List.mem_map.2 ⟨(ob, pv0), List.mem_of_getElem? ho, rfl⟩)
          have hN := Nat.le_trans hcap.1 hcap.2
          have hA' : ∀ W, Below w.heap.size w W → ∀ q, q ∈ qs → AttrsAt W (fun _ => True) q.2 q.1.attrs := fun W hW q hq => attrsAt_below hW (hA q hq)
          have hc' : ∀ W, Below w.heap.size w W → ∀ j u, (rowsO qs)[j]? = some u → W.cell? ⟨g, off + j, none⟩ = some u := fun W hW j u hj => by rw [cell_below hW _ _ hg]; exact hc j u hj
          rcases walk_or_fail (i1 :: r) ob.attrs (by simp) with ⟨qn, a, hqn, hw⟩ | hf
          · have hln : qn.length = (i1 :: r).length := by rw [hqn, List.length_map]
            have hcells : ∀ (W : World) (g2 off2 : Nat), (∀ (k : Nat) (i : Int), (i1 :: r)[k]? = some i → W.cell? ⟨g2, off2 + 1 + k, none⟩ = some (.int .i64 i)) → ∀ (k i : Nat), qn[k]? = some i → W.cell? ⟨g2, off2 + 1 + k, none⟩ = some (.int .i64 (i : Int)) := fun W g2 off2 h k i hk => h k (i : Int) (by rw [hqn, List.getElem?_map, hk]; rfl)
            refine ⟨a, 0, fun W v hW hp => ?_, fun W v hW hp => ?_⟩
            · obtain ⟨gp, op, capp, rfl, h1, h3, h4, h5, h6⟩ := hrow W v hp
              refine (attr_ok W (fun _ => True) tv tc tnd tnt g off oc qs qs.length rfl hN (Nat.lt_of_lt_of_le hg hW.size) (hc' W hW) (hA' W hW) gp op (i1 :: r).length capp n0 qn hln (by simp) h5 h6 h1 h3 (hcells W gp op h4) ob pv0 ho a hw (copied_any hnb (walk_len hw hob))).mono ?_
              rintro e w' ⟨pv', e1, e2, e3⟩
              exact ⟨pv', e1, attrsAt_mono (fun _ h => .inr h) e2, e3⟩
            · obtain ⟨gp, op, capp, rfl, h1, h3, h4, h5, h6⟩ := hrow W v hp
              refine (rattr_ok W (fun g => g < w.heap.size) tv tc tnd tnt g off oc qs qs.length rfl hN (Nat.lt_of_lt_of_le hg hW.size) (hc' W hW) (fun q hq => attrsAt_move hW.size (fun g _ hl => ⟨hW.block g hl, hl⟩) (hA q hq)) gp op (i1 :: r).length capp n0 qn hln (by simp) h5 h6 h1 h3 (hcells W gp op h4) ob pv0 ho a hw).mono ?_
              rintro e w' ⟨pv', e1, e2, e3⟩
              exact ⟨pv', e1, attrsAt_mono (fun _ h => .inl h) e2, e3⟩
          · refine ⟨at0, 2, fun W v hW hp => ?_, fun W v hW hp => ?_⟩
            · obtain ⟨gp, op, capp, rfl, h1, h3, h4, h5, h6⟩ := hrow W v hp
              exact (attr_no W (fun _ => True) tv tc tnd tnt g off oc qs qs.length rfl hN (Nat.lt_of_lt_of_le hg hW.size) (hc' W hW) (hA' W hW) gp op (i1 :: r).length capp n0 (i1 :: r) rfl (by simp) h5 h6 h1 h3 h4 ob pv0 ho hf).mono (fun e w' h => z W e w' h)
            · obtain ⟨gp, op, capp, rfl, h1, h3, h4, h5, h6⟩ := hrow W v hp
              exact (rattr_no W (fun _ => True) tv tc tnd tnt g off oc qs qs.length rfl hN (Nat.lt_of_lt_of_le hg hW.size) (hc' W hW) (hA' W hW) gp op (i1 :: r).length capp n0 (i1 :: r) rfl (by simp) h5 h6 h1 h3 h4 ob pv0 ho hf).mono (fun e w' h => z W e w' h)
      · refine ⟨at0, 2, fun W v hW hp => ?_, fun W v hW hp => ?_⟩
        · obtain ⟨gp, op, capp, rfl, h1, h3, h4, h5, h6⟩ := hrow W v hp
          exact (attr_range W tv tc tnd tnt oa on oc gp op (i1 :: r).length capp i0 (by simp) (by unfold maxLen at h6; omega) h1 h3 hr).mono (fun e w' h => z W e w' h)
        · obtain ⟨gp, op, capp, rfl, h1, h3, h4, h5, h6⟩ := hrow W v hp
          by_cases hneg : i0 < 0
          · exact (rattr_neg W tv tc tnd tnt oa on oc gp op (i1 :: r).length capp i0 (by simp) (by unfold maxLen at h6; omega) h1 h3 hneg).mono (fun e w' h => z W e w' h)
          · exact (rattr_big W tv tc tnd tnt oa on oc gp op (i1 :: r).length capp i0 (by simp) (by unfold maxLen at h6; omega) h1 h3 (by omega) (by omega)).mono (fun e w' h => z W e w' h)
end Go.Proofs.YtlbgppijeoonjaaGreatDoor
