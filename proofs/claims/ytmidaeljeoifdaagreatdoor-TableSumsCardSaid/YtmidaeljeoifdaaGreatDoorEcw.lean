import Derived.Test.YtmidaeljeoifdaaGreatDoorEcv
namespace Go.Proofs.YtmidaeljeoifdaaGreatDoor.Ce
open Go.RowKit Go.Maps
set_option linter.unusedVariables false
set_option linter.unusedSimpArgs false
def topR : Value → Option (DataW Unit × List MemPlace)
 | .agg a => match a.toList with
  | [.bool b, .int .i64 p] => some (.agg [.lit (.bool b), .lit (.int .i64 p)], [])
  | _ => none
 | _ => none
def topD : Option Int → DataW Unit
 | none => .agg [.lit (.bool false), .lit (.int .i64 0)]
 | some p => .agg [.lit (.bool true), .lit (.int .i64 p)]
theorem topR_mk (t : Option Int) : topR (.agg (topC t)) = some (topD t, []) := by cases t <;> rfl
theorem topR_inv {v : Value} {t : Option Int} {ps : List MemPlace} (h : topR v = some (topD t, ps)) : v = .agg (topC t) := by
 unfold topR at h
 split at h
 ·rename_i a
  split at h
  ·rename_i b p hl
   have ha : a = #[.bool b, .int .i64 p] := by cases a; simp at hl; rw [hl]
   rw [ha]
   cases t with
   | none => simp [topD] at h; obtain ⟨⟨rfl, rfl⟩, _⟩ := h; rfl
   | some q => simp [topD] at h; obtain ⟨⟨rfl, rfl⟩, _⟩ := h; rfl
  ·cases h
 ·cases h
theorem zeroT (w : World) : (zeroValue 209).run Tryz.prog w = .ok (.agg (topC none)) w := by kernel_rfl
structure MapT (w : World) (b n : Nat) (ks : List Nat) (f : Nat → Option Int) : Prop where
 nd : ks.Nodup
 lt : ∀ k ∈ ks, k < n
 ex : ∃ D : DataW Unit, w.ownsMap Tryz.prog 3 topR b ks.length D ∧ Maps.size D = ks.length ∧ ∀ j : Nat, Maps.has D (.int .i64 j) = decide (j ∈ ks) ∧ D.atKey (.int .i64 j) (topD none) = topD (f j)
theorem MapT.made (w : World) (n : Nat) : MapT (w.alloc (.map #[] 0)) w.heap.size n [] (fun _ => none) :=
 ⟨List.nodup_nil, (fun k hk => by cases hk), .map [], World.ownsMap_made _ _ _ _, rfl, fun j => ⟨by simp [Maps.has], by simp [DataW.atKey]⟩⟩
theorem MapT.block {w : World} {b n : Nat} {ks : List Nat} {f : Nat → Option Int} (h : MapT w b n ks f) : b < w.heap.size := by
 obtain ⟨D, hD, _⟩ := h.ex
 exact hD.lt
theorem MapT.kept {w w' : World} {b n : Nat} {ks : List Nat} {f : Nat → Option Int} {row : Option Nat} (h : MapT w b n ks f) (hg : w.grownBy w' row) (hne : some b ≠ row) : MapT w' b n ks f := by
 obtain ⟨D, hD, h2⟩ := h.ex
 exact ⟨h.nd, h.lt, D, hD.kept hg hne, h2⟩
theorem MapT.below {w w' : World} {b n : Nat} {ks : List Nat} {f : Nat → Option Int} (h : MapT w b n ks f) (hb : Below w.heap.size w w') : MapT w' b n ks f := h.kept (grown_of_below (r := none) hb) (by simp)
def setT (f : Nat → Option Int) (j : Nat) (e : Option Int) (i : Nat) : Option Int := if i = j then e else f i
section
variable {w : World} {o : Oper} {a : Act} {K : Act → World → Prop} {Q : Exit → Act → World → Prop}
theorem wp_top_at (m x : Operand) (t : TypeId) (hop : o.op = Op.lookup t m x false) (ht : Tryz.prog.underlying t = some (.map 3 209)) (b n : Nat) (ks : List Nat) (f : Nat → Option Int)
  (hm : a.eval m = .map (some b)) (h : MapT w b n ks f) (j : Nat) (hj : j < 9223372036854775808) (hx : a.eval x = .int .i64 (j : Int)) (hK : K (a.put o.dst (.agg (topC (f j)))) w) : Oper.wp Tryz.prog o a w K Q := by
 obtain ⟨D, hD, hs, h2⟩ := h.ex
 obtain ⟨v, ps, hrun, hv⟩ := hD.lookup keyI ht (zeroT w) (topR_mk none) (keyOf_int_mk Tryz.underlying3 (wf_nat hj))
 rw [(h2 j).2] at hv
 obtain rfl := topR_inv hv
 unfold Oper.wp
 simp [execOp, hop, hm, hx, hrun, Result.andThen]
 exact hK
theorem wp_top_put (m x u : Operand) (t : TypeId) (hop : o.op = Op.mapUpdate t m x u) (ht : Tryz.prog.underlying t = some (.map 3 209)) (b n : Nat) (ks : List Nat) (f : Nat → Option Int)
  (hm : a.eval m = .map (some b)) (h : MapT w b n ks f) (hn : n ≤ 8796093022208) (j : Nat) (hj : j < n) (hx : a.eval x = .int .i64 (j : Int)) (e : Option Int) (hu : a.eval u = .agg (topC e))
  (hK : ∀ w', MapT w' b n (insK ks j) (setT f j e) → w.grownBy w' (some b) → K (a.put o.dst undef) w') : Oper.wp Tryz.prog o a w K Q := by
 have hlen : ks.length ≤ n := nodup_len h.nd h.lt
 obtain ⟨D, hD, hs, h2⟩ := h.ex
 have hT := hD.tidy keyI
 have hkl : WideAt.IsKeyLit (.int .i64 (j : Int)) := trivial
 obtain ⟨w', hrun, hown, hgr⟩ := hD.update keyI ht (by unfold maxLen; omega) (keyOf_int_mk Tryz.underlying3 (wf_nat (j := j) (by omega))) (topR_mk e)
 unfold Oper.wp
 simp [execOp, hop, hm, hx, hu, hrun, Result.andThen]
 refine hK w' ?_ hgr
 have hsz : Maps.size (D.put (.int .i64 (j : Int)) (topD e)) = (insK ks j).length := by
  rw [Maps.size_put hT, (h2 j).1, hs]
  unfold insK
  by_cases hm : j ∈ ks <;> simp [hm]
 refine ⟨?_, ?_, _, by rw [← hsz]; exact own_tight hown, hsz, fun i => ?_⟩
 ·unfold insK
  by_cases hm : j ∈ ks
  ·rw [if_pos hm]; exact h.nd
  ·rw [if_neg hm]; exact List.nodup_cons.2 ⟨hm, h.nd⟩
 ·intro k hk
  rcases mem_insK.1 hk with rfl | hk
  ·exact hj
  ·exact h.lt k hk
 ·by_cases hij : i = j
  ·subst hij
   refine ⟨by rw [Maps.has_put_same hT.isMap hkl]; simp [mem_insK], ?_⟩
   rw [Maps.atKey_put_same hT.isMap hkl, setT, if_pos rfl]
  ·have hne : (Lit.int .i64 (i : Int)) ≠ .int .i64 (j : Int) := fun e => by
    have : (i : Int) = j := by injection e
    omega
   refine ⟨by rw [Maps.has_put_other hne, (h2 i).1]; simp [mem_insK, hij], ?_⟩
   rw [Maps.atKey_put_other hne, (h2 i).2, setT, if_neg hij]
end
theorem yieldsIf_find {ops : Array Oper} {S : World → Prop} {o : Oper} {a : Act} (hgd : Region.wanted o (yielded ops a.tmps) = true) (m x : Operand) (t : TypeId) (hop : o.op = Op.lookup t m x false) (ht : Tryz.prog.underlying t = some (.map 3 3)) (b : Nat) (c : Cf)
  (hm : a.eval m = .map (some b)) (h : ∀ w, S w → EndsAt w b c) (hn : c.ress.length ≤ 8796093022208) (j : Nat) (hj : j < c.ress.length) (hx : a.eval x = .int .i64 (j : Int)) {q : Int} (hq : rootN c (j : Int) = q) : YieldsIf Tryz.prog ops S o (.int .i64 q) a :=
 .inl ⟨hgd, fun w hw => by
  obtain ⟨ks, hM, hall⟩ := h w hw
  obtain ⟨D, hD, hs, h2⟩ := hM.ex
  obtain ⟨e, hrun, hat, _⟩ := hD.lookup_int keyI ht Tryz.underlying3 (zeroI w) (keyOf_int_mk Tryz.underlying3 (wf_nat (j := j) (by omega)))
  rw [(h2 j).2, if_pos (hall j hj), hq] at hat
  have he : e = q := by cases hat; rfl
  rw [he] at hrun
  unfold execOp
  simp [hop, hm, hx, hrun, Result.andThen]⟩
def addL (c : Cf) (p : Int) (l : List Int) (f : Nat → Option Int) (k : Nat) : Option Int := (l.filter (fun id => rootN c id == (k : Int))).foldl (fun t _ => topAdd t p) (f k)
theorem addL_snoc {c : Cf} {p : Int} {l : List Int} {j : Nat} {x : Int} {q : Nat} (hx : l[j]? = some x) (hq : rootN c x = (q : Int)) (f : Nat → Option Int) : addL c p (l.take (j + 1)) f = setT (addL c p (l.take j) f) q (topAdd (addL c p (l.take j) f q) p) := by
 funext k
 unfold addL setT
 rw [List.take_add_one, hx, Option.toList_some, List.filter_append, List.foldl_append]
 by_cases hk : k = q
 ·subst hk
  rw [if_pos rfl]
  simp [List.filter_cons, hq]
 ·rw [if_neg hk]
  have : ((q : Int) == (k : Int)) = false := by rw [beq_eq_false_iff_ne]; omega
  simp [List.filter_cons, hq, this]
end Go.Proofs.YtmidaeljeoifdaaGreatDoor.Ce
