import Derived.Test.YtmllocfeflhjoaaGreatXQdt
import Derived.Test.YtmllocfeflhjoaaGreatXQcp
import Derived.Test.YtmllocfeflhjoaaGreatXQp
import Derived.Test.YtmllocfeflhjoaaGreatXThnl
import Derived.Test.YtmllocfeflhjoaaGreatXQe
namespace Go.Proofs.YtmllocfeflhjoaaGreat
open Go.RowKit Go.Maps Go.Shelf Go.Sort
open Go.Proofs.YtmllocfeflhjoaaGreat.St (Fx Fz iQ iP iV)
set_option linter.unusedVariables false
set_option linter.unusedSimpArgs false
set_option maxRecDepth 100000
set_option maxHeartbeats 8000000
/-! ### Both locks, apart -/
structure Ss where
  L : Tks
  i : List Bool
  g : Gt
def fI (i : List Bool) : Own → Bool := fun o => !o.isr && hasI i o.id
def Ss.p (s : Ss) : Ls := ⟨s.L, fI s.i, s.g⟩
structure Bt (W w : World) (tb : Tb) (v : Ts) (Z : Nat → Prop) (y : Ly) (B P : Nat) (a b : Value) (s t : Ss) : Prop where
  k : Lk w tb Z y B s.p
  d : Dl W w tb v P a b t.L t.i t.g
  lo : ∀ x, y.M B x ∨ Z x → W.heap.size ≤ x
  zl : ∀ x, Z x → x < w.heap.size
  ne : ∀ x, y.M B x ∨ Z x → ¬ Dm P a b x
section
variable {W w w' : World} {tb : Tb} {v : Ts} {Z : Nat → Prop} {y : Ly} {B P : Nat} {a b : Value} {s t : Ss}
theorem Bt.pro (h : Bt W w tb v Z y B P a b s t) {s' : Ss} (k' : Lk w' tb Z y B s'.p) (hf : Fz (y.M B) w w') : Bt W w' tb v Z y B P a b s' t :=
  ⟨k', h.d.keptZ hf (fun x hx hm => h.ne x (.inl hm) hx) (fun x hlt hm => by have := h.lo x (.inl hm); omega), h.lo, fun x hx => Nat.lt_of_lt_of_le (h.zl x hx) hf.size, h.ne⟩
theorem Bt.doc (h : Bt W w tb v Z y B P a b s t) {a' b' : Value} {t' : Ss} (d' : Dl W w' tb v P a' b' t'.L t'.i t'.g) (hn : ∀ x, Dm P a' b' x → Dm P a b x ∨ w.heap.size ≤ x) (hf : Fz (Dm P a b) w w') : Bt W w' tb v Z y B P a' b' s t' :=
  ⟨h.k.kept hf (fun x hx => h.ne x (.inl hx)) (fun x hx => h.ne x (.inr hx)), d', h.lo, fun x hx => Nat.lt_of_lt_of_le (h.zl x hx) hf.size, fun x hx hd => by
    rcases hn x hd with e | e
    · exact h.ne x hx e
    · rcases hx with e2 | e2
      · have := h.k.lts e2; omega
      · have := h.zl x e2; omega⟩
theorem Bt.below (h : Bt W w tb v Z y B P a b s t) (hb : Below w.heap.size w w') : Bt W w' tb v Z y B P a b s t :=
  ⟨h.k.below hb, h.d.below hb, h.lo, fun x hx => Nat.lt_of_lt_of_le (h.zl x hx) hb.size, h.ne⟩
theorem Bt.keptN (h : Bt W w tb v Z y B P a b s t) {N : Nat → Prop} (hf : Fz N w w') (hM : ∀ x, N x → W.heap.size ≤ x ∧ ¬ y.M B x ∧ ¬ Z x ∧ ¬ Dm P a b x) : Bt W w' tb v Z y B P a b s t :=
  ⟨h.k.kept hf (fun x hx hn => (hM x hn).2.1 hx) (fun x hx hn => (hM x hn).2.2.1 hx), h.d.keptZ hf (fun x hx hn => (hM x hn).2.2.2 hx) (fun x hlt hn => by have := (hM x hn).1; omega), h.lo, fun x hx => Nat.lt_of_lt_of_le (h.zl x hx) hf.size, h.ne⟩
/-- what a call of the program's says, what one of the document's -/
def PrQ (W w : World) (tb : Tb) (v : Ts) (Z : Nat → Prop) (y : Ly) (B P : Nat) (a b : Value) (s' t : Ss) (u : Value) (e : Ending) (w' : World) : Prop := e = .returned u ∧ Bt W w' tb v Z y B P a b s' t ∧ Fz (y.M B) w w'
def DoQ (W w : World) (tb : Tb) (v : Ts) (Z : Nat → Prop) (y : Ly) (B P : Nat) (a b : Value) (s t' : Ss) (u : Value) (e : Ending) (w' : World) : Prop := e = .returned u ∧ (∃ a' b', Bt W w' tb v Z y B P a' b' s t') ∧ Fz (Dm P a b) w w'
theorem Bt.pqb (h : Bt W w tb v Z y B P a b s t) {u : Value} {e : Ending} (he : e = .returned u) (hb : Below w.heap.size w w') : PrQ W w tb v Z y B P a b s t u e w' := ⟨he, h.below hb, Fz.of_below hb⟩
theorem Bt.dqb (h : Bt W w tb v Z y B P a b s t) {u : Value} {e : Ending} (he : e = .returned u) (hb : Below w.heap.size w w') : DoQ W w tb v Z y B P a b s t u e w' := ⟨he, ⟨a, b, h.below hb⟩, Fz.of_below hb⟩
/-! Get -/
def getB (tb : Tb) (s : Ss) (o : Own) (r : Int) : Bool := asks tb o r && gets tb s.p o r
def getS (tb : Tb) (s : Ss) (o : Own) (r : Int) : Ss := if getB tb s o r = true then ⟨s.L ++ [(o, r)], s.i, s.g⟩ else s
def getA (tb : Tb) (s : Ss) (o : Own) (r : Int) : Int := if asks tb o r = true then if gets tb s.p o r = true then 0 else 1 else 3
theorem pGet (h : Bt W w tb v Z y B P a b s t) (o : Own) (ho : o.wf) (r : Int) (hw : (Lit.int .i64 r).wf = true) : Calls Tryz.prog 11 #[lp B, .agg #[.bool o.isr, I o.id], I r] w (PrQ W w tb v Z y B P a b (getS tb s o r) t (I (getA tb s o r))) := by
  unfold getS getA getB
  cases hr : asks tb o r with
  | false => simp only [Bool.false_and, Bool.false_eq_true, if_false]; exact (Get_no h.k o ho r hr).mono (fun e w' k => h.pqb k.1 k.2)
  | true =>
    cases hg : gets tb s.p o r with
    | false => simp only [Bool.and_false, Bool.false_eq_true, if_false, if_true]; exact (Get_bar h.k o ho r hw hr hg).mono (fun e w' k => h.pqb k.1 k.2)
    | true => simp only [Bool.and_self, if_true]; exact (Get_ok h.k o ho r hw hr hg).mono (fun e w' k => ⟨k.1, h.pro (s' := ⟨s.L ++ [(o, r)], s.i, s.g⟩) k.2.1 k.2.2, k.2.2⟩)
theorem asks_obs {tb : Tb} {o : Own} {r : Int} (h : asks tb o r = true) : ∃ q, obs tb o = some q := by
  unfold asks at h
  cases ho : obs tb o with
  | none => rw [ho] at h; simp at h
  | some q => exact ⟨q, rfl⟩
theorem getS_no {tb : Tb} {s : Ss} {o : Own} {r : Int} (h : getB tb s o r = false) : getS tb s o r = s := by unfold getS; rw [if_neg (by simp [h])]
theorem getS_ok {tb : Tb} {s : Ss} {o : Own} {r : Int} (h : getB tb s o r = true) : getS tb s o r = ⟨s.L ++ [(o, r)], s.i, s.g⟩ := by unfold getS; rw [if_pos h]
theorem dGet {s' : Ss} (h : Bt W w tb v Z y B P a b s' s) (o : Own) (r : Int) (hs : s' = getS tb s o r) : Calls Tryz.prog 43 #[lp P, .agg #[.bool o.isr, I o.id], I r] w (DoQ W w tb v Z y B P a b s' s' (I (getA tb s o r))) := by
  have hk := takes_le h.k.tk h.k.ok
  cases hr : asks tb o r with
  | false =>
    rw [getS_no (by unfold getB; rw [hr]; rfl)] at hs
    subst hs
    have hA : getA tb s' o r = 3 := by unfold getA; rw [hr]; rfl
    rw [hA]
    exact (dGet_no h.d o r hr).mono (fun e w' k => h.dqb k.1 k.2)
  | true =>
    obtain ⟨q, hq⟩ := asks_obs hr
    cases hg : gets tb s.p o r with
    | false =>
      rw [getS_no (by unfold getB; rw [hr, hg]; rfl)] at hs
      have hA : getA tb s o r = 1 := by unfold getA; rw [hr, hg]; rfl
      rw [hA]
      subst hs
      unfold gets at hg
      rw [hq] at hg
      have hc : hdr s'.L r ≠ none ∨ q.own.any (fun x => x == r) = false := by
        cases hh : hdr s'.L r with
        | some x => exact .inl (by simp)
        | none =>
          right
          have h2 : hdr s'.p.L r = none := hh
          rw [h2] at hg
          exact hg
      exact (dGet_bar h.d o r hr hq hc).mono (fun e w' k => h.dqb k.1 k.2)
    | true =>
      rw [getS_ok (by unfold getB; rw [hr, hg]; rfl)] at hs
      have hA : getA tb s o r = 0 := by unfold getA; rw [hr, hg]; rfl
      rw [hA]
      unfold gets at hg
      rw [hq, Bool.and_eq_true] at hg
      have h1 : hdr s.L r = none := Option.isNone_iff_eq_none.1 hg.1
      have h2 : s.L.length + 1 ≤ 65 := by
        have e : s'.p.L.length = s.L.length + 1 := by rw [hs]; simp [Ss.p]
        omega
      refine (dGet_ok h.d o r hr hq h1 hg.2 h2).mono (fun e w' k => ?_)
      obtain ⟨e1, ⟨a', d', hn⟩, hf⟩ := k
      refine ⟨e1, ⟨a', b, h.doc (t' := s') (by rw [hs]; exact d') hn hf⟩, hf⟩
/-! Release -/
def relB (tb : Tb) (s : Ss) (o : Own) (r : Int) : Bool := asks tb o r && decide ((hld s.L o).getLast? = some r)
def relS (tb : Tb) (s : Ss) (o : Own) (r : Int) : Ss := if relB tb s o r = true then ⟨nodR s.L r, s.i, s.g⟩ else s
def relA (tb : Tb) (s : Ss) (o : Own) (r : Int) : Int := if asks tb o r = true then if (hld s.L o).getLast? = some r then 0 else 5 else 3
theorem last_app {l : List Int} {r : Int} (h : l.getLast? = some r) : ∃ xs, l = xs ++ [r] := by
  rcases List.eq_nil_or_concat l with hn | ⟨xs, x, hn⟩
  · rw [hn] at h; cases h
  · rw [List.concat_eq_append] at hn
    subst hn
    simp at h
    exact ⟨xs, by rw [h]⟩
theorem pRelease (h : Bt W w tb v Z y B P a b s t) (o : Own) (ho : o.wf) (r : Int) : Calls Tryz.prog 16 #[lp B, .agg #[.bool o.isr, I o.id], I r] w (PrQ W w tb v Z y B P a b (relS tb s o r) t (I (relA tb s o r))) := by
  unfold relS relA relB
  cases hr : asks tb o r with
  | false => simp only [Bool.false_and, Bool.false_eq_true, if_false]; exact (Release_no h.k o ho r hr).mono (fun e w' k => h.pqb k.1 k.2)
  | true =>
    by_cases hg : (hld s.L o).getLast? = some r
    · obtain ⟨xs, hx⟩ := last_app hg
      simp only [hg, decide_true, Bool.and_self, if_true]
      exact (Release_ok h.k o ho r hr xs hx).mono (fun e w' k => ⟨k.1, h.pro (s' := ⟨nodR s.L r, s.i, s.g⟩) k.2.1 k.2.2, k.2.2⟩)
    · simp only [hg, decide_false, Bool.and_false, Bool.false_eq_true, if_false, if_true]
      exact (Release_bar h.k o ho r hr hg).mono (fun e w' k => h.pqb k.1 k.2)
theorem dm_a {a' : Value} {P : Nat} {a b : Value} {w : World} (hn : ∀ x, a'.ownBlock = some x → w.heap.size ≤ x) : ∀ x, Dm P a' b x → Dm P a b x ∨ w.heap.size ≤ x := by
  rintro x (e | e | e)
  · exact .inl (.inl e)
  · exact .inr (hn x e)
  · exact .inl (.inr (.inr e))
theorem relS_no {tb : Tb} {s : Ss} {o : Own} {r : Int} (h : relB tb s o r = false) : relS tb s o r = s := by unfold relS; rw [if_neg (by simp [h])]
theorem relS_ok {tb : Tb} {s : Ss} {o : Own} {r : Int} (h : relB tb s o r = true) : relS tb s o r = ⟨nodR s.L r, s.i, s.g⟩ := by unfold relS; rw [if_pos h]
theorem dRelease {s' : Ss} (h : Bt W w tb v Z y B P a b s' s) (o : Own) (r : Int) (hs : s' = relS tb s o r) (nd : (s.L.map (·.2)).Nodup) : Calls Tryz.prog 44 #[lp P, .agg #[.bool o.isr, I o.id], I r] w (DoQ W w tb v Z y B P a b s' s' (I (relA tb s o r))) := by
  cases hr : asks tb o r with
  | false =>
    rw [relS_no (by unfold relB; rw [hr]; rfl)] at hs
    have hA : relA tb s o r = 3 := by unfold relA; rw [hr]; rfl
    rw [hA]
    subst hs
    exact (dRelease_no h.d o r hr).mono (fun e w' k => h.dqb k.1 k.2)
  | true =>
    by_cases hg : (hld s.L o).getLast? = some r
    · obtain ⟨xs, hx⟩ := last_app hg
      rw [relS_ok (by unfold relB; rw [hr, decide_eq_true hg]; rfl)] at hs
      have hA : relA tb s o r = 0 := by unfold relA; rw [hr, if_pos rfl, if_pos hg]
      rw [hA]
      refine (dRelease_ok h.d o r hr hx nd).mono (fun e w' k => ?_)
      obtain ⟨e1, ⟨a', d', hn⟩, hf⟩ := k
      have hf2 : Fz (Dm P a b) w w' := hf.mono (fun x e => .inl e)
      exact ⟨e1, ⟨a', b, h.doc (t' := s') (by rw [hs]; exact d') (dm_a hn) hf2⟩, hf2⟩
    · rw [relS_no (by unfold relB; rw [hr, decide_eq_false hg]; rfl)] at hs
      have hA : relA tb s o r = 5 := by unfold relA; rw [hr, if_pos rfl, if_neg hg]
      rw [hA]
      subst hs
      exact (dRelease_bar h.d o r hr hg).mono (fun e w' k => h.dqb k.1 k.2)
/-! Drop -/
def drS (s : Ss) (o : Own) : Ss := match (hld s.L o).getLast? with | some _ => ⟨nodO s.L o, s.i, s.g⟩ | none => s
def drA (s : Ss) (o : Own) : Int := match (hld s.L o).getLast? with | some r => r | none => -1
def drK (s : Ss) (o : Own) : Bool := (hld s.L o).getLast?.isSome
theorem pDrop (h : Bt W w tb v Z y B P a b s t) (o : Own) (ho : o.wf) : Calls Tryz.prog 17 #[lp B, .agg #[.bool o.isr, I o.id]] w (PrQ W w tb v Z y B P a b (drS s o) t (.tuple #[I (drA s o), .bool (drK s o)])) := by
  unfold drS drA drK
  cases hg : (hld s.L o).getLast? with
  | none => exact (Drop_none h.k o ho (List.getLast?_eq_none_iff.1 hg)).mono (fun e w' k => h.pqb k.1 k.2)
  | some r =>
    obtain ⟨xs, hx⟩ := last_app hg
    exact (Drop_ok h.k o ho xs r hx).mono (fun e w' k => ⟨k.1, h.pro (s' := ⟨nodO s.L o, s.i, s.g⟩) k.2.1 k.2.2, k.2.2⟩)
theorem dDrop {s' : Ss} (h : Bt W w tb v Z y B P a b s' s) (o : Own) (hs : s' = drS s o) : Calls Tryz.prog 45 #[lp P, .agg #[.bool o.isr, I o.id]] w (DoQ W w tb v Z y B P a b s' s' (.tuple #[I (drA s o), .bool (drK s o)])) := by
  cases hg : (hld s.L o).getLast? with
  | none =>
    have h1 : drS s o = s := by unfold drS; rw [hg]
    have h2 : drA s o = -1 := by unfold drA; rw [hg]
    have h3 : drK s o = false := by unfold drK; rw [hg]; rfl
    rw [h1] at hs
    rw [h2, h3]
    subst hs
    exact (dDrop_none h.d o (List.getLast?_eq_none_iff.1 hg)).mono (fun e w' k => h.dqb k.1 k.2)
  | some r =>
    obtain ⟨xs, hx⟩ := last_app hg
    have h1 : drS s o = ⟨nodO s.L o, s.i, s.g⟩ := by unfold drS; rw [hg]
    have h2 : drA s o = r := by unfold drA; rw [hg]
    have h3 : drK s o = true := by unfold drK; rw [hg]; rfl
    rw [h1] at hs
    rw [h2, h3]
    refine (dDrop_ok h.d o hx).mono (fun e w' k => ?_)
    obtain ⟨e1, ⟨a', d', hn⟩, hf⟩ := k
    have hf2 : Fz (Dm P a b) w w' := hf.mono (fun x e => .inl e)
    exact ⟨e1, ⟨a', b, h.doc (t' := s') (by rw [hs]; exact d') (dm_a hn) hf2⟩, hf2⟩
end
end Go.Proofs.YtmllocfeflhjoaaGreat

namespace Go.Proofs.YtmllocfeflhjoaaGreat
open Go.RowKit Go.Maps Go.Shelf Go.Sort
open Go.Proofs.YtmllocfeflhjoaaGreat.St (Fx Fz iQ iP iV)
set_option linter.unusedVariables false
set_option linter.unusedSimpArgs false
set_option maxRecDepth 100000
set_option maxHeartbeats 8000000
theorem fI_set {i : List Bool} {k : Nat} (hk : k < i.length) (z : Bool) : fI (i.set k z) = insF (fI i) ⟨false, (k : Int)⟩ z := by
  funext o
  obtain ⟨x, n⟩ := o
  unfold fI insF hasI
  cases x with
  | true => simp
  | false =>
    by_cases h : n = (k : Int)
    · subst h
      simp [hk]
    · have h2 : ¬ ((⟨false, n⟩ : Own) = ⟨false, (k : Int)⟩) := fun e => h (by cases e; rfl)
      rw [if_neg h2]
      by_cases h0 : 0 ≤ n
      · have : k ≠ n.toNat := by omega
        simp [h0, List.getElem?_set_ne this]
      · simp [h0]
theorem fI_none (n : Nat) : fI (List.replicate n false) = fun _ => false := by
  funext o
  unfold fI hasI
  by_cases h : o.id.toNat < n
  · simp [h]
  · simp [h]
section
variable {W w w' : World} {tb : Tb} {v : Ts} {Z : Nat → Prop} {y : Ly} {B P : Nat} {a b : Value} {s t : Ss}
/-! Enter, Leave -/
def entS (tb : Tb) (s : Ss) (n : Int) (on : Bool) : Ss := match obs tb (tkO n) with | some q => ⟨s.L, s.i.set n.toNat (on && (q.inner != -1)), s.g⟩ | none => s
def entA (tb : Tb) (n : Int) : Int := match obs tb (tkO n) with | some _ => 0 | none => 2
theorem ent_k {tb : Tb} {n : Int} {q : Ob} (h : obs tb (tkO n) = some q) : ∃ (k : Nat) (x : TkR), n = (k : Int) ∧ tb.tasks[k]? = some x ∧ q.inner = x.inner := by
  rcases obs_cases h with ⟨j, x, e, -, -⟩ | ⟨j, x, e, hx, rfl⟩
  · cases e
  · cases e
    exact ⟨j, x, rfl, hx, rfl⟩
theorem pEnter (h : Bt W w tb v Z y B P a b s t) (hl : s.i.length = tb.tasks.length) (n : Int) (hw : (tkO n).wf) : Calls Tryz.prog 12 #[lp B, I n] w (PrQ W w tb v Z y B P a b (entS tb s n true) t (I (entA tb n))) := by
  cases ho : obs tb (tkO n) with
  | none =>
    have h1 : entS tb s n true = s := by unfold entS; rw [ho]
    have h2 : entA tb n = 2 := by unfold entA; rw [ho]
    rw [h1, h2]
    exact (Enter_no h.k n hw ho).mono (fun e w' k => h.pqb k.1 k.2)
  | some q =>
    obtain ⟨k, x, rfl, hx, hq⟩ := ent_k ho
    have hk : k < s.i.length := by rw [hl]; exact (List.getElem?_eq_some_iff.1 hx).1
    have h1 : entS tb s k true = ⟨s.L, s.i.set k (q.inner != -1), s.g⟩ := by unfold entS; rw [ho]; simp
    have h2 : entA tb k = 0 := by unfold entA; rw [ho]
    rw [h1, h2]
    refine (Enter_ok h.k k hw q ho).mono (fun e w' k' => ⟨k'.1, h.pro ?_ k'.2.2, k'.2.2⟩)
    have := k'.2.1
    unfold Ss.p at this ⊢
    rw [fI_set hk]
    exact this
theorem pLeave (h : Bt W w tb v Z y B P a b s t) (hl : s.i.length = tb.tasks.length) (n : Int) (hw : (tkO n).wf) : Calls Tryz.prog 24 #[lp B, I n] w (PrQ W w tb v Z y B P a b (entS tb s n false) t (I (entA tb n))) := by
  cases ho : obs tb (tkO n) with
  | none =>
    have h1 : entS tb s n false = s := by unfold entS; rw [ho]
    have h2 : entA tb n = 2 := by unfold entA; rw [ho]
    rw [h1, h2]
    exact (Leave_no h.k n hw ho).mono (fun e w' k => h.pqb k.1 k.2)
  | some q =>
    obtain ⟨k, x, rfl, hx, hq⟩ := ent_k ho
    have hk : k < s.i.length := by rw [hl]; exact (List.getElem?_eq_some_iff.1 hx).1
    have h1 : entS tb s k false = ⟨s.L, s.i.set k false, s.g⟩ := by unfold entS; rw [ho]; simp
    have h2 : entA tb k = 0 := by unfold entA; rw [ho]
    rw [h1, h2]
    refine (Leave_ok h.k k hw q ho).mono (fun e w' k' => ⟨k'.1, h.pro ?_ k'.2.2, k'.2.2⟩)
    have := k'.2.1
    unfold Ss.p at this ⊢
    rw [fI_set hk]
    exact this
theorem dEnter {s' : Ss} (h : Bt W w tb v Z y B P a b s' s) (n : Int) (on : Bool) (hs : s' = entS tb s n on) : Calls Tryz.prog 46 #[lp P, I n, .bool on] w (DoQ W w tb v Z y B P a b s' s' (I (entA tb n))) := by
  have hl := h.d.n
  cases ho : obs tb (tkO n) with
  | none =>
    have h1 : entS tb s n on = s := by unfold entS; rw [ho]
    have h2 : entA tb n = 2 := by unfold entA; rw [ho]
    rw [h1] at hs
    rw [h2]
    subst hs
    have hn : n < 0 ∨ (s'.i.length : Int) ≤ n := by
      by_cases h0 : n < 0
      · exact .inl h0
      · right
        obtain ⟨k, rfl⟩ := Int.eq_ofNat_of_zero_le (show 0 ≤ n by omega)
        by_cases hk : k < tb.tasks.length
        · have := obs_task (List.getElem?_eq_getElem hk)
          rw [ho] at this
          cases this
        · omega
    exact (dEnter_no h.d n hn on).mono (fun e w' k => h.dqb k.1 (by rw [← k.2]; exact Below.refl _ _))
  | some q =>
    obtain ⟨k, x, rfl, hx, hq⟩ := ent_k ho
    have hk : k < s.i.length := by rw [hl]; exact (List.getElem?_eq_some_iff.1 hx).1
    have h1 : entS tb s k on = ⟨s.L, s.i.set k (on && (q.inner != -1)), s.g⟩ := by unfold entS; rw [ho]; simp
    have h2 : entA tb k = 0 := by unfold entA; rw [ho]
    rw [h1] at hs
    rw [h2]
    have hin : (q.inner != -1) = decide (0 ≤ x.inner) := by
      rw [hq]
      rcases h.d.tk.inner x (List.mem_of_getElem? hx) with e | e
      · rw [e]; rfl
      · rw [decide_eq_true e]
        simp
        omega
    cases on with
    | true =>
      rw [Bool.true_and, hin] at hs
      exact (dEnter_on h.d (List.getElem?_eq_getElem hk) hx).mono (fun e w' k' => ⟨k'.1, ⟨a, b, h.doc (t' := s') (by rw [hs]; exact k'.2.1) (fun x hx => .inl hx) k'.2.2⟩, k'.2.2⟩)
    | false =>
      rw [Bool.false_and] at hs
      exact (dEnter_off h.d (List.getElem?_eq_getElem hk) hx).mono (fun e w' k' => ⟨k'.1, ⟨a, b, h.doc (t' := s') (by rw [hs]; exact k'.2.1) (fun x hx => .inl hx) k'.2.2⟩, k'.2.2⟩)
/-! the gate -/
def gatS (s : Ss) (g : Gt) : Ss := ⟨s.L, s.i, g⟩
theorem pClose (h : Bt W w tb v Z y B P a b s t) : Calls Tryz.prog 13 #[lp B] w (PrQ W w tb v Z y B P a b (gatS s ⟨true, s.g.all, s.g.os⟩) t (I 0)) :=
  (Close_any h.k).mono (fun e w' k => ⟨k.1, h.pro (s' := gatS s ⟨true, s.g.all, s.g.os⟩) k.2.1 k.2.2, k.2.2⟩)
theorem pOpen (h : Bt W w tb v Z y B P a b s t) : Calls Tryz.prog 25 #[lp B] w (PrQ W w tb v Z y B P a b (gatS s ⟨false, s.g.all, s.g.os⟩) t (I 0)) :=
  (Open_any h.k).mono (fun e w' k => ⟨k.1, h.pro (s' := gatS s ⟨false, s.g.all, s.g.os⟩) k.2.1 k.2.2, k.2.2⟩)
theorem Bt.shut (h : Bt W w tb v Z y B P a b s t) (x : Bool) : Bt W (w.setCell ⟨P, 15, none⟩ (.bool x)) tb v Z y B P a b s (gatS t ⟨x, t.g.all, t.g.os⟩) ∧ Fz (Dm P a b) w (w.setCell ⟨P, 15, none⟩ (.bool x)) := by
  obtain ⟨h1, h2⟩ := h.d.setG (fz_set w P 15 (.bool x)) ((setD h.d.o).1 x)
  exact ⟨h.doc (t' := gatS t ⟨x, t.g.all, t.g.os⟩) h1 (fun _ hx => .inl hx) h2, h2⟩
theorem pSuspend (h : Bt W w tb v Z y B P a b s t) (x : Bool) : Calls Tryz.prog 26 #[lp B, .bool x] w (PrQ W w tb v Z y B P a b (gatS s (cntG s.g x 1)) t (I 0)) :=
  (Suspend_any h.k x).mono (fun e w' k => ⟨k.1, h.pro (s' := gatS s (cntG s.g x 1)) k.2.1 k.2.2, k.2.2⟩)
theorem pResume (h : Bt W w tb v Z y B P a b s t) (x : Bool) : Calls Tryz.prog 27 #[lp B, .bool x] w (PrQ W w tb v Z y B P a b (gatS s (cntG s.g x (-1))) t (I 0)) :=
  (Resume_any h.k x).mono (fun e w' k => ⟨k.1, h.pro (s' := gatS s (cntG s.g x (-1))) k.2.1 k.2.2, k.2.2⟩)
theorem dCnt (h : Bt W w tb v Z y B P a b s s) (x : Bool) (k : Int) (hk : k = 1 ∨ k = -1) : Calls Tryz.prog 47 #[lp P, .bool x, I k] w (DoQ W w tb v Z y B P a b s (gatS s (cntG s.g x k)) (.tuple #[])) :=
  (dCount h.d h.k.ok.g x k hk).mono (fun e w' k' => ⟨k'.1, ⟨a, b, h.doc (t' := gatS s (cntG s.g x k)) k'.2.1 (fun _ hx => .inl hx) k'.2.2⟩, k'.2.2⟩)
def putS (s : Ss) (g : Gt) : Ss := if mayG g = true then gatS s g else s
def putA (g : Gt) : Int := if mayG g = true then 0 else 2
theorem pPut (h : Bt W w tb v Z y B P a b s t) (g : Gt) : Calls Tryz.prog 28 #[lp B, .agg #[.bool g.shut, I g.all, I g.os]] w (PrQ W w tb v Z y B P a b (putS s g) t (I (putA g))) := by
  cases hg : mayG g with
  | true =>
    have h1 : putS s g = gatS s g := by unfold putS; rw [if_pos hg]
    have h2 : putA g = 0 := by unfold putA; rw [if_pos hg]
    rw [h1, h2]
    exact (Put_ok h.k g hg).mono (fun e w' k => ⟨k.1, h.pro (s' := gatS s g) k.2.1 k.2.2, k.2.2⟩)
  | false =>
    have h1 : putS s g = s := by unfold putS; rw [if_neg (by simp [hg])]
    have h2 : putA g = 2 := by unfold putA; rw [if_neg (by simp [hg])]
    rw [h1, h2]
    exact (Put_no h.k g hg).mono (fun e w' k => h.pqb k.1 k.2)
theorem dPut {s' : Ss} (h : Bt W w tb v Z y B P a b s' s) (g : Gt) (hs : s' = putS s g) : Calls Tryz.prog 48 #[lp P, .agg #[.bool g.shut, I g.all, I g.os]] w (DoQ W w tb v Z y B P a b s' s' (I (putA g))) := by
  cases hg : mayG g with
  | true =>
    have h1 : putS s g = gatS s g := by unfold putS; rw [if_pos hg]
    have h2 : putA g = 0 := by unfold putA; rw [if_pos hg]
    rw [h1] at hs
    rw [h2]
    exact (dPut_ok h.d g hg).mono (fun e w' k => ⟨k.1, ⟨a, b, h.doc (t' := s') (by rw [hs]; exact k.2.1) (fun _ hx => .inl hx) k.2.2⟩, k.2.2⟩)
  | false =>
    have h1 : putS s g = s := by unfold putS; rw [if_neg (by simp [hg])]
    have h2 : putA g = 2 := by unfold putA; rw [if_neg (by simp [hg])]
    rw [h1] at hs
    rw [h2]
    subst hs
    exact (dPut_no h.d g hg).mono (fun e w' k => h.dqb k.1 k.2)
/-! Reset -/
def rstS (tb : Tb) : Ss := ⟨[], List.replicate tb.tasks.length false, ⟨false, 0, 0⟩⟩
theorem dRst (h : Bt W w tb v Z y B P a b s t) : Calls Tryz.prog 49 #[lp P] w (DoQ W w tb v Z y B P a b s (rstS tb) (.tuple #[])) := by
  refine (dReset h.d).mono (fun e w' k => ?_)
  obtain ⟨e1, ⟨b', d', hn⟩, hf⟩ := k
  have hf2 : Fz (Dm P a b) w w' := hf.mono (fun x e => .inl e)
  refine ⟨e1, ⟨_, b', h.doc (t' := rstS tb) d' ?_ hf2⟩, hf2⟩
  rintro x (e | e | e)
  · exact .inl (.inl e)
  · cases e
  · exact .inr (hn x e)
theorem pRst (h : Bt W w tb v Z y B P a b s t) : Calls Tryz.prog 29 #[lp B] w (PrQ W w tb v Z y B P a b (rstS tb) t (I 0)) := by
  refine (Reset_any h.k h.zl).mono (fun e w' k => ?_)
  have hf : Fz (y.M B) w w' := k.2.2.mono (fun x e => Ly.M2.m e)
  refine ⟨k.1, h.pro (s' := rstS tb) ?_ hf, hf⟩
  unfold Ss.p rstS
  rw [fI_none]
  exact k.2.1
end
end Go.Proofs.YtmllocfeflhjoaaGreat

namespace Go.Proofs.YtmllocfeflhjoaaGreat
open Go.RowKit Go.ChangeShapes Go.WideShapes
set_option linter.unusedVariables false

/-! ### Calls that came in, opened -/
structure Cl where
  kind : Int
  o : Own
  n : Int
  all : Bool
  g : Gt
def clV (x : Cl) (i : Nat) (u : Value) : Prop := match i with | 0 => u = I x.kind | 1 => u = .bool x.o.isr | 2 => u = I x.o.id | 3 => u = I x.n | 4 => u = .bool x.all | 5 => u = .bool x.g.shut | 6 => u = I x.g.all | _ => u = I x.g.os
def clP (x : Cl) (i : Nat) (u : Value) : Prop := clV x i u ∧ x.o.wf ∧ (Lit.int .i64 x.n).wf = true
theorem p_own : Tryz.prog.cellsOf 23 = 2 := by kernel_rfl
theorem p_gate : Tryz.prog.cellsOf 25 = 3 := by kernel_rfl
theorem p_call : Tryz.prog.cellsOf 51 = 8 := by kernel_rfl
set_option maxRecDepth 100000 in
theorem own_open {H : Type} {enc : TypeId × Value → H} {w : World} {spare : Nat → Bool} {held : Bool} {r : Reach} {b0 : Nat} {v : Value} {d : DataW H} {p : List MemPlace}
    (hv : Value.okWide Tryz.prog w r b0 23 v) (h : DataW.Trod enc Tryz.prog w 0 spare held 23 v d p) : ∃ (x : Bool) (i : Int), v = .agg #[.bool x, I i] := by
  obtain ⟨cs, rfl, hsz⟩ := okWide_struct Tryz.underlying23 hv
  rw [p_own] at hsz
  obtain ⟨l⟩ := cs
  obtain ⟨c0, c1, rfl⟩ := list29 (l := l) (by simpa using hsz)
  obtain ⟨fuel, hf⟩ := h
  obtain ⟨xs, n, hn, hx, hl, hlen, hfs⟩ := DataW.trod_struct Tryz.underlying23 hf
  match xs, hlen with
  | [y0, y1], _ =>
    have h0 := hfs 0 _ rfl
    have h1 := hfs 1 _ rfl
    simp [p9_bool, p9_int, Value.cells] at h0 h1
    obtain ⟨v0, e0, _⟩ := DataW.trod_bool Tryz.underlying4 h0
    obtain ⟨v1, e1, _, b1⟩ := DataW.trod_int Tryz.underlying3 h1
    simp at e0 e1
    subst e0 e1
    exact ⟨v0, v1, rfl⟩
set_option maxRecDepth 100000 in
theorem gate_open {H : Type} {enc : TypeId × Value → H} {w : World} {spare : Nat → Bool} {held : Bool} {r : Reach} {b0 : Nat} {v : Value} {d : DataW H} {p : List MemPlace}
    (hv : Value.okWide Tryz.prog w r b0 25 v) (h : DataW.Trod enc Tryz.prog w 0 spare held 25 v d p) : ∃ (x : Bool) (a b : Int), v = .agg #[.bool x, I a, I b] := by
  obtain ⟨cs, rfl, hsz⟩ := okWide_struct Tryz.underlying25 hv
  rw [p_gate] at hsz
  obtain ⟨l⟩ := cs
  obtain ⟨c0, c1, c2, rfl⟩ := list3 (l := l) (by simpa using hsz)
  obtain ⟨fuel, hf⟩ := h
  obtain ⟨xs, n, hn, hx, hl, hlen, hfs⟩ := DataW.trod_struct Tryz.underlying25 hf
  match xs, hlen with
  | [y0, y1, y2], _ =>
    have h0 := hfs 0 _ rfl
    have h1 := hfs 1 _ rfl
    have h2 := hfs 2 _ rfl
    simp [p9_bool, p9_int, Value.cells] at h0 h1 h2
    obtain ⟨v0, e0, _⟩ := DataW.trod_bool Tryz.underlying4 h0
    obtain ⟨v1, e1, _, b1⟩ := DataW.trod_int Tryz.underlying3 h1
    obtain ⟨v2, e2, _, b2⟩ := DataW.trod_int Tryz.underlying3 h2
    simp at e0 e1 e2
    subst e0 e1 e2
    exact ⟨v0, v1, v2, rfl⟩
set_option maxRecDepth 100000 in
theorem one_call {H : Type} {enc : TypeId × Value → H} {w : World} {spare : Nat → Bool} {held : Bool} (n : Nat) (cs : List Value) (z : DataW H × List MemPlace) (hl : cs.length = 8) (h : DataW.trod enc Tryz.prog w 0 spare held n 51 cs = some z) : ∃ x : Cl, ∀ i, i < 8 → ∃ u, cs[i]? = some u ∧ clP x i u := by
  obtain ⟨c0, c1, c2, c3, c4, c5, c6, c7, rfl⟩ := list8 hl
  obtain ⟨xs, n, hn, hx, hl, hlen, hfs⟩ := DataW.trod_struct Tryz.underlying51 h
  match xs, hlen with
  | [y0, y1, y2, y3, y4], _ =>
    have h0 := hfs 0 _ rfl
    have h1 := hfs 1 _ rfl
    have h2 := hfs 2 _ rfl
    have h3 := hfs 3 _ rfl
    have h4 := hfs 4 _ rfl
    simp [p_own, p_gate, p9_int, p9_bool] at h0 h1 h2 h3 h4
    obtain ⟨v0, e0, _, b0⟩ := DataW.trod_int Tryz.underlying3 h0
    obtain ⟨v3, e3, _, b3⟩ := DataW.trod_int Tryz.underlying3 h2
    obtain ⟨v4, e4, _⟩ := DataW.trod_bool Tryz.underlying4 h3
    obtain ⟨ys, m, _, _, _, ylen, yfs⟩ := DataW.trod_struct Tryz.underlying23 h1
    obtain ⟨zs, m2, _, _, _, zlen, zfs⟩ := DataW.trod_struct Tryz.underlying25 h4
    match ys, ylen, zs, zlen with
    | [z0, z1], _, [z2, z3, z4], _ =>
      have g0 := yfs 0 _ rfl
      have g1 := yfs 1 _ rfl
      have g2 := zfs 0 _ rfl
      have g3 := zfs 1 _ rfl
      have g4 := zfs 2 _ rfl
      simp [p9_int, p9_bool] at g0 g1 g2 g3 g4
      obtain ⟨v1, e1, _⟩ := DataW.trod_bool Tryz.underlying4 g0
      obtain ⟨v2, e2, _, b2⟩ := DataW.trod_int Tryz.underlying3 g1
      obtain ⟨v5, e5, _⟩ := DataW.trod_bool Tryz.underlying4 g2
      obtain ⟨v6, e6, _, b6⟩ := DataW.trod_int Tryz.underlying3 g3
      obtain ⟨v7, e7, _, b7⟩ := DataW.trod_int Tryz.underlying3 g4
      simp at e0 e1 e2 e3 e4 e5 e6 e7
      subst e0 e1 e2 e3 e4 e5 e6 e7
      refine ⟨⟨v0, ⟨v1, v2⟩, v3, v4, ⟨v5, v6, v7⟩⟩, fun i hi => ?_⟩
      rcases (by omega : i = 0 ∨ i = 1 ∨ i = 2 ∨ i = 3 ∨ i = 4 ∨ i = 5 ∨ i = 6 ∨ i = 7) with rfl | rfl | rfl | rfl | rfl | rfl | rfl | rfl
      · exact ⟨_, rfl, rfl, b2, b3⟩
      · exact ⟨_, rfl, rfl, b2, b3⟩
      · exact ⟨_, rfl, rfl, b2, b3⟩
      · exact ⟨_, rfl, rfl, b2, b3⟩
      · exact ⟨_, rfl, rfl, b2, b3⟩
      · exact ⟨_, rfl, rfl, b2, b3⟩
      · exact ⟨_, rfl, rfl, b2, b3⟩
      · exact ⟨_, rfl, rfl, b2, b3⟩
end Go.Proofs.YtmllocfeflhjoaaGreat

