import Derived.Test.YtckmdkdhnhkdhaaZpl
import Derived.Deep.Cut
namespace Go.Proofs.Ytckmdkdhnhkdhaa
open Go.RowKit
set_option linter.unusedVariables false
set_option linter.unusedSimpArgs false

/-! ### StackPairs -/
def pQ (w : World) (B g n hi : Nat) (xs : List Pa) : Prop := ∃ R, pSk w B g n hi R xs
theorem snoc_pairs {α : Type} (l : List α) : l = [] ∨ ∃ t x, l = t ++ [x] := by
  rcases h : l.reverse with _ | ⟨x, t⟩
  · exact .inl (by simpa using h)
  · exact .inr ⟨t.reverse, x, by have := congrArg List.reverse h; simpa using this⟩
theorem ty_nep {w : World} {a b : Nat} {c d : Array Value} {S T : TypeId} (ha : w.heap[a]? = some (.cells c S)) (hb : w.heap[b]? = some (.cells d T)) (h : S ≠ T) : a ≠ b := fun e => by
  subst e
  rw [ha] at hb
  simp only [Option.some.injEq, Obj.cells.injEq] at hb
  exact h hb.2.1
theorem fnd_two {α β γ : Type} (l : List γ) (f : γ → α) (g : γ → β) (p : α → Bool) (q : β → Bool) (h : ∀ x ∈ l, p (f x) = q (g x)) : fndO p (l.map f) = fndO q (l.map g) := by
  have e : (l.map f).findIdx? p = (l.map g).findIdx? q := by
    rw [List.findIdx?_map, List.findIdx?_map]
    induction l with
    | nil => rfl
    | cons a t ih =>
      have h1 := h a (List.mem_cons_self ..)
      have h2 := ih (fun x hx => h x (List.mem_cons_of_mem _ hx))
      simp [List.findIdx?_cons, h1, h2]
  unfold fndO
  rw [e]
def thg (ths : List Pa) (k : Nat) : Pa := ths.getD k zx
theorem Canon.at {ths : List Pa} {k : Nat} (h : Canon ths k) : ths[k]? = some (thg ths k) := by
  obtain ⟨x, hx, _⟩ := h
  rw [hx, thg, List.getD_eq_getElem?_getD, hx]
  rfl
theorem Canon.lt {ths : List Pa} {k : Nat} (h : Canon ths k) : k < ths.length := (List.getElem?_eq_some_iff.1 h.at).1
theorem Canon.eq {ths : List Pa} {k j : Nat} (h : Canon ths k) (hj : Canon ths j) : pEq (thg ths j) (thg ths k) = iEq (j : Int) (k : Int) := by
  have a1 := h.at
  have a2 := hj.at
  obtain ⟨x, hx, hn⟩ := h
  obtain ⟨y, hy, hm⟩ := hj
  obtain rfl : x = thg ths k := by rw [hx] at a1; exact Option.some.inj a1
  obtain rfl : y = thg ths j := by rw [hy] at a2; exact Option.some.inj a2
  unfold iEq
  rcases Nat.lt_trichotomy j k with e | e | e
  · rw [hn j _ e hy]
    have : ¬ (j : Int) = k := by omega
    simp [this]
  · subst e
    rw [pEq_refl]
    simp
  · rw [pEq_comm, hm k _ e hx]
    have : ¬ (j : Int) = k := by omega
    simp [this]
def kI (ks : List Nat) : List Int := ks.map fun (k : Nat) => (k : Int)
theorem kI_len (ks : List Nat) : (kI ks).length = ks.length := by simp [kI]
/-- Both stacks: things, and the numbers that stand for them. -/
structure LtI (W wr : World) (ths : List Pa) (B g D n hi hd : Nat) (v : Value) (ks kd : List Nat) : Prop where
  q : pQ wr B g n hi (ks.map (thg ths))
  d : Ds wr D n hd v (kI kd)
  c : ∀ k ∈ ks, Canon ths k
  b : Below W.heap.size W wr
  k : W.heap.size ≤ B ∧ W.heap.size ≤ g ∧ ∀ b, Db D v b → W.heap.size ≤ b
section
variable {W wr w' : World} {ths : List Pa} {B g D n hi hd hi' : Nat} {v v' : Value} {ks kd ks' : List Nat}
theorem LtI.below (h : LtI W wr ths B g D n hi hd v ks kd) (hb : Below wr.heap.size wr w') : LtI W w' ths B g D n hi hd v ks kd := by
  obtain ⟨R, hR⟩ := h.q
  exact ⟨⟨R, hR.below hb⟩, h.d.below hb, h.c, h.b.trans (hb.mono h.b.size), h.k⟩
theorem LtI.apart (h : LtI W wr ths B g D n hi hd v ks kd) : ∀ b, Db D v b → b ≠ B ∧ b ≠ g := fun b hb => by
  obtain ⟨R, hR⟩ := h.q
  rcases hb with rfl | e
  · exact ⟨ty_nep h.d.o hR.o (by decide), ty_nep h.d.o hR.q (by decide)⟩
  · rcases h.d.p.2 with ⟨h3, _⟩ | ⟨g', cap, cur, h3, _, hh, _⟩
    · rw [h3] at e; cases e
    · rw [h3] at e
      obtain rfl : g' = b := by simpa [Value.ownBlock] using e
      exact ⟨ty_nep hh hR.o (by decide), ty_nep hh hR.q (by decide)⟩
theorem LtI.prog (h : LtI W wr ths B g D n hi hd v ks kd) (hq : pQ w' B g n hi' (ks'.map (thg ths))) (hc : ∀ k ∈ ks', Canon ths k) (hf : Fx [B, g] wr w') : LtI W w' ths B g D n hi' hd v ks' kd :=
  ⟨hq, h.d.keptZ (M := fun b => b = B ∨ b = g) (Fz.of_fx hf (fun x hx => by simpa using hx)) (fun b hb e => by have := h.apart b hb; rcases e with e | e; exact this.1 e; exact this.2 e), hc, h.b.trans (hf.below h.b.size (by have := h.k; simp; omega)), h.k⟩
theorem LtI.doc {hd' : Nat} {kd' : List Nat} (h : LtI W wr ths B g D n hi hd v ks kd) (hd2 : Ds w' D n hd' v' (kI kd')) (hv : Vn wr v v') (hf : Fz (Db D v) wr w') : LtI W w' ths B g D n hi hd' v' ks kd' := by
  obtain ⟨R, hR⟩ := h.q
  have hs := h.b.size
  refine ⟨⟨R, hR.keptZ hf (fun e => (h.apart B e).1 rfl) (fun e => (h.apart g e).2 rfl)⟩, hd2, h.c, h.b.trans (hf.below h.b.size h.k.2.2), ⟨h.k.1, h.k.2.1, fun b hb => ?_⟩⟩
  rcases hb with rfl | e
  · exact h.k.2.2 b (.inl rfl)
  · rcases hv b e with e1 | e1
    · exact h.k.2.2 b (.inr e1)
    · omega
theorem pairsPush {k : Nat} (h : LtI W wr ths B g D n hi hi v ks ks) (hk : Canon ths k) : ∃ (c : Int) (hi' : Nat) (ks' : List Nat), (-100000 ≤ c ∧ c ≤ 100000) ∧ (∀ Z, Below wr.heap.size wr Z → Calls Try.prog 20 #[pP B, pV (thg ths k)] Z fun e w' => e = .returned (I c) ∧ LtI W w' ths B g D n hi' hi v ks' ks) ∧ (∀ Z, LtI W Z ths B g D n hi' hi v ks' ks → Calls Try.prog 21 #[dP D, I k] Z fun e w' => e = .returned (I c) ∧ ∃ v', LtI W w' ths B g D n hi' hi' v' ks' ks') := by
  have hle := h.d.le
  rw [kI_len] at hle
  by_cases hc : ks.length < n
  · refine ⟨0, max hi (ks.length + 1), ks ++ [k], by decide, fun Z hb => ?_, fun Z hz => ?_⟩
    · obtain ⟨R, hR⟩ := (h.below hb).q
      refine (pPush_ok hR (by simpa using hc) (thg ths k).1 (thg ths k).2).mono ?_
      rintro e w' ⟨rfl, q1, f1⟩
      exact ⟨rfl, (h.below hb).prog ⟨_, by simpa using q1⟩ (fun j hj => by simp at hj; rcases hj with hj | rfl; exact h.c j hj; exact hk) f1⟩
    · refine (dPush_ok hz.d (by rw [kI_len]; exact hc) (k : Int)).mono ?_
      rintro e w' ⟨rfl, v', d1, n1, f1⟩
      rw [kI_len, show kI ks ++ [(k : Int)] = kI (ks ++ [k]) by simp [kI]] at d1
      exact ⟨rfl, v', hz.doc d1 n1 f1⟩
  · have hc2 : ks.length = n := by omega
    refine ⟨141, hi, ks, by decide, fun Z hb => ?_, fun Z hz => ?_⟩
    · obtain ⟨R, hR⟩ := (h.below hb).q
      refine (pPush_full hR (by simpa using hc2) (thg ths k).1 (thg ths k).2).mono ?_
      rintro e w' ⟨rfl, b1⟩
      exact ⟨rfl, (h.below hb).below b1⟩
    · refine (dPush_full hz.d (by rw [kI_len]; exact hc2) (k : Int)).mono ?_
      rintro e w' ⟨rfl, b1⟩
      exact ⟨rfl, v, hz.below b1⟩
theorem pairsPop {t : List Nat} {k : Nat} (h : LtI W wr ths B g D n hi hi v (t ++ [k]) (t ++ [k])) : (∀ Z, Below wr.heap.size wr Z → Calls Try.prog 22 #[pP B] Z fun e w' => e = .returned (.tuple #[pV (thg ths k), I 0]) ∧ LtI W w' ths B g D n hi hi v t (t ++ [k])) ∧ (∀ Z, LtI W Z ths B g D n hi hi v t (t ++ [k]) → Calls Try.prog 23 #[dP D] Z fun e w' => e = .returned (.tuple #[I k, I 0]) ∧ (∃ v', LtI W w' ths B g D n hi hi v' t t) ∧ Fz (Db D v) Z w') := by
  refine ⟨fun Z hb => ?_, fun Z hz => ?_⟩
  · obtain ⟨R, hR⟩ := (h.below hb).q
    rw [List.map_append] at hR
    refine (pPop_ok (thg ths k) (l := t.map (thg ths)) hR).mono ?_
    rintro e w' ⟨rfl, q1, f1⟩
    exact ⟨rfl, (h.below hb).prog q1 (fun j hj => h.c j (by simp [hj])) f1⟩
  · have hd := hz.d
    rw [show kI (t ++ [k]) = kI t ++ [(k : Int)] by simp [kI]] at hd
    refine (dPop_ok (k : Int) hd).mono ?_
    rintro e w' ⟨rfl, v', d1, n1, f1⟩
    exact ⟨rfl, ⟨v', hz.doc d1 n1 f1⟩, f1⟩
theorem pairsPopN (h : LtI W wr ths B g D n hi hi v [] []) : (∀ Z, Below wr.heap.size wr Z → Calls Try.prog 22 #[pP B] Z fun e w' => e = .returned (.tuple #[.agg #[I 0, .string ⟨#[]⟩], I 142]) ∧ LtI W w' ths B g D n hi hi v [] []) ∧ (∀ Z, LtI W Z ths B g D n hi hi v [] [] → Calls Try.prog 23 #[dP D] Z fun e w' => e = .returned (.tuple #[I 0, I 142]) ∧ LtI W w' ths B g D n hi hi v [] [] ∧ Fz (Db D v) Z w') := by
  refine ⟨fun Z hb => ?_, fun Z hz => ?_⟩
  · obtain ⟨R, hR⟩ := (h.below hb).q
    refine (pPop_no hR).mono ?_
    rintro e w' ⟨rfl, b1⟩
    exact ⟨rfl, (h.below hb).below b1⟩
  · refine (dPop_no hz.d).mono ?_
    rintro e w' ⟨rfl, rfl⟩
    exact ⟨rfl, hz, Fz.refl _ _⟩
theorem pairsFind {k : Nat} (h : LtI W wr ths B g D n hi hi v ks ks) (hk : Canon ths k) : ∃ (r : Nat × Bool), (∀ Z, Below wr.heap.size wr Z → Calls Try.prog 24 #[pP B, pV (thg ths k)] Z fun e w' => e = .returned (.tuple #[I r.1, .bool r.2]) ∧ Below Z.heap.size Z w') ∧ (∀ Z, Below wr.heap.size wr Z → Calls Try.prog 25 #[dP D, I k] Z fun e w' => e = .returned (.tuple #[I r.1, .bool r.2]) ∧ Below Z.heap.size Z w') := by
  refine ⟨fndO (fun x => iEq x (k : Int)) (kI ks).reverse, fun Z hb => ?_, fun Z hb => dFind_any (h.below hb).d (k : Int)⟩
  obtain ⟨R, hR⟩ := (h.below hb).q
  have := pFind_any hR (thg ths k).1 (thg ths k).2
  rw [show fndO (fun x => pEq x ((thg ths k).1, (thg ths k).2)) (ks.map (thg ths)).reverse = fndO (fun x => iEq x (k : Int)) (kI ks).reverse by
    unfold kI
    rw [← List.map_reverse, ← List.map_reverse]
    exact fnd_two _ _ _ _ _ (fun j hj => hk.eq (h.c j (by simpa using hj)))] at this
  exact this
end
set_option maxHeartbeats 8000000 in
set_option maxRecDepth 100000 in
theorem pairs_no (W : World) (dp : Int) (hr : dp < 0 ∨ 1024 < dp) (s1 : Sl) (ths : List Pa) (h1 : s1.n = ths.length) (a2 : Option Addr) (m c2 : Nat) (hm : m ≤ 17592186043904) : Calls Try.prog 4 #[I dp, .slice s1.a s1.n s1.c, .slice a2 m c2] W fun e w' => e = .returned (.bool true) ∧ Below W.heap.size W w' := by
  obtain ⟨a1, n1, c1⟩ := s1
  have N1 := pNew_no W dp hr
  have N2 := dNew_no W dp hr
  simp only at h1
  subst h1
  clear hr
  by_cases h0 : ths.length = 0
  · have h0b : ((ths.length : Int) == 0) = true := by simp [h0]
    go_enter Try.func4, Try.ntmps4
    go_wp2_with (first
      | (go_at_call 11; refine (num_any _ (by decide) _).mono ?_; rintro e w9 ⟨rfl, rfl⟩)
      | (go_at_call 17; refine N1.mono ?_; clear N1; rintro e w1 ⟨rfl, rfl⟩)
      | (go_at_call 18; refine N2.mono ?_; clear N2; rintro e w2 ⟨rfl, c20, b2⟩)
      | (go_at_call 16; refine (alive_any _).mono ?_; rintro e w8 ⟨rfl, b8⟩))
    go_ret
    exact ⟨rfl, b2.trans (b8.mono b2.size)⟩
  · have h0b : ((ths.length : Int) == 0) = false := by rw [beq_eq_false_iff_ne]; omega
    go_enter Try.func4, Try.ntmps4
    go_wp2_with (first
      | (go_at_call 11; refine (num_any _ (by decide) _).mono ?_; rintro e w9 ⟨rfl, rfl⟩)
      | (go_at_call 17; refine N1.mono ?_; clear N1; rintro e w1 ⟨rfl, rfl⟩)
      | (go_at_call 18; refine N2.mono ?_; clear N2; rintro e w2 ⟨rfl, c20, b2⟩))
    go_loopw [11] (fun vi wr => vi = .int .i64 0 ∧ w2 = wr) (fun _ _ => 0)
    case atStart => exact ⟨rfl, rfl⟩
    case round =>
      obtain ⟨rfl, rfl⟩ := hrel
      go_wp2_with (first
        | (go_at_call 16; refine (alive_any _).mono ?_; rintro e w8 ⟨rfl, b8⟩))
      all_goals
        go_ret
        exact ⟨rfl, b2.trans (b8.mono b2.size)⟩
end Go.Proofs.Ytckmdkdhnhkdhaa
