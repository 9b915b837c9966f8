import Derived.Test.YtncgdbjjlhohiabOwnA
namespace Go.Proofs.Ytncgdbjjlhohiab
open Go.RowKit
set_option linter.unusedVariables false

/-- What the rows hold once they are written over. -/
def over2 (nn : Nat → Nat) (k : Nat) : List Value := rep (nn k) (2 * k)
theorem OwnSt.congr {w wr : World} {base N b0 : Nat} {E : Nat → Value} {nn : Nat → Nat} {X F : Nat → List Value} (h : OwnSt w wr base N b0 E nn X) (hF : ∀ k, k < N → X k = F k) : OwnSt w wr base N b0 E nn F :=
  ⟨⟨fun k hk => by rw [← hF k hk]; exact h.fam.own k hk⟩, h.out, h.bel, h.keep⟩
theorem owns_mono {w : World} {base base' : Nat} {e : TypeId} {s : Nat} {v : Value} {n : Nat} {xs : List Value} (h : w.ownsRow base e s v n xs) (hb : base' ≤ base) : w.ownsRow base' e s v n xs := by
  refine ⟨h.1, ?_⟩
  rcases h.2 with h2 | ⟨g, cap, cur, hv, hg, r⟩
  · exact Or.inl h2
  · exact Or.inr ⟨g, cap, cur, hv, by omega, r⟩
theorem types_apart {w : World} {base base' : Nat} {e e' : TypeId} {s s' : Nat} {v v' : Value} {n n' : Nat} {xs xs' : List Value} (h : w.ownsRow base e s v n xs) (h' : w.ownsRow base' e' s' v' n' xs') (hne : e ≠ e') : Apart v v' := by
  intro k e1 e2
  rcases h.2 with ⟨rfl, _⟩ | ⟨g, cap, cur, rfl, _, hg, _⟩
  · cases e1
  · rcases h'.2 with ⟨rfl, _⟩ | ⟨g', cap', cur', rfl, _, hg', _⟩
    · cases e2
    · simp [Value.ownBlock] at e1 e2
      rw [e1] at hg
      rw [e2, hg] at hg'
      simp at hg'
      exact hne hg'.2
theorem fresh_apart {w : World} {base base' : Nat} {e : TypeId} {s : Nat} {v v' : Value} {n : Nat} {xs : List Value} (h : w.ownsRow base e s v n xs) (hv : ∀ k, v'.ownBlock = some k → w.heap.size ≤ k) : Apart v v' := by
  intro k e1 e2
  have := (h.lt k e1).2
  have := hv k e2
  omega
/-- A row's beginning. -/
theorem owns_prefix {w w' : World} {base g n m cap C : Nat} {xs ys zs : List Value} (hx : w.ownsRow base 5 1 (.slice (some ⟨g, 0, none⟩) n cap) n xs) (he : w.ownsRow base 5 1 (.slice (some ⟨g, 0, none⟩) m C) m zs)
    (h' : w'.ownsRow base 5 1 (.slice (some ⟨g, 0, none⟩) (n + 1) cap) (n + 1) ys) (hm : m ≤ n) (hz : ys.take m = zs) : w'.ownsRow base 5 1 (.slice (some ⟨g, 0, none⟩) m C) m zs := by
  refine ⟨he.1, ?_⟩
  rcases hx.2 with ⟨h1, _⟩ | ⟨g1, cap1, cur1, hv1, hb1, hh1, hn1, hc1, hs1, ht1⟩
  · simp at h1
  rcases he.2 with ⟨h2, _⟩ | ⟨g2, cap2, cur2, hv2, hb2, hh2, hn2, hc2, hs2, ht2⟩
  · simp at h2
  rcases h'.2 with ⟨h3, _⟩ | ⟨g3, cap3, cur3, hv3, hb3, hh3, hn3, hc3, hs3, ht3⟩
  · simp at h3
  simp only [Value.slice.injEq, Option.some.injEq, Addr.mk.injEq, and_true, true_and] at hv1 hv2 hv3
  obtain ⟨rfl, rfl⟩ := hv1
  obtain ⟨rfl, rfl⟩ := hv2
  obtain ⟨rfl, rfl⟩ := hv3
  rw [hh1] at hh2
  simp only [Option.some.injEq, Obj.cells.injEq, and_true] at hh2
  subst hh2
  refine Or.inr ⟨g, C, cur3, rfl, hb1, hh3, hn2, hc2, by omega, ?_⟩
  rw [← hz, ← ht3, List.take_take]
  congr 1
  omega

/-- Behind some rounds of the third part. -/
structure App (w wr : World) (base N b0 : Nat) (E : Nat → Value) (nn : Nat → Nat) (v7 : Value) (i : Nat) (Y : Nat → Value) : Prop where
  e : OwnSt w wr base N b0 E nn (over2 nn)
  y : ∀ j, j < i → wr.ownsRow base 5 1 (Y j) (nn j + 20) (rep (nn j) (2 * j) ++ rep 20 (2 * j + 1))
  ye : ∀ j, j < i → ∀ k, k < N → k ≠ j → Apart (E k) (Y j)
  al : wr.ownsRow w.heap.size 30 1 v7 i ((List.range i).map Y)
/-- .. in round i, m bytes appended to x. -/
structure AppX (w wr : World) (base N b0 : Nat) (E : Nat → Value) (nn : Nat → Nat) (v7 : Value) (i : Nat) (Y : Nat → Value) (x : Value) (m : Nat) : Prop where
  app : App w wr base N b0 E nn v7 i Y
  ox : wr.ownsRow base 5 1 x (nn i + m) (rep (nn i) (2 * i) ++ rep m (2 * i + 1))
  xe : ∀ k, k < N → k ≠ i → Apart (E k) x
  xy : ∀ j, j < i → Apart (Y j) x
  xb : ∀ g, x.ownBlock = some g → w.heap.size ≤ g ∨ (E i).ownBlock = some g
section
variable {w wr : World} {base N b0 o0 : Nat} {a : Option Addr} {E : Nat → Value} {nn : Nat → Nat} {X0 : Nat → List Value} {v7 : Value} {i : Nat} {Y : Nat → Value} {x : Value} {m : Nat}

theorem AppX.start (I : OwnIn w base N a b0 o0 E nn X0) (h : App w wr base N b0 E nn v7 i Y) (hi : i < N) : AppX w wr base N b0 E nn v7 i Y (E i) 0 := by
  refine ⟨h, ?_, fun k hk hne => I.apart k i hk hi hne, fun j hj => (h.ye j hj i hi (by omega)).symm, fun g e => Or.inr e⟩
  have := h.e.fam.own i hi
  simpa [rep, over2] using this
theorem rep_snoc (m k : Nat) : rep (m + 1) k = rep m k ++ [Y8 k] := by unfold rep; rw [List.replicate_succ']
/-- There was room. -/
theorem AppX.fits (I : OwnIn w base N a b0 o0 E nn X0) (h : AppX w wr base N b0 E nn v7 i Y x m) (hi : i < N) {g cap : Nat} (hx : x = .slice (some ⟨g, 0, none⟩) (nn i + m) cap) {o : Obj} {w2 : World}
    (h2 : w2.ownsRow base 5 1 (.slice (some ⟨g, 0, none⟩) (nn i + m + 1) cap) (nn i + m + 1) ((rep (nn i) (2 * i) ++ rep m (2 * i + 1)) ++ [Y8 (2 * i + 1)])) (hg : (wr.alloc o).grownBy w2 (some g)) :
    AppX w w2 base N b0 E nn v7 i Y (.slice (some ⟨g, 0, none⟩) (nn i + m + 1) cap) (m + 1) := by
  have hxo := h.ox
  rw [hx] at hxo
  have hbk : ∀ v : Value, Apart v x → v.ownBlock = none ∨ v.ownBlock ≠ some g := fun v hv => by
    have := hv.ne
    rw [hx] at this
    exact this
  have hgb := (hxo.lt g rfl)
  have hsame : ∀ v : Value, Apart v x → Apart v (.slice (some ⟨g, 0, none⟩) (nn i + m + 1) cap) := fun v hv k e1 e2 => hv k e1 (by rw [hx]; exact e2)
  have hb0 : 0 < N := by omega
  refine ⟨⟨⟨⟨fun k hk => ?_⟩, ?_, ?_, fun k hk hn => ?_⟩, fun j hj => ?_, h.app.ye, ?_⟩, ?_, fun k hk hne => hsame _ (h.xe k hk hne), fun j hj => hsame _ (h.xy j hj), fun k e => h.xb k (by rw [hx]; exact e)⟩
  · by_cases hki : k = i
    · subst hki
      by_cases hgk : (E k).ownBlock = some g
      · obtain ⟨ak, ck, hEk⟩ := owns_shape (h.app.e.fam.own k hk)
        rw [hEk] at hgk
        have hold := h.app.e.fam.own k hk
        rw [hEk] at hold ⊢
        have hak : ak = some ⟨g, 0, none⟩ := by
          rcases hold.2 with ⟨h', _⟩ | ⟨g', cap', cur', h', _⟩
          · simp only [Value.slice.injEq] at h'; rw [h'.1] at hgk; cases hgk
          · simp only [Value.slice.injEq] at h'
            rw [h'.1] at hgk ⊢
            simp [Value.ownBlock] at hgk
            rw [hgk]
        subst hak
        refine owns_prefix hxo hold h2 (by omega) ?_
        rw [List.append_assoc, List.take_left' (by simp [rep])]
        rfl
      · exact ((h.app.e.fam.own k hk).alloc o).kept hg (Or.inr hgk)
    · exact ((h.app.e.fam.own k hk).alloc o).kept hg (hbk _ (h.xe k hk hki))
  · obtain ⟨cs, fr, ht⟩ := I.ty hb0
    have h1 := h.app.e.out
    have hlt0 : b0 < wr.heap.size := by
      rcases Nat.lt_or_ge b0 wr.heap.size with h' | h'
      · exact h'
      · rw [Array.getElem?_eq_none h', ht] at h1; cases h1
    have hne : b0 ≠ g := by
      intro e
      rcases hxo.2 with ⟨h', _⟩ | ⟨g', cap', cur, h', _, hg', _⟩
      · simp at h'
      · simp only [Value.slice.injEq, Option.some.injEq, Addr.mk.injEq, and_true, true_and] at h'
        rw [ht, e] at h1
        rw [← h'.1, h1] at hg'
        simp at hg'
    rw [hg.block b0 (by simp; omega) (by simp; omega), Below.heap_alloc _ _ _ hlt0]
    exact h1
  · exact (h.app.e.bel.alloc (by have := h.app.e.bel.size; have := I.hbase; omega) o).grown hg (by have := h.app.e.bel.size; have := I.hbase; simp; omega) (fun k e => by simp at e; omega)
  · have hsz := h.app.e.bel.size
    have hkg : k ≠ g := by
      intro e
      rcases h.xb g (by rw [hx]; rfl) with h' | h'
      · omega
      · exact hn i hi (by rw [e]; exact h')
    rw [hg.block k (by simp; omega) (by simp; omega), Below.heap_alloc _ _ _ (by omega)]
    exact h.app.e.keep k hk hn
  · exact ((h.app.y j hj).alloc o).kept hg (hbk _ (h.xy j hj))
  · refine (h.app.al.alloc o).kept hg ?_
    have := (types_apart h.app.al hxo (by decide)).ne
    exact this
  · rw [rep_snoc, ← List.append_assoc]; exact h2
/-- It moved to a new array. -/
theorem AppX.grows (I : OwnIn w base N a b0 o0 E nn X0) (h : AppX w wr base N b0 E nn v7 i Y x m) (hi : i < N) {o : Obj} {w2 : World} {x' : Value} {nb : Nat} (hnb : wr.heap.size ≤ nb)
    (h2 : w2.ownsRow nb 5 1 x' (nn i + m + 1) ((rep (nn i) (2 * i) ++ rep m (2 * i + 1)) ++ [Y8 (2 * i + 1)])) (hg : (wr.alloc o).grownBy w2 none) :
    AppX w w2 base N b0 E nn v7 i Y x' (m + 1) := by
  have hk : ∀ v : Value, v.ownBlock = none ∨ v.ownBlock ≠ none := fun v => by cases v.ownBlock <;> simp
  have hfresh : ∀ k, x'.ownBlock = some k → wr.heap.size ≤ k := fun k e => by have := (h2.lt k e).1; omega
  have hbs : base ≤ wr.heap.size := by have := h.app.e.bel.size; have := I.hbase; omega
  have hb0 : 0 < N := by omega
  have hszw := h.app.e.bel.size
  refine ⟨⟨⟨⟨fun k hkN => ((h.app.e.fam.own k hkN).alloc o).kept hg (hk _)⟩, ?_, ?_, fun k hkw hn => ?_⟩, fun j hj => ((h.app.y j hj).alloc o).kept hg (hk _), h.app.ye, (h.app.al.alloc o).kept hg (hk _)⟩, ?_, fun k hkN hne => fresh_apart (base' := base) (h.app.e.fam.own k hkN) hfresh, fun j hj => fresh_apart (base' := base) (h.app.y j hj) hfresh, fun k e => Or.inl (by have := hfresh k e; omega)⟩
  · obtain ⟨cs, fr, ht⟩ := I.ty hb0
    have h1 := h.app.e.out
    have hlt0 : b0 < wr.heap.size := by
      rcases Nat.lt_or_ge b0 wr.heap.size with h' | h'
      · exact h'
      · rw [Array.getElem?_eq_none h', ht] at h1; cases h1
    rw [hg.block b0 (by simp; omega) (by simp), Below.heap_alloc _ _ _ hlt0]
    exact h1
  · exact (h.app.e.bel.alloc hbs o).grown hg (by simp; omega) (fun k e => by cases e)
  · rw [hg.block k (by simp; omega) (by simp), Below.heap_alloc _ _ _ (by omega)]
    exact h.app.e.keep k hkw hn
  · rw [rep_snoc, ← List.append_assoc]; exact owns_mono h2 (by omega)
/-- x goes into all. -/
theorem AppX.done (I : OwnIn w base N a b0 o0 E nn X0) (h : AppX w wr base N b0 E nn v7 i Y x 20) (hi : i < N) {o : Obj} {w2 : World} {v7' : Value}
    (h2 : w2.ownsRow w.heap.size 30 1 v7' (i + 1) ((List.range i).map Y ++ [x])) (hg : (wr.alloc o).grownBy w2 v7.ownBlock) :
    App w w2 base N b0 E nn v7' (i + 1) (fun k => if k = i then x else Y k) := by
  have hbs : base ≤ wr.heap.size := by have := h.app.e.bel.size; have := I.hbase; omega
  have hb0 : 0 < N := by omega
  have hk : ∀ {v : Value} {n : Nat} {xs : List Value}, wr.ownsRow base 5 1 v n xs → v.ownBlock = none ∨ v.ownBlock ≠ v7.ownBlock := fun hv => (types_apart hv h.app.al (by decide)).ne
  have hszw := h.app.e.bel.size
  refine ⟨⟨⟨fun k hkN => ((h.app.e.fam.own k hkN).alloc o).kept hg (hk (h.app.e.fam.own k hkN))⟩, ?_, ?_, fun k hkw hn => ?_⟩, fun j hj => ?_, fun j hj k hkN hne => ?_, ?_⟩
  · obtain ⟨cs, fr, ht⟩ := I.ty hb0
    have h1 := h.app.e.out
    have hlt0 : b0 < w.heap.size := by
      rcases Nat.lt_or_ge b0 w.heap.size with h' | h'
      · exact h'
      · rw [Array.getElem?_eq_none h'] at ht; cases ht
    have hsz := h.app.e.bel.size
    rw [hg.block b0 (by simp; omega) (fun e => by have := (h.app.al.lt b0 e.symm).1; omega), Below.heap_alloc _ _ _ (by omega)]
    exact h1
  · exact (h.app.e.bel.alloc hbs o).grown hg (by simp; omega) (fun k e => by have := (h.app.al.lt k e).1; have := I.hbase; omega)
  · rw [hg.block k (by simp; omega) (fun e => by have := (h.app.al.lt k e.symm).1; omega), Below.heap_alloc _ _ _ (by omega)]
    exact h.app.e.keep k hkw hn
  · by_cases hji : j = i
    · subst hji
      simp only [if_pos]
      exact (h.ox.alloc o).kept hg (hk h.ox)
    · simp only [if_neg hji]
      exact ((h.app.y j (by omega)).alloc o).kept hg (hk (h.app.y j (by omega)))
  · by_cases hji : j = i
    · subst hji
      simp only [if_pos]
      exact h.xe k hkN hne
    · simp only [if_neg hji]
      exact h.app.ye j (by omega) k hkN hne
  · have e : (List.range (i + 1)).map (fun k => if k = i then x else Y k) = (List.range i).map Y ++ [x] := by
      rw [List.range_succ, List.map_append]
      congr 1
      · refine List.map_congr_left fun k hk => ?_
        have := List.mem_range.mp hk
        rw [if_neg (by omega)]
      · simp
    rw [e]; exact h2
end
end Go.Proofs.Ytncgdbjjlhohiab
