import Derived.Test.YtapfbinaocaclaaEet
import Derived.Lib.SliceRun
namespace Go.Proofs.Ytapfbinaocaclaa
open Go.RowKit Go.Maps
set_option linter.unusedVariables false
set_option linter.unusedSimpArgs false

/-! ### slices.DeleteFunc of a row of one's own -/
theorem grown_belo {a b d : World} {r : Option Nat} (h : a.grownBy b r) (k : Below b.heap.size b d) : a.grownBy d r :=
  ⟨k.os.trans h.os, k.tape.trans h.tape, k.output.trans h.output, Nat.le_trans h.size k.size, fun i hi hne => (k.block i (Nat.lt_of_lt_of_le hi h.size)).trans (h.block i hi hne)⟩
theorem own_setCells {base e g n cap : Nat} (i : Nat) : ∀ (vs : List Value) (o : Nat) (w : World) (xs : List Value), i ≤ o → w.ownsRow base e 1 (.slice (some ⟨g, 0, none⟩) n cap) n xs → ∃ xs', (w.setCells g o vs).ownsRow base e 1 (.slice (some ⟨g, 0, none⟩) n cap) n xs' ∧ xs'.take i = xs.take i ∧ w.grownBy (w.setCells g o vs) (some g)
  | [], o, w, xs, _, h => ⟨xs, h, rfl, grown_refl _ _⟩
  | v :: r, o, w, xs, ho, h => by
    have st := h.stored o v
    obtain ⟨xs', h1, h2, h3⟩ := own_setCells i r (o + 1) _ _ (by omega) st.1
    refine ⟨xs', h1, ?_, grown_same st.2 h3⟩
    rw [h2]
    rw [List.take_set]
    apply List.set_eq_of_length_le
    simp
    omega
theorem own_cut {w : World} {base e g n cap i : Nat} {xs : List Value} (h : w.ownsRow base e 1 (.slice (some ⟨g, 0, none⟩) n cap) n xs) (hi : i ≤ n) : w.ownsRow base e 1 (.slice (some ⟨g, 0, none⟩) i cap) i (xs.take i) := by
  rcases h.2 with ⟨h', _⟩ | ⟨g', cap', cur, h', hb, hg, hnc, hcm, hcs, htake⟩
  · simp at h'
  · simp only [Value.slice.injEq, Option.some.injEq, Addr.mk.injEq, and_true, true_and] at h'
    obtain ⟨rfl, rfl⟩ := h'
    have hl := h.1
    refine ⟨by rw [List.length_take]; omega, .inr ⟨g, cap, cur, rfl, hb, hg, by omega, hcm, hcs, ?_⟩⟩
    rw [← htake, List.take_take]
    congr 1
    omega
structure KpI (p : Int → Bool) (l : List Int) (i j : Nat) (xs : List Value) : Prop where
  ei : i = ((l.take j).filter fun x => !p x).length
  lt : i < j
  t : xs.take i = ((l.take j).filter fun x => !p x).map fun x => I x
  d : xs.drop j = (l.drop j).map fun x => I x
theorem KpI.keep {p : Int → Bool} {l : List Int} {i j : Nat} {xs : List Value} (h : KpI p l i j xs) {x : Int} (hx : l[j]? = some x) (hp : p x = false) (hl : xs.length = l.length) : KpI p l (i + 1) (j + 1) (xs.set i (I x)) := by
  have hj := (List.getElem?_eq_some_iff.1 hx).1
  have e : (l.take (j + 1)).filter (fun x => !p x) = (l.take j).filter (fun x => !p x) ++ [x] := by
    rw [List.take_add_one, hx, Option.toList_some, List.filter_append]
    congr 1
    simp [hp]
  have hlt := h.lt
  refine ⟨by rw [e, List.length_append, ← h.ei]; rfl, by omega, ?_, ?_⟩
  · rw [e, List.map_append, ← h.t, List.take_add_one]
    congr 1
    · rw [List.take_set]
      apply List.set_eq_of_length_le
      rw [List.length_take]
      omega
    · rw [List.getElem?_set]
      simp
      omega
  · rw [List.drop_set]
    rw [if_pos (by omega)]
    have := congrArg (List.drop 1) h.d
    rw [List.drop_drop, ← List.map_drop, List.drop_drop] at this
    exact this
theorem KpI.skip {p : Int → Bool} {l : List Int} {i j : Nat} {xs : List Value} (h : KpI p l i j xs) {x : Int} (hx : l[j]? = some x) (hp : p x = true) : KpI p l i (j + 1) xs := by
  have e : (l.take (j + 1)).filter (fun x => !p x) = (l.take j).filter (fun x => !p x) := by
    rw [List.take_add_one, hx, Option.toList_some, List.filter_append]
    simp [hp]
  have hlt := h.lt
  refine ⟨by rw [e]; exact h.ei, by omega, by rw [e]; exact h.t, ?_⟩
  have := congrArg (List.drop 1) h.d
  rw [List.drop_drop, ← List.map_drop, List.drop_drop] at this
  exact this
theorem KpI.start {p : Int → Bool} {l : List Int} {j : Nat} {x : Int} (h : (l.take j).any p = false) (hx : l[j]? = some x) (hp : p x = true) : KpI p l j (j + 1) (l.map fun x => I x) := by
  have e0 : (l.take j).filter (fun x => !p x) = l.take j := by
    rw [List.filter_eq_self]
    intro a ha
    rw [List.any_eq_false] at h
    have := h a ha
    simpa using this
  have e : (l.take (j + 1)).filter (fun x => !p x) = l.take j := by
    rw [List.take_add_one, hx, Option.toList_some, List.filter_append, e0]
    simp [hp]
  have hj := (List.getElem?_eq_some_iff.1 hx).1
  refine ⟨by rw [e, List.length_take]; omega, by omega, by rw [e, List.map_take], by rw [List.map_drop]⟩
theorem KpI.at {p : Int → Bool} {l : List Int} {i j : Nat} {xs : List Value} (h : KpI p l i j xs) {x : Int} (hx : l[j]? = some x) : xs[j]? = some (I x) := by
  have := congrArg (fun z => z[0]?) h.d
  simp only [List.getElem?_drop, List.getElem?_map, Nat.add_zero] at this
  rw [this, hx]
  rfl
theorem idx_cases (p : Int → Bool) (l : List Int) : (l.any p = false ∧ idxI p l = -1) ∨ ∃ (j : Nat) (x : Int), (l.take j).any p = false ∧ l[j]? = some x ∧ p x = true ∧ idxI p l = (j : Int) := by
  cases h : l.any p with
  | false => exact .inl ⟨rfl, idxI_none h⟩
  | true =>
    right
    have h2 : (l.findIdx? p).isSome := by
      rw [List.findIdx?_isSome]
      exact h
    obtain ⟨j, hj⟩ := Option.isSome_iff_exists.1 h2
    have hj2 := List.findIdx?_eq_some_iff_getElem.1 hj
    obtain ⟨hl, hp, hn⟩ := hj2
    have hx : l[j]? = some l[j] := List.getElem?_eq_getElem hl
    have ht : (l.take j).any p = false := by
      rw [List.any_eq_false]
      intro a ha
      obtain ⟨k, hk⟩ := List.mem_iff_getElem?.1 ha
      rw [List.getElem?_take] at hk
      split at hk
      · rename_i hkj
        have := hn k hkj
        rw [List.getElem?_eq_getElem (by omega)] at hk
        cases hk
        simpa using this
      · cases hk
    exact ⟨j, _, ht, hx, hp, idxI_hit ht hx hp⟩
/-- A row of its own, cut down in place. -/
def OwnD (w : World) (base : Nat) (b : Option Nat) (l : List Int) (e : Ending) (w' : World) : Prop := ∃ u, e = .returned u ∧ w'.ownsRow base 3 1 u l.length (l.map fun x => I x) ∧ u.ownBlock = b ∧ w.grownBy w' b
set_option maxHeartbeats 4000000 in
set_option maxRecDepth 100000 in
theorem delete_any (w : World) (base : Nat) (u : Value) (l : List Int) (hO : w.ownsRow base 3 1 u l.length (l.map fun x => I x)) (hn : l.length ≤ 8796093022208) (f : Nat) (caps : Array Value) (eg : ∀ args W, (callFunc f args).run Try.prog W = .ok (.enter f args) W) (p : Int → Bool)
    (hf : ∀ W, w.grownBy W u.ownBlock → ∀ x ∈ l, Calls Try.prog f (#[I x] ++ caps) W fun e w' => e = .returned (.bool (p x)) ∧ Below W.heap.size W w') :
    Calls Try.prog 44 #[u, .func (.func f) #[] caps] w fun e w' => OwnD w base u.ownBlock (l.filter fun x => !p x) e w' := by
  obtain ⟨s, hu, hR⟩ := rows_ints hO (l := l) rfl rfl
  have kx := index_any w s l hR f caps eg p (fun W hW => hf W (grown_of_below hW))
  rcases idx_cases p l with ⟨ha, hi⟩ | ⟨j, x, ht, hx, hp, hi⟩
  · rw [hi] at kx
    have HE : Hid (l.filter (fun x => !p x) = l) := by
      show _ = _
      rw [List.filter_eq_self]
      intro a ha2
      rw [List.any_eq_false] at ha
      have := ha a ha2
      simpa using this
    have HO : Hid (w.ownsRow base 3 1 u l.length (l.map fun x => I x)) := hO
    clear hO hf hR ha hi
    subst hu
    go_enter Try.func44, Try.ntmps44
    go_wp2_with (go_at_call 56; refine kx.mono ?_; clear kx; rintro e w1 ⟨rfl, hb1⟩)
    go_ret
    refine ⟨_, rfl, ?_, rfl, grown_of_below hb1⟩
    rw [HE.out]
    exact own_below HO.out hb1
  · rw [hi] at kx
    have hjl := (List.getElem?_eq_some_iff.1 hx).1
    rcases hO.2 with ⟨h0, h1⟩ | ⟨g, cap, cur, hv, hb, hg, hnc, hcm, hcs, htk⟩
    · omega
    have hus : (.slice s.a s.n s.c : Value) = .slice (some ⟨g, 0, none⟩) l.length cap := hu.symm.trans hv
    rw [hus] at kx
    subst hv
    have HO : Hid (w.ownsRow base 3 1 (.slice (some ⟨g, 0, none⟩) l.length cap) l.length (l.map fun x => I x)) := hO
    have HK : Hid (KpI p l j (j + 1) (l.map fun x => I x)) := KpI.start ht hx hp
    have HFF : Hid (∀ W, w.grownBy W (some g) → ∀ x ∈ l, Calls Try.prog f (#[I x] ++ caps) W fun e w' => e = .returned (.bool (p x)) ∧ Below W.heap.size W w') := hf
    obtain ⟨n, hnl⟩ : ∃ n, n = l.length := ⟨_, rfl⟩
    have HN : Hid (n = l.length) := hnl
    rw [← hnl] at kx HO hnc hn hjl ⊢
    have hjm : ((j : Int) == -1) = false := beq_eq_false_iff_ne.2 (by omega)
    have h22 : Try.prog.underlying 34 = some (.slice 3) := Try.underlying34
    have hzv : ∀ w, (zeroValue 3).run Try.prog w = .ok (.int .i64 0) w := zeroI
    unfold maxLen at hcm
    clear hO hf hR hi hx hp ht hu hus htk hg hb hcs hnl
    go_enter Try.func44, Try.ntmps44
    go_wp2_with (go_at_call 56; refine kx.mono ?_; clear kx; rintro e w1 ⟨rfl, hb1⟩)
    have H1 : Hid (w1.ownsRow base 3 1 (.slice (some ⟨g, 0, none⟩) n cap) n (l.map fun x => I x) ∧ w.grownBy w1 (some g)) := ⟨own_below HO.out hb1, grown_of_below hb1⟩
    clear hb1 HO
    go_loopw [5, 6, 7] (fun iv jv _ wr => ∃ (i j : Nat) (xs : List Value), iv = .int .i64 i ∧ jv = .int .i64 j ∧ j ≤ n ∧ i < j ∧ Hid (wr.ownsRow base 3 1 (.slice (some ⟨g, 0, none⟩) n cap) n xs ∧ KpI p l i j xs ∧ w.grownBy wr (some g))) (fun _ jv _ _ => n - (intOf jv).toNat)
    case atStart => exact ⟨j, j + 1, _, rfl, by go_num, by omega, by omega, H1.out.1, HK.out, H1.out.2⟩
    case round =>
      clear H1 HK
      obtain ⟨i, j, xs, rfl, rfl, hjn, hij, HJ⟩ := hrel
      obtain ⟨hO, hK, hG⟩ := HJ.out
      by_cases hlt : j < n
      · have hlt' : (j : Int) < n := by omega
        obtain ⟨x, hx⟩ : ∃ x, l[j]? = some x := ⟨_, List.getElem?_eq_getElem (by rw [← HN.out]; exact hlt)⟩
        have cj : wr.cell? ⟨g, j, none⟩ = some (I x) := by rw [hO.cellAt j (by omega)]; exact hK.at hx
        have cx := HFF.out _ hG x (List.mem_of_getElem? hx)
        have hxl : xs.length = l.length := by have := hO.1; have := HN.out; omega
        cases he : p x with
        | false =>
          rw [he] at cx
          have HK2 : Hid (KpI p l (i + 1) (j + 1) (xs.set i (I x))) := hK.keep hx he hxl
          have HO : Hid (wr.ownsRow base 3 1 (.slice (some ⟨g, 0, none⟩) n cap) n xs) := hO
          have HG : Hid (w.grownBy wr (some g)) := hG
          have hil : i < xs.length := by have := hO.1; omega
          obtain ⟨xo, hxo⟩ : ∃ xo, xs[i]? = some xo := ⟨_, List.getElem?_eq_getElem hil⟩
          have HXO : Hid (xs[i]? = some xo) := hxo
          clear hO hK hG HJ hx hxl hxo hil
          go_wp2
          refine cx.mono ?_
          clear cx
          rintro e7 w7 ⟨rfl, hb7⟩
          have hO7 := own_below HO.out hb7
          have ci : w7.cell? ⟨g, i, none⟩ = some xo := by rw [hO7.cellAt i (by omega)]; exact HXO.out
          have fi := hO7.frozenAt i
          have st := hO7.stored i (I x)
          have HO7 : Hid ((w7.setCell ⟨g, i, none⟩ (I x)).ownsRow base 3 1 (.slice (some ⟨g, 0, none⟩) n cap) n (xs.set i (I x)) ∧ w.grownBy (w7.setCell ⟨g, i, none⟩ (I x)) (some g)) := ⟨st.1, grown_same (grown_belo HG.out hb7) st.2⟩
          clear hO7 hb7 st
          go_wp2
          go_roundw
          case rel => exact ⟨i + 1, j + 1, _, by go_num, by go_num, by omega, by omega, HO7.out.1, HK2.out, HO7.out.2⟩
          case measure => simp [intOf]; omega
        | true =>
          rw [he] at cx
          have HK2 : Hid (KpI p l i (j + 1) xs) := hK.skip hx he
          have HO : Hid (wr.ownsRow base 3 1 (.slice (some ⟨g, 0, none⟩) n cap) n xs) := hO
          have HG : Hid (w.grownBy wr (some g)) := hG
          clear hO hK hG HJ hx hxl
          go_wp2
          refine cx.mono ?_
          clear cx
          rintro e7 w7 ⟨rfl, hb7⟩
          have HO7 : Hid (w7.ownsRow base 3 1 (.slice (some ⟨g, 0, none⟩) n cap) n xs ∧ w.grownBy w7 (some g)) := ⟨own_below HO.out hb7, grown_belo HG.out hb7⟩
          clear hb7
          go_wp2
          go_roundw
          case rel => exact ⟨i, j + 1, _, rfl, by go_num, by omega, by omega, HO7.out.1, HK2.out, HO7.out.2⟩
          case measure => simp [intOf]; omega
      · obtain rfl : j = n := by omega
        have hlt' : ¬ ((j : Nat) : Int) < (j : Nat) := by omega
        have hcl : ∀ ty, (Builtin.clear_ #[34] ty #[.slice (some ⟨g, i, none⟩) (j - i) (cap - i)]).run Try.prog wr = .ok (.tuple #[]) (wr.setCells g i (List.replicate (j - i) (.int .i64 0))) :=
          fun ty => Lib.run_clear_slice wr _ _ ty _ h22 hzv rfl rfl g i _ _ (by omega) (fun t ht => by rw [hO.cellAt (i + t) (by omega)]; rw [List.getElem?_eq_getElem (by have := hO.1; omega)]; rfl) (fun t ht => hO.frozenAt (i + t))
        obtain ⟨xs', o1, t1, g1⟩ := own_setCells i (List.replicate (j - i) (.int .i64 0)) i wr xs (Nat.le_refl _) hO
        have HE : Hid (OwnD w base (some g) (l.filter fun x => !p x) (.returned (.slice (some ⟨g, 0, none⟩) i cap)) (wr.setCells g i (List.replicate (j - i) (.int .i64 0)))) := by
          refine ⟨_, rfl, ?_, rfl, grown_same hG g1⟩
          have := own_cut o1 (i := i) (by omega)
          rw [t1, hK.t, List.take_of_length_le (by rw [HN.out]; exact Nat.le_refl _)] at this
          have e := hK.ei
          rw [List.take_of_length_le (by rw [HN.out]; exact Nat.le_refl _)] at e
          rw [← e]
          exact this
        clear hO hK hG HJ o1 t1 g1 h22 hzv
        go_wp2
        go_ret
        exact HE.out
end Go.Proofs.Ytapfbinaocaclaa
