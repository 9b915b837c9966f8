import Derived.Test.YtncgdbjjlhohiabHexE
namespace Go.Proofs.Ytncgdbjjlhohiab
open Go.RowKit
set_option linter.unusedVariables false

theorem lU_len (s : ByteArray) : (lU s).length ≤ s.size := by
  unfold lU oL
  cases h : unhexL s.data.toList with
  | none => simp
  | some l =>
    have := hexL_len l
    rw [hex_unhex _ _ h] at this
    have e : s.data.toList.length = s.size := by simp
    simp; omega
theorem unhex_of (s : ByteArray) (h : eU s = 0) : hexL (lU s) = s.data.toList := by
  unfold eU oE at h
  unfold lU oL
  cases hu : unhexL s.data.toList with
  | none => rw [hu] at h; simp at h
  | some l => exact hex_unhex _ _ hu
theorem lU_hex (l : List UInt8) : lU ⟨(hexL l).toArray⟩ = l := by
  unfold lU oL
  show (unhexL (hexL l)).getD [] = l
  rw [unhex_hex]; rfl
theorem eU_hex (l : List UInt8) : eU ⟨(hexL l).toArray⟩ = 0 := by
  unfold eU oE
  show (if (unhexL (hexL l)).isSome = true then (0 : Int) else 14) = 0
  rw [unhex_hex]; rfl
theorem str_eq (s : ByteArray) (l : List UInt8) (h : l = s.data.toList) : (⟨l.toArray⟩ : ByteArray) = s := by
  subst h; simp

/-- What stands ahead of Own. -/
theorem hexes_in {w w1 w3 w5 w6 : World} {a1 a4 a6 : Option Addr} {c1 c4 c6 : Nat} {l m : List UInt8} (h1 : Own1 w1 w.heap.size a1 c1 l) (hb1 : Below w.heap.size w w1)
    (h4 : Own1 w5 w3.heap.size a4 c4 m) (e13 : w1.heap.size ≤ w3.heap.size) (e35 : w3.heap.size ≤ w5.heap.size) (b15 : Below w1.heap.size w1 w5)
    (h6 : Own1 w6 w5.heap.size a6 c6 l) (hb6 : Below w5.heap.size w5 w6) (hl : l.length ≤ 4194304) (hm : m.length ≤ 4194304) :
    OwnIn (w6.alloc (.cells #[.slice a1 l.length c1, .slice a6 l.length c6, .slice a4 m.length c4] 30)) w.heap.size 3 (some ⟨w6.heap.size, 0, none⟩) w6.heap.size 0
      (fun i => ([(a1, c1, l), (a6, c6, l), (a4, c4, m)].map fun p => Value.slice p.1 p.2.2.length p.2.1).getD i (.slice none 0 0)) (fun i => ([(a1, c1, l), (a6, c6, l), (a4, c4, m)].map fun p => p.2.2.length).getD i 0) (fun i => ([(a1, c1, l), (a6, c6, l), (a4, c4, m)].map fun p => p.2.2.map B).getD i []) := by
  have e1 := hb1.size
  have e6 := hb6.size
  have a16 : Apart (.slice a1 l.length c1) (.slice a6 l.length c6) := apart_of h1.hi (fun k e => by have := h6.lo k e; omega)
  have a14 : Apart (.slice a1 l.length c1) (.slice a4 m.length c4) := apart_of h1.hi (fun k e => by have := h4.lo k e; omega)
  have a46 : Apart (.slice a4 m.length c4) (.slice a6 l.length c6) := apart_of h4.hi (fun k e => by have := h6.lo k e; omega)
  have o1 : Own1 w6 w.heap.size a1 c1 l := (h1.below b15).below hb6
  have o4 : Own1 w6 w.heap.size a4 c4 m := (h4.below hb6).mono (by omega)
  have o6 : Own1 w6 w.heap.size a6 c6 l := h6.mono (by omega)
  refine ownIn_lit w6 w.heap.size [(a1, c1, l), (a6, c6, l), (a4, c4, m)] (by omega) (by simp) ?_ ?_ _ rfl
  · intro p hp
    simp only [List.mem_cons, List.not_mem_nil, or_false] at hp
    rcases hp with rfl | rfl | rfl
    · exact ⟨o1, by simp; omega⟩
    · exact ⟨o6, by simp; omega⟩
    · exact ⟨o4, by simp; omega⟩
  · intro i j p q hp hq hne
    match i, j, hp, hq with
    | 0, 0, hp, hq => omega
    | 0, 1, hp, hq => simp at hp hq; subst hp hq; exact a16
    | 0, 2, hp, hq => simp at hp hq; subst hp hq; exact a14
    | 1, 0, hp, hq => simp at hp hq; subst hp hq; exact a16.symm
    | 1, 1, hp, hq => omega
    | 1, 2, hp, hq => simp at hp hq; subst hp hq; exact a46.symm
    | 2, 0, hp, hq => simp at hp hq; subst hp hq; exact a14.symm
    | 2, 1, hp, hq => simp at hp hq; subst hp hq; exact a46
    | 2, 2, hp, hq => omega
    | k + 3, _, hp, _ => simp at hp
    | _, k + 3, _, hq => simp at hq

theorem rd_keep {W W' : World} {a : Option Addr} {n cap : Nat} {l : List UInt8} (h : Rd W a n cap l) (hs : W.heap.size ≤ W'.heap.size) (hk : ∀ b off, a = some ⟨b, off, none⟩ → 0 < n → W'.heap[b]? = W.heap[b]?) : Rd W' a n cap l := by
  refine ⟨h.hlen, h.hle, h.hsmall, h.hnil, fun hp => ?_⟩
  obtain ⟨b, off, e, hb, hc⟩ := h.hcell hp
  exact ⟨b, off, e, by omega, fun i x hx => (World.cell?_of_block (w := W) (a := ⟨b, off + i, none⟩) (hk b off e hp)).trans (hc i x hx)⟩

set_option maxHeartbeats 800000 in
theorem hexes_walk (a : Option Addr) (n c : Nat) (l : List UInt8) (s : ByteArray) (w : World) (ha : Rd w a n c l) (hn : n ≤ 1048576) (hs : s.size ≤ 1048576) :
    Calls Try.prog 4 #[.slice a n c, .string s] w fun e w' => e = .returned (.bool true) ∧ Below w.heap.size w w' := by
  have hlU := lU_len s
  have hln := ha.hlen
  subst hln
  go_enter Try.func4, Try.ntmps4
  go_wp2_with fail
  refine (unhex_any s _ (by omega)).mono ?_
  rintro e w1 ⟨a1, c1, rfl, o1, hb1⟩
  go_wp2_with fail
  refine (refunhex_any s _ (by omega)).mono ?_
  rintro e w2 ⟨a2, c2, rfl, o2, hb2⟩
  have e1 := hb1.size
  have e2 := hb2.size
  have b02 : Below w.heap.size w w2 := hb1.trans (hb2.mono e1)
  go_wp2_with fail
  refine (hex_any _ _ _ l _ (ha.below b02) hn).mono ?_
  rintro e w3 ⟨rfl, hb3⟩
  have e3 := hb3.size
  have hx2 : (⟨(hexL l).toArray⟩ : ByteArray).size ≤ 4194304 := by
    show (hexL l).toArray.size ≤ _
    simp [hexL_len]; omega
  go_wp2_with fail
  refine (unhex_any _ _ hx2).mono ?_
  rintro e w4 ⟨a4, c4, he4, o4, hb4⟩
  rw [lU_hex] at he4 o4
  rw [eU_hex] at he4
  subst he4
  have e4 := hb4.size
  have b23 := hb3
  have b04 : Below w.heap.size w w4 := (b02.trans (hb3.mono (by omega))).trans (hb4.mono (by omega))
  have b24 : Below w2.heap.size w2 w4 := hb3.trans (hb4.mono (by omega))
  have b14 : Below w1.heap.size w1 w4 := hb2.trans (b24.mono (by omega))
  go_wp2_with fail
  refine (same_yes _ _ _ _ _ _ (lU s) _ ((o1.below b14).rd (by omega)) ((o2.below b24).rd (by omega))).mono ?_
  rintro e w5 ⟨rfl, hb5⟩
  have e5 := hb5.size
  have hl4 : l.length ≤ 4194304 := by omega
  have b05 : Below w.heap.size w w5 := b04.trans (hb5.mono (by omega))
  go_wp2_with fail
  refine (same_yes _ _ _ _ _ _ l _ ((o4.below hb5).rd (by omega)) (ha.below b05)).mono ?_
  rintro e w6 ⟨rfl, hb6⟩
  have e6 := hb6.size
  go_wp2_with fail
  refine (unhex_any s _ (by omega)).mono ?_
  rintro e w7 ⟨a7, c7, rfl, o7, hb7⟩
  have e7 := hb7.size
  have b16 : Below w1.heap.size w1 w6 := (b14.trans (hb5.mono (by omega))).trans (hb6.mono (by omega))
  have b46 : Below w4.heap.size w4 w6 := hb5.trans (hb6.mono e5)
  have b27 : Below w2.heap.size w2 w7 := ((b24.trans (hb5.mono (by omega))).trans (hb6.mono (by omega))).trans (hb7.mono (by omega))
  have IN := hexes_in (w3 := w3) o1 hb1 (o4.below b46) (by omega) (by omega) b16 o7 hb7 (by omega) hl4
  have b07 : Below w.heap.size w w7 := (b02.trans (b27.mono (by omega)))
  have rY := ((o2.below b27).rd (by omega)).below ((Below.refl _ _).alloc (Nat.le_refl _) (.cells #[.slice a1 (lU s).length c1, .slice a7 (lU s).length c7, .slice a4 l.length c4] 30))
  have hy : ∀ b off, a2 = some ⟨b, off, none⟩ → 0 < (lU s).length → b < w7.heap.size + 1 ∧ ∀ i, i < 3 → (([(a1, c1, lU s), (a7, c7, lU s), (a4, c4, l)].map fun p => Value.slice p.1 p.2.2.length p.2.1).getD i (.slice none 0 0)).ownBlock ≠ some b := by
    intro b off e hp
    have h1 : (Value.slice a2 (lU s).length c2).ownBlock = some b := by rw [e]; rfl
    have hlo := o2.lo b h1
    have hhi := o2.hi b h1
    refine ⟨by omega, fun i hi3 e' => ?_⟩
    match i, hi3 with
    | 0, _ => have := o1.hi b e'; omega
    | 1, _ => have := o7.lo b e'; omega
    | 2, _ => have := o4.lo b e'; omega
  clear o1 o2 o4 o7 hb1 hb2 hb3 hb4 hb5 hb6 hb7 b02 b04 b24 b14 b05 b16 b46 b27 b23
  go_wp2_with fail
  refine (own_keep _ w.heap.size 3 3 w7.heap.size 0 _ _ _ _ IN).mono ?_
  rintro e w8 ⟨rfl, hb8, hkeep⟩
  have rY8 : Rd w8 a2 (lU s).length c2 (lU s) := rd_keep rY hb8.size (fun b off e hp => by
    obtain ⟨h1, h2⟩ := hy b off e hp
    exact hkeep b (by simp; omega) h2)
  have b08 : Below w.heap.size w w8 := (b07.alloc b07.size _).trans hb8
  have e8 := b08.size
  clear IN rY hy hkeep hb8 b07
  have HE : Hid (eU s = 0 → (⟨(hexL (lU s)).toArray⟩ : ByteArray) = s) := fun h => str_eq s _ (unhex_of s h)
  generalize lU s = L at *
  generalize eU s = E0 at *
  by_cases hE : E0 = 0
  · subst hE
    have hst := HE.out rfl
    go_wp2_with fail
    refine (hex_any _ _ _ l _ (ha.below b08) hn).mono ?_
    rintro e w9 ⟨rfl, hb9⟩
    have b09 : Below w.heap.size w w9 := b08.trans (hb9.mono e8)
    have e9 := hb9.size
    go_wp2_with fail
    refine (refhex_any _ _ _ l _ (ha.below b09) (by omega)).mono ?_
    rintro e w10 ⟨rfl, hb10⟩
    have b010 : Below w.heap.size w w10 := b09.trans (hb10.mono (by omega))
    have e10 := hb10.size
    go_wp2_with fail
    refine (refhex_any _ _ _ L _ ((rY8.below hb9).below hb10) (by omega)).mono ?_
    rintro e w11 ⟨rfl, hb11⟩
    have b011 : Below w.heap.size w w11 := b010.trans (hb11.mono (by omega))
    have e11 := b011.size
    rw [hst]
    clear hst HE
    go_wp2_with fail
    refine (heads_any _).mono ?_
    rintro e w12 ⟨rfl, hb12⟩
    go_wp2
    go_ret
    exact ⟨rfl, b011.trans (hb12.mono e11)⟩
  · have hE' : (E0 != 0) = true := by rw [bne_iff_ne]; exact hE
    clear HE
    go_wp2_with fail
    refine (hex_any _ _ _ l _ (ha.below b08) hn).mono ?_
    rintro e w9 ⟨rfl, hb9⟩
    have b09 : Below w.heap.size w w9 := b08.trans (hb9.mono e8)
    have e9 := hb9.size
    go_wp2_with fail
    refine (refhex_any _ _ _ l _ (ha.below b09) (by omega)).mono ?_
    rintro e w10 ⟨rfl, hb10⟩
    have b010 : Below w.heap.size w w10 := b09.trans (hb10.mono (by omega))
    have e10 := b010.size
    go_wp2_with fail
    refine (heads_any _).mono ?_
    rintro e w12 ⟨rfl, hb12⟩
    go_wp2
    go_ret
    exact ⟨rfl, b010.trans (hb12.mono e10)⟩
end Go.Proofs.Ytncgdbjjlhohiab
