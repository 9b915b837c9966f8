import Derived.Test.YtglnfifdjlgbcaaGreatDoorXRcl12
namespace Go.Proofs.YtglnfifdjlgbcaaGreatDoor.Re
open Go.RowKit
set_option linter.unusedVariables false
set_option linter.unusedSimpArgs false

/-! ### Rings of ints: Copy -/
theorem step_copy_fx {P : Program} {ops : Array Oper} {o : Oper} {a : Act} {w : World} {K : Act → World → Prop} {Q : Exit → Act → World → Prop} {E : Prop} (hgd : o.guard = none) (d s : Operand) (dT sT : TypeId)
    (ho : o.op = .call { callee := .builtin .copy, args := #[d, s], argTypes := #[dT, sT] }) (elem : TypeId) (hu : P.underlying dT = some (.slice elem)) (hsz : (P.info? elem).map (·.size) = some 1)
    (dp sp : Option Addr) (dLen dCap sLen sCap : Nat) (hd : a.eval d = .slice dp dLen dCap) (hs : a.eval s = .slice sp sLen sCap)
    (g off : Nat) (cur : List Value) (t : TypeId) (hg : w.heap[g]? = some (.cells cur.toArray t (0, 0))) (cs : List Value) (hn : cs.length = Nat.min sLen dLen)
    (hpos : 0 < cs.length → dp = some ⟨g, off, none⟩ ∧ ∃ ad, sp = some ad ∧ ∀ j v, cs[j]? = some v → w.cell? (ad.add j) = some v)
    (hfit : off + cs.length ≤ cur.length) (h1 : ∀ v ∈ cs, v.oneCell' = true) (vr : Value) (hvr : vr = goInt cs.length)
    (h : ∀ w', Hid (w'.heap[g]? = some (.cells (splice cur off cs).toArray t (0, 0))) → Fx [g] w w' → K (a.put o.dst vr) w') :
    if Region.wanted o (yielded ops a.tmps) = true then Oper.wp P o a w K Q else E := by
  subst hvr
  have hw : Region.wanted o (yielded ops a.tmps) = true := by simp [Region.wanted, hgd]
  rw [if_pos hw]
  by_cases h0 : cs.length = 0
  · obtain rfl : cs = [] := List.eq_nil_of_length_eq_zero h0
    have hrun := run_copy_none (P := P) w dT sT o.type elem dp sp dLen dCap sLen sCap hu hsz (by simpa using hn.symm)
    unfold Oper.wp
    simp [execOp, ho, resolve, invoke, builtin, hd, hs, hrun, Result.andThen]
    exact h w (show _ = _ by simpa [splice] using hg) (Fx.refl _ _)
  · obtain ⟨rfl, ad, rfl, hsrc⟩ := hpos (by omega)
    have hrun := run_copy_row (P := P) w dT sT o.type elem g off dLen dCap ad sLen sCap cur.toArray t cs hu hsz hg hn hsrc (by simpa using hfit) h1
    unfold Oper.wp
    simp [execOp, ho, resolve, invoke, builtin, hd, hs, hrun, Result.andThen]
    refine h _ (show _ = _ by simpa [splice] using setRow_heap w g _ _ t _ hg) ⟨rfl, rfl, rfl, by simp [World.setRow], fun k _ hk => setRow_other w g k _ (by simpa using hk)⟩
theorem sl_rest (g n m : Nat) (h : m ≤ n) : ∃ dp, (∀ wx : World, (Instr.slice 31 (.slice (some ⟨g, 0, none⟩) n n) (some (I m)) none none).run Tryz.prog wx = .ok (.slice dp (n - m) (n - m)) wx) ∧ (m < n → dp = some ⟨g, m, none⟩) := by
  refine ⟨if n = m then some ⟨g, 0, none⟩ else some ⟨g, m, none⟩, fun wx => ?_, fun h => if_neg (by omega)⟩
  rw [run_slice_l wx 31 _ n n iundS .i64 (m : Int) (by omega) (by omega), ielem_sz]
  have e1 : ((m : Int)).toNat = m := by omega
  simp only [Result.andThen, sliced, e1, Option.map_some, Nat.mul_one, addr_add, Nat.zero_add]
theorem splice_two (n : Nat) (z : Value) (la lb : List Value) (h : la.length + lb.length ≤ n) : (splice (splice (List.replicate n z) 0 la) la.length lb).length = n ∧ (splice (splice (List.replicate n z) 0 la) la.length lb).take (la ++ lb).length = la ++ lb := by
  have e : splice (splice (List.replicate n z) 0 la) la.length lb = (la ++ lb) ++ List.replicate (n - la.length - lb.length) z := by
    unfold splice
    simp [Nat.sub_sub]
  rw [e]
  constructor
  · simp; omega
  · exact List.take_left
section
variable {w : World} {B g n f hi : Nat} {R l : List Value}
/-- Where Copy ends. -/
theorem Rg.copied {w4 : World} {g' : Nat} {la lb : List Value} (hl : l = la ++ lb) (hle : l.length ≤ n) (hm : n ≤ 65536) (hy : l.length ≤ hi ∧ hi ≤ n) (hg : w4.heap[g']? = some (.cells (splice (splice (List.replicate n (Value.int .i64 0)) 0 la) la.length lb).toArray 3 (0, 0)))
    (hB : w4.heap[B]? = some (.cells #[.bool true, .slice (some ⟨g', 0, none⟩) n n, I 0, I l.length, I hi] 266)) : iQ w4 B g' n hi l := by
  obtain ⟨h1, h2⟩ := splice_two n (Value.int .i64 0) la lb (by rw [hl] at hle; simpa using hle)
  refine ⟨0, _, hB, hg, h1, hm, Rw.copy (by rw [h1]; exact hle) (by rw [hl]; exact h2), hy, fun e => ?_⟩
  rw [e, hg] at hB
  simp only [Option.some.injEq, Obj.cells.injEq] at hB
  exact absurd hB.2.1 (by decide)
set_option maxHeartbeats 4000000 in
set_option maxRecDepth 100000 in
theorem iCopy_any (h : iRg w B g n f hi R l) (hone : ∀ u ∈ l, u.oneCell' = true) : Calls Tryz.prog 181 #[iP B] w fun e w' => ∃ B' g', e = .returned (iP B') ∧ iQ w' B' g' n hi l ∧ w.heap.size ≤ B' ∧ w.heap.size ≤ g' ∧ Below w.heap.size w w' := by
  obtain ⟨i0, hi0, hz0, hz1, hz2⟩ := info_parts iinfo
  obtain ⟨-, c1, c2, c3, c4⟩ := h.cells
  have hN := inone_any h
  have hm := h.m
  have hle := h.lle
  have hNE := h.ne
  have hsz : (Tryz.prog.info? 3).map (·.size) = some 1 := by rw [hi0]; simp [hz1]
  obtain ⟨ZZ, hZZ⟩ : ∃ Z : Array Value, Z = (List.replicate n (Value.int .i64 0)).toArray := ⟨_, rfl⟩
  have HZ : Hid (ZZ = (List.replicate n (Value.int .i64 0)).toArray) := hZZ
  clear hZZ
  have hmk : ∀ W : World, (Instr.makeSlice 31 (I n) (I n)).run Tryz.prog W = .ok (.slice (some ⟨W.heap.size, 0, none⟩) n n) (W.alloc (.cells ZZ 3)) := fun W => by
    have hmk := run_make (P := Tryz.prog) W 31 3 i0 (.int .i64 0) Tryz.underlying31 hi0 hz0 .i64 .i64 (n : Int) (n : Int) (by omega) (Int.le_refl _) (by rw [hz2]; omega) (by omega)
    rw [hz1, Int.toNat_natCast, show (Value.cells (.int .i64 0)) = #[.int .i64 0] from rfl, imade] at hmk
    rw [HZ.out]
    exact hmk
  by_cases hx : f + l.length ≤ n
  · go_enter Tryz.func181, Tryz.ntmps181
    go_wp2_with (first | (go_at_call 238; refine hN.mono ?_; rintro e w1 ⟨rfl, rfl⟩))
    go_region_held_law (fun w' => w'.cell? ⟨B, 1, none⟩ = some (.slice (some ⟨g, 0, none⟩) n n) ∧ w'.cell? ⟨B, 3, none⟩ = some (I l.length) ∧ w'.cell? ⟨B, 4, none⟩ = some (I hi))
      (first | exact ⟨c1, c3, c4⟩ | (go_keep; done))
      (fail)
    have b3 : Below w.heap.size w ((w.alloc (.cells ZZ 3)).alloc (.cells #[.bool true, .slice (some ⟨w.heap.size, 0, none⟩) n n, I 0, I l.length, I hi] 266)).drew := (((Below.refl _ w).alloc (Nat.le_refl _) _).alloc (by simp) _).drew
    have hb3 := heap_alloc_new (w.alloc (.cells ZZ 3)) (.cells #[.bool true, .slice (some ⟨w.heap.size, 0, none⟩) n n, I 0, I l.length, I hi] 266)
    have hg3 := heap_over (w.alloc (.cells ZZ 3)) (.cells #[.bool true, .slice (some ⟨w.heap.size, 0, none⟩) n n, I 0, I l.length, I hi] 266) (heap_alloc_new w (.cells ZZ 3))
    rw [World.size_alloc] at hb3
    have hg4 : ((w.alloc (.cells ZZ 3)).alloc (.cells #[.bool true, .slice (some ⟨w.heap.size, 0, none⟩) n n, I 0, I l.length, I hi] 266)).drew.heap[w.heap.size]? = some (.cells ZZ 3) := hg3
    have hb4 : ((w.alloc (.cells ZZ 3)).alloc (.cells #[.bool true, .slice (some ⟨w.heap.size, 0, none⟩) n n, I 0, I l.length, I hi] 266)).drew.heap[w.heap.size + 1]? = some (.cells #[.bool true, .slice (some ⟨w.heap.size, 0, none⟩) n n, I 0, I l.length, I hi] 266) := hb3
    clear hg3 hb3 c1 c2 c3 c4 hN hmk
    generalize ((w.alloc (.cells ZZ 3)).alloc (.cells #[.bool true, .slice (some ⟨w.heap.size, 0, none⟩) n n, I 0, I l.length, I hi] 266)).drew = W at *
    have hlt := h.lts
    have hp := (parts_one (h.below b3) hx).mono (R' := fun e w' => e = .returned (.tuple #[.slice (some ⟨g, f, none⟩) l.length (n - f), .slice none 0 0]) ∧ Below w.heap.size w w' ∧ w'.cell? ⟨w.heap.size + 1, 1, none⟩ = some (.slice (some ⟨w.heap.size, 0, none⟩) n n) ∧ Hid (w'.heap[w.heap.size]? = some (.cells (List.replicate n (Value.int .i64 0)).toArray 3)) ∧ Hid (w'.heap[w.heap.size + 1]? = some (.cells #[.bool true, .slice (some ⟨w.heap.size, 0, none⟩) n n, I 0, I l.length, I hi] 266))) (fun e w' ⟨k, b⟩ => by
      have q1 := (b.block (w.heap.size + 1) (heap_lt hb4)).trans hb4
      have q2 := (b.block w.heap.size (heap_lt hg4)).trans hg4
      exact ⟨k, b3.trans (b.mono b3.size), by rw [cell_of_row w' _ _ _ _ (0, 0) q1]; rfl, HZ.out ▸ q2, q1⟩)
    obtain ⟨dp, hsl, hdp⟩ := sl_rest w.heap.size n l.length (by omega)
    have HDP : Hid (l.length < n → dp = some ⟨w.heap.size, l.length, none⟩) := hdp
    clear hdp
    have LEN : Hid (l.length = l.length) := rfl
    have L1 : Hid (l.length = Nat.min l.length n) := (Nat.min_eq_left hle).symm
    have ONE : Hid (∀ u ∈ l, u.oneCell' = true) := hone
    have L2 : Hid (([] : List Value).length = Nat.min 0 (n - l.length)) := by show _ = _; simp
    have LEN2 : Hid (([] : List Value).length = 0) := rfl
    have HF2 : Hid (l.length + ([] : List Value).length ≤ (splice (List.replicate n (Value.int .i64 0)) 0 l).length) := by show _ ≤ _; rw [length_splice _ _ _ (by simp; omega)]; simp; omega
    have TWO : Hid (∀ u ∈ ([] : List Value), u.oneCell' = true) := fun u hu => by cases hu
    have HL : Hid (l = l ++ []) := by show _ = _; simp
    go_wp2_with (first | (go_at_call 242; refine hp.mono ?_; rintro e w5 ⟨rfl, b5, k5, Hg5, Hb5⟩))
    have h5 := h.below b5
    have k5d : (w5.drew).cell? ⟨w.heap.size + 1, 1, none⟩ = some (.slice (some ⟨w.heap.size, 0, none⟩) n n) := k5
    have h5d : iRg w5.drew B g n f hi R l := h5.drewN 1
    have F5 : Fx [w.heap.size] w5 w5.drew := (Fx.refl _ _).drewN 1
    have HG6 : Hid (w5.drew.heap[w.heap.size]? = some (.cells (List.replicate n (Value.int .i64 0)).toArray 3 (0, 0))) := Hg5.out
    have HPS : Hid (0 < List.length l → (some (⟨w.heap.size, 0, none⟩ : Addr)) = some ⟨w.heap.size, 0, none⟩ ∧ ∃ ad, (some (⟨g, f, none⟩ : Addr)) = some ad ∧ ∀ j v, (l : List Value)[j]? = some v → w5.drew.cell? (ad.add j) = some v) := fun _ => ⟨rfl, _, rfl, h5d.one hx⟩
    have FIT1 : Hid (0 + List.length l ≤ (List.replicate n (Value.int .i64 0)).length) := by show _ ≤ _; rw [List.length_replicate]; omega
    have RES1 : Hid (I l.length = goInt (List.length l)) := rfl
    have RES2 : Hid (I (0 : Nat) = goInt (List.length ([] : List Value))) := rfl
    have hne1 : w.heap.size + 1 ∉ [w.heap.size] := by simp
    have hng : g ∉ [w.heap.size] := by simp; omega
    have hnB : B ∉ [w.heap.size] := by simp; omega
    go_region_held_law (fun w' => w'.cell? ⟨w.heap.size + 1, 1, none⟩ = some (.slice (some ⟨w.heap.size, 0, none⟩) n n))
      (first | exact k7 | exact k6 | exact k5d | exact k5 | (go_keep; done))
      (first
        | (refine step_copy_fx rfl (.tmp 36) (.tmp 37) 31 31 rfl 3 Tryz.underlying31 hsz (some ⟨w.heap.size, 0, none⟩) (some ⟨g, f, none⟩) n n l.length (n - f) (by simp [Act.eval, Act.put]) (by simp [Act.eval, Act.put]) w.heap.size 0 (List.replicate n (Value.int .i64 0)) 3 HG6.out l L1.out HPS.out FIT1.out ONE.out (I l.length) RES1.out ?_; intro w6 hg6 F6; have k6 : w6.cell? ⟨w.heap.size + 1, 1, none⟩ = some (.slice (some ⟨w.heap.size, 0, none⟩) n n) := F6.cell k5d hne1; have h6 := h5d.kept F6 hnB hng; clear k5d)
        | (refine step_copy_fx rfl (.tmp 39) (.tmp 40) 31 31 rfl 3 Tryz.underlying31 hsz dp none (n - l.length) (n - l.length) 0 0 (by simp [Act.eval, Act.put]) (by simp [Act.eval, Act.put]) w.heap.size l.length (splice (List.replicate n (Value.int .i64 0)) 0 l) 3 hg6.out ([] : List Value) L2.out (fun e => absurd e (by simp)) HF2.out TWO.out (I (0 : Nat)) RES2.out ?_; intro w7 hg7 F7; have k7 : w7.cell? ⟨w.heap.size + 1, 1, none⟩ = some (.slice (some ⟨w.heap.size, 0, none⟩) n n) := F7.cell k6 hne1; clear k6))
    go_wp2
    go_ret
    have FF := (F5.trans F6).trans F7
    refine ⟨w.heap.size + 1, rfl, w.heap.size, Rg.copied HL.out hle hm h.y (g' := w.heap.size) hg7.out (FF.heap Hb5.out hne1), by omega, Nat.le_refl _, b5.trans ((FF.below (B := w.heap.size) (by have := b5.size; omega) (by simp)).mono (Nat.le_refl _))⟩
  · have hx2 : n < f + l.length := by omega
    have hf2 : f < n := by have := h.hf; omega
    go_enter Tryz.func181, Tryz.ntmps181
    go_wp2_with (first | (go_at_call 238; refine hN.mono ?_; rintro e w1 ⟨rfl, rfl⟩))
    go_region_held_law (fun w' => w'.cell? ⟨B, 1, none⟩ = some (.slice (some ⟨g, 0, none⟩) n n) ∧ w'.cell? ⟨B, 3, none⟩ = some (I l.length) ∧ w'.cell? ⟨B, 4, none⟩ = some (I hi))
      (first | exact ⟨c1, c3, c4⟩ | (go_keep; done))
      (fail)
    have b3 : Below w.heap.size w ((w.alloc (.cells ZZ 3)).alloc (.cells #[.bool true, .slice (some ⟨w.heap.size, 0, none⟩) n n, I 0, I l.length, I hi] 266)).drew := (((Below.refl _ w).alloc (Nat.le_refl _) _).alloc (by simp) _).drew
    have hb3 := heap_alloc_new (w.alloc (.cells ZZ 3)) (.cells #[.bool true, .slice (some ⟨w.heap.size, 0, none⟩) n n, I 0, I l.length, I hi] 266)
    have hg3 := heap_over (w.alloc (.cells ZZ 3)) (.cells #[.bool true, .slice (some ⟨w.heap.size, 0, none⟩) n n, I 0, I l.length, I hi] 266) (heap_alloc_new w (.cells ZZ 3))
    rw [World.size_alloc] at hb3
    have hg4 : ((w.alloc (.cells ZZ 3)).alloc (.cells #[.bool true, .slice (some ⟨w.heap.size, 0, none⟩) n n, I 0, I l.length, I hi] 266)).drew.heap[w.heap.size]? = some (.cells ZZ 3) := hg3
    have hb4 : ((w.alloc (.cells ZZ 3)).alloc (.cells #[.bool true, .slice (some ⟨w.heap.size, 0, none⟩) n n, I 0, I l.length, I hi] 266)).drew.heap[w.heap.size + 1]? = some (.cells #[.bool true, .slice (some ⟨w.heap.size, 0, none⟩) n n, I 0, I l.length, I hi] 266) := hb3
    clear hg3 hb3 c1 c2 c3 c4 hN hmk
    generalize ((w.alloc (.cells ZZ 3)).alloc (.cells #[.bool true, .slice (some ⟨w.heap.size, 0, none⟩) n n, I 0, I l.length, I hi] 266)).drew = W at *
    have hlt := h.lts
    have hp := (parts_two (h.below b3) hx2).mono (R' := fun e w' => e = .returned (.tuple #[.slice (some ⟨g, f, none⟩) (n - f) (n - f), .slice (some ⟨g, 0, none⟩) (f + l.length - n) n]) ∧ Below w.heap.size w w' ∧ w'.cell? ⟨w.heap.size + 1, 1, none⟩ = some (.slice (some ⟨w.heap.size, 0, none⟩) n n) ∧ Hid (w'.heap[w.heap.size]? = some (.cells (List.replicate n (Value.int .i64 0)).toArray 3)) ∧ Hid (w'.heap[w.heap.size + 1]? = some (.cells #[.bool true, .slice (some ⟨w.heap.size, 0, none⟩) n n, I 0, I l.length, I hi] 266))) (fun e w' ⟨k, b⟩ => by
      have q1 := (b.block (w.heap.size + 1) (heap_lt hb4)).trans hb4
      have q2 := (b.block w.heap.size (heap_lt hg4)).trans hg4
      exact ⟨k, b3.trans (b.mono b3.size), by rw [cell_of_row w' _ _ _ _ (0, 0) q1]; rfl, HZ.out ▸ q2, q1⟩)
    obtain ⟨dp, hsl, hdp⟩ := sl_rest w.heap.size n (n - f) (by omega)
    have HDP : Hid ((n - f) < n → dp = some ⟨w.heap.size, (n - f), none⟩) := hdp
    clear hdp
    have hk := h.k
    have LEN : Hid ((R.drop f).length = n - f) := by show _ = _; simp [hk]
    have L1 : Hid ((R.drop f).length = Nat.min (n - f) n) := LEN.out.trans (Nat.min_eq_left (by omega)).symm
    have LEN2 : Hid ((R.take (f + l.length - n)).length = f + l.length - n) := by show _ = _; simp [hk]; omega
    have L2 : Hid ((R.take (f + l.length - n)).length = Nat.min (f + l.length - n) (n - (n - f))) := LEN2.out.trans (Nat.min_eq_left (by omega)).symm
    have HL : Hid (l = R.drop f ++ R.take (f + l.length - n)) := (h.twoL hx2).symm
    have ONE : Hid (∀ u ∈ R.drop f, u.oneCell' = true) := fun u hu => hone u (by rw [HL.out]; exact List.mem_append_left _ hu)
    have TWO : Hid (∀ u ∈ R.take (f + l.length - n), u.oneCell' = true) := fun u hu => hone u (by rw [HL.out]; exact List.mem_append_right _ hu)
    have HF2 : Hid ((n - f) + (R.take (f + l.length - n)).length ≤ (splice (List.replicate n (Value.int .i64 0)) 0 (R.drop f)).length) := by show _ ≤ _; rw [length_splice _ _ _ (by rw [LEN.out]; simp), LEN2.out]; simp; omega
    clear hk
    go_wp2_with (first | (go_at_call 242; refine hp.mono ?_; rintro e w5 ⟨rfl, b5, k5, Hg5, Hb5⟩))
    have h5 := h.below b5
    have k5d : (w5.drew).cell? ⟨w.heap.size + 1, 1, none⟩ = some (.slice (some ⟨w.heap.size, 0, none⟩) n n) := k5
    have h5d : iRg w5.drew B g n f hi R l := h5.drewN 1
    have F5 : Fx [w.heap.size] w5 w5.drew := (Fx.refl _ _).drewN 1
    have HG6 : Hid (w5.drew.heap[w.heap.size]? = some (.cells (List.replicate n (Value.int .i64 0)).toArray 3 (0, 0))) := Hg5.out
    have HPS : Hid (0 < List.length (R.drop f) → (some (⟨w.heap.size, 0, none⟩ : Addr)) = some ⟨w.heap.size, 0, none⟩ ∧ ∃ ad, (some (⟨g, f, none⟩ : Addr)) = some ad ∧ ∀ j v, ((R.drop f) : List Value)[j]? = some v → w5.drew.cell? (ad.add j) = some v) := fun _ => ⟨rfl, _, rfl, h5d.two1⟩
    have FIT1 : Hid (0 + List.length (R.drop f) ≤ (List.replicate n (Value.int .i64 0)).length) := by show _ ≤ _; rw [LEN.out, List.length_replicate]; omega
    have RES1 : Hid (I ((n - f : Nat) : Int) = goInt (List.length (R.drop f))) := by show _ = _; rw [LEN.out]; first | done | rfl
    have RES2 : Hid (I ((f + l.length - n : Nat) : Int) = goInt (List.length (R.take (f + l.length - n)))) := by show _ = _; rw [LEN2.out]; first | done | rfl
    have hne1 : w.heap.size + 1 ∉ [w.heap.size] := by simp
    have hng : g ∉ [w.heap.size] := by simp; omega
    have hnB : B ∉ [w.heap.size] := by simp; omega
    go_region_held_law (fun w' => w'.cell? ⟨w.heap.size + 1, 1, none⟩ = some (.slice (some ⟨w.heap.size, 0, none⟩) n n))
      (first | exact k7 | exact k6 | exact k5d | exact k5 | (go_keep; done))
      (first
        | (refine step_copy_fx rfl (.tmp 36) (.tmp 37) 31 31 rfl 3 Tryz.underlying31 hsz (some ⟨w.heap.size, 0, none⟩) (some ⟨g, f, none⟩) n n (n - f) (n - f) (by simp [Act.eval, Act.put]) (by simp [Act.eval, Act.put]) w.heap.size 0 (List.replicate n (Value.int .i64 0)) 3 HG6.out (R.drop f) L1.out HPS.out FIT1.out ONE.out (I ((n - f : Nat) : Int)) RES1.out ?_; intro w6 hg6 F6; have k6 : w6.cell? ⟨w.heap.size + 1, 1, none⟩ = some (.slice (some ⟨w.heap.size, 0, none⟩) n n) := F6.cell k5d hne1; have h6 := h5d.kept F6 hnB hng; clear k5d)
        | (refine step_copy_fx rfl (.tmp 39) (.tmp 40) 31 31 rfl 3 Tryz.underlying31 hsz dp (some ⟨g, 0, none⟩) (n - (n - f)) (n - (n - f)) (f + l.length - n) n (by simp [Act.eval, Act.put]) (by simp [Act.eval, Act.put]) w.heap.size (n - f) (splice (List.replicate n (Value.int .i64 0)) 0 (R.drop f)) 3 hg6.out (R.take (f + l.length - n)) L2.out (fun _ => ⟨HDP.out (by omega), _, rfl, h6.two2 _⟩) HF2.out TWO.out (I ((f + l.length - n : Nat) : Int)) RES2.out ?_; intro w7 hg7 F7; have k7 : w7.cell? ⟨w.heap.size + 1, 1, none⟩ = some (.slice (some ⟨w.heap.size, 0, none⟩) n n) := F7.cell k6 hne1; clear k6))
    go_wp2
    go_ret
    have FF := (F5.trans F6).trans F7
    refine ⟨w.heap.size + 1, rfl, w.heap.size, Rg.copied HL.out hle hm h.y (g' := w.heap.size) (by rw [LEN.out]; exact hg7.out) (FF.heap Hb5.out hne1), by omega, Nat.le_refl _, b5.trans ((FF.below (B := w.heap.size) (by have := b5.size; omega) (by simp)).mono (Nat.le_refl _))⟩
end
end Go.Proofs.YtglnfifdjlgbcaaGreatDoor.Re
