import Derived.Test.YtckmdkdhnhkdhaaZgi
namespace Go.Proofs.Ytckmdkdhnhkdhaa
open Go.RowKit
set_option linter.unusedVariables false
set_option linter.unusedSimpArgs false

/-! ### Stacks of ints: Copy -/
theorem step_copy_fx {P : Program} {ops : Array Oper} {o : Oper} {a : Act} {w : World} {K : Act → World → Prop} {Q : Exit → Act → World → Prop} {E : Prop} (hgd : o.guard = none) (d s : Operand) (dT sT : TypeId)
    (ho : o.op = .call { callee := .builtin .copy, args := #[d, s], argTypes := #[dT, sT] }) (elem : TypeId) (hu : P.underlying dT = some (.slice elem)) (hsz : (P.info? elem).map (·.size) = some 1)
    (dp sp : Option Addr) (dLen dCap sLen sCap : Nat) (hd : a.eval d = .slice dp dLen dCap) (hs : a.eval s = .slice sp sLen sCap)
    (g off : Nat) (cur : List Value) (t : TypeId) (hg : w.heap[g]? = some (.cells cur.toArray t (0, 0))) (cs : List Value) (hn : cs.length = Nat.min sLen dLen)
    (hpos : 0 < cs.length → dp = some ⟨g, off, none⟩ ∧ ∃ ad, sp = some ad ∧ ∀ j v, cs[j]? = some v → w.cell? (ad.add j) = some v)
    (hfit : off + cs.length ≤ cur.length) (h1 : ∀ v ∈ cs, v.oneCell' = true) (vr : Value) (hvr : vr = goInt cs.length)
    (h : ∀ w', Hid (w'.heap[g]? = some (.cells (splice cur off cs).toArray t (0, 0))) → Fx [g] w w' → K (a.put o.dst vr) w') :
    if Region.wanted o (yielded ops a.tmps) = true then Oper.wp P o a w K Q else E := by
  subst hvr
  have hw : Region.wanted o (yielded ops a.tmps) = true := by simp [Region.wanted, hgd]
  rw [if_pos hw]
  by_cases h0 : cs.length = 0
  · obtain rfl : cs = [] := List.eq_nil_of_length_eq_zero h0
    have hrun := run_copy_none (P := P) w dT sT o.type elem dp sp dLen dCap sLen sCap hu hsz (by simpa using hn.symm)
    unfold Oper.wp
    simp [execOp, ho, resolve, invoke, builtin, hd, hs, hrun, Result.andThen]
    exact h w (show _ = _ by simpa [splice] using hg) (Fx.refl _ _)
  · obtain ⟨rfl, ad, rfl, hsrc⟩ := hpos (by omega)
    have hrun := run_copy_row (P := P) w dT sT o.type elem g off dLen dCap ad sLen sCap cur.toArray t cs hu hsz hg hn hsrc (by simpa using hfit) h1
    unfold Oper.wp
    simp [execOp, ho, resolve, invoke, builtin, hd, hs, hrun, Result.andThen]
    refine h _ (show _ = _ by simpa [splice] using setRow_heap w g _ _ t _ hg) ⟨rfl, rfl, rfl, by simp [World.setRow], fun k _ hk => setRow_other w g k _ (by simpa using hk)⟩
theorem splice_all (z : Value) (R : List Value) (n : Nat) (h : R.length = n) : splice (List.replicate n z) 0 R = R := by
  unfold splice
  simp [h]
section
variable {w : World} {B g n hi : Nat} {R l : List Value}
set_option maxHeartbeats 4000000 in
set_option maxRecDepth 100000 in
theorem iCopy_any (h : iSk w B g n hi R l) : Calls Try.prog 30 #[iP B] w fun e w' => ∃ B' g', e = .returned (iP B') ∧ iSk w' B' g' n hi R l ∧ w.heap.size ≤ B' ∧ w.heap.size ≤ g' ∧ Below w.heap.size w w' := by
  obtain ⟨i0, hi0, hz0, hz1, hz2⟩ := info_parts iinfo
  obtain ⟨-, c1, c3, c4⟩ := h.cells
  have hN := inone_any h
  have hm := h.m
  have hle := h.lle
  have hNE := h.ne
  have hsz : (Try.prog.info? 3).map (·.size) = some 1 := by rw [hi0]; simp [hz1]
  obtain ⟨ZZ, hZZ⟩ : ∃ Z : Array Value, Z = (List.replicate n (Value.int .i64 0)).toArray := ⟨_, rfl⟩
  have HZ : Hid (ZZ = (List.replicate n (Value.int .i64 0)).toArray) := hZZ
  clear hZZ
  have hmk : ∀ W : World, (Instr.makeSlice 22 (I n) (I n)).run Try.prog W = .ok (.slice (some ⟨W.heap.size, 0, none⟩) n n) (W.alloc (.cells ZZ 3)) := fun W => by
    have hmk := run_make (P := Try.prog) W 22 3 i0 (.int .i64 0) Try.underlying22 hi0 hz0 .i64 .i64 (n : Int) (n : Int) (by omega) (Int.le_refl _) (by rw [hz2]; omega) (by omega)
    rw [hz1, Int.toNat_natCast, show (Value.cells (.int .i64 0)) = #[.int .i64 0] from rfl, imade] at hmk
    rw [HZ.out]
    exact hmk
  go_enter Try.func30, Try.ntmps30
  go_wp2_with (first | (go_at_call 34; refine hN.mono ?_; rintro e w1 ⟨rfl, rfl⟩))
  go_region_held_law (fun w' => w'.cell? ⟨B, 1, none⟩ = some (.slice (some ⟨g, 0, none⟩) n n) ∧ w'.cell? ⟨B, 2, none⟩ = some (I l.length) ∧ w'.cell? ⟨B, 3, none⟩ = some (I hi))
    (first | exact ⟨c1, c3, c4⟩ | (go_keep; done))
    (fail)
  have b3 : Below w.heap.size w ((w.alloc (.cells ZZ 3)).alloc (.cells #[.bool true, .slice (some ⟨w.heap.size, 0, none⟩) n n, I l.length, I hi] 62)).drew := (((Below.refl _ w).alloc (Nat.le_refl _) _).alloc (by simp) _).drew
  have hb3 := heap_alloc_new (w.alloc (.cells ZZ 3)) (.cells #[.bool true, .slice (some ⟨w.heap.size, 0, none⟩) n n, I l.length, I hi] 62)
  have hg3 := heap_over (w.alloc (.cells ZZ 3)) (.cells #[.bool true, .slice (some ⟨w.heap.size, 0, none⟩) n n, I l.length, I hi] 62) (heap_alloc_new w (.cells ZZ 3))
  rw [World.size_alloc] at hb3
  have hg4 : ((w.alloc (.cells ZZ 3)).alloc (.cells #[.bool true, .slice (some ⟨w.heap.size, 0, none⟩) n n, I l.length, I hi] 62)).drew.heap[w.heap.size]? = some (.cells ZZ 3) := hg3
  have hb4 : ((w.alloc (.cells ZZ 3)).alloc (.cells #[.bool true, .slice (some ⟨w.heap.size, 0, none⟩) n n, I l.length, I hi] 62)).drew.heap[w.heap.size + 1]? = some (.cells #[.bool true, .slice (some ⟨w.heap.size, 0, none⟩) n n, I l.length, I hi] 62) := hb3
  clear hg3 hb3 c1 c3 c4 hN hmk
  generalize ((w.alloc (.cells ZZ 3)).alloc (.cells #[.bool true, .slice (some ⟨w.heap.size, 0, none⟩) n n, I l.length, I hi] 62)).drew = W at *
  have hlt := h.lts
  have h3 := h.below b3
  obtain ⟨-, c1, -, -⟩ := h3.cells
  have c1d : W.drew.cell? ⟨B, 1, none⟩ = some (.slice (some ⟨g, 0, none⟩) n n) := c1
  have k5 : W.cell? ⟨w.heap.size + 1, 1, none⟩ = some (.slice (some ⟨w.heap.size, 0, none⟩) n n) := by rw [cell_of_row W _ _ _ _ (0, 0) hb4]; rfl
  have k5d : W.drew.cell? ⟨w.heap.size + 1, 1, none⟩ = some (.slice (some ⟨w.heap.size, 0, none⟩) n n) := k5
  have HG6 : Hid (W.drew.heap[w.heap.size]? = some (.cells (List.replicate n (Value.int .i64 0)).toArray 3 (0, 0))) := HZ.out ▸ hg4
  have HB4 : Hid (W.drew.heap[w.heap.size + 1]? = some (.cells #[.bool true, .slice (some ⟨w.heap.size, 0, none⟩) n n, I l.length, I hi] 62)) := hb4
  have L1 : Hid (R.length = Nat.min n n) := by show _ = _; rw [h.k]; exact (Nat.min_self n).symm
  have ONE : Hid (∀ u ∈ R, u.oneCell' = true) := h.u
  have HPS : Hid (∀ (j : Nat) (v : Value), R[j]? = some v → W.drew.cell? ((⟨g, 0, none⟩ : Addr).add j) = some v) := fun j v hj => by rw [addr_add, Nat.zero_add]; exact h3.atR hj
  have FIT1 : Hid (0 + List.length R ≤ (List.replicate n (Value.int .i64 0)).length) := by show _ ≤ _; rw [List.length_replicate]; have := h.k; omega
  have RES1 : Hid (I n = goInt (List.length R)) := by show _ = _; rw [h.k]; rfl
  have HH : Hid (iSk w B g n hi R l) := h
  have hne1 : w.heap.size + 1 ∉ [w.heap.size] := by simp
  have hne2 : B ∉ [w.heap.size] := by simp; omega
  clear h h3 hg4 hb4
  go_wp2
  go_region_held_law (fun w' => w'.cell? ⟨w.heap.size + 1, 1, none⟩ = some (.slice (some ⟨w.heap.size, 0, none⟩) n n) ∧ w'.cell? ⟨B, 1, none⟩ = some (.slice (some ⟨g, 0, none⟩) n n))
    (first | exact ⟨k5, c1⟩ | exact ⟨k6, c6⟩ | exact ⟨k5d, c1d⟩ | (go_keep; done))
    (first
      | (refine step_copy_fx rfl (.tmp 25) (.tmp 29) 22 22 rfl 3 Try.underlying22 hsz (some ⟨w.heap.size, 0, none⟩) (some ⟨g, 0, none⟩) n n n n (by simp [Act.eval, Act.put]) (by simp [Act.eval, Act.put]) w.heap.size 0 (List.replicate n (Value.int .i64 0)) 3 HG6.out R L1.out (fun _ => ⟨rfl, _, rfl, HPS.out⟩) FIT1.out ONE.out (I n) RES1.out ?_; intro w6 hg6 F6; have k6 : w6.cell? ⟨w.heap.size + 1, 1, none⟩ = some (.slice (some ⟨w.heap.size, 0, none⟩) n n) := F6.cell k5d hne1; have c6 : w6.cell? ⟨B, 1, none⟩ = some (.slice (some ⟨g, 0, none⟩) n n) := F6.cell c1d hne2))
  go_wp2
  go_ret
  have h := HH.out
  have hg := hg6.out
  rw [splice_all _ R n h.k] at hg
  refine ⟨w.heap.size + 1, w.heap.size, rfl, ⟨F6.heap HB4.out hne1, hg, h.k, h.m, h.r, h.y, by omega, h.u⟩, by omega, Nat.le_refl _, b3.trans ?_⟩
  exact ((Fx.of_below (bs := [w.heap.size]) ((Below.refl W.heap.size W).drew)).trans F6).below (by have := b3.size; omega) (by simp)
end
end Go.Proofs.Ytckmdkdhnhkdhaa
