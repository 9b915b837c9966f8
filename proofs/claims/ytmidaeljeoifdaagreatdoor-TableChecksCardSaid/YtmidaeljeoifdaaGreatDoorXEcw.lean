import Derived.Test.YtmidaeljeoifdaaGreatDoorEct
namespace Go.Proofs.YtmidaeljeoifdaaGreatDoor.Ce
open Go.RowKit Go.Maps
set_option linter.unusedVariables false
set_option linter.unusedSimpArgs false

/-! ### May the resources be? -/
/-- A whole variable read where a guard lets it be. -/
theorem wpList_load_row_g {P : Program} {ops : Array Oper} {rest : List Oper} {o : Oper} {a : Act} {w : World} {Q : Exit → Act → World → Prop} (ty : TypeId) (x : Operand) (ho : o.op = .load ty x)
    (g : Nat) (hx : a.eval x = .pointer (some ⟨g, 0, none⟩)) (t : TypeId) (cs : Array Value) (fr : Nat × Nat) (d : TypeDesc) (hg : w.heap[g]? = some (.cells cs t fr))
    (hu : P.underlying ty = some d) (hd : (match d with | .struct _ | .array _ _ => true | _ => false) = true) (hi : (P.info? ty).map (·.size) = some cs.size) (hgd : Region.wanted o (yielded ops a.tmps) = true)
    (h : wpList P ops Q rest (a.put o.dst (.agg cs)) w) : wpList P ops Q (o :: rest) a w :=
  wpList_step fun K hK => by rw [if_pos hgd]; exact wp_load_row ty x ho g hx t cs fr d hg hu hd hi (hK _ _ h)
def lkB (c : Cf) : Bool := c.ress.all (lmB c.ress.length)
def lookE (c : Cf) : Int := if (meetB c && lkB c) = false then 80 else if endsB c = false then 81 else if (linksB c && fitB c) = false then 82 else 0
theorem lk_links {c : Cf} (h : lkB c = true) : ∀ x ∈ c.ress, x.kind = 2 → isId x.link c.ress.length = true := fun x hx hk => by
  have h1 := List.all_eq_true.1 h x hx
  unfold lmB at h1
  rw [hk] at h1
  simpa using h1
def LookP (c : Cf) (R : Int) (w : World) (e : Ending) (w' : World) : Prop := Below w.heap.size w w' ∧ ((R = 0 ∧ ∃ b, e = .returned (.tuple #[.map (some b), I 0]) ∧ w.heap.size ≤ b ∧ EndsAt w' b c) ∨ (R ≠ 0 ∧ e = .returned (.tuple #[.map none, I R])))
theorem LookP.bad {c : Cf} {R r : Int} {w w' : World} {e : Ending} (hR : R = r) (hr : r ≠ 0) (hb : Below w.heap.size w w') (he : e = .returned (.tuple #[.map none, I r])) : LookP c R w e w' := ⟨hb, .inr ⟨by rw [hR]; exact hr, by rw [he, hR]⟩⟩
theorem LookP.ok {c : Cf} {R : Int} {w w' : World} {e : Ending} {b : Nat} (hR : R = 0) (hb : Below w.heap.size w w') (hl : w.heap.size ≤ b) (hE : EndsAt w' b c) (he : e = .returned (.tuple #[.map (some b), I 0])) : LookP c R w e w' := ⟨hb, .inl ⟨hR, b, he, hl, hE⟩⟩
set_option maxHeartbeats 8000000 in
set_option maxRecDepth 100000 in
theorem clook_any (w : World) (c : Cf) (v : Vs) (h : CfAt w c v) (hn : c.ress.length ≤ 8796093022208) : Calls Tryz.prog 78 #[.agg (cfC c v)] w fun e w' => LookP c (lookE c) w e w' := by
  have hi18 : (Tryz.prog.info? 47).map (·.size) = some (cfC c v).size := by rw [show (cfC c v).size = 18 from rfl]; kernel_rfl
  have hV0 := heap_alloc_new w (.cells (cfC c v) 47)
  have hb := below_alloc w (.cells (cfC c v) 47)
  have hcv : ∀ W : World, W.heap[w.heap.size]? = some (.cells (cfC c v) 47 (0, 0)) → W.cell? ⟨w.heap.size, 12, none⟩ = some (.slice v.r.a v.r.n v.r.c) := fun W hW => by
    obtain ⟨_, h10, h11, h12, h13, h14, h15, h16, h17⟩ := var18_all hW
    exact h12
  have HNM : Hid (∀ W, Below w.heap.size w W → Calls Tryz.prog 125 #[.agg (cfC c v)] W fun e w' => Ans W (meetB c) e w') := fun W hW => namesMeet_any W c v (h.below hW)
  have HLM : Hid (∀ W, Below w.heap.size w W → Calls Tryz.prog 126 #[.slice v.r.a v.r.n v.r.c] W fun e w' => Ans W (lkB c) e w') := fun W hW => linksMeet_any W c v (h.below hW)
  have HEO : Hid (lkB c = true → ∀ W, Below w.heap.size w W → Calls Tryz.prog 127 #[.slice v.r.a v.r.n v.r.c] W fun e w' => EndsPost c W e w') := fun hk W hW => endsOf_any W c v (h.below hW) hn (lk_links hk)
  have HLF : Hid (endsB c = true → ∀ W b, Below w.heap.size w W → EndsAt W b c → Calls Tryz.prog 128 #[.slice v.r.a v.r.n v.r.c, .map (some b)] W fun e w' => Ans W (linksB c) e w') := fun hk W b hW hE => linksFit_any W c v (h.below hW) hn b hE hk
  have HNF : Hid (meetB c = true → ∀ W, Below w.heap.size w W → Calls Tryz.prog 129 #[.agg (cfC c v)] W fun e w' => Ans W (fitB c) e w') := fun hk W hW => namesFit_any W c v (h.below hW) hn hk
  obtain ⟨R, hR⟩ : ∃ R, R = lookE c := ⟨_, rfl⟩
  rw [← hR]
  unfold lookE at hR
  have HR : Hid (R = _) := hR
  generalize cfC c v = C at *
  have HF : Hid (∀ W, Below (w.alloc (.cells C 47)).heap.size (w.alloc (.cells C 47)) W → W.heap[w.heap.size]? = some (.cells C 47 (0, 0)) ∧ W.cell? ⟨w.heap.size, 12, none⟩ = some (.slice v.r.a v.r.n v.r.c) ∧ Below w.heap.size w W) := fun W hW => by
    have hVW := (hW.block _ (heap_lt hV0)).trans hV0
    exact ⟨hVW, hcv W hVW, hb.trans (hW.mono hb.size)⟩
  have HB0 : Hid (Below w.heap.size w (w.alloc (.cells C 47))) := hb
  clear hR h hb hcv
  cases hm : meetB c with
  | false =>
    have HE : Hid (R = 80) := by show _ = _; rw [HR.out, hm]; rfl
    rw [hm] at HNM
    clear HR HLM HEO HLF HNF
    go_enter Tryz.func78, Tryz.ntmps78
    go_wp2_with (first | (refine wpList_load_row rfl 47 _ rfl w.heap.size rfl 47 _ (0, 0) _ hV0 Tryz.underlying47 rfl hi18 ?_) | (go_at_call 125; refine (HNM.out _ HB0.out).mono ?_; rintro e w1 ⟨rfl, hb1⟩; obtain ⟨hV1, y1, hbw1⟩ := HF.out _ hb1; have HB1 : Hid (Below (w.alloc (.cells C 47)).heap.size (w.alloc (.cells C 47)) w1) := hb1; have Hbw1 : Hid (Below w.heap.size w w1) := hbw1; clear hb1 HNM))
    go_ret2
    exact LookP.bad HE.out (by decide) hbw1 rfl
  | true =>
    rw [hm] at HNM
    have kNF := HNF.out hm
    have HNF2 : Hid (∀ W, Below w.heap.size w W → Calls Tryz.prog 129 #[.agg C] W fun e w' => Ans W (fitB c) e w') := kNF
    clear HNF kNF
    cases hk : lkB c with
    | false =>
      have HE : Hid (R = 80) := by show _ = _; rw [HR.out, hm, hk]; rfl
      rw [hk] at HLM
      clear HR HEO HLF HNF2
      go_enter Tryz.func78, Tryz.ntmps78
      go_wp2_with (first | (refine wpList_load_row rfl 47 _ rfl w.heap.size rfl 47 _ (0, 0) _ hV0 Tryz.underlying47 rfl hi18 ?_) | (go_at_call 125; refine (HNM.out _ HB0.out).mono ?_; rintro e w1 ⟨rfl, hb1⟩; obtain ⟨hV1, y1, hbw1⟩ := HF.out _ hb1; have HB1 : Hid (Below (w.alloc (.cells C 47)).heap.size (w.alloc (.cells C 47)) w1) := hb1; have Hbw1 : Hid (Below w.heap.size w w1) := hbw1; clear hb1 HNM) | (go_at_call 126; refine (HLM.out _ Hbw1.out).mono ?_; clear hV1 y1 hbw1; rintro e w2 ⟨rfl, hb2⟩; have HB2 : Hid (Below (w.alloc (.cells C 47)).heap.size (w.alloc (.cells C 47)) w2) := HB1.out.trans (hb2.mono HB1.out.size); obtain ⟨hV2, y2, hbw2⟩ := HF.out _ HB2.out; have Hbw2 : Hid (Below w.heap.size w w2) := hbw2; clear hb2 HLM))
      go_ret2
      exact LookP.bad HE.out (by decide) hbw2 rfl
    | true =>
      rw [hk] at HLM
      have kEO := HEO.out hk
      have HEO2 : Hid (∀ W, Below w.heap.size w W → Calls Tryz.prog 127 #[.slice v.r.a v.r.n v.r.c] W fun e w' => EndsPost c W e w') := kEO
      clear HEO kEO
      cases he : endsB c with
      | false =>
        have HE : Hid (R = 81) := by show _ = _; rw [HR.out, hm, hk, he]; rfl
        have Hen : Hid (endsB c = false) := he
        clear HR HLF HNF2 he
        go_enter Tryz.func78, Tryz.ntmps78
        go_wp2_with (first | (refine wpList_load_row rfl 47 _ rfl w.heap.size rfl 47 _ (0, 0) _ hV0 Tryz.underlying47 rfl hi18 ?_) | (go_at_call 125; refine (HNM.out _ HB0.out).mono ?_; rintro e w1 ⟨rfl, hb1⟩; obtain ⟨hV1, y1, hbw1⟩ := HF.out _ hb1; have HB1 : Hid (Below (w.alloc (.cells C 47)).heap.size (w.alloc (.cells C 47)) w1) := hb1; have Hbw1 : Hid (Below w.heap.size w w1) := hbw1; clear hb1 HNM) | (go_at_call 126; refine (HLM.out _ Hbw1.out).mono ?_; clear hV1 y1 hbw1; rintro e w2 ⟨rfl, hb2⟩; have HB2 : Hid (Below (w.alloc (.cells C 47)).heap.size (w.alloc (.cells C 47)) w2) := HB1.out.trans (hb2.mono HB1.out.size); obtain ⟨hV2, y2, hbw2⟩ := HF.out _ HB2.out; have Hbw2 : Hid (Below w.heap.size w w2) := hbw2; clear hb2 HLM) | (go_at_call 127; refine (HEO2.out _ Hbw2.out).mono ?_; clear hV2 y2 hbw2; rintro e w3 ⟨hb3, he3⟩; rw [Hen.out, if_neg (by decide)] at he3; subst he3; have HB3 : Hid (Below (w.alloc (.cells C 47)).heap.size (w.alloc (.cells C 47)) w3) := HB2.out.trans (hb3.mono HB2.out.size); obtain ⟨hV3, y3, hbw3⟩ := HF.out _ HB3.out; clear hb3 HEO2))
        go_ret2
        exact LookP.bad HE.out (by decide) hbw3 rfl
      | true =>
        have kLF := HLF.out he
        have HLF2 : Hid (∀ W b, Below w.heap.size w W → EndsAt W b c → Calls Tryz.prog 128 #[.slice v.r.a v.r.n v.r.c, .map (some b)] W fun e w' => Ans W (linksB c) e w') := kLF
        have Hen : Hid (endsB c = true) := he
        clear HLF kLF
        cases hl : linksB c with
        | false =>
          have HE : Hid (R = 82) := by show _ = _; rw [HR.out, hm, hk, he, hl]; rfl
          rw [hl] at HLF2
          clear HR HNF2 he
          go_enter Tryz.func78, Tryz.ntmps78
          go_wp2_with (first | (refine wpList_load_row rfl 47 _ rfl w.heap.size rfl 47 _ (0, 0) _ hV0 Tryz.underlying47 rfl hi18 ?_) | (go_at_call 125; refine (HNM.out _ HB0.out).mono ?_; rintro e w1 ⟨rfl, hb1⟩; obtain ⟨hV1, y1, hbw1⟩ := HF.out _ hb1; have HB1 : Hid (Below (w.alloc (.cells C 47)).heap.size (w.alloc (.cells C 47)) w1) := hb1; have Hbw1 : Hid (Below w.heap.size w w1) := hbw1; clear hb1 HNM) | (go_at_call 126; refine (HLM.out _ Hbw1.out).mono ?_; clear hV1 y1 hbw1; rintro e w2 ⟨rfl, hb2⟩; have HB2 : Hid (Below (w.alloc (.cells C 47)).heap.size (w.alloc (.cells C 47)) w2) := HB1.out.trans (hb2.mono HB1.out.size); obtain ⟨hV2, y2, hbw2⟩ := HF.out _ HB2.out; have Hbw2 : Hid (Below w.heap.size w w2) := hbw2; clear hb2 HLM) | (go_at_call 127; refine (HEO2.out _ Hbw2.out).mono ?_; rintro e w3 ⟨hb3, he3⟩; rw [Hen.out, if_pos rfl] at he3; obtain ⟨b3, rfl, hbl, hE3⟩ := he3; have hbl3 : w.heap.size ≤ b3 := Nat.le_trans Hbw2.out.size hbl; clear hV2 y2 hbw2 hbl; have HB3 : Hid (Below (w.alloc (.cells C 47)).heap.size (w.alloc (.cells C 47)) w3) := HB2.out.trans (hb3.mono HB2.out.size); obtain ⟨hV3, y3, hbw3⟩ := HF.out _ HB3.out; have Hbw3 : Hid (Below w.heap.size w w3) := hbw3; clear hb3 HEO2) | (go_at_call 128; refine (HLF2.out _ _ Hbw3.out hE3).mono ?_; clear hV3 y3 hbw3; rintro e w4 ⟨rfl, hb4⟩; have hE4 := hE3.below hb4; have HB4 : Hid (Below (w.alloc (.cells C 47)).heap.size (w.alloc (.cells C 47)) w4) := HB3.out.trans (hb4.mono HB3.out.size); obtain ⟨hV4, y4, hbw4⟩ := HF.out _ HB4.out; have Hbw4 : Hid (Below w.heap.size w w4) := hbw4; clear hb4 HLF2 hE3))
          go_ret2
          exact LookP.bad HE.out (by decide) hbw4 rfl
        | true =>
          rw [hl] at HLF2
          cases hf : fitB c with
          | false =>
            have HE : Hid (R = 82) := by show _ = _; rw [HR.out, hm, hk, he, hl, hf]; rfl
            rw [hf] at HNF2
            clear HR he
            go_enter Tryz.func78, Tryz.ntmps78
            go_wp2_with (first | (refine wpList_load_row rfl 47 _ rfl w.heap.size rfl 47 _ (0, 0) _ hV0 Tryz.underlying47 rfl hi18 ?_) | (go_at_call 125; refine (HNM.out _ HB0.out).mono ?_; rintro e w1 ⟨rfl, hb1⟩; obtain ⟨hV1, y1, hbw1⟩ := HF.out _ hb1; have HB1 : Hid (Below (w.alloc (.cells C 47)).heap.size (w.alloc (.cells C 47)) w1) := hb1; have Hbw1 : Hid (Below w.heap.size w w1) := hbw1; clear hb1 HNM) | (go_at_call 126; refine (HLM.out _ Hbw1.out).mono ?_; clear hV1 y1 hbw1; rintro e w2 ⟨rfl, hb2⟩; have HB2 : Hid (Below (w.alloc (.cells C 47)).heap.size (w.alloc (.cells C 47)) w2) := HB1.out.trans (hb2.mono HB1.out.size); obtain ⟨hV2, y2, hbw2⟩ := HF.out _ HB2.out; have Hbw2 : Hid (Below w.heap.size w w2) := hbw2; clear hb2 HLM) | (go_at_call 127; refine (HEO2.out _ Hbw2.out).mono ?_; rintro e w3 ⟨hb3, he3⟩; rw [Hen.out, if_pos rfl] at he3; obtain ⟨b3, rfl, hbl, hE3⟩ := he3; have hbl3 : w.heap.size ≤ b3 := Nat.le_trans Hbw2.out.size hbl; clear hV2 y2 hbw2 hbl; have HB3 : Hid (Below (w.alloc (.cells C 47)).heap.size (w.alloc (.cells C 47)) w3) := HB2.out.trans (hb3.mono HB2.out.size); obtain ⟨hV3, y3, hbw3⟩ := HF.out _ HB3.out; have Hbw3 : Hid (Below w.heap.size w w3) := hbw3; clear hb3 HEO2) | (go_at_call 128; refine (HLF2.out _ _ Hbw3.out hE3).mono ?_; clear hV3 y3 hbw3; rintro e w4 ⟨rfl, hb4⟩; have hE4 := hE3.below hb4; have HB4 : Hid (Below (w.alloc (.cells C 47)).heap.size (w.alloc (.cells C 47)) w4) := HB3.out.trans (hb4.mono HB3.out.size); obtain ⟨hV4, y4, hbw4⟩ := HF.out _ HB4.out; have Hbw4 : Hid (Below w.heap.size w w4) := hbw4; clear hb4 HLF2 hE3) | (refine wpList_load_row_g 47 _ rfl w.heap.size rfl 47 _ (0, 0) _ hV4 Tryz.underlying47 rfl hi18 (by kernel_rfl) ?_; simp only [Act.put, List.setIfInBounds_toArray, List.set_cons_succ, List.set_cons_zero]; go_wp2_with (go_at_call 129; refine (HNF2.out _ Hbw4.out).mono ?_; clear hV4 y4 hbw4; rintro e w5 ⟨rfl, hb5⟩; have hE5 := hE4.below hb5; have HB5 : Hid (Below (w.alloc (.cells C 47)).heap.size (w.alloc (.cells C 47)) w5) := HB4.out.trans (hb5.mono HB4.out.size); obtain ⟨hV5, y5, hbw5⟩ := HF.out _ HB5.out; clear hb5 HNF2 hE4)))
            go_ret2
            exact LookP.bad HE.out (by decide) hbw5 rfl
          | true =>
            have HE : Hid (R = 0) := by show _ = _; rw [HR.out, hm, hk, he, hl, hf]; rfl
            rw [hf] at HNF2
            clear HR he
            go_enter Tryz.func78, Tryz.ntmps78
            go_wp2_with (first | (refine wpList_load_row rfl 47 _ rfl w.heap.size rfl 47 _ (0, 0) _ hV0 Tryz.underlying47 rfl hi18 ?_) | (go_at_call 125; refine (HNM.out _ HB0.out).mono ?_; rintro e w1 ⟨rfl, hb1⟩; obtain ⟨hV1, y1, hbw1⟩ := HF.out _ hb1; have HB1 : Hid (Below (w.alloc (.cells C 47)).heap.size (w.alloc (.cells C 47)) w1) := hb1; have Hbw1 : Hid (Below w.heap.size w w1) := hbw1; clear hb1 HNM) | (go_at_call 126; refine (HLM.out _ Hbw1.out).mono ?_; clear hV1 y1 hbw1; rintro e w2 ⟨rfl, hb2⟩; have HB2 : Hid (Below (w.alloc (.cells C 47)).heap.size (w.alloc (.cells C 47)) w2) := HB1.out.trans (hb2.mono HB1.out.size); obtain ⟨hV2, y2, hbw2⟩ := HF.out _ HB2.out; have Hbw2 : Hid (Below w.heap.size w w2) := hbw2; clear hb2 HLM) | (go_at_call 127; refine (HEO2.out _ Hbw2.out).mono ?_; rintro e w3 ⟨hb3, he3⟩; rw [Hen.out, if_pos rfl] at he3; obtain ⟨b3, rfl, hbl, hE3⟩ := he3; have hbl3 : w.heap.size ≤ b3 := Nat.le_trans Hbw2.out.size hbl; clear hV2 y2 hbw2 hbl; have HB3 : Hid (Below (w.alloc (.cells C 47)).heap.size (w.alloc (.cells C 47)) w3) := HB2.out.trans (hb3.mono HB2.out.size); obtain ⟨hV3, y3, hbw3⟩ := HF.out _ HB3.out; have Hbw3 : Hid (Below w.heap.size w w3) := hbw3; clear hb3 HEO2) | (go_at_call 128; refine (HLF2.out _ _ Hbw3.out hE3).mono ?_; clear hV3 y3 hbw3; rintro e w4 ⟨rfl, hb4⟩; have hE4 := hE3.below hb4; have HB4 : Hid (Below (w.alloc (.cells C 47)).heap.size (w.alloc (.cells C 47)) w4) := HB3.out.trans (hb4.mono HB3.out.size); obtain ⟨hV4, y4, hbw4⟩ := HF.out _ HB4.out; have Hbw4 : Hid (Below w.heap.size w w4) := hbw4; clear hb4 HLF2 hE3) | (refine wpList_load_row_g 47 _ rfl w.heap.size rfl 47 _ (0, 0) _ hV4 Tryz.underlying47 rfl hi18 (by kernel_rfl) ?_; simp only [Act.put, List.setIfInBounds_toArray, List.set_cons_succ, List.set_cons_zero]; go_wp2_with (go_at_call 129; refine (HNF2.out _ Hbw4.out).mono ?_; clear hV4 y4 hbw4; rintro e w5 ⟨rfl, hb5⟩; have hE5 := hE4.below hb5; have HB5 : Hid (Below (w.alloc (.cells C 47)).heap.size (w.alloc (.cells C 47)) w5) := HB4.out.trans (hb5.mono HB4.out.size); obtain ⟨hV5, y5, hbw5⟩ := HF.out _ HB5.out; clear hb5 HNF2 hE4)))
            go_ret2
            exact LookP.ok HE.out hbw5 hbl3 hE5 rfl
end Go.Proofs.YtmidaeljeoifdaaGreatDoor.Ce

namespace Go.Proofs.YtmidaeljeoifdaaGreatDoor.Ce
open Go.RowKit Go.Maps
set_option linter.unusedVariables false
set_option linter.unusedSimpArgs false

/-! ### The greatest of priorities -/
def topC : Option Int → Array Value
  | none => #[.bool false, I 0]
  | some p => #[.bool true, I p]
def topAdd (t : Option Int) (p : Int) : Option Int := some (match t with | none => p | some q => max p q)
def toldI (t : Option Int) : Int := match t with | none => -1 | some p => p
theorem res_top {fn : Func} {n : Nat} (hf : fn.results = #[.cell n 209]) (tmps : Array Value) (b : Nat) (w : World) (v0 v1 : Value)
    (h2 : tmps[n]? = some (.pointer (some ⟨b, 0, none⟩))) (hk : w.heap[b]? = some (.cells #[v0, v1] 209 (0, 0))) :
    (results fn tmps).run Tryz.prog w = .ok (.agg #[v0, v1]) w := by
  have a1 := fun i => cell_of_row w b i _ _ (0, 0) hk
  have z0 := a1 0; have z1 := a1 1
  simp at z0 z1
  simp [results, hf, go_sem, h2, z0, z1]
set_option maxHeartbeats 2000000 in
set_option maxRecDepth 100000 in
theorem with_any (w : World) (t : Option Int) (p : Int) : Calls Tryz.prog 132 #[.agg (topC t), I p] w fun e w' => e = .returned (.agg (topC (topAdd t p))) ∧ Below w.heap.size w w' := by
  have hb2 : ∀ o o', Below w.heap.size w ((w.alloc o).alloc o') := fun o o' => ((Below.refl w.heap.size w).alloc (Nat.le_refl _) _).alloc (by simp) _
  have hh := heap_two w
  cases t with
  | none =>
    show Calls _ _ #[.agg #[.bool false, I 0], I p] _ (fun e w' => e = .returned (.agg #[.bool true, I p]) ∧ Below w.heap.size w w')
    go_enter Tryz.func132, Tryz.ntmps132
    go_wp2
    refine bodyPost_ret (res_top Tryz.results132 _ (w.heap.size + 1) _ _ _ rfl (hh _ _)) rfl ⟨rfl, hb2 _ _⟩
  | some q =>
    show Calls _ _ #[.agg #[.bool true, I q], I p] _ (fun e w' => e = .returned (.agg #[.bool true, I (max p q)]) ∧ Below w.heap.size w w')
    obtain ⟨m, hm⟩ : ∃ m, m = max p q := ⟨_, rfl⟩
    rw [← hm]
    have HM : Hid (m = max p q) := hm
    clear hm
    go_enter Tryz.func132, Tryz.ntmps132
    go_wp2
    all_goals
      refine bodyPost_ret (res_top Tryz.results132 _ (w.heap.size + 1) _ _ _ rfl (hh _ _)) rfl ⟨?_, hb2 _ _⟩
      rw [HM.out]
      first
        | (rw [show max p q = q by omega])
        | (rw [show max p q = p by omega])
set_option maxHeartbeats 2000000 in
set_option maxRecDepth 100000 in
theorem told_any (w : World) (t : Option Int) : Calls Tryz.prog 133 #[.agg (topC t)] w fun e w' => e = .returned (I (toldI t)) ∧ Below w.heap.size w w' := by
  have hb := below_alloc w
  cases t with
  | none =>
    show Calls _ _ #[.agg #[.bool false, I 0]] _ (fun e w' => e = .returned (I (-1)) ∧ Below w.heap.size w w')
    go_enter Tryz.func133, Tryz.ntmps133
    go_wp2
    go_ret
    exact ⟨rfl, hb _⟩
  | some q =>
    show Calls _ _ #[.agg #[.bool true, I q]] _ (fun e w' => e = .returned (I q) ∧ Below w.heap.size w w')
    go_enter Tryz.func133, Tryz.ntmps133
    go_wp2
    go_ret
    exact ⟨rfl, hb _⟩
/-! ### The scheduler's ceiling -/
def schT (c : Cf) (k : Nat) : Option Int := (c.tasks.take k).foldl (fun t x => topAdd t x.prio) none
theorem schT_succ {c : Cf} {k : Nat} {x : Tk} (h : c.tasks[k]? = some x) : schT c (k + 1) = topAdd (schT c k) x.prio := by
  unfold schT
  rw [List.take_add_one, h, Option.toList_some, List.foldl_append]
  rfl
theorem topC_two (t : Option Int) : ∃ s q, topC t = #[.bool s, I q] := by
  cases t with
  | none => exact ⟨false, 0, rfl⟩
  | some p => exact ⟨true, p, rfl⟩
def schE (c : Cf) : Int := toldI (schT c c.tasks.length)
theorem set2_at (w : World) (b : Nat) (t : TypeId) (o0 o1 v0 v1 : Value) (k : w.heap[b]? = some (.cells #[o0, o1] t (0, 0))) : ((w.setCell ⟨b, 0, none⟩ v0).setCell ⟨b, 1, none⟩ v1).heap[b]? = some (.cells #[v0, v1] t (0, 0)) := by
  have h0 : (w.setCell ⟨b, 0, none⟩ v0).heap[b]? = some (.cells #[v0, o1] t (0, 0)) := heap_setCell_same _ b 0 _ t _ k
  generalize w.setCell ⟨b, 0, none⟩ v0 = w0 at *
  exact heap_setCell_same _ b 1 _ t _ h0
theorem grown_set2 (w : World) (b : Nat) (v0 v1 : Value) : w.grownBy ((w.setCell ⟨b, 0, none⟩ v0).setCell ⟨b, 1, none⟩ v1) (some b) := grown_same (grown_set w b 0 v0) (grown_set _ b 1 v1)
set_option maxHeartbeats 4000000 in
set_option maxRecDepth 100000 in
theorem scheduler_any (w : World) (c : Cf) (v : Vs) (h : CfAt w c v) : Calls Tryz.prog 80 #[.agg (cfC c v)] w fun e w' => e = .returned (I (schE c)) ∧ Below w.heap.size w w' := by
  have HN : Hid (v.t.n = c.tasks.length) := h.t.n
  have HH : Hid (CfAt w c v) := h
  have hct : v.t.n ≤ v.t.c := h.t.c
  have hmt : v.t.c ≤ maxLen := h.t.m
  unfold maxLen at hmt
  have f11 : ∀ h : 11 < (cfC c v).size, (cfC c v)[11] = .slice v.t.a v.t.n v.t.c := fun _ => rfl
  have hs18 : (cfC c v).size = 18 := rfl
  generalize cfC c v = C at *
  replace f11 := f11 (by omega)
  have hb2 : Below w.heap.size w ((w.alloc (.cells C 47)).alloc (.cells #[.bool false, I 0] 209)) := ((Below.refl w.heap.size w).alloc (Nat.le_refl _) _).alloc (by simp) _
  have hT2 := heap_two w (.cells C 47) (.cells #[.bool false, I 0] 209)
  have HB2 : Hid (Below w.heap.size w ((w.alloc (.cells C 47)).alloc (.cells #[.bool false, I 0] 209))) := hb2
  have HT2 : Hid (((w.alloc (.cells C 47)).alloc (.cells #[.bool false, I 0] 209)).heap[w.heap.size + 1]? = some (.cells (topC (schT c 0)) 209 (0, 0))) := hT2
  have hiT : (Tryz.prog.info? 209).map (·.size) = some 2 := by kernel_rfl
  clear h hb2 hT2
  go_enter Tryz.func80, Tryz.ntmps80
  go_wp2
  clear f11
  go_loopw [5, 9] (fun _ iv wr => ∃ j : Nat, j ≤ v.t.n ∧ iv = .int .i64 j ∧ Hid (Below w.heap.size w wr ∧ wr.heap[w.heap.size + 1]? = some (.cells (topC (schT c j)) 209 (0, 0)))) (fun _ iv _ => v.t.n - (intOf iv).toNat)
  case atStart => exact ⟨0, by omega, rfl, HB2.out, HT2.out⟩
  case round =>
    clear HB2 HT2
    obtain ⟨j, hj, rfl, HJ⟩ := hrel
    have hbr := HJ.out.1
    by_cases hlt : j < v.t.n
    · have hlt' : (j : Int) < v.t.n := by omega
      obtain ⟨x, hx⟩ : ∃ x, c.tasks[j]? = some x := ⟨_, List.getElem?_eq_getElem (by rw [← HN.out]; exact hlt)⟩
      obtain ⟨g, off, s4, s5, s6, s7, e, hg, a0, a1, a2, a3, a4, a5, a6, a7, r4, r5, r6, r7⟩ := tk_at (HH.out.below hbr) hx
      have hng : g ≠ wr.heap.size := Nat.ne_of_lt hg
      have hst : (storeCells ⟨wr.heap.size, 0, none⟩ [S x.name, I x.prio, .bool x.full, I x.act, .slice s4.a s4.n s4.c, .slice s5.a s5.n s5.c, .slice s6.a s6.n s6.c, .slice s7.a s7.n s7.c] 0).run Tryz.prog (wr.alloc (.cells #[.string ⟨#[]⟩, .int .i64 0, .bool false, .int .i64 0, .slice none 0 0, .slice none 0 0, .slice none 0 0, .slice none 0 0] 58)) = .ok () (wr.alloc (.cells #[S x.name, I x.prio, .bool x.full, I x.act, .slice s4.a s4.n s4.c, .slice s5.a s5.n s5.c, .slice s6.a s6.n s6.c, .slice s7.a s7.n s7.c] 58)) :=
        run_storeCells_new (P := Tryz.prog) wr 58 #[.string ⟨#[]⟩, .int .i64 0, .bool false, .int .i64 0, .slice none 0 0, .slice none 0 0, .slice none 0 0, .slice none 0 0] #[S x.name, I x.prio, .bool x.full, I x.act, .slice s4.a s4.n s4.c, .slice s5.a s5.n s5.c, .slice s6.a s6.n s6.c, .slice s7.a s7.n s7.c] (by kernel_rfl) rfl (by simp [Value.oneCell'])
      have hal := below_alloc wr (.cells #[S x.name, I x.prio, .bool x.full, I x.act, .slice s4.a s4.n s4.c, .slice s5.a s5.n s5.c, .slice s6.a s6.n s6.c, .slice s7.a s7.n s7.c] 58)
      have HTn : Hid (schT c (j + 1) = topAdd (schT c j) x.prio) := schT_succ hx
      have kw := with_any (wr.alloc (.cells #[S x.name, I x.prio, .bool x.full, I x.act, .slice s4.a s4.n s4.c, .slice s5.a s5.n s5.c, .slice s6.a s6.n s6.c, .slice s7.a s7.n s7.c] 58)) (schT c j) x.prio
      have hT := HJ.out.2
      have hTl := heap_lt hT
      have hTa := heap_over wr (.cells #[S x.name, I x.prio, .bool x.full, I x.act, .slice s4.a s4.n s4.c, .slice s5.a s5.n s5.c, .slice s6.a s6.n s6.c, .slice s7.a s7.n s7.c] 58) hT
      rw [← HTn.out] at kw
      obtain ⟨s0, q0, ht0⟩ := topC_two (schT c j)
      obtain ⟨s1, q1, ht1⟩ := topC_two (schT c (j + 1))
      rw [ht0] at kw hT hTa
      rw [ht1] at kw
      have y0 : wr.cell? ⟨w.heap.size + 1, 0, none⟩ = some (.bool s0) := by rw [cell_of_row wr _ 0 _ _ (0, 0) hT]; rfl
      have y1 : wr.cell? ⟨w.heap.size + 1, 1, none⟩ = some (I q0) := by rw [cell_of_row wr _ 1 _ _ (0, 0) hT]; rfl
      have HF : Hid (∀ w2, Below (wr.alloc (.cells #[S x.name, I x.prio, .bool x.full, I x.act, .slice s4.a s4.n s4.c, .slice s5.a s5.n s5.c, .slice s6.a s6.n s6.c, .slice s7.a s7.n s7.c] 58)).heap.size (wr.alloc (.cells #[S x.name, I x.prio, .bool x.full, I x.act, .slice s4.a s4.n s4.c, .slice s5.a s5.n s5.c, .slice s6.a s6.n s6.c, .slice s7.a s7.n s7.c] 58)) w2 → w2.heap[w.heap.size + 1]? = some (.cells #[.bool s0, I q0] 209 (0, 0)) ∧ Below w.heap.size w w2) := fun w2 h2 => by
        have b1 := hbr.trans (hal.mono hbr.size)
        exact ⟨(h2.block _ (heap_lt hTa)).trans hTa, b1.trans (h2.mono b1.size)⟩
      have Ht1 : Hid (topC (schT c (j + 1)) = #[.bool s1, I q1]) := ht1
      rw [e]
      clear hx e HJ hal r4 r5 r6 r7 hbr HTn hT hTa ht0 ht1
      go_wp2_with (go_at_call 132; refine kw.mono ?_; clear kw; rintro e5 w2 ⟨rfl, hb2⟩; obtain ⟨hT2, hbw2⟩ := HF.out _ hb2; have z0 : w2.cell? ⟨w.heap.size + 1, 0, none⟩ = some (.bool s0) := (by rw [cell_of_row w2 _ 0 _ _ (0, 0) hT2]; rfl); have z1 : w2.cell? ⟨w.heap.size + 1, 1, none⟩ = some (I q0) := (by rw [cell_of_row w2 _ 1 _ _ (0, 0) hT2]; rfl); have fz : ∀ i, w2.frozen? ⟨w.heap.size + 1, i, none⟩ = false := (fun i => frozen_of_row w2 _ i _ _ hT2); have HT2 : Hid (w2.heap[w.heap.size + 1]? = some (.cells #[.bool s0, I q0] 209 (0, 0))) := hT2; have Hb2 : Hid (Below w.heap.size w w2) := hbw2; clear hb2 hT2 hbw2)
      have HJ2 : Hid (Below w.heap.size w ((w2.setCell ⟨w.heap.size + 1, 0, none⟩ (.bool s1)).setCell ⟨w.heap.size + 1, 1, none⟩ (I q1)) ∧ ((w2.setCell ⟨w.heap.size + 1, 0, none⟩ (.bool s1)).setCell ⟨w.heap.size + 1, 1, none⟩ (I q1)).heap[w.heap.size + 1]? = some (.cells (topC (schT c (j + 1))) 209 (0, 0))) := ⟨Hb2.out.grown (grown_set2 w2 _ _ _) Hb2.out.size (fun k e => by cases e; omega), by rw [Ht1.out]; exact set2_at w2 _ _ _ _ _ _ HT2.out⟩
      go_roundw
      case rel => exact ⟨j + 1, by omega, by go_num, HJ2.out⟩
      case measure => simp [intOf]; omega
    · obtain rfl : j = v.t.n := by omega
      have hlt' : ¬ ((v.t.n : Nat) : Int) < (v.t.n : Nat) := by omega
      have kt := told_any wr (schT c v.t.n)
      have hT := HJ.out.2
      obtain ⟨s0, q0, ht0⟩ := topC_two (schT c v.t.n)
      have HE : Hid (toldI (schT c v.t.n) = schE c) := by show _ = _; rw [HN.out]; rfl
      rw [HE.out, ht0] at kt
      rw [ht0] at hT
      have y0 : wr.cell? ⟨w.heap.size + 1, 0, none⟩ = some (.bool s0) := by rw [cell_of_row wr _ 0 _ _ (0, 0) hT]; rfl
      have y1 : wr.cell? ⟨w.heap.size + 1, 1, none⟩ = some (I q0) := by rw [cell_of_row wr _ 1 _ _ (0, 0) hT]; rfl
      clear hT ht0 HE
      go_wp2_with (go_at_call 133; refine kt.mono ?_; clear kt; rintro e5 w2 ⟨rfl, hb2⟩)
      go_ret
      exact ⟨rfl, hbr.trans (hb2.mono hbr.size)⟩
end Go.Proofs.YtmidaeljeoifdaaGreatDoor.Ce

namespace Go.Proofs.YtmidaeljeoifdaaGreatDoor.Ce
open Go.RowKit Go.Maps
set_option linter.unusedVariables false
set_option linter.unusedSimpArgs false

/-! ### A map of the greatest by numbers -/
def topR : Value → Option (DataW Unit × List MemPlace)
  | .agg a => match a.toList with
    | [.bool b, .int .i64 p] => some (.agg [.lit (.bool b), .lit (.int .i64 p)], [])
    | _ => none
  | _ => none
def topD : Option Int → DataW Unit
  | none => .agg [.lit (.bool false), .lit (.int .i64 0)]
  | some p => .agg [.lit (.bool true), .lit (.int .i64 p)]
theorem topR_mk (t : Option Int) : topR (.agg (topC t)) = some (topD t, []) := by cases t <;> rfl
theorem topR_inv {v : Value} {t : Option Int} {ps : List MemPlace} (h : topR v = some (topD t, ps)) : v = .agg (topC t) := by
  unfold topR at h
  split at h
  · rename_i a
    split at h
    · rename_i b p hl
      have ha : a = #[.bool b, .int .i64 p] := by cases a; simp at hl; rw [hl]
      rw [ha]
      cases t with
      | none => simp [topD] at h; obtain ⟨⟨rfl, rfl⟩, _⟩ := h; rfl
      | some q => simp [topD] at h; obtain ⟨⟨rfl, rfl⟩, _⟩ := h; rfl
    · cases h
  · cases h
theorem zeroT (w : World) : (zeroValue 209).run Tryz.prog w = .ok (.agg (topC none)) w := by kernel_rfl
structure MapT (w : World) (b n : Nat) (ks : List Nat) (f : Nat → Option Int) : Prop where
  nd : ks.Nodup
  lt : ∀ k ∈ ks, k < n
  ex : ∃ D : DataW Unit, w.ownsMap Tryz.prog 3 topR b ks.length D ∧ Maps.size D = ks.length ∧ ∀ j : Nat, Maps.has D (.int .i64 j) = decide (j ∈ ks) ∧ D.atKey (.int .i64 j) (topD none) = topD (f j)
theorem MapT.made (w : World) (n : Nat) : MapT (w.alloc (.map #[] 0)) w.heap.size n [] (fun _ => none) :=
  ⟨List.nodup_nil, (fun k hk => by cases hk), .map [], World.ownsMap_made _ _ _ _, rfl, fun j => ⟨by simp [Maps.has], by simp [DataW.atKey]⟩⟩
theorem MapT.block {w : World} {b n : Nat} {ks : List Nat} {f : Nat → Option Int} (h : MapT w b n ks f) : b < w.heap.size := by
  obtain ⟨D, hD, _⟩ := h.ex
  exact hD.lt
theorem MapT.kept {w w' : World} {b n : Nat} {ks : List Nat} {f : Nat → Option Int} {row : Option Nat} (h : MapT w b n ks f) (hg : w.grownBy w' row) (hne : some b ≠ row) : MapT w' b n ks f := by
  obtain ⟨D, hD, h2⟩ := h.ex
  exact ⟨h.nd, h.lt, D, hD.kept hg hne, h2⟩
theorem MapT.below {w w' : World} {b n : Nat} {ks : List Nat} {f : Nat → Option Int} (h : MapT w b n ks f) (hb : Below w.heap.size w w') : MapT w' b n ks f := h.kept (grown_of_below (r := none) hb) (by simp)
def setT (f : Nat → Option Int) (j : Nat) (e : Option Int) (i : Nat) : Option Int := if i = j then e else f i
section
variable {w : World} {o : Oper} {a : Act} {K : Act → World → Prop} {Q : Exit → Act → World → Prop}
theorem wp_top_at (m x : Operand) (t : TypeId) (hop : o.op = Op.lookup t m x false) (ht : Tryz.prog.underlying t = some (.map 3 209)) (b n : Nat) (ks : List Nat) (f : Nat → Option Int)
    (hm : a.eval m = .map (some b)) (h : MapT w b n ks f) (j : Nat) (hj : j < 9223372036854775808) (hx : a.eval x = .int .i64 (j : Int)) (hK : K (a.put o.dst (.agg (topC (f j)))) w) : Oper.wp Tryz.prog o a w K Q := by
  obtain ⟨D, hD, hs, h2⟩ := h.ex
  obtain ⟨v, ps, hrun, hv⟩ := hD.lookup keyI ht (zeroT w) (topR_mk none) (keyOf_int_mk Tryz.underlying3 (wf_nat hj))
  rw [(h2 j).2] at hv
  obtain rfl := topR_inv hv
  unfold Oper.wp
  simp [execOp, hop, hm, hx, hrun, Result.andThen]
  exact hK
theorem wp_top_put (m x u : Operand) (t : TypeId) (hop : o.op = Op.mapUpdate t m x u) (ht : Tryz.prog.underlying t = some (.map 3 209)) (b n : Nat) (ks : List Nat) (f : Nat → Option Int)
    (hm : a.eval m = .map (some b)) (h : MapT w b n ks f) (hn : n ≤ 8796093022208) (j : Nat) (hj : j < n) (hx : a.eval x = .int .i64 (j : Int)) (e : Option Int) (hu : a.eval u = .agg (topC e))
    (hK : ∀ w', MapT w' b n (insK ks j) (setT f j e) → w.grownBy w' (some b) → K (a.put o.dst undef) w') : Oper.wp Tryz.prog o a w K Q := by
  have hlen : ks.length ≤ n := nodup_len h.nd h.lt
  obtain ⟨D, hD, hs, h2⟩ := h.ex
  have hT := hD.tidy keyI
  have hkl : WideAt.IsKeyLit (.int .i64 (j : Int)) := trivial
  obtain ⟨w', hrun, hown, hgr⟩ := hD.update keyI ht (by unfold maxLen; omega) (keyOf_int_mk Tryz.underlying3 (wf_nat (j := j) (by omega))) (topR_mk e)
  unfold Oper.wp
  simp [execOp, hop, hm, hx, hu, hrun, Result.andThen]
  refine hK w' ?_ hgr
  have hsz : Maps.size (D.put (.int .i64 (j : Int)) (topD e)) = (insK ks j).length := by
    rw [Maps.size_put hT, (h2 j).1, hs]
    unfold insK
    by_cases hm : j ∈ ks <;> simp [hm]
  refine ⟨?_, ?_, _, by rw [← hsz]; exact own_tight hown, hsz, fun i => ?_⟩
  · unfold insK
    by_cases hm : j ∈ ks
    · rw [if_pos hm]; exact h.nd
    · rw [if_neg hm]; exact List.nodup_cons.2 ⟨hm, h.nd⟩
  · intro k hk
    rcases mem_insK.1 hk with rfl | hk
    · exact hj
    · exact h.lt k hk
  · by_cases hij : i = j
    · subst hij
      refine ⟨by rw [Maps.has_put_same hT.isMap hkl]; simp [mem_insK], ?_⟩
      rw [Maps.atKey_put_same hT.isMap hkl, setT, if_pos rfl]
    · have hne : (Lit.int .i64 (i : Int)) ≠ .int .i64 (j : Int) := fun e => by
        have : (i : Int) = j := by injection e
        omega
      refine ⟨by rw [Maps.has_put_other hne, (h2 i).1]; simp [mem_insK, hij], ?_⟩
      rw [Maps.atKey_put_other hne, (h2 i).2, setT, if_neg hij]
end
theorem yieldsIf_find {ops : Array Oper} {S : World → Prop} {o : Oper} {a : Act} (hgd : Region.wanted o (yielded ops a.tmps) = true) (m x : Operand) (t : TypeId) (hop : o.op = Op.lookup t m x false) (ht : Tryz.prog.underlying t = some (.map 3 3)) (b : Nat) (c : Cf)
    (hm : a.eval m = .map (some b)) (h : ∀ w, S w → EndsAt w b c) (hn : c.ress.length ≤ 8796093022208) (j : Nat) (hj : j < c.ress.length) (hx : a.eval x = .int .i64 (j : Int)) {q : Int} (hq : rootN c (j : Int) = q) : YieldsIf Tryz.prog ops S o (.int .i64 q) a :=
  .inl ⟨hgd, fun w hw => by
    obtain ⟨ks, hM, hall⟩ := h w hw
    obtain ⟨D, hD, hs, h2⟩ := hM.ex
    obtain ⟨e, hrun, hat, _⟩ := hD.lookup_int keyI ht Tryz.underlying3 (zeroI w) (keyOf_int_mk Tryz.underlying3 (wf_nat (j := j) (by omega)))
    rw [(h2 j).2, if_pos (hall j hj), hq] at hat
    have he : e = q := by cases hat; rfl
    rw [he] at hrun
    unfold execOp
    simp [hop, hm, hx, hrun, Result.andThen]⟩
/-! ### A user's priority counts for all that it names -/
def addL (c : Cf) (p : Int) (l : List Int) (f : Nat → Option Int) (k : Nat) : Option Int := (l.filter (fun id => rootN c id == (k : Int))).foldl (fun t _ => topAdd t p) (f k)
theorem addL_snoc {c : Cf} {p : Int} {l : List Int} {j : Nat} {x : Int} {q : Nat} (hx : l[j]? = some x) (hq : rootN c x = (q : Int)) (f : Nat → Option Int) : addL c p (l.take (j + 1)) f = setT (addL c p (l.take j) f) q (topAdd (addL c p (l.take j) f q) p) := by
  funext k
  unfold addL setT
  rw [List.take_add_one, hx, Option.toList_some, List.filter_append, List.foldl_append]
  by_cases hk : k = q
  · subst hk
    rw [if_pos rfl]
    simp [List.filter_cons, hq]
  · rw [if_neg hk]
    have : ((q : Int) == (k : Int)) = false := by rw [beq_eq_false_iff_ne]; omega
    simp [List.filter_cons, hq, this]
end Go.Proofs.YtmidaeljeoifdaaGreatDoor.Ce

