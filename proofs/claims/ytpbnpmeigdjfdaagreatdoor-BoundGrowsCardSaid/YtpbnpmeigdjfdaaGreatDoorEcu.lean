import Derived.Test.YtpbnpmeigdjfdaaGreatDoorEct
namespace Go.Proofs.YtpbnpmeigdjfdaaGreatDoor.Ce
open Go.Maps Go.RowKit
set_option linter.unusedSimpArgs false
set_option linter.unusedVariables false
set_option maxHeartbeats 16000000
set_option maxRecDepth 100000
theorem wpList_load_row_g {P : Program} {ops : Array Oper} {rest : List Oper} {o : Oper} {a : Act} {w : World} {Q : Exit → Act → World → Prop} (ty : TypeId) (x : Operand) (ho : o.op = .load ty x)
  (g : Nat) (hx : a.eval x = .pointer (some ⟨g, 0, none⟩)) (t : TypeId) (cs : Array Value) (fr : Nat × Nat) (d : TypeDesc) (hg : w.heap[g]? = some (.cells cs t fr))
  (hu : P.underlying ty = some d) (hd : (match d with | .struct _ | .array _ _ => true | _ => false) = true) (hi : (P.info? ty).map (·.size) = some cs.size) (hgd : Region.wanted o (yielded ops a.tmps) = true)
  (h : wpList P ops Q rest (a.put o.dst (.agg cs)) w) : wpList P ops Q (o :: rest) a w :=
 wpList_step fun K hK => by rw [if_pos hgd]; exact wp_load_row ty x ho g hx t cs fr d hg hu hd hi (hK _ _ h)
def lkB (c : Cf) : Bool := c.ress.all (lmB c.ress.length)
def lookE (c : Cf) : Int := if (meetB c && lkB c) = false then 80 else if endsB c = false then 81 else if (linksB c && fitB c) = false then 82 else 0
theorem lk_links {c : Cf} (h : lkB c = true) : ∀ x ∈ c.ress, x.kind = 2 → isId x.link c.ress.length = true := fun x hx hk => by
 have h1 := List.all_eq_true.1 h x hx
 unfold lmB at h1
 rw [hk] at h1
 simpa using h1
def LookP (c : Cf) (R : Int) (w : World) (e : Ending) (w' : World) : Prop := Below w.heap.size w w' ∧ ((R = 0 ∧ ∃ b, e = .returned (.tuple #[.map (some b), I 0]) ∧ w.heap.size ≤ b ∧ EndsAt w' b c) ∨ (R ≠ 0 ∧ e = .returned (.tuple #[.map none, I R])))
theorem LookP.bad {c : Cf} {R r : Int} {w w' : World} {e : Ending} (hR : R = r) (hr : r ≠ 0) (hb : Below w.heap.size w w') (he : e = .returned (.tuple #[.map none, I r])) : LookP c R w e w' := ⟨hb, .inr ⟨by rw [hR]; exact hr, by rw [he, hR]⟩⟩
theorem LookP.ok {c : Cf} {R : Int} {w w' : World} {e : Ending} {b : Nat} (hR : R = 0) (hb : Below w.heap.size w w') (hl : w.heap.size ≤ b) (hE : EndsAt w' b c) (he : e = .returned (.tuple #[.map (some b), I 0])) : LookP c R w e w' := ⟨hb, .inl ⟨hR, b, he, hl, hE⟩⟩
theorem clook_any (w : World) (c : Cf) (v : Vs) (h : CfAt w c v) (hn : c.ress.length ≤ 8796093022208) : Calls Tryz.prog 58 #[.agg (cfC c v)] w fun e w' => LookP c (lookE c) w e w' := by
 have hi18 : (Tryz.prog.info? 33).map (·.size) = some (cfC c v).size := by rw [show (cfC c v).size = 18 from rfl]; kernel_rfl
 have hV0 := heap_alloc_new w (.cells (cfC c v) 33)
 have hb := below_alloc w (.cells (cfC c v) 33)
 have hcv : ∀ W : World, W.heap[w.heap.size]? = some (.cells (cfC c v) 33 (0, 0)) → W.cell? ⟨w.heap.size, 12, none⟩ = some (.slice v.r.a v.r.n v.r.c) := fun W hW => by
  obtain ⟨_, h10, h11, h12, h13, h14, h15, h16, h17⟩ := var18_all hW
  exact h12
 have HNM : Hid (∀ W, Below w.heap.size w W → Calls Tryz.prog 98 #[.agg (cfC c v)] W fun e w' => Ans W (meetB c) e w') := fun W hW => namesMeet_any W c v (h.below hW)
 have HLM : Hid (∀ W, Below w.heap.size w W → Calls Tryz.prog 99 #[.slice v.r.a v.r.n v.r.c] W fun e w' => Ans W (lkB c) e w') := fun W hW => linksMeet_any W c v (h.below hW)
 have HEO : Hid (lkB c = true → ∀ W, Below w.heap.size w W → Calls Tryz.prog 100 #[.slice v.r.a v.r.n v.r.c] W fun e w' => EndsPost c W e w') := fun hk W hW => endsOf_any W c v (h.below hW) hn (lk_links hk)
 have HLF : Hid (endsB c = true → ∀ W b, Below w.heap.size w W → EndsAt W b c → Calls Tryz.prog 101 #[.slice v.r.a v.r.n v.r.c, .map (some b)] W fun e w' => Ans W (linksB c) e w') := fun hk W b hW hE => linksFit_any W c v (h.below hW) hn b hE hk
 have HNF : Hid (meetB c = true → ∀ W, Below w.heap.size w W → Calls Tryz.prog 102 #[.agg (cfC c v)] W fun e w' => Ans W (fitB c) e w') := fun hk W hW => namesFit_any W c v (h.below hW) hn hk
 obtain ⟨R, hR⟩ : ∃ R, R = lookE c := ⟨_, rfl⟩
 rw [← hR]
 unfold lookE at hR
 have HR : Hid (R = _) := hR
 generalize cfC c v = C at *
 have HF : Hid (∀ W, Below (w.alloc (.cells C 33)).heap.size (w.alloc (.cells C 33)) W → W.heap[w.heap.size]? = some (.cells C 33 (0, 0)) ∧ W.cell? ⟨w.heap.size, 12, none⟩ = some (.slice v.r.a v.r.n v.r.c) ∧ Below w.heap.size w W) := fun W hW => by
  have hVW := (hW.block _ (heap_lt hV0)).trans hV0
  exact ⟨hVW, hcv W hVW, hb.trans (hW.mono hb.size)⟩
 have HB0 : Hid (Below w.heap.size w (w.alloc (.cells C 33))) := hb
 clear hR h hb hcv
 cases hm : meetB c with
 | false =>
  have HE : Hid (R = 80) := by show _ = _; rw [HR.out, hm]; rfl
  rw [hm] at HNM
  clear HR HLM HEO HLF HNF
  go_enter Tryz.func58, Tryz.ntmps58
  go_wp2_with (first | (refine wpList_load_row rfl 33 _ rfl w.heap.size rfl 33 _ (0, 0) _ hV0 Tryz.underlying33 rfl hi18 ?_) | (go_at_call 98; refine (HNM.out _ HB0.out).mono ?_; rintro e w1 ⟨rfl, hb1⟩; obtain ⟨hV1, y1, hbw1⟩ := HF.out _ hb1; have HB1 : Hid (Below (w.alloc (.cells C 33)).heap.size (w.alloc (.cells C 33)) w1) := hb1; have Hbw1 : Hid (Below w.heap.size w w1) := hbw1; clear hb1 HNM))
  go_ret2
  exact LookP.bad HE.out (by decide) hbw1 rfl
 | true =>
  rw [hm] at HNM
  have kNF := HNF.out hm
  have HNF2 : Hid (∀ W, Below w.heap.size w W → Calls Tryz.prog 102 #[.agg C] W fun e w' => Ans W (fitB c) e w') := kNF
  clear HNF kNF
  cases hk : lkB c with
  | false =>
   have HE : Hid (R = 80) := by show _ = _; rw [HR.out, hm, hk]; rfl
   rw [hk] at HLM
   clear HR HEO HLF HNF2
   go_enter Tryz.func58, Tryz.ntmps58
   go_wp2_with (first | (refine wpList_load_row rfl 33 _ rfl w.heap.size rfl 33 _ (0, 0) _ hV0 Tryz.underlying33 rfl hi18 ?_) | (go_at_call 98; refine (HNM.out _ HB0.out).mono ?_; rintro e w1 ⟨rfl, hb1⟩; obtain ⟨hV1, y1, hbw1⟩ := HF.out _ hb1; have HB1 : Hid (Below (w.alloc (.cells C 33)).heap.size (w.alloc (.cells C 33)) w1) := hb1; have Hbw1 : Hid (Below w.heap.size w w1) := hbw1; clear hb1 HNM) | (go_at_call 99; refine (HLM.out _ Hbw1.out).mono ?_; clear hV1 y1 hbw1; rintro e w2 ⟨rfl, hb2⟩; have HB2 : Hid (Below (w.alloc (.cells C 33)).heap.size (w.alloc (.cells C 33)) w2) := HB1.out.trans (hb2.mono HB1.out.size); obtain ⟨hV2, y2, hbw2⟩ := HF.out _ HB2.out; have Hbw2 : Hid (Below w.heap.size w w2) := hbw2; clear hb2 HLM))
   go_ret2
   exact LookP.bad HE.out (by decide) hbw2 rfl
  | true =>
   rw [hk] at HLM
   have kEO := HEO.out hk
   have HEO2 : Hid (∀ W, Below w.heap.size w W → Calls Tryz.prog 100 #[.slice v.r.a v.r.n v.r.c] W fun e w' => EndsPost c W e w') := kEO
   clear HEO kEO
   cases he : endsB c with
   | false =>
    have HE : Hid (R = 81) := by show _ = _; rw [HR.out, hm, hk, he]; rfl
    have Hen : Hid (endsB c = false) := he
    clear HR HLF HNF2 he
    go_enter Tryz.func58, Tryz.ntmps58
    go_wp2_with (first | (refine wpList_load_row rfl 33 _ rfl w.heap.size rfl 33 _ (0, 0) _ hV0 Tryz.underlying33 rfl hi18 ?_) | (go_at_call 98; refine (HNM.out _ HB0.out).mono ?_; rintro e w1 ⟨rfl, hb1⟩; obtain ⟨hV1, y1, hbw1⟩ := HF.out _ hb1; have HB1 : Hid (Below (w.alloc (.cells C 33)).heap.size (w.alloc (.cells C 33)) w1) := hb1; have Hbw1 : Hid (Below w.heap.size w w1) := hbw1; clear hb1 HNM) | (go_at_call 99; refine (HLM.out _ Hbw1.out).mono ?_; clear hV1 y1 hbw1; rintro e w2 ⟨rfl, hb2⟩; have HB2 : Hid (Below (w.alloc (.cells C 33)).heap.size (w.alloc (.cells C 33)) w2) := HB1.out.trans (hb2.mono HB1.out.size); obtain ⟨hV2, y2, hbw2⟩ := HF.out _ HB2.out; have Hbw2 : Hid (Below w.heap.size w w2) := hbw2; clear hb2 HLM) | (go_at_call 100; refine (HEO2.out _ Hbw2.out).mono ?_; clear hV2 y2 hbw2; rintro e w3 ⟨hb3, he3⟩; rw [Hen.out, if_neg (by decide)] at he3; subst he3; have HB3 : Hid (Below (w.alloc (.cells C 33)).heap.size (w.alloc (.cells C 33)) w3) := HB2.out.trans (hb3.mono HB2.out.size); obtain ⟨hV3, y3, hbw3⟩ := HF.out _ HB3.out; clear hb3 HEO2))
    go_ret2
    exact LookP.bad HE.out (by decide) hbw3 rfl
   | true =>
    have kLF := HLF.out he
    have HLF2 : Hid (∀ W b, Below w.heap.size w W → EndsAt W b c → Calls Tryz.prog 101 #[.slice v.r.a v.r.n v.r.c, .map (some b)] W fun e w' => Ans W (linksB c) e w') := kLF
    have Hen : Hid (endsB c = true) := he
    clear HLF kLF
    cases hl : linksB c with
    | false =>
     have HE : Hid (R = 82) := by show _ = _; rw [HR.out, hm, hk, he, hl]; rfl
     rw [hl] at HLF2
     clear HR HNF2 he
     go_enter Tryz.func58, Tryz.ntmps58
     go_wp2_with (first | (refine wpList_load_row rfl 33 _ rfl w.heap.size rfl 33 _ (0, 0) _ hV0 Tryz.underlying33 rfl hi18 ?_) | (go_at_call 98; refine (HNM.out _ HB0.out).mono ?_; rintro e w1 ⟨rfl, hb1⟩; obtain ⟨hV1, y1, hbw1⟩ := HF.out _ hb1; have HB1 : Hid (Below (w.alloc (.cells C 33)).heap.size (w.alloc (.cells C 33)) w1) := hb1; have Hbw1 : Hid (Below w.heap.size w w1) := hbw1; clear hb1 HNM) | (go_at_call 99; refine (HLM.out _ Hbw1.out).mono ?_; clear hV1 y1 hbw1; rintro e w2 ⟨rfl, hb2⟩; have HB2 : Hid (Below (w.alloc (.cells C 33)).heap.size (w.alloc (.cells C 33)) w2) := HB1.out.trans (hb2.mono HB1.out.size); obtain ⟨hV2, y2, hbw2⟩ := HF.out _ HB2.out; have Hbw2 : Hid (Below w.heap.size w w2) := hbw2; clear hb2 HLM) | (go_at_call 100; refine (HEO2.out _ Hbw2.out).mono ?_; rintro e w3 ⟨hb3, he3⟩; rw [Hen.out, if_pos rfl] at he3; obtain ⟨b3, rfl, hbl, hE3⟩ := he3; have hbl3 : w.heap.size ≤ b3 := Nat.le_trans Hbw2.out.size hbl; clear hV2 y2 hbw2 hbl; have HB3 : Hid (Below (w.alloc (.cells C 33)).heap.size (w.alloc (.cells C 33)) w3) := HB2.out.trans (hb3.mono HB2.out.size); obtain ⟨hV3, y3, hbw3⟩ := HF.out _ HB3.out; have Hbw3 : Hid (Below w.heap.size w w3) := hbw3; clear hb3 HEO2) | (go_at_call 101; refine (HLF2.out _ _ Hbw3.out hE3).mono ?_; clear hV3 y3 hbw3; rintro e w4 ⟨rfl, hb4⟩; have hE4 := hE3.below hb4; have HB4 : Hid (Below (w.alloc (.cells C 33)).heap.size (w.alloc (.cells C 33)) w4) := HB3.out.trans (hb4.mono HB3.out.size); obtain ⟨hV4, y4, hbw4⟩ := HF.out _ HB4.out; have Hbw4 : Hid (Below w.heap.size w w4) := hbw4; clear hb4 HLF2 hE3))
     go_ret2
     exact LookP.bad HE.out (by decide) hbw4 rfl
    | true =>
     rw [hl] at HLF2
     cases hf : fitB c with
     | false =>
      have HE : Hid (R = 82) := by show _ = _; rw [HR.out, hm, hk, he, hl, hf]; rfl
      rw [hf] at HNF2
      clear HR he
      go_enter Tryz.func58, Tryz.ntmps58
      go_wp2_with (first | (refine wpList_load_row rfl 33 _ rfl w.heap.size rfl 33 _ (0, 0) _ hV0 Tryz.underlying33 rfl hi18 ?_) | (go_at_call 98; refine (HNM.out _ HB0.out).mono ?_; rintro e w1 ⟨rfl, hb1⟩; obtain ⟨hV1, y1, hbw1⟩ := HF.out _ hb1; have HB1 : Hid (Below (w.alloc (.cells C 33)).heap.size (w.alloc (.cells C 33)) w1) := hb1; have Hbw1 : Hid (Below w.heap.size w w1) := hbw1; clear hb1 HNM) | (go_at_call 99; refine (HLM.out _ Hbw1.out).mono ?_; clear hV1 y1 hbw1; rintro e w2 ⟨rfl, hb2⟩; have HB2 : Hid (Below (w.alloc (.cells C 33)).heap.size (w.alloc (.cells C 33)) w2) := HB1.out.trans (hb2.mono HB1.out.size); obtain ⟨hV2, y2, hbw2⟩ := HF.out _ HB2.out; have Hbw2 : Hid (Below w.heap.size w w2) := hbw2; clear hb2 HLM) | (go_at_call 100; refine (HEO2.out _ Hbw2.out).mono ?_; rintro e w3 ⟨hb3, he3⟩; rw [Hen.out, if_pos rfl] at he3; obtain ⟨b3, rfl, hbl, hE3⟩ := he3; have hbl3 : w.heap.size ≤ b3 := Nat.le_trans Hbw2.out.size hbl; clear hV2 y2 hbw2 hbl; have HB3 : Hid (Below (w.alloc (.cells C 33)).heap.size (w.alloc (.cells C 33)) w3) := HB2.out.trans (hb3.mono HB2.out.size); obtain ⟨hV3, y3, hbw3⟩ := HF.out _ HB3.out; have Hbw3 : Hid (Below w.heap.size w w3) := hbw3; clear hb3 HEO2) | (go_at_call 101; refine (HLF2.out _ _ Hbw3.out hE3).mono ?_; clear hV3 y3 hbw3; rintro e w4 ⟨rfl, hb4⟩; have hE4 := hE3.below hb4; have HB4 : Hid (Below (w.alloc (.cells C 33)).heap.size (w.alloc (.cells C 33)) w4) := HB3.out.trans (hb4.mono HB3.out.size); obtain ⟨hV4, y4, hbw4⟩ := HF.out _ HB4.out; have Hbw4 : Hid (Below w.heap.size w w4) := hbw4; clear hb4 HLF2 hE3) | (refine wpList_load_row_g 33 _ rfl w.heap.size rfl 33 _ (0, 0) _ hV4 Tryz.underlying33 rfl hi18 (by kernel_rfl) ?_; simp only [Act.put, q7d, q7f, q7e]; go_wp2_with (go_at_call 102; refine (HNF2.out _ Hbw4.out).mono ?_; clear hV4 y4 hbw4; rintro e w5 ⟨rfl, hb5⟩; have hE5 := hE4.below hb5; have HB5 : Hid (Below (w.alloc (.cells C 33)).heap.size (w.alloc (.cells C 33)) w5) := HB4.out.trans (hb5.mono HB4.out.size); obtain ⟨hV5, y5, hbw5⟩ := HF.out _ HB5.out; clear hb5 HNF2 hE4)))
      go_ret2
      exact LookP.bad HE.out (by decide) hbw5 rfl
     | true =>
      have HE : Hid (R = 0) := by show _ = _; rw [HR.out, hm, hk, he, hl, hf]; rfl
      rw [hf] at HNF2
      clear HR he
      go_enter Tryz.func58, Tryz.ntmps58
      go_wp2_with (first | (refine wpList_load_row rfl 33 _ rfl w.heap.size rfl 33 _ (0, 0) _ hV0 Tryz.underlying33 rfl hi18 ?_) | (go_at_call 98; refine (HNM.out _ HB0.out).mono ?_; rintro e w1 ⟨rfl, hb1⟩; obtain ⟨hV1, y1, hbw1⟩ := HF.out _ hb1; have HB1 : Hid (Below (w.alloc (.cells C 33)).heap.size (w.alloc (.cells C 33)) w1) := hb1; have Hbw1 : Hid (Below w.heap.size w w1) := hbw1; clear hb1 HNM) | (go_at_call 99; refine (HLM.out _ Hbw1.out).mono ?_; clear hV1 y1 hbw1; rintro e w2 ⟨rfl, hb2⟩; have HB2 : Hid (Below (w.alloc (.cells C 33)).heap.size (w.alloc (.cells C 33)) w2) := HB1.out.trans (hb2.mono HB1.out.size); obtain ⟨hV2, y2, hbw2⟩ := HF.out _ HB2.out; have Hbw2 : Hid (Below w.heap.size w w2) := hbw2; clear hb2 HLM) | (go_at_call 100; refine (HEO2.out _ Hbw2.out).mono ?_; rintro e w3 ⟨hb3, he3⟩; rw [Hen.out, if_pos rfl] at he3; obtain ⟨b3, rfl, hbl, hE3⟩ := he3; have hbl3 : w.heap.size ≤ b3 := Nat.le_trans Hbw2.out.size hbl; clear hV2 y2 hbw2 hbl; have HB3 : Hid (Below (w.alloc (.cells C 33)).heap.size (w.alloc (.cells C 33)) w3) := HB2.out.trans (hb3.mono HB2.out.size); obtain ⟨hV3, y3, hbw3⟩ := HF.out _ HB3.out; have Hbw3 : Hid (Below w.heap.size w w3) := hbw3; clear hb3 HEO2) | (go_at_call 101; refine (HLF2.out _ _ Hbw3.out hE3).mono ?_; clear hV3 y3 hbw3; rintro e w4 ⟨rfl, hb4⟩; have hE4 := hE3.below hb4; have HB4 : Hid (Below (w.alloc (.cells C 33)).heap.size (w.alloc (.cells C 33)) w4) := HB3.out.trans (hb4.mono HB3.out.size); obtain ⟨hV4, y4, hbw4⟩ := HF.out _ HB4.out; have Hbw4 : Hid (Below w.heap.size w w4) := hbw4; clear hb4 HLF2 hE3) | (refine wpList_load_row_g 33 _ rfl w.heap.size rfl 33 _ (0, 0) _ hV4 Tryz.underlying33 rfl hi18 (by kernel_rfl) ?_; simp only [Act.put, q7d, q7f, q7e]; go_wp2_with (go_at_call 102; refine (HNF2.out _ Hbw4.out).mono ?_; clear hV4 y4 hbw4; rintro e w5 ⟨rfl, hb5⟩; have hE5 := hE4.below hb5; have HB5 : Hid (Below (w.alloc (.cells C 33)).heap.size (w.alloc (.cells C 33)) w5) := HB4.out.trans (hb5.mono HB4.out.size); obtain ⟨hV5, y5, hbw5⟩ := HF.out _ HB5.out; clear hb5 HNF2 hE4)))
      go_ret2
      exact LookP.ok HE.out hbw5 hbl3 hE5 rfl
end Go.Proofs.YtpbnpmeigdjfdaaGreatDoor.Ce
