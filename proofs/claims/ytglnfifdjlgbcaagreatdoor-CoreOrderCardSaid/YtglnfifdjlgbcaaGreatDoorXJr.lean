import Derived.Test.YtglnfifdjlgbcaaGreatDoorXJp
namespace Go.Proofs.YtglnfifdjlgbcaaGreatDoor
open Go.RowKit Go.Maps Go.Shelf Go.Sort
open Go.Proofs.YtglnfifdjlgbcaaGreatDoor.St (Fx Fz iQ iP iV)
set_option linter.unusedVariables false
set_option linter.unusedSimpArgs false
set_option maxRecDepth 100000
set_option maxHeartbeats 8000000
structure Rg (w0 w : World) (C : Nat) (tb : Tb) (vr va vm vg : Value) (k : Nat) : Prop where
  d : Rd w0 w C vg vr va vm tb.tasks tb.tasks tb.tasks
  g : w.ownsRow w0.heap.size 3 1 vg k ((rgV tb).take k)
section
variable {w0 w w' : World} {C : Nat} {tb : Tb} {vr va vm vg u : Value} {k : Nat}
theorem Rg.below (h : Rg w0 w C tb vr va vm vg k) (hb : Below w.heap.size w w') : Rg w0 w' C tb vr va vm vg k := ⟨h.d.below hb, own_below h.g hb⟩
theorem Rg.mid (h : Rg w0 w C tb vr va vm vg k) (hf : Fz (fun x => vg.ownBlock = some x) w w') : w'.heap[C]? = some (.cells (coC (.pointer none) vr vg (.pointer none) (.pointer none) (.pointer none) (.pointer none)) 85) := hf.heap h.d.o (fun e => own_neP20 h.g h.d.o (by decide) e)
theorem Rg.put (h : Rg w0 w C tb vr va vm vg k) (hf : Fz (fun x => vg.ownBlock = some x) w w') (hv : w'.ownsRow w0.heap.size 3 1 u (k + 1) ((rgV tb).take (k + 1))) : Rg w0 (w'.setCell ⟨C, 2, none⟩ u) C tb vr va vm u (k + 1) := by
  have ho := h.mid hf
  have fs : Fz (fun x => x = C) w' (w'.setCell ⟨C, 2, none⟩ u) := (Fz.refl (fun b => b = C) w').set (.inl rfl) _ _
  have hr := hf.own h.d.r (fun x e e2 => own_ne20 h.d.r h.g (by decide) e e2)
  have ha := hf.own h.d.a (fun x e e2 => own_ne20 h.d.a h.g (by decide) e e2)
  have hm := hf.own h.d.m (fun x e e2 => own_ne20 h.d.m h.g (by decide) e e2)
  exact ⟨⟨heap_setCell_same w' C 2 _ _ u ho, fs.own hr (fun x e e2 => own_neP20 hr ho (by decide) (by rw [← e2]; exact e)), fs.own ha (fun x e e2 => own_neP20 ha ho (by decide) (by rw [← e2]; exact e)), fs.own hm (fun x e e2 => own_neP20 hm ho (by decide) (by rw [← e2]; exact e)), (h.d.up hf (fun x e => (h.g.lt x e).1)).trans fs, h.d.c⟩, fs.own hv (fun x e e2 => own_neP20 hv ho (by decide) (by rw [← e2]; exact e))⟩
end
structure Nw (w3 w : World) (C : Nat) (tb : Tb) (vr va vm vg a0 a3 a4 a5 a6 : Value) : Prop where
  o : w.heap[C]? = some (.cells (coC a0 vr vg a3 a4 a5 a6) 85)
  r : w.ownsRow w3.heap.size 120 3 vr tb.tasks.length (flC tb.tasks)
  a : w.ownsRow w3.heap.size 167 2 va (actR tb).length (Tk.flR (actR tb))
  m : w.ownsRow w3.heap.size 40 1 vm tb.tasks.length (mkV tb.tasks)
  g : w.ownsRow w3.heap.size 3 1 vg tb.rings.length (rgV tb)
  f : Fz (fun x => x = C) w3 w
section
variable {w3 w w' : World} {C : Nat} {tb : Tb} {vr va vm vg a0 a3 a4 a5 a6 u : Value}
theorem Nw.below (h : Nw w3 w C tb vr va vm vg a0 a3 a4 a5 a6) (hb : Below w.heap.size w w') : Nw w3 w' C tb vr va vm vg a0 a3 a4 a5 a6 :=
  ⟨(hb.block C (heap_lt h.o)).trans h.o, own_below h.r hb, own_below h.a hb, own_below h.m hb, own_below h.g hb, h.f.trans (Fz.of_below hb)⟩
theorem Nw.set (h : Nw w3 w C tb vr va vm vg a0 a3 a4 a5 a6) (j : Nat) (u : Value) {b0 b3 b4 b5 b6 : Value} (hc : (coC a0 vr vg a3 a4 a5 a6).setIfInBounds j u = coC b0 vr vg b3 b4 b5 b6) : Nw w3 (w.setCell ⟨C, j, none⟩ u) C tb vr va vm vg b0 b3 b4 b5 b6 := by
  have fs : Fz (fun x => x = C) w (w.setCell ⟨C, j, none⟩ u) := (Fz.refl (fun b => b = C) w).set (.inl rfl) _ _
  have ho := heap_setCell_same w C j _ _ u h.o
  rw [hc] at ho
  exact ⟨ho, fs.own h.r (fun x e e2 => own_neP20 h.r h.o (by decide) (by rw [← e2]; exact e)), fs.own h.a (fun x e e2 => own_neP20 h.a h.o (by decide) (by rw [← e2]; exact e)), fs.own h.m (fun x e e2 => own_neP20 h.m h.o (by decide) (by rw [← e2]; exact e)), fs.own h.g (fun x e e2 => own_neP20 h.g h.o (by decide) (by rw [← e2]; exact e)), h.f.trans fs⟩
theorem Rg.nw (h : Rg w3 w C tb vr va vm vg tb.rings.length) : Nw w3 w C tb vr va vm vg (.pointer none) (.pointer none) (.pointer none) (.pointer none) (.pointer none) := by
  refine ⟨h.d.o, h.d.r, ?_, h.d.m, ?_, h.d.f⟩
  · have := h.d.a
    rw [show (actR tb).length = tb.tasks.length by unfold actR; simp]
    exact this
  · have := h.g
    rwa [List.take_of_length_le (by unfold rgV; simp)] at this
end
def newS (tb : Tb) : Cs := { ss := Tk.rstL tb.tasks.length, rq := Re.newR (rgP tb), ef := Ev.tsk (tb.tasks.map (fun x => (x.mask : Int))), st := [], hi := 0, l := zeroL, lv := 0, ak := 0 }
theorem own_down20 {w : World} {b b' e k n : Nat} {v : Value} {xs : List Value} (hb : b' ≤ b) (h : w.ownsRow b e k v n xs) : w.ownsRow b' e k v n xs := by
  obtain ⟨hl, h0 | ⟨g, cap, cur, hv, hb1, rr⟩⟩ := h
  · exact ⟨hl, .inl h0⟩
  · exact ⟨hl, .inr ⟨g, cap, cur, hv, by omega, rr⟩⟩
open Classical in
theorem new_fin20 {w w3 W10 : World} {C : Nat} {tb : Tb} {vr va vm vg tv tu : Value} {B T Q : Nat} {Z Xq : Nat → Prop} {y : Ly} {nr n6 n7 n8 n9 : Nat}
    (n : Nw w3 W10 C tb vr va vm vg (lp B) (Tk.cP T) (Re.qP Q) (Ev.eP n8) (iP (n9 + 1))) (kL : Lk W10 tb Z y B zeroL) (kT : Tk.Tb w W10 T tv tu (actR tb) (Tk.rstL tb.tasks.length)) (kQ : Re.QR W10 Q Xq (Re.newR (rgP tb))) (kE : Ev.Ev W10 n8 tb.tasks.length (Ev.tsk (tb.tasks.map (fun x => (x.mask : Int))))) (kS : iQ W10 (n9 + 1) n9 tb.rings.length 0 [])
    (hC : w.heap.size ≤ C) (hC3 : C < w3.heap.size) (vr1 : ∀ x, vr.ownBlock = some x → w3.heap.size ≤ x ∧ x < nr) (vg1 : ∀ x, vg.ownBlock = some x → w3.heap.size ≤ x ∧ x < nr) (vrg : ∀ x, vr.ownBlock = some x → vg.ownBlock ≠ some x)
    (mL : ∀ x, y.M B x → nr ≤ x ∧ x < n6) (zL : ∀ x, Z x → nr ≤ x ∧ x < n6) (hCw : C < nr) (hsW : nr ≤ n6) (oT : ∀ x, Tk.Cb T tv tu x → n6 ≤ x ∧ x < n7) (hsT : n6 ≤ n7) (oQ : ∀ x, Xq x → n7 ≤ x ∧ x < n8) (hsQ : n7 ≤ n8) (hsE : n8 < n9) (hs10 : n9 + 1 < W10.heap.size) :
    ∃ zn p, Ending.returned (.tuple #[lp C, I 0]) = .returned (.tuple #[lp (Pl.C p), I 0]) ∧ Co w W10 zn tb p (newS tb) ∧ p.d = tb.rings.length ∧ Below w.heap.size w W10 := by
  refine ⟨fun x => if x = C then 1 else if x < C then 0 else if x < nr then (if vg.ownBlock = some x then 8 else if vr.ownBlock = some x then 7 else 0) else if x < n6 then (if Z x then 9 else if y.M B x then 2 else 0) else if x < n7 then (if Tk.Cb T tv tu x then 3 else 0) else if x < n8 then (if Xq x then 4 else 0) else if x = n8 then 5 else if x = n9 ∨ x = n9 + 1 then 6 else 0, ⟨C, B, Z, y, T, tv, tu, Q, Xq, n8, n9 + 1, n9, tb.rings.length, vr, vg⟩, rfl, ?_, rfl, kT.b⟩
  refine ⟨n.o, own_down20 (by omega) n.r, own_down20 (by omega) n.g, kL, kT, kQ, kE, kS, by simp, fun x hx => ?_, fun x hx => ?_, fun x hx => ?_, ?_, ⟨?_, ?_⟩, fun x hx => ?_, fun x hx => ?_, fun x hx => ?_, fun x hx => ?_⟩
  · have h1 := mL x hx
    have h2 : ¬ Z x := fun e => kL.z x e hx
    try dsimp only
    rw [if_neg (by omega), if_neg (by omega), if_neg (by omega), if_pos h1.2, if_neg h2, if_pos hx]
  · have h1 := oT x hx
    try dsimp only
    rw [if_neg (by omega), if_neg (by omega), if_neg (by omega), if_neg (by omega), if_pos h1.2, if_pos hx]
  · have h1 := oQ x hx
    try dsimp only
    rw [if_neg (by omega), if_neg (by omega), if_neg (by omega), if_neg (by omega), if_neg (by omega), if_pos h1.2, if_pos hx]
  · try dsimp only
    rw [if_neg (by omega), if_neg (by omega), if_neg (by omega), if_neg (by omega), if_neg (by omega), if_neg (by omega), if_pos rfl]
  · try dsimp only
    rw [if_neg (by omega), if_neg (by omega), if_neg (by omega), if_neg (by omega), if_neg (by omega), if_neg (by omega), if_neg (by omega), if_pos (.inr rfl)]
  · try dsimp only
    rw [if_neg (by omega), if_neg (by omega), if_neg (by omega), if_neg (by omega), if_neg (by omega), if_neg (by omega), if_neg (by omega), if_pos (.inl rfl)]
  · have h1 := vr1 x hx
    try dsimp only
    rw [if_neg (by omega), if_neg (by omega), if_pos h1.2, if_neg (vrg x hx), if_pos hx]
  · have h1 := vg1 x hx
    try dsimp only
    rw [if_neg (by omega), if_neg (by omega), if_pos h1.2, if_pos hx]
  · have h1 := zL x hx
    try dsimp only
    rw [if_neg (by omega), if_neg (by omega), if_neg (by omega), if_pos h1.2, if_pos hx]
  · try dsimp only at hx
    by_cases e1 : x = C
    · omega
    · rw [if_neg e1] at hx
      by_cases e2 : x < C
      · rw [if_pos e2] at hx; exact absurd rfl hx
      · refine ⟨by omega, ?_⟩
        by_cases e3 : x < n8
        · omega
        · rw [if_neg e2, if_neg (by omega), if_neg (by omega), if_neg (by omega), if_neg e3] at hx
          by_cases e4 : x = n8
          · omega
          · rw [if_neg e4] at hx
            by_cases e5 : x = n9 ∨ x = n9 + 1
            · omega
            · rw [if_neg e5] at hx; exact absurd rfl hx
theorem cNew_no (w : World) (tb : Tb) (v : Ts) (h : TbAt w tb v) (hw : WfT tb) (hc : chkP tb = false) : Calls Tryz.prog 7 #[.agg (tbC tb v)] w fun e w' => e = .returned (.tuple #[.pointer none, I 200]) ∧ Below w.heap.size w w' := by
  have hb0 := below_alloc w (.cells (tbC tb v) 30)
  have hV := heap_alloc_new w (.cells (tbC tb v) 30)
  have hC := check_any tb v _ (h.below hb0) hw
  rw [hc] at hC
  have HB : Hid (∀ w', Below (w.alloc (.cells (tbC tb v) 30)).heap.size (w.alloc (.cells (tbC tb v) 30)) w' → Below w.heap.size w w') := fun w' hb => hb0.trans (hb.mono hb0.size)
  obtain ⟨c0, c1, c2, c3, c4, c5, c6, c7, c8, c9, c10, c11, c12⟩ := var13 hV
  unfold tbC at *
  clear h hV hb0 hc hw
  go_enter Tryz.func7, Tryz.ntmps7
  go_upto_region 1 with fail
  generalize w.alloc (.cells #[I tb.uses, I tb.modes, .slice v.t.a v.t.n v.t.c, .slice v.g.a v.g.n v.g.c, .slice v.r.a v.r.n v.r.c, .slice v.k.a v.k.n v.k.c, .slice v.a.a v.a.n v.a.c, .slice v.i.a v.i.n v.i.c, .slice v.s.a v.s.n v.s.c, I tb.depth, I tb.frames, I tb.errors, I tb.calls] 30) = w1 at *
  go_wp2_with (first | (go_at_call 27; refine hC.mono ?_; clear hC; rintro e w2 ⟨rfl, hb2⟩; simp only [Bool.false_eq_true, if_false]))
  go_ret2
  exact ⟨rfl, HB.out _ hb2⟩
theorem cNew_ok (w : World) (tb : Tb) (v : Ts) (h : TbAt w tb v) (hw : WfT tb) (hc : chkP tb = true) (hE : Tk.EnvR w) : Calls Tryz.prog 7 #[.agg (tbC tb v)] w fun e w' => ∃ zn p, e = .returned (.tuple #[lp p.C, I 0]) ∧ Co w w' zn tb p (newS tb) ∧ p.d = tb.rings.length ∧ Below w.heap.size w w' := by
  obtain ⟨ii, hii, hi0, hi1, hi2⟩ := info_parts iinfo9
  have hb0 := below_alloc w (.cells (tbC tb v) 30)
  have hV := heap_alloc_new w (.cells (tbC tb v) 30)
  have hC := check_any tb v _ (h.below hb0) hw
  rw [hc] at hC
  have ok := okt_of hc
  have ck := ckT_of hc
  have HB : Hid (∀ w', Below (w.alloc (.cells (tbC tb v) 30)).heap.size (w.alloc (.cells (tbC tb v) 30)) w' → Below w.heap.size w w' ∧ TbAt w' tb v ∧ w'.heap[w.heap.size]? = some (.cells (tbC tb v) 30)) := fun w' hb => ⟨hb0.trans (hb.mono hb0.size), (h.below hb0).below hb, (hb.block _ (heap_lt hV)).trans hV⟩
  obtain ⟨c0, c1, c2, c3, c4, c5, c6, c7, c8, c9, c10, c11, c12⟩ := var13 hV
  have HOK : Hid (OKt tb ∧ CkT tb ∧ WfT tb ∧ chkP tb = true ∧ TbAt w tb v ∧ Tk.EnvR w) := ⟨ok, ck, hw, hc, h, hE⟩
  have hvn : v.t.n = tb.tasks.length := h.t.n
  have hgn : v.g.n = tb.rings.length := h.g.n
  have hg64 : v.g.n ≤ 64 := by have := ck.len; omega
  have HVN : Hid (v.t.n = tb.tasks.length ∧ v.g.n = tb.rings.length) := ⟨hvn, hgn⟩
  unfold tbC at *
  clear h hV hb0 hc hw ok ck hE hvn hgn
  go_enter Tryz.func7, Tryz.ntmps7
  go_upto_region 1 with fail
  generalize w.alloc (.cells #[I tb.uses, I tb.modes, .slice v.t.a v.t.n v.t.c, .slice v.g.a v.g.n v.g.c, .slice v.r.a v.r.n v.r.c, .slice v.k.a v.k.n v.k.c, .slice v.a.a v.a.n v.a.c, .slice v.i.a v.i.n v.i.c, .slice v.s.a v.s.n v.s.c, I tb.depth, I tb.frames, I tb.errors, I tb.calls] 30) = w1 at *
  generalize hX : w.heap.size = X at *
  have HX : Hid (w.heap.size = X) := hX
  clear hX
  go_upto_region 4 with (first | (go_at_call 27; refine hC.mono ?_; clear hC; rintro e w2 ⟨rfl, hb2⟩; simp only [if_true]))
  have hbC := below_alloc w2 (.cells (coC (.pointer none) (.slice none 0 0) (.slice none 0 0) (.pointer none) (.pointer none) (.pointer none) (.pointer none)) 85)
  have hVC := heap_alloc_new w2 (.cells (coC (.pointer none) (.slice none 0 0) (.slice none 0 0) (.pointer none) (.pointer none) (.pointer none) (.pointer none)) 85)
  have hb3 := hb2.trans (hbC.mono hb2.size)
  have hlt2 : X < w2.heap.size := heap_lt (HB.out _ hb2).2.2
  clear c0 c1 c2 c3 c4 c5 c6 c7 c8 c9 c10 c11 c12
  unfold coC at hbC hVC hb3
  generalize hw3 : w2.alloc (.cells #[.pointer none, .slice none 0 0, .slice none 0 0, .pointer none, .pointer none, .pointer none, .pointer none, I 0, U 0] 85) = w3 at *
  generalize hCe : w2.heap.size = C at *
  obtain ⟨bw3, ht3, hV3⟩ := HB.out _ hb3
  have hRd := cRead w3 tb v C (.slice none 0 0) hVC w HOK.out.2.2.2.2.1 (by rw [HX.out]; exact bw3) (by rw [HX.out]; omega) HOK.out.1.tasks
  obtain ⟨c0, c1, c2, c3, c4, c5, c6, c7, c8, c9, c10, c11, c12⟩ := var13 (tb := tb) (v := v) hV3
  have H3 : Hid (Below X w w3 ∧ w3.heap[X]? = some (.cells (tbC tb v) 30) ∧ X < C ∧ C < w3.heap.size) := ⟨bw3, hV3, hlt2, heap_lt hVC⟩
  clear hbC hVC hb3 hlt2 hb2 hw3 hCe bw3 ht3 hV3 HB
  go_upto_region 5 with (first | (go_at_call 28; refine hRd.mono ?_; clear hRd; rintro e w4 ⟨vr, va, vm, rfl, k4⟩))
  have HF : Hid (∀ W', Fz (fun x => x = C) w3 W' → Below X w W' ∧ TbAt W' tb v ∧ W'.heap[X]? = some (.cells (tbC tb v) 30)) := fun W' hf => by
    obtain ⟨f1, f2, f3, f4⟩ := H3.out
    have hbw : Below X w W' := f1.trans (hf.below (Nat.le_of_lt (Nat.lt_trans f3 f4)) (fun x e => by omega))
    exact ⟨hbw, HOK.out.2.2.2.2.1.below (by rw [HX.out]; exact hbw), hf.heap f2 (fun e => by omega)⟩
  have H4 : Hid (Rg w3 w4 C tb vr va vm (.slice none 0 0) 0) := ⟨k4, World.ownsRow_nil _ _ _ _⟩
  obtain ⟨-, -, hV4⟩ := HF.out _ k4.f
  clear c0 c1 c2 c3 c4 c5 c6 c7 c8 c9 c10 c11 c12 k4
  obtain ⟨-, -, -, c3, -, -, -, -, -, -, -, -, -⟩ := var13 (tb := tb) (v := v) hV4
  clear hV4
  go_wp2
  clear c3
  go_loopw [8, 24] (fun _ v24 wr => ∃ k : Nat, k ≤ v.g.n ∧ v24 = I k ∧ Hid (∃ vg, Rg w3 wr C tb vr va vm vg k)) (fun _ v24 _ => v.g.n - (intOf v24).toNat)
  case atStart => exact ⟨0, by omega, rfl, _, H4.out⟩
  case round =>
    clear H4
    obtain ⟨k, hk, rfl, HJ⟩ := hrel
    by_cases hlt : k < v.g.n
    · have hltI : (k : Int) < v.g.n := by omega
      obtain ⟨vg, hJ⟩ := HJ.out
      obtain ⟨x, hx⟩ : ∃ x, tb.rings[k]? = some x := ⟨_, List.getElem?_eq_getElem (by rw [← HVN.out.2]; exact hlt)⟩
      obtain ⟨g, off, e1, hg, q0, q1⟩ := rgr_at (HF.out _ hJ.d.f).2.1 hx
      rw [e1]
      obtain ⟨ag, kg, rfl⟩ := own_slk19 hJ.g
      have htk : (rgV tb).take (k + 1) = (rgV tb).take k ++ [I x.prio] := by
        have : (rgV tb)[k]? = some (I x.prio) := by unfold rgV; rw [List.getElem?_map, hx]; rfl
        rw [List.take_add_one, this]; rfl
      have hV := heap_alloc_new wr (.cells #[I x.prio, I x.cap] 63)
      have hb := below_alloc wr (.cells #[I x.prio, I x.cap] 63)
      have H5 : Hid (Rg w3 (wr.alloc (.cells #[I x.prio, I x.cap] 63)) C tb vr va vm (.slice ag k kg) k ∧ (wr.alloc (.cells #[I x.prio, I x.cap] 63)).heap[wr.heap.size]? = some (.cells #[I x.prio, I x.cap] 63)) := ⟨hJ.below hb, hV⟩
      have HTK : Hid ((rgV tb).take (k + 1) = (rgV tb).take k ++ [I x.prio]) := htk
      clear hb hV hJ HJ hx htk hg
      go_upto_region 8 with fail
      clear q0 q1 e1
      generalize wr.alloc (.cells #[I x.prio, I x.cap] 63) = w5 at *
      generalize wr.heap.size = Y at *
      obtain ⟨h5, hV⟩ := H5.out
      have y0 : w5.cell? ⟨Y, 0, none⟩ = some (I x.prio) := cell_of_row _ _ 0 _ _ (0, 0) hV
      have d2 : w5.cell? ⟨C, 2, none⟩ = some (.slice ag k kg) := cell_of_row _ _ 2 _ _ (0, 0) h5.d.o
      have d2a := fun o => (cell_below (below_alloc w5 o) _ _ (heap_lt h5.d.o)).trans d2
      have hrb : w3.heap.size ≤ w5.heap.size := h5.d.f.size
      go_region_law (first
        | (refine step_append_at20 rfl (.tmp 32) (.tmp 35) 31 rfl w3.heap.size 3 ii (.int .i64 0) 1 8 Tryz.underlying31 hii hi0 hi1 hi2 rfl (by decide) (.slice ag k kg) k ((rgV tb).take k) (by simp [Act.eval, Act.put]) (by first | exact own_below h5.g (below_alloc _ _) | exact own_below h5.g ((Below.refl _ _).drew.alloc (Nat.le_refl _) _) | exact own_below h5.g ((below_alloc _ _).drew)) ⟨w5.heap.size, 0, none⟩ 1 1 [I x.prio] (by simp [Act.eval, Act.put]) rfl (by first | exact cell_one20 _ _ _ | exact fun j u hu => cell_one20 w5 _ _ j u hu) (by simp [Value.oneCell']) (by unfold maxLen; omega) (by omega) (by simp; omega) ?_; intro v6 w6 h6 hg6; obtain ⟨a6, k6, rfl⟩ := own_slk19 h6; have F6 : Fz (fun x => (Value.slice ag k kg).ownBlock = some x) w5 w6 := (by first | exact (((Fz.refl _ w5).drewN 1).alloc _).trans (fz_own20 hg6) | exact (((Fz.refl _ w5).alloc _).drewN 1).trans (fz_own20 hg6) | exact ((Fz.refl _ w5).alloc _).trans (fz_own20 hg6)); have hq := h5.mid F6; have q1 : w6.frozen? ⟨C, 2, none⟩ = false := frozen_of_row w6 _ _ _ _ hq; have q2 : w6.cell? ⟨C, 2, none⟩ = some (.slice ag k kg) := (by rw [cell_of_row w6 _ _ _ _ (0, 0) hq]; rfl); have H6 : Hid (Rg w3 (w6.setCell ⟨C, 2, none⟩ (.slice a6 (k + 1) k6)) C tb vr va vm (.slice a6 (k + 1) k6) (k + 1)) := h5.put F6 (by rw [HTK.out]; exact h6); clear hq h6 hg6 F6))
      all_goals
        clear y0 d2 d2a h5 hV
        go_wp2
        go_roundw
        case rel => exact ⟨k + 1, by omega, by go_num, _, H6.out⟩
        case measure => simp [intOf]; omega
    · obtain rfl : k = v.g.n := by omega
      have hge : ¬ ((v.g.n : Int) < v.g.n) := by omega
      obtain ⟨vg, hJ⟩ := HJ.out
      obtain ⟨bw, ht, hV⟩ := HF.out _ hJ.d.f
      obtain ⟨c0, c1, c2, c3, c4, c5, c6, c7, c8, c9, c10, c11, c12⟩ := var13 (tb := tb) (v := v) hV
      have hL := New_ok wr tb v ht HOK.out.2.2.1 HOK.out.2.2.2.1
      have H6 : Hid (Rg w3 wr C tb vr va vm vg v.g.n) := hJ
      clear hJ HJ bw ht hV hk hlt
      unfold tbC at hL
      have N0 : Hid (Nw w3 wr C tb vr va vm vg (.pointer none) (.pointer none) (.pointer none) (.pointer none) (.pointer none)) := Rg.nw (by rw [← HVN.out.2]; exact H6.out)
      clear H6
      go_upto_region 11 with (first
        | (go_at_call 29; refine hL.mono ?_; clear hL c0 c1 c2 c3 c4 c5 c6 c7 c8 c9 c10 c11 c12; rintro e w6 ⟨B, Z, y, rfl, kL, b6, mL, zL⟩; have n1 := N0.out.below b6; have d0 : w6.cell? ⟨C, 0, none⟩ = some (.pointer none) := cell_of_row _ _ 0 _ _ (0, 0) n1.o; have f0 := frozen_of_row w6 C 0 _ _ n1.o; clear n1))
      have n1 := (N0.out.below b6).set 0 (lp B) (b0 := lp B) rfl
      have F1 : Fz (fun x => x = C) w6 (w6.setCell ⟨C, 0, none⟩ (lp B)) := (Fz.refl (fun b => b = C) w6).set (.inl rfl) _ _
      have hCw := heap_lt N0.out.o
      have kL1 := kL.kept F1 (fun x hx e => by have := mL x hx; omega) (fun x hx e => by have := (zL x hx).1; omega)
      have hL6 : ∀ x, y.M B x → wr.heap.size ≤ x ∧ x < w6.heap.size := fun x hx => ⟨mL x hx, kL.lts hx⟩
      have hs6 : (w6.setCell ⟨C, 0, none⟩ (lp B)).heap.size = w6.heap.size := by simp
      clear d0 f0 mL kL
      generalize w6.setCell ⟨C, 0, none⟩ (lp B) = W6 at *
      have S1 : Hid (Nw w3 W6 C tb vr va vm vg (lp B) (.pointer none) (.pointer none) (.pointer none) (.pointer none) ∧ Lk W6 tb Z y B zeroL ∧ (∀ x, y.M B x → wr.heap.size ≤ x ∧ x < W6.heap.size) ∧ (∀ x, Z x → wr.heap.size ≤ x ∧ x < W6.heap.size) ∧ C < wr.heap.size ∧ wr.heap.size ≤ W6.heap.size) := ⟨n1, kL1, by rw [hs6]; exact hL6, by rw [hs6]; exact zL, hCw, by rw [hs6]; exact b6.size⟩
      have hT : Calls Tryz.prog 30 #[va] W6 fun e w' => ∃ T tv tu, e = .returned (.tuple #[Tk.cP T, I 0]) ∧ Tk.Tb w w' T tv tu (actR tb) (Tk.rstL (actR tb).length) ∧ (∀ b, Tk.Cb T tv tu b → W6.heap.size ≤ b) ∧ Below W6.heap.size W6 w' := Tk.tNew (Tk.Src.own n1.a) (by have := (HF.out _ n1.f).1; rw [HX.out]; exact this) HOK.out.2.2.2.2.2 HOK.out.2.1.may
      have HRV : Hid ((∀ x, vr.ownBlock = some x → w3.heap.size ≤ x ∧ x < wr.heap.size) ∧ (∀ x, vg.ownBlock = some x → w3.heap.size ≤ x ∧ x < wr.heap.size) ∧ (∀ x, vr.ownBlock = some x → vg.ownBlock ≠ some x)) := ⟨fun x e => N0.out.r.lt x e, fun x e => N0.out.g.lt x e, fun x e => own_ne20 N0.out.r N0.out.g (by decide) e⟩
      clear n1 kL1 hL6 hs6 F1 b6 zL hCw N0
      go_upto_region 12 with (first
        | (go_at_call 30; refine hT.mono ?_; clear hT; rintro e w7 ⟨T, tv, tu, rfl, kT, oT, b7⟩; have n2 := S1.out.1.below b7; have d3 : w7.cell? ⟨C, 3, none⟩ = some (.pointer none) := cell_of_row _ _ 3 _ _ (0, 0) n2.o; have f3 := frozen_of_row w7 C 3 _ _ n2.o; clear n2))
      obtain ⟨n1, kL, mL, zL, hCw, hsW⟩ := S1.out
      have n2 := (n1.below b7).set 3 (Tk.cP T) (b3 := Tk.cP T) rfl
      have F2 : Fz (fun x => x = C) w7 (w7.setCell ⟨C, 3, none⟩ (Tk.cP T)) := (Fz.refl (fun b => b = C) w7).set (.inl rfl) _ _
      have kT2 := kT.keep (toT F2) (fun x hx e => by have := oT x hx; omega) (fun x e => by have := HX.out; have := H3.out; omega)
      have kL2 := (kL.below b7).kept F2 (fun x hx e => by have := mL x hx; omega) (fun x hx e => by have := zL x hx; omega)
      have hT7 : ∀ x, Tk.Cb T tv tu x → W6.heap.size ≤ x ∧ x < w7.heap.size := fun x hx => ⟨oT x hx, kT.c.lt hx⟩
      have hs7 : (w7.setCell ⟨C, 3, none⟩ (Tk.cP T)).heap.size = w7.heap.size := by simp
      clear d3 f3 kL n1 kT
      generalize w7.setCell ⟨C, 3, none⟩ (Tk.cP T) = W7 at *
      have S2 : Hid (Nw w3 W7 C tb vr va vm vg (lp B) (Tk.cP T) (.pointer none) (.pointer none) (.pointer none) ∧ Lk W7 tb Z y B zeroL ∧ Tk.Tb w W7 T tv tu (actR tb) (Tk.rstL (actR tb).length) ∧ (∀ x, Tk.Cb T tv tu x → W6.heap.size ≤ x ∧ x < W7.heap.size) ∧ W6.heap.size ≤ W7.heap.size) := ⟨n2, kL2, kT2, by rw [hs7]; exact hT7, by rw [hs7]; exact b7.size⟩
      obtain ⟨bw7, ht7, hV7⟩ := HF.out _ n2.f
      obtain ⟨-, -, -, c3, -, -, -, -, -, -, -, -, -⟩ := var13 (tb := tb) (v := v) hV7
      have hQ : Calls Tryz.prog 31 #[.slice v.g.a v.g.n v.g.c] W7 fun e w' => ∃ Q X, e = .returned (.tuple #[Re.qP Q, I 0]) ∧ Re.QR w' Q X (Re.newR (rgP tb)) ∧ (∀ b, X b → W7.heap.size ≤ b ∧ b < w'.heap.size) ∧ Below W7.heap.size W7 w' := Re.rNew W7 ⟨v.g.a, v.g.n, v.g.c⟩ (rgP tb) (by
        have hg := ht7.g
        refine ⟨by unfold rgP; simpa using hg.n, hg.c, hg.m, fun j q hj => ?_⟩
        unfold rgP at hj
        rw [List.getElem?_map] at hj
        obtain ⟨x, hx, rfl⟩ := Option.map_eq_some_iff.1 hj
        obtain ⟨g, off, e1, hg2, hr⟩ := hg.row j x hx
        refine ⟨g, off, e1, hg2, fun i hi => ?_⟩
        obtain ⟨u, hu, hP⟩ := hr i hi
        refine ⟨u, hu, fun e => ?_, fun e => ?_⟩
        · subst e; exact hP
        · subst e; exact hP) HOK.out.2.1.fit
      clear n2 kL2 kT2 hT7 hs7 F2 b7 oT mL zL hCw hsW bw7 ht7 hV7
      go_upto_region 13 with (first
        | (go_at_call 31; refine hQ.mono ?_; clear hQ c3; rintro e w8 ⟨Q, Xq, rfl, kQ, oQ, b8⟩; have n3 := S2.out.1.below b8; have d4 : w8.cell? ⟨C, 4, none⟩ = some (.pointer none) := cell_of_row _ _ 4 _ _ (0, 0) n3.o; have f4 := frozen_of_row w8 C 4 _ _ n3.o; clear n3))
      obtain ⟨-, -, mL, zL, hCw, hsW⟩ := S1.out
      obtain ⟨n2, kL, kT, oT, hsT⟩ := S2.out
      have n3 := (n2.below b8).set 4 (Re.qP Q) (b4 := Re.qP Q) rfl
      have F3 : Fz (fun x => x = C) w8 (w8.setCell ⟨C, 4, none⟩ (Re.qP Q)) := (Fz.refl (fun b => b = C) w8).set (.inl rfl) _ _
      have kQ3 := kQ.kept (toR F3) (fun x hx e => by have := (oQ x hx).1; omega)
      have kT3 := (kT.below b8).keep (toT F3) (fun x hx e => by have := oT x hx; omega) (fun x e => by have := HX.out; have := H3.out; omega)
      have kL3 := (kL.below b8).kept F3 (fun x hx e => by have := mL x hx; omega) (fun x hx e => by have := zL x hx; omega)
      have hs8 : (w8.setCell ⟨C, 4, none⟩ (Re.qP Q)).heap.size = w8.heap.size := by simp
      clear d4 f4 kL kT n2 kQ
      generalize w8.setCell ⟨C, 4, none⟩ (Re.qP Q) = W8 at *
      have S3 : Hid (Nw w3 W8 C tb vr va vm vg (lp B) (Tk.cP T) (Re.qP Q) (.pointer none) (.pointer none) ∧ Lk W8 tb Z y B zeroL ∧ Tk.Tb w W8 T tv tu (actR tb) (Tk.rstL (actR tb).length) ∧ Re.QR W8 Q Xq (Re.newR (rgP tb)) ∧ (∀ x, Xq x → W7.heap.size ≤ x ∧ x < W8.heap.size) ∧ W7.heap.size ≤ W8.heap.size) := ⟨n3, kL3, kT3, kQ3, by rw [hs8]; exact oQ, by rw [hs8]; exact b8.size⟩
      obtain ⟨am, cm, hvm⟩ := own_slk19 n3.m
      have hEv : Calls Tryz.prog 32 #[vm] W8 fun e w' => e = .returned (.tuple #[Ev.eP W8.heap.size, I 0]) ∧ Ev.Ev w' W8.heap.size tb.tasks.length (Ev.tsk (tb.tasks.map (fun x => (x.mask : Int)))) ∧ Below W8.heap.size W8 w' := by
        have hm := n3.m
        rw [hvm] at hm ⊢
        have := Ev.New_ok W8 am cm (tb.tasks.map (fun x => (x.mask : Int))) (by simpa using HOK.out.1.tasks) (fun j q hj => by
          have hj2 := hj
          rw [List.getElem?_map] at hj2
          obtain ⟨x, hx, rfl⟩ := Option.map_eq_some_iff.1 hj2
          have hjl := (List.getElem?_eq_some_iff.1 hx).1
          rcases hm.2 with ⟨-, h0⟩ | ⟨g, cap, cur, e1, -, hg, -⟩
          · omega
          · cases e1
            refine ⟨g, 0, rfl, heap_lt hg, ?_⟩
            have h9 := hm.cells rfl j (U (x.mask : Int)) (by unfold mkV; rw [List.getElem?_map, hx]; rfl)
            rwa [St.addr_add] at h9)
        rw [List.length_map] at this
        exact this
      clear n3 kL3 kT3 kQ3 hs8 F3 b8 oQ mL zL hCw hsW oT hsT hvm
      go_upto_region 14 with (first
        | (go_at_call 32; refine hEv.mono ?_; clear hEv; rintro e w9 ⟨rfl, kE, b9⟩; have n4 := S3.out.1.below b9; have d5 : w9.cell? ⟨C, 5, none⟩ = some (.pointer none) := cell_of_row _ _ 5 _ _ (0, 0) n4.o; have f5 := frozen_of_row w9 C 5 _ _ n4.o; clear n4))
      obtain ⟨-, -, mL, zL, hCw, hsW⟩ := S1.out
      obtain ⟨-, -, -, oT, hsT⟩ := S2.out
      obtain ⟨n3, kL, kT, kQ, oQ, hsQ⟩ := S3.out
      have n4 := (n3.below b9).set 5 (Ev.eP W8.heap.size) (b5 := Ev.eP W8.heap.size) rfl
      have F4 : Fz (fun x => x = C) w9 (w9.setCell ⟨C, 5, none⟩ (Ev.eP W8.heap.size)) := (Fz.refl (fun b => b = C) w9).set (.inl rfl) _ _
      have kE4 := kE.keptZ (toE F4) (fun e => by omega)
      have kQ4 := (kQ.below b9).kept (toR F4) (fun x hx e => by have := (oQ x hx).1; omega)
      have kT4 := (kT.below b9).keep (toT F4) (fun x hx e => by have := oT x hx; omega) (fun x e => by have := HX.out; have := H3.out; omega)
      have kL4 := (kL.below b9).kept F4 (fun x hx e => by have := mL x hx; omega) (fun x hx e => by have := zL x hx; omega)
      have hs9 : (w9.setCell ⟨C, 5, none⟩ (Ev.eP W8.heap.size)).heap.size = w9.heap.size := by simp
      have hE9 := kE.lt
      clear d5 f5 kL kT kQ n3 kE
      generalize w9.setCell ⟨C, 5, none⟩ (Ev.eP W8.heap.size) = W9 at *
      have S4 : Hid (Nw w3 W9 C tb vr va vm vg (lp B) (Tk.cP T) (Re.qP Q) (Ev.eP W8.heap.size) (.pointer none) ∧ Lk W9 tb Z y B zeroL ∧ Tk.Tb w W9 T tv tu (actR tb) (Tk.rstL (actR tb).length) ∧ Re.QR W9 Q Xq (Re.newR (rgP tb)) ∧ Ev.Ev W9 W8.heap.size tb.tasks.length (Ev.tsk (tb.tasks.map (fun x => (x.mask : Int)))) ∧ W8.heap.size < W9.heap.size) := ⟨n4, kL4, kT4, kQ4, kE4, by rw [hs9]; exact hE9⟩
      obtain ⟨bw9, ht9, hV9⟩ := HF.out _ n4.f
      obtain ⟨-, -, -, -, -, -, -, -, -, c9, -, -, -⟩ := var13 (tb := tb) (v := v) hV9
      rw [HOK.out.2.1.dep] at c9
      have hS := St.iNewQ W9 tb.rings.length (by have := HOK.out.2.1.len; omega)
      clear n4 kL4 kT4 kQ4 kE4 hs9 hE9 F4 b9 mL zL hCw hsW oT hsT oQ hsQ bw9 ht9 hV9
      go_upto_region 15 with (first
        | (go_at_call 33; refine hS.mono ?_; clear hS c9; rintro e w10 ⟨rfl, kS, b10⟩; have n5 := S4.out.1.below b10; have d6 : w10.cell? ⟨C, 6, none⟩ = some (.pointer none) := cell_of_row _ _ 6 _ _ (0, 0) n5.o; have f6 := frozen_of_row w10 C 6 _ _ n5.o; clear n5))
      obtain ⟨-, -, mL, zL, hCw, hsW⟩ := S1.out
      obtain ⟨-, -, -, oT, hsT⟩ := S2.out
      obtain ⟨-, -, -, -, oQ, hsQ⟩ := S3.out
      obtain ⟨n4, kL, kT, kQ, kE, hsE⟩ := S4.out
      have n5 := (n4.below b10).set 6 (iP (W9.heap.size + 1)) (b6 := iP (W9.heap.size + 1)) rfl
      have F5 : Fz (fun x => x = C) w10 (w10.setCell ⟨C, 6, none⟩ (iP (W9.heap.size + 1))) := (Fz.refl (fun b => b = C) w10).set (.inl rfl) _ _
      have kS5 := St.iQ.keptZ kS F5 (fun e => by omega) (fun e => by omega)
      have kE5 := (kE.keptZ (toE (Fz.of_below (M := fun _ => False) b10)) id).keptZ (toE F5) (fun e => by omega)
      have kQ5 := (kQ.below b10).kept (toR F5) (fun x hx e => by have := (oQ x hx).1; omega)
      have kT5 := (kT.below b10).keep (toT F5) (fun x hx e => by have := oT x hx; omega) (fun x e => by have := HX.out; have := H3.out; omega)
      have kL5 := (kL.below b10).kept F5 (fun x hx e => by have := mL x hx; omega) (fun x hx e => by have := zL x hx; omega)
      have hs10 : (w10.setCell ⟨C, 6, none⟩ (iP (W9.heap.size + 1))).heap.size = w10.heap.size := by simp
      have hS10 := St.iQ.lts kS
      clear d6 f6 kL kT kQ n4 kE kS
      generalize w10.setCell ⟨C, 6, none⟩ (iP (W9.heap.size + 1)) = W10 at *
      have S5 : Hid (Nw w3 W10 C tb vr va vm vg (lp B) (Tk.cP T) (Re.qP Q) (Ev.eP W8.heap.size) (iP (W9.heap.size + 1)) ∧ Lk W10 tb Z y B zeroL ∧ Tk.Tb w W10 T tv tu (actR tb) (Tk.rstL (actR tb).length) ∧ Re.QR W10 Q Xq (Re.newR (rgP tb)) ∧ Ev.Ev W10 W8.heap.size tb.tasks.length (Ev.tsk (tb.tasks.map (fun x => (x.mask : Int)))) ∧ iQ W10 (W9.heap.size + 1) W9.heap.size tb.rings.length 0 [] ∧ W9.heap.size + 1 < W10.heap.size) := ⟨n5, kL5, kT5, kQ5, kE5, kS5, by rw [hs10]; exact hS10.1⟩
      clear n5 kL5 kT5 kQ5 kE5 kS5 hs10 hS10 F5 b10 mL zL hCw hsW oT hsT oQ hsQ hsE
      go_wp2
      go_ret2
      obtain ⟨-, -, mL, zL, hCw, hsW⟩ := S1.out
      obtain ⟨-, -, -, oT, hsT⟩ := S2.out
      obtain ⟨-, -, -, -, oQ, hsQ⟩ := S3.out
      obtain ⟨-, -, -, -, -, hsE⟩ := S4.out
      obtain ⟨n, kL, kT, kQ, kE, kS, hs10⟩ := S5.out
      obtain ⟨vr1, vg1, vrg⟩ := HRV.out
      obtain ⟨-, -, hXC, hC3⟩ := H3.out
      have hXe := HX.out
      have bwT : Below w.heap.size w W10 := kT.b
      have hnA : (actR tb).length = tb.tasks.length := by unfold actR; simp
      rw [hnA] at kT
      exact new_fin20 n kL kT kQ kE kS (by omega) hC3 vr1 vg1 vrg mL zL hCw hsW oT hsT oQ hsQ hsE hs10
end Go.Proofs.YtglnfifdjlgbcaaGreatDoor

namespace Go.Proofs.YtglnfifdjlgbcaaGreatDoor
open Go.RowKit Go.Maps Go.Shelf Go.Sort
open Go.Proofs.YtglnfifdjlgbcaaGreatDoor.St (Fx Fz iQ iP iV)
set_option linter.unusedVariables false
set_option linter.unusedSimpArgs false
set_option maxRecDepth 100000
set_option maxHeartbeats 8000000
section
variable {W w w' : World} {zn : Nat → Nat} {tb : Tb} {p : Pl} {s : Cs}
theorem cDue_full (h : Co W w zn tb p s) (h0 : callA s = 0) {k : Nat} {x : TkR} (hk : callO s = (k : Int)) (hx : tb.tasks[k]? = some x) (hf : x.full = true) : Calls Tryz.prog 16 #[lp p.C] w fun e w' => e = .returned (.bool (aboveQ s.rq (prioO tb s.l ⟨false, (k : Int)⟩))) ∧ Below w.heap.size w w' := by
  have hF := cCaller h
  have hwf := h.wfr
  rw [h0, hk] at hF
  rw [hk] at hwf
  have H : Hid (Co W w zn tb p s) := h
  have HX : Hid (tb.tasks[k]? = some x) := hx
  have hkI : (k : Int) < tb.tasks.length := by have := (List.getElem?_eq_some_iff.1 hx).1; omega
  obtain ⟨ab, hab⟩ : ∃ z, z = aboveQ s.rq (prioO tb s.l ⟨false, (k : Int)⟩) := ⟨_, rfl⟩
  rw [← hab]
  have HAB : Hid (ab = aboveQ s.rq (prioO tb s.l ⟨false, (k : Int)⟩)) := hab
  clear h h0 hk hx hab
  go_enter Tryz.func16, Tryz.ntmps16
  go_upto_region 2 with (first | (go_at_call 52; refine hF.mono ?_; clear hF; rintro e w2 ⟨rfl, b2⟩))
  have b3 := b2.trans ((below_alloc w2 (.cells #[.bool false, I k] 109)).mono b2.size)
  obtain ⟨y0, y1⟩ := box_own w2 ⟨false, (k : Int)⟩
  dsimp only at y0 y1
  have hlt : w2.heap.size < (w2.alloc (.cells #[.bool false, I k] 109)).heap.size := by simp
  generalize w2.alloc (.cells #[.bool false, I k] 109) = w3 at *
  generalize w2.heap.size = Y at *
  have h3 := H.out.below b3
  obtain ⟨-, c1, -, -, -, -, -, -, -⟩ := h3.cells
  obtain ⟨g, cc, e1, -, r1, -⟩ := h3.row HX.out
  rw [e1] at c1
  rw [hf] at r1
  have hST : ∀ W', Below w3.heap.size w3 W' → W'.cell? ⟨p.C, 1, none⟩ = some (.slice (some ⟨g, 0, none⟩) tb.tasks.length cc) ∧ W'.cell? ⟨g, k * 3 + 1, none⟩ = some (.bool true) ∧ W'.cell? ⟨Y, 0, none⟩ = some (.bool false) ∧ W'.cell? ⟨Y, 1, none⟩ = some (I k) := fun W' hb => by
    have h4 := h3.below hb
    obtain ⟨g', cc', e1', -, r1', -⟩ := h4.row HX.out
    rw [e1] at e1'
    cases e1'
    rw [hf] at r1'
    have d1 := h4.cells.2.1
    rw [e1] at d1
    exact ⟨d1, r1', (cell_below hb _ _ hlt).trans y0, (cell_below hb _ _ hlt).trans y1⟩
  have hP : ∀ W', Below w3.heap.size w3 W' → Calls Tryz.prog 54 #[lp p.C, .agg #[.bool false, I k]] W' fun e w' => e = .returned (I (prioO tb s.l ⟨false, (k : Int)⟩)) ∧ Below w3.heap.size w3 w' := fun W' hb => (cPriority (h3.below hb) ⟨false, (k : Int)⟩ hwf).mono (fun e w' q => ⟨q.1, hb.trans (q.2.mono hb.size)⟩)
  have hA : ∀ W', Below w3.heap.size w3 W' → Calls Tryz.prog 53 #[lp p.C, I (prioO tb s.l ⟨false, (k : Int)⟩)] W' fun e w' => e = .returned (.bool ab) ∧ Below w3.heap.size w3 w' := fun W' hb => (cAbove (h3.below hb) _).mono (fun e w' q => ⟨by rw [HAB.out]; exact q.1, by rw [← q.2]; exact hb⟩)
  clear HAB
  generalize prioO tb s.l ⟨false, (k : Int)⟩ = pr at *
  have HB : Hid (Below w.heap.size w w3) := b3
  clear b2 b3 h3 e1
  go_region_held_law (fun W' => W'.cell? ⟨p.C, 1, none⟩ = some (.slice (some ⟨g, 0, none⟩) tb.tasks.length cc) ∧ W'.cell? ⟨g, k * 3 + 1, none⟩ = some (.bool true) ∧ W'.cell? ⟨Y, 0, none⟩ = some (.bool false) ∧ W'.cell? ⟨Y, 1, none⟩ = some (I k)) (first | exact ⟨c1, r1, y0, y1⟩ | exact d6 | exact d5 | (go_keep; done)) (first
    | (go_at_call 54; refine (hP _ (by first | exact (Below.refl _ _).drew | exact Below.refl _ _ | exact (Below.refl _ _).drew.drew | exact St.below_drewN _ (Below.refl _ _))).mono ?_; rintro e w5 ⟨rfl, b5⟩; have d5 := hST _ b5)
    | (go_at_call 53; refine (hA _ (by first | exact b5.drew | exact b5 | exact b5.drew.drew)).mono ?_; rintro e w6 ⟨rfl, b6⟩; have d6 := hST _ b6))
  have HK : Hid (Below w.heap.size w w6) := HB.out.trans (b6.mono HB.out.size)
  clear d5 d6 b5 b6 hP hA hST c1 r1 y0 y1
  go_wp2
  go_ret
  exact ⟨by simp, HK.out⟩
end
/-! ### the chapter's tables -/
def exT : Tb := ⟨0, 1, [⟨1, 2, true, 2, 0, -1, [], 0⟩, ⟨3, 0, true, 1, 3, -1, [], 0⟩, ⟨2, 1, false, 1, 0, -1, [], 0⟩], [⟨3, 1⟩, ⟨2, 1⟩, ⟨1, 2⟩], [], [], [], [], [], 3, 4, 2, 0⟩
theorem ex_chk : chkP exT = true := by decide
theorem ex_wf : WfT exT := ⟨by simp [exT], by simp [exT], by simp [exT], by simp [exT]⟩
theorem rows_lit {α : Type} {w : World} {k g : Nat} {P : α → Nat → Value → Prop} {cs : Array Value} {t : TypeId} {l : List α} (h : w.heap[g]? = some (.cells cs t)) (hl : l.length ≤ 1000) (hr : ∀ j x, l[j]? = some x → ∀ i, i < k → ∃ u, cs[j * k + i]? = some u ∧ P x i u) : RowsAt w k P ⟨some ⟨g, 0, none⟩, l.length, l.length⟩ l := by
  refine ⟨rfl, Nat.le_refl _, by unfold maxLen; show l.length ≤ _; omega, fun j x hj => ⟨g, 0, rfl, heap_lt h, fun i hi => ?_⟩⟩
  obtain ⟨u, h1, h2⟩ := hr j x hj i hi
  exact ⟨u, by rw [cell_of_row w g _ _ _ (0, 0) h, Nat.zero_add]; exact h1, h2⟩
theorem rows_nil {α : Type} (w : World) (k : Nat) (P : α → Nat → Value → Prop) : RowsAt w k P ⟨none, 0, 0⟩ [] := ⟨rfl, Nat.le_refl _, Nat.zero_le _, fun j x hj => by cases hj⟩
theorem res13 {fn : Func} {n : Nat} (hf : fn.results = #[.cell n 30]) (tmps : Array Value) (b : Nat) (w : World) (v0 v1 v2 v3 v4 v5 v6 v7 v8 v9 v10 v11 v12 : Value)
    (h2 : tmps[n]? = some (.pointer (some ⟨b, 0, none⟩))) (hk : w.heap[b]? = some (.cells #[v0, v1, v2, v3, v4, v5, v6, v7, v8, v9, v10, v11, v12] 30 (0, 0))) : (results fn tmps).run Tryz.prog w = .ok (.agg #[v0, v1, v2, v3, v4, v5, v6, v7, v8, v9, v10, v11, v12]) w := by
  have a1 := fun i => cell_of_row w b i _ _ (0, 0) hk
  have z0 := a1 0; have z1 := a1 1; have z2 := a1 2; have z3 := a1 3; have z4 := a1 4; have z5 := a1 5; have z6 := a1 6; have z7 := a1 7; have z8 := a1 8; have z9 := a1 9; have z10 := a1 10; have z11 := a1 11; have z12 := a1 12
  simp at z0 z1 z2 z3 z4 z5 z6 z7 z8 z9 z10 z11 z12
  simp [results, hf, go_sem, h2, z0, z1, z2, z3, z4, z5, z6, z7, z8, z9, z10, z11, z12]
def exV (X : Nat) : Ts := ⟨⟨some ⟨X + 1, 0, none⟩, 3, 3⟩, ⟨some ⟨X + 1 + 1, 0, none⟩, 3, 3⟩, ⟨none, 0, 0⟩, ⟨none, 0, 0⟩, ⟨none, 0, 0⟩, ⟨none, 0, 0⟩, ⟨none, 0, 0⟩⟩
theorem ex_at {w : World} {X : Nat} (h3 : w.heap[X + 1]? = some (.cells #[I 1, I 2, .bool true, I 2, .int .u32 0, I (-1), .slice none 0 0, .int .u32 0, I 3, I 0, .bool true, I 1, .int .u32 3, I (-1), .slice none 0 0, .int .u32 0, I 2, I 1, .bool false, I 1, .int .u32 0, I (-1), .slice none 0 0, .int .u32 0] 42)) (h4 : w.heap[X + 1 + 1]? = some (.cells #[I 3, I 1, I 2, I 1, I 1, I 2] 63)) : TbAt w exT (exV X) := by
  have r1 : IntsV w [] (.slice none 0 0) := ⟨⟨none, 0, 0⟩, rfl, rows_nil _ _ _⟩
  refine ⟨rows_lit (l := exT.tasks) h3 (by decide) (fun j x hj i hi => ?_), rows_lit (l := exT.rings) h4 (by decide) (fun j x hj i hi => ?_), rows_nil _ _ _, rows_nil _ _ _, rows_nil _ _ _, rows_nil _ _ _, rows_nil _ _ _⟩
  · match j, hj with
    | 0, hj => cases hj; match i, hi with
      | 0, _ => exact ⟨_, rfl, rfl⟩
      | 1, _ => exact ⟨_, rfl, rfl⟩
      | 2, _ => exact ⟨_, rfl, rfl⟩
      | 3, _ => exact ⟨_, rfl, rfl⟩
      | 4, _ => exact ⟨_, rfl, rfl⟩
      | 5, _ => exact ⟨_, rfl, rfl⟩
      | 6, _ => exact ⟨_, rfl, r1⟩
      | 7, _ => exact ⟨_, rfl, rfl⟩
    | 1, hj => cases hj; match i, hi with
      | 0, _ => exact ⟨_, rfl, rfl⟩
      | 1, _ => exact ⟨_, rfl, rfl⟩
      | 2, _ => exact ⟨_, rfl, rfl⟩
      | 3, _ => exact ⟨_, rfl, rfl⟩
      | 4, _ => exact ⟨_, rfl, rfl⟩
      | 5, _ => exact ⟨_, rfl, rfl⟩
      | 6, _ => exact ⟨_, rfl, r1⟩
      | 7, _ => exact ⟨_, rfl, rfl⟩
    | 2, hj => cases hj; match i, hi with
      | 0, _ => exact ⟨_, rfl, rfl⟩
      | 1, _ => exact ⟨_, rfl, rfl⟩
      | 2, _ => exact ⟨_, rfl, rfl⟩
      | 3, _ => exact ⟨_, rfl, rfl⟩
      | 4, _ => exact ⟨_, rfl, rfl⟩
      | 5, _ => exact ⟨_, rfl, rfl⟩
      | 6, _ => exact ⟨_, rfl, r1⟩
      | 7, _ => exact ⟨_, rfl, rfl⟩
  · match j, hj with
    | 0, hj => cases hj; match i, hi with
      | 0, _ => exact ⟨_, rfl, rfl⟩
      | 1, _ => exact ⟨_, rfl, rfl⟩
    | 1, hj => cases hj; match i, hi with
      | 0, _ => exact ⟨_, rfl, rfl⟩
      | 1, _ => exact ⟨_, rfl, rfl⟩
    | 2, hj => cases hj; match i, hi with
      | 0, _ => exact ⟨_, rfl, rfl⟩
      | 1, _ => exact ⟨_, rfl, rfl⟩
theorem example_any (w : World) : Calls Tryz.prog 34 #[] w fun e w' => ∃ v, e = .returned (.agg (tbC exT v)) ∧ TbAt w' exT v ∧ Below w.heap.size w w' := by
  have g0 : (((w.alloc (.cells #[I 0, I 1, .slice (some ⟨w.heap.size + 1, 0, none⟩) 3 3, .slice (some ⟨w.heap.size + 1 + 1, 0, none⟩) 3 3, .slice none 0 0, .slice none 0 0, .slice none 0 0, .slice none 0 0, .slice none 0 0, I 3, I 4, I 2, I 0] 30)).alloc (.cells #[I 1, I 2, .bool true, I 2, .int .u32 0, I (-1), .slice none 0 0, .int .u32 0, I 3, I 0, .bool true, I 1, .int .u32 3, I (-1), .slice none 0 0, .int .u32 0, I 2, I 1, .bool false, I 1, .int .u32 0, I (-1), .slice none 0 0, .int .u32 0] 42)).alloc (.cells #[I 3, I 1, I 2, I 1, I 1, I 2] 63)).heap[w.heap.size]? = some (.cells #[I 0, I 1, .slice (some ⟨w.heap.size + 1, 0, none⟩) 3 3, .slice (some ⟨w.heap.size + 1 + 1, 0, none⟩) 3 3, .slice none 0 0, .slice none 0 0, .slice none 0 0, .slice none 0 0, .slice none 0 0, I 3, I 4, I 2, I 0] 30) := St.heap_over _ _ (St.heap_over _ _ (heap_alloc_new w _))
  have g1 : (((w.alloc (.cells #[I 0, I 1, .slice (some ⟨w.heap.size + 1, 0, none⟩) 3 3, .slice (some ⟨w.heap.size + 1 + 1, 0, none⟩) 3 3, .slice none 0 0, .slice none 0 0, .slice none 0 0, .slice none 0 0, .slice none 0 0, I 3, I 4, I 2, I 0] 30)).alloc (.cells #[I 1, I 2, .bool true, I 2, .int .u32 0, I (-1), .slice none 0 0, .int .u32 0, I 3, I 0, .bool true, I 1, .int .u32 3, I (-1), .slice none 0 0, .int .u32 0, I 2, I 1, .bool false, I 1, .int .u32 0, I (-1), .slice none 0 0, .int .u32 0] 42)).alloc (.cells #[I 3, I 1, I 2, I 1, I 1, I 2] 63)).heap[w.heap.size + 1]? = some (.cells #[I 1, I 2, .bool true, I 2, .int .u32 0, I (-1), .slice none 0 0, .int .u32 0, I 3, I 0, .bool true, I 1, .int .u32 3, I (-1), .slice none 0 0, .int .u32 0, I 2, I 1, .bool false, I 1, .int .u32 0, I (-1), .slice none 0 0, .int .u32 0] 42) := St.heap_over _ _ (by have := heap_alloc_new (w.alloc (.cells #[I 0, I 1, .slice (some ⟨w.heap.size + 1, 0, none⟩) 3 3, .slice (some ⟨w.heap.size + 1 + 1, 0, none⟩) 3 3, .slice none 0 0, .slice none 0 0, .slice none 0 0, .slice none 0 0, .slice none 0 0, I 3, I 4, I 2, I 0] 30)) (.cells #[I 1, I 2, .bool true, I 2, .int .u32 0, I (-1), .slice none 0 0, .int .u32 0, I 3, I 0, .bool true, I 1, .int .u32 3, I (-1), .slice none 0 0, .int .u32 0, I 2, I 1, .bool false, I 1, .int .u32 0, I (-1), .slice none 0 0, .int .u32 0] 42); rwa [World.size_alloc] at this)
  have g2 : (((w.alloc (.cells #[I 0, I 1, .slice (some ⟨w.heap.size + 1, 0, none⟩) 3 3, .slice (some ⟨w.heap.size + 1 + 1, 0, none⟩) 3 3, .slice none 0 0, .slice none 0 0, .slice none 0 0, .slice none 0 0, .slice none 0 0, I 3, I 4, I 2, I 0] 30)).alloc (.cells #[I 1, I 2, .bool true, I 2, .int .u32 0, I (-1), .slice none 0 0, .int .u32 0, I 3, I 0, .bool true, I 1, .int .u32 3, I (-1), .slice none 0 0, .int .u32 0, I 2, I 1, .bool false, I 1, .int .u32 0, I (-1), .slice none 0 0, .int .u32 0] 42)).alloc (.cells #[I 3, I 1, I 2, I 1, I 1, I 2] 63)).heap[w.heap.size + 1 + 1]? = some (.cells #[I 3, I 1, I 2, I 1, I 1, I 2] 63) := by have := heap_alloc_new ((w.alloc (.cells #[I 0, I 1, .slice (some ⟨w.heap.size + 1, 0, none⟩) 3 3, .slice (some ⟨w.heap.size + 1 + 1, 0, none⟩) 3 3, .slice none 0 0, .slice none 0 0, .slice none 0 0, .slice none 0 0, .slice none 0 0, I 3, I 4, I 2, I 0] 30)).alloc (.cells #[I 1, I 2, .bool true, I 2, .int .u32 0, I (-1), .slice none 0 0, .int .u32 0, I 3, I 0, .bool true, I 1, .int .u32 3, I (-1), .slice none 0 0, .int .u32 0, I 2, I 1, .bool false, I 1, .int .u32 0, I (-1), .slice none 0 0, .int .u32 0] 42)) (.cells #[I 3, I 1, I 2, I 1, I 1, I 2] 63); rwa [World.size_alloc, World.size_alloc] at this
  have hb : Below w.heap.size w (((w.alloc (.cells #[I 0, I 1, .slice (some ⟨w.heap.size + 1, 0, none⟩) 3 3, .slice (some ⟨w.heap.size + 1 + 1, 0, none⟩) 3 3, .slice none 0 0, .slice none 0 0, .slice none 0 0, .slice none 0 0, .slice none 0 0, I 3, I 4, I 2, I 0] 30)).alloc (.cells #[I 1, I 2, .bool true, I 2, .int .u32 0, I (-1), .slice none 0 0, .int .u32 0, I 3, I 0, .bool true, I 1, .int .u32 3, I (-1), .slice none 0 0, .int .u32 0, I 2, I 1, .bool false, I 1, .int .u32 0, I (-1), .slice none 0 0, .int .u32 0] 42)).alloc (.cells #[I 3, I 1, I 2, I 1, I 1, I 2] 63)) := ((below_alloc w _).trans ((below_alloc _ _).mono (by simp))).trans ((below_alloc _ _).mono (by simp; omega))
  go_enter Tryz.func34, Tryz.ntmps34
  go_wp2
  exact bodyPost_ret (res13 Tryz.results34 _ w.heap.size _ _ _ _ _ _ _ _ _ _ _ _ _ _ rfl g0) rfl ⟨exV w.heap.size, rfl, ex_at g1 g2, hb⟩
end Go.Proofs.YtglnfifdjlgbcaaGreatDoor

