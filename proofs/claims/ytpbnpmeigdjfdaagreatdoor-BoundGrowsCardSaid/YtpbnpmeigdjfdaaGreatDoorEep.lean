import Derived.Test.YtpbnpmeigdjfdaaGreatDoorXEen
namespace Go.Proofs.YtpbnpmeigdjfdaaGreatDoor.Ce
open Go.Maps Go.RowKit
set_option linter.unusedSimpArgs false
set_option linter.unusedVariables false
set_option maxHeartbeats 16000000
set_option maxRecDepth 100000
def runA (c : Cf) (i : Nat) : Int := match c.tasks[i]? with | some x => runP c x | none => 0
def rowM (f : Nat → Int) (n j : Nat) (m : Int) : List Value := (List.range n).map (fun i => if i < j then I (f i) else if i = j then I m else I 0)
theorem rowM_at (f : Nat → Int) {n j : Nat} (m : Int) (h : j < n) : (rowM f n j m)[j]? = some (I m) := by
 unfold rowM
 rw [List.getElem?_map, List.getElem?_range h, Option.map_some, if_neg (by omega), if_pos rfl]
theorem rowM_set (f : Nat → Int) (n j : Nat) (m m' : Int) : (rowM f n j m).set j (I m') = rowM f n j m' := by
 unfold rowM
 apply List.ext_getElem?
 intro i
 rw [List.getElem?_set]
 by_cases hij : j = i
 ·subst hij
  by_cases hl : j < n
  ·simp [hl]
  ·simp [hl]
 ·rw [if_neg hij]
  by_cases hl : i < n
  ·simp only [List.getElem?_map, List.getElem?_range hl, Option.map_some]
   by_cases h1 : i < j
   ·rw [if_pos h1, if_pos h1]
   ·rw [if_neg h1, if_neg (by omega), if_neg h1, if_neg (by omega)]
  ·simp [hl]
theorem rowM_next (f : Nat → Int) (n j : Nat) : rowM f n j (f j) = rowM f n (j + 1) 0 := by
 unfold rowM
 apply List.map_congr_left
 intro i hi
 by_cases h1 : i < j
 ·rw [if_pos h1, if_pos (by omega)]
 ·rw [if_neg h1]
  by_cases h2 : i = j
  ·subst h2
   rw [if_pos rfl, if_pos (by omega)]
  ·rw [if_neg h2, if_neg (by omega)]
   split <;> rfl
theorem rowM_zero (f : Nat → Int) (n : Nat) : rowM f n 0 0 = List.replicate n (.int .i64 0) := by
 unfold rowM
 apply List.ext_getElem?
 intro i
 by_cases hl : i < n
 ·simp [hl]
 ·simp [hl]
theorem rowM_end (c : Cf) (m : Int) : rowM (runA c) c.tasks.length c.tasks.length m = (c.tasks.map (runP c)).map fun x => I x := by
 unfold rowM
 apply List.ext_getElem?
 intro i
 by_cases hl : i < c.tasks.length
 ·rw [List.getElem?_map, List.getElem?_range hl, Option.map_some, if_pos hl, List.getElem?_map, List.getElem?_map]
  unfold runA
  rw [List.getElem?_eq_getElem hl]
  rfl
 ·rw [List.getElem?_eq_none (by simpa using hl), List.getElem?_eq_none (by simpa using hl)]
theorem runF_snoc (c : Cf) {l : List Int} {k : Nat} {x : Int} (m : Int) (hx : l[k]? = some x) : runF c (l.take (k + 1)) m = if (rkind c x == 3) = true then max (runF c (l.take k) m) (ceilE c x.toNat) else runF c (l.take k) m := by
 unfold runF
 rw [List.take_add_one, hx, Option.toList_some, List.foldl_append]
 rfl
theorem maxif (a b : Int) : (if a < b then b else a) = max a b := by split <;> omega
structure RunS (w W2 : World) (c : Cf) (n j T : Nat) (tc : Array Value) (m : Int) (W : World) : Prop where
 o : W.ownsRow w.heap.size 3 1 (.slice (some ⟨W2.heap.size, 0, none⟩) n n) n (rowM (runA c) n j m)
 b : Below (W2.heap.size) W2 W
 t : W.heap[T]? = some (.cells tc 79 (0, 0))
theorem RunS.set {w W2 : World} {c : Cf} {n j T : Nat} {tc : Array Value} {m : Int} {W : World} (h : RunS w W2 c n j T tc m W) (hT : T ≠ W2.heap.size) (m' : Int) : RunS w W2 c n j T tc m' (W.setCell ⟨W2.heap.size, j, none⟩ (I m')) := by
 have st := h.o.stored j (I m')
 refine ⟨?_, h.b.grown st.2 h.b.size (fun k e => by cases e; exact Nat.le_refl _), heap_kept h.t (grown_set _ _ _ _) (fun e => hT (Option.some.inj e))⟩
 rw [← rowM_set _ _ _ m m']
 exact st.1
theorem RunS.drew {w W2 : World} {c : Cf} {n j T : Nat} {tc : Array Value} {m : Int} {W : World} (h : RunS w W2 c n j T tc m W) : RunS w W2 c n j T tc m W.drew :=
 ⟨h.o.drew, ⟨h.b.os, h.b.tape, h.b.output, h.b.size, h.b.block⟩, h.t⟩
theorem RunS.cell {w W2 : World} {c : Cf} {n j T : Nat} {tc : Array Value} {m : Int} {W : World} (h : RunS w W2 c n j T tc m W) (hj : j < n) : W.cell? ⟨W2.heap.size, j, none⟩ = some (I m) ∧ W.frozen? ⟨W2.heap.size, j, none⟩ = false := by
 refine ⟨?_, h.o.frozenAt j⟩
 rw [h.o.cellAt j (by omega)]
 exact rowM_at _ _ hj
theorem running_any (w : World) (c : Cf) (v : Vs) (h : CfAt w c v) (hn : c.ress.length ≤ 8796093022208) (hnt : c.tasks.length ≤ 8796093022208) (hmt : meetB c = true) (s0 s2 s3 s4 : Sl) (hs0 : RowsAt w 1 intP s0 (ceilL c)) :
  Calls Tryz.prog 61 #[.agg (cfC c v), .agg (ceC (schE c) s0 s2 s3 s4)] w fun e w' => OwnI w (c.tasks.map (runP c)) e w' := by
 obtain ⟨i0, hi0, hz0, hz1, hz2⟩ := info_parts Tryz.infoInt
 have HN : Hid (v.t.n = c.tasks.length) := h.t.n
 have HNR : Hid (v.r.n = c.ress.length) := h.r.n
 have hn2 : v.t.n ≤ 8796093022208 := by have := h.t.n; omega
 have HMT : Hid (meetB c = true) := hmt
 have hV0 := heap_two0 w (.cells (cfC c v) 33) (.cells (ceC (schE c) s0 s2 s3 s4) 66)
 have hV1 := heap_two w (.cells (cfC c v) 33) (.cells (ceC (schE c) s0 s2 s3 s4) 66)
 have hb2 : Below w.heap.size w ((w.alloc (.cells (cfC c v) 33)).alloc (.cells (ceC (schE c) s0 s2 s3 s4) 66)) := ((Below.refl w.heap.size w).alloc (Nat.le_refl _) _).alloc (by simp) _
 have hsz2 : Hid (((w.alloc (.cells (cfC c v) 33)).alloc (.cells (ceC (schE c) s0 s2 s3 s4) 66)).heap.size = w.heap.size + 2) := by show _ = _; simp
 have hcv : ∀ W : World, W.heap[w.heap.size]? = some (.cells (cfC c v) 33 (0, 0)) → W.cell? ⟨w.heap.size, 11, none⟩ = some (.slice v.t.a v.t.n v.t.c) ∧ W.cell? ⟨w.heap.size, 12, none⟩ = some (.slice v.r.a v.r.n v.r.c) := fun W hW => by
  obtain ⟨_, h10, h11, h12, h13, h14, h15, h16, h17⟩ := var18_all hW
  exact ⟨h11, h12⟩
 have h11 : ∀ hh : 11 < (cfC c v).size, (cfC c v)[11] = .slice v.t.a v.t.n v.t.c := fun _ => rfl
 have hs18 : (cfC c v).size = 18 := rfl
 have HCf : Hid (CfAt w c v) := h
 have HS0 : Hid (RowsAt w 1 intP s0 (ceilL c)) := hs0
 have hs0n : s0.n = c.ress.length := by rw [hs0.n]; unfold ceilL; simp
 have HS0N : Hid (s0.n = c.ress.length) := hs0n
 have hct : v.t.n ≤ v.t.c := h.t.c
 have hmtt : v.t.c ≤ maxLen := h.t.m
 have hs0c : s0.n ≤ s0.c := hs0.c
 have hs0m : s0.c ≤ maxLen := hs0.m
 have hcr : v.r.n ≤ v.r.c := h.r.c
 have hmr : v.r.c ≤ maxLen := h.r.m
 unfold maxLen at hmtt hs0m hmr
 obtain ⟨sch, hsch⟩ : ∃ sch, sch = schE c := ⟨_, rfl⟩
 have HSCH : Hid (sch = schE c) := hsch
 rw [← hsch] at hV0 hV1 hb2 hsz2 ⊢
 generalize cfC c v = C at *
 replace h11 := h11 (by omega)
 unfold ceC at *
 obtain ⟨W2, hW2⟩ : ∃ W2, W2 = (w.alloc (.cells C 33)).alloc (.cells #[.slice s0.a s0.n s0.c, I sch, .slice s2.a s2.n s2.c, .slice s3.a s3.n s3.c, .slice s4.a s4.n s4.c] 66) := ⟨_, rfl⟩
 rw [← hW2] at hV0 hV1 hb2 hsz2
 have HF : Hid (∀ W, Below W2.heap.size W2 W → (W.cell? ⟨w.heap.size, 11, none⟩ = some (.slice v.t.a v.t.n v.t.c) ∧ W.cell? ⟨w.heap.size, 12, none⟩ = some (.slice v.r.a v.r.n v.r.c) ∧ W.cell? ⟨w.heap.size + 1, 0, none⟩ = some (.slice s0.a s0.n s0.c) ∧ W.cell? ⟨w.heap.size + 1, 1, none⟩ = some (I sch)) ∧ Below w.heap.size w W ∧ W2.heap.size ≤ W.heap.size) := fun W hW => by
  have hs := hW.size
  have hs2 := hsz2.out
  have hs2 := hsz2.out
  have q0 := (hW.block w.heap.size (by omega)).trans hV0
  have q1 := (hW.block (w.heap.size + 1) (by omega)).trans hV1
  refine ⟨⟨(hcv W q0).1, (hcv W q0).2, ?_, ?_⟩, hb2.trans (hW.mono (by omega)), by omega⟩
  ·rw [cell_of_row W _ 0 _ _ (0, 0) q1]; rfl
  ·rw [cell_of_row W _ 1 _ _ (0, 0) q1]; rfl
 have y11 : W2.cell? ⟨w.heap.size, 11, none⟩ = some (.slice v.t.a v.t.n v.t.c) := (hcv W2 hV0).1
 have hbase : w.heap.size ≤ W2.heap.size := by have := hsz2.out; omega
 clear h hs0 hcv hsch hb2 hV0 hV1 hs0n hmt
 go_enter Tryz.func61, Tryz.ntmps61
 go_upto_region 1 with fail
 rw [← hW2]
 clear hW2
 go_wp2_with (refine wpList_make_full _ rfl _ _ 64 rfl w.heap.size 3 i0 (.int .i64 0) 1 Tryz.underlying64 hi0 hz0 hz1 .i64 .i64 _ _ v.t.n rfl rfl rfl rfl (by rw [hz2]; omega) (by unfold maxLen; omega) hbase ?_; intro w6 hO6 hg6; have HB6 : Hid (Below W2.heap.size W2 w6) := below_none hg6; have z11 := (HF.out _ HB6.out).1.1; clear y11)
 have HO6 : Hid (w6.ownsRow w.heap.size 3 1 (.slice (some ⟨W2.heap.size, 0, none⟩) v.t.n v.t.n) v.t.n (rowM (runA c) v.t.n 0 0)) := by
  rw [rowM_zero]
  have := hO6
  rw [show (Value.int .i64 0).cells = #[.int .i64 0] from rfl, Nat.mul_one, toList_madeCells_one] at this
  exact this
 clear hO6 hg6 z11
 go_loopw [6, 7, 17] (fun _ _ iv wr => ∃ j : Nat, j ≤ v.t.n ∧ iv = .int .i64 j ∧ Hid (wr.ownsRow w.heap.size 3 1 (.slice (some ⟨W2.heap.size, 0, none⟩) v.t.n v.t.n) v.t.n (rowM (runA c) v.t.n j 0) ∧ Below W2.heap.size W2 wr)) (fun _ _ iv _ => v.t.n - (intOf iv).toNat)
 case atStart => exact ⟨0, by omega, rfl, HO6.out, HB6.out⟩
 case round =>
  clear HB6 HO6
  obtain ⟨j, hj, rfl, HJ⟩ := hrel
  by_cases hlt : j < v.t.n
  ·have hlt' : (j : Int) < v.t.n := by omega
   obtain ⟨x, hx⟩ : ∃ x, c.tasks[j]? = some x := ⟨_, List.getElem?_eq_getElem (by rw [← HN.out]; exact hlt)⟩
   obtain ⟨hO, hB⟩ := HJ.out
   obtain ⟨⟨y11, y12, z0, z1⟩, hbw, hsw⟩ := HF.out _ hB
   obtain ⟨g, off, s4', s5, s6, s7, e, hg, a0, a1, a2, a3, a4, a5, a6, a7, r4, r5, r6, r7⟩ := tk_at (HCf.out.below hbw) hx
   obtain ⟨g', off', t4, t5, t6, t7, e', hg', b0, b1, b2, b3, b4, b5, b6, b7, q4, q5, q6, q7⟩ := tk_at HCf.out hx
   have hng : g ≠ wr.heap.size := Nat.ne_of_lt hg
   have ht5 : Sl.mk t5.a t5.n t5.c = s5 := by
    have e2 : (some ⟨g, off, none⟩ : Option Addr) = some ⟨g', off', none⟩ := e.symm.trans e'
    injection e2 with e2
    injection e2 with e3 e4
    subst e3
    subst e4
    have h1 := (cell_below hbw _ _ hg').trans b5
    rw [h1] at a5
    injection a5 with a5
    injection a5 with p1 p2 p3
    cases s5
    simp_all
   have HR5 : Hid (RowsAt w 1 intP s5 x.res) := by rw [← ht5]; exact q5
   have hst : (storeCells ⟨wr.heap.size, 0, none⟩ [S x.name, I x.prio, .bool x.full, I x.act, .slice s4'.a s4'.n s4'.c, .slice s5.a s5.n s5.c, .slice s6.a s6.n s6.c, .slice s7.a s7.n s7.c] 0).run Tryz.prog (wr.alloc (.cells #[.string ⟨#[]⟩, .int .i64 0, .bool false, .int .i64 0, .slice none 0 0, .slice none 0 0, .slice none 0 0, .slice none 0 0] 79)) = .ok () (wr.alloc (.cells #[S x.name, I x.prio, .bool x.full, I x.act, .slice s4'.a s4'.n s4'.c, .slice s5.a s5.n s5.c, .slice s6.a s6.n s6.c, .slice s7.a s7.n s7.c] 79)) :=
    run_storeCells_new (P := Tryz.prog) wr 79 #[.string ⟨#[]⟩, .int .i64 0, .bool false, .int .i64 0, .slice none 0 0, .slice none 0 0, .slice none 0 0, .slice none 0 0] #[S x.name, I x.prio, .bool x.full, I x.act, .slice s4'.a s4'.n s4'.c, .slice s5.a s5.n s5.c, .slice s6.a s6.n s6.c, .slice s7.a s7.n s7.c] (by kernel_rfl) rfl (by simp [Value.oneCell'])
   have hal := below_alloc wr (.cells #[S x.name, I x.prio, .bool x.full, I x.act, .slice s4'.a s4'.n s4'.c, .slice s5.a s5.n s5.c, .slice s6.a s6.n s6.c, .slice s7.a s7.n s7.c] 79)
   have hT : wr.heap.size ≠ W2.heap.size := by
    intro e9
    have := (hO.lt W2.heap.size rfl).2
    omega
   have HT : Hid (wr.heap.size ≠ W2.heap.size) := hT
   have HRS : Hid (RunS w W2 c v.t.n j wr.heap.size #[S x.name, I x.prio, .bool x.full, I x.act, .slice s4'.a s4'.n s4'.c, .slice s5.a s5.n s5.c, .slice s6.a s6.n s6.c, .slice s7.a s7.n s7.c] 0 (wr.alloc (.cells #[S x.name, I x.prio, .bool x.full, I x.act, .slice s4'.a s4'.n s4'.c, .slice s5.a s5.n s5.c, .slice s6.a s6.n s6.c, .slice s7.a s7.n s7.c] 79))) := ⟨own_below hO hal, hB.trans (hal.mono hB.size), heap_alloc_new _ _⟩
   have HRA : Hid (runA c j = runF c x.res (if x.full = true then x.prio else max x.prio sch)) := by show _ = _; unfold runA; rw [hx, HSCH.out]; rfl
   have HME : Hid (∀ z ∈ x.res, isId z c.ress.length = true) := (meet_task HMT.out hn (List.mem_of_getElem? hx)).1
   have HS5 : Hid (s5.n = x.res.length) := HR5.out.n
   have hs5c : s5.n ≤ s5.c := HR5.out.c
   have hs5m : s5.c ≤ maxLen := HR5.out.m
   unfold maxLen at hs5m
   clear hx HJ hal r4 r5 r6 r7 q4 q5 q6 q7 b0 b1 b2 b3 b4 b5 b6 b7 ht5 e' hg' hO hB hT
   rw [e]
   clear e
   go_upto_region 5 with fail
   clear a0 a1 a2 a3 a4 a5 a6 a7 y11 y12 z0 z1 hst hbw hsw hng
   generalize hTC : (#[S x.name, I x.prio, .bool x.full, I x.act, .slice s4'.a s4'.n s4'.c, .slice s5.a s5.n s5.c, .slice s6.a s6.n s6.c, .slice s7.a s7.n s7.c] : Array Value) = TC at *
   have HTC : Hid (∀ W : World, W.heap[wr.heap.size]? = some (.cells TC 79 (0, 0)) → W.cell? ⟨wr.heap.size, 1, none⟩ = some (I x.prio) ∧ W.cell? ⟨wr.heap.size, 2, none⟩ = some (.bool x.full) ∧ W.cell? ⟨wr.heap.size, 5, none⟩ = some (.slice s5.a s5.n s5.c)) := fun W hW => by
    rw [← hTC] at hW
    refine ⟨?_, ?_, ?_⟩
    ·rw [cell_of_row W _ 1 _ _ (0, 0) hW]; rfl
    ·rw [cell_of_row W _ 2 _ _ (0, 0) hW]; rfl
    ·rw [cell_of_row W _ 5 _ _ (0, 0) hW]; rfl
   clear hTC
   generalize wr.alloc (.cells TC 79) = w3 at *
   generalize wr.heap.size = T at *
   obtain ⟨p1, p2, p5⟩ := HTC.out _ HRS.out.t
   obtain ⟨zl, fl⟩ := HRS.out.cell hlt
   go_upto_region 6 with fail
   clear p1 p2 p5 zl fl
   have HR4 := HRS.out.set HT.out x.prio
   generalize w3.setCell ⟨W2.heap.size, j, none⟩ (I x.prio) = w4 at *
   clear HRS
   have H4 : Hid (RunS w W2 c v.t.n j T TC x.prio w4) := HR4
   clear HR4
   obtain ⟨p1, p2, p5⟩ := HTC.out _ H4.out.t
   cases hfu : x.full with
   | true =>
    rw [hfu] at p2 HRA
    obtain ⟨M, hM⟩ : ∃ M, M = x.prio := ⟨_, rfl⟩
    have H5 : Hid (RunS w W2 c v.t.n j T TC M w4) := by rw [hM]; exact H4.out
    simp only [if_true] at HRA
    rw [← hM] at HRA
    clear H4 hM hfu p1
    go_wp2
    clear p2 p5
    go_loopw [9, 43] (fun _ iv wr => ∃ k : Nat, k ≤ s5.n ∧ iv = .int .i64 k ∧ Hid (RunS w W2 c v.t.n j T TC (runF c (x.res.take k) M) wr)) (fun _ iv _ => s5.n - (intOf iv).toNat)
    case atStart => exact ⟨0, by omega, rfl, by show RunS w W2 c v.t.n j T TC (runF c (x.res.take 0) M) _; exact H5.out⟩
    case round =>
     clear H5
     obtain ⟨k, hk, rfl, HK⟩ := hrel
     by_cases hkt : k < s5.n
     ·have hkt' : (k : Int) < s5.n := by omega
      obtain ⟨⟨_, y12, z0, _⟩, hbw, hsw⟩ := HF.out _ HK.out.b
      obtain ⟨zl, fl⟩ := HK.out.cell hlt
      obtain ⟨r, hr⟩ : ∃ r, x.res[k]? = some r := ⟨_, List.getElem?_eq_getElem (by rw [← HS5.out]; exact hkt)⟩
      have hbd : 0 ≤ r ∧ r < c.ress.length := by simpa [isId] using HME.out r (List.mem_of_getElem? hr)
      obtain ⟨q, rfl⟩ := Int.eq_ofNat_of_zero_le hbd.1
      have hq : q < c.ress.length := by omega
      have hqv : (q : Int) < v.r.n := by have := HNR.out; omega
      have hqs : (q : Int) < s0.n := by have := HS0N.out; omega
      obtain ⟨g5, o5, e5, hg5, d5⟩ := ints_at (HR5.out.below hbw (fun _ _ _ _ h => h)) hr
      obtain ⟨rx, hrx⟩ : ∃ rx, c.ress[q]? = some rx := ⟨_, List.getElem?_eq_getElem hq⟩
      obtain ⟨gr, or', er, hgr, f0, f1, f2⟩ := rs_at (HCf.out.below hbw) hrx
      have hce : (ceilL c)[q]? = some (ceilE c q) := by unfold ceilL; rw [List.getElem?_map, List.getElem?_range hq]; rfl
      obtain ⟨gc, oc, ec, hgc, d0⟩ := ints_at (HS0.out.below hbw (fun _ _ _ _ h => h)) hce
      have HSN : Hid (runF c (x.res.take (k + 1)) M = if (rx.kind == 3) = true then max (runF c (x.res.take k) M) (ceilE c q) else runF c (x.res.take k) M) := by show _ = _; rw [runF_snoc c M hr, rkind_at hrx]; rfl
      rw [er] at y12
      rw [ec] at z0
      rw [e5]
      clear hbd hr hrx hce e5 er ec f0 f2 hbw hsw
      generalize ceilE c q = ce at *
      cases hk3 : rx.kind == 3 with
      | true =>
       have HN2 : Hid (runF c (x.res.take (k + 1)) M = max (runF c (x.res.take k) M) ce) := by show _ = _; rw [HSN.out, if_pos hk3]
       clear HSN
       have H6 : Hid (RunS w W2 c v.t.n j T TC (runF c (x.res.take (k + 1)) M) (wr.setCell ⟨W2.heap.size, j, none⟩ (I (max (runF c (x.res.take k) M) ce))).drew) := by rw [HN2.out]; exact (HK.out.set HT.out _).drew
       generalize runF c (x.res.take k) M = m at *
       go_wp2
       go_big_region
       rw [maxif]
       clear zl fl y12 z0 d5 d0 f1 HK
       generalize (wr.setCell ⟨W2.heap.size, j, none⟩ (I (max m ce))).drew = w8 at *
       go_wp2
       go_roundw
       case rel => exact ⟨k + 1, by omega, by go_num, H6.out⟩
       case measure => simp [intOf]; omega
      | false =>
       have HN2 : Hid (runF c (x.res.take (k + 1)) M = runF c (x.res.take k) M) := by show _ = _; rw [HSN.out, if_neg (by rw [hk3]; decide)]
       clear HSN
       have H6 : Hid (RunS w W2 c v.t.n j T TC (runF c (x.res.take (k + 1)) M) wr) := by rw [HN2.out]; exact HK.out
       go_wp2
       go_roundw
       case rel => exact ⟨k + 1, by omega, by go_num, H6.out⟩
       case measure => simp [intOf]; omega
     ·obtain rfl : k = s5.n := by omega
      have hkt' : ¬ ((s5.n : Nat) : Int) < (s5.n : Nat) := by omega
      have HE : Hid (wr.ownsRow w.heap.size 3 1 (.slice (some ⟨W2.heap.size, 0, none⟩) v.t.n v.t.n) v.t.n (rowM (runA c) v.t.n (j + 1) 0) ∧ Below W2.heap.size W2 wr) := by
       refine ⟨?_, HK.out.b⟩
       have := HK.out.o
       rw [HS5.out, List.take_of_length_le (Nat.le_refl _), ← HRA.out, rowM_next] at this
       exact this
      clear HK
      go_wp2
      go_roundw
      case rel => exact ⟨j + 1, by omega, by go_num, HE.out⟩
      case measure => simp [intOf]; omega
   | false =>
    rw [hfu] at p2 HRA
    obtain ⟨M, hM⟩ : ∃ M, M = max x.prio sch := ⟨_, rfl⟩
    have H5 : Hid (RunS w W2 c v.t.n j T TC M (w4.setCell ⟨W2.heap.size, j, none⟩ (I (max x.prio sch))).drew) := by rw [hM]; exact (H4.out.set HT.out _).drew
    simp only [Bool.false_eq_true, if_false] at HRA
    rw [← hM] at HRA
    obtain ⟨⟨_, _, _, z1⟩, _, _⟩ := HF.out _ H4.out.b
    obtain ⟨zl, fl⟩ := H4.out.cell hlt
    clear H4 hM hfu p1
    go_wp2
    go_big_region
    rw [maxif]
    clear zl fl z1 p2 p5
    generalize (w4.setCell ⟨W2.heap.size, j, none⟩ (I (max x.prio sch))).drew = w5 at *
    obtain ⟨_, _, p5⟩ := HTC.out _ H5.out.t
    go_wp2
    clear p5
    go_loopw [9, 43] (fun _ iv wr => ∃ k : Nat, k ≤ s5.n ∧ iv = .int .i64 k ∧ Hid (RunS w W2 c v.t.n j T TC (runF c (x.res.take k) M) wr)) (fun _ iv _ => s5.n - (intOf iv).toNat)
    case atStart => exact ⟨0, by omega, rfl, by show RunS w W2 c v.t.n j T TC (runF c (x.res.take 0) M) _; exact H5.out⟩
    case round =>
     clear H5
     obtain ⟨k, hk, rfl, HK⟩ := hrel
     by_cases hkt : k < s5.n
     ·have hkt' : (k : Int) < s5.n := by omega
      obtain ⟨⟨_, y12, z0, _⟩, hbw, hsw⟩ := HF.out _ HK.out.b
      obtain ⟨zl, fl⟩ := HK.out.cell hlt
      obtain ⟨r, hr⟩ : ∃ r, x.res[k]? = some r := ⟨_, List.getElem?_eq_getElem (by rw [← HS5.out]; exact hkt)⟩
      have hbd : 0 ≤ r ∧ r < c.ress.length := by simpa [isId] using HME.out r (List.mem_of_getElem? hr)
      obtain ⟨q, rfl⟩ := Int.eq_ofNat_of_zero_le hbd.1
      have hq : q < c.ress.length := by omega
      have hqv : (q : Int) < v.r.n := by have := HNR.out; omega
      have hqs : (q : Int) < s0.n := by have := HS0N.out; omega
      obtain ⟨g5, o5, e5, hg5, d5⟩ := ints_at (HR5.out.below hbw (fun _ _ _ _ h => h)) hr
      obtain ⟨rx, hrx⟩ : ∃ rx, c.ress[q]? = some rx := ⟨_, List.getElem?_eq_getElem hq⟩
      obtain ⟨gr, or', er, hgr, f0, f1, f2⟩ := rs_at (HCf.out.below hbw) hrx
      have hce : (ceilL c)[q]? = some (ceilE c q) := by unfold ceilL; rw [List.getElem?_map, List.getElem?_range hq]; rfl
      obtain ⟨gc, oc, ec, hgc, d0⟩ := ints_at (HS0.out.below hbw (fun _ _ _ _ h => h)) hce
      have HSN : Hid (runF c (x.res.take (k + 1)) M = if (rx.kind == 3) = true then max (runF c (x.res.take k) M) (ceilE c q) else runF c (x.res.take k) M) := by show _ = _; rw [runF_snoc c M hr, rkind_at hrx]; rfl
      rw [er] at y12
      rw [ec] at z0
      rw [e5]
      clear hbd hr hrx hce e5 er ec f0 f2 hbw hsw
      generalize ceilE c q = ce at *
      cases hk3 : rx.kind == 3 with
      | true =>
       have HN2 : Hid (runF c (x.res.take (k + 1)) M = max (runF c (x.res.take k) M) ce) := by show _ = _; rw [HSN.out, if_pos hk3]
       clear HSN
       have H6 : Hid (RunS w W2 c v.t.n j T TC (runF c (x.res.take (k + 1)) M) (wr.setCell ⟨W2.heap.size, j, none⟩ (I (max (runF c (x.res.take k) M) ce))).drew) := by rw [HN2.out]; exact (HK.out.set HT.out _).drew
       generalize runF c (x.res.take k) M = m at *
       go_wp2
       go_big_region
       rw [maxif]
       clear zl fl y12 z0 d5 d0 f1 HK
       generalize (wr.setCell ⟨W2.heap.size, j, none⟩ (I (max m ce))).drew = w8 at *
       go_wp2
       go_roundw
       case rel => exact ⟨k + 1, by omega, by go_num, H6.out⟩
       case measure => simp [intOf]; omega
      | false =>
       have HN2 : Hid (runF c (x.res.take (k + 1)) M = runF c (x.res.take k) M) := by show _ = _; rw [HSN.out, if_neg (by rw [hk3]; decide)]
       clear HSN
       have H6 : Hid (RunS w W2 c v.t.n j T TC (runF c (x.res.take (k + 1)) M) wr) := by rw [HN2.out]; exact HK.out
       go_wp2
       go_roundw
       case rel => exact ⟨k + 1, by omega, by go_num, H6.out⟩
       case measure => simp [intOf]; omega
     ·obtain rfl : k = s5.n := by omega
      have hkt' : ¬ ((s5.n : Nat) : Int) < (s5.n : Nat) := by omega
      have HE : Hid (wr.ownsRow w.heap.size 3 1 (.slice (some ⟨W2.heap.size, 0, none⟩) v.t.n v.t.n) v.t.n (rowM (runA c) v.t.n (j + 1) 0) ∧ Below W2.heap.size W2 wr) := by
       refine ⟨?_, HK.out.b⟩
       have := HK.out.o
       rw [HS5.out, List.take_of_length_le (Nat.le_refl _), ← HRA.out, rowM_next] at this
       exact this
      clear HK
      go_wp2
      go_roundw
      case rel => exact ⟨j + 1, by omega, by go_num, HE.out⟩
      case measure => simp [intOf]; omega
  ·obtain rfl : j = v.t.n := by omega
   have hlt' : ¬ ((v.t.n : Nat) : Int) < (v.t.n : Nat) := by omega
   obtain ⟨hO, hB⟩ := HJ.out
   obtain ⟨_, hbw, _⟩ := HF.out _ hB
   have HO9 : Hid (wr.ownsRow w.heap.size 3 1 (.slice (some ⟨W2.heap.size, 0, none⟩) v.t.n v.t.n) (c.tasks.map (runP c)).length ((c.tasks.map (runP c)).map fun x => I x)) := by
    rw [show (c.tasks.map (runP c)).length = v.t.n by rw [List.length_map, HN.out]]
    rw [← rowM_end c 0, ← HN.out]
    exact hO
   have HB9 : Hid (Below w.heap.size w wr) := hbw
   clear hO hB hbw HJ
   go_wp2
   go_ret
   exact ⟨_, rfl, HO9.out, HB9.out⟩
end Go.Proofs.YtpbnpmeigdjfdaaGreatDoor.Ce
