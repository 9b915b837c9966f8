import Derived.Test.YtpbnpmeigdjfdaaGreatDoorXKrt2
import Derived.Deep.WholeRow
import Derived.Laws.EntriesVeiled
namespace Go.Proofs.YtpbnpmeigdjfdaaGreatDoor
open Go.RowKit
set_option linter.unusedSimpArgs false
set_option linter.unusedVariables false
set_option maxHeartbeats 16000000
set_option maxRecDepth 100000
theorem strs_at {w : World} {s : Sl} {l : List (List UInt8)} (h : RowsAt w 1 strP s l) {j : Nat} {x : List UInt8} (hj : l[j]? = some x) : ∃ g off, s.a = some ⟨g, off, none⟩ ∧ g < w.heap.size ∧ w.cell? ⟨g, off + j, none⟩ = some (S x) := by
 obtain ⟨g, off, e, hg, hr⟩ := h.row j x hj
 obtain ⟨u, h1, h2⟩ := hr 0 (by omega)
 refine ⟨g, off, e, hg, ?_⟩
 rw [show off + j * 1 + 0 = off + j by omega] at h1
 rw [h1, h2]
def idxS (x : List UInt8) (j : Nat) : List (List UInt8) → Int
 | [] => -1
 | y :: r => if x == y then (j : Int) else idxS x (j + 1) r
def hasS (l : List (List UInt8)) (x : List UInt8) : Bool := l.any (fun y => x == y)
theorem idxS_has (x : List UInt8) (l : List (List UInt8)) (j : Nat) : decide (0 ≤ idxS x j l) = hasS l x := by
 induction l generalizing j with
 | nil => rfl
 | cons y r ih =>
  rw [idxS]
  cases h : x == y with
  | true =>
   simp only [if_true]
   rw [decide_eq_true (by omega)]
   simp [hasS, h]
  | false =>
   have h2 : hasS (y :: r) x = hasS r x := by simp [hasS, h]
   rw [h2, if_neg (by decide)]
   exact ih (j + 1)
theorem index_str (w : World) (s : Sl) (l : List (List UInt8)) (h : RowsAt w 1 strP s l) (x : List UInt8) : Calls Tryz.prog 155 #[.slice s.a s.n s.c, S x] w fun e w' => e = .returned (I (idxS x 0 l)) ∧ w' = w := by
 obtain ⟨sa, sn, sc⟩ := s
 have HN : Hid (sn = l.length) := h.n
 have hc : sn ≤ sc := h.c
 have hm : sc ≤ maxLen := h.m
 dsimp only
 unfold maxLen at hm
 go_enter Tryz.func155, Tryz.ntmps155
 go_wp2
 go_loop [5, 8] (fun _ i => ∃ j : Nat, j ≤ sn ∧ i = .int .i64 j ∧ Hid (idxS x 0 l = idxS x j (l.drop j))) (fun _ i => sn - (intOf i).toNat)
 case atStart => exact ⟨0, by omega, rfl, rfl⟩
 case round =>
  obtain ⟨j, hj, rfl, HR⟩ := hrel
  by_cases hlt : j < sn
  ·have hlt' : (j : Int) < sn := by omega
   have hjl : j < l.length := by rw [← HN.out]; exact hlt
   obtain ⟨y, hy⟩ : ∃ y, l[j]? = some y := ⟨l[j], List.getElem?_eq_getElem hjl⟩
   obtain ⟨g, off, e, hg, hcx⟩ := strs_at h hy
   dsimp only at e
   subst e
   have HE : Hid (idxS x 0 l = if x == y then (j : Int) else idxS x (j + 1) (l.drop (j + 1))) := by
    show _ = _
    rw [HR.out, List.drop_eq_getElem_cons hjl, idxS]
    rw [List.getElem?_eq_getElem hjl] at hy
    rw [Option.some.inj hy]
   clear hy hjl HR
   cases hk : x == y with
   | true =>
    have HE2 : Hid (idxS x 0 l = j) := by show _ = _; rw [HE.out, hk]; rfl
    clear HE
    go_wp2
    go_ret
    exact ⟨ret_int HE2.out.symm, rfl⟩
   | false =>
    have HE2 : Hid (idxS x 0 l = idxS x (j + 1) (l.drop (j + 1))) := by show _ = _; rw [HE.out, hk]; rfl
    clear HE
    go_wp2
    go_round
    case rel => exact ⟨j + 1, by omega, by go_num, HE2⟩
    case measure => simp [intOf]; omega
  ·obtain rfl : j = sn := by omega
   have hlt' : ¬ (j : Int) < j := by omega
   have HE2 : Hid (idxS x 0 l = -1) := by show _ = _; rw [HR.out, List.drop_eq_nil_of_le (by rw [← HN.out]; exact Nat.le_refl _), idxS]
   go_wp2
   go_ret
   exact ⟨ret_int HE2.out.symm, rfl⟩
theorem contains_str (w : World) (s : Sl) (l : List (List UInt8)) (h : RowsAt w 1 strP s l) (x : List UInt8) : Calls Tryz.prog 89 #[.slice s.a s.n s.c, S x] w fun e w' => e = .returned (.bool (hasS l x)) ∧ w' = w := by
 have c1 := index_str w s l h x
 have HH : Hid (decide (0 ≤ idxS x 0 l) = hasS l x) := idxS_has x l 0
 generalize idxS x 0 l = r at *
 go_enter Tryz.func89, Tryz.ntmps89
 go_wp2_with (first | (go_at_call 155; refine c1.mono ?_; rintro e w' ⟨rfl, rfl⟩))
 go_ret
 exact ⟨ret_bool (by rw [← HH.out]), rfl⟩
def kdC (word : List UInt8) (lo hi : Int) (fN : Nat) (s : Sl) : Array Value := #[S word, I lo, I hi, .func (.func fN) #[] #[], .slice s.a s.n s.c]
def firstF : List Ck → Nat → (Nat → Bool) → Option Int
 | [], _, _ => none
 | x :: r, k, B => if B k = true then firstF r (k + 1) B else some x.code
def objF (names : List (List UInt8)) (cs : List Ck) (B : Nat → Nat → Bool) (j : Nat) : Option Int := match names[j]? with
 | none => none
 | some nm => if (!isNm nm || hasS (names.take j) nm) = true then some 72 else firstF cs 0 (fun k => B k j)
def looksF (E : Nat → Option Int) : Nat → Nat → Option (Int × Int)
 | 0, _ => none
 | m + 1, j => match E j with | some c => some (c, (j : Int)) | none => looksF E m (j + 1)
def lookL (names : List (List UInt8)) (lo hi : Int) (cs : List Ck) (B : Nat → Nat → Bool) : Option (Int × Int) := if inR names.length lo hi = true then looksF (objF names cs B) names.length 0 else some (71, 0)
def LookPost (w : World) (word : List UInt8) (o : Option (Int × Int)) (e : Ending) (w' : World) : Prop := match o with
 | none => e = .returned .nilIface ∧ Below w.heap.size w w'
 | some (c, id) => RefPost w c word id e w'
theorem refPost_back {w W w' : World} {c id : Int} {word : List UInt8} {e : Ending} (h : RefPost W c word id e w') (hb : Below w.heap.size w W) : RefPost w c word id e w' := by
 obtain ⟨b, h1, h2, h3, h4⟩ := h
 exact ⟨b, h1, Nat.le_trans hb.size h2, h3, hb.trans (h4.mono hb.size)⟩
theorem look_any (w : World) (c : Cf) (v : Vs) (h : CfAt w c v) (word : List UInt8) (lo hi : Int) (fN : Nat) (s : Sl) (cs : List Ck) (hcs : RowsAt w 2 ckP s cs) (names : List (List UInt8))
  (egN : ∀ args W, (callFunc fN args).run Tryz.prog W = .ok (.enter fN args) W) (cN : ∀ W, Below w.heap.size w W → Calls Tryz.prog fN #[.agg (cfC c v)] W fun e w' => NamesPost W names e w')
  (B : Nat → Nat → Bool) (egC : ∀ x ∈ cs, ∀ args W, (callFunc x.f args).run Tryz.prog W = .ok (.enter x.f args) W)
  (cC : ∀ (j k : Nat) (x : Ck), j < names.length → cs[k]? = some x → (∀ k', k' < k → B k' j = true) → ∀ W, Below w.heap.size w W → Calls Tryz.prog x.f (#[.agg (cfC c v), I j] ++ x.caps) W fun e w' => Ans W (B k j) e w') :
  Calls Tryz.prog 53 #[.agg (kdC word lo hi fN s), .agg (cfC c v)] w fun e w' => LookPost w word (lookL names lo hi cs B) e w' := by
 have hi18 : (Tryz.prog.info? 33).map (·.size) = some (cfC c v).size := by rw [show (cfC c v).size = 18 from rfl]; kernel_rfl
 have hV0 := heap_two w (.cells (kdC word lo hi fN s) 127) (.cells (cfC c v) 33)
 have hK0 : ((w.alloc (.cells (kdC word lo hi fN s) 127)).alloc (.cells (cfC c v) 33)).heap[w.heap.size]? = some (.cells (kdC word lo hi fN s) 127 (0, 0)) := by
  rw [heap_alloc_old (w.alloc _) _ (by simp)]; exact heap_alloc_new w _
 have hbw := (below_alloc w (.cells (kdC word lo hi fN s) 127)).trans ((below_alloc (w.alloc (.cells (kdC word lo hi fN s) 127)) (.cells (cfC c v) 33)).mono (below_alloc w _).size)
 have hsz : ((w.alloc (.cells (kdC word lo hi fN s) 127)).alloc (.cells (cfC c v) 33)).heap.size = w.heap.size + 2 := by simp
 obtain ⟨R, hR⟩ : ∃ R, R = lookL names lo hi cs B := ⟨_, rfl⟩
 rw [← hR]
 unfold lookL at hR
 have HR : Hid (R = _) := hR
 clear hR
 generalize cfC c v = C at *
 unfold kdC at *
 go_enter Tryz.func53, Tryz.ntmps53
 go_wp2_with (refine wpList_load_row rfl 33 _ rfl (w.heap.size + 1) rfl 33 _ (0, 0) _ hV0 Tryz.underlying33 rfl hi18 ?_)
 refine (cN _ hbw).mono ?_
 rintro e w1 ⟨ns, rfl, hns, hb1⟩
 have hV1 := (hb1.block _ (heap_lt hV0)).trans hV0
 have hK1 := (hb1.block _ (heap_lt hK0)).trans hK0
 have hbw1 := hbw.trans (hb1.mono hbw.size)
 have hs1 := hb1.size
 have hgr : w.heap.size + 1 < w1.heap.size := by omega
 have HNN : Hid (ns.n = names.length) := hns.n
 have hnm : ns.c ≤ maxLen := hns.m
 have hnc : ns.n ≤ ns.c := hns.c
 unfold maxLen at hnm
 have kk := fun W (hW : Below w1.heap.size w1 W) i => (cell_of_row W w.heap.size i _ _ (0, 0) ((hW.block _ (heap_lt hK1)).trans hK1))
 have k0 := fun W hW => kk W hW 0
 have k1 := fun W hW => kk W hW 1
 have k2 := fun W hW => kk W hW 2
 have k4 := fun W hW => kk W hW 4
 simp at k0 k1 k2 k4
 have l0 := k0 w1 (Below.refl _ _)
 have l1 := k1 w1 (Below.refl _ _)
 have l2 := k2 w1 (Below.refl _ _)
 have cw := within_int ns.n lo hi
 clear hV0 hK0 hb1 hbw cN egN hsz kk
 cases hin : inR ns.n lo hi with
 | false =>
  have HE : Hid (R = some (71, 0)) := by show _ = _; rw [HR.out, ← HNN.out, hin]; rfl
  rw [hin] at cw
  have cr := refuse_any 71 word 0 w1
  clear HR
  go_wp2_with (first | (go_at_call 86; refine (cw _).mono ?_; rintro e w' ⟨rfl, rfl⟩) | (go_at_call 87; refine cr.mono ?_; rintro e w2 ⟨b2, rfl, hr2, hr3, hr4⟩))
  go_ret
  show LookPost w word R _ _
  rw [HE.out]
  exact refPost_back ⟨b2, rfl, hr2, hr3, hr4⟩ hbw1
 | true =>
  have HE : Hid (R = looksF (objF names cs B) ns.n 0) := by show _ = _; rw [HR.out, ← HNN.out, hin]; rfl
  rw [hin] at cw
  clear HR
  go_wp2_with (first | (go_at_call 86; refine (cw _).mono ?_; rintro e w' ⟨rfl, hq⟩; replace hq := hq.symm; subst hq))
  clear l0 l1 l2 cw
  go_loopw [6, 7, 27] (fun _ _ iv wr => ∃ j : Nat, j ≤ ns.n ∧ iv = .int .i64 j ∧ Hid (Below w1.heap.size w1 wr ∧ R = looksF (objF names cs B) (ns.n - j) j)) (fun _ _ iv _ => ns.n - (intOf iv).toNat)
  case atStart => exact ⟨0, by omega, rfl, Below.refl _ _, HE.out⟩
  case round =>
   clear HE
   obtain ⟨j, hj, rfl, HJ⟩ := hrel
   obtain ⟨hB, hRj⟩ := HJ.out
   have HRj : Hid (R = looksF (objF names cs B) (ns.n - j) j) := hRj
   clear HJ hRj
   have hbwr := hbw1.trans (hB.mono hbw1.size)
   by_cases hlt : j < ns.n
   ·have hlt' : (j : Int) < ns.n := by omega
    have hjl : j < names.length := by rw [← HNN.out]; exact hlt
    obtain ⟨nm, hnmj⟩ : ∃ x, names[j]? = some x := ⟨_, List.getElem?_eq_getElem hjl⟩
    obtain ⟨g, off, e, hg, hcn⟩ := strs_at (hns.below hB (fun _ _ _ _ h => h)) hnmj
    have hjc : j ≤ ns.c := by omega
    have hc0 : ¬ ns.c = 0 := by omega
    have hTk : RowsAt wr 1 strP ⟨some ⟨g, off, none⟩, j, ns.c⟩ (names.take j) := by
     have h9 := hns.below hB (fun _ _ _ _ h => h)
     refine ⟨by rw [List.length_take]; show j = _; omega, hjc, hns.m, fun k x hk => ?_⟩
     rw [List.getElem?_take] at hk
     split at hk
     ·obtain ⟨g', off', e', r⟩ := h9.row k x hk
      rw [e] at e'
      cases e'
      exact ⟨g, off, rfl, r⟩
     ·cases hk
    have ci := isName_l nm
    have cc := contains_str wr ⟨some ⟨g, off, none⟩, j, ns.c⟩ (names.take j) hTk nm
    have cr := refuse_any 72 word j wr
    have HO : Hid (objF names cs B j = if (!isNm nm || hasS (names.take j) nm) = true then some 72 else firstF cs 0 (fun k => B k j)) := by show _ = _; unfold objF; rw [hnmj]
    have HS : Hid (R = match objF names cs B j with | some c => some (c, (j : Int)) | none => looksF (objF names cs B) (ns.n - (j + 1)) (j + 1)) := by
     show _ = _
     rw [HRj.out, show ns.n - j = (ns.n - (j + 1)) + 1 by omega, looksF]
    have m0 := k0 wr hB
    have m4 := k4 wr hB
    dsimp only at cc
    clear hnmj hTk HRj
    generalize isNm nm = b1 at *
    generalize hasS (names.take j) nm = b2 at *
    cases hb12 : (!b1 || b2) with
    | true =>
     have HE : Hid (R = some (72, (j : Int))) := by show _ = _; rw [HS.out, HO.out, hb12]; rfl
     clear HS HO
     cases b1 with
     | false =>
      rw [e]
      go_wp2_with (first | (go_at_call 88; refine (ci _).mono ?_; rintro e w' ⟨rfl, hq⟩; replace hq := hq.symm; subst hq) | (go_at_call 89; refine cc.mono ?_; rintro e w' ⟨rfl, hq⟩; replace hq := hq.symm; subst hq) | (go_at_call 87; refine cr.mono ?_; rintro e w2 ⟨b2, rfl, hr2, hr3, hr4⟩))
      go_ret
      show LookPost w word R _ _
      rw [HE.out]
      exact refPost_back ⟨_, rfl, hr2, hr3, hr4⟩ hbwr
     | true =>
      obtain rfl : b2 = true := by simpa using hb12
      rw [e]
      go_wp2_with (first | (go_at_call 88; refine (ci _).mono ?_; rintro e w' ⟨rfl, hq⟩; replace hq := hq.symm; subst hq) | (go_at_call 89; refine cc.mono ?_; rintro e w' ⟨rfl, hq⟩; replace hq := hq.symm; subst hq) | (go_at_call 87; refine cr.mono ?_; rintro e w2 ⟨b2, rfl, hr2, hr3, hr4⟩))
      go_ret
      show LookPost w word R _ _
      rw [HE.out]
      exact refPost_back ⟨_, rfl, hr2, hr3, hr4⟩ hbwr
    | false =>
     obtain ⟨rfl, rfl⟩ : b1 = true ∧ b2 = false := by simpa using hb12
     have HE : Hid (R = match firstF cs 0 (fun k => B k j) with | some c => some (c, (j : Int)) | none => looksF (objF names cs B) (ns.n - (j + 1)) (j + 1)) := by show _ = _; rw [HS.out, HO.out, hb12]; rfl
     clear HS HO hb12 cr
     rw [e]
     go_wp2_with (first | (go_at_call 88; refine (ci _).mono ?_; rintro e w' ⟨rfl, hq⟩; replace hq := hq.symm; subst hq) | (go_at_call 89; refine cc.mono ?_; rintro e w' ⟨rfl, hq⟩; replace hq := hq.symm; subst hq))
     have hsc : s.n ≤ s.c := hcs.c
     have hsm : s.c ≤ maxLen := hcs.m
     have HSN : Hid (s.n = cs.length) := hcs.n
     unfold maxLen at hsm
     clear cc m0 m4 hcn hg
     go_loopw [9, 49] (fun _ iv wq => ∃ k : Nat, k ≤ s.n ∧ iv = .int .i64 k ∧ Hid (Below w1.heap.size w1 wq ∧ firstF cs 0 (fun k => B k j) = firstF (cs.drop k) k (fun k => B k j) ∧ ∀ k', k' < k → B k' j = true)) (fun _ iv _ => s.n - (intOf iv).toNat)
     case atStart => exact ⟨0, by omega, rfl, hB, rfl, fun k' h => absurd h (Nat.not_lt_zero _)⟩
     case round =>
      clear hB hbwr
      obtain ⟨k, hk, rfl, HK⟩ := hrel
      obtain ⟨hB, hFk, hAk⟩ := HK.out
      have HFk : Hid (firstF cs 0 (fun k => B k j) = firstF (cs.drop k) k (fun k => B k j)) := hFk
      clear HK hFk
      have hbwr := hbw1.trans (hB.mono hbw1.size)
      by_cases hkl : k < s.n
      ·have hkl' : (k : Int) < s.n := by omega
       have hkc : k < cs.length := by rw [← HSN.out]; exact hkl
       obtain ⟨x, hx⟩ : ∃ x, cs[k]? = some x := ⟨_, List.getElem?_eq_getElem hkc⟩
       obtain ⟨g2, off2, e2, hg2, hrow⟩ := (hcs.below hbwr (fun _ _ _ _ h => h)).row k x hx
       obtain ⟨u0, y0, z0⟩ := hrow 0 (by omega)
       obtain ⟨u1, y1, z1⟩ := hrow 1 (by omega)
       obtain rfl : u0 = I x.code := z0
       obtain rfl : u1 = .func (.func x.f) #[] x.caps := z1
       rw [Nat.add_zero] at y0
       have hng2 : g2 ≠ wr.heap.size := by omega
       have hst : (storeCells ⟨wr.heap.size, 0, none⟩ [I x.code, .func (.func x.f) #[] x.caps] 0).run Tryz.prog (wr.alloc (.cells #[.int .i64 0, .nilFunc] 159)) = .ok () (wr.alloc (.cells #[I x.code, .func (.func x.f) #[] x.caps] 159)) :=
        run_storeCells_new (P := Tryz.prog) wr 159 #[.int .i64 0, .nilFunc] #[I x.code, .func (.func x.f) #[] x.caps] (by kernel_rfl) rfl (by simp [Value.oneCell'])
       have hal := below_alloc wr (.cells #[I x.code, .func (.func x.f) #[] x.caps] 159)
       have hVx := (hal.block _ (heap_lt ((hB.block _ (heap_lt hV1)).trans hV1))).trans ((hB.block _ (heap_lt hV1)).trans hV1)
       have hXx := heap_alloc_new wr (.cells #[I x.code, .func (.func x.f) #[] x.caps] 159)
       have egx := egC x (List.mem_of_getElem? hx)
       have m4 := k4 wr hB
       have cx := cC j k x hjl hx hAk (wr.alloc (.cells #[I x.code, .func (.func x.f) #[] x.caps] 159)) (hbwr.trans (hal.mono hbwr.size))
       rw [e2] at *
       go_wp2_with (refine wpList_load_row rfl 33 _ rfl (w.heap.size + 1) rfl 33 _ (0, 0) _ hVx Tryz.underlying33 rfl hi18 ?_)
       refine cx.mono ?_
       rintro e5 w5 ⟨rfl, hb5⟩
       have hB5 : Below w1.heap.size w1 w5 := (hB.trans (hal.mono hB.size)).trans (hb5.mono (Nat.le_trans hB.size hal.size))
       have hX5 := (hb5.block _ (heap_lt hXx)).trans hXx
       have y5 : w5.cell? ⟨wr.heap.size, 0, none⟩ = some (I x.code) := cell_of_row w5 wr.heap.size 0 _ _ (0, 0) hX5
       have n0 := k0 w5 hB5
       have HD : Hid (firstF cs 0 (fun k => B k j) = if B k j = true then firstF (cs.drop (k + 1)) (k + 1) (fun k => B k j) else some x.code) := by
        show _ = _
        rw [HFk.out, List.drop_eq_getElem_cons hkc, firstF]
        rw [List.getElem?_eq_getElem hkc] at hx
        rw [Option.some.inj hx]
       have hAk2 : Hid (B k j = true → ∀ k', k' < k + 1 → B k' j = true) := fun hb k' hk' => by
        by_cases ek : k' < k
        ·exact hAk k' ek
        ·obtain rfl : k' = k := by omega
         exact hb
       clear cx hst hVx hXx hX5 hal hb5 y0 y1 egx m4 HFk hx hkc hrow hAk
       cases hbk : B k j with
       | true =>
        have HD2 : Hid (firstF cs 0 (fun k => B k j) = firstF (cs.drop (k + 1)) (k + 1) (fun k => B k j)) := by show _ = _; rw [HD.out, hbk]; rfl
        have hAk3 := hAk2.out hbk
        have HA3 : Hid (∀ k', k' < k + 1 → B k' j = true) := hAk3
        clear HD hAk2 hAk3
        go_wp2
        go_roundw
        case rel => exact ⟨k + 1, by omega, by go_num, hB5, HD2.out, HA3.out⟩
        case measure => simp [intOf]; omega
       | false =>
        have HE2 : Hid (R = some (x.code, (j : Int))) := by show _ = _; rw [HE.out, HD.out, hbk]; rfl
        have cr := refuse_any x.code word j w5
        clear HD hAk2 HE
        go_wp2_with (first | (go_at_call 87; refine cr.mono ?_; rintro e w6 ⟨b6, rfl, hr2, hr3, hr4⟩))
        go_ret
        show LookPost w word R _ _
        rw [HE2.out]
        exact refPost_back ⟨_, rfl, hr2, hr3, hr4⟩ (hbw1.trans (hB5.mono hbw1.size))
      ·obtain rfl : k = s.n := by omega
       have hkl' : ¬ ((s.n : Nat) : Int) < (s.n : Nat) := by omega
       have HE2 : Hid (R = looksF (objF names cs B) (ns.n - (j + 1)) (j + 1)) := by
        show _ = _
        rw [HE.out, HFk.out, List.drop_eq_nil_of_le (by rw [← HSN.out]; exact Nat.le_refl _), firstF]
       clear hAk HFk HE
       go_wp2
       go_roundw
       case rel => exact ⟨j + 1, by omega, by go_num, hB, HE2.out⟩
       case measure => simp [intOf]; omega
   ·obtain rfl : j = ns.n := by omega
    have hlt' : ¬ ((ns.n : Nat) : Int) < (ns.n : Nat) := by omega
    have HE : Hid (R = none) := by show _ = _; rw [HRj.out, Nat.sub_self, looksF]
    go_wp2
    go_ret
    show LookPost w word R _ _
    rw [HE.out]
    exact ⟨rfl, hbwr⟩
end Go.Proofs.YtpbnpmeigdjfdaaGreatDoor
