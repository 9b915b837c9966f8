import Derived.Test.YtapfbinaocaclaaEcz
import Derived.Lib.QuietBelow
namespace Go.Proofs.Ytapfbinaocaclaa
open Go.RowKit Go.Sort
set_option linter.unusedVariables false
set_option linter.unusedSimpArgs false

/-! ### The document's ends and users -/
/-- A whole variable read in a region that draws its order. -/
theorem wpQuiet_load_row {P : Program} {ops : Array Oper} {C : World → Prop} {Q : Act → Prop} {a : Act} {o : Oper} {rest : List Oper} (hgd : Region.wanted o (yielded ops a.tmps) = true) (ty : TypeId) (x : Operand) (ho : o.op = .load ty x)
    (g : Nat) (hx : a.eval x = .pointer (some ⟨g, 0, none⟩)) (t : TypeId) (cs : Array Value) (fr : Nat × Nat) (d : TypeDesc) (hg : ∀ w, C w → w.heap[g]? = some (.cells cs t fr))
    (hu : P.underlying ty = some d) (hd : (match d with | .struct _ | .array _ _ => true | _ => false) = true) (hi : (P.info? ty).map (·.size) = some cs.size)
    (h : wpQuiet P ops C Q rest (a.put o.dst (.agg cs))) : wpQuiet P ops C Q (o :: rest) a := by
  unfold wpQuiet
  rw [if_pos hgd]
  refine ⟨.agg cs, fun w hw => ?_, h⟩
  unfold Oper.quietAt execOp
  simp only [ho, hx, Instr.loadAt, Instr.sureAddr, Sem.run_bind, Sem.run_pure, Result.andThen_ok, run_loadVar_row w g t ty cs fr d (hg w hw) hu hd hi]
  exact ⟨rfl, rfl⟩
/-- What the class of a region's worlds keeps. -/
theorem heap_regrown {w : World} {g : Nat} {o : Obj} (h : w.heap[g]? = some o) : ∀ w', (∃ p : Regrown, w' = grow (redrawn w p.d) p.os) → w'.heap[g]? = some o := by
  rintro w' ⟨p, rfl⟩
  exact ((below_regrown w p.d p.os).block g (heap_lt h)).trans h
set_option maxHeartbeats 1000000 in
theorem rinternal_any (w : World) (c : Cf) (v : Vs) (h : CfAt w c v) (r : Nat) (hr : r < c.ress.length) : Calls Try.prog 39 #[.agg (cfC c v), I (r : Int)] w fun e w' => Ans w (rkind c (r : Int) == 3) e w' := by
  obtain ⟨x, hx⟩ : ∃ x, c.ress[r]? = some x := ⟨_, List.getElem?_eq_getElem hr⟩
  obtain ⟨g, off, e, hg, a0, a1, a2⟩ := rs_at h hx
  have hne : g ≠ w.heap.size := by omega
  have hr' : (r : Int) < v.r.n := by have := h.r.n; omega
  have hb := below_alloc w
  have f12 : ∀ h : 12 < (cfC c v).size, (cfC c v)[12] = .slice v.r.a v.r.n v.r.c := fun _ => rfl
  have hs18 : (cfC c v).size = 18 := rfl
  rw [rkind_at hx]
  generalize cfC c v = C at *
  replace f12 := f12 (by omega)
  rw [e] at f12
  clear hx h
  go_enter Try.func39, Try.ntmps39
  go_wp2
  go_ret
  exact ⟨rfl, hb _⟩
def LinksOK (c : Cf) : Prop := ∀ x ∈ c.ress, x.kind = 2 → isId x.link c.ress.length = true
set_option maxHeartbeats 4000000 in
set_option maxRecDepth 100000 in
theorem rroot8_any (w : World) (c : Cf) (v : Vs) (h : CfAt w c v) (hl : c.ress.length ≤ 8796093022208) (hlk : LinksOK c) (r : Nat) (hr : r < c.ress.length) :
    Calls Try.prog 41 #[.agg (cfC c v), I (r : Int)] w fun e w' => e = .returned (I (rootN c (r : Int))) ∧ Below w.heap.size w w' := by
  have hc : v.r.n ≤ v.r.c := h.r.c
  have hm : v.r.c ≤ maxLen := h.r.m
  unfold maxLen at hm
  have hn40 : v.r.n ≤ 8796093022208 := by have := h.r.n; omega
  have HN : Hid (v.r.n = c.ress.length) := h.r.n
  have HLK : Hid (LinksOK c) := hlk
  have hb := below_alloc w
  have f12 : ∀ h : 12 < (cfC c v).size, (cfC c v)[12] = .slice v.r.a v.r.n v.r.c := fun _ => rfl
  have hs18 : (cfC c v).size = 18 := rfl
  generalize cfC c v = C at *
  replace f12 := f12 (by omega)
  unfold rootN
  rw [← rootF_more]
  go_enter Try.func41, Try.ntmps41
  go_wp2
  go_loop [1, 5] (fun r5 i => ∃ (j ρ : Nat), j ≤ v.r.n + 1 ∧ i = .int .i64 j ∧ r5 = .int .i64 ρ ∧ ρ < v.r.n ∧ Hid (rootF c (c.ress.length + 1) (r : Int) = rootF c (v.r.n + 1 - j) (ρ : Int))) (fun _ i => v.r.n + 1 - (intOf i).toNat)
  case atStart => exact ⟨0, r, by omega, rfl, rfl, by rw [HN.out]; exact hr, by show _ = _; rw [Nat.sub_zero, HN.out]⟩
  case round =>
    obtain ⟨j, q, hj, rfl, rfl, hq, HR⟩ := hrel
    by_cases hlt : j ≤ v.r.n
    · have hlt' : (j : Int) ≤ v.r.n := by omega
      have hql : q < c.ress.length := by rw [← HN.out]; exact hq
      obtain ⟨x, hx⟩ : ∃ x, c.ress[q]? = some x := ⟨_, List.getElem?_eq_getElem hql⟩
      obtain ⟨g, off, e, hg, a0, a1, a2⟩ := rs_at h hx
      have hne : g ≠ w.heap.size := by omega
      have hq' : (q : Int) < v.r.n := by omega
      have HE1 : Hid (rootF c (c.ress.length + 1) (r : Int) = if x.kind = 2 then rootF c (v.r.n + 1 - (j + 1)) x.link else q) := by
        show _ = _
        rw [HR.out, show v.r.n + 1 - j = (v.r.n + 1 - (j + 1)) + 1 by omega, rootF, isId_nat hql, if_pos rfl, rkind_at hx, rlink_at hx]
      have HLx : Hid (x.kind = 2 → isId x.link c.ress.length = true) := HLK.out x (List.mem_of_getElem? hx)
      rw [e] at f12
      clear hx hql HR
      cases hk : x.kind == 2 with
      | true =>
        have hk' : (x.kind != 2) = false := by simp only [bne, hk]; rfl
        have hlb : 0 ≤ x.link ∧ x.link < c.ress.length := by simpa [isId] using HLx.out (by simpa using hk)
        obtain ⟨p, hp⟩ := Int.eq_ofNat_of_zero_le hlb.1
        have hpn : p < v.r.n := by rw [HN.out]; omega
        have HE2 : Hid (rootF c (c.ress.length + 1) (r : Int) = rootF c (v.r.n + 1 - (j + 1)) (p : Int)) := by show _ = _; rw [HE1.out, if_pos (by simpa using hk), hp]
        rw [hp] at a2
        clear HE1 hlb hp HLx
        go_wp2
        go_round
        case rel => exact ⟨j + 1, p, by omega, by go_num, rfl, hpn, HE2⟩
        case measure => simp [intOf]; omega
      | false =>
        have hk' : (x.kind != 2) = true := by simp only [bne, hk]; rfl
        have HE2 : Hid (rootF c (c.ress.length + 1) (r : Int) = q) := by show _ = _; rw [HE1.out, if_neg (by simpa using hk)]
        clear HE1 HLx
        go_wp2
        go_ret
        exact ⟨ret_int HE2.out.symm, hb _⟩
    · obtain rfl : j = v.r.n + 1 := by omega
      have hlt' : ¬ ((v.r.n + 1 : Nat) : Int) ≤ v.r.n := by omega
      have HE2 : Hid (rootF c (c.ress.length + 1) (r : Int) = -1) := by show _ = _; rw [HR.out, Nat.sub_self, rootF]
      go_wp2
      go_ret
      exact ⟨ret_int HE2.out.symm, hb _⟩
def usesB (c : Cf) (l : List Int) (r : Int) : Bool := l.any (fun x => rootN c x == rootN c r)
set_option maxHeartbeats 4000000 in
set_option maxRecDepth 100000 in
theorem ruses_any (w : World) (c : Cf) (v : Vs) (h : CfAt w c v) (hn : c.ress.length ≤ 8796093022208) (hlk : LinksOK c) (s : Sl) (l : List Int) (hl : RowsAt w 1 intP s l) (hid : ∀ x ∈ l, isId x c.ress.length = true) (r : Nat) (hr : r < c.ress.length) :
    Calls Try.prog 42 #[.agg (cfC c v), .slice s.a s.n s.c, I (r : Int)] w fun e w' => Ans w (usesB c l (r : Int)) e w' := by
  have hi18 : (Try.prog.info? 33).map (·.size) = some (cfC c v).size := by rw [show (cfC c v).size = 18 from rfl]; kernel_rfl
  have hV0 := heap_alloc_new w (.cells (cfC c v) 33)
  have hb := below_alloc w (.cells (cfC c v) 33)
  have HS : Hid (s.n = l.length) := hl.n
  have hsc : s.n ≤ s.c := hl.c
  have hsm : s.c ≤ maxLen := hl.m
  unfold maxLen at hsm
  have HID : Hid (∀ x ∈ l, isId x c.ress.length = true) := hid
  have HK : Hid (∀ W, Below w.heap.size w W → ∀ q : Nat, q < c.ress.length → Calls Try.prog 41 #[.agg (cfC c v), I (q : Int)] W fun e w' => e = .returned (I (rootN c (q : Int))) ∧ Below W.heap.size W w') := fun W hW q hq => rroot8_any W c v (h.below hW) hn hlk q hq
  obtain ⟨R, hR⟩ : ∃ R, R = usesB c l (r : Int) := ⟨_, rfl⟩
  rw [← hR]
  have HR : Hid (R = l.any (fun x => rootN c x == rootN c (r : Int))) := hR
  generalize cfC c v = C at *
  have HF : Hid (∀ W, Below (w.alloc (.cells C 33)).heap.size (w.alloc (.cells C 33)) W → W.heap[w.heap.size]? = some (.cells C 33 (0, 0)) ∧ RowsAt W 1 intP s l ∧ Below w.heap.size w W) := fun W hW => by
    have hbW := hb.trans (hW.mono hb.size)
    exact ⟨(hW.block _ (heap_lt hV0)).trans hV0, hl.below hbW (fun _ _ _ _ h => h), hbW⟩
  clear hR hl hid h hb hV0 hlk
  go_enter Try.func42, Try.ntmps42
  go_wp2
  generalize w.alloc (.cells C 33) = W0 at *
  go_loopw [7] (fun iv wr => ∃ j : Nat, j ≤ s.n ∧ iv = .int .i64 j ∧ Hid (Below W0.heap.size W0 wr ∧ (l.take j).any (fun x => rootN c x == rootN c (r : Int)) = false)) (fun iv _ => s.n - (intOf iv).toNat)
  case atStart => exact ⟨0, by omega, rfl, Below.refl _ _, by simp⟩
  case round =>
    obtain ⟨j, hj, rfl, HJ⟩ := hrel
    obtain ⟨hV, hl, hbw⟩ := HF.out _ HJ.out.1
    have Hbw : Hid (Below w.heap.size w wr) := hbw
    by_cases hlt : j < s.n
    · have hlt' : (j : Int) < s.n := by omega
      obtain ⟨xi, hx⟩ : ∃ x, l[j]? = some x := ⟨_, List.getElem?_eq_getElem (by rw [← HS.out]; exact hlt)⟩
      have hbd : 0 ≤ xi ∧ xi < c.ress.length := by simpa [isId] using HID.out xi (List.mem_of_getElem? hx)
      obtain ⟨x, rfl⟩ := Int.eq_ofNat_of_zero_le hbd.1
      have hxn : x < c.ress.length := by omega
      obtain ⟨g5, o5, e5, hg5, b5⟩ := ints_at hl hx
      have HA : Hid ((l.take (j + 1)).any (fun x => rootN c x == rootN c (r : Int)) = (rootN c (x : Int) == rootN c (r : Int))) := by show _ = _; rw [any_take _ _ j _ hx, HJ.out.2, Bool.false_or]
      have HT : Hid ((rootN c (x : Int) == rootN c (r : Int)) = true → R = true) := fun ht => by rw [HR.out]; exact List.any_eq_true.2 ⟨_, List.mem_of_getElem? hx, ht⟩
      have cr := cell_regrown b5
      have c1 : ∀ d os, Calls Try.prog 41 #[.agg C, I (x : Int)] (grow (redrawn wr d) os) fun e w'' => e = .returned (I (rootN c (x : Int))) ∧ ∃ p : Regrown, w'' = grow (redrawn wr p.d) p.os := fun d os => Calls.regrown_of (HK.out _ (Hbw.out.trans ((below_regrown _ d os).mono Hbw.out.size)) x hxn)
      have c2 : ∀ d os, Calls Try.prog 41 #[.agg C, I (r : Int)] (grow (redrawn wr d) os) fun e w'' => e = .returned (I (rootN c (r : Int))) ∧ ∃ p : Regrown, w'' = grow (redrawn wr p.d) p.os := fun d os => Calls.regrown_of (HK.out _ (Hbw.out.trans ((below_regrown _ d os).mono Hbw.out.size)) r hr)
      rw [e5]
      clear hx hbd e5 hl hbw
      generalize rootN c (x : Int) = rx at *
      generalize rootN c (r : Int) = rr at *
      go_wp2
      refine wp_region_quiet_below (by kernel_rfl) (by kernel_rfl) ?_
      refine wpQuiet_load_row rfl 33 _ rfl w.heap.size rfl 33 _ (0, 0) _ (heap_regrown hV) Try.underlying33 rfl hi18 ?_
      quiet_step (fail)
      repeat (go_big_quiet_step (first | exact c1 _ _))
      refine wpQuiet_load_row rfl 33 _ rfl w.heap.size rfl 33 _ (0, 0) _ (heap_regrown hV) Try.underlying33 rfl hi18 ?_
      quiet_step (fail)
      repeat (go_big_quiet_step (first | exact c2 _ _))
      refine wpQuiet_nil ?_
      rintro _ ⟨⟨dq, osq⟩, rfl⟩
      dsimp only
      have hb4 := below_regrown wr dq osq
      have HB4 : Hid (Below W0.heap.size W0 (grow (redrawn wr dq) osq)) := HJ.out.1.trans (hb4.mono HJ.out.1.size)
      have Hbw4 : Hid (Below w.heap.size w (grow (redrawn wr dq) osq)) := Hbw.out.trans (hb4.mono Hbw.out.size)
      clear c1 c2 cr hb4 hV HJ Hbw b5
      generalize grow (redrawn wr dq) osq = w4 at *
      cases he : rx == rr with
      | true =>
        have HE : Hid (R = true) := HT.out he
        clear HT HA
        go_wp2
        go_ret
        exact ⟨ret_bool HE.out.symm, Hbw4.out⟩
      | false =>
        have HA2 : Hid ((l.take (j + 1)).any (fun x => rootN c x == rr) = false) := by show _ = _; rw [HA.out, he]
        clear HT HA
        go_wp2
        go_roundw
        case rel => exact ⟨j + 1, by omega, by go_num, HB4.out, HA2.out⟩
        case measure => simp [intOf]; omega
    · obtain rfl : j = s.n := by omega
      have hlt' : ¬ ((s.n : Nat) : Int) < (s.n : Nat) := by omega
      have HE : Hid (R = false) := by show _ = _; rw [HR.out, ← HJ.out.2, List.take_of_length_le (by rw [HS.out]; exact Nat.le_refl _)]
      clear hl hV HR
      go_wp2
      go_ret
      exact ⟨ret_bool HE.out.symm, Hbw.out⟩
end Go.Proofs.Ytapfbinaocaclaa
