import Derived.Test.YtpbnpmeigdjfdaaGreatDoorXKrp
import Derived.Test.YtpbnpmeigdjfdaaGreatDoorXKrg
import Derived.Test.YtpbnpmeigdjfdaaGreatDoorKoq
import Derived.Test.YtpbnpmeigdjfdaaGreatDoorXKrt
namespace Go.Proofs.YtpbnpmeigdjfdaaGreatDoor
open Go.RowKit
set_option linter.unusedSimpArgs false
set_option linter.unusedVariables false
set_option maxHeartbeats 16000000
set_option maxRecDepth 100000
structure Sc where
 task : Int
 res : Int
 len : Nat
structure Fg where
 w : List Nat
 p : List Nat
 i : List Nat
 e : List Nat
 s : List Sc
structure Vf where
 w : Sl
 p : Sl
 i : Sl
 e : Sl
 s : Sl
def fgC (v : Vf) : Array Value := #[.slice v.w.a v.w.n v.w.c, .slice v.p.a v.p.n v.p.c, .slice v.i.a v.i.n v.i.c, .slice v.e.a v.e.n v.e.c, .slice v.s.a v.s.n v.s.c]
abbrev U (x : Nat) : Value := .int .u64 (x : Int)
def uP (x : Nat) (_ : Nat) (u : Value) : Prop := u = U x
def scP (x : Sc) (i : Nat) (u : Value) : Prop := match i with | 0 => u = I x.task | 1 => u = I x.res | _ => u = U x.len
structure FgAt (w : World) (f : Fg) (v : Vf) : Prop where
 k : RowsAt w 1 uP v.w f.w
 p : RowsAt w 1 uP v.p f.p
 i : RowsAt w 1 uP v.i f.i
 e : RowsAt w 1 uP v.e f.e
 s : RowsAt w 3 scP v.s f.s
theorem RowsAt.belowS {α : Type} {w w' : World} {k : Nat} {P : α → Nat → Value → Prop} {s : Sl} {l : List α} (h : RowsAt w k P s l) (hb : Below w.heap.size w w') : RowsAt w' k P s l := h.below hb (fun _ _ _ _ h => h)
theorem FgAt.below {w w' : World} {f : Fg} {v : Vf} (h : FgAt w f v) (hb : Below w.heap.size w w') : FgAt w' f v := ⟨h.k.belowS hb, h.p.belowS hb, h.i.belowS hb, h.e.belowS hb, h.s.belowS hb⟩
theorem nat_at {w : World} {s : Sl} {l : List Nat} (h : RowsAt w 1 uP s l) {j : Nat} {x : Nat} (hj : l[j]? = some x) : ∃ g off, s.a = some ⟨g, off, none⟩ ∧ g < w.heap.size ∧ w.cell? ⟨g, off + j, none⟩ = some (U x) := by
 obtain ⟨g, off, e, hg, hr⟩ := h.row j x hj
 obtain ⟨u, h1, h2⟩ := hr 0 (by omega)
 refine ⟨g, off, e, hg, ?_⟩
 rw [show off + j * 1 + 0 = off + j by omega] at h1
 rw [h1, h2]
theorem sc_at {w : World} {s : Sl} {l : List Sc} (h : RowsAt w 3 scP s l) {j : Nat} {x : Sc} (hj : l[j]? = some x) : ∃ g off, s.a = some ⟨g, off, none⟩ ∧ g < w.heap.size ∧ w.cell? ⟨g, off + j * 3, none⟩ = some (I x.task) ∧ w.cell? ⟨g, off + j * 3 + 1, none⟩ = some (I x.res) ∧ w.cell? ⟨g, off + j * 3 + 2, none⟩ = some (U x.len) := by
 obtain ⟨g, off, e, hg, hr⟩ := h.row j x hj
 obtain ⟨u0, a0, b0⟩ := hr 0 (by omega)
 have e0 : u0 = I x.task := b0
 rw [e0] at a0
 obtain ⟨u1, a1, b1⟩ := hr 1 (by omega)
 have e1 : u1 = I x.res := b1
 rw [e1] at a1
 obtain ⟨u2, a2, b2⟩ := hr 2 (by omega)
 have e2 : u2 = U x.len := b2
 rw [e2] at a2
 rw [Nat.add_zero] at a0
 exact ⟨g, off, e, hg, a0, a1, a2⟩
def okT (lo t : Nat) : Bool := decide (lo ≤ t) && decide (t ≤ 2147483647)
def timB (l : List Nat) (many lo : Nat) : Bool := l.length == many && l.all (okT lo)
def timesB (c : Cf) (f : Fg) : Bool := timB f.w c.tasks.length 1 && timB f.p c.tasks.length 1 && timB f.i c.isrs.length 0 && timB f.e c.isrs.length 1
def takB (c : Cf) (res : List Int) (r : Int) : Bool := if r == (c.ress.length : Int) then c.o8 else hasL res r && (rkind c r != 3)
def secB (c : Cf) (f : Fg) (x : Sc) : Bool := decide (0 ≤ x.task) && (match c.tasks[x.task.toNat]? with | some t => takB c t.res x.res | none => false) && (match f.w[x.task.toNat]? with | some n => decide (x.len ≤ n) | none => false)
theorem areTimes_any (w : World) (s : Sl) (l : List Nat) (h : RowsAt w 1 uP s l) (many lo : Nat) : Calls Tryz.prog 42 #[.slice s.a s.n s.c, I many, U lo] w fun e w' => e = .returned (.bool (timB l many lo)) ∧ w' = w := by
 obtain ⟨sa, sn, sc⟩ := s
 have HN : Hid (sn = l.length) := h.n
 have hc : sn ≤ sc := h.c
 have hm : sc ≤ maxLen := h.m
 dsimp only
 unfold maxLen at hm
 obtain ⟨R, hR⟩ : ∃ R, R = timB l many lo := ⟨_, rfl⟩
 rw [← hR]
 have HR0 : Hid (R = (l.length == many && l.all (okT lo))) := hR
 clear hR
 go_enter Tryz.func42, Tryz.ntmps42
 by_cases h1 : (sn : Int) = (many : Int)
 ·have h1' : ((sn : Int) != (many : Int)) = false := by simp [h1]
  have HR1 : Hid (R = l.all (okT lo)) := by
   show _ = _
   rw [HR0.out, show (l.length == many) = true by have := HN.out; simp; omega, Bool.true_and]
  clear HR0 h1
  go_wp2
  go_loop [8, 15] (fun _ i => ∃ j : Nat, j ≤ sn ∧ i = .int .i64 j ∧ Hid (R = (l.drop j).all (okT lo))) (fun _ i => sn - (intOf i).toNat)
  case atStart => exact ⟨0, by omega, rfl, HR1⟩
  case round =>
   obtain ⟨j, hj, rfl, HR⟩ := hrel
   by_cases hlt : j < sn
   ·have hlt' : (j : Int) < sn := by omega
    have hjl : j < l.length := by rw [← HN.out]; exact hlt
    obtain ⟨y, hy⟩ : ∃ y, l[j]? = some y := ⟨l[j], List.getElem?_eq_getElem hjl⟩
    obtain ⟨g, off, e, hg, hcx⟩ := nat_at h hy
    dsimp only at e
    subst e
    have HE : Hid (R = (okT lo y && (l.drop (j + 1)).all (okT lo))) := by
     show _ = _
     rw [HR.out, List.drop_eq_getElem_cons hjl, List.all_cons]
     rw [List.getElem?_eq_getElem hjl] at hy
     rw [Option.some.inj hy]
    clear hy hjl HR
    by_cases g1 : (y : Int) < (lo : Int)
    ·have HE2 : Hid (R = false) := by show _ = _; rw [HE.out]; unfold okT; rw [decide_eq_false (by omega)]; rfl
     clear HE
     go_wp2
     go_ret
     exact ⟨ret_bool HE2.out.symm, rfl⟩
    ·by_cases g2 : (2147483647 : Int) < (y : Int)
     ·have HE2 : Hid (R = false) := by show _ = _; rw [HE.out]; unfold okT; rw [show decide (y ≤ 2147483647) = false from decide_eq_false (by omega), Bool.and_false]; rfl
      clear HE
      go_wp2
      go_ret
      exact ⟨ret_bool HE2.out.symm, rfl⟩
     ·have HE2 : Hid (R = (l.drop (j + 1)).all (okT lo)) := by show _ = _; rw [HE.out]; unfold okT; rw [decide_eq_true (by omega), decide_eq_true (by omega)]; rfl
      clear HE
      go_wp2
      go_round
      case rel => exact ⟨j + 1, by omega, by go_num, HE2⟩
      case measure => simp [intOf]; omega
   ·obtain rfl : j = sn := by omega
    have hlt' : ¬ (j : Int) < j := by omega
    have HE2 : Hid (R = true) := by show _ = _; rw [HR.out, List.drop_eq_nil_of_le (by rw [← HN.out]; exact Nat.le_refl _)]; rfl
    go_wp2
    go_ret
    exact ⟨ret_bool HE2.out.symm, rfl⟩
 ·have h1' : ((sn : Int) != (many : Int)) = true := by simpa using h1
  have HR1 : Hid (R = false) := by
   show _ = _
   rw [HR0.out, show (l.length == many) = false by have := HN.out; simp; omega, Bool.false_and]
  clear HR0 h1
  go_wp2
  go_ret
  exact ⟨ret_bool HR1.out.symm, rfl⟩
def ovB (l : Nat) : Bool := decide (1000000 < l)
theorem isOver_any (w : World) (l : Nat) : Calls Tryz.prog 19 #[U l] w fun e w' => e = .returned (.bool (ovB l)) ∧ w' = w := by
 go_enter Tryz.func19, Tryz.ntmps19
 go_wp2
 go_ret
 exact ⟨ret_bool (by unfold ovB; rw [Bool.eq_iff_iff]; simp; omega), rfl⟩
end Go.Proofs.YtpbnpmeigdjfdaaGreatDoor
namespace Go.Proofs.YtpbnpmeigdjfdaaGreatDoor
open Go.ChangeShapes Go.RowKit Go.WideShapes
set_option linter.unusedSimpArgs false
set_option linter.unusedVariables false
set_option maxHeartbeats 16000000
set_option maxRecDepth 100000
theorem p_LU : Tryz.prog.cellsOf 34 = 1 := by kernel_rfl
theorem p_LSec : Tryz.prog.cellsOf 35 = 1 := by kernel_rfl
theorem q_Sec : Tryz.prog.cellsOf 84 = 3 := by kernel_rfl
theorem p_Fg : Tryz.prog.cellsOf 37 = 5 := by kernel_rfl
theorem one_u {H : Type} {enc : TypeId × Value → H} {w : World} {spare : Nat → Bool} {held : Bool} (n : Nat) (cs : List Value) (z : DataW H × List MemPlace) (hl : cs.length = 1) (h : DataW.trod enc Tryz.prog w 0 spare held n 38 cs = some z) : ∃ x : Nat, ∀ i, i < 1 → ∃ u, cs[i]? = some u ∧ uP x i u := by
 obtain ⟨x, rfl, _, b⟩ := DataW.trod_int Tryz.underlying38 h
 obtain ⟨n, rfl⟩ := Int.eq_ofNat_of_zero_le (bounds_u64 b).1
 exact ⟨n, fun i hi => by obtain rfl : i = 0 := (by omega); exact ⟨_, rfl, rfl⟩⟩
theorem one_sec {H : Type} {enc : TypeId × Value → H} {w : World} {spare : Nat → Bool} {held : Bool} (fuel : Nat) (cs : List Value) (y : DataW H × List MemPlace) (hcs : cs.length = 3) (h : DataW.trod enc Tryz.prog w 0 spare held fuel 84 cs = some y) : ∃ x : Sc, ∀ i, i < 3 → ∃ u, cs[i]? = some u ∧ scP x i u := by
 obtain ⟨c0, c1, c2, rfl⟩ := list3 hcs
 obtain ⟨xs, n, hn, hx, hl, hlen, hfs⟩ := DataW.trod_struct Tryz.underlying84 h
 match xs, hlen with
 | [y0, y1, y2], _ =>
  have h0 := hfs 0 _ rfl
  have h1 := hfs 1 _ rfl
  have h2 := hfs 2 _ rfl
  simp [p_int, p_uint64] at h0 h1 h2
  obtain ⟨v0, e0, _, b0⟩ := DataW.trod_int Tryz.underlying3 h0
  obtain ⟨v1, e1, _, b1⟩ := DataW.trod_int Tryz.underlying3 h1
  obtain ⟨v2z, e2, _, b2⟩ := DataW.trod_int Tryz.underlying38 h2
  obtain ⟨v2, rfl⟩ := Int.eq_ofNat_of_zero_le (bounds_u64 b2).1
  simp at e0 e1 e2
  subst e0 e1 e2
  refine ⟨⟨v0, v1, v2⟩, fun i hi => ?_⟩
  have hi2 : i = 0 ∨ i = 1 ∨ i = 2 := by omega
  rcases hi2 with rfl | rfl | rfl
  ·exact ⟨_, rfl, rfl⟩
  ·exact ⟨_, rfl, rfl⟩
  ·exact ⟨_, rfl, rfl⟩
theorem array5 {α : Type} {l : Array α} (h : l.size = 5) : ∃ c0 c1 c2 c3 c4, l = #[c0, c1, c2, c3, c4] := by
 obtain ⟨l⟩ := l
 obtain ⟨c0, c1, c2, c3, c4, e⟩ := list5 (l := l) (by simpa using h)
 exact ⟨c0, c1, c2, c3, c4, by rw [e]⟩
theorem figures_open {H : Type} {enc : TypeId × Value → H} {w : World} {spare : Nat → Bool} {held : Bool} {r : Reach} {b0 : Nat} {v : Value} {d : DataW H} {p : List MemPlace}
  (hv : Value.okWide Tryz.prog w r b0 37 v) (h : DataW.Trod enc Tryz.prog w 0 spare held 37 v d p) :
  ∃ (f : Fg) (vf : Vf), v = .agg (fgC vf) ∧ FgAt w f vf := by
 obtain ⟨cs, rfl, hsz⟩ := okWide_struct Tryz.underlying37 hv
 rw [p_Fg] at hsz
 obtain ⟨c0, c1, c2, c3, c4, rfl⟩ := array5 hsz
 obtain ⟨fuel, hf⟩ := h
 obtain ⟨xs, n, hn, hx, hl, hlen, hfs⟩ := DataW.trod_struct Tryz.underlying37 hf
 match xs, hlen with
 | [y0, y1, y2, y3, y4], _ =>
  have h0 := hfs 0 _ rfl
  have h1 := hfs 1 _ rfl
  have h2 := hfs 2 _ rfl
  have h3 := hfs 3 _ rfl
  have h4 := hfs 4 _ rfl
  simp [p_LU, p_LSec, Value.cells] at h0 h1 h2 h3 h4
  obtain ⟨s0, l0, rfl, r0, _⟩ := rows_open ⟨0⟩ (by omega) Tryz.underlying34 p_uint64 h0 one_u
  obtain ⟨s1, l1, rfl, r1, _⟩ := rows_open ⟨0⟩ (by omega) Tryz.underlying34 p_uint64 h1 one_u
  obtain ⟨s2, l2, rfl, r2, _⟩ := rows_open ⟨0⟩ (by omega) Tryz.underlying34 p_uint64 h2 one_u
  obtain ⟨s3, l3, rfl, r3, _⟩ := rows_open ⟨0⟩ (by omega) Tryz.underlying34 p_uint64 h3 one_u
  obtain ⟨s4, l4, rfl, r4, _⟩ := rows_open ⟨(⟨0, 0, 0⟩ : Sc)⟩ (by omega) Tryz.underlying35 q_Sec h4 one_sec
  exact ⟨⟨l0, l1, l2, l3, l4⟩, ⟨s0, s1, s2, s3, s4⟩, rfl, ⟨r0, r1, r2, r3, r4⟩⟩
end Go.Proofs.YtpbnpmeigdjfdaaGreatDoor
namespace Go.Proofs.YtpbnpmeigdjfdaaGreatDoor
open Go.RowKit Go.Sort
set_option linter.unusedSimpArgs false
set_option linter.unusedVariables false
set_option maxHeartbeats 16000000
set_option maxRecDepth 100000
theorem rkind_of {c : Cf} {q : Nat} {x : Rs} (h : c.ress[q]? = some x) : rkind c (q : Int) = x.kind := by
 simp [rkind, h]
theorem mayTake_any (w : World) (c : Cf) (v : Vs) (h : CfAt w c v) (t : Nat) (x : Tk) (ht : c.tasks[t]? = some x) (hm : ∀ z ∈ x.res, 0 ≤ z ∧ z < (c.ress.length : Int)) (r : Int) :
  Calls Tryz.prog 43 #[.agg (cfC c v), I t, I r] w fun e w' => Ans w (takB c x.res r) e w' := by
 have hn : v.t.n = c.tasks.length := h.t.n
 have hlt : (t : Int) < v.t.n := by have := (List.getElem?_eq_some_iff.1 ht).1; omega
 have HNR : Hid (v.r.n = c.ress.length) := h.r.n
 obtain ⟨g, off, s4, s5, s6, s7, e, hg, a0, a1, a2, a3, a4, a5, a6, a7, r4, r5, r6, r7⟩ := tk_at h ht
 have hne : g ≠ w.heap.size := by omega
 have hb := below_alloc w
 have kc := contains_int (w.alloc (.cells (cfC c v) 33)) s5 x.res (r5.belowS (hb _)) r
 have f9 : ∀ h : 9 < (cfC c v).size, (cfC c v)[9] = .bool c.o8 := fun _ => rfl
 have f11 : ∀ h : 11 < (cfC c v).size, (cfC c v)[11] = .slice v.t.a v.t.n v.t.c := fun _ => rfl
 have f12 : ∀ h : 12 < (cfC c v).size, (cfC c v)[12] = .slice v.r.a v.r.n v.r.c := fun _ => rfl
 have hs18 : (cfC c v).size = 18 := rfl
 obtain ⟨R, hR⟩ : ∃ R, R = takB c x.res r := ⟨_, rfl⟩
 rw [← hR]
 have HR : Hid (R = if r == (v.r.n : Int) then c.o8 else hasL x.res r && (rkind c r != 3)) := by show _ = _; rw [hR, HNR.out]; rfl
 have HRX : Hid (hasL x.res r = true → ∃ (q : Nat) (y : Rs) (g2 o2 : Nat), r = q ∧ q < v.r.n ∧ rkind c (q : Int) = y.kind ∧ v.r.a = some ⟨g2, o2, none⟩ ∧ g2 < w.heap.size ∧ w.cell? ⟨g2, o2 + q * 3 + 1, none⟩ = some (I y.kind)) := fun hh => by
  unfold hasL at hh
  obtain ⟨z, hz, hzr⟩ := List.any_eq_true.1 hh
  obtain rfl : r = z := by simpa using hzr
  obtain ⟨h0, h1⟩ := hm r hz
  obtain ⟨q, rfl⟩ := Int.eq_ofNat_of_zero_le h0
  obtain ⟨y, hy⟩ : ∃ y, c.ress[q]? = some y := ⟨_, List.getElem?_eq_getElem (by omega)⟩
  obtain ⟨g2, o2, e2, hg2, _, b1, _⟩ := rs_at h hy
  exact ⟨q, y, g2, o2, rfl, by have := HNR.out; omega, rkind_of hy, e2, hg2, b1⟩
 have hct : v.t.n ≤ v.t.c := h.t.c
 have hmt : v.t.c ≤ maxLen := h.t.m
 have hcr : v.r.n ≤ v.r.c := h.r.c
 have hmr : v.r.c ≤ maxLen := h.r.m
 unfold maxLen at hmt hmr
 generalize cfC c v = C at *
 replace f9 := f9 (by omega)
 replace f11 := f11 (by omega)
 replace f12 := f12 (by omega)
 rw [e] at f11
 clear hn hR h hm r4 r5 r6 r7 ht a0 a1 a2 a3 a4 a6 a7
 by_cases h1 : (r : Int) = (v.r.n : Int)
 ·have h1' : (r == (v.r.n : Int)) = true := by simpa using h1
  rw [if_pos h1'] at HR
  clear h1 HRX kc
  go_enter Tryz.func43, Tryz.ntmps43
  go_wp2
  go_ret
  exact ⟨ret_bool HR.out.symm, hb _⟩
 ·have h1' : (r == (v.r.n : Int)) = false := by simpa using h1
  rw [if_neg (by rw [h1']; decide)] at HR
  clear h1
  cases hh : hasL x.res r with
  | false =>
   rw [hh] at kc HR
   clear HRX
   go_enter Tryz.func43, Tryz.ntmps43
   go_wp2_with (first | (go_at_call 54; refine kc.mono ?_; clear kc; rintro e w' ⟨rfl, rfl⟩))
   go_ret
   exact ⟨ret_bool (by rw [HR.out]; rfl), hb _⟩
  | true =>
   obtain ⟨q, y, g2, o2, rfl, hq, hk, e2, hg2, b1⟩ := HRX.out hh
   rw [hh, hk, Bool.true_and] at HR
   rw [hh] at kc
   rw [e2] at f12
   have hq' : (q : Int) < v.r.n := by omega
   have hne2 : g2 ≠ w.heap.size := by omega
   clear HRX hk hh
   go_enter Tryz.func43, Tryz.ntmps43
   go_wp2_with (first | (go_at_call 54; refine kc.mono ?_; clear kc; rintro e w' ⟨rfl, rfl⟩))
   go_ret
   exact ⟨ret_bool HR.out.symm, hb _⟩
theorem timesFit_any (w : World) (c : Cf) (v : Vs) (h : CfAt w c v) (f : Fg) (vf : Vf) (hf : FgAt w f vf) :
  Calls Tryz.prog 26 #[.agg (cfC c v), .agg (fgC vf)] w fun e w' => Ans w (timesB c f) e w' := by
 have hb : ∀ o p, Below w.heap.size w ((w.alloc o).alloc p) := fun o p => ((Below.refl w.heap.size w).alloc (Nat.le_refl _) o).alloc (by simp) p
 have k1 := fun o p => areTimes_any ((w.alloc o).alloc p) vf.w f.w (hf.k.belowS (hb o p)) v.t.n 1
 have k2 := fun o p => areTimes_any ((w.alloc o).alloc p) vf.p f.p (hf.p.belowS (hb o p)) v.t.n 1
 have k3 := fun o p => areTimes_any ((w.alloc o).alloc p) vf.i f.i (hf.i.belowS (hb o p)) v.i.n 0
 have k4 := fun o p => areTimes_any ((w.alloc o).alloc p) vf.e f.e (hf.e.belowS (hb o p)) v.i.n 1
 obtain ⟨R, hR⟩ : ∃ R, R = timesB c f := ⟨_, rfl⟩
 rw [← hR]
 have HR : Hid (R = (timB f.w v.t.n 1 && timB f.p v.t.n 1 && timB f.i v.i.n 0 && timB f.e v.i.n 1)) := by show _ = _; rw [hR, h.t.n, h.i.n]; rfl
 have f11 : ∀ h : 11 < (cfC c v).size, (cfC c v)[11] = .slice v.t.a v.t.n v.t.c := fun _ => rfl
 have f16 : ∀ h : 16 < (cfC c v).size, (cfC c v)[16] = .slice v.i.a v.i.n v.i.c := fun _ => rfl
 have hs18 : (cfC c v).size = 18 := rfl
 generalize cfC c v = C at *
 replace f11 := f11 (by omega)
 replace f16 := f16 (by omega)
 clear hR h hf
 unfold fgC
 generalize timB f.w v.t.n 1 = b1 at *
 generalize timB f.p v.t.n 1 = b2 at *
 generalize timB f.i v.i.n 0 = b3 at *
 generalize timB f.e v.i.n 1 = b4 at *
 go_enter Tryz.func26, Tryz.ntmps26
 cases b1
 ·go_wp2_with (first | (go_at_call 42; first | (refine (k1 _ _).mono ?_; clear k1; rintro e w' ⟨rfl, rfl⟩)))
  go_ret
  exact ⟨ret_bool (by rw [HR.out]; rfl), hb _ _⟩
 ·cases b2
  ·go_wp2_with (first | (go_at_call 42; first | (refine (k1 _ _).mono ?_; clear k1; rintro e w' ⟨rfl, rfl⟩) | (refine (k2 _ _).mono ?_; clear k2; rintro e w' ⟨rfl, rfl⟩)))
   go_ret
   exact ⟨ret_bool (by rw [HR.out]; rfl), hb _ _⟩
  ·cases b3
   ·go_wp2_with (first | (go_at_call 42; first | (refine (k1 _ _).mono ?_; clear k1; rintro e w' ⟨rfl, rfl⟩) | (refine (k2 _ _).mono ?_; clear k2; rintro e w' ⟨rfl, rfl⟩) | (refine (k3 _ _).mono ?_; clear k3; rintro e w' ⟨rfl, rfl⟩)))
    go_ret
    exact ⟨ret_bool (by rw [HR.out]; rfl), hb _ _⟩
   ·go_wp2_with (first | (go_at_call 42; first | (refine (k1 _ _).mono ?_; clear k1; rintro e w' ⟨rfl, rfl⟩) | (refine (k2 _ _).mono ?_; clear k2; rintro e w' ⟨rfl, rfl⟩) | (refine (k3 _ _).mono ?_; clear k3; rintro e w' ⟨rfl, rfl⟩) | (refine (k4 _ _).mono ?_; clear k4; rintro e w' ⟨rfl, rfl⟩)))
    go_ret
    exact ⟨ret_bool (by rw [HR.out]; rfl), hb _ _⟩
end Go.Proofs.YtpbnpmeigdjfdaaGreatDoor
