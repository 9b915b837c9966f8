import Derived.Test.YtglnfifdjlgbcaaGreatDoorXDk
import Derived.Test.YtglnfifdjlgbcaaGreatDoorXVi
import Derived.Test.YtglnfifdjlgbcaaGreatDoorXYk
import Derived.Test.YtglnfifdjlgbcaaGreatDoorXZitl
import Derived.Test.YtglnfifdjlgbcaaGreatDoorXQe
import Derived.Deep.CutBlock
import Derived.Deep.RegionHeldLaw
import Derived.Test.YtglnfifdjlgbcaaGreatDoorXQn
import Derived.Test.YtglnfifdjlgbcaaGreatDoorXQr
import Derived.Test.YtglnfifdjlgbcaaGreatDoorXQj
namespace Go.Proofs.YtglnfifdjlgbcaaGreatDoor
open Go.RowKit Go.Maps Go.Shelf Go.Sort
open Go.Proofs.YtglnfifdjlgbcaaGreatDoor.St (Fx Fz iQ iP iV)
set_option linter.unusedVariables false
set_option linter.unusedSimpArgs false
set_option maxRecDepth 100000
set_option maxHeartbeats 8000000
/-! ### A core in memory -/
section
variable {M : Nat → Prop} {w w' : World}
theorem fzR (h : Re.Fz M w w') : Fz M w w' := ⟨h.os, h.tape, h.output, h.size, h.block⟩
theorem fzT (h : Tk.Fz M w w') : Fz M w w' := ⟨h.os, h.tape, h.output, h.size, h.block⟩
theorem toR (h : Fz M w w') : Re.Fz M w w' := ⟨h.os, h.tape, h.output, h.size, h.block⟩
theorem toT (h : Fz M w w') : Tk.Fz M w w' := ⟨h.os, h.tape, h.output, h.size, h.block⟩
theorem toE (h : Fz M w w') : Ev.Fz M w w' := ⟨h.os, h.tape, h.output, h.size, h.block⟩
theorem fxE {B : Nat} (h : Ev.Fx [B] w w') : Fz (fun x => x = B) w w' := ⟨h.os, h.tape, h.output, h.size, fun i hi hn => h.block i hi (by simpa using hn)⟩
theorem fxS {B g : Nat} (h : Fx [B, g] w w') : Fz (fun x => x = B ∨ x = g) w w' := Fz.of_fx h (by simp)
end
/-- the rows of tasks, laid flat -/
def flC : List TkR → List Value
  | [] => []
  | x :: l => I x.prio :: .bool x.full :: .bool (decide (x.mask ≠ 0)) :: flC l
theorem flC_len : ∀ l : List TkR, (flC l).length = l.length * 3
  | [] => rfl
  | x :: l => by simp [flC, flC_len l]; omega
theorem flC_at : ∀ {l : List TkR} {k : Nat} {x : TkR}, l[k]? = some x → (flC l)[k * 3]? = some (I x.prio) ∧ (flC l)[k * 3 + 1]? = some (.bool x.full) ∧ (flC l)[k * 3 + 2]? = some (.bool (decide (x.mask ≠ 0)))
  | z :: l, 0, x, h => by cases h; exact ⟨rfl, rfl, rfl⟩
  | z :: l, k + 1, x, h => by
    have := flC_at (l := l) (k := k) (x := x) (by simpa using h)
    rw [show (k + 1) * 3 = k * 3 + 1 + 1 + 1 by omega]
    simpa [flC] using this
theorem flC_app : ∀ a b : List TkR, flC (a ++ b) = flC a ++ flC b
  | [], b => rfl
  | x :: a, b => by simp [flC, flC_app a b]
def actR (tb : Tb) : List Tk.Rw := tb.tasks.map (fun x => (x.limit, decide (x.mask ≠ 0)))
def rgV (tb : Tb) : List Value := tb.rings.map (fun x => I x.prio)
abbrev U (i : Int) : Value := .int .u32 i
/-- where it lies -/
structure Pl where
  C : Nat
  B : Nat
  Z : Nat → Prop
  y : Ly
  T : Nat
  tv : Value
  tu : Value
  Q : Nat
  X : Nat → Prop
  E : Nat
  S : Nat
  G : Nat
  d : Nat
  vr : Value
  vg : Value
/-- what it is -/
structure Cs where
  ss : List Tk.Sd
  rq : List Re.Rr
  ef : Nat → Ev.Et
  st : List Int
  hi : Nat
  l : Ls
  lv : Int
  ak : Int
structure Co (W w : World) (zn : Nat → Nat) (tb : Tb) (p : Pl) (s : Cs) : Prop where
  o : w.heap[p.C]? = some (.cells #[lp p.B, p.vr, p.vg, Tk.cP p.T, Re.qP p.Q, Ev.eP p.E, iP p.S, I s.lv, U s.ak] 85)
  r : w.ownsRow W.heap.size 120 3 p.vr tb.tasks.length (flC tb.tasks)
  g : w.ownsRow W.heap.size 3 1 p.vg tb.rings.length (rgV tb)
  l : Lk w tb p.Z p.y p.B s.l
  t : Tk.Tb W w p.T p.tv p.tu (actR tb) s.ss
  q : Re.QR w p.Q p.X s.rq
  e : Ev.Ev w p.E tb.tasks.length s.ef
  k : iQ w p.S p.G p.d s.hi s.st
  zC : zn p.C = 1
  zl : ∀ x, p.y.M p.B x → zn x = 2
  zt : ∀ x, Tk.Cb p.T p.tv p.tu x → zn x = 3
  zq : ∀ x, p.X x → zn x = 4
  ze : zn p.E = 5
  zs : zn p.S = 6 ∧ zn p.G = 6
  zr : ∀ x, p.vr.ownBlock = some x → zn x = 7
  zg : ∀ x, p.vg.ownBlock = some x → zn x = 8
  zz : ∀ x, p.Z x → zn x = 9
  zW : ∀ x, zn x ≠ 0 → W.heap.size ≤ x ∧ x < w.heap.size
section
variable {W w w' : World} {zn : Nat → Nat} {tb : Tb} {p : Pl} {s : Cs}
theorem Co.lo (h : Co W w zn tb p s) : Below W.heap.size W w := h.t.b
/-- all that a call keeps which writes blocks of one kind alone -/
theorem Co.keep (h : Co W w zn tb p s) {M : Nat → Prop} (hf : Fz M w w') {k : Nat} (hM : ∀ x, M x → zn x = k) (hk : k ≠ 0) (s' : Cs)
    (o : k = 1 → w'.heap[p.C]? = some (.cells #[lp p.B, p.vr, p.vg, Tk.cP p.T, Re.qP p.Q, Ev.eP p.E, iP p.S, I s'.lv, U s'.ak] 85)) (o' : k ≠ 1 → s'.lv = s.lv ∧ s'.ak = s.ak)
    (l : k = 2 → Lk w' tb p.Z p.y p.B s'.l) (l' : k ≠ 2 → s'.l = s.l)
    (t : k = 3 → Tk.Tb W w' p.T p.tv p.tu (actR tb) s'.ss) (t' : k ≠ 3 → s'.ss = s.ss)
    (q : k = 4 → Re.QR w' p.Q p.X s'.rq) (q' : k ≠ 4 → s'.rq = s.rq)
    (e : k = 5 → Ev.Ev w' p.E tb.tasks.length s'.ef) (e' : k ≠ 5 → s'.ef = s.ef)
    (n : k = 6 → iQ w' p.S p.G p.d s'.hi s'.st) (n' : k ≠ 6 → s'.hi = s.hi ∧ s'.st = s.st) (h7 : k ≠ 7) (h8 : k ≠ 8) (h9 : k ≠ 9) : Co W w' zn tb p s' where
  o := by
    by_cases c : k = 1
    · exact o c
    · rw [(o' c).1, (o' c).2]; exact hf.heap h.o (fun m => by have := hM _ m; have := h.zC; omega)
  r := hf.own h.r (fun x e m => by have := hM _ m; have := h.zr x e; omega)
  g := hf.own h.g (fun x e m => by have := hM _ m; have := h.zg x e; omega)
  l := by
    by_cases c : k = 2
    · exact l c
    · rw [l' c]; exact h.l.kept hf (fun x e m => by have := hM _ m; have := h.zl x e; omega) (fun x e m => by have := hM _ m; have := h.zz x e; omega)
  t := by
    by_cases c : k = 3
    · exact t c
    · rw [t' c]; exact h.t.keep (toT hf) (fun x e m => by have := hM _ m; have := h.zt x e; omega) (fun x m => (h.zW x (by rw [hM x m]; exact hk)).1)
  q := by
    by_cases c : k = 4
    · exact q c
    · rw [q' c]; exact h.q.kept (toR hf) (fun x e m => by have := hM _ m; have := h.zq x e; omega)
  e := by
    by_cases c : k = 5
    · exact e c
    · rw [e' c]; exact h.e.keptZ (toE hf) (fun m => by have := hM _ m; have := h.ze; omega)
  k := by
    by_cases c : k = 6
    · exact n c
    · rw [(n' c).1, (n' c).2]; exact h.k.keptZ hf (fun m => by have := hM _ m; have := h.zs; omega) (fun m => by have := hM _ m; have := h.zs; omega)
  zC := h.zC
  zl := h.zl
  zt := h.zt
  zq := h.zq
  ze := h.ze
  zs := h.zs
  zr := h.zr
  zg := h.zg
  zz := h.zz
  zW := fun x hx => ⟨(h.zW x hx).1, Nat.lt_of_lt_of_le (h.zW x hx).2 hf.size⟩
/-- the frame of a core's calls -/
abbrev Zn (zn : Nat → Nat) (x : Nat) : Prop := zn x ≠ 0
theorem Co.setQ (h : Co W w zn tb p s) {rq : List Re.Rr} (k : Re.QR w' p.Q p.X rq) (f : Re.Fz p.X w w') : Co W w' zn tb p { s with rq := rq } ∧ Fz (Zn zn) w w' :=
  ⟨h.keep (fzR f) (k := 4) h.zq (by omega) _ (by omega) (fun _ => ⟨rfl, rfl⟩) (by omega) (fun _ => rfl) (by omega) (fun _ => rfl) (fun _ => k) (by omega) (by omega) (fun _ => rfl) (by omega) (fun _ => ⟨rfl, rfl⟩) (by omega) (by omega) (by omega), (fzR f).mono (fun x m => by rw [Zn, h.zq x m]; omega)⟩
theorem Co.setT (h : Co W w zn tb p s) {ss : List Tk.Sd} (k : Tk.Tb W w' p.T p.tv p.tu (actR tb) ss) (f : Tk.Fz (Tk.Cb p.T p.tv p.tu) w w') : Co W w' zn tb p { s with ss := ss } ∧ Fz (Zn zn) w w' :=
  ⟨h.keep (fzT f) (k := 3) h.zt (by omega) _ (by omega) (fun _ => ⟨rfl, rfl⟩) (by omega) (fun _ => rfl) (fun _ => k) (by omega) (by omega) (fun _ => rfl) (by omega) (fun _ => rfl) (by omega) (fun _ => ⟨rfl, rfl⟩) (by omega) (by omega) (by omega), (fzT f).mono (fun x m => by rw [Zn, h.zt x m]; omega)⟩
theorem Co.setE (h : Co W w zn tb p s) {ef : Nat → Ev.Et} (k : Ev.Ev w' p.E tb.tasks.length ef) (f : Ev.Fx [p.E] w w') : Co W w' zn tb p { s with ef := ef } ∧ Fz (Zn zn) w w' :=
  ⟨h.keep (fxE f) (k := 5) (fun x e => by rw [e]; exact h.ze) (by omega) _ (by omega) (fun _ => ⟨rfl, rfl⟩) (by omega) (fun _ => rfl) (by omega) (fun _ => rfl) (by omega) (fun _ => rfl) (fun _ => k) (by omega) (by omega) (fun _ => ⟨rfl, rfl⟩) (by omega) (by omega) (by omega), (fxE f).mono (fun x m => by rw [Zn, m, h.ze]; omega)⟩
theorem Co.setS (h : Co W w zn tb p s) {hi : Nat} {st : List Int} (k : iQ w' p.S p.G p.d hi st) (f : Fx [p.S, p.G] w w') : Co W w' zn tb p { s with hi := hi, st := st } ∧ Fz (Zn zn) w w' :=
  ⟨h.keep (fxS f) (k := 6) (fun x e => by rcases e with e | e <;> rw [e]; exact h.zs.1; exact h.zs.2) (by omega) _ (by omega) (fun _ => ⟨rfl, rfl⟩) (by omega) (fun _ => rfl) (by omega) (fun _ => rfl) (by omega) (fun _ => rfl) (by omega) (fun _ => rfl) (fun _ => k) (by omega) (by omega) (by omega) (by omega), (fxS f).mono (fun x e => by rcases e with e | e <;> rw [Zn, e]; rw [h.zs.1]; omega; rw [h.zs.2]; omega)⟩
theorem Co.setL (h : Co W w zn tb p s) {l : Ls} (k : Lk w' tb p.Z p.y p.B l) (f : Fz (p.y.M p.B) w w') : Co W w' zn tb p { s with l := l } ∧ Fz (Zn zn) w w' :=
  ⟨h.keep f (k := 2) h.zl (by omega) _ (by omega) (fun _ => ⟨rfl, rfl⟩) (fun _ => k) (by omega) (by omega) (fun _ => rfl) (by omega) (fun _ => rfl) (by omega) (fun _ => rfl) (by omega) (fun _ => ⟨rfl, rfl⟩) (by omega) (by omega) (by omega), f.mono (fun x m => by rw [Zn, h.zl x m]; omega)⟩
theorem Co.below (h : Co W w zn tb p s) (hb : Below w.heap.size w w') : Co W w' zn tb p s :=
  h.keep (M := fun _ => False) (Fz.of_below hb) (k := 10) (fun _ e => e.elim) (by omega) _ (by omega) (fun _ => ⟨rfl, rfl⟩) (by omega) (fun _ => rfl) (by omega) (fun _ => rfl) (by omega) (fun _ => rfl) (by omega) (fun _ => rfl) (by omega) (fun _ => ⟨rfl, rfl⟩) (by omega) (by omega) (by omega)
theorem Co.setLv (h : Co W w zn tb p s) (lv : Int) : Co W (w.setCell ⟨p.C, 7, none⟩ (I lv)) zn tb p { s with lv := lv } ∧ Fz (Zn zn) w (w.setCell ⟨p.C, 7, none⟩ (I lv)) := by
  have hf : Fz (fun x => x = p.C) w (w.setCell ⟨p.C, 7, none⟩ (I lv)) := (Fz.refl (fun b => b = p.C) w).set (.inl rfl) _ _
  exact ⟨h.keep hf (k := 1) (fun x e => by rw [e]; exact h.zC) (by omega) _ (fun _ => heap_setCell_same _ p.C 7 _ _ _ h.o) (by omega) (by omega) (fun _ => rfl) (by omega) (fun _ => rfl) (by omega) (fun _ => rfl) (by omega) (fun _ => rfl) (by omega) (fun _ => ⟨rfl, rfl⟩) (by omega) (by omega) (by omega), hf.mono (fun x e => by rw [Zn, e, h.zC]; omega)⟩
theorem Co.setAk (h : Co W w zn tb p s) (ak : Int) : Co W (w.setCell ⟨p.C, 8, none⟩ (U ak)) zn tb p { s with ak := ak } ∧ Fz (Zn zn) w (w.setCell ⟨p.C, 8, none⟩ (U ak)) := by
  have hf : Fz (fun x => x = p.C) w (w.setCell ⟨p.C, 8, none⟩ (U ak)) := (Fz.refl (fun b => b = p.C) w).set (.inl rfl) _ _
  exact ⟨h.keep hf (k := 1) (fun x e => by rw [e]; exact h.zC) (by omega) _ (fun _ => heap_setCell_same _ p.C 8 _ _ _ h.o) (by omega) (by omega) (fun _ => rfl) (by omega) (fun _ => rfl) (by omega) (fun _ => rfl) (by omega) (fun _ => rfl) (by omega) (fun _ => ⟨rfl, rfl⟩) (by omega) (by omega) (by omega), hf.mono (fun x e => by rw [Zn, e, h.zC]; omega)⟩
theorem Co.cells (h : Co W w zn tb p s) : w.cell? ⟨p.C, 0, none⟩ = some (lp p.B) ∧ w.cell? ⟨p.C, 1, none⟩ = some p.vr ∧ w.cell? ⟨p.C, 2, none⟩ = some p.vg ∧ w.cell? ⟨p.C, 3, none⟩ = some (Tk.cP p.T) ∧ w.cell? ⟨p.C, 4, none⟩ = some (Re.qP p.Q) ∧ w.cell? ⟨p.C, 5, none⟩ = some (Ev.eP p.E) ∧ w.cell? ⟨p.C, 6, none⟩ = some (iP p.S) ∧ w.cell? ⟨p.C, 7, none⟩ = some (I s.lv) ∧ w.cell? ⟨p.C, 8, none⟩ = some (U s.ak) := by
  have a1 := fun i => cell_of_row _ _ i _ _ (0, 0) h.o
  exact ⟨a1 0, a1 1, a1 2, a1 3, a1 4, a1 5, a1 6, a1 7, a1 8⟩
theorem Co.frz (h : Co W w zn tb p s) (j : Nat) : w.frozen? ⟨p.C, j, none⟩ = false := frozen_of_row w p.C j _ _ h.o
theorem Co.row (h : Co W w zn tb p s) {k : Nat} {x : TkR} (hx : tb.tasks[k]? = some x) : ∃ g c, p.vr = .slice (some ⟨g, 0, none⟩) tb.tasks.length c ∧ w.cell? ⟨g, k * 3, none⟩ = some (I x.prio) ∧ w.cell? ⟨g, k * 3 + 1, none⟩ = some (.bool x.full) ∧ w.cell? ⟨g, k * 3 + 2, none⟩ = some (.bool (decide (x.mask ≠ 0))) := by
  have hk : k < tb.tasks.length := (List.getElem?_eq_some_iff.1 hx).1
  obtain ⟨-, ⟨-, h0⟩ | ⟨g1, c1, cur, e1, -⟩⟩ := h.r
  · omega
  · obtain ⟨f1, f2, f3⟩ := flC_at hx
    have hr := h.r
    rw [e1] at hr
    have cc := fun j u hu => hr.cells rfl j u hu
    refine ⟨g1, c1, e1, ?_, ?_, ?_⟩
    · have := cc _ _ f1; rwa [St.addr_add, Nat.zero_add] at this
    · have := cc _ _ f2; rwa [St.addr_add, Nat.zero_add] at this
    · have := cc _ _ f3; rwa [St.addr_add, Nat.zero_add] at this
end
end Go.Proofs.YtglnfifdjlgbcaaGreatDoor

namespace Go.Proofs.YtglnfifdjlgbcaaGreatDoor
open Go.RowKit Go.Maps Go.Shelf Go.Sort
open Go.Proofs.YtglnfifdjlgbcaaGreatDoor.St (Fx Fz iQ iP iV)
set_option linter.unusedVariables false
set_option linter.unusedSimpArgs false
set_option maxRecDepth 100000
set_option maxHeartbeats 8000000
/-! ### rings -/
def putR (r : Re.Rr) (t : Int) : Re.Rr := ⟨r.p, r.c, max r.h (r.l.length + 1), r.l ++ [t]⟩
def joinQ (rq : List Re.Rr) (p t : Int) : List Re.Rr := rq.map (fun r => if (r.p : Int) = p ∧ r.l.length < r.c then putR r t else r)
theorem fall_inj {rs : List Re.Rr} (h : Re.Fall rs) {i j : Nat} {a b : Re.Rr} (ha : rs[i]? = some a) (hb : rs[j]? = some b) (e : a.p = b.p) : i = j := by
  rcases Nat.lt_trichotomy i j with c | c | c
  · have := h i j a b c ha hb; omega
  · exact c
  · have := h j i b a c hb ha; omega
theorem joinQ_ok {rs : List Re.Rr} (h : Re.Fall rs) {i : Nat} {r : Re.Rr} (hi : rs[i]? = some r) (hl : r.l.length < r.c) (t : Int) : joinQ rs r.p t = rs.set i (putR r t) := by
  apply List.ext_getElem?
  intro j
  unfold joinQ
  rw [List.getElem?_map]
  by_cases e : i = j
  · subst e
    rw [hi, List.getElem?_set_self (List.getElem?_eq_some_iff.1 hi).1]
    simp [hl]
  · rw [List.getElem?_set_ne e]
    cases hj : rs[j]? with
    | none => rfl
    | some b =>
      have : ¬ ((b.p : Int) = r.p) := fun e2 => e (fall_inj h hi hj (by omega))
      simp [this]
theorem joinQ_full {rs : List Re.Rr} (h : Re.Fall rs) {i : Nat} {r : Re.Rr} (hi : rs[i]? = some r) (hl : ¬ r.l.length < r.c) (t : Int) : joinQ rs r.p t = rs := by
  apply List.ext_getElem?
  intro j
  unfold joinQ
  rw [List.getElem?_map]
  cases hj : rs[j]? with
  | none => rfl
  | some b =>
    by_cases e : (b.p : Int) = r.p
    · have := fall_inj h hi hj (by omega)
      subst this
      rw [hi] at hj
      cases hj
      simp [hl]
    · simp [e]
theorem joinQ_no {rs : List Re.Rr} {p : Int} (h : Re.Noway rs p) (t : Int) : joinQ rs p t = rs := by
  apply List.ext_getElem?
  intro j
  unfold joinQ
  rw [List.getElem?_map]
  cases hj : rs[j]? with
  | none => rfl
  | some b => simp [h j b hj]
def topI (rs : List Re.Rr) : Option Nat := rs.findIdx? (fun r => !r.l.isEmpty)
def topQ (rs : List Re.Rr) : Option Nat := (rs.find? (fun r => !r.l.isEmpty)).map (·.p)
def aboveQ (rs : List Re.Rr) (p : Int) : Bool := match topQ rs with | some q => decide (p < q) | none => false
theorem top_cases (rs : List Re.Rr) : (topQ rs = none ∧ ∀ (i : Nat) (r : Re.Rr), rs[i]? = some r → r.l = []) ∨ ∃ (i : Nat) (r : Re.Rr), topQ rs = some r.p ∧ rs[i]? = some r ∧ r.l ≠ [] ∧ (∀ (j : Nat) (b : Re.Rr), j < i → rs[j]? = some b → b.l = []) := by
  induction rs with
  | nil => exact .inl ⟨rfl, fun i r h => by simp at h⟩
  | cons a rs ih =>
    by_cases h : a.l = []
    · have e : topQ (a :: rs) = topQ rs := by unfold topQ; rw [List.find?_cons_of_neg (by simp [h])]
      rw [e]
      rcases ih with ⟨h1, h2⟩ | ⟨i, r, h1, h2, h3, h4⟩
      · refine .inl ⟨h1, fun i r hi => ?_⟩
        cases i with
        | zero => simp at hi; subst hi; exact h
        | succ i => exact h2 i r (by simpa using hi)
      · refine .inr ⟨i + 1, r, h1, by simpa using h2, h3, fun j b hj hb => ?_⟩
        cases j with
        | zero => simp at hb; subst hb; exact h
        | succ j => exact h4 j b (by omega) (by simpa using hb)
    · refine .inr ⟨0, a, ?_, rfl, h, fun j b hj => by omega⟩
      unfold topQ
      rw [List.find?_cons_of_pos (by simpa using h)]
      rfl
section
variable {W w w' : World} {zn : Nat → Nat} {tb : Tb} {p : Pl} {s : Cs}
theorem cNone (h : Co W w zn tb p s) : Calls Tryz.prog 38 #[lp p.C] w fun e w' => e = .returned (.bool false) ∧ w = w' := by
  obtain ⟨c0, c1, c2, c3, c4, c5, c6, c7, c8⟩ := h.cells
  clear h
  go_enter Tryz.func38, Tryz.ntmps38
  go_wp2
  go_ret
  exact ⟨rfl, rfl⟩
theorem qTail (h : Re.QR w p.Q p.X s.rq) (pr t : Int) : Calls Tryz.prog 117 #[Re.qP p.Q, I pr, I t] w fun e w' => (∃ v, e = .returned v) ∧ Re.QR w' p.Q p.X (joinQ s.rq pr t) ∧ Re.Fz p.X w w' := by
  by_cases hn : Re.Noway s.rq pr
  · refine (Re.rTail_no h hn t).mono (fun e w' k => ?_)
    obtain ⟨e1, rfl⟩ := k
    rw [joinQ_no hn]
    exact ⟨⟨_, e1⟩, h, Re.Fz.refl _ _⟩
  · obtain ⟨i, r, hi, e⟩ : ∃ (i : Nat) (r : Re.Rr), s.rq[i]? = some r ∧ (r.p : Int) = pr := by
      unfold Re.Noway at hn
      apply Classical.byContradiction
      intro hc
      exact hn (fun i r hi e => hc ⟨i, r, hi, e⟩)
    subst e
    by_cases hl : r.l.length < r.c
    · rw [joinQ_ok h.fall hi hl]
      exact (Re.rTail_ok h hi hl t).mono (fun e w' k => ⟨⟨_, k.1⟩, k.2.1, k.2.2⟩)
    · have h6 := h.p64 i r hi
      rw [joinQ_full h.fall hi hl]
      exact (Re.rTail_full h hi (by omega) t).mono (fun e w' k => ⟨⟨_, k.1⟩, k.2.1, k.2.2⟩)
theorem cJoin (h : Co W w zn tb p s) {k : Nat} {x : TkR} (hx : tb.tasks[k]? = some x) : Calls Tryz.prog 41 #[lp p.C, I k] w fun e w' => e = .returned (.tuple #[]) ∧ Co W w' zn tb p { s with rq := joinQ s.rq x.prio k } ∧ Fz (Zn zn) w w' := by
  obtain ⟨c0, c1, c2, c3, c4, c5, c6, c7, c8⟩ := h.cells
  obtain ⟨g, cc, e1, r0, r1, r2⟩ := h.row hx
  rw [e1] at c1
  have hk : (k : Int) < tb.tasks.length := by have := (List.getElem?_eq_some_iff.1 hx).1; omega
  have hT : ∀ W', Below w.heap.size w W' → Calls Tryz.prog 117 #[Re.qP p.Q, I x.prio, I k] W' fun e w' => (∃ v, e = .returned v) ∧ Co W w' zn tb p { s with rq := joinQ s.rq x.prio k } ∧ Fz (Zn zn) w w' := fun W' hb => (qTail (h.below hb).q x.prio k).mono (fun e w' q => by
    obtain ⟨h1, h2⟩ := (h.below hb).setQ q.2.1 q.2.2
    exact ⟨q.1, h1, (Fz.of_below hb).trans h2⟩)
  have HS : Hid (∀ W' s', Co W W' zn tb p s' → W'.cell? ⟨p.C, 4, none⟩ = some (Re.qP p.Q) ∧ W'.cell? ⟨p.C, 1, none⟩ = some (.slice (some ⟨g, 0, none⟩) tb.tasks.length cc) ∧ W'.cell? ⟨g, k * 3, none⟩ = some (I x.prio)) := fun W' s' h' => by
    obtain ⟨-, d1, -, -, d4, -, -, -, -⟩ := h'.cells
    obtain ⟨g', cc', e', r0', -, -⟩ := h'.row hx
    rw [e1] at e' d1
    cases e'
    exact ⟨d4, d1, r0'⟩
  clear h e1 hx
  go_enter Tryz.func41, Tryz.ntmps41
  go_upto_region 0 with fail
  go_region_held_law (fun W' => W'.cell? ⟨p.C, 4, none⟩ = some (Re.qP p.Q) ∧ W'.cell? ⟨p.C, 1, none⟩ = some (.slice (some ⟨g, 0, none⟩) tb.tasks.length cc) ∧ W'.cell? ⟨g, k * 3, none⟩ = some (I x.prio)) (first | exact ⟨c4, c1, r0⟩ | exact d3 | (go_keep; done)) (first
    | (go_at_call 117; refine (hT _ (by first | exact (Below.refl _ _).drew | exact Below.refl _ _ | exact (Below.refl _ _).drew.drew | exact (Below.refl _ _).drew.drew.drew)).mono ?_; rintro e w3 ⟨⟨v3, rfl⟩, k3, f3⟩; have d3 := HS.out _ _ k3))
  exact bodyPost_end (v := .tuple #[]) (by simp [results, Tryz.results41, go_sem]) rfl ⟨rfl, k3, f3⟩
end
end Go.Proofs.YtglnfifdjlgbcaaGreatDoor

namespace Go.Proofs.YtglnfifdjlgbcaaGreatDoor
open Go.RowKit Go.Maps Go.Shelf Go.Sort
open Go.Proofs.YtglnfifdjlgbcaaGreatDoor.St (Fx Fz iQ iP iV)
set_option linter.unusedVariables false
set_option linter.unusedSimpArgs false
set_option maxRecDepth 100000
set_option maxHeartbeats 8000000
theorem res_own1 {fn : Func} {n : Nat} (hf : fn.results = #[.cell n 109]) (tmps : Array Value) (b : Nat) (w : World) (v0 v1 : Value)
    (h2 : tmps[n]? = some (.pointer (some ⟨b, 0, none⟩))) (hk : w.heap[b]? = some (.cells #[v0, v1] 109 (0, 0))) : (results fn tmps).run Tryz.prog w = .ok (.agg #[v0, v1]) w := by
  have a1 := fun i => cell_of_row w b i _ _ (0, 0) hk
  have z0 := a1 0; have z1 := a1 1
  simp at z0 z1
  simp [results, hf, go_sem, h2, z0, z1]
section
variable {W w w' : World} {zn : Nat → Nat} {tb : Tb} {p : Pl} {s : Cs}
theorem cAbove (h : Co W w zn tb p s) (pr : Int) : Calls Tryz.prog 53 #[lp p.C, I pr] w fun e w' => e = .returned (.bool (aboveQ s.rq pr)) ∧ w = w' := by
  obtain ⟨-, -, -, -, c4, -, -, -, -⟩ := h.cells
  unfold aboveQ
  rcases top_cases s.rq with ⟨h1, h2⟩ | ⟨i, r, h1, h2, h3, h4⟩
  · have hH := Re.rHighest_no h.q h2
    rw [h1]
    clear h h1 h2
    go_enter Tryz.func53, Tryz.ntmps53
    go_wp2_with (first | (go_at_call 136; refine hH.mono ?_; clear hH; rintro e w2 ⟨rfl, rfl⟩))
    go_ret
    exact ⟨rfl, rfl⟩
  · have hH := Re.rHighest_ok h.q h2 h3 h4
    rw [h1]
    clear h h1 h2 h3 h4
    go_enter Tryz.func53, Tryz.ntmps53
    go_wp2_with (first | (go_at_call 136; refine hH.mono ?_; clear hH; rintro e w2 ⟨rfl, rfl⟩))
    go_ret
    exact ⟨rfl, rfl⟩
theorem cRunning (h : Co W w zn tb p s) : Calls Tryz.prog 17 #[lp p.C] w fun e w' => e = .returned (I (Tk.runI s.ss)) ∧ Below w.heap.size w w' := by
  obtain ⟨-, -, -, c3, -, -, -, -, -⟩ := h.cells
  have hN := cNone h
  have hR := Tk.tRunning h.t
  clear h
  go_enter Tryz.func17, Tryz.ntmps17
  go_wp2_with (first
    | (go_at_call 38; refine hN.mono ?_; clear hN; rintro e w2 ⟨rfl, rfl⟩)
    | (go_at_call 42; refine hR.mono ?_; clear hR; rintro e w2 ⟨rfl, -, b2⟩))
  go_ret
  exact ⟨rfl, b2⟩
theorem cLeaving (h : Co W w zn tb p s) : Calls Tryz.prog 36 #[lp p.C] w fun e w' => e = .returned (I s.lv) ∧ w = w' := by
  obtain ⟨-, -, -, -, -, -, -, c7, -⟩ := h.cells
  have hN := cNone h
  clear h
  go_enter Tryz.func36, Tryz.ntmps36
  go_wp2_with (first
    | (go_at_call 38; refine hN.mono ?_; clear hN; rintro e w2 ⟨rfl, rfl⟩))
  go_ret
  exact ⟨rfl, rfl⟩
theorem cOwner (w : World) (t : Int) : Calls Tryz.prog 120 #[I t] w fun e w' => e = .returned (.agg #[.bool false, I t]) ∧ Below w.heap.size w w' := by
  have hb := below_alloc w (.cells #[.bool false, I t] 109)
  have HB : Hid (Below w.heap.size w (w.alloc (.cells #[.bool false, I t] 109))) := hb
  clear hb
  go_enter Tryz.func120, Tryz.ntmps120
  go_wp2
  exact bodyPost_ret (res_own1 Tryz.results120 _ w.heap.size _ _ _ rfl (heap_alloc_new w _)) rfl ⟨rfl, HB.out⟩
theorem cPriority (h : Co W w zn tb p s) (o : Own) (ho : o.wf) : Calls Tryz.prog 54 #[lp p.C, .agg #[.bool o.isr, I o.id]] w fun e w' => e = .returned (I (prioO tb s.l o)) ∧ Below w.heap.size w w' := by
  have hb := below_alloc w (.cells #[.bool o.isr, I o.id] 109)
  obtain ⟨y0, y1⟩ := box_own w o
  have h1 := h.below hb
  obtain ⟨c0, -, -, -, -, -, -, -, -⟩ := h1.cells
  have hN := cNone h1
  have hlt : w.heap.size < (w.alloc (.cells #[.bool o.isr, I o.id] 109)).heap.size := by simp
  have HB : Hid (Below w.heap.size w (w.alloc (.cells #[.bool o.isr, I o.id] 109))) := hb
  clear h hb
  go_enter Tryz.func54, Tryz.ntmps54
  go_upto_region 1 with fail
  generalize w.alloc (.cells #[.bool o.isr, I o.id] 109) = w1 at *
  generalize hX : w.heap.size = X at *
  have HX : Hid (w.heap.size = X) := hX
  clear hX
  have hP : ∀ W', Below w1.heap.size w1 W' → Calls Tryz.prog 137 #[lp p.B, .agg #[.bool o.isr, I o.id]] W' fun e w' => e = .returned (I (prioO tb s.l o)) ∧ Below w1.heap.size w1 w' := fun W' hb => (Priority_any (h1.below hb).l o ho).mono (fun e w' k => ⟨k.1, hb.trans (k.2.mono hb.size)⟩)
  have hST : ∀ W', Below w1.heap.size w1 W' → W'.cell? ⟨p.C, 0, none⟩ = some (lp p.B) ∧ W'.cell? ⟨X, 0, none⟩ = some (.bool o.isr) ∧ W'.cell? ⟨X, 1, none⟩ = some (I o.id) := fun W' hb => ⟨(h1.below hb).cells.1, (cell_below hb _ _ hlt).trans y0, (cell_below hb _ _ hlt).trans y1⟩
  clear h1
  go_upto_region 3 with (first | (go_at_call 38; refine hN.mono ?_; clear hN; rintro e w2 ⟨rfl, rfl⟩))
  go_region_held_law (fun W' => W'.cell? ⟨p.C, 0, none⟩ = some (lp p.B) ∧ W'.cell? ⟨X, 0, none⟩ = some (.bool o.isr) ∧ W'.cell? ⟨X, 1, none⟩ = some (I o.id)) (first | exact ⟨c0, y0, y1⟩ | exact d3 | (go_keep; done)) (first
    | (go_at_call 137; refine (hP _ (by first | exact (Below.refl _ _).drew | exact Below.refl _ _ | exact (Below.refl _ _).drew.drew)).mono ?_; rintro e w3 ⟨rfl, b3⟩; have d3 := hST _ b3))
  have HK : Hid (Below X w w3) := HB.out.trans (b3.mono (Nat.le_of_lt hlt))
  clear d3 b3 hP hST c0 y0 y1
  go_wp2
  go_ret
  exact ⟨rfl, by rw [HX.out]; exact HK.out⟩
theorem cHeld (h : Co W w zn tb p s) (o : Own) (ho : o.wf) : Calls Tryz.prog 61 #[lp p.C, .agg #[.bool o.isr, I o.id]] w fun e w' => ∃ u, e = .returned u ∧ w'.ownsRow w.heap.size 3 1 u (hld s.l.L o).length (iV (hld s.l.L o)) ∧ Below w.heap.size w w' := by
  have hb := below_alloc w (.cells #[.bool o.isr, I o.id] 109)
  obtain ⟨y0, y1⟩ := box_own w o
  have h1 := h.below hb
  obtain ⟨c0, -, -, -, -, -, -, -, -⟩ := h1.cells
  have hN := cNone h1
  have hlt : w.heap.size < (w.alloc (.cells #[.bool o.isr, I o.id] 109)).heap.size := by simp
  have HB : Hid (Below w.heap.size w (w.alloc (.cells #[.bool o.isr, I o.id] 109))) := hb
  clear h hb
  go_enter Tryz.func61, Tryz.ntmps61
  go_upto_region 1 with fail
  generalize w.alloc (.cells #[.bool o.isr, I o.id] 109) = w1 at *
  generalize hX : w.heap.size = X at *
  have HX : Hid (w.heap.size = X) := hX
  clear hX
  have hP : ∀ W', Below w1.heap.size w1 W' → Calls Tryz.prog 145 #[lp p.B, .agg #[.bool o.isr, I o.id]] W' fun e w' => ∃ u, e = .returned u ∧ w'.ownsRow X 3 1 u (hld s.l.L o).length (iV (hld s.l.L o)) ∧ Below w1.heap.size w1 w' := fun W' hb => (Held_any (h1.below hb).l o ho).mono (by
    rintro e w' ⟨u, e1, e2, e3⟩
    obtain ⟨hl, h0 | ⟨g, cap, cur, hv, hb1, rr⟩⟩ := e2
    · exact ⟨u, e1, ⟨hl, .inl h0⟩, hb.trans (e3.mono hb.size)⟩
    · exact ⟨u, e1, ⟨hl, .inr ⟨g, cap, cur, hv, by have := hb.size; omega, rr⟩⟩, hb.trans (e3.mono hb.size)⟩)
  have hST : ∀ W', Below w1.heap.size w1 W' → W'.cell? ⟨p.C, 0, none⟩ = some (lp p.B) ∧ W'.cell? ⟨X, 0, none⟩ = some (.bool o.isr) ∧ W'.cell? ⟨X, 1, none⟩ = some (I o.id) := fun W' hb => ⟨(h1.below hb).cells.1, (cell_below hb _ _ hlt).trans y0, (cell_below hb _ _ hlt).trans y1⟩
  clear h1
  go_upto_region 3 with (first | (go_at_call 38; refine hN.mono ?_; clear hN; rintro e w2 ⟨rfl, rfl⟩))
  go_region_held_law (fun W' => W'.cell? ⟨p.C, 0, none⟩ = some (lp p.B) ∧ W'.cell? ⟨X, 0, none⟩ = some (.bool o.isr) ∧ W'.cell? ⟨X, 1, none⟩ = some (I o.id)) (first | exact ⟨c0, y0, y1⟩ | exact d3 | (go_keep; done)) (first
    | (go_at_call 145; refine (hP _ (by first | exact (Below.refl _ _).drew | exact Below.refl _ _ | exact (Below.refl _ _).drew.drew)).mono ?_; rintro e w3 ⟨u3, rfl, o3, b3⟩; have d3 := hST _ b3))
  have HK : Hid (w3.ownsRow X 3 1 u3 (hld s.l.L o).length (iV (hld s.l.L o)) ∧ Below X w w3) := ⟨o3, HB.out.trans (b3.mono (Nat.le_of_lt hlt))⟩
  clear d3 b3 o3 hP hST c0 y0 y1
  go_wp2
  go_ret
  rw [HX.out]
  exact ⟨u3, rfl, HK.out⟩
end
end Go.Proofs.YtglnfifdjlgbcaaGreatDoor

namespace Go.Proofs.YtglnfifdjlgbcaaGreatDoor
open Go.RowKit Go.Maps Go.Shelf Go.Sort
open Go.Proofs.YtglnfifdjlgbcaaGreatDoor.St (Fx Fz iQ iP iV)
set_option linter.unusedVariables false
set_option linter.unusedSimpArgs false
set_option maxRecDepth 100000
set_option maxHeartbeats 8000000
/-- may the running task call? -/
def callA (s : Cs) : Int := if Tk.runI s.ss = -1 ∨ s.lv ≠ 0 then 2 else 0
def callO (s : Cs) : Int := if Tk.runI s.ss = -1 ∨ s.lv ≠ 0 then 0 else Tk.runI s.ss
def heldB (s : Cs) (o : Own) : Bool := decide (0 < (hld s.l.L o).length)
def freA (s : Cs) : Int := if callA s = 0 then (if heldB s ⟨false, callO s⟩ = true then 6 else 0) else callA s
def freO (s : Cs) : Int := if freA s = 0 then callO s else 0
theorem two_own {w : World} {X : Nat} {a b c d : Value} (h : w.heap[X]? = some (.cells #[a, b] 109 (0, 0))) : ((w.setCell ⟨X, 0, none⟩ c).setCell ⟨X, 1, none⟩ d).heap[X]? = some (.cells #[c, d] 109 (0, 0)) :=
  heap_setCell_same _ X 1 _ _ _ (heap_setCell_same _ X 0 _ _ _ h)
theorem two_below {w0 w : World} {X : Nat} {c d : Value} (hb : Below X w0 w) (hX : X ≤ w.heap.size) : Below X w0 ((w.setCell ⟨X, 0, none⟩ c).setCell ⟨X, 1, none⟩ d) := by
  have hf : Fz (fun x => x = X) w ((w.setCell ⟨X, 0, none⟩ c).setCell ⟨X, 1, none⟩ d) := ((Fz.refl (fun b => b = X) w).set (.inl rfl) _ _).set (.inl rfl) _ _
  exact hb.trans (hf.below hX (fun x e => by omega))
section
variable {W w w' : World} {zn : Nat → Nat} {tb : Tb} {p : Pl} {s : Cs}
theorem cCaller (h : Co W w zn tb p s) : Calls Tryz.prog 52 #[lp p.C] w fun e w' => e = .returned (.tuple #[.agg #[.bool false, I (callO s)], I (callA s)]) ∧ Below w.heap.size w w' := by
  have hb := below_alloc w (.cells #[.bool false, I 0] 109)
  have hV := heap_alloc_new w (.cells #[.bool false, I 0] 109)
  have h1 := h.below hb
  obtain ⟨-, -, -, c3, -, -, -, c7, -⟩ := h1.cells
  have hN := cNone h1
  have hR := Tk.tRunning h1.t
  have HH : Hid (∀ W', Below (w.alloc (.cells #[.bool false, I 0] 109)).heap.size (w.alloc (.cells #[.bool false, I 0] 109)) W' → W'.cell? ⟨p.C, 7, none⟩ = some (I s.lv) ∧ W'.heap[w.heap.size]? = some (.cells #[.bool false, I 0] 109) ∧ Below w.heap.size w W') := fun W' hb' => ⟨(h1.below hb').cells.2.2.2.2.2.2.2.1, (hb'.block _ (heap_lt hV)).trans hV, hb.trans (hb'.mono hb.size)⟩
  clear h h1 hb hV c7
  obtain ⟨cO, hcO⟩ : ∃ z, z = callO s := ⟨_, rfl⟩
  obtain ⟨cA, hcA⟩ : ∃ z, z = callA s := ⟨_, rfl⟩
  rw [← hcO, ← hcA]
  unfold callO at hcO
  unfold callA at hcA
  have HC : Hid (cO = (if Tk.runI s.ss = -1 ∨ s.lv ≠ 0 then 0 else Tk.runI s.ss) ∧ cA = (if Tk.runI s.ss = -1 ∨ s.lv ≠ 0 then 2 else 0)) := ⟨hcO, hcA⟩
  clear hcO hcA
  go_enter Tryz.func52, Tryz.ntmps52
  go_upto_region 1 with fail
  generalize w.alloc (.cells #[.bool false, I 0] 109) = w1 at *
  generalize hX : w.heap.size = X at *
  have HX : Hid (w.heap.size = X) := hX
  clear hX
  go_upto_region 4 with (first
    | (go_at_call 38; refine hN.mono ?_; clear hN; rintro e w2 ⟨rfl, rfl⟩)
    | (go_at_call 42; refine hR.mono ?_; clear hR; rintro e w2 ⟨rfl, -, b2⟩))
  obtain ⟨c7, hV, bw⟩ := HH.out _ b2
  have HV : Hid (w2.heap[X]? = some (.cells #[.bool false, I 0] 109) ∧ Below X w w2 ∧ Below w1.heap.size w1 w2) := ⟨hV, bw, b2⟩
  have x0 : w2.cell? ⟨X, 0, none⟩ = some (.bool false) := cell_of_row w2 X 0 _ _ (0, 0) hV
  have x1 : w2.cell? ⟨X, 1, none⟩ = some (I 0) := cell_of_row w2 X 1 _ _ (0, 0) hV
  have fr := fun j => frozen_of_row w2 X j _ _ hV
  generalize hr : Tk.runI s.ss = r at *
  generalize hl : s.lv = lv at *
  clear hV bw b2 c3 hr hl
  by_cases hc : r = -1 ∨ lv ≠ 0
  · obtain ⟨e1, e2⟩ : cO = 0 ∧ cA = 2 := by have h9 := HC.out; rw [if_pos hc, if_pos hc] at h9; exact h9
    subst e1 e2
    have HZ : Hid (((w2.setCell ⟨X, 0, none⟩ (.bool false)).setCell ⟨X, 1, none⟩ (I 0)).heap[X]? = some (.cells #[.bool false, I 0] 109 (0, 0)) ∧ Below X w ((w2.setCell ⟨X, 0, none⟩ (.bool false)).setCell ⟨X, 1, none⟩ (I 0))) := ⟨two_own HV.out.1, two_below HV.out.2.1 (Nat.le_of_lt (heap_lt HV.out.1))⟩
    by_cases hr : r = -1
    · subst hr
      clear hc
      go_wp2
      exact bodyPost_ret (res_own2 Tryz.results52 _ X _ _ _ _ rfl rfl HZ.out.1) rfl ⟨rfl, by rw [HX.out]; exact HZ.out.2⟩
    · have hl : lv ≠ 0 := by rcases hc with e | e; exact absurd e hr; exact e
      have hr2 : (r == -1) = false := beq_eq_false_iff_ne.2 hr
      have hl2 : (lv == 0) = false := beq_eq_false_iff_ne.2 hl
      clear hc
      go_wp2
      exact bodyPost_ret (res_own2 Tryz.results52 _ X _ _ _ _ rfl rfl HZ.out.1) rfl ⟨rfl, by rw [HX.out]; exact HZ.out.2⟩
  · obtain ⟨e1, e2⟩ : cO = r ∧ cA = 0 := by have h9 := HC.out; rw [if_neg hc, if_neg hc] at h9; exact h9
    subst e2
    subst e1
    have hr : ¬ (cO = -1) := fun e => hc (.inl e)
    have hl : lv = 0 := Classical.byContradiction (fun e => hc (.inr e))
    subst hl
    have hr2 : (cO == -1) = false := beq_eq_false_iff_ne.2 hr
    have hO := cOwner w2 cO
    clear hc x0 x1 fr
    go_wp2_with (first | (go_at_call 120; refine hO.mono ?_; clear hO; rintro e w3 ⟨rfl, b3⟩; have hV3 := (b3.block X (heap_lt HV.out.1)).trans HV.out.1; have x0 : w3.cell? ⟨X, 0, none⟩ = some (.bool false) := cell_of_row w3 X 0 _ _ (0, 0) hV3; have x1 : w3.cell? ⟨X, 1, none⟩ = some (I 0) := cell_of_row w3 X 1 _ _ (0, 0) hV3; have fr := (fun j => frozen_of_row w3 X j _ _ hV3); have HZ : Hid (((w3.setCell ⟨X, 0, none⟩ (.bool false)).setCell ⟨X, 1, none⟩ (I cO)).heap[X]? = some (.cells #[.bool false, I cO] 109 (0, 0)) ∧ Below X w ((w3.setCell ⟨X, 0, none⟩ (.bool false)).setCell ⟨X, 1, none⟩ (I cO))) := ⟨two_own hV3, two_below (HV.out.2.1.trans (b3.mono (Nat.le_of_lt (heap_lt HV.out.1)))) (Nat.le_of_lt (heap_lt hV3))⟩; clear hV3 b3))
    exact bodyPost_ret (res_own2 Tryz.results52 _ X _ _ _ _ rfl rfl HZ.out.1) rfl ⟨rfl, by rw [HX.out]; exact HZ.out.2⟩
end
end Go.Proofs.YtglnfifdjlgbcaaGreatDoor

namespace Go.Proofs.YtglnfifdjlgbcaaGreatDoor
open Go.RowKit Go.Maps Go.Shelf Go.Sort
open Go.Proofs.YtglnfifdjlgbcaaGreatDoor.St (Fx Fz iQ iP iV)
set_option linter.unusedVariables false
set_option linter.unusedSimpArgs false
set_option maxRecDepth 100000
set_option maxHeartbeats 8000000
section
variable {W w w' : World} {zn : Nat → Nat} {tb : Tb} {p : Pl} {s : Cs}
theorem Co.nA (h : Co W w zn tb p s) : (actR tb).length = tb.tasks.length := by unfold actR; simp
theorem Co.n256 (h : Co W w zn tb p s) : tb.tasks.length ≤ 256 := h.l.tk.tasks
theorem Co.runs (h : Co W w zn tb p s) (hr : Tk.runI s.ss ≠ -1) : ∃ (k n : Nat) (x : TkR), Tk.runI s.ss = (k : Int) ∧ tb.tasks[k]? = some x ∧ s.ss[k]? = some (0, n) ∧ 1 ≤ n := by
  obtain ⟨k, n, r, h1, h2, h3, h4, h5⟩ := h.t.k.runs hr
  rw [h.nA] at h2
  exact ⟨k, n, _, h1, List.getElem?_eq_getElem h2, h3, h5⟩
theorem wf_small {k : Nat} (h : k ≤ 256) : (Lit.int .i64 (k : Int)).wf = true := WalkArith.wf_i64 (by omega)
theorem Co.wfr (h : Co W w zn tb p s) : (⟨false, callO s⟩ : Own).wf := by
  unfold callO
  split
  · exact wf_small (k := 0) (by omega)
  · rename_i hc
    obtain ⟨k, n, x, h1, h2, -, -⟩ := h.runs (fun e => hc (.inl e))
    rw [h1]
    have := (List.getElem?_eq_some_iff.1 h2).1
    exact wf_small (by have := h.n256; omega)
theorem cHolds (h : Co W w zn tb p s) (o : Own) (ho : o.wf) : Calls Tryz.prog 110 #[lp p.C, .agg #[.bool o.isr, I o.id]] w fun e w' => e = .returned (.bool (heldB s o)) ∧ Below w.heap.size w w' := by
  have hb := below_alloc w (.cells #[.bool o.isr, I o.id] 109)
  obtain ⟨y0, y1⟩ := box_own w o
  have h1 := h.below hb
  have hH := cHeld h1 o ho
  have hm : (hld s.l.L o).length ≤ 65 := by
    unfold hld
    rw [List.length_map]
    exact Nat.le_trans (List.length_filter_le _ _) (takes_le h.l.tk h.l.ok)
  unfold heldB
  generalize (hld s.l.L o) = l at *
  have HB : Hid (∀ w', Below (w.alloc (.cells #[.bool o.isr, I o.id] 109)).heap.size (w.alloc (.cells #[.bool o.isr, I o.id] 109)) w' → Below w.heap.size w w') := fun w' hb' => hb.trans (hb'.mono (by simp))
  clear h hb h1
  go_enter Tryz.func110, Tryz.ntmps110
  go_upto_region 1 with fail
  generalize w.alloc (.cells #[.bool o.isr, I o.id] 109) = w1 at *
  go_wp2_with (first | (go_at_call 61; refine hH.mono ?_; clear hH; rintro e w2 ⟨u, rfl, o2, b2⟩; obtain ⟨a2, c2, rfl⟩ := own_slk19 o2; clear o2))
  go_ret
  exact ⟨by simp, HB.out _ b2⟩
theorem cFree (h : Co W w zn tb p s) : Calls Tryz.prog 46 #[lp p.C] w fun e w' => e = .returned (.tuple #[.agg #[.bool false, I (freO s)], I (freA s)]) ∧ Below w.heap.size w w' := by
  have hb := below_alloc w (.cells #[.bool false, I 0] 109)
  have hV := heap_alloc_new w (.cells #[.bool false, I 0] 109)
  have h1 := h.below hb
  have hC := cCaller h1
  have hwf := h.wfr
  have HH : Hid (∀ W', Below (w.alloc (.cells #[.bool false, I 0] 109)).heap.size (w.alloc (.cells #[.bool false, I 0] 109)) W' → Co W W' zn tb p s ∧ W'.heap[w.heap.size]? = some (.cells #[.bool false, I 0] 109) ∧ Below w.heap.size w W') := fun W' hb' => ⟨h1.below hb', (hb'.block _ (heap_lt hV)).trans hV, hb.trans (hb'.mono hb.size)⟩
  obtain ⟨fO, hfO⟩ : ∃ z, z = freO s := ⟨_, rfl⟩
  obtain ⟨fA, hfA⟩ : ∃ z, z = freA s := ⟨_, rfl⟩
  rw [← hfO, ← hfA]
  unfold freO at hfO
  rw [← hfA] at hfO
  unfold freA at hfA
  have HC : Hid (fO = (if fA = 0 then callO s else 0) ∧ fA = (if callA s = 0 then (if heldB s ⟨false, callO s⟩ = true then 6 else 0) else callA s)) := ⟨hfO, hfA⟩
  clear h h1 hb hV hfO hfA
  go_enter Tryz.func46, Tryz.ntmps46
  go_upto_region 1 with fail
  generalize w.alloc (.cells #[.bool false, I 0] 109) = w1 at *
  generalize hX : w.heap.size = X at *
  have HX : Hid (w.heap.size = X) := hX
  clear hX
  go_upto_region 2 with (first
    | (go_at_call 52; refine hC.mono ?_; clear hC; rintro e w2 ⟨rfl, b2⟩))
  have hb2 := below_alloc w2 (.cells #[.bool false, I (callO s)] 109)
  obtain ⟨y0, y1⟩ := box_own w2 ⟨false, callO s⟩
  have B3 := b2.trans (hb2.mono b2.size)
  have hlt : w2.heap.size < (w2.alloc (.cells #[.bool false, I (callO s)] 109)).heap.size := by simp
  dsimp only at y0 y1
  generalize w2.alloc (.cells #[.bool false, I (callO s)] 109) = w3 at *
  generalize w2.heap.size = Y at *
  obtain ⟨h3, hV, bw⟩ := HH.out _ B3
  have HV : Hid (w3.heap[X]? = some (.cells #[.bool false, I 0] 109) ∧ Below X w w3 ∧ Co W w3 zn tb p s) := ⟨hV, bw, h3⟩
  have HY : Hid (∀ W', Below w3.heap.size w3 W' → W'.heap[X]? = some (.cells #[.bool false, I 0] 109) ∧ Below X w W' ∧ W'.cell? ⟨Y, 0, none⟩ = some (.bool false) ∧ W'.cell? ⟨Y, 1, none⟩ = some (I (callO s))) := fun W' hb' => ⟨(hb'.block X (heap_lt hV)).trans hV, bw.trans (hb'.mono (Nat.le_of_lt (heap_lt hV))), (cell_below hb' _ _ hlt).trans y0, (cell_below hb' _ _ hlt).trans y1⟩
  have hHo := cHolds h3 ⟨false, callO s⟩ hwf
  clear b2 hb2 B3 hlt h3 hV bw HH
  generalize hcA : callA s = cA at *
  generalize heldB s ⟨false, callO s⟩ = hB at *
  generalize callO s = cO at *
  clear hcA
  by_cases h0 : cA = 0
  · subst h0
    cases hB with
    | true =>
      obtain ⟨e1, e2⟩ : fO = 0 ∧ fA = 6 := by have h9 := HC.out; simp at h9; obtain ⟨h8, rfl⟩ := h9; simp at h8; exact ⟨h8, rfl⟩
      subst e1 e2
      go_wp2_with (first | (go_at_call 110; refine hHo.mono ?_; clear hHo; rintro e w4 ⟨rfl, b4⟩; obtain ⟨hV4, bw4, -, -⟩ := HY.out _ b4; have x0 : w4.cell? ⟨X, 0, none⟩ = some (.bool false) := cell_of_row w4 X 0 _ _ (0, 0) hV4; have x1 : w4.cell? ⟨X, 1, none⟩ = some (I 0) := cell_of_row w4 X 1 _ _ (0, 0) hV4; have fr := (fun j => frozen_of_row w4 X j _ _ hV4); have HZ : Hid (((w4.setCell ⟨X, 0, none⟩ (.bool false)).setCell ⟨X, 1, none⟩ (I 0)).heap[X]? = some (.cells #[.bool false, I 0] 109 (0, 0)) ∧ Below X w ((w4.setCell ⟨X, 0, none⟩ (.bool false)).setCell ⟨X, 1, none⟩ (I 0))) := ⟨two_own hV4, two_below bw4 (Nat.le_of_lt (heap_lt hV4))⟩; clear hV4 b4 bw4))
      exact bodyPost_ret (res_own2 Tryz.results46 _ X _ _ _ _ rfl rfl HZ.out.1) rfl ⟨rfl, by rw [HX.out]; exact HZ.out.2⟩
    | false =>
      obtain ⟨e1, e2⟩ : fO = cO ∧ fA = 0 := by have h9 := HC.out; simp at h9; obtain ⟨h8, rfl⟩ := h9; simp at h8; exact ⟨h8, rfl⟩
      subst e1 e2
      go_wp2_with (first | (go_at_call 110; refine hHo.mono ?_; clear hHo y0 y1; rintro e w4 ⟨rfl, b4⟩; obtain ⟨hV4, bw4, y0, y1⟩ := HY.out _ b4; have x0 : w4.cell? ⟨X, 0, none⟩ = some (.bool false) := cell_of_row w4 X 0 _ _ (0, 0) hV4; have x1 : w4.cell? ⟨X, 1, none⟩ = some (I 0) := cell_of_row w4 X 1 _ _ (0, 0) hV4; have fr := (fun j => frozen_of_row w4 X j _ _ hV4); have HZ : Hid (((w4.setCell ⟨X, 0, none⟩ (.bool false)).setCell ⟨X, 1, none⟩ (I fO)).heap[X]? = some (.cells #[.bool false, I fO] 109 (0, 0)) ∧ Below X w ((w4.setCell ⟨X, 0, none⟩ (.bool false)).setCell ⟨X, 1, none⟩ (I fO))) := ⟨two_own hV4, two_below bw4 (Nat.le_of_lt (heap_lt hV4))⟩; clear hV4 b4 bw4))
      exact bodyPost_ret (res_own2 Tryz.results46 _ X _ _ _ _ rfl rfl HZ.out.1) rfl ⟨rfl, by rw [HX.out]; exact HZ.out.2⟩
  · obtain ⟨e1, e2⟩ : fO = 0 ∧ fA = cA := by
      have h9 := HC.out
      rw [if_neg h0] at h9
      obtain ⟨h8, rfl⟩ := h9
      rw [if_neg h0] at h8
      exact ⟨h8, rfl⟩
    subst e1 e2
    have h0b : (fA == 0) = false := beq_eq_false_iff_ne.2 h0
    obtain ⟨hV4, bw4, -⟩ := HV.out
    have x0 : w3.cell? ⟨X, 0, none⟩ = some (.bool false) := cell_of_row w3 X 0 _ _ (0, 0) hV4
    have x1 : w3.cell? ⟨X, 1, none⟩ = some (I 0) := cell_of_row w3 X 1 _ _ (0, 0) hV4
    have fr := fun j => frozen_of_row w3 X j _ _ hV4
    have HZ : Hid (((w3.setCell ⟨X, 0, none⟩ (.bool false)).setCell ⟨X, 1, none⟩ (I 0)).heap[X]? = some (.cells #[.bool false, I 0] 109 (0, 0)) ∧ Below X w ((w3.setCell ⟨X, 0, none⟩ (.bool false)).setCell ⟨X, 1, none⟩ (I 0))) := ⟨two_own hV4, two_below bw4 (Nat.le_of_lt (heap_lt hV4))⟩
    clear hV4 bw4 y0 y1
    go_wp2
    exact bodyPost_ret (res_own2 Tryz.results46 _ X _ _ _ _ rfl rfl HZ.out.1) rfl ⟨rfl, by rw [HX.out]; exact HZ.out.2⟩
end
end Go.Proofs.YtglnfifdjlgbcaaGreatDoor

