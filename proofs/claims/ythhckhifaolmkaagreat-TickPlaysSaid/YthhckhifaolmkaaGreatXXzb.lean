import Derived.Test.YthhckhifaolmkaaGreatXXo
import Derived.Test.YthhckhifaolmkaaGreatXXj
import Derived.Test.YthhckhifaolmkaaGreatXXl
namespace Go.Proofs.YthhckhifaolmkaaGreat
open Go.RowKit Go.Shelf Go.Sort
open Go.Proofs.YthhckhifaolmkaaGreat.Cl (Fx Fz Ck Cb Alm psA dueA dueF U Q cP own_sl own_some own_below own_base inL ret_bool ret_int heap_lt iinfo cell_one_new take_snoc aftN)
set_option linter.unusedVariables false
set_option linter.unusedSimpArgs false

/-! ### New: what stands so far -/
theorem ctinfoN : (Tryz.prog.info? 85).map (fun i => (i.zero, i.size, i.bytes)) = some (some (.agg #[.pointer none, .int .u32 0, .int .u32 0, .int .u32 0, .slice none 0 0]), 5, 48) := by kernel_rfl
theorem isinfo : (Tryz.prog.info? 90).map (fun i => (i.zero, i.size, i.bytes)) = some (some (.agg #[.int .i64 0, .int .i64 0]), 2, 16) := by kernel_rfl
theorem heap_apart {W : World} {g : Nat} {cs : Array Value} {t : TypeId} (h : W.heap[g]? = some (.cells cs t)) {b E k n : Nat} {v : Value} {xs : List Value} (o : W.ownsRow b E k v n xs) (hne : t ≠ E) : v.ownBlock ≠ some g := fun e => by
  rcases o.2 with ⟨rfl, -⟩ | ⟨gg, cap, cur, rfl, -, hh, -⟩
  · cases e
  · have e1 : gg = g := Option.some.inj e
    rw [e1, h] at hh
    cases hh
    exact hne rfl
def ctRm (tb : Tb) (cb : Nat → Nat) (ca : Nat → Sl) (i : Nat) : List Value := [cP (cb i), U (ctK tb i).max, U (ctK tb i).base, U (ctK tb i).min, slT (ca i)]
abbrev nwB (tb : Tb) (vc va vi : Sl) : Obj := .cells #[I tb.modes, slT vc, slT va, slT vi, .int .u8 0, .int .u8 0, .int .u8 0, .int .u8 0] 61
structure Nw (w wr : World) (tb : Tb) (v : Ts) (N lo : Nat) (vc va vi vn : Sl) (ca : Nat → Sl) (zq : Nat → Nat) (cb : Nat → Nat) (cv : Nat → Value) (zk : Nat → Nat) (k j : Nat) : Prop where
  b : Below w.heap.size w wr
  t : wr.heap[w.heap.size]? = some (.cells (tbC tb v) 37)
  o : wr.heap[N]? = some (nwB tb vc va vi)
  N : w.heap.size < N ∧ N < lo ∧ lo ≤ wr.heap.size
  c : wr.ownsRow w.heap.size 85 5 (slT vc) k (flat (ctRm tb cb ca) k)
  a : wr.ownsRow w.heap.size 136 5 (slT va) tb.als.length (flat (alRw tb) tb.als.length)
  m : Nm wr w.heap.size tb.ctrs.length (slT vn) ca zq (idxA tb)
  i : wr.ownsRow w.heap.size 90 2 (slT vi) j (flat (isRw tb) j)
  k : Cks wr tb lo k cb cv zk (fun _ => 0) (fun _ => (0, 0))
  cz : ∀ b, (slT vc).ownBlock = some b → zk b = 0
  iz : ∀ b, (slT vi).ownBlock = some b → zk b = 0
  ql : ∀ b, zq b ≠ 0 → b < lo
  al : ∀ b, (slT va).ownBlock = some b → b < lo
section
variable {w wr w' : World} {tb : Tb} {v : Ts} {N lo : Nat} {vc va vi vn : Sl} {ca : Nat → Sl} {zq : Nat → Nat} {cb : Nat → Nat} {cv : Nat → Value} {zk : Nat → Nat} {k j : Nat}
theorem Nw.below (h : Nw w wr tb v N lo vc va vi vn ca zq cb cv zk k j) (hb : Below wr.heap.size wr w') : Nw w w' tb v N lo vc va vi vn ca zq cb cv zk k j :=
  ⟨h.b.trans (hb.mono h.b.size), (hb.block _ (heap_lt h.t)).trans h.t, (hb.block _ (heap_lt h.o)).trans h.o, ⟨h.N.1, h.N.2.1, Nat.le_trans h.N.2.2 hb.size⟩, own_below h.c hb, own_below h.a hb, h.m.below hb, own_below h.i hb, h.k.below hb, h.cz, h.iz, h.ql, h.al⟩
/-- a counter more: its clock made, its row put behind the others -/
theorem Nw.putC (h : Nw w wr tb v N lo vc va vi vn ca zq cb cv zk k j) {W W2 : World} {B2 : Nat} {v2 : Value} {x : Sl} (hb : Below wr.heap.size wr W) (hk : Ck W B2 v2 (ctK tb k).max (ctK tb k).min 0 (alC tb (fun _ => (0, 0)) k)) (hn : ∀ b, Cb B2 v2 b → wr.heap.size ≤ b)
    {W1 : World} (hb1 : Below W.heap.size W W1) (hg : W1.grownBy W2 (slT vc).ownBlock) (ho : W2.ownsRow w.heap.size 85 5 (slT x) (k + 1) (flat (ctRm tb cb ca) k ++ ctRm tb (upN cb k B2) ca k)) (hx : (slT x).ownBlock = (slT vc).ownBlock ∨ (slT x).ownBlock = some W1.heap.size) :
    W2.heap[N]? = some (nwB tb vc va vi) ∧ Nw w (W2.setCell ⟨N, 1, none⟩ (slT x)) tb v N lo x va vi vn ca zq (upN cb k B2) (upN cv k v2) (fun b => if wr.heap.size ≤ b ∧ b < W.heap.size then 10 + k else zk b) (k + 1) j := by
  have hW := h.below hb
  have K1 := (h.k.next hb h.N.2.2 hk hn).below hb1
  have h1 := hW.below hb1
  have hf : Fz (fun y => (slT vc).ownBlock = some y) W1 W2 := ⟨hg.os, hg.tape, hg.output, hg.size, fun b hb hne => hg.block b hb (fun e => hne e.symm)⟩
  have hvlt : ∀ y, (slT vc).ownBlock = some y → w.heap.size ≤ y ∧ y < wr.heap.size := fun y e => h.c.lt y e
  have hzw : ∀ b, (slT vc).ownBlock = some b → (fun b => if wr.heap.size ≤ b ∧ b < W.heap.size then 10 + k else zk b) b = 0 := fun b e => by
    have := (hvlt b e).2
    show (if _ then _ else _) = _
    rw [if_neg (by omega)]
    exact h.cz b e
  have o2 := hf.heap h1.o (heap_apart h1.o h1.c (by decide))
  have t2 := hf.heap h1.t (heap_apart h1.t h1.c (by decide))
  have fs : Fz (fun b => b = N) W2 (W2.setCell ⟨N, 1, none⟩ (slT x)) := (Fz.refl (fun b => b = N) W2).set (.inl rfl) _ _
  have hsz : W1.heap.size ≤ W2.heap.size := hg.size
  have hs1 : wr.heap.size ≤ W.heap.size := hb.size
  have hs2 : W.heap.size ≤ W1.heap.size := hb1.size
  have own2 : ∀ {E q n : Nat} {u : Value} {xs : List Value}, W1.ownsRow w.heap.size E q u n xs → E ≠ 85 → E ≠ 61 → (W2.setCell ⟨N, 1, none⟩ (slT x)).ownsRow w.heap.size E q u n xs := fun {E q n u xs} hu h1' h2' => by
    have hu2 := hf.own hu (fun g e => own_apart hu h1.c h1' e)
    exact fs.own hu2 (fun g e e2 => heap_apart o2 hu2 (fun e => h2' e.symm) (by rw [e, e2]))
  refine ⟨o2, ⟨below_set (h1.b.trans (hf.below h1.b.size (fun y e => (hvlt y e).1))) (by have := h.N; omega), fs.heap t2 (by have := h.N; omega), heap_setCell_same W2 N 1 _ _ (slT x) o2, ⟨h.N.1, h.N.2.1, by have := h.N; simp; omega⟩, ?_, own2 h1.a (by decide) (by decide), ?_, own2 h1.i (by decide) (by decide), ?_, ?_, ?_, h.ql, h.al⟩⟩
  · have e1 : flat (ctRm tb (upN cb k B2) ca) (k + 1) = flat (ctRm tb cb ca) k ++ ctRm tb (upN cb k B2) ca k := by
      rw [flat_succ]
      congr 1
      exact flat_congr (fun i hi => by unfold ctRm; rw [upN_ne _ _ (by omega)])
    rw [e1]
    exact fs.own ho (fun g e e2 => heap_apart o2 ho (by decide) (by rw [e, e2]))
  · exact ⟨own2 h1.m.n (by decide) (by decide), fun i hi => own2 (h1.m.r i hi) (by decide) (by decide), h1.m.z, fun b e => by have := h1.m.s b e; simp; omega⟩
  · refine (K1.keep hf (fun b hz e => hz (hzw b e))).keep fs (fun b hz e => ?_)
    have := (K1.s b hz).1
    have := h.N
    omega
  · intro b e
    rcases hx with hx | hx
    · rw [hx] at e; exact hzw b e
    · rw [hx] at e
      have e1 : W1.heap.size = b := Option.some.inj e
      show (if _ then _ else _) = _
      rw [if_neg (by omega)]
      by_cases hz : zk b = 0
      · exact hz
      · have := (h.k.s b hz).2.1
        omega
  · intro b e
    have := (h.i.lt b e).2
    show (if _ then _ else _) = _
    rw [if_neg (by omega)]
    exact h.iz b e
/-- an ISR more -/
theorem Nw.putI (h : Nw w wr tb v N lo vc va vi vn ca zq cb cv zk k j) {W1 W2 : World} {x : Sl} (hb1 : Below wr.heap.size wr W1) (hg : W1.grownBy W2 (slT vi).ownBlock) (ho : W2.ownsRow w.heap.size 90 2 (slT x) (j + 1) (flat (isRw tb) j ++ isRw tb j)) (hx : (slT x).ownBlock = (slT vi).ownBlock ∨ (slT x).ownBlock = some W1.heap.size) :
    W2.heap[N]? = some (nwB tb vc va vi) ∧ Nw w (W2.setCell ⟨N, 3, none⟩ (slT x)) tb v N lo vc va x vn ca zq cb cv zk k (j + 1) := by
  have h1 := h.below hb1
  have hf : Fz (fun y => (slT vi).ownBlock = some y) W1 W2 := ⟨hg.os, hg.tape, hg.output, hg.size, fun b hb hne => hg.block b hb (fun e => hne e.symm)⟩
  have hvlt : ∀ y, (slT vi).ownBlock = some y → w.heap.size ≤ y ∧ y < wr.heap.size := fun y e => h.i.lt y e
  have o2 := hf.heap h1.o (heap_apart h1.o h1.i (by decide))
  have t2 := hf.heap h1.t (heap_apart h1.t h1.i (by decide))
  have fs : Fz (fun b => b = N) W2 (W2.setCell ⟨N, 3, none⟩ (slT x)) := (Fz.refl (fun b => b = N) W2).set (.inl rfl) _ _
  have hsz : W1.heap.size ≤ W2.heap.size := hg.size
  have hs1 : wr.heap.size ≤ W1.heap.size := hb1.size
  have own2 : ∀ {E q n : Nat} {u : Value} {xs : List Value}, W1.ownsRow w.heap.size E q u n xs → E ≠ 90 → E ≠ 61 → (W2.setCell ⟨N, 3, none⟩ (slT x)).ownsRow w.heap.size E q u n xs := fun {E q n u xs} hu h1' h2' => by
    have hu2 := hf.own hu (fun g e => own_apart hu h1.i h1' e)
    exact fs.own hu2 (fun g e e2 => heap_apart o2 hu2 (fun e => h2' e.symm) (by rw [e, e2]))
  refine ⟨o2, ⟨below_set (h1.b.trans (hf.below h1.b.size (fun y e => (hvlt y e).1))) (by have := h.N; omega), fs.heap t2 (by have := h.N; omega), heap_setCell_same W2 N 3 _ _ (slT x) o2, ⟨h.N.1, h.N.2.1, by have := h.N; simp; omega⟩, own2 h1.c (by decide) (by decide), own2 h1.a (by decide) (by decide), ?_, ?_, ?_, h.cz, ?_, h.ql, h.al⟩⟩
  · exact ⟨own2 h1.m.n (by decide) (by decide), fun i hi => own2 (h1.m.r i hi) (by decide) (by decide), h1.m.z, fun b e => by have := h1.m.s b e; simp; omega⟩
  · rw [flat_succ]
    exact fs.own ho (fun g e e2 => heap_apart o2 ho (by decide) (by rw [e, e2]))
  · refine (h1.k.keep hf (fun b hz e => hz (h.iz b e))).keep fs (fun b hz e => ?_)
    have := (h.k.s b hz).1
    have := h.N
    omega
  · intro b e
    rcases hx with hx | hx
    · rw [hx] at e; exact h.iz b e
    · rw [hx] at e
      have e1 : W1.heap.size = b := Option.some.inj e
      by_cases hz : zk b = 0
      · exact hz
      · have := (h.k.s b hz).2.1
        omega
/-- the blocks of a new board -/
def nwZ (N : Nat) (vc va vi : Sl) (zq zk : Nat → Nat) (b : Nat) : Nat := if b = N then 1 else if (slT vc).ownBlock = some b then 2 else if (slT va).ownBlock = some b then 3 else if (slT vi).ownBlock = some b then 4 else if zk b ≠ 0 then zk b else if zq b ≠ 0 then 5 else 0
def newT : Bs := ⟨fun _ => 0, fun _ => (0, 0), fun _ => 0⟩
theorem Nw.bo (h : Nw w wr tb v N lo vc va vi vn ca zq cb cv zk tb.ctrs.length tb.isrs.length) (ok : OKb tb) (hq : ∀ b, zq b ≠ 0 → w.heap.size ≤ b) :
    Bo wr (nwZ N vc va vi zq zk) tb N ⟨vc, va, vi, cb, cv, ca⟩ newT ∧ ∀ b, nwZ N vc va vi zq zk b ≠ 0 → w.heap.size ≤ b := by
  have hN := heap_lt h.o
  have nN : ∀ {E q n : Nat} {u : Value} {xs : List Value}, wr.ownsRow w.heap.size E q u n xs → E ≠ 61 → ∀ b, u.ownBlock = some b → b ≠ N := fun hu hE b e e2 => heap_apart h.o hu (fun e => hE e.symm) (by rw [e, e2])
  have nz : ∀ b, nwZ N vc va vi zq zk b ≠ 0 → w.heap.size ≤ b ∧ b < wr.heap.size := fun b hb => by
    unfold nwZ at hb
    split at hb
    · have := h.N; omega
    · split at hb
      · rename_i e; exact h.c.lt b e
      · split at hb
        · rename_i e; exact h.a.lt b e
        · split at hb
          · rename_i e; exact h.i.lt b e
          · split at hb
            · rename_i e; have := h.k.s b e; have := h.N; omega
            · split at hb
              · rename_i e; exact ⟨hq b e, h.m.s b e⟩
              · exact absurd rfl hb
  refine ⟨⟨h.o, own_base h.c (Nat.zero_le _), own_base h.a (Nat.zero_le _), own_base h.i (Nat.zero_le _), h.k.c, fun i hi => own_base (h.m.r i hi) (Nat.zero_le _), ?_, ?_, ?_, ?_, ?_, ?_, fun b hb => (nz b hb).2, ok, fun _ => by show 0 < 256; omega, fun _ _ _ => rfl⟩, fun b hb => (nz b hb).1⟩
  · unfold nwZ; rw [if_pos rfl]
  · intro b e
    unfold nwZ
    rw [if_neg (nN h.c (by decide) b e), if_pos e]
  · intro b e
    unfold nwZ
    rw [if_neg (nN h.a (by decide) b e), if_neg (own_apart h.a h.c (by decide) e), if_pos e]
  · intro b e
    unfold nwZ
    rw [if_neg (nN h.i (by decide) b e), if_neg (own_apart h.i h.c (by decide) e), if_neg (own_apart h.i h.a (by decide) e), if_pos e]
  · intro i hi b hb
    have hz := h.k.z i hi b hb
    have hs := h.k.s b (by omega)
    unfold nwZ
    rw [if_neg (by have := h.N; omega), if_neg (fun e => by have := h.cz b e; omega), if_neg (fun e => by have := h.al b e; omega), if_neg (fun e => by have := h.iz b e; omega), if_pos (by omega)]
    exact hz
  · intro i hi b e
    have hr := h.m.r i hi
    have hz := h.m.z i hi b e
    unfold nwZ
    rw [if_neg (nN hr (by decide) b e), if_neg (own_apart hr h.c (by decide) e), if_neg (own_apart hr h.a (by decide) e), if_neg (own_apart hr h.i (by decide) e), if_neg (fun e2 => by have := h.k.s b e2; have := h.ql b (by omega); omega), if_pos (by omega)]
end
end Go.Proofs.YthhckhifaolmkaaGreat

namespace Go.Proofs.YthhckhifaolmkaaGreat
open Go.RowKit Go.Shelf Go.Sort
open Go.Proofs.YthhckhifaolmkaaGreat.Cl (Fx Fz Ck Cb Alm psA dueA dueF U Q cP own_sl own_some own_below own_base inL ret_bool ret_int heap_lt iinfo cell_one_new take_snoc aftN)
set_option linter.unusedVariables false
set_option linter.unusedSimpArgs false

/-! ### The document's board -/
def rqF (s : Bs) (i : Nat) : List Value := [.bool (hasQ s.q i)]
theorem flat_set1 {f g : Nat → List Value} (hf : ∀ i, (f i).length = 1) (hg : ∀ i, (g i).length = 1) {n j : Nat} (hj : j < n) (h : ∀ i, i ≠ j → g i = f i) {a : Value} (ha : g j = [a]) : (flat f n).set j a = flat g n := by
  apply List.ext_getElem?
  intro t
  by_cases ht : t < n
  · have e1 := flat_at hf (n := n) (i := t) (j := 0) ht (by omega)
    have e2 := flat_at hg (n := n) (i := t) (j := 0) ht (by omega)
    rw [Nat.mul_one, Nat.add_zero] at e1 e2
    rw [List.getElem?_set, e2]
    by_cases e : j = t
    · subst e
      rw [if_pos rfl, if_pos (by rw [flat_len hf]; omega), ha]; rfl
    · rw [if_neg e, e1, h t (fun h => e h.symm)]
  · rw [List.getElem?_eq_none (by rw [List.length_set, flat_len hf]; omega), List.getElem?_eq_none (by rw [flat_len hg]; omega)]
theorem flat_set3 {f g : Nat → List Value} (hf : ∀ i, (f i).length = 3) (hg : ∀ i, (g i).length = 3) {n j : Nat} (hj : j < n) (h : ∀ i, i ≠ j → g i = f i) {a b c : Value} (ha : g j = [a, b, c]) : (((flat f n).set (j * 3) a).set (j * 3 + 1) b).set (j * 3 + 2) c = flat g n := by
  have hl : (flat f n).length = n * 3 := flat_len hf n
  apply List.ext_getElem?
  intro t
  by_cases ht : t < n * 3
  · have h1 : t / 3 < n := by omega
    have h2 : t % 3 < 3 := by omega
    have et : t = t / 3 * 3 + t % 3 := by omega
    have e2 := flat_at hg (n := n) (i := t / 3) (j := t % 3) h1 h2
    rw [← et] at e2
    rw [e2]
    by_cases e : t / 3 = j
    · rw [e, ha]
      rcases (by omega : t % 3 = 0 ∨ t % 3 = 1 ∨ t % 3 = 2) with e3 | e3 | e3
      · rw [e3, show t = j * 3 by omega, List.getElem?_set_ne (by omega), List.getElem?_set_ne (by omega), List.getElem?_set_self (by omega)]; rfl
      · rw [e3, show t = j * 3 + 1 by omega, List.getElem?_set_ne (by omega), List.getElem?_set_self (by simp; omega)]; rfl
      · rw [e3, show t = j * 3 + 2 by omega, List.getElem?_set_self (by simp; omega)]; rfl
    · rw [List.getElem?_set_ne (by omega), List.getElem?_set_ne (by omega), List.getElem?_set_ne (by omega), h _ e]
      have e1 := flat_at hf (n := n) (i := t / 3) (j := t % 3) h1 h2
      rw [← et] at e1
      exact e1
  · rw [List.getElem?_eq_none (by simp; omega), List.getElem?_eq_none (by rw [flat_len hg]; omega)]
def dbC (tb : Tb) (v : Ts) (vv va vr : Sl) : Array Value := #[I tb.uses, I tb.modes, .slice v.t.a v.t.n v.t.c, .slice v.g.a v.g.n v.g.c, .slice v.r.a v.r.n v.r.c, .slice v.k.a v.k.n v.k.c, .slice v.a.a v.a.n v.a.c, .slice v.i.a v.i.n v.i.c, .slice v.s.a v.s.n v.s.c, I tb.depth, I tb.frames, I tb.errors, I tb.calls, slT vv, slT va, slT vr]
/-- what always holds of what a board has -/
structure OKd (tb : Tb) (s : Bs) : Prop where
  ok : OKb tb
  v : ∀ i, i < tb.ctrs.length → s.v i ≤ (ctK tb i).max
  a : ∀ j, j < tb.als.length → (s.a j).1 ≤ (ctK tb (ctrN tb j)).max + 1 ∧ (s.a j).2 ≤ (ctK tb (ctrN tb j)).max
  l : ∀ j, j < tb.als.length → (s.a j).1 = 0 → (s.a j).2 = 0
structure Dd (W0 w : World) (tb : Tb) (v : Ts) (P : Nat) (vv va vr : Sl) (s : Bs) : Prop where
  o : w.heap[P]? = some (.cells (dbC tb v vv va vr) 116)
  t0 : TbAt W0 tb v
  b : Below W0.heap.size W0 w
  p : W0.heap.size ≤ P
  v : w.ownsRow W0.heap.size 22 1 (slT vv) tb.ctrs.length (flat (valF s) tb.ctrs.length)
  a : w.ownsRow W0.heap.size 130 3 (slT va) tb.als.length (flat (lkF s) tb.als.length)
  r : w.ownsRow W0.heap.size 4 1 (slT vr) tb.isrs.length (flat (rqF s) tb.isrs.length)
  d : OKd tb s
def Dm (P : Nat) (vv va vr : Sl) (b : Nat) : Prop := b = P ∨ (slT vv).ownBlock = some b ∨ (slT va).ownBlock = some b ∨ (slT vr).ownBlock = some b
section
variable {W0 w w' : World} {tb : Tb} {v : Ts} {P : Nat} {vv va vr : Sl} {s : Bs}
theorem Dd.below (h : Dd W0 w tb v P vv va vr s) (hb : Below w.heap.size w w') : Dd W0 w' tb v P vv va vr s :=
  ⟨(hb.block _ (heap_lt h.o)).trans h.o, h.t0, h.b.trans (hb.mono h.b.size), h.p, own_below h.v hb, own_below h.a hb, own_below h.r hb, h.d⟩
theorem Dd.keep (h : Dd W0 w tb v P vv va vr s) {M : Nat → Prop} (hf : Fz M w w') (hM : ∀ b, Dm P vv va vr b → ¬ M b) (hlo : ∀ b, M b → W0.heap.size ≤ b) : Dd W0 w' tb v P vv va vr s :=
  ⟨hf.heap h.o (hM _ (.inl rfl)), h.t0, h.b.trans (hf.below h.b.size hlo), h.p, hf.own h.v (fun g e => hM g (.inr (.inl e))), hf.own h.a (fun g e => hM g (.inr (.inr (.inl e)))), hf.own h.r (fun g e => hM g (.inr (.inr (.inr e)))), h.d⟩
theorem Dd.cells (h : Dd W0 w tb v P vv va vr s) : w.cell? ⟨P, 1, none⟩ = some (I tb.modes) ∧ w.cell? ⟨P, 5, none⟩ = some (.slice v.k.a v.k.n v.k.c) ∧ w.cell? ⟨P, 6, none⟩ = some (.slice v.a.a v.a.n v.a.c) ∧ w.cell? ⟨P, 7, none⟩ = some (.slice v.i.a v.i.n v.i.c) ∧ w.cell? ⟨P, 13, none⟩ = some (slT vv) ∧ w.cell? ⟨P, 14, none⟩ = some (slT va) ∧ w.cell? ⟨P, 15, none⟩ = some (slT vr) := by
  refine ⟨?_, ?_, ?_, ?_, ?_, ?_, ?_⟩ <;> (rw [cell_of_row w P _ _ _ (0, 0) h.o]; rfl)
theorem Dd.al (h : Dd W0 w tb v P vv va vr s) {j : Nat} (hj : j < tb.als.length) : ∃ g c, slT va = .slice (some ⟨g, 0, none⟩) tb.als.length c ∧ w.cell? ⟨g, j * 3, none⟩ = some (.bool (decide ((s.a j).1 ≠ 0))) ∧ w.cell? ⟨g, j * 3 + 1, none⟩ = some (U (s.a j).1) ∧ w.cell? ⟨g, j * 3 + 2, none⟩ = some (U (s.a j).2) := by
  obtain ⟨g, c, e⟩ := own_some h.a (by omega)
  have hc := h.a
  rw [e] at hc
  refine ⟨g, c, e, ?_, ?_, ?_⟩
  · rw [hc.cellAt _ (by omega)]; exact flat_at (fun _ => rfl) (k := 3) (j := 0) hj (by omega)
  · rw [hc.cellAt _ (by omega)]; exact flat_at (fun _ => rfl) (k := 3) (j := 1) hj (by omega)
  · rw [hc.cellAt _ (by omega)]; exact flat_at (fun _ => rfl) (k := 3) (j := 2) hj (by omega)
theorem Dd.rq (h : Dd W0 w tb v P vv va vr s) {j : Nat} (hj : j < tb.isrs.length) : ∃ g c, slT vr = .slice (some ⟨g, 0, none⟩) tb.isrs.length c ∧ w.cell? ⟨g, j, none⟩ = some (.bool (hasQ s.q j)) ∧ w.frozen? ⟨g, j, none⟩ = false := by
  obtain ⟨g, c, e⟩ := own_some h.r (by omega)
  have hc := h.r
  rw [e] at hc
  refine ⟨g, c, e, ?_, hc.frozenAt j⟩
  have := flat_at (f := rqF s) (fun _ => rfl) (k := 1) (n := tb.isrs.length) (j := 0) hj (by omega)
  rw [Nat.mul_one, Nat.add_zero] at this
  rw [hc.cellAt _ (by omega)]
  exact this
/-- one alarm is set anew -/
theorem Dd.putA {g c j : Nat} (h : Dd W0 w tb v P vv va vr s) (hj : j < tb.als.length) (e : slT va = .slice (some ⟨g, 0, none⟩) tb.als.length c) {y : Alm} (hy : y.1 ≤ (ctK tb (ctrN tb j)).max + 1 ∧ y.2 ≤ (ctK tb (ctrN tb j)).max) (hl : y.1 = 0 → y.2 = 0) :
    Dd W0 (((w.setCell ⟨g, j * 3, none⟩ (.bool (decide (y.1 ≠ 0)))).setCell ⟨g, j * 3 + 1, none⟩ (U y.1)).setCell ⟨g, j * 3 + 2, none⟩ (U y.2)) tb v P vv va vr ⟨s.v, upN s.a j y, s.q⟩ ∧ Fz (Dm P vv va vr) w (((w.setCell ⟨g, j * 3, none⟩ (.bool (decide (y.1 ≠ 0)))).setCell ⟨g, j * 3 + 1, none⟩ (U y.1)).setCell ⟨g, j * 3 + 2, none⟩ (U y.2)) := by
  have ha := h.a
  rw [e] at ha
  obtain ⟨-, -, -, -, -, -, o4⟩ := put3 ha hj (.bool (decide (y.1 ≠ 0))) (U y.1) (U y.2)
  have ef := flat_set3 (f := lkF s) (g := lkF ⟨s.v, upN s.a j y, s.q⟩) (fun _ => rfl) (fun _ => rfl) hj (fun i hi => by unfold lkF; simp only [upN_ne _ _ hi]) (a := .bool (decide (y.1 ≠ 0))) (b := U y.1) (c := U y.2) (by unfold lkF; simp only [upN_same])
  rw [ef] at o4
  have hf : Fz (fun b => b = g) w (((w.setCell ⟨g, j * 3, none⟩ (.bool (decide (y.1 ≠ 0)))).setCell ⟨g, j * 3 + 1, none⟩ (U y.1)).setCell ⟨g, j * 3 + 2, none⟩ (U y.2)) := (((Fz.refl (fun b => b = g) w).set (.inl rfl) _ _).set (.inl rfl) _ _).set (.inl rfl) _ _
  have hg : (slT va).ownBlock = some g := by rw [e]; rfl
  have hg0 := (h.a.lt g hg).1
  refine ⟨⟨hf.heap h.o (fun e2 => heap_apart h.o h.a (by decide) (by rw [hg, ← e2])), h.t0, h.b.trans (hf.below h.b.size (by rintro b rfl; exact hg0)), h.p, hf.own h.v (fun x e1 e2 => own_apart h.v h.a (by decide) e1 (by rw [hg, e2])), by rw [e]; exact o4, hf.own h.r (fun x e1 e2 => own_apart h.r h.a (by decide) e1 (by rw [hg, e2])), ⟨h.d.ok, h.d.v, fun i hi => ?_, fun i hi => ?_⟩⟩, hf.mono (by rintro b rfl; exact .inr (.inr (.inl hg)))⟩
  · show (upN s.a j y i).1 ≤ _ ∧ (upN s.a j y i).2 ≤ _
    by_cases e2 : i = j
    · subst e2; rw [upN_same]; exact hy
    · rw [upN_ne _ _ e2]; exact h.d.a i hi
  · show (upN s.a j y i).1 = 0 → (upN s.a j y i).2 = 0
    by_cases e2 : i = j
    · subst e2; rw [upN_same]; exact hl
    · rw [upN_ne _ _ e2]; exact h.d.l i hi
def thB (n : Nat) (t : Int) : Bool := decide (0 ≤ t) && decide (t < (n : Int))
theorem thB_out {tb : Tb} {t : Int} (h : outA tb t) : thB tb.als.length t = false := by unfold outA at h; unfold thB; simp; omega
theorem thB_in {tb : Tb} {t : Int} (h : ¬ outA tb t) : thB tb.als.length t = true := by unfold outA at h; unfold thB; simp; omega
theorem dthere (h : Dd W0 w tb v P vv va vr s) (t : Int) : Calls Tryz.prog 84 #[bP P, I t] w fun e w' => e = .returned (.bool (thB tb.als.length t)) ∧ w = w' := by
  obtain ⟨-, -, -, -, -, c14, -⟩ := h.cells
  obtain ⟨a, cc, hv⟩ := own_sl h.a
  rw [hv] at c14
  clear h hv
  unfold thB
  generalize tb.als.length = n at *
  by_cases h0 : 0 ≤ t
  · by_cases h1 : t < n
    · rw [show (decide (0 ≤ t) && decide (t < (n : Int))) = true by simp [h0, h1]]
      go_enter Tryz.func84, Tryz.ntmps84
      go_wp2
      go_ret
      exact ⟨ret_bool (by simp [h0, h1]), rfl⟩
    · rw [show (decide (0 ≤ t) && decide (t < (n : Int))) = false by simp [h1]]
      go_enter Tryz.func84, Tryz.ntmps84
      go_wp2
      go_ret
      exact ⟨ret_bool (by simp [h0, h1]), rfl⟩
  · rw [show (decide (0 ≤ t) && decide (t < (n : Int))) = false by simp [h0]]
    go_enter Tryz.func84, Tryz.ntmps84
    go_wp2
    go_ret
    exact ⟨ret_bool (by simp [h0]), rfl⟩
theorem dLeft (h : Dd W0 w tb v P vv va vr s) (t : Int) : Calls Tryz.prog 48 #[bP P, I t] w fun e w' => e = .returned (.tuple #[U (lftB tb s t), I (getB tb s t)]) ∧ w = w' := by
  have hT := dthere h t
  obtain ⟨-, -, -, -, -, c14, -⟩ := h.cells
  unfold lftB getB
  by_cases ho : outA tb t
  · rw [thB_out ho] at hT
    simp only [if_pos ho]
    clear ho h
    go_enter Tryz.func48, Tryz.ntmps48
    go_wp2_with (first | (go_at_call 84; refine hT.mono ?_; rintro e w1 ⟨rfl, rfl⟩))
    go_ret2
    exact ⟨rfl, rfl⟩
  · rw [thB_in ho] at hT
    simp only [if_neg ho]
    obtain ⟨j, rfl, hj⟩ := not_out ho
    rw [Int.toNat_natCast]
    obtain ⟨g, c, e, q0, q1, q2⟩ := h.al hj
    rw [e] at c14
    have hjI : (j : Int) < tb.als.length := by omega
    clear ho h e hj
    generalize tb.als.length = n at *
    generalize s.a j = x at *
    by_cases h0 : x.1 = 0
    · rw [show decide (x.1 ≠ 0) = false by simpa using h0] at q0
      rw [if_pos h0, h0]
      clear h0
      go_enter Tryz.func48, Tryz.ntmps48
      go_wp2_with (first | (go_at_call 84; refine hT.mono ?_; rintro e w1 ⟨rfl, rfl⟩))
      go_ret2
      exact ⟨rfl, rfl⟩
    · rw [show decide (x.1 ≠ 0) = true by simpa using h0] at q0
      rw [if_neg h0]
      clear h0
      go_enter Tryz.func48, Tryz.ntmps48
      go_wp2_with (first | (go_at_call 84; refine hT.mono ?_; rintro e w1 ⟨rfl, rfl⟩))
      go_ret2
      exact ⟨rfl, rfl⟩
end
end Go.Proofs.YthhckhifaolmkaaGreat

namespace Go.Proofs.YthhckhifaolmkaaGreat
open Go.RowKit Go.Shelf Go.Sort
open Go.Proofs.YthhckhifaolmkaaGreat.Cl (Fx Fz Ck Cb Alm psA dueA dueF U Q cP own_sl own_some own_below own_base inL ret_bool ret_int heap_lt iinfo cell_one_new take_snoc aftN)
set_option linter.unusedVariables false
set_option linter.unusedSimpArgs false
section
variable {W0 w w' : World} {tb : Tb} {v : Ts} {P : Nat} {vv va vr : Sl} {s : Bs}
set_option maxRecDepth 100000 in
theorem dCancel (h : Dd W0 w tb v P vv va vr s) (t : Int) : Calls Tryz.prog 51 #[bP P, I t] w fun e w' => e = .returned (I (getB tb s t)) ∧ Dd W0 w' tb v P vv va vr (canT tb s t) ∧ Fz (Dm P vv va vr) w w' := by
  have hT := dthere h t
  obtain ⟨-, -, -, -, -, c14, -⟩ := h.cells
  have HH : Hid (Dd W0 w tb v P vv va vr s) := h
  unfold canT getB
  by_cases ho : outA tb t
  · rw [thB_out ho] at hT
    simp only [if_pos ho]
    clear ho h
    go_enter Tryz.func51, Tryz.ntmps51
    go_wp2_with (first | (go_at_call 84; refine hT.mono ?_; rintro e w1 ⟨rfl, rfl⟩))
    go_ret
    exact ⟨rfl, HH.out, Fz.refl _ _⟩
  · rw [thB_in ho] at hT
    simp only [if_neg ho]
    obtain ⟨j, rfl, hj⟩ := not_out ho
    rw [Int.toNat_natCast]
    obtain ⟨g, c, e, q0, q1, q2⟩ := h.al hj
    rw [e] at c14
    have hjI : (j : Int) < tb.als.length := by omega
    by_cases h0 : (s.a j).1 = 0
    · rw [show decide ((s.a j).1 ≠ 0) = false by simpa using h0] at q0
      rw [if_pos h0]
      have e0 : s.a j = (0, 0) := Prod.ext h0 (h.d.l j hj h0)
      have e1 : (⟨s.v, upN s.a j (0, 0), s.q⟩ : Bs) = s := by rw [← e0, upN_self]
      rw [e1]
      clear h0 e0 e1 ho h e q1 q2
      go_enter Tryz.func51, Tryz.ntmps51
      go_wp2_with (first | (go_at_call 84; refine hT.mono ?_; rintro e w1 ⟨rfl, rfl⟩))
      go_ret
      exact ⟨rfl, HH.out, Fz.refl _ _⟩
    · rw [show decide ((s.a j).1 ≠ 0) = true by simpa using h0] at q0
      rw [if_neg h0]
      have hP := h.putA hj e (y := (0, 0)) ⟨Nat.zero_le _, Nat.zero_le _⟩ (fun _ => rfl)
      have HP : Hid (Dd W0 (((w.setCell ⟨g, j * 3, none⟩ (.bool false)).setCell ⟨g, j * 3 + 1, none⟩ (.int .u32 0)).setCell ⟨g, j * 3 + 2, none⟩ (.int .u32 0)) tb v P vv va vr ⟨s.v, upN s.a j (0, 0), s.q⟩ ∧ Fz (Dm P vv va vr) w (((w.setCell ⟨g, j * 3, none⟩ (.bool false)).setCell ⟨g, j * 3 + 1, none⟩ (.int .u32 0)).setCell ⟨g, j * 3 + 2, none⟩ (.int .u32 0))) := hP
      have ha := h.a
      rw [e] at ha
      obtain ⟨⟨y0, p0⟩, ⟨y1, p1⟩, ⟨y2, p2⟩, f0, f1, f2, -⟩ := put3 ha hj (.bool false) (.int .u32 0) (.int .u32 0)
      clear h0 ho h e q1 q2 hP ha p0
      go_enter Tryz.func51, Tryz.ntmps51
      go_wp2_with (first | (go_at_call 84; refine hT.mono ?_; rintro e w1 ⟨rfl, rfl⟩))
      go_ret
      exact ⟨rfl, HP.out.1, HP.out.2⟩
theorem Dd.putR {g c j : Nat} (h : Dd W0 w tb v P vv va vr s) (hj : j < tb.isrs.length) (e : slT vr = .slice (some ⟨g, 0, none⟩) tb.isrs.length c) {q : Nat → Nat} {b : Bool} (hb : hasQ q j = b) (ho : ∀ i, i ≠ j → hasQ q i = hasQ s.q i) :
    Dd W0 (w.setCell ⟨g, j, none⟩ (.bool b)) tb v P vv va vr ⟨s.v, s.a, q⟩ ∧ Fz (Dm P vv va vr) w (w.setCell ⟨g, j, none⟩ (.bool b)) := by
  have hr := h.r
  rw [e] at hr
  have o4 := (hr.stored j (.bool b)).1
  rw [flat_set1 (f := rqF s) (g := rqF ⟨s.v, s.a, q⟩) (fun _ => rfl) (fun _ => rfl) hj (fun i hi => by unfold rqF; simp only [ho i hi]) (by unfold rqF; simp only [hb])] at o4
  have hf : Fz (fun x => x = g) w (w.setCell ⟨g, j, none⟩ (.bool b)) := (Fz.refl (fun x => x = g) w).set (.inl rfl) _ _
  have hg : (slT vr).ownBlock = some g := by rw [e]; rfl
  have hg0 := (h.r.lt g hg).1
  exact ⟨⟨hf.heap h.o (fun e2 => heap_apart h.o h.r (by decide) (by rw [hg, ← e2])), h.t0, h.b.trans (hf.below h.b.size (by rintro x rfl; exact hg0)), h.p, hf.own h.v (fun x e1 e2 => own_apart h.v h.r (by decide) e1 (by rw [hg, e2])), hf.own h.a (fun x e1 e2 => own_apart h.a h.r (by decide) e1 (by rw [hg, e2])), by rw [e]; exact o4, ⟨h.d.ok, h.d.v, h.d.a, h.d.l⟩⟩, hf.mono (by rintro x rfl; exact .inr (.inr (.inr hg)))⟩
set_option maxRecDepth 100000 in
theorem dRequest (h : Dd W0 w tb v P vv va vr s) (t : Int) : Calls Tryz.prog 53 #[bP P, I t] w fun e w' => e = .returned (I (reqS tb t)) ∧ Dd W0 w' tb v P vv va vr (reqT tb s t) ∧ Fz (Dm P vv va vr) w w' := by
  obtain ⟨-, -, -, -, -, -, c15⟩ := h.cells
  have HH : Hid (Dd W0 w tb v P vv va vr s) := h
  unfold reqS reqT
  cases hi : isI tb t with
  | false =>
    simp only [Bool.false_eq_true, if_false]
    obtain ⟨a, cc, hv⟩ := own_sl h.r
    rw [hv] at c15
    unfold isI at hi
    simp at hi
    clear h hv
    generalize tb.isrs.length = n at *
    by_cases h0 : t < 0
    · clear hi
      go_enter Tryz.func53, Tryz.ntmps53
      go_wp2
      go_ret
      exact ⟨rfl, HH.out, Fz.refl _ _⟩
    · have h1 : (n : Int) ≤ t := hi (by omega)
      clear hi
      go_enter Tryz.func53, Tryz.ntmps53
      go_wp2
      go_ret
      exact ⟨rfl, HH.out, Fz.refl _ _⟩
  | true =>
    simp only [if_true]
    obtain ⟨i, rfl, hlt⟩ := isI_nat hi
    rw [Int.toNat_natCast]
    obtain ⟨g, c, e, q0, f0⟩ := h.rq hlt
    rw [e] at c15
    have hP := h.putR hlt e (q := addQ s.q i) (b := true) (by rw [has_add]; simp) (fun k hk => by rw [has_add]; simp [hk])
    have HP : Hid (Dd W0 (w.setCell ⟨g, i, none⟩ (.bool true)) tb v P vv va vr ⟨s.v, s.a, addQ s.q i⟩ ∧ Fz (Dm P vv va vr) w (w.setCell ⟨g, i, none⟩ (.bool true))) := hP
    have n0 : ¬ ((i : Int) < 0) := by omega
    have n1 : ¬ ((tb.isrs.length : Int) ≤ i) := by omega
    have n2 : (i : Int) < tb.isrs.length := by omega
    clear h hi hP e hlt
    generalize tb.isrs.length = n at *
    go_enter Tryz.func53, Tryz.ntmps53
    go_wp2
    go_ret
    exact ⟨rfl, HP.out.1, HP.out.2⟩
set_option maxRecDepth 100000 in
theorem dServe (h : Dd W0 w tb v P vv va vr s) (hq : OKq s.q) (t : Int) : Calls Tryz.prog 55 #[bP P, I t] w fun e w' => e = .returned (I (serS tb s t)) ∧ Dd W0 w' tb v P vv va vr (serT tb s t) ∧ Fz (Dm P vv va vr) w w' := by
  obtain ⟨-, -, -, -, -, -, c15⟩ := h.cells
  have HH : Hid (Dd W0 w tb v P vv va vr s) := h
  unfold serS serT
  cases hi : isI tb t with
  | false =>
    simp only [Bool.false_and, Bool.false_eq_true, if_false]
    obtain ⟨a, cc, hv⟩ := own_sl h.r
    rw [hv] at c15
    unfold isI at hi
    simp at hi
    clear h hv
    generalize tb.isrs.length = n at *
    by_cases h0 : t < 0
    · clear hi
      go_enter Tryz.func55, Tryz.ntmps55
      go_wp2
      go_ret
      exact ⟨rfl, HH.out, Fz.refl _ _⟩
    · have h1 : (n : Int) ≤ t := hi (by omega)
      clear hi
      go_enter Tryz.func55, Tryz.ntmps55
      go_wp2
      go_ret
      exact ⟨rfl, HH.out, Fz.refl _ _⟩
  | true =>
    simp only [Bool.true_and]
    obtain ⟨i, rfl, hlt⟩ := isI_nat hi
    rw [Int.toNat_natCast]
    obtain ⟨g, c, e, q0, f0⟩ := h.rq hlt
    rw [e] at c15
    have hP := h.putR hlt e (q := remQ s.q i) (b := false) (by rw [has_rem hq]; simp) (fun k hk => by rw [has_rem hq]; simp [hk])
    have HP : Hid (Dd W0 (w.setCell ⟨g, i, none⟩ (.bool false)) tb v P vv va vr ⟨s.v, s.a, remQ s.q i⟩ ∧ Fz (Dm P vv va vr) w (w.setCell ⟨g, i, none⟩ (.bool false))) := hP
    have n0 : ¬ ((i : Int) < 0) := by omega
    have n1 : ¬ ((tb.isrs.length : Int) ≤ i) := by omega
    have n2 : (i : Int) < tb.isrs.length := by omega
    clear h hi hP e hlt
    generalize tb.isrs.length = n at *
    cases hb : hasQ s.q i with
    | false =>
      rw [hb] at q0
      simp only [Bool.false_eq_true, if_false]
      clear hb
      go_enter Tryz.func55, Tryz.ntmps55
      go_wp2
      go_ret
      exact ⟨rfl, HH.out, Fz.refl _ _⟩
    | true =>
      rw [hb] at q0
      simp only [if_true]
      clear hb
      go_enter Tryz.func55, Tryz.ntmps55
      go_wp2
      go_ret
      exact ⟨rfl, HP.out.1, HP.out.2⟩
set_option maxRecDepth 100000 in
set_option maxHeartbeats 4000000 in
theorem dRequested (h : Dd W0 w tb v P vv va vr s) : Calls Tryz.prog 57 #[bP P] w fun e w' => ∃ u, e = .returned u ∧ w'.ownsRow w.heap.size 3 1 u (reqL tb s.q tb.isrs.length).length (inL (reqL tb s.q tb.isrs.length)) ∧ Below w.heap.size w w' := by
  obtain ⟨i0, hi0, hz0, hz1, hz2⟩ := info_parts iinfo
  obtain ⟨-, -, -, -, -, -, c15⟩ := h.cells
  obtain ⟨a, cc, hv⟩ := own_sl h.r
  have hn := h.d.ok.ni
  have HH : Hid (Dd W0 w tb v P vv va vr s ∧ slT vr = .slice a tb.isrs.length cc) := ⟨h, hv⟩
  have HI : Hid (w.ownsRow w.heap.size 3 1 (.slice none 0 0) (reqL tb s.q 0).length (inL (reqL tb s.q 0)) ∧ Below w.heap.size w w) := ⟨by simpa [reqL, inL] using World.ownsRow_nil w _ _ _, Below.refl _ _⟩
  clear h hv c15
  generalize hnn : tb.isrs.length = n at *
  have HN : Hid (tb.isrs.length = n) := hnn
  clear hnn
  go_enter Tryz.func57, Tryz.ntmps57
  go_wp2
  go_loopw [3, 4] (fun v3 v4 wr => ∃ k : Nat, k ≤ n ∧ v4 = I k ∧ Hid (wr.ownsRow w.heap.size 3 1 v3 (reqL tb s.q k).length (inL (reqL tb s.q k)) ∧ Below w.heap.size w wr)) (fun _ v4 _ => n - (intOf v4).toNat)
  case atStart => exact ⟨0, by omega, rfl, HI.out⟩
  case round =>
    clear HI
    obtain ⟨k, hk, rfl, HJ⟩ := hrel
    have hr := HH.out.1.below HJ.out.2
    obtain ⟨-, -, -, -, -, -, c15⟩ := hr.cells
    rw [HH.out.2] at c15
    by_cases hlt : k < n
    · have hltI : (k : Int) < n := by omega
      obtain ⟨g, c, e, q0, f0⟩ := hr.rq (j := k) (by rw [HN.out]; exact hlt)
      have ea : a = some ⟨g, 0, none⟩ := by rw [HH.out.2] at e; cases e; rfl
      have hlen : (reqL tb s.q k).length ≤ 32 := by have := reqL_len tb s.q k; omega
      have HS : Hid (reqL tb s.q (k + 1) = reqL tb s.q k ++ (if hasQ s.q k then [k] else [])) := reqL_succ tb s.q k
      have hsz : w.heap.size ≤ wr.heap.size := HJ.out.2.size
      clear hr e f0
      subst ea
      cases hq : hasQ s.q k with
      | false =>
        rw [hq] at q0 HS
        have HS2 : Hid (reqL tb s.q (k + 1) = reqL tb s.q k) := by show _ = _; rw [HS.out]; simp
        clear HS hq
        go_wp2
        go_roundw
        case rel => exact ⟨k + 1, by omega, by go_num, by rw [HS2.out]; exact HJ.out⟩
        case measure => simp [intOf]; omega
      | true =>
        rw [hq] at q0 HS
        have HS2 : Hid (reqL tb s.q (k + 1) = reqL tb s.q k ++ [k]) := by show _ = _; rw [HS.out]; simp
        have hO2 := HJ.out.1.alloc (.cells #[I (k : Int)] 3)
        clear HS hq
        go_wp2_with (first
          | (at_builtin; refine wpList_append_own _ rfl (.tmp 21) (.tmp 23) 40 rfl w.heap.size 3 i0 (.int .i64 0) 1 8 Tryz.underlying40 hi0 hz0 hz1 hz2 rfl (by decide) _ _ _ rfl hO2 ⟨wr.heap.size, 0, none⟩ 1 1 [I (k : Int)] rfl rfl (cell_one_new _ _ _) (by intro u hu; simp at hu; subst hu; rfl) (by unfold maxLen; omega) (by omega) (by simp; omega) ?_))
        intro v6 w6 ho6 hg6 _
        have f6 : Below w.heap.size w w6 := ⟨hg6.os.trans HJ.out.2.os, hg6.tape.trans HJ.out.2.tape, hg6.output.trans HJ.out.2.output, by have := hg6.size; simp at this; omega, fun i hi => by
          have e1 : (wr.alloc (.cells #[I (k : Int)] 3)).heap[i]? = wr.heap[i]? := heap_alloc_old _ _ (by omega)
          rw [hg6.block i (by simp; omega) (fun e => by have := (HJ.out.1.lt i e.symm).1; omega), e1]
          exact HJ.out.2.block i hi⟩
        have H6 : Hid (w6.ownsRow w.heap.size 3 1 v6 (reqL tb s.q (k + 1)).length (inL (reqL tb s.q (k + 1))) ∧ Below w.heap.size w w6) := by
          refine ⟨?_, f6⟩
          rw [HS2.out, List.length_append]
          unfold inL
          rw [List.map_append]
          exact ho6
        clear ho6 hg6 f6 hO2 HS2
        go_wp2
        go_roundw
        case rel => exact ⟨k + 1, by omega, by go_num, H6.out⟩
        case measure => simp [intOf]; omega
    · obtain rfl : k = n := by omega
      have hge : ¬ ((k : Int) < k) := by omega
      clear hr
      go_wp2
      go_ret
      exact ⟨_, rfl, HJ.out.1, HJ.out.2⟩
end
end Go.Proofs.YthhckhifaolmkaaGreat

