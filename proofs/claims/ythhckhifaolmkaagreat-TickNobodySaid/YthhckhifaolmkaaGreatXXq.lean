import Derived.Test.YthhckhifaolmkaaGreatXXo
namespace Go.Proofs.YthhckhifaolmkaaGreat
open Go.RowKit Go.Shelf Go.Sort
open Go.Proofs.YthhckhifaolmkaaGreat.Cl (Fx Fz Ck Cb Alm psA dueA dueF U Q cP own_sl own_some own_below own_base inL ret_bool ret_int heap_lt iinfo cell_one_new take_snoc aftN)
set_option linter.unusedVariables false
set_option linter.unusedSimpArgs false

/-! ### New: what stands so far -/
theorem ctinfoN : (Tryz.prog.info? 85).map (fun i => (i.zero, i.size, i.bytes)) = some (some (.agg #[.pointer none, .int .u32 0, .int .u32 0, .int .u32 0, .slice none 0 0]), 5, 48) := by kernel_rfl
theorem isinfo : (Tryz.prog.info? 90).map (fun i => (i.zero, i.size, i.bytes)) = some (some (.agg #[.int .i64 0, .int .i64 0]), 2, 16) := by kernel_rfl
theorem heap_apart {W : World} {g : Nat} {cs : Array Value} {t : TypeId} (h : W.heap[g]? = some (.cells cs t)) {b E k n : Nat} {v : Value} {xs : List Value} (o : W.ownsRow b E k v n xs) (hne : t ≠ E) : v.ownBlock ≠ some g := fun e => by
  rcases o.2 with ⟨rfl, -⟩ | ⟨gg, cap, cur, rfl, -, hh, -⟩
  · cases e
  · have e1 : gg = g := Option.some.inj e
    rw [e1, h] at hh
    cases hh
    exact hne rfl
def ctRm (tb : Tb) (cb : Nat → Nat) (ca : Nat → Sl) (i : Nat) : List Value := [cP (cb i), U (ctK tb i).max, U (ctK tb i).base, U (ctK tb i).min, slT (ca i)]
abbrev nwB (tb : Tb) (vc va vi : Sl) : Obj := .cells #[I tb.modes, slT vc, slT va, slT vi, .int .u8 0, .int .u8 0, .int .u8 0, .int .u8 0] 61
structure Nw (w wr : World) (tb : Tb) (v : Ts) (N lo : Nat) (vc va vi vn : Sl) (ca : Nat → Sl) (zq : Nat → Nat) (cb : Nat → Nat) (cv : Nat → Value) (zk : Nat → Nat) (k j : Nat) : Prop where
  b : Below w.heap.size w wr
  t : wr.heap[w.heap.size]? = some (.cells (tbC tb v) 37)
  o : wr.heap[N]? = some (nwB tb vc va vi)
  N : w.heap.size < N ∧ N < lo ∧ lo ≤ wr.heap.size
  c : wr.ownsRow w.heap.size 85 5 (slT vc) k (flat (ctRm tb cb ca) k)
  a : wr.ownsRow w.heap.size 136 5 (slT va) tb.als.length (flat (alRw tb) tb.als.length)
  m : Nm wr w.heap.size tb.ctrs.length (slT vn) ca zq (idxA tb)
  i : wr.ownsRow w.heap.size 90 2 (slT vi) j (flat (isRw tb) j)
  k : Cks wr tb lo k cb cv zk (fun _ => 0) (fun _ => (0, 0))
  cz : ∀ b, (slT vc).ownBlock = some b → zk b = 0
  iz : ∀ b, (slT vi).ownBlock = some b → zk b = 0
  ql : ∀ b, zq b ≠ 0 → b < lo
  al : ∀ b, (slT va).ownBlock = some b → b < lo
section
variable {w wr w' : World} {tb : Tb} {v : Ts} {N lo : Nat} {vc va vi vn : Sl} {ca : Nat → Sl} {zq : Nat → Nat} {cb : Nat → Nat} {cv : Nat → Value} {zk : Nat → Nat} {k j : Nat}
theorem Nw.below (h : Nw w wr tb v N lo vc va vi vn ca zq cb cv zk k j) (hb : Below wr.heap.size wr w') : Nw w w' tb v N lo vc va vi vn ca zq cb cv zk k j :=
  ⟨h.b.trans (hb.mono h.b.size), (hb.block _ (heap_lt h.t)).trans h.t, (hb.block _ (heap_lt h.o)).trans h.o, ⟨h.N.1, h.N.2.1, Nat.le_trans h.N.2.2 hb.size⟩, own_below h.c hb, own_below h.a hb, h.m.below hb, own_below h.i hb, h.k.below hb, h.cz, h.iz, h.ql, h.al⟩
/-- a counter more: its clock made, its row put behind the others -/
theorem Nw.putC (h : Nw w wr tb v N lo vc va vi vn ca zq cb cv zk k j) {W W2 : World} {B2 : Nat} {v2 : Value} {x : Sl} (hb : Below wr.heap.size wr W) (hk : Ck W B2 v2 (ctK tb k).max (ctK tb k).min 0 (alC tb (fun _ => (0, 0)) k)) (hn : ∀ b, Cb B2 v2 b → wr.heap.size ≤ b)
    {W1 : World} (hb1 : Below W.heap.size W W1) (hg : W1.grownBy W2 (slT vc).ownBlock) (ho : W2.ownsRow w.heap.size 85 5 (slT x) (k + 1) (flat (ctRm tb cb ca) k ++ ctRm tb (upN cb k B2) ca k)) (hx : (slT x).ownBlock = (slT vc).ownBlock ∨ (slT x).ownBlock = some W1.heap.size) :
    W2.heap[N]? = some (nwB tb vc va vi) ∧ Nw w (W2.setCell ⟨N, 1, none⟩ (slT x)) tb v N lo x va vi vn ca zq (upN cb k B2) (upN cv k v2) (fun b => if wr.heap.size ≤ b ∧ b < W.heap.size then 10 + k else zk b) (k + 1) j := by
  have hW := h.below hb
  have K1 := (h.k.next hb h.N.2.2 hk hn).below hb1
  have h1 := hW.below hb1
  have hf : Fz (fun y => (slT vc).ownBlock = some y) W1 W2 := ⟨hg.os, hg.tape, hg.output, hg.size, fun b hb hne => hg.block b hb (fun e => hne e.symm)⟩
  have hvlt : ∀ y, (slT vc).ownBlock = some y → w.heap.size ≤ y ∧ y < wr.heap.size := fun y e => h.c.lt y e
  have hzw : ∀ b, (slT vc).ownBlock = some b → (fun b => if wr.heap.size ≤ b ∧ b < W.heap.size then 10 + k else zk b) b = 0 := fun b e => by
    have := (hvlt b e).2
    show (if _ then _ else _) = _
    rw [if_neg (by omega)]
    exact h.cz b e
  have o2 := hf.heap h1.o (heap_apart h1.o h1.c (by decide))
  have t2 := hf.heap h1.t (heap_apart h1.t h1.c (by decide))
  have fs : Fz (fun b => b = N) W2 (W2.setCell ⟨N, 1, none⟩ (slT x)) := (Fz.refl (fun b => b = N) W2).set (.inl rfl) _ _
  have hsz : W1.heap.size ≤ W2.heap.size := hg.size
  have hs1 : wr.heap.size ≤ W.heap.size := hb.size
  have hs2 : W.heap.size ≤ W1.heap.size := hb1.size
  have own2 : ∀ {E q n : Nat} {u : Value} {xs : List Value}, W1.ownsRow w.heap.size E q u n xs → E ≠ 85 → E ≠ 61 → (W2.setCell ⟨N, 1, none⟩ (slT x)).ownsRow w.heap.size E q u n xs := fun {E q n u xs} hu h1' h2' => by
    have hu2 := hf.own hu (fun g e => own_apart hu h1.c h1' e)
    exact fs.own hu2 (fun g e e2 => heap_apart o2 hu2 (fun e => h2' e.symm) (by rw [e, e2]))
  refine ⟨o2, ⟨below_set (h1.b.trans (hf.below h1.b.size (fun y e => (hvlt y e).1))) (by have := h.N; omega), fs.heap t2 (by have := h.N; omega), heap_setCell_same W2 N 1 _ _ (slT x) o2, ⟨h.N.1, h.N.2.1, by have := h.N; simp; omega⟩, ?_, own2 h1.a (by decide) (by decide), ?_, own2 h1.i (by decide) (by decide), ?_, ?_, ?_, h.ql, h.al⟩⟩
  · have e1 : flat (ctRm tb (upN cb k B2) ca) (k + 1) = flat (ctRm tb cb ca) k ++ ctRm tb (upN cb k B2) ca k := by
      rw [flat_succ]
      congr 1
      exact flat_congr (fun i hi => by unfold ctRm; rw [upN_ne _ _ (by omega)])
    rw [e1]
    exact fs.own ho (fun g e e2 => heap_apart o2 ho (by decide) (by rw [e, e2]))
  · exact ⟨own2 h1.m.n (by decide) (by decide), fun i hi => own2 (h1.m.r i hi) (by decide) (by decide), h1.m.z, fun b e => by have := h1.m.s b e; simp; omega⟩
  · refine (K1.keep hf (fun b hz e => hz (hzw b e))).keep fs (fun b hz e => ?_)
    have := (K1.s b hz).1
    have := h.N
    omega
  · intro b e
    rcases hx with hx | hx
    · rw [hx] at e; exact hzw b e
    · rw [hx] at e
      have e1 : W1.heap.size = b := Option.some.inj e
      show (if _ then _ else _) = _
      rw [if_neg (by omega)]
      by_cases hz : zk b = 0
      · exact hz
      · have := (h.k.s b hz).2.1
        omega
  · intro b e
    have := (h.i.lt b e).2
    show (if _ then _ else _) = _
    rw [if_neg (by omega)]
    exact h.iz b e
/-- an ISR more -/
theorem Nw.putI (h : Nw w wr tb v N lo vc va vi vn ca zq cb cv zk k j) {W1 W2 : World} {x : Sl} (hb1 : Below wr.heap.size wr W1) (hg : W1.grownBy W2 (slT vi).ownBlock) (ho : W2.ownsRow w.heap.size 90 2 (slT x) (j + 1) (flat (isRw tb) j ++ isRw tb j)) (hx : (slT x).ownBlock = (slT vi).ownBlock ∨ (slT x).ownBlock = some W1.heap.size) :
    W2.heap[N]? = some (nwB tb vc va vi) ∧ Nw w (W2.setCell ⟨N, 3, none⟩ (slT x)) tb v N lo vc va x vn ca zq cb cv zk k (j + 1) := by
  have h1 := h.below hb1
  have hf : Fz (fun y => (slT vi).ownBlock = some y) W1 W2 := ⟨hg.os, hg.tape, hg.output, hg.size, fun b hb hne => hg.block b hb (fun e => hne e.symm)⟩
  have hvlt : ∀ y, (slT vi).ownBlock = some y → w.heap.size ≤ y ∧ y < wr.heap.size := fun y e => h.i.lt y e
  have o2 := hf.heap h1.o (heap_apart h1.o h1.i (by decide))
  have t2 := hf.heap h1.t (heap_apart h1.t h1.i (by decide))
  have fs : Fz (fun b => b = N) W2 (W2.setCell ⟨N, 3, none⟩ (slT x)) := (Fz.refl (fun b => b = N) W2).set (.inl rfl) _ _
  have hsz : W1.heap.size ≤ W2.heap.size := hg.size
  have hs1 : wr.heap.size ≤ W1.heap.size := hb1.size
  have own2 : ∀ {E q n : Nat} {u : Value} {xs : List Value}, W1.ownsRow w.heap.size E q u n xs → E ≠ 90 → E ≠ 61 → (W2.setCell ⟨N, 3, none⟩ (slT x)).ownsRow w.heap.size E q u n xs := fun {E q n u xs} hu h1' h2' => by
    have hu2 := hf.own hu (fun g e => own_apart hu h1.i h1' e)
    exact fs.own hu2 (fun g e e2 => heap_apart o2 hu2 (fun e => h2' e.symm) (by rw [e, e2]))
  refine ⟨o2, ⟨below_set (h1.b.trans (hf.below h1.b.size (fun y e => (hvlt y e).1))) (by have := h.N; omega), fs.heap t2 (by have := h.N; omega), heap_setCell_same W2 N 3 _ _ (slT x) o2, ⟨h.N.1, h.N.2.1, by have := h.N; simp; omega⟩, own2 h1.c (by decide) (by decide), own2 h1.a (by decide) (by decide), ?_, ?_, ?_, h.cz, ?_, h.ql, h.al⟩⟩
  · exact ⟨own2 h1.m.n (by decide) (by decide), fun i hi => own2 (h1.m.r i hi) (by decide) (by decide), h1.m.z, fun b e => by have := h1.m.s b e; simp; omega⟩
  · rw [flat_succ]
    exact fs.own ho (fun g e e2 => heap_apart o2 ho (by decide) (by rw [e, e2]))
  · refine (h1.k.keep hf (fun b hz e => hz (h.iz b e))).keep fs (fun b hz e => ?_)
    have := (h.k.s b hz).1
    have := h.N
    omega
  · intro b e
    rcases hx with hx | hx
    · rw [hx] at e; exact h.iz b e
    · rw [hx] at e
      have e1 : W1.heap.size = b := Option.some.inj e
      by_cases hz : zk b = 0
      · exact hz
      · have := (h.k.s b hz).2.1
        omega
/-- the blocks of a new board -/
def nwZ (N : Nat) (vc va vi : Sl) (zq zk : Nat → Nat) (b : Nat) : Nat := if b = N then 1 else if (slT vc).ownBlock = some b then 2 else if (slT va).ownBlock = some b then 3 else if (slT vi).ownBlock = some b then 4 else if zk b ≠ 0 then zk b else if zq b ≠ 0 then 5 else 0
def newT : Bs := ⟨fun _ => 0, fun _ => (0, 0), fun _ => 0⟩
theorem Nw.bo (h : Nw w wr tb v N lo vc va vi vn ca zq cb cv zk tb.ctrs.length tb.isrs.length) (ok : OKb tb) (hq : ∀ b, zq b ≠ 0 → w.heap.size ≤ b) :
    Bo wr (nwZ N vc va vi zq zk) tb N ⟨vc, va, vi, cb, cv, ca⟩ newT ∧ ∀ b, nwZ N vc va vi zq zk b ≠ 0 → w.heap.size ≤ b := by
  have hN := heap_lt h.o
  have nN : ∀ {E q n : Nat} {u : Value} {xs : List Value}, wr.ownsRow w.heap.size E q u n xs → E ≠ 61 → ∀ b, u.ownBlock = some b → b ≠ N := fun hu hE b e e2 => heap_apart h.o hu (fun e => hE e.symm) (by rw [e, e2])
  have nz : ∀ b, nwZ N vc va vi zq zk b ≠ 0 → w.heap.size ≤ b ∧ b < wr.heap.size := fun b hb => by
    unfold nwZ at hb
    split at hb
    · have := h.N; omega
    · split at hb
      · rename_i e; exact h.c.lt b e
      · split at hb
        · rename_i e; exact h.a.lt b e
        · split at hb
          · rename_i e; exact h.i.lt b e
          · split at hb
            · rename_i e; have := h.k.s b e; have := h.N; omega
            · split at hb
              · rename_i e; exact ⟨hq b e, h.m.s b e⟩
              · exact absurd rfl hb
  refine ⟨⟨h.o, own_base h.c (Nat.zero_le _), own_base h.a (Nat.zero_le _), own_base h.i (Nat.zero_le _), h.k.c, fun i hi => own_base (h.m.r i hi) (Nat.zero_le _), ?_, ?_, ?_, ?_, ?_, ?_, fun b hb => (nz b hb).2, ok, fun _ => by show 0 < 256; omega, fun _ _ _ => rfl⟩, fun b hb => (nz b hb).1⟩
  · unfold nwZ; rw [if_pos rfl]
  · intro b e
    unfold nwZ
    rw [if_neg (nN h.c (by decide) b e), if_pos e]
  · intro b e
    unfold nwZ
    rw [if_neg (nN h.a (by decide) b e), if_neg (own_apart h.a h.c (by decide) e), if_pos e]
  · intro b e
    unfold nwZ
    rw [if_neg (nN h.i (by decide) b e), if_neg (own_apart h.i h.c (by decide) e), if_neg (own_apart h.i h.a (by decide) e), if_pos e]
  · intro i hi b hb
    have hz := h.k.z i hi b hb
    have hs := h.k.s b (by omega)
    unfold nwZ
    rw [if_neg (by have := h.N; omega), if_neg (fun e => by have := h.cz b e; omega), if_neg (fun e => by have := h.al b e; omega), if_neg (fun e => by have := h.iz b e; omega), if_pos (by omega)]
    exact hz
  · intro i hi b e
    have hr := h.m.r i hi
    have hz := h.m.z i hi b e
    unfold nwZ
    rw [if_neg (nN hr (by decide) b e), if_neg (own_apart hr h.c (by decide) e), if_neg (own_apart hr h.a (by decide) e), if_neg (own_apart hr h.i (by decide) e), if_neg (fun e2 => by have := h.k.s b e2; have := h.ql b (by omega); omega), if_pos (by omega)]
end
end Go.Proofs.YthhckhifaolmkaaGreat

namespace Go.Proofs.YthhckhifaolmkaaGreat
open Go.RowKit Go.Shelf Go.Sort
open Go.Proofs.YthhckhifaolmkaaGreat.Cl (Fx Fz Ck Cb Alm psA dueA dueF U Q cP own_sl own_some own_below own_base inL ret_bool ret_int heap_lt iinfo cell_one_new take_snoc aftN)
set_option linter.unusedVariables false
set_option linter.unusedSimpArgs false

theorem calls_idX {P : Program} {f : Nat} {args : Array Value} {w : World} {R : Ending → World → Prop} (h : Calls P f args w R) : Calls P f args w R := h
theorem Nm.lo {w : World} {L nk : Nat} {vn : Value} {ca : Nat → Sl} {zq : Nat → Nat} {f : Nat → List Nat} (h : Nm w L nk vn ca zq f) : Nm w L nk vn ca (fun b => if L ≤ b then zq b else 0) f :=
  ⟨h.n, h.r, fun i hi b e => by
    have := ((h.r i hi).lt b e).1
    show (if _ then _ else _) = _
    rw [if_pos this]
    exact h.z i hi b e, fun b e => by
    have e' : (if L ≤ b then zq b else 0) ≠ 0 := e
    split at e'
    · exact h.s b e'
    · exact absurd rfl e'⟩
theorem Nm.base {w : World} {L L2 nk : Nat} {vn : Value} {ca : Nat → Sl} {zq : Nat → Nat} {f : Nat → List Nat} (h : Nm w L nk vn ca zq f) (hl : L2 ≤ L) : Nm w L2 nk vn ca zq f := ⟨own_base h.n hl, fun i hi => own_base (h.r i hi) hl, h.z, h.s⟩
theorem may_of21 {tb : Tb} (ok : OKb tb) {i : Nat} (hi : i < tb.ctrs.length) : Cl.mayC (ctK tb i).max (ctK tb i).min = true := by
  have := ok.k i hi
  unfold Cl.mayC
  simp
  omega
theorem alC_zero (tb : Tb) (i : Nat) : alC tb (fun _ => (0, 0)) i = List.replicate (idxA tb i).length (0, 0) := by
  unfold alC
  rw [List.map_const']
section
variable {w w' : World} {tb : Tb} {v : Ts}
set_option maxRecDepth 100000 in
set_option maxHeartbeats 4000000 in
theorem bNew_no (h : TbAt w tb v) (hw : WfT tb) (hc : chkP tb = false) : Calls Tryz.prog 7 #[.agg (tbC tb v)] w fun e w' => e = .returned (.tuple #[.pointer none, I 210]) ∧ Below w.heap.size w w' := by
  have hb0 := below_alloc w (.cells (tbC tb v) 37)
  have hV := heap_alloc_new w (.cells (tbC tb v) 37)
  obtain ⟨c0, c1, c2, c3, c4, c5, c6, c7, c8, c9, c10, c11, c12⟩ := var13 hV
  have hC := check_any tb v _ (h.below hb0) hw
  rw [hc] at hC
  have HB : Hid (∀ w', Below (w.alloc (.cells (tbC tb v) 37)).heap.size (w.alloc (.cells (tbC tb v) 37)) w' → Below w.heap.size w w') := fun w' hb => hb0.trans (hb.mono hb0.size)
  unfold tbC at *
  clear h hV hb0
  go_enter Tryz.func7, Tryz.ntmps7
  go_upto_region 1 with fail
  generalize w.alloc (.cells #[I tb.uses, I tb.modes, .slice v.t.a v.t.n v.t.c, .slice v.g.a v.g.n v.g.c, .slice v.r.a v.r.n v.r.c, .slice v.k.a v.k.n v.k.c, .slice v.a.a v.a.n v.a.c, .slice v.i.a v.i.n v.i.c, .slice v.s.a v.s.n v.s.c, I tb.depth, I tb.frames, I tb.errors, I tb.calls] 37) = w1 at *
  go_wp2_with (first | (go_at_call 25; refine hC.mono ?_; clear hC; rintro e w2 ⟨rfl, hb2⟩; simp only [Bool.false_eq_true, if_false]))
  go_ret2
  exact ⟨rfl, HB.out _ hb2⟩
abbrev tbO (tb : Tb) (v : Ts) : Obj := .cells #[I tb.uses, I tb.modes, .slice v.t.a v.t.n v.t.c, .slice v.g.a v.g.n v.g.c, .slice v.r.a v.r.n v.r.c, .slice v.k.a v.k.n v.k.c, .slice v.a.a v.a.n v.a.c, .slice v.i.a v.i.n v.i.c, .slice v.s.a v.s.n v.s.c, I tb.depth, I tb.frames, I tb.errors, I tb.calls] 37
set_option maxRecDepth 100000 in
set_option maxHeartbeats 16000000 in
theorem bNew_ok (h : TbAt w tb v) (hw : WfT tb) (hc : chkP tb = true) : Calls Tryz.prog 7 #[.agg (tbC tb v)] w fun e w' => ∃ B, e = .returned (.tuple #[bP B, I 0]) ∧ ∃ p zn, Bo w' zn tb B p newT ∧ (∀ b, zn b ≠ 0 → w.heap.size ≤ b) ∧ Below w.heap.size w w' := by
  obtain ⟨ic, hic, hc0, hc1, hc2⟩ := info_parts ctinfoN
  obtain ⟨is, his, hs0, hs1, hs2⟩ := info_parts isinfo
  have ok := okb_of hc hw
  have hb0 := below_alloc w (.cells (tbC tb v) 37)
  have hV := heap_alloc_new w (.cells (tbC tb v) 37)
  have hsz0 : (w.alloc (.cells (tbC tb v) 37)).heap.size = w.heap.size + 1 := by simp
  obtain ⟨c0, c1, c2, c3, c4, c5, c6, c7, c8, c9, c10, c11, c12⟩ := var13 hV
  have hC := check_any tb v _ (h.below hb0) hw
  rw [hc] at hC
  have HT : Hid (TbAt w tb v ∧ OKb tb ∧ v.k.n = tb.ctrs.length ∧ v.i.n = tb.isrs.length) := ⟨h, ok, h.k.n, h.i.n⟩
  have H0 : Hid (Below w.heap.size w (w.alloc (tbO tb v)) ∧ (w.alloc (tbO tb v)).heap[w.heap.size]? = some (tbO tb v) ∧ (w.alloc (tbO tb v)).heap.size = w.heap.size + 1) := ⟨hb0, hV, hsz0⟩
  unfold tbC at hC c0 c1 c2 c3 c4 c5 c6 c7 c8 c9 c10 c11 c12 ⊢
  clear h hV hb0 hsz0 hw hc ok
  go_enter Tryz.func7, Tryz.ntmps7
  go_upto_region 1 with fail
  generalize w.alloc (.cells #[I tb.uses, I tb.modes, .slice v.t.a v.t.n v.t.c, .slice v.g.a v.g.n v.g.c, .slice v.r.a v.r.n v.r.c, .slice v.k.a v.k.n v.k.c, .slice v.a.a v.a.n v.a.c, .slice v.i.a v.i.n v.i.c, .slice v.s.a v.s.n v.s.c, I tb.depth, I tb.frames, I tb.errors, I tb.calls] 37) = w0 at *
  go_upto_region 3 with (first | (go_at_call 25; refine hC.mono ?_; clear hC; rintro e w1 ⟨rfl, hb1⟩; simp only [if_true]))
  have B1 : Below w.heap.size w w1 := H0.out.1.trans (hb1.mono H0.out.1.size)
  have hV1 : w1.heap[w.heap.size]? = some (.cells (tbC tb v) 37) := (hb1.block _ (by rw [H0.out.2.2]; omega)).trans H0.out.2.1
  have hsz1 : w.heap.size < w1.heap.size := by have := hb1.size; have := H0.out.2.2; omega
  have hP := placed_any (HT.out.1.below B1) HT.out.2.1
  have H1 : Hid (Below w.heap.size w w1 ∧ w1.heap[w.heap.size]? = some (.cells (tbC tb v) 37) ∧ w.heap.size < w1.heap.size) := ⟨B1, hV1, hsz1⟩
  clear c0 c1 c2 c3 c4 c5 c6 c7 c8 c9 c10 c11 c12 hb1
  obtain ⟨c0, c1, c2, c3, c4, c5, c6, c7, c8, c9, c10, c11, c12⟩ := var13 hV1
  unfold tbC at hP
  clear B1 hV1 hsz1 H0
  go_upto_region 4 with (first | (go_at_call 26; refine hP.mono ?_; clear hP; rintro e w2 ⟨va, vn, rfl, oa, ⟨ca, zq, hNm⟩, b2⟩))
  have B2 : Below w.heap.size w w2 := H1.out.1.trans (b2.mono H1.out.1.size)
  have hV2 := (b2.block _ H1.out.2.2).trans H1.out.2.1
  clear c0 c1 c2 c3 c4 c5 c6 c7 c8 c9 c10 c11 c12
  obtain ⟨-, c1, -⟩ := var13 hV2
  have hb3 := below_alloc w2 (nwB tb ⟨none, 0, 0⟩ va ⟨none, 0, 0⟩)
  have hv3 := heap_alloc_new w2 (nwB tb ⟨none, 0, 0⟩ va ⟨none, 0, 0⟩)
  have hs3 : (w2.alloc (nwB tb ⟨none, 0, 0⟩ va ⟨none, 0, 0⟩)).heap.size = w2.heap.size + 1 := by simp
  have hs12 := b2.size
  have H3 : Hid (∃ zq, (∀ b, zq b ≠ 0 → w.heap.size ≤ b) ∧ Nw w (w2.alloc (nwB tb ⟨none, 0, 0⟩ va ⟨none, 0, 0⟩)) tb v w2.heap.size (w2.heap.size + 1) ⟨none, 0, 0⟩ va ⟨none, 0, 0⟩ vn ca zq (fun _ => 0) (fun _ => .pointer none) (fun _ => 0) 0 0) := by
    have hlo := (hNm.lo).base (L2 := w.heap.size) (by have := H1.out.2.2; omega)
    refine ⟨_, fun b e => ?_, B2.trans (hb3.mono B2.size), (hb3.block _ (heap_lt hV2)).trans hV2, hv3, ⟨by have := H1.out.2.2; omega, by omega, by rw [hs3]; omega⟩, by simpa [flat] using World.ownsRow_nil _ _ _ _, own_base (own_below oa hb3) (by have := H1.out.2.2; omega), hlo.below hb3, by simpa [flat] using World.ownsRow_nil _ _ _ _, Cks.zero _ _ _ _ _, (fun b e => (by cases e)), (fun b e => (by cases e)), fun b e => ?_, fun b e => ?_⟩
    · have e' : (if w1.heap.size ≤ b then zq b else 0) ≠ 0 := e
      split at e'
      · have := H1.out.2.2; omega
      · exact absurd rfl e'
    · have := hlo.s b e; omega
    · have := (oa.lt b e).2; omega
  clear oa hNm b2 B2 hb3 hv3 hs3 hs12 hV2 H1
  go_upto_region 5 with fail
  have hN3 := H3.out
  obtain ⟨an, nn, cn⟩ := vn
  have env : slT ⟨an, nn, cn⟩ = .slice an tb.ctrs.length cn := by
    obtain ⟨zq0, -, hNw⟩ := hN3
    obtain ⟨a', c', e⟩ := own_sl hNw.m.n
    cases e
    rfl
  obtain rfl : nn = tb.ctrs.length := by cases env; rfl
  clear env hN3
  generalize w2.alloc (nwB tb ⟨none, 0, 0⟩ va ⟨none, 0, 0⟩) = w3 at *
  generalize w2.heap.size = N at *
  have c5 : w3.cell? ⟨w.heap.size, 5, none⟩ = some (.slice v.k.a v.k.n v.k.c) := by
    obtain ⟨zq0, -, hNw⟩ := H3.out
    obtain ⟨-, -, -, -, -, c5, -⟩ := var13 hNw.t
    exact c5
  clear c1
  rw [show slT ⟨an, tb.ctrs.length, cn⟩ = .slice an tb.ctrs.length cn from rfl]
  generalize Value.agg #[I tb.uses, I tb.modes, .slice v.t.a v.t.n v.t.c, .slice v.g.a v.g.n v.g.c, .slice v.r.a v.r.n v.r.c, .slice v.k.a v.k.n v.k.c, .slice v.a.a v.a.n v.a.c, .slice v.i.a v.i.n v.i.c, .slice v.s.a v.s.n v.s.c, I tb.depth, I tb.frames, I tb.errors, I tb.calls] = A13
  generalize Value.agg #[I tb.modes, .slice none 0 0, slT va, .slice none 0 0, .int .u8 0, .int .u8 0, .int .u8 0, .int .u8 0] = A8
  generalize Value.tuple #[slT va, Value.slice an tb.ctrs.length cn] = A2
  go_wp2
  clear c5
  go_loopw [7, 8, 27] (fun _ _ v27 wr => ∃ k : Nat, k ≤ v.k.n ∧ v27 = I k ∧ Hid (∃ zq vc cb cv zk, (∀ b, zq b ≠ 0 → w.heap.size ≤ b) ∧ Nw w wr tb v N (N + 1) vc va ⟨none, 0, 0⟩ ⟨an, tb.ctrs.length, cn⟩ ca zq cb cv zk k 0)) (fun _ _ v27 _ => v.k.n - (intOf v27).toNat)
  case atStart =>
    obtain ⟨zq0, h1, h2⟩ := H3.out
    exact ⟨0, by omega, rfl, zq0, _, _, _, _, h1, h2⟩
  case round =>
    clear H3
    obtain ⟨k, hk, rfl, HJ⟩ := hrel
    by_cases hlt : k < v.k.n
    · have hltI : (k : Int) < v.k.n := by omega
      obtain ⟨zq, vc, cb, cv, zk, hzq, hNw⟩ := HJ.out
      obtain ⟨ht, ok, ek, ei⟩ := HT.out
      have hkc : k < tb.ctrs.length := by omega
      have hkcI : (k : Int) < tb.ctrs.length := by omega
      have hxk : tb.ctrs[k]? = some (ctK tb k) := by unfold ctK; rw [List.getD_eq_getElem?_getD, List.getElem?_eq_getElem hkc]; rfl
      obtain ⟨g, off, ea, -, d0, d1, d2⟩ := ctr_at (ht.below hNw.b) hxk
      have hb1 := below_alloc wr (.cells #[U (ctK tb k).max, U (ctK tb k).base, U (ctK tb k).min] 81)
      have hv1 := heap_alloc_new wr (.cells #[U (ctK tb k).max, U (ctK tb k).base, U (ctK tb k).min] 81)
      have hX : (wr.alloc (.cells #[U (ctK tb k).max, U (ctK tb k).base, U (ctK tb k).min] 81)).heap.size = wr.heap.size + 1 := by simp
      obtain ⟨gn, cn', en⟩ := own_some hNw.m.n (by omega)
      obtain ⟨ak, ck, ec⟩ := own_sl (hNw.m.r k hkc)
      have ecn : (ca k).n = (idxA tb k).length := by
        generalize ca k = q at ec
        obtain ⟨q1, q2, q3⟩ := q
        cases ec
        rfl
      have hl64 : (ca k).n ≤ 64 := by rw [ecn]; have := idxA_len tb k; have := ok.na; omega
      have hk16 : k ≤ 16 := by have := ok.nk; omega
      have HN : Hid (∀ W, Calls Tryz.prog 27 #[.agg #[U (ctK tb k).max, U (ctK tb k).base, U (ctK tb k).min], slT (ca k)] W fun e w' => ∃ B v, e = .returned (.agg #[cP B, U (ctK tb k).max, U (ctK tb k).base, U (ctK tb k).min, slT (ca k)]) ∧ Ck w' B v (ctK tb k).max (ctK tb k).min 0 (alC tb (fun _ => (0, 0)) k) ∧ (∀ b, Cb B v b → W.heap.size + 1 < b) ∧ Below W.heap.size W w') := fun W => by
        have := newCounter_any W (ctK tb k).max (ctK tb k).base (ctK tb k).min (ca k) hl64 (may_of21 ok hkc)
        rw [ecn, ← alC_zero] at this
        exact this
      have H2 : Hid (Nw w (wr.alloc (.cells #[U (ctK tb k).max, U (ctK tb k).base, U (ctK tb k).min] 81)) tb v N (N + 1) vc va ⟨none, 0, 0⟩ ⟨an, tb.ctrs.length, cn⟩ ca zq cb cv zk k 0 ∧ (wr.alloc (.cells #[U (ctK tb k).max, U (ctK tb k).base, U (ctK tb k).min] 81)).heap[wr.heap.size]? = some (.cells #[U (ctK tb k).max, U (ctK tb k).base, U (ctK tb k).min] 81) ∧ (∀ b, zq b ≠ 0 → w.heap.size ≤ b)) := ⟨hNw.below hb1, hv1, hzq⟩
      have ean : an = some ⟨gn, 0, none⟩ := by cases en; rfl
      have nc : (wr.alloc (.cells #[U (ctK tb k).max, U (ctK tb k).base, U (ctK tb k).min] 81)).cell? ⟨gn, k, none⟩ = some (slT (ca k)) := by
        have hn := H2.out.1.m.n
        rw [en] at hn
        rw [hn.cellAt _ (by omega)]
        exact slL_at hkc
      have HKE : Hid (v.k.n = tb.ctrs.length) := ek
      clear HJ hNw ht ok ek ei hb1 hv1 hxk ec ecn hX hkc en hzq
      generalize v.k.a = vka at *
      subst ea ean
      go_upto_region 8 with fail
      clear d0 d1 d2
      generalize wr.alloc (.cells #[U (ctK tb k).max, U (ctK tb k).base, U (ctK tb k).min] 81) = w4 at *
      generalize wr.heap.size = X1 at *
      have x0 : w4.cell? ⟨X1, 0, none⟩ = some (U (ctK tb k).max) := by rw [cell_of_row _ _ _ _ _ (0, 0) H2.out.2.1]; rfl
      have x1 : w4.cell? ⟨X1, 1, none⟩ = some (U (ctK tb k).base) := by rw [cell_of_row _ _ _ _ _ (0, 0) H2.out.2.1]; rfl
      have x2 : w4.cell? ⟨X1, 2, none⟩ = some (U (ctK tb k).min) := by rw [cell_of_row _ _ _ _ _ (0, 0) H2.out.2.1]; rfl
      have n1 : w4.cell? ⟨N, 1, none⟩ = some (slT vc) := by rw [cell_of_row _ _ _ _ _ (0, 0) H2.out.1.o]; rfl
      have hx0 := H2.out.2.1
      have HPut : Hid (∀ W W1 W2 B2 v2 (x : Sl), Below w4.heap.size w4 W → Ck W B2 v2 (ctK tb k).max (ctK tb k).min 0 (alC tb (fun _ => (0, 0)) k) → (∀ b, Cb B2 v2 b → w4.heap.size ≤ b) → Below W.heap.size W W1 → W1.grownBy W2 (slT vc).ownBlock → W2.ownsRow w.heap.size 85 5 (slT x) (k + 1) (flat (ctRm tb cb ca) k ++ [cP B2, U (ctK tb k).max, U (ctK tb k).base, U (ctK tb k).min, slT (ca k)]) → ((slT x).ownBlock = (slT vc).ownBlock ∨ (slT x).ownBlock = some W1.heap.size) →
          (fun w' : World => w'.cell? ⟨X1, 0, none⟩ = some (U (ctK tb k).max) ∧ w'.cell? ⟨X1, 1, none⟩ = some (U (ctK tb k).base) ∧ w'.cell? ⟨X1, 2, none⟩ = some (U (ctK tb k).min) ∧ w'.cell? ⟨gn, k, none⟩ = some (slT (ca k))) W2 ∧ (fun w' : World => w'.cell? ⟨X1, 0, none⟩ = some (U (ctK tb k).max) ∧ w'.cell? ⟨X1, 1, none⟩ = some (U (ctK tb k).base) ∧ w'.cell? ⟨X1, 2, none⟩ = some (U (ctK tb k).min) ∧ w'.cell? ⟨gn, k, none⟩ = some (slT (ca k))) (W2.setCell ⟨N, 1, none⟩ (slT x)) ∧ W2.cell? ⟨N, 1, none⟩ = some (slT vc) ∧ W2.frozen? ⟨N, 1, none⟩ = false ∧ ∃ zq vc cb cv zk, (∀ b, zq b ≠ 0 → w.heap.size ≤ b) ∧ Nw w (W2.setCell ⟨N, 1, none⟩ (slT x)) tb v N (N + 1) vc va ⟨none, 0, 0⟩ ⟨some ⟨gn, 0, none⟩, tb.ctrs.length, cn⟩ ca zq cb cv zk (k + 1) 0) := by
        intro W W1 W2 B2 v2 x p1 p2 p3 p4 p5 p6 p7
        obtain ⟨o2, hn⟩ := H2.out.1.putC p1 p2 p3 p4 p5 (by unfold ctRm; rw [upN_same]; exact p6) p7
        have hf : Fz (fun y => (slT vc).ownBlock = some y) W1 W2 := ⟨p5.os, p5.tape, p5.output, p5.size, fun b hb hne => p5.block b hb (fun e => hne e.symm)⟩
        have h1 := (H2.out.1.below p1).below p4
        have hx1 := (p4.block _ (heap_lt ((p1.block _ (heap_lt H2.out.2.1)).trans H2.out.2.1))).trans ((p1.block _ (heap_lt H2.out.2.1)).trans H2.out.2.1)
        have hx2 := hf.heap hx1 (heap_apart hx1 h1.c (by decide))
        have fs : Fz (fun b => b = N) W2 (W2.setCell ⟨N, 1, none⟩ (slT x)) := (Fz.refl (fun b => b = N) W2).set (.inl rfl) _ _
        have hm2 := hf.own h1.m.n (fun g e => own_apart h1.m.n h1.c (by decide) e)
        have nX : X1 ≠ N := fun e => by rw [e, H2.out.1.o] at hx0; cases hx0
        have hm3 := fs.own hm2 (fun g e e2 => heap_apart o2 hm2 (by decide) (by rw [e, e2]))
        have hS : ∀ W, W.heap[X1]? = some (.cells #[U (ctK tb k).max, U (ctK tb k).base, U (ctK tb k).min] 81) → W.ownsRow w.heap.size 40 1 (.slice (some ⟨gn, 0, none⟩) tb.ctrs.length cn) tb.ctrs.length (slL ca tb.ctrs.length) → (fun w' : World => w'.cell? ⟨X1, 0, none⟩ = some (U (ctK tb k).max) ∧ w'.cell? ⟨X1, 1, none⟩ = some (U (ctK tb k).base) ∧ w'.cell? ⟨X1, 2, none⟩ = some (U (ctK tb k).min) ∧ w'.cell? ⟨gn, k, none⟩ = some (slT (ca k))) W := fun W e1 e2 => ⟨by rw [cell_of_row _ _ _ _ _ (0, 0) e1]; rfl, by rw [cell_of_row _ _ _ _ _ (0, 0) e1]; rfl, by rw [cell_of_row _ _ _ _ _ (0, 0) e1]; rfl, by rw [e2.cellAt _ (by omega)]; exact slL_at (by omega)⟩
        exact ⟨hS _ hx2 hm2, hS _ (fs.heap hx2 nX) hm3, by rw [cell_of_row _ _ _ _ _ (0, 0) o2]; rfl, frozen_of_row _ _ _ _ _ o2, _, _, _, _, _, H2.out.2.2, hn⟩
      have HOc : Hid (w4.ownsRow w.heap.size 85 5 (slT vc) k (flat (ctRm tb cb ca) k) ∧ w.heap.size ≤ w4.heap.size ∧ w4.heap[N]? = some (nwB tb vc va ⟨none, 0, 0⟩)) := ⟨H2.out.1.c, H2.out.1.b.size, H2.out.1.o⟩
      have HN2 : Hid (∀ W, Below w4.heap.size w4 W → Calls Tryz.prog 27 #[.agg #[U (ctK tb k).max, U (ctK tb k).base, U (ctK tb k).min], slT (ca k)] W fun e w' => ∃ B v, e = .returned (.agg #[cP B, U (ctK tb k).max, U (ctK tb k).base, U (ctK tb k).min, slT (ca k)]) ∧ w'.cell? ⟨N, 1, none⟩ = some (slT vc) ∧ (∀ o, (w'.alloc o).cell? ⟨N, 1, none⟩ = some (slT vc)) ∧ w.heap.size ≤ w'.heap.size ∧ Hid (Below w4.heap.size w4 w' ∧ Ck w' B v (ctK tb k).max (ctK tb k).min 0 (alC tb (fun _ => (0, 0)) k) ∧ (∀ b, Cb B v b → w4.heap.size ≤ b) ∧ w'.ownsRow w.heap.size 85 5 (slT vc) k (flat (ctRm tb cb ca) k))) := fun W hb => by
        refine (HN.out W).mono ?_
        rintro e w5 ⟨B2, v2, rfl, k5, n5, b5⟩
        have B5 : Below w4.heap.size w4 w5 := hb.trans (b5.mono hb.size)
        have o5 := (B5.block _ (heap_lt HOc.out.2.2)).trans HOc.out.2.2
        have n5c : w5.cell? ⟨N, 1, none⟩ = some (slT vc) := by rw [cell_of_row _ _ _ _ _ (0, 0) o5]; rfl
        exact ⟨B2, v2, rfl, n5c, fun o => (World.cell?_of_block ((below_alloc w5 o).block N (heap_lt o5))).trans n5c, Nat.le_trans HOc.out.2.1 B5.size, B5, k5, fun b hb2 => by have h9 : W.heap.size + 1 < b := n5 b hb2; have := hb.size; omega, own_below HOc.out.1 B5⟩
      have HB0 : Hid (Below w4.heap.size w4 w4 ∧ Below w4.heap.size w4 w4.drew) := ⟨Below.refl _ _, (Below.refl _ _).drew⟩
      clear H2 hx0 HN
      go_region_law (first
        | (refine step_append_X rfl (.tmp 36) (.tmp 43) 55 rfl w.heap.size 85 ic _ 5 48 Tryz.underlying55 hic hc0 hc1 hc2 rfl (by decide) (slT vc) k (flat (ctRm tb cb ca) k) (by simp [Act.eval, Act.put]) (by first | exact own_below H5.out.2.2.2 (below_alloc _ _) | exact own_below H5.out.2.2.2 ((Below.refl _ _).drew.alloc (Nat.le_refl _) _) | exact own_below H5.out.2.2.2 ((below_alloc _ _).drew)) ⟨w5.heap.size, 0, none⟩ 1 1 [cP B2, U (ctK tb k).max, U (ctK tb k).base, U (ctK tb k).min, slT (ca k)] (by simp [Act.eval, Act.put]) rfl (by first | exact row_new _ _ _ | exact fun j u hu => row_new w5 _ _ j u hu) (by simp [Value.oneCell']) (by unfold maxLen; omega) (by omega) (by simp; omega) ?_; intro v6 w6 h6 hg6 hb6; obtain ⟨a6, k6, rfl⟩ := own_sl h6; obtain ⟨HZ, HW, q6, f6, hn6⟩ := HPut.out w5 _ w6 B2 v2 ⟨a6, k + 1, k6⟩ H5.out.1 H5.out.2.1 H5.out.2.2.1 (by first | exact below_alloc _ _ | exact (Below.refl _ _).drew.alloc (Nat.le_refl _) _ | exact (below_alloc _ _).drew) hg6 h6 hb6; have H6 : Hid (∃ zq vc cb cv zk, (∀ b, zq b ≠ 0 → w.heap.size ≤ b) ∧ Nw w (w6.setCell ⟨N, 1, none⟩ (.slice a6 (k + 1) k6)) tb v N (N + 1) vc va ⟨none, 0, 0⟩ ⟨some ⟨gn, 0, none⟩, tb.ctrs.length, cn⟩ ca zq cb cv zk (k + 1) 0) := hn6; clear h6 hg6 hb6 hn6)
        | (go_simp; with_reducible refine calls_idX ?_; refine (HN2.out _ (by first | exact HB0.out.2 | exact HB0.out.1)).mono ?_; rintro e w5 ⟨B2, v2, rfl, n5c, n5a, hs5, H5⟩))
      all_goals
        go_wp2
        go_roundw
        case rel => exact ⟨k + 1, by omega, by go_num, H6.out⟩
        case measure => simp [intOf]; omega
    · obtain rfl : k = v.k.n := by omega
      have hge : ¬ ((v.k.n : Int) < v.k.n) := by omega
      have H7 : Hid (∃ zq vc cb cv zk, (∀ b, zq b ≠ 0 → w.heap.size ≤ b) ∧ Nw w wr tb v N (N + 1) vc va ⟨none, 0, 0⟩ ⟨an, tb.ctrs.length, cn⟩ ca zq cb cv zk tb.ctrs.length 0) := by
        have := HJ.out
        rwa [HT.out.2.2.1] at this
      have c7 : wr.cell? ⟨w.heap.size, 7, none⟩ = some (.slice v.i.a v.i.n v.i.c) := by
        obtain ⟨zq0, _, _, _, _, -, hNw⟩ := H7.out
        obtain ⟨-, -, -, -, -, -, -, c7, -⟩ := var13 hNw.t
        exact c7
      clear HJ
      go_wp2
      clear c7
      go_loopw [10, 51] (fun _ v51 wr => ∃ k : Nat, k ≤ v.i.n ∧ v51 = I k ∧ Hid (∃ vi zq vc cb cv zk, (∀ b, zq b ≠ 0 → w.heap.size ≤ b) ∧ Nw w wr tb v N (N + 1) vc va vi ⟨an, tb.ctrs.length, cn⟩ ca zq cb cv zk tb.ctrs.length k)) (fun _ v51 _ => v.i.n - (intOf v51).toNat)
      case atStart =>
        obtain ⟨zq, vc, cb, cv, zk, h1, h2⟩ := H7.out
        exact ⟨0, by omega, rfl, _, zq, vc, cb, cv, zk, h1, h2⟩
      case round =>
        clear H7 hge hk
        obtain ⟨k, hk, rfl, HJ⟩ := hrel
        by_cases hlt : k < v.i.n
        · have hltI : (k : Int) < v.i.n := by omega
          obtain ⟨vi, zq, vc, cb, cv, zk, hzq, hNw⟩ := HJ.out
          obtain ⟨ht, ok, ek, ei⟩ := HT.out
          have hki : k < tb.isrs.length := by omega
          have hxk : tb.isrs[k]? = some (isK tb k) := by unfold isK; rw [List.getD_eq_getElem?_getD, List.getElem?_eq_getElem hki]; rfl
          obtain ⟨g, off, s2, ea, -, d0, d1, d2, -⟩ := isr_at (ht.below hNw.b) hxk
          have hb1 := below_alloc wr (.cells #[I (isK tb k).cat, I (isK tb k).prio, .slice s2.a s2.n s2.c] 88)
          have hv1 := heap_alloc_new wr (.cells #[I (isK tb k).cat, I (isK tb k).prio, .slice s2.a s2.n s2.c] 88)
          have hk32 : k ≤ 32 := by have := ok.ni; omega
          have H2 : Hid (Nw w (wr.alloc (.cells #[I (isK tb k).cat, I (isK tb k).prio, .slice s2.a s2.n s2.c] 88)) tb v N (N + 1) vc va vi ⟨an, tb.ctrs.length, cn⟩ ca zq cb cv zk tb.ctrs.length k ∧ (wr.alloc (.cells #[I (isK tb k).cat, I (isK tb k).prio, .slice s2.a s2.n s2.c] 88)).heap[wr.heap.size]? = some (.cells #[I (isK tb k).cat, I (isK tb k).prio, .slice s2.a s2.n s2.c] 88) ∧ (∀ b, zq b ≠ 0 → w.heap.size ≤ b)) := ⟨hNw.below hb1, hv1, hzq⟩
          clear HJ hNw ht ok ek ei hb1 hv1 hxk hki hzq
          generalize v.i.a = via at *
          subst ea
          go_upto_region 13 with fail
          clear d0 d1 d2
          generalize wr.alloc (.cells #[I (isK tb k).cat, I (isK tb k).prio, .slice s2.a s2.n s2.c] 88) = w4 at *
          generalize wr.heap.size = X1 at *
          have x0 : w4.cell? ⟨X1, 0, none⟩ = some (I (isK tb k).cat) := by rw [cell_of_row _ _ _ _ _ (0, 0) H2.out.2.1]; rfl
          have x1 : w4.cell? ⟨X1, 1, none⟩ = some (I (isK tb k).prio) := by rw [cell_of_row _ _ _ _ _ (0, 0) H2.out.2.1]; rfl
          have n3 : w4.cell? ⟨N, 3, none⟩ = some (slT vi) := by rw [cell_of_row _ _ _ _ _ (0, 0) H2.out.1.o]; rfl
          have n3a : ∀ o, (w4.alloc o).cell? ⟨N, 3, none⟩ = some (slT vi) := fun o => (World.cell?_of_block ((below_alloc w4 o).block N (heap_lt H2.out.1.o))).trans n3
          have hs4 : w.heap.size ≤ w4.heap.size := H2.out.1.b.size
          have HPut : Hid (∀ W1 W2 (x : Sl), Below w4.heap.size w4 W1 → W1.grownBy W2 (slT vi).ownBlock → W2.ownsRow w.heap.size 90 2 (slT x) (k + 1) (flat (isRw tb) k ++ [I (isK tb k).cat, I (isK tb k).prio]) → ((slT x).ownBlock = (slT vi).ownBlock ∨ (slT x).ownBlock = some W1.heap.size) →
              W2.cell? ⟨N, 3, none⟩ = some (slT vi) ∧ W2.frozen? ⟨N, 3, none⟩ = false ∧ ∃ vi zq vc cb cv zk, (∀ b, zq b ≠ 0 → w.heap.size ≤ b) ∧ Nw w (W2.setCell ⟨N, 3, none⟩ (slT x)) tb v N (N + 1) vc va vi ⟨an, tb.ctrs.length, cn⟩ ca zq cb cv zk tb.ctrs.length (k + 1)) := by
            intro W1 W2 x p1 p2 p3 p4
            obtain ⟨o2, hn⟩ := H2.out.1.putI p1 p2 p3 p4
            exact ⟨by rw [cell_of_row _ _ _ _ _ (0, 0) o2]; rfl, frozen_of_row _ _ _ _ _ o2, _, _, _, _, _, _, H2.out.2.2, hn⟩
          have HOi : Hid (w4.ownsRow w.heap.size 90 2 (slT vi) k (flat (isRw tb) k)) := H2.out.1.i
          clear H2
          go_region_law (first
            | (refine step_append_X rfl (.tmp 59) (.tmp 65) 57 rfl w.heap.size 90 is _ 2 16 Tryz.underlying57 his hs0 hs1 hs2 rfl (by decide) (slT vi) k (flat (isRw tb) k) (by simp [Act.eval, Act.put]) (by first | exact own_below HOi.out (below_alloc _ _) | exact own_below HOi.out ((Below.refl _ _).drew.alloc (Nat.le_refl _) _) | exact own_below HOi.out ((below_alloc _ _).drew)) ⟨w4.heap.size, 0, none⟩ 1 1 [I (isK tb k).cat, I (isK tb k).prio] (by simp [Act.eval, Act.put]) rfl (by first | exact row_new _ _ _ | exact fun j u hu => row_new w4 _ _ j u hu) (by simp [Value.oneCell']) (by unfold maxLen; omega) (by omega) (by simp; omega) ?_; intro v6 w6 h6 hg6 hb6; obtain ⟨a6, k6, rfl⟩ := own_sl h6; obtain ⟨q6, f6, hn6⟩ := HPut.out _ w6 ⟨a6, k + 1, k6⟩ (by first | exact below_alloc _ _ | exact (Below.refl _ _).drew.alloc (Nat.le_refl _) _ | exact (below_alloc _ _).drew) hg6 h6 hb6; have H6 : Hid (∃ vi zq vc cb cv zk, (∀ b, zq b ≠ 0 → w.heap.size ≤ b) ∧ Nw w (w6.setCell ⟨N, 3, none⟩ (.slice a6 (k + 1) k6)) tb v N (N + 1) vc va vi ⟨an, tb.ctrs.length, cn⟩ ca zq cb cv zk tb.ctrs.length (k + 1)) := hn6; clear h6 hg6 hb6 hn6))
          all_goals
            go_wp2
            go_roundw
            case rel => exact ⟨k + 1, by omega, by go_num, H6.out⟩
            case measure => simp [intOf]; omega
        · obtain rfl : k = v.i.n := by omega
          have hge : ¬ ((v.i.n : Int) < v.i.n) := by omega
          go_wp2
          go_ret2
          obtain ⟨vi, zq, vc, cb, cv, zk, hzq, hNw⟩ := HJ.out
          rw [HT.out.2.2.2] at hNw
          obtain ⟨r1, r2⟩ := hNw.bo HT.out.2.1 hzq
          exact ⟨N, rfl, _, _, r1, r2, hNw.b⟩
end
end Go.Proofs.YthhckhifaolmkaaGreat

