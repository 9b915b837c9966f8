import Derived.Test.YtncgdbjjlhohiaaReadC
import Derived.Deep.RegionWith
namespace Go.Proofs.Ytncgdbjjlhohiaa
open Go.RowKit
set_option linter.unusedVariables false

structure Pc where
  kind : Int
  n : Int
  v : Int
  s : ByteArray
def Pc.cells (p : Pc) : List Value := [.int .i64 p.kind, .int .i64 p.n, .int .u64 p.v, .string p.s]
structure Pc.Ok (p : Pc) : Prop where
  n1 : -9223372036854775808 ≤ p.n
  n2 : p.n ≤ 9223372036854775807
  v1 : 0 ≤ p.v
  v2 : p.v < 18446744073709551616
  s1 : p.s.size ≤ 140737488351232
def encN (v n : Int) : Option (List UInt8) := if 1 ≤ n ∧ n ≤ 8 ∧ v < 256 ^ n.toNat then some (leB n.toNat v.toNat) else none
def encT (s : ByteArray) : Option (List UInt8) := if plainB s.data.toList = true then some (UInt8.ofNat s.size :: s.data.toList) else none
def encP (p : Pc) : Option (List UInt8) := if p.kind = 1 then encN p.v p.n else encT p.s
def keptOf (ps : List Pc) : List Pc := ps.filter fun p => (encP p).isSome
def bytesOf (ps : List Pc) : List UInt8 := (keptOf ps).flatMap fun p => (encP p).getD []
def cellsOf (ps : List Pc) : List Value := ps.flatMap Pc.cells

/-- What a call that writes answers: bytes in a row of its own, or an error. -/
def EncR (w' : World) (base : Nat) (o : Option (List UInt8)) (a : Option Addr) (m cap : Nat) (er : Int) : Prop :=
  (∃ l, o = some l ∧ er = 0 ∧ m = l.length ∧ 0 < m ∧ w'.ownsRow base 5 1 (.slice a m cap) m (l.map B)) ∨ (o = none ∧ (er != 0) = true)

theorem number_enc (v n : Int) (w : World) (hv : 0 ≤ v) (hv2 : v < 18446744073709551616) :
    Calls Try.prog 14 #[.int .u64 v, .int .i64 n] w fun e w' => ∃ a m cap er, e = .returned (.tuple #[.slice a m cap, .int .i64 er]) ∧ EncR w' w.heap.size (encN v n) a m cap er ∧ Below w.heap.size w w' := by
  by_cases h : 1 ≤ n ∧ n ≤ 8 ∧ v < 256 ^ n.toNat
  · obtain ⟨h1, h2, h3⟩ := h
    obtain ⟨n', rfl⟩ := Int.eq_ofNat_of_zero_le (show 0 ≤ n by omega)
    obtain ⟨v', rfl⟩ := Int.eq_ofNat_of_zero_le hv
    have h3' : v' < 256 ^ n' := by
      rw [Int.toNat_natCast, show (256 : Int) = ((256 : Nat) : Int) from rfl, ← Int.natCast_pow] at h3
      omega
    refine (number_yes v' n' w (by omega) (by omega) (by omega) h3').mono ?_
    rintro e w' ⟨rfl, ho, hb⟩
    refine ⟨_, _, _, _, rfl, Or.inl ⟨leB n' v', ?_, rfl, (leB_len _ _).symm, by omega, ho⟩, hb⟩
    unfold encN
    rw [if_pos ⟨h1, h2, h3⟩]; simp
  · refine (number_no v n w hv hv2 (by omega)).mono ?_
    rintro e w' ⟨rfl, rfl⟩
    refine ⟨_, _, _, _, rfl, Or.inr ⟨?_, rfl⟩, Below.refl _ _⟩
    unfold encN
    rw [if_neg h]
theorem text_enc (s : ByteArray) (w : World) (hs : s.size ≤ 140737488351232) :
    Calls Try.prog 13 #[.string s] w fun e w' => ∃ a m cap er, e = .returned (.tuple #[.slice a m cap, .int .i64 er]) ∧ EncR w' w.heap.size (encT s) a m cap er ∧ Below w.heap.size w w' := by
  cases h : plainB s.data.toList with
  | true =>
    refine (text_yes s w (by unfold maxLen; omega) h).mono ?_
    rintro e w' ⟨a, cap, rfl, ho, hb⟩
    refine ⟨_, _, _, _, rfl, Or.inl ⟨_, by unfold encT; rw [if_pos h], rfl, ?_, by omega, ho⟩, hb⟩
    simp; omega
  | false =>
    refine (text_no s w (by unfold maxLen; omega) h).mono ?_
    rintro e w' ⟨rfl, rfl⟩
    exact ⟨_, _, _, _, rfl, Or.inr ⟨by unfold encT; rw [if_neg (by rw [h]; simp)], rfl⟩, Below.refl _ _⟩

/-- The pieces that came in. -/
structure RdP (w : World) (a : Option Addr) (len cap : Nat) (ps : List Pc) : Prop where
  hlen : ps.length = len
  hok : ∀ p ∈ ps, p.Ok
  hcell : 0 < len → ∃ b off, a = some ⟨b, off, none⟩ ∧ b < w.heap.size ∧ ∀ i p, ps[i]? = some p → ∀ t x, p.cells[t]? = some x → w.cell? ⟨b, off + i * 4 + t, none⟩ = some x

/-- Behind some rounds: what was written lies in v3, the pieces in v4. -/
structure Inv (w wr : World) (v3 v4 : Value) (qs : List Pc) : Prop where
  o3 : wr.ownsRow w.heap.size 5 1 v3 (bytesOf qs).length ((bytesOf qs).map B)
  o4 : wr.ownsRow w.heap.size 39 4 v4 (keptOf qs).length (cellsOf (keptOf qs))
  hb : Below w.heap.size w wr

theorem below_grown {w w' : World} (h : Below w.heap.size w w') : w.grownBy w' none := ⟨h.os, h.tape, h.output, h.size, fun k hk _ => h.block k hk⟩
theorem Inv.below {w wr w1 : World} {v3 v4 : Value} {qs : List Pc} (h : Inv w wr v3 v4 qs) (hb : Below wr.heap.size wr w1) : Inv w w1 v3 v4 qs := by
  have hne : ∀ v : Value, v.ownBlock = none ∨ v.ownBlock ≠ none := fun v => by cases v.ownBlock <;> simp
  exact ⟨h.o3.kept (below_grown hb) (hne _), h.o4.kept (below_grown hb) (hne _), h.hb.trans (hb.mono h.hb.size)⟩
/-- Rows of unlike element types are not one. -/
theorem owns_apart {w : World} {base : Nat} {v v' : Value} {n m : Nat} {xs ys : List Value} (h : w.ownsRow base 5 1 v n xs) (h' : w.ownsRow base 39 4 v' m ys) : (v.ownBlock = none ∨ v.ownBlock ≠ v'.ownBlock) ∧ (v'.ownBlock = none ∨ v'.ownBlock ≠ v.ownBlock) := by
  rcases h.2 with ⟨rfl, _⟩ | ⟨g, cap, cur, rfl, _, hg, _⟩
  · refine ⟨Or.inl rfl, ?_⟩
    cases hv : v'.ownBlock with
    | none => exact Or.inl rfl
    | some k => right; simp [Value.ownBlock]
  · rcases h'.2 with ⟨rfl, _⟩ | ⟨g', cap', cur', rfl, _, hg', _⟩
    · exact ⟨Or.inr (by simp [Value.ownBlock]), Or.inl rfl⟩
    · have hne : g ≠ g' := by
        intro e
        rw [e, hg'] at hg
        simp at hg
      exact ⟨Or.inr (by simp [Value.ownBlock, hne]), Or.inr (by simp [Value.ownBlock]; omega)⟩
theorem kept_skip (qs : List Pc) (p : Pc) (h : encP p = none) : keptOf (qs ++ [p]) = keptOf qs ∧ bytesOf (qs ++ [p]) = bytesOf qs := by
  have e : keptOf (qs ++ [p]) = keptOf qs := by simp [keptOf, h]
  exact ⟨e, by unfold bytesOf; rw [e]⟩
theorem kept_add (qs : List Pc) (p : Pc) (l : List UInt8) (h : encP p = some l) : keptOf (qs ++ [p]) = keptOf qs ++ [p] ∧ bytesOf (qs ++ [p]) = bytesOf qs ++ l := by
  have e : keptOf (qs ++ [p]) = keptOf qs ++ [p] := by simp [keptOf, h]
  exact ⟨e, by unfold bytesOf; rw [e]; simp [h]⟩
theorem Inv.skip {w wr : World} {v3 v4 : Value} {qs : List Pc} (h : Inv w wr v3 v4 qs) (p : Pc) (hp : encP p = none) : Inv w wr v3 v4 (qs ++ [p]) := by
  obtain ⟨e1, e2⟩ := kept_skip qs p hp
  exact ⟨by rw [e2]; exact h.o3, by rw [e1]; exact h.o4, h.hb⟩
theorem Inv.add {w w1 w2 w3 : World} {v3 v4 v3' v4' : Value} {qs : List Pc} {o : Obj} (h : Inv w w1 v3 v4 qs) (p : Pc) (l : List UInt8) (hp : encP p = some l)
    (h3 : w2.ownsRow w.heap.size 5 1 v3' ((bytesOf qs).length + l.length) ((bytesOf qs).map B ++ l.map B)) (hg : w1.grownBy w2 v3.ownBlock)
    (h4 : w3.ownsRow w.heap.size 39 4 v4' ((keptOf qs).length + 1) (cellsOf (keptOf qs) ++ p.cells)) (hg4 : (w2.alloc o).grownBy w3 v4.ownBlock) : Inv w w3 v3' v4' (qs ++ [p]) := by
  obtain ⟨e1, e2⟩ := kept_add qs p l hp
  have ho4 := h.o4.kept hg (owns_apart h.o3 h.o4).2
  have hb2 : Below w.heap.size w w2 := h.hb.grown hg h.hb.size (fun k e => (h.o3.lt k e).1)
  refine ⟨?_, ?_, ?_⟩
  · rw [e2, List.length_append, List.map_append]
    exact (h3.alloc o).kept hg4 (owns_apart (h3.alloc o) (ho4.alloc o)).1
  · rw [e1, List.length_append]
    have : cellsOf (keptOf qs ++ [p]) = cellsOf (keptOf qs) ++ p.cells := by simp [cellsOf]
    rw [this]; exact h4
  · exact (hb2.alloc hb2.size o).grown hg4 (by have := hb2.size; simp; omega) (fun k e => (ho4.lt k e).1)
theorem bytes_take_le (ps : List Pc) (j : Nat) : (bytesOf (ps.take j)).length ≤ (bytesOf ps).length := by
  have : bytesOf ps = bytesOf (ps.take j) ++ bytesOf (ps.drop j) := by
    unfold bytesOf keptOf
    rw [← List.flatMap_append, ← List.filter_append, List.take_append_drop]
  rw [this, List.length_append]; omega
theorem kept_take_le (ps : List Pc) (j : Nat) : (keptOf (ps.take j)).length ≤ ps.length := by
  unfold keptOf
  have h1 := List.length_filter_le (fun p => (encP p).isSome) (ps.take j)
  have h2 : (ps.take j).length ≤ ps.length := List.length_take_le' j ps
  omega
theorem Try.info39 : (Try.prog.info? 39).map (fun i => (i.zero, i.size, i.bytes)) = some (some (.agg #[.int .i64 0, .int .i64 0, .int .u64 0, .string ByteArray.empty]), 4, 40) := by kernel_rfl

theorem EncR.rd {w' : World} {base : Nat} {o : Option (List UInt8)} {a : Option Addr} {m cap : Nat} {er : Int} (h : EncR w' base o a m cap er) :
    (∃ l ad, o = some l ∧ er = 0 ∧ a = some ad ∧ m = l.length ∧ (m ≤ 140737488351232 → Rd w' (some ad) m cap l)) ∨ (o = none ∧ (er != 0) = true) := by
  rcases h with ⟨l, h1, h2, h3, h4, h5⟩ | h
  · left
    rcases h5.2 with ⟨hv, h0⟩ | ⟨g, cap', cur, hv, _⟩
    · omega
    · simp only [Value.slice.injEq] at hv
      obtain ⟨rfl, _, rfl⟩ := hv
      exact ⟨l, _, h1, h2, rfl, h3, fun hs => rd_of_owns h5 hs⟩
  · exact Or.inr h
theorem piece_news (W : World) (p : Pc) : ∀ j u, p.cells[j]? = some u → (W.alloc (.cells #[.int .i64 p.kind, .int .i64 p.n, .int .u64 p.v, .string p.s] 39)).cell? ((⟨W.heap.size, 0, none⟩ : Addr).add j) = some u := by
  intro j u hj
  have hh := heap_alloc_new W (.cells #[.int .i64 p.kind, .int .i64 p.n, .int .u64 p.v, .string p.s] 39)
  have e : ((⟨W.heap.size, 0, none⟩ : Addr).add j) = ⟨W.heap.size, j, none⟩ := by unfold Addr.add; by_cases h0 : j = 0 <;> simp [h0]
  rw [e, cell_of_row _ _ _ _ 39 (0, 0) hh]
  match j, hj with
  | 0, hj => exact hj
  | 1, hj => exact hj
  | 2, hj => exact hj
  | 3, hj => exact hj
  | k + 4, hj => simp [Pc.cells] at hj
theorem piece_one (p : Pc) : ∀ u ∈ p.cells, u.oneCell' = true := by
  intro u hu
  simp only [Pc.cells, List.mem_cons, List.not_mem_nil, or_false] at hu
  rcases hu with rfl | rfl | rfl | rfl <;> rfl
/-- The piece's cells, in the world as it was when the call began. -/
structure At (w : World) (b o : Nat) (p : Pc) : Prop where
  k0 : w.cell? ⟨b, o, none⟩ = some (.int .i64 p.kind)
  k1 : w.cell? ⟨b, o + 1, none⟩ = some (.int .i64 p.n)
  k2 : w.cell? ⟨b, o + 2, none⟩ = some (.int .u64 p.v)
  k3 : w.cell? ⟨b, o + 3, none⟩ = some (.string p.s)
theorem At.below {w w' : World} {b o : Nat} {p : Pc} (h : At w b o p) {N : Nat} (hb : Below N w w') (hlt : b < N) : At w' b o p :=
  ⟨(hb.cell (p := ⟨b, _, none⟩) hlt).trans h.k0, (hb.cell (p := ⟨b, _, none⟩) hlt).trans h.k1, (hb.cell (p := ⟨b, _, none⟩) hlt).trans h.k2, (hb.cell (p := ⟨b, _, none⟩) hlt).trans h.k3⟩

theorem rend_empty {w : World} {base r : Nat} (h : Rdr w base r []) : Calls Try.prog 18 #[.pointer (some ⟨r, 0, none⟩)] w fun e w' => e = .returned (.int .i64 0) ∧ w = w' := by
  obtain ⟨a, cap, h⟩ := h
  exact rend_made h
theorem rleft_empty {w : World} {base r : Nat} (h : Rdr w base r []) : Calls Try.prog 19 #[.pointer (some ⟨r, 0, none⟩)] w fun e w' => e = .returned (.int .i64 0) ∧ w = w' := by
  obtain ⟨a, cap, h⟩ := h
  exact rleft_made h
theorem leV_leB (n v : Nat) (h : v < 256 ^ n) : leV (leB n v) = v := by
  induction n generalizing v with
  | zero => simp at h; simp [leB, leV, h]
  | succ n ih =>
    simp only [leB, leV]
    rw [ih (v / 256) (by rw [Nat.pow_succ] at h; omega)]
    have : (UInt8.ofNat (v % 256)).toNat = v % 256 := by simp
    rw [this]; omega
theorem rnumber_enc {w : World} {base r : Nat} {l rest : List UInt8} (v n : Int) (hv : 0 ≤ v) (h : encN v n = some l) (hr : Rdr w base r (l ++ rest)) :
    Calls Try.prog 16 #[.pointer (some ⟨r, 0, none⟩), .int .i64 n] w fun e w' => e = .returned (.tuple #[.int .u64 v, .int .i64 0]) ∧ Rdr w' base r rest ∧ w.grownBy w' (some r) := by
  unfold encN at h
  split at h
  · rename_i hc
    obtain ⟨h1, h2, h3⟩ := hc
    obtain ⟨n', rfl⟩ := Int.eq_ofNat_of_zero_le (show 0 ≤ n by omega)
    obtain ⟨v', rfl⟩ := Int.eq_ofNat_of_zero_le hv
    have h3' : v' < 256 ^ n' := by
      rw [Int.toNat_natCast, show (256 : Int) = ((256 : Nat) : Int) from rfl, ← Int.natCast_pow] at h3
      omega
    simp only [Int.toNat_natCast, Option.some.injEq] at h
    subst h
    obtain ⟨a, cap, hI⟩ := hr
    have hlen := leB_len n' v'
    refine (rnumber_made hI n' (by omega) (by omega) (by simp [hlen])).mono ?_
    rintro e w' ⟨rfl, h1, h2⟩
    have e1 : (leB n' v' ++ rest).take n' = leB n' v' := List.take_left' hlen
    have e2 : (leB n' v' ++ rest).drop n' = rest := List.drop_left' hlen
    rw [e1, leV_leB n' v' h3']
    rw [e2] at h1
    exact ⟨rfl, h1, h2⟩
  · cases h
theorem rtext_enc {w : World} {base r : Nat} {l rest : List UInt8} (s : ByteArray) (h : encT s = some l) (hr : Rdr w base r (l ++ rest)) :
    Calls Try.prog 17 #[.pointer (some ⟨r, 0, none⟩)] w fun e w' => e = .returned (.tuple #[.string s, .int .i64 0]) ∧ Rdr w' base r rest ∧ w.grownBy w' (some r) := by
  unfold encT at h
  split at h
  · rename_i hp
    simp only [Option.some.injEq] at h
    subst h
    obtain ⟨a, cap, hI⟩ := hr
    have h255 : s.size ≤ 255 := by
      have hlen : s.data.toList.length = s.size := by simp
      simp [plainB] at hp
      omega
    refine (rtext_made (x := UInt8.ofNat s.size) (t := s.data.toList) (rest := rest) hI (by rw [UInt8.toNat_ofNat_of_lt' (show s.size < 256 by omega)]; simp) hp).mono ?_
    rintro e w' ⟨rfl, h1, h2⟩
    exact ⟨by simp, h1, h2⟩
  · cases h
theorem cells_get (ks : List Pc) (k t : Nat) (p : Pc) (h : ks[k]? = some p) (ht : t < 4) : (cellsOf ks)[k * 4 + t]? = p.cells[t]? := by
  induction ks generalizing k with
  | nil => cases h
  | cons q ks ih =>
    have hl : q.cells.length = 4 := rfl
    show (q.cells ++ cellsOf ks)[k * 4 + t]? = _
    cases k with
    | zero =>
      simp only [List.getElem?_cons_zero, Option.some.injEq] at h
      subst h
      rw [List.getElem?_append_left (by omega)]; simp
    | succ k =>
      rw [List.getElem?_append_right (by omega), show (k + 1) * 4 + t - q.cells.length = k * 4 + t by omega]
      exact ih k h
/-- Behind k pieces read. -/
structure Inv2 (w wr : World) (r base : Nat) (v4 : Value) (ks : List Pc) (k : Nat) : Prop where
  o4 : wr.ownsRow w.heap.size 39 4 v4 ks.length (cellsOf ks)
  rr : Rdr wr base r ((ks.drop k).flatMap fun p => (encP p).getD [])
  hb : Below w.heap.size w wr
  hr : w.heap.size ≤ r
theorem rdr_type {w : World} {base r : Nat} {l : List UInt8} (h : Rdr w base r l) : ∃ cs, w.heap[r]? = some (.cells cs 57 (0, 0)) := by
  obtain ⟨a, cap, h⟩ := h; exact ⟨_, h.hheap⟩
theorem Inv2.step {w wr w' : World} {r base : Nat} {v4 : Value} {ks : List Pc} {k : Nat} (h : Inv2 w wr r base v4 ks k) (hR : Rdr w' base r ((ks.drop (k + 1)).flatMap fun p => (encP p).getD [])) (hg : wr.grownBy w' (some r)) : Inv2 w w' r base v4 ks (k + 1) := by
  obtain ⟨cs, hcs⟩ := rdr_type h.rr
  refine ⟨h.o4.kept hg ?_, hR, h.hb.grown hg h.hb.size (fun k e => by simp at e; have := h.hr; omega), h.hr⟩
  rcases h.o4.2 with ⟨rfl, _⟩ | ⟨g, cap, cur, rfl, _, hg', _⟩
  · exact Or.inl rfl
  · right
    intro e
    simp [Value.ownBlock] at e
    rw [e, hcs] at hg'
    simp at hg'
theorem Inv2.at {w wr : World} {r base : Nat} {v4 : Value} {ks : List Pc} {k : Nat} {p : Pc} (h : Inv2 w wr r base v4 ks k) (hp : ks[k]? = some p) : ∃ g cap, v4 = .slice (some ⟨g, 0, none⟩) ks.length cap ∧ At wr g (k * 4) p := by
  have hk := (List.getElem?_eq_some_iff.mp hp).1
  rcases h.o4.2 with ⟨rfl, h0⟩ | ⟨g, cap, cur, rfl, _, hg', _⟩
  · omega
  · have c : ∀ t x, t < 4 → p.cells[t]? = some x → wr.cell? ⟨g, k * 4 + t, none⟩ = some x := fun t x ht hx => by
      rw [h.o4.cellAt _ (by omega), cells_get ks k t p hp ht, hx]
    exact ⟨g, cap, rfl, c 0 _ (by omega) rfl, c 1 _ (by omega) rfl, c 2 _ (by omega) rfl, c 3 _ (by omega) rfl⟩
theorem drop_flat (ks : List Pc) (k : Nat) (p : Pc) (l : List UInt8) (hp : ks[k]? = some p) (h : encP p = some l) : ((ks.drop k).flatMap fun p => (encP p).getD []) = l ++ ((ks.drop (k + 1)).flatMap fun p => (encP p).getD []) := by
  obtain ⟨hk, he⟩ := List.getElem?_eq_some_iff.mp hp
  rw [← List.getElem_cons_drop hk, he]
  simp [h]

set_option maxHeartbeats 4000000 in
theorem back_walk (a : Option Addr) (n c : Nat) (ps : List Pc) (w : World) (ha : RdP w a n c ps) (hn : n ≤ 1048576) (hT : (bytesOf ps).length ≤ 9437184) :
    Calls Try.prog 5 #[.slice a n c] w fun e w' => e = .returned (.bool true) ∧ Below w.heap.size w w' := by
  have hl1 := ha.hlen
  obtain ⟨i0, hi, hz0, hz1, hz2⟩ := info_parts Try.info5
  obtain ⟨i9, hi9, hz90, hz91, hz92⟩ := info_parts Try.info39
  go_enter Try.func5, Try.ntmps5
  go_wp2
  go_loopw [3, 4, 5] (fun v3 v4 i wr => ∃ j : Nat, j ≤ n ∧ i = .int .i64 j ∧ Inv w wr v3 v4 (ps.take j)) (fun _ _ i _ => n - (intOf i).toNat)
  case atStart => exact ⟨0, by omega, rfl, World.ownsRow_nil _ _ _ _, World.ownsRow_nil _ _ _ _, Below.refl _ _⟩
  case round =>
    obtain ⟨j, hj, rfl, I⟩ := hrel
    by_cases hlt : j < n
    · obtain ⟨b, off, rfl, hbw, hc⟩ := ha.hcell (by omega)
      obtain ⟨p, hp⟩ : ∃ p, ps[j]? = some p := ⟨ps[j], List.getElem?_eq_getElem (by omega)⟩
      have hok := ha.hok p (List.mem_of_getElem? hp)
      have HT : Hid (ps.take (j + 1) = ps.take j ++ [p]) := take_succ' ps j p hp
      have hL3 := bytes_take_le ps (j + 1)
      rw [HT.out] at hL3
      have hL4 := kept_take_le ps j
      generalize ps.take j = qs at *
      have hb := I.hb
      have hA : At w b (off + j * 4) p := ⟨hc j p hp 0 _ rfl, hc j p hp 1 _ rfl, hc j p hp 2 _ rfl, hc j p hp 3 _ rfl⟩
      have HA : Hid (At w b (off + j * 4) p) := hA
      have k3 := (hA.below hb hbw).k3
      clear hc hp hb hA
      go_wp2_with fail
      refine (text_enc _ _ hok.s1).mono ?_
      rintro e w1 ⟨a1, m1, cap1, er1, rfl, hE1, hb1⟩
      have I1 := I.below hb1
      have A1 := HA.out.below I1.hb hbw
      have k0 := A1.k0
      have k1 := A1.k1
      have k2 := A1.k2
      clear I hb1 k3
      by_cases hk : p.kind = 1
      · have hk' : (p.kind == 1) = true := by simp [hk]
        have HK : Hid (encP p = encN p.v p.n) := by show encP p = encN p.v p.n; unfold encP; rw [if_pos hk]
        have hv1 := hok.v1
        have hv2 := hok.v2
        clear hk hE1
        go_wp2_with fail
        go_region_with (go_at_call 14; refine (number_enc p.v p.n _ hv1 hv2).mono ?_; rintro e w2 ⟨a2, m2, cap2, er2, rfl, hE2, hb2⟩)
        all_goals
          have hb2' : Below w1.heap.size w1 w2 := ((Below.refl _ _).drew).trans hb2
          have I2 := I1.below hb2'
          have hE := hE2.rd
          rw [← HK.out] at hE
          have k3 := A1.k3
          clear I1 hE2 hb2 hb2' hk' A1
          rcases hE with ⟨l, ad, hp, rfl, rfl, rfl, hrd⟩ | ⟨hp, her⟩
          · rw [(kept_add qs p l hp).2, List.length_append] at hL3
            have hr2 := hrd (by omega)
            have Hn : Hid (∀ j u, (l.map B)[j]? = some u → w2.cell? (ad.add j) = some u) := hr2.news
            have HP : Hid (encP p = some l) := hp
            have hc0 : (l.map B).length = l.length * 1 := by simp
            have hsz := I2.hb.size
            clear hp hrd hr2 k0 k1 k2 k3
            go_wp2_with (at_builtin; refine wpList_append_own _ rfl (.tmp 51) (.tmp 52) 23 rfl w.heap.size 5 i0 (.int .u8 0) 1 1 Try.underlying23 hi hz0 hz1 hz2 rfl (by decide) _ _ _ rfl I2.o3 ad l.length cap2 (l.map B) rfl hc0 Hn.out (one_cells l) (by unfold maxLen; omega) (by omega) hsz ?_)
            intro v3' w3 ho3 hg3 _
            have hb3 : Below w.heap.size w w3 := I2.hb.grown hg3 hsz (fun k e => (I2.o3.lt k e).1)
            have ho4 := I2.o4.kept hg3 (owns_apart I2.o3 I2.o4).2
            have hsz3 := hb3.size
            have A3 := HA.out.below hb3 hbw
            have k0 := A3.k0
            have k1 := A3.k1
            have k2 := A3.k2
            have k3 := A3.k3
            obtain ⟨q3, cq3, hq3⟩ := owns_shape ho3
            subst hq3
            go_wp2_with (at_builtin; refine wpList_append_own _ rfl (.tmp 54) (.tmp 59) 34 rfl w.heap.size 39 i9 _ 4 40 Try.underlying34 hi9 hz90 hz91 hz92 rfl (by decide) _ _ _ rfl (ho4.alloc _) ⟨w3.heap.size, 0, none⟩ 1 1 p.cells rfl rfl (piece_news w3 p) (piece_one p) (by unfold maxLen; omega) (by omega) (by simp; omega) ?_)
            intro v4' w4 ho4' hg4 _
            have R : Inv w w4 _ v4' (qs ++ [p]) := I2.add p l HP.out ho3 hg3 ho4' hg4
            clear ho3 hg3 ho4 hg4 ho4' k0 k1 k2 k3 A3 hb3
            go_wp2
            go_roundw
            case rel => exact ⟨j + 1, by omega, by go_num, by rw [HT.out]; exact R⟩
            case measure => simp [intOf]; omega
          · have R : Inv w w2 _ _ (qs ++ [p]) := I2.skip p hp
            clear hp
            go_wp2
            go_roundw
            case rel => exact ⟨j + 1, by omega, by go_num, by rw [HT.out]; exact R⟩
            case measure => simp [intOf]; omega

      · have hk' : (p.kind == 1) = false := by simp [hk]
        have HK : Hid (encP p = encT p.s) := by show encP p = encT p.s; unfold encP; rw [if_neg hk]
        have hE := hE1.rd
        rw [← HK.out] at hE
        have I2 := I1
        have k3 := A1.k3
        clear I1 hE1 A1
        rcases hE with ⟨l, ad, hp, rfl, rfl, rfl, hrd⟩ | ⟨hp, her⟩
        · rw [(kept_add qs p l hp).2, List.length_append] at hL3
          have hr2 := hrd (by omega)
          have Hn : Hid (∀ j u, (l.map B)[j]? = some u → w1.cell? (ad.add j) = some u) := hr2.news
          have HP : Hid (encP p = some l) := hp
          have hc0 : (l.map B).length = l.length * 1 := by simp
          have hsz := I2.hb.size
          clear hp hrd hr2
          go_wp2_with (at_builtin; refine wpList_append_own _ rfl (.tmp 51) (.tmp 52) 23 rfl w.heap.size 5 i0 (.int .u8 0) 1 1 Try.underlying23 hi hz0 hz1 hz2 rfl (by decide) _ _ _ rfl I2.o3 ad l.length cap1 (l.map B) rfl hc0 Hn.out (one_cells l) (by unfold maxLen; omega) (by omega) hsz ?_)
          intro v3' w3 ho3 hg3 _
          have hb3 : Below w.heap.size w w3 := I2.hb.grown hg3 hsz (fun k e => (I2.o3.lt k e).1)
          have ho4 := I2.o4.kept hg3 (owns_apart I2.o3 I2.o4).2
          have hsz3 := hb3.size
          have A3 := HA.out.below hb3 hbw
          have k0 := A3.k0
          have k1 := A3.k1
          have k2 := A3.k2
          have k3 := A3.k3
          obtain ⟨q3, cq3, hq3⟩ := owns_shape ho3
          subst hq3
          go_wp2_with (at_builtin; refine wpList_append_own _ rfl (.tmp 54) (.tmp 59) 34 rfl w.heap.size 39 i9 _ 4 40 Try.underlying34 hi9 hz90 hz91 hz92 rfl (by decide) _ _ _ rfl (ho4.alloc _) ⟨w3.heap.size, 0, none⟩ 1 1 p.cells rfl rfl (piece_news w3 p) (piece_one p) (by unfold maxLen; omega) (by omega) (by simp; omega) ?_)
          intro v4' w4 ho4' hg4 _
          have R : Inv w w4 _ v4' (qs ++ [p]) := I2.add p l HP.out ho3 hg3 ho4' hg4
          clear ho3 hg3 ho4 hg4 ho4' k0 k1 k2 k3 A3 hb3
          go_wp2
          go_roundw
          case rel => exact ⟨j + 1, by omega, by go_num, by rw [HT.out]; exact R⟩
          case measure => simp [intOf]; omega
        · have R : Inv w w1 _ _ (qs ++ [p]) := I2.skip p hp
          clear hp
          go_wp2
          go_roundw
          case rel => exact ⟨j + 1, by omega, by go_num, by rw [HT.out]; exact R⟩
          case measure => simp [intOf]; omega

    · have hjn : j = n := by omega
      subst hjn
      have hLL : ps.take j = ps := List.take_of_length_le (by omega)
      rw [hLL] at I
      have HL : Hid (_ = _) := hLL
      obtain ⟨q3, cq3, hq3⟩ := owns_shape I.o3
      subst hq3
      have hk4 : (keptOf ps).length ≤ j := by have := kept_take_le ps j; rw [hLL] at this; omega
      have r3 := rd_of_owns I.o3 (by omega)
      clear hLL
      go_wp2_with fail
      refine (newReader_any _ _ _ _ _ r3).mono ?_
      rintro e w1 ⟨r, a1, cap1, rfl, hR, hb1⟩
      have I1 := I.below hb1
      have J0 : Inv2 w w1 r wr.heap.size u4 (keptOf ps) 0 := ⟨I1.o4, by rw [List.drop_zero]; exact hR.rdr, I1.hb, by have := hR.hbase; have := I.hb.size; omega⟩
      obtain ⟨q4, cq4, hq4⟩ : ∃ a cap, u4 = .slice a (keptOf ps).length cap := by
        rcases I1.o4.2 with ⟨h1, h2⟩ | ⟨g, cap', cur, hv, _⟩
        · exact ⟨none, 0, by rw [h1, h2]⟩
        · exact ⟨_, _, hv⟩
      subst hq4
      have HS : Hid (∀ p ∈ keptOf ps, (∃ l, encP p = some l) ∧ p.Ok) := by
        intro p hp
        unfold keptOf at hp
        rw [List.mem_filter] at hp
        exact ⟨Option.isSome_iff_exists.mp hp.2, ha.hok p hp.1⟩
      generalize keptOf ps = ks at *
      generalize wr.heap.size = bs at *
      clear I I1 r3 hb1 hR
      go_wp2
      go_loopw [9] (fun i wx => ∃ k : Nat, k ≤ ks.length ∧ i = .int .i64 k ∧ Inv2 w wx r bs (.slice q4 ks.length cq4) ks k) (fun i _ => ks.length - (intOf i).toNat)
      case atStart => exact ⟨0, by omega, rfl, J0⟩
      case round =>
        obtain ⟨k, hk, rfl, J⟩ := hrel
        by_cases hlt : k < ks.length
        · obtain ⟨p, hp⟩ : ∃ p, ks[k]? = some p := ⟨ks[k], List.getElem?_eq_getElem hlt⟩
          obtain ⟨⟨l, hl⟩, hok⟩ := HS.out p (List.mem_of_getElem? hp)
          obtain ⟨g, cg, hv4, A⟩ := J.at hp
          have HP : Hid (ks[k]? = some p) := hp
          simp only [Value.slice.injEq, true_and] at hv4
          obtain ⟨rfl, rfl⟩ := hv4
          have rr := J.rr
          rw [drop_flat ks k p l hp hl] at rr
          have k0 := A.k0
          have k1 := A.k1
          by_cases hkd : p.kind = 1
          · have hkd' : (p.kind == 1) = true := by simp [hkd]
            have HE : Hid (encN p.v p.n = some l) := by show encN p.v p.n = some l; rw [← hl]; unfold encP; rw [if_pos hkd]
            have hv1 := hok.v1
            clear hl hp hkd
            go_wp2_with fail
            refine (rnumber_enc p.v p.n hv1 HE.out rr).mono ?_
            rintro e w2 ⟨rfl, rr2, hg2⟩
            have J2 := J.step rr2 hg2
            have k2 : w2.cell? ⟨g, k * 4 + 2, none⟩ = some (.int .u64 p.v) := by
              rw [J2.o4.cellAt _ (by omega), cells_get ks k 2 p HP.out (by omega)]; rfl
            clear J rr rr2 k0 k1
            go_wp2
            go_roundw
            case rel => exact ⟨k + 1, by omega, by go_num, J2⟩
            case measure => simp [intOf]; omega
          · have hkd' : (p.kind == 1) = false := by simp [hkd]
            have HE : Hid (encT p.s = some l) := by show encT p.s = some l; rw [← hl]; unfold encP; rw [if_neg hkd]
            clear hl hp hkd
            go_wp2_with fail
            refine (rtext_enc p.s HE.out rr).mono ?_
            rintro e w2 ⟨rfl, rr2, hg2⟩
            have J2 := J.step rr2 hg2
            have k3 : w2.cell? ⟨g, k * 4 + 3, none⟩ = some (.string p.s) := by
              rw [J2.o4.cellAt _ (by omega), cells_get ks k 3 p HP.out (by omega)]; rfl
            clear J rr rr2 k0 k1
            go_wp2
            go_roundw
            case rel => exact ⟨k + 1, by omega, by go_num, J2⟩
            case measure => simp [intOf]; omega
        · have hkn : k = ks.length := by omega
          have rr := J.rr
          rw [hkn, List.drop_length, List.flatMap_nil] at rr
          have hb := J.hb
          clear J J0
          go_wp2_with fail
          refine (rend_empty rr).mono ?_
          rintro e w2 ⟨rfl, rfl⟩
          go_wp2_with fail
          refine (rleft_empty rr).mono ?_
          rintro e w2 ⟨rfl, rfl⟩
          go_wp2_with fail
          refine (heads_any _).mono ?_
          rintro e w2 ⟨rfl, hb2⟩
          go_wp2
          go_ret
          exact ⟨rfl, hb.trans (hb2.mono hb.size)⟩
end Go.Proofs.Ytncgdbjjlhohiaa
