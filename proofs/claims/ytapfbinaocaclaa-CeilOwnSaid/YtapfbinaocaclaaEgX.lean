import Derived.Test.YtapfbinaocaclaaEcx8
import Derived.ArgAppend
import Derived.Test.YtapfbinaocaclaaEcn
namespace Go.Proofs.Ytapfbinaocaclaa
open Go.RowKit Go.Maps
set_option linter.unusedVariables false
set_option linter.unusedSimpArgs false

/-! ### The law's grown -/
theorem run_append_keep {P : Program} (w : World) (base : Nat) (t ty e : TypeId) (i : TypeInfo) (z : Value) (size bytes : Nat) (ht : P.underlying t = some (.slice e)) (hi : P.info? e = some i) (hz : i.zero = some z)
    (hsize : i.size = size) (hby : i.bytes = bytes) (hzs : z.cells.size = size) (hsz : 0 < size) (v : Value) (n : Nat) (xs : List Value) (hown : w.ownsRow base e size v n xs)
    (ad : Addr) (m c : Nat) (news : List Value) (hl : news.length = m * size) (hnews : ∀ j u, news[j]? = some u → w.cell? (ad.add j) = some u) (h1 : ∀ u ∈ news, u.oneCell' = true)
    (h63 : n + m ≤ maxLen) (hbytes : (n + m) * bytes ≤ 140737488355328) (hbase : base ≤ w.heap.size) :
    ∃ v' w', (Builtin.append_ #[t, t] ty #[v, .slice (some ad) m c]).run P w = .ok v' w' ∧ w'.ownsRow base e size v' (n + m) (xs ++ news) ∧ w.grownBy w' v.ownBlock ∧ (v'.ownBlock = v.ownBlock ∨ v'.ownBlock = some w.heap.size) ∧ (v'.ownBlock = v.ownBlock ∨ w.grownBy w' none) := by
  obtain ⟨v', w', hr, h2, h3, h4, h5⟩ := run_append_own_at (P := P) w base t ty e i z size bytes ht hi hz hsize hby hzs hsz v n xs hown ad m c news hl hnews h1 h63 hbytes hbase
  refine ⟨v', w', hr, h2, h3, h5, ?_⟩
  rcases hown.2 with ⟨h0, _⟩ | ⟨g, cap, cur, hv, hb1, hh, q1, q2, q3, q4⟩
  · right
    rw [h0] at h3
    exact h3
  · by_cases hroom : n + m ≤ cap
    · left
      subst hsize
      have hc : ∀ j, j < news.length → (w.cell? ⟨g, 0 + n * i.size + j, none⟩).isSome = true := fun j hj => by
        rw [cell_of_row w g _ _ _ (0, 0) hh]
        have h9 : 0 + n * i.size + j < cur.size := by
          rw [q3]
          have h8 : (n + m) * i.size ≤ cap * i.size := Nat.mul_le_mul_right _ hroom
          rw [Nat.add_mul] at h8
          rw [hl] at hj
          omega
        rw [Array.getElem?_eq_getElem h9]
        rfl
      have hrun := run_append_room_cells (P := P) w t ty e i ht hi g 0 n cap ad m c news hl hnews h1 hroom hc (fun j hj => frozen_of_row w g _ _ _ hh)
      rw [hv, hrun] at hr
      injection hr with hr1 hr2
      rw [← hr1, hv]
      rfl
    · right
      obtain ⟨v2, w2, hrun, r1, r2⟩ := run_append_arg_grows (P := P) w t ty e i z size bytes ht hi hz hsize hby hzs hsz ⟨g, 0, none⟩ n cap xs hown.1 (fun j u hj => hown.cells (by rw [hv]; rfl) j u hj) ad m c news hl hnews (by omega) h63 hbytes
      rw [hv, hrun] at hr
      injection hr with hr1 hr2
      rw [← hr2]
      exact r2
theorem wpList_append_keep {P : Program} (w : World) {ops : Array Oper} {rest : List Oper} {o : Oper} {a : Act} {Q : Exit → Act → World → Prop} (hgd : o.guard = none) (s x : Operand) (t : TypeId)
    (ho : o.op = .call { callee := .builtin .append, args := #[s, x], argTypes := #[t, t] })
    (base : Nat) (e : TypeId) (i : TypeInfo) (z : Value) (size bytes : Nat) (ht : P.underlying t = some (.slice e)) (hi : P.info? e = some i) (hz : i.zero = some z)
    (hsize : i.size = size) (hby : i.bytes = bytes) (hzs : z.cells.size = size) (hsz : 0 < size)
    (v : Value) (n : Nat) (xs : List Value) (hs : a.eval s = v) (hown : w.ownsRow base e size v n xs)
    (ad : Addr) (m c : Nat) (news : List Value) (hx : a.eval x = .slice (some ad) m c) (hl : news.length = m * size) (hnews : ∀ j u, news[j]? = some u → w.cell? (ad.add j) = some u) (h1 : ∀ u ∈ news, u.oneCell' = true)
    (h63 : n + m ≤ maxLen) (hbytes : (n + m) * bytes ≤ 140737488355328) (hbase : base ≤ w.heap.size)
    (h : ∀ v' w', w'.ownsRow base e size v' (n + m) (xs ++ news) → w.grownBy w' v.ownBlock → (v'.ownBlock = v.ownBlock ∨ v'.ownBlock = some w.heap.size) → (v'.ownBlock = v.ownBlock ∨ w.grownBy w' none) → wpList P ops Q rest (a.put o.dst v') w') :
    wpList P ops Q (o :: rest) a w := by
  refine wpList_plain hgd fun K hK => ?_
  obtain ⟨v', w', hr, h2, h3, h5, h6⟩ := run_append_keep (P := P) w base t o.type e i z size bytes ht hi hz hsize hby hzs hsz v n xs hown ad m c news hl hnews h1 h63 hbytes hbase
  unfold Oper.wp execOp
  simp only [ho, resolve, invoke, builtin, Sem.run_bind, Sem.run_pure, Result.andThen_ok, List.map_toArray, List.map_cons, List.map_nil, hs, hx, hr]
  exact hK _ _ (h v' w' h2 h3 h5 h6)
end Go.Proofs.Ytapfbinaocaclaa

namespace Go.Proofs.Ytapfbinaocaclaa
open Go.RowKit Go.Maps
set_option linter.unusedVariables false
set_option linter.unusedSimpArgs false

/-- A row was grown: nothing but its block may have changed, and what it held stands. -/
structure Gw (W W' : World) (u : Value) (xs : List Value) : Prop where
  g : W.grownBy W' u.ownBlock
  c : ∀ b, u.ownBlock = some b → ∀ j a, xs[j]? = some a → W'.cell? ⟨b, j, none⟩ = some a
structure GwI (W : World) (base : Nat) (u : Value) (n : Nat) (xs : List Value) (k : Nat) (m : Int) (gv : Value) (wr : World) : Prop where
  o : wr.ownsRow base 3 1 gv (n + k) (xs ++ List.replicate k (I m))
  w : Gw W wr u xs
  a : gv.ownBlock = u.ownBlock ∨ ∃ g, gv.ownBlock = some g ∧ W.heap.size ≤ g
theorem GwI.step {W : World} {base : Nat} {u : Value} {n : Nat} {xs : List Value} {k : Nat} {m : Int} {gv v6 : Value} {wr w6 : World} (h : GwI W base u n xs k m gv wr) (hlt : ∀ b, u.ownBlock = some b → b < W.heap.size) {O : Obj}
    (h6 : w6.ownsRow base 3 1 v6 (n + k + 1) ((xs ++ List.replicate k (I m)) ++ [I m])) (hg : (wr.alloc O).grownBy w6 gv.ownBlock) (hv : v6.ownBlock = gv.ownBlock ∨ v6.ownBlock = some (wr.alloc O).heap.size) (hk : v6.ownBlock = gv.ownBlock ∨ (wr.alloc O).grownBy w6 none) : GwI W base u n xs (k + 1) m v6 w6 := by
  have hsz := h.w.g.size
  have ha : wr.grownBy (wr.alloc O) none := ⟨rfl, rfl, rfl, by simp, fun j hj _ => (below_alloc wr O).block j hj⟩
  have hgb : W.grownBy w6 u.ownBlock := by
    refine ⟨hg.os.trans (ha.os.trans h.w.g.os), hg.tape.trans (ha.tape.trans h.w.g.tape), hg.output.trans (ha.output.trans h.w.g.output), Nat.le_trans hsz (Nat.le_trans ha.size hg.size), fun j hj hne => ?_⟩
    refine (hg.block j (Nat.lt_of_lt_of_le hj (Nat.le_trans hsz ha.size)) ?_).trans ((ha.block j (Nat.lt_of_lt_of_le hj hsz) (by simp)).trans (h.w.g.block j hj hne))
    rcases h.a with e | ⟨g, e, hge⟩
    · rw [e]; exact hne
    · rw [e]
      intro e2
      have := Option.some.inj e2
      omega
  refine ⟨?_, ⟨hgb, ?_⟩, ?_⟩
  · rw [List.replicate_succ', ← List.append_assoc]
    exact h6
  · intro b hb j a hj
    have hc := ha.cell (h.w.c b hb j a hj) (by simp)
    rcases h.a with e | ⟨g, e, hge⟩
    · rcases hk with hk | hk
      · have h7 := h6.cells (g := b) (by rw [hk, e, hb]) j a (by
          rw [List.append_assoc, List.getElem?_append_left (List.getElem?_eq_some_iff.1 hj).1]
          exact hj)
        rw [addr_add, Nat.zero_add] at h7
        exact h7
      · exact hk.cell hc (by simp)
    · refine hg.cell hc ?_
      rw [e]
      intro e2
      have e3 : b = g := Option.some.inj e2
      have := hlt b hb
      omega
  · rcases hv with hv | hv
    · rcases h.a with e | ⟨g, e, hge⟩
      · exact .inl (hv.trans e)
      · exact .inr ⟨g, hv.trans e, hge⟩
    · exact .inr ⟨_, hv, Nat.le_trans hsz ha.size⟩
set_option maxHeartbeats 8000000 in
set_option maxRecDepth 100000 in
theorem grown_any (w : World) (base : Nat) (s : Sl) (l : List Int) (h : w.ownsRow base 3 1 (.slice s.a s.n s.c) l.length (l.map fun x => I x)) (hn : l.length ≤ 8796093022208) (hbase : base ≤ w.heap.size) (m : Int) : Calls Try.prog 25 #[.slice s.a s.n s.c, I m] w fun e w' => e = .returned (I ((l.length : Int) + 40)) ∧ Gw w w' (.slice s.a s.n s.c) (l.map fun x => I x) := by
  obtain ⟨i0, hi0, hz0, hz1, hz2⟩ := info_parts Try.infoInt
  have HLT : Hid (∀ b, (Value.slice s.a s.n s.c).ownBlock = some b → b < w.heap.size) := fun b hb => (h.lt b hb).2
  have H0 : Hid (GwI w base (.slice s.a s.n s.c) l.length (l.map fun x => I x) 0 m (.slice s.a s.n s.c) w) := ⟨by simpa using h, ⟨⟨rfl, rfl, rfl, Nat.le_refl _, fun _ _ _ => rfl⟩, fun b hb j a hj => by
    have h7 := h.cells hb j a hj
    rw [addr_add, Nat.zero_add] at h7
    exact h7⟩, .inl rfl⟩
  clear h
  generalize (Value.slice s.a s.n s.c) = u at *
  generalize (l.map fun x => I x) = xs at *
  generalize l.length = n at *
  go_enter Try.func25, Try.ntmps25
  go_wp2
  go_loopw [5, 6] (fun gv kv wr => ∃ k : Nat, k ≤ 40 ∧ kv = .int .i64 k ∧ Hid (GwI w base u n xs k m gv wr)) (fun _ kv _ => 40 - (intOf kv).toNat)
  case atStart => exact ⟨0, by omega, rfl, H0.out⟩
  case round =>
    clear H0
    obtain ⟨k, hk, rfl, HJ⟩ := hrel
    by_cases hlt : k < 40
    · have hlt' : (k : Int) < 40 := by omega
      have hO2 := HJ.out.o.alloc (.cells #[I m] 3)
      have hs4 := HJ.out.w.g.size
      go_wp2_with (at_builtin; refine wpList_append_keep _ rfl (.tmp 12) (.tmp 14) 34 rfl base 3 i0 (.int .i64 0) 1 8 Try.underlying34 hi0 hz0 hz1 hz2 rfl (by decide) _ _ _ rfl hO2 ⟨wr.heap.size, 0, none⟩ 1 1 [I m] rfl rfl (cells_lit wr #[I m] _) (by intro u hu; simp only [List.mem_cons, List.not_mem_nil, or_false] at hu; subst hu; rfl) (by unfold maxLen; omega) (by omega) (by simp; omega) ?_)
      intro v6 w6 h6 hg6 hv6 hk6
      have H7 : Hid (GwI w base u n xs (k + 1) m v6 w6) := HJ.out.step HLT.out (by rw [List.append_assoc]; exact h6) hg6 (hv6.imp_right (fun h => h.trans (by simp))) hk6
      clear h6 hg6 hv6 hk6 hO2 HJ hs4
      go_wp2
      go_roundw
      case rel => exact ⟨k + 1, by omega, by go_num, H7.out⟩
      case measure => simp [intOf]; omega
    · obtain rfl : k = 40 := by omega
      obtain ⟨s9, hs9, hn9⟩ := slice_of_own HJ.out.o
      subst hs9
      have H9 : Hid (s9.n = n + 40) := hn9
      have HG : Hid (Gw w wr u xs) := HJ.out.w
      clear HJ hn9
      go_wp2
      go_ret
      exact ⟨ret_int (by rw [H9.out]; simp), HG.out⟩
end Go.Proofs.Ytapfbinaocaclaa

