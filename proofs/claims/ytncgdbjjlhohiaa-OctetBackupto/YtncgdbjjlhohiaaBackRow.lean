import Derived.Test.YtncgdbjjlhohiaaBulk
import Derived.Test.YtncgdbjjlhohiaaBack
namespace Go.Proofs.Ytncgdbjjlhohiaa
open Go.ChangeShapes Go.WideShapes Go.ChangeAt Go.RowKit Go.Deep
set_option linter.unusedVariables false

theorem Try.cells3 : Try.prog.cellsOf 3 = 1 := by kernel_rfl
theorem Try.cells30 : Try.prog.cellsOf 30 = 1 := by kernel_rfl
theorem Try.cells9 : Try.prog.cellsOf 9 = 1 := by kernel_rfl
theorem Try.cells39 : Try.prog.cellsOf 39 = 4 := by kernel_rfl

/-- A piece that came in. -/
theorem pc_open {H : Type} {enc : TypeId × Value → H} {W : World} {fuel : Nat} {cs : List Value} {d : DataW H} {pl : List MemPlace}
    (h : DataW.trod enc Try.prog W 0 (fun _ => true) true fuel 39 cs = some (d, pl)) (hs : Rows.uptoBulk d ≤ 1048576) : ∃ p : Pc, cs = p.cells ∧ p.Ok ∧ p.s.size + 5 ≤ Rows.uptoBulk d := by
  obtain ⟨xs, n, _, hx, hl, hlen, hf⟩ := DataW.trod_struct Try.underlying39 h
  rw [Try.cells39] at hl
  match cs, hl, xs, hlen with
  | [c0, c1, c2, c3], _, [y0, y1, y2, y3], _ =>
    have f0 : DataW.trod enc Try.prog W 0 (fun _ => true) true n 3 [c0] = some y0 := by simpa [Try.cells3] using hf 0 _ rfl
    have f1 : DataW.trod enc Try.prog W 0 (fun _ => true) true n 3 [c1] = some y1 := by simpa [Try.cells3] using hf 1 _ rfl
    have f2 : DataW.trod enc Try.prog W 0 (fun _ => true) true n 30 [c2] = some y2 := by simpa [Try.cells30] using hf 2 _ rfl
    have f3 : DataW.trod enc Try.prog W 0 (fun _ => true) true n 9 [c3] = some y3 := by simpa [Try.cells9] using hf 3 _ rfl
    obtain ⟨a0, e0, g0, w0⟩ := DataW.trod_int Try.underlying3 f0
    obtain ⟨a1, e1, g1, w1⟩ := DataW.trod_int Try.underlying3 f1
    obtain ⟨a2, e2, g2, w2⟩ := DataW.trod_int Try.underlying30 f2
    obtain ⟨s, e3, g3, w3⟩ := DataW.trod_string Try.underlying9 f3
    simp only [List.cons.injEq, and_true] at e0 e1 e2 e3
    subst e0 e1 e2 e3 g0 g1 g2 g3
    have hd : d = .agg [.lit (.int .i64 a0), .lit (.int .i64 a1), .lit (.int .u64 a2), .lit (.string s.data.toList)] := by
      have := congrArg Prod.fst hx
      simpa using this
    have hb : Rows.uptoBulk d = s.size + 5 := by
      have e : s.data.toList.length = s.size := by simp
      rw [hd]; simp only [Rows.uptoBulk, Rows.uptoBulkAll]; omega
    obtain ⟨b1, b2⟩ := bounds_i64 w1
    obtain ⟨b3, b4⟩ := bounds_u64 w2
    exact ⟨⟨a0, a1, a2, s⟩, rfl, ⟨b1, b2, b3, by show a2 < _; omega, by show s.size ≤ _; omega⟩, by show s.size + 5 ≤ _; omega⟩

theorem enc_len (p : Pc) (l : List UInt8) (h : encP p = some l) : l.length ≤ p.s.size + 8 := by
  unfold encP at h
  split at h
  · unfold encN at h
    split at h
    · rename_i hc
      simp only [Option.some.injEq] at h
      subst h
      rw [leB_len]; omega
    · cases h
  · unfold encT at h
    split at h
    · simp only [Option.some.injEq] at h
      subst h
      have e : p.s.data.toList.length = p.s.size := by simp
      simp only [List.length_cons, e]; omega
    · cases h
theorem bytes_bulk {H : Type} (L : Nat → Pc) (D : Nat → DataW H) (n : Nat) (h : ∀ i, i < n → (L i).s.size + 5 ≤ Rows.uptoBulk (D i)) :
    (bytesOf ((List.range n).map L)).length ≤ 2 * Rows.uptoBulkAll ((List.range n).map D) := by
  induction n with
  | zero => simp [bytesOf, keptOf]
  | succ n ih =>
    rw [List.range_succ, List.map_append, List.map_append, bulk_append]
    have h1 := ih (fun i hi => h i (by omega))
    have h2 := h n (by omega)
    simp only [List.map_cons, List.map_nil, Rows.uptoBulkAll]
    cases he : encP (L n) with
    | none => rw [(kept_skip _ _ he).2]; omega
    | some l =>
      have := enc_len _ _ he
      rw [(kept_add _ _ _ he).2, List.length_append]; omega

theorem rdP_open {H : Type} {enc : TypeId × Value → H} {W : World} {a : Option Addr} {len cap : Nat} {d : DataW H} {p : List MemPlace}
    (h : DataW.Trod enc Try.prog W 0 (fun _ => true) true 34 (.slice a len cap) d p) (hs : Rows.uptoBulk d ≤ 1048576) :
    ∃ ps, RdP W a len cap ps ∧ len ≤ 1048576 ∧ (bytesOf ps).length ≤ 9437184 := by
  obtain ⟨fuel, hf⟩ := h
  rcases open_slice Try.underlying34 hf with ⟨hcs, _⟩ | ⟨x, len', cap', m, n, D, Pl, hcs, _, hl, hm, hmm, hx, hV⟩
  · simp [Value.cells] at hcs
    obtain ⟨rfl, rfl, rfl⟩ := hcs
    exact ⟨[], ⟨rfl, (fun p hp => by cases hp), fun h => by omega⟩, by omega, by simp [bytesOf, keptOf]⟩
  · simp [Value.cells] at hcs
    obtain ⟨rfl, rfl, rfl⟩ := hcs
    simp only [if_true] at hmm
    subst hmm
    rw [Try.cells39] at hV
    have hd : d = .slice ((List.range len).map D) ((List.range (m - len)).map fun j => D (len + j)) := congrArg Prod.fst hx
    have hb : Rows.uptoBulkAll ((List.range len).map D) + 1 ≤ Rows.uptoBulk d := by
      rw [hd]; simp only [Rows.uptoBulk]; omega
    have hlen := bulk_length ((List.range len).map D)
    rw [List.length_map, List.length_range] at hlen
    have inh : Inhabited Pc := ⟨⟨0, 0, 0, ByteArray.empty⟩⟩
    obtain ⟨L, hL⟩ := choose_lt (α := Pc) (n := len) (p := fun i q => (W.cells? 0 (x.add (i * 4)) 4 = some q.cells ∧ q.Ok) ∧ q.s.size + 5 ≤ Rows.uptoBulk (D i)) (fun i hi => by
      have hbi : Rows.uptoBulk (D i) ≤ Rows.uptoBulkAll ((List.range len).map D) := bulk_part (List.mem_map.mpr ⟨i, List.mem_range.mpr hi, rfl⟩)
      obtain ⟨cs', h1, h2⟩ := hV i (by omega)
      obtain ⟨q, rfl, hq, hqs⟩ := pc_open h2 (by omega)
      exact ⟨q, ⟨h1, hq⟩, hqs⟩)
    have hfl := bytes_bulk L D len (fun i hi => (hL i hi).2)
    refine ⟨(List.range len).map L, ⟨by simp, fun q hq => ?_, fun hp => ?_⟩, by omega, by omega⟩
    · obtain ⟨i, hi, rfl⟩ := List.mem_map.mp hq
      exact (hL i (List.mem_range.mp hi)).1.2
    · obtain ⟨b, off, spot⟩ := x
      obtain ⟨_, hcl, hc0⟩ := World.cells?_some (hL 0 hp).1.1
      have hspot : spot = none := by
        have := hc0 0 (by omega)
        have := World.cell?_spot (this.trans rfl)
        simpa [Addr.add] using this
      subst hspot
      have hbw : b < W.heap.size := by
        have := World.cells?_block (hL 0 hp).1.1 (by omega)
        simpa [Addr.add] using this
      refine ⟨b, off, rfl, hbw, fun i q hi t y hy => ?_⟩
      rw [List.getElem?_map] at hi
      cases hr : (List.range len)[i]? with
      | none => rw [hr] at hi; cases hi
      | some k =>
        rw [hr] at hi
        simp only [Option.map_some, Option.some.injEq] at hi
        obtain ⟨hk1, hk2⟩ := List.getElem?_eq_some_iff.mp hr
        have hki : k = i := by simpa using hk2.symm
        subst hki
        have hkl : k < len := by simpa using hk1
        subst hi
        obtain ⟨_, _, hck⟩ := World.cells?_some (hL k hkl).1.1
        have ht : t < 4 := by have := (List.getElem?_eq_some_iff.mp hy).1; simpa [Pc.cells] using this
        have := hck t ht
        rw [hy, Deep.add_add] at this
        have e : ((⟨b, off, none⟩ : Addr).add (k * 4 + t)) = ⟨b, off + k * 4 + t, none⟩ := by
          unfold Addr.add
          by_cases h0 : k * 4 + t = 0
          · rw [if_pos h0]; congr 1; omega
          · rw [if_neg h0]; simp [Nat.add_assoc]
        rw [← e]; exact this

theorem back_contract (H : Type) (enc : TypeId × Value → H) (W : World) (base : Nat) (args : Array Value) (ds gs : List (DataW H)) (before : List MemPlace)
    (hval : ∀ (j : Nat) t v, Try.f5.params[j]? = some t → args[j]? = some v → Value.okWide Try.prog W .any base t v)
    (hW : DataW.Whole enc Try.prog Try.f5.params.toList Rows.octetBackSpec.vars false W args.toList ds gs before) (hk : Rows.uptoSmall H (ds ++ gs) = true) :
    Calls Try.prog 5 args W fun e W' => ∃ v, e = .returned v ∧ Rows.octetBackSpec.post enc Try.prog Try.f5 false true false false W args v W' := by
  have hW' := hW
  obtain ⟨p, q, hA0, hV, rfl, hfz, hnd⟩ := hW
  have hA : DataW.TrodAll enc Try.prog W 0 (fun _ => true) true Try.f5.params.toList args.toList ds p := hA0
  rw [Try.params5] at hA hval
  obtain ⟨v0, vs0, d0, ds0, p0, q0, hargs, rfl, rfl, h0, r0⟩ := trodAll_cons hA
  obtain ⟨rfl, rfl, rfl⟩ := trodAll_nil r0
  obtain rfl : args = #[v0] := by cases args; simp_all
  obtain ⟨rfl, rfl⟩ := trodVars_none hV
  obtain ⟨a0, len0, cap0, rfl⟩ := okWide_slice Try.underlying34 (hval 0 34 v0 rfl rfl)
  have k0 := h0
  have lt0 : ∀ x ∈ p0, x.block < W.heap.size := by obtain ⟨m, hm⟩ := k0; exact DataW.trod_lt m _ _ _ hm
  have hb : Rows.uptoBulkAll ([d0] ++ []) ≤ 1048576 := of_decide_eq_true hk
  simp only [List.append_nil, Rows.uptoBulkAll, Nat.add_zero] at hb
  obtain ⟨ps, hps, hn, hT⟩ := rdP_open h0 hb
  clear hA0
  refine (back_walk a0 len0 cap0 ps W hps hn hT).mono fun e W' ⟨he, bel⟩ => ?_
  subst he
  exact ⟨_, rfl, _, _, _, [], _, [], hW', trodAll_mk1 (shut_bool Try.underlying4 _), (trodAll_cons_mk (Below.trod laidOut (by kernel_rfl) (of_decide_eq_true (by kernel_rfl)) k0 bel lt0) trodAll_mk0), rfl, bel.frame _, fun h => by cases h⟩

set_option maxRecDepth 100000 in
theorem back_lifted (os : Os) (started : os.Started) (H : Type) (enc : TypeId × Value → H) (F : Stop.Interp) :
    ReturnsInHanded {} Try.checked os 5 .any ((Rows.OpenSpec.upto Rows.octetBackSpec).pre6 enc Try.prog Try.f5 Rows.octetBackUptoRow.domain false) (((Rows.OpenSpec.upto Rows.octetBackSpec).at F).post enc Try.prog Try.f5 false true false false) := by
  refine returnsInHanded_of_cond (C := Try.checked) (s := Rows.OpenSpec.upto Rows.octetBackSpec) (k := Rows.uptoSmall) rfl own started (by kernel_rfl) Try.func5
    (OpenSpec.witness (enc := enc) (C := Try.checked) (s := Rows.OpenSpec.upto Rows.octetBackSpec) (k := Rows.uptoSmall) rfl false ⟨#[], #[.slice none 0 0], []⟩ 8 (by kernel_rfl) (by kernel_rfl) (by kernel_rfl)
      (x := ([.nil], [], [])) (by kernel_rfl) rfl (by kernel_rfl)) ?_
  intro W base args ds gs before hval hW _ hk _
  exact back_contract H enc W base args ds gs before hval hW hk

theorem octetBack_holds : Rows.OctetBackUptoSaid :=
  OpenClaim.holds_of_cond 5 Try.f5 rfl rfl rfl rfl rfl rfl rfl ⟨rfl, rfl, rfl, rfl, rfl⟩ rfl rfl rfl rfl rfl (by kernel_rfl) Try.func5 (by kernel_rfl)
    (of_decide_eq_true (by kernel_rfl)) (by unfold Func.isWrapper; first | (rw [if_pos (by decide +kernel)]; kernel_rfl) | (rw [if_neg (by decide +kernel)]; exact ⟨rfl, rfl⟩))
    (fun os started H enc _ F => back_lifted os started H enc F)
#print axioms octetBack_holds
end Go.Proofs.Ytncgdbjjlhohiaa
