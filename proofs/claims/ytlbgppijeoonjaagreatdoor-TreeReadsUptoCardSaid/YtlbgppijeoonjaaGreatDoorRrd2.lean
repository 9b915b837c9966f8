import Derived.Test.YtlbgppijeoonjaaGreatDoorTie
import Derived.Test.YtlbgppijeoonjaaGreatDoorCards
import Derived.Test.YtlbgppijeoonjaaGreatDoorWitX
import Derived.Test.YtlbgppijeoonjaaGreatDoorOpf
import Derived.Test.YtlbgppijeoonjaaGreatDoorDxX
import Derived.Deep.Slices
import Derived.OpenShut
import Derived.ShutString
import Derived.ChangeOld
import Derived.SizedLaws
import Derived.SevenTiedAt
namespace Go.Proofs.YtlbgppijeoonjaaGreatDoor
open Go.ChangeShapes Go.WideShapes Go.ChangeAt Go.RowKit Go.Deep
open Go.ChangeMaps (open_string shut_string)
set_option linter.unusedVariables false

theorem laidOutS : laidOutB Tryz.prog = true := by kernel_rfl
theorem cellsInt : Tryz.prog.cellsOf 3 = 1 := by kernel_rfl
/-- A slice of ints that came in. -/
theorem gaps_open {H : Type} {enc : TypeId × Value → H} {W : World} {a : Option Addr} {len cap : Nat} {d : DataW H} {p : List MemPlace}
    (h : DataW.Trod enc Tryz.prog W 0 (fun _ => true) true 25 (.slice a len cap) d p) (hd : Rows.uptoBulk d ≤ 1048576) :
    ∃ path : List Int, path.length = len ∧ len ≤ 17592186043904 ∧ (a = none → len = 0 ∧ cap = 0) ∧
      (∀ ad, a = some ad → ∀ j i, path[j]? = some i → ∃ g o, ad = ⟨g, o, none⟩ ∧ g < W.heap.size ∧ W.cell? ⟨g, o + j, none⟩ = some (.int .i64 i)) := by
  obtain ⟨fuel, hf⟩ := h
  rcases open_ints Tryz.underlying25 Tryz.underlying3 cellsInt hf with ⟨hcs, _⟩ | ⟨x, l, c, zs, hcs, _, hl, hm, hz, hx, hcell, hwz⟩
  · simp [Value.cells] at hcs
    obtain ⟨rfl, rfl, rfl⟩ := hcs
    exact ⟨[], rfl, by omega, fun _ => ⟨rfl, rfl⟩, (fun ad h => by cases h)⟩
  · simp [Value.cells] at hcs
    obtain ⟨rfl, rfl, rfl⟩ := hcs
    simp only [if_true] at hz
    have hdd : d = .slice (lits .i64 (zs.take len)) (lits .i64 (zs.drop len)) := congrArg Prod.fst hx
    rw [hdd] at hd
    have hll : (lits (H := H) .i64 (zs.take len)).length = len := by simp [lits]; omega
    have h8 : len ≤ 1048576 := by
      have h1 := bulk_length (lits (H := H) .i64 (zs.take len))
      rw [hll] at h1
      simp only [Rows.uptoBulk] at hd
      omega
    have htl : (zs.take len).length = len := by simp; omega
    obtain ⟨b, off, spot⟩ := x
    have key : ∀ j i, (zs.take len)[j]? = some i → spot = none ∧ b < W.heap.size ∧ W.cell? ⟨b, off + j, none⟩ = some (.int .i64 i) := fun j i hj => by
      have hjl : j < len := by have := (List.getElem?_eq_some_iff.1 hj).1; omega
      rw [List.getElem?_take, if_pos hjl] at hj
      have hj' : j < zs.length := by omega
      have hci := hcell j hj'
      have hg : zs.getD j 0 = i := by rw [List.getD_eq_getElem?_getD, hj]; rfl
      rw [hg] at hci
      have hspot : spot = none := by simpa [Addr.add] using World.cell?_spot (hcell 0 (by omega))
      subst hspot
      have hc2 : W.cell? ⟨b, off + j, none⟩ = some (.int .i64 i) := by
        by_cases h0 : j = 0
        · subst h0; simpa [Addr.add] using hci
        · simpa [Addr.add, h0] using hci
      exact ⟨rfl, World.block_lt_of_cell? W _ hc2, hc2⟩
    refine ⟨zs.take len, htl, by omega, (fun h => by cases h), fun ad had j i hj => ?_⟩
    cases had
    obtain ⟨rfl, hb, hc⟩ := key j i hj
    exact ⟨b, off, rfl, hb, hc⟩
theorem objsT_len (l : List Ob) : l.length ≤ (objsT l).length := by
  induction l with
  | nil => simp
  | cons a l ih =>
    rw [objsT, List.length_append, List.length_cons]
    unfold objT
    simp
    omega
set_option maxRecDepth 100000 in
theorem reads_contract (H : Type) (enc : TypeId × Value → H) (W : World) (base : Nat) (args : Array Value) (ds gs : List (DataW H)) (before : List MemPlace)
    (hval : ∀ (j : Nat) t v, Tryz.f5.params[j]? = some t → args[j]? = some v → Value.okWide Tryz.prog W .any base t v)
    (hW : DataW.Whole enc Tryz.prog Tryz.f5.params.toList Rows.treeReadsSpec.vars false W args.toList ds gs before) (hk : Rows.uptoSmall H (ds ++ gs) = true) (hL : laidMetH Tryz.prog laidT W) (hSh : W.ShapedOpen Tryz.prog) :
    Calls Tryz.prog 5 args W fun e W' => ∃ v, e = .returned v ∧ Rows.treeReadsSpec.post enc Tryz.prog Tryz.f5 false true false false W args v W' := by
  have hW' := hW
  obtain ⟨p, q, hA0, hV, rfl, hfz, hnd⟩ := hW
  have hA : DataW.TrodAll enc Tryz.prog W 0 (fun _ => true) true Tryz.f5.params.toList args.toList ds p := hA0
  rw [Tryz.params5] at hA hval
  obtain ⟨v0, vs0, d0, ds0, p0, q0, hargs, rfl, rfl, h0, r0⟩ := trodAll_cons hA
  obtain ⟨v1, vs1, d1, ds1, p1, q1, rfl, rfl, rfl, h1, r1⟩ := trodAll_cons r0
  obtain ⟨rfl, rfl, rfl⟩ := trodAll_nil r1
  obtain rfl : args = #[v0, v1] := by cases args; simp_all
  obtain ⟨rfl, rfl⟩ := trodVars_none hV
  have hb : Rows.uptoBulkAll ([d0, d1] ++ []) ≤ 1048576 := of_decide_eq_true hk
  simp only [List.append_nil, Rows.uptoBulkAll, Nat.add_zero] at hb
  have k0 := h0
  have lt0 : ∀ x ∈ p0, x.block < W.heap.size := by obtain ⟨m, hm⟩ := k0; exact DataW.trod_lt m _ _ _ hm
  obtain ⟨t, pv, rfl, hO, hfit, hof, hM⟩ := tree_openB (hval 0 24 v0 rfl rfl) h0 (by omega)
  obtain ⟨a1, len1, cap1, rfl⟩ := okWide_slice Tryz.underlying25 (hval 1 25 v1 rfl rfl)
  have k1 := h1
  have lt1 : ∀ x ∈ p1, x.block < W.heap.size := by obtain ⟨m, hm⟩ := k1; exact DataW.trod_lt m _ _ _ hm
  obtain ⟨gaps, rfl, hpl, hno, hcl⟩ := gaps_open h1 (by omega)
  clear hA0
  obtain ⟨pp, hEW⟩ := env_of hL hSh
  have hol : t.objs.length ≤ 1099511627776 := by
    have h := objsT_len t.objs
    unfold treeT at hM
    simp at hM
    omega
  have hG : gaps ≠ [] → ∃ gp op, a1 = some ⟨gp, op, none⟩ ∧ gp < W.heap.size ∧ ∀ k i, gaps[k]? = some i → W.cell? ⟨gp, op + k, none⟩ = some (.int .i64 i) := fun hne => by
    cases a1 with
    | none => exact absurd (List.eq_nil_of_length_eq_zero (hno rfl).1) hne
    | some ad =>
      cases gaps with
      | nil => exact absurd rfl hne
      | cons g0 gr =>
        obtain ⟨g, o, rfl, hg, _⟩ := hcl ad rfl 0 g0 rfl
        refine ⟨g, o, rfl, hg, fun k i hk => ?_⟩
        obtain ⟨g', o', e, _, hc⟩ := hcl _ rfl k i hk
        cases e
        exact hc
  refine (reads_any W.heap.size pp W hEW.e hEW.f t pv hO hol hfit hof (by omega) gaps a1 cap1 hpl hG).mono fun e W' ⟨he, bel⟩ => ?_
  subst he
  exact ⟨_, rfl, _, _, _, [], _, [], hW', trodAll_mk1 (shut_bool Tryz.underlying4 _), (trodAll_cons_mk (Below.trod laidOutS (by kernel_rfl) (of_decide_eq_true (by kernel_rfl)) k0 bel lt0) (trodAll_cons_mk (Below.trod laidOutS (by kernel_rfl) (of_decide_eq_true (by kernel_rfl)) k1 bel lt1) trodAll_mk0)), rfl, bel.frame _, fun h => by cases h⟩
set_option maxRecDepth 100000 in
theorem reads_lifted (os : Os) (started : os.Started) (H : Type) (enc : TypeId × Value → H) (F : Stop.Interp) :
    ReturnsInHanded {} Tryz.checked os 5 .any (fun w args => ((Rows.OpenSpec.upto Rows.treeReadsSpec).pre enc Tryz.prog Tryz.f5 [] false w args ∧ laidMetH Tryz.prog laidT w) ∧ sizedMet enc Tryz.prog Tryz.f5 (Rows.OpenSpec.upto Rows.treeReadsSpec) false w args)
      (((Rows.OpenSpec.upto Rows.treeReadsSpec).at F).post enc Tryz.prog Tryz.f5 false true false false) := by
  refine lift_cond (C := Tryz.checked) (s := Rows.OpenSpec.upto Rows.treeReadsSpec) (k := Rows.uptoSmall) rfl (X := fun w => laidMetH Tryz.prog laidT w) (fun _ _ hh h => h.of_heap hh) own started (by kernel_rfl) Tryz.func5
    (wit_cond (enc := enc) (C := Tryz.checked) (s := Rows.OpenSpec.upto Rows.treeReadsSpec) (k := Rows.uptoSmall) rfl (X := fun w => laidMetH Tryz.prog laidT w) (witW os) #[.agg #[.string ⟨#[]⟩, .string ⟨#[]⟩, .slice none 0 0, .bool false, .string ⟨#[]⟩], .slice none 0 0] 8 (witW_os os) (wit_shaped os _) (by kernel_rfl) (x := ([.agg [.lit (.string []), .lit (.string []), .nil, .lit (.bool false), .lit (.string [])], .nil], [], [])) (by kernel_rfl) (by kernel_rfl) (by kernel_rfl) (wit_met os _)) ?_
  intro W base args ds gs before hval hW hk hL hSh
  exact reads_contract H enc W base args ds gs before hval hW hk hL hSh
theorem reads_over : Rows.TreeReadsUptoSaid :=
  OpenClaim.holds_of_cond 5 Tryz.f5 rfl rfl rfl rfl rfl rfl rfl ⟨rfl, rfl, rfl, rfl, rfl⟩ rfl rfl rfl rfl rfl (by kernel_rfl) Tryz.func5 (by kernel_rfl)
    (of_decide_eq_true (by kernel_rfl)) (by unfold Func.isWrapper; first | (rw [if_pos (by decide +kernel)]; kernel_rfl) | (rw [if_neg (by decide +kernel)]; exact ⟨rfl, rfl⟩))
    (fun os started H enc _ F => reads_lifted os started H enc F)
end Go.Proofs.YtlbgppijeoonjaaGreatDoor
