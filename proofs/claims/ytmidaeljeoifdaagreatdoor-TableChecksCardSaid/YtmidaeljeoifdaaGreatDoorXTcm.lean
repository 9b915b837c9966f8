import Derived.Test.YtmidaeljeoifdaaGreatDoorXKvg
import Derived.Test.YtmidaeljeoifdaaGreatDoorXEcw
import Derived.Test.YtmidaeljeoifdaaGreatDoorThj
import Derived.Test.YtmidaeljeoifdaaGreatDoorXThi
import Derived.Test.YtmidaeljeoifdaaGreatDoorXTcp
namespace Go.Proofs.YtmidaeljeoifdaaGreatDoor
open Go.RowKit
set_option linter.unusedVariables false
set_option linter.unusedSimpArgs false

/-! ### A configuration that may be has ceilings: class' lists and ceil's -/
theorem ce_isId (v n : Int) : Ce.isId v n = isId v n := rfl
theorem ce_rkind (c : Cf) (r : Int) : Ce.rkind c r = rkind c r := rfl
theorem ce_rlink (c : Cf) (r : Int) : Ce.rlink c r = rlink c r := rfl
theorem ce_ris (n : Int) : ∀ (l : List Int) (a : Int), Ce.risF a l n = risF a l n
  | [], a => by rw [Ce.risF, risF]
  | x :: l, a => by rw [Ce.risF, risF, ce_ris n l x, ce_isId]
theorem ce_rootF (c : Cf) : ∀ (f : Nat) (r : Int), Ce.rootF c f r = rootF c f r
  | 0, r => by rw [Ce.rootF, rootF]
  | f + 1, r => by rw [Ce.rootF, rootF, ce_rootF c f, ce_isId, ce_rkind, ce_rlink]
theorem filter_two (p : Int → Bool) : ∀ l : List Int, (l.filter p).length + (l.filter fun x => !p x).length = l.length
  | [] => rfl
  | x :: l => by
    have := filter_two p l
    cases h : p x <;> simp [h] <;> omega
theorem taken_len (c : Cf) (l : List Int) : ((Ce.takenL c l).length : Int) + (intN c l : Int) = l.length := by
  have h := filter_two (fun x => rkind c x == 3) l
  have e : Ce.takenL c l = l.filter fun x => !(rkind c x == 3) := rfl
  rw [e]
  unfold intN
  omega
theorem look_may {c : Cf} (h : allF c = none) : Ce.lookE c = 0 := by
  have M := may_of h
  have hr : ∀ (j : Nat) (x : Rs), c.ress[j]? = some x → ∀ k, k < 4 → resQ c j x k = true := fun j x hj => (M.r.2 j x hj).2.2
  have hm : Ce.meetB c = true := by
    unfold Ce.meetB
    rw [Bool.and_eq_true]
    constructor
    · apply List.all_eq_true.2
      intro x hx
      obtain ⟨j, hj⟩ := List.getElem?_of_mem hx
      have hq := (M.t.2 j x hj).2.2 1 (by omega)
      have hq2 : (risF (-1) x.auto c.modes.length && risF (-1) x.res c.ress.length && risF (-1) x.evs c.evs.length && risF (-1) x.msgs c.msgs.length) = true := hq
      simp only [Bool.and_eq_true] at hq2
      unfold Ce.risT
      rw [ce_ris]
      exact hq2.1.1.2
    · apply List.all_eq_true.2
      intro x hx
      obtain ⟨j, hj⟩ := List.getElem?_of_mem hx
      have hq := (M.i.2 j x hj).2.2 1 (by omega)
      have hq2 : (risF (-1) x.res c.ress.length && risF (-1) x.msgs c.msgs.length) = true := hq
      simp only [Bool.and_eq_true] at hq2
      unfold Ce.risI
      rw [ce_ris]
      exact hq2.1
  have hl : Ce.lkB c = true := by
    unfold Ce.lkB
    apply List.all_eq_true.2
    intro x hx
    obtain ⟨j, hj⟩ := List.getElem?_of_mem hx
    have q0 : inR x.kind 1 3 = true := hr j x hj 0 (by omega)
    have q2 : isId x.link c.ress.length = true := hr j x hj 2 (by omega)
    unfold inR at q0
    simp at q0
    unfold Ce.lmB
    rw [ce_isId, q2]
    have : x.kind = 1 ∨ x.kind = 2 ∨ x.kind = 3 := by omega
    rcases this with e | e | e <;> simp [e]
  have kd : ∀ (i : Nat) (x : Rs), c.ress[i]? = some x → rkind c (i : Int) = x.kind := fun i x hi => by
    unfold rkind
    rw [Int.toNat_natCast, hi]
  have he : Ce.endsB c = true := by
    apply Ce.endsB_of
    intro i hi
    obtain ⟨x, hx⟩ : ∃ x, c.ress[i]? = some x := ⟨_, List.getElem?_eq_getElem hi⟩
    by_cases hk : x.kind = 2
    · have q3 : (x.kind != 2 || (decide (0 ≤ rootF c c.ress.length i) && rkind c (rootF c c.ress.length i) == 1)) = true := hr i x hx 3 (by omega)
      rw [hk] at q3
      simp at q3
      unfold Ce.rootN
      rw [ce_rootF]
      exact q3.1
    · rw [Ce.root_end (by rw [ce_isId]; unfold isId; simp; omega) (by rw [ce_rkind, kd i x hx]; exact hk)]
      omega
  have hn : Ce.linksB c = true := by
    unfold Ce.linksB
    apply List.all_eq_true.2
    intro i hi
    have hi' := List.mem_range.1 hi
    obtain ⟨x, hx⟩ : ∃ x, c.ress[i]? = some x := ⟨_, List.getElem?_eq_getElem hi'⟩
    unfold Ce.lfB Ce.rootN
    rw [ce_rootF, ce_rkind, ce_rkind, kd i x hx]
    by_cases hk : x.kind = 2
    · have q3 : (x.kind != 2 || (decide (0 ≤ rootF c c.ress.length i) && rkind c (rootF c c.ress.length i) == 1)) = true := hr i x hx 3 (by omega)
      rw [hk] at q3
      simp at q3
      rw [q3.2, hk]
      rfl
    · simp [hk]
  have hf : Ce.fitB c = true := by
    unfold Ce.fitB
    rw [Bool.and_eq_true]
    constructor
    · apply List.all_eq_true.2
      intro x hx
      obtain ⟨j, hj⟩ := List.getElem?_of_mem hx
      have hq : decide ((intN c x.res : Int) ≤ 1) = true := (M.t.2 j x hj).2.2 4 (by omega)
      have := taken_len c x.res
      unfold Ce.fitU
      simp at hq ⊢
      omega
    · apply List.all_eq_true.2
      intro x hx
      obtain ⟨j, hj⟩ := List.getElem?_of_mem hx
      have hq : ((intN c x.res : Int) == 0) = true := (M.i.2 j x hj).2.2 2 (by omega)
      have := taken_len c x.res
      unfold Ce.fitU
      simp at hq ⊢
      omega
  unfold Ce.lookE
  rw [hm, hl, he, hn, hf]
  rfl
end Go.Proofs.YtmidaeljeoifdaaGreatDoor

namespace Go.Proofs.YtmidaeljeoifdaaGreatDoor
open Go.RowKit Go.Shelf Go.Sort Go.Maps
set_option linter.unusedVariables false
set_option linter.unusedSimpArgs false
set_option maxHeartbeats 8000000
set_option maxRecDepth 100000

/-! ### Make of the small configuration -/
theorem RT.mono {B B' : Nat} {W : World} {l : List TkR} {u : Value} (h : RT B' W l u) (hB : B ≤ B') : RT B W l u := by
  obtain ⟨xs, h1, h2⟩ := h
  exact ⟨xs, own_mono9 h1 hB, h2.mono (fun _ _ _ h => tkO_mono9 hB h)⟩
theorem RI.mono {B B' : Nat} {W : World} {l : List IsR} {u : Value} (h : RI B' W l u) (hB : B ≤ B') : RI B W l u := by
  obtain ⟨xs, h1, h2⟩ := h
  exact ⟨xs, own_mono9 h1 hB, h2.mono (fun _ _ _ h => isO_mono9 hB h)⟩
theorem RO.mono0 {β : Type} {B B' E k : Nat} {P : β → Nat → Value → Prop} {W : World} {l : List β} {u : Value} (h : RO B' E k (fun _ => P) W l u) (hB : B ≤ B') : RO B E k (fun _ => P) W l u := by
  obtain ⟨xs, h1, h2⟩ := h
  exact ⟨xs, own_mono9 h1 hB, h2⟩
theorem SO.mono9 {B B' : Nat} {W : World} {x : Tk} {v : Ts} (h : SO B' W x v) (hB : B ≤ B') : SO B W x v := by
  obtain ⟨at_, ct, ag, cg, ar, cr, ak, ck, aa, ca, ai, ci, am, cm2, rfl, h1, h2⟩ := h
  exact ⟨at_, ct, ag, cg, ar, cr, ak, ck, aa, ca, ai, ci, am, cm2, rfl, ⟨RT.mono h1.t hB, RO.mono0 h1.r hB, RO.mono0 h1.k hB, RO.mono0 h1.a hB, RI.mono h1.i hB, RO.mono0 h1.m hB⟩, RO.mono0 h2 hB⟩
abbrev cS0 : Cf := cfS [tkS 116]
abbrev vS0 (bm g : Nat) : Vs := vsS bm ⟨some ⟨g, 0, none⟩, 1, 1⟩
abbrev tbK : Tb := tbS (tkS 116) 0 1 1 4 2 0
theorem tables_k (w : World) (bm g : Nat) (h : CfAt w cS0 (vS0 bm g)) (sch : Int) (s0 s2 s3 s4 : Sl) (hs0 : s0.n = 0) : Calls Tryz.prog 34 #[.agg (cfC cS0 (vS0 bm g)), .agg (Ce.ceC sch s0 s2 s3 s4)] w fun e w' => (∃ v : Ts, e = .returned (.agg (tbC tbK v)) ∧ SO w.heap.size w' (tkS 116) v) ∧ Below w.heap.size w w' := by
  have h0 : (0 : Nat) ≤ maxLen := Nat.zero_le _
  have hE0 : (Ce.ceC sch s0 s2 s3 s4)[0]? = some (.slice s0.a 0 s0.c) := by
    have e0 : (Ce.ceC sch s0 s2 s3 s4)[0]? = some (.slice s0.a s0.n s0.c) := rfl
    rw [e0, hs0]
  refine tables_small w (cfC cS0 (vS0 bm g)) (Ce.ceC sch s0 s2 s3 s4) rfl rfl (tkS 116) 0 [111] false false false false false false false false (some ⟨bm, 0, none⟩) 1 1 ⟨some ⟨g, 0, none⟩, 1, 1⟩ none 0 none 0 rfl rfl rfl rfl rfl rfl rfl rfl rfl rfl rfl rfl rfl
    (fun W hW => (prios_one W ⟨some ⟨g, 0, none⟩, 1, 1⟩ (tkS 116) (h.t.below hW (fun _ _ _ _ h => tkP_below9 h hW))).mono (fun e w' hq => ?_))
    (fun W => uses_any W [111] false false false false false false false false)
    (fun W hW lv hlv => (tasks_small W _ _ rfl rfl lv ⟨some ⟨g, 0, none⟩, 1, 1⟩ (tkS 116) ⟨rfl, rfl, rfl⟩ (h.t.below hW (fun _ _ _ _ h => tkP_below9 h hW)) hlv rfl rfl).mono (fun e w' hq => ?_))
    (fun W hW => (res_small W _ _ s0.a s0.c none 0 rfl rfl hE0).mono (fun e w' hq => ?_))
    (fun W hW => (ct_nil W none 0 h0).mono (fun e w' hq => ?_))
    (fun W hW => (al_nil W _ none 0 h0 rfl).mono (fun e w' hq => ?_))
    (fun W hW => (is_nil W none 0 h0).mono (fun e w' hq => ?_))
    (fun W hW => (ms_nil W _ none 0 h0 rfl).mono (fun e w' hq => ?_))
  · obtain ⟨⟨a, c, h1, h2⟩, h3⟩ := hq
    exact ⟨⟨a, c, h1, own_mono9 h2 hW.size⟩, h3⟩
  · obtain ⟨⟨a, c, h1, h2⟩, h3⟩ := hq
    exact ⟨⟨a, c, h1, RT.mono h2 hW.size⟩, h3⟩
  · obtain ⟨⟨a, c, h1, h2⟩, h3⟩ := hq
    exact ⟨⟨a, c, h1, RO.mono0 h2 hW.size⟩, h3⟩
  · obtain ⟨⟨a, c, h1, h2⟩, h3⟩ := hq
    exact ⟨⟨a, c, h1, RO.mono0 h2 hW.size⟩, h3⟩
  · obtain ⟨⟨a, c, h1, h2⟩, h3⟩ := hq
    exact ⟨⟨a, c, h1, RO.mono0 h2 hW.size⟩, h3⟩
  · obtain ⟨⟨a, c, h1, h2⟩, h3⟩ := hq
    exact ⟨⟨a, c, h1, RI.mono h2 hW.size⟩, h3⟩
  · obtain ⟨⟨a, c, h1, h2⟩, h3⟩ := hq
    exact ⟨⟨a, c, h1, RO.mono0 h2 hW.size⟩, h3⟩
theorem res_mk9 {fn : Func} {n m : Nat} (hf : fn.results = #[.cell n 30, .tmp m]) (tmps : Array Value) (b : Nat) (w : World) (C : Array Value) (u : Value) (hi : (Tryz.prog.info? 30).map (·.size) = some C.size)
    (h2 : tmps[n]? = some (.pointer (some ⟨b, 0, none⟩))) (h3 : tmps[m]? = some u) (hk : w.heap[b]? = some (.cells C 30 (0, 0))) : (results fn tmps).run Tryz.prog w = .ok (.tuple #[.agg C, u]) w := by
  have hr := run_loadVar_row w b 30 30 C (0, 0) _ hk Tryz.underlying30 rfl hi
  simp [results, hf, h2, h3, asAddr, hr]
theorem fld_code (W : World) : (Instr.field 79 (.agg #[I 0, S [], I 0]) 0).run Tryz.prog W = .ok (I 0) W := by kernel_rfl
theorem look0 : Ce.lookE cS0 = 0 := look_may all1
def zT13 : Array Value := #[I 0, I 0, .slice none 0 0, .slice none 0 0, .slice none 0 0, .slice none 0 0, .slice none 0 0, .slice none 0 0, .slice none 0 0, I 0, I 0, I 0, I 0]
theorem make_small (w : World) (bm g : Nat) (h : CfAt w cS0 (vS0 bm g)) (hE : EnvE w) : Calls Tryz.prog 11 #[.agg (cfC cS0 (vS0 bm g))] w fun e w' => (∃ v : Ts, e = .returned (.tuple #[.agg (tbC tbK v), I 0]) ∧ SO w.heap.size w' (tkS 116) v) ∧ Below w.heap.size w w' := by
  have hb : Below w.heap.size w ((w.alloc (.cells (cfC cS0 (vS0 bm g)) 47)).alloc (.cells zT13 30)) := (below_alloc w _).trans ((below_alloc _ _).mono (by simp))
  have hV1 : ((w.alloc (.cells (cfC cS0 (vS0 bm g)) 47)).alloc (.cells zT13 30)).heap[w.heap.size]? = some (.cells (cfC cS0 (vS0 bm g)) 47) := by
    rw [heap_alloc_old _ _ (by simp)]; exact heap_alloc_new w _
  have hV2 : ((w.alloc (.cells (cfC cS0 (vS0 bm g)) 47)).alloc (.cells zT13 30)).heap[w.heap.size + 1]? = some (.cells zT13 30) := by
    have := heap_alloc_new (w.alloc (.cells (cfC cS0 (vS0 bm g)) 47)) (.cells zT13 30)
    rw [World.size_alloc] at this
    exact this
  have hi18 : (Tryz.prog.info? 47).map (·.size) = some (cfC cS0 (vS0 bm g)).size := by rw [show (cfC cS0 (vS0 bm g)).size = 18 from rfl]; kernel_rfl
  have HF : Hid (∀ W, Below w.heap.size w W → Calls Tryz.prog 32 #[.agg (cfC cS0 (vS0 bm g))] W fun e w' => e = .returned (.agg #[I 0, S [], I 0]) ∧ Below W.heap.size W w') := fun W hW => by
    have := check_any7 W cS0 (vS0 bm g) (h.below hW) (lens _ (by simp)) (hE.below hW)
    rw [all1] at this
    exact this
  have HR : Hid (∀ W, Below w.heap.size w W → Calls Tryz.prog 33 #[.agg (cfC cS0 (vS0 bm g))] W fun e w' => ∃ s0 s2 s3 s4 : Sl, s0.n = 0 ∧ e = .returned (.tuple #[.agg #[.slice s0.a s0.n s0.c, I (Ce.rckX cS0).sch, .slice s2.a s2.n s2.c, .slice s3.a s3.n s3.c, .slice s4.a s4.n s4.c], I 0]) ∧ Below W.heap.size W w') := fun W hW => (Ce.reckon_any W cS0 (vS0 bm g) (h.below hW) (Nat.zero_le _) (by show (1 : Nat) ≤ _; omega) (Nat.zero_le _)).mono (fun e w' hq => by
    obtain ⟨s0, s2, s3, s4, h1, h2, h3⟩ := hq
    rw [look0] at h1
    refine ⟨s0, s2, s3, s4, ?_, h1, h3⟩
    have e0 : (Ce.rckX cS0).res = [] := by unfold Ce.rckX; rw [if_pos look0]; rfl
    have h4 := h2.a
    rw [e0] at h4
    rcases h4.2 with ⟨q, _⟩ | ⟨g', cap, cur, q, _⟩
    · injection q
    · injection q)
  have HK : Hid (∀ W, Below w.heap.size w W → ∀ s0 s2 s3 s4 : Sl, s0.n = 0 → Calls Tryz.prog 34 #[.agg (cfC cS0 (vS0 bm g)), .agg #[.slice s0.a s0.n s0.c, I (Ce.rckX cS0).sch, .slice s2.a s2.n s2.c, .slice s3.a s3.n s3.c, .slice s4.a s4.n s4.c]] W fun e w' => (∃ v : Ts, e = .returned (.agg (tbC tbK v)) ∧ SO W.heap.size w' (tkS 116) v) ∧ Below W.heap.size W w') := fun W hW s0 s2 s3 s4 h0 => tables_k W bm g (h.below hW) _ s0 s2 s3 s4 h0
  have HV : Hid (∀ W, Below ((w.alloc (.cells (cfC cS0 (vS0 bm g)) 47)).alloc (.cells zT13 30)).heap.size ((w.alloc (.cells (cfC cS0 (vS0 bm g)) 47)).alloc (.cells zT13 30)) W → W.heap[w.heap.size]? = some (.cells (cfC cS0 (vS0 bm g)) 47 (0, 0)) ∧ W.heap[w.heap.size + 1]? = some (.cells zT13 30 (0, 0)) ∧ Below w.heap.size w W) := fun W hW => ⟨(hW.block _ (heap_lt hV1)).trans hV1, (hW.block _ (heap_lt hV2)).trans hV2, hb.trans (hW.mono hb.size)⟩
  obtain ⟨sch, hsch⟩ : ∃ sch, sch = (Ce.rckX cS0).sch := ⟨_, rfl⟩
  rw [← hsch] at HR HK
  clear hsch hV1 hV2 hb h hE
  generalize hCC : cfC cS0 (vS0 bm g) = C at *
  clear hCC
  have fc := fld_code
  go_enter Tryz.func11, Tryz.ntmps11
  go_upto_region 1 with fail
  unfold zT13 at HV
  generalize ((w.alloc (.cells C 47)).alloc (.cells #[I 0, I 0, .slice none 0 0, .slice none 0 0, .slice none 0 0, .slice none 0 0, .slice none 0 0, .slice none 0 0, .slice none 0 0, I 0, I 0, I 0, I 0] 30)) = W1 at *
  obtain ⟨hv1, _, bw1⟩ := HV.out W1 (Below.refl _ _)
  have kF := HF.out W1 bw1
  go_upto_region 3 with (first | (with_reducible refine wpList_id99 ?_; refine wpList_load_row rfl 47 _ rfl w.heap.size rfl 47 _ (0, 0) _ hv1 Tryz.underlying47 rfl hi18 ?_) | (go_at_call 32; refine kF.mono ?_; clear kF; rintro e w2 ⟨rfl, b2⟩))
  clear hv1 bw1
  obtain ⟨hv2, _, bw2⟩ := HV.out w2 b2
  have kR := HR.out w2 bw2
  go_upto_region 4 with (first | (with_reducible refine wpList_id99 ?_; refine wpList_load_row rfl 47 _ rfl w.heap.size rfl 47 _ (0, 0) _ hv2 Tryz.underlying47 rfl hi18 ?_) | (go_at_call 33; refine kR.mono ?_; clear kR; rintro e w3 ⟨s0, s2, s3, s4, hn0, rfl, b3⟩; have HN0 : Hid (s0.n = 0) := hn0; clear hn0))
  have B3 := b2.trans (b3.mono b2.size)
  have b4 := below_alloc w3 (.cells #[.slice s0.a s0.n s0.c, I sch, .slice s2.a s2.n s2.c, .slice s3.a s3.n s3.c, .slice s4.a s4.n s4.c] 82)
  have hE4 := heap_alloc_new w3 (.cells #[.slice s0.a s0.n s0.c, I sch, .slice s2.a s2.n s2.c, .slice s3.a s3.n s3.c, .slice s4.a s4.n s4.c] 82)
  have B4 := B3.trans (b4.mono B3.size)
  clear hv2 bw2 b2 b3 b4 B3
  generalize (w3.alloc (.cells #[.slice s0.a s0.n s0.c, I sch, .slice s2.a s2.n s2.c, .slice s3.a s3.n s3.c, .slice s4.a s4.n s4.c] 82)) = w4 at *
  obtain ⟨hv4, _, bw4⟩ := HV.out w4 B4
  have kT := HK.out w4 bw4 s0 s2 s3 s4 HN0.out
  have hi5 : (Tryz.prog.info? 82).map (·.size) = some (#[.slice s0.a s0.n s0.c, I sch, .slice s2.a s2.n s2.c, .slice s3.a s3.n s3.c, .slice s4.a s4.n s4.c] : Array Value).size := by kernel_rfl
  generalize w3.heap.size = X3 at *
  go_upto_region 6 with fail
  go_wp2_with (first | (with_reducible refine wpList_id99 ?_; refine wpList_load_row rfl 47 _ rfl w.heap.size rfl 47 _ (0, 0) _ hv4 Tryz.underlying47 rfl hi18 ?_) | (with_reducible refine wpList_id99 ?_; refine wpList_load_row rfl 82 _ rfl X3 rfl 82 _ (0, 0) _ hE4 Tryz.underlying82 rfl hi5 ?_))
  refine kT.mono ?_
  clear kT
  rintro e w5 ⟨⟨v, rfl, hT5⟩, b5⟩
  obtain ⟨_, hr5, bw5⟩ := HV.out w5 (B4.trans (b5.mono B4.size))
  have hiT : (Tryz.prog.info? 30).map (·.size) = some (tbC tbK v).size := by kernel_rfl
  have g6 : w5.grownBy (w5.setRow (w.heap.size + 1) (tbC tbK v)) (some (w.heap.size + 1)) := Ce.grown_row _ _ _
  have Y6 := setRow_heap w5 (w.heap.size + 1) _ (tbC tbK v) _ _ hr5
  have HT5 : Hid (SO w4.heap.size w5 (tkS 116) v) := hT5
  have h1c : (tbC tbK v).all (·.oneCell') = true := by simp [tbC, Value.oneCell']
  have hsz : (#[I 0, I 0, .slice none 0 0, .slice none 0 0, .slice none 0 0, .slice none 0 0, .slice none 0 0, .slice none 0 0, .slice none 0 0, I 0, I 0, I 0, I 0] : Array Value).size = (tbC tbK v).size := rfl
  clear hT5 hv4 hE4
  generalize hTB : tbC tbK v = TB at *
  go_wp2_with (first | (with_reducible refine wpList_id99 ?_; refine wpList_store_row rfl 30 _ _ rfl (w.heap.size + 1) _ rfl rfl 30 _ hr5 hiT hsz h1c ?_))
  refine bodyPost_ret (v := .tuple #[.agg TB, I 0]) (res_mk9 Tryz.results11 _ (w.heap.size + 1) _ _ _ hiT rfl rfl Y6) rfl ?_
  subst hTB
  refine ⟨⟨v, rfl, SO.mono9 (HT5.out.store hr5 g6) bw4.size⟩, bw5.grown g6 bw5.size (fun k e => by cases e; omega)⟩
end Go.Proofs.YtmidaeljeoifdaaGreatDoor

namespace Go.Proofs.YtmidaeljeoifdaaGreatDoor
open Go.RowKit Go.Shelf Go.Sort
set_option linter.unusedVariables false
set_option linter.unusedSimpArgs false

/-! ### roomFits -/
def rmB (tb : Tb) : Bool := roomB tb (max (crowdL (tb.als.map fun x => x.ctr)) (crowdL (rcvL tb)))
set_option maxHeartbeats 16000000 in
set_option maxRecDepth 100000 in
theorem roomFits_any (tb : Tb) (v : Ts) (w : World) (h : TbAt w tb v) (hr : RoomOK tb) : Calls Tryz.prog 25 #[.agg (tbC tb v)] w fun e w' => e = .returned (.bool (rmB tb)) ∧ Below w.heap.size w w' := by
  have hb := below_alloc w (.cells (tbC tb v) 30)
  have hV0 := heap_alloc_new w (.cells (tbC tb v) 30)
  have hT0 := h.below hb
  have HB0 : Hid (Below w.heap.size w (w.alloc (.cells (tbC tb v) 30))) := hb
  have hi30 : (Tryz.prog.info? 30).map (·.size) = some (tbC tb v).size := by kernel_rfl
  obtain ⟨p0, p1, p2, p3, hp, hB⟩ : ∃ p0 p1 p2 p3 : Int, rmC tb = #[I p0, I p1, I p2, I p3] ∧ rmB tb = ((tb.depth == p0) && (tb.frames == p1) && (tb.errors == p2) && (tb.calls == p3)) := ⟨_, _, _, _, rfl, rfl⟩
  obtain ⟨R, hR⟩ : ∃ R, R = rmB tb := ⟨_, rfl⟩
  have HX : Hid (R = ((tb.depth == p0) && (tb.frames == p1) && (tb.errors == p2) && (tb.calls == p3))) := hR.trans hB
  rw [← hR]
  have kR := fun W hW => reckon_any9 tb v W (hT0.below hW) hr
  rw [hp] at kR
  clear h hb hB hR hp
  go_enter Tryz.func25, Tryz.ntmps25
  unfold tbC at *
  go_upto_region 1 with fail
  generalize (w.alloc (.cells #[I tb.uses, I tb.modes, .slice v.t.a v.t.n v.t.c, .slice v.g.a v.g.n v.g.c, .slice v.r.a v.r.n v.r.c, .slice v.k.a v.k.n v.k.c, .slice v.a.a v.a.n v.a.c, .slice v.i.a v.i.n v.i.c, .slice v.s.a v.s.n v.s.c, I tb.depth, I tb.frames, I tb.errors, I tb.calls] 30)) = W0 at *
  have cR : ∀ d os, Calls Tryz.prog 73 #[.agg #[I tb.uses, I tb.modes, .slice v.t.a v.t.n v.t.c, .slice v.g.a v.g.n v.g.c, .slice v.r.a v.r.n v.r.c, .slice v.k.a v.k.n v.k.c, .slice v.a.a v.a.n v.a.c, .slice v.i.a v.i.n v.i.c, .slice v.s.a v.s.n v.s.c, I tb.depth, I tb.frames, I tb.errors, I tb.calls]] (grow (redrawn W0 d) os) fun e w'' => e = .returned (.agg #[I p0, I p1, I p2, I p3]) ∧ ∃ p : Regrown, w'' = grow (redrawn W0 p.d) p.os := regrown_bel9 kR
  have hRV := heap_regrown9 hV0
  have x9 := cell_of_row _ w.heap.size 9 _ _ (0, 0) hV0
  have x10 := cell_of_row _ w.heap.size 10 _ _ (0, 0) hV0
  have x11 := cell_of_row _ w.heap.size 11 _ _ (0, 0) hV0
  have x12 := cell_of_row _ w.heap.size 12 _ _ (0, 0) hV0
  simp at x9 x10 x11 x12
  have y9 := cell_regrown x9
  have y10 := cell_regrown x10
  have y11 := cell_regrown x11
  have y12 := cell_regrown x12
  clear kR hT0 hr hV0 x9 x10 x11 x12
  by_cases b0 : p0 = tb.depth
  rotate_left
  · refine wp_region_quiet_below (by kernel_rfl) (by kernel_rfl) ?_
    repeat (first | (go_big_quiet_step (first | exact cR _ _)) | (refine wpQuiet_load_row9 (by kernel_rfl) 30 _ rfl w.heap.size rfl 30 _ (0, 0) _ hRV Tryz.underlying30 rfl hi30 ?_; simp only [Act.put, List.getElem_toArray, List.getElem_cons_succ, List.getElem_cons_zero, List.setIfInBounds_toArray, List.set_cons_zero, List.set_cons_succ]))
    refine wpQuiet_nil ?_
    rintro _ ⟨⟨dq, osq⟩, rfl⟩
    dsimp only
    have HB9 : Hid (Below w.heap.size w (grow (redrawn W0 dq) osq)) := HB0.out.trans ((below_regrown W0 dq osq).mono HB0.out.size)
    clear cR y9 y10 y11 y12 hRV
    generalize grow (redrawn W0 dq) osq = w9 at *
    go_wp2
    go_ret
    exact ⟨ret_bool' (by rw [HX.out, Bool.eq_iff_iff]; simp; try omega), HB9.out⟩
  subst b0
  by_cases b1 : p1 = tb.frames
  rotate_left
  · refine wp_region_quiet_below (by kernel_rfl) (by kernel_rfl) ?_
    repeat (first | (go_big_quiet_step (first | exact cR _ _)) | (refine wpQuiet_load_row9 (by kernel_rfl) 30 _ rfl w.heap.size rfl 30 _ (0, 0) _ hRV Tryz.underlying30 rfl hi30 ?_; simp only [Act.put, List.getElem_toArray, List.getElem_cons_succ, List.getElem_cons_zero, List.setIfInBounds_toArray, List.set_cons_zero, List.set_cons_succ]))
    refine wpQuiet_nil ?_
    rintro _ ⟨⟨dq, osq⟩, rfl⟩
    dsimp only
    have HB9 : Hid (Below w.heap.size w (grow (redrawn W0 dq) osq)) := HB0.out.trans ((below_regrown W0 dq osq).mono HB0.out.size)
    clear cR y9 y10 y11 y12 hRV
    generalize grow (redrawn W0 dq) osq = w9 at *
    go_wp2
    go_ret
    exact ⟨ret_bool' (by rw [HX.out, Bool.eq_iff_iff]; simp; try omega), HB9.out⟩
  subst b1
  by_cases b2 : p2 = tb.errors
  rotate_left
  · refine wp_region_quiet_below (by kernel_rfl) (by kernel_rfl) ?_
    repeat (first | (go_big_quiet_step (first | exact cR _ _)) | (refine wpQuiet_load_row9 (by kernel_rfl) 30 _ rfl w.heap.size rfl 30 _ (0, 0) _ hRV Tryz.underlying30 rfl hi30 ?_; simp only [Act.put, List.getElem_toArray, List.getElem_cons_succ, List.getElem_cons_zero, List.setIfInBounds_toArray, List.set_cons_zero, List.set_cons_succ]))
    refine wpQuiet_nil ?_
    rintro _ ⟨⟨dq, osq⟩, rfl⟩
    dsimp only
    have HB9 : Hid (Below w.heap.size w (grow (redrawn W0 dq) osq)) := HB0.out.trans ((below_regrown W0 dq osq).mono HB0.out.size)
    clear cR y9 y10 y11 y12 hRV
    generalize grow (redrawn W0 dq) osq = w9 at *
    go_wp2
    go_ret
    exact ⟨ret_bool' (by rw [HX.out, Bool.eq_iff_iff]; simp; try omega), HB9.out⟩
  subst b2
  by_cases b3 : p3 = tb.calls
  rotate_left
  · refine wp_region_quiet_below (by kernel_rfl) (by kernel_rfl) ?_
    repeat (first | (go_big_quiet_step (first | exact cR _ _)) | (refine wpQuiet_load_row9 (by kernel_rfl) 30 _ rfl w.heap.size rfl 30 _ (0, 0) _ hRV Tryz.underlying30 rfl hi30 ?_; simp only [Act.put, List.getElem_toArray, List.getElem_cons_succ, List.getElem_cons_zero, List.setIfInBounds_toArray, List.set_cons_zero, List.set_cons_succ]))
    refine wpQuiet_nil ?_
    rintro _ ⟨⟨dq, osq⟩, rfl⟩
    dsimp only
    have HB9 : Hid (Below w.heap.size w (grow (redrawn W0 dq) osq)) := HB0.out.trans ((below_regrown W0 dq osq).mono HB0.out.size)
    clear cR y9 y10 y11 y12 hRV
    generalize grow (redrawn W0 dq) osq = w9 at *
    go_wp2
    go_ret
    exact ⟨ret_bool' (by rw [HX.out, Bool.eq_iff_iff]; simp; try omega), HB9.out⟩
  subst b3
  refine wp_region_quiet_below (by kernel_rfl) (by kernel_rfl) ?_
  repeat (first | (go_big_quiet_step (first | exact cR _ _)) | (refine wpQuiet_load_row9 (by kernel_rfl) 30 _ rfl w.heap.size rfl 30 _ (0, 0) _ hRV Tryz.underlying30 rfl hi30 ?_; simp only [Act.put, List.getElem_toArray, List.getElem_cons_succ, List.getElem_cons_zero, List.setIfInBounds_toArray, List.set_cons_zero, List.set_cons_succ]))
  refine wpQuiet_nil ?_
  rintro _ ⟨⟨dq, osq⟩, rfl⟩
  dsimp only
  have HB9 : Hid (Below w.heap.size w (grow (redrawn W0 dq) osq)) := HB0.out.trans ((below_regrown W0 dq osq).mono HB0.out.size)
  clear cR y9 y10 y11 y12 hRV
  generalize grow (redrawn W0 dq) osq = w9 at *
  go_wp2
  go_ret
  exact ⟨ret_bool' (by rw [HX.out, Bool.eq_iff_iff]; simp; try omega), HB9.out⟩
end Go.Proofs.YtmidaeljeoifdaaGreatDoor

namespace Go.Proofs.YtmidaeljeoifdaaGreatDoor
open Go.RowKit Go.Shelf Go.Sort
set_option linter.unusedVariables false
set_option linter.unusedSimpArgs false

/-! ### isrsFit -/
set_option maxRecDepth 100000 in
theorem isrsFit1_any (y x : IsR) (sy sx : Sl) (X : Nat) (w : World) (hX : w.heap[X]? = some (.cells (isrC x sx) 72)) :
    Calls Tryz.prog 67 #[.agg (isrC y sy), .pointer (some ⟨X, 0, none⟩)] w fun e w' => e = .returned (.bool (apartB y x)) ∧ Below w.heap.size w w' := by
  have hb := below_alloc w (.cells (isrC y sy) 72)
  have hX0 : (w.alloc (.cells (isrC y sy) 72)).heap[X]? = some (.cells (isrC x sx) 72) := (hb.block X (heap_lt hX)).trans hX
  have hY0 := heap_alloc_new w (.cells (isrC y sy) 72)
  have ka := areApart_any y x sy sx (w.alloc (.cells (isrC y sy) 72))
  have hi88 : (Tryz.prog.info? 72).map (·.size) = some (isrC x sx).size := by kernel_rfl
  have hi88' : (Tryz.prog.info? 72).map (·.size) = some (isrC y sy).size := by kernel_rfl
  generalize apartB y x = bb at *
  clear hX
  unfold isrC at *
  have a0 := cell_of_row _ X 0 _ _ (0, 0) hX0
  have a1 := cell_of_row _ X 1 _ _ (0, 0) hX0
  have a2 := cell_of_row _ X 2 _ _ (0, 0) hX0
  simp at a0 a1 a2
  clear hX0 hY0
  go_enter Tryz.func67, Tryz.ntmps67
  go_wp2_with (go_at_call 68; refine ka.mono ?_; clear ka; rintro e w' ⟨rfl, hb2⟩)
  go_ret
  exact ⟨rfl, hb.trans (hb2.mono hb.size)⟩
theorem relem_sz (w : World) : (sizeOf (Tryz.prog.elem 27)).run Tryz.prog w = .ok 3 w := by
  have : Tryz.prog.elem 27 = 72 := by kernel_rfl
  rw [this]
  have h : (Tryz.prog.info? 72).map (·.size) = some 3 := by kernel_rfl
  cases hq : Tryz.prog.info? 72 with
  | none => rw [hq] at h; cases h
  | some i =>
    rw [hq] at h
    simp at h
    simp [sizeOf, typeInfo, hq, h]
theorem rundS : Tryz.prog.underlying 27 = some (.slice (Tryz.prog.elem 27)) := by kernel_rfl
theorem rsl_to (g off L c m : Nat) (h : m ≤ c) (wx : World) :
    (Instr.slice 27 (.slice (some ⟨g, off, none⟩) L c) none (some (I m)) none).run Tryz.prog wx = .ok (.slice (some ⟨g, off, none⟩) m c) wx := by
  rw [run_slice_h wx 27 _ L c rundS .i64 (m : Int) (by omega) (by omega), relem_sz]
  have e1 : ((m : Int)).toNat = m := by omega
  simp only [Result.andThen, sliced, e1, Option.map_some, Nat.zero_mul, Nat.sub_zero]
  simp [Addr.add]
theorem RowsAt.take {α : Type} {w : World} {k : Nat} {P : α → Nat → Value → Prop} {s : Sl} {l : List α} (h : RowsAt w k P s l) (j : Nat) (hj : j ≤ s.n) : RowsAt w k P ⟨s.a, j, s.c⟩ (l.take j) := by
  refine ⟨by rw [List.length_take]; have := h.n; simp only; omega, Nat.le_trans hj h.c, h.m, fun i x hx => ?_⟩
  refine h.row i x ?_
  rw [List.getElem?_take] at hx
  split at hx
  · exact hx
  · cases hx
set_option maxHeartbeats 16000000 in
set_option maxRecDepth 100000 in
theorem isrsFit_any (tb : Tb) (v : Ts) (w : World) (h : TbAt w tb v) : Calls Tryz.prog 23 #[.agg (tbC tb v)] w fun e w' => e = .returned (.bool (isrsG tb [] tb.isrs)) ∧ Below w.heap.size w w' := by
  have hV := heap_alloc_new w (.cells (tbC tb v) 30)
  have HB : Hid (Below w.heap.size w (w.alloc (.cells (tbC tb v) 30))) := below_alloc w _
  have HT : Hid (TbAt (w.alloc (.cells (tbC tb v) 30)) tb v) := h.below HB.out
  have HVV : Hid ((w.alloc (.cells (tbC tb v) 30)).heap[w.heap.size]? = some (.cells (tbC tb v) 30)) := hV
  obtain ⟨c0, c1, c2, c3, c4, c5, c6, c7, c8, c9, c10, c11, c12⟩ := var13 hV
  have HS : Hid (v.i.n = tb.isrs.length) := h.i.n
  have hsc : v.i.n ≤ v.i.c := h.i.c
  have hsm : v.i.c ≤ maxLen := h.i.m
  unfold maxLen at hsm
  have hi30 : (Tryz.prog.info? 30).map (·.size) = some (tbC tb v).size := by kernel_rfl
  obtain ⟨R, hR⟩ : ∃ R, R = isrsG tb [] tb.isrs := ⟨_, rfl⟩
  rw [← hR]
  have HR : Hid (R = isrsG tb (tb.isrs.take 0) (tb.isrs.drop 0)) := by show _ = _; simpa using hR
  clear hR h hV c0 c1 c2 c3 c4 c5 c6 c8 c9 c10 c11 c12
  go_enter Tryz.func23, Tryz.ntmps23
  unfold tbC at *
  generalize hW : w.alloc (.cells #[I tb.uses, I tb.modes, .slice v.t.a v.t.n v.t.c, .slice v.g.a v.g.n v.g.c, .slice v.r.a v.r.n v.r.c, .slice v.k.a v.k.n v.k.c, .slice v.a.a v.a.n v.a.c, .slice v.i.a v.i.n v.i.c, .slice v.s.a v.s.n v.s.c, I tb.depth, I tb.frames, I tb.errors, I tb.calls] 30) = W1 at *
  go_upto_region 1 with fail
  clear hW
  go_wp2
  go_loopw [3, 4, 8] (fun _ _ iv wr => ∃ (j : Nat), j ≤ v.i.n ∧ iv = .int .i64 j ∧ Hid (R = isrsG tb (tb.isrs.take j) (tb.isrs.drop j) ∧ Below W1.heap.size W1 wr)) (fun _ _ iv _ => v.i.n - (intOf iv).toNat)
  case atStart => exact ⟨0, by omega, rfl, HR.out, Below.refl _ _⟩
  case round =>
    clear HR
    obtain ⟨j, hj, rfl, HJ⟩ := hrel
    by_cases hlt : j < v.i.n
    · have hlt' : (j : Int) < v.i.n := by omega
      obtain ⟨x, hx⟩ : ∃ x, tb.isrs[j]? = some x := ⟨_, List.getElem?_eq_getElem (by rw [← HS.out]; exact hlt)⟩
      obtain ⟨g5, o5, s2, e5, hg5, x0, x1, x2, r2⟩ := isr_at (HT.out.below HJ.out.2) hx
      have HX : Hid (R = (isB tb x && (tb.isrs.take j).all (fun a => apartB a x) && isrsG tb (tb.isrs.take (j + 1)) (tb.isrs.drop (j + 1)))) := by
        have h9 := HJ.out.1
        rw [drop_at hx, isrsG] at h9
        rw [List.take_add_one, hx]
        exact h9
      have b0 := HJ.out.2
      have bX : Below W1.heap.size W1 (wr.alloc (.cells #[I x.cat, I x.prio, .slice s2.a s2.n s2.c] 72)) := b0.trans ((below_alloc wr _).mono b0.size)
      have hXX := heap_alloc_new wr (.cells #[I x.cat, I x.prio, .slice s2.a s2.n s2.c] 72)
      have hV0 : (wr.alloc (.cells #[I x.cat, I x.prio, .slice s2.a s2.n s2.c] 72)).heap[w.heap.size]? = some (.cells #[I tb.uses, I tb.modes, .slice v.t.a v.t.n v.t.c, .slice v.g.a v.g.n v.g.c, .slice v.r.a v.r.n v.r.c, .slice v.k.a v.k.n v.k.c, .slice v.a.a v.a.n v.a.c, .slice v.i.a v.i.n v.i.c, .slice v.s.a v.s.n v.s.c, I tb.depth, I tb.frames, I tb.errors, I tb.calls] 30) := (bX.block w.heap.size (heap_lt HVV.out)).trans HVV.out
      have r20 := r2.below (below_alloc wr (.cells #[I x.cat, I x.prio, .slice s2.a s2.n s2.c] 72)) (fun _ _ _ _ h => h)
      have hga := e5
      rw [e5]
      clear hx HJ b0 r2
      go_upto_region 4 with fail
      generalize wr.heap.size = X at *
      generalize (wr.alloc (.cells #[I x.cat, I x.prio, .slice s2.a s2.n s2.c] 72)) = W0 at *
      have kf := isrFits_any tb v x s2 W0 (HT.out.below bX) r20
      unfold tbC isrC at kf
      have ke : ∀ W2, Below W0.heap.size W0 W2 → Calls Tryz.prog 66 #[.slice (some ⟨g5, o5, none⟩) j v.i.c, .func (.func 67) #[] #[.pointer (some ⟨X, 0, none⟩)]] W2 fun e w' => e = .returned (.bool ((tb.isrs.take j).all (fun a => apartB a x))) ∧ Below W2.heap.size W2 w' := fun W2 hW2 =>
        every_isr W2 ⟨some ⟨g5, o5, none⟩, j, v.i.c⟩ (tb.isrs.take j) (fun W hW => by
          have := ((HT.out.below bX).below (hW2.trans (hW.mono hW2.size))).i.take j (by omega)
          rw [hga] at this
          exact this) 67 #[.pointer (some ⟨X, 0, none⟩)] (enters_of Tryz.func67 (by kernel_rfl) rfl) (fun a => apartB a x) (fun W hW y hy sy _ => isrsFit1_any y x sy s2 X W (((hW2.trans (hW.mono hW2.size)).block X (heap_lt hXX)).trans hXX))
      have hsl := fun wx => rsl_to g5 o5 v.i.n v.i.c j (by omega) wx
      have y0 := cell_of_row _ X 0 _ _ (0, 0) hXX
      have y1 := cell_of_row _ X 1 _ _ (0, 0) hXX
      have y2 := cell_of_row _ X 2 _ _ (0, 0) hXX
      simp at y0 y1 y2
      have HV7 : Hid (∀ W2, Below W0.heap.size W0 W2 → W2.cell? ⟨w.heap.size, 7, none⟩ = some (.slice (some ⟨g5, o5, none⟩) v.i.n v.i.c)) := fun W2 hW2 => by
        have h1 := (var13 ((hW2.block w.heap.size (heap_lt hV0)).trans hV0)).2.2.2.2.2.2.2.1
        rw [hga] at h1
        exact h1
      have HB0 : Hid (Below w.heap.size w W0) := HB.out.trans (bX.mono HB.out.size)
      have HBX : Hid (Below W1.heap.size W1 W0) := bX
      clear hXX bX r20 e5 hga x0 x1 x2
      have hV0' : Hid (W0.heap[w.heap.size]? = some (.cells #[I tb.uses, I tb.modes, .slice v.t.a v.t.n v.t.c, .slice v.g.a v.g.n v.g.c, .slice v.r.a v.r.n v.r.c, .slice v.k.a v.k.n v.k.c, .slice v.a.a v.a.n v.a.c, .slice v.i.a v.i.n v.i.c, .slice v.s.a v.s.n v.s.c, I tb.depth, I tb.frames, I tb.errors, I tb.calls] 30)) := hV0
      clear hV0
      cases b1 : isB tb x with
      | false =>
        rw [b1] at kf HX
        go_wp2_with (first
          | (refine wpList_load_row rfl 30 _ rfl w.heap.size rfl 30 _ (0, 0) _ hV0'.out Tryz.underlying30 rfl hi30 ?_)
          | (go_at_call 65; refine kf.mono ?_; clear kf; rintro e w2 ⟨rfl, hb2⟩))
        go_ret
        exact ⟨ret_bool' (by rw [HX.out]; simp), HB0.out.trans (hb2.mono HB0.out.size)⟩
      | true =>
        rw [b1] at kf HX
        cases b2 : (tb.isrs.take j).all (fun a => apartB a x) with
        | false =>
          rw [b2] at HX
          go_wp2_with (first
            | (refine wpList_load_row rfl 30 _ rfl w.heap.size rfl 30 _ (0, 0) _ hV0'.out Tryz.underlying30 rfl hi30 ?_)
            | (go_at_call 65; refine kf.mono ?_; clear kf; rintro e w2 ⟨rfl, hb2⟩; have q7 := HV7.out w2 hb2; have kg := ke w2 hb2; rw [b2] at kg)
            | (go_at_call 66; refine kg.mono ?_; clear kg; rintro e w3 ⟨rfl, hb3⟩))
          go_ret
          exact ⟨ret_bool' (by rw [HX.out]; simp), HB0.out.trans ((hb2.trans (hb3.mono hb2.size)).mono HB0.out.size)⟩
        | true =>
          rw [b2] at HX
          go_wp2_with (first
            | (refine wpList_load_row rfl 30 _ rfl w.heap.size rfl 30 _ (0, 0) _ hV0'.out Tryz.underlying30 rfl hi30 ?_)
            | (go_at_call 65; refine kf.mono ?_; clear kf; rintro e w2 ⟨rfl, hb2⟩; have q7 := HV7.out w2 hb2; have kg := ke w2 hb2; rw [b2] at kg)
            | (go_at_call 66; refine kg.mono ?_; clear kg; rintro e w3 ⟨rfl, hb3⟩))
          go_roundw
          case rel => exact ⟨j + 1, by omega, by go_num, by rw [HX.out]; simp, HBX.out.trans ((hb2.trans (hb3.mono hb2.size)).mono HBX.out.size)⟩
          case measure => simp [intOf]; omega
    · obtain rfl : j = v.i.n := by omega
      have hlt' : ¬ ((v.i.n : Nat) : Int) < (v.i.n : Nat) := by omega
      have HE : Hid (R = true) := by
        have := HJ.out.1
        rw [List.drop_eq_nil_of_le (by rw [HS.out]; exact Nat.le_refl _), isrsG] at this
        exact this
      have HB9 : Hid (Below w.heap.size w wr) := HB.out.trans (HJ.out.2.mono HB.out.size)
      clear HJ
      go_wp2
      go_ret
      exact ⟨ret_bool' HE.out.symm, HB9.out⟩
end Go.Proofs.YtmidaeljeoifdaaGreatDoor

