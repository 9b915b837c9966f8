import Derived.Test.YtmidaeljeoifdaaGreatDoorEej
namespace Go.Proofs.YtmidaeljeoifdaaGreatDoor.Ce
set_option maxRecDepth 100000
set_option maxHeartbeats 16000000
open Go.RowKit Go.Maps
set_option linter.unusedVariables false
set_option linter.unusedSimpArgs false
theorem slice_of_own {w : World} {b n : Nat} {u : Value} {xs : List Value} (h : w.ownsRow b 3 1 u n xs) : ∃ s : Sl, u = .slice s.a s.n s.c ∧ s.n = n := by
 rcases h.2 with ⟨rfl, rfl⟩ | ⟨g, cap, cur, rfl, _⟩
 ·exact ⟨⟨none, 0, 0⟩, rfl, rfl⟩
 ·exact ⟨⟨some ⟨g, 0, none⟩, n, cap⟩, rfl, rfl⟩
def cntU (c : Cf) (isr : Bool) (l : List Int) : Nat := (takenL c l).length + (if (!isr && c.o8) = true then 1 else 0)
theorem counts1_any (W : World) (c : Cf) (v : Vs) (h : CfAt W c v) (isr : Bool) (id : Nat) (prio : Int) (s : Sl) (l : List Int) (hl : RowsAt W 1 intP s l) (hid : ∀ x ∈ l, isId x c.ress.length = true) (hlen : l.length ≤ 8796093022208) (bc bi bt base : Nat) (hc : BoxC W bc c v) (hbc : bc < base ∧ bc ≠ bi ∧ bc ≠ bt)
  (ui ut : Value) (li lt : List Int) (h2 : Two W base bi bt ui ut li lt) (hni : li.length ≤ 8796093022208) (hnt : lt.length ≤ 8796093022208) :
  Calls Tryz.prog 134 #[.agg (usC isr id prio s), .pointer (some ⟨bc, 0, none⟩), .pointer (some ⟨bi, 0, none⟩), .pointer (some ⟨bt, 0, none⟩)] W fun e w' => e = .returned (.tuple #[]) ∧ Fr2 base bi bt W w' ∧ ∃ ui' ut', Two w' base bi bt ui' ut' (if isr = true then li ++ [(cntU c isr l : Int)] else li) (if isr = true then lt else lt ++ [(cntU c isr l : Int)]) := by
 obtain ⟨i0, hi0, hz0, hz1, hz2⟩ := info_parts Tryz.infoInt
 have hi18 : (Tryz.prog.info? 47).map (·.size) = some (cfC c v).size := by rw [show (cfC c v).size = 18 from rfl]; kernel_rfl
 have hb := below_alloc W (.cells (usC isr id prio s) 207)
 have kt := taken_any _ c v (h.below hb) s l (hl.below hb (fun _ _ _ _ h => h)) hid hlen
 have htl : (takenL c l).length ≤ l.length := List.length_filter_le _ _
 have z1 : (W.alloc (.cells (usC isr id prio s) 207)).heap[bc]? = some (.cells (cfC c v) 47 (0, 0)) := heap_over _ _ hc
 have hnc : bc ≠ W.heap.size := Nat.ne_of_lt (heap_lt hc)
 have hcv : ∀ w' : World, w'.heap[bc]? = some (.cells (cfC c v) 47 (0, 0)) → w'.cell? ⟨bc, 9, none⟩ = some (.bool c.o8) := fun w' hW => by
  obtain ⟨⟨_, _, _, _, _, _, _, _, _, h9⟩, _⟩ := var18_all hW
  exact h9
 have hzu := heap_alloc_new W (.cells (usC isr id prio s) 207)
 have HF : Hid (∀ w', Below (W.alloc (.cells (usC isr id prio s) 207)).heap.size (W.alloc (.cells (usC isr id prio s) 207)) w' → Two w' base bi bt ui ut li lt ∧ w'.cell? ⟨bc, 9, none⟩ = some (.bool c.o8) ∧ w'.cell? ⟨W.heap.size, 0, none⟩ = some (.bool isr) ∧ w'.cell? ⟨bi, 0, none⟩ = some ui ∧ w'.cell? ⟨bt, 0, none⟩ = some ut ∧ Below W.heap.size W w') := fun w' hW => by
  have hbW := hb.trans (hW.mono hb.size)
  have ht := h2.below hbW
  refine ⟨ht, hcv w' ((hW.block _ (heap_lt z1)).trans z1), ?_, ?_, ?_, hbW⟩
  ·rw [cell_of_row w' _ 0 _ _ (0, 0) ((hW.block _ (heap_lt hzu)).trans hzu)]; rfl
  ·rw [cell_of_row w' _ 0 _ _ (0, 0) ht.x1]; rfl
  ·rw [cell_of_row w' _ 0 _ _ (0, 0) ht.x2]; rfl
 have HSZ : Hid (base ≤ W.heap.size) := h2.sz
 obtain ⟨N, hN⟩ : ∃ N, N = (takenL c l).length := ⟨_, rfl⟩
 have HT : Hid (cntU c isr l = N + (if (!isr && c.o8) = true then 1 else 0)) := by rw [hN]; rfl
 unfold TakPost at kt
 rw [← hN] at kt htl
 generalize (takenL c l).map (fun x => I x) = TL at *
 generalize cntU c isr l = CN at *
 generalize cfC c v = C at *
 unfold usC at *
 clear hl h hid hc h2 hb hN hcv hzu
 cases isr with
 | true =>
  have HT2 : Hid (CN = N) := HT.out
  clear HT
  go_enter Tryz.func134, Tryz.ntmps134
  go_wp2_with (first | (refine wpList_load_row rfl 47 _ rfl bc rfl 47 _ (0, 0) _ z1 Tryz.underlying47 rfl hi18 ?_) | (go_at_call 135; refine kt.mono ?_; clear kt; rintro e w2 ⟨tk, rfl, hTo, hb2⟩; obtain ⟨sT, rfl, hsT⟩ : ∃ sT : Sl, tk = .slice sT.a sT.n sT.c ∧ sT.n = N := slice_of_own hTo; rw [hsT]; obtain ⟨hTw, q9, q0, qi, qt, hbW⟩ := HF.out _ hb2; have hO2 := hTw.o1.alloc (.cells #[I (N : Int)] 3); have hsz2 := hTw.sz; clear hb2 hTo) | (at_builtin; refine wpList_append_own_at _ rfl (.tmp 18) (.tmp 20) 54 rfl base 3 i0 (.int .i64 0) 1 8 Tryz.underlying54 hi0 hz0 hz1 hz2 rfl (by decide) _ _ _ rfl hO2 ⟨w2.heap.size, 0, none⟩ 1 1 [I (N : Int)] rfl rfl (cell_one_new _ _ _) (by intro u hu; simp at hu; subst hu; rfl) (by unfold maxLen; omega) (by omega) (by simp; omega) ?_))
  intro v6 w6 ho6 hg6 _ hw6
  obtain ⟨s6, rfl, hs6⟩ := slice_of_own ho6
  clear hs6
  have e2 := two_app hTw (.cells #[I (N : Int)] 3) (N : Int) ho6 hg6 hw6
  obtain ⟨x6, t6, f6⟩ := e2
  have z6 : w6.cell? ⟨bi, 0, none⟩ = some ui := by rw [cell_of_row w6 _ 0 _ _ (0, 0) x6]; rfl
  have fz6 : w6.frozen? ⟨bi, 0, none⟩ = false := frozen_of_row w6 _ 0 _ _ x6
  have HEN : Hid (Fr2 base bi bt W (w6.setCell ⟨bi, 0, none⟩ (.slice s6.a s6.n s6.c)) ∧ ∃ ui' ut', Two (w6.setCell ⟨bi, 0, none⟩ (.slice s6.a s6.n s6.c)) base bi bt ui' ut' (li ++ [(CN : Int)]) lt) := ⟨Fr2.of hbW HSZ.out f6, _, _, by rw [HT2.out]; exact t6⟩
  clear ho6 hg6 hw6 hTw x6 t6 f6 hbW hO2
  go_wp2
  (try simp only [Exit.inBlock, Exit.then])
  refine bodyPost_end (v := .tuple #[]) ?_ rfl ?_
  ·simp [results, Tryz.results134, go_sem]
  exact ⟨rfl, HEN.out⟩
 | false =>
  cases ho8 : c.o8 with
  | true =>
   have HT2 : Hid (CN = N + 1) := by show _ = _; rw [HT.out, ho8]; rfl
   rw [ho8] at HF
   clear HT
   go_enter Tryz.func134, Tryz.ntmps134
   go_wp2_with (first | (refine wpList_load_row rfl 47 _ rfl bc rfl 47 _ (0, 0) _ z1 Tryz.underlying47 rfl hi18 ?_) | (go_at_call 135; refine kt.mono ?_; clear kt; rintro e w2 ⟨tk, rfl, hTo, hb2⟩; obtain ⟨sT, rfl, hsT⟩ : ∃ sT : Sl, tk = .slice sT.a sT.n sT.c ∧ sT.n = N := slice_of_own hTo; rw [hsT]; obtain ⟨hTw, q9, q0, qi, qt, hbW⟩ := HF.out _ hb2; have hO2 := hTw.o2.alloc (.cells #[I ((N : Int) + 1)] 3); have hsz2 := hTw.sz; clear hb2 hTo) | (at_builtin; refine wpList_append_own_at _ rfl (.tmp 26) (.tmp 29) 54 rfl base 3 i0 (.int .i64 0) 1 8 Tryz.underlying54 hi0 hz0 hz1 hz2 rfl (by decide) _ _ _ rfl hO2 ⟨w2.heap.size, 0, none⟩ 1 1 [I ((N : Int) + 1)] rfl rfl (cell_one_new _ _ _) (by intro u hu; simp at hu; subst hu; rfl) (by unfold maxLen; omega) (by omega) (by simp; omega) ?_))
   intro v6 w6 ho6 hg6 _ hw6
   obtain ⟨s6, rfl, hs6⟩ := slice_of_own ho6
   clear hs6
   have e2 := two_app hTw.swap (.cells #[I ((N : Int) + 1)] 3) ((N : Int) + 1) ho6 hg6 hw6
   obtain ⟨x6, t6, f6⟩ := e2
   have z6 : w6.cell? ⟨bt, 0, none⟩ = some ut := by rw [cell_of_row w6 _ 0 _ _ (0, 0) x6]; rfl
   have fz6 : w6.frozen? ⟨bt, 0, none⟩ = false := frozen_of_row w6 _ 0 _ _ x6
   have HEN : Hid (Fr2 base bi bt W (w6.setCell ⟨bt, 0, none⟩ (.slice s6.a s6.n s6.c)) ∧ ∃ ui' ut', Two (w6.setCell ⟨bt, 0, none⟩ (.slice s6.a s6.n s6.c)) base bi bt ui' ut' li (lt ++ [(CN : Int)])) := ⟨Fr2.of hbW HSZ.out f6.swap, _, _, by rw [HT2.out, Int.natCast_add]; exact t6.swap⟩
   clear ho6 hg6 hw6 hTw x6 t6 f6 hbW hO2
   go_wp2
   (try simp only [Exit.inBlock, Exit.then])
   refine bodyPost_end (v := .tuple #[]) ?_ rfl ?_
   ·simp [results, Tryz.results134, go_sem]
   exact ⟨rfl, HEN.out⟩
  | false =>
   have HT2 : Hid (CN = N) := by show _ = _; rw [HT.out, ho8]; rfl
   rw [ho8] at HF
   clear HT
   go_enter Tryz.func134, Tryz.ntmps134
   go_wp2_with (first | (refine wpList_load_row rfl 47 _ rfl bc rfl 47 _ (0, 0) _ z1 Tryz.underlying47 rfl hi18 ?_) | (go_at_call 135; refine kt.mono ?_; clear kt; rintro e w2 ⟨tk, rfl, hTo, hb2⟩; obtain ⟨sT, rfl, hsT⟩ : ∃ sT : Sl, tk = .slice sT.a sT.n sT.c ∧ sT.n = N := slice_of_own hTo; rw [hsT]; obtain ⟨hTw, q9, q0, qi, qt, hbW⟩ := HF.out _ hb2; have hO2 := hTw.o2.alloc (.cells #[I (N : Int)] 3); have hsz2 := hTw.sz; clear hb2 hTo) | (at_builtin; refine wpList_append_own_at _ rfl (.tmp 11) (.tmp 13) 54 rfl base 3 i0 (.int .i64 0) 1 8 Tryz.underlying54 hi0 hz0 hz1 hz2 rfl (by decide) _ _ _ rfl hO2 ⟨w2.heap.size, 0, none⟩ 1 1 [I (N : Int)] rfl rfl (cell_one_new _ _ _) (by intro u hu; simp at hu; subst hu; rfl) (by unfold maxLen; omega) (by omega) (by simp; omega) ?_))
   intro v6 w6 ho6 hg6 _ hw6
   obtain ⟨s6, rfl, hs6⟩ := slice_of_own ho6
   clear hs6
   have e2 := two_app hTw.swap (.cells #[I (N : Int)] 3) (N : Int) ho6 hg6 hw6
   obtain ⟨x6, t6, f6⟩ := e2
   have z6 : w6.cell? ⟨bt, 0, none⟩ = some ut := by rw [cell_of_row w6 _ 0 _ _ (0, 0) x6]; rfl
   have fz6 : w6.frozen? ⟨bt, 0, none⟩ = false := frozen_of_row w6 _ 0 _ _ x6
   have HEN : Hid (Fr2 base bi bt W (w6.setCell ⟨bt, 0, none⟩ (.slice s6.a s6.n s6.c)) ∧ ∃ ui' ut', Two (w6.setCell ⟨bt, 0, none⟩ (.slice s6.a s6.n s6.c)) base bi bt ui' ut' li (lt ++ [(CN : Int)])) := ⟨Fr2.of hbW HSZ.out f6.swap, _, _, by rw [HT2.out]; exact t6.swap⟩
   clear ho6 hg6 hw6 hTw x6 t6 f6 hbW hO2
   go_wp2
   (try simp only [Exit.inBlock, Exit.then])
   refine bodyPost_end (v := .tuple #[]) ?_ rfl ?_
   ·simp [results, Tryz.results134, go_sem]
   exact ⟨rfl, HEN.out⟩
end Go.Proofs.YtmidaeljeoifdaaGreatDoor.Ce
