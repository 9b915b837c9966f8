import Derived.Test.YtpbnpmeigdjfdaaGreatDoorXEej
namespace Go.Proofs.YtpbnpmeigdjfdaaGreatDoor.Ce
open Go.Maps Go.RowKit
set_option linter.unusedSimpArgs false
set_option linter.unusedVariables false
set_option maxHeartbeats 16000000
set_option maxRecDepth 100000
theorem slice_of_own {w : World} {b n : Nat} {u : Value} {xs : List Value} (h : w.ownsRow b 3 1 u n xs) : ∃ s : Sl, u = .slice s.a s.n s.c ∧ s.n = n := by
 rcases h.2 with ⟨rfl, rfl⟩ | ⟨g, cap, cur, rfl, _⟩
 ·exact ⟨⟨none, 0, 0⟩, rfl, rfl⟩
 ·exact ⟨⟨some ⟨g, 0, none⟩, n, cap⟩, rfl, rfl⟩
def cntU (c : Cf) (isr : Bool) (l : List Int) : Nat := (takenL c l).length + (if (!isr && c.o8) = true then 1 else 0)
theorem counts1_any (W : World) (c : Cf) (v : Vs) (h : CfAt W c v) (isr : Bool) (id : Nat) (prio : Int) (s : Sl) (l : List Int) (hl : RowsAt W 1 intP s l) (hid : ∀ x ∈ l, isId x c.ress.length = true) (hlen : l.length ≤ 8796093022208) (bc bi bt base : Nat) (hc : BoxC W bc c v) (hbc : bc < base ∧ bc ≠ bi ∧ bc ≠ bt)
  (ui ut : Value) (li lt : List Int) (h2 : Two W base bi bt ui ut li lt) (hni : li.length ≤ 8796093022208) (hnt : lt.length ≤ 8796093022208) :
  Calls Tryz.prog 107 #[.agg (usC isr id prio s), .pointer (some ⟨bc, 0, none⟩), .pointer (some ⟨bi, 0, none⟩), .pointer (some ⟨bt, 0, none⟩)] W fun e w' => e = .returned (.tuple #[]) ∧ Fr2 base bi bt W w' ∧ ∃ ui' ut', Two w' base bi bt ui' ut' (if isr = true then li ++ [(cntU c isr l : Int)] else li) (if isr = true then lt else lt ++ [(cntU c isr l : Int)]) := by
 obtain ⟨i0, hi0, hz0, hz1, hz2⟩ := info_parts Tryz.infoInt
 have hi18 : (Tryz.prog.info? 33).map (·.size) = some (cfC c v).size := by rw [show (cfC c v).size = 18 from rfl]; kernel_rfl
 have hb := below_alloc W (.cells (usC isr id prio s) 181)
 have kt := taken_any _ c v (h.below hb) s l (hl.below hb (fun _ _ _ _ h => h)) hid hlen
 have htl : (takenL c l).length ≤ l.length := List.length_filter_le _ _
 have z1 : (W.alloc (.cells (usC isr id prio s) 181)).heap[bc]? = some (.cells (cfC c v) 33 (0, 0)) := heap_over _ _ hc
 have hnc : bc ≠ W.heap.size := Nat.ne_of_lt (heap_lt hc)
 have hcv : ∀ w' : World, w'.heap[bc]? = some (.cells (cfC c v) 33 (0, 0)) → w'.cell? ⟨bc, 9, none⟩ = some (.bool c.o8) := fun w' hW => by
  obtain ⟨⟨_, _, _, _, _, _, _, _, _, h9⟩, _⟩ := var18_all hW
  exact h9
 have hzu := heap_alloc_new W (.cells (usC isr id prio s) 181)
 have HF : Hid (∀ w', Below (W.alloc (.cells (usC isr id prio s) 181)).heap.size (W.alloc (.cells (usC isr id prio s) 181)) w' → Two w' base bi bt ui ut li lt ∧ w'.cell? ⟨bc, 9, none⟩ = some (.bool c.o8) ∧ w'.cell? ⟨W.heap.size, 0, none⟩ = some (.bool isr) ∧ w'.cell? ⟨bi, 0, none⟩ = some ui ∧ w'.cell? ⟨bt, 0, none⟩ = some ut ∧ Below W.heap.size W w') := fun w' hW => by
  have hbW := hb.trans (hW.mono hb.size)
  have ht := h2.below hbW
  refine ⟨ht, hcv w' ((hW.block _ (heap_lt z1)).trans z1), ?_, ?_, ?_, hbW⟩
  ·rw [cell_of_row w' _ 0 _ _ (0, 0) ((hW.block _ (heap_lt hzu)).trans hzu)]; rfl
  ·rw [cell_of_row w' _ 0 _ _ (0, 0) ht.x1]; rfl
  ·rw [cell_of_row w' _ 0 _ _ (0, 0) ht.x2]; rfl
 have HSZ : Hid (base ≤ W.heap.size) := h2.sz
 obtain ⟨N, hN⟩ : ∃ N, N = (takenL c l).length := ⟨_, rfl⟩
 have HT : Hid (cntU c isr l = N + (if (!isr && c.o8) = true then 1 else 0)) := by rw [hN]; rfl
 unfold TakPost at kt
 rw [← hN] at kt htl
 generalize (takenL c l).map (fun x => I x) = TL at *
 generalize cntU c isr l = CN at *
 generalize cfC c v = C at *
 unfold usC at *
 clear hl h hid hc h2 hb hN hcv hzu
 cases isr with
 | true =>
  have HT2 : Hid (CN = N) := HT.out
  clear HT
  go_enter Tryz.func107, Tryz.ntmps107
  go_wp2_with (first | (refine wpList_load_row rfl 33 _ rfl bc rfl 33 _ (0, 0) _ z1 Tryz.underlying33 rfl hi18 ?_) | (go_at_call 108; refine kt.mono ?_; clear kt; rintro e w2 ⟨tk, rfl, hTo, hb2⟩; obtain ⟨sT, rfl, hsT⟩ : ∃ sT : Sl, tk = .slice sT.a sT.n sT.c ∧ sT.n = N := slice_of_own hTo; rw [hsT]; obtain ⟨hTw, q9, q0, qi, qt, hbW⟩ := HF.out _ hb2; have hO2 := hTw.o1.alloc (.cells #[I (N : Int)] 3); have hsz2 := hTw.sz; clear hb2 hTo) | (at_builtin; refine wpList_append_own_at _ rfl (.tmp 18) (.tmp 20) 64 rfl base 3 i0 (.int .i64 0) 1 8 Tryz.underlying64 hi0 hz0 hz1 hz2 rfl (by decide) _ _ _ rfl hO2 ⟨w2.heap.size, 0, none⟩ 1 1 [I (N : Int)] rfl rfl (cell_one_new _ _ _) (by intro u hu; simp at hu; subst hu; rfl) (by unfold maxLen; omega) (by omega) (by simp; omega) ?_))
  intro v6 w6 ho6 hg6 _ hw6
  obtain ⟨s6, rfl, hs6⟩ := slice_of_own ho6
  clear hs6
  have e2 := two_app hTw (.cells #[I (N : Int)] 3) (N : Int) ho6 hg6 hw6
  obtain ⟨x6, t6, f6⟩ := e2
  have z6 : w6.cell? ⟨bi, 0, none⟩ = some ui := by rw [cell_of_row w6 _ 0 _ _ (0, 0) x6]; rfl
  have fz6 : w6.frozen? ⟨bi, 0, none⟩ = false := frozen_of_row w6 _ 0 _ _ x6
  have HEN : Hid (Fr2 base bi bt W (w6.setCell ⟨bi, 0, none⟩ (.slice s6.a s6.n s6.c)) ∧ ∃ ui' ut', Two (w6.setCell ⟨bi, 0, none⟩ (.slice s6.a s6.n s6.c)) base bi bt ui' ut' (li ++ [(CN : Int)]) lt) := ⟨Fr2.of hbW HSZ.out f6, _, _, by rw [HT2.out]; exact t6⟩
  clear ho6 hg6 hw6 hTw x6 t6 f6 hbW hO2
  go_wp2
  (try simp only [Exit.inBlock, Exit.then])
  refine bodyPost_end (v := .tuple #[]) ?_ rfl ?_
  ·simp [results, Tryz.results107, go_sem]
  exact ⟨rfl, HEN.out⟩
 | false =>
  cases ho8 : c.o8 with
  | true =>
   have HT2 : Hid (CN = N + 1) := by show _ = _; rw [HT.out, ho8]; rfl
   rw [ho8] at HF
   clear HT
   go_enter Tryz.func107, Tryz.ntmps107
   go_wp2_with (first | (refine wpList_load_row rfl 33 _ rfl bc rfl 33 _ (0, 0) _ z1 Tryz.underlying33 rfl hi18 ?_) | (go_at_call 108; refine kt.mono ?_; clear kt; rintro e w2 ⟨tk, rfl, hTo, hb2⟩; obtain ⟨sT, rfl, hsT⟩ : ∃ sT : Sl, tk = .slice sT.a sT.n sT.c ∧ sT.n = N := slice_of_own hTo; rw [hsT]; obtain ⟨hTw, q9, q0, qi, qt, hbW⟩ := HF.out _ hb2; have hO2 := hTw.o2.alloc (.cells #[I ((N : Int) + 1)] 3); have hsz2 := hTw.sz; clear hb2 hTo) | (at_builtin; refine wpList_append_own_at _ rfl (.tmp 26) (.tmp 29) 64 rfl base 3 i0 (.int .i64 0) 1 8 Tryz.underlying64 hi0 hz0 hz1 hz2 rfl (by decide) _ _ _ rfl hO2 ⟨w2.heap.size, 0, none⟩ 1 1 [I ((N : Int) + 1)] rfl rfl (cell_one_new _ _ _) (by intro u hu; simp at hu; subst hu; rfl) (by unfold maxLen; omega) (by omega) (by simp; omega) ?_))
   intro v6 w6 ho6 hg6 _ hw6
   obtain ⟨s6, rfl, hs6⟩ := slice_of_own ho6
   clear hs6
   have e2 := two_app hTw.swap (.cells #[I ((N : Int) + 1)] 3) ((N : Int) + 1) ho6 hg6 hw6
   obtain ⟨x6, t6, f6⟩ := e2
   have z6 : w6.cell? ⟨bt, 0, none⟩ = some ut := by rw [cell_of_row w6 _ 0 _ _ (0, 0) x6]; rfl
   have fz6 : w6.frozen? ⟨bt, 0, none⟩ = false := frozen_of_row w6 _ 0 _ _ x6
   have HEN : Hid (Fr2 base bi bt W (w6.setCell ⟨bt, 0, none⟩ (.slice s6.a s6.n s6.c)) ∧ ∃ ui' ut', Two (w6.setCell ⟨bt, 0, none⟩ (.slice s6.a s6.n s6.c)) base bi bt ui' ut' li (lt ++ [(CN : Int)])) := ⟨Fr2.of hbW HSZ.out f6.swap, _, _, by rw [HT2.out, Int.natCast_add]; exact t6.swap⟩
   clear ho6 hg6 hw6 hTw x6 t6 f6 hbW hO2
   go_wp2
   (try simp only [Exit.inBlock, Exit.then])
   refine bodyPost_end (v := .tuple #[]) ?_ rfl ?_
   ·simp [results, Tryz.results107, go_sem]
   exact ⟨rfl, HEN.out⟩
  | false =>
   have HT2 : Hid (CN = N) := by show _ = _; rw [HT.out, ho8]; rfl
   rw [ho8] at HF
   clear HT
   go_enter Tryz.func107, Tryz.ntmps107
   go_wp2_with (first | (refine wpList_load_row rfl 33 _ rfl bc rfl 33 _ (0, 0) _ z1 Tryz.underlying33 rfl hi18 ?_) | (go_at_call 108; refine kt.mono ?_; clear kt; rintro e w2 ⟨tk, rfl, hTo, hb2⟩; obtain ⟨sT, rfl, hsT⟩ : ∃ sT : Sl, tk = .slice sT.a sT.n sT.c ∧ sT.n = N := slice_of_own hTo; rw [hsT]; obtain ⟨hTw, q9, q0, qi, qt, hbW⟩ := HF.out _ hb2; have hO2 := hTw.o2.alloc (.cells #[I (N : Int)] 3); have hsz2 := hTw.sz; clear hb2 hTo) | (at_builtin; refine wpList_append_own_at _ rfl (.tmp 11) (.tmp 13) 64 rfl base 3 i0 (.int .i64 0) 1 8 Tryz.underlying64 hi0 hz0 hz1 hz2 rfl (by decide) _ _ _ rfl hO2 ⟨w2.heap.size, 0, none⟩ 1 1 [I (N : Int)] rfl rfl (cell_one_new _ _ _) (by intro u hu; simp at hu; subst hu; rfl) (by unfold maxLen; omega) (by omega) (by simp; omega) ?_))
   intro v6 w6 ho6 hg6 _ hw6
   obtain ⟨s6, rfl, hs6⟩ := slice_of_own ho6
   clear hs6
   have e2 := two_app hTw.swap (.cells #[I (N : Int)] 3) (N : Int) ho6 hg6 hw6
   obtain ⟨x6, t6, f6⟩ := e2
   have z6 : w6.cell? ⟨bt, 0, none⟩ = some ut := by rw [cell_of_row w6 _ 0 _ _ (0, 0) x6]; rfl
   have fz6 : w6.frozen? ⟨bt, 0, none⟩ = false := frozen_of_row w6 _ 0 _ _ x6
   have HEN : Hid (Fr2 base bi bt W (w6.setCell ⟨bt, 0, none⟩ (.slice s6.a s6.n s6.c)) ∧ ∃ ui' ut', Two (w6.setCell ⟨bt, 0, none⟩ (.slice s6.a s6.n s6.c)) base bi bt ui' ut' li (lt ++ [(CN : Int)])) := ⟨Fr2.of hbW HSZ.out f6.swap, _, _, by rw [HT2.out]; exact t6.swap⟩
   clear ho6 hg6 hw6 hTw x6 t6 f6 hbW hO2
   go_wp2
   (try simp only [Exit.inBlock, Exit.then])
   refine bodyPost_end (v := .tuple #[]) ?_ rfl ?_
   ·simp [results, Tryz.results107, go_sem]
   exact ⟨rfl, HEN.out⟩
structure TwoN (w : World) (base b1 b2 : Nat) (u1 u2 : Value) (l1 l2 : List Int) : Prop where
 x1 : BoxS w b1 u1
 x2 : BoxS w b2 u2
 o1 : w.ownsRow base 3 1 u1 l1.length (l1.map fun x => I x)
 o2 : w.ownsRow base 3 1 u2 l2.length (l2.map fun x => I x)
 ap : ∀ g, u1.ownBlock = some g → u2.ownBlock ≠ some g
theorem TwoN.below {w w' : World} {base b1 b2 : Nat} {u1 u2 : Value} {l1 l2 : List Int} (h : TwoN w base b1 b2 u1 u2 l1 l2) (hb : Below w.heap.size w w') : TwoN w' base b1 b2 u1 u2 l1 l2 :=
 ⟨(hb.block _ (heap_lt h.x1)).trans h.x1, (hb.block _ (heap_lt h.x2)).trans h.x2, own_below h.o1 hb, own_below h.o2 hb, h.ap⟩
def cntT (c : Cf) (j : Nat) : List Int := (c.tasks.take j).map (fun x => (cntU c false x.res : Int))
def cntI (c : Cf) (j : Nat) : List Int := (c.isrs.take j).map (fun x => (cntU c true x.res : Int))
theorem cntT_succ {c : Cf} {j : Nat} {x : Tk} (h : c.tasks[j]? = some x) : cntT c (j + 1) = cntT c j ++ [(cntU c false x.res : Int)] := by
 unfold cntT
 rw [List.take_add_one, h, Option.toList_some, List.map_append]
 rfl
theorem cntI_succ {c : Cf} {j : Nat} {x : Is} (h : c.isrs[j]? = some x) : cntI c (j + 1) = cntI c j ++ [(cntU c true x.res : Int)] := by
 unfold cntI
 rw [List.take_add_one, h, Option.toList_some, List.map_append]
 rfl
theorem cntT_len (c : Cf) (j : Nat) : (cntT c j).length ≤ c.tasks.length := by
 unfold cntT
 rw [List.length_map, List.length_take]
 omega
theorem cntI_len (c : Cf) (j : Nat) : (cntI c j).length ≤ c.isrs.length := by
 unfold cntI
 rw [List.length_map, List.length_take]
 omega
theorem counts_users (w w3 : World) (c : Cf) (v : Vs) (h : CfAt w c v) (hn : c.ress.length ≤ 8796093022208) (hnt : c.tasks.length ≤ 8796093022208) (hni : c.isrs.length ≤ 8796093022208) (hm : meetB c = true)
  (hb3 : Below w.heap.size w w3) (hs3 : w3.heap.size = w.heap.size + 3) (hc3 : BoxC w3 w.heap.size c v) (ht3 : BoxS w3 (w.heap.size + 1) (.slice none 0 0)) (hi3 : BoxS w3 (w.heap.size + 2) (.slice none 0 0)) :
  Calls Tryz.prog 103 #[.agg (cfC c v), .func (.func 107) #[] #[.pointer (some ⟨w.heap.size, 0, none⟩), .pointer (some ⟨w.heap.size + 2, 0, none⟩), .pointer (some ⟨w.heap.size + 1, 0, none⟩)]] w3 fun e w' => e = .returned (.tuple #[]) ∧ ∃ ui ut, TwoN w' (w.heap.size + 4) (w.heap.size + 2) (w.heap.size + 1) ui ut (cntI c c.isrs.length) (cntT c c.tasks.length) ∧ Below w.heap.size w w' := by
 refine (eachUser_any w3 c v 107 #[.pointer (some ⟨w.heap.size, 0, none⟩), .pointer (some ⟨w.heap.size + 2, 0, none⟩), .pointer (some ⟨w.heap.size + 1, 0, none⟩)] (enters_of Tryz.func107 (by kernel_rfl) rfl)
  (fun j W => ∃ ui ut, TwoN W (w.heap.size + 4) (w.heap.size + 2) (w.heap.size + 1) ui ut [] (cntT c j) ∧ BoxC W w.heap.size c v ∧ Below w.heap.size w W)
  (fun j W => ∃ ui ut, TwoN W (w.heap.size + 4) (w.heap.size + 2) (w.heap.size + 1) ui ut (cntI c j) (cntT c c.tasks.length) ∧ BoxC W w.heap.size c v ∧ Below w.heap.size w W)
  (fun j W W' ⟨ui, ut, h1, h2, h3⟩ hb => ⟨ui, ut, h1.below hb, (hb.block _ (heap_lt h2)).trans h2, h3.trans (hb.mono h3.size)⟩)
  (fun j W W' ⟨ui, ut, h1, h2, h3⟩ hb => ⟨ui, ut, h1.below hb, (hb.block _ (heap_lt h2)).trans h2, h3.trans (hb.mono h3.size)⟩)
  (fun j W ⟨_, _, _, _, h3⟩ => h.below h3) (fun j W ⟨_, _, _, _, h3⟩ => h.below h3)
  ⟨_, _, ⟨hi3, ht3, World.ownsRow_nil _ _ _ _, World.ownsRow_nil _ _ _ _, (fun g h => by cases h)⟩, hc3, hb3⟩
  (fun W ⟨ui, ut, h1, h2, h3⟩ => ⟨ui, ut, h1, h2, h3⟩) ?_ ?_).mono ?_
 ·rintro j x s W hx hr ⟨ui, ut, h1, h2, h3⟩ hlt
  have hme := meet_task hm hn (List.mem_of_getElem? hx)
  refine (counts1_any W c v (h.below h3) false j x.prio s x.res hr hme.1 hme.2 w.heap.size (w.heap.size + 2) (w.heap.size + 1) (w.heap.size + 4) h2 ⟨by omega, by omega, by omega⟩ ui ut [] (cntT c j) ⟨h1.x1, h1.x2, h1.o1, h1.o2, h1.ap, by omega, by omega, by omega, by omega⟩ (by simp) (Nat.le_trans (cntT_len c j) hnt)).mono ?_
  rintro e w' ⟨rfl, hf, ui', ut', ht⟩
  simp only [Bool.false_eq_true, if_false] at ht
  rw [← cntT_succ hx] at ht
  refine ⟨rfl, ⟨ui', ut', ⟨ht.x1, ht.x2, ht.o1, ht.o2, ht.ap⟩, (hf.block _ (by omega) (by omega) (by omega)).trans h2, h3.trans (hf.below (by omega) (by omega) (by omega))⟩, ?_, hf.size⟩
  exact hf.block _ (by omega) (by omega) (by omega)
 ·rintro j x s W hx hr ⟨ui, ut, h1, h2, h3⟩ hlt
  have hme := meet_isr hm hn (List.mem_of_getElem? hx)
  refine (counts1_any W c v (h.below h3) true j x.prio s x.res hr hme.1 hme.2 w.heap.size (w.heap.size + 2) (w.heap.size + 1) (w.heap.size + 4) h2 ⟨by omega, by omega, by omega⟩ ui ut (cntI c j) (cntT c c.tasks.length) ⟨h1.x1, h1.x2, h1.o1, h1.o2, h1.ap, by omega, by omega, by omega, by omega⟩ (Nat.le_trans (cntI_len c j) hni) (Nat.le_trans (cntT_len c _) hnt)).mono ?_
  rintro e w' ⟨rfl, hf, ui', ut', ht⟩
  simp only [if_true] at ht
  rw [← cntI_succ hx] at ht
  refine ⟨rfl, ⟨ui', ut', ⟨ht.x1, ht.x2, ht.o1, ht.o2, ht.ap⟩, (hf.block _ (by omega) (by omega) (by omega)).trans h2, h3.trans (hf.below (by omega) (by omega) (by omega))⟩, ?_, hf.size⟩
  exact hf.block _ (by omega) (by omega) (by omega)
 ·rintro e w' ⟨rfl, ui, ut, h1, h2, h3⟩
  exact ⟨rfl, ui, ut, h1, h3⟩
theorem res_two {fn : Func} {n m : Nat} (hf : fn.results = #[.cell n 64, .cell m 64]) (tmps : Array Value) (b d : Nat) (w : World) (s t : Sl)
  (h2 : tmps[n]? = some (.pointer (some ⟨b, 0, none⟩))) (h3 : tmps[m]? = some (.pointer (some ⟨d, 0, none⟩))) (hk : w.cell? ⟨b, 0, none⟩ = some (.slice s.a s.n s.c)) (hl : w.cell? ⟨d, 0, none⟩ = some (.slice t.a t.n t.c)) :
  (results fn tmps).run Tryz.prog w = .ok (.tuple #[.slice s.a s.n s.c, .slice t.a t.n t.c]) w := by
 simp [results, hf, go_sem, h2, h3, hk, hl]
def OwnB (w : World) (l m : List Int) (e : Ending) (w' : World) : Prop := ∃ u1 u2, e = .returned (.tuple #[u1, u2]) ∧ w'.ownsRow w.heap.size 3 1 u1 l.length (l.map fun x => I x) ∧ w'.ownsRow w.heap.size 3 1 u2 m.length (m.map fun x => I x) ∧ (∀ g, u1.ownBlock = some g → u2.ownBlock ≠ some g) ∧ Below w.heap.size w w'
theorem two_again {w w1 : World} {si st : Sl} {LI LT : List Int} (h : TwoN w1 (w.heap.size + 4) (w.heap.size + 2) (w.heap.size + 1) (.slice si.a si.n si.c) (.slice st.a st.n st.c) LI LT ∧ Below w.heap.size w w1) :
  TwoN ((w1.setCell ⟨w.heap.size + 1, 0, none⟩ (.slice st.a st.n st.c)).setCell ⟨w.heap.size + 1 + 1, 0, none⟩ (.slice si.a si.n si.c)).drew (w.heap.size + 4) (w.heap.size + 1 + 1) (w.heap.size + 1) (.slice si.a si.n si.c) (.slice st.a st.n st.c) LI LT ∧ Below w.heap.size w ((w1.setCell ⟨w.heap.size + 1, 0, none⟩ (.slice st.a st.n st.c)).setCell ⟨w.heap.size + 1 + 1, 0, none⟩ (.slice si.a si.n si.c)).drew := by
 obtain ⟨h, hb⟩ := h
 have g1 := grown_set w1 (w.heap.size + 1) 0 (.slice st.a st.n st.c)
 have a2 : BoxS (w1.setCell ⟨w.heap.size + 1, 0, none⟩ (.slice st.a st.n st.c)) (w.heap.size + 1) (.slice st.a st.n st.c) := heap_setCell_same w1 _ 0 _ _ _ h.x2
 have a1 : BoxS (w1.setCell ⟨w.heap.size + 1, 0, none⟩ (.slice st.a st.n st.c)) (w.heap.size + 1 + 1) (.slice si.a si.n si.c) := heap_kept h.x1 g1 (fun e => by have := Option.some.inj e; omega)
 have o1 := h.o1.kept g1 (.inr (fun e => by have := (h.o1.lt _ e).1; omega))
 have o2 := h.o2.kept g1 (.inr (fun e => by have := (h.o2.lt _ e).1; omega))
 have b1 := hb.grown g1 hb.size (fun k e => by cases e; omega)
 generalize w1.setCell ⟨w.heap.size + 1, 0, none⟩ (.slice st.a st.n st.c) = w2 at *
 have g2 := grown_set w2 (w.heap.size + 1 + 1) 0 (.slice si.a si.n si.c)
 have c1 : BoxS (w2.setCell ⟨w.heap.size + 1 + 1, 0, none⟩ (.slice si.a si.n si.c)) (w.heap.size + 1 + 1) (.slice si.a si.n si.c) := heap_setCell_same w2 _ 0 _ _ _ a1
 have c2 : BoxS (w2.setCell ⟨w.heap.size + 1 + 1, 0, none⟩ (.slice si.a si.n si.c)) (w.heap.size + 1) (.slice st.a st.n st.c) := heap_kept a2 g2 (fun e => by have := Option.some.inj e; omega)
 have p1 := o1.kept g2 (.inr (fun e => by have := (o1.lt _ e).1; omega))
 have p2 := o2.kept g2 (.inr (fun e => by have := (o2.lt _ e).1; omega))
 have b2 := b1.grown g2 b1.size (fun k e => by cases e; omega)
 exact ⟨⟨c1, c2, p1.drew, p2.drew, h.ap⟩, ⟨b2.os, b2.tape, b2.output, b2.size, b2.block⟩⟩
theorem counts_any (w : World) (c : Cf) (v : Vs) (h : CfAt w c v) (hn : c.ress.length ≤ 8796093022208) (hnt : c.tasks.length ≤ 8796093022208) (hni : c.isrs.length ≤ 8796093022208) (hm : meetB c = true) :
  Calls Tryz.prog 62 #[.agg (cfC c v)] w fun e w' => OwnB w (cntT c c.tasks.length) (cntI c c.isrs.length) e w' := by
 have hi18 : (Tryz.prog.info? 33).map (·.size) = some (cfC c v).size := by rw [show (cfC c v).size = 18 from rfl]; kernel_rfl
 have hb3 : Below w.heap.size w (((w.alloc (.cells (cfC c v) 33)).alloc (.cells #[.slice none 0 0] 64)).alloc (.cells #[.slice none 0 0] 64)) := (((Below.refl w.heap.size w).alloc (Nat.le_refl _) _).alloc (by simp) _).alloc (by simp; omega) _
 have hs3 : (((w.alloc (.cells (cfC c v) 33)).alloc (.cells #[.slice none 0 0] 64)).alloc (.cells #[.slice none 0 0] 64)).heap.size = w.heap.size + 3 := by simp
 have hc3 := heap_over _ (.cells #[.slice none 0 0] 64) (heap_two0 w (.cells (cfC c v) 33) (.cells #[.slice none 0 0] 64))
 have ht3 := heap_over _ (.cells #[.slice none 0 0] 64) (heap_two w (.cells (cfC c v) 33) (.cells #[.slice none 0 0] 64))
 have hi3 := heap_two (w.alloc (.cells (cfC c v) 33)) (.cells #[.slice none 0 0] 64) (.cells #[.slice none 0 0] 64)
 rw [show (w.alloc (.cells (cfC c v) 33)).heap.size + 1 = w.heap.size + 2 by simp] at hi3
 have ke := counts_users w _ c v h hn hnt hni hm hb3 hs3 hc3 ht3 hi3
 generalize cntT c c.tasks.length = LT at *
 generalize cntI c c.isrs.length = LI at *
 generalize cfC c v = C at *
 clear h hm hb3 hs3 ht3 hi3
 go_enter Tryz.func62, Tryz.ntmps62
 go_wp2_with (first | (refine wpList_load_row rfl 33 _ rfl w.heap.size rfl 33 _ (0, 0) _ hc3 Tryz.underlying33 rfl hi18 ?_) | (go_at_call 103; refine ke.mono ?_; clear ke; rintro e w1 ⟨rfl, ui, ut, hT, hbw⟩; obtain ⟨si, rfl, hsi⟩ := slice_of_own hT.o1; obtain ⟨st, rfl, hst⟩ := slice_of_own hT.o2; have zi : w1.cell? ⟨w.heap.size + 2, 0, none⟩ = some (.slice si.a si.n si.c) := (by rw [cell_of_row w1 _ 0 _ _ (0, 0) hT.x1]; rfl); have zt : w1.cell? ⟨w.heap.size + 1, 0, none⟩ = some (.slice st.a st.n st.c) := (by rw [cell_of_row w1 _ 0 _ _ (0, 0) hT.x2]; rfl); have fi : w1.frozen? ⟨w.heap.size + 2, 0, none⟩ = false := frozen_of_row w1 _ 0 _ _ hT.x1; have ft : w1.frozen? ⟨w.heap.size + 1, 0, none⟩ = false := frozen_of_row w1 _ 0 _ _ hT.x2; have HT : Hid (TwoN w1 (w.heap.size + 4) (w.heap.size + 2) (w.heap.size + 1) (.slice si.a si.n si.c) (.slice st.a st.n st.c) LI LT ∧ Below w.heap.size w w1) := ⟨hT, hbw⟩; clear hT hbw hsi hst hc3))
 go_big_region
 have HE := two_again HT.out
 clear HT
 generalize ((w1.setCell ⟨w.heap.size + 1, 0, none⟩ (.slice st.a st.n st.c)).setCell ⟨w.heap.size + 1 + 1, 0, none⟩ (.slice si.a si.n si.c)).drew = w9 at *
 clear zi zt fi ft
 have zi : w9.cell? ⟨w.heap.size + 1 + 1, 0, none⟩ = some (.slice si.a si.n si.c) := by rw [cell_of_row w9 _ 0 _ _ (0, 0) HE.1.x1]; rfl
 have zt : w9.cell? ⟨w.heap.size + 1, 0, none⟩ = some (.slice st.a st.n st.c) := by rw [cell_of_row w9 _ 0 _ _ (0, 0) HE.1.x2]; rfl
 go_wp2
 (try simp only [Exit.inBlock, Exit.then])
 refine bodyPost_ret (res_two Tryz.results62 _ (w.heap.size + 1) (w.heap.size + 1 + 1) w9 st si rfl rfl zt zi) rfl ?_
 exact ⟨_, _, rfl, own_mono HE.1.o2 (by omega), own_mono HE.1.o1 (by omega), fun g h1 h2 => HE.1.ap g h2 h1, HE.2⟩
end Go.Proofs.YtpbnpmeigdjfdaaGreatDoor.Ce
namespace Go.Proofs.YtpbnpmeigdjfdaaGreatDoor.Ce
open Go.RowKit
set_option linter.unusedSimpArgs false
set_option linter.unusedVariables false
set_option maxHeartbeats 16000000
set_option maxRecDepth 100000
def runF (c : Cf) (l : List Int) (m : Int) : Int := l.foldl (fun m r => if rkind c r == 3 then max m (ceilE c r.toNat) else m) m
def runP (c : Cf) (x : Tk) : Int := runF c x.res (if x.full = true then x.prio else max x.prio (schE c))
end Go.Proofs.YtpbnpmeigdjfdaaGreatDoor.Ce
