import Derived.Test.YtmidaeljeoifdaaGreatDoorXEej
namespace Go.Proofs.YtmidaeljeoifdaaGreatDoor.Ce
open Go.Maps Go.RowKit
set_option linter.unusedSimpArgs false
set_option linter.unusedVariables false
set_option maxHeartbeats 16000000
set_option maxRecDepth 100000
theorem qas {w : World} {b n : Nat} {u : Value} {xs : List Value} (h : w.ownsRow b 3 1 u n xs) : ∃ s : Sl,u = .slice s.a s.n s.c ∧ s.n = n := by
 rcases h.2 with ⟨rfl,rfl⟩ | ⟨g,cap,cur,rfl,_⟩
 ·exact ⟨⟨none,0,0⟩,rfl,rfl⟩
 ·exact ⟨⟨some ⟨g,0,none⟩,n,cap⟩,rfl,rfl⟩
def cntU (c : Cf) (isr : Bool) (l : List Int) : Nat := (takenL c l).length + (if (!isr && c.o8) = true then 1 else 0)
theorem qg8 (W : World) (c : Cf) (v : Vs) (h : CfAt W c v) (isr : Bool) (id : Nat) (prio : Int) (s : Sl) (l : List Int) (hl : RowsAt W 1 intP s l) (hid : ∀ x ∈ l,isId x c.ress.length = true) (hlen : l.length ≤ 8796093022208) (bc bi bt base : Nat) (hc : BoxC W bc c v) (hbc : bc < base ∧ bc ≠ bi ∧ bc ≠ bt)
  (ui ut : Value) (li lt : List Int) (h2 : Two W base bi bt ui ut li lt) (hni : li.length ≤ 8796093022208) (hnt : lt.length ≤ 8796093022208) :
  Calls Tryz.prog 134 #[.agg (usC isr id prio s), .pointer (some ⟨bc,0,none⟩), .pointer (some ⟨bi,0,none⟩), .pointer (some ⟨bt,0,none⟩)] W fun e w' => e = .returned (.tuple #[]) ∧ Fr2 base bi bt W w' ∧ ∃ ui' ut',Two w' base bi bt ui' ut' (if isr = true then li ++ [(cntU c isr l : Int)] else li) (if isr = true then lt else lt ++ [(cntU c isr l : Int)]) := by
 obtain ⟨i0,hi0,hz0,hz1,hz2⟩ := info_parts Tryz.infoInt
 have hi18 : (Tryz.prog.info? 47).map (·.size) = some (cfC c v).size := by rw [show (cfC c v).size = 18 from rfl]; kernel_rfl
 have hb := qa0 W (.cells (usC isr id prio s) 207)
 have kt := qii _ c v (h.below hb) s l (hl.below hb (fun _ _ _ _ h => h)) hid hlen
 have htl : (takenL c l).length ≤ l.length := List.length_filter_le _ _
 have z1 : (W.alloc (.cells (usC isr id prio s) 207)).heap[bc]? = some (.cells (cfC c v) 47 (0,0)) := qad _ _ hc
 have hnc : bc ≠ W.heap.size := Nat.ne_of_lt (qa1 hc)
 have hcv : ∀ w' : World,w'.heap[bc]? = some (.cells (cfC c v) 47 (0,0)) → w'.cell? ⟨bc,9,none⟩ = some (.bool c.o8) := fun w' hW => by
  obtain ⟨⟨_,_,_,_,_,_,_,_,_,h9⟩,_⟩ := qao hW
  exact h9
 have hzu := heap_alloc_new W (.cells (usC isr id prio s) 207)
 have HF : Hid (∀ w',Below (W.alloc (.cells (usC isr id prio s) 207)).heap.size (W.alloc (.cells (usC isr id prio s) 207)) w' → Two w' base bi bt ui ut li lt ∧ w'.cell? ⟨bc,9,none⟩ = some (.bool c.o8) ∧ w'.cell? ⟨W.heap.size,0,none⟩ = some (.bool isr) ∧ w'.cell? ⟨bi,0,none⟩ = some ui ∧ w'.cell? ⟨bt,0,none⟩ = some ut ∧ Below W.heap.size W w') := fun w' hW => by
  have hbW := hb.trans (hW.mono hb.size)
  have ht := h2.below hbW
  refine ⟨ht,hcv w' ((hW.block _ (qa1 z1)).trans z1), ?_, ?_, ?_,hbW⟩
  ·rw [cell_of_row w' _ 0 _ _ (0,0) ((hW.block _ (qa1 hzu)).trans hzu)]; rfl
  ·rw [cell_of_row w' _ 0 _ _ (0,0) ht.x1]; rfl
  ·rw [cell_of_row w' _ 0 _ _ (0,0) ht.x2]; rfl
 have HSZ : Hid (base ≤ W.heap.size) := h2.sz
 obtain ⟨N,hN⟩ : ∃ N,N = (takenL c l).length := ⟨_,rfl⟩
 have HT : Hid (cntU c isr l = N + (if (!isr && c.o8) = true then 1 else 0)) := by rw [hN]; rfl
 unfold qi5 at kt
 rw [← hN] at kt htl
 generalize (takenL c l).map (fun x => I x) = TL at *
 generalize cntU c isr l = CN at *
 generalize cfC c v = C at *
 unfold usC at *
 clear hl h hid hc h2 hb hN hcv hzu
 cases isr with
 | true =>
  have HT2 : Hid (CN = N) := HT.out
  clear HT
  go_enter Tryz.func134,Tryz.ntmps134
  go_wp2_with (first | (refine wpList_load_row rfl 47 _ rfl bc rfl 47 _ (0,0) _ z1 Tryz.underlying47 rfl hi18 ?_) | (go_at_call 135; refine kt.mono ?_; clear kt; rintro e w2 ⟨tk,rfl,hTo,hb2⟩; obtain ⟨sT,rfl,hsT⟩ : ∃ sT : Sl,tk = .slice sT.a sT.n sT.c ∧ sT.n = N := qas hTo; rw [hsT]; obtain ⟨hTw,q9,q0,qi,qt,hbW⟩ := HF.out _ hb2; have hO2 := hTw.o1.alloc (.cells #[I (N : Int)] 3); have hsz2 := hTw.sz; clear hb2 hTo) | (at_builtin; refine wpList_append_own_at _ rfl (.tmp 18) (.tmp 20) 54 rfl base 3 i0 (.int .i64 0) 1 8 Tryz.underlying54 hi0 hz0 hz1 hz2 rfl (by decide) _ _ _ rfl hO2 ⟨w2.heap.size,0,none⟩ 1 1 [I (N : Int)] rfl rfl (cell_one_new _ _ _) (by intro u hu; simp at hu; subst hu; rfl) (by unfold maxLen; omega) (by omega) (by simp; omega) ?_))
  intro v6 w6 ho6 hg6 _ hw6
  obtain ⟨s6,rfl,hs6⟩ := qas ho6
  clear hs6
  have e2 := qi6 hTw (.cells #[I (N : Int)] 3) (N : Int) ho6 hg6 hw6
  obtain ⟨x6,t6,f6⟩ := e2
  have z6 : w6.cell? ⟨bi,0,none⟩ = some ui := by rw [cell_of_row w6 _ 0 _ _ (0,0) x6]; rfl
  have fz6 : w6.frozen? ⟨bi,0,none⟩ = false := frozen_of_row w6 _ 0 _ _ x6
  have HEN : Hid (Fr2 base bi bt W (w6.setCell ⟨bi,0,none⟩ (.slice s6.a s6.n s6.c)) ∧ ∃ ui' ut',Two (w6.setCell ⟨bi,0,none⟩ (.slice s6.a s6.n s6.c)) base bi bt ui' ut' (li ++ [(CN : Int)]) lt) := ⟨Fr2.of hbW HSZ.out f6,_,_,by rw [HT2.out]; exact t6⟩
  clear ho6 hg6 hw6 hTw x6 t6 f6 hbW hO2
  go_wp2
  (try simp only [Exit.inBlock,Exit.then])
  refine bodyPost_end (v := .tuple #[]) ?_ rfl ?_
  ·simp [results,Tryz.results134,go_sem]
  exact ⟨rfl,HEN.out⟩
 | false =>
  cases ho8 : c.o8 with
  | true =>
   have HT2 : Hid (CN = N + 1) := by show _ = _; rw [HT.out,ho8]; rfl
   rw [ho8] at HF
   clear HT
   go_enter Tryz.func134,Tryz.ntmps134
   go_wp2_with (first | (refine wpList_load_row rfl 47 _ rfl bc rfl 47 _ (0,0) _ z1 Tryz.underlying47 rfl hi18 ?_) | (go_at_call 135; refine kt.mono ?_; clear kt; rintro e w2 ⟨tk,rfl,hTo,hb2⟩; obtain ⟨sT,rfl,hsT⟩ : ∃ sT : Sl,tk = .slice sT.a sT.n sT.c ∧ sT.n = N := qas hTo; rw [hsT]; obtain ⟨hTw,q9,q0,qi,qt,hbW⟩ := HF.out _ hb2; have hO2 := hTw.o2.alloc (.cells #[I ((N : Int) + 1)] 3); have hsz2 := hTw.sz; clear hb2 hTo) | (at_builtin; refine wpList_append_own_at _ rfl (.tmp 26) (.tmp 29) 54 rfl base 3 i0 (.int .i64 0) 1 8 Tryz.underlying54 hi0 hz0 hz1 hz2 rfl (by decide) _ _ _ rfl hO2 ⟨w2.heap.size,0,none⟩ 1 1 [I ((N : Int) + 1)] rfl rfl (cell_one_new _ _ _) (by intro u hu; simp at hu; subst hu; rfl) (by unfold maxLen; omega) (by omega) (by simp; omega) ?_))
   intro v6 w6 ho6 hg6 _ hw6
   obtain ⟨s6,rfl,hs6⟩ := qas ho6
   clear hs6
   have e2 := qi6 hTw.swap (.cells #[I ((N : Int) + 1)] 3) ((N : Int) + 1) ho6 hg6 hw6
   obtain ⟨x6,t6,f6⟩ := e2
   have z6 : w6.cell? ⟨bt,0,none⟩ = some ut := by rw [cell_of_row w6 _ 0 _ _ (0,0) x6]; rfl
   have fz6 : w6.frozen? ⟨bt,0,none⟩ = false := frozen_of_row w6 _ 0 _ _ x6
   have HEN : Hid (Fr2 base bi bt W (w6.setCell ⟨bt,0,none⟩ (.slice s6.a s6.n s6.c)) ∧ ∃ ui' ut',Two (w6.setCell ⟨bt,0,none⟩ (.slice s6.a s6.n s6.c)) base bi bt ui' ut' li (lt ++ [(CN : Int)])) := ⟨Fr2.of hbW HSZ.out f6.swap,_,_,by rw [HT2.out,Int.natCast_add]; exact t6.swap⟩
   clear ho6 hg6 hw6 hTw x6 t6 f6 hbW hO2
   go_wp2
   (try simp only [Exit.inBlock,Exit.then])
   refine bodyPost_end (v := .tuple #[]) ?_ rfl ?_
   ·simp [results,Tryz.results134,go_sem]
   exact ⟨rfl,HEN.out⟩
  | false =>
   have HT2 : Hid (CN = N) := by show _ = _; rw [HT.out,ho8]; rfl
   rw [ho8] at HF
   clear HT
   go_enter Tryz.func134,Tryz.ntmps134
   go_wp2_with (first | (refine wpList_load_row rfl 47 _ rfl bc rfl 47 _ (0,0) _ z1 Tryz.underlying47 rfl hi18 ?_) | (go_at_call 135; refine kt.mono ?_; clear kt; rintro e w2 ⟨tk,rfl,hTo,hb2⟩; obtain ⟨sT,rfl,hsT⟩ : ∃ sT : Sl,tk = .slice sT.a sT.n sT.c ∧ sT.n = N := qas hTo; rw [hsT]; obtain ⟨hTw,q9,q0,qi,qt,hbW⟩ := HF.out _ hb2; have hO2 := hTw.o2.alloc (.cells #[I (N : Int)] 3); have hsz2 := hTw.sz; clear hb2 hTo) | (at_builtin; refine wpList_append_own_at _ rfl (.tmp 11) (.tmp 13) 54 rfl base 3 i0 (.int .i64 0) 1 8 Tryz.underlying54 hi0 hz0 hz1 hz2 rfl (by decide) _ _ _ rfl hO2 ⟨w2.heap.size,0,none⟩ 1 1 [I (N : Int)] rfl rfl (cell_one_new _ _ _) (by intro u hu; simp at hu; subst hu; rfl) (by unfold maxLen; omega) (by omega) (by simp; omega) ?_))
   intro v6 w6 ho6 hg6 _ hw6
   obtain ⟨s6,rfl,hs6⟩ := qas ho6
   clear hs6
   have e2 := qi6 hTw.swap (.cells #[I (N : Int)] 3) (N : Int) ho6 hg6 hw6
   obtain ⟨x6,t6,f6⟩ := e2
   have z6 : w6.cell? ⟨bt,0,none⟩ = some ut := by rw [cell_of_row w6 _ 0 _ _ (0,0) x6]; rfl
   have fz6 : w6.frozen? ⟨bt,0,none⟩ = false := frozen_of_row w6 _ 0 _ _ x6
   have HEN : Hid (Fr2 base bi bt W (w6.setCell ⟨bt,0,none⟩ (.slice s6.a s6.n s6.c)) ∧ ∃ ui' ut',Two (w6.setCell ⟨bt,0,none⟩ (.slice s6.a s6.n s6.c)) base bi bt ui' ut' li (lt ++ [(CN : Int)])) := ⟨Fr2.of hbW HSZ.out f6.swap,_,_,by rw [HT2.out]; exact t6.swap⟩
   clear ho6 hg6 hw6 hTw x6 t6 f6 hbW hO2
   go_wp2
   (try simp only [Exit.inBlock,Exit.then])
   refine bodyPost_end (v := .tuple #[]) ?_ rfl ?_
   ·simp [results,Tryz.results134,go_sem]
   exact ⟨rfl,HEN.out⟩
structure TwoN (w : World) (base b1 b2 : Nat) (u1 u2 : Value) (l1 l2 : List Int) : Prop where
 x1 : BoxS w b1 u1
 x2 : BoxS w b2 u2
 o1 : w.ownsRow base 3 1 u1 l1.length (l1.map fun x => I x)
 o2 : w.ownsRow base 3 1 u2 l2.length (l2.map fun x => I x)
 ap : ∀ g,u1.ownBlock = some g → u2.ownBlock ≠ some g
theorem TwoN.below {w w' : World} {base b1 b2 : Nat} {u1 u2 : Value} {l1 l2 : List Int} (h : TwoN w base b1 b2 u1 u2 l1 l2) (hb : Below w.heap.size w w') : TwoN w' base b1 b2 u1 u2 l1 l2 :=
 ⟨(hb.block _ (qa1 h.x1)).trans h.x1,(hb.block _ (qa1 h.x2)).trans h.x2,qa6 h.o1 hb,qa6 h.o2 hb,h.ap⟩
def cntT (c : Cf) (j : Nat) : List Int := (c.tasks.take j).map (fun x => (cntU c false x.res : Int))
def cntI (c : Cf) (j : Nat) : List Int := (c.isrs.take j).map (fun x => (cntU c true x.res : Int))
theorem qpw {c : Cf} {j : Nat} {x : Tk} (h : c.tasks[j]? = some x) : cntT c (j + 1) = cntT c j ++ [(cntU c false x.res : Int)] := by
 unfold cntT
 rw [List.take_add_one,h,Option.toList_some,List.map_append]
 rfl
theorem qpx {c : Cf} {j : Nat} {x : Is} (h : c.isrs[j]? = some x) : cntI c (j + 1) = cntI c j ++ [(cntU c true x.res : Int)] := by
 unfold cntI
 rw [List.take_add_one,h,Option.toList_some,List.map_append]
 rfl
theorem ql0 (c : Cf) (j : Nat) : (cntT c j).length ≤ c.tasks.length := by
 unfold cntT
 rw [List.length_map,List.length_take]
 omega
theorem qsh (c : Cf) (j : Nat) : (cntI c j).length ≤ c.isrs.length := by
 unfold cntI
 rw [List.length_map,List.length_take]
 omega
theorem ql1 (w w3 : World) (c : Cf) (v : Vs) (h : CfAt w c v) (hn : c.ress.length ≤ 8796093022208) (hnt : c.tasks.length ≤ 8796093022208) (hni : c.isrs.length ≤ 8796093022208) (hm : meetB c = true)
  (hb3 : Below w.heap.size w w3) (hs3 : w3.heap.size = w.heap.size + 3) (hc3 : BoxC w3 w.heap.size c v) (ht3 : BoxS w3 (w.heap.size + 1) (.slice none 0 0)) (hi3 : BoxS w3 (w.heap.size + 2) (.slice none 0 0)) :
  Calls Tryz.prog 130 #[.agg (cfC c v), .func (.func 134) #[] #[.pointer (some ⟨w.heap.size,0,none⟩), .pointer (some ⟨w.heap.size + 2,0,none⟩), .pointer (some ⟨w.heap.size + 1,0,none⟩)]] w3 fun e w' => e = .returned (.tuple #[]) ∧ ∃ ui ut,TwoN w' (w.heap.size + 4) (w.heap.size + 2) (w.heap.size + 1) ui ut (cntI c c.isrs.length) (cntT c c.tasks.length) ∧ Below w.heap.size w w' := by
 refine (qd1 w3 c v 134 #[.pointer (some ⟨w.heap.size,0,none⟩), .pointer (some ⟨w.heap.size + 2,0,none⟩), .pointer (some ⟨w.heap.size + 1,0,none⟩)] (enters_of Tryz.func134 (by kernel_rfl) rfl)
  (fun j W => ∃ ui ut,TwoN W (w.heap.size + 4) (w.heap.size + 2) (w.heap.size + 1) ui ut [] (cntT c j) ∧ BoxC W w.heap.size c v ∧ Below w.heap.size w W)
  (fun j W => ∃ ui ut,TwoN W (w.heap.size + 4) (w.heap.size + 2) (w.heap.size + 1) ui ut (cntI c j) (cntT c c.tasks.length) ∧ BoxC W w.heap.size c v ∧ Below w.heap.size w W)
  (fun j W W' ⟨ui,ut,h1,h2,h3⟩ hb => ⟨ui,ut,h1.below hb,(hb.block _ (qa1 h2)).trans h2,h3.trans (hb.mono h3.size)⟩)
  (fun j W W' ⟨ui,ut,h1,h2,h3⟩ hb => ⟨ui,ut,h1.below hb,(hb.block _ (qa1 h2)).trans h2,h3.trans (hb.mono h3.size)⟩)
  (fun j W ⟨_,_,_,_,h3⟩ => h.below h3) (fun j W ⟨_,_,_,_,h3⟩ => h.below h3)
  ⟨_,_,⟨hi3,ht3,World.ownsRow_nil _ _ _ _,World.ownsRow_nil _ _ _ _,(fun g h => by cases h)⟩,hc3,hb3⟩
  (fun W ⟨ui,ut,h1,h2,h3⟩ => ⟨ui,ut,h1,h2,h3⟩) ?_ ?_).mono ?_
 ·rintro j x s W hx hr ⟨ui,ut,h1,h2,h3⟩ hlt
  have hme := qdx hm hn (List.mem_of_getElem? hx)
  refine (qg8 W c v (h.below h3) false j x.prio s x.res hr hme.1 hme.2 w.heap.size (w.heap.size + 2) (w.heap.size + 1) (w.heap.size + 4) h2 ⟨by omega,by omega,by omega⟩ ui ut [] (cntT c j) ⟨h1.x1,h1.x2,h1.o1,h1.o2,h1.ap,by omega,by omega,by omega,by omega⟩ (by simp) (Nat.le_trans (ql0 c j) hnt)).mono ?_
  rintro e w' ⟨rfl,hf,ui',ut',ht⟩
  simp only [Bool.false_eq_true,if_false] at ht
  rw [← qpw hx] at ht
  refine ⟨rfl,⟨ui',ut',⟨ht.x1,ht.x2,ht.o1,ht.o2,ht.ap⟩,(hf.block _ (by omega) (by omega) (by omega)).trans h2,h3.trans (hf.below (by omega) (by omega) (by omega))⟩, ?_,hf.size⟩
  exact hf.block _ (by omega) (by omega) (by omega)
 ·rintro j x s W hx hr ⟨ui,ut,h1,h2,h3⟩ hlt
  have hme := qgl hm hn (List.mem_of_getElem? hx)
  refine (qg8 W c v (h.below h3) true j x.prio s x.res hr hme.1 hme.2 w.heap.size (w.heap.size + 2) (w.heap.size + 1) (w.heap.size + 4) h2 ⟨by omega,by omega,by omega⟩ ui ut (cntI c j) (cntT c c.tasks.length) ⟨h1.x1,h1.x2,h1.o1,h1.o2,h1.ap,by omega,by omega,by omega,by omega⟩ (Nat.le_trans (qsh c j) hni) (Nat.le_trans (ql0 c _) hnt)).mono ?_
  rintro e w' ⟨rfl,hf,ui',ut',ht⟩
  simp only [if_true] at ht
  rw [← qpx hx] at ht
  refine ⟨rfl,⟨ui',ut',⟨ht.x1,ht.x2,ht.o1,ht.o2,ht.ap⟩,(hf.block _ (by omega) (by omega) (by omega)).trans h2,h3.trans (hf.below (by omega) (by omega) (by omega))⟩, ?_,hf.size⟩
  exact hf.block _ (by omega) (by omega) (by omega)
 ·rintro e w' ⟨rfl,ui,ut,h1,h2,h3⟩
  exact ⟨rfl,ui,ut,h1,h3⟩
theorem qu6 {fn : Func} {n m : Nat} (hf : fn.results = #[.cell n 54, .cell m 54]) (tmps : Array Value) (b d : Nat) (w : World) (s t : Sl)
  (h2 : tmps[n]? = some (.pointer (some ⟨b,0,none⟩))) (h3 : tmps[m]? = some (.pointer (some ⟨d,0,none⟩))) (hk : w.cell? ⟨b,0,none⟩ = some (.slice s.a s.n s.c)) (hl : w.cell? ⟨d,0,none⟩ = some (.slice t.a t.n t.c)) :
  (results fn tmps).run Tryz.prog w = .ok (.tuple #[.slice s.a s.n s.c, .slice t.a t.n t.c]) w := by
 simp [results,hf,go_sem,h2,h3,hk,hl]
def OwnB (w : World) (l m : List Int) (e : Ending) (w' : World) : Prop := ∃ u1 u2,e = .returned (.tuple #[u1,u2]) ∧ w'.ownsRow w.heap.size 3 1 u1 l.length (l.map fun x => I x) ∧ w'.ownsRow w.heap.size 3 1 u2 m.length (m.map fun x => I x) ∧ (∀ g,u1.ownBlock = some g → u2.ownBlock ≠ some g) ∧ Below w.heap.size w w'
theorem qpy {w w1 : World} {si st : Sl} {LI LT : List Int} (h : TwoN w1 (w.heap.size + 4) (w.heap.size + 2) (w.heap.size + 1) (.slice si.a si.n si.c) (.slice st.a st.n st.c) LI LT ∧ Below w.heap.size w w1) :
  TwoN ((w1.setCell ⟨w.heap.size + 1,0,none⟩ (.slice st.a st.n st.c)).setCell ⟨w.heap.size + 1 + 1,0,none⟩ (.slice si.a si.n si.c)).drew (w.heap.size + 4) (w.heap.size + 1 + 1) (w.heap.size + 1) (.slice si.a si.n si.c) (.slice st.a st.n st.c) LI LT ∧ Below w.heap.size w ((w1.setCell ⟨w.heap.size + 1,0,none⟩ (.slice st.a st.n st.c)).setCell ⟨w.heap.size + 1 + 1,0,none⟩ (.slice si.a si.n si.c)).drew := by
 obtain ⟨h,hb⟩ := h
 have g1 := qac w1 (w.heap.size + 1) 0 (.slice st.a st.n st.c)
 have a2 : BoxS (w1.setCell ⟨w.heap.size + 1,0,none⟩ (.slice st.a st.n st.c)) (w.heap.size + 1) (.slice st.a st.n st.c) := heap_setCell_same w1 _ 0 _ _ _ h.x2
 have a1 : BoxS (w1.setCell ⟨w.heap.size + 1,0,none⟩ (.slice st.a st.n st.c)) (w.heap.size + 1 + 1) (.slice si.a si.n si.c) := qak h.x1 g1 (fun e => by have := Option.some.inj e; omega)
 have o1 := h.o1.kept g1 (.inr (fun e => by have := (h.o1.lt _ e).1; omega))
 have o2 := h.o2.kept g1 (.inr (fun e => by have := (h.o2.lt _ e).1; omega))
 have b1 := hb.grown g1 hb.size (fun k e => by cases e; omega)
 generalize w1.setCell ⟨w.heap.size + 1,0,none⟩ (.slice st.a st.n st.c) = w2 at *
 have g2 := qac w2 (w.heap.size + 1 + 1) 0 (.slice si.a si.n si.c)
 have c1 : BoxS (w2.setCell ⟨w.heap.size + 1 + 1,0,none⟩ (.slice si.a si.n si.c)) (w.heap.size + 1 + 1) (.slice si.a si.n si.c) := heap_setCell_same w2 _ 0 _ _ _ a1
 have c2 : BoxS (w2.setCell ⟨w.heap.size + 1 + 1,0,none⟩ (.slice si.a si.n si.c)) (w.heap.size + 1) (.slice st.a st.n st.c) := qak a2 g2 (fun e => by have := Option.some.inj e; omega)
 have p1 := o1.kept g2 (.inr (fun e => by have := (o1.lt _ e).1; omega))
 have p2 := o2.kept g2 (.inr (fun e => by have := (o2.lt _ e).1; omega))
 have b2 := b1.grown g2 b1.size (fun k e => by cases e; omega)
 exact ⟨⟨c1,c2,p1.drew,p2.drew,h.ap⟩,⟨b2.os,b2.tape,b2.output,b2.size,b2.block⟩⟩
theorem qo3 (w : World) (c : Cf) (v : Vs) (h : CfAt w c v) (hn : c.ress.length ≤ 8796093022208) (hnt : c.tasks.length ≤ 8796093022208) (hni : c.isrs.length ≤ 8796093022208) (hm : meetB c = true) :
  Calls Tryz.prog 82 #[.agg (cfC c v)] w fun e w' => OwnB w (cntT c c.tasks.length) (cntI c c.isrs.length) e w' := by
 have hi18 : (Tryz.prog.info? 47).map (·.size) = some (cfC c v).size := by rw [show (cfC c v).size = 18 from rfl]; kernel_rfl
 have hb3 : Below w.heap.size w (((w.alloc (.cells (cfC c v) 47)).alloc (.cells #[.slice none 0 0] 54)).alloc (.cells #[.slice none 0 0] 54)) := (((Below.refl w.heap.size w).alloc (Nat.le_refl _) _).alloc (by simp) _).alloc (by simp; omega) _
 have hs3 : (((w.alloc (.cells (cfC c v) 47)).alloc (.cells #[.slice none 0 0] 54)).alloc (.cells #[.slice none 0 0] 54)).heap.size = w.heap.size + 3 := by simp
 have hc3 := qad _ (.cells #[.slice none 0 0] 54) (qar w (.cells (cfC c v) 47) (.cells #[.slice none 0 0] 54))
 have ht3 := qad _ (.cells #[.slice none 0 0] 54) (qaj w (.cells (cfC c v) 47) (.cells #[.slice none 0 0] 54))
 have hi3 := qaj (w.alloc (.cells (cfC c v) 47)) (.cells #[.slice none 0 0] 54) (.cells #[.slice none 0 0] 54)
 rw [show (w.alloc (.cells (cfC c v) 47)).heap.size + 1 = w.heap.size + 2 by simp] at hi3
 have ke := ql1 w _ c v h hn hnt hni hm hb3 hs3 hc3 ht3 hi3
 generalize cntT c c.tasks.length = LT at *
 generalize cntI c c.isrs.length = LI at *
 generalize cfC c v = C at *
 clear h hm hb3 hs3 ht3 hi3
 go_enter Tryz.func82,Tryz.ntmps82
 go_wp2_with (first | (refine wpList_load_row rfl 47 _ rfl w.heap.size rfl 47 _ (0,0) _ hc3 Tryz.underlying47 rfl hi18 ?_) | (go_at_call 130; refine ke.mono ?_; clear ke; rintro e w1 ⟨rfl,ui,ut,hT,hbw⟩; obtain ⟨si,rfl,hsi⟩ := qas hT.o1; obtain ⟨st,rfl,hst⟩ := qas hT.o2; have zi : w1.cell? ⟨w.heap.size + 2,0,none⟩ = some (.slice si.a si.n si.c) := (by rw [cell_of_row w1 _ 0 _ _ (0,0) hT.x1]; rfl); have zt : w1.cell? ⟨w.heap.size + 1,0,none⟩ = some (.slice st.a st.n st.c) := (by rw [cell_of_row w1 _ 0 _ _ (0,0) hT.x2]; rfl); have fi : w1.frozen? ⟨w.heap.size + 2,0,none⟩ = false := frozen_of_row w1 _ 0 _ _ hT.x1; have ft : w1.frozen? ⟨w.heap.size + 1,0,none⟩ = false := frozen_of_row w1 _ 0 _ _ hT.x2; have HT : Hid (TwoN w1 (w.heap.size + 4) (w.heap.size + 2) (w.heap.size + 1) (.slice si.a si.n si.c) (.slice st.a st.n st.c) LI LT ∧ Below w.heap.size w w1) := ⟨hT,hbw⟩; clear hT hbw hsi hst hc3))
 go_big_region
 have HE := qpy HT.out
 clear HT
 generalize ((w1.setCell ⟨w.heap.size + 1,0,none⟩ (.slice st.a st.n st.c)).setCell ⟨w.heap.size + 1 + 1,0,none⟩ (.slice si.a si.n si.c)).drew = w9 at *
 clear zi zt fi ft
 have zi : w9.cell? ⟨w.heap.size + 1 + 1,0,none⟩ = some (.slice si.a si.n si.c) := by rw [cell_of_row w9 _ 0 _ _ (0,0) HE.1.x1]; rfl
 have zt : w9.cell? ⟨w.heap.size + 1,0,none⟩ = some (.slice st.a st.n st.c) := by rw [cell_of_row w9 _ 0 _ _ (0,0) HE.1.x2]; rfl
 go_wp2
 (try simp only [Exit.inBlock,Exit.then])
 refine bodyPost_ret (qu6 Tryz.results82 _ (w.heap.size + 1) (w.heap.size + 1 + 1) w9 st si rfl rfl zt zi) rfl ?_
 exact ⟨_,_,rfl,qcr HE.1.o2 (by omega),qcr HE.1.o1 (by omega),fun g h1 h2 => HE.1.ap g h2 h1,HE.2⟩
end Go.Proofs.YtmidaeljeoifdaaGreatDoor.Ce
namespace Go.Proofs.YtmidaeljeoifdaaGreatDoor.Ce
open Go.RowKit
set_option linter.unusedSimpArgs false
set_option linter.unusedVariables false
set_option maxHeartbeats 16000000
set_option maxRecDepth 100000
theorem qpz {α : Type} (f : α → Bool) (g : α → Int) : ∀ (l : List α) (t : Option Int),t ≠ none → l.foldl (fun t x => if f x = true then topAdd t (g x) else t) t ≠ none := by
 intro l
 induction l with
 | nil => intro t h; exact h
 | cons x r ih =>
  intro t h
  rw [List.foldl_cons]
  refine ih _ ?_
  by_cases hf : f x = true
  ·rw [if_pos hf]
   cases t <;> simp [topAdd]
  ·rw [if_neg hf]
   exact h
theorem qq0 {α : Type} (f : α → Bool) (g : α → Int) : ∀ (l : List α) (t : Option Int) (x : α),x ∈ l → f x = true → l.foldl (fun t x => if f x = true then topAdd t (g x) else t) t ≠ none := by
 intro l
 induction l with
 | nil => intro t x hx; cases hx
 | cons y r ih =>
  intro t x hx hf
  rw [List.foldl_cons]
  rcases List.mem_cons.1 hx with rfl | hx
  ·rw [if_pos hf]
   exact qpz f g r _ (by cases t <;> simp [topAdd])
  ·exact ih _ x hx hf
theorem qu7 {α : Type} (g : α → Int) : ∀ (l : List α) (t : Option Int) (q : Int),l.foldl (fun t x => topAdd t (g x)) t = some q → (∀ p,t = some p → p ≤ q) ∧ ∀ x ∈ l,g x ≤ q := by
 intro l
 induction l with
 | nil => intro t q h; exact ⟨fun p hp => by rw [List.foldl_nil,hp] at h; cases h; exact Int.le_refl _,fun x hx => by cases hx⟩
 | cons y r ih =>
  intro t q h
  rw [List.foldl_cons] at h
  obtain ⟨h1,h2⟩ := ih _ q h
  have hy : g y ≤ q ∧ ∀ p,t = some p → p ≤ q := by
   cases t with
   | none => exact ⟨h1 (g y) rfl,fun p hp => by cases hp⟩
   | some a =>
    have := h1 (max (g y) a) rfl
    exact ⟨by omega,fun p hp => by cases hp; omega⟩
  exact ⟨hy.2,fun x hx => by
   rcases List.mem_cons.1 hx with rfl | hx
   ·exact hy.1
   ·exact h2 x hx⟩
theorem qja {α : Type} (g : α → Int) (l : List α) (x : α) (hx : x ∈ l) : l.foldl (fun t x => topAdd t (g x)) none ≠ none := by
 have := qq0 (fun _ => true) g l none x hx rfl
 simpa using this
theorem prio_le {c : Cf} {x : Tk} (hx : x ∈ c.tasks) : x.prio ≤ schE c := by
 unfold schE schT
 rw [List.take_of_length_le (Nat.le_refl _)]
 cases h : c.tasks.foldl (fun t x => topAdd t x.prio) none with
 | none => exact absurd h (qja (fun x : Tk => x.prio) c.tasks x hx)
 | some q => exact (qu7 (fun x : Tk => x.prio) c.tasks none q h).2 x hx
def runF (c : Cf) (l : List Int) (m : Int) : Int := l.foldl (fun m r => if rkind c r == 3 then max m (ceilE c r.toNat) else m) m
def runP (c : Cf) (x : Tk) : Int := runF c x.res (if x.full = true then x.prio else max x.prio (schE c))
end Go.Proofs.YtmidaeljeoifdaaGreatDoor.Ce
namespace Go.Proofs.YtmidaeljeoifdaaGreatDoor.Ce
open Go.Maps Go.RowKit
set_option linter.unusedSimpArgs false
set_option linter.unusedVariables false
set_option maxHeartbeats 16000000
set_option maxRecDepth 100000
def runA (c : Cf) (i : Nat) : Int := match c.tasks[i]? with | some x => runP c x | none => 0
def rowM (f : Nat → Int) (n j : Nat) (m : Int) : List Value := (List.range n).map (fun i => if i < j then I (f i) else if i = j then I m else I 0)
theorem qu8 (f : Nat → Int) {n j : Nat} (m : Int) (h : j < n) : (rowM f n j m)[j]? = some (I m) := by
 unfold rowM
 rw [List.getElem?_map,List.getElem?_range h,Option.map_some,if_neg (by omega),if_pos rfl]
theorem qsi (f : Nat → Int) (n j : Nat) (m m' : Int) : (rowM f n j m).set j (I m') = rowM f n j m' := by
 unfold rowM
 apply List.ext_getElem?
 intro i
 rw [List.getElem?_set]
 by_cases hij : j = i
 ·subst hij
  by_cases hl : j < n
  ·simp [hl]
  ·simp [hl]
 ·rw [if_neg hij]
  by_cases hl : i < n
  ·simp only [List.getElem?_map,List.getElem?_range hl,Option.map_some]
   by_cases h1 : i < j
   ·rw [if_pos h1,if_pos h1]
   ·rw [if_neg h1,if_neg (by omega),if_neg h1,if_neg (by omega)]
  ·simp [hl]
theorem qil (f : Nat → Int) (n j : Nat) : rowM f n j (f j) = rowM f n (j + 1) 0 := by
 unfold rowM
 apply List.map_congr_left
 intro i hi
 by_cases h1 : i < j
 ·rw [if_pos h1,if_pos (by omega)]
 ·rw [if_neg h1]
  by_cases h2 : i = j
  ·subst h2
   rw [if_pos rfl,if_pos (by omega)]
  ·rw [if_neg h2,if_neg (by omega)]
   split <;> rfl
theorem qq1 (f : Nat → Int) (n : Nat) : rowM f n 0 0 = List.replicate n (.int .i64 0) := by
 unfold rowM
 apply List.ext_getElem?
 intro i
 by_cases hl : i < n
 ·simp [hl]
 ·simp [hl]
theorem qsj (c : Cf) (m : Int) : rowM (runA c) c.tasks.length c.tasks.length m = (c.tasks.map (runP c)).map fun x => I x := by
 unfold rowM
 apply List.ext_getElem?
 intro i
 by_cases hl : i < c.tasks.length
 ·rw [List.getElem?_map,List.getElem?_range hl,Option.map_some,if_pos hl,List.getElem?_map,List.getElem?_map]
  unfold runA
  rw [List.getElem?_eq_getElem hl]
  rfl
 ·rw [List.getElem?_eq_none (by simpa using hl),List.getElem?_eq_none (by simpa using hl)]
theorem qim (c : Cf) {l : List Int} {k : Nat} {x : Int} (m : Int) (hx : l[k]? = some x) : runF c (l.take (k + 1)) m = if (rkind c x == 3) = true then max (runF c (l.take k) m) (ceilE c x.toNat) else runF c (l.take k) m := by
 unfold runF
 rw [List.take_add_one,hx,Option.toList_some,List.foldl_append]
 rfl
theorem qo4 (a b : Int) : (if a < b then b else a) = max a b := by split <;> omega
structure RunS (w W2 : World) (c : Cf) (n j T : Nat) (tc : Array Value) (m : Int) (W : World) : Prop where
 o : W.ownsRow w.heap.size 3 1 (.slice (some ⟨W2.heap.size,0,none⟩) n n) n (rowM (runA c) n j m)
 b : Below (W2.heap.size) W2 W
 t : W.heap[T]? = some (.cells tc 58 (0,0))
theorem RunS.set {w W2 : World} {c : Cf} {n j T : Nat} {tc : Array Value} {m : Int} {W : World} (h : RunS w W2 c n j T tc m W) (hT : T ≠ W2.heap.size) (m' : Int) : RunS w W2 c n j T tc m' (W.setCell ⟨W2.heap.size,j,none⟩ (I m')) := by
 have st := h.o.stored j (I m')
 refine ⟨?_,h.b.grown st.2 h.b.size (fun k e => by cases e; exact Nat.le_refl _),qak h.t (qac _ _ _ _) (fun e => hT (Option.some.inj e))⟩
 rw [← qsi _ _ _ m m']
 exact st.1
theorem RunS.drew {w W2 : World} {c : Cf} {n j T : Nat} {tc : Array Value} {m : Int} {W : World} (h : RunS w W2 c n j T tc m W) : RunS w W2 c n j T tc m W.drew :=
 ⟨h.o.drew,⟨h.b.os,h.b.tape,h.b.output,h.b.size,h.b.block⟩,h.t⟩
theorem RunS.cell {w W2 : World} {c : Cf} {n j T : Nat} {tc : Array Value} {m : Int} {W : World} (h : RunS w W2 c n j T tc m W) (hj : j < n) : W.cell? ⟨W2.heap.size,j,none⟩ = some (I m) ∧ W.frozen? ⟨W2.heap.size,j,none⟩ = false := by
 refine ⟨?_,h.o.frozenAt j⟩
 rw [h.o.cellAt j (by omega)]
 exact qu8 _ _ hj
theorem qmf (w : World) (c : Cf) (v : Vs) (h : CfAt w c v) (hn : c.ress.length ≤ 8796093022208) (hnt : c.tasks.length ≤ 8796093022208) (hmt : meetB c = true) (s0 s2 s3 s4 : Sl) (hs0 : RowsAt w 1 intP s0 (ceilL c)) :
  Calls Tryz.prog 81 #[.agg (cfC c v), .agg (ceC (schE c) s0 s2 s3 s4)] w fun e w' => OwnI w (c.tasks.map (runP c)) e w' := by
 obtain ⟨i0,hi0,hz0,hz1,hz2⟩ := info_parts Tryz.infoInt
 have HN : Hid (v.t.n = c.tasks.length) := h.t.n
 have HNR : Hid (v.r.n = c.ress.length) := h.r.n
 have hn2 : v.t.n ≤ 8796093022208 := by have := h.t.n; omega
 have HMT : Hid (meetB c = true) := hmt
 have hV0 := qar w (.cells (cfC c v) 47) (.cells (ceC (schE c) s0 s2 s3 s4) 82)
 have hV1 := qaj w (.cells (cfC c v) 47) (.cells (ceC (schE c) s0 s2 s3 s4) 82)
 have hb2 : Below w.heap.size w ((w.alloc (.cells (cfC c v) 47)).alloc (.cells (ceC (schE c) s0 s2 s3 s4) 82)) := ((Below.refl w.heap.size w).alloc (Nat.le_refl _) _).alloc (by simp) _
 have hsz2 : Hid (((w.alloc (.cells (cfC c v) 47)).alloc (.cells (ceC (schE c) s0 s2 s3 s4) 82)).heap.size = w.heap.size + 2) := by show _ = _; simp
 have hcv : ∀ W : World,W.heap[w.heap.size]? = some (.cells (cfC c v) 47 (0,0)) → W.cell? ⟨w.heap.size,11,none⟩ = some (.slice v.t.a v.t.n v.t.c) ∧ W.cell? ⟨w.heap.size,12,none⟩ = some (.slice v.r.a v.r.n v.r.c) := fun W hW => by
  obtain ⟨_,h10,h11,h12,h13,h14,h15,h16,h17⟩ := qao hW
  exact ⟨h11,h12⟩
 have h11 : ∀ hh : 11 < (cfC c v).size,(cfC c v)[11] = .slice v.t.a v.t.n v.t.c := fun _ => rfl
 have hs18 : (cfC c v).size = 18 := rfl
 have HCf : Hid (CfAt w c v) := h
 have HS0 : Hid (RowsAt w 1 intP s0 (ceilL c)) := hs0
 have hs0n : s0.n = c.ress.length := by rw [hs0.n]; unfold ceilL; simp
 have HS0N : Hid (s0.n = c.ress.length) := hs0n
 have hct : v.t.n ≤ v.t.c := h.t.c
 have hmtt : v.t.c ≤ maxLen := h.t.m
 have hs0c : s0.n ≤ s0.c := hs0.c
 have hs0m : s0.c ≤ maxLen := hs0.m
 have hcr : v.r.n ≤ v.r.c := h.r.c
 have hmr : v.r.c ≤ maxLen := h.r.m
 unfold maxLen at hmtt hs0m hmr
 obtain ⟨sch,hsch⟩ : ∃ sch,sch = schE c := ⟨_,rfl⟩
 have HSCH : Hid (sch = schE c) := hsch
 rw [← hsch] at hV0 hV1 hb2 hsz2 ⊢
 generalize cfC c v = C at *
 replace h11 := h11 (by omega)
 unfold ceC at *
 obtain ⟨W2,hW2⟩ : ∃ W2,W2 = (w.alloc (.cells C 47)).alloc (.cells #[.slice s0.a s0.n s0.c,I sch, .slice s2.a s2.n s2.c, .slice s3.a s3.n s3.c, .slice s4.a s4.n s4.c] 82) := ⟨_,rfl⟩
 rw [← hW2] at hV0 hV1 hb2 hsz2
 have HF : Hid (∀ W,Below W2.heap.size W2 W → (W.cell? ⟨w.heap.size,11,none⟩ = some (.slice v.t.a v.t.n v.t.c) ∧ W.cell? ⟨w.heap.size,12,none⟩ = some (.slice v.r.a v.r.n v.r.c) ∧ W.cell? ⟨w.heap.size + 1,0,none⟩ = some (.slice s0.a s0.n s0.c) ∧ W.cell? ⟨w.heap.size + 1,1,none⟩ = some (I sch)) ∧ Below w.heap.size w W ∧ W2.heap.size ≤ W.heap.size) := fun W hW => by
  have hs := hW.size
  have hs2 := hsz2.out
  have hs2 := hsz2.out
  have q0 := (hW.block w.heap.size (by omega)).trans hV0
  have q1 := (hW.block (w.heap.size + 1) (by omega)).trans hV1
  refine ⟨⟨(hcv W q0).1,(hcv W q0).2, ?_, ?_⟩,hb2.trans (hW.mono (by omega)),by omega⟩
  ·rw [cell_of_row W _ 0 _ _ (0,0) q1]; rfl
  ·rw [cell_of_row W _ 1 _ _ (0,0) q1]; rfl
 have y11 : W2.cell? ⟨w.heap.size,11,none⟩ = some (.slice v.t.a v.t.n v.t.c) := (hcv W2 hV0).1
 have hbase : w.heap.size ≤ W2.heap.size := by have := hsz2.out; omega
 clear h hs0 hcv hsch hb2 hV0 hV1 hs0n hmt
 go_enter Tryz.func81,Tryz.ntmps81
 go_upto_region 1 with fail
 rw [← hW2]
 clear hW2
 go_wp2_with (refine wpList_make_full _ rfl _ _ 54 rfl w.heap.size 3 i0 (.int .i64 0) 1 Tryz.underlying54 hi0 hz0 hz1 .i64 .i64 _ _ v.t.n rfl rfl rfl rfl (by rw [hz2]; omega) (by unfold maxLen; omega) hbase ?_; intro w6 hO6 hg6; have HB6 : Hid (Below W2.heap.size W2 w6) := qal hg6; have z11 := (HF.out _ HB6.out).1.1; clear y11)
 have HO6 : Hid (w6.ownsRow w.heap.size 3 1 (.slice (some ⟨W2.heap.size,0,none⟩) v.t.n v.t.n) v.t.n (rowM (runA c) v.t.n 0 0)) := by
  rw [qq1]
  have := hO6
  rw [show (Value.int .i64 0).cells = #[.int .i64 0] from rfl,Nat.mul_one,toList_madeCells_one] at this
  exact this
 clear hO6 hg6 z11
 go_loopw [6,7,17] (fun _ _ iv wr => ∃ j : Nat,j ≤ v.t.n ∧ iv = .int .i64 j ∧ Hid (wr.ownsRow w.heap.size 3 1 (.slice (some ⟨W2.heap.size,0,none⟩) v.t.n v.t.n) v.t.n (rowM (runA c) v.t.n j 0) ∧ Below W2.heap.size W2 wr)) (fun _ _ iv _ => v.t.n - (intOf iv).toNat)
 case atStart => exact ⟨0,by omega,rfl,HO6.out,HB6.out⟩
 case round =>
  clear HB6 HO6
  obtain ⟨j,hj,rfl,HJ⟩ := hrel
  by_cases hlt : j < v.t.n
  ·have hlt' : (j : Int) < v.t.n := by omega
   obtain ⟨x,hx⟩ : ∃ x,c.tasks[j]? = some x := ⟨_,List.getElem?_eq_getElem (by rw [← HN.out]; exact hlt)⟩
   obtain ⟨hO,hB⟩ := HJ.out
   obtain ⟨⟨y11,y12,z0,z1⟩,hbw,hsw⟩ := HF.out _ hB
   obtain ⟨g,off,s4',s5,s6,s7,e,hg,a0,a1,a2,a3,a4,a5,a6,a7,r4,r5,r6,r7⟩ := qbj (HCf.out.below hbw) hx
   obtain ⟨g',off',t4,t5,t6,t7,e',hg',b0,b1,b2,b3,b4,b5,b6,b7,q4,q5,q6,q7⟩ := qbj HCf.out hx
   have hng : g ≠ wr.heap.size := Nat.ne_of_lt hg
   have ht5 : Sl.mk t5.a t5.n t5.c = s5 := by
    have e2 : (some ⟨g,off,none⟩ : Option Addr) = some ⟨g',off',none⟩ := e.symm.trans e'
    injection e2 with e2
    injection e2 with e3 e4
    subst e3
    subst e4
    have h1 := (qa7 hbw _ _ hg').trans b5
    rw [h1] at a5
    injection a5 with a5
    injection a5 with p1 p2 p3
    cases s5
    simp_all
   have HR5 : Hid (RowsAt w 1 intP s5 x.res) := by rw [← ht5]; exact q5
   have hst : (storeCells ⟨wr.heap.size,0,none⟩ [S x.name,I x.prio, .bool x.full,I x.act, .slice s4'.a s4'.n s4'.c, .slice s5.a s5.n s5.c, .slice s6.a s6.n s6.c, .slice s7.a s7.n s7.c] 0).run Tryz.prog (wr.alloc (.cells #[.string ⟨#[]⟩, .int .i64 0, .bool false, .int .i64 0, .slice none 0 0, .slice none 0 0, .slice none 0 0, .slice none 0 0] 58)) = .ok () (wr.alloc (.cells #[S x.name,I x.prio, .bool x.full,I x.act, .slice s4'.a s4'.n s4'.c, .slice s5.a s5.n s5.c, .slice s6.a s6.n s6.c, .slice s7.a s7.n s7.c] 58)) :=
    run_storeCells_new (P := Tryz.prog) wr 58 #[.string ⟨#[]⟩, .int .i64 0, .bool false, .int .i64 0, .slice none 0 0, .slice none 0 0, .slice none 0 0, .slice none 0 0] #[S x.name,I x.prio, .bool x.full,I x.act, .slice s4'.a s4'.n s4'.c, .slice s5.a s5.n s5.c, .slice s6.a s6.n s6.c, .slice s7.a s7.n s7.c] (by kernel_rfl) rfl (by simp [Value.oneCell'])
   have hal := qa0 wr (.cells #[S x.name,I x.prio, .bool x.full,I x.act, .slice s4'.a s4'.n s4'.c, .slice s5.a s5.n s5.c, .slice s6.a s6.n s6.c, .slice s7.a s7.n s7.c] 58)
   have hT : wr.heap.size ≠ W2.heap.size := by
    intro e9
    have := (hO.lt W2.heap.size rfl).2
    omega
   have HT : Hid (wr.heap.size ≠ W2.heap.size) := hT
   have HRS : Hid (RunS w W2 c v.t.n j wr.heap.size #[S x.name,I x.prio, .bool x.full,I x.act, .slice s4'.a s4'.n s4'.c, .slice s5.a s5.n s5.c, .slice s6.a s6.n s6.c, .slice s7.a s7.n s7.c] 0 (wr.alloc (.cells #[S x.name,I x.prio, .bool x.full,I x.act, .slice s4'.a s4'.n s4'.c, .slice s5.a s5.n s5.c, .slice s6.a s6.n s6.c, .slice s7.a s7.n s7.c] 58))) := ⟨qa6 hO hal,hB.trans (hal.mono hB.size),heap_alloc_new _ _⟩
   have HRA : Hid (runA c j = runF c x.res (if x.full = true then x.prio else max x.prio sch)) := by show _ = _; unfold runA; rw [hx,HSCH.out]; rfl
   have HME : Hid (∀ z ∈ x.res,isId z c.ress.length = true) := (qdx HMT.out hn (List.mem_of_getElem? hx)).1
   have HS5 : Hid (s5.n = x.res.length) := HR5.out.n
   have hs5c : s5.n ≤ s5.c := HR5.out.c
   have hs5m : s5.c ≤ maxLen := HR5.out.m
   unfold maxLen at hs5m
   clear hx HJ hal r4 r5 r6 r7 q4 q5 q6 q7 b0 b1 b2 b3 b4 b5 b6 b7 ht5 e' hg' hO hB hT
   rw [e]
   clear e
   go_upto_region 5 with fail
   clear a0 a1 a2 a3 a4 a5 a6 a7 y11 y12 z0 z1 hst hbw hsw hng
   generalize hTC : (#[S x.name,I x.prio, .bool x.full,I x.act, .slice s4'.a s4'.n s4'.c, .slice s5.a s5.n s5.c, .slice s6.a s6.n s6.c, .slice s7.a s7.n s7.c] : Array Value) = TC at *
   have HTC : Hid (∀ W : World,W.heap[wr.heap.size]? = some (.cells TC 58 (0,0)) → W.cell? ⟨wr.heap.size,1,none⟩ = some (I x.prio) ∧ W.cell? ⟨wr.heap.size,2,none⟩ = some (.bool x.full) ∧ W.cell? ⟨wr.heap.size,5,none⟩ = some (.slice s5.a s5.n s5.c)) := fun W hW => by
    rw [← hTC] at hW
    refine ⟨?_, ?_, ?_⟩
    ·rw [cell_of_row W _ 1 _ _ (0,0) hW]; rfl
    ·rw [cell_of_row W _ 2 _ _ (0,0) hW]; rfl
    ·rw [cell_of_row W _ 5 _ _ (0,0) hW]; rfl
   clear hTC
   generalize wr.alloc (.cells TC 58) = w3 at *
   generalize wr.heap.size = T at *
   obtain ⟨p1,p2,p5⟩ := HTC.out _ HRS.out.t
   obtain ⟨zl,fl⟩ := HRS.out.cell hlt
   go_upto_region 6 with fail
   clear p1 p2 p5 zl fl
   have HR4 := HRS.out.set HT.out x.prio
   generalize w3.setCell ⟨W2.heap.size,j,none⟩ (I x.prio) = w4 at *
   clear HRS
   have H4 : Hid (RunS w W2 c v.t.n j T TC x.prio w4) := HR4
   clear HR4
   obtain ⟨p1,p2,p5⟩ := HTC.out _ H4.out.t
   cases hfu : x.full with
   | true =>
    rw [hfu] at p2 HRA
    obtain ⟨M,hM⟩ : ∃ M,M = x.prio := ⟨_,rfl⟩
    have H5 : Hid (RunS w W2 c v.t.n j T TC M w4) := by rw [hM]; exact H4.out
    simp only [if_true] at HRA
    rw [← hM] at HRA
    clear H4 hM hfu p1
    go_wp2
    clear p2 p5
    go_loopw [9,43] (fun _ iv wr => ∃ k : Nat,k ≤ s5.n ∧ iv = .int .i64 k ∧ Hid (RunS w W2 c v.t.n j T TC (runF c (x.res.take k) M) wr)) (fun _ iv _ => s5.n - (intOf iv).toNat)
    case atStart => exact ⟨0,by omega,rfl,by show RunS w W2 c v.t.n j T TC (runF c (x.res.take 0) M) _; exact H5.out⟩
    case round =>
     clear H5
     obtain ⟨k,hk,rfl,HK⟩ := hrel
     by_cases hkt : k < s5.n
     ·have hkt' : (k : Int) < s5.n := by omega
      obtain ⟨⟨_,y12,z0,_⟩,hbw,hsw⟩ := HF.out _ HK.out.b
      obtain ⟨zl,fl⟩ := HK.out.cell hlt
      obtain ⟨r,hr⟩ : ∃ r,x.res[k]? = some r := ⟨_,List.getElem?_eq_getElem (by rw [← HS5.out]; exact hkt)⟩
      have hbd : 0 ≤ r ∧ r < c.ress.length := by simpa [isId] using HME.out r (List.mem_of_getElem? hr)
      obtain ⟨q,rfl⟩ := Int.eq_ofNat_of_zero_le hbd.1
      have hq : q < c.ress.length := by omega
      have hqv : (q : Int) < v.r.n := by have := HNR.out; omega
      have hqs : (q : Int) < s0.n := by have := HS0N.out; omega
      obtain ⟨g5,o5,e5,hg5,d5⟩ := qau (HR5.out.below hbw (fun _ _ _ _ h => h)) hr
      obtain ⟨rx,hrx⟩ : ∃ rx,c.ress[q]? = some rx := ⟨_,List.getElem?_eq_getElem hq⟩
      obtain ⟨gr,or',er,hgr,f0,f1,f2⟩ := qb5 (HCf.out.below hbw) hrx
      have hce : (ceilL c)[q]? = some (ceilE c q) := by unfold ceilL; rw [List.getElem?_map,List.getElem?_range hq]; rfl
      obtain ⟨gc,oc,ec,hgc,d0⟩ := qau (HS0.out.below hbw (fun _ _ _ _ h => h)) hce
      have HSN : Hid (runF c (x.res.take (k + 1)) M = if (rx.kind == 3) = true then max (runF c (x.res.take k) M) (ceilE c q) else runF c (x.res.take k) M) := by show _ = _; rw [qim c M hr,qcb hrx]; rfl
      rw [er] at y12
      rw [ec] at z0
      rw [e5]
      clear hbd hr hrx hce e5 er ec f0 f2 hbw hsw
      generalize ceilE c q = ce at *
      cases hk3 : rx.kind == 3 with
      | true =>
       have HN2 : Hid (runF c (x.res.take (k + 1)) M = max (runF c (x.res.take k) M) ce) := by show _ = _; rw [HSN.out,if_pos hk3]
       clear HSN
       have H6 : Hid (RunS w W2 c v.t.n j T TC (runF c (x.res.take (k + 1)) M) (wr.setCell ⟨W2.heap.size,j,none⟩ (I (max (runF c (x.res.take k) M) ce))).drew) := by rw [HN2.out]; exact (HK.out.set HT.out _).drew
       generalize runF c (x.res.take k) M = m at *
       go_wp2
       go_big_region
       rw [qo4]
       clear zl fl y12 z0 d5 d0 f1 HK
       generalize (wr.setCell ⟨W2.heap.size,j,none⟩ (I (max m ce))).drew = w8 at *
       go_wp2
       go_roundw
       case rel => exact ⟨k + 1,by omega,by go_num,H6.out⟩
       case measure => simp [intOf]; omega
      | false =>
       have HN2 : Hid (runF c (x.res.take (k + 1)) M = runF c (x.res.take k) M) := by show _ = _; rw [HSN.out,if_neg (by rw [hk3]; decide)]
       clear HSN
       have H6 : Hid (RunS w W2 c v.t.n j T TC (runF c (x.res.take (k + 1)) M) wr) := by rw [HN2.out]; exact HK.out
       go_wp2
       go_roundw
       case rel => exact ⟨k + 1,by omega,by go_num,H6.out⟩
       case measure => simp [intOf]; omega
     ·obtain rfl : k = s5.n := by omega
      have hkt' : ¬ ((s5.n : Nat) : Int) < (s5.n : Nat) := by omega
      have HE : Hid (wr.ownsRow w.heap.size 3 1 (.slice (some ⟨W2.heap.size,0,none⟩) v.t.n v.t.n) v.t.n (rowM (runA c) v.t.n (j + 1) 0) ∧ Below W2.heap.size W2 wr) := by
       refine ⟨?_,HK.out.b⟩
       have := HK.out.o
       rw [HS5.out,List.take_of_length_le (Nat.le_refl _), ← HRA.out,qil] at this
       exact this
      clear HK
      go_wp2
      go_roundw
      case rel => exact ⟨j + 1,by omega,by go_num,HE.out⟩
      case measure => simp [intOf]; omega
   | false =>
    rw [hfu] at p2 HRA
    obtain ⟨M,hM⟩ : ∃ M,M = max x.prio sch := ⟨_,rfl⟩
    have H5 : Hid (RunS w W2 c v.t.n j T TC M (w4.setCell ⟨W2.heap.size,j,none⟩ (I (max x.prio sch))).drew) := by rw [hM]; exact (H4.out.set HT.out _).drew
    simp only [Bool.false_eq_true,if_false] at HRA
    rw [← hM] at HRA
    obtain ⟨⟨_,_,_,z1⟩,_,_⟩ := HF.out _ H4.out.b
    obtain ⟨zl,fl⟩ := H4.out.cell hlt
    clear H4 hM hfu p1
    go_wp2
    go_big_region
    rw [qo4]
    clear zl fl z1 p2 p5
    generalize (w4.setCell ⟨W2.heap.size,j,none⟩ (I (max x.prio sch))).drew = w5 at *
    obtain ⟨_,_,p5⟩ := HTC.out _ H5.out.t
    go_wp2
    clear p5
    go_loopw [9,43] (fun _ iv wr => ∃ k : Nat,k ≤ s5.n ∧ iv = .int .i64 k ∧ Hid (RunS w W2 c v.t.n j T TC (runF c (x.res.take k) M) wr)) (fun _ iv _ => s5.n - (intOf iv).toNat)
    case atStart => exact ⟨0,by omega,rfl,by show RunS w W2 c v.t.n j T TC (runF c (x.res.take 0) M) _; exact H5.out⟩
    case round =>
     clear H5
     obtain ⟨k,hk,rfl,HK⟩ := hrel
     by_cases hkt : k < s5.n
     ·have hkt' : (k : Int) < s5.n := by omega
      obtain ⟨⟨_,y12,z0,_⟩,hbw,hsw⟩ := HF.out _ HK.out.b
      obtain ⟨zl,fl⟩ := HK.out.cell hlt
      obtain ⟨r,hr⟩ : ∃ r,x.res[k]? = some r := ⟨_,List.getElem?_eq_getElem (by rw [← HS5.out]; exact hkt)⟩
      have hbd : 0 ≤ r ∧ r < c.ress.length := by simpa [isId] using HME.out r (List.mem_of_getElem? hr)
      obtain ⟨q,rfl⟩ := Int.eq_ofNat_of_zero_le hbd.1
      have hq : q < c.ress.length := by omega
      have hqv : (q : Int) < v.r.n := by have := HNR.out; omega
      have hqs : (q : Int) < s0.n := by have := HS0N.out; omega
      obtain ⟨g5,o5,e5,hg5,d5⟩ := qau (HR5.out.below hbw (fun _ _ _ _ h => h)) hr
      obtain ⟨rx,hrx⟩ : ∃ rx,c.ress[q]? = some rx := ⟨_,List.getElem?_eq_getElem hq⟩
      obtain ⟨gr,or',er,hgr,f0,f1,f2⟩ := qb5 (HCf.out.below hbw) hrx
      have hce : (ceilL c)[q]? = some (ceilE c q) := by unfold ceilL; rw [List.getElem?_map,List.getElem?_range hq]; rfl
      obtain ⟨gc,oc,ec,hgc,d0⟩ := qau (HS0.out.below hbw (fun _ _ _ _ h => h)) hce
      have HSN : Hid (runF c (x.res.take (k + 1)) M = if (rx.kind == 3) = true then max (runF c (x.res.take k) M) (ceilE c q) else runF c (x.res.take k) M) := by show _ = _; rw [qim c M hr,qcb hrx]; rfl
      rw [er] at y12
      rw [ec] at z0
      rw [e5]
      clear hbd hr hrx hce e5 er ec f0 f2 hbw hsw
      generalize ceilE c q = ce at *
      cases hk3 : rx.kind == 3 with
      | true =>
       have HN2 : Hid (runF c (x.res.take (k + 1)) M = max (runF c (x.res.take k) M) ce) := by show _ = _; rw [HSN.out,if_pos hk3]
       clear HSN
       have H6 : Hid (RunS w W2 c v.t.n j T TC (runF c (x.res.take (k + 1)) M) (wr.setCell ⟨W2.heap.size,j,none⟩ (I (max (runF c (x.res.take k) M) ce))).drew) := by rw [HN2.out]; exact (HK.out.set HT.out _).drew
       generalize runF c (x.res.take k) M = m at *
       go_wp2
       go_big_region
       rw [qo4]
       clear zl fl y12 z0 d5 d0 f1 HK
       generalize (wr.setCell ⟨W2.heap.size,j,none⟩ (I (max m ce))).drew = w8 at *
       go_wp2
       go_roundw
       case rel => exact ⟨k + 1,by omega,by go_num,H6.out⟩
       case measure => simp [intOf]; omega
      | false =>
       have HN2 : Hid (runF c (x.res.take (k + 1)) M = runF c (x.res.take k) M) := by show _ = _; rw [HSN.out,if_neg (by rw [hk3]; decide)]
       clear HSN
       have H6 : Hid (RunS w W2 c v.t.n j T TC (runF c (x.res.take (k + 1)) M) wr) := by rw [HN2.out]; exact HK.out
       go_wp2
       go_roundw
       case rel => exact ⟨k + 1,by omega,by go_num,H6.out⟩
       case measure => simp [intOf]; omega
     ·obtain rfl : k = s5.n := by omega
      have hkt' : ¬ ((s5.n : Nat) : Int) < (s5.n : Nat) := by omega
      have HE : Hid (wr.ownsRow w.heap.size 3 1 (.slice (some ⟨W2.heap.size,0,none⟩) v.t.n v.t.n) v.t.n (rowM (runA c) v.t.n (j + 1) 0) ∧ Below W2.heap.size W2 wr) := by
       refine ⟨?_,HK.out.b⟩
       have := HK.out.o
       rw [HS5.out,List.take_of_length_le (Nat.le_refl _), ← HRA.out,qil] at this
       exact this
      clear HK
      go_wp2
      go_roundw
      case rel => exact ⟨j + 1,by omega,by go_num,HE.out⟩
      case measure => simp [intOf]; omega
  ·obtain rfl : j = v.t.n := by omega
   have hlt' : ¬ ((v.t.n : Nat) : Int) < (v.t.n : Nat) := by omega
   obtain ⟨hO,hB⟩ := HJ.out
   obtain ⟨_,hbw,_⟩ := HF.out _ hB
   have HO9 : Hid (wr.ownsRow w.heap.size 3 1 (.slice (some ⟨W2.heap.size,0,none⟩) v.t.n v.t.n) (c.tasks.map (runP c)).length ((c.tasks.map (runP c)).map fun x => I x)) := by
    rw [show (c.tasks.map (runP c)).length = v.t.n by rw [List.length_map,HN.out]]
    rw [← qsj c 0, ← HN.out]
    exact hO
   have HB9 : Hid (Below w.heap.size w wr) := hbw
   clear hO hB hbw HJ
   go_wp2
   go_ret
   exact ⟨_,rfl,HO9.out,HB9.out⟩
end Go.Proofs.YtmidaeljeoifdaaGreatDoor.Ce
