import Derived.Test.YtmidaeljeoifdaaGreatDoorXEcv
import Derived.Lib.QuietBelow
import Derived.Maps.AppendAt
namespace Go.Proofs.YtmidaeljeoifdaaGreatDoor.Ce
open Go.Maps Go.RowKit
set_option linter.unusedSimpArgs false
set_option linter.unusedVariables false
set_option maxHeartbeats 16000000
set_option maxRecDepth 100000
def topR : Value → Option (DataW Unit × List MemPlace)
 | .agg a => match a.toList with
  | [.bool b, .int .i64 p] => some (.agg [.lit (.bool b), .lit (.int .i64 p)], [])
  | _ => none
 | _ => none
def topD : Option Int → DataW Unit
 | none => .agg [.lit (.bool false), .lit (.int .i64 0)]
 | some p => .agg [.lit (.bool true), .lit (.int .i64 p)]
theorem qmv (t : Option Int) : topR (.agg (topC t)) = some (topD t, []) := by cases t <;> rfl
theorem qse {v : Value} {t : Option Int} {ps : List MemPlace} (h : topR v = some (topD t,ps)) : v = .agg (topC t) := by
 unfold topR at h
 split at h
 ·rename_i a
  split at h
  ·rename_i b p hl
   have ha : a = #[.bool b, .int .i64 p] := by cases a; simp at hl; rw [hl]
   rw [ha]
   cases t with
   | none => simp [topD] at h; obtain ⟨⟨rfl,rfl⟩,_⟩ := h; rfl
   | some q => simp [topD] at h; obtain ⟨⟨rfl,rfl⟩,_⟩ := h; rfl
  ·cases h
 ·cases h
theorem qw5 (w : World) : (zeroValue 209).run Tryz.prog w = .ok (.agg (topC none)) w := by kernel_rfl
structure MapT (w : World) (b n : Nat) (ks : List Nat) (f : Nat → Option Int) : Prop where
 nd : ks.Nodup
 lt : ∀ k ∈ ks,k < n
 ex : ∃ D : DataW Unit,w.ownsMap Tryz.prog 3 topR b ks.length D ∧ Maps.size D = ks.length ∧ ∀ j : Nat,Maps.has D (.int .i64 j) = decide (j ∈ ks) ∧ D.atKey (.int .i64 j) (topD none) = topD (f j)
theorem MapT.made (w : World) (n : Nat) : MapT (w.alloc (.map #[] 0)) w.heap.size n [] (fun _ => none) :=
 ⟨List.nodup_nil,(fun k hk => by cases hk), .map [],World.ownsMap_made _ _ _ _,rfl,fun j => ⟨by simp [Maps.has],by simp [DataW.atKey]⟩⟩
theorem MapT.block {w : World} {b n : Nat} {ks : List Nat} {f : Nat → Option Int} (h : MapT w b n ks f) : b < w.heap.size := by
 obtain ⟨D,hD,_⟩ := h.ex
 exact hD.lt
theorem MapT.kept {w w' : World} {b n : Nat} {ks : List Nat} {f : Nat → Option Int} {row : Option Nat} (h : MapT w b n ks f) (hg : w.grownBy w' row) (hne : some b ≠ row) : MapT w' b n ks f := by
 obtain ⟨D,hD,h2⟩ := h.ex
 exact ⟨h.nd,h.lt,D,hD.kept hg hne,h2⟩
theorem MapT.below {w w' : World} {b n : Nat} {ks : List Nat} {f : Nat → Option Int} (h : MapT w b n ks f) (hb : Below w.heap.size w w') : MapT w' b n ks f := h.kept (qbf (r := none) hb) (by simp)
def setT (f : Nat → Option Int) (j : Nat) (e : Option Int) (i : Nat) : Option Int := if i = j then e else f i
section
variable {w : World} {o : Oper} {a : Act} {K : Act → World → Prop} {Q : Exit → Act → World → Prop}
theorem qik (m x : Operand) (t : TypeId) (hop : o.op = Op.lookup t m x false) (ht : Tryz.prog.underlying t = some (.map 3 209)) (b n : Nat) (ks : List Nat) (f : Nat → Option Int)
  (hm : a.eval m = .map (some b)) (h : MapT w b n ks f) (j : Nat) (hj : j < 9223372036854775808) (hx : a.eval x = .int .i64 (j : Int)) (hK : K (a.put o.dst (.agg (topC (f j)))) w) : Oper.wp Tryz.prog o a w K Q := by
 obtain ⟨D,hD,hs,h2⟩ := h.ex
 obtain ⟨v,ps,hrun,hv⟩ := hD.lookup keyI ht (qw5 w) (qmv none) (keyOf_int_mk Tryz.underlying3 (qci hj))
 rw [(h2 j).2] at hv
 obtain rfl := qse hv
 unfold Oper.wp
 simp [execOp,hop,hm,hx,hrun,Result.andThen]
 exact hK
theorem qo1 (m x u : Operand) (t : TypeId) (hop : o.op = Op.mapUpdate t m x u) (ht : Tryz.prog.underlying t = some (.map 3 209)) (b n : Nat) (ks : List Nat) (f : Nat → Option Int)
  (hm : a.eval m = .map (some b)) (h : MapT w b n ks f) (hn : n ≤ 8796093022208) (j : Nat) (hj : j < n) (hx : a.eval x = .int .i64 (j : Int)) (e : Option Int) (hu : a.eval u = .agg (topC e))
  (hK : ∀ w',MapT w' b n (insK ks j) (setT f j e) → w.grownBy w' (some b) → K (a.put o.dst undef) w') : Oper.wp Tryz.prog o a w K Q := by
 have hlen : ks.length ≤ n := qfd h.nd h.lt
 obtain ⟨D,hD,hs,h2⟩ := h.ex
 have hT := hD.tidy keyI
 have hkl : WideAt.IsKeyLit (.int .i64 (j : Int)) := trivial
 obtain ⟨w',hrun,hown,hgr⟩ := hD.update keyI ht (by unfold maxLen; omega) (keyOf_int_mk Tryz.underlying3 (qci (j := j) (by omega))) (qmv e)
 unfold Oper.wp
 simp [execOp,hop,hm,hx,hu,hrun,Result.andThen]
 refine hK w' ?_ hgr
 have hsz : Maps.size (D.put (.int .i64 (j : Int)) (topD e)) = (insK ks j).length := by
  rw [Maps.size_put hT,(h2 j).1,hs]
  unfold insK
  by_cases hm : j ∈ ks <;> simp [hm]
 refine ⟨?_, ?_,_,by rw [← hsz]; exact qdw hown,hsz,fun i => ?_⟩
 ·unfold insK
  by_cases hm : j ∈ ks
  ·rw [if_pos hm]; exact h.nd
  ·rw [if_neg hm]; exact List.nodup_cons.2 ⟨hm,h.nd⟩
 ·intro k hk
  rcases mem_insK.1 hk with rfl | hk
  ·exact hj
  ·exact h.lt k hk
 ·by_cases hij : i = j
  ·subst hij
   refine ⟨by rw [Maps.has_put_same hT.isMap hkl]; simp [mem_insK], ?_⟩
   rw [Maps.atKey_put_same hT.isMap hkl,setT,if_pos rfl]
  ·have hne : (Lit.int .i64 (i : Int)) ≠ .int .i64 (j : Int) := fun e => by
    have : (i : Int) = j := by injection e
    omega
   refine ⟨by rw [Maps.has_put_other hne,(h2 i).1]; simp [mem_insK,hij], ?_⟩
   rw [Maps.atKey_put_other hne,(h2 i).2,setT,if_neg hij]
end
theorem qes {ops : Array Oper} {S : World → Prop} {o : Oper} {a : Act} (hgd : Region.wanted o (yielded ops a.tmps) = true) (m x : Operand) (t : TypeId) (hop : o.op = Op.lookup t m x false) (ht : Tryz.prog.underlying t = some (.map 3 3)) (b : Nat) (c : Cf)
  (hm : a.eval m = .map (some b)) (h : ∀ w,S w → EndsAt w b c) (hn : c.ress.length ≤ 8796093022208) (j : Nat) (hj : j < c.ress.length) (hx : a.eval x = .int .i64 (j : Int)) {q : Int} (hq : rootN c (j : Int) = q) : YieldsIf Tryz.prog ops S o (.int .i64 q) a :=
 .inl ⟨hgd,fun w hw => by
  obtain ⟨ks,hM,hall⟩ := h w hw
  obtain ⟨D,hD,hs,h2⟩ := hM.ex
  obtain ⟨e,hrun,hat,_⟩ := hD.lookup_int keyI ht Tryz.underlying3 (qhf w) (keyOf_int_mk Tryz.underlying3 (qci (j := j) (by omega)))
  rw [(h2 j).2,if_pos (hall j hj),hq] at hat
  have he : e = q := by cases hat; rfl
  rw [he] at hrun
  unfold execOp
  simp [hop,hm,hx,hrun,Result.andThen]⟩
def addL (c : Cf) (p : Int) (l : List Int) (f : Nat → Option Int) (k : Nat) : Option Int := (l.filter (fun id => rootN c id == (k : Int))).foldl (fun t _ => topAdd t p) (f k)
theorem qps {c : Cf} {p : Int} {l : List Int} {j : Nat} {x : Int} {q : Nat} (hx : l[j]? = some x) (hq : rootN c x = (q : Int)) (f : Nat → Option Int) : addL c p (l.take (j + 1)) f = setT (addL c p (l.take j) f) q (topAdd (addL c p (l.take j) f q) p) := by
 funext k
 unfold addL setT
 rw [List.take_add_one,hx,Option.toList_some,List.filter_append,List.foldl_append]
 by_cases hk : k = q
 ·subst hk
  rw [if_pos rfl]
  simp [List.filter_cons,hq]
 ·rw [if_neg hk]
  have : ((q : Int) == (k : Int)) = false := by rw [beq_eq_false_iff_ne]; omega
  simp [List.filter_cons,hq,this]
def BoxM (w : World) (bx m : Nat) (t : TypeId) : Prop := w.heap[bx]? = some (.cells #[.map (some m)] t (0,0))
theorem BoxM.cell {w : World} {bx m : Nat} {t : TypeId} (h : BoxM w bx m t) : w.cell? ⟨bx,0,none⟩ = some (.map (some m)) := by rw [cell_of_row w bx 0 _ _ (0,0) h]; rfl
theorem qet (W : World) (c : Cf) (v : Vs) (hn : c.ress.length ≤ 8796093022208) (hends : endsB c = true) (isr : Bool) (id : Nat) (prio : Int) (s : Sl) (l : List Int) (hl : RowsAt W 1 intP s l) (hid : ∀ x ∈ l,isId x c.ress.length = true)
  (bt bf mt b : Nat) (ks : List Nat) (f : Nat → Option Int) (h1 : BoxM W bt mt 204) (h2 : BoxM W bf b 152) (hM : MapT W mt c.ress.length ks f) (hE : EndsAt W b c) (hbm : b ≠ mt) :
  Calls Tryz.prog 131 #[.agg (usC isr id prio s), .pointer (some ⟨bt,0,none⟩), .pointer (some ⟨bf,0,none⟩)] W fun e w' => e = .returned (.tuple #[]) ∧ W.grownBy w' (some mt) ∧ ∃ ks',MapT w' mt c.ress.length ks' (addL c prio l f) := by
 have HS : Hid (s.n = l.length) := hl.n
 have hsc : s.n ≤ s.c := hl.c
 have hsm : s.c ≤ maxLen := hl.m
 unfold maxLen at hsm
 have HMN : Hid (∀ x m t,BoxM W x m t → x ≠ mt) := fun x m t hx e => by
  obtain ⟨D,⟨es,clock,hb,_⟩,_⟩ := hM.ex
  unfold BoxM at hx
  rw [e,hb] at hx
  cases hx
 have hb := qa0 W (.cells (usC isr id prio s) 207)
 have hU := heap_alloc_new W (.cells (usC isr id prio s) 207)
 have hmtl := hM.block
 have HG0 : Hid (W.grownBy (W.alloc (.cells (usC isr id prio s) 207)) (some mt)) := World.grownBy_alloc W _ _
 have HM0 : Hid (MapT (W.alloc (.cells (usC isr id prio s) 207)) mt c.ress.length ks f) := hM.below hb
 have HF : Hid (∀ W',(W.alloc (.cells (usC isr id prio s) 207)).grownBy W' (some mt) → W'.cell? ⟨bt,0,none⟩ = some (.map (some mt)) ∧ W'.cell? ⟨bf,0,none⟩ = some (.map (some b)) ∧ W'.cell? ⟨W.heap.size,2,none⟩ = some (I prio) ∧ EndsAt W' b c ∧ RowsAt W' 1 intP s l ∧ W'.cell? ⟨W.heap.size,3,none⟩ = some (.slice s.a s.n s.c)) := fun W' hg => by
  have q1 : BoxM W' bt mt 204 := qak (qad _ _ h1) hg (fun e => HMN.out _ _ _ h1 (Option.some.inj e))
  have q2 : BoxM W' bf b 152 := qak (qad _ _ h2) hg (fun e => HMN.out _ _ _ h2 (Option.some.inj e))
  have q3 := qak hU hg (fun e => by have := Option.some.inj e; omega)
  have hk : Keeps (W.alloc (.cells (usC isr id prio s) 207)) W' := by
   obtain ⟨D,⟨es,clock,hbk,_⟩,_⟩ := HM0.out.ex
   refine ⟨hg.size,fun g i u e => hg.cell e (fun q => ?_)⟩
   have q2 : g = mt := Option.some.inj q
   subst q2
   simp [World.cell?,hbk] at e
  refine ⟨q1.cell,q2.cell, ?_,(hE.below hb).kept hg (fun e => hbm (Option.some.inj e)),(hl.below hb (fun _ _ _ _ h => h)).keeps hk (fun _ _ _ _ h => h), ?_⟩
  ·rw [cell_of_row W' _ 2 _ _ (0,0) q3]; rfl
  ·rw [cell_of_row W' _ 3 _ _ (0,0) q3]; rfl
 have HID : Hid (∀ x ∈ l,isId x c.ress.length = true) := hid
 have HEN : Hid (endsB c = true) := hends
 unfold usC at *
 clear hl hid hE h1 h2 hb hU hends HMN hM
 go_enter Tryz.func131,Tryz.ntmps131
 go_wp2
 generalize hW0 : W.alloc (.cells #[.bool isr,I (id : Int),I prio, .slice s.a s.n s.c] 207) = W0 at *
 clear hW0
 go_loopw [5,9] (fun _ iv wr => ∃ (j : Nat) (ks1 : List Nat),j ≤ s.n ∧ iv = .int .i64 j ∧ Hid (MapT wr mt c.ress.length ks1 (addL c prio (l.take j) f) ∧ W0.grownBy wr (some mt))) (fun _ iv _ => s.n - (intOf iv).toNat)
 case atStart => exact ⟨0,ks,by omega,rfl,HM0.out,qgx _ _⟩
 case round =>
  clear HM0
  obtain ⟨j,ks1,hj,rfl,HJ⟩ := hrel
  obtain ⟨y1,y2,y3,hE,hl,_⟩ := HF.out _ HJ.out.2
  by_cases hlt : j < s.n
  ·have hlt' : (j : Int) < s.n := by omega
   obtain ⟨xi,hx⟩ : ∃ x,l[j]? = some x := ⟨_,List.getElem?_eq_getElem (by rw [← HS.out]; exact hlt)⟩
   have hbd : 0 ≤ xi ∧ xi < c.ress.length := by simpa [isId] using HID.out xi (List.mem_of_getElem? hx)
   obtain ⟨x,rfl⟩ := Int.eq_ofNat_of_zero_le hbd.1
   have hxn : x < c.ress.length := by omega
   obtain ⟨g5,o5,e5,hg5,b5⟩ := qau hl hx
   have hr0 := endsB_at HEN.out hxn
   have hrl := qbt c c.ress.length (x : Int)
   obtain ⟨q,hq⟩ := Int.eq_ofNat_of_zero_le hr0
   have hqn : q < c.ress.length := by have : rootN c (x : Int) < c.ress.length := hrl; omega
   have hq63 : q < 9223372036854775808 := by omega
   have Hq : Hid (rootN c (x : Int) = (q : Int)) := hq
   have HAd : Hid (addL c prio (l.take (j + 1)) f = setT (addL c prio (l.take j) f) q (topAdd (addL c prio (l.take j) f q) prio)) := qps hx hq f
   rw [e5]
   clear hx hbd e5 hl hr0 hrl hq
   go_wp2
   have hgd : wr.grownBy wr.drew none := ⟨rfl,rfl,rfl,Nat.le_refl _,fun _ _ _ => rfl⟩
   have hEd : EndsAt wr.drew b c := hE.kept hgd (by simp)
   have hMd := HJ.out.1.kept hgd (by simp)
   refine wp_region_held_drew (S := fun W' => W'.cell? ⟨bt,0,none⟩ = some (.map (some mt)) ∧ W'.cell? ⟨bf,0,none⟩ = some (.map (some b)) ∧ W'.cell? ⟨W.heap.size,2,none⟩ = some (I prio) ∧ EndsAt W' b c) (by kernel_rfl) ⟨y1,y2,y3,hEd⟩ (fun hHeld => ?_)
   refine wpAnyH_take (i := 0) (v := ?_) rfl (by kernel_rfl) (by kernel_rfl) (by kernel_rfl) (fun _ _ _ h => h) (Or.inl ⟨by rfl, ?_⟩) hHeld ?_
   rotate_left
   ·intro w' hSw
    obtain ⟨hS0,hS1,hS2,_⟩ := hSw
    go_simp
    try with_reducible rfl
   try simp only [Act.put,q7a,q7b,q7c,q7d,q7e,q7f]
   refine wpAnyH_take (i := 1) (v := ?_) rfl (by kernel_rfl) (by kernel_rfl) (by kernel_rfl) (fun _ _ _ h => h) (Or.inl ⟨by rfl, ?_⟩) hHeld ?_
   rotate_left
   ·intro w' hSw
    obtain ⟨hS0,hS1,hS2,_⟩ := hSw
    go_simp
    try with_reducible rfl
   try simp only [Act.put,q7a,q7b,q7c,q7d,q7e,q7f]
   refine wpAnyH_take (i := 2) (v := ?_) rfl (by kernel_rfl) (by kernel_rfl) (by kernel_rfl) (fun _ _ _ h => h) (Or.inl ⟨by rfl, ?_⟩) hHeld ?_
   rotate_left
   ·intro w' hSw
    obtain ⟨hS0,hS1,hS2,_⟩ := hSw
    go_simp
    try with_reducible rfl
   try simp only [Act.put,q7a,q7b,q7c,q7d,q7e,q7f]
   refine wpAnyH_take (i := 3) (v := .int .i64 (q : Int)) rfl (by kernel_rfl) (by kernel_rfl) (by kernel_rfl) (fun _ _ _ h => h) (qes (by rfl) _ _ 152 rfl Tryz.underlying152 b c rfl (fun _ hw => hw.2.2.2) hn x hxn rfl Hq.out) hHeld ?_
   try simp only [Act.put,q7a,q7b,q7c,q7d,q7e,q7f]
   refine wpAnyH_take (i := 4) (v := ?_) rfl (by kernel_rfl) (by kernel_rfl) (by kernel_rfl) (fun _ _ _ h => h) (Or.inl ⟨by rfl, ?_⟩) hHeld ?_
   rotate_left
   ·intro w' hSw
    obtain ⟨hS0,hS1,hS2,_⟩ := hSw
    go_simp
    try with_reducible rfl
   try simp only [Act.put,q7a,q7b,q7c,q7d,q7e,q7f]
   refine wpAnyH_take (i := 5) (v := ?_) rfl (by kernel_rfl) (by kernel_rfl) (by kernel_rfl) (fun _ _ _ h => h) (Or.inl ⟨by rfl, ?_⟩) hHeld ?_
   rotate_left
   ·intro w' hSw
    obtain ⟨hS0,hS1,hS2,_⟩ := hSw
    go_simp
    try with_reducible rfl
   try simp only [Act.put,q7a,q7b,q7c,q7d,q7e,q7f]
   refine wpAnyH_take (i := 6) (v := ?_) rfl (by kernel_rfl) (by kernel_rfl) (by kernel_rfl) (fun _ _ _ h => h) (Or.inl ⟨by rfl, ?_⟩) hHeld ?_
   rotate_left
   ·intro w' hSw
    obtain ⟨hS0,hS1,hS2,_⟩ := hSw
    go_simp
    try with_reducible rfl
   try simp only [Act.put,q7a,q7b,q7c,q7d,q7e,q7f]
   refine wpAnyH_take (i := 7) (v := .int .i64 (q : Int)) rfl (by kernel_rfl) (by kernel_rfl) (by kernel_rfl) (fun _ _ _ h => h) (qes (by rfl) _ _ 152 rfl Tryz.underlying152 b c rfl (fun _ hw => hw.2.2.2) hn x hxn rfl Hq.out) hHeld ?_
   try simp only [Act.put,q7a,q7b,q7c,q7d,q7e,q7f]
   refine wpAnyH_take (i := 9) (v := ?_) rfl (by kernel_rfl) (by kernel_rfl) (by kernel_rfl) (fun _ _ _ h => h) (Or.inl ⟨by rfl, ?_⟩) hHeld ?_
   rotate_left
   ·intro w' hSw
    obtain ⟨hS0,hS1,hS2,_⟩ := hSw
    go_simp
    try with_reducible rfl
   try simp only [Act.put,q7a,q7b,q7c,q7d,q7e,q7f]
   refine wpAnyH_take (i := 10) (v := ?_) rfl (by kernel_rfl) (by kernel_rfl) (by kernel_rfl) (fun _ _ _ h => h) (Or.inl ⟨by rfl, ?_⟩) hHeld ?_
   rotate_left
   ·intro w' hSw
    obtain ⟨hS0,hS1,hS2,_⟩ := hSw
    go_simp
    try with_reducible rfl
   try simp only [Act.put,q7a,q7b,q7c,q7d,q7e,q7f]
   refine wpAnyH_ready (rs := [8]) (by kernel_rfl) (by simp) ?_
   refine AllReadyH.cons rfl (fun K hK => ?_) AllReadyH.nil
   rw [if_pos (by rfl)]
   refine qik _ _ 204 rfl Tryz.underlying204 mt c.ress.length ks1 (addL c prio (l.take j) f) rfl hMd q hq63 rfl ?_
   refine hK.out _ _ ⟨y1,y2,y3,hEd⟩ (fun hHeld => ?_)
   clear hK K
   try simp only [Act.put,q7a,q7b,q7c,q7d,q7e,q7f]
   refine wpAnyH_ready (rs := [11]) (by kernel_rfl) (by simp) ?_
   refine AllReadyH.cons rfl (fun K hK => ?_) AllReadyH.nil
   go_simp
   go_wp2_with (go_at_call 132; refine (qkv _ (addL c prio (l.take j) f q) prio).mono ?_; rintro e w2 ⟨rfl,hb2⟩)
   have hB2 : Below wr.heap.size wr w2 := ⟨hb2.os,hb2.tape,hb2.output,hb2.size,hb2.block⟩
   have hG2 := grown_same HJ.out.2 (qbf hB2)
   have hM2 := HJ.out.1.below hB2
   obtain ⟨u1,u2,u3,hE2,_,_⟩ := HF.out _ hG2
   refine hK.out _ _ ⟨u1,u2,u3,hE2⟩ (fun hHeld => ?_)
   clear hK K
   try simp only [Act.put,q7a,q7b,q7c,q7d,q7e,q7f]
   refine wpAnyH_ready (rs := [12]) (by kernel_rfl) (by simp) ?_
   refine AllReadyH.cons rfl (fun K hK => ?_) AllReadyH.nil
   rw [if_pos (by rfl)]
   refine qo1 _ _ _ 204 rfl Tryz.underlying204 mt c.ress.length ks1 (addL c prio (l.take j) f) rfl hM2 hn q hqn rfl (topAdd (addL c prio (l.take j) f q) prio) rfl ?_
   intro w3 hM3 hg3
   have hG3 := grown_same hG2 hg3
   obtain ⟨v1,v2,v3,hE3,_,_⟩ := HF.out _ hG3
   refine hK.out _ _ ⟨v1,v2,v3,hE3⟩ (fun hHeld => ?_)
   clear hK K
   have HJ3 : Hid (MapT w3 mt c.ress.length (insK ks1 q) (addL c prio (l.take (j + 1)) f) ∧ W0.grownBy w3 (some mt)) := ⟨by rw [HAd.out]; exact hM3,hG3⟩
   clear hHeld hM3 hG3 hM2 hG2 hg3 hb2 hB2 hE3 hE2 hEd hMd hgd HJ u1 u2 u3 v1 v2 v3 hE y1 y2 y3
   refine wpAnyH_done (by kernel_rfl) ?_ _
   try simp only [Act.put,q7a,q7b,q7c,q7d,q7e,q7f]
   go_wp2
   go_roundw
   case rel => exact ⟨j + 1,_,by omega,by go_num,HJ3.out⟩
   case measure => simp [intOf]; omega
  ·obtain rfl : j = s.n := by omega
   have hlt' : ¬ ((s.n : Nat) : Int) < (s.n : Nat) := by omega
   have HM9 : Hid (MapT wr mt c.ress.length ks1 (addL c prio l f)) := by
    have := HJ.out.1
    rw [List.take_of_length_le (by rw [HS.out]; exact Nat.le_refl _)] at this
    exact this
   have HG9 : Hid (W.grownBy wr (some mt)) := grown_same HG0.out HJ.out.2
   clear hl hE y1 y2 y3
   go_wp2
   refine bodyPost_end (v := .tuple #[]) (by simp [results,Tryz.results131,go_sem]) rfl ?_
   exact ⟨rfl,HG9.out,ks1,HM9.out⟩
theorem qj9 {w : World} {ops : Array Oper} {rest : List Oper} {o : Oper} {a : Act} {Q : Exit → Act → World → Prop} (hg : o.guard = none) (m x : Operand) (t : TypeId) (hop : o.op = Op.lookup t m x false) (ht : Tryz.prog.underlying t = some (.map 3 209)) (b n : Nat) (ks : List Nat) (f : Nat → Option Int)
  (hm : a.eval m = .map (some b)) (h : MapT w b n ks f) (j : Nat) (hj : j < 9223372036854775808) (hx : a.eval x = .int .i64 (j : Int)) (hK : wpList Tryz.prog ops Q rest (a.put o.dst (.agg (topC (f j)))) w) : wpList Tryz.prog ops Q (o :: rest) a w :=
 wpList_plain hg fun K hKK => qik m x t hop ht b n ks f hm h j hj hx (hKK _ _ hK)
def topT (c : Cf) (k : Nat) : Nat → Option Int := (c.tasks.take k).foldl (fun f x => addL c x.prio x.res f) (fun _ => none)
def topI (c : Cf) (k : Nat) : Nat → Option Int := (c.isrs.take k).foldl (fun f x => addL c x.prio x.res f) (topT c c.tasks.length)
theorem qpt {c : Cf} {k : Nat} {x : Tk} (h : c.tasks[k]? = some x) : topT c (k + 1) = addL c x.prio x.res (topT c k) := by
 unfold topT
 rw [List.take_add_one,h,Option.toList_some,List.foldl_append]
 rfl
theorem qpu {c : Cf} {k : Nat} {x : Is} (h : c.isrs[k]? = some x) : topI c (k + 1) = addL c x.prio x.res (topI c k) := by
 unfold topI
 rw [List.take_add_one,h,Option.toList_some,List.foldl_append]
 rfl
def ceilE (c : Cf) (i : Nat) : Int := qek (topI c c.isrs.length (rootN c (i : Int)).toNat)
def ceilL (c : Cf) : List Int := (List.range c.ress.length).map (ceilE c)
def OwnI (w : World) (l : List Int) (e : Ending) (w' : World) : Prop := ∃ u,e = .returned u ∧ w'.ownsRow w.heap.size 3 1 u l.length (l.map fun x => I x) ∧ Below w.heap.size w w'
def rowJ (c : Cf) (j : Nat) : List Value := (List.range c.ress.length).map (fun i => if i < j then I (ceilE c i) else I 0)
theorem qsf (c : Cf) (j : Nat) : (rowJ c j).set j (I (ceilE c j)) = rowJ c (j + 1) := by
 unfold rowJ
 apply List.ext_getElem?
 intro i
 rw [List.getElem?_set]
 by_cases hij : j = i
 ·subst hij
  by_cases hl : j < c.ress.length
  ·simp [hl]
  ·simp [hl]
 ·rw [if_neg hij]
  by_cases hl : i < c.ress.length
  ·simp only [List.getElem?_map,List.getElem?_range hl,Option.map_some]
   by_cases h1 : i < j
   ·rw [if_pos h1,if_pos (by omega)]
   ·rw [if_neg h1,if_neg (by omega)]
  ·simp [hl]
theorem qsg (c : Cf) : rowJ c c.ress.length = (ceilL c).map fun x => I x := by
 unfold rowJ ceilL
 rw [List.map_map]
 apply List.map_congr_left
 intro i hi
 rw [if_pos (List.mem_range.1 hi)]
 rfl
theorem qpv (c : Cf) : rowJ c 0 = List.replicate c.ress.length (.int .i64 0) := by
 unfold rowJ
 apply List.ext_getElem?
 intro i
 by_cases hl : i < c.ress.length
 ·simp [hl]
 ·simp [hl]
theorem qo2 (w : World) (c : Cf) (v : Vs) (h : CfAt w c v) (hn : c.ress.length ≤ 8796093022208) (hmt : meetB c = true) (hends : endsB c = true) (b : Nat) (hE : EndsAt w b c) (W4 : World) (hs4 : W4.heap.size = w.heap.size + 4) (hb4 : Below w.heap.size w W4)
  (q1 : BoxM W4 (w.heap.size + 3) (w.heap.size + 2) 204) (q2 : BoxM W4 (w.heap.size + 1) b 152) (q3 : BoxC W4 w.heap.size c v) (q4 : MapT W4 (w.heap.size + 2) c.ress.length [] (fun _ => none)) :
  Calls Tryz.prog 130 #[.agg (cfC c v), .func (.func 131) #[] #[.pointer (some ⟨w.heap.size + 3,0,none⟩), .pointer (some ⟨w.heap.size + 1,0,none⟩)]] W4 fun e w' => e = .returned (.tuple #[]) ∧
   (BoxM w' (w.heap.size + 3) (w.heap.size + 2) 204 ∧ BoxM w' (w.heap.size + 1) b 152 ∧ BoxC w' w.heap.size c v ∧ EndsAt w' b c ∧ Below w.heap.size w w' ∧ ∃ ks,MapT w' (w.heap.size + 2) c.ress.length ks (topI c c.isrs.length)) := by
 have hbl : b < w.heap.size := by obtain ⟨ks,hM,_⟩ := hE; exact hM.block
 refine (qd1 W4 c v 131 _ (enters_of Tryz.func131 (by kernel_rfl) rfl)
  (fun j W => BoxM W (w.heap.size + 3) (w.heap.size + 2) 204 ∧ BoxM W (w.heap.size + 1) b 152 ∧ BoxC W w.heap.size c v ∧ EndsAt W b c ∧ Below w.heap.size w W ∧ ∃ ks,MapT W (w.heap.size + 2) c.ress.length ks (topT c j))
  (fun j W => BoxM W (w.heap.size + 3) (w.heap.size + 2) 204 ∧ BoxM W (w.heap.size + 1) b 152 ∧ BoxC W w.heap.size c v ∧ EndsAt W b c ∧ Below w.heap.size w W ∧ ∃ ks,MapT W (w.heap.size + 2) c.ress.length ks (topI c j))
  ?_ ?_ (fun j W hI => h.below hI.2.2.2.2.1) (fun j W hI => h.below hI.2.2.2.2.1) ⟨q1,q2,q3,hE.below hb4,hb4, [],q4⟩ (fun W hI => hI) ?_ ?_)
 ·rintro j W W' ⟨h1,h2,h3,h4,h5,ks,h6⟩ hb
  exact ⟨(hb.block _ (qa1 h1)).trans h1,(hb.block _ (qa1 h2)).trans h2,(hb.block _ (qa1 h3)).trans h3,h4.below hb,h5.trans (hb.mono h5.size),ks,h6.below hb⟩
 ·rintro j W W' ⟨h1,h2,h3,h4,h5,ks,h6⟩ hb
  exact ⟨(hb.block _ (qa1 h1)).trans h1,(hb.block _ (qa1 h2)).trans h2,(hb.block _ (qa1 h3)).trans h3,h4.below hb,h5.trans (hb.mono h5.size),ks,h6.below hb⟩
 ·rintro j x s W hx hr ⟨h1,h2,h3,h4,h5,ks,h6⟩ hlt
  obtain ⟨hid,hlen⟩ := qdx hmt hn (List.mem_of_getElem? hx)
  refine (qet W c v hn hends false j x.prio s x.res hr hid _ _ _ b ks _ h1 h2 h6 h4 (by omega)).mono ?_
  rintro e w' ⟨rfl,hg,ks',hM⟩
  refine ⟨rfl,⟨qak h1 hg (fun e => by have := Option.some.inj e; omega),qak h2 hg (fun e => by have := Option.some.inj e; omega),qak h3 hg (fun e => by have := Option.some.inj e; omega),h4.kept hg (fun e => by have := Option.some.inj e; omega),h5.grown hg h5.size (fun k e => by cases e; omega),ks',by rw [qpt hx]; exact hM⟩, ?_,hg.size⟩
  exact hg.block _ hlt (fun e => by have := Option.some.inj e; omega)
 ·rintro j x s W hx hr ⟨h1,h2,h3,h4,h5,ks,h6⟩ hlt
  obtain ⟨hid,hlen⟩ := qgl hmt hn (List.mem_of_getElem? hx)
  refine (qet W c v hn hends true j x.prio s x.res hr hid _ _ _ b ks _ h1 h2 h6 h4 (by omega)).mono ?_
  rintro e w' ⟨rfl,hg,ks',hM⟩
  refine ⟨rfl,⟨qak h1 hg (fun e => by have := Option.some.inj e; omega),qak h2 hg (fun e => by have := Option.some.inj e; omega),qak h3 hg (fun e => by have := Option.some.inj e; omega),h4.kept hg (fun e => by have := Option.some.inj e; omega),h5.grown hg h5.size (fun k e => by cases e; omega),ks',by rw [qpu hx]; exact hM⟩, ?_,hg.size⟩
  exact hg.block _ hlt (fun e => by have := Option.some.inj e; omega)
theorem qkx (w : World) (c : Cf) (v : Vs) (h : CfAt w c v) (hn : c.ress.length ≤ 8796093022208) (hmt : meetB c = true) (hends : endsB c = true) (b : Nat) (hE : EndsAt w b c) :
  Calls Tryz.prog 79 #[.agg (cfC c v), .map (some b)] w fun e w' => OwnI w (ceilL c) e w' := by
 have hmm := @run_makeMap Tryz.prog
 obtain ⟨i0,hi0,hz0,hz1,hz2⟩ := info_parts Tryz.infoInt
 have hi18 : (Tryz.prog.info? 47).map (·.size) = some (cfC c v).size := by rw [show (cfC c v).size = 18 from rfl]; kernel_rfl
 have HN : Hid (v.r.n = c.ress.length) := h.r.n
 have hn2 : v.r.n ≤ 8796093022208 := by have := h.r.n; omega
 have w2s : ((w.alloc (.cells (cfC c v) 47)).alloc (.cells #[.map (some b)] 152)).heap.size = w.heap.size + 2 := by simp
 have q3 : BoxC ((((w.alloc (.cells (cfC c v) 47)).alloc (.cells #[.map (some b)] 152)).alloc (.map #[] 0)).alloc (.cells #[.map (some (w.heap.size + 2))] 204)) w.heap.size c v := qad _ _ (qad _ _ (qar w _ _))
 have q2 : BoxM ((((w.alloc (.cells (cfC c v) 47)).alloc (.cells #[.map (some b)] 152)).alloc (.map #[] 0)).alloc (.cells #[.map (some (w.heap.size + 2))] 204)) (w.heap.size + 1) b 152 := qad _ _ (qad _ _ (qaj w _ _))
 have q1 : BoxM ((((w.alloc (.cells (cfC c v) 47)).alloc (.cells #[.map (some b)] 152)).alloc (.map #[] 0)).alloc (.cells #[.map (some (w.heap.size + 2))] 204)) (w.heap.size + 3) (w.heap.size + 2) 204 := by
  have := heap_alloc_new (((w.alloc (.cells (cfC c v) 47)).alloc (.cells #[.map (some b)] 152)).alloc (.map #[] 0)) (.cells #[.map (some (w.heap.size + 2))] 204)
  simp only [World.size_alloc] at this
  exact this
 have q4 : MapT ((((w.alloc (.cells (cfC c v) 47)).alloc (.cells #[.map (some b)] 152)).alloc (.map #[] 0)).alloc (.cells #[.map (some (w.heap.size + 2))] 204)) (w.heap.size + 2) c.ress.length [] (fun _ => none) := by
  have := (MapT.made ((w.alloc (.cells (cfC c v) 47)).alloc (.cells #[.map (some b)] 152)) c.ress.length).below (qa0 _ (.cells #[.map (some (w.heap.size + 2))] 204))
  rw [w2s] at this
  exact this
 have hb4 : Below w.heap.size w ((((w.alloc (.cells (cfC c v) 47)).alloc (.cells #[.map (some b)] 152)).alloc (.map #[] 0)).alloc (.cells #[.map (some (w.heap.size + 2))] 204)) := ((((Below.refl w.heap.size w).alloc (Nat.le_refl _) _).alloc (by simp) _).alloc (by simp; omega) _).alloc (by simp; omega) _
 have hs4 : ((((w.alloc (.cells (cfC c v) 47)).alloc (.cells #[.map (some b)] 152)).alloc (.map #[] 0)).alloc (.cells #[.map (some (w.heap.size + 2))] 204)).heap.size = w.heap.size + 4 := by simp
 have ke := qo2 w c v h hn hmt hends b hE _ hs4 hb4 q1 q2 q3 q4
 have hV4 : ((((w.alloc (.cells (cfC c v) 47)).alloc (.cells #[.map (some b)] 152)).alloc (.map #[] 0)).alloc (.cells #[.map (some (w.heap.size + 2))] 204)).heap[w.heap.size]? = some (.cells (cfC c v) 47 (0,0)) := q3
 have hcv : ∀ W : World,BoxC W w.heap.size c v → W.cell? ⟨w.heap.size,12,none⟩ = some (.slice v.r.a v.r.n v.r.c) := fun W hW => by
  obtain ⟨_,h10,h11,h12,h13,h14,h15,h16,h17⟩ := qao hW
  exact h12
 have HCV : Hid (∀ W : World,BoxC W w.heap.size c v → W.cell? ⟨w.heap.size,12,none⟩ = some (.slice v.r.a v.r.n v.r.c)) := hcv
 have HEN : Hid (endsB c = true) := hends
 generalize hCC : cfC c v = C at *
 clear q1 q2 q3 q4 hb4 hs4 w2s hcv hE hends hmt h
 go_enter Tryz.func79,Tryz.ntmps79
 go_upto_region 3 with (first | (refine wpList_load_row rfl 47 _ rfl w.heap.size rfl 47 _ (0,0) _ hV4 Tryz.underlying47 rfl hi18 ?_) | (go_at_call 130; refine ke.mono ?_; clear ke; rintro e w5 ⟨rfl,hI⟩))
 obtain ⟨k1,k2,k3,k4,k5,ks,k6⟩ := hI
 have y12 := HCV.out _ k3
 have H5 : Hid (BoxM w5 (w.heap.size + 3) (w.heap.size + 2) 204 ∧ BoxM w5 (w.heap.size + 1) b 152 ∧ EndsAt w5 b c ∧ Below w.heap.size w w5 ∧ MapT w5 (w.heap.size + 2) c.ress.length ks (topI c c.isrs.length)) := ⟨k1,k2,k4,k5,k6⟩
 have hws := k5.size
 clear hmm hV4 k1 k2 k3 k4 k5 k6 HCV
 go_wp2_with (refine wpList_make_full _ rfl _ _ 54 rfl w.heap.size 3 i0 (.int .i64 0) 1 Tryz.underlying54 hi0 hz0 hz1 .i64 .i64 _ _ v.r.n rfl rfl rfl rfl (by rw [hz2]; omega) (by unfold maxLen; omega) hws ?_; intro w6 hO6 hg6)
 have HB6 : Hid (Below w5.heap.size w5 w6) := qal hg6
 have HO6 : Hid (w6.ownsRow w.heap.size 3 1 (.slice (some ⟨w5.heap.size,0,none⟩) v.r.n v.r.n) v.r.n (rowJ c 0)) := by
  rw [qpv, ← HN.out]
  have := hO6
  rw [show (Value.int .i64 0).cells = #[.int .i64 0] from rfl,Nat.mul_one,toList_madeCells_one] at this
  exact this
 clear hO6 hg6 y12
 go_loopw [7,18] (fun _ iv wr => ∃ j : Nat,j ≤ v.r.n ∧ iv = .int .i64 j ∧ Hid (wr.ownsRow w.heap.size 3 1 (.slice (some ⟨w5.heap.size,0,none⟩) v.r.n v.r.n) v.r.n (rowJ c j) ∧ Below w5.heap.size w5 wr)) (fun _ iv _ => v.r.n - (intOf iv).toNat)
 case atStart => exact ⟨0,by omega,rfl,HO6.out,HB6.out⟩
 case round =>
  clear HB6 HO6
  obtain ⟨j,hj,rfl,HJ⟩ := hrel
  obtain ⟨hO,hB⟩ := HJ.out
  by_cases hlt : j < v.r.n
  ·have hlt' : (j : Int) < v.r.n := by omega
   have hjn : j < c.ress.length := by rw [← HN.out]; exact hlt
   obtain ⟨p1,p2,p3,p4,p5⟩ := H5.out
   have y1 : wr.cell? ⟨w.heap.size + 3,0,none⟩ = some (.map (some (w.heap.size + 2))) := BoxM.cell ((hB.block _ (qa1 p1)).trans p1)
   have y2 : wr.cell? ⟨w.heap.size + 1,0,none⟩ = some (.map (some b)) := BoxM.cell ((hB.block _ (qa1 p2)).trans p2)
   have hE := p3.below hB
   have hM := p5.below hB
   have hr0 := endsB_at HEN.out hjn
   have hrl := qbt c c.ress.length (j : Int)
   obtain ⟨q,hq⟩ := Int.eq_ofNat_of_zero_le hr0
   have hq63 : q < 9223372036854775808 := by have : rootN c (j : Int) < c.ress.length := hrl; omega
   have Hq : Hid (rootN c (j : Int) = (q : Int)) := hq
   have kt := qkw wr (topI c c.isrs.length q)
   have HT : Hid (qek (topI c c.isrs.length q) = ceilE c j) := by show _ = _; unfold ceilE; rw [hq]; rfl
   obtain ⟨ce,hce⟩ : ∃ ce,ce = ceilE c j := ⟨_,rfl⟩
   rw [HT.out, ← hce] at kt
   have Hce : Hid (ce = ceilE c j) := hce
   clear hce HT
   have hin : j < v.r.n * 1 := by omega
   have HF : Hid (∀ w2,Below wr.heap.size wr w2 → w2.ownsRow w.heap.size 3 1 (.slice (some ⟨w5.heap.size,0,none⟩) v.r.n v.r.n) v.r.n (rowJ c j) ∧ Below w5.heap.size w5 w2 ∧ ∃ u,w2.cell? ⟨w5.heap.size,j,none⟩ = some u) := fun w2 h2 => by
    have o2 := qa6 hO h2
    refine ⟨o2,hB.trans (h2.mono hB.size), ?_⟩
    rw [o2.cellAt j hin]
    exact ⟨_,List.getElem?_eq_getElem (by unfold rowJ; simpa using hjn)⟩
   clear HJ p1 p2 p3 p4 p5 hr0 hrl hq hO hB hin
   go_wp2_with (first | (at_lookup; refine qdd _ _ 152 rfl Tryz.underlying152 b c rfl hE hn j hjn rfl (by kernel_rfl) ?_; intro e7 HX7; have h7 := HX7.out; rw [Hq.out] at h7; subst h7) | (at_lookup; refine qj9 rfl _ _ 204 rfl Tryz.underlying204 (w.heap.size + 2) c.ress.length ks _ rfl hM q hq63 rfl ?_) | (go_at_call 133; refine kt.mono ?_; clear kt; rintro e w2 ⟨rfl,hb2⟩; obtain ⟨hO2,hB2,u2,z2⟩ := HF.out _ hb2; have fz := hO2.frozenAt j; have HO2 : Hid (w2.ownsRow w.heap.size 3 1 (.slice (some ⟨w5.heap.size,0,none⟩) v.r.n v.r.n) v.r.n (rowJ c j)) := hO2; have HB2 : Hid (Below w5.heap.size w5 w2) := hB2; clear hb2 hO2 hB2))
   have HJ2 : Hid ((w2.setCell ⟨w5.heap.size,j,none⟩ (I ce)).ownsRow w.heap.size 3 1 (.slice (some ⟨w5.heap.size,0,none⟩) v.r.n v.r.n) v.r.n (rowJ c (j + 1)) ∧ Below w5.heap.size w5 (w2.setCell ⟨w5.heap.size,j,none⟩ (I ce))) := by
    have st := HO2.out.stored j (I ce)
    refine ⟨?_,HB2.out.grown st.2 HB2.out.size (fun k e => by cases e; exact Nat.le_refl _)⟩
    rw [← qsf, ← Hce.out]
    exact st.1
   go_roundw
   case rel => exact ⟨j + 1,by omega,by go_num,HJ2.out⟩
   case measure => simp [intOf]; omega
  ·obtain rfl : j = v.r.n := by omega
   have hlt' : ¬ ((v.r.n : Nat) : Int) < (v.r.n : Nat) := by omega
   have HO9 : Hid (wr.ownsRow w.heap.size 3 1 (.slice (some ⟨w5.heap.size,0,none⟩) v.r.n v.r.n) (ceilL c).length ((ceilL c).map fun x => I x)) := by
    have := hO
    rw [show rowJ c v.r.n = rowJ c c.ress.length by rw [HN.out],qsg] at this
    rw [show (ceilL c).length = v.r.n by unfold ceilL; rw [List.length_map,List.length_range,HN.out]]
    exact this
   have HB9 : Hid (Below w.heap.size w wr) := H5.out.2.2.2.1.trans (hB.mono hws)
   clear hO hB HJ
   go_wp2
   go_ret
   exact ⟨_,rfl,HO9.out,HB9.out⟩
end Go.Proofs.YtmidaeljeoifdaaGreatDoor.Ce
namespace Go.Proofs.YtmidaeljeoifdaaGreatDoor.Ce
open Go.RowKit Go.Sort
set_option linter.unusedSimpArgs false
set_option linter.unusedVariables false
set_option maxHeartbeats 16000000
set_option maxRecDepth 100000
def usesB (c : Cf) (l : List Int) (r : Int) : Bool := l.any (fun x => rootN c x == rootN c r)
def useT (c : Cf) (r : Int) (k : Nat) : Option Int := (c.tasks.take k).foldl (fun t x => if usesB c x.res r = true then topAdd t x.prio else t) none
def useI (c : Cf) (r : Int) (k : Nat) : Option Int := (c.isrs.take k).foldl (fun t x => if usesB c x.res r = true then topAdd t x.prio else t) (useT c r c.tasks.length)
theorem qky (t : Option Int) (p : Int) : topAdd (topAdd t p) p = topAdd t p := by
 cases t with
 | none => simp [topAdd]
 | some q => simp only [topAdd]; congr 1; omega
theorem qkz (c : Cf) (p : Int) (l : List Int) (f : Nat → Option Int) (k : Nat) : addL c p l f k = if (l.any (fun x => rootN c x == (k : Int))) = true then topAdd (f k) p else f k := by
 unfold addL
 have gen : ∀ (m : List Int) (t : Option Int),m ≠ [] → m.foldl (fun t _ => topAdd t p) t = topAdd t p := by
  intro m
  induction m with
  | nil => intro t h; exact absurd rfl h
  | cons y r ih =>
   intro t _
   rw [List.foldl_cons]
   cases r with
   | nil => rfl
   | cons z r => rw [ih _ (by simp),qky]
 cases hf : l.filter (fun id => rootN c id == (k : Int)) with
 | nil =>
  rw [if_neg]
  ·rfl
  ·intro h
   obtain ⟨x,hx,hb⟩ := List.any_eq_true.1 h
   have : x ∈ l.filter (fun id => rootN c id == (k : Int)) := List.mem_filter.2 ⟨hx,hb⟩
   rw [hf] at this
   cases this
 | cons y r =>
  rw [if_pos,gen _ _ (by simp)]
  have : y ∈ l.filter (fun id => rootN c id == (k : Int)) := by rw [hf]; simp
  obtain ⟨h1,h2⟩ := List.mem_filter.1 this
  exact List.any_eq_true.2 ⟨y,h1,h2⟩
theorem ceilE_use (c : Cf) (i : Nat) (h : 0 ≤ rootN c (i : Int)) : ceilE c i = qek (useI c (i : Int) c.isrs.length) := by
 obtain ⟨q,hq⟩ := Int.eq_ofNat_of_zero_le h
 have hT : ∀ (l : List Tk) (f : Nat → Option Int) (t : Option Int),f q = t → l.foldl (fun f x => addL c x.prio x.res f) f q = l.foldl (fun t x => if usesB c x.res (i : Int) = true then topAdd t x.prio else t) t := by
  intro l
  induction l with
  | nil => intro f t h; exact h
  | cons x r ih =>
   intro f t h
   rw [List.foldl_cons,List.foldl_cons]
   refine ih _ _ ?_
   rw [qkz,h]
   unfold usesB
   rw [hq]
 have hI : ∀ (l : List Is) (f : Nat → Option Int) (t : Option Int),f q = t → l.foldl (fun f x => addL c x.prio x.res f) f q = l.foldl (fun t x => if usesB c x.res (i : Int) = true then topAdd t x.prio else t) t := by
  intro l
  induction l with
  | nil => intro f t h; exact h
  | cons x r ih =>
   intro f t h
   rw [List.foldl_cons,List.foldl_cons]
   refine ih _ _ ?_
   rw [qkz,h]
   unfold usesB
   rw [hq]
 unfold ceilE
 rw [hq]
 show qek (topI c c.isrs.length q) = _
 unfold topI useI
 rw [hI _ _ _ (show topT c c.tasks.length q = useT c (i : Int) c.tasks.length from hT _ _ _ rfl)]
theorem qcr {w : World} {base base' : Nat} {e : TypeId} {size : Nat} {v : Value} {n : Nat} {xs : List Value} (h : w.ownsRow base e size v n xs) (hb : base' ≤ base) : w.ownsRow base' e size v n xs :=
 ⟨h.1,h.2.imp id (fun ⟨g,cap,cur,he,h1,h2⟩ => ⟨g,cap,cur,he,Nat.le_trans hb h1,h2⟩)⟩
theorem look_lk {c : Cf} (h : lookE c = 0) : meetB c = true ∧ lkB c = true ∧ endsB c = true := by
 unfold lookE at h
 cases h1 : meetB c with
 | false => rw [h1] at h; simp at h
 | true =>
  cases h2 : lkB c with
  | false => rw [h1,h2] at h; simp at h
  | true =>
   cases h3 : endsB c with
   | false => rw [h1,h2,h3] at h; simp at h
   | true => exact ⟨rfl,rfl,rfl⟩
end Go.Proofs.YtmidaeljeoifdaaGreatDoor.Ce
namespace Go.Proofs.YtmidaeljeoifdaaGreatDoor.Ce
open Go.Maps Go.RowKit Go.Sort
set_option linter.unusedSimpArgs false
set_option linter.unusedVariables false
set_option maxHeartbeats 16000000
set_option maxRecDepth 100000
theorem LookP.mono {c : Cf} {R : Int} {w w1 w' : World} {e : Ending} (h : LookP c R w1 e w') (hb : Below w.heap.size w w1) : LookP c R w e w' :=
 ⟨hb.trans (h.1.mono hb.size),h.2.imp (fun ⟨a,b,he,hl,hE⟩ => ⟨a,b,he,Nat.le_trans hb.size hl,hE⟩) id⟩
theorem LookP.got {c : Cf} {R : Int} {w w' : World} {e : Ending} (h : LookP c R w e w') (hR : R = 0) : ∃ b,e = .returned (.tuple #[.map (some b),I 0]) ∧ w.heap.size ≤ b ∧ EndsAt w' b c := by
 rcases h.2 with ⟨_,h⟩ | ⟨h,_⟩
 ·exact h
 ·exact absurd hR h
theorem LookP.not {c : Cf} {R : Int} {w w' : World} {e : Ending} (h : LookP c R w e w') (hR : R ≠ 0) : e = .returned (.tuple #[.map none,I R]) := by
 rcases h.2 with ⟨h,_⟩ | ⟨_,h⟩
 ·exact absurd h hR
 ·exact h
end Go.Proofs.YtmidaeljeoifdaaGreatDoor.Ce
namespace Go.Proofs.YtmidaeljeoifdaaGreatDoor.Ce
open Go.RowKit Go.Sort
set_option linter.unusedSimpArgs false
set_option linter.unusedVariables false
set_option maxHeartbeats 16000000
set_option maxRecDepth 100000
structure Ce where
 res : List Int
 sch : Int
 run : List Int
 tks : List Int
 isr : List Int
def ceC (k : Int) (s0 s2 s3 s4 : Sl) : Array Value := #[.slice s0.a s0.n s0.c,I k, .slice s2.a s2.n s2.c, .slice s3.a s3.n s3.c, .slice s4.a s4.n s4.c]
end Go.Proofs.YtmidaeljeoifdaaGreatDoor.Ce
namespace Go.Proofs.YtmidaeljeoifdaaGreatDoor.Ce
open Go.Maps Go.RowKit
set_option linter.unusedSimpArgs false
set_option linter.unusedVariables false
set_option maxHeartbeats 16000000
set_option maxRecDepth 100000
def BoxS (w : World) (b : Nat) (u : Value) : Prop := w.heap[b]? = some (.cells #[u] 54 (0,0))
structure Two (w : World) (base b1 b2 : Nat) (u1 u2 : Value) (l1 l2 : List Int) : Prop where
 x1 : BoxS w b1 u1
 x2 : BoxS w b2 u2
 o1 : w.ownsRow base 3 1 u1 l1.length (l1.map fun x => I x)
 o2 : w.ownsRow base 3 1 u2 l2.length (l2.map fun x => I x)
 ap : ∀ g,u1.ownBlock = some g → u2.ownBlock ≠ some g
 n1 : b1 < base
 n2 : b2 < base
 ne : b1 ≠ b2
 sz : base ≤ w.heap.size
theorem Two.swap {w : World} {base b1 b2 : Nat} {u1 u2 : Value} {l1 l2 : List Int} (h : Two w base b1 b2 u1 u2 l1 l2) : Two w base b2 b1 u2 u1 l2 l1 :=
 ⟨h.x2,h.x1,h.o2,h.o1,fun g h2 h1 => h.ap g h1 h2,h.n2,h.n1,h.ne.symm,h.sz⟩
theorem Two.below {w w' : World} {base b1 b2 : Nat} {u1 u2 : Value} {l1 l2 : List Int} (h : Two w base b1 b2 u1 u2 l1 l2) (hb : Below w.heap.size w w') : Two w' base b1 b2 u1 u2 l1 l2 :=
 ⟨(hb.block _ (qa1 h.x1)).trans h.x1,(hb.block _ (qa1 h.x2)).trans h.x2,qa6 h.o1 hb,qa6 h.o2 hb,h.ap,h.n1,h.n2,h.ne,Nat.le_trans h.sz hb.size⟩
structure Fr2 (base b1 b2 : Nat) (w w' : World) : Prop where
 os : w'.os = w.os
 tape : w'.tape = w.tape
 output : w'.output = w.output
 size : w.heap.size ≤ w'.heap.size
 block : ∀ k,k < base → k ≠ b1 → k ≠ b2 → w'.heap[k]? = w.heap[k]?
theorem Fr2.swap {base b1 b2 : Nat} {w w' : World} (h : Fr2 base b1 b2 w w') : Fr2 base b2 b1 w w' := ⟨h.os,h.tape,h.output,h.size,fun k a b c => h.block k a c b⟩
theorem Fr2.of {base b1 b2 : Nat} {w w' w'' : World} (h : Below w.heap.size w w') (hs : base ≤ w.heap.size) (k : Fr2 base b1 b2 w' w'') : Fr2 base b1 b2 w w'' :=
 ⟨k.os.trans h.os,k.tape.trans h.tape,k.output.trans h.output,Nat.le_trans h.size k.size,fun g a b c => (k.block g a b c).trans (h.block g (by omega))⟩
theorem Fr2.below {base b1 b2 n : Nat} {w w' : World} (h : Fr2 base b1 b2 w w') (h0 : n ≤ base) (h1 : n ≤ b1) (h2 : n ≤ b2) : Below n w w' :=
 ⟨h.os,h.tape,h.output,h.size,fun k hk => h.block k (by omega) (by omega) (by omega)⟩
theorem qi6 {w w6 : World} {base b1 b2 : Nat} {u1 u2 v6 : Value} {l1 l2 : List Int} (h : Two w base b1 b2 u1 u2 l1 l2) (o : Obj) (x : Int)
  (ho : w6.ownsRow base 3 1 v6 (l1.length + 1) (l1.map (fun x => I x) ++ [I x])) (hg : (w.alloc o).grownBy w6 u1.ownBlock) (hw : v6.ownBlock = u1.ownBlock ∨ v6.ownBlock = some (w.heap.size + 1)) :
  (BoxS w6 b1 u1) ∧ Two (w6.setCell ⟨b1,0,none⟩ v6) base b1 b2 v6 u2 (l1 ++ [x]) l2 ∧ Fr2 base b1 b2 w (w6.setCell ⟨b1,0,none⟩ v6) := by
 have hsz : (w.alloc o).heap.size = w.heap.size + 1 := by simp
 have hb1 : (some b1 : Option Nat) ≠ u1.ownBlock := fun e => by have := (h.o1.lt b1 e.symm).1; have := h.n1; omega
 have hb2 : (some b2 : Option Nat) ≠ u1.ownBlock := fun e => by have := (h.o1.lt b2 e.symm).1; have := h.n2; omega
 have x1 : BoxS w6 b1 u1 := qak (qad w o h.x1) hg hb1
 have x2 : BoxS w6 b2 u2 := qak (qad w o h.x2) hg hb2
 have gs := qac w6 b1 0 v6
 have o2 : w6.ownsRow base 3 1 u2 l2.length (l2.map fun x => I x) := by
  refine (h.o2.alloc o).kept hg ?_
  cases hu : u2.ownBlock with
  | none => exact .inl rfl
  | some g => exact .inr (fun e => h.ap g e.symm hu)
 have n6 : v6.ownBlock = none ∨ v6.ownBlock ≠ some b1 := .inr (fun e => by have := (ho.lt b1 e).1; have := h.n1; omega)
 have n2 : u2.ownBlock = none ∨ u2.ownBlock ≠ some b1 := .inr (fun e => by have := (o2.lt b1 e).1; have := h.n1; omega)
 refine ⟨x1,⟨heap_setCell_same w6 b1 0 _ _ v6 x1,qak x2 gs (fun e => h.ne (Option.some.inj e).symm), ?_,o2.kept gs n2, ?_,h.n1,h.n2,h.ne, ?_⟩, ?_⟩
 ·have := ho.kept gs n6
  rw [List.length_append,List.map_append]
  exact this
 ·intro g h6 h2
  rcases hw with hw | hw
  ·exact h.ap g (hw.symm.trans h6) h2
  ·have := (h.o2.lt g h2).2
   rw [hw] at h6
   have := Option.some.inj h6
   omega
 ·exact Nat.le_trans h.sz (Nat.le_trans (by omega) (Nat.le_trans hg.size gs.size))
 ·refine ⟨gs.os.trans hg.os,gs.tape.trans hg.tape,gs.output.trans hg.output,Nat.le_trans (by omega) (Nat.le_trans hg.size gs.size),fun k hk hk1 hk2 => ?_⟩
  have hkw : k < w.heap.size := by have := h.sz; omega
  have hk6 : (some k : Option Nat) ≠ u1.ownBlock := fun e => by have := (h.o1.lt k e.symm).1; omega
  rw [gs.block k (by have := hg.size; omega) (fun e => hk1 (Option.some.inj e)),hg.block k (by omega) hk6]
  exact (qa0 w o).block k hkw
end Go.Proofs.YtmidaeljeoifdaaGreatDoor.Ce
