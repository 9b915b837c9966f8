import Derived.Test.YtmidaeljeoifdaaGreatDoorXEcn
import Derived.Deep.WholeRow
import Derived.Shelf.Abstract
namespace Go.Proofs.YtmidaeljeoifdaaGreatDoor.Ce
open Go.Maps Go.RowKit
set_option linter.unusedSimpArgs false
set_option linter.unusedVariables false
set_option maxHeartbeats 16000000
set_option maxRecDepth 100000
theorem qu4 (v n : Int) (w : World) : Calls Tryz.prog 199 #[I v,I n] w fun e w' => e = .returned (.bool (isId v n)) ∧ w' = w := by
 unfold isId
 by_cases h1 : 0 ≤ v <;> by_cases h2 : v < n <;> (go_enter Tryz.func199,Tryz.ntmps199; go_wp2; go_ret; exact ⟨qa4 (by simp [h1,h2]),rfl⟩)
theorem qnx (w : World) (s : Sl) (l : List Int) (h : RowsAt w 1 intP s l) (n : Int) : Calls Tryz.prog 198 #[.slice s.a s.n s.c,I n] w fun e w' => e = .returned (.bool (risF (-1) l n)) ∧ w' = w := by
 obtain ⟨sa,sn,sc⟩ := s
 have hn : sn = l.length := h.n
 have hc : sn ≤ sc := h.c
 have hm : sc ≤ maxLen := h.m
 dsimp only
 unfold maxLen at hm
 have HN : Hid (sn = l.length) := hn
 clear hn
 go_enter Tryz.func198,Tryz.ntmps198
 go_wp2
 go_loop [5,7,10] (fun a5 _ i => ∃ (j : Nat) (a : Int),j ≤ sn ∧ i = .int .i64 j ∧ a5 = .int .i64 a ∧ -1 ≤ a ∧ Hid (risF (-1) l n = risF a (l.drop j) n)) (fun _ _ i => sn - (intOf i).toNat)
 case atStart => exact ⟨0, -1,by omega,rfl,rfl,by omega,rfl⟩
 case round =>
  obtain ⟨j,a,hj,rfl,rfl,ha,HR⟩ := hrel
  by_cases hlt : j < sn
  ·have hlt' : (j : Int) < sn := by omega
   have hjl : j < l.length := by rw [← HN.out]; exact hlt
   obtain ⟨x,hx⟩ : ∃ x,l[j]? = some x := ⟨l[j],List.getElem?_eq_getElem hjl⟩
   obtain ⟨g,off,e,hg,hcx⟩ := qau h hx
   dsimp only at e
   subst e
   have HD : Hid (l.drop j = x :: l.drop (j + 1)) := by
    show _ = _
    rw [List.drop_eq_getElem_cons hjl]
    rw [List.getElem?_eq_getElem hjl] at hx
    cases hx
    rfl
   have HE : Hid (risF (-1) l n = (isId x n && decide (a < x) && risF x (l.drop (j + 1)) n)) := by show _ = _; rw [HR.out,HD.out,risF]
   clear hx hjl
   by_cases hax : x ≤ a
   ·have HE2 : Hid (risF (-1) l n = false) := by show _ = _; rw [HE.out,decide_eq_false (by omega)]; simp
    go_wp2
    go_ret
    exact ⟨qa4 HE2.out.symm,rfl⟩
   ·by_cases hxn : x ≥ n
    ·have HE2 : Hid (risF (-1) l n = false) := by show _ = _; rw [HE.out,show isId x n = false by simp [isId]; omega]; rfl
     go_wp2
     go_ret
     exact ⟨qa4 HE2.out.symm,rfl⟩
    ·have HE2 : Hid (risF (-1) l n = risF x (l.drop (j + 1)) n) := by show _ = _; rw [HE.out,decide_eq_true (by omega),show isId x n = true by simp [isId]; omega]; rfl
     go_wp2
     go_round
     case rel => exact ⟨j + 1,x,by omega,by go_num,rfl,by omega,HE2⟩
     case measure => simp [intOf]; omega
  ·obtain rfl : j = sn := by omega
   have hlt' : ¬ (j : Int) < j := by omega
   have HE2 : Hid (risF (-1) l n = true) := by show _ = _; rw [HR.out,List.drop_eq_nil_of_le (by rw [← HN.out]; exact Nat.le_refl _),risF]
   go_wp2
   go_ret
   exact ⟨qa4 HE2.out.symm,rfl⟩
def lmB (n : Nat) (x : Rs) : Bool := x.kind == 1 || x.kind == 3 || (x.kind == 2 && isId x.link n)
theorem qj6 (w : World) (c : Cf) (v : Vs) (h : CfAt w c v) : Calls Tryz.prog 126 #[.slice v.r.a v.r.n v.r.c] w fun e w' => Ans w (c.ress.all (lmB c.ress.length)) e w' := by
 have HN : Hid (v.r.n = c.ress.length) := h.r.n
 have HH : Hid (CfAt w c v) := h
 have hc : v.r.n ≤ v.r.c := h.r.c
 have hm : v.r.c ≤ maxLen := h.r.m
 unfold maxLen at hm
 obtain ⟨R,hR⟩ : ∃ R,R = c.ress.all (lmB c.ress.length) := ⟨_,rfl⟩
 rw [← hR]
 have HR : Hid (R = c.ress.all (lmB c.ress.length)) := hR
 clear hR h
 go_enter Tryz.func126,Tryz.ntmps126
 go_wp2
 go_loopw [4,7] (fun _ iv wr => ∃ j : Nat,j ≤ v.r.n ∧ iv = .int .i64 j ∧ Hid (Below w.heap.size w wr ∧ (c.ress.take j).all (lmB c.ress.length) = true)) (fun _ iv _ => v.r.n - (intOf iv).toNat)
 case atStart => exact ⟨0,by omega,rfl,Below.refl _ _,by simp⟩
 case round =>
  obtain ⟨j,hj,rfl,HJ⟩ := hrel
  have hbr := HJ.out.1
  by_cases hlt : j < v.r.n
  ·have hlt' : (j : Int) < v.r.n := by omega
   obtain ⟨x,hx⟩ : ∃ x,c.ress[j]? = some x := ⟨_,List.getElem?_eq_getElem (by rw [← HN.out]; exact hlt)⟩
   obtain ⟨g,off,e,hg,a0,a1,a2⟩ := qb5 (HH.out.below hbr) hx
   have hng : g ≠ wr.heap.size := Nat.ne_of_lt hg
   have HT : Hid ((c.ress.take (j + 1)).all (lmB c.ress.length) = lmB c.ress.length x) := by show _ = _; rw [qbu _ _ j x hx,HJ.out.2,Bool.true_and]
   have HF : Hid (lmB c.ress.length x = false → R = false) := fun hf => by
    rw [HR.out]
    rw [List.all_eq_false]
    exact ⟨x,List.mem_of_getElem? hx,by rw [hf]; decide⟩
   have HL : Hid (lmB c.ress.length x = (x.kind == 1 || x.kind == 3 || (x.kind == 2 && isId x.link v.r.n))) := by show _ = _; rw [HN.out]; rfl
   have hst : (storeCells ⟨wr.heap.size,0,none⟩ [S x.name,I x.kind,I x.link] 0).run Tryz.prog (wr.alloc (.cells #[.string ⟨#[]⟩, .int .i64 0, .int .i64 0] 106)) = .ok () (wr.alloc (.cells #[S x.name,I x.kind,I x.link] 106)) :=
    run_storeCells_new (P := Tryz.prog) wr 106 #[.string ⟨#[]⟩, .int .i64 0, .int .i64 0] #[S x.name,I x.kind,I x.link] (by kernel_rfl) rfl (by simp [Value.oneCell'])
   have Hal : Hid (∀ o,Below w.heap.size w (wr.alloc o)) := fun o => hbr.trans ((qa0 wr o).mono hbr.size)
   rw [e]
   clear hx hbr HR
   generalize lmB c.ress.length x = B at *
   have c1 := qu4 x.link v.r.n
   have hsp : (x.kind == 1) = true ∨ ((x.kind == 1) = false ∧ (x.kind == 3) = true) ∨ ((x.kind == 1) = false ∧ (x.kind == 3) = false ∧ (x.kind == 2) = false) ∨ ((x.kind == 1) = false ∧ (x.kind == 3) = false ∧ (x.kind == 2) = true) := by
    cases x.kind == 1 <;> cases x.kind == 3 <;> cases x.kind == 2 <;> simp
   rcases hsp with k1 | ⟨k1,k3⟩ | ⟨k1,k3,k2⟩ | ⟨k1,k3,k2⟩
   ·have HT2 : Hid ((c.ress.take (j + 1)).all (lmB c.ress.length) = true) := by show _ = _; rw [HT.out,HL.out,k1]; rfl
    clear HT HL HF c1
    go_wp2
    go_roundw
    case rel => exact ⟨j + 1,by omega,by go_num,Hal.out _,HT2.out⟩
    case measure => simp [intOf]; omega
   ·have HT2 : Hid ((c.ress.take (j + 1)).all (lmB c.ress.length) = true) := by show _ = _; rw [HT.out,HL.out,k1,k3]; rfl
    clear HT HL HF c1
    go_wp2
    go_roundw
    case rel => exact ⟨j + 1,by omega,by go_num,Hal.out _,HT2.out⟩
    case measure => simp [intOf]; omega
   ·have HE : Hid (R = false) := HF.out (by rw [HL.out,k1,k3,k2]; rfl)
    clear HT HL HF c1
    go_wp2
    go_ret
    exact ⟨qa4 HE.out.symm,Hal.out _⟩
   ·have HB : Hid (B = isId x.link v.r.n) := by show _ = _; rw [HL.out,k1,k3,k2]; rfl
    generalize isId x.link v.r.n = bi at *
    cases bi with
    | true =>
     have HT2 : Hid ((c.ress.take (j + 1)).all (lmB c.ress.length) = true) := by show _ = _; rw [HT.out,HB.out]
     clear HT HL HF HB
     go_wp2_with (go_at_call 199; refine (c1 _).mono ?_; clear c1; rintro e w' ⟨rfl,rfl⟩)
     go_roundw
     case rel => exact ⟨j + 1,by omega,by go_num,Hal.out _,HT2.out⟩
     case measure => simp [intOf]; omega
    | false =>
     have HE : Hid (R = false) := HF.out HB.out
     clear HT HL HF HB
     go_wp2_with (go_at_call 199; refine (c1 _).mono ?_; clear c1; rintro e w' ⟨rfl,rfl⟩)
     go_ret
     exact ⟨qa4 HE.out.symm,Hal.out _⟩
  ·obtain rfl : j = v.r.n := by omega
   have hlt' : ¬ ((v.r.n : Nat) : Int) < (v.r.n : Nat) := by omega
   have HE : Hid (R = true) := by show _ = _; rw [HR.out, ← HJ.out.2,List.take_of_length_le (by rw [HN.out]; exact Nat.le_refl _)]
   clear HR
   go_wp2
   go_ret
   exact ⟨qa4 HE.out.symm,hbr⟩
def takenL (c : Cf) (l : List Int) : List Int := l.filter (fun x => rkind c x != 3)
theorem qme (c : Cf) (l : List Int) (j : Nat) (x : Int) (hx : l[j]? = some x) : takenL c (l.take (j + 1)) = takenL c (l.take j) ++ (if (rkind c x != 3) = true then [x] else []) := by
 unfold takenL
 rw [List.take_add_one,hx,Option.toList_some,List.filter_append]
 congr 1
 simp only [List.filter_cons,List.filter_nil]
def qi5 (w : World) (l : List Int) (e : Ending) (w' : World) : Prop := ∃ u,e = .returned u ∧ w'.ownsRow (w.heap.size + 1) 3 1 u l.length (l.map fun x => I x) ∧ Below w.heap.size w w'
theorem qii (w : World) (c : Cf) (v : Vs) (h : CfAt w c v) (s : Sl) (l : List Int) (hl : RowsAt w 1 intP s l) (hid : ∀ x ∈ l,isId x c.ress.length = true) (hlen : l.length ≤ 8796093022208) :
  Calls Tryz.prog 135 #[.agg (cfC c v), .slice s.a s.n s.c] w fun e w' => qi5 w (takenL c l) e w' := by
 obtain ⟨i0,hi0,hz0,hz1,hz2⟩ := info_parts Tryz.infoInt
 have HN : Hid (v.r.n = c.ress.length) := h.r.n
 have HS : Hid (s.n = l.length) := hl.n
 have hsc : s.n ≤ s.c := hl.c
 have hsm : s.c ≤ maxLen := hl.m
 unfold maxLen at hsm
 have hsl : s.n ≤ 8796093022208 := by have := hl.n; omega
 have hb := qa0 w
 have hV0 := heap_alloc_new w (.cells (cfC c v) 47)
 have hcv : ∀ W : World,W.heap[w.heap.size]? = some (.cells (cfC c v) 47 (0,0)) → W.cell? ⟨w.heap.size,12,none⟩ = some (.slice v.r.a v.r.n v.r.c) := fun W hW => by
  obtain ⟨_,h10,h11,h12,h13,h14,h15,h16,h17⟩ := qao hW
  exact h12
 have HID : Hid (∀ x ∈ l,isId x c.ress.length = true) := hid
 generalize cfC c v = C at *
 have hs1 : (w.alloc (.cells C 47)).heap.size = w.heap.size + 1 := by simp
 have hbw := hb (.cells C 47)
 have HF : Hid (∀ W,Below (w.heap.size + 1) (w.alloc (.cells C 47)) W → W.cell? ⟨w.heap.size,12,none⟩ = some (.slice v.r.a v.r.n v.r.c) ∧ CfAt W c v ∧ RowsAt W 1 intP s l ∧ Below w.heap.size w W ∧ w.heap.size + 1 ≤ W.heap.size) := fun W hW => by
  have hs := hW.size
  have hbW := hbw.trans (hW.mono (by omega))
  exact ⟨hcv W ((hW.block _ (by omega)).trans hV0),h.below hbW,hl.below hbW (fun _ _ _ _ h => h),hbW,by omega⟩
 clear hb hV0 hcv h hl hbw hid
 go_enter Tryz.func135,Tryz.ntmps135
 go_wp2
 go_loopw [5,7,10] (fun lv _ iv wr => ∃ j : Nat,j ≤ s.n ∧ iv = .int .i64 j ∧ Hid (wr.ownsRow (w.heap.size + 1) 3 1 lv (takenL c (l.take j)).length ((takenL c (l.take j)).map fun x => I x) ∧ Below (w.heap.size + 1) (w.alloc (.cells C 47)) wr)) (fun _ _ iv _ => s.n - (intOf iv).toNat)
 case atStart => exact ⟨0,by omega,rfl,World.ownsRow_nil _ _ _ _,Below.refl _ _⟩
 case round =>
  obtain ⟨j,hj,rfl,HJ⟩ := hrel
  obtain ⟨hO,hB⟩ := HJ.out
  obtain ⟨c12,hCf,hl,hbr,hsw⟩ := HF.out _ hB
  by_cases hlt : j < s.n
  ·have hlt' : (j : Int) < s.n := by omega
   obtain ⟨x,hx⟩ : ∃ x,l[j]? = some x := ⟨_,List.getElem?_eq_getElem (by rw [← HS.out]; exact hlt)⟩
   have hbd : 0 ≤ x ∧ x < v.r.n := by have := HID.out x (List.mem_of_getElem? hx); rw [← HN.out] at this; simpa [isId] using this
   obtain ⟨g5,o5,e5,hg5,b5⟩ := qau hl hx
   obtain ⟨rn,rfl⟩ := Int.eq_ofNat_of_zero_le hbd.1
   have hrn : (rn : Int) < v.r.n := hbd.2
   obtain ⟨y,hy⟩ : ∃ y,c.ress[rn]? = some y := ⟨_,List.getElem?_eq_getElem (by have := HN.out; omega)⟩
   obtain ⟨gr,og,er,hgr,d0,d1,d2⟩ := qb5 hCf hy
   have HT : Hid (takenL c (l.take (j + 1)) = takenL c (l.take j) ++ (if (y.kind != 3) = true then [(rn : Int)] else [])) := by show _ = _; rw [qme c l j _ hx,qcb hy]
   have HTL : Hid ((takenL c (l.take j)).length ≤ j) := Nat.le_trans (List.length_filter_le _ _) (by rw [List.length_take]; omega)
   have hO2 := hO.alloc (.cells #[I (rn : Int)] 3)
   have HB : Hid (Below (w.heap.size + 1) (w.alloc (.cells C 47)) wr) := hB
   rw [e5]
   rw [er] at c12
   have HOj := hO
   clear hx hbd e5 er hy hCf hl hbr hB HJ HF d0 d2
   cases hk : y.kind != 3 with
   | false =>
    have HT2 : Hid (takenL c (l.take (j + 1)) = takenL c (l.take j)) := by show _ = _; rw [HT.out,hk]; simp
    have HO : Hid (wr.ownsRow (w.heap.size + 1) 3 1 u5 (takenL c (l.take (j + 1))).length ((takenL c (l.take (j + 1))).map fun x => I x)) := by rw [HT2.out]; exact HOj
    clear HT HOj hO hO2
    go_wp2
    go_roundw
    case rel => exact ⟨j + 1,by omega,by go_num,HO.out,HB.out⟩
    case measure => simp [intOf]; omega
   | true =>
    have HT2 : Hid (takenL c (l.take (j + 1)) = takenL c (l.take j) ++ [(rn : Int)]) := by show _ = _; rw [HT.out,hk]; simp
    have hlj := HTL.out
    clear HT
    go_wp2_with (at_builtin; refine wpList_append_own _ rfl (.tmp 21) (.tmp 23) 54 rfl (w.heap.size + 1) 3 i0 (.int .i64 0) 1 8 Tryz.underlying54 hi0 hz0 hz1 hz2 rfl (by decide) _ _ _ rfl hO2 ⟨wr.heap.size,0,none⟩ 1 1 [I (rn : Int)] rfl rfl (cell_one_new _ _ _) (by intro u hu; simp at hu; subst hu; rfl) (by unfold maxLen; omega) (by omega) (by simp; omega) ?_)
    intro v6 w6 ho6 hg6 _
    have HB6 : Hid (Below (w.heap.size + 1) (w.alloc (.cells C 47)) w6) := by
     have b1 := HB.out.trans ((qa0 wr (.cells #[I (rn : Int)] 3)).mono hsw)
     exact b1.grown hg6 (by simp; omega) (fun k e => (HOj.lt k e).1)
    have HO6 : Hid (w6.ownsRow (w.heap.size + 1) 3 1 v6 (takenL c (l.take (j + 1))).length ((takenL c (l.take (j + 1))).map fun x => I x)) := by
     rw [HT2.out,List.length_append,List.map_append]
     exact ho6
    clear ho6 hg6 hO hO2 HB HOj hlj
    go_wp2
    go_roundw
    case rel => exact ⟨j + 1,by omega,by go_num,HO6.out,HB6.out⟩
    case measure => simp [intOf]; omega
  ·obtain rfl : j = s.n := by omega
   have hlt' : ¬ ((s.n : Nat) : Int) < (s.n : Nat) := by omega
   have HO : Hid (wr.ownsRow (w.heap.size + 1) 3 1 u5 (takenL c l).length ((takenL c l).map fun x => I x)) := by
    have := hO
    rw [List.take_of_length_le (by rw [HS.out]; exact Nat.le_refl _)] at this
    exact this
   clear hO HJ hB hCf hl HF
   go_wp2
   go_ret
   exact ⟨_,rfl,HO.out,hbr⟩
def endsB (c : Cf) : Bool := (List.range c.ress.length).all (fun i => decide (0 ≤ rootN c (i : Int)))
theorem endsB_of {c : Cf} (h : ∀ i,i < c.ress.length → 0 ≤ rootN c (i : Int)) : endsB c = true := by
 unfold endsB
 rw [List.all_eq_true]
 intro i hi
 simpa using h i (List.mem_range.1 hi)
theorem qpp {c : Cf} {i : Nat} (hi : i < c.ress.length) (h : rootN c (i : Int) = -1) : endsB c = false := by
 unfold endsB
 rw [List.all_eq_false]
 exact ⟨i,List.mem_range.2 hi,by rw [h]; decide⟩
theorem endsB_at {c : Cf} (h : endsB c = true) {i : Nat} (hi : i < c.ress.length) : 0 ≤ rootN c (i : Int) := by
 unfold endsB at h
 simpa using List.all_eq_true.1 h i (List.mem_range.2 hi)
def EndsAt (w : World) (b : Nat) (c : Cf) : Prop := ∃ ks,MapOf w b c.ress.length ks (fun k => rootN c k) ∧ ∀ i,i < c.ress.length → i ∈ ks
theorem EndsAt.below {w w' : World} {b : Nat} {c : Cf} (h : EndsAt w b c) (hb : Below w.heap.size w w') : EndsAt w' b c := by
 obtain ⟨ks,h1,h2⟩ := h
 exact ⟨ks,h1.below hb,h2⟩
theorem EndsAt.kept {w w' : World} {b : Nat} {c : Cf} {row : Option Nat} (h : EndsAt w b c) (hg : w.grownBy w' row) (hne : some b ≠ row) : EndsAt w' b c := by
 obtain ⟨ks,h1,h2⟩ := h
 exact ⟨ks,h1.kept hg hne,h2⟩
def qgk (c : Cf) (w : World) (e : Ending) (w' : World) : Prop := Below w.heap.size w w' ∧ (if endsB c = true then ∃ b,e = .returned (.tuple #[.map (some b), .bool true]) ∧ w.heap.size ≤ b ∧ EndsAt w' b c else e = .returned (.tuple #[.map none, .bool false]))
theorem qny (w : World) (c : Cf) (v : Vs) (h : CfAt w c v) (hn : c.ress.length ≤ 8796093022208) (hlk : ∀ x ∈ c.ress,x.kind = 2 → isId x.link c.ress.length = true) :
  Calls Tryz.prog 127 #[.slice v.r.a v.r.n v.r.c] w fun e w' => qgk c w e w' := by
 have hmm := @run_makeMap Tryz.prog
 have HN : Hid (v.r.n = c.ress.length) := h.r.n
 have HH : Hid (CfAt w c v) := h
 have hc : v.r.n ≤ v.r.c := h.r.c
 have hm : v.r.c ≤ maxLen := h.r.m
 unfold maxLen at hm
 have HM0 : Hid (MapOf (w.alloc (.map #[] 0)) w.heap.size c.ress.length [] (fun k => rootN c k)) := MapOf.made w c.ress.length _
 have HB0 : Hid (Below w.heap.size w (w.alloc (.map #[] 0))) := qa0 w _
 have HL : Hid (∀ x ∈ c.ress,x.kind = 2 → isId x.link c.ress.length = true) := hlk
 clear h hlk
 go_enter Tryz.func127,Tryz.ntmps127
 go_wp2
 clear hmm
 go_loopw [5,9] (fun _ iv wr => ∃ (j : Nat) (ks : List Nat),j ≤ v.r.n ∧ iv = .int .i64 j ∧ Hid (MapOf wr w.heap.size c.ress.length ks (fun k => rootN c k) ∧ (∀ k ∈ ks,0 ≤ rootN c k) ∧ (∀ i,i < j → i ∈ ks) ∧ Below w.heap.size w wr)) (fun _ iv _ => v.r.n - (intOf iv).toNat)
 case atStart => exact ⟨0, [],by omega,rfl,HM0.out,(fun k hk => by cases hk),(fun i hi => absurd hi (Nat.not_lt_zero _)),HB0.out⟩
 case round =>
  clear HM0 HB0
  obtain ⟨j,ks,hj,rfl,HJ⟩ := hrel
  by_cases hlt : j < v.r.n
  ·have hlt' : (j : Int) < v.r.n := by omega
   have hjn : j < c.ress.length := by rw [← HN.out]; exact hlt
   have kf := qsc wr c v (HH.out.below HJ.out.2.2.2) hn HL.out w.heap.size ks HJ.out.1 HJ.out.2.1 j hjn
   obtain ⟨r,hr⟩ : ∃ r,r = rootN c (j : Int) := ⟨_,rfl⟩
   have Hr : Hid (r = rootN c (j : Int)) := hr
   have HK : Hid (∀ w',wr.grownBy w' (some w.heap.size) → Below w.heap.size w w') := fun w' hg => HJ.out.2.2.2.grown hg HJ.out.2.2.2.size (fun k e => by cases e; exact Nat.le_refl _)
   unfold qks at kf
   rw [← hr] at kf
   clear hr
   cases h1 : r == -1 with
   | true =>
    have HE : Hid (endsB c = false) := qpp hjn (by rw [← Hr.out]; simpa using h1)
    go_wp2_with (go_at_call 200; refine kf.mono ?_; clear kf; rintro e w1 ⟨rfl,hg1,_,_⟩)
    go_ret2
    refine ⟨HK.out _ hg1, ?_⟩
    rw [HE.out,if_neg (by decide)]
    rfl
   | false =>
    have hr0 : 0 ≤ rootN c (j : Int) := by
     rcases qhe c (j : Int) with h2 | h2
     ·rw [← Hr.out] at h2; rw [h2] at h1; cases h1
     ·exact h2.1
    have Hr0 : Hid (0 ≤ rootN c (j : Int)) := hr0
    clear hr0
    go_wp2_with (go_at_call 200; refine kf.mono ?_; clear kf; rintro e w1 ⟨rfl,hg1,_,ks',hm1,hj1,hsub,hnew⟩)
    have HJ2 : Hid (MapOf w1 w.heap.size c.ress.length ks' (fun k => rootN c k) ∧ (∀ k ∈ ks',0 ≤ rootN c k) ∧ (∀ i,i < j + 1 → i ∈ ks') ∧ Below w.heap.size w w1) := ⟨hm1,fun k hk => by
      rcases hnew k hk with h2 | h2
      ·exact HJ.out.2.1 k h2
      ·rw [h2,Hr.out]; exact Hr0.out,fun i hi => by
      by_cases hij : i = j
      ·rw [hij]; exact hj1
      ·exact hsub i (HJ.out.2.2.1 i (by omega)),HK.out _ hg1⟩
    clear hg1 hm1 hj1 hsub hnew HJ
    go_roundw
    case rel => exact ⟨j + 1,ks',by omega,by go_num,HJ2.out⟩
    case measure => simp [intOf]; omega
  ·obtain rfl : j = v.r.n := by omega
   have hlt' : ¬ ((v.r.n : Nat) : Int) < (v.r.n : Nat) := by omega
   have HE : Hid (endsB c = true) := endsB_of (fun i hi => HJ.out.2.1 i (HJ.out.2.2.1 i (by rw [HN.out]; exact hi)))
   go_wp2
   go_ret2
   refine ⟨HJ.out.2.2.2, ?_⟩
   rw [HE.out,if_pos rfl]
   exact ⟨w.heap.size,rfl,Nat.le_refl _,ks,HJ.out.1,fun i hi => HJ.out.2.2.1 i (by rw [HN.out]; exact hi)⟩
theorem qdd {w : World} {ops : Array Oper} {rest : List Oper} {o : Oper} {a : Act} {Q : Exit → Act → World → Prop} (m x : Operand) (t : TypeId) (hop : o.op = Op.lookup t m x false) (ht : Tryz.prog.underlying t = some (.map 3 3)) (b : Nat) (c : Cf)
  (hm : a.eval m = .map (some b)) (h : EndsAt w b c) (hn : c.ress.length ≤ 8796093022208) (j : Nat) (hj : j < c.ress.length) (hx : a.eval x = .int .i64 (j : Int)) (hgd : Region.wanted o (yielded ops a.tmps) = true)
  (hK : ∀ e : Int,Hid (e = rootN c (j : Int)) → wpList Tryz.prog ops Q rest (a.put o.dst (.int .i64 e)) w) : wpList Tryz.prog ops Q (o :: rest) a w := by
 obtain ⟨ks,hM,hall⟩ := h
 obtain ⟨D,hD,hs,h2⟩ := hM.ex
 refine wpList_step fun K hKK => ?_
 rw [if_pos hgd]
 obtain ⟨e,hrun,hat,_⟩ := hD.lookup_int keyI ht Tryz.underlying3 (qhf w) (keyOf_int_mk Tryz.underlying3 (qci (j := j) (by omega)))
 rw [(h2 j).2,if_pos (hall j hj)] at hat
 have he : e = rootN c (j : Int) := by cases hat; rfl
 unfold Oper.wp
 simp [execOp,hop,hm,hx,hrun,Result.andThen]
 exact hKK _ _ (hK e he)
def lfB (c : Cf) (i : Nat) : Bool := !(rkind c (i : Int) == 2 && rkind c (rootN c (i : Int)) == 3)
def linksB (c : Cf) : Bool := (List.range c.ress.length).all (lfB c)
theorem qnz {n j : Nat} (hj : j < n) (p : Nat → Bool) : ((List.range n).take (j + 1)).all p = (((List.range n).take j).all p && p j) := qbu p _ j j (by rw [List.getElem?_range hj])
theorem qkt (w : World) (c : Cf) (v : Vs) (h : CfAt w c v) (hn : c.ress.length ≤ 8796093022208) (b : Nat) (hE : EndsAt w b c) (hends : endsB c = true) :
  Calls Tryz.prog 128 #[.slice v.r.a v.r.n v.r.c, .map (some b)] w fun e w' => Ans w (linksB c) e w' := by
 have HN : Hid (v.r.n = c.ress.length) := h.r.n
 have HH : Hid (CfAt w c v) := h
 have HE : Hid (EndsAt w b c) := hE
 have HNB : Hid (endsB c = true) := hends
 have hc : v.r.n ≤ v.r.c := h.r.c
 have hm : v.r.c ≤ maxLen := h.r.m
 unfold maxLen at hm
 obtain ⟨R,hR⟩ : ∃ R,R = linksB c := ⟨_,rfl⟩
 rw [← hR]
 have HR : Hid (R = linksB c) := hR
 clear hR h hE hends
 go_enter Tryz.func128,Tryz.ntmps128
 go_wp2
 go_loopw [5,6,9] (fun _ _ iv wr => ∃ j : Nat,j ≤ v.r.n ∧ iv = .int .i64 j ∧ Hid (Below w.heap.size w wr ∧ ((List.range c.ress.length).take j).all (lfB c) = true)) (fun _ _ iv _ => v.r.n - (intOf iv).toNat)
 case atStart => exact ⟨0,by omega,rfl,Below.refl _ _,by simp⟩
 case round =>
  obtain ⟨j,hj,rfl,HJ⟩ := hrel
  have hbr := HJ.out.1
  by_cases hlt : j < v.r.n
  ·have hlt' : (j : Int) < v.r.n := by omega
   have hjn : j < c.ress.length := by rw [← HN.out]; exact hlt
   obtain ⟨x,hx⟩ : ∃ x,c.ress[j]? = some x := ⟨_,List.getElem?_eq_getElem hjn⟩
   obtain ⟨g,off,e,hg,a0,a1,a2⟩ := qb5 (HH.out.below hbr) hx
   have hng : g ≠ wr.heap.size := Nat.ne_of_lt hg
   have hr0 := endsB_at HNB.out hjn
   have hrl := qbt c c.ress.length (j : Int)
   obtain ⟨q,hq⟩ := Int.eq_ofNat_of_zero_le hr0
   have hqn : (q : Int) < v.r.n := by have : rootN c (j : Int) < c.ress.length := hrl; have := HN.out; omega
   have hql : q < c.ress.length := by have := HN.out; omega
   obtain ⟨y,hy⟩ : ∃ y,c.ress[q]? = some y := ⟨_,List.getElem?_eq_getElem hql⟩
   obtain ⟨g',off',e',hg',b0,b1,b2⟩ := qb5 (HH.out.below hbr) hy
   rw [e] at e'
   obtain ⟨rfl,rfl⟩ : g = g' ∧ off = off' := by cases e'; exact ⟨rfl,rfl⟩
   have HB : Hid (lfB c j = !(x.kind == 2 && y.kind == 3)) := by show _ = _; unfold lfB; rw [qcb hx,hq,qcb hy]
   have HT : Hid (((List.range c.ress.length).take (j + 1)).all (lfB c) = lfB c j) := by show _ = _; rw [qnz hjn,HJ.out.2,Bool.true_and]
   have HF : Hid (lfB c j = false → R = false) := fun hf => by
    rw [HR.out,linksB,List.all_eq_false]
    exact ⟨j,List.mem_range.2 hjn,by rw [hf]; decide⟩
   have hst : (storeCells ⟨wr.heap.size,0,none⟩ [S x.name,I x.kind,I x.link] 0).run Tryz.prog (wr.alloc (.cells #[.string ⟨#[]⟩, .int .i64 0, .int .i64 0] 106)) = .ok () (wr.alloc (.cells #[S x.name,I x.kind,I x.link] 106)) :=
    run_storeCells_new (P := Tryz.prog) wr 106 #[.string ⟨#[]⟩, .int .i64 0, .int .i64 0] #[S x.name,I x.kind,I x.link] (by kernel_rfl) rfl (by simp [Value.oneCell'])
   have Hal : Hid (∀ o,Below w.heap.size w (wr.alloc o)) := fun o => hbr.trans ((qa0 wr o).mono hbr.size)
   have hEn : EndsAt (wr.alloc (.cells #[S x.name,I x.kind,I x.link] 106)) b c := HE.out.below (Hal.out _)
   have Hq : Hid (rootN c (j : Int) = (q : Int)) := hq
   rw [e]
   clear hx hbr HR e' hy hr0 hrl hq b0 b2
   generalize lfB c j = B at *
   cases hk : x.kind == 2 with
   | false =>
    have HT2 : Hid (((List.range c.ress.length).take (j + 1)).all (lfB c) = true) := by show _ = _; rw [HT.out,HB.out,hk]; rfl
    clear HT HB HF
    go_wp2
    go_roundw
    case rel => exact ⟨j + 1,by omega,by go_num,Hal.out _,HT2.out⟩
    case measure => simp [intOf]; omega
   | true =>
    cases hk3 : y.kind == 3 with
    | true =>
     have HE1 : Hid (R = false) := HF.out (by rw [HB.out,hk,hk3]; rfl)
     clear HT HB HF
     go_wp2_with (at_lookup; refine qdd _ _ 152 rfl Tryz.underlying152 b c rfl hEn hn j hjn rfl (by kernel_rfl) ?_; intro e7 HX7; have h7 := HX7.out; rw [Hq.out] at h7; subst h7)
     go_ret
     exact ⟨qa4 HE1.out.symm,Hal.out _⟩
    | false =>
     have HT2 : Hid (((List.range c.ress.length).take (j + 1)).all (lfB c) = true) := by show _ = _; rw [HT.out,HB.out,hk,hk3]; rfl
     clear HT HB HF
     go_wp2_with (at_lookup; refine qdd _ _ 152 rfl Tryz.underlying152 b c rfl hEn hn j hjn rfl (by kernel_rfl) ?_; intro e7 HX7; have h7 := HX7.out; rw [Hq.out] at h7; subst h7)
     go_roundw
     case rel => exact ⟨j + 1,by omega,by go_num,Hal.out _,HT2.out⟩
     case measure => simp [intOf]; omega
  ·obtain rfl : j = v.r.n := by omega
   have hlt' : ¬ ((v.r.n : Nat) : Int) < (v.r.n : Nat) := by omega
   have HE1 : Hid (R = true) := by show _ = _; rw [HR.out,linksB, ← HJ.out.2,List.take_of_length_le (by rw [List.length_range,HN.out]; exact Nat.le_refl _)]
   clear HR
   go_wp2
   go_ret
   exact ⟨qa4 HE1.out.symm,hbr⟩
def usC (isr : Bool) (id : Nat) (prio : Int) (s : Sl) : Array Value := #[.bool isr,I (id : Int),I prio, .slice s.a s.n s.c]
theorem qd1 (w : World) (c : Cf) (v : Vs) (f : Nat) (caps : Array Value) (eg : ∀ args W,(callFunc f args).run Tryz.prog W = .ok (.enter f args) W)
  (IT II : Nat → World → Prop) (sT : ∀ j W W',IT j W → Below W.heap.size W W' → IT j W') (sI : ∀ j W W',II j W → Below W.heap.size W W' → II j W')
  (cT : ∀ j W,IT j W → CfAt W c v) (cI : ∀ j W,II j W → CfAt W c v) (h0 : IT 0 w) (hTI : ∀ W,IT c.tasks.length W → II 0 W)
  (dT : ∀ (j : Nat) (x : Tk) (s : Sl) (W : World),c.tasks[j]? = some x → RowsAt W 1 intP s x.res → IT j W → w.heap.size < W.heap.size → Calls Tryz.prog f (#[.agg (usC false j x.prio s)] ++ caps) W fun e w' => e = .returned (.tuple #[]) ∧ IT (j + 1) w' ∧ w'.heap[w.heap.size]? = W.heap[w.heap.size]? ∧ W.heap.size ≤ w'.heap.size)
  (dI : ∀ (j : Nat) (x : Is) (s : Sl) (W : World),c.isrs[j]? = some x → RowsAt W 1 intP s x.res → II j W → w.heap.size < W.heap.size → Calls Tryz.prog f (#[.agg (usC true j x.prio s)] ++ caps) W fun e w' => e = .returned (.tuple #[]) ∧ II (j + 1) w' ∧ w'.heap[w.heap.size]? = W.heap[w.heap.size]? ∧ W.heap.size ≤ w'.heap.size) :
  Calls Tryz.prog 130 #[.agg (cfC c v), .func (.func f) #[] caps] w fun e w' => e = .returned (.tuple #[]) ∧ II c.isrs.length w' := by
 have h := cT 0 w h0
 have HNT : Hid (v.t.n = c.tasks.length) := h.t.n
 have HNI : Hid (v.i.n = c.isrs.length) := h.i.n
 have hct : v.t.n ≤ v.t.c := h.t.c
 have hmt : v.t.c ≤ maxLen := h.t.m
 have hci : v.i.n ≤ v.i.c := h.i.c
 have hmi : v.i.c ≤ maxLen := h.i.m
 unfold maxLen at hmt hmi
 have hV0 := heap_alloc_new w (.cells (cfC c v) 47)
 have hb := qa0 w (.cells (cfC c v) 47)
 have HI0 : Hid (IT 0 (w.alloc (.cells (cfC c v) 47))) := sT 0 _ _ h0 hb
 have f11 : ∀ h : 11 < (cfC c v).size,(cfC c v)[11] = .slice v.t.a v.t.n v.t.c := fun _ => rfl
 have hcv : ∀ W : World,W.heap[w.heap.size]? = some (.cells (cfC c v) 47 (0,0)) → W.cell? ⟨w.heap.size,16,none⟩ = some (.slice v.i.a v.i.n v.i.c) := fun W hW => by
  obtain ⟨_,h10,h11,h12,h13,h14,h15,h16,h17⟩ := qao hW
  exact h16
 have hs18 : (cfC c v).size = 18 := rfl
 generalize cfC c v = C at *
 replace f11 := f11 (by omega)
 have HV0 : Hid ((w.alloc (.cells C 47)).heap[w.heap.size]? = some (.cells C 47 (0,0))) := hV0
 have HCV : Hid (∀ W : World,W.heap[w.heap.size]? = some (.cells C 47 (0,0)) → W.cell? ⟨w.heap.size,16,none⟩ = some (.slice v.i.a v.i.n v.i.c)) := hcv
 have HST : Hid (∀ j W W',IT j W → Below W.heap.size W W' → IT j W') := sT
 have HSI : Hid (∀ j W W',II j W → Below W.heap.size W W' → II j W') := sI
 have HCT : Hid (∀ j W,IT j W → CfAt W c v) := cT
 have HCI : Hid (∀ j W,II j W → CfAt W c v) := cI
 have HTI : Hid (∀ W,IT c.tasks.length W → II 0 W) := hTI
 have HDT : Hid (∀ (j : Nat) (x : Tk) (s : Sl) (W : World),c.tasks[j]? = some x → RowsAt W 1 intP s x.res → IT j W → w.heap.size < W.heap.size → Calls Tryz.prog f (#[.agg (usC false j x.prio s)] ++ caps) W fun e w' => e = .returned (.tuple #[]) ∧ IT (j + 1) w' ∧ w'.heap[w.heap.size]? = W.heap[w.heap.size]? ∧ W.heap.size ≤ w'.heap.size) := dT
 have HDI : Hid (∀ (j : Nat) (x : Is) (s : Sl) (W : World),c.isrs[j]? = some x → RowsAt W 1 intP s x.res → II j W → w.heap.size < W.heap.size → Calls Tryz.prog f (#[.agg (usC true j x.prio s)] ++ caps) W fun e w' => e = .returned (.tuple #[]) ∧ II (j + 1) w' ∧ w'.heap[w.heap.size]? = W.heap[w.heap.size]? ∧ W.heap.size ≤ w'.heap.size) := dI
 clear h h0 hb hV0 hcv sT sI cT cI hTI dT dI
 go_enter Tryz.func130,Tryz.ntmps130
 go_wp2
 clear f11
 go_loopw [4,5,11] (fun _ _ iv wr => ∃ j : Nat,j ≤ v.t.n ∧ iv = .int .i64 j ∧ Hid (IT j wr ∧ wr.heap[w.heap.size]? = some (.cells C 47 (0,0)))) (fun _ _ iv _ => v.t.n - (intOf iv).toNat)
 case atStart => exact ⟨0,by omega,rfl,HI0.out,HV0.out⟩
 case round =>
  clear HI0 HV0
  obtain ⟨j,hj,rfl,HJ⟩ := hrel
  by_cases hlt : j < v.t.n
  ·have hlt' : (j : Int) < v.t.n := by omega
   obtain ⟨x,hx⟩ : ∃ x,c.tasks[j]? = some x := ⟨_,List.getElem?_eq_getElem (by rw [← HNT.out]; exact hlt)⟩
   obtain ⟨g,off,s4,s5,s6,s7,e,hg,a0,a1,a2,a3,a4,a5,a6,a7,r4,r5,r6,r7⟩ := qbj (HCT.out _ _ HJ.out.1) hx
   have hng : g ≠ wr.heap.size := Nat.ne_of_lt hg
   have hst : (storeCells ⟨wr.heap.size,0,none⟩ [S x.name,I x.prio, .bool x.full,I x.act, .slice s4.a s4.n s4.c, .slice s5.a s5.n s5.c, .slice s6.a s6.n s6.c, .slice s7.a s7.n s7.c] 0).run Tryz.prog (wr.alloc (.cells #[.string ⟨#[]⟩, .int .i64 0, .bool false, .int .i64 0, .slice none 0 0, .slice none 0 0, .slice none 0 0, .slice none 0 0] 58)) = .ok () (wr.alloc (.cells #[S x.name,I x.prio, .bool x.full,I x.act, .slice s4.a s4.n s4.c, .slice s5.a s5.n s5.c, .slice s6.a s6.n s6.c, .slice s7.a s7.n s7.c] 58)) :=
    run_storeCells_new (P := Tryz.prog) wr 58 #[.string ⟨#[]⟩, .int .i64 0, .bool false, .int .i64 0, .slice none 0 0, .slice none 0 0, .slice none 0 0, .slice none 0 0] #[S x.name,I x.prio, .bool x.full,I x.act, .slice s4.a s4.n s4.c, .slice s5.a s5.n s5.c, .slice s6.a s6.n s6.c, .slice s7.a s7.n s7.c] (by kernel_rfl) rfl (by simp [Value.oneCell'])
   have hal := qa0 wr (.cells #[S x.name,I x.prio, .bool x.full,I x.act, .slice s4.a s4.n s4.c, .slice s5.a s5.n s5.c, .slice s6.a s6.n s6.c, .slice s7.a s7.n s7.c] 58)
   have hwl := qa1 HJ.out.2
   have cx := HDT.out j x s5 _ hx (r5.below hal (fun _ _ _ _ h => h)) (HST.out _ _ _ HJ.out.1 hal) (Nat.lt_of_lt_of_le hwl hal.size)
   have HB : Hid ((wr.alloc (.cells #[S x.name,I x.prio, .bool x.full,I x.act, .slice s4.a s4.n s4.c, .slice s5.a s5.n s5.c, .slice s6.a s6.n s6.c, .slice s7.a s7.n s7.c] 58)).heap[w.heap.size]? = some (.cells C 47 (0,0))) := qad _ _ HJ.out.2
   unfold usC at cx
   rw [e]
   clear hx e HJ hal r4 r5 r6 r7
   go_wp2
   refine cx.mono ?_
   clear cx
   rintro e5 w5 ⟨rfl,hi5,hb5,hs5⟩
   have HJ5 : Hid (IT (j + 1) w5 ∧ w5.heap[w.heap.size]? = some (.cells C 47 (0,0))) := ⟨hi5,hb5.trans HB.out⟩
   clear hi5 hb5 hs5 HB
   go_wp2
   go_roundw
   case rel => exact ⟨j + 1,by omega,by go_num,HJ5.out⟩
   case measure => simp [intOf]; omega
  ·obtain rfl : j = v.t.n := by omega
   have hlt' : ¬ ((v.t.n : Nat) : Int) < (v.t.n : Nat) := by omega
   have c16 := HCV.out _ HJ.out.2
   have HI1 : Hid (II 0 wr ∧ wr.heap[w.heap.size]? = some (.cells C 47 (0,0))) := ⟨HTI.out _ (by rw [← HNT.out]; exact HJ.out.1),HJ.out.2⟩
   clear HJ HDT HST HCT
   go_wp2
   clear c16
   go_loopw [6,7,28] (fun _ _ iv wr => ∃ j : Nat,j ≤ v.i.n ∧ iv = .int .i64 j ∧ Hid (II j wr ∧ wr.heap[w.heap.size]? = some (.cells C 47 (0,0)))) (fun _ _ iv _ => v.i.n - (intOf iv).toNat)
   case atStart => exact ⟨0,by omega,rfl,HI1.out⟩
   case round =>
    clear HI1
    obtain ⟨j,hj,rfl,HJ⟩ := hrel
    by_cases hlt : j < v.i.n
    ·have hlt' : (j : Int) < v.i.n := by omega
     obtain ⟨x,hx⟩ : ∃ x,c.isrs[j]? = some x := ⟨_,List.getElem?_eq_getElem (by rw [← HNI.out]; exact hlt)⟩
     obtain ⟨g,off,s3,s4,e,hg,a0,a1,a2,a3,a4,r3,r4⟩ := qcm (HCI.out _ _ HJ.out.1) hx
     have hng : g ≠ wr.heap.size := Nat.ne_of_lt hg
     have hst : (storeCells ⟨wr.heap.size,0,none⟩ [S x.name,I x.cat,I x.prio, .slice s3.a s3.n s3.c, .slice s4.a s4.n s4.c] 0).run Tryz.prog (wr.alloc (.cells #[.string ⟨#[]⟩, .int .i64 0, .int .i64 0, .slice none 0 0, .slice none 0 0] 88)) = .ok () (wr.alloc (.cells #[S x.name,I x.cat,I x.prio, .slice s3.a s3.n s3.c, .slice s4.a s4.n s4.c] 88)) :=
      run_storeCells_new (P := Tryz.prog) wr 88 #[.string ⟨#[]⟩, .int .i64 0, .int .i64 0, .slice none 0 0, .slice none 0 0] #[S x.name,I x.cat,I x.prio, .slice s3.a s3.n s3.c, .slice s4.a s4.n s4.c] (by kernel_rfl) rfl (by simp [Value.oneCell'])
     have hal := qa0 wr (.cells #[S x.name,I x.cat,I x.prio, .slice s3.a s3.n s3.c, .slice s4.a s4.n s4.c] 88)
     have hwl := qa1 HJ.out.2
     have cx := HDI.out j x s3 _ hx (r3.below hal (fun _ _ _ _ h => h)) (HSI.out _ _ _ HJ.out.1 hal) (Nat.lt_of_lt_of_le hwl hal.size)
     have HB : Hid ((wr.alloc (.cells #[S x.name,I x.cat,I x.prio, .slice s3.a s3.n s3.c, .slice s4.a s4.n s4.c] 88)).heap[w.heap.size]? = some (.cells C 47 (0,0))) := qad _ _ HJ.out.2
     unfold usC at cx
     rw [e]
     clear hx e HJ hal r3 r4
     go_wp2
     refine cx.mono ?_
     clear cx
     rintro e5 w5 ⟨rfl,hi5,hb5,hs5⟩
     have HJ5 : Hid (II (j + 1) w5 ∧ w5.heap[w.heap.size]? = some (.cells C 47 (0,0))) := ⟨hi5,hb5.trans HB.out⟩
     clear hi5 hb5 hs5 HB
     go_wp2
     go_roundw
     case rel => exact ⟨j + 1,by omega,by go_num,HJ5.out⟩
     case measure => simp [intOf]; omega
    ·obtain rfl : j = v.i.n := by omega
     have hlt' : ¬ ((v.i.n : Nat) : Int) < (v.i.n : Nat) := by omega
     go_wp2
     refine bodyPost_end (v := .tuple #[]) (by simp [results,Tryz.results130,go_sem]) rfl ?_
     exact ⟨rfl,by rw [← HNI.out]; exact HJ.out.1⟩
def BoxB (w : World) (b : Nat) (m : Bool) : Prop := w.heap[b]? = some (.cells #[.bool m] 4 (0,0))
def BoxC (w : World) (b : Nat) (c : Cf) (v : Vs) : Prop := w.heap[b]? = some (.cells (cfC c v) 47 (0,0))
theorem qak {w w' : World} {r : Option Nat} {g : Nat} {o : Obj} (h : w.heap[g]? = some o) (hg : w.grownBy w' r) (hne : some g ≠ r) : w'.heap[g]? = some o := (hg.block g (qa1 h) hne).trans h
theorem qij {w : World} {b : Nat} {m : Bool} (h : BoxB w b m) (o : Obj) (m' : Bool) : w.grownBy ((w.setCell ⟨b,0,none⟩ (.bool m')).alloc o) (some b) ∧ BoxB ((w.setCell ⟨b,0,none⟩ (.bool m')).alloc o) b m' := by
 have h1 := heap_setCell_same w b 0 _ _ (.bool m') h
 refine ⟨grown_same (qac w b 0 _) (World.grownBy_alloc _ o (some b)),qad _ o h1⟩
theorem qe6 (W : World) (c : Cf) (v : Vs) (isr : Bool) (id : Nat) (prio : Int) (s : Sl) (l : List Int) (hl : RowsAt W 1 intP s l) (bm bc : Nat) (m : Bool) (hm : BoxB W bm m) (hc : BoxC W bc c v) :
  Calls Tryz.prog 197 #[.agg (usC isr id prio s), .pointer (some ⟨bm,0,none⟩), .pointer (some ⟨bc,0,none⟩)] W fun e w' => e = .returned (.tuple #[]) ∧ W.grownBy w' (some bm) ∧ BoxB w' bm (m && risF (-1) l v.r.n) := by
 have hbl := qa1 hm
 have hcl := qa1 hc
 have x0 : W.cell? ⟨bm,0,none⟩ = some (.bool m) := by rw [cell_of_row W bm 0 _ _ (0,0) hm]; rfl
 have x1 : W.frozen? ⟨bm,0,none⟩ = false := frozen_of_row W bm 0 _ _ hm
 have y12 : W.cell? ⟨bc,12,none⟩ = some (.slice v.r.a v.r.n v.r.c) := by
  obtain ⟨_,h10,h11,h12,h13,h14,h15,h16,h17⟩ := qao hc
  exact h12
 have hset := qij hm (.cells (usC isr id prio s) 207)
 have cr := fun W' (hW : Below W.heap.size W W') => qnx W' s l (hl.below hW (fun _ _ _ _ h => h)) v.r.n
 have hb := qa0 W (.cells (usC isr id prio s) 207)
 have k1 := cr _ hb
 have hnb : bm ≠ W.heap.size := Nat.ne_of_lt hbl
 have hnc : bc ≠ W.heap.size := Nat.ne_of_lt hcl
 generalize risF (-1) l v.r.n = br at *
 unfold usC at *
 clear hl hm hc cr hb
 cases m with
 | false =>
  have HS : Hid _ := hset false
  clear hset k1
  go_enter Tryz.func197,Tryz.ntmps197
  go_wp2
  refine bodyPost_end (v := .tuple #[]) (by simp [results,Tryz.results197,go_sem]) rfl ?_
  exact ⟨rfl,HS.out⟩
 | true =>
  have HS : Hid _ := hset br
  clear hset
  go_enter Tryz.func197,Tryz.ntmps197
  go_wp2_with (go_at_call 198; refine k1.mono ?_; clear k1; rintro e w' ⟨rfl,rfl⟩)
  refine bodyPost_end (v := .tuple #[]) (by simp [results,Tryz.results197,go_sem]) rfl ?_
  exact ⟨rfl,HS.out⟩
def risT (c : Cf) (x : Tk) : Bool := risF (-1) x.res c.ress.length
def risI (c : Cf) (x : Is) : Bool := risF (-1) x.res c.ress.length
def meetB (c : Cf) : Bool := c.tasks.all (risT c) && c.isrs.all (risI c)
theorem qj7 (w : World) (c : Cf) (v : Vs) (h : CfAt w c v) : Calls Tryz.prog 125 #[.agg (cfC c v)] w fun e w' => Ans w (meetB c) e w' := by
 have hi18 : (Tryz.prog.info? 47).map (·.size) = some (cfC c v).size := by rw [show (cfC c v).size = 18 from rfl]; kernel_rfl
 have hV2 := qar w (.cells (cfC c v) 47) (.cells #[.bool true] 4)
 have hM2 := qaj w (.cells (cfC c v) 47) (.cells #[.bool true] 4)
 have hb2 : Below w.heap.size w ((w.alloc (.cells (cfC c v) 47)).alloc (.cells #[.bool true] 4)) := ((Below.refl w.heap.size w).alloc (Nat.le_refl _) _).alloc (by simp) _
 have hs2 : ((w.alloc (.cells (cfC c v) 47)).alloc (.cells #[.bool true] 4)).heap.size = w.heap.size + 2 := by simp
 have HNR : Hid (v.r.n = c.ress.length) := h.r.n
 have hst : (storeCells ⟨w.heap.size + 1,0,none⟩ [.bool true] 0).run Tryz.prog ((w.alloc (.cells (cfC c v) 47)).alloc (.cells #[.bool false] 4)) = .ok () ((w.alloc (.cells (cfC c v) 47)).alloc (.cells #[.bool true] 4)) := by
  have := run_storeCells_new (P := Tryz.prog) (w.alloc (.cells (cfC c v) 47)) 4 #[.bool false] #[.bool true] (by kernel_rfl) rfl (by simp [Value.oneCell'])
  rwa [show (w.alloc (.cells (cfC c v) 47)).heap.size = w.heap.size + 1 by simp] at this
 have ke : Calls Tryz.prog 130 #[.agg (cfC c v), .func (.func 197) #[] #[.pointer (some ⟨w.heap.size + 1,0,none⟩), .pointer (some ⟨w.heap.size,0,none⟩)]] ((w.alloc (.cells (cfC c v) 47)).alloc (.cells #[.bool true] 4)) fun e w' => e = .returned (.tuple #[]) ∧ BoxB w' (w.heap.size + 1) (meetB c) ∧ Below w.heap.size w w' := by
  refine (qd1 _ c v 197 #[.pointer (some ⟨w.heap.size + 1,0,none⟩), .pointer (some ⟨w.heap.size,0,none⟩)] (enters_of Tryz.func197 (by kernel_rfl) rfl)
   (fun j W => BoxB W (w.heap.size + 1) ((c.tasks.take j).all (risT c)) ∧ BoxC W w.heap.size c v ∧ Below w.heap.size w W)
   (fun j W => BoxB W (w.heap.size + 1) (c.tasks.all (risT c) && (c.isrs.take j).all (risI c)) ∧ BoxC W w.heap.size c v ∧ Below w.heap.size w W)
   (fun j W W' ⟨h1,h2,h3⟩ hb => ⟨(hb.block _ (qa1 h1)).trans h1,(hb.block _ (qa1 h2)).trans h2,h3.trans (hb.mono h3.size)⟩)
   (fun j W W' ⟨h1,h2,h3⟩ hb => ⟨(hb.block _ (qa1 h1)).trans h1,(hb.block _ (qa1 h2)).trans h2,h3.trans (hb.mono h3.size)⟩)
   (fun j W ⟨_,_,h3⟩ => h.below h3) (fun j W ⟨_,_,h3⟩ => h.below h3) ⟨hM2,hV2,hb2⟩ (fun W ⟨h1,h2,h3⟩ => ⟨by rw [List.take_of_length_le (Nat.le_refl _)] at h1; simpa using h1,h2,h3⟩) ?_ ?_).mono ?_
  ·intro j x s W hx hr ⟨h1,h2,h3⟩ hlt
   refine (qe6 W c v false j x.prio s x.res hr (w.heap.size + 1) w.heap.size _ h1 h2).mono ?_
   rintro e w' ⟨rfl,hg,hb⟩
   refine ⟨rfl,⟨?_,qak h2 hg (fun e => by have := Option.some.inj e; omega),h3.grown hg h3.size (fun k e => by cases e; omega)⟩, ?_,hg.size⟩
   ·rw [qbu _ _ j x hx]
    rw [HNR.out] at hb
    exact hb
   ·rw [hs2]
    exact hg.block _ (by rw [hs2] at hlt; exact hlt) (fun e => by have := Option.some.inj e; omega)
  ·intro j x s W hx hr ⟨h1,h2,h3⟩ hlt
   refine (qe6 W c v true j x.prio s x.res hr (w.heap.size + 1) w.heap.size _ h1 h2).mono ?_
   rintro e w' ⟨rfl,hg,hb⟩
   refine ⟨rfl,⟨?_,qak h2 hg (fun e => by have := Option.some.inj e; omega),h3.grown hg h3.size (fun k e => by cases e; omega)⟩, ?_,hg.size⟩
   ·rw [qbu _ _ j x hx, ← Bool.and_assoc]
    rw [HNR.out] at hb
    exact hb
   ·rw [hs2]
    exact hg.block _ (by rw [hs2] at hlt; exact hlt) (fun e => by have := Option.some.inj e; omega)
  ·rintro e w' ⟨rfl,h1,h2,h3⟩
   refine ⟨rfl, ?_,h3⟩
   rw [List.take_of_length_le (Nat.le_refl _)] at h1
   exact h1
 generalize meetB c = mb at *
 generalize cfC c v = C at *
 clear hM2 hb2 hs2 h
 go_enter Tryz.func125,Tryz.ntmps125
 go_wp2_with (first | (refine wpList_load_row rfl 47 _ rfl w.heap.size rfl 47 _ (0,0) _ hV2 Tryz.underlying47 rfl hi18 ?_) | (go_at_call 130; refine ke.mono ?_; clear ke; rintro e w1 ⟨rfl,hb1,hbw1⟩; have z0 : w1.cell? ⟨w.heap.size + 1,0,none⟩ = some (.bool mb) := (by rw [cell_of_row w1 _ 0 _ _ (0,0) hb1]; rfl)))
 go_ret
 exact ⟨rfl,hbw1⟩
end Go.Proofs.YtmidaeljeoifdaaGreatDoor.Ce
