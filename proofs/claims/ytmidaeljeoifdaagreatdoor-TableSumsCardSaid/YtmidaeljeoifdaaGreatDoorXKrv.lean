import Derived.Test.YtmidaeljeoifdaaGreatDoorXKrr
import Derived.Deep.WholeRow
import Derived.Shelf.Abstract
namespace Go.Proofs.YtmidaeljeoifdaaGreatDoor
open Go.RowKit
set_option linter.unusedSimpArgs false
set_option linter.unusedVariables false
set_option maxHeartbeats 16000000
set_option maxRecDepth 100000
theorem Tryz.infoStr : (Tryz.prog.info? 9).map (fun i => (i.zero,i.size,i.bytes)) = some (some (.string ⟨#[]⟩),1,16) := by kernel_rfl
def qaa (w : World) (l : List (List UInt8)) (e : Ending) (w' : World) : Prop := ∃ s : Sl,e = .returned (.slice s.a s.n s.c) ∧ RowsAt w' 1 strP s l ∧ Below w.heap.size w w'
theorem qcq {w : World} {b n : Nat} {xs : List Value} {l : List (List UInt8)} (h : w.ownsRow b 9 1 (.slice (some ⟨b,0,none⟩) n n) n xs) (hx : xs = l.map fun x => S x) (hn : n = l.length) (hm : n ≤ maxLen) : RowsAt w 1 strP ⟨some ⟨b,0,none⟩,n,n⟩ l := by
 refine ⟨hn,Nat.le_refl _,hm,fun j x hj => ⟨b,0,rfl,(h.lt b rfl).2,fun i hi => ?_⟩⟩
 obtain rfl : i = 0 := by omega
 refine ⟨S x, ?_,rfl⟩
 rw [show 0 + j * 1 + 0 = j by omega,h.cellAt j (by have := (List.getElem?_eq_some_iff.1 hj).1; omega),hx,List.getElem?_map,hj]
 rfl
theorem qr9 (w : World) (c : Cf) (v : Vs) (h : CfAt w c v) (hl : c.ress.length ≤ 8796093022208) :
  Calls Tryz.prog 216 #[.slice v.r.a v.r.n v.r.c, .func (.func 217) #[] #[]] w fun e w' => qaa w (c.ress.map fun x => x.name) e w' := by
 obtain ⟨i0,hi0,hz0,hz1,hz2⟩ := info_parts Tryz.infoStr
 have HN : Hid (v.r.n = c.ress.length) := h.r.n
 have hn40 : v.r.n ≤ 8796093022208 := by have := h.r.n; omega
 have eg : ∀ args w,(callFunc 217 args).run Tryz.prog w = .ok (.enter 217 args) w := enters_of Tryz.func217 (by kernel_rfl) rfl
 go_enter Tryz.func216,Tryz.ntmps216
 go_wp2_with (refine wpList_make_own _ rfl _ _ 38 rfl w.heap.size 9 i0 (.string ⟨#[]⟩) 1 Tryz.underlying38 hi0 hz0 hz1 .i64 .i64 _ v.r.n rfl rfl rfl (by rw [hz2]; omega) (by unfold maxLen; omega) (Nat.le_refl _) ?_; intro w1 ho1 hg1)
 have hb1 := qal hg1
 have hb1s := hb1.size
 clear hg1
 generalize hbk : w.heap.size = b at ho1 ⊢
 go_loopw [5,7,13] (fun o5 _ iv wr => ∃ j : Nat,j ≤ v.r.n ∧ iv = .int .i64 j ∧ o5 = .slice (some ⟨b,0,none⟩) j v.r.n ∧ Hid (wr.ownsRow b 9 1 (.slice (some ⟨b,0,none⟩) j v.r.n) j ((c.ress.take j).map fun x => S x.name) ∧ Below b w wr)) (fun _ _ iv _ => v.r.n - (intOf iv).toNat)
 case atStart => exact ⟨0,by omega,rfl,rfl,ho1,by rw [← hbk]; exact hb1⟩
 case round =>
  obtain ⟨j,hj,rfl,rfl,HJ⟩ := hrel
  obtain ⟨hO,hB⟩ := HJ.out
  clear HJ ho1 hb1
  by_cases hlt : j < v.r.n
  ·have hlt' : (j : Int) < v.r.n := by omega
   have hjl : j < c.ress.length := by rw [← HN.out]; exact hlt
   obtain ⟨x,hx⟩ : ∃ x,c.ress[j]? = some x := ⟨_,List.getElem?_eq_getElem hjl⟩
   obtain ⟨g,off,e,hg,a0,a1,a2⟩ := qb5 (h.below (by rw [hbk]; exact hB)) hx
   rw [e] at *
   have hng : g ≠ wr.heap.size := by omega
   have HT : Hid ((c.ress.take (j + 1)).map (fun x => S x.name) = (c.ress.take j).map (fun x => S x.name) ++ [S x.name]) := by
    show _ = _
    rw [List.take_add_one,hx,Option.toList_some,List.map_append]
    rfl
   have hst : (storeCells ⟨wr.heap.size,0,none⟩ [S x.name,I x.kind,I x.link] 0).run Tryz.prog (wr.alloc (.cells #[.string ⟨#[]⟩, .int .i64 0, .int .i64 0] 106)) = .ok () (wr.alloc (.cells #[S x.name,I x.kind,I x.link] 106)) :=
    run_storeCells_new (P := Tryz.prog) wr 106 #[.string ⟨#[]⟩, .int .i64 0, .int .i64 0] #[S x.name,I x.kind,I x.link] (by kernel_rfl) rfl (by simp [Value.oneCell'])
   have cn : ∀ W,Calls Tryz.prog 217 #[.agg #[S x.name,I x.kind,I x.link]] W fun e w' => e = .returned (S x.name) ∧ Below W.heap.size W w' := fun W => by
    have hbW := qa0 W
    go_enter Tryz.func217,Tryz.ntmps217
    go_wp2
    go_ret
    exact ⟨rfl,hbW _⟩
   have hbs := hB.size
   have hal := qa0 wr (.cells #[S x.name,I x.kind,I x.link] 106)
   clear hx hjl
   go_wp2_with (first | (go_at_call 217; refine (cn _).mono ?_; rintro e w2 ⟨rfl,hb2⟩; have hO2 := qa6 (qa6 hO hal) hb2; have hO3 := qa6 hO2 (qa0 w2 (.cells #[S x.name] 9))) | (at_builtin; refine wpList_append_fits _ rfl _ _ 38 rfl b 9 i0 1 Tryz.underlying38 hi0 hz1 b j v.r.n _ rfl hO3 ⟨w2.heap.size,0,none⟩ 1 1 [S x.name] rfl rfl (cell_one_new _ _ _) (by simp [Value.oneCell']) hlt ?_; intro w3 hO4 hg4))
   go_roundw
   case rel =>
    refine ⟨j + 1,by omega,by go_num,rfl,by rw [HT.out]; exact hO4, ?_⟩
    have e1 := (hB.trans (hal.mono (by omega))).trans (hb2.mono (Nat.le_trans (by omega) hal.size))
    have e2 := e1.trans ((qa0 w2 (.cells #[S x.name] 9)).mono (Nat.le_trans (Nat.le_trans (by omega) hal.size) hb2.size))
    exact e2.trans (qam hg4 (Nat.le_refl _) (by have := e2.size; omega))
   case measure => simp [intOf]; omega
  ·obtain rfl : j = v.r.n := by omega
   have hlt' : ¬ ((v.r.n : Nat) : Int) < (v.r.n : Nat) := by omega
   have hR := qcq hO (l := c.ress.map fun x => x.name) (by rw [List.take_of_length_le (by rw [HN.out]; exact Nat.le_refl _),List.map_map]; rfl) (by rw [List.length_map]; exact HN.out) (by unfold maxLen; omega)
   clear hO
   go_wp2
   go_ret
   exact ⟨⟨_,_,_⟩,rfl,hR,by rw [hbk]; exact hB⟩
theorem qfy (w : World) (c : Cf) (v : Vs) (h : CfAt w c v) (hl : c.ress.length ≤ 8796093022208) : Calls Tryz.prog 179 #[.agg (cfC c v)] w fun e w' => qaa w (c.ress.map fun x => x.name) e w' := by
 have hb := qa0 w
 have c1 := fun W (hW : Below w.heap.size w W) => qr9 W c v (h.below hW) hl
 have f12 : ∀ h : 12 < (cfC c v).size,(cfC c v)[12] = .slice v.r.a v.r.n v.r.c := fun _ => rfl
 have hs18 : (cfC c v).size = 18 := rfl
 generalize cfC c v = C at *
 replace f12 := f12 (by omega)
 go_enter Tryz.func179,Tryz.ntmps179
 go_wp2_with (first | (go_at_call 216; refine (c1 _ (hb _)).mono ?_; rintro e w2 ⟨s2,rfl,hR,hb2⟩))
 go_ret
 exact ⟨s2,rfl,hR,(hb _).trans (hb2.mono (hb _).size)⟩
theorem qra (w : World) (c : Cf) (v : Vs) (h : CfAt w c v) (hl : c.evs.length ≤ 8796093022208) :
  Calls Tryz.prog 222 #[.slice v.e.a v.e.n v.e.c, .func (.func 223) #[] #[]] w fun e w' => qaa w (c.evs.map fun x => x.name) e w' := by
 obtain ⟨i0,hi0,hz0,hz1,hz2⟩ := info_parts Tryz.infoStr
 have HN : Hid (v.e.n = c.evs.length) := h.e.n
 have hn40 : v.e.n ≤ 8796093022208 := by have := h.e.n; omega
 have eg : ∀ args w,(callFunc 223 args).run Tryz.prog w = .ok (.enter 223 args) w := enters_of Tryz.func223 (by kernel_rfl) rfl
 go_enter Tryz.func222,Tryz.ntmps222
 go_wp2_with (refine wpList_make_own _ rfl _ _ 38 rfl w.heap.size 9 i0 (.string ⟨#[]⟩) 1 Tryz.underlying38 hi0 hz0 hz1 .i64 .i64 _ v.e.n rfl rfl rfl (by rw [hz2]; omega) (by unfold maxLen; omega) (Nat.le_refl _) ?_; intro w1 ho1 hg1)
 have hb1 := qal hg1
 have hb1s := hb1.size
 clear hg1
 generalize hbk : w.heap.size = b at ho1 ⊢
 go_loopw [5,7,13] (fun o5 _ iv wr => ∃ j : Nat,j ≤ v.e.n ∧ iv = .int .i64 j ∧ o5 = .slice (some ⟨b,0,none⟩) j v.e.n ∧ Hid (wr.ownsRow b 9 1 (.slice (some ⟨b,0,none⟩) j v.e.n) j ((c.evs.take j).map fun x => S x.name) ∧ Below b w wr)) (fun _ _ iv _ => v.e.n - (intOf iv).toNat)
 case atStart => exact ⟨0,by omega,rfl,rfl,ho1,by rw [← hbk]; exact hb1⟩
 case round =>
  obtain ⟨j,hj,rfl,rfl,HJ⟩ := hrel
  obtain ⟨hO,hB⟩ := HJ.out
  clear HJ ho1 hb1
  by_cases hlt : j < v.e.n
  ·have hlt' : (j : Int) < v.e.n := by omega
   have hjl : j < c.evs.length := by rw [← HN.out]; exact hlt
   obtain ⟨x,hx⟩ : ∃ x,c.evs[j]? = some x := ⟨_,List.getElem?_eq_getElem hjl⟩
   obtain ⟨g,off,e,hg,a0,a1,a2⟩ := qds (h.below (by rw [hbk]; exact hB)) hx
   rw [e] at *
   have hng : g ≠ wr.heap.size := by omega
   have HT : Hid ((c.evs.take (j + 1)).map (fun x => S x.name) = (c.evs.take j).map (fun x => S x.name) ++ [S x.name]) := by
    show _ = _
    rw [List.take_add_one,hx,Option.toList_some,List.map_append]
    rfl
   have hst : (storeCells ⟨wr.heap.size,0,none⟩ [S x.name, .int .u32 (x.mask : Int), .bool x.auto] 0).run Tryz.prog (wr.alloc (.cells #[.string ⟨#[]⟩, .int .u32 0, .bool false] 109)) = .ok () (wr.alloc (.cells #[S x.name, .int .u32 (x.mask : Int), .bool x.auto] 109)) :=
    run_storeCells_new (P := Tryz.prog) wr 109 #[.string ⟨#[]⟩, .int .u32 0, .bool false] #[S x.name, .int .u32 (x.mask : Int), .bool x.auto] (by kernel_rfl) rfl (by simp [Value.oneCell'])
   have cn : ∀ W,Calls Tryz.prog 223 #[.agg #[S x.name, .int .u32 (x.mask : Int), .bool x.auto]] W fun e w' => e = .returned (S x.name) ∧ Below W.heap.size W w' := fun W => by
    have hbW := qa0 W
    go_enter Tryz.func223,Tryz.ntmps223
    go_wp2
    go_ret
    exact ⟨rfl,hbW _⟩
   have hbs := hB.size
   have hal := qa0 wr (.cells #[S x.name, .int .u32 (x.mask : Int), .bool x.auto] 109)
   clear hx hjl
   go_wp2_with (first | (go_at_call 223; refine (cn _).mono ?_; rintro e w2 ⟨rfl,hb2⟩; have hO2 := qa6 (qa6 hO hal) hb2; have hO3 := qa6 hO2 (qa0 w2 (.cells #[S x.name] 9))) | (at_builtin; refine wpList_append_fits _ rfl _ _ 38 rfl b 9 i0 1 Tryz.underlying38 hi0 hz1 b j v.e.n _ rfl hO3 ⟨w2.heap.size,0,none⟩ 1 1 [S x.name] rfl rfl (cell_one_new _ _ _) (by simp [Value.oneCell']) hlt ?_; intro w3 hO4 hg4))
   go_roundw
   case rel =>
    refine ⟨j + 1,by omega,by go_num,rfl,by rw [HT.out]; exact hO4, ?_⟩
    have e1 := (hB.trans (hal.mono (by omega))).trans (hb2.mono (Nat.le_trans (by omega) hal.size))
    have e2 := e1.trans ((qa0 w2 (.cells #[S x.name] 9)).mono (Nat.le_trans (Nat.le_trans (by omega) hal.size) hb2.size))
    exact e2.trans (qam hg4 (Nat.le_refl _) (by have := e2.size; omega))
   case measure => simp [intOf]; omega
  ·obtain rfl : j = v.e.n := by omega
   have hlt' : ¬ ((v.e.n : Nat) : Int) < (v.e.n : Nat) := by omega
   have hR := qcq hO (l := c.evs.map fun x => x.name) (by rw [List.take_of_length_le (by rw [HN.out]; exact Nat.le_refl _),List.map_map]; rfl) (by rw [List.length_map]; exact HN.out) (by unfold maxLen; omega)
   clear hO
   go_wp2
   go_ret
   exact ⟨⟨_,_,_⟩,rfl,hR,by rw [hbk]; exact hB⟩
theorem qi0 (w : World) (c : Cf) (v : Vs) (h : CfAt w c v) (hl : c.evs.length ≤ 8796093022208) : Calls Tryz.prog 181 #[.agg (cfC c v)] w fun e w' => qaa w (c.evs.map fun x => x.name) e w' := by
 have hb := qa0 w
 have c1 := fun W (hW : Below w.heap.size w W) => qra W c v (h.below hW) hl
 have f13 : ∀ h : 13 < (cfC c v).size,(cfC c v)[13] = .slice v.e.a v.e.n v.e.c := fun _ => rfl
 have hs18 : (cfC c v).size = 18 := rfl
 generalize cfC c v = C at *
 replace f13 := f13 (by omega)
 go_enter Tryz.func181,Tryz.ntmps181
 go_wp2_with (first | (go_at_call 222; refine (c1 _ (hb _)).mono ?_; rintro e w2 ⟨s2,rfl,hR,hb2⟩))
 go_ret
 exact ⟨s2,rfl,hR,(hb _).trans (hb2.mono (hb _).size)⟩
theorem qrb (w : World) (c : Cf) (v : Vs) (h : CfAt w c v) (hl : c.ctrs.length ≤ 8796093022208) :
  Calls Tryz.prog 233 #[.slice v.k.a v.k.n v.k.c, .func (.func 234) #[] #[]] w fun e w' => qaa w (c.ctrs.map fun x => x.name) e w' := by
 obtain ⟨i0,hi0,hz0,hz1,hz2⟩ := info_parts Tryz.infoStr
 have HN : Hid (v.k.n = c.ctrs.length) := h.k.n
 have hn40 : v.k.n ≤ 8796093022208 := by have := h.k.n; omega
 have eg : ∀ args w,(callFunc 234 args).run Tryz.prog w = .ok (.enter 234 args) w := enters_of Tryz.func234 (by kernel_rfl) rfl
 go_enter Tryz.func233,Tryz.ntmps233
 go_wp2_with (refine wpList_make_own _ rfl _ _ 38 rfl w.heap.size 9 i0 (.string ⟨#[]⟩) 1 Tryz.underlying38 hi0 hz0 hz1 .i64 .i64 _ v.k.n rfl rfl rfl (by rw [hz2]; omega) (by unfold maxLen; omega) (Nat.le_refl _) ?_; intro w1 ho1 hg1)
 have hb1 := qal hg1
 have hb1s := hb1.size
 clear hg1
 generalize hbk : w.heap.size = b at ho1 ⊢
 go_loopw [5,7,13] (fun o5 _ iv wr => ∃ j : Nat,j ≤ v.k.n ∧ iv = .int .i64 j ∧ o5 = .slice (some ⟨b,0,none⟩) j v.k.n ∧ Hid (wr.ownsRow b 9 1 (.slice (some ⟨b,0,none⟩) j v.k.n) j ((c.ctrs.take j).map fun x => S x.name) ∧ Below b w wr)) (fun _ _ iv _ => v.k.n - (intOf iv).toNat)
 case atStart => exact ⟨0,by omega,rfl,rfl,ho1,by rw [← hbk]; exact hb1⟩
 case round =>
  obtain ⟨j,hj,rfl,rfl,HJ⟩ := hrel
  obtain ⟨hO,hB⟩ := HJ.out
  clear HJ ho1 hb1
  by_cases hlt : j < v.k.n
  ·have hlt' : (j : Int) < v.k.n := by omega
   have hjl : j < c.ctrs.length := by rw [← HN.out]; exact hlt
   obtain ⟨x,hx⟩ : ∃ x,c.ctrs[j]? = some x := ⟨_,List.getElem?_eq_getElem hjl⟩
   obtain ⟨g,off,e,hg,a0,a1,a2,a3⟩ := qfm (h.below (by rw [hbk]; exact hB)) hx
   rw [e] at *
   have hng : g ≠ wr.heap.size := by omega
   have HT : Hid ((c.ctrs.take (j + 1)).map (fun x => S x.name) = (c.ctrs.take j).map (fun x => S x.name) ++ [S x.name]) := by
    show _ = _
    rw [List.take_add_one,hx,Option.toList_some,List.map_append]
    rfl
   have hst : (storeCells ⟨wr.heap.size,0,none⟩ [S x.name, .int .u32 (x.max : Int), .int .u32 (x.base : Int), .int .u32 (x.min : Int)] 0).run Tryz.prog (wr.alloc (.cells #[.string ⟨#[]⟩, .int .u32 0, .int .u32 0, .int .u32 0] 111)) = .ok () (wr.alloc (.cells #[S x.name, .int .u32 (x.max : Int), .int .u32 (x.base : Int), .int .u32 (x.min : Int)] 111)) :=
    run_storeCells_new (P := Tryz.prog) wr 111 #[.string ⟨#[]⟩, .int .u32 0, .int .u32 0, .int .u32 0] #[S x.name, .int .u32 (x.max : Int), .int .u32 (x.base : Int), .int .u32 (x.min : Int)] (by kernel_rfl) rfl (by simp [Value.oneCell'])
   have cn : ∀ W,Calls Tryz.prog 234 #[.agg #[S x.name, .int .u32 (x.max : Int), .int .u32 (x.base : Int), .int .u32 (x.min : Int)]] W fun e w' => e = .returned (S x.name) ∧ Below W.heap.size W w' := fun W => by
    have hbW := qa0 W
    go_enter Tryz.func234,Tryz.ntmps234
    go_wp2
    go_ret
    exact ⟨rfl,hbW _⟩
   have hbs := hB.size
   have hal := qa0 wr (.cells #[S x.name, .int .u32 (x.max : Int), .int .u32 (x.base : Int), .int .u32 (x.min : Int)] 111)
   clear hx hjl
   go_wp2_with (first | (go_at_call 234; refine (cn _).mono ?_; rintro e w2 ⟨rfl,hb2⟩; have hO2 := qa6 (qa6 hO hal) hb2; have hO3 := qa6 hO2 (qa0 w2 (.cells #[S x.name] 9))) | (at_builtin; refine wpList_append_fits _ rfl _ _ 38 rfl b 9 i0 1 Tryz.underlying38 hi0 hz1 b j v.k.n _ rfl hO3 ⟨w2.heap.size,0,none⟩ 1 1 [S x.name] rfl rfl (cell_one_new _ _ _) (by simp [Value.oneCell']) hlt ?_; intro w3 hO4 hg4))
   go_roundw
   case rel =>
    refine ⟨j + 1,by omega,by go_num,rfl,by rw [HT.out]; exact hO4, ?_⟩
    have e1 := (hB.trans (hal.mono (by omega))).trans (hb2.mono (Nat.le_trans (by omega) hal.size))
    have e2 := e1.trans ((qa0 w2 (.cells #[S x.name] 9)).mono (Nat.le_trans (Nat.le_trans (by omega) hal.size) hb2.size))
    exact e2.trans (qam hg4 (Nat.le_refl _) (by have := e2.size; omega))
   case measure => simp [intOf]; omega
  ·obtain rfl : j = v.k.n := by omega
   have hlt' : ¬ ((v.k.n : Nat) : Int) < (v.k.n : Nat) := by omega
   have hR := qcq hO (l := c.ctrs.map fun x => x.name) (by rw [List.take_of_length_le (by rw [HN.out]; exact Nat.le_refl _),List.map_map]; rfl) (by rw [List.length_map]; exact HN.out) (by unfold maxLen; omega)
   clear hO
   go_wp2
   go_ret
   exact ⟨⟨_,_,_⟩,rfl,hR,by rw [hbk]; exact hB⟩
theorem qgf (w : World) (c : Cf) (v : Vs) (h : CfAt w c v) (hl : c.ctrs.length ≤ 8796093022208) : Calls Tryz.prog 185 #[.agg (cfC c v)] w fun e w' => qaa w (c.ctrs.map fun x => x.name) e w' := by
 have hb := qa0 w
 have c1 := fun W (hW : Below w.heap.size w W) => qrb W c v (h.below hW) hl
 have f14 : ∀ h : 14 < (cfC c v).size,(cfC c v)[14] = .slice v.k.a v.k.n v.k.c := fun _ => rfl
 have hs18 : (cfC c v).size = 18 := rfl
 generalize cfC c v = C at *
 replace f14 := f14 (by omega)
 go_enter Tryz.func185,Tryz.ntmps185
 go_wp2_with (first | (go_at_call 233; refine (c1 _ (hb _)).mono ?_; rintro e w2 ⟨s2,rfl,hR,hb2⟩))
 go_ret
 exact ⟨s2,rfl,hR,(hb _).trans (hb2.mono (hb _).size)⟩
theorem qrc (w : World) (c : Cf) (v : Vs) (h : CfAt w c v) (hl : c.isrs.length ≤ 8796093022208) :
  Calls Tryz.prog 244 #[.slice v.i.a v.i.n v.i.c, .func (.func 245) #[] #[]] w fun e w' => qaa w (c.isrs.map fun x => x.name) e w' := by
 obtain ⟨i0,hi0,hz0,hz1,hz2⟩ := info_parts Tryz.infoStr
 have HN : Hid (v.i.n = c.isrs.length) := h.i.n
 have hn40 : v.i.n ≤ 8796093022208 := by have := h.i.n; omega
 have eg : ∀ args w,(callFunc 245 args).run Tryz.prog w = .ok (.enter 245 args) w := enters_of Tryz.func245 (by kernel_rfl) rfl
 go_enter Tryz.func244,Tryz.ntmps244
 go_wp2_with (refine wpList_make_own _ rfl _ _ 38 rfl w.heap.size 9 i0 (.string ⟨#[]⟩) 1 Tryz.underlying38 hi0 hz0 hz1 .i64 .i64 _ v.i.n rfl rfl rfl (by rw [hz2]; omega) (by unfold maxLen; omega) (Nat.le_refl _) ?_; intro w1 ho1 hg1)
 have hb1 := qal hg1
 have hb1s := hb1.size
 clear hg1
 generalize hbk : w.heap.size = b at ho1 ⊢
 go_loopw [5,7,13] (fun o5 _ iv wr => ∃ j : Nat,j ≤ v.i.n ∧ iv = .int .i64 j ∧ o5 = .slice (some ⟨b,0,none⟩) j v.i.n ∧ Hid (wr.ownsRow b 9 1 (.slice (some ⟨b,0,none⟩) j v.i.n) j ((c.isrs.take j).map fun x => S x.name) ∧ Below b w wr)) (fun _ _ iv _ => v.i.n - (intOf iv).toNat)
 case atStart => exact ⟨0,by omega,rfl,rfl,ho1,by rw [← hbk]; exact hb1⟩
 case round =>
  obtain ⟨j,hj,rfl,rfl,HJ⟩ := hrel
  obtain ⟨hO,hB⟩ := HJ.out
  clear HJ ho1 hb1
  by_cases hlt : j < v.i.n
  ·have hlt' : (j : Int) < v.i.n := by omega
   have hjl : j < c.isrs.length := by rw [← HN.out]; exact hlt
   obtain ⟨x,hx⟩ : ∃ x,c.isrs[j]? = some x := ⟨_,List.getElem?_eq_getElem hjl⟩
   obtain ⟨g,off,s3,s4,e,hg,a0,a1,a2,a3,a4,r3,r4⟩ := qcm (h.below (by rw [hbk]; exact hB)) hx
   rw [e] at *
   have hng : g ≠ wr.heap.size := by omega
   have HT : Hid ((c.isrs.take (j + 1)).map (fun x => S x.name) = (c.isrs.take j).map (fun x => S x.name) ++ [S x.name]) := by
    show _ = _
    rw [List.take_add_one,hx,Option.toList_some,List.map_append]
    rfl
   have hst : (storeCells ⟨wr.heap.size,0,none⟩ [S x.name,I x.cat,I x.prio, .slice s3.a s3.n s3.c, .slice s4.a s4.n s4.c] 0).run Tryz.prog (wr.alloc (.cells #[.string ⟨#[]⟩, .int .i64 0, .int .i64 0, .slice none 0 0, .slice none 0 0] 88)) = .ok () (wr.alloc (.cells #[S x.name,I x.cat,I x.prio, .slice s3.a s3.n s3.c, .slice s4.a s4.n s4.c] 88)) :=
    run_storeCells_new (P := Tryz.prog) wr 88 #[.string ⟨#[]⟩, .int .i64 0, .int .i64 0, .slice none 0 0, .slice none 0 0] #[S x.name,I x.cat,I x.prio, .slice s3.a s3.n s3.c, .slice s4.a s4.n s4.c] (by kernel_rfl) rfl (by simp [Value.oneCell'])
   have cn : ∀ W,Calls Tryz.prog 245 #[.agg #[S x.name,I x.cat,I x.prio, .slice s3.a s3.n s3.c, .slice s4.a s4.n s4.c]] W fun e w' => e = .returned (S x.name) ∧ Below W.heap.size W w' := fun W => by
    have hbW := qa0 W
    go_enter Tryz.func245,Tryz.ntmps245
    go_wp2
    go_ret
    exact ⟨rfl,hbW _⟩
   have hbs := hB.size
   have hal := qa0 wr (.cells #[S x.name,I x.cat,I x.prio, .slice s3.a s3.n s3.c, .slice s4.a s4.n s4.c] 88)
   clear hx hjl
   go_wp2_with (first | (go_at_call 245; refine (cn _).mono ?_; rintro e w2 ⟨rfl,hb2⟩; have hO2 := qa6 (qa6 hO hal) hb2; have hO3 := qa6 hO2 (qa0 w2 (.cells #[S x.name] 9))) | (at_builtin; refine wpList_append_fits _ rfl _ _ 38 rfl b 9 i0 1 Tryz.underlying38 hi0 hz1 b j v.i.n _ rfl hO3 ⟨w2.heap.size,0,none⟩ 1 1 [S x.name] rfl rfl (cell_one_new _ _ _) (by simp [Value.oneCell']) hlt ?_; intro w3 hO4 hg4))
   go_roundw
   case rel =>
    refine ⟨j + 1,by omega,by go_num,rfl,by rw [HT.out]; exact hO4, ?_⟩
    have e1 := (hB.trans (hal.mono (by omega))).trans (hb2.mono (Nat.le_trans (by omega) hal.size))
    have e2 := e1.trans ((qa0 w2 (.cells #[S x.name] 9)).mono (Nat.le_trans (Nat.le_trans (by omega) hal.size) hb2.size))
    exact e2.trans (qam hg4 (Nat.le_refl _) (by have := e2.size; omega))
   case measure => simp [intOf]; omega
  ·obtain rfl : j = v.i.n := by omega
   have hlt' : ¬ ((v.i.n : Nat) : Int) < (v.i.n : Nat) := by omega
   have hR := qcq hO (l := c.isrs.map fun x => x.name) (by rw [List.take_of_length_le (by rw [HN.out]; exact Nat.le_refl _),List.map_map]; rfl) (by rw [List.length_map]; exact HN.out) (by unfold maxLen; omega)
   clear hO
   go_wp2
   go_ret
   exact ⟨⟨_,_,_⟩,rfl,hR,by rw [hbk]; exact hB⟩
theorem qk5 (w : World) (c : Cf) (v : Vs) (h : CfAt w c v) (hl : c.isrs.length ≤ 8796093022208) : Calls Tryz.prog 189 #[.agg (cfC c v)] w fun e w' => qaa w (c.isrs.map fun x => x.name) e w' := by
 have hb := qa0 w
 have c1 := fun W (hW : Below w.heap.size w W) => qrc W c v (h.below hW) hl
 have f16 : ∀ h : 16 < (cfC c v).size,(cfC c v)[16] = .slice v.i.a v.i.n v.i.c := fun _ => rfl
 have hs18 : (cfC c v).size = 18 := rfl
 generalize cfC c v = C at *
 replace f16 := f16 (by omega)
 go_enter Tryz.func189,Tryz.ntmps189
 go_wp2_with (first | (go_at_call 244; refine (c1 _ (hb _)).mono ?_; rintro e w2 ⟨s2,rfl,hR,hb2⟩))
 go_ret
 exact ⟨s2,rfl,hR,(hb _).trans (hb2.mono (hb _).size)⟩
theorem qrd (w : World) (c : Cf) (v : Vs) (h : CfAt w c v) (hl : c.tasks.length ≤ 8796093022208) :
  Calls Tryz.prog 225 #[.slice v.t.a v.t.n v.t.c, .func (.func 226) #[] #[]] w fun e w' => qaa w (c.tasks.map fun x => x.name) e w' := by
 obtain ⟨i0,hi0,hz0,hz1,hz2⟩ := info_parts Tryz.infoStr
 have HN : Hid (v.t.n = c.tasks.length) := h.t.n
 have hn40 : v.t.n ≤ 8796093022208 := by have := h.t.n; omega
 have eg : ∀ args w,(callFunc 226 args).run Tryz.prog w = .ok (.enter 226 args) w := enters_of Tryz.func226 (by kernel_rfl) rfl
 go_enter Tryz.func225,Tryz.ntmps225
 go_wp2_with (refine wpList_make_own _ rfl _ _ 38 rfl w.heap.size 9 i0 (.string ⟨#[]⟩) 1 Tryz.underlying38 hi0 hz0 hz1 .i64 .i64 _ v.t.n rfl rfl rfl (by rw [hz2]; omega) (by unfold maxLen; omega) (Nat.le_refl _) ?_; intro w1 ho1 hg1)
 have hb1 := qal hg1
 have hb1s := hb1.size
 clear hg1
 generalize hbk : w.heap.size = b at ho1 ⊢
 go_loopw [5,7,13] (fun o5 _ iv wr => ∃ j : Nat,j ≤ v.t.n ∧ iv = .int .i64 j ∧ o5 = .slice (some ⟨b,0,none⟩) j v.t.n ∧ Hid (wr.ownsRow b 9 1 (.slice (some ⟨b,0,none⟩) j v.t.n) j ((c.tasks.take j).map fun x => S x.name) ∧ Below b w wr)) (fun _ _ iv _ => v.t.n - (intOf iv).toNat)
 case atStart => exact ⟨0,by omega,rfl,rfl,ho1,by rw [← hbk]; exact hb1⟩
 case round =>
  obtain ⟨j,hj,rfl,rfl,HJ⟩ := hrel
  obtain ⟨hO,hB⟩ := HJ.out
  clear HJ ho1 hb1
  by_cases hlt : j < v.t.n
  ·have hlt' : (j : Int) < v.t.n := by omega
   have hjl : j < c.tasks.length := by rw [← HN.out]; exact hlt
   obtain ⟨x,hx⟩ : ∃ x,c.tasks[j]? = some x := ⟨_,List.getElem?_eq_getElem hjl⟩
   obtain ⟨g,off,s4,s5,s6,s7,e,hg,a0,a1,a2,a3,a4,a5,a6,a7,r4,r5,r6,r7⟩ := qbj (h.below (by rw [hbk]; exact hB)) hx
   rw [e] at *
   have hng : g ≠ wr.heap.size := by omega
   have HT : Hid ((c.tasks.take (j + 1)).map (fun x => S x.name) = (c.tasks.take j).map (fun x => S x.name) ++ [S x.name]) := by
    show _ = _
    rw [List.take_add_one,hx,Option.toList_some,List.map_append]
    rfl
   have hst : (storeCells ⟨wr.heap.size,0,none⟩ [S x.name,I x.prio, .bool x.full,I x.act, .slice s4.a s4.n s4.c, .slice s5.a s5.n s5.c, .slice s6.a s6.n s6.c, .slice s7.a s7.n s7.c] 0).run Tryz.prog (wr.alloc (.cells #[.string ⟨#[]⟩, .int .i64 0, .bool false, .int .i64 0, .slice none 0 0, .slice none 0 0, .slice none 0 0, .slice none 0 0] 58)) = .ok () (wr.alloc (.cells #[S x.name,I x.prio, .bool x.full,I x.act, .slice s4.a s4.n s4.c, .slice s5.a s5.n s5.c, .slice s6.a s6.n s6.c, .slice s7.a s7.n s7.c] 58)) :=
    run_storeCells_new (P := Tryz.prog) wr 58 #[.string ⟨#[]⟩, .int .i64 0, .bool false, .int .i64 0, .slice none 0 0, .slice none 0 0, .slice none 0 0, .slice none 0 0] #[S x.name,I x.prio, .bool x.full,I x.act, .slice s4.a s4.n s4.c, .slice s5.a s5.n s5.c, .slice s6.a s6.n s6.c, .slice s7.a s7.n s7.c] (by kernel_rfl) rfl (by simp [Value.oneCell'])
   have cn : ∀ W,Calls Tryz.prog 226 #[.agg #[S x.name,I x.prio, .bool x.full,I x.act, .slice s4.a s4.n s4.c, .slice s5.a s5.n s5.c, .slice s6.a s6.n s6.c, .slice s7.a s7.n s7.c]] W fun e w' => e = .returned (S x.name) ∧ Below W.heap.size W w' := fun W => by
    have hbW := qa0 W
    go_enter Tryz.func226,Tryz.ntmps226
    go_wp2
    go_ret
    exact ⟨rfl,hbW _⟩
   have hbs := hB.size
   have hal := qa0 wr (.cells #[S x.name,I x.prio, .bool x.full,I x.act, .slice s4.a s4.n s4.c, .slice s5.a s5.n s5.c, .slice s6.a s6.n s6.c, .slice s7.a s7.n s7.c] 58)
   clear hx hjl
   go_wp2_with (first | (go_at_call 226; refine (cn _).mono ?_; rintro e w2 ⟨rfl,hb2⟩; have hO2 := qa6 (qa6 hO hal) hb2; have hO3 := qa6 hO2 (qa0 w2 (.cells #[S x.name] 9))) | (at_builtin; refine wpList_append_fits _ rfl _ _ 38 rfl b 9 i0 1 Tryz.underlying38 hi0 hz1 b j v.t.n _ rfl hO3 ⟨w2.heap.size,0,none⟩ 1 1 [S x.name] rfl rfl (cell_one_new _ _ _) (by simp [Value.oneCell']) hlt ?_; intro w3 hO4 hg4))
   go_roundw
   case rel =>
    refine ⟨j + 1,by omega,by go_num,rfl,by rw [HT.out]; exact hO4, ?_⟩
    have e1 := (hB.trans (hal.mono (by omega))).trans (hb2.mono (Nat.le_trans (by omega) hal.size))
    have e2 := e1.trans ((qa0 w2 (.cells #[S x.name] 9)).mono (Nat.le_trans (Nat.le_trans (by omega) hal.size) hb2.size))
    exact e2.trans (qam hg4 (Nat.le_refl _) (by have := e2.size; omega))
   case measure => simp [intOf]; omega
  ·obtain rfl : j = v.t.n := by omega
   have hlt' : ¬ ((v.t.n : Nat) : Int) < (v.t.n : Nat) := by omega
   have hR := qcq hO (l := c.tasks.map fun x => x.name) (by rw [List.take_of_length_le (by rw [HN.out]; exact Nat.le_refl _),List.map_map]; rfl) (by rw [List.length_map]; exact HN.out) (by unfold maxLen; omega)
   clear hO
   go_wp2
   go_ret
   exact ⟨⟨_,_,_⟩,rfl,hR,by rw [hbk]; exact hB⟩
theorem qiy (w : World) (c : Cf) (v : Vs) (h : CfAt w c v) (hl : c.tasks.length ≤ 8796093022208) : Calls Tryz.prog 183 #[.agg (cfC c v)] w fun e w' => qaa w (c.tasks.map fun x => x.name) e w' := by
 have hb := qa0 w
 have c1 := fun W (hW : Below w.heap.size w W) => qrd W c v (h.below hW) hl
 have f11 : ∀ h : 11 < (cfC c v).size,(cfC c v)[11] = .slice v.t.a v.t.n v.t.c := fun _ => rfl
 have hs18 : (cfC c v).size = 18 := rfl
 generalize cfC c v = C at *
 replace f11 := f11 (by omega)
 go_enter Tryz.func183,Tryz.ntmps183
 go_wp2_with (first | (go_at_call 225; refine (c1 _ (hb _)).mono ?_; rintro e w2 ⟨s2,rfl,hR,hb2⟩))
 go_ret
 exact ⟨s2,rfl,hR,(hb _).trans (hb2.mono (hb _).size)⟩
theorem qre (w : World) (c : Cf) (v : Vs) (h : CfAt w c v) (hl : c.als.length ≤ 8796093022208) :
  Calls Tryz.prog 236 #[.slice v.a.a v.a.n v.a.c, .func (.func 237) #[] #[]] w fun e w' => qaa w (c.als.map fun x => x.name) e w' := by
 obtain ⟨i0,hi0,hz0,hz1,hz2⟩ := info_parts Tryz.infoStr
 have HN : Hid (v.a.n = c.als.length) := h.a.n
 have hn40 : v.a.n ≤ 8796093022208 := by have := h.a.n; omega
 have eg : ∀ args w,(callFunc 237 args).run Tryz.prog w = .ok (.enter 237 args) w := enters_of Tryz.func237 (by kernel_rfl) rfl
 go_enter Tryz.func236,Tryz.ntmps236
 go_wp2_with (refine wpList_make_own _ rfl _ _ 38 rfl w.heap.size 9 i0 (.string ⟨#[]⟩) 1 Tryz.underlying38 hi0 hz0 hz1 .i64 .i64 _ v.a.n rfl rfl rfl (by rw [hz2]; omega) (by unfold maxLen; omega) (Nat.le_refl _) ?_; intro w1 ho1 hg1)
 have hb1 := qal hg1
 have hb1s := hb1.size
 clear hg1
 generalize hbk : w.heap.size = b at ho1 ⊢
 go_loopw [5,7,13] (fun o5 _ iv wr => ∃ j : Nat,j ≤ v.a.n ∧ iv = .int .i64 j ∧ o5 = .slice (some ⟨b,0,none⟩) j v.a.n ∧ Hid (wr.ownsRow b 9 1 (.slice (some ⟨b,0,none⟩) j v.a.n) j ((c.als.take j).map fun x => S x.name) ∧ Below b w wr)) (fun _ _ iv _ => v.a.n - (intOf iv).toNat)
 case atStart => exact ⟨0,by omega,rfl,rfl,ho1,by rw [← hbk]; exact hb1⟩
 case round =>
  obtain ⟨j,hj,rfl,rfl,HJ⟩ := hrel
  obtain ⟨hO,hB⟩ := HJ.out
  clear HJ ho1 hb1
  by_cases hlt : j < v.a.n
  ·have hlt' : (j : Int) < v.a.n := by omega
   have hjl : j < c.als.length := by rw [← HN.out]; exact hlt
   obtain ⟨x,hx⟩ : ∃ x,c.als[j]? = some x := ⟨_,List.getElem?_eq_getElem hjl⟩
   obtain ⟨g,off,s6,e,hg,a0,a1,a2,a3,a4,a5,a6,a7,a8,r6⟩ := qea (h.below (by rw [hbk]; exact hB)) hx
   rw [e] at *
   have hng : g ≠ wr.heap.size := by omega
   have HT : Hid ((c.als.take (j + 1)).map (fun x => S x.name) = (c.als.take j).map (fun x => S x.name) ++ [S x.name]) := by
    show _ = _
    rw [List.take_add_one,hx,Option.toList_some,List.map_append]
    rfl
   have hst : (storeCells ⟨wr.heap.size,0,none⟩ [S x.name,I x.ctr,I x.ac.kind,I x.ac.task,I x.ac.event,S x.ac.name, .slice s6.a s6.n s6.c, .int .u32 (x.time : Int), .int .u32 (x.cycle : Int)] 0).run Tryz.prog (wr.alloc (.cells #[.string ⟨#[]⟩, .int .i64 0, .int .i64 0, .int .i64 0, .int .i64 0, .string ⟨#[]⟩, .slice none 0 0, .int .u32 0, .int .u32 0] 66)) = .ok () (wr.alloc (.cells #[S x.name,I x.ctr,I x.ac.kind,I x.ac.task,I x.ac.event,S x.ac.name, .slice s6.a s6.n s6.c, .int .u32 (x.time : Int), .int .u32 (x.cycle : Int)] 66)) :=
    run_storeCells_new (P := Tryz.prog) wr 66 #[.string ⟨#[]⟩, .int .i64 0, .int .i64 0, .int .i64 0, .int .i64 0, .string ⟨#[]⟩, .slice none 0 0, .int .u32 0, .int .u32 0] #[S x.name,I x.ctr,I x.ac.kind,I x.ac.task,I x.ac.event,S x.ac.name, .slice s6.a s6.n s6.c, .int .u32 (x.time : Int), .int .u32 (x.cycle : Int)] (by kernel_rfl) rfl (by simp [Value.oneCell'])
   have cn : ∀ W,Calls Tryz.prog 237 #[.agg #[S x.name,I x.ctr,I x.ac.kind,I x.ac.task,I x.ac.event,S x.ac.name, .slice s6.a s6.n s6.c, .int .u32 (x.time : Int), .int .u32 (x.cycle : Int)]] W fun e w' => e = .returned (S x.name) ∧ Below W.heap.size W w' := fun W => by
    have hbW := qa0 W
    go_enter Tryz.func237,Tryz.ntmps237
    go_wp2
    go_ret
    exact ⟨rfl,hbW _⟩
   have hbs := hB.size
   have hal := qa0 wr (.cells #[S x.name,I x.ctr,I x.ac.kind,I x.ac.task,I x.ac.event,S x.ac.name, .slice s6.a s6.n s6.c, .int .u32 (x.time : Int), .int .u32 (x.cycle : Int)] 66)
   clear hx hjl
   go_wp2_with (first | (go_at_call 237; refine (cn _).mono ?_; rintro e w2 ⟨rfl,hb2⟩; have hO2 := qa6 (qa6 hO hal) hb2; have hO3 := qa6 hO2 (qa0 w2 (.cells #[S x.name] 9))) | (at_builtin; refine wpList_append_fits _ rfl _ _ 38 rfl b 9 i0 1 Tryz.underlying38 hi0 hz1 b j v.a.n _ rfl hO3 ⟨w2.heap.size,0,none⟩ 1 1 [S x.name] rfl rfl (cell_one_new _ _ _) (by simp [Value.oneCell']) hlt ?_; intro w3 hO4 hg4))
   go_roundw
   case rel =>
    refine ⟨j + 1,by omega,by go_num,rfl,by rw [HT.out]; exact hO4, ?_⟩
    have e1 := (hB.trans (hal.mono (by omega))).trans (hb2.mono (Nat.le_trans (by omega) hal.size))
    have e2 := e1.trans ((qa0 w2 (.cells #[S x.name] 9)).mono (Nat.le_trans (Nat.le_trans (by omega) hal.size) hb2.size))
    exact e2.trans (qam hg4 (Nat.le_refl _) (by have := e2.size; omega))
   case measure => simp [intOf]; omega
  ·obtain rfl : j = v.a.n := by omega
   have hlt' : ¬ ((v.a.n : Nat) : Int) < (v.a.n : Nat) := by omega
   have hR := qcq hO (l := c.als.map fun x => x.name) (by rw [List.take_of_length_le (by rw [HN.out]; exact Nat.le_refl _),List.map_map]; rfl) (by rw [List.length_map]; exact HN.out) (by unfold maxLen; omega)
   clear hO
   go_wp2
   go_ret
   exact ⟨⟨_,_,_⟩,rfl,hR,by rw [hbk]; exact hB⟩
theorem qi1 (w : World) (c : Cf) (v : Vs) (h : CfAt w c v) (hl : c.als.length ≤ 8796093022208) : Calls Tryz.prog 187 #[.agg (cfC c v)] w fun e w' => qaa w (c.als.map fun x => x.name) e w' := by
 have hb := qa0 w
 have c1 := fun W (hW : Below w.heap.size w W) => qre W c v (h.below hW) hl
 have f15 : ∀ h : 15 < (cfC c v).size,(cfC c v)[15] = .slice v.a.a v.a.n v.a.c := fun _ => rfl
 have hs18 : (cfC c v).size = 18 := rfl
 generalize cfC c v = C at *
 replace f15 := f15 (by omega)
 go_enter Tryz.func187,Tryz.ntmps187
 go_wp2_with (first | (go_at_call 236; refine (c1 _ (hb _)).mono ?_; rintro e w2 ⟨s2,rfl,hR,hb2⟩))
 go_ret
 exact ⟨s2,rfl,hR,(hb _).trans (hb2.mono (hb _).size)⟩
theorem qrf (w : World) (c : Cf) (v : Vs) (h : CfAt w c v) (hl : c.msgs.length ≤ 8796093022208) :
  Calls Tryz.prog 251 #[.slice v.s.a v.s.n v.s.c, .func (.func 252) #[] #[]] w fun e w' => qaa w (c.msgs.map fun x => x.name) e w' := by
 obtain ⟨i0,hi0,hz0,hz1,hz2⟩ := info_parts Tryz.infoStr
 have HN : Hid (v.s.n = c.msgs.length) := h.s.n
 have hn40 : v.s.n ≤ 8796093022208 := by have := h.s.n; omega
 have eg : ∀ args w,(callFunc 252 args).run Tryz.prog w = .ok (.enter 252 args) w := enters_of Tryz.func252 (by kernel_rfl) rfl
 go_enter Tryz.func251,Tryz.ntmps251
 go_wp2_with (refine wpList_make_own _ rfl _ _ 38 rfl w.heap.size 9 i0 (.string ⟨#[]⟩) 1 Tryz.underlying38 hi0 hz0 hz1 .i64 .i64 _ v.s.n rfl rfl rfl (by rw [hz2]; omega) (by unfold maxLen; omega) (Nat.le_refl _) ?_; intro w1 ho1 hg1)
 have hb1 := qal hg1
 have hb1s := hb1.size
 clear hg1
 generalize hbk : w.heap.size = b at ho1 ⊢
 go_loopw [5,7,13] (fun o5 _ iv wr => ∃ j : Nat,j ≤ v.s.n ∧ iv = .int .i64 j ∧ o5 = .slice (some ⟨b,0,none⟩) j v.s.n ∧ Hid (wr.ownsRow b 9 1 (.slice (some ⟨b,0,none⟩) j v.s.n) j ((c.msgs.take j).map fun x => S x.name) ∧ Below b w wr)) (fun _ _ iv _ => v.s.n - (intOf iv).toNat)
 case atStart => exact ⟨0,by omega,rfl,rfl,ho1,by rw [← hbk]; exact hb1⟩
 case round =>
  obtain ⟨j,hj,rfl,rfl,HJ⟩ := hrel
  obtain ⟨hO,hB⟩ := HJ.out
  clear HJ ho1 hb1
  by_cases hlt : j < v.s.n
  ·have hlt' : (j : Int) < v.s.n := by omega
   have hjl : j < c.msgs.length := by rw [← HN.out]; exact hlt
   obtain ⟨x,hx⟩ : ∃ x,c.msgs[j]? = some x := ⟨_,List.getElem?_eq_getElem hjl⟩
   obtain ⟨g,off,e,hg,a0,a1,a2,a3,a4,a5,a6,a7,a8,a9⟩ := qbz (h.below (by rw [hbk]; exact hB)) hx
   rw [e] at *
   have hng : g ≠ wr.heap.size := by omega
   have HT : Hid ((c.msgs.take (j + 1)).map (fun x => S x.name) = (c.msgs.take j).map (fun x => S x.name) ++ [S x.name]) := by
    show _ = _
    rw [List.take_add_one,hx,Option.toList_some,List.map_append]
    rfl
   have hst : (storeCells ⟨wr.heap.size,0,none⟩ [S x.name,I x.kind,I x.len,I x.frm, .int .u64 (x.init : Int),I x.queue,I x.ac.kind,I x.ac.task,I x.ac.event,S x.ac.name] 0).run Tryz.prog (wr.alloc (.cells #[.string ⟨#[]⟩, .int .i64 0, .int .i64 0, .int .i64 0, .int .u64 0, .int .i64 0, .int .i64 0, .int .i64 0, .int .i64 0, .string ⟨#[]⟩] 114)) = .ok () (wr.alloc (.cells #[S x.name,I x.kind,I x.len,I x.frm, .int .u64 (x.init : Int),I x.queue,I x.ac.kind,I x.ac.task,I x.ac.event,S x.ac.name] 114)) :=
    run_storeCells_new (P := Tryz.prog) wr 114 #[.string ⟨#[]⟩, .int .i64 0, .int .i64 0, .int .i64 0, .int .u64 0, .int .i64 0, .int .i64 0, .int .i64 0, .int .i64 0, .string ⟨#[]⟩] #[S x.name,I x.kind,I x.len,I x.frm, .int .u64 (x.init : Int),I x.queue,I x.ac.kind,I x.ac.task,I x.ac.event,S x.ac.name] (by kernel_rfl) rfl (by simp [Value.oneCell'])
   have cn : ∀ W,Calls Tryz.prog 252 #[.agg #[S x.name,I x.kind,I x.len,I x.frm, .int .u64 (x.init : Int),I x.queue,I x.ac.kind,I x.ac.task,I x.ac.event,S x.ac.name]] W fun e w' => e = .returned (S x.name) ∧ Below W.heap.size W w' := fun W => by
    have hbW := qa0 W
    go_enter Tryz.func252,Tryz.ntmps252
    go_wp2
    go_ret
    exact ⟨rfl,hbW _⟩
   have hbs := hB.size
   have hal := qa0 wr (.cells #[S x.name,I x.kind,I x.len,I x.frm, .int .u64 (x.init : Int),I x.queue,I x.ac.kind,I x.ac.task,I x.ac.event,S x.ac.name] 114)
   clear hx hjl
   go_wp2_with (first | (go_at_call 252; refine (cn _).mono ?_; rintro e w2 ⟨rfl,hb2⟩; have hO2 := qa6 (qa6 hO hal) hb2; have hO3 := qa6 hO2 (qa0 w2 (.cells #[S x.name] 9))) | (at_builtin; refine wpList_append_fits _ rfl _ _ 38 rfl b 9 i0 1 Tryz.underlying38 hi0 hz1 b j v.s.n _ rfl hO3 ⟨w2.heap.size,0,none⟩ 1 1 [S x.name] rfl rfl (cell_one_new _ _ _) (by simp [Value.oneCell']) hlt ?_; intro w3 hO4 hg4))
   go_roundw
   case rel =>
    refine ⟨j + 1,by omega,by go_num,rfl,by rw [HT.out]; exact hO4, ?_⟩
    have e1 := (hB.trans (hal.mono (by omega))).trans (hb2.mono (Nat.le_trans (by omega) hal.size))
    have e2 := e1.trans ((qa0 w2 (.cells #[S x.name] 9)).mono (Nat.le_trans (Nat.le_trans (by omega) hal.size) hb2.size))
    exact e2.trans (qam hg4 (Nat.le_refl _) (by have := e2.size; omega))
   case measure => simp [intOf]; omega
  ·obtain rfl : j = v.s.n := by omega
   have hlt' : ¬ ((v.s.n : Nat) : Int) < (v.s.n : Nat) := by omega
   have hR := qcq hO (l := c.msgs.map fun x => x.name) (by rw [List.take_of_length_le (by rw [HN.out]; exact Nat.le_refl _),List.map_map]; rfl) (by rw [List.length_map]; exact HN.out) (by unfold maxLen; omega)
   clear hO
   go_wp2
   go_ret
   exact ⟨⟨_,_,_⟩,rfl,hR,by rw [hbk]; exact hB⟩
theorem qgg (w : World) (c : Cf) (v : Vs) (h : CfAt w c v) (hl : c.msgs.length ≤ 8796093022208) : Calls Tryz.prog 191 #[.agg (cfC c v)] w fun e w' => qaa w (c.msgs.map fun x => x.name) e w' := by
 have hb := qa0 w
 have c1 := fun W (hW : Below w.heap.size w W) => qrf W c v (h.below hW) hl
 have f17 : ∀ h : 17 < (cfC c v).size,(cfC c v)[17] = .slice v.s.a v.s.n v.s.c := fun _ => rfl
 have hs18 : (cfC c v).size = 18 := rfl
 generalize cfC c v = C at *
 replace f17 := f17 (by omega)
 go_enter Tryz.func191,Tryz.ntmps191
 go_wp2_with (first | (go_at_call 251; refine (c1 _ (hb _)).mono ?_; rintro e w2 ⟨s2,rfl,hR,hb2⟩))
 go_ret
 exact ⟨s2,rfl,hR,(hb _).trans (hb2.mono (hb _).size)⟩
structure Ck where
 code : Int
 f : Nat
 caps : Array Value
def ckC (x : Ck) : List Value := [I x.code, .func (.func x.f) #[] x.caps]
def ckP (x : Ck) (i : Nat) (u : Value) : Prop := match i with | 0 => u = I x.code | _ => u = .func (.func x.f) #[] x.caps
def qb6 (w : World) (cs : List Ck) (e : Ending) (w' : World) : Prop := ∃ s : Sl,e = .returned (.slice s.a s.n s.c) ∧ RowsAt w' 2 ckP s cs ∧ Below w.heap.size w w'
theorem qna (cs : List Ck) (j : Nat) (x : Ck) (hj : cs[j]? = some x) (i : Nat) (hi : i < 2) : (cs.flatMap ckC)[j * 2 + i]? = (ckC x)[i]? := by
 induction cs generalizing j with
 | nil => simp at hj
 | cons y r ih =>
  have e1 : (y :: r).flatMap ckC = ckC y ++ r.flatMap ckC := rfl
  have h2 : (ckC y).length = 2 := rfl
  rw [e1]
  cases j with
  | zero =>
   obtain rfl : y = x := by simpa using hj
   rw [List.getElem?_append_left (by omega)]
   simp
  | succ j =>
   rw [List.getElem?_append_right (by omega),h2,show (j + 1) * 2 + i - 2 = j * 2 + i by omega]
   exact ih j (by simpa using hj)
theorem qd5 {w : World} {b : Nat} {vs : Array Value} (h : w.heap[b]? = some (.cells vs 254 (0,0))) (cs : List Ck) (hv : vs.toList = cs.flatMap ckC) {n : Nat} (hn : n = cs.length) (hm : n ≤ maxLen) : RowsAt w 2 ckP ⟨some ⟨b,0,none⟩,n,n⟩ cs := by
 refine ⟨hn,Nat.le_refl _,hm,fun j x hj => ⟨b,0,rfl,qa1 h,fun i hi => ?_⟩⟩
 have hc := qna cs j x hj i hi
 rw [← hv,Array.getElem?_toList] at hc
 have h1 : w.cell? ⟨b,0 + j * 2 + i,none⟩ = (ckC x)[i]? := by rw [Nat.zero_add,cell_of_row w b _ _ _ (0,0) h]; exact hc
 have h01 : i = 0 ∨ i = 1 := by omega
 rcases h01 with rfl | rfl
 ·exact ⟨_,h1,rfl⟩
 ·exact ⟨_,h1,rfl⟩
def qe1 (w : World) (code : Int) (word : List UInt8) (id : Int) (e : Ending) (w' : World) : Prop := ∃ b,e = .returned (.iface 189 (.pointer (some ⟨b,0,none⟩))) ∧ w.heap.size ≤ b ∧ w'.heap[b]? = some (.cells #[I code,S word,I id] 193 (0,0)) ∧ Below w.heap.size w w'
theorem qee (code : Int) (word : List UInt8) (id : Int) (w : World) : Calls Tryz.prog 194 #[I code,S word,I id] w fun e w' => qe1 w code word id e w' := by
 have hb := qa0 w
 have hh := heap_alloc_new w (.cells #[I code,S word,I id] 193)
 go_enter Tryz.func194,Tryz.ntmps194
 go_wp2
 go_ret
 exact ⟨_,rfl,Nat.le_refl _,hh,hb _⟩
def qaq : List Ck := [⟨74,218,#[]⟩,⟨74,219,#[]⟩,⟨73,220,#[]⟩,⟨70,221,#[]⟩]
theorem qf8 (w : World) : Calls Tryz.prog 180 #[] w fun e w' => qb6 w qaq e w' := by
 have hb := qa0 w
 have hh := heap_alloc_new w
 go_enter Tryz.func180,Tryz.ntmps180
 go_wp2
 go_ret
 refine ⟨⟨some ⟨w.heap.size,0,none⟩,4,4⟩,rfl, ?_,hb _⟩
 apply qd5 (hh _)
 ·rfl
 ·rfl
 ·unfold maxLen; omega
def qb0 : List Ck := [⟨74,224,#[]⟩]
theorem qh2 (w : World) : Calls Tryz.prog 182 #[] w fun e w' => qb6 w qb0 e w' := by
 have hb := qa0 w
 have hh := heap_alloc_new w
 go_enter Tryz.func182,Tryz.ntmps182
 go_wp2
 go_ret
 refine ⟨⟨some ⟨w.heap.size,0,none⟩,1,1⟩,rfl, ?_,hb _⟩
 apply qd5 (hh _)
 ·rfl
 ·rfl
 ·unfold maxLen; omega
def qb3 : List Ck := [⟨74,227,#[]⟩,⟨73,228,#[]⟩,⟨71,229,#[]⟩,⟨70,230,#[]⟩,⟨70,231,#[]⟩,⟨70,232,#[]⟩]
theorem qi2 (w : World) : Calls Tryz.prog 184 #[] w fun e w' => qb6 w qb3 e w' := by
 have hb := qa0 w
 have hh := heap_alloc_new w
 go_enter Tryz.func184,Tryz.ntmps184
 go_wp2
 go_ret
 refine ⟨⟨some ⟨w.heap.size,0,none⟩,6,6⟩,rfl, ?_,hb _⟩
 apply qd5 (hh _)
 ·rfl
 ·rfl
 ·unfold maxLen; omega
def qat : List Ck := [⟨74,235,#[]⟩]
theorem qfz (w : World) : Calls Tryz.prog 186 #[] w fun e w' => qb6 w qat e w' := by
 have hb := qa0 w
 have hh := heap_alloc_new w
 go_enter Tryz.func186,Tryz.ntmps186
 go_wp2
 go_ret
 refine ⟨⟨some ⟨w.heap.size,0,none⟩,1,1⟩,rfl, ?_,hb _⟩
 apply qd5 (hh _)
 ·rfl
 ·rfl
 ·unfold maxLen; omega
def qbb : List Ck := [⟨74,246,#[]⟩,⟨73,247,#[]⟩,⟨70,248,#[]⟩,⟨70,249,#[]⟩,⟨70,250,#[]⟩]
theorem qiz (w : World) : Calls Tryz.prog 190 #[] w fun e w' => qb6 w qbb e w' := by
 have hb := qa0 w
 have hh := heap_alloc_new w
 go_enter Tryz.func190,Tryz.ntmps190
 go_wp2
 go_ret
 refine ⟨⟨some ⟨w.heap.size,0,none⟩,5,5⟩,rfl, ?_,hb _⟩
 apply qd5 (hh _)
 ·rfl
 ·rfl
 ·unfold maxLen; omega
def actL (bo : Nat) : List Ck := [⟨74,279,#[.pointer (some ⟨bo,0,none⟩)]⟩,⟨74,281,#[.pointer (some ⟨bo,0,none⟩)]⟩,⟨73,283,#[.pointer (some ⟨bo,0,none⟩)]⟩,⟨70,285,#[.pointer (some ⟨bo,0,none⟩)]⟩,⟨72,287,#[.pointer (some ⟨bo,0,none⟩)]⟩]
theorem qeq (w : World) (fo : Nat) : Calls Tryz.prog 240 #[.func (.func fo) #[] #[]] w fun e w' => ∃ bo,qb6 w (actL bo) e w' ∧ w.heap.size ≤ bo ∧ bo < w'.heap.size ∧ w'.cell? ⟨bo,0,none⟩ = some (.func (.func fo) #[] #[]) := by
 have hb := qa0 w
 have hb2 := fun o o' => (hb o).trans ((qa0 (w.alloc o) o').mono (hb o).size)
 have hh := qaj w
 have hc : ∀ o t,((w.alloc (.cells #[.func (.func fo) #[] #[]] t)).alloc o).cell? ⟨w.heap.size,0,none⟩ = some (.func (.func fo) #[] #[]) := fun o t => by
  rw [qa7 (qa0 _ _) _ _ (by simp)]
  simp
 go_enter Tryz.func240,Tryz.ntmps240
 go_wp2
 go_ret
 refine ⟨w.heap.size,⟨⟨some ⟨w.heap.size + 1,0,none⟩,5,5⟩,rfl, ?_,hb2 _ _⟩,Nat.le_refl _,by simp; omega,hc _ _⟩
 apply qd5 (hh _ _)
 ·rfl
 ·rfl
 ·unfold maxLen; omega
theorem qdl {w : World} {b : Nat} {s : List UInt8} (h : w.heap[b]? = some (.cells #[S s] 9 (0,0))) : RowsAt w 1 strP ⟨some ⟨b,0,none⟩,1,1⟩ [s] := by
 refine ⟨rfl,Nat.le_refl _,by show 1 ≤ maxLen; unfold maxLen; omega,fun j x hj => ⟨b,0,rfl,qa1 h,fun i hi => ⟨S s, ?_, ?_⟩⟩⟩
 ·have h0 : j = 0 := by have := (List.getElem?_eq_some_iff.1 hj).1; simp at this; omega
  subst h0
  obtain rfl : i = 0 := by omega
  rw [cell_of_row w b _ _ _ (0,0) h]
  rfl
 ·have h0 : j = 0 := by have := (List.getElem?_eq_some_iff.1 hj).1; simp at this; omega
  subst h0
  obtain rfl : s = x := by simpa using hj
  rfl
theorem qk6 (w : World) (c : Cf) (v : Vs) : Calls Tryz.prog 176 #[.agg (cfC c v)] w fun e w' => qaa w [c.cpu] e w' := by
 have hb := qa0 w
 have hb2 := fun o o' => (hb o).trans ((qa0 (w.alloc o) o').mono (hb o).size)
 have hh := qaj w
 have f0 : ∀ h : 0 < (cfC c v).size,(cfC c v)[0] = S c.cpu := fun _ => rfl
 have hs18 : (cfC c v).size = 18 := rfl
 generalize cfC c v = C at *
 replace f0 := f0 (by omega)
 go_enter Tryz.func176,Tryz.ntmps176
 go_wp2
 go_ret
 exact ⟨⟨some ⟨w.heap.size + 1,0,none⟩,1,1⟩,rfl,qdl (hh _ _),hb2 _ _⟩
theorem qlz (w : World) (c : Cf) (v : Vs) : Calls Tryz.prog 177 #[.agg (cfC c v)] w fun e w' => qaa w [c.osn] e w' := by
 have hb := qa0 w
 have hb2 := fun o o' => (hb o).trans ((qa0 (w.alloc o) o').mono (hb o).size)
 have hh := qaj w
 have f0 : ∀ h : 1 < (cfC c v).size,(cfC c v)[1] = S c.osn := fun _ => rfl
 have hs18 : (cfC c v).size = 18 := rfl
 generalize cfC c v = C at *
 replace f0 := f0 (by omega)
 go_enter Tryz.func177,Tryz.ntmps177
 go_wp2
 go_ret
 exact ⟨⟨some ⟨w.heap.size + 1,0,none⟩,1,1⟩,rfl,qdl (hh _ _),hb2 _ _⟩
theorem qj0 (w : World) (c : Cf) (v : Vs) (h : CfAt w c v) : Calls Tryz.prog 178 #[.agg (cfC c v)] w fun e w' => qaa w c.modes e w' := by
 have hb := qa0 w
 have hR := fun o => h.m.below (hb o) (fun _ _ _ _ h => h)
 have f10 : ∀ h : 10 < (cfC c v).size,(cfC c v)[10] = .slice v.m.a v.m.n v.m.c := fun _ => rfl
 have hs18 : (cfC c v).size = 18 := rfl
 generalize cfC c v = C at *
 replace f10 := f10 (by omega)
 go_enter Tryz.func178,Tryz.ntmps178
 go_wp2
 go_ret
 exact ⟨v.m,rfl,hR _,hb _⟩
theorem qfo {w : World} {s : Sl} {l : List (List UInt8)} (h : RowsAt w 1 strP s l) {j : Nat} {x : List UInt8} (hj : l[j]? = some x) : ∃ g off,s.a = some ⟨g,off,none⟩ ∧ g < w.heap.size ∧ w.cell? ⟨g,off + j,none⟩ = some (S x) := by
 obtain ⟨g,off,e,hg,hr⟩ := h.row j x hj
 obtain ⟨u,h1,h2⟩ := hr 0 (by omega)
 refine ⟨g,off,e,hg, ?_⟩
 rw [show off + j * 1 + 0 = off + j by omega] at h1
 rw [h1,h2]
def idxS (x : List UInt8) (j : Nat) : List (List UInt8) → Int
 | [] => -1
 | y :: r => if x == y then (j : Int) else idxS x (j + 1) r
def hasS (l : List (List UInt8)) (x : List UInt8) : Bool := l.any (fun y => x == y)
theorem qrg (x : List UInt8) (l : List (List UInt8)) (j : Nat) : decide (0 ≤ idxS x j l) = hasS l x := by
 induction l generalizing j with
 | nil => rfl
 | cons y r ih =>
  rw [idxS]
  cases h : x == y with
  | true =>
   simp only [if_true]
   rw [decide_eq_true (by omega)]
   simp [hasS,h]
  | false =>
   have h2 : hasS (y :: r) x = hasS r x := by simp [hasS,h]
   rw [h2,if_neg (by decide)]
   exact ih (j + 1)
theorem qoy (w : World) (s : Sl) (l : List (List UInt8)) (h : RowsAt w 1 strP s l) (x : List UInt8) : Calls Tryz.prog 259 #[.slice s.a s.n s.c,S x] w fun e w' => e = .returned (I (idxS x 0 l)) ∧ w' = w := by
 obtain ⟨sa,sn,sc⟩ := s
 have HN : Hid (sn = l.length) := h.n
 have hc : sn ≤ sc := h.c
 have hm : sc ≤ maxLen := h.m
 dsimp only
 unfold maxLen at hm
 go_enter Tryz.func259,Tryz.ntmps259
 go_wp2
 go_loop [5,8] (fun _ i => ∃ j : Nat,j ≤ sn ∧ i = .int .i64 j ∧ Hid (idxS x 0 l = idxS x j (l.drop j))) (fun _ i => sn - (intOf i).toNat)
 case atStart => exact ⟨0,by omega,rfl,rfl⟩
 case round =>
  obtain ⟨j,hj,rfl,HR⟩ := hrel
  by_cases hlt : j < sn
  ·have hlt' : (j : Int) < sn := by omega
   have hjl : j < l.length := by rw [← HN.out]; exact hlt
   obtain ⟨y,hy⟩ : ∃ y,l[j]? = some y := ⟨l[j],List.getElem?_eq_getElem hjl⟩
   obtain ⟨g,off,e,hg,hcx⟩ := qfo h hy
   dsimp only at e
   subst e
   have HE : Hid (idxS x 0 l = if x == y then (j : Int) else idxS x (j + 1) (l.drop (j + 1))) := by
    show _ = _
    rw [HR.out,List.drop_eq_getElem_cons hjl,idxS]
    rw [List.getElem?_eq_getElem hjl] at hy
    rw [Option.some.inj hy]
   clear hy hjl HR
   cases hk : x == y with
   | true =>
    have HE2 : Hid (idxS x 0 l = j) := by show _ = _; rw [HE.out,hk]; rfl
    clear HE
    go_wp2
    go_ret
    exact ⟨qa3 HE2.out.symm,rfl⟩
   | false =>
    have HE2 : Hid (idxS x 0 l = idxS x (j + 1) (l.drop (j + 1))) := by show _ = _; rw [HE.out,hk]; rfl
    clear HE
    go_wp2
    go_round
    case rel => exact ⟨j + 1,by omega,by go_num,HE2⟩
    case measure => simp [intOf]; omega
  ·obtain rfl : j = sn := by omega
   have hlt' : ¬ (j : Int) < j := by omega
   have HE2 : Hid (idxS x 0 l = -1) := by show _ = _; rw [HR.out,List.drop_eq_nil_of_le (by rw [← HN.out]; exact Nat.le_refl _),idxS]
   go_wp2
   go_ret
   exact ⟨qa3 HE2.out.symm,rfl⟩
theorem qk7 (w : World) (s : Sl) (l : List (List UInt8)) (h : RowsAt w 1 strP s l) (x : List UInt8) : Calls Tryz.prog 196 #[.slice s.a s.n s.c,S x] w fun e w' => e = .returned (.bool (hasS l x)) ∧ w' = w := by
 have c1 := qoy w s l h x
 have HH : Hid (decide (0 ≤ idxS x 0 l) = hasS l x) := qrg x l 0
 generalize idxS x 0 l = r at *
 go_enter Tryz.func196,Tryz.ntmps196
 go_wp2_with (first | (go_at_call 259; refine c1.mono ?_; rintro e w' ⟨rfl,rfl⟩))
 go_ret
 exact ⟨qa4 (by rw [← HH.out]),rfl⟩
end Go.Proofs.YtmidaeljeoifdaaGreatDoor
