import Derived.Test.YtmidaeljeoifdaaGreatDoorXKua
import Derived.Test.YtmidaeljeoifdaaGreatDoorXKrv
import Derived.LaidEql
import Derived.Stop.Asserts
import Derived.RowKitTokens
namespace Go.Proofs.YtmidaeljeoifdaaGreatDoor
open Go.RowKit
set_option linter.unusedSimpArgs false
set_option linter.unusedVariables false
set_option maxHeartbeats 16000000
set_option maxRecDepth 100000
theorem CksV.below {w w' : World} {l : List Ck} {u : Value} (h : CksV w l u) (hb : Below w.heap.size w w') : CksV w' l u := by
 obtain ⟨g,off,c,e,h⟩ := h
 exact ⟨g,off,c,e,h.below hb (fun _ _ _ _ h => h)⟩
theorem qgh (w : World) (cs : List Ck) (n : Nat) (hn : n = cs.length) (hm : n ≤ 100) : CksV (w.alloc (.cells (cs.flatMap ckC).toArray 254)) cs (.slice (some ⟨w.heap.size,0,none⟩) n n) := by
 subst hn
 exact ⟨w.heap.size,0,_,rfl,qd5 (heap_alloc_new w _) cs (by simp) rfl (by unfold maxLen; omega)⟩
theorem qh4 (w : World) (us : List Value) (ls : List (List Ck)) (n : Nat) (hn : n = ls.length) (hm : n ≤ 100) (h : ∀ (j : Nat) (x : List Ck),ls[j]? = some x → ∃ u,us[j]? = some u ∧ CksV w x u) :
  RowsAt (w.alloc (.cells us.toArray 197)) 1 (fun x _ u => CksV (w.alloc (.cells us.toArray 197)) x u) ⟨some ⟨w.heap.size,0,none⟩,n,n⟩ ls := by
 refine ⟨hn,Nat.le_refl _,by show n ≤ maxLen; unfold maxLen; omega,fun j x hj => ⟨w.heap.size,0,rfl,by simp,fun i hi => ?_⟩⟩
 obtain ⟨u,hu,hx⟩ := h j x hj
 obtain rfl : i = 0 := by omega
 refine ⟨u, ?_,hx.below (qa0 w _)⟩
 rw [show 0 + j * 1 + 0 = j by omega,cell_of_row _ w.heap.size j _ _ (0,0) (heap_alloc_new w _)]
 simpa using hu
theorem qh5 (w : World) : Calls Tryz.prog 188 #[] w fun e w' => ∃ bo,qb6 w (qah bo) e w' ∧ w'.cell? ⟨bo,0,none⟩ = some (.func (.func 241) #[] #[]) := by
 have hb1 := qa0 w (.cells #[.int .i64 73, .func (.func 239) #[] #[]] 254)
 have hc1 := qgh w [⟨73,239,#[]⟩] 1 rfl (by omega)
 have hcc : ∀ (w2 : World) (bo : Nat) (s2 : Sl),RowsAt w2 2 ckP s2 (actL bo) → Below (w.alloc (.cells #[.int .i64 73, .func (.func 239) #[] #[]] 254)).heap.size (w.alloc (.cells #[.int .i64 73, .func (.func 239) #[] #[]] 254)) w2 → bo < w2.heap.size → w2.cell? ⟨bo,0,none⟩ = some (.func (.func 241) #[] #[]) →
   Calls Tryz.prog 238 #[.slice (some ⟨w2.heap.size + 1,0,none⟩) 3 3] ((w2.alloc (.cells #[.int .i64 73, .func (.func 242) #[] #[], .int .i64 74, .func (.func 243) #[] #[]] 254)).alloc (.cells #[.slice (some ⟨w.heap.size,0,none⟩) 1 1, .slice s2.a s2.n s2.c, .slice (some ⟨w2.heap.size,0,none⟩) 2 2] 197)) fun e w' => qb6 w (qah bo) e w' ∧ w'.cell? ⟨bo,0,none⟩ = some (.func (.func 241) #[] #[]) := by
  intro w2 bo s2 h2 hb2 hlt hcell
  have k1 := hc1.below hb2
  have k2 := qms h2 (by simp [actL])
  have hbw := hb1.trans (hb2.mono hb1.size)
  have hb3 := qa0 w2 (.cells #[.int .i64 73, .func (.func 242) #[] #[], .int .i64 74, .func (.func 243) #[] #[]] 254)
  have k3 := qgh w2 [⟨73,242,#[]⟩,⟨74,243,#[]⟩] 2 rfl (by omega)
  replace k1 := k1.below hb3
  replace k2 := k2.below hb3
  have hbw3 := hbw.trans (hb3.mono hbw.size)
  have hb4 := qa0 (w2.alloc (.cells #[.int .i64 73, .func (.func 242) #[] #[], .int .i64 74, .func (.func 243) #[] #[]] 254)) (.cells #[.slice (some ⟨w.heap.size,0,none⟩) 1 1, .slice s2.a s2.n s2.c, .slice (some ⟨w2.heap.size,0,none⟩) 2 2] 197)
  have hrl := qh4 (w2.alloc (.cells #[.int .i64 73, .func (.func 242) #[] #[], .int .i64 74, .func (.func 243) #[] #[]] 254)) [.slice (some ⟨w.heap.size,0,none⟩) 1 1, .slice s2.a s2.n s2.c, .slice (some ⟨w2.heap.size,0,none⟩) 2 2] [[⟨73,239,#[]⟩],actL bo, [⟨73,242,#[]⟩,⟨74,243,#[]⟩]] 3 rfl (by omega) (fun j x hj => by
   rcases j with _ | _ | _ | j
   ·obtain rfl := Option.some.inj hj; exact ⟨_,rfl,k1⟩
   ·obtain rfl := Option.some.inj hj; exact ⟨_,rfl,k2⟩
   ·obtain rfl := Option.some.inj hj; exact ⟨_,rfl,k3⟩
   ·simp at hj)
  have hsz4 : (w2.alloc (.cells #[.int .i64 73, .func (.func 242) #[] #[], .int .i64 74, .func (.func 243) #[] #[]] 254)).heap.size = w2.heap.size + 1 := by simp
  rw [hsz4] at hrl
  refine (qh3 _ _ _ hrl (by simp [actL]) (by simp [actL])).mono ?_
  rintro e w' ⟨s',he,hs',hb'⟩
  have hbw4 := hbw3.trans (hb4.mono hbw3.size)
  refine ⟨⟨s',he,hs',hbw4.trans (hb'.mono hbw4.size)⟩, ?_⟩
  have hl3 := hb3.size
  have hl4 := hb4.size
  rw [qa7 hb' _ _ (by omega),qa7 hb4 _ _ (by omega),qa7 hb3 _ _ hlt]
  exact hcell
 have ca := qeq (w.alloc (.cells #[.int .i64 73, .func (.func 239) #[] #[]] 254)) 241
 clear hc1 hb1
 go_enter Tryz.func188,Tryz.ntmps188
 go_wp2_with (first | (go_at_call 240; refine ca.mono ?_; rintro e w2 ⟨bo,⟨s2,rfl,h2,hb2⟩,hle,hlt,hcell⟩) | (go_at_call 238; refine (hcc w2 bo s2 h2 hb2 hlt hcell).mono ?_; rintro e w5 ⟨⟨s5,rfl,h5,hb5⟩,hc5⟩))
 go_ret
 exact ⟨bo,⟨s5,rfl,h5,hb5⟩,hc5⟩
theorem qg0 (w : World) : Calls Tryz.prog 192 #[] w fun e w' => ∃ bo,qb6 w (qag bo) e w' ∧ w'.cell? ⟨bo,0,none⟩ = some (.func (.func 256) #[] #[]) := by
 have hb1 := qa0 w (.cells #[.int .i64 74, .func (.func 253) #[] #[], .int .i64 73, .func (.func 254) #[] #[], .int .i64 74, .func (.func 255) #[] #[]] 254)
 have hc1 := qgh w [⟨74,253,#[]⟩,⟨73,254,#[]⟩,⟨74,255,#[]⟩] 3 rfl (by omega)
 have hcc : ∀ (w2 : World) (bo : Nat) (s2 : Sl),RowsAt w2 2 ckP s2 (actL bo) → Below (w.alloc (.cells #[.int .i64 74, .func (.func 253) #[] #[], .int .i64 73, .func (.func 254) #[] #[], .int .i64 74, .func (.func 255) #[] #[]] 254)).heap.size (w.alloc (.cells #[.int .i64 74, .func (.func 253) #[] #[], .int .i64 73, .func (.func 254) #[] #[], .int .i64 74, .func (.func 255) #[] #[]] 254)) w2 → bo < w2.heap.size → w2.cell? ⟨bo,0,none⟩ = some (.func (.func 256) #[] #[]) →
   Calls Tryz.prog 238 #[.slice (some ⟨w2.heap.size,0,none⟩) 2 2] (w2.alloc (.cells #[.slice (some ⟨w.heap.size,0,none⟩) 3 3, .slice s2.a s2.n s2.c] 197)) fun e w' => qb6 w (qag bo) e w' ∧ w'.cell? ⟨bo,0,none⟩ = some (.func (.func 256) #[] #[]) := by
  intro w2 bo s2 h2 hb2 hlt hcell
  have k1 := hc1.below hb2
  have k2 := qms h2 (by simp [actL])
  have hbw := hb1.trans (hb2.mono hb1.size)
  have hbw3 := hbw
  have hb3 := Below.refl w2.heap.size w2
  have hb4 := qa0 w2 (.cells #[.slice (some ⟨w.heap.size,0,none⟩) 3 3, .slice s2.a s2.n s2.c] 197)
  have hrl := qh4 w2 [.slice (some ⟨w.heap.size,0,none⟩) 3 3, .slice s2.a s2.n s2.c] [[⟨74,253,#[]⟩,⟨73,254,#[]⟩,⟨74,255,#[]⟩],actL bo] 2 rfl (by omega) (fun j x hj => by
   rcases j with _ | _ | _ | j
   ·obtain rfl := Option.some.inj hj; exact ⟨_,rfl,k1⟩
   ·obtain rfl := Option.some.inj hj; exact ⟨_,rfl,k2⟩
   ·simp at hj
   ·simp at hj)
  have hsz4 : w2.heap.size = w2.heap.size := by simp
  rw [hsz4] at hrl
  refine (qh3 _ _ _ hrl (by simp [actL]) (by simp [actL])).mono ?_
  rintro e w' ⟨s',he,hs',hb'⟩
  have hbw4 := hbw3.trans (hb4.mono hbw3.size)
  refine ⟨⟨s',he,hs',hbw4.trans (hb'.mono hbw4.size)⟩, ?_⟩
  have hl3 := hb3.size
  have hl4 := hb4.size
  rw [qa7 hb' _ _ (by omega),qa7 hb4 _ _ (by omega),qa7 hb3 _ _ hlt]
  exact hcell
 have ca := qeq (w.alloc (.cells #[.int .i64 74, .func (.func 253) #[] #[], .int .i64 73, .func (.func 254) #[] #[], .int .i64 74, .func (.func 255) #[] #[]] 254)) 256
 clear hc1 hb1
 go_enter Tryz.func192,Tryz.ntmps192
 go_wp2_with (first | (go_at_call 240; refine ca.mono ?_; rintro e w2 ⟨bo,⟨s2,rfl,h2,hb2⟩,hle,hlt,hcell⟩) | (go_at_call 238; refine (hcc w2 bo s2 h2 hb2 hlt hcell).mono ?_; rintro e w5 ⟨⟨s5,rfl,h5,hb5⟩,hc5⟩))
 go_ret
 exact ⟨bo,⟨s5,rfl,h5,hb5⟩,hc5⟩
structure Kd where
 word : List UInt8
 lo : Int
 hi : Int
 fN : Nat
 s : Sl
def kdL (x : Kd) : List Value := [S x.word,I x.lo,I x.hi, .func (.func x.fN) #[] #[], .slice x.s.a x.s.n x.s.c]
def kdP (x : Kd) (i : Nat) (u : Value) : Prop := (kdL x)[i]? = some u
theorem qvy (l : List Kd) (j : Nat) (x : Kd) (hj : l[j]? = some x) (i : Nat) (hi : i < 5) : (l.flatMap kdL)[j * 5 + i]? = (kdL x)[i]? := by
 induction l generalizing j with
 | nil => simp at hj
 | cons y r ih =>
  have e1 : (y :: r).flatMap kdL = kdL y ++ r.flatMap kdL := rfl
  have h2 : (kdL y).length = 5 := rfl
  rw [e1]
  cases j with
  | zero =>
   obtain rfl : y = x := by simpa using hj
   rw [List.getElem?_append_left (by omega)]
   simp
  | succ j =>
   rw [List.getElem?_append_right (by omega),h2,show (j + 1) * 5 + i - 5 = j * 5 + i by omega]
   exact ih j (by simpa using hj)
theorem qtn {w : World} {b : Nat} {vs : Array Value} (h : w.heap[b]? = some (.cells vs 199 (0,0))) (l : List Kd) (hv : vs.toList = l.flatMap kdL) {n : Nat} (hn : n = l.length) (hm : n ≤ maxLen) : RowsAt w 5 kdP ⟨some ⟨b,0,none⟩,n,n⟩ l := by
 refine ⟨hn,Nat.le_refl _,hm,fun j x hj => ⟨b,0,rfl,qa1 h,fun i hi => ?_⟩⟩
 have hc := qvy l j x hj i hi
 rw [← hv,Array.getElem?_toList] at hc
 have h1 : w.cell? ⟨b,0 + j * 5 + i,none⟩ = (kdL x)[i]? := by rw [Nat.zero_add,cell_of_row w b _ _ _ (0,0) h]; exact hc
 have h5 : i < (kdL x).length := hi
 exact ⟨(kdL x)[i],by rw [h1]; exact List.getElem?_eq_getElem h5,List.getElem?_eq_getElem h5⟩
def noS : Sl := ⟨none,0,0⟩
def tenK (s3 s4 s5 s6 s7 s8 s9 : Sl) : List Kd := [⟨[67,80,85],1,1,176,noS⟩,⟨[79,83],1,1,177,noS⟩,⟨[65,80,80,77,79,68,69],1,8,178,noS⟩,⟨[82,69,83,79,85,82,67,69],0,64,179,s3⟩,⟨[69,86,69,78,84],0,256,181,s4⟩,⟨[84,65,83,75],1,256,183,s5⟩,⟨[67,79,85,78,84,69,82],0,16,185,s6⟩,⟨[65,76,65,82,77],0,64,187,s7⟩,⟨[73,83,82],0,32,189,s8⟩,⟨[77,69,83,83,65,71,69],0,64,191,s9⟩]
structure TenAt (w : World) (s3 s4 s5 s6 s7 s8 s9 : Sl) (ba bm : Nat) : Prop where
 r3 : RowsAt w 2 ckP s3 qaq
 r4 : RowsAt w 2 ckP s4 qb0
 r5 : RowsAt w 2 ckP s5 qb3
 r6 : RowsAt w 2 ckP s6 qat
 r7 : RowsAt w 2 ckP s7 (qah ba)
 r8 : RowsAt w 2 ckP s8 qbb
 r9 : RowsAt w 2 ckP s9 (qag bm)
 ca : w.cell? ⟨ba,0,none⟩ = some (.func (.func 241) #[] #[])
 cm : w.cell? ⟨bm,0,none⟩ = some (.func (.func 256) #[] #[])
theorem TenAt.below {w w' : World} {s3 s4 s5 s6 s7 s8 s9 : Sl} {ba bm : Nat} (h : TenAt w s3 s4 s5 s6 s7 s8 s9 ba bm) (hb : Below w.heap.size w w') : TenAt w' s3 s4 s5 s6 s7 s8 s9 ba bm :=
 ⟨h.r3.below hb (fun _ _ _ _ h => h),h.r4.below hb (fun _ _ _ _ h => h),h.r5.below hb (fun _ _ _ _ h => h),h.r6.below hb (fun _ _ _ _ h => h),h.r7.below hb (fun _ _ _ _ h => h),h.r8.below hb (fun _ _ _ _ h => h),h.r9.below hb (fun _ _ _ _ h => h),by rw [qa7 hb _ _ (World.block_lt_of_cell? w _ h.ca)]; exact h.ca,by rw [qa7 hb _ _ (World.block_lt_of_cell? w _ h.cm)]; exact h.cm⟩
theorem qp1 (w : World) : Calls Tryz.prog 123 #[] w fun e w' => ∃ (s s3 s4 s5 s6 s7 s8 s9 : Sl) (ba bm : Nat),e = .returned (.slice s.a s.n s.c) ∧ RowsAt w' 5 kdP s (tenK s3 s4 s5 s6 s7 s8 s9) ∧ TenAt w' s3 s4 s5 s6 s7 s8 s9 ba bm ∧ Below w.heap.size w w' := by
 go_enter Tryz.func123,Tryz.ntmps123
 go_wp2_with (first | (go_at_call 180; refine (qf8 _).mono ?_; rintro e w3 ⟨s3,rfl,h3,hb3⟩) | (go_at_call 182; refine (qh2 _).mono ?_; rintro e w4 ⟨s4,rfl,h4,hb4⟩) | (go_at_call 184; refine (qi2 _).mono ?_; rintro e w5 ⟨s5,rfl,h5,hb5⟩) | (go_at_call 186; refine (qfz _).mono ?_; rintro e w6 ⟨s6,rfl,h6,hb6⟩) | (go_at_call 188; refine (qh5 _).mono ?_; rintro e w7 ⟨ba,⟨s7,rfl,h7,hb7⟩,hc7⟩) | (go_at_call 190; refine (qiz _).mono ?_; rintro e w8 ⟨s8,rfl,h8,hb8⟩) | (go_at_call 192; refine (qg0 _).mono ?_; rintro e w9 ⟨bm,⟨s9,rfl,h9,hb9⟩,hc9⟩))
 go_ret
 have hz := qa0 w9
 have hh := heap_alloc_new w9
 have b8 : Below w8.heap.size w8 w9 := hb9
 have b7 : Below w7.heap.size w7 w9 := hb8.trans (b8.mono hb8.size)
 have b6 : Below w6.heap.size w6 w9 := hb7.trans (b7.mono hb7.size)
 have b5 : Below w5.heap.size w5 w9 := hb6.trans (b6.mono hb6.size)
 have b4 : Below w4.heap.size w4 w9 := hb5.trans (b5.mono hb5.size)
 have b3 : Below w3.heap.size w3 w9 := hb4.trans (b4.mono hb4.size)
 have b2 : Below w.heap.size w w9 := hb3.trans (b3.mono hb3.size)
 have ht : TenAt w9 s3 s4 s5 s6 s7 s8 s9 ba bm := ⟨h3.below b3 (fun _ _ _ _ h => h),h4.below b4 (fun _ _ _ _ h => h),h5.below b5 (fun _ _ _ _ h => h),h6.below b6 (fun _ _ _ _ h => h),h7.below b7 (fun _ _ _ _ h => h),h8.below b8 (fun _ _ _ _ h => h),h9,by rw [qa7 b7 _ _ (World.block_lt_of_cell? w7 _ hc7)]; exact hc7,hc9⟩
 refine ⟨⟨some ⟨w9.heap.size,0,none⟩,10,10⟩,s3,s4,s5,s6,s7,s8,s9,ba,bm,rfl, ?_,ht.below (hz _),b2.trans ((hz _).mono b2.size)⟩
 apply qtn (hh _)
 ·rfl
 ·rfl
 ·unfold maxLen; omega
def qfp (wd : List UInt8) (r : Option (Int × List UInt8 × Int)) : Option (Int × Int) → Option (Int × List UInt8 × Int)
 | some (c,i) => some (c,wd,i)
 | none => r
def qbg : List (List UInt8 × Option (Int × Int)) → Option (Int × List UInt8 × Int)
 | [] => none
 | (wd,o) :: r => qfp wd (qbg r) o
def noB (_ _ : Nat) : Bool := true
def tenR (c : Cf) (ba bm : Nat) : List (List UInt8 × Option (Int × Int)) := [
 ([67,80,85],qai [c.cpu] 1 1 [] noB),([79,83],qai [c.osn] 1 1 [] noB),([65,80,80,77,79,68,69],qai c.modes 1 8 [] noB),
 ([82,69,83,79,85,82,67,69],qai (c.ress.map fun x => x.name) 0 64 qaq (byB c.ress (resQ c))),
 ([69,86,69,78,84],qai (c.evs.map fun x => x.name) 0 256 qb0 (byB c.evs (evQ c))),
 ([84,65,83,75],qai (c.tasks.map fun x => x.name) 1 256 qb3 (byB c.tasks (tkQ c))),
 ([67,79,85,78,84,69,82],qai (c.ctrs.map fun x => x.name) 0 16 qat (byB c.ctrs (ctQ c))),
 ([65,76,65,82,77],qai (c.als.map fun x => x.name) 0 64 (qah ba) (byB c.als (alQ c))),
 ([73,83,82],qai (c.isrs.map fun x => x.name) 0 32 qbb (byB c.isrs (isQ c))),
 ([77,69,83,83,65,71,69],qai (c.msgs.map fun x => x.name) 0 64 (qag bm) (byB c.msgs (msQ c)))]
structure LensOK (c : Cf) : Prop where
 t : c.tasks.length ≤ 8796093022208
 r : c.ress.length ≤ 8796093022208
 e : c.evs.length ≤ 8796093022208
 k : c.ctrs.length ≤ 8796093022208
 a : c.als.length ≤ 8796093022208
 i : c.isrs.length ≤ 8796093022208
 s : c.msgs.length ≤ 8796093022208
theorem qf9 (w : World) (c : Cf) (v : Vs) (h : CfAt w c v) (word : List UInt8) (lo hi : Int) (fN : Nat) (names : List (List UInt8))
  (egN : ∀ args W,(callFunc fN args).run Tryz.prog W = .ok (.enter fN args) W) (cN : ∀ W,Below w.heap.size w W → Calls Tryz.prog fN #[.agg (cfC c v)] W fun e w' => qaa W names e w') :
  Calls Tryz.prog 124 #[.agg (kdC word lo hi fN noS), .agg (cfC c v)] w fun e w' => qaz w word (qai names lo hi [] noB) e w' :=
 qc5 w c v h word lo hi fN noS [] ⟨rfl,Nat.le_refl _,by show 0 ≤ maxLen; exact Nat.zero_le _,fun j x hj => by simp at hj⟩ names egN cN noB (fun x hx => by cases hx) (fun j k x _ hk => by simp at hk)
theorem qp2 (w : World) (c : Cf) (v : Vs) (h : CfAt w c v) (hl : LensOK c) (s3 s4 s5 s6 s7 s8 s9 : Sl) (ba bm : Nat) (ht : TenAt w s3 s4 s5 s6 s7 s8 s9 ba bm) (j : Nat) (x : Kd) (hj : (tenK s3 s4 s5 s6 s7 s8 s9)[j]? = some x) :
  ∃ o,(tenR c ba bm)[j]? = some (x.word,o) ∧ ∀ W,Below w.heap.size w W → Calls Tryz.prog 124 #[.agg (kdC x.word x.lo x.hi x.fN x.s), .agg (cfC c v)] W fun e w' => qaz W x.word o e w' := by
 rcases j with _ | _ | _ | _ | _ | _ | _ | _ | _ | _ | j
 ·obtain rfl := Option.some.inj hj
  exact ⟨_,rfl,fun W hW => qf9 W c v (h.below hW) _ _ _ _ _ (enters_of Tryz.func176 (by kernel_rfl) rfl) (fun W2 _ => qk6 W2 c v)⟩
 ·obtain rfl := Option.some.inj hj
  exact ⟨_,rfl,fun W hW => qf9 W c v (h.below hW) _ _ _ _ _ (enters_of Tryz.func177 (by kernel_rfl) rfl) (fun W2 _ => qlz W2 c v)⟩
 ·obtain rfl := Option.some.inj hj
  exact ⟨_,rfl,fun W hW => qf9 W c v (h.below hW) _ _ _ _ _ (enters_of Tryz.func178 (by kernel_rfl) rfl) (fun W2 h2 => qj0 W2 c v ((h.below hW).below h2))⟩
 ·obtain rfl := Option.some.inj hj
  exact ⟨_,rfl,fun W hW => qrh W c v (h.below hW) hl.r _ _ _ _ (ht.below hW).r3⟩
 ·obtain rfl := Option.some.inj hj
  exact ⟨_,rfl,fun W hW => qtc W c v (h.below hW) hl.e _ _ _ _ (ht.below hW).r4⟩
 ·obtain rfl := Option.some.inj hj
  exact ⟨_,rfl,fun W hW => qtd W c v (h.below hW) hl.t _ _ _ _ (ht.below hW).r5⟩
 ·obtain rfl := Option.some.inj hj
  exact ⟨_,rfl,fun W hW => qte W c v (h.below hW) hl.k _ _ _ _ (ht.below hW).r6⟩
 ·obtain rfl := Option.some.inj hj
  exact ⟨_,rfl,fun W hW => qtf W c v (h.below hW) hl.a _ _ _ _ ba (ht.below hW).ca (ht.below hW).r7⟩
 ·obtain rfl := Option.some.inj hj
  exact ⟨_,rfl,fun W hW => qtg W c v (h.below hW) hl.i _ _ _ _ (ht.below hW).r8⟩
 ·obtain rfl := Option.some.inj hj
  exact ⟨_,rfl,fun W hW => qth W c v (h.below hW) hl.s _ _ _ _ bm (ht.below hW).cm (ht.below hW).r9⟩
 ·simp [tenK] at hj
def qi3 (w : World) (o : Option (Int × List UInt8 × Int)) (e : Ending) (w' : World) : Prop := match o with
 | none => e = .returned .nilIface ∧ Below w.heap.size w w'
 | some (c,word,id) => qe1 w c word id e w'
theorem qg6 (names : List (List UInt8)) (lo hi : Int) (a b : List Ck) (B : Nat → Nat → Bool) (h : ∀ Q,qab a 0 Q = qab b 0 Q) : qai names lo hi a B = qai names lo hi b B := by
 have e : objF names a B = objF names b B := by
  funext j
  unfold objF
  cases names[j]? with
  | none => rfl
  | some nm => simp only [h]
 unfold qai
 rw [e]
theorem qrj (c : Cf) (ba bm : Nat) : tenR c ba bm = tenR c 0 0 := by
 unfold tenR
 rw [qg6 _ 0 64 (qah ba) (qah 0) _ (fun _ => rfl),qg6 _ 0 64 (qag bm) (qag 0) _ (fun _ => rfl)]
def allF (c : Cf) : Option (Int × List UInt8 × Int) := qbg (tenR c 0 0)
theorem qka {l : List (List UInt8 × Option (Int × Int))} {j : Nat} {wd : List UInt8} {o : Option (Int × Int)} (h : l[j]? = some (wd,o)) : qbg (l.drop j) = qfp wd (qbg (l.drop (j + 1))) o := by
 obtain ⟨hj,e⟩ := List.getElem?_eq_some_iff.1 h
 rw [List.drop_eq_getElem_cons hj,e]
 rfl
theorem quy {w : World} {g off : Nat} {x : Kd} (h : ∀ i,i < 5 → ∃ u,w.cell? ⟨g,off + i,none⟩ = some u ∧ kdP x i u) :
  w.cell? ⟨g,off,none⟩ = some (S x.word) ∧ w.cell? ⟨g,off + 1,none⟩ = some (I x.lo) ∧ w.cell? ⟨g,off + 2,none⟩ = some (I x.hi) ∧ w.cell? ⟨g,off + 3,none⟩ = some (.func (.func x.fN) #[] #[]) ∧ w.cell? ⟨g,off + 4,none⟩ = some (.slice x.s.a x.s.n x.s.c) := by
 have f : ∀ i,i < 5 → w.cell? ⟨g,off + i,none⟩ = (kdL x)[i]? := fun i hi => by
  obtain ⟨u,h1,h2⟩ := h i hi
  rw [h1]
  exact h2.symm
 exact ⟨f 0 (by omega),f 1 (by omega),f 2 (by omega),f 3 (by omega),f 4 (by omega)⟩
theorem qrk (w : World) (c : Cf) (v : Vs) (h : CfAt w c v) (hl : LensOK c) : Calls Tryz.prog 77 #[.agg (cfC c v)] w fun e w' => qi3 w (allF c) e w' := by
 have hi18 : (Tryz.prog.info? 47).map (·.size) = some (cfC c v).size := by rw [show (cfC c v).size = 18 from rfl]; kernel_rfl
 have hV0 := heap_alloc_new w (.cells (cfC c v) 47)
 have hbw := qa0 w (.cells (cfC c v) 47)
 have hk0 := qp1 (w.alloc (.cells (cfC c v) 47))
 have hten := fun W (hW : Below w.heap.size w W) => qp2 W c v (h.below hW) hl
 obtain ⟨R,hR⟩ : ∃ R,R = allF c := ⟨_,rfl⟩
 rw [← hR]
 unfold allF at hR
 generalize cfC c v = C at *
 go_enter Tryz.func77,Tryz.ntmps77
 go_wp2_with (first | (go_at_call 123; refine hk0.mono ?_; rintro e w1 ⟨s,s3,s4,s5,s6,s7,s8,s9,ba,bm,rfl,hks,ht,hb1⟩))
 have hbw1 := hbw.trans (hb1.mono hbw.size)
 have hlook := hten w1 hbw1 s3 s4 s5 s6 s7 s8 s9 ba bm ht
 rw [← qrj c ba bm] at hR
 have hlen : (tenR c ba bm).length = 10 := rfl
 have hlenK : (tenK s3 s4 s5 s6 s7 s8 s9).length = 10 := rfl
 have HN : Hid (s.n = 10) := hks.n
 have hsc : s.n ≤ s.c := hks.c
 have hsm : s.c ≤ maxLen := hks.m
 have hV1 := (hb1.block _ (qa1 hV0)).trans hV0
 have hgr : w.heap.size < w1.heap.size := Nat.lt_of_lt_of_le (qa1 hV0) hb1.size
 unfold maxLen at hsm
 clear hten hk0 ht hbw hb1 hV0
 generalize tenR c ba bm = O at *
 generalize tenK s3 s4 s5 s6 s7 s8 s9 = Ks at *
 have HL : Hid (∀ (j : Nat) (x : Kd),Ks[j]? = some x → ∃ o,O[j]? = some (x.word,o) ∧ ∀ W,Below w1.heap.size w1 W → Calls Tryz.prog 124 #[.agg (kdC x.word x.lo x.hi x.fN x.s), .agg C] W fun e w' => qaz W x.word o e w') := hlook
 have HK : Hid (Ks.length = 10 ∧ O.length = 10) := ⟨hlenK,hlen⟩
 have HR : Hid (R = qbg O) := hR
 have HS : Hid (RowsAt w1 5 kdP s Ks) := hks
 clear hlook hlen hlenK hR hks h hl
 go_loopw [4,5,8] (fun _ _ iv wr => ∃ j : Nat,j ≤ s.n ∧ iv = .int .i64 j ∧ Hid (Below w1.heap.size w1 wr ∧ R = qbg (O.drop j))) (fun _ _ iv _ => s.n - (intOf iv).toNat)
 case atStart => exact ⟨0,by omega,rfl,Below.refl _ _,HR.out⟩
 case round =>
  obtain ⟨j,hj,rfl,HJ⟩ := hrel
  obtain ⟨hB,hRj⟩ := HJ.out
  have HRj : Hid (R = qbg (O.drop j)) := hRj
  clear HJ hRj HR
  have hbwr := hbw1.trans (hB.mono hbw1.size)
  by_cases hlt : j < s.n
  ·have hlt' : (j : Int) < s.n := by omega
   obtain ⟨x,hx⟩ : ∃ x,Ks[j]? = some x := ⟨_,List.getElem?_eq_getElem (by rw [HK.out.1, ← HN.out]; exact hlt)⟩
   obtain ⟨o,ho,hcall⟩ := HL.out j x hx
   obtain ⟨g,off,e,hg,hrow⟩ := HS.out.row j x hx
   obtain ⟨a0,a1,a2,a3,a4⟩ := quy (x := x) (fun i hi => (by obtain ⟨u,h1,h2⟩ := hrow i hi; exact ⟨u,by rw [qa7 hB _ _ hg]; exact h1,h2⟩ : ∃ u,wr.cell? ⟨g,off + j * 5 + i,none⟩ = some u ∧ kdP x i u))
   have HD : Hid (R = qfp x.word (qbg (O.drop (j + 1))) o) := by show _ = _; rw [HRj.out]; exact qka ho
   have hst : (storeCells ⟨wr.heap.size,0,none⟩ [S x.word,I x.lo,I x.hi, .func (.func x.fN) #[] #[], .slice x.s.a x.s.n x.s.c] 0).run Tryz.prog (wr.alloc (.cells #[.string ⟨#[]⟩, .int .i64 0, .int .i64 0, .nilFunc, .slice none 0 0] 199)) = .ok () (wr.alloc (.cells #[S x.word,I x.lo,I x.hi, .func (.func x.fN) #[] #[], .slice x.s.a x.s.n x.s.c] 199)) :=
    run_storeCells_new (P := Tryz.prog) wr 199 #[.string ⟨#[]⟩, .int .i64 0, .int .i64 0, .nilFunc, .slice none 0 0] #[S x.word,I x.lo,I x.hi, .func (.func x.fN) #[] #[], .slice x.s.a x.s.n x.s.c] (by kernel_rfl) rfl (by simp [Value.oneCell'])
   have hal := qa0 wr (.cells #[S x.word,I x.lo,I x.hi, .func (.func x.fN) #[] #[], .slice x.s.a x.s.n x.s.c] 199)
   have hVx := (hal.block _ (qa1 ((hB.block _ (qa1 hV1)).trans hV1))).trans ((hB.block _ (qa1 hV1)).trans hV1)
   have cx := hcall _ (hB.trans (hal.mono hB.size))
   unfold kdC at cx
   have hngw : g ≠ wr.heap.size := by have := hB.size; omega
   have HB2 : Hid (Below w1.heap.size w1 (wr.alloc (.cells #[S x.word,I x.lo,I x.hi, .func (.func x.fN) #[] #[], .slice x.s.a x.s.n x.s.c] 199))) := hB.trans (hal.mono hB.size)
   have hbw2 : Hid (Below w.heap.size w (wr.alloc (.cells #[S x.word,I x.lo,I x.hi, .func (.func x.fN) #[] #[], .slice x.s.a x.s.n x.s.c] 199))) := hbwr.trans (hal.mono hbwr.size)
   rw [e] at *
   clear hcall hrow ho HRj hal hx hB hbwr HL HS
   cases o with
   | none =>
    go_wp2_with (first | (refine wpList_load_row rfl 47 _ rfl w.heap.size rfl 47 _ (0,0) _ hVx Tryz.underlying47 rfl hi18 ?_) | (go_at_call 124; refine cx.mono ?_; rintro e5 w5 ⟨rfl,hb5⟩))
    have HB5 : Hid (Below w1.heap.size w1 w5) := HB2.out.trans (hb5.mono HB2.out.size)
    go_roundw
    case rel => exact ⟨j + 1,by omega,by go_num,HB5.out,HD.out⟩
    case measure => simp [intOf]; omega
   | some ci =>
    obtain ⟨cd,ix⟩ := ci
    go_wp2_with (first | (refine wpList_load_row rfl 47 _ rfl w.heap.size rfl 47 _ (0,0) _ hVx Tryz.underlying47 rfl hi18 ?_) | (go_at_call 124; refine cx.mono ?_; rintro e5 w5 ⟨b5,rfl,hb51,hb52,hb53⟩))
    go_ret
    show qi3 w R _ _
    rw [HD.out]
    exact qc4 ⟨b5,rfl,hb51,hb52,hb53⟩ hbw2.out
  ·obtain rfl : j = s.n := by omega
   have hlt' : ¬ ((s.n : Nat) : Int) < (s.n : Nat) := by omega
   have HE : Hid (R = none) := by show _ = _; rw [HRj.out,List.drop_eq_nil_of_le (by rw [HK.out.2,HN.out]; exact Nat.le_refl _)]; rfl
   go_wp2
   go_ret
   show qi3 w R _ _
   rw [HE.out]
   exact ⟨rfl,hbwr⟩
end Go.Proofs.YtmidaeljeoifdaaGreatDoor
namespace Go.Proofs.YtmidaeljeoifdaaGreatDoor
open Go.Extern Go.Extern.Stop Go.RowKit Go.Stop
set_option linter.unusedSimpArgs false
set_option linter.unusedVariables false
set_option maxHeartbeats 16000000
set_option maxRecDepth 100000
theorem quz (t : Value) (w : World) :
  Calls Tryz.prog 122 #[.nilIface,t] w fun e w' => e = .returned (.bool false) ∧ w' = w := by
 go_enter Tryz.func122,Tryz.ntmps122
 go_wp2
 go_ret
 exact ⟨rfl,rfl⟩
theorem qkb (t : Addr) (w : World) : (ReflectliteValue.unpack (.iface 191 (.pointer (some t)))).run Tryz.prog w
  = .ok (.agg #[.pointer (some ⟨1,191,none⟩), .pointer (some ⟨w.heap.size,0,none⟩), .int .u64 150]) (w.alloc (.cells #[.pointer (some t)] 191)) := by kernel_rfl
theorem qp3 (a : Addr) (w : World) : (ReflectliteValue.methodAny (ReflectliteValue.valueError "reflectlite.Value.Type" 0) (fun t _ _ _ => ReflectliteType.toType t) #[.agg #[.pointer (some ⟨1, 191, none⟩), .pointer (some a), .int .u64 150]]).run Tryz.prog w
  = .ok (.iface 265 (.agg #[.pointer (some ⟨1,191,none⟩)])) w := by kernel_rfl
theorem qj1 (h : Value) (w : World) : (Go.method 458 265 (.agg #[h]) "Kind").run Tryz.prog w = .ok (319, h) w := by kernel_rfl
theorem qp4 (w : World) : ((ReflectliteType.abiMethod fun t => (fun a : Nat => Value.int IntKind.u8 (a : Int)) <$> Rtype.kind t) #[.pointer (some ⟨1,191,none⟩)]).run Tryz.prog w = .ok (.int .u8 22) w := by kernel_rfl
theorem qp5 (w : World) : ((ReflectliteType.abiMethod fun t => (fun a : Nat => Value.int IntKind.u8 (a : Int)) <$> Rtype.kind t) #[.pointer (some ⟨1,189,none⟩)]).run Tryz.prog w = .ok (.int .u8 22) w := by kernel_rfl
theorem rlm (z : Sem Value) (f : TypeId → Addr → Nat → Nat → Sem Value) (v : Value) :
  ReflectliteValue.method z f #[v] = (do match ← ReflectliteValue.parts v with | none => z | some (t,a,fl) => f t a fl (fl % 32)) := rfl
theorem qh6 (a : Addr) (w : World) : (ReflectliteValue.parts (.agg #[.pointer (some ⟨1,191,none⟩), .pointer (some a), .int .u64 150])).run Tryz.prog w = .ok (some (191,a,150)) w := by kernel_rfl
theorem qnb (a p : Addr) (W : World) (ha : W.cell? a = some (.pointer (some p))) :
  (ReflectliteValue.method (ReflectliteValue.valueError "reflectlite.Value.IsNil" 0) ReflectliteValue.isNil #[.agg #[.pointer (some ⟨1, 191, none⟩), .pointer (some a), .int .u64 150]]).run Tryz.prog W = .ok (.bool false) W := by
 rw [rlm]
 simp only [Sem.run_bind,qh6,Result.andThen]
 simp [ReflectliteValue.isNil,loadVar,isAgg,underlying,Tryz.underlying191,ha,Result.andThen]
theorem qj2 (h : Value) (w : World) : (Go.method 458 265 (.agg #[h]) "Elem").run Tryz.prog w = .ok (329, .agg #[h]) w := by kernel_rfl
theorem qev (h : Value) (w : World) : (Go.method 458 265 (.agg #[h]) "Implements").run Tryz.prog w = .ok (330, .agg #[h]) w := by kernel_rfl
theorem qe2 (h : Value) (w : World) : (Go.method 458 265 (.agg #[h]) "AssignableTo").run Tryz.prog w = .ok (327, .agg #[h]) w := by kernel_rfl
theorem qp6 (w : World) : (ReflectliteType.method ReflectliteType.elem #[.agg #[.pointer (some ⟨1,191,none⟩)]]).run Tryz.prog w = .ok (.iface 265 (.agg #[.pointer (some ⟨1,189,none⟩)])) w := by kernel_rfl
theorem qh7 (w : World) : (ReflectliteType.relation "Implements" ReflectliteType.implements_ #[.agg #[.pointer (some ⟨1, 189, none⟩)], .iface 265 (.agg #[.pointer (some ⟨1, 149, none⟩)])]).run Tryz.prog w = .ok (.bool true) w := by kernel_rfl
theorem qm0 (v : Value) (w : World) : (ReflectliteType.typeOf #[.iface 189 v]).run Tryz.prog w = .ok (.iface 265 (.agg #[.pointer (some ⟨1,189,none⟩)])) w := by kernel_rfl
theorem qh8 (w : World) : (ReflectliteType.relation "AssignableTo" ReflectliteType.assignableTo #[.agg #[.pointer (some ⟨1, 189, none⟩)], .iface 265 (.agg #[.pointer (some ⟨1, 189, none⟩)])]).run Tryz.prog w = .ok (.bool true) w := by kernel_rfl
theorem qkc (e : Addr) (w : World) : (ReflectliteValue.unpack (.iface 189 (.pointer (some e)))).run Tryz.prog w
  = .ok (.agg #[.pointer (some ⟨1,189,none⟩), .pointer (some ⟨w.heap.size,0,none⟩), .int .u64 150]) (w.alloc (.cells #[.pointer (some e)] 189)) := by kernel_rfl
theorem qm1 (w : World) : (Rtype.elem? 191).run Tryz.prog w = .ok (some 189) w := by kernel_rfl
theorem qto (p : Addr) (w : World) : (ReflectliteValue.mk 189 p ReflectliteValue.flagAddr).run Tryz.prog w = .ok (.agg #[.pointer (some ⟨1,189,none⟩), .pointer (some p), .int .u64 406]) w := by kernel_rfl
theorem qnc (a p : Addr) (W : World) (ha : W.cell? a = some (.pointer (some p))) :
  (ReflectliteValue.method (ReflectliteValue.valueError "reflectlite.Value.Elem" 0) ReflectliteValue.elem #[.agg #[.pointer (some ⟨1, 191, none⟩), .pointer (some a), .int .u64 150]]).run Tryz.prog W
   = .ok (.agg #[.pointer (some ⟨1,189,none⟩), .pointer (some p), .int .u64 406]) W := by
 rw [rlm]
 simp only [Sem.run_bind,qh6,Result.andThen]
 simp [ReflectliteValue.elem,loadVar,isAgg,underlying,Tryz.underlying191,ha,Result.andThen,qm1,qto]
theorem rls (v x : Value) : ReflectliteValue.set #[v,x] = (do
  let (some (dst,a,fl),some (src,b,_)) := (← ReflectliteValue.parts v, ← ReflectliteValue.parts x)
   | unsupported (.noEntry "extern/(internal/reflectlite.Value).Set.zeroValue")
  if fl / ReflectliteValue.flagAddr % 2 == 0 then unsupported (.noEntry "extern/(internal/reflectlite.Value).Set.unaddressable")
  let val ← loadVar src b
  if ← Rtype.directlyAssignable dst src then storeVar dst a val
  else if ← Rtype.implements dst src then
   if (← Rtype.kind src) == 20 then
    match val with
    | .nilIface => unsupported (.noEntry "extern/reflectlite: a nil value of one interface type handed on as a value of another")
    | _ => storeVar dst a val
   else storeVar dst a (.iface src val)
  else panicString ("reflectlite.Set: value of type " ++ (← Rtype.spelt src) ++ " is not assignable to type " ++ (← Rtype.spelt dst))
  pure (.tuple #[])) := rfl
theorem qm2 (a : Addr) (w : World) : (ReflectliteValue.parts (.agg #[.pointer (some ⟨1,189,none⟩), .pointer (some a), .int .u64 406])).run Tryz.prog w = .ok (some (189,a,406)) w := by kernel_rfl
theorem qnd (a : Addr) (w : World) : (ReflectliteValue.parts (.agg #[.pointer (some ⟨1,189,none⟩), .pointer (some a), .int .u64 150])).run Tryz.prog w = .ok (some (189,a,150)) w := by kernel_rfl
theorem qm3 (w : World) : (Rtype.directlyAssignable 189 189).run Tryz.prog w = .ok true w := by kernel_rfl
theorem qrl (ta b e : Addr) (old : Value) (W : World) (hb : W.cell? b = some (.pointer (some e))) (ht : W.cell? ta = some old) (hf : W.frozen? ta = false) :
  (ReflectliteValue.set #[.agg #[.pointer (some ⟨1,189,none⟩), .pointer (some ta), .int .u64 406], .agg #[.pointer (some ⟨1,189,none⟩), .pointer (some b), .int .u64 150]]).run Tryz.prog W
   = .ok (.tuple #[]) (W.setCell ta (.pointer (some e))) := by
 rw [rls]
 simp only [Sem.run_bind,qm2,qnd,Result.andThen]
 simp [ReflectliteValue.flagAddr,loadVar,isAgg,underlying,Tryz.underlying189,hb,Result.andThen,qm3,storeVar,Value.cells,storeCells,Addr.add]
 rw [run_store Tryz.prog W ta _ _ (by rfl)]
 simp [ht,hf]
theorem qv0 (e t : Addr) (old : Value) (w : World) (hg : w.cell? ⟨0,0,none⟩ = some (.iface 265 (.agg #[.pointer (some ⟨1,149,none⟩)]))) (ht0 : w.cell? t = some old) (hf0 : w.frozen? t = false) :
  Calls Tryz.prog 122 #[.iface 189 (.pointer (some e)), .iface 191 (.pointer (some t))] w fun ev w' => ev = .returned (.bool true) ∧ w' = ((((w.alloc (.cells #[.pointer (some t)] 191)).alloc (.cells #[.pointer (some ⟨1,191,none⟩), .pointer (some ⟨w.heap.size,0,none⟩), .int .u64 150] 241)).alloc (.cells #[.pointer (some ⟨1,191,none⟩), .pointer (some ⟨w.heap.size,0,none⟩), .int .u64 150] 241)).alloc (.cells #[.pointer (some e)] 189)).setCell t (.pointer (some e)) := by
 have h6 := @run_callFunc_extern Tryz.prog 172 _ (fun args => ReflectliteValue.unpack (args.getD 0 (.tuple #[]))) Tryz.func172 (by kernel_rfl) (by kernel_rfl) (by kernel_rfl) (by kernel_rfl)
 have h7 := @run_callFunc_extern Tryz.prog 173 _ (ReflectliteValue.methodAny (ReflectliteValue.valueError "reflectlite.Value.Type" 0) (fun t _ _ _ => ReflectliteType.toType t)) Tryz.func173 (by kernel_rfl) (by kernel_rfl) (by kernel_rfl) (by kernel_rfl)
 have h8 := @run_callFunc_extern Tryz.prog 174 _ (ReflectliteValue.method (ReflectliteValue.valueError "reflectlite.Value.IsNil" 0) ReflectliteValue.isNil) Tryz.func174 (by kernel_rfl) (by kernel_rfl) (by kernel_rfl) (by kernel_rfl)
 have h27 := @run_callFunc_extern Tryz.prog 319 _ (ReflectliteType.abiMethod fun t => do pure (.int .u8 (← Rtype.kind t))) Tryz.func319 (by kernel_rfl) (by kernel_rfl) (by kernel_rfl) (by kernel_rfl)
 have h37 := @run_callFunc_extern Tryz.prog 329 _ (ReflectliteType.method ReflectliteType.elem) Tryz.func329 (by kernel_rfl) (by kernel_rfl) (by kernel_rfl) (by kernel_rfl)
 have h38 := @run_callFunc_extern Tryz.prog 330 _ (ReflectliteType.relation "Implements" ReflectliteType.implements_) Tryz.func330 (by kernel_rfl) (by kernel_rfl) (by kernel_rfl) (by kernel_rfl)
 have h10 := @run_callFunc_extern Tryz.prog 213 _ ReflectliteType.typeOf Tryz.func213 (by kernel_rfl) (by kernel_rfl) (by kernel_rfl) (by kernel_rfl)
 have h35 := @run_callFunc_extern Tryz.prog 327 _ (ReflectliteType.relation "AssignableTo" ReflectliteType.assignableTo) Tryz.func327 (by kernel_rfl) (by kernel_rfl) (by kernel_rfl) (by kernel_rfl)
 have h11 := @run_callFunc_extern Tryz.prog 214 _ (ReflectliteValue.method (ReflectliteValue.valueError "reflectlite.Value.Elem" 0) ReflectliteValue.elem) Tryz.func214 (by kernel_rfl) (by kernel_rfl) (by kernel_rfl) (by kernel_rfl)
 have h12 := @run_callFunc_extern Tryz.prog 215 _ ReflectliteValue.set Tryz.func215 (by kernel_rfl) (by kernel_rfl) (by kernel_rfl) (by kernel_rfl)
 have tO := qm0
 have mA := qe2
 have a25 := qh8
 have v25 := qkc
 have f6 := qkb
 have f7 := qp3
 have mK := qj1
 have mE := qj2
 have mI := qev
 have k27 := qp4
 have k25 := qp5
 have e27 := qp6
 have i25 := qh7
 have n8 := qnb ⟨w.heap.size,0,none⟩ t ((w.alloc (.cells #[.pointer (some t)] 191)).alloc (.cells #[.pointer (some ⟨1,191,none⟩), .pointer (some ⟨w.heap.size,0,none⟩), .int .u64 150] 241)) (by simp)
 have hlt : 0 < w.heap.size := World.block_lt_of_cell? w _ hg
 have hg2 : ((w.alloc (.cells #[.pointer (some t)] 191)).alloc (.cells #[.pointer (some ⟨1,191,none⟩), .pointer (some ⟨w.heap.size,0,none⟩), .int .u64 150] 241)).cell? ⟨0,0,none⟩ = some (.iface 265 (.agg #[.pointer (some ⟨1,149,none⟩)])) := by
  rw [World.cell?_alloc_lt _ _ ⟨0,0,none⟩ (by simp <;> omega),World.cell?_alloc_lt _ _ ⟨0,0,none⟩ hlt]; exact hg
 have htl : t.block < w.heap.size := by
  rcases Nat.lt_or_ge t.block w.heap.size with h | h
  ·exact h
  ·simp [World.cell?,Array.getElem?_eq_none h] at ht0
 have el := qnc ⟨w.heap.size,0,none⟩ t (((w.alloc (.cells #[.pointer (some t)] 191)).alloc (.cells #[.pointer (some ⟨1,191,none⟩), .pointer (some ⟨w.heap.size,0,none⟩), .int .u64 150] 241)).alloc (.cells #[.pointer (some ⟨1,191,none⟩), .pointer (some ⟨w.heap.size,0,none⟩), .int .u64 150] 241)) (by rw [World.cell?_alloc_lt _ _ ⟨w.heap.size,0,none⟩ (by simp; omega)]; simp)
 have st := qrl t ⟨w.heap.size + 1 + 1 + 1,0,none⟩ e old ((((w.alloc (.cells #[.pointer (some t)] 191)).alloc (.cells #[.pointer (some ⟨1,191,none⟩), .pointer (some ⟨w.heap.size,0,none⟩), .int .u64 150] 241)).alloc (.cells #[.pointer (some ⟨1,191,none⟩), .pointer (some ⟨w.heap.size,0,none⟩), .int .u64 150] 241)).alloc (.cells #[.pointer (some e)] 189))
  (by rw [World.cell?_alloc_at _ _ _ _ (by simp)]; rfl)
  (by rw [World.cell?_alloc_lt _ _ t (by simp; omega),World.cell?_alloc_lt _ _ t (by simp; omega),World.cell?_alloc_lt _ _ t (by simp; omega),World.cell?_alloc_lt _ _ t htl]; exact ht0)
  (by rw [World.frozen?_alloc_old _ _ t (by simp; omega),World.frozen?_alloc_old _ _ t (by simp; omega),World.frozen?_alloc_old _ _ t (by simp; omega),World.frozen?_alloc_old _ _ t (Nat.ne_of_lt htl)]; exact hf0)
 go_enter Tryz.func122,Tryz.ntmps122
 go_wp2
 refine wp_loop_rounds 1 ?_
 rw [rounds_succ]
 go_wp2
 go_ret
 exact ⟨rfl,rfl⟩
end Go.Proofs.YtmidaeljeoifdaaGreatDoor
namespace Go.Proofs.YtmidaeljeoifdaaGreatDoor
open Go.RowKit
set_option linter.unusedSimpArgs false
set_option linter.unusedVariables false
set_option maxHeartbeats 16000000
set_option maxRecDepth 100000
def EnvE (w : World) : Prop := w.cell? ⟨0,0,none⟩ = some (.iface 265 (.agg #[.pointer (some ⟨1,149,none⟩)]))
theorem EnvE.below {w w' : World} (h : EnvE w) (hb : Below w.heap.size w w') : EnvE w' := by
 show w'.cell? _ = _
 rw [qa7 hb _ _ (World.block_lt_of_cell? w _ h)]
 exact h
def qax : Array Value := #[.int .i64 0, .string ⟨#[]⟩, .int .i64 0]
def set3 (w : World) (b : Nat) (v0 v1 v2 : Value) : World := ((w.setCell ⟨b,0,none⟩ v0).setCell ⟨b,1,none⟩ v1).setCell ⟨b,2,none⟩ v2
theorem qtp (w : World) (b : Nat) (t : TypeId) (o0 o1 o2 v0 v1 v2 : Value) (k : w.heap[b]? = some (.cells #[o0,o1,o2] t (0,0))) : (set3 w b v0 v1 v2).heap[b]? = some (.cells #[v0,v1,v2] t (0,0)) := by
 unfold set3
 have h0 : (w.setCell ⟨b,0,none⟩ v0).heap[b]? = some (.cells #[v0,o1,o2] t (0,0)) := heap_setCell_same _ b 0 _ t _ k
 generalize w.setCell ⟨b,0,none⟩ v0 = w0 at *
 have h1 : (w0.setCell ⟨b,1,none⟩ v1).heap[b]? = some (.cells #[v0,v1,o2] t (0,0)) := heap_setCell_same _ b 1 _ t _ h0
 generalize w0.setCell ⟨b,1,none⟩ v1 = w1 at *
 exact heap_setCell_same _ b 2 _ t _ h1
theorem qne {B : Nat} {w W : World} (h : Below B w W) {b : Nat} {v0 v1 v2 : Value} (hb : B ≤ b) (hs : B ≤ W.heap.size) : Below B w (set3 W b v0 v1 v2) := by
 unfold set3
 refine qf3 (qf3 (qf3 h hb hs) hb ?_) hb ?_
 ·exact Nat.le_trans hs (qac W b 0 v0).size
 ·exact Nat.le_trans (Nat.le_trans hs (qac W b 0 v0).size) (qac _ b 1 v1).size
theorem qv1 {fn : Func} {n : Nat} (hf : fn.results = #[.cell n 79]) (tmps : Array Value) (b : Nat) (w : World) (v0 v1 v2 : Value)
  (h2 : tmps[n]? = some (.pointer (some ⟨b,0,none⟩))) (hk : w.heap[b]? = some (.cells #[v0,v1,v2] 79 (0,0))) :
  (results fn tmps).run Tryz.prog w = .ok (.agg #[v0,v1,v2]) w := by
 have a1 := fun i => cell_of_row w b i _ _ (0,0) hk
 have z0 := a1 0; have z1 := a1 1; have z2 := a1 2
 simp at z0 z1 z2
 simp [results,hf,go_sem,h2,z0,z1,z2]
def vdC : Option (Int × List UInt8 × Int) → Array Value
 | none => #[I 0,S [],I 0]
 | some (c,wd,i) => #[I c,S wd,I i]
def qfa (w : World) (o : Option (Int × List UInt8 × Int)) (e : Ending) (w' : World) : Prop := e = .returned (.agg (vdC o)) ∧ Below w.heap.size w w'
theorem qar (w : World) (a b : Obj) : ((w.alloc a).alloc b).heap[w.heap.size]? = some a := by
 rw [heap_alloc_old (w.alloc a) b (by simp)]
 exact heap_alloc_new w a
theorem qv2 {w : World} {q : Nat} (hE : EnvE w) :
  Calls Tryz.prog 122 #[.iface 189 (.pointer (some ⟨q,0,none⟩)), .iface 191 (.pointer (some ⟨w.heap.size + 1,0,none⟩))] ((w.alloc (.cells qax 79)).alloc (.cells #[.pointer none] 189)) fun e w' => e = .returned (.bool true) ∧ Below w.heap.size w w' ∧ w'.heap[w.heap.size]? = some (.cells qax 79 (0,0)) ∧ w'.cell? ⟨w.heap.size + 1,0,none⟩ = some (.pointer (some ⟨q,0,none⟩)) := by
 have b1 := qa0 w (.cells qax 79)
 have b2 : Below w.heap.size w ((w.alloc (.cells qax 79)).alloc (.cells #[.pointer none] 189)) := b1.trans ((qa0 _ _).mono b1.size)
 have hv := qar w (.cells qax 79) (.cells #[.pointer none] 189)
 have ht := qaj w (.cells qax 79) (.cells #[.pointer none] 189)
 have hE2 : EnvE ((w.alloc (.cells qax 79)).alloc (.cells #[.pointer none] 189)) := hE.below b2
 generalize ((w.alloc (.cells qax 79)).alloc (.cells #[.pointer none] 189)) = w0 at *
 refine (qv0 ⟨q,0,none⟩ ⟨w.heap.size + 1,0,none⟩ (.pointer none) w0 hE2 (by rw [cell_of_row w0 _ 0 _ _ (0,0) ht]; rfl) (frozen_of_row w0 _ 0 _ _ ht)).mono ?_
 rintro e w' ⟨rfl,rfl⟩
 have hl := qa1 ht
 have b3 := ((((Below.refl w0.heap.size w0).alloc (Nat.le_refl _) (.cells #[.pointer (some ⟨w.heap.size + 1,0,none⟩)] 191)).alloc (by simp) (.cells #[.pointer (some ⟨1,191,none⟩), .pointer (some ⟨w0.heap.size,0,none⟩), .int .u64 150] 241)).alloc (by simp; omega) (.cells #[.pointer (some ⟨1,191,none⟩), .pointer (some ⟨w0.heap.size,0,none⟩), .int .u64 150] 241)).alloc (by simp; omega) (.cells #[.pointer (some ⟨q,0,none⟩)] 189)
 generalize ((((w0.alloc (.cells #[.pointer (some ⟨w.heap.size + 1,0,none⟩)] 191)).alloc (.cells #[.pointer (some ⟨1,191,none⟩), .pointer (some ⟨w0.heap.size,0,none⟩), .int .u64 150] 241)).alloc (.cells #[.pointer (some ⟨1,191,none⟩), .pointer (some ⟨w0.heap.size,0,none⟩), .int .u64 150] 241)).alloc (.cells #[.pointer (some ⟨q,0,none⟩)] 189)) = w4 at *
 have ht4 := (b3.block _ hl).trans ht
 have hv4 := (b3.block _ (qa1 hv)).trans hv
 have g4 := qac w4 (w.heap.size + 1) 0 (.pointer (some ⟨q,0,none⟩))
 have b4 : Below w.heap.size w w4 := b2.trans (b3.mono b2.size)
 refine ⟨rfl,b4.trans (qam g4 (by omega) b4.size),(g4.block _ (qa1 hv4) (fun e => absurd (Option.some.inj e) (by omega))).trans hv4, ?_⟩
 rw [cell_of_row _ _ 0 _ _ (0,0) (heap_setCell_same w4 (w.heap.size + 1) 0 _ _ _ ht4)]
 rfl
theorem qv3 {w : World} (v : Value) :
  Calls Tryz.prog 122 #[.nilIface,v] ((w.alloc (.cells qax 79)).alloc (.cells #[.pointer none] 189)) fun e w' => e = .returned (.bool false) ∧ Below w.heap.size w w' ∧ w'.heap[w.heap.size]? = some (.cells qax 79 (0,0)) := by
 refine (quz _ _).mono ?_
 rintro e w' ⟨rfl,rfl⟩
 have b1 := qa0 w (.cells qax 79)
 exact ⟨rfl,b1.trans ((qa0 _ _).mono b1.size),qar w _ _⟩
theorem varV {w : World} {b : Nat} (h : w.heap[b]? = some (.cells qax 79 (0,0))) : w.cell? ⟨b,0,none⟩ = some (.int .i64 0) ∧ w.cell? ⟨b,1,none⟩ = some (.string ⟨#[]⟩) ∧ w.cell? ⟨b,2,none⟩ = some (.int .i64 0) ∧ ∀ i,w.frozen? ⟨b,i,none⟩ = false := by
 have a1 := fun i => cell_of_row w b i _ _ (0,0) h
 exact ⟨a1 0,a1 1,a1 2,fun i => frozen_of_row w b i _ _ h⟩
theorem qcy {fn : Func} {n : Nat} (hf : fn.results = #[.cell n 79]) (w w3 : World) (o : Option (Int × List UInt8 × Int)) (v0 v1 v2 : Value) (ho : vdC o = #[v0,v1,v2]) (b : Nat) (hbb : w.heap.size ≤ b) (tmps : Array Value)
  (hv : w3.heap[b]? = some (.cells qax 79 (0,0))) (hb : Below w.heap.size w w3) (h2 : tmps[n]? = some (.pointer (some ⟨b,0,none⟩))) :
  bodyPost Tryz.prog fn (fun e w' => qfa w o e w') .ret { tmps := tmps,defers := [] } (set3 w3 b v0 v1 v2) := by
 refine bodyPost_ret (qv1 hf tmps b _ _ _ _ h2 (qtp w3 b _ _ _ _ _ _ _ hv)) rfl ?_
 exact ⟨by rw [ho],qne hb hbb hb.size⟩
theorem qm4 (w : World) : Calls Tryz.prog 76 #[.nilIface] w fun e w' => qfa w none e w' := by
 go_enter Tryz.func76,Tryz.ntmps76
 go_wp2_with (go_at_call 122; refine (qv3 _).mono ?_; rintro e w1 ⟨rfl,hb1,hv1⟩; obtain ⟨y0,y1,y2,fz⟩ := varV hv1)
 exact qcy Tryz.results76 w w1 none _ _ _ rfl w.heap.size (Nat.le_refl _) _ hv1 hb1 rfl
theorem qm5 (w : World) (hE : EnvE w) (q : Nat) (c id : Int) (wd : List UInt8) (hq : w.heap[q]? = some (.cells #[I c,S wd,I id] 193 (0,0))) :
  Calls Tryz.prog 76 #[.iface 189 (.pointer (some ⟨q,0,none⟩))] w fun e w' => qfa w (some (c,wd,id)) e w' := by
 have hql := qa1 hq
 have hcs : ∀ W,Below w.heap.size w W → W.cell? ⟨q,0,none⟩ = some (I c) ∧ W.cell? ⟨q,1,none⟩ = some (S wd) ∧ W.cell? ⟨q,2,none⟩ = some (I id) := fun W hW => by
  have a1 := fun i => cell_of_row W q i _ _ (0,0) ((hW.block q hql).trans hq)
  exact ⟨a1 0,a1 1,a1 2⟩
 clear hq
 go_enter Tryz.func76,Tryz.ntmps76
 go_wp2_with (go_at_call 122; refine (qv2 hE).mono ?_; rintro e w1 ⟨rfl,hb1,hv1,ht1⟩; obtain ⟨y0,y1,y2,fz⟩ := varV hv1; obtain ⟨x0,x1,x2⟩ := hcs w1 hb1)
 exact qcy Tryz.results76 w w1 (some (c,wd,id)) _ _ _ rfl w.heap.size (Nat.le_refl _) _ hv1 hb1 rfl
theorem qh9 (w : World) (c : Cf) (v : Vs) (h : CfAt w c v) (hl : LensOK c) (hE : EnvE w) : Calls Tryz.prog 32 #[.agg (cfC c v)] w fun e w' => qfa w (allF c) e w' := by
 have hi18 : (Tryz.prog.info? 47).map (·.size) = some (cfC c v).size := by rw [show (cfC c v).size = 18 from rfl]; kernel_rfl
 have hV0 := qar w (.cells (cfC c v) 47) (.cells qax 79)
 have hR0 := qaj w (.cells (cfC c v) 47) (.cells qax 79)
 have hb1 := qa0 w (.cells (cfC c v) 47)
 have hb2 := hb1.trans ((qa0 (w.alloc (.cells (cfC c v) 47)) (.cells qax 79)).mono hb1.size)
 have cl := qrk ((w.alloc (.cells (cfC c v) 47)).alloc (.cells qax 79)) c v (h.below hb2) hl
 generalize cfC c v = C at *
 generalize allF c = o at *
 have hfin : ∀ w1 w2,Below ((w.alloc (.cells C 47)).alloc (.cells qax 79)).heap.size ((w.alloc (.cells C 47)).alloc (.cells qax 79)) w1 → Below w1.heap.size w1 w2 → w2.heap[w.heap.size + 1]? = some (.cells qax 79 (0,0)) ∧ Below w.heap.size w w2 := fun w1 w2 h1 h2 => by
  have h12 := h1.trans (h2.mono h1.size)
  exact ⟨(h12.block _ (qa1 hR0)).trans hR0,hb2.trans (h12.mono hb2.size)⟩
 cases o with
 | none =>
  have cv := qm4
  go_enter Tryz.func32,Tryz.ntmps32
  go_wp2_with (first | (refine wpList_load_row rfl 47 _ rfl w.heap.size rfl 47 _ (0,0) _ hV0 Tryz.underlying47 rfl hi18 ?_) | (go_at_call 77; refine cl.mono ?_; rintro e w1 ⟨rfl,hb3⟩) | (go_at_call 76; refine (cv _).mono ?_; rintro e w2 ⟨he,hb4⟩; rw [show vdC none = #[I 0,S [],I 0] from rfl] at he; subst he; obtain ⟨hv2,hbw2⟩ := hfin _ _ hb3 hb4; obtain ⟨y0,y1,y2,fz⟩ := varV hv2))
  exact qcy Tryz.results32 w w2 none _ _ _ rfl (w.heap.size + 1) (by omega) _ hv2 hbw2 rfl
 | some r =>
  obtain ⟨cd,wd,ix⟩ := r
  have cv := fun W (hW : Below w.heap.size w W) q hq => qm5 W (hE.below hW) q cd ix wd hq
  go_enter Tryz.func32,Tryz.ntmps32
  go_wp2_with (first | (refine wpList_load_row rfl 47 _ rfl w.heap.size rfl 47 _ (0,0) _ hV0 Tryz.underlying47 rfl hi18 ?_) | (go_at_call 77; refine cl.mono ?_; rintro e w1 ⟨b,rfl,hr1,hr2,hb3⟩) | (go_at_call 76; refine (cv _ (hb2.trans (hb3.mono hb2.size)) _ hr2).mono ?_; rintro e w2 ⟨he,hb4⟩; rw [show vdC (some (cd,wd,ix)) = #[I cd,S wd,I ix] from rfl] at he; subst he; obtain ⟨hv2,hbw2⟩ := hfin _ _ hb3 hb4; obtain ⟨y0,y1,y2,fz⟩ := varV hv2))
  exact qcy Tryz.results32 w w2 (some (cd,wd,ix)) _ _ _ rfl (w.heap.size + 1) (by omega) _ hv2 hbw2 rfl
end Go.Proofs.YtmidaeljeoifdaaGreatDoor
