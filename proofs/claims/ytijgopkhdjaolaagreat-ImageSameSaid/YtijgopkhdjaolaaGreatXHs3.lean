import Derived.Test.YtijgopkhdjaolaaGreatXHr4
import Derived.Test.YtijgopkhdjaolaaGreatXHk2
import Derived.Test.YtijgopkhdjaolaaGreatXHr3
import Derived.Deep.RegionHeldLaw
import Derived.Laws.IdiomStrings
namespace Go.Proofs.YtijgopkhdjaolaaGreat
open Go.RowKit Go.Shelf Go.Sort
open Go.Proofs.YtijgopkhdjaolaaGreat.Ob (leB leV qac qam crc Rd RdAll qad Rdr)
set_option linter.unusedSimpArgs false
set_option linter.unusedVariables false
set_option maxHeartbeats 16000000
set_option maxRecDepth 100000
theorem qhs {w : World} {b o : Nat} (l : List UInt8) (cap : Nat) (hc : ∀ i x,l[i]? = some x → w.cell? ⟨b,o + i,none⟩ = some (.int .u8 (x.toNat : Int))) : (convert 31 9 (.slice (some ⟨b,o,none⟩) l.length cap)).run Tryz.prog w = .ok (.string ⟨l.toArray⟩) w := by
 refine run_convert_bytes_back w 31 9 5 ⟨b,o,none⟩ cap l Tryz.underlying31 Tryz.underlying5 Tryz.underlying9 (fun j hj => ?_)
 have := hc j l[j] (List.getElem?_eq_getElem hj)
 rw [qc1]
 exact this
theorem qmf (l k : List UInt8) : (l == k) = decide (l = k) := by
 rw [Bool.eq_iff_iff]
 simp
theorem qjz {w : World} {g o g2 o2 c c2 n m : Nat} {l k : List UInt8} (hn : n = l.length) (hm : m = k.length) (h1 : ∀ i x,l[i]? = some x → w.cell? ⟨g,o + i,none⟩ = some (.int .u8 (x.toNat : Int))) (h2 : ∀ i x,k[i]? = some x → w.cell? ⟨g2,o2 + i,none⟩ = some (.int .u8 (x.toNat : Int))) : Calls Tryz.prog 165 #[.slice (some ⟨g,o,none⟩) n c, .slice (some ⟨g2,o2,none⟩) m c2] w fun e w' => e = .returned (.bool (decide (l = k))) ∧ w' = w := by
 subst hn hm
 have e1 := qhs l c h1
 have e2 := qhs k c2 h2
 have HE : Hid ((l == k) = decide (l = k)) := qmf l k
 clear h1 h2
 go_enter Tryz.func165,Tryz.ntmps165
 go_wp2
 go_ret
 exact ⟨by rw [← HE.out]; rfl,rfl⟩
theorem qez {w : World} {g off n c : Nat} {bs : List UInt8} (h : Rd w (some ⟨g,off,none⟩) n c bs) (i m c2 : Nat) (hi : i + m ≤ n) (hm : 0 < m) (hc : m ≤ c2) : Rd w (some ⟨g,off + i,none⟩) m c2 ((bs.drop i).take m) := by
 have h1 := h.hlen
 have h3 := h.hsmall
 refine ⟨by simp; omega,hc,by omega,(fun e => by cases e),fun _ => ?_⟩
 obtain ⟨b,o,e,hb,hcc⟩ := h.hcell (by omega)
 simp only [Option.some.injEq,Addr.mk.injEq,and_true] at e
 obtain ⟨rfl,rfl⟩ := e
 refine ⟨g,off + i,rfl,hb,fun j x hx => ?_⟩
 have hj : j < m := by
  have := (List.getElem?_eq_some_iff.1 hx).1
  simp at this
  omega
 rw [List.getElem?_take_of_lt hj,List.getElem?_drop] at hx
 rw [Nat.add_assoc]
 exact hcc _ x hx
theorem qk0 {w : World} {a : Option Addr} {n c M : Nat} (hn : n < 4) : Calls Tryz.prog 100 #[.slice a n c, .slice (some ⟨M,0,none⟩) 4 4] w fun e w' => e = .returned (.bool false) ∧ w' = w := by
 have h1 : ¬ ((n : Int) ≥ 4) := by omega
 have h2 : ¬ ((4 : Int) ≤ n) := by omega
 go_enter Tryz.func100,Tryz.ntmps100
 go_wp2
 go_ret
 exact ⟨rfl,rfl⟩
theorem qit {w : World} {g off n c M : Nat} {bs : List UInt8} (h : Rd w (some ⟨g,off,none⟩) n c bs) (hn : 4 ≤ n) (hM : rdV w 1 (.slice (some ⟨M,0,none⟩) 4 4) mrk.length (Bs8 mrk)) : Calls Tryz.prog 100 #[.slice (some ⟨g,off,none⟩) n c, .slice (some ⟨M,0,none⟩) 4 4] w fun e w' => e = .returned (.bool (decide (bs.take 4 = mrk))) ∧ w' = w := by
 have hr := qez h 0 4 c (by omega) (by omega) (by have := h.hle; omega)
 rw [Nat.add_zero,List.drop_zero] at hr
 obtain ⟨b,o,e,hb,hc⟩ := hr.hcell (by omega)
 simp only [Option.some.injEq,Addr.mk.injEq,and_true] at e
 obtain ⟨rfl,rfl⟩ := e
 have hE := qjz (w := w) (g := g) (o := off) (g2 := M) (o2 := 0) (c := c) (c2 := 4) (n := 4) (m := 4) (l := bs.take 4) (k := mrk) hr.hlen.symm rfl hc (fun i x hx => by
  rcases hM.2 with ⟨q,_⟩ | ⟨g',cap,q,_,hcc⟩
  ·cases q
  ·cases q
   exact hcc i _ (by rw [List.getElem?_map,hx]; rfl))
 have h1 : (4 : Int) ≤ n := by omega
 have h2 : (4 : Int) ≤ c := by have := h.hle; omega
 have h3 : (n : Int) ≥ 4 := by omega
 clear hr h hM hc hb
 go_enter Tryz.func100,Tryz.ntmps100
 go_wp2_with (first | (go_at_call 165; refine hE.mono ?_; clear hE; rintro e w3 ⟨rfl,hw3⟩; rw [hw3]; clear hw3))
 go_ret
 exact ⟨rfl,rfl⟩
theorem qd9 {w : World} {a : Option Addr} {n c : Nat} {l : List UInt8} (h : Rd w a n c l) (h1 : 1 ≤ n) (h2 : n ≤ 8) : Calls Tryz.prog 101 #[.slice a n c] w fun e w' => e = .returned (.int .u64 (leV l : Nat)) ∧ Below w.heap.size w w' := by
 have hl := h.hlen
 have hN := Ob.newReader_any a n c l w h
 have HT : Hid (l.take n = l) := by show _ = _; rw [← hl]; exact List.take_length
 clear h
 go_enter Tryz.func101,Tryz.ntmps101
 go_wp2_with (first | (go_at_call 102; refine hN.mono ?_; clear hN; rintro e w1 ⟨r,a',cap',rfl,hR,hb⟩; have hQ := Ob.rnumber_made hR n h1 h2 (Nat.le_refl n); have hbr := hR.hbase; clear hR) | (go_at_call 166; refine hQ.mono ?_; clear hQ; rintro e w2 ⟨rfl, -,hg⟩))
 go_ret
 rw [HT.out]
 exact ⟨rfl,Go.RowKit.Below.grown hb hg hb.size (fun k e => by cases e; exact hbr)⟩
def outE (bs : List UInt8) : Nat := if bs.take 4 ≠ mrk then 100 else if bs.length < 30 ∨ leV ((bs.drop 4).take 4) ≠ bs.length then 101 else if leV (bs.drop (bs.length - 2)) ≠ crc 65535 (bs.take (bs.length - 2)) then 102 else 0
theorem qnm {W : World} {X n c : Nat} {a : Option Addr} {l : List UInt8} (h : W.heap[X]? = some (.cells #[.slice a n c] 31)) (h1 : Rd W a n c l) : RdAll W (some ⟨X,0,none⟩) 1 1 [l] := by
 refine ⟨rfl,by omega,fun _ => ⟨X,0,rfl,fun i l' hi => ?_⟩⟩
 match i,hi with
 | 0,hi => simp at hi; subst hi; exact ⟨a,n,c,by rw [cell_of_row _ _ _ _ _ (0,0) h]; rfl,h1⟩
theorem qhc {w : World} {a : Option Addr} {n c : Nat} {bs : List UInt8} (h : Rd w a n c bs) : Calls Tryz.prog 36 #[.slice a n c] w fun e w' => e = .returned (I (outE bs)) ∧ Below w.heap.size w w' := by
 have hl := h.hlen
 have hle := h.hle
 have hsm := h.hsmall
 have hcv := qb4 (heap_alloc_new w mkO)
 have hb1 := qaj (qa0 w mkO) (Nat.le_refl _)
 have hM := qbe (heap_alloc_new w mkO)
 generalize hW1 : (w.alloc mkO).freeze ⟨w.heap.size,4,none⟩ 1 = W1 at *
 clear hW1
 by_cases h4 : n < 4
 ·have HE : Hid (outE bs = 100) := by
   show _ = _
   unfold outE
   rw [if_pos]
   intro e
   have := congrArg List.length e
   simp [mrk] at this
   omega
  have hP := qk0 (w := W1) (a := a) (c := c) (M := w.heap.size) h4
  rw [HE.out]
  clear h HE hM
  go_enter Tryz.func36,Tryz.ntmps36
  go_wp2_with (first | (go_at_call 100; refine hP.mono ?_; clear hP; rintro e w3 ⟨rfl,hw3⟩; rw [hw3]; clear hw3))
  go_ret
  exact ⟨rfl,hb1⟩
 obtain ⟨g,off,rfl,hg, -⟩ := h.hcell (by omega)
 have h' := h.below hb1
 have hP := qit (M := w.heap.size) h' (by omega) hM
 by_cases hm : bs.take 4 = mrk
 case neg =>
  have HE : Hid (outE bs = 100) := by show _ = _; unfold outE; rw [if_pos hm]
  rw [HE.out]
  rw [decide_eq_false hm] at hP
  clear h h' HE hM hm
  go_enter Tryz.func36,Tryz.ntmps36
  go_wp2_with (first | (go_at_call 100; refine hP.mono ?_; clear hP; rintro e w3 ⟨rfl,hw3⟩; rw [hw3]; clear hw3))
  go_ret
  exact ⟨rfl,hb1⟩
 rw [decide_eq_true hm] at hP
 by_cases h30 : n < 30
 ·have HE : Hid (outE bs = 101) := by show _ = _; unfold outE; rw [if_neg (by simpa using hm),if_pos (.inl (by omega))]
  have h30i : (n : Int) < 30 := by omega
  rw [HE.out]
  clear h h' HE hM hm
  go_enter Tryz.func36,Tryz.ntmps36
  go_wp2_with (first | (go_at_call 100; refine hP.mono ?_; clear hP; rintro e w3 ⟨rfl,hw3⟩; rw [hw3]; clear hw3))
  go_ret
  exact ⟨rfl,hb1⟩
 have h30i : ¬ ((n : Int) < 30) := by omega
 have hN := qd9 (qez h' 4 4 (c - 4) (by omega) (by omega) (by omega)) (by omega) (by omega)
 have hc8 : (8 : Int) ≤ c := by omega
 have hwn : IntKind.u64.wrap (n : Int) = n := by rw [IntKind.wrap_u64]; omega
 by_cases hsz : leV ((bs.drop 4).take 4) = n
 case neg =>
  have HE : Hid (outE bs = 101) := by show _ = _; unfold outE; rw [if_neg (by simpa using hm),if_pos (.inr (by rw [hl]; exact hsz))]
  have hne : (((leV ((bs.drop 4).take 4) : Nat) : Int) == (n : Int)) = false := by rw [beq_eq_false_iff_ne]; omega
  rw [HE.out]
  clear h h' HE hM hm hsz
  clear hl hle hg
  generalize leV ((bs.drop 4).take 4) = q at *
  have hd : decide ((n : Int) < 30) = false := by rw [decide_eq_false_iff_not]; omega
  have hbn : ((q : Int) != (n : Int)) = true := by simp [bne,hne]
  have HB1 : Hid (Below w.heap.size w W1) := hb1
  clear hne h30i hsm hb1 h30 h4
  go_enter Tryz.func36,Tryz.ntmps36
  go_wp2_with (first | (go_at_call 100; refine hP.mono ?_; clear hP; rintro e w3 ⟨rfl,hw3⟩; rw [hw3]; clear hw3))
  refine hN.mono ?_
  clear hN
  rintro e w4 ⟨rfl,b4⟩
  have B4 : Hid (Below W1.heap.size W1 w4) := b4
  clear b4 hcv
  go_wp2_with fail
  go_ret
  exact ⟨rfl,belT HB1.out B4.out⟩
 rw [hsz] at hN
 have HO : Hid (outE bs = if leV (bs.drop (n - 2)) ≠ crc 65535 (bs.take (n - 2)) then 102 else 0) := by
  show _ = _
  unfold outE
  rw [if_neg (by simpa using hm),if_neg (by rw [hl]; rintro (q | q); exact h30 q; exact q hsz),hl]
 obtain ⟨X,hXE⟩ : ∃ X,X = if leV (bs.drop (n - 2)) ≠ crc 65535 (bs.take (n - 2)) then 102 else 0 := ⟨_,rfl⟩
 rw [HO.out, ← hXE]
 have HXE : Hid (X = if leV (bs.drop (n - 2)) ≠ crc 65535 (bs.take (n - 2)) then 102 else 0) := hXE
 obtain ⟨e,hee⟩ : ∃ e,n - 2 = e := ⟨_,rfl⟩
 have HEE : Hid (n - 2 = e) := hee
 clear hXE hee
 have hd : decide ((n : Int) < 30) = false := by rw [decide_eq_false_iff_not]; omega
 have hw2 : IntKind.i64.wrap ((n : Int) - 2) = (n : Int) - 2 := by rw [IntKind.wrap_i64]; omega
 have HB1 : Hid (Below w.heap.size w W1) := hb1
 have HN : Hid (30 ≤ n ∧ n ≤ c ∧ n ≤ 140737488351232 ∧ bs.length = n ∧ Rd W1 (some ⟨g,off,none⟩) n c bs) := ⟨by omega,hle,hsm,hl,h'⟩
 clear HO hm hsz h h' h4 hM hl hle hsm hg hb1 h30 h30i
 go_enter Tryz.func36,Tryz.ntmps36
 go_wp2_with (first | (go_at_call 100; refine hP.mono ?_; clear hP; rintro e w3 ⟨rfl,hw3⟩; rw [hw3]; clear hw3))
 refine hN.mono ?_
 clear hN
 rintro e w4 ⟨rfl,b4⟩
 have B4 : Hid (Below W1.heap.size W1 w4) := b4
 clear b4 hcv
 go_wp2_with fail
 have hcast : (n : Int) - 2 = (e : Int) := by have := HN.out.1; have := HEE.out; omega
 rw [hcast]
 have HN2 : Hid (n - e = 2 ∧ e < c ∧ e ≤ n ∧ 0 < e) := ⟨by have := HN.out.1; have := HEE.out; omega,by have := HN.out.1; have := HEE.out; have := HN.out.2.1; omega,by have := HEE.out; omega,by have := HN.out.1; have := HEE.out; omega⟩
 clear hcast hw2
 have hR1 : ∀ W,Below w4.heap.size w4 W → Rd W (some ⟨g,off + e,none⟩) (n - e) (c - e) (bs.drop e) := fun W hW => by
  have := qez (HN.out.2.2.2.2.below (belT B4.out hW)) e (n - e) (c - e) (by have := HN2.out.2.2.1; omega) (by have := HN2.out.1; omega) (by have := HN.out.2.1; omega)
  rwa [List.take_of_length_le (by rw [List.length_drop,HN.out.2.2.2.1]; exact Nat.le_refl _)] at this
 have hR2 : ∀ W,Below w4.heap.size w4 W → Rd W (some ⟨g,off,none⟩) e c (bs.take e) := fun W hW => by
  have := qez (HN.out.2.2.2.2.below (belT B4.out hW)) 0 e c (by have := HN2.out.2.2.1; omega) HN2.out.2.2.2 (by have := HN2.out.2.1; omega)
  simpa using this
 have HR : Hid (∀ W,Below w4.heap.size w4 W → Rd W (some ⟨g,off + e,none⟩) (n - e) (c - e) (bs.drop e) ∧ Rd W (some ⟨g,off,none⟩) e c (bs.take e)) := fun W hW => ⟨hR1 W hW,hR2 W hW⟩
 have he1 : (e : Int) ≤ n := by have := HN2.out.2.2.1; omega
 have he2 : (n : Int) ≤ c := by have := HN.out.2.1; omega
 have he3 : (e : Int) ≤ c := by omega
 have he4 : ¬ (c = e) := by have := HN2.out.2.1; omega
 have hcl : Ob.crcs 65535 [bs.take e] < 65536 := Ob.crcs_lt _ _ (by decide)
 have HCE : Hid (Ob.crcs 65535 [bs.take e] = crc 65535 (bs.take e)) := rfl
 have hwk : IntKind.u64.wrap ((Ob.crcs 65535 [bs.take e] : Nat) : Int) = (Ob.crcs 65535 [bs.take e] : Nat) := by rw [IntKind.wrap_u64]; omega
 have hne2 : 1 ≤ n - e ∧ n - e ≤ 8 := by have := HN2.out.1; omega
 clear hR1 hR2 hcl
 refine wp_region_held_drew (S := fun _ => True) (by kernel_rfl) trivial (fun hHeld => ?_)
 clear hHeld
 change wpAnyH _ _ _ _ _ _ #[false,false,false,false,false,false,false,false,false,false,false] _ _
 try simp only [Act.put,q7a,q7b,q7c,q7d,q7e,q7f]
 refine wpAnyH_take (i := 0) (v := .slice (some ⟨g,off,none⟩) n c) rfl (by kernel_rfl) (by kernel_rfl) (by kernel_rfl) (fun _ _ _ h => h) (Or.inl ⟨by rfl, ?_⟩) trivial ?_
 ·intro w' hSw
  go_simp
 try simp only [Act.put,q7a,q7b,q7c,q7d,q7e,q7f]
 try simp only [Act.put,q7a,q7b,q7c,q7d,q7e,q7f]
 refine wpAnyH_take (i := 1) (v := I e) rfl (by kernel_rfl) (by kernel_rfl) (by kernel_rfl) (fun _ _ _ h => h) (Or.inl ⟨by rfl, ?_⟩) trivial ?_
 ·intro w' hSw
  go_simp
 try simp only [Act.put,q7a,q7b,q7c,q7d,q7e,q7f]
 try simp only [Act.put,q7a,q7b,q7c,q7d,q7e,q7f]
 refine wpAnyH_take (i := 2) (v := .slice (some ⟨g,off + e,none⟩) (n - e) (c - e)) rfl (by kernel_rfl) (by kernel_rfl) (by kernel_rfl) (fun _ _ _ h => h) (Or.inl ⟨by rfl, ?_⟩) trivial ?_
 ·intro w' hSw
  go_simp
 try simp only [Act.put,q7a,q7b,q7c,q7d,q7e,q7f]
 try simp only [Act.put,q7a,q7b,q7c,q7d,q7e,q7f]
 refine wpAnyH_take (i := 4) (v := .slice (some ⟨g,off,none⟩) n c) rfl (by kernel_rfl) (by kernel_rfl) (by kernel_rfl) (fun _ _ _ h => h) (Or.inl ⟨by rfl, ?_⟩) trivial ?_
 ·intro w' hSw
  go_simp
 try simp only [Act.put,q7a,q7b,q7c,q7d,q7e,q7f]
 try simp only [Act.put,q7a,q7b,q7c,q7d,q7e,q7f]
 refine wpAnyH_take (i := 5) (v := I e) rfl (by kernel_rfl) (by kernel_rfl) (by kernel_rfl) (fun _ _ _ h => h) (Or.inl ⟨by rfl, ?_⟩) trivial ?_
 ·intro w' hSw
  go_simp
 try simp only [Act.put,q7a,q7b,q7c,q7d,q7e,q7f]
 try simp only [Act.put,q7a,q7b,q7c,q7d,q7e,q7f]
 refine wpAnyH_take (i := 6) (v := .slice (some ⟨g,off,none⟩) e c) rfl (by kernel_rfl) (by kernel_rfl) (by kernel_rfl) (fun _ _ _ h => h) (Or.inl ⟨by rfl, ?_⟩) trivial ?_
 ·intro w' hSw
  go_simp
 try simp only [Act.put,q7a,q7b,q7c,q7d,q7e,q7f]
 refine qd5 (fun A HA G HG => ?_)
 have K11 : Hid (∀ (W : World) (B : Nat),Below w4.heap.size w4 W → W.heap[B]? = some (.cells #[.slice (some ⟨g,off,none⟩) e c] 31) → G 3 #[true,true,true,true,true,true,true,true,false,false,false] ((A.setIfInBounds 27 (.int .u64 (leV (bs.drop e) : Nat))).setIfInBounds 31 (.slice (some ⟨B,0,none⟩) 1 1)) W) := fun W B hb hB => by
  have hA := HA.out
  subst hA
  rw [HG.out]
  try simp only [Act.put,q7a,q7b,q7c,q7d,q7e,q7f]
  refine wpAnyH_ready (rs := [8]) (by kernel_rfl) (by simp) ?_
  refine AllReadyH.cons rfl (fun K hK => ?_) AllReadyH.nil
  go_simp
  refine (Ob.crc_any _ 1 1 [bs.take e] _ (qnm hB (HR.out W hb).2)).mono ?_
  rintro e1 w6 ⟨rfl,hw6⟩
  rw [← hw6]
  clear hw6
  refine hK.out _ _ trivial (fun _ => ?_)
  clear hK K HG
  try simp only [Act.put,q7a,q7b,q7c,q7d,q7e,q7f]
  refine wpAnyH_take (i := 9) (v := .int .u64 ((Ob.crcs 65535 [bs.take e] : Nat) : Int)) rfl (by kernel_rfl) (by kernel_rfl) (by kernel_rfl) (fun _ _ _ h => h) (Or.inl ⟨by rfl, ?_⟩) trivial ?_
  ·intro w' hSw
   go_simp
  try simp only [Act.put,q7a,q7b,q7c,q7d,q7e,q7f]
  refine wpAnyH_take (i := 10) (v := .bool (((leV (bs.drop e) : Nat) : Int) != ((Ob.crcs 65535 [bs.take e] : Nat) : Int))) rfl (by kernel_rfl) (by kernel_rfl) (by kernel_rfl) (fun _ _ _ h => h) (Or.inl ⟨by rfl, ?_⟩) trivial ?_
  ·intro w' hSw
   go_simp
  try simp only [Act.put,q7a,q7b,q7c,q7d,q7e,q7f]
  refine wpAnyH_done (by kernel_rfl) ?_ _
  have HBF : Hid (Below w.heap.size w W) := belT HB1.out (belT B4.out hb)
  by_cases hqk : leV (bs.drop e) = Ob.crcs 65535 [bs.take e]
  ·have HX : Hid (X = 0) := by show _ = _; rw [HXE.out,HEE.out,if_neg (by rw [← HCE.out]; simpa using hqk)]
   have hbn : (((leV (bs.drop e) : Nat) : Int) != ((Ob.crcs 65535 [bs.take e] : Nat) : Int)) = false := by rw [hqk]; simp [bne]
   clear hB hb HR HN HN2 hwk hwn he1 he2 he3 he4 hne2 hqk HCE
   generalize leV (bs.drop e) = q at *
   generalize Ob.crcs 65535 [bs.take e] = k at *
   go_wp2
   go_ret
   exact ⟨by rw [HX.out]; rfl,HBF.out⟩
  ·have HX : Hid (X = 102) := by show _ = _; rw [HXE.out,HEE.out,if_pos (by rw [← HCE.out]; exact hqk)]
   have hbn : (((leV (bs.drop e) : Nat) : Int) != ((Ob.crcs 65535 [bs.take e] : Nat) : Int)) = true := by simp [bne]; omega
   clear hB hb HR HN HN2 hwk hwn he1 he2 he3 he4 hne2 hqk HCE
   generalize leV (bs.drop e) = q at *
   generalize Ob.crcs 65535 [bs.take e] = k at *
   go_wp2
   go_ret
   exact ⟨by rw [HX.out]; rfl,HBF.out⟩
 have K10 : Hid (∀ (W : World),Below w4.heap.size w4 W → G 4 #[true,true,true,true,true,true,true,false,false,false,false] (A.setIfInBounds 27 (.int .u64 (leV (bs.drop e) : Nat))) W) := fun W hb => by
  have hA := HA.out
  subst hA
  rw [HG.out]
  try simp only [Act.put,q7a,q7b,q7c,q7d,q7e,q7f]
  refine wpAnyH_ready (rs := [7]) (by kernel_rfl) (by simp) ?_
  refine AllReadyH.cons rfl (fun K hK => ?_) ?_
  ·go_simp
   refine hK.out _ _ trivial (fun _ => ?_)
   try simp only [Act.put,q7a,q7b,q7c,q7d,q7e,q7f]
   have hq := K11.out (W.alloc (.cells #[.slice (some ⟨g,off,none⟩) e c] 31)) W.heap.size (belA hb) (heap_alloc_new _ _)
   try simp only [List.setIfInBounds_toArray,List.set_cons_zero,List.set_cons_succ] at hq
   exact (HG.out _ _ _ _).mp hq
  exact AllReadyH.nil
 have K01 : Hid (∀ (W : World) (B : Nat),Below w4.heap.size w4 W → W.heap[B]? = some (.cells #[.slice (some ⟨g,off,none⟩) e c] 31) → G 4 #[true,true,true,false,true,true,true,true,false,false,false] (A.setIfInBounds 31 (.slice (some ⟨B,0,none⟩) 1 1)) W) := fun W B hb hB => by
  have hA := HA.out
  subst hA
  rw [HG.out]
  try simp only [Act.put,q7a,q7b,q7c,q7d,q7e,q7f]
  refine wpAnyH_ready (rs := [3]) (by kernel_rfl) (by simp) ?_
  refine AllReadyH.cons rfl (fun K hK => ?_) ?_
  ·go_simp
   refine (qd9 (HR.out W hb).1 hne2.1 hne2.2).mono ?_
   rintro e1 w6 ⟨rfl,b6⟩
   refine hK.out _ _ trivial (fun _ => ?_)
   try simp only [Act.put,q7a,q7b,q7c,q7d,q7e,q7f]
   have hq := K11.out w6 B (belT hb b6) ((b6.block _ (qa4 hB)).trans hB)
   simp only [List.setIfInBounds_toArray,List.set_cons_zero,List.set_cons_succ] at hq
   exact (HG.out _ _ _ _).mp hq
  exact AllReadyH.nil
 have K00 : Hid (∀ (W : World),Below w4.heap.size w4 W → G 5 #[true,true,true,false,true,true,true,false,false,false,false] A W) := fun W hb => by
  have hA := HA.out
  subst hA
  rw [HG.out]
  try simp only [Act.put,q7a,q7b,q7c,q7d,q7e,q7f]
  refine wpAnyH_ready (rs := [3,7]) (by kernel_rfl) (by simp) ?_
  refine AllReadyH.cons rfl (fun K hK => ?_) ?_
  ·go_simp
   refine (qd9 (HR.out W hb).1 hne2.1 hne2.2).mono ?_
   rintro e1 w6 ⟨rfl,b6⟩
   refine hK.out _ _ trivial (fun _ => ?_)
   try simp only [Act.put,q7a,q7b,q7c,q7d,q7e,q7f]
   have hq := K10.out w6 (belT hb b6)
   simp only [List.setIfInBounds_toArray,List.set_cons_zero,List.set_cons_succ] at hq
   exact (HG.out _ _ _ _).mp hq
  refine AllReadyH.cons rfl (fun K hK => ?_) ?_
  ·go_simp
   refine hK.out _ _ trivial (fun _ => ?_)
   try simp only [Act.put,q7a,q7b,q7c,q7d,q7e,q7f]
   have hq := K01.out (W.alloc (.cells #[.slice (some ⟨g,off,none⟩) e c] 31)) W.heap.size (belA hb) (heap_alloc_new _ _)
   try simp only [List.setIfInBounds_toArray,List.set_cons_zero,List.set_cons_succ] at hq
   exact (HG.out _ _ _ _).mp hq
  exact AllReadyH.nil
 exact K00.out _ (Below.refl _ _).drew
end Go.Proofs.YtijgopkhdjaolaaGreat
