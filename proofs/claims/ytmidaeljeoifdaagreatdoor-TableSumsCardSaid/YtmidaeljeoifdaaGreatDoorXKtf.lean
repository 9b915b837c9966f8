import Derived.Test.YtmidaeljeoifdaaGreatDoorXKlb
import Derived.Test.YtmidaeljeoifdaaGreatDoorXKve
import Derived.Test.YtmidaeljeoifdaaGreatDoorXKvl
import Derived.Deep.Cut
namespace Go.Proofs.YtmidaeljeoifdaaGreatDoor
open Go.RowKit
set_option linter.unusedSimpArgs false
set_option linter.unusedVariables false
set_option maxHeartbeats 16000000
set_option maxRecDepth 100000
theorem qe4 {a n : Int} {l : List Int} (h : risF a l n = true) : l.length ≤ (n - a - 1).toNat := by
 induction l generalizing a with
 | nil => exact Nat.zero_le _
 | cons y r ih =>
  have h2 : a < y ∧ y < n ∧ risF y r n = true := by
   unfold risF at h
   have h3 : isId y n = true ∧ a < y ∧ risF y r n = true := by simpa [and_assoc] using h
   have h4 : 0 ≤ y ∧ y < n := by simpa [isId] using h3.1
   exact ⟨h3.2.1,h4.2,h3.2.2⟩
  have := ih h2.2.2
  rw [List.length_cons]
  omega
theorem qs0 (a x : Is) : qan a x = (a.prio == x.prio || (decide (x.cat < a.cat) && decide (x.prio < a.prio)) || (decide (a.cat < x.cat) && decide (a.prio < x.prio))) := by
 unfold qan
 by_cases h1 : a.prio = x.prio
 ·simp [h1]
 ·by_cases h2 : a.cat = x.cat
  ·simp [h1,h2]
  ·by_cases h3 : x.cat < a.cat
   ·by_cases h4 : x.prio < a.prio
    ·simp [h1,h2,h3,h4]
    ·have h5 : ¬ a.cat < x.cat := by omega
     simp [h1,h2,h3,h4,h5]
   ·have h5 : a.cat < x.cat := by omega
    by_cases h4 : x.prio < a.prio
    ·have h6 : ¬ a.prio < x.prio := by omega
     simp [h1,h2,h3,h4,h6]
    ·have h6 : a.prio < x.prio := by omega
     simp [h1,h2,h3,h4,h5,h6]
theorem qs1 (w : World) (c : Cf) (v : Vs) (h : CfAt w c v) (i : Nat) (x : Is) (hi : c.isrs[i]? = some x) (hlr : c.ress.length ≤ 8796093022208) (hls : c.msgs.length ≤ 8796093022208) :
  Calls Tryz.prog 165 #[.agg (cfC c v),I i] w fun e w' => e = .returned (I (isrE c i x)) ∧ Below w.heap.size w w' := by
 have hn : v.i.n = c.isrs.length := h.i.n
 have hlt : (i : Int) < v.i.n := by have := (List.getElem?_eq_some_iff.1 hi).1; omega
 have HI : Hid (i < c.isrs.length) := (List.getElem?_eq_some_iff.1 hi).1
 have hil : (i : Int) ≤ 9223372036854775807 := by have h1 := h.i.m; have h2 := h.i.c; unfold maxLen at h1; omega
 obtain ⟨g,off,s3,s4,e,hg,a0,a1,a2,a3,a4,r3,r4⟩ := qcm h hi
 have hne : g ≠ w.heap.size := by omega
 have hb := qa0 w
 have hb2 := fun o o' => (hb o).trans ((qa0 (w.alloc o) o').mono (hb o).size)
 have hcv : ∀ W : World,W.heap[w.heap.size]? = some (.cells (cfC c v) 47 (0,0)) → W.cell? ⟨w.heap.size,12,none⟩ = some (.slice v.r.a v.r.n v.r.c) ∧ W.cell? ⟨w.heap.size,16,none⟩ = some (.slice v.i.a v.i.n v.i.c) ∧ W.cell? ⟨w.heap.size,17,none⟩ = some (.slice v.s.a v.s.n v.s.c) := fun W hW => by
  obtain ⟨_,h10,h11,h12,h13,h14,h15,h16,h17⟩ := qao hW
  exact ⟨h12,h16,h17⟩
 have f16 : ∀ h : 16 < (cfC c v).size,(cfC c v)[16] = .slice v.i.a v.i.n v.i.c := fun _ => rfl
 have f12 : ∀ h : 12 < (cfC c v).size,(cfC c v)[12] = .slice v.r.a v.r.n v.r.c := fun _ => rfl
 have hs18 : (cfC c v).size = 18 := rfl
 generalize cfC c v = C at *
 replace f16 := f16 (by omega)
 replace f12 := f12 (by omega)
 rw [e] at f16
 have hst : (storeCells ⟨w.heap.size + 1,0,none⟩ #[S x.name,I x.cat,I x.prio, .slice s3.a s3.n s3.c, .slice s4.a s4.n s4.c].toList 0).run Tryz.prog ((w.alloc (.cells C 47)).alloc (.cells #[.string ⟨#[]⟩, .int .i64 0, .int .i64 0, .slice none 0 0, .slice none 0 0] 88)) = .ok () ((w.alloc (.cells C 47)).alloc (.cells #[S x.name,I x.cat,I x.prio, .slice s3.a s3.n s3.c, .slice s4.a s4.n s4.c] 88)) := by
  have := run_storeCells_new (P := Tryz.prog) (w.alloc (.cells C 47)) 88 #[.string ⟨#[]⟩, .int .i64 0, .int .i64 0, .slice none 0 0, .slice none 0 0] #[S x.name,I x.cat,I x.prio, .slice s3.a s3.n s3.c, .slice s4.a s4.n s4.c] (by kernel_rfl) rfl (by simp [Value.oneCell'])
  rwa [show (w.alloc (.cells C 47)).heap.size = w.heap.size + 1 by simp] at this
 have hbW : Below w.heap.size w ((w.alloc (.cells C 47)).alloc (.cells #[S x.name,I x.cat,I x.prio, .slice s3.a s3.n s3.c, .slice s4.a s4.n s4.c] 88)) := hb2 _ _
 have hV2 := qar w (.cells C 47) (.cells #[S x.name,I x.cat,I x.prio, .slice s3.a s3.n s3.c, .slice s4.a s4.n s4.c] 88)
 have hT2 := qaj w (.cells C 47) (.cells #[S x.name,I x.cat,I x.prio, .slice s3.a s3.n s3.c, .slice s4.a s4.n s4.c] 88)
 have HF : Hid (∀ W,Below ((w.alloc (.cells C 47)).alloc (.cells #[S x.name,I x.cat,I x.prio, .slice s3.a s3.n s3.c, .slice s4.a s4.n s4.c] 88)).heap.size ((w.alloc (.cells C 47)).alloc (.cells #[S x.name,I x.cat,I x.prio, .slice s3.a s3.n s3.c, .slice s4.a s4.n s4.c] 88)) W → (W.cell? ⟨w.heap.size,12,none⟩ = some (.slice v.r.a v.r.n v.r.c) ∧ W.cell? ⟨w.heap.size,16,none⟩ = some (.slice v.i.a v.i.n v.i.c) ∧ W.cell? ⟨w.heap.size,17,none⟩ = some (.slice v.s.a v.s.n v.s.c)) ∧ (W.cell? ⟨w.heap.size + 1,1,none⟩ = some (I x.cat) ∧ W.cell? ⟨w.heap.size + 1,2,none⟩ = some (I x.prio) ∧ W.cell? ⟨w.heap.size + 1,3,none⟩ = some (.slice s3.a s3.n s3.c) ∧ W.cell? ⟨w.heap.size + 1,4,none⟩ = some (.slice s4.a s4.n s4.c)) ∧ CfAt W c v ∧ Below w.heap.size w W ∧ w.heap.size + 1 < W.heap.size) := fun W hW => by
  have hc := hcv W ((hW.block _ (qa1 hV2)).trans hV2)
  have hT := (hW.block _ (qa1 hT2)).trans hT2
  have ht := fun i => cell_of_row W (w.heap.size + 1) i _ _ (0,0) hT
  exact ⟨hc,⟨ht 1,ht 2,ht 3,ht 4⟩,(h.below hbW).below hW,hbW.trans (hW.mono hbW.size),qa1 hT⟩
 have k3 : ∀ W,Below w.heap.size w W → Calls Tryz.prog 210 #[.slice s3.a s3.n s3.c,I v.r.n] W fun e w' => e = .returned (.bool (risF (-1) x.res v.r.n)) ∧ Below W.heap.size W w' := fun W hW => qbv W s3 x.res (r3.below hW (fun _ _ _ _ h => h)) v.r.n
 have k4 : ∀ W,Below w.heap.size w W → Calls Tryz.prog 210 #[.slice s4.a s4.n s4.c,I v.s.n] W fun e w' => e = .returned (.bool (risF (-1) x.msgs v.s.n)) ∧ Below W.heap.size W w' := fun W hW => qbv W s4 x.msgs (r4.below hW (fun _ _ _ _ h => h)) v.s.n
 have HNN : Hid (v.r.n = c.ress.length ∧ v.s.n = c.msgs.length) := ⟨h.r.n,h.s.n⟩
 have HN3 : Hid (s3.n = x.res.length) := r3.n
 have HN4 : Hid (s4.n = x.msgs.length) := r4.n
 have hc3 : s3.n ≤ s3.c := r3.c
 have hm3 : s3.c ≤ maxLen := r3.m
 have hc4 : s4.n ≤ s4.c := r4.c
 have hm4 : s4.c ≤ maxLen := r4.m
 unfold maxLen at hm3 hm4
 have HR3 : Hid (RowsAt w 1 intP s3 x.res) := r3
 obtain ⟨R,hR⟩ : ∃ R,R = isrE c i x := ⟨_,rfl⟩
 rw [← hR]
 unfold isrE at hR
 rw [← HNN.out.1, ← HNN.out.2, ← HN3.out, ← HN4.out] at hR
 have HR : Hid (R = _) := hR
 have HE16 : Hid (v.i.a = some ⟨g,off,none⟩) := e
 clear hR hi hn h e r3 r4 hcv hV2 hT2 hb
 have hA : x.cat < 1 ∨ (¬ x.cat < 1 ∧ x.cat > 2) ∨ (¬ x.cat < 1 ∧ ¬ x.cat > 2 ∧ x.prio < 64) ∨ (¬ x.cat < 1 ∧ ¬ x.cat > 2 ∧ ¬ x.prio < 64 ∧ x.prio > 127) ∨ (¬ x.cat < 1 ∧ ¬ x.cat > 2 ∧ ¬ x.prio < 64 ∧ ¬ x.prio > 127) := by omega
 rcases hA with p1 | ⟨p1,p2⟩ | ⟨p1,p2,p3⟩ | ⟨p1,p2,p3,p4⟩ | ⟨p1,p2,p3,p4⟩
 ·have HE : Hid (R = 74) := by show _ = _; rw [HR.out,if_pos (by simp [inR]; omega)]
  clear HR HF k3 k4
  go_enter Tryz.func165,Tryz.ntmps165
  go_wp2
  go_ret
  exact ⟨qa3 HE.out.symm,hbW⟩
 ·have HE : Hid (R = 74) := by show _ = _; rw [HR.out,if_pos (by simp [inR]; omega)]
  clear HR HF k3 k4
  go_enter Tryz.func165,Tryz.ntmps165
  go_wp2
  go_ret
  exact ⟨qa3 HE.out.symm,hbW⟩
 ·have HE : Hid (R = 74) := by show _ = _; rw [HR.out,if_pos (by simp [inR]; omega)]
  clear HR HF k3 k4
  go_enter Tryz.func165,Tryz.ntmps165
  go_wp2
  go_ret
  exact ⟨qa3 HE.out.symm,hbW⟩
 ·have HE : Hid (R = 74) := by show _ = _; rw [HR.out,if_pos (by simp [inR]; omega)]
  clear HR HF k3 k4
  go_enter Tryz.func165,Tryz.ntmps165
  go_wp2
  go_ret
  exact ⟨qa3 HE.out.symm,hbW⟩
 ·have HI1 : Hid ((inR x.cat 1 2 && inR x.prio 64 127) = true) := by show _ = _; simp [inR]; omega
  rw [if_neg (by rw [HI1.out]; decide)] at HR
  obtain ⟨b3,hb3⟩ : ∃ b,b = risF (-1) x.res v.r.n := ⟨_,rfl⟩
  obtain ⟨b4,hb4⟩ : ∃ b,b = risF (-1) x.msgs v.s.n := ⟨_,rfl⟩
  rw [← hb3] at k3 HR
  rw [← hb4] at k4 HR
  have HID : Hid (b3 = true → b4 = true → (∀ y ∈ x.res,isId y v.r.n = true) ∧ s3.n ≤ 8796093022208 ∧ s4.n ≤ 8796093022208) := fun q3 q4 => by
   have e3 : risF (-1) x.res v.r.n = true := by rw [← hb3]; exact q3
   have e4 : risF (-1) x.msgs v.s.n = true := by rw [← hb4]; exact q4
   have l3 := qe4 e3
   have l4 := qe4 e4
   have n3 := HN3.out
   have n4 := HN4.out
   have m3 := HNN.out.1
   have m4 := HNN.out.2
   exact ⟨qba e3,by omega,by omega⟩
  clear hb3 hb4 HI1
  have HbW : Hid (Below w.heap.size w ((w.alloc (.cells C 47)).alloc (.cells #[S x.name,I x.cat,I x.prio, .slice s3.a s3.n s3.c, .slice s4.a s4.n s4.c] 88))) := hbW
  have HK3 : Hid (∀ W,Below w.heap.size w W → Calls Tryz.prog 210 #[.slice s3.a s3.n s3.c,I v.r.n] W fun e w' => e = .returned (.bool b3) ∧ Below W.heap.size W w') := k3
  have HK4 : Hid (∀ W,Below w.heap.size w W → Calls Tryz.prog 210 #[.slice s4.a s4.n s4.c,I v.s.n] W fun e w' => e = .returned (.bool b4) ∧ Below W.heap.size W w') := k4
  clear k3 k4 hbW hb2
  cases b3 with
  | false =>
   have HE : Hid (R = 73) := by show _ = _; rw [HR.out,if_pos (by simp)]
   clear HR HID
   go_enter Tryz.func165,Tryz.ntmps165
   go_wp2_with (first | (go_at_call 210; refine (HK3.out _ HbW.out).mono ?_; rintro e w3 ⟨rfl,hB'⟩; have HB3 : Hid (Below ((w.alloc (.cells C 47)).alloc (.cells #[S x.name,I x.cat,I x.prio, .slice s3.a s3.n s3.c, .slice s4.a s4.n s4.c] 88)).heap.size ((w.alloc (.cells C 47)).alloc (.cells #[S x.name,I x.cat,I x.prio, .slice s3.a s3.n s3.c, .slice s4.a s4.n s4.c] 88)) w3) := hB'; clear hB'; obtain ⟨⟨c12,c16,c17⟩,⟨t1,t2,t3,t4⟩,hCf,hbw,hgw⟩ := HF.out _ HB3.out; have Hbw3 : Hid (Below w.heap.size w w3) := hbw; clear hCf hbw HK3))
   go_ret
   exact ⟨qa3 HE.out.symm,Hbw3.out⟩
  | true =>
   cases b4 with
   | false =>
    have HE : Hid (R = 73) := by show _ = _; rw [HR.out,if_pos (by simp)]
    clear HR HID
    go_enter Tryz.func165,Tryz.ntmps165
    go_wp2_with (first | (go_at_call 210; refine (HK3.out _ HbW.out).mono ?_; rintro e w3 ⟨rfl,hB'⟩; have HB3 : Hid (Below ((w.alloc (.cells C 47)).alloc (.cells #[S x.name,I x.cat,I x.prio, .slice s3.a s3.n s3.c, .slice s4.a s4.n s4.c] 88)).heap.size ((w.alloc (.cells C 47)).alloc (.cells #[S x.name,I x.cat,I x.prio, .slice s3.a s3.n s3.c, .slice s4.a s4.n s4.c] 88)) w3) := hB'; clear hB'; obtain ⟨⟨c12,c16,c17⟩,⟨t1,t2,t3,t4⟩,hCf,hbw,hgw⟩ := HF.out _ HB3.out; have Hbw3 : Hid (Below w.heap.size w w3) := hbw; clear hCf hbw HK3) | (go_at_call 210; refine (HK4.out _ Hbw3.out).mono ?_; clear c12 c16 c17 t1 t2 t3 t4 hgw; rintro e w4 ⟨rfl,hB'⟩; have HB4 : Hid (Below ((w.alloc (.cells C 47)).alloc (.cells #[S x.name,I x.cat,I x.prio, .slice s3.a s3.n s3.c, .slice s4.a s4.n s4.c] 88)).heap.size ((w.alloc (.cells C 47)).alloc (.cells #[S x.name,I x.cat,I x.prio, .slice s3.a s3.n s3.c, .slice s4.a s4.n s4.c] 88)) w4) := HB3.out.trans (hB'.mono HB3.out.size); clear hB'; obtain ⟨⟨c12,c16,c17⟩,⟨t1,t2,t3,t4⟩,hCf,hbw,hgw⟩ := HF.out _ HB4.out; have Hbw4 : Hid (Below w.heap.size w w4) := hbw; clear hCf hbw HK4))
    go_ret
    exact ⟨qa3 HE.out.symm,Hbw4.out⟩
   | true =>
    rw [if_neg (by decide)] at HR
    obtain ⟨hidr,hn3,hn4⟩ := HID.out rfl rfl
    have HIDR : Hid (∀ y ∈ x.res,isId y v.r.n = true) := hidr
    clear hidr HID
    go_enter Tryz.func165,Tryz.ntmps165
    go_wp2_with (first | (go_at_call 210; refine (HK3.out _ HbW.out).mono ?_; rintro e w3 ⟨rfl,hB'⟩; have HB3 : Hid (Below ((w.alloc (.cells C 47)).alloc (.cells #[S x.name,I x.cat,I x.prio, .slice s3.a s3.n s3.c, .slice s4.a s4.n s4.c] 88)).heap.size ((w.alloc (.cells C 47)).alloc (.cells #[S x.name,I x.cat,I x.prio, .slice s3.a s3.n s3.c, .slice s4.a s4.n s4.c] 88)) w3) := hB'; clear hB'; obtain ⟨⟨c12,c16,c17⟩,⟨t1,t2,t3,t4⟩,hCf,hbw,hgw⟩ := HF.out _ HB3.out; have Hbw3 : Hid (Below w.heap.size w w3) := hbw; clear hCf hbw HK3) | (go_at_call 210; refine (HK4.out _ Hbw3.out).mono ?_; clear c12 c16 c17 t1 t2 t3 t4 hgw; rintro e w4 ⟨rfl,hB'⟩; have HB4 : Hid (Below ((w.alloc (.cells C 47)).alloc (.cells #[S x.name,I x.cat,I x.prio, .slice s3.a s3.n s3.c, .slice s4.a s4.n s4.c] 88)).heap.size ((w.alloc (.cells C 47)).alloc (.cells #[S x.name,I x.cat,I x.prio, .slice s3.a s3.n s3.c, .slice s4.a s4.n s4.c] 88)) w4) := HB3.out.trans (hB'.mono HB3.out.size); clear hB'; obtain ⟨⟨c12,c16,c17⟩,⟨t1,t2,t3,t4⟩,hCf,hbw,hgw⟩ := HF.out _ HB4.out; have Hbw4 : Hid (Below w.heap.size w w4) := hbw; clear hCf hbw HK4))
    clear c12 c16 c17 t1 t2 t3 t4 hgw hst a0 a1 a2 a3 a4 f16 f12
    go_loopw [6] (fun kv wq => ∃ k : Nat,k ≤ s3.n ∧ kv = .int .i64 k ∧ Hid (intN c (x.res.take k) = 0 ∧ Below ((w.alloc (.cells C 47)).alloc (.cells #[S x.name,I x.cat,I x.prio, .slice s3.a s3.n s3.c, .slice s4.a s4.n s4.c] 88)).heap.size ((w.alloc (.cells C 47)).alloc (.cells #[S x.name,I x.cat,I x.prio, .slice s3.a s3.n s3.c, .slice s4.a s4.n s4.c] 88)) wq)) (fun kv _ => s3.n - (intOf kv).toNat)
    case atStart => exact ⟨0,by omega,rfl,rfl,HB4.out⟩
    case round =>
     clear HB4 HB3 Hbw3 Hbw4
     obtain ⟨k,hk,rfl,HK⟩ := hrel
     obtain ⟨⟨c12,c16,c17⟩,⟨t1,t2,t3,t4⟩,hCf,hbw,hgw⟩ := HF.out _ HK.out.2
     by_cases hkl : k < s3.n
     ·clear c16 c17 t1 t2 t4 hgw
      have hkl' : (k : Int) < s3.n := by omega
      have hkx : k < x.res.length := by rw [← HN3.out]; exact hkl
      obtain ⟨rv,hrv⟩ : ∃ y,x.res[k]? = some y := ⟨_,List.getElem?_eq_getElem hkx⟩
      have hbd : 0 ≤ rv ∧ rv < v.r.n := by simpa [isId] using HIDR.out rv (List.mem_of_getElem? hrv)
      obtain ⟨g5,o5,e5,hg5,b5'⟩ := qau (HR3.out.below hbw (fun _ _ _ _ h => h)) hrv
      obtain ⟨rn,rfl⟩ := Int.eq_ofNat_of_zero_le hbd.1
      have hrn : (rn : Int) < v.r.n := hbd.2
      obtain ⟨y,hy⟩ : ∃ y,c.ress[rn]? = some y := ⟨_,List.getElem?_eq_getElem (by have := HNN.out.1; omega)⟩
      obtain ⟨gr,og,er,hgr,d0,d1,d2⟩ := qb5 hCf hy
      have HS : Hid (intN c (x.res.take (k + 1)) = (if y.kind == 3 then 1 else 0)) := by
       show _ = _
       rw [qdt c _ k _ hrv,HK.out.1,Nat.zero_add]
       simp [rkind,hy]
      have Hbw : Hid (Below w.heap.size w _) := hbw
      have HME : Hid ((rn : Int) ∈ x.res) := List.mem_of_getElem? hrv
      have HRK : Hid (rkind c (rn : Int) = y.kind) := by show _ = _; simp [rkind,hy]
      rw [e5] at t3
      rw [er] at c12
      clear hrv hbd e5 er hy hkx hCf hbw d0 d2
      cases hk3 : y.kind == 3 with
      | true =>
       have HE : Hid (R = 70) := by
        show _ = _
        rw [HR.out,if_pos ?_]
        unfold intN
        exact List.length_pos_of_mem (List.mem_filter.2 ⟨HME.out,by rw [HRK.out]; exact hk3⟩)
       clear HR HS HME HRK
       go_wp2
       go_big_quiet (fail)
       go_wp2
       go_ret
       exact ⟨qa3 HE.out.symm,below_drewN Hbw.out _⟩
      | false =>
       have HS2 : Hid (intN c (x.res.take (k + 1)) = 0) := by show _ = _; rw [HS.out,hk3]; rfl
       clear HR HS HME HRK
       go_wp2
       go_big_quiet (fail)
       go_wp2
       go_roundw
       case rel => exact ⟨k + 1,by omega,by go_num,HS2.out,below_drewN HK.out.2 _⟩
       case measure => simp [intOf]; omega
     ·obtain rfl : k = s3.n := by omega
      have hkl' : ¬ ((s3.n : Nat) : Int) < (s3.n : Nat) := by omega
      have HM0 : Hid (¬ 0 < intN c x.res) := by
       show ¬ _
       have := HK.out.1
       rw [List.take_of_length_le (by rw [HN3.out]; exact Nat.le_refl _)] at this
       omega
      rw [if_neg HM0.out] at HR
      clear HM0
      have Hbw : Hid (Below w.heap.size w _) := hbw
      clear hbw hCf
      have hsp : (x.cat == 1) = true ∧ 0 < s3.n + s4.n ∨ ((x.cat == 1) = true ∧ ¬ 0 < s3.n + s4.n) ∨ (x.cat == 1) = false := by
       cases hx : x.cat == 1
       ·exact .inr (.inr rfl)
       ·by_cases h0 : 0 < s3.n + s4.n
        ·exact .inl ⟨rfl,h0⟩
        ·exact .inr (.inl ⟨rfl,h0⟩)
      rcases hsp with ⟨hx,h0⟩ | hsp
      ·have h0' : (s3.n : Int) + (s4.n : Int) > 0 := by omega
       have HE : Hid (R = 70) := by show _ = _; rw [HR.out,if_pos (by rw [hx]; simpa using h0)]
       clear HR
       go_wp2
       go_ret
       exact ⟨qa3 HE.out.symm,Hbw.out⟩
      ·have hno : (x.cat == 1 && decide (0 < s3.n + s4.n)) = false := by
        rcases hsp with ⟨hx,h0⟩ | hx
        ·rw [hx]; simp; omega
        ·rw [hx]; rfl
       rw [if_neg (by rw [hno]; decide)] at HR
       clear hno
       have hsp2 : ((x.cat == 1) = true ∧ ¬ (s3.n : Int) + (s4.n : Int) > 0) ∨ (x.cat == 1) = false := by
        rcases hsp with ⟨hx,h0⟩ | hx
        ·exact .inl ⟨hx,by omega⟩
        ·exact .inr hx
       clear hsp
       rcases hsp2 with ⟨hx,h0⟩ | hx <;>
       (go_wp2
        clear c12 c16 c17 t1 t2 t3 t4 hgw
        go_loopw [7,8] (fun kv _ wq => ∃ k : Nat,k ≤ i ∧ kv = .int .i64 k ∧ Hid ((c.isrs.take k).all (fun a => !qan a x) = true ∧ Below ((w.alloc (.cells C 47)).alloc (.cells #[S x.name,I x.cat,I x.prio, .slice s3.a s3.n s3.c, .slice s4.a s4.n s4.c] 88)).heap.size ((w.alloc (.cells C 47)).alloc (.cells #[S x.name,I x.cat,I x.prio, .slice s3.a s3.n s3.c, .slice s4.a s4.n s4.c] 88)) wq)) (fun kv _ _ => i - (intOf kv).toNat)
        case atStart => exact ⟨0,by omega,rfl,by simp,HK.out.2⟩
        case round =>
         clear HK Hbw
         obtain ⟨k,hk,rfl,HK⟩ := hrel
         obtain ⟨⟨c12,c16,c17⟩,⟨t1,t2,t3,t4⟩,hCf,hbw,hgw⟩ := HF.out _ HK.out.2
         clear c12 c17 t3 t4
         have Hbw : Hid (Below w.heap.size w _) := hbw
         by_cases hkl : k < i
         ·have hkm : (k : Int) < i := by omega
          have hkx : k < c.isrs.length := by have := HI.out; omega
          have hkn : (k : Int) < v.i.n := by omega
          obtain ⟨y,hy⟩ : ∃ y,c.isrs[k]? = some y := ⟨_,List.getElem?_eq_getElem hkx⟩
          obtain ⟨g',o',t3,t4,e',hg',b0,b1,b2,b3,b4,_,_⟩ := qcm hCf hy
          have hng : g' ≠ wr.heap.size := Nat.ne_of_lt hg'
          have hwn : w.heap.size ≠ wr.heap.size := by omega
          have hw1 : w.heap.size + 1 ≠ wr.heap.size := by omega
          have hst : (storeCells ⟨wr.heap.size,0,none⟩ #[S y.name,I y.cat,I y.prio, .slice t3.a t3.n t3.c, .slice t4.a t4.n t4.c].toList 0).run Tryz.prog (wr.alloc (.cells #[.string ⟨#[]⟩, .int .i64 0, .int .i64 0, .slice none 0 0, .slice none 0 0] 88)) = .ok () (wr.alloc (.cells #[S y.name,I y.cat,I y.prio, .slice t3.a t3.n t3.c, .slice t4.a t4.n t4.c] 88)) :=
           run_storeCells_new (P := Tryz.prog) wr 88 #[.string ⟨#[]⟩, .int .i64 0, .int .i64 0, .slice none 0 0, .slice none 0 0] #[S y.name,I y.cat,I y.prio, .slice t3.a t3.n t3.c, .slice t4.a t4.n t4.c] (by kernel_rfl) rfl (by simp [Value.oneCell'])
          have HT := qbu (fun a => !qan a x) c.isrs k y hy
          have HT2 : Hid ((c.isrs.take (k + 1)).all (fun a => !qan a x) = !qan y x) := by show _ = _; rw [HT,HK.out.1,Bool.true_and]
          have HC : Hid (qan y x = (y.prio == x.prio || (decide (x.cat < y.cat) && decide (x.prio < y.prio)) || (decide (y.cat < x.cat) && decide (y.prio < x.prio)))) := qs0 y x
          have HFx : Hid (qan y x = true → R = 70) := fun hc => by rw [HR.out,if_neg (by rw [qf4 _ _ i (k + 1) (by omega) (by rw [HT2.out,hc]; rfl)]; decide)]
          have Hal : Hid (∀ o,Below w.heap.size w (wr.alloc o) ∧ Below ((w.alloc (.cells C 47)).alloc (.cells #[S x.name,I x.cat,I x.prio, .slice s3.a s3.n s3.c, .slice s4.a s4.n s4.c] 88)).heap.size ((w.alloc (.cells C 47)).alloc (.cells #[S x.name,I x.cat,I x.prio, .slice s3.a s3.n s3.c, .slice s4.a s4.n s4.c] 88)) (wr.alloc o)) := fun o => ⟨Hbw.out.trans ((qa0 wr o).mono Hbw.out.size),HK.out.2.trans ((qa0 wr o).mono HK.out.2.size)⟩
          rw [e'] at c16
          clear hy hkx e' HT HR hCf hbw HF
          generalize qan y x = K at *
          have hsp : (y.prio == x.prio) = true ∨ ((y.prio == x.prio) = false ∧ y.cat > x.cat ∧ y.prio > x.prio) ∨ ((y.prio == x.prio) = false ∧ y.cat > x.cat ∧ ¬ y.prio > x.prio) ∨ ((y.prio == x.prio) = false ∧ ¬ y.cat > x.cat ∧ y.cat < x.cat ∧ y.prio < x.prio) ∨ ((y.prio == x.prio) = false ∧ ¬ y.cat > x.cat ∧ y.cat < x.cat ∧ ¬ y.prio < x.prio) ∨ ((y.prio == x.prio) = false ∧ ¬ y.cat > x.cat ∧ ¬ y.cat < x.cat) := by
           cases hp : y.prio == x.prio
           ·right
            by_cases u1 : y.cat > x.cat
            ·by_cases u2 : y.prio > x.prio
             ·exact .inl ⟨rfl,u1,u2⟩
             ·exact .inr (.inl ⟨rfl,u1,u2⟩)
            ·by_cases u3 : y.cat < x.cat
             ·by_cases u4 : y.prio < x.prio
              ·exact .inr (.inr (.inl ⟨rfl,u1,u3,u4⟩))
              ·exact .inr (.inr (.inr (.inl ⟨rfl,u1,u3,u4⟩)))
             ·exact .inr (.inr (.inr (.inr ⟨rfl,u1,u3⟩)))
           ·exact .inl rfl
          rcases hsp with hp | ⟨hp,u1,u2⟩ | ⟨hp,u1,u2⟩ | ⟨hp,u1,u3,u4⟩ | ⟨hp,u1,u3,u4⟩ | ⟨hp,u1,u3⟩
          ·have HE : Hid (R = 70) := HFx.out (by rw [HC.out,hp]; rfl)
           clear HFx HC HT2
           go_wp2
           go_ret
           exact ⟨qa3 HE.out.symm,(Hal.out _).1⟩
          ·have HE : Hid (R = 70) := HFx.out (by rw [HC.out,hp]; simp [show x.cat < y.cat from u1,show x.prio < y.prio from u2])
           clear HFx HC HT2
           go_wp2
           go_ret
           exact ⟨qa3 HE.out.symm,(Hal.out _).1⟩
          ·have u5 : ¬ y.cat < x.cat := by omega
           have HN : Hid ((c.isrs.take (k + 1)).all (fun a => !qan a x) = true) := by show _ = _; rw [HT2.out,HC.out,hp]; simp [show ¬ x.prio < y.prio from u2,u5]
           clear HFx HC HT2
           go_wp2
           go_roundw
           case rel => exact ⟨k + 1,by omega,by go_num,HN.out,(Hal.out _).2⟩
           case measure => simp [intOf]; omega
          ·have HE : Hid (R = 70) := HFx.out (by rw [HC.out,hp]; simp [u3,u4])
           clear HFx HC HT2
           go_wp2
           go_ret
           exact ⟨qa3 HE.out.symm,(Hal.out _).1⟩
          ·have HN : Hid ((c.isrs.take (k + 1)).all (fun a => !qan a x) = true) := by show _ = _; rw [HT2.out,HC.out,hp]; simp [show ¬ x.cat < y.cat from u1,u4]
           clear HFx HC HT2
           go_wp2
           go_roundw
           case rel => exact ⟨k + 1,by omega,by go_num,HN.out,(Hal.out _).2⟩
           case measure => simp [intOf]; omega
          ·have HN : Hid ((c.isrs.take (k + 1)).all (fun a => !qan a x) = true) := by show _ = _; rw [HT2.out,HC.out,hp]; simp [show ¬ x.cat < y.cat from u1,u3]
           clear HFx HC HT2
           go_wp2
           go_roundw
           case rel => exact ⟨k + 1,by omega,by go_num,HN.out,(Hal.out _).2⟩
           case measure => simp [intOf]; omega
         ·obtain rfl : k = i := by omega
          have hkm : ¬ ((k : Nat) : Int) < (k : Nat) := by omega
          have HE : Hid (R = 0) := by show _ = _; rw [HR.out,if_pos HK.out.1]
          clear hCf hbw
          go_wp2
          go_ret
          exact ⟨qa3 HE.out.symm,Hbw.out⟩)
theorem qs2 {x : Ms} (h : inR x.kind 1 3 = false) : msgF x = false := by
 unfold msgF
 have h1 : (x.kind == 1) = false := by cases hk : x.kind == 1; rfl; (have : x.kind = 1 := by simpa using hk); rw [this] at h; cases h
 have h2 : (x.kind == 2) = false := by cases hk : x.kind == 2; rfl; (have : x.kind = 2 := by simpa using hk); rw [this] at h; cases h
 have h3 : (x.kind == 3) = false := by cases hk : x.kind == 3; rfl; (have : x.kind = 3 := by simpa using hk); rw [this] at h; cases h
 rw [h1,h2,h3]
 rfl
theorem qs3 (w : World) (c : Cf) (v : Vs) (h : CfAt w c v) (i : Nat) (x : Ms) (hi : c.msgs[i]? = some x) (hk : inR x.kind 1 3 = false) :
  Calls Tryz.prog 166 #[.agg (cfC c v),I i] w fun e w' => e = .returned (I (msgE c x)) ∧ Below w.heap.size w w' := by
 have hn : v.s.n = c.msgs.length := h.s.n
 have hlt : (i : Int) < v.s.n := by have := (List.getElem?_eq_some_iff.1 hi).1; omega
 obtain ⟨g,off,e,hg,a0,a1,a2,a3,a4,a5,a6,a7,a8,a9⟩ := qbz h hi
 have hne : g ≠ w.heap.size := by omega
 have hgl : g < w.heap.size + 1 := by omega
 have hne1 : g ≠ w.heap.size + 1 := by omega
 have hb := qa0 w
 have hb2 := fun o o' => (hb o).trans ((qa0 (w.alloc o) o').mono (hb o).size)
 have HN : Hid (v.s.n = c.msgs.length) := h.s.n
 have f17 : ∀ h : 17 < (cfC c v).size,(cfC c v)[17] = .slice v.s.a v.s.n v.s.c := fun _ => rfl
 have hs18 : (cfC c v).size = 18 := rfl
 generalize cfC c v = C at *
 replace f17 := f17 (by omega)
 rw [e] at f17
 have hst : (storeCells ⟨w.heap.size + 1,0,none⟩ #[S x.name,I x.kind,I x.len,I x.frm, .int .u64 (x.init : Int),I x.queue,I x.ac.kind,I x.ac.task,I x.ac.event,S x.ac.name].toList 0).run Tryz.prog ((w.alloc (.cells C 47)).alloc (.cells #[.string ⟨#[]⟩, .int .i64 0, .int .i64 0, .int .i64 0, .int .u64 0, .int .i64 0, .int .i64 0, .int .i64 0, .int .i64 0, .string ⟨#[]⟩] 114)) = .ok () ((w.alloc (.cells C 47)).alloc (.cells #[S x.name,I x.kind,I x.len,I x.frm, .int .u64 (x.init : Int),I x.queue,I x.ac.kind,I x.ac.task,I x.ac.event,S x.ac.name] 114)) := by
  have := run_storeCells_new (P := Tryz.prog) (w.alloc (.cells C 47)) 114 #[.string ⟨#[]⟩, .int .i64 0, .int .i64 0, .int .i64 0, .int .u64 0, .int .i64 0, .int .i64 0, .int .i64 0, .int .i64 0, .string ⟨#[]⟩] #[S x.name,I x.kind,I x.len,I x.frm, .int .u64 (x.init : Int),I x.queue,I x.ac.kind,I x.ac.task,I x.ac.event,S x.ac.name] (by kernel_rfl) rfl (by simp [Value.oneCell'])
  rwa [show (w.alloc (.cells C 47)).heap.size = w.heap.size + 1 by simp] at this
 obtain ⟨R,hR⟩ : ∃ R,R = msgE c x := ⟨_,rfl⟩
 rw [← hR]
 unfold msgE at hR
 rw [← HN.out] at hR
 have HR : Hid (R = _) := hR
 have HbW : Hid (Below w.heap.size w ((w.alloc (.cells C 47)).alloc (.cells #[S x.name,I x.kind,I x.len,I x.frm, .int .u64 (x.init : Int),I x.queue,I x.ac.kind,I x.ac.task,I x.ac.event,S x.ac.name] 114))) := hb2 _ _
 clear hR hi hn
 have HE : Hid (R = 74) := by show _ = _; rw [HR.out,qs2 hk]; rfl
 clear HR
 have hA : x.kind < 1 ∨ (¬ x.kind < 1 ∧ x.kind > 3) := by
  have : ¬ (1 ≤ x.kind ∧ x.kind ≤ 3) := by simpa [inR] using hk
  omega
 clear hk
 rcases hA with p1 | ⟨p1,p2⟩
 ·go_enter Tryz.func166,Tryz.ntmps166
  go_wp2
  go_ret
  exact ⟨qa3 HE.out.symm,HbW.out⟩
 ·go_enter Tryz.func166,Tryz.ntmps166
  go_wp2
  go_ret
  exact ⟨qa3 HE.out.symm,HbW.out⟩
theorem qpj (w : World) (c : Cf) (v : Vs) (h : CfAt w c v) (i : Nat) (x : Ms) (hi : c.msgs[i]? = some x) (hk : x.kind = 1) :
  Calls Tryz.prog 166 #[.agg (cfC c v),I i] w fun e w' => e = .returned (I (msgE c x)) ∧ Below w.heap.size w w' := by
 have hn : v.s.n = c.msgs.length := h.s.n
 have hlt : (i : Int) < v.s.n := by have := (List.getElem?_eq_some_iff.1 hi).1; omega
 obtain ⟨g,off,e,hg,a0,a1,a2,a3,a4,a5,a6,a7,a8,a9⟩ := qbz h hi
 have hne : g ≠ w.heap.size := by omega
 have hgl : g < w.heap.size + 1 := by omega
 have hne1 : g ≠ w.heap.size + 1 := by omega
 have hb := qa0 w
 have hb2 := fun o o' => (hb o).trans ((qa0 (w.alloc o) o').mono (hb o).size)
 have HN : Hid (v.s.n = c.msgs.length) := h.s.n
 have f17 : ∀ h : 17 < (cfC c v).size,(cfC c v)[17] = .slice v.s.a v.s.n v.s.c := fun _ => rfl
 have hs18 : (cfC c v).size = 18 := rfl
 generalize cfC c v = C at *
 replace f17 := f17 (by omega)
 rw [e] at f17
 have hst : (storeCells ⟨w.heap.size + 1,0,none⟩ #[S x.name,I x.kind,I x.len,I x.frm, .int .u64 (x.init : Int),I x.queue,I x.ac.kind,I x.ac.task,I x.ac.event,S x.ac.name].toList 0).run Tryz.prog ((w.alloc (.cells C 47)).alloc (.cells #[.string ⟨#[]⟩, .int .i64 0, .int .i64 0, .int .i64 0, .int .u64 0, .int .i64 0, .int .i64 0, .int .i64 0, .int .i64 0, .string ⟨#[]⟩] 114)) = .ok () ((w.alloc (.cells C 47)).alloc (.cells #[S x.name,I x.kind,I x.len,I x.frm, .int .u64 (x.init : Int),I x.queue,I x.ac.kind,I x.ac.task,I x.ac.event,S x.ac.name] 114)) := by
  have := run_storeCells_new (P := Tryz.prog) (w.alloc (.cells C 47)) 114 #[.string ⟨#[]⟩, .int .i64 0, .int .i64 0, .int .i64 0, .int .u64 0, .int .i64 0, .int .i64 0, .int .i64 0, .int .i64 0, .string ⟨#[]⟩] #[S x.name,I x.kind,I x.len,I x.frm, .int .u64 (x.init : Int),I x.queue,I x.ac.kind,I x.ac.task,I x.ac.event,S x.ac.name] (by kernel_rfl) rfl (by simp [Value.oneCell'])
  rwa [show (w.alloc (.cells C 47)).heap.size = w.heap.size + 1 by simp] at this
 obtain ⟨R,hR⟩ : ∃ R,R = msgE c x := ⟨_,rfl⟩
 rw [← hR]
 unfold msgE at hR
 rw [← HN.out] at hR
 have HR : Hid (R = _) := hR
 have HbW : Hid (Below w.heap.size w ((w.alloc (.cells C 47)).alloc (.cells #[S x.name,I x.kind,I x.len,I x.frm, .int .u64 (x.init : Int),I x.queue,I x.ac.kind,I x.ac.task,I x.ac.event,S x.ac.name] 114))) := hb2 _ _
 clear hR hi hn
 have HB : Hid (msgF x = (qcw x.len && x.frm == 0 && (x.init : Int) == 0 && x.queue == 0)) := by show _ = _; rw [msgF,hk]; rfl
 have HR2 : Hid (R = if (qcw x.len && x.frm == 0 && (x.init : Int) == 0 && x.queue == 0 && (inR x.ac.kind 0 0 && qaf x.ac)) = true then 0 else 74) := by
  show _ = _
  rw [HR.out,HB.out,hk]
  generalize (qcw x.len && x.frm == 0 && (x.init : Int) == 0 && x.queue == 0) = b
  generalize (inR x.ac.kind 0 0 && qaf x.ac) = b'
  cases b <;> cases b' <;> rfl
 clear HR HB
 rw [hk] at a1 hst HbW
 clear hk
 generalize (x.init : Int) = ini at *
 have hA : (x.ac.kind == 0) = false ∨ ((x.ac.kind == 0) = true ∧ (x.ac.task == 0) = false) ∨ ((x.ac.kind == 0) = true ∧ (x.ac.task == 0) = true ∧ (x.ac.event == 0) = false) ∨ ((x.ac.kind == 0) = true ∧ (x.ac.task == 0) = true ∧ (x.ac.event == 0) = true) := by
  cases x.ac.kind == 0 <;> cases x.ac.task == 0 <;> cases x.ac.event == 0 <;> simp
 have HAb : Hid ((inR x.ac.kind 0 0 && qaf x.ac) = (x.ac.kind == 0 && x.ac.task == 0 && x.ac.event == 0 && x.ac.name.isEmpty)) := by
  show _ = _
  by_cases h0 : x.ac.kind = 0
  ·unfold qaf uT uE uN inR
   simp [h0,Bool.and_assoc]
  ·have : inR x.ac.kind 0 0 = false := by simp [inR]; omega
   rw [this]
   simp [h0]
 rw [HAb.out] at HR2
 clear HAb
 have hL : qcw x.len = false ∧ (x.len == 1) = false ∧ (x.len == 2) = false ∧ (x.len == 4) = false ∧ (x.len == 8) = false ∨ qcw x.len = true ∧ ((x.len == 1) = true ∨ ((x.len == 1) = false ∧ (x.len == 2) = true) ∨ ((x.len == 1) = false ∧ (x.len == 2) = false ∧ (x.len == 4) = true) ∨ ((x.len == 1) = false ∧ (x.len == 2) = false ∧ (x.len == 4) = false ∧ (x.len == 8) = true)) := by
  unfold qcw
  cases x.len == 1 <;> cases x.len == 2 <;> cases x.len == 4 <;> cases x.len == 8 <;> simp
 rcases hL with ⟨hl,l1,l2,l4,l8⟩ | ⟨hl,hL⟩
 ·have HE : Hid (R = 74) := by show _ = _; rw [HR2.out,hl]; rfl
  have m1 : (x.len != 1) = true := by simp only [bne,l1]; rfl
  have m2 : (x.len != 2) = true := by simp only [bne,l2]; rfl
  have m4 : (x.len != 4) = true := by simp only [bne,l4]; rfl
  have m8 : (x.len != 8) = true := by simp only [bne,l8]; rfl
  clear HR2 hl hA
  go_enter Tryz.func166,Tryz.ntmps166
  go_wp2
  go_ret
  exact ⟨qa3 HE.out.symm,HbW.out⟩
 ·rw [hl,Bool.true_and] at HR2
  clear hl
  have HX : Hid ((x.len != 1) = false ∨ ((x.len != 1) = true ∧ (x.len != 2) = false) ∨ ((x.len != 1) = true ∧ (x.len != 2) = true ∧ (x.len != 4) = false) ∨ ((x.len != 1) = true ∧ (x.len != 2) = true ∧ (x.len != 4) = true ∧ (x.len != 8) = false)) := by
   show _ ∨ _
   rcases hL with l1 | ⟨l1,l2⟩ | ⟨l1,l2,l4⟩ | ⟨l1,l2,l4,l8⟩
   ·exact .inl (by simp only [bne,l1]; rfl)
   ·exact .inr (.inl ⟨by simp only [bne,l1]; rfl,by simp only [bne,l2]; rfl⟩)
   ·exact .inr (.inr (.inl ⟨by simp only [bne,l1]; rfl,by simp only [bne,l2]; rfl,by simp only [bne,l4]; rfl⟩))
   ·exact .inr (.inr (.inr ⟨by simp only [bne,l1]; rfl,by simp only [bne,l2]; rfl,by simp only [bne,l4]; rfl,by simp only [bne,l8]; rfl⟩))
  clear hL
  cases hf : x.frm == 0 with
  | false =>
   have hf' : (x.frm != 0) = true := by simp only [bne,hf]; rfl
   have HE : Hid (R = 74) := by show _ = _; rw [HR2.out,hf]; simp
   clear HR2 hA
   rcases HX.out with m1 | ⟨m1,m2⟩ | ⟨m1,m2,m4⟩ | ⟨m1,m2,m4,m8⟩ <;>
   (clear HX
    go_enter Tryz.func166,Tryz.ntmps166
    go_wp2
    go_ret
    exact ⟨qa3 HE.out.symm,HbW.out⟩)
  | true =>
   have hf' : (x.frm != 0) = false := by simp only [bne,hf]; rfl
   rw [hf] at HR2
   cases hn0 : ini == 0 with
   | false =>
    have hn0' : (ini != 0) = true := by simp only [bne,hn0]; rfl
    have HE : Hid (R = 74) := by show _ = _; rw [HR2.out,hn0]; simp
    clear HR2 hA
    rcases HX.out with m1 | ⟨m1,m2⟩ | ⟨m1,m2,m4⟩ | ⟨m1,m2,m4,m8⟩ <;>
    (clear HX
     go_enter Tryz.func166,Tryz.ntmps166
     go_wp2
     go_ret
     exact ⟨qa3 HE.out.symm,HbW.out⟩)
   | true =>
    have hn0' : (ini != 0) = false := by simp only [bne,hn0]; rfl
    rw [hn0] at HR2
    cases hq0 : x.queue == 0 with
    | false =>
     have hq0' : (x.queue != 0) = true := by simp only [bne,hq0]; rfl
     have HE : Hid (R = 74) := by show _ = _; rw [HR2.out,hq0]; simp
     clear HR2 hA
     rcases HX.out with m1 | ⟨m1,m2⟩ | ⟨m1,m2,m4⟩ | ⟨m1,m2,m4,m8⟩ <;>
     (clear HX
      go_enter Tryz.func166,Tryz.ntmps166
      go_wp2
      go_ret
      exact ⟨qa3 HE.out.symm,HbW.out⟩)
    | true =>
     have hq0' : (x.queue != 0) = false := by simp only [bne,hq0]; rfl
     rw [hq0] at HR2
     rcases hA with k0 | ⟨k0,t0⟩ | ⟨k0,t0,e0⟩ | ⟨k0,t0,e0⟩
     ·have HE : Hid (R = 74) := by show _ = _; rw [HR2.out,k0]; simp
      clear HR2
      rcases HX.out with m1 | ⟨m1,m2⟩ | ⟨m1,m2,m4⟩ | ⟨m1,m2,m4,m8⟩ <;>
      (clear HX
       go_enter Tryz.func166,Tryz.ntmps166
       go_wp2
       go_ret
       exact ⟨qa3 HE.out.symm,HbW.out⟩)
     ·have HE : Hid (R = 74) := by show _ = _; rw [HR2.out,k0,t0]; simp
      clear HR2
      rcases HX.out with m1 | ⟨m1,m2⟩ | ⟨m1,m2,m4⟩ | ⟨m1,m2,m4,m8⟩ <;>
      (clear HX
       go_enter Tryz.func166,Tryz.ntmps166
       go_wp2
       go_ret
       exact ⟨qa3 HE.out.symm,HbW.out⟩)
     ·have HE : Hid (R = 74) := by show _ = _; rw [HR2.out,k0,t0,e0]; simp
      clear HR2
      rcases HX.out with m1 | ⟨m1,m2⟩ | ⟨m1,m2,m4⟩ | ⟨m1,m2,m4,m8⟩ <;>
      (clear HX
       go_enter Tryz.func166,Tryz.ntmps166
       go_wp2
       go_ret
       exact ⟨qa3 HE.out.symm,HbW.out⟩)
     ·cases hnm : x.ac.name with
      | nil =>
       have HE : Hid (R = 0) := by show _ = _; rw [HR2.out,k0,t0,e0,hnm]; simp
       rw [hnm] at a9 hst HbW
       clear HR2 hnm
       rcases HX.out with m1 | ⟨m1,m2⟩ | ⟨m1,m2,m4⟩ | ⟨m1,m2,m4,m8⟩ <;>
       (clear HX
        go_enter Tryz.func166,Tryz.ntmps166
        go_wp2
        go_ret
        exact ⟨qa3 HE.out.symm,HbW.out⟩)
      | cons d r =>
       have HE : Hid (R = 74) := by show _ = _; rw [HR2.out,k0,t0,e0,hnm]; simp
       rw [hnm] at a9 hst HbW
       clear HR2 hnm
       rcases HX.out with m1 | ⟨m1,m2⟩ | ⟨m1,m2,m4⟩ | ⟨m1,m2,m4,m8⟩ <;>
       (clear HX
        go_enter Tryz.func166,Tryz.ntmps166
        go_wp2
        go_ret
        exact ⟨qa3 HE.out.symm,HbW.out⟩)
theorem qkn (x m : Nat) (h : m < 8) : fitI x (m : Int) = ((x : Int) / 2 ^ (8 * m) == 0) := by
 unfold fitI
 by_cases h0 : m = 0
 ·subst h0
  rw [if_pos (by decide)]
  simp
 ·rw [if_neg (by simpa using h0),if_pos (by simp [inR]; omega)]
  rfl
theorem qei (x : Nat) (n : Int) (h : n < 0 ∨ 8 ≤ n) : fitI x n = true := by
 unfold fitI
 rw [if_neg (by simp; omega),if_neg (by simp [inR]; omega)]
theorem qtw (w : World) (c : Cf) (v : Vs) (h : CfAt w c v) (i : Nat) (x : Ms) (hi : c.msgs[i]? = some x) (hk : x.kind = 2) (hsz : x.ac.name.length < 9223372036854775808) :
  Calls Tryz.prog 166 #[.agg (cfC c v),I i] w fun e w' => e = .returned (I (msgE c x)) ∧ Below w.heap.size w w' := by
 have hn : v.s.n = c.msgs.length := h.s.n
 have hlt : (i : Int) < v.s.n := by have := (List.getElem?_eq_some_iff.1 hi).1; omega
 obtain ⟨g,off,e,hg,a0,a1,a2,a3,a4,a5,a6,a7,a8,a9⟩ := qbz h hi
 have hne : g ≠ w.heap.size := by omega
 have hgl : g < w.heap.size + 1 := by omega
 have hne1 : g ≠ w.heap.size + 1 := by omega
 have hb := qa0 w
 have hb2 := fun o o' => (hb o).trans ((qa0 (w.alloc o) o').mono (hb o).size)
 have HN : Hid (v.s.n = c.msgs.length) := h.s.n
 have hi18 : (Tryz.prog.info? 47).map (·.size) = some (cfC c v).size := by rw [show (cfC c v).size = 18 from rfl]; kernel_rfl
 have ka := fun W (hW : Below w.heap.size w W) => qdy W c v (h.below hW) x.ac 0 4 hsz
 have HC : Hid (CfAt w c v) := h
 have HE17 : Hid (v.s.a = some ⟨g,off,none⟩) := e
 have f17 : ∀ h : 17 < (cfC c v).size,(cfC c v)[17] = .slice v.s.a v.s.n v.s.c := fun _ => rfl
 have hs18 : (cfC c v).size = 18 := rfl
 generalize cfC c v = C at *
 replace f17 := f17 (by omega)
 rw [e] at f17
 have hst : (storeCells ⟨w.heap.size + 1,0,none⟩ #[S x.name,I x.kind,I x.len,I x.frm, .int .u64 (x.init : Int),I x.queue,I x.ac.kind,I x.ac.task,I x.ac.event,S x.ac.name].toList 0).run Tryz.prog ((w.alloc (.cells C 47)).alloc (.cells #[.string ⟨#[]⟩, .int .i64 0, .int .i64 0, .int .i64 0, .int .u64 0, .int .i64 0, .int .i64 0, .int .i64 0, .int .i64 0, .string ⟨#[]⟩] 114)) = .ok () ((w.alloc (.cells C 47)).alloc (.cells #[S x.name,I x.kind,I x.len,I x.frm, .int .u64 (x.init : Int),I x.queue,I x.ac.kind,I x.ac.task,I x.ac.event,S x.ac.name] 114)) := by
  have := run_storeCells_new (P := Tryz.prog) (w.alloc (.cells C 47)) 114 #[.string ⟨#[]⟩, .int .i64 0, .int .i64 0, .int .i64 0, .int .u64 0, .int .i64 0, .int .i64 0, .int .i64 0, .int .i64 0, .string ⟨#[]⟩] #[S x.name,I x.kind,I x.len,I x.frm, .int .u64 (x.init : Int),I x.queue,I x.ac.kind,I x.ac.task,I x.ac.event,S x.ac.name] (by kernel_rfl) rfl (by simp [Value.oneCell'])
  rwa [show (w.alloc (.cells C 47)).heap.size = w.heap.size + 1 by simp] at this
 obtain ⟨R,hR⟩ : ∃ R,R = msgE c x := ⟨_,rfl⟩
 rw [← hR]
 unfold msgE at hR
 rw [← HN.out] at hR
 have HR : Hid (R = _) := hR
 have HbW : Hid (Below w.heap.size w ((w.alloc (.cells C 47)).alloc (.cells #[S x.name,I x.kind,I x.len,I x.frm, .int .u64 (x.init : Int),I x.queue,I x.ac.kind,I x.ac.task,I x.ac.event,S x.ac.name] 114))) := hb2 _ _
 clear hR hi hn
 have HKA0 : Hid (∀ W,Below w.heap.size w W → Calls Tryz.prog 211 #[.agg C, .agg #[I x.ac.kind,I x.ac.task,I x.ac.event,S x.ac.name],I 0,I 4] W fun e w' => e = .returned (I (actE c x.ac 0 4)) ∧ Below W.heap.size W w') := ka
 obtain ⟨ec,hec⟩ : ∃ q,q = actE c x.ac 0 4 := ⟨_,rfl⟩
 have HKA : Hid (∀ W,Below w.heap.size w W → Calls Tryz.prog 211 #[.agg C, .agg #[I x.ac.kind,I x.ac.task,I x.ac.event,S x.ac.name],I 0,I 4] W fun e w' => e = .returned (I ec) ∧ Below W.heap.size W w') := by rw [hec]; exact HKA0
 clear HKA0 ka
 have hV2 := qar w (.cells C 47) (.cells #[S x.name,I x.kind,I x.len,I x.frm, .int .u64 (x.init : Int),I x.queue,I x.ac.kind,I x.ac.task,I x.ac.event,S x.ac.name] 114)
 have HR0 : Hid (R = if (x.len == 0 && x.queue == 0) = false then 74 else if (isId x.frm v.s.n && qcn c x.frm == 1) = false then 73 else if (decide ((x.init : Int) ≤ 4294967295) && fitI x.init (mlen c x.frm)) = false then 74 else ec) := by
  show _ = _
  rw [HR.out,hec,show msgF x = (x.len == 0 && x.queue == 0) by rw [msgF,hk]; rfl,hk]
  rfl
 clear HR h e hec
 rw [hk] at a1 hst HbW hV2
 clear hk
 obtain ⟨ini,hini⟩ : ∃ n : Int,n = (x.init : Int) := ⟨_,rfl⟩
 have HI : Hid ((x.init : Int) = ini) := hini.symm
 rw [← hini] at a4 hst HbW hV2 HR0
 clear hini
 cases hl : x.len == 0 with
 | false =>
  have hl' : (x.len != 0) = true := by simp only [bne,hl]; rfl
  have HE : Hid (R = 74) := by show _ = _; rw [HR0.out,hl]; rfl
  clear HR0 HKA
  go_enter Tryz.func166,Tryz.ntmps166
  go_wp2
  go_ret
  exact ⟨qa3 HE.out.symm,HbW.out⟩
 | true =>
  have hl' : (x.len != 0) = false := by simp only [bne,hl]; rfl
  rw [hl,Bool.true_and] at HR0
  cases hq0 : x.queue == 0 with
  | false =>
   have hq0' : (x.queue != 0) = true := by simp only [bne,hq0]; rfl
   have HE : Hid (R = 74) := by show _ = _; rw [HR0.out,hq0]; rfl
   clear HR0 HKA
   go_enter Tryz.func166,Tryz.ntmps166
   go_wp2
   go_ret
   exact ⟨qa3 HE.out.symm,HbW.out⟩
  | true =>
   have hq0' : (x.queue != 0) = false := by simp only [bne,hq0]; rfl
   rw [if_neg (by rw [hq0]; decide)] at HR0
   have HR : Hid (R = _) := HR0.out
   clear HR0
   have hA : x.frm < 0 ∨ (¬ x.frm < 0 ∧ x.frm ≥ v.s.n) ∨ (0 ≤ x.frm ∧ x.frm < v.s.n) := by omega
   rcases hA with p1 | ⟨p1,p2⟩ | ⟨p1,p2⟩
   ·have HE : Hid (R = 73) := by show _ = _; rw [HR.out,if_pos (by simp [isId]; omega)]
    clear HR HKA
    go_enter Tryz.func166,Tryz.ntmps166
    go_wp2
    go_ret
    exact ⟨qa3 HE.out.symm,HbW.out⟩
   ·have HE : Hid (R = 73) := by show _ = _; rw [HR.out,if_pos (by simp [isId]; omega)]
    clear HR HKA
    go_enter Tryz.func166,Tryz.ntmps166
    go_wp2
    go_ret
    exact ⟨qa3 HE.out.symm,HbW.out⟩
   ·obtain ⟨q,hq⟩ := Int.eq_ofNat_of_zero_le p1
    have hqn : (q : Int) < v.s.n := by omega
    have hq0 : ¬ (q : Int) < 0 := by omega
    have hq1 : ¬ (q : Int) ≥ v.s.n := by omega
    obtain ⟨y,hy⟩ : ∃ y,c.msgs[q]? = some y := ⟨_,List.getElem?_eq_getElem (by have := HN.out; omega)⟩
    obtain ⟨g',off',e',hg',b0,b1,b2,b3,b4,b5,b6,b7,b8,b9⟩ := qbz HC.out hy
    rw [HE17.out] at e'
    obtain ⟨rfl,rfl⟩ : g = g' ∧ off = off' := by cases e'; exact ⟨rfl,rfl⟩
    have HR2 : Hid (R = if (y.kind == 1) = false then 73 else if (decide (ini ≤ 4294967295) && fitI x.init y.len) = false then 74 else ec) := by
     show _ = _
     rw [HR.out,hq]
     have h1 : isId (q : Int) v.s.n = true := by simp [isId]; omega
     rw [h1]
     simp [qcn,mlen,hy]
    rw [hq] at a3 hst HbW hV2
    clear HR hq hy e' p1 p2 b0 b3 b4 b5 b6 b7 b8 b9
    cases hk1 : y.kind == 1 with
    | false =>
     have hk1' : (y.kind != 1) = true := by simp only [bne,hk1]; rfl
     have HE : Hid (R = 73) := by show _ = _; rw [HR2.out,hk1]; rfl
     clear HR2 HKA
     go_enter Tryz.func166,Tryz.ntmps166
     go_wp2
     go_ret
     exact ⟨qa3 HE.out.symm,HbW.out⟩
    | true =>
     have hk1' : (y.kind != 1) = false := by simp only [bne,hk1]; rfl
     rw [if_neg (by rw [hk1]; decide)] at HR2
     by_cases h32 : ini > 4294967295
     ·have HE : Hid (R = 74) := by show _ = _; rw [HR2.out,if_pos (by simp; intro; omega)]
      clear HR2 HKA
      go_enter Tryz.func166,Tryz.ntmps166
      go_wp2
      go_ret
      exact ⟨qa3 HE.out.symm,HbW.out⟩
     ·have HR3 : Hid (R = if fitI x.init y.len = false then 74 else ec) := by
       show _ = _
       rw [HR2.out,show decide (ini ≤ 4294967295) = true by simp; omega,Bool.true_and]
      clear HR2
      by_cases h8 : y.len < 8
      ·by_cases h0 : y.len ≥ 0
       ·obtain ⟨m,hm⟩ := Int.eq_ofNat_of_zero_le h0
        have hm8 : (m : Int) < 8 := by omega
        have hm0 : (m : Int) ≥ 0 := by omega
        have HF : Hid (fitI x.init y.len = (ini / 2 ^ (8 * m) == 0)) := by show _ = _; rw [hm,qkn x.init m (by omega),HI.out]
        rw [HF.out] at HR3
        rw [hm] at b2
        clear HF h8 h0 hm
        cases hd : (ini / 2 ^ (8 * m) == 0) with
        | false =>
         have hd' : (ini / 2 ^ (8 * m) != 0) = true := by simp only [bne,hd]; rfl
         have HE : Hid (R = 74) := by show _ = _; rw [HR3.out,hd]; rfl
         clear HR3 HKA
         go_enter Tryz.func166,Tryz.ntmps166
         go_wp2
         go_ret
         exact ⟨qa3 HE.out.symm,HbW.out⟩
        | true =>
         have hd' : (ini / 2 ^ (8 * m) != 0) = false := by simp only [bne,hd]; rfl
         have HE : Hid (R = ec) := by show _ = _; rw [HR3.out,hd]; rfl
         clear HR3
         go_enter Tryz.func166,Tryz.ntmps166
         go_upto_region 15 with fail
         go_wp2_with (first | (refine wpList_load_row rfl 47 _ rfl w.heap.size rfl 47 _ (0,0) _ hV2 Tryz.underlying47 rfl hi18 ?_) | (go_at_call 211; refine (HKA.out _ HbW.out).mono ?_; rintro e w3 ⟨rfl,hB'⟩; have Hbw3 : Hid (Below w.heap.size w w3) := HbW.out.trans (hB'.mono HbW.out.size); clear hB' HKA))
         go_ret
         exact ⟨qa3 HE.out.symm,Hbw3.out⟩
       ·have HE : Hid (R = ec) := by show _ = _; rw [HR3.out,qei _ _ (.inl (by omega))]; rfl
        clear HR3
        go_enter Tryz.func166,Tryz.ntmps166
        go_upto_region 15 with fail
        go_wp2_with (first | (refine wpList_load_row rfl 47 _ rfl w.heap.size rfl 47 _ (0,0) _ hV2 Tryz.underlying47 rfl hi18 ?_) | (go_at_call 211; refine (HKA.out _ HbW.out).mono ?_; rintro e w3 ⟨rfl,hB'⟩; have Hbw3 : Hid (Below w.heap.size w w3) := HbW.out.trans (hB'.mono HbW.out.size); clear hB' HKA))
        go_ret
        exact ⟨qa3 HE.out.symm,Hbw3.out⟩
      ·have HE : Hid (R = ec) := by show _ = _; rw [HR3.out,qei _ _ (.inr (by omega))]; rfl
       clear HR3
       go_enter Tryz.func166,Tryz.ntmps166
       go_upto_region 15 with fail
       go_wp2_with (first | (refine wpList_load_row rfl 47 _ rfl w.heap.size rfl 47 _ (0,0) _ hV2 Tryz.underlying47 rfl hi18 ?_) | (go_at_call 211; refine (HKA.out _ HbW.out).mono ?_; rintro e w3 ⟨rfl,hB'⟩; have Hbw3 : Hid (Below w.heap.size w w3) := HbW.out.trans (hB'.mono HbW.out.size); clear hB' HKA))
       go_ret
       exact ⟨qa3 HE.out.symm,Hbw3.out⟩
end Go.Proofs.YtmidaeljeoifdaaGreatDoor
