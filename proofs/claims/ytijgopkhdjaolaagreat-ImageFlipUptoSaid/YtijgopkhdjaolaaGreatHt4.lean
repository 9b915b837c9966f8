import Derived.Test.YtijgopkhdjaolaaGreatHt2
import Derived.Test.YtijgopkhdjaolaaGreatXGf
import Derived.Laws.AppendOwnNone
import Derived.Deep.CutBlock
namespace Go.Proofs.YtijgopkhdjaolaaGreat
open Go.RowKit Go.Shelf Go.Sort
open Go.Proofs.YtijgopkhdjaolaaGreat.Ob (leB leV qa9 qai crc Rd RdAll qaa)
set_option linter.unusedSimpArgs false
set_option linter.unusedVariables false
set_option maxHeartbeats 16000000
set_option maxRecDepth 100000
theorem qf2 {ops : Array Oper} {rest : List Oper} {o : Oper} {a : Act} {w : World} {Q : Exit → Act → World → Prop} (hgd : o.guard = none) (s x : Operand)
  (ho : o.op = .call { callee := .builtin .append,args := #[s,x],argTypes := #[31,31] }) (base : Nat) (v : Value) (n : Nat) (l : List UInt8) (hs : a.eval s = v) (hown : w.ownsRow base 5 1 v n (Bs8 l))
  (ma : Option Addr) (mn mc : Nat) (ml : List UInt8) (hx : a.eval x = .slice ma mn mc) (hR : Rd w ma mn mc ml) (hb : n + mn ≤ 140737488355328) (hbase : base ≤ w.heap.size)
  (h : ∀ v' w',w'.ownsRow base 5 1 v' (n + mn) (Bs8 (l ++ ml)) → w.grownBy w' v.ownBlock → wpList Tryz.prog ops Q rest (a.put o.dst v') w') : wpList Tryz.prog ops Q (o :: rest) a w := by
 obtain ⟨i0,hi,hz0,hz1,hz2⟩ := info_parts qho
 cases ma with
 | none =>
  obtain ⟨rfl,rfl⟩ := hR.hnil rfl
  have hl0 : ml = [] := List.eq_nil_of_length_eq_zero hR.hlen
  subst hl0
  refine wpList_append_own_none hgd s x 31 ho base 5 i0 1 Tryz.underlying31 hi v n (Bs8 l) hs hown hx ?_
  have := h v w (by simpa using hown) (qbi _ _)
  exact this
 | some ad =>
  refine wpList_append_own w hgd s x 31 ho base 5 i0 (.int .u8 0) 1 1 Tryz.underlying31 hi hz0 hz1 hz2 rfl (by decide) v n (Bs8 l) hs hown ad mn mc (Bs8 ml) hx (by simp [hR.hlen]) (Ob.Rd.news hR) (Ob.one_cells ml) (by unfold maxLen; omega) (by omega) hbase ?_
  intro v' w' h1 h2 _
  exact h v' w' (by simpa [Bs8] using h1) h2
theorem qnv {W : World} {g n c k : Nat} {bs : List UInt8} (h : Rd W (some ⟨g,0,none⟩) n c bs) (hk : k ≤ n) : Rd W (some ⟨g,0,none⟩) k c (bs.take k) := by
 have h1 := h.hlen
 have h2 := h.hle
 have h3 := h.hsmall
 refine ⟨by simp; omega,by omega,by omega,(fun e => by cases e),fun hp => ?_⟩
 obtain ⟨b,off,e,hlt,hc⟩ := h.hcell (by omega)
 refine ⟨b,off,e,hlt,fun i x hx => hc i x ?_⟩
 rw [List.getElem?_take] at hx
 split at hx
 ·exact hx
 ·cases hx
theorem qhx (w : World) (tb : Tb) (v : Ts) (h : TbAt w tb v) (hw : WfT tb) (hc : chkP tb = false) (at0 : Int) (m : Nat) (mv : Value) : Calls Tryz.prog 5 #[.agg (tbC tb v),I at0, .int .u8 (m : Int),mv] w fun e w' => e = .returned (.bool true) ∧ Below w.heap.size w w' := by
 have hb1 := qa0 w (tO tb v)
 have hv1 := heap_alloc_new w (tO tb v)
 have hE := qeb (w.alloc (tO tb v)) tb v (h.below hb1) hw hc
 obtain ⟨c0,c1,c2,c3,c4,c5,c6,c7,c8,c9,c10,c11,c12⟩ := qbv hv1
 have HB1 : Hid (Below w.heap.size w (w.alloc (tO tb v))) := hb1
 have hA := fun W => qd1 W
 have hnn := fun W (x : Int) => qdd W x
 unfold tbC at *
 clear hb1 hv1 h hw hc
 go_enter Tryz.func5,Tryz.ntmps5
 go_upto_region 1 with fail
 generalize w.alloc (.cells #[I tb.uses,I tb.modes, .slice v.t.a v.t.n v.t.c, .slice v.g.a v.g.n v.g.c, .slice v.r.a v.r.n v.r.c, .slice v.k.a v.k.n v.k.c, .slice v.a.a v.a.n v.a.c, .slice v.i.a v.i.n v.i.c, .slice v.s.a v.s.n v.s.c,I tb.depth,I tb.frames,I tb.errors,I tb.calls] 30) = w1 at *
 go_wp2_with (first
  | (go_at_call 9; refine hE.mono ?_; clear hE c0 c1 c2 c3 c4 c5 c6 c7 c8 c9 c10 c11 c12; rintro e w2 ⟨rfl,b2⟩; have HB2 : Hid (Below w.heap.size w w2) := belT HB1.out b2; clear b2)
  | (go_at_call 11; refine (hnn _ _).mono ?_; rintro e w' ⟨rfl,rfl⟩)
  | (go_at_call 12; refine (hA _).mono ?_; clear hA; rintro e w4 ⟨rfl,b4⟩; have HB4 : Hid (Below w.heap.size w w4) := belT HB2.out b4; clear b4))
 go_ret
 exact ⟨rfl,HB4.out⟩
theorem qgs (w : World) (tb : Tb) (v : Ts) (h : TbAt w tb v) (hw : WfT tb) (hc : chkP tb = true) (at0 : Int) (m : Nat) (hm : m < 256) (ma : Option Addr) (mn mc : Nat) (ml : List UInt8) (hmr : Rd w ma mn mc ml) (hmn : mn ≤ 1048576) : Calls Tryz.prog 5 #[.agg (tbC tb v),I at0, .int .u8 (m : Int), .slice ma mn mc] w fun e w' => e = .returned (.bool true) ∧ Below w.heap.size w w' := by
 obtain ⟨n,hn⟩ : ∃ n,n = (img tb).length := ⟨_,rfl⟩
 have h30 := qbr hc hw
 rw [← hn] at h30
 have hb1 := qa0 w (tO tb v)
 have hv1 := heap_alloc_new w (tO tb v)
 have hE := qef (w.alloc (tO tb v)) tb v (h.below hb1) hw hc n hn
 obtain ⟨c0,c1,c2,c3,c4,c5,c6,c7,c8,c9,c10,c11,c12⟩ := qbv hv1
 have HB1 : Hid (Below w.heap.size w (w.alloc (tO tb v)) ∧ w.heap.size ≤ (w.alloc (tO tb v)).heap.size ∧ Rd (w.alloc (tO tb v)) ma mn mc ml) := ⟨hb1,hb1.size,hmr.below hb1⟩
 have hA := fun W => qd1 W
 have hnn := fun W (x : Int) => qdd W x
 have HN : Hid (n = (img tb).length ∧ 30 ≤ n ∧ n ≤ 100030) := ⟨hn,h30.2⟩
 have HX : Hid (∀ k x y,(img tb)[k]? = some x → y ≠ x → qbh (dec ((img tb).set k y)) ≠ 0) := fun k x y hx hne e => by
  obtain ⟨t2,ht⟩ := code_ok.1 e
  exact qn8 hx hne ht
 have HY : Hid (∀ k,k < n → qbh (dec ((img tb).take k)) ≠ 0) := fun k hk e => by
  obtain ⟨t2,ht⟩ := code_ok.1 e
  exact qo6 hc hw (by omega) ht
 have HZ : Hid (qbh (dec (img tb ++ ml)) = 0 ↔ mn = 0) := by
  show _ ↔ _
  have hlm := hmr.hlen
  constructor
  ·intro e
   obtain ⟨t2,ht⟩ := code_ok.1 e
   by_cases h0 : ml = []
   ·rw [h0] at hlm; simp at hlm; omega
   ·exact (qn9 hc hw h0 ht).elim
  ·intro e
   have h0 : ml = [] := List.eq_nil_of_length_eq_zero (by omega)
   rw [h0,List.append_nil,code_ok]
   exact ⟨tb,qdq hc hw (Ob.crc_lt _ _ (by decide))⟩
 have HI : Hid (qbh (dec (img tb)) = 0) := code_ok.2 ⟨tb,qdq hc hw (Ob.crc_lt _ _ (by decide))⟩
 unfold tbC at hE
 unfold tbC
 clear hb1 hv1 h hw hc hn h30 hmr
 generalize img tb = L at *
 go_enter Tryz.func5,Tryz.ntmps5
 go_upto_region 1 with fail
 generalize w.alloc (.cells #[I tb.uses,I tb.modes, .slice v.t.a v.t.n v.t.c, .slice v.g.a v.g.n v.g.c, .slice v.r.a v.r.n v.r.c, .slice v.k.a v.k.n v.k.c, .slice v.a.a v.a.n v.a.c, .slice v.i.a v.i.n v.i.c, .slice v.s.a v.s.n v.s.c,I tb.depth,I tb.frames,I tb.errors,I tb.calls] 30) = w1 at *
 have hn30 : ((n : Int) == 0) = false := by have := HN.out; rw [beq_eq_false_iff_ne]; omega
 go_upto_region 4 with (first
  | (go_at_call 9; refine hE.mono ?_; clear hE c0 c1 c2 c3 c4 c5 c6 c7 c8 c9 c10 c11 c12; rintro e w2 ⟨g,cap,rfl,hg0,hO,hcap,b2⟩; have hRd : Rd w2 (some ⟨g,0,none⟩) n cap L := qaa hO (by have := HN.out; omega); have H2 : Hid (w2.ownsRow w1.heap.size 5 1 (.slice (some ⟨g,0,none⟩) n cap) n (Bs8 L) ∧ w1.heap.size ≤ g ∧ Below w1.heap.size w1 w2 ∧ Rd w2 (some ⟨g,0,none⟩) n cap L) := ⟨hO,hg0,b2,hRd⟩; clear b2 hRd hO hg0)
  | (go_at_call 11; refine (hnn _ _).mono ?_; rintro e w' ⟨rfl,rfl⟩))
 obtain ⟨r,hr⟩ : ∃ r,at0.tmod (n : Int) = r := ⟨_,rfl⟩
 have hrb : r.natAbs < n := by
  have h0 := HN.out
  rw [← hr,Int.natAbs_tmod,Int.natAbs_natCast]
  exact Nat.mod_lt _ (by omega)
 have hwr : wrap64 r = r := by have := HN.out; unfold wrap64; omega
 have hwn : wrap64 (-r) = -r := by have := HN.out; unfold wrap64; omega
 have hn0 : ¬ ((n : Int) = 0) := by have := HN.out; omega
 have HRB : Hid (r.natAbs < n) := hrb
 clear hrb
 go_upto_if 43 with fail
 go_cut [11] from 44 to 45 (fun s11 wx => ∃ k : Nat,s11 = I k ∧ k < n ∧ wx = w2)
 case first =>
  by_cases hneg : r < 0
  ·obtain ⟨k,hk⟩ : ∃ k : Nat, -r = (k : Int) := ⟨(-r).toNat,by omega⟩
   have hkn : k < n := by have := HRB.out; omega
   have HK : Hid (-r = (k : Int) ∧ k < n) := ⟨hk,hkn⟩
   clear hk hkn
   go_wp2
   go_meet
   case rel => exact ⟨k,by (have h9 : wrap64 (k : Int) = k := (by have := HN.out; have := HK.out.2; unfold wrap64; omega)); rw [HK.out.1,h9],HK.out.2,rfl⟩
  ·obtain ⟨k,hk⟩ : ∃ k : Nat,r = (k : Int) := ⟨r.toNat,by omega⟩
   have hkn : k < n := by have := HRB.out; omega
   have HK : Hid (r = (k : Int) ∧ k < n) := ⟨hk,hkn⟩
   clear hk hkn
   go_wp2
   go_meet
   case rel => exact ⟨k,by rw [HK.out.1],HK.out.2,rfl⟩
 obtain ⟨k,rfl,hkn,hwc⟩ := hcut
 subst hwc
 clear HRB hwr hwn hn0 hr
 have hkI : (k : Int) < n := by omega
 have hCp := Ob.copy_any _ _ _ _ _ H2.out.2.2.2
 go_upto_region 8 with (first | (go_at_call 19; refine hCp.mono ?_; clear hCp; rintro e w3 ⟨rfl,hO3,b3⟩))
 have hC := hO3.lt _ rfl
 have H3 : Hid (w3.ownsRow wc.heap.size 5 1 (.slice (some ⟨wc.heap.size,0,none⟩) n n) n (Bs8 L) ∧ Below wc.heap.size wc w3 ∧ g < wc.heap.size ∧ wc.heap.size < w3.heap.size) := ⟨hO3,b3,(H2.out.1.lt _ rfl).2,hC.2⟩
 clear hC b3
 obtain ⟨x,hx⟩ : ∃ x,L[k]? = some x := ⟨_,List.getElem?_eq_getElem (by rw [← HN.out.1]; exact hkn)⟩
 have cC := qdt hO3 hx
 have fC := hO3.frozenAt k
 have hxor : bits .xor .u8 (x.toNat : Int) (m : Int) = (((UInt8.ofNat (x.toNat ^^^ m)).toNat : Nat) : Int) := by
  have hlt : x.toNat ^^^ m < 256 := Nat.xor_lt_two_pow (n := 8) x.toNat_lt hm
  rw [u8_xor_nat _ _ x.toNat_lt hm]
  simp [Nat.mod_eq_of_lt hlt,Nat.mod_eq_of_lt hm]
 have HXM : Hid (UInt8.ofNat (x.toNat ^^^ m) = x ↔ m = 0) := by
  have hlt : x.toNat ^^^ m < 256 := Nat.xor_lt_two_pow (n := 8) x.toNat_lt hm
  show _ ↔ _
  constructor
  ·intro e
   have e2 : x.toNat ^^^ m = x.toNat := by
    have := congrArg UInt8.toNat e
    simpa [Nat.mod_eq_of_lt hlt,Nat.mod_eq_of_lt hm] using this
   have : x.toNat ^^^ (x.toNat ^^^ m) = x.toNat ^^^ x.toNat := by rw [e2]
   rwa [← Nat.xor_assoc,Nat.xor_self,Nat.zero_xor] at this
  ·intro e
   rw [e,Nat.xor_zero]
   simp
 generalize UInt8.ofNat (x.toNat ^^^ m) = y at *
 have HC1 : Hid (qbh (dec (L.set k y)) = 0 ↔ m = 0) := by
  show _ ↔ _
  rw [← HXM.out]
  constructor
  ·intro e
   by_cases h : y = x
   ·exact h
   ·exact (HX.out k x y hx h e).elim
  ·intro e
   have : L.set k y = L := by
    rw [e]
    have hlt := (List.getElem?_eq_some_iff.mp hx)
    obtain ⟨h1,h2⟩ := hlt
    rw [← h2]
    exact List.set_getElem_self h1
   rw [this]
   exact HI.out
 clear hx hO3 HXM HX
 go_upto_region 9 with fail
 clear cC fC hxor
 have hO4 := qj0 H3.out.1 k y
 have hs4 : (w3.setCell ⟨wc.heap.size,k,none⟩ (.int .u8 (y.toNat : Int))).heap.size = w3.heap.size := by simp
 have H4 : Hid (Rd (w3.setCell ⟨wc.heap.size,k,none⟩ (.int .u8 (y.toNat : Int))) (some ⟨g,0,none⟩) n cap L ∧ Below w.heap.size w (w3.setCell ⟨wc.heap.size,k,none⟩ (.int .u8 (y.toNat : Int))) ∧ Rd (w3.setCell ⟨wc.heap.size,k,none⟩ (.int .u8 (y.toNat : Int))) ma mn mc ml) := by
  have hB : Below wc.heap.size wc (w3.setCell ⟨wc.heap.size,k,none⟩ (.int .u8 (y.toNat : Int))) := qae H3.out.2.1 (Nat.le_refl _)
  exact ⟨H2.out.2.2.2.below hB,belT HB1.out.1 (belT H2.out.2.2.1 hB),(HB1.out.2.2.below H2.out.2.2.1).below hB⟩
 have hD := qd2 (qaa hO4 (by have := HN.out; omega))
 clear hO4 hs4 H2 H3
 generalize w3.setCell ⟨wc.heap.size,k,none⟩ (.int .u8 (y.toNat : Int)) = w4 at *
 generalize wc.heap.size = C at *
 generalize qbh (dec (L.set k y)) = c1 at *
 unfold tbC at hD
 go_upto_region 10 with (first | (go_at_call 15; refine hD.mono ?_; clear hD; rintro e w5 ⟨ta,va,rfl, -,b5⟩))
 have H6 : Hid (Rd (w5.alloc (tO ta va)) (some ⟨g,0,none⟩) n cap L ∧ Below w.heap.size w (w5.alloc (tO ta va)) ∧ Rd (w5.alloc (tO ta va)) ma mn mc ml) := by
  have bb := belT b5 (qa0 w5 (tO ta va))
  exact ⟨H4.out.1.below bb,belT H4.out.2.1 bb,H4.out.2.2.below bb⟩
 clear b5 H4
 generalize w5.alloc (.cells #[I ta.uses,I ta.modes, .slice va.t.a va.t.n va.t.c, .slice va.g.a va.g.n va.g.c, .slice va.r.a va.r.n va.r.c, .slice va.k.a va.k.n va.k.c, .slice va.a.a va.a.n va.a.c, .slice va.i.a va.i.n va.i.c, .slice va.s.a va.s.n va.s.c,I ta.depth,I ta.frames,I ta.errors,I ta.calls] 30) = w6 at *
 have hD := qd2 (qnv (k := k) H6.out.1 (by omega))
 have HC2 := HY.out k hkn
 have HC2' : Hid (qbh (dec (L.take k)) ≠ 0) := HC2
 clear HC2 HY
 generalize qbh (dec (L.take k)) = c2 at *
 unfold tbC at hD
 have he1 : (k : Int) ≤ cap := by omega
 have he2 : ¬ (cap = 0) := by omega
 have hwk : wrap64 (k : Int) = k := by have := HN.out; unfold wrap64; omega
 go_upto_region 11 with (first | (go_at_call 15; refine hD.mono ?_; clear hD; rintro e w7 ⟨tc,vc,rfl, -,b7⟩))
 have H8 : Hid (Rd (w7.alloc (tO tc vc)) (some ⟨g,0,none⟩) n cap L ∧ Below w.heap.size w (w7.alloc (tO tc vc)) ∧ Rd (w7.alloc (tO tc vc)) ma mn mc ml) := by
  have bb := belT b7 (qa0 w7 (tO tc vc))
  exact ⟨H6.out.1.below bb,belT H6.out.2.1 bb,H6.out.2.2.below bb⟩
 clear b7 H6
 generalize w7.alloc (.cells #[I tc.uses,I tc.modes, .slice vc.t.a vc.t.n vc.t.c, .slice vc.g.a vc.g.n vc.g.c, .slice vc.r.a vc.r.n vc.r.c, .slice vc.k.a vc.k.n vc.k.c, .slice vc.a.a vc.a.n vc.a.c, .slice vc.i.a vc.i.n vc.i.c, .slice vc.s.a vc.s.n vc.s.c,I tc.depth,I tc.frames,I tc.errors,I tc.calls] 30) = w8 at *
 have hCp := Ob.copy_any _ _ _ _ _ H8.out.1
 have HDA : Hid (∀ W a c,Rd W a (n + mn) c (L ++ ml) → Calls Tryz.prog 15 #[.slice a (n + mn) c] W fun e w' => ∃ tb v,e = .returned (.tuple #[.agg (tbC tb v),I (qbh (dec (L ++ ml)) : Nat)]) ∧ (∀ tb',dec (L ++ ml) = .ok tb' → tb = tb' ∧ TbAt w' tb v) ∧ Below W.heap.size W w') := fun W a c hR => qd2 hR
 generalize qbh (dec (L ++ ml)) = c3 at *
 unfold tbC at HDA
 go_upto_region 12 with (first
  | (go_at_call 19; refine hCp.mono ?_; clear hCp; rintro e w9 ⟨rfl,hO9,b9⟩)
  | (at_builtin; refine qf2 rfl _ _ rfl w8.heap.size _ n L rfl hO9 ma mn mc ml rfl (H8.out.2.2.below b9) (by have := HN.out; omega) b9.size ?_; intro vp wp hOp hgp; obtain ⟨ap,cp,rfl⟩ := qan hOp; have hRp := qaa hOp (by have := HN.out; omega); have hD := HDA.out _ _ _ hRp; have HBp : Hid (Below w.heap.size w wp) := belT H8.out.2.1 (Below.grown hO9 b9 hgp); clear hOp hgp hRp hO9 b9)
  | (go_at_call 15; refine hD.mono ?_; clear hD; rintro e wd ⟨td,vd,rfl, -,bd⟩))
 have HF : Hid (Below w.heap.size w (wd.alloc (tO td vd))) := belT HBp.out (belT bd (qa0 wd (tO td vd)))
 clear bd HBp H8 HDA
 generalize wd.alloc (.cells #[I td.uses,I td.modes, .slice vd.t.a vd.t.n vd.t.c, .slice vd.g.a vd.g.n vd.g.c, .slice vd.r.a vd.r.n vd.r.c, .slice vd.k.a vd.k.n vd.k.c, .slice vd.a.a vd.a.n vd.a.c, .slice vd.i.a vd.i.n vd.i.c, .slice vd.s.a vd.s.n vd.s.c,I td.depth,I td.frames,I td.errors,I td.calls] 30) = wf at *
 have hz1 : ((c1 : Int) == 0) = ((m : Int) == 0) := by
  have := HC1.out
  rw [Bool.eq_iff_iff,beq_iff_eq,beq_iff_eq]; omega
 have hz2 : ((c2 : Int) != 0) = true := by have := HC2'.out; simp [bne]; omega
 have hz3 : ((c3 : Int) == 0) = ((mn : Int) == 0) := by
  have := HZ.out
  rw [Bool.eq_iff_iff,beq_iff_eq,beq_iff_eq]; omega
 obtain ⟨z1,hq1⟩ : ∃ z,((m : Int) == 0) = z := ⟨_,rfl⟩
 obtain ⟨z3,hq3⟩ : ∃ z,((mn : Int) == 0) = z := ⟨_,rfl⟩
 rw [hq1] at hz1
 rw [hq3] at hz3
 have hb1 : (z1 == z1) = true := by simp
 have hb3 : (z3 == z3) = true := by simp
 clear HC1 HC2' HZ
 go_wp2_with (first
  | (go_at_call 11; refine (hnn _ _).mono ?_; rintro e w' ⟨rfl,rfl⟩)
  | (go_at_call 12; refine (hA _).mono ?_; clear hA; rintro e wl ⟨rfl,bl⟩; have HB4 : Hid (Below w.heap.size w wl) := belT HF.out bl; clear bl))
 go_ret
 exact ⟨rfl,HB4.out⟩
end Go.Proofs.YtijgopkhdjaolaaGreat
