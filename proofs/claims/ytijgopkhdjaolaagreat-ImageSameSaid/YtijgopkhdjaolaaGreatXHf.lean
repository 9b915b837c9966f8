import Derived.Test.YtijgopkhdjaolaaGreatXHc
import Derived.Deep.RegionHeldLaw
namespace Go.Proofs.YtijgopkhdjaolaaGreat
open Go.RowKit Go.Shelf Go.Sort
open Go.Proofs.YtijgopkhdjaolaaGreat.Ob (leB leV qac qam crc Rd RdAll qad)
set_option linter.unusedSimpArgs false
set_option linter.unusedVariables false
set_option maxHeartbeats 16000000
set_option maxRecDepth 100000
theorem qkp {w : World} {b1 b2 e1 e2 k1 k2 n1 n2 : Nat} {v1 v2 : Value} {x1 x2 : List Value} (h1 : w.ownsRow b1 e1 k1 v1 n1 x1) (h2 : w.ownsRow b2 e2 k2 v2 n2 x2) (he : e1 ≠ e2) {g : Nat} (hg : v1.ownBlock = some g) : v2.ownBlock ≠ some g := by
 intro e
 rcases h1.2 with ⟨rfl,rfl⟩ | ⟨g1,c1,cur1,rfl,_,q1,_⟩
 ·cases hg
 ·rcases h2.2 with ⟨rfl,rfl⟩ | ⟨g2,c2,cur2,rfl,_,q2,_⟩
  ·cases e
  ·have e1' : g1 = g := Option.some.inj hg
   have e2' : g2 = g := Option.some.inj e
   subst e1' e2'
   rw [q1] at q2
   cases q2
   exact he rfl
theorem qb7 {w : World} {b b' e k n : Nat} {v : Value} {xs : List Value} (h : w.ownsRow b e k v n xs) (hb : b' ≤ b) : w.ownsRow b' e k v n xs := by
 refine ⟨h.1, ?_⟩
 rcases h.2 with q | ⟨g,cap,cur,q1,q2,q3⟩
 ·exact .inl q
 ·exact .inr ⟨g,cap,cur,q1,Nat.le_trans hb q2,q3⟩
theorem qai {w : World} {b e k n : Nat} {v : Value} {xs : List Value} (h : w.ownsRow b e k v n xs) : w.ownsRow 0 e k v n xs := qb7 h (Nat.zero_le _)
theorem qjp (w : World) (x : Value) (t : TypeId) : ∀ j u,([x] : List Value)[j]? = some u → (w.alloc (.cells #[x] t)).cell? ((⟨w.heap.size,0,none⟩ : Addr).add j) = some u := by
 intro j u hj
 have hlt : j < 1 := (List.getElem?_eq_some_iff.1 hj).1
 obtain rfl : j = 0 := by omega
 rw [qc1,cell_of_row _ _ _ _ _ (0,0) (heap_alloc_new w _)]
 exact hj
structure SegL (w W : World) (us : List Value) (ls : List (List UInt8)) : Prop where
 n : us.length = ls.length
 r : ∀ (j : Nat) (l : List UInt8) (v : Value),ls[j]? = some l → us[j]? = some v → W.ownsRow 0 5 1 v l.length (Bs8 l)
theorem SegL.below {w W W' : World} {us : List Value} {ls : List (List UInt8)} (h : SegL w W us ls) (hb : Below W.heap.size W W') : SegL w W' us ls := ⟨h.n,fun j l v e1 e2 => qa2 (h.r j l v e1 e2) hb⟩
theorem SegL.grown {w W W' : World} {us : List Value} {ls : List (List UInt8)} {b e k n : Nat} {v : Value} {xs : List Value} (h : SegL w W us ls) (ho : W.ownsRow b e k v n xs) (he : e ≠ 5) (hg : W.grownBy W' v.ownBlock) : SegL w W' us ls := ⟨h.n,fun j l u e1 e2 => (h.r j l u e1 e2).kept hg (by
 cases hu : u.ownBlock with
 | none => exact .inl rfl
 | some g => exact .inr (by rw [← hu]; intro q; exact qkp (h.r j l u e1 e2) ho (fun q => he q.symm) hu (by rw [← q,hu])))⟩
theorem SegL.snoc {w W : World} {us : List Value} {ls : List (List UInt8)} (h : SegL w W us ls) {v : Value} {l : List UInt8} (hv : W.ownsRow 0 5 1 v l.length (Bs8 l)) : SegL w W (us ++ [v]) (ls ++ [l]) := by
 refine ⟨by simp [h.n],fun j l' v' e1 e2 => ?_⟩
 by_cases hj : j < ls.length
 ·rw [List.getElem?_append_left hj] at e1
  rw [List.getElem?_append_left (by rw [h.n]; exact hj)] at e2
  exact h.r j l' v' e1 e2
 ·have hlt : j < (ls ++ [l]).length := (List.getElem?_eq_some_iff.1 e1).1
  rw [List.length_append] at hlt
  simp at hlt
  obtain rfl : j = ls.length := by omega
  rw [List.getElem?_append_right (Nat.le_refl _)] at e1
  rw [List.getElem?_append_right (by rw [h.n]; exact Nat.le_refl _),h.n] at e2
  simp at e1 e2
  subst e1 e2
  exact hv
def RwB (w W : World) (u : Value) (ls : List (List UInt8)) : Prop := ∃ us,W.ownsRow w.heap.size 31 1 u ls.length us ∧ SegL w W us ls
theorem RwB.below {w W W' : World} {u : Value} {ls : List (List UInt8)} (h : RwB w W u ls) (hb : Below W.heap.size W W') : RwB w W' u ls := by
 obtain ⟨us,h1,h2⟩ := h
 exact ⟨us,qa2 h1 hb,h2.below hb⟩
theorem RwB.rows {w W : World} {u : Value} {ls : List (List UInt8)} (h : RwB w W u ls) : ∃ s : Sl,u = slT s ∧ RowsAt W 1 (segB W) s ls := by
 obtain ⟨us,h1,h2⟩ := h
 obtain ⟨a,c,rfl⟩ := qan h1
 refine ⟨⟨a,ls.length,c⟩,rfl,⟨rfl, ?_, ?_,fun j x hj => ?_⟩⟩
 ·rcases h1.2 with ⟨q,q2⟩ | ⟨g,cap,cur,q,_,_,hle,hm,_⟩
  ·show ls.length ≤ c
   rw [q2]; exact Nat.zero_le _
  ·cases q; exact hle
 ·rcases h1.2 with ⟨q,q2⟩ | ⟨g,cap,cur,q,_,_,hle,hm,_⟩
  ·show c ≤ maxLen
   rw [(Value.slice.inj q).2.2]; exact Nat.zero_le _
  ·cases q; exact hm
 ·have hlt : j < ls.length := (List.getElem?_eq_some_iff.1 hj).1
  rcases h1.2 with ⟨q,q2⟩ | ⟨g,cap,cur,q,_,hh,hle,hm,_⟩
  ·omega
  ·cases q
   refine ⟨g,0,rfl,(Array.getElem?_eq_some_iff.1 hh).1,fun i hi => ?_⟩
   obtain rfl : i = 0 := by omega
   obtain ⟨v,hv⟩ : ∃ v,us[j]? = some v := ⟨_,List.getElem?_eq_getElem (by rw [h2.n]; exact hlt)⟩
   refine ⟨v, ?_, ?_⟩
   ·have := h1.cells rfl j v hv
    rw [qc1] at this
    simpa using this
   ·have := h2.r j x v hj hv
    unfold segB
    rw [qc3]
    exact qbc this
theorem qmv : (Tryz.prog.info? 31).map (fun i => (i.zero,i.size,i.bytes)) = some (some (.slice none 0 0),1,24) := by kernel_rfl
theorem qmw : (Tryz.prog.info? 114).map (fun i => (i.zero,i.size,i.bytes)) = some (some (.agg #[.int .u64 0,I 0]),2,16) := by kernel_rfl
theorem qfa {α : Type} (mk : Nat → α) (j : Nat) : (List.range (j + 1)).map mk = (List.range j).map mk ++ [mk j] := by rw [List.range_succ,List.map_append]; rfl
theorem ql7 (w : World) (n : Nat) (hn : n ≤ 1000) (f : Nat) (bnd caps : Array Value) (eg : ∀ args W,(callFunc f args).run Tryz.prog W = .ok (.enter f args) W) (mk : Nat → List UInt8)
  (hf : ∀ W,Below w.heap.size w W → ∀ j,j < n → Calls Tryz.prog f (bnd ++ #[I j] ++ caps) W fun e w' => ∃ u,e = .returned u ∧ w'.ownsRow 0 5 1 u (mk j).length (Bs8 (mk j)) ∧ Below W.heap.size W w') :
  Calls Tryz.prog 58 #[I n, .func (.func f) bnd caps] w fun e w' => ∃ u,e = .returned u ∧ RwB w w' u ((List.range n).map mk) ∧ Below w.heap.size w w' := by
 obtain ⟨im,him,hm0,hm1,hm2⟩ := info_parts qmv
 have HF : Hid (∀ W,Below w.heap.size w W → ∀ j,j < n → Calls Tryz.prog f (bnd ++ #[I j] ++ caps) W fun e w' => ∃ u,e = .returned u ∧ w'.ownsRow 0 5 1 u (mk j).length (Bs8 (mk j)) ∧ Below W.heap.size W w') := hf
 have HI : Hid (RwB w w (.slice none 0 0) ((List.range 0).map mk) ∧ Below w.heap.size w w) := ⟨⟨[],World.ownsRow_nil _ _ _ _,⟨rfl,fun j l v e => by simp at e⟩⟩,Below.refl _ _⟩
 clear hf
 go_enter Tryz.func58,Tryz.ntmps58
 go_wp2
 go_loopw [5,6,8] (fun v5 _ v8 wr => ∃ j : Nat,j ≤ n ∧ v8 = I j ∧ Hid (RwB w wr v5 ((List.range j).map mk) ∧ Below w.heap.size w wr)) (fun _ _ v8 _ => n - (intOf v8).toNat)
 case atStart => exact ⟨0,by omega,rfl,HI.out⟩
 case round =>
  clear HI
  obtain ⟨j,hj,rfl,HJ⟩ := hrel
  by_cases hlt : j < n
  ·have hlt' : (j : Int) < n := by omega
   have cx := HF.out wr HJ.out.2 j hlt
   go_wp2
   refine cx.mono ?_
   clear cx
   rintro e7 w7 ⟨u,rfl,o7,b7⟩
   have H7 : Hid (RwB w w7 u5 ((List.range j).map mk) ∧ Below w.heap.size w w7 ∧ w7.ownsRow 0 5 1 u (mk j).length (Bs8 (mk j))) := ⟨HJ.out.1.below b7,HJ.out.2.trans (b7.mono HJ.out.2.size),o7⟩
   obtain ⟨us,h1,h2⟩ := H7.out.1
   obtain ⟨ua,uc,rfl⟩ := qan o7
   have hw7 := H7.out.2.1.size
   have h1' : w7.ownsRow w.heap.size 31 1 u5 j us := by simpa using h1
   have hO := h1'.alloc (.cells #[.slice ua (mk j).length uc] 31)
   have H8 : Hid (SegL w w7 us ((List.range j).map mk) ∧ w7.ownsRow w.heap.size 31 1 u5 j us) := ⟨h2,h1'⟩
   clear h1 h2 h1' b7 o7 HJ
   go_wp2_with (first
    | (at_builtin; refine wpList_append_own _ rfl (.tmp 11) (.tmp 15) 69 rfl w.heap.size 31 im (.slice none 0 0) 1 24 Tryz.underlying69 him hm0 hm1 hm2 rfl (by decide) _ _ _ rfl hO ⟨w7.heap.size,0,none⟩ 1 1 [.slice ua (mk j).length uc] rfl rfl (qjp _ _ _) (by intro u hu; simp at hu; subst hu; rfl) (by unfold maxLen; omega) (by omega) (by simp; omega) ?_; intro v6 w6 ho6 hg6 _; have H9 : Hid (RwB w w6 v6 ((List.range (j + 1)).map mk) ∧ Below w.heap.size w w6) := ⟨⟨us ++ [.slice ua (mk j).length uc],(by rw [qfa,List.length_append]; simpa using ho6),(by rw [qfa]; exact (((H8.out.1.snoc H7.out.2.2).below (qa0 w7 _)).grown hO (by decide) hg6))⟩,Below.grown hO (H7.out.2.1.trans ((qa0 w7 _).mono hw7)) hg6⟩; clear ho6 hg6 hO))
   go_roundw
   case rel => exact ⟨j + 1,by omega,by go_num,H9.out⟩
   case measure => simp [intOf]; omega
  ·obtain rfl : j = n := by omega
   have hge : ¬ ((j : Int) < j) := by omega
   clear HF
   go_wp2
   go_ret
   exact ⟨_,rfl,HJ.out⟩
theorem belA {a W : World} {o : Obj} (h : Below a.heap.size a W) : Below a.heap.size a (W.alloc o) := h.alloc h.size o
theorem belT {a W w' : World} (h : Below a.heap.size a W) (k : Below W.heap.size W w') : Below a.heap.size a w' := h.trans (k.mono h.size)
theorem qbd {a W w' : World} {u : Value} {l : List UInt8} (h : Below a.heap.size a W) (o : OwB W w' u l) : OwB a w' u l := ⟨qb7 o.1 h.size,belT h o.2⟩
theorem okC1 {v : Int} (h : b8 v) : okC (v,1) := ⟨Nat.le_refl _,by show 1 ≤ 8; omega,by show v.toNat < 256 ^ 1; have := h.1; have := h.2; omega,h.1,by show v < _; have := h.2; omega⟩
theorem okC2 {v : Int} (h : b16 v) : okC (v,2) := ⟨by show 1 ≤ 2; omega,by show 2 ≤ 8; omega,by show v.toNat < 256 ^ 2; have := h.1; have := h.2; omega,h.1,by show v < _; have := h.2; omega⟩
theorem ql8 {v : Nat} (h : v < 256 ^ 1) : okC ((v : Int),1) := ⟨Nat.le_refl _,by show 1 ≤ 8; omega,by show (v : Int).toNat < 256 ^ 1; rw [Int.toNat_natCast]; exact h,by show (0 : Int) ≤ v; omega,by show (v : Int) < _; omega⟩
theorem okC4 {v : Nat} (h : v < 256 ^ 4) : okC ((v : Int),4) := ⟨by show 1 ≤ 4; omega,by show 4 ≤ 8; omega,by show (v : Int).toNat < 256 ^ 4; rw [Int.toNat_natCast]; exact h,by show (0 : Int) ≤ v; omega,by show (v : Int) < _; rw [show (256 : Nat) ^ 4 = 4294967296 from rfl] at h; omega⟩
theorem okC8 {v : Nat} (h : v < 256 ^ 8) : okC ((v : Int),8) := ⟨by show 1 ≤ 8; omega,by show 8 ≤ 8; omega,by show (v : Int).toNat < 256 ^ 8; rw [Int.toNat_natCast]; exact h,by show (0 : Int) ≤ v; omega,by show (v : Int) < _; rw [show (256 : Nat) ^ 8 = 18446744073709551616 from rfl] at h; omega⟩
theorem okCF (b : Bool) : okC (flI b,1) := by cases b <;> exact okC1 ⟨by decide,by decide⟩
theorem n4 {v : Nat} (h : v < 256 ^ 4) : (0 : Int) ≤ v ∧ (v : Int) < 9223372036854775808 := by rw [show (256 : Nat) ^ 4 = 4294967296 from rfl] at h; omega
theorem n1 {v : Nat} (h : v < 256 ^ 1) : (0 : Int) ≤ v ∧ (v : Int) < 9223372036854775808 := by rw [show (256 : Nat) ^ 1 = 256 from rfl] at h; omega
theorem i1 {v : Int} (h : b8 v) : (0 : Int) ≤ v ∧ v < 9223372036854775808 := by have := h.1; have := h.2; omega
theorem i2 {v : Int} (h : b16 v) : (0 : Int) ≤ v ∧ v < 9223372036854775808 := by have := h.1; have := h.2; omega
theorem qex (w : World) (a : AcR) (h : okAc a) : Calls Tryz.prog 139 #[.agg #[I a.kind,I a.task, .int .u32 (a.mask : Int)]] w fun e w' => ∃ u,e = .returned u ∧ OwB w w' u (eAc a) := by
 have hO0 := fun W => qmu W a.kind (i1 h.1).1 (i1 h.1).2
 have hO1 := fun W => qb2 W a.task (i1 h.2.1).1 (i1 h.2.1).2
 have hO2 := fun W => qca W (a.mask : Int) (n4 h.2.2).1 (n4 h.2.2).2
 have HE : Hid (putB [(a.kind,1),(a.task,1),((a.mask : Int),4)] = eAc a) := by show _ = _; simp [putB,eAc,e1]
 have HO : Hid (∀ y ∈ [(a.kind,1),(a.task,1),((a.mask : Int),4)],okC y) := by
  intro y hx
  simp only [List.mem_cons,List.not_mem_nil,or_false] at hx
  rcases hx with rfl | rfl | rfl
  ·exact okC1 h.1
  ·exact okC1 h.2.1
  ·exact okC4 h.2.2
 have hb := qa0 w (.cells #[I a.kind,I a.task, .int .u32 (a.mask : Int)] 83)
 have hV := heap_alloc_new w (.cells #[I a.kind,I a.task, .int .u32 (a.mask : Int)] 83)
 have HS0 : Hid (∀ W,Below (w.alloc (.cells #[I a.kind,I a.task, .int .u32 (a.mask : Int)] 83)).heap.size (w.alloc (.cells #[I a.kind,I a.task, .int .u32 (a.mask : Int)] 83)) W → (fun X => W.cell? ⟨X,0,none⟩ = some (I a.kind) ∧ W.cell? ⟨X,1,none⟩ = some (I a.task) ∧ W.cell? ⟨X,2,none⟩ = some (.int .u32 (a.mask : Int))) w.heap.size) := fun W hW => by
  have q := (hW.block _ (qa4 hV)).trans hV
  refine ⟨?_, ?_, ?_⟩ <;> (rw [cell_of_row _ _ _ _ _ (0,0) q]; rfl)
 have HB : Hid (Below w.heap.size w (w.alloc (.cells #[I a.kind,I a.task, .int .u32 (a.mask : Int)] 83))) := hb
 clear hb hV h
 go_enter Tryz.func139,Tryz.ntmps139
 go_upto_region 1 with fail
 generalize w.alloc (.cells #[I a.kind,I a.task, .int .u32 (a.mask : Int)] 83) = w1 at *
 generalize hX : w.heap.size = X at *
 have HX : Hid (w.heap.size = X) := hX
 clear hX
 have HS : Hid (∀ W,Below w1.heap.size w1 W → W.cell? ⟨X,0,none⟩ = some (I a.kind) ∧ W.cell? ⟨X,1,none⟩ = some (I a.task) ∧ W.cell? ⟨X,2,none⟩ = some (.int .u32 (a.mask : Int))) := HS0.out
 have hbz : Below w1.heap.size w1 w1 := Below.refl _ _
 have HY := HS.out w1 hbz
 go_region_held_law (fun W => W.cell? ⟨X,0,none⟩ = some (I a.kind) ∧ W.cell? ⟨X,1,none⟩ = some (I a.task) ∧ W.cell? ⟨X,2,none⟩ = some (.int .u32 (a.mask : Int))) (first | exact HY | exact HA _ | (go_keep; done)) (first
  | (go_at_call 179; refine (hO0 _).mono ?_; clear hO0; rintro e w10 ⟨rfl,b10⟩; have hbz := belT (by repeat' (first | exact hbz | apply Below.drew | apply belA)) b10; have HY := HS.out _ hbz; have HA := fun o => HS.out _ (belA hbz (o := o)); clear b10)
  | (go_at_call 132; refine (hO1 _).mono ?_; clear hO1; rintro e w11 ⟨rfl,b11⟩; have hbz := belT (by repeat' (first | exact hbz | apply Below.drew | apply belA)) b11; have HY := HS.out _ hbz; have HA := fun o => HS.out _ (belA hbz (o := o)); clear b11)
  | (go_at_call 134; refine (hO2 _).mono ?_; clear hO2; rintro e w12 ⟨rfl,b12⟩; have hbz := belT (by repeat' (first | exact hbz | apply Below.drew | apply belA)) b12; have HY := HS.out _ hbz; have HA := fun o => HS.out _ (belA hbz (o := o)); clear b12)
  | (go_at_call 69; refine (qbj [(a.kind,1),(a.task,1),((a.mask : Int),4)] (by first | exact heap_alloc_new _ _) rfl HO.out (by simp)).mono ?_; rintro e w9 ⟨u,rfl,o9⟩; have K9 : Hid (OwB w1 w9 u (putB [(a.kind,1),(a.task,1),((a.mask : Int),4)])) := qbd (by repeat' (first | exact hbz | apply Below.drew | apply belA)) o9; have HY := HS.out w9 K9.out.2; clear o9))
 go_wp2
 go_ret
 have := qbd (by have := HB.out; rw [← HX.out] at this; exact this) K9.out
 rw [HE.out] at this
 exact ⟨_,rfl,this⟩
theorem qm2 (w : World) (tb : Tb) (v : Ts) (h : TbAt w tb v) {j : Nat} {x : RgR} (hx : tb.rings[j]? = some x) (ok : okRg x) : Calls Tryz.prog 60 #[.agg (tbC tb v),I j] w fun e w' => ∃ u,e = .returned u ∧ OwB w w' u (eRg x) := by
 have hO0 := fun W => qb2 W x.prio (i1 ok.1).1 (i1 ok.1).2
 have hO1 := fun W => qce W x.cap (i2 ok.2).1 (i2 ok.2).2
 have HE : Hid (putB [(x.prio,1),(x.cap,2)] = eRg x) := by show _ = _; simp [putB,eRg,e1,e2]
 have HO : Hid (∀ y ∈ [(x.prio,1),(x.cap,2)],okC y) := by
  intro y hx
  simp only [List.mem_cons,List.not_mem_nil,or_false] at hx
  rcases hx with rfl | rfl
  ·exact okC1 ok.1
  ·exact okC2 ok.2
 have hb0 := qa0 w (.cells #[I tb.uses,I tb.modes, .slice v.t.a v.t.n v.t.c, .slice v.g.a v.g.n v.g.c, .slice v.r.a v.r.n v.r.c, .slice v.k.a v.k.n v.k.c, .slice v.a.a v.a.n v.a.c, .slice v.i.a v.i.n v.i.c, .slice v.s.a v.s.n v.s.c,I tb.depth,I tb.frames,I tb.errors,I tb.calls] 109)
 have hV0 := heap_alloc_new w (.cells #[I tb.uses,I tb.modes, .slice v.t.a v.t.n v.t.c, .slice v.g.a v.g.n v.g.c, .slice v.r.a v.r.n v.r.c, .slice v.k.a v.k.n v.k.c, .slice v.a.a v.a.n v.a.c, .slice v.i.a v.i.n v.i.c, .slice v.s.a v.s.n v.s.c,I tb.depth,I tb.frames,I tb.errors,I tb.calls] 109)
 obtain ⟨g,off,ea,hg,d0,d1⟩ := qg0 (h.below hb0) hx
 have cF : (w.alloc (.cells #[I tb.uses,I tb.modes, .slice v.t.a v.t.n v.t.c, .slice v.g.a v.g.n v.g.c, .slice v.r.a v.r.n v.r.c, .slice v.k.a v.k.n v.k.c, .slice v.a.a v.a.n v.a.c, .slice v.i.a v.i.n v.i.c, .slice v.s.a v.s.n v.s.c,I tb.depth,I tb.frames,I tb.errors,I tb.calls] 109)).cell? ⟨w.heap.size,3,none⟩ = some (.slice (some ⟨g,off,none⟩) v.g.n v.g.c) := by rw [← ea,cell_of_row _ _ _ _ _ (0,0) hV0]; rfl
 have hjn : (j : Int) < v.g.n := by have := h.g.n; have := (List.getElem?_eq_some_iff.1 hx).1; omega
 have hb1 := qa0 (w.alloc (.cells #[I tb.uses,I tb.modes, .slice v.t.a v.t.n v.t.c, .slice v.g.a v.g.n v.g.c, .slice v.r.a v.r.n v.r.c, .slice v.k.a v.k.n v.k.c, .slice v.a.a v.a.n v.a.c, .slice v.i.a v.i.n v.i.c, .slice v.s.a v.s.n v.s.c,I tb.depth,I tb.frames,I tb.errors,I tb.calls] 109)) (.cells #[I x.prio,I x.cap] 63)
 have hV1 := heap_alloc_new (w.alloc (.cells #[I tb.uses,I tb.modes, .slice v.t.a v.t.n v.t.c, .slice v.g.a v.g.n v.g.c, .slice v.r.a v.r.n v.r.c, .slice v.k.a v.k.n v.k.c, .slice v.a.a v.a.n v.a.c, .slice v.i.a v.i.n v.i.c, .slice v.s.a v.s.n v.s.c,I tb.depth,I tb.frames,I tb.errors,I tb.calls] 109)) (.cells #[I x.prio,I x.cap] 63)
 have HB : Hid (Below w.heap.size w ((w.alloc (.cells #[I tb.uses,I tb.modes, .slice v.t.a v.t.n v.t.c, .slice v.g.a v.g.n v.g.c, .slice v.r.a v.r.n v.r.c, .slice v.k.a v.k.n v.k.c, .slice v.a.a v.a.n v.a.c, .slice v.i.a v.i.n v.i.c, .slice v.s.a v.s.n v.s.c,I tb.depth,I tb.frames,I tb.errors,I tb.calls] 109)).alloc (.cells #[I x.prio,I x.cap] 63))) := belT hb0 hb1
 have HS0 : Hid (∀ W,Below ((w.alloc (.cells #[I tb.uses,I tb.modes, .slice v.t.a v.t.n v.t.c, .slice v.g.a v.g.n v.g.c, .slice v.r.a v.r.n v.r.c, .slice v.k.a v.k.n v.k.c, .slice v.a.a v.a.n v.a.c, .slice v.i.a v.i.n v.i.c, .slice v.s.a v.s.n v.s.c,I tb.depth,I tb.frames,I tb.errors,I tb.calls] 109)).alloc (.cells #[I x.prio,I x.cap] 63)).heap.size ((w.alloc (.cells #[I tb.uses,I tb.modes, .slice v.t.a v.t.n v.t.c, .slice v.g.a v.g.n v.g.c, .slice v.r.a v.r.n v.r.c, .slice v.k.a v.k.n v.k.c, .slice v.a.a v.a.n v.a.c, .slice v.i.a v.i.n v.i.c, .slice v.s.a v.s.n v.s.c,I tb.depth,I tb.frames,I tb.errors,I tb.calls] 109)).alloc (.cells #[I x.prio,I x.cap] 63)) W → (fun X => W.cell? ⟨X,0,none⟩ = some (I x.prio) ∧ W.cell? ⟨X,1,none⟩ = some (I x.cap)) (w.alloc (.cells #[I tb.uses,I tb.modes, .slice v.t.a v.t.n v.t.c, .slice v.g.a v.g.n v.g.c, .slice v.r.a v.r.n v.r.c, .slice v.k.a v.k.n v.k.c, .slice v.a.a v.a.n v.a.c, .slice v.i.a v.i.n v.i.c, .slice v.s.a v.s.n v.s.c,I tb.depth,I tb.frames,I tb.errors,I tb.calls] 109)).heap.size) := fun W hW => by
  have q := (hW.block _ (qa4 hV1)).trans hV1
  refine ⟨?_, ?_⟩ <;> (rw [cell_of_row _ _ _ _ _ (0,0) q]; rfl)
 unfold tbC
 clear hb0 hV0 hb1 hV1 ea hg hx
 go_enter Tryz.func60,Tryz.ntmps60
 go_upto_region 1 with fail
 generalize w.alloc (.cells #[I tb.uses,I tb.modes, .slice v.t.a v.t.n v.t.c, .slice v.g.a v.g.n v.g.c, .slice v.r.a v.r.n v.r.c, .slice v.k.a v.k.n v.k.c, .slice v.a.a v.a.n v.a.c, .slice v.i.a v.i.n v.i.c, .slice v.s.a v.s.n v.s.c,I tb.depth,I tb.frames,I tb.errors,I tb.calls] 109) = w0 at *
 go_upto_region 2 with fail
 clear cF d0 d1
 generalize w0.alloc (.cells #[I x.prio,I x.cap] 63) = w1 at *
 generalize w0.heap.size = X at *
 have HS : Hid (∀ W,Below w1.heap.size w1 W → W.cell? ⟨X,0,none⟩ = some (I x.prio) ∧ W.cell? ⟨X,1,none⟩ = some (I x.cap)) := HS0.out
 have hbz : Below w1.heap.size w1 w1 := Below.refl _ _
 have HY := HS.out w1 hbz
 go_region_held_law (fun W => W.cell? ⟨X,0,none⟩ = some (I x.prio) ∧ W.cell? ⟨X,1,none⟩ = some (I x.cap)) (first | exact HY | exact HA _ | (go_keep; done)) (first
  | (go_at_call 132; refine (hO0 _).mono ?_; clear hO0; rintro e w10 ⟨rfl,b10⟩; have hbz := belT (by repeat' (first | exact hbz | apply Below.drew | apply belA)) b10; have HY := HS.out _ hbz; have HA := fun o => HS.out _ (belA hbz (o := o)); clear b10)
  | (go_at_call 138; refine (hO1 _).mono ?_; clear hO1; rintro e w11 ⟨rfl,b11⟩; have hbz := belT (by repeat' (first | exact hbz | apply Below.drew | apply belA)) b11; have HY := HS.out _ hbz; have HA := fun o => HS.out _ (belA hbz (o := o)); clear b11)
  | (go_at_call 69; refine (qbj [(x.prio,1),(x.cap,2)] (by first | exact heap_alloc_new _ _) rfl HO.out (by simp)).mono ?_; rintro e w9 ⟨u,rfl,o9⟩; have K9 : Hid (OwB w1 w9 u (putB [(x.prio,1),(x.cap,2)])) := qbd (by repeat' (first | exact hbz | apply Below.drew | apply belA)) o9; have HY := HS.out w9 K9.out.2; clear o9))
 go_wp2
 go_ret
 have := qbd HB.out K9.out
 rw [HE.out] at this
 exact ⟨_,rfl,this⟩
theorem qm3 (w : World) (tb : Tb) (v : Ts) (h : TbAt w tb v) {j : Nat} {x : RsR} (hx : tb.ress[j]? = some x) (ok : okRs x) : Calls Tryz.prog 61 #[.agg (tbC tb v),I j] w fun e w' => ∃ u,e = .returned u ∧ OwB w w' u (eRs x) := by
 have hO0 := fun W => qgq W x.inner
 have hO1 := fun W => qfj W x.ceil ok.1 (by have := ok.2; omega)
 have HE : Hid (putB [((flI x.inner),1),((x.ceil + 1),1)] = eRs x) := by show _ = _; simp [putB,eRs,eF,e1]; cases x.inner <;> rfl
 have HO : Hid (∀ y ∈ [((flI x.inner),1),((x.ceil + 1),1)],okC y) := by
  intro y hx
  simp only [List.mem_cons,List.not_mem_nil,or_false] at hx
  rcases hx with rfl | rfl
  ·exact okCF _
  ·exact okC1 ok
 have hb0 := qa0 w (.cells #[I tb.uses,I tb.modes, .slice v.t.a v.t.n v.t.c, .slice v.g.a v.g.n v.g.c, .slice v.r.a v.r.n v.r.c, .slice v.k.a v.k.n v.k.c, .slice v.a.a v.a.n v.a.c, .slice v.i.a v.i.n v.i.c, .slice v.s.a v.s.n v.s.c,I tb.depth,I tb.frames,I tb.errors,I tb.calls] 109)
 have hV0 := heap_alloc_new w (.cells #[I tb.uses,I tb.modes, .slice v.t.a v.t.n v.t.c, .slice v.g.a v.g.n v.g.c, .slice v.r.a v.r.n v.r.c, .slice v.k.a v.k.n v.k.c, .slice v.a.a v.a.n v.a.c, .slice v.i.a v.i.n v.i.c, .slice v.s.a v.s.n v.s.c,I tb.depth,I tb.frames,I tb.errors,I tb.calls] 109)
 obtain ⟨g,off,ea,hg,d0,d1⟩ := qj0 (h.below hb0) hx
 have cF : (w.alloc (.cells #[I tb.uses,I tb.modes, .slice v.t.a v.t.n v.t.c, .slice v.g.a v.g.n v.g.c, .slice v.r.a v.r.n v.r.c, .slice v.k.a v.k.n v.k.c, .slice v.a.a v.a.n v.a.c, .slice v.i.a v.i.n v.i.c, .slice v.s.a v.s.n v.s.c,I tb.depth,I tb.frames,I tb.errors,I tb.calls] 109)).cell? ⟨w.heap.size,4,none⟩ = some (.slice (some ⟨g,off,none⟩) v.r.n v.r.c) := by rw [← ea,cell_of_row _ _ _ _ _ (0,0) hV0]; rfl
 have hjn : (j : Int) < v.r.n := by have := h.r.n; have := (List.getElem?_eq_some_iff.1 hx).1; omega
 have hb1 := qa0 (w.alloc (.cells #[I tb.uses,I tb.modes, .slice v.t.a v.t.n v.t.c, .slice v.g.a v.g.n v.g.c, .slice v.r.a v.r.n v.r.c, .slice v.k.a v.k.n v.k.c, .slice v.a.a v.a.n v.a.c, .slice v.i.a v.i.n v.i.c, .slice v.s.a v.s.n v.s.c,I tb.depth,I tb.frames,I tb.errors,I tb.calls] 109)) (.cells #[.bool x.inner,I x.ceil] 78)
 have hV1 := heap_alloc_new (w.alloc (.cells #[I tb.uses,I tb.modes, .slice v.t.a v.t.n v.t.c, .slice v.g.a v.g.n v.g.c, .slice v.r.a v.r.n v.r.c, .slice v.k.a v.k.n v.k.c, .slice v.a.a v.a.n v.a.c, .slice v.i.a v.i.n v.i.c, .slice v.s.a v.s.n v.s.c,I tb.depth,I tb.frames,I tb.errors,I tb.calls] 109)) (.cells #[.bool x.inner,I x.ceil] 78)
 have HB : Hid (Below w.heap.size w ((w.alloc (.cells #[I tb.uses,I tb.modes, .slice v.t.a v.t.n v.t.c, .slice v.g.a v.g.n v.g.c, .slice v.r.a v.r.n v.r.c, .slice v.k.a v.k.n v.k.c, .slice v.a.a v.a.n v.a.c, .slice v.i.a v.i.n v.i.c, .slice v.s.a v.s.n v.s.c,I tb.depth,I tb.frames,I tb.errors,I tb.calls] 109)).alloc (.cells #[.bool x.inner,I x.ceil] 78))) := belT hb0 hb1
 have HS0 : Hid (∀ W,Below ((w.alloc (.cells #[I tb.uses,I tb.modes, .slice v.t.a v.t.n v.t.c, .slice v.g.a v.g.n v.g.c, .slice v.r.a v.r.n v.r.c, .slice v.k.a v.k.n v.k.c, .slice v.a.a v.a.n v.a.c, .slice v.i.a v.i.n v.i.c, .slice v.s.a v.s.n v.s.c,I tb.depth,I tb.frames,I tb.errors,I tb.calls] 109)).alloc (.cells #[.bool x.inner,I x.ceil] 78)).heap.size ((w.alloc (.cells #[I tb.uses,I tb.modes, .slice v.t.a v.t.n v.t.c, .slice v.g.a v.g.n v.g.c, .slice v.r.a v.r.n v.r.c, .slice v.k.a v.k.n v.k.c, .slice v.a.a v.a.n v.a.c, .slice v.i.a v.i.n v.i.c, .slice v.s.a v.s.n v.s.c,I tb.depth,I tb.frames,I tb.errors,I tb.calls] 109)).alloc (.cells #[.bool x.inner,I x.ceil] 78)) W → (fun X => W.cell? ⟨X,0,none⟩ = some (.bool x.inner) ∧ W.cell? ⟨X,1,none⟩ = some (I x.ceil)) (w.alloc (.cells #[I tb.uses,I tb.modes, .slice v.t.a v.t.n v.t.c, .slice v.g.a v.g.n v.g.c, .slice v.r.a v.r.n v.r.c, .slice v.k.a v.k.n v.k.c, .slice v.a.a v.a.n v.a.c, .slice v.i.a v.i.n v.i.c, .slice v.s.a v.s.n v.s.c,I tb.depth,I tb.frames,I tb.errors,I tb.calls] 109)).heap.size) := fun W hW => by
  have q := (hW.block _ (qa4 hV1)).trans hV1
  refine ⟨?_, ?_⟩ <;> (rw [cell_of_row _ _ _ _ _ (0,0) q]; rfl)
 unfold tbC
 clear hb0 hV0 hb1 hV1 ea hg hx
 go_enter Tryz.func61,Tryz.ntmps61
 go_upto_region 1 with fail
 generalize w.alloc (.cells #[I tb.uses,I tb.modes, .slice v.t.a v.t.n v.t.c, .slice v.g.a v.g.n v.g.c, .slice v.r.a v.r.n v.r.c, .slice v.k.a v.k.n v.k.c, .slice v.a.a v.a.n v.a.c, .slice v.i.a v.i.n v.i.c, .slice v.s.a v.s.n v.s.c,I tb.depth,I tb.frames,I tb.errors,I tb.calls] 109) = w0 at *
 go_upto_region 2 with fail
 clear cF d0 d1
 generalize w0.alloc (.cells #[.bool x.inner,I x.ceil] 78) = w1 at *
 generalize w0.heap.size = X at *
 have HS : Hid (∀ W,Below w1.heap.size w1 W → W.cell? ⟨X,0,none⟩ = some (.bool x.inner) ∧ W.cell? ⟨X,1,none⟩ = some (I x.ceil)) := HS0.out
 have hbz : Below w1.heap.size w1 w1 := Below.refl _ _
 have HY := HS.out w1 hbz
 go_region_held_law (fun W => W.cell? ⟨X,0,none⟩ = some (.bool x.inner) ∧ W.cell? ⟨X,1,none⟩ = some (I x.ceil)) (first | exact HY | exact HA _ | (go_keep; done)) (first
  | (go_at_call 133; refine (hO0 _).mono ?_; clear hO0; rintro e w10 ⟨rfl,b10⟩; have hbz := belT (by repeat' (first | exact hbz | apply Below.drew | apply belA)) b10; have HY := HS.out _ hbz; have HA := fun o => HS.out _ (belA hbz (o := o)); clear b10)
  | (go_at_call 135; refine (hO1 _).mono ?_; clear hO1; rintro e w11 ⟨rfl,b11⟩; have hbz := belT (by repeat' (first | exact hbz | apply Below.drew | apply belA)) b11; have HY := HS.out _ hbz; have HA := fun o => HS.out _ (belA hbz (o := o)); clear b11)
  | (go_at_call 69; refine (qbj [((flI x.inner),1),((x.ceil + 1),1)] (by first | exact heap_alloc_new _ _) rfl HO.out (by simp)).mono ?_; rintro e w9 ⟨u,rfl,o9⟩; have K9 : Hid (OwB w1 w9 u (putB [((flI x.inner),1),((x.ceil + 1),1)])) := qbd (by repeat' (first | exact hbz | apply Below.drew | apply belA)) o9; have HY := HS.out w9 K9.out.2; clear o9))
 go_wp2
 go_ret
 have := qbd HB.out K9.out
 rw [HE.out] at this
 exact ⟨_,rfl,this⟩
theorem qm4 (w : World) (tb : Tb) (v : Ts) (h : TbAt w tb v) {j : Nat} {x : CtR} (hx : tb.ctrs[j]? = some x) (ok : okCt x) : Calls Tryz.prog 62 #[.agg (tbC tb v),I j] w fun e w' => ∃ u,e = .returned u ∧ OwB w w' u (eCt x) := by
 have hO0 := fun W => qca W (x.max : Int) (n4 ok.1).1 (n4 ok.1).2
 have hO1 := fun W => qca W (x.base : Int) (n4 ok.2.1).1 (n4 ok.2.1).2
 have hO2 := fun W => qca W (x.min : Int) (n4 ok.2.2).1 (n4 ok.2.2).2
 have HE : Hid (putB [((x.max : Int),4),((x.base : Int),4),((x.min : Int),4)] = eCt x) := by show _ = _; simp [putB,eCt]
 have HO : Hid (∀ y ∈ [((x.max : Int),4),((x.base : Int),4),((x.min : Int),4)],okC y) := by
  intro y hx
  simp only [List.mem_cons,List.not_mem_nil,or_false] at hx
  rcases hx with rfl | rfl | rfl
  ·exact okC4 ok.1
  ·exact okC4 ok.2.1
  ·exact okC4 ok.2.2
 have hb0 := qa0 w (.cells #[I tb.uses,I tb.modes, .slice v.t.a v.t.n v.t.c, .slice v.g.a v.g.n v.g.c, .slice v.r.a v.r.n v.r.c, .slice v.k.a v.k.n v.k.c, .slice v.a.a v.a.n v.a.c, .slice v.i.a v.i.n v.i.c, .slice v.s.a v.s.n v.s.c,I tb.depth,I tb.frames,I tb.errors,I tb.calls] 109)
 have hV0 := heap_alloc_new w (.cells #[I tb.uses,I tb.modes, .slice v.t.a v.t.n v.t.c, .slice v.g.a v.g.n v.g.c, .slice v.r.a v.r.n v.r.c, .slice v.k.a v.k.n v.k.c, .slice v.a.a v.a.n v.a.c, .slice v.i.a v.i.n v.i.c, .slice v.s.a v.s.n v.s.c,I tb.depth,I tb.frames,I tb.errors,I tb.calls] 109)
 obtain ⟨g,off,ea,hg,d0,d1,d2⟩ := qj1 (h.below hb0) hx
 have cF : (w.alloc (.cells #[I tb.uses,I tb.modes, .slice v.t.a v.t.n v.t.c, .slice v.g.a v.g.n v.g.c, .slice v.r.a v.r.n v.r.c, .slice v.k.a v.k.n v.k.c, .slice v.a.a v.a.n v.a.c, .slice v.i.a v.i.n v.i.c, .slice v.s.a v.s.n v.s.c,I tb.depth,I tb.frames,I tb.errors,I tb.calls] 109)).cell? ⟨w.heap.size,5,none⟩ = some (.slice (some ⟨g,off,none⟩) v.k.n v.k.c) := by rw [← ea,cell_of_row _ _ _ _ _ (0,0) hV0]; rfl
 have hjn : (j : Int) < v.k.n := by have := h.k.n; have := (List.getElem?_eq_some_iff.1 hx).1; omega
 have hb1 := qa0 (w.alloc (.cells #[I tb.uses,I tb.modes, .slice v.t.a v.t.n v.t.c, .slice v.g.a v.g.n v.g.c, .slice v.r.a v.r.n v.r.c, .slice v.k.a v.k.n v.k.c, .slice v.a.a v.a.n v.a.c, .slice v.i.a v.i.n v.i.c, .slice v.s.a v.s.n v.s.c,I tb.depth,I tb.frames,I tb.errors,I tb.calls] 109)) (.cells #[.int .u32 (x.max : Int), .int .u32 (x.base : Int), .int .u32 (x.min : Int)] 80)
 have hV1 := heap_alloc_new (w.alloc (.cells #[I tb.uses,I tb.modes, .slice v.t.a v.t.n v.t.c, .slice v.g.a v.g.n v.g.c, .slice v.r.a v.r.n v.r.c, .slice v.k.a v.k.n v.k.c, .slice v.a.a v.a.n v.a.c, .slice v.i.a v.i.n v.i.c, .slice v.s.a v.s.n v.s.c,I tb.depth,I tb.frames,I tb.errors,I tb.calls] 109)) (.cells #[.int .u32 (x.max : Int), .int .u32 (x.base : Int), .int .u32 (x.min : Int)] 80)
 have HB : Hid (Below w.heap.size w ((w.alloc (.cells #[I tb.uses,I tb.modes, .slice v.t.a v.t.n v.t.c, .slice v.g.a v.g.n v.g.c, .slice v.r.a v.r.n v.r.c, .slice v.k.a v.k.n v.k.c, .slice v.a.a v.a.n v.a.c, .slice v.i.a v.i.n v.i.c, .slice v.s.a v.s.n v.s.c,I tb.depth,I tb.frames,I tb.errors,I tb.calls] 109)).alloc (.cells #[.int .u32 (x.max : Int), .int .u32 (x.base : Int), .int .u32 (x.min : Int)] 80))) := belT hb0 hb1
 have HS0 : Hid (∀ W,Below ((w.alloc (.cells #[I tb.uses,I tb.modes, .slice v.t.a v.t.n v.t.c, .slice v.g.a v.g.n v.g.c, .slice v.r.a v.r.n v.r.c, .slice v.k.a v.k.n v.k.c, .slice v.a.a v.a.n v.a.c, .slice v.i.a v.i.n v.i.c, .slice v.s.a v.s.n v.s.c,I tb.depth,I tb.frames,I tb.errors,I tb.calls] 109)).alloc (.cells #[.int .u32 (x.max : Int), .int .u32 (x.base : Int), .int .u32 (x.min : Int)] 80)).heap.size ((w.alloc (.cells #[I tb.uses,I tb.modes, .slice v.t.a v.t.n v.t.c, .slice v.g.a v.g.n v.g.c, .slice v.r.a v.r.n v.r.c, .slice v.k.a v.k.n v.k.c, .slice v.a.a v.a.n v.a.c, .slice v.i.a v.i.n v.i.c, .slice v.s.a v.s.n v.s.c,I tb.depth,I tb.frames,I tb.errors,I tb.calls] 109)).alloc (.cells #[.int .u32 (x.max : Int), .int .u32 (x.base : Int), .int .u32 (x.min : Int)] 80)) W → (fun X => W.cell? ⟨X,0,none⟩ = some (.int .u32 (x.max : Int)) ∧ W.cell? ⟨X,1,none⟩ = some (.int .u32 (x.base : Int)) ∧ W.cell? ⟨X,2,none⟩ = some (.int .u32 (x.min : Int))) (w.alloc (.cells #[I tb.uses,I tb.modes, .slice v.t.a v.t.n v.t.c, .slice v.g.a v.g.n v.g.c, .slice v.r.a v.r.n v.r.c, .slice v.k.a v.k.n v.k.c, .slice v.a.a v.a.n v.a.c, .slice v.i.a v.i.n v.i.c, .slice v.s.a v.s.n v.s.c,I tb.depth,I tb.frames,I tb.errors,I tb.calls] 109)).heap.size) := fun W hW => by
  have q := (hW.block _ (qa4 hV1)).trans hV1
  refine ⟨?_, ?_, ?_⟩ <;> (rw [cell_of_row _ _ _ _ _ (0,0) q]; rfl)
 unfold tbC
 clear hb0 hV0 hb1 hV1 ea hg hx
 go_enter Tryz.func62,Tryz.ntmps62
 go_upto_region 1 with fail
 generalize w.alloc (.cells #[I tb.uses,I tb.modes, .slice v.t.a v.t.n v.t.c, .slice v.g.a v.g.n v.g.c, .slice v.r.a v.r.n v.r.c, .slice v.k.a v.k.n v.k.c, .slice v.a.a v.a.n v.a.c, .slice v.i.a v.i.n v.i.c, .slice v.s.a v.s.n v.s.c,I tb.depth,I tb.frames,I tb.errors,I tb.calls] 109) = w0 at *
 go_upto_region 2 with fail
 clear cF d0 d1 d2
 generalize w0.alloc (.cells #[.int .u32 (x.max : Int), .int .u32 (x.base : Int), .int .u32 (x.min : Int)] 80) = w1 at *
 generalize w0.heap.size = X at *
 have HS : Hid (∀ W,Below w1.heap.size w1 W → W.cell? ⟨X,0,none⟩ = some (.int .u32 (x.max : Int)) ∧ W.cell? ⟨X,1,none⟩ = some (.int .u32 (x.base : Int)) ∧ W.cell? ⟨X,2,none⟩ = some (.int .u32 (x.min : Int))) := HS0.out
 have hbz : Below w1.heap.size w1 w1 := Below.refl _ _
 have HY := HS.out w1 hbz
 go_region_held_law (fun W => W.cell? ⟨X,0,none⟩ = some (.int .u32 (x.max : Int)) ∧ W.cell? ⟨X,1,none⟩ = some (.int .u32 (x.base : Int)) ∧ W.cell? ⟨X,2,none⟩ = some (.int .u32 (x.min : Int))) (first | exact HY | exact HA _ | (go_keep; done)) (first
  | (go_at_call 134; refine (hO0 _).mono ?_; clear hO0; rintro e w10 ⟨rfl,b10⟩; have hbz := belT (by repeat' (first | exact hbz | apply Below.drew | apply belA)) b10; have HY := HS.out _ hbz; have HA := fun o => HS.out _ (belA hbz (o := o)); clear b10)
  | (go_at_call 134; refine (hO1 _).mono ?_; clear hO1; rintro e w11 ⟨rfl,b11⟩; have hbz := belT (by repeat' (first | exact hbz | apply Below.drew | apply belA)) b11; have HY := HS.out _ hbz; have HA := fun o => HS.out _ (belA hbz (o := o)); clear b11)
  | (go_at_call 134; refine (hO2 _).mono ?_; clear hO2; rintro e w12 ⟨rfl,b12⟩; have hbz := belT (by repeat' (first | exact hbz | apply Below.drew | apply belA)) b12; have HY := HS.out _ hbz; have HA := fun o => HS.out _ (belA hbz (o := o)); clear b12)
  | (go_at_call 69; refine (qbj [((x.max : Int),4),((x.base : Int),4),((x.min : Int),4)] (by first | exact heap_alloc_new _ _) rfl HO.out (by simp)).mono ?_; rintro e w9 ⟨u,rfl,o9⟩; have K9 : Hid (OwB w1 w9 u (putB [((x.max : Int),4),((x.base : Int),4),((x.min : Int),4)])) := qbd (by repeat' (first | exact hbz | apply Below.drew | apply belA)) o9; have HY := HS.out w9 K9.out.2; clear o9))
 go_wp2
 go_ret
 have := qbd HB.out K9.out
 rw [HE.out] at this
 exact ⟨_,rfl,this⟩
theorem qkq {W : World} {b e k n : Nat} {u : Value} {xs : List Value} {α : Type} {P : α → Nat → Value → Prop} {l : List α} (h : W.ownsRow b e k u n xs) (hn : n = l.length) (hp : ∀ j x,l[j]? = some x → ∀ i,i < k → ∃ y,xs[j * k + i]? = some y ∧ P x i y) : ∃ s : Sl,u = slT s ∧ RowsAt W k P s l := by
 subst hn
 obtain ⟨a,c,rfl⟩ := qan h
 refine ⟨⟨a,l.length,c⟩,rfl,⟨rfl, ?_, ?_,fun j x hj => ?_⟩⟩
 ·rcases h.2 with ⟨q,q2⟩ | ⟨g,cap,cur,q,_,_,hle,hm,_⟩
  ·show l.length ≤ c
   rw [q2]; exact Nat.zero_le _
  ·cases q; exact hle
 ·rcases h.2 with ⟨q,q2⟩ | ⟨g,cap,cur,q,_,_,hle,hm,_⟩
  ·show c ≤ maxLen
   rw [(Value.slice.inj q).2.2]; exact Nat.zero_le _
  ·cases q; exact hm
 ·have hlt : j < l.length := (List.getElem?_eq_some_iff.1 hj).1
  rcases h.2 with ⟨q,q2⟩ | ⟨g,cap,cur,q,_,hh,hle,hm,_⟩
  ·omega
  ·cases q
   refine ⟨g,0,rfl,(Array.getElem?_eq_some_iff.1 hh).1,fun i hi => ?_⟩
   obtain ⟨y,hy,hP⟩ := hp j x hj i hi
   refine ⟨y, ?_,hP⟩
   have := h.cells rfl (j * k + i) y hy
   rw [qc1] at this
   rw [show 0 + j * k + i = 0 + (j * k + i) by omega]
   exact this
theorem qjq (w : World) (xs : Array Value) (t : TypeId) : ∀ j u,xs.toList[j]? = some u → (w.alloc (.cells xs t)).cell? ((⟨w.heap.size,0,none⟩ : Addr).add j) = some u := by
 intro j u hj
 rw [qc1,cell_of_row _ _ _ _ _ (0,0) (heap_alloc_new w _),Nat.zero_add]
 simpa using hj
theorem qo8 (w : World) (n : Nat) (hn : n ≤ 1000) (f : Nat) (bnd caps : Array Value) (eg : ∀ args W,(callFunc f args).run Tryz.prog W = .ok (.enter f args) W) (mk : Nat → Int × Nat)
  (hf : ∀ W,Below w.heap.size w W → ∀ j,j < n → Calls Tryz.prog f (bnd ++ #[I j] ++ caps) W fun e w' => e = .returned (cV (mk j).1 (mk j).2) ∧ Below W.heap.size W w') :
  Calls Tryz.prog 177 #[I n, .func (.func f) bnd caps] w fun e w' => ∃ u,e = .returned u ∧ w'.ownsRow w.heap.size 114 2 u n (((List.range n).map mk).flatMap qby) ∧ Below w.heap.size w w' := by
 obtain ⟨im,him,hm0,hm1,hm2⟩ := info_parts qmw
 have HF : Hid (∀ W,Below w.heap.size w W → ∀ j,j < n → Calls Tryz.prog f (bnd ++ #[I j] ++ caps) W fun e w' => e = .returned (cV (mk j).1 (mk j).2) ∧ Below W.heap.size W w') := hf
 have HI : Hid (w.ownsRow w.heap.size 114 2 (.slice none 0 0) 0 (((List.range 0).map mk).flatMap qby) ∧ Below w.heap.size w w) := ⟨World.ownsRow_nil _ _ _ _,Below.refl _ _⟩
 clear hf
 go_enter Tryz.func177,Tryz.ntmps177
 go_wp2
 go_loopw [5,6,8] (fun v5 _ v8 wr => ∃ j : Nat,j ≤ n ∧ v8 = I j ∧ Hid (wr.ownsRow w.heap.size 114 2 v5 j (((List.range j).map mk).flatMap qby) ∧ Below w.heap.size w wr)) (fun _ _ v8 _ => n - (intOf v8).toNat)
 case atStart => exact ⟨0,by omega,rfl,HI.out⟩
 case round =>
  clear HI
  obtain ⟨j,hj,rfl,HJ⟩ := hrel
  by_cases hlt : j < n
  ·have hlt' : (j : Int) < n := by omega
   have cx := HF.out wr HJ.out.2 j hlt
   have HR : Hid (((List.range (j + 1)).map mk).flatMap qby = ((List.range j).map mk).flatMap qby ++ [Q8 (mk j).1,I (mk j).2]) := by
    show _ = _
    rw [qfa,List.flatMap_append]
    simp [qby]
   generalize (mk j).1 = m1 at *
   generalize (mk j).2 = m2 at *
   go_wp2
   refine cx.mono ?_
   clear cx
   rintro e7 w7 ⟨rfl,b7⟩
   have H7 : Hid (Below w.heap.size w w7) := HJ.out.2.trans (b7.mono HJ.out.2.size)
   have hw7 := H7.out.size
   have hO := (qa2 HJ.out.1 b7).alloc (.cells #[Q8 m1,I m2] 114)
   have hnw := qjq w7 #[Q8 m1,I m2] 114
   clear b7 HJ
   go_wp2_with (first
    | (at_builtin; refine wpList_append_own _ rfl (.tmp 11) (.tmp 15) 180 rfl w.heap.size 114 im (.agg #[.int .u64 0,I 0]) 2 16 Tryz.underlying180 him hm0 hm1 hm2 rfl (by decide) _ _ _ rfl hO ⟨w7.heap.size,0,none⟩ 1 1 [Q8 m1,I m2] rfl rfl hnw (by intro u hu; simp at hu; rcases hu with rfl | rfl <;> rfl) (by unfold maxLen; omega) (by omega) (by simp; omega) ?_; intro v6 w6 ho6 hg6 _; have H9 : Hid (w6.ownsRow w.heap.size 114 2 v6 (j + 1) (((List.range (j + 1)).map mk).flatMap qby) ∧ Below w.heap.size w w6) := ⟨(by rw [HR.out]; exact ho6),Below.grown hO (H7.out.trans ((qa0 w7 _).mono hw7)) hg6⟩; clear ho6 hg6 hO hnw))
   go_roundw
   case rel => exact ⟨j + 1,by omega,by go_num,H9.out⟩
   case measure => simp [intOf]; omega
  ·obtain rfl : j = n := by omega
   have hge : ¬ ((j : Int) < j) := by omega
   clear HF
   go_wp2
   go_ret
   exact ⟨_,rfl,HJ.out⟩
theorem qjr {W : World} {X : Nat} {s : Sl} {l : List Int} (h : RowsAt W 1 intP s l) (hX : W.heap[X]? = some (.cells #[slT s] 40)) (hb : ∀ y ∈ l,b8 y) {j : Nat} {x : Int} (hx : l[j]? = some x) : Calls Tryz.prog 178 #[I j, .pointer (some ⟨X,0,none⟩)] W fun e w' => e = .returned (cV x 1) ∧ Below W.heap.size W w' := by
 have hb0 := qa0 W (cO 0 0)
 have hv := heap_alloc_new W (cO 0 0)
 have hbx := hb x (List.mem_of_getElem? hx)
 obtain ⟨g,off,ea,hg,hr⟩ := h.row j x hx
 obtain ⟨u,hu,e⟩ := hr 0 (by omega)
 have e' : u = I x := e
 subst e'
 have hjn : (j : Int) < s.n := by have := h.n; have := (List.getElem?_eq_some_iff.1 hx).1; omega
 obtain ⟨sa,sn,sc⟩ := s
 have ea' : sa = some ⟨g,off,none⟩ := ea
 subst ea'
 have c0 : (W.alloc (cO 0 0)).cell? ⟨X,0,none⟩ = some (.slice (some ⟨g,off,none⟩) sn sc) := by
  rw [qa6 hb0 _ _ (qa4 hX),cell_of_row _ _ _ _ _ (0,0) hX]; rfl
 have c1 : (W.alloc (cO 0 0)).cell? ⟨g,off + j,none⟩ = some (I x) := by
  rw [qa6 hb0 _ _ hg]; simpa using hu
 have H1 := qb2 (W.alloc (cO 0 0)) x (i1 hbx).1 (i1 hbx).2
 have HS : Hid (∀ w2 (y : Int),Below (W.alloc (cO 0 0)).heap.size (W.alloc (cO 0 0)) w2 → Below W.heap.size W ((w2.setCell ⟨W.heap.size,0,none⟩ (Q8 y)).setCell ⟨W.heap.size,1,none⟩ (I 1)) ∧ ((w2.setCell ⟨W.heap.size,0,none⟩ (Q8 y)).setCell ⟨W.heap.size,1,none⟩ (I 1)).heap[W.heap.size]? = some (cO y 1) ∧ w2.cell? ⟨W.heap.size,0,none⟩ = some (Q8 0) ∧ (w2.setCell ⟨W.heap.size,0,none⟩ (Q8 y)).cell? ⟨W.heap.size,1,none⟩ = some (I 0) ∧ w2.frozen? ⟨W.heap.size,0,none⟩ = false ∧ (w2.setCell ⟨W.heap.size,0,none⟩ (Q8 y)).frozen? ⟨W.heap.size,1,none⟩ = false) := qef hb0 hv
 dsimp only at hjn
 clear hb0 hv h hX hb hr hu ea hg hx hbx
 generalize hw1 : W.alloc (cO 0 0) = w1 at *
 go_enter Tryz.func178,Tryz.ntmps178
 go_upto_region 1 with fail
 clear hw1
 go_wp2_with (first | (go_at_call 132; refine H1.mono ?_; clear H1; rintro e w2 ⟨rfl,b2⟩; obtain ⟨k1,k2,k3,k4,k5,k6⟩ := HS.out w2 x b2; have K : Hid (Below W.heap.size W ((w2.setCell ⟨W.heap.size,0,none⟩ (Q8 x)).setCell ⟨W.heap.size,1,none⟩ (I 1)) ∧ ((w2.setCell ⟨W.heap.size,0,none⟩ (Q8 x)).setCell ⟨W.heap.size,1,none⟩ (I 1)).heap[W.heap.size]? = some (cO x 1)) := ⟨k1,k2⟩; clear k1 k2 b2))
 refine bodyPost_ret (qbf Tryz.results178 _ W.heap.size _ _ _ rfl K.out.2) rfl ?_
 exact ⟨rfl,K.out.1⟩
end Go.Proofs.YtijgopkhdjaolaaGreat
