import Derived.Test.YtijgopkhdjaolaaGreatThnl
import Derived.Test.YtijgopkhdjaolaaGreatHt7
import Derived.SizedLaws
import Derived.ProofKit
namespace Go.Proofs.YtijgopkhdjaolaaGreat
set_option maxRecDepth 100000
open Go.RowKit Go.ChangeShapes Go.WideShapes
set_option linter.unusedVariables false
theorem qhe {H : Type} {P : Program} {e : TypeId} : ∀ {es : List (DataW H)} {d : DataW H},d ∈ es → ∀ n ∈ d.weights P e,n ∈ DataW.weightsAll P e es := by
 intro es
 induction es with
 | nil => intro d hd; cases hd
 | cons x r ih =>
  intro d hd n hn
  unfold DataW.weightsAll
  rcases List.mem_cons.1 hd with rfl | hd
  ·exact List.mem_append_left _ hn
  ·exact List.mem_append_right _ (ih hd n hn)
theorem qiv {H : Type} {P : Program} {t e : TypeId} {es sp : List (DataW H)} {d : DataW H} (hu : P.underlying t = some (.slice e)) (h : qbw (DataW.weights P t (.slice es sp))) (hd : d ∈ es) : qbw (d.weights P e) := by
 unfold DataW.weights at h
 simp only [hu] at h
 exact fun n hn => h n (List.mem_cons_of_mem _ (List.mem_append_left _ (qhe hd n hn)))
theorem qf0 {α : Type} (inh : Inhabited α) {H : Type} {enc : TypeId × Value → H} {w : World} {spare : Nat → Bool} {held : Bool} {fuel : Nat} {T E : TypeId} {k : Nat} (hk : 0 < k) (hu : Tryz.prog.underlying T = some (.slice E)) (hc : Tryz.prog.cellsOf E = k) {P : α → Nat → Value → Prop} (R : α → Prop) {v : Value} {y : DataW H × List MemPlace}
  (h : DataW.trod enc Tryz.prog w 0 spare held fuel T [v] = some y)
  (one : ∀ n cs z,cs.length = k → DataW.trod enc Tryz.prog w 0 spare held n E cs = some z → ∃ x : α,(∀ i,i < k → ∃ u,cs[i]? = some u ∧ P x i u) ∧ (qbw (z.1.weights Tryz.prog E) → R x)) :
  ∃ (s : Sl) (l : List α),v = .slice s.a s.n s.c ∧ RowsAt w k P s l ∧ (qbw (y.1.weights Tryz.prog T) → l.length * Tryz.prog.bytesOf E ≤ reachBytes ∧ ∀ x ∈ l,R x) := by
 rcases DataW.trod_slice hu h with ⟨hcs,_⟩ | ⟨a,len,cap,elems,rest,n,hfu,hcs,hx,_,hlc,hcm,hel,hV,_,_⟩
 ·simp at hcs
  subst hcs
  exact ⟨⟨none,0,0⟩, [],rfl,⟨rfl,Nat.le_refl _,Nat.zero_le _,fun j x hj => by simp at hj⟩,fun _ => ⟨by simp,fun x hx => by cases hx⟩⟩
 ·simp at hcs
  subst hcs
  rw [hc] at hV
  obtain ⟨L,hL⟩ := Go.Deep.choose_lt (α := α) (n := len) (p := fun i x => ∃ cs,w.cells? 0 (a.add (i * k)) k = some cs ∧ (∀ t,t < k → ∃ u,cs[t]? = some u ∧ P x t u) ∧ ∀ z,elems[i]? = some z → qbw (z.1.weights Tryz.prog E) → R x) (fun i hi => by
   have hVi := hV i hi
   rw [List.getElem?_eq_getElem (by omega : i < elems.length)] at hVi
   obtain ⟨cs',h1,h2⟩ := Option.bind_eq_some_iff.1 hVi
   obtain ⟨_,hcl,_⟩ := World.cells?_some h1
   obtain ⟨x,hx,hR⟩ := one n cs' _ hcl h2
   exact ⟨x,cs',h1,hx,fun z hz hs => hR (by rw [List.getElem?_eq_getElem (by omega : i < elems.length)] at hz; obtain rfl := Option.some.inj hz; exact hs)⟩)
  obtain ⟨b,off,spot⟩ := a
  refine ⟨⟨some ⟨b,off,spot⟩,len,cap⟩,(List.range len).map L,rfl,⟨by simp,hlc,hcm,fun j x hj => ?_⟩,fun hz => ?_⟩
  ·rw [List.getElem?_map] at hj
   obtain ⟨i,hi,rfl⟩ := Option.map_eq_some_iff.1 hj
   have hjl : j < len := by have := (List.getElem?_eq_some_iff.1 hi).1; simpa using this
   obtain rfl : j = i := by rw [List.getElem?_range hjl] at hi; exact Option.some.inj hi
   obtain ⟨cs,h1,h2,_⟩ := hL j hjl
   obtain ⟨_,hcl,hcc⟩ := World.cells?_some h1
   have hspot : spot = none := by
    obtain ⟨cs0,g1,g2,_⟩ := hL 0 (by omega)
    obtain ⟨_,gl,gc⟩ := World.cells?_some g1
    obtain ⟨u,gu,_⟩ := g2 0 hk
    have := World.cell?_spot ((gc 0 hk).trans gu)
    simpa [Addr.add] using this
   subst hspot
   refine ⟨b,off,rfl, ?_,fun t ht => ?_⟩
   ·have := World.cells?_block h1 hk
    rw [WideShapes.add_plain] at this
    exact this
   ·obtain ⟨u,hu1,hu2⟩ := h2 t ht
    have := (hcc t ht).trans hu1
    rw [WideShapes.add_plain,WideShapes.add_plain] at this
    exact ⟨u,this,hu2⟩
  ·rw [hx] at hz
   refine ⟨?_,fun x hxm => ?_⟩
   ·have := qek hu hz
    rw [List.length_map,hel] at this
    simpa using this
   ·obtain ⟨i,hi,rfl⟩ := List.mem_map.1 hxm
    have hil := List.mem_range.1 hi
    obtain ⟨_,_,_,hR⟩ := hL i hil
    have hie : i < elems.length := by omega
    refine hR elems[i] (List.getElem?_eq_getElem hie) ?_
    exact qiv hu hz (List.mem_map.2 ⟨_,List.getElem_mem hie,rfl⟩)
theorem qnu : Tryz.prog.bytesOf 3 = 8 := by kernel_rfl
theorem qf1 {H : Type} {enc : TypeId × Value → H} {w : World} {spare : Nat → Bool} {held : Bool} {fuel : Nat} {v : Value} {y : DataW H × List MemPlace} (h : DataW.trod enc Tryz.prog w 0 spare held fuel 40 [v] = some y) : ∃ l,IntsV w l v ∧ (qbw (y.1.weights Tryz.prog 40) → l.length * 8 ≤ reachBytes) := by
 obtain ⟨s,l,e,hr,hz⟩ := qb6 ⟨0⟩ (by omega) Tryz.underlying40 ql1 h qfz
 exact ⟨l,⟨s,e,hr⟩,fun h => by have := hz h; rwa [qnu] at this⟩
theorem qk6 {H : Type} {enc : TypeId × Value → H} {w : World} {spare : Nat → Bool} {held : Bool} (fuel : Nat) (cs : List Value) (y : DataW H × List MemPlace) (hcs : cs.length = 8) (h : DataW.trod enc Tryz.prog w 0 spare held fuel 61 cs = some y) : ∃ x : TkR,(∀ i,i < 8 → ∃ u,cs[i]? = some u ∧ ql3 w x i u) ∧ (qbw (y.1.weights Tryz.prog 61) → x.own.length * 8 ≤ reachBytes) := by
 obtain ⟨c0,c1,c2,c3,c4,c5,c6,c7,rfl⟩ := qhy hcs
 obtain ⟨xs,n,hn,hx,hl,hlen,hfs⟩ := DataW.trod_struct Tryz.underlying61 h
 match xs,hlen with
 | [y0,y1,y2,y3,y4,y5,y6,y7],_ =>
  have h0 := hfs 0 _ rfl
  have h1 := hfs 1 _ rfl
  have h2 := hfs 2 _ rfl
  have h3 := hfs 3 _ rfl
  have h4 := hfs 4 _ rfl
  have h5 := hfs 5 _ rfl
  have h6 := hfs 6 _ rfl
  have h7 := hfs 7 _ rfl
  simp [qe1,qf6,qbu,qcd] at h0 h1 h2 h3 h4 h5 h6 h7
  obtain ⟨vprio,e0,_,_⟩ := DataW.trod_int Tryz.underlying3 h0
  obtain ⟨vring,e1,_,_⟩ := DataW.trod_int Tryz.underlying3 h1
  obtain ⟨vfull,e2,_⟩ := DataW.trod_bool Tryz.underlying4 h2
  obtain ⟨vlimit,e3,_,_⟩ := DataW.trod_int Tryz.underlying3 h3
  obtain ⟨vmaskz,e4,_,bvmask⟩ := DataW.trod_int Tryz.underlying59 h4
  obtain ⟨vmask,rfl⟩ := Int.eq_ofNat_of_zero_le (bounds_u32 bvmask).1
  obtain ⟨vinner,e5,_,_⟩ := DataW.trod_int Tryz.underlying3 h5
  obtain ⟨vown,w6,W6⟩ := qf1 h6
  obtain ⟨vautoz,e7,_,bvauto⟩ := DataW.trod_int Tryz.underlying59 h7
  obtain ⟨vauto,rfl⟩ := Int.eq_ofNat_of_zero_le (bounds_u32 bvauto).1
  simp at e0 e1 e2 e3 e4 e5 e7
  subst e0 e1 e2 e3 e4 e5 e7
  have kvmask : vmask < 4294967296 := by have := (bounds_u32 bvmask).2; omega
  have kvauto : vauto < 4294967296 := by have := (bounds_u32 bvauto).2; omega
  refine ⟨⟨vprio,vring,vfull,vlimit,vmask,vinner,vown,vauto⟩,fun i hi => ?_,fun hz => W6 (by have hx2 := congrArg Prod.fst hx; rw [hx2] at hz; exact qd7 Tryz.underlying61 hz (j := 6) rfl rfl)⟩
  rcases (by omega : i = 0 ∨ i = 1 ∨ i = 2 ∨ i = 3 ∨ i = 4 ∨ i = 5 ∨ i = 6 ∨ i = 7) with rfl | rfl | rfl | rfl | rfl | rfl | rfl | rfl
  ·exact ⟨_,rfl,rfl,kvmask,kvauto⟩
  ·exact ⟨_,rfl,rfl,kvmask,kvauto⟩
  ·exact ⟨_,rfl,rfl,kvmask,kvauto⟩
  ·exact ⟨_,rfl,rfl,kvmask,kvauto⟩
  ·exact ⟨_,rfl,rfl,kvmask,kvauto⟩
  ·exact ⟨_,rfl,rfl,kvmask,kvauto⟩
  ·exact ⟨_,rfl,w6,kvmask,kvauto⟩
  ·exact ⟨_,rfl,rfl,kvmask,kvauto⟩
theorem qk7 {H : Type} {enc : TypeId × Value → H} {w : World} {spare : Nat → Bool} {held : Bool} (fuel : Nat) (cs : List Value) (y : DataW H × List MemPlace) (hcs : cs.length = 3) (h : DataW.trod enc Tryz.prog w 0 spare held fuel 87 cs = some y) : ∃ x : IsR,(∀ i,i < 3 → ∃ u,cs[i]? = some u ∧ isrP w x i u) ∧ (qbw (y.1.weights Tryz.prog 87) → x.own.length * 8 ≤ reachBytes) := by
 obtain ⟨c0,c1,c2,rfl⟩ := qhx hcs
 obtain ⟨xs,n,hn,hx,hl,hlen,hfs⟩ := DataW.trod_struct Tryz.underlying87 h
 match xs,hlen with
 | [y0,y1,y2],_ =>
  have h0 := hfs 0 _ rfl
  have h1 := hfs 1 _ rfl
  have h2 := hfs 2 _ rfl
  simp [qe1,qbu] at h0 h1 h2
  obtain ⟨vcat,e0,_,_⟩ := DataW.trod_int Tryz.underlying3 h0
  obtain ⟨vprio,e1,_,_⟩ := DataW.trod_int Tryz.underlying3 h1
  obtain ⟨vown,w2,W2⟩ := qf1 h2
  simp at e0 e1
  subst e0 e1
  refine ⟨⟨vcat,vprio,vown⟩,fun i hi => ?_,fun hz => W2 (by have hx2 := congrArg Prod.fst hx; rw [hx2] at hz; exact qd7 Tryz.underlying87 hz (j := 2) rfl rfl)⟩
  rcases (by omega : i = 0 ∨ i = 1 ∨ i = 2) with rfl | rfl | rfl
  ·exact ⟨_,rfl,rfl⟩
  ·exact ⟨_,rfl,rfl⟩
  ·exact ⟨_,rfl,w2⟩
theorem qnv {H : Type} {enc : TypeId × Value → H} {w : World} {spare : Nat → Bool} {held : Bool} {r : Reach} {b0 : Nat} {v : Value} {d : DataW H} {p : List MemPlace}
  (hv : Value.okWide Tryz.prog w r b0 30 v) (h : DataW.Trod enc Tryz.prog w 0 spare held 30 v d p) (hd : qbw (d.weights Tryz.prog 30)) :
  ∃ (tb : Tb) (vv : Ts),v = .agg (tbC tb vv) ∧ TbAt w tb vv ∧ WfT tb ∧ SzT tb := by
 obtain ⟨cs,rfl,hsz⟩ := okWide_struct Tryz.underlying30 hv
 rw [ql4] at hsz
 obtain ⟨c0,c1,c2,c3,c4,c5,c6,c7,c8,c9,c10,c11,c12,rfl⟩ := qhh hsz
 obtain ⟨fuel,hf⟩ := h
 obtain ⟨xs,n,hn,hx,hl,hlen,hfs⟩ := DataW.trod_struct Tryz.underlying30 hf
 match xs,hlen with
 | [y0,y1,y2,y3,y4,y5,y6,y7,y8,y9,y10,y11,y12],_ =>
  have hx2 := congrArg Prod.fst hx
  dsimp only at hx2
  rw [hx2] at hd
  have D := fun {j : Nat} {u : TypeId} {e : DataW H} => qd7 (P := Tryz.prog) Tryz.underlying30 hd (j := j) (u := u) (d := e)
  have h0 := hfs 0 _ rfl
  have h1 := hfs 1 _ rfl
  have h2 := hfs 2 _ rfl
  have h3 := hfs 3 _ rfl
  have h4 := hfs 4 _ rfl
  have h5 := hfs 5 _ rfl
  have h6 := hfs 6 _ rfl
  have h7 := hfs 7 _ rfl
  have h8 := hfs 8 _ rfl
  have h9 := hfs 9 _ rfl
  have h10 := hfs 10 _ rfl
  have h11 := hfs 11 _ rfl
  have h12 := hfs 12 _ rfl
  simp [qd3,qcv,qds,qcw,qcs,qdh,qdg,qbu,Value.cells] at h0 h1 h2 h3 h4 h5 h6 h7 h8 h9 h10 h11 h12
  obtain ⟨nUses,e0,_,_⟩ := DataW.trod_int Tryz.underlying3 h0
  obtain ⟨nModes,e1,_,_⟩ := DataW.trod_int Tryz.underlying3 h1
  obtain ⟨nDepth,e9,_,_⟩ := DataW.trod_int Tryz.underlying3 h9
  obtain ⟨nFrames,e10,_,_⟩ := DataW.trod_int Tryz.underlying3 h10
  obtain ⟨nErrors,e11,_,_⟩ := DataW.trod_int Tryz.underlying3 h11
  obtain ⟨nCalls,e12,_,_⟩ := DataW.trod_int Tryz.underlying3 h12
  simp at e0 e1 e9 e10 e11 e12
  subst e0 e1 e9 e10 e11 e12
  obtain ⟨st,lt,rfl,rt,zt⟩ := qf0 ⟨(⟨0,0,false,0,0,0, [],0⟩ : TkR)⟩ (by omega) Tryz.underlying22 q9_t (fun x => x.own.length * 8 ≤ reachBytes) h2 qk6
  obtain ⟨sg,lg,rfl,rg,zg⟩ := qb6 ⟨(⟨0,0⟩ : RgR)⟩ (by omega) Tryz.underlying23 q9_g h3 qgg
  obtain ⟨sr,lr,rfl,rr,zr⟩ := qb6 ⟨(⟨false,0⟩ : RsR)⟩ (by omega) Tryz.underlying24 q9_r h4 qgh
  obtain ⟨sk,lk,rfl,rk,zk⟩ := qb6 ⟨(⟨0,0,0⟩ : CtR)⟩ (by omega) Tryz.underlying25 q9_k h5 qgi
  obtain ⟨sa,la,rfl,ra,za⟩ := qb6 ⟨(⟨0,⟨0,0,0⟩,0,0,0⟩ : AlR)⟩ (by omega) Tryz.underlying26 q9_a h6 qgj
  obtain ⟨si,li,rfl,ri,zi⟩ := qf0 ⟨(⟨0,0, []⟩ : IsR)⟩ (by omega) Tryz.underlying27 q9_i (fun x => x.own.length * 8 ≤ reachBytes) h7 qk7
  obtain ⟨ss,ls,rfl,rs,zs⟩ := qb6 ⟨(⟨0,0,0,0,0,⟨0,0,0⟩⟩ : MsR)⟩ (by omega) Tryz.underlying28 q9_s h8 qgk
  refine ⟨⟨nUses,nModes,lt,lg,lr,lk,la,li,ls,nDepth,nFrames,nErrors,nCalls⟩,⟨st,sg,sr,sk,sa,si,ss⟩, ?_,⟨rt.below (Below.refl _ _) (fun _ _ _ _ h => h.1),rg,rr,rk.below (Below.refl _ _) (fun _ _ _ _ h => h.1),ra.below (Below.refl _ _) (fun _ _ _ _ h => h.1),ri,rs.below (Below.refl _ _) (fun _ _ _ _ h => h.1)⟩,⟨fun x hx => ?_,fun x hx => ?_,fun x hx => ?_,fun x hx => ?_⟩, ?_⟩
  ·simp [tbC]
  ·obtain ⟨j,hj⟩ := List.getElem?_of_mem hx
   obtain ⟨_,_,_,_,hr⟩ := rt.row j x hj
   obtain ⟨_,_,hb⟩ := hr 0 (by omega)
   exact hb.2
  ·obtain ⟨j,hj⟩ := List.getElem?_of_mem hx
   obtain ⟨_,_,_,_,hr⟩ := rk.row j x hj
   obtain ⟨_,_,hb⟩ := hr 0 (by omega)
   exact hb.2
  ·obtain ⟨j,hj⟩ := List.getElem?_of_mem hx
   obtain ⟨_,_,_,_,hr⟩ := ra.row j x hj
   obtain ⟨_,_,hb⟩ := hr 0 (by omega)
   exact hb.2
  ·obtain ⟨j,hj⟩ := List.getElem?_of_mem hx
   obtain ⟨_,_,_,_,hr⟩ := rs.row j x hj
   obtain ⟨_,_,hb⟩ := hr 0 (by omega)
   exact hb.2
  ·have Zt := zt (D (j := 2) rfl rfl)
   have Zi := zi (D (j := 7) rfl rfl)
   have Zg := zg (D (j := 3) rfl rfl)
   have Zr := zr (D (j := 4) rfl rfl)
   have Zk := zk (D (j := 5) rfl rfl)
   have Za := za (D (j := 6) rfl rfl)
   have Zs := zs (D (j := 8) rfl rfl)
   have Yt := Zt.1
   rw [show Tryz.prog.bytesOf 61 = 80 by kernel_rfl] at Yt
   have Yg := Zg
   rw [show Tryz.prog.bytesOf 63 = 16 by kernel_rfl] at Yg
   have Yr := Zr
   rw [show Tryz.prog.bytesOf 78 = 16 by kernel_rfl] at Yr
   have Yk := Zk
   rw [show Tryz.prog.bytesOf 80 = 12 by kernel_rfl] at Yk
   have Ya := Za
   rw [show Tryz.prog.bytesOf 85 = 48 by kernel_rfl] at Ya
   have Yi := Zi.1
   rw [show Tryz.prog.bytesOf 87 = 40 by kernel_rfl] at Yi
   have Ys := Zs
   rw [show Tryz.prog.bytesOf 91 = 64 by kernel_rfl] at Ys
   have ht := Zt.2
   have hi := Zi.2
   unfold reachBytes at Yt Yg Yr Yk Ya Yi Ys ht hi
   refine ⟨by show lt.length * 80 ≤ _; omega,by show lg.length * 16 ≤ _; omega,by show lr.length * 16 ≤ _; omega,by show lk.length * 12 ≤ _; omega,by show la.length * 48 ≤ _; omega,by show li.length * 40 ≤ _; omega,by show ls.length * 64 ≤ _; omega,fun j x hj => ?_,fun j x hj => ?_⟩
   ·have := ht x (List.mem_of_getElem? hj); omega
   ·have := hi x (List.mem_of_getElem? hj); omega
end Go.Proofs.YtijgopkhdjaolaaGreat
