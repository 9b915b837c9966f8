import Derived.Test.YtijgopkhdjaolaaGreatXTcc
import Derived.Test.YtijgopkhdjaolaaGreatXTcw
namespace Go.Proofs.YtijgopkhdjaolaaGreat
open Go.ChangeShapes Go.RowKit Go.WideShapes
set_option linter.unusedSimpArgs false
set_option linter.unusedVariables false
set_option maxHeartbeats 16000000
set_option maxRecDepth 100000
def ql3 (w : World) (x : TkR) (i : Nat) (u : Value) : Prop := tkrP w x i u ∧ x.mask < 4294967296 ∧ x.auto < 4294967296
def qo2 (x : CtR) (i : Nat) (u : Value) : Prop := ctrP x i u ∧ x.max < 4294967296 ∧ x.base < 4294967296 ∧ x.min < 4294967296
def qo3 (x : AlR) (i : Nat) (u : Value) : Prop := alrP x i u ∧ x.ac.mask < 4294967296 ∧ x.auto < 4294967296 ∧ x.time < 4294967296 ∧ x.cycle < 4294967296
def qo4 (x : MsR) (i : Nat) (u : Value) : Prop := msrP x i u ∧ x.init < 18446744073709551616 ∧ x.ac.mask < 4294967296
theorem qbu : Tryz.prog.cellsOf 3 = 1 := by kernel_rfl
theorem qf6 : Tryz.prog.cellsOf 4 = 1 := by kernel_rfl
theorem qcd : Tryz.prog.cellsOf 59 = 1 := by kernel_rfl
theorem qjj : Tryz.prog.cellsOf 89 = 1 := by kernel_rfl
theorem qe1 : Tryz.prog.cellsOf 40 = 1 := by kernel_rfl
theorem qcy : Tryz.prog.cellsOf 81 = 1 := by kernel_rfl
theorem qe7 : Tryz.prog.cellsOf 88 = 1 := by kernel_rfl
theorem qd2 : Tryz.prog.cellsOf 83 = 3 := by kernel_rfl
theorem qdg : Tryz.prog.cellsOf 22 = 1 := by kernel_rfl
theorem qdh : Tryz.prog.cellsOf 23 = 1 := by kernel_rfl
theorem qcs : Tryz.prog.cellsOf 24 = 1 := by kernel_rfl
theorem qcv : Tryz.prog.cellsOf 25 = 1 := by kernel_rfl
theorem qd3 : Tryz.prog.cellsOf 26 = 1 := by kernel_rfl
theorem qds : Tryz.prog.cellsOf 27 = 1 := by kernel_rfl
theorem qcw : Tryz.prog.cellsOf 28 = 1 := by kernel_rfl
theorem qjk {α : Type} {l : List α} (h : l.length = 2) : ∃ c0 c1,l = [c0,c1] := by
 match l,h with
 | [c0,c1],_ => exact ⟨c0,c1,rfl⟩
theorem qmr {α : Type} {l : List α} (h : l.length = 7) : ∃ c0 c1 c2 c3 c4 c5 c6,l = [c0,c1,c2,c3,c4,c5,c6] := by
 match l,h with
 | [c0,c1,c2,c3,c4,c5,c6],_ => exact ⟨c0,c1,c2,c3,c4,c5,c6,rfl⟩
theorem qly {α : Type} {l : List α} (h : l.length = 13) : ∃ c0 c1 c2 c3 c4 c5 c6 c7 c8 c9 c10 c11 c12,l = [c0,c1,c2,c3,c4,c5,c6,c7,c8,c9,c10,c11,c12] := by
 match l,h with
 | [c0,c1,c2,c3,c4,c5,c6,c7,c8,c9,c10,c11,c12],_ => exact ⟨c0,c1,c2,c3,c4,c5,c6,c7,c8,c9,c10,c11,c12,rfl⟩
theorem qkl {H : Type} {enc : TypeId × Value → H} {w : World} {spare : Nat → Bool} {held : Bool} (fuel : Nat) (cs : List Value) (y : DataW H × List MemPlace) (hcs : cs.length = 8) (h : DataW.trod enc Tryz.prog w 0 spare held fuel 61 cs = some y) : ∃ x : TkR, ∀ i,i < 8 → ∃ u,cs[i]? = some u ∧ ql3 w x i u := by
 obtain ⟨c0,c1,c2,c3,c4,c5,c6,c7,rfl⟩ := qhy hcs
 obtain ⟨xs,n,hn,hx,hl,hlen,hfs⟩ := DataW.trod_struct Tryz.underlying61 h
 match xs,hlen with
 | [y0,y1,y2,y3,y4,y5,y6,y7],_ =>
  have h0 := hfs 0 _ rfl
  have h1 := hfs 1 _ rfl
  have h2 := hfs 2 _ rfl
  have h3 := hfs 3 _ rfl
  have h4 := hfs 4 _ rfl
  have h5 := hfs 5 _ rfl
  have h6 := hfs 6 _ rfl
  have h7 := hfs 7 _ rfl
  simp [qe1,qf6,qbu,qcd] at h0 h1 h2 h3 h4 h5 h6 h7
  obtain ⟨vprio,e0,_,_⟩ := DataW.trod_int Tryz.underlying3 h0
  obtain ⟨vring,e1,_,_⟩ := DataW.trod_int Tryz.underlying3 h1
  obtain ⟨vfull,e2,_⟩ := DataW.trod_bool Tryz.underlying4 h2
  obtain ⟨vlimit,e3,_,_⟩ := DataW.trod_int Tryz.underlying3 h3
  obtain ⟨vmaskz,e4,_,bvmask⟩ := DataW.trod_int Tryz.underlying59 h4
  obtain ⟨vmask,rfl⟩ := Int.eq_ofNat_of_zero_le (bounds_u32 bvmask).1
  obtain ⟨vinner,e5,_,_⟩ := DataW.trod_int Tryz.underlying3 h5
  obtain ⟨vown,w6⟩ := qff h6
  obtain ⟨vautoz,e7,_,bvauto⟩ := DataW.trod_int Tryz.underlying59 h7
  obtain ⟨vauto,rfl⟩ := Int.eq_ofNat_of_zero_le (bounds_u32 bvauto).1
  simp at e0 e1 e2 e3 e4 e5 e7
  subst e0 e1 e2 e3 e4 e5 e7
  have kvmask : vmask < 4294967296 := by have := (bounds_u32 bvmask).2; omega
  have kvauto : vauto < 4294967296 := by have := (bounds_u32 bvauto).2; omega
  refine ⟨⟨vprio,vring,vfull,vlimit,vmask,vinner,vown,vauto⟩,fun i hi => ?_⟩
  rcases (by omega : i = 0 ∨ i = 1 ∨ i = 2 ∨ i = 3 ∨ i = 4 ∨ i = 5 ∨ i = 6 ∨ i = 7) with rfl | rfl | rfl | rfl | rfl | rfl | rfl | rfl
  ·exact ⟨_,rfl,rfl,kvmask,kvauto⟩
  ·exact ⟨_,rfl,rfl,kvmask,kvauto⟩
  ·exact ⟨_,rfl,rfl,kvmask,kvauto⟩
  ·exact ⟨_,rfl,rfl,kvmask,kvauto⟩
  ·exact ⟨_,rfl,rfl,kvmask,kvauto⟩
  ·exact ⟨_,rfl,rfl,kvmask,kvauto⟩
  ·exact ⟨_,rfl,w6,kvmask,kvauto⟩
  ·exact ⟨_,rfl,rfl,kvmask,kvauto⟩
theorem qgg {H : Type} {enc : TypeId × Value → H} {w : World} {spare : Nat → Bool} {held : Bool} (fuel : Nat) (cs : List Value) (y : DataW H × List MemPlace) (hcs : cs.length = 2) (h : DataW.trod enc Tryz.prog w 0 spare held fuel 63 cs = some y) : ∃ x : RgR, ∀ i,i < 2 → ∃ u,cs[i]? = some u ∧ rgrP x i u := by
 obtain ⟨c0,c1,rfl⟩ := qjk hcs
 obtain ⟨xs,n,hn,hx,hl,hlen,hfs⟩ := DataW.trod_struct Tryz.underlying63 h
 match xs,hlen with
 | [y0,y1],_ =>
  have h0 := hfs 0 _ rfl
  have h1 := hfs 1 _ rfl
  simp [qbu] at h0 h1
  obtain ⟨vprio,e0,_,_⟩ := DataW.trod_int Tryz.underlying3 h0
  obtain ⟨vcap,e1,_,_⟩ := DataW.trod_int Tryz.underlying3 h1
  simp at e0 e1
  subst e0 e1
  refine ⟨⟨vprio,vcap⟩,fun i hi => ?_⟩
  rcases (by omega : i = 0 ∨ i = 1) with rfl | rfl
  ·exact ⟨_,rfl,rfl⟩
  ·exact ⟨_,rfl,rfl⟩
theorem qgh {H : Type} {enc : TypeId × Value → H} {w : World} {spare : Nat → Bool} {held : Bool} (fuel : Nat) (cs : List Value) (y : DataW H × List MemPlace) (hcs : cs.length = 2) (h : DataW.trod enc Tryz.prog w 0 spare held fuel 78 cs = some y) : ∃ x : RsR, ∀ i,i < 2 → ∃ u,cs[i]? = some u ∧ rsrP x i u := by
 obtain ⟨c0,c1,rfl⟩ := qjk hcs
 obtain ⟨xs,n,hn,hx,hl,hlen,hfs⟩ := DataW.trod_struct Tryz.underlying78 h
 match xs,hlen with
 | [y0,y1],_ =>
  have h0 := hfs 0 _ rfl
  have h1 := hfs 1 _ rfl
  simp [qf6,qbu] at h0 h1
  obtain ⟨vinner,e0,_⟩ := DataW.trod_bool Tryz.underlying4 h0
  obtain ⟨vceil,e1,_,_⟩ := DataW.trod_int Tryz.underlying3 h1
  simp at e0 e1
  subst e0 e1
  refine ⟨⟨vinner,vceil⟩,fun i hi => ?_⟩
  rcases (by omega : i = 0 ∨ i = 1) with rfl | rfl
  ·exact ⟨_,rfl,rfl⟩
  ·exact ⟨_,rfl,rfl⟩
theorem qgi {H : Type} {enc : TypeId × Value → H} {w : World} {spare : Nat → Bool} {held : Bool} (fuel : Nat) (cs : List Value) (y : DataW H × List MemPlace) (hcs : cs.length = 3) (h : DataW.trod enc Tryz.prog w 0 spare held fuel 80 cs = some y) : ∃ x : CtR, ∀ i,i < 3 → ∃ u,cs[i]? = some u ∧ qo2 x i u := by
 obtain ⟨c0,c1,c2,rfl⟩ := qhx hcs
 obtain ⟨xs,n,hn,hx,hl,hlen,hfs⟩ := DataW.trod_struct Tryz.underlying80 h
 match xs,hlen with
 | [y0,y1,y2],_ =>
  have h0 := hfs 0 _ rfl
  have h1 := hfs 1 _ rfl
  have h2 := hfs 2 _ rfl
  simp [qcd] at h0 h1 h2
  obtain ⟨vmaxz,e0,_,bvmax⟩ := DataW.trod_int Tryz.underlying59 h0
  obtain ⟨vmax,rfl⟩ := Int.eq_ofNat_of_zero_le (bounds_u32 bvmax).1
  obtain ⟨vbasez,e1,_,bvbase⟩ := DataW.trod_int Tryz.underlying59 h1
  obtain ⟨vbase,rfl⟩ := Int.eq_ofNat_of_zero_le (bounds_u32 bvbase).1
  obtain ⟨vminz,e2,_,bvmin⟩ := DataW.trod_int Tryz.underlying59 h2
  obtain ⟨vmin,rfl⟩ := Int.eq_ofNat_of_zero_le (bounds_u32 bvmin).1
  simp at e0 e1 e2
  subst e0 e1 e2
  have kvmax : vmax < 4294967296 := by have := (bounds_u32 bvmax).2; omega
  have kvbase : vbase < 4294967296 := by have := (bounds_u32 bvbase).2; omega
  have kvmin : vmin < 4294967296 := by have := (bounds_u32 bvmin).2; omega
  refine ⟨⟨vmax,vbase,vmin⟩,fun i hi => ?_⟩
  rcases (by omega : i = 0 ∨ i = 1 ∨ i = 2) with rfl | rfl | rfl
  ·exact ⟨_,rfl,rfl,kvmax,kvbase,kvmin⟩
  ·exact ⟨_,rfl,rfl,kvmax,kvbase,kvmin⟩
  ·exact ⟨_,rfl,rfl,kvmax,kvbase,kvmin⟩
theorem qgj {H : Type} {enc : TypeId × Value → H} {w : World} {spare : Nat → Bool} {held : Bool} (fuel : Nat) (cs : List Value) (y : DataW H × List MemPlace) (hcs : cs.length = 7) (h : DataW.trod enc Tryz.prog w 0 spare held fuel 85 cs = some y) : ∃ x : AlR, ∀ i,i < 7 → ∃ u,cs[i]? = some u ∧ qo3 x i u := by
 obtain ⟨c0,c1,c2,c3,c4,c5,c6,rfl⟩ := qmr hcs
 obtain ⟨xs,n,hn,hx,hl,hlen,hfs⟩ := DataW.trod_struct Tryz.underlying85 h
 match xs,hlen with
 | [y0,y1,y2,y3,y4],_ =>
  have h0 := hfs 0 _ rfl
  have h1 := hfs 1 _ rfl
  have h2 := hfs 2 _ rfl
  have h3 := hfs 3 _ rfl
  have h4 := hfs 4 _ rfl
  simp [qd2,qbu,qcd] at h0 h1 h2 h3 h4
  obtain ⟨vctr,e0,_,_⟩ := DataW.trod_int Tryz.underlying3 h0
  obtain ⟨ys,m,_,_,_,ylen,yfs⟩ := DataW.trod_struct Tryz.underlying83 h1
  match ys,ylen with
  | [z0,z1,z2],_ =>
   have g0 := yfs 0 _ rfl
   have g1 := yfs 1 _ rfl
   have g2 := yfs 2 _ rfl
   simp [qcy,qbu,qcd] at g0 g1 g2
   obtain ⟨akind,eg0,_,_⟩ := DataW.trod_int Tryz.underlying81 g0
   obtain ⟨atask,eg1,_,_⟩ := DataW.trod_int Tryz.underlying3 g1
   obtain ⟨amaskz,eg2,_,bamask⟩ := DataW.trod_int Tryz.underlying59 g2
   obtain ⟨amask,rfl⟩ := Int.eq_ofNat_of_zero_le (bounds_u32 bamask).1
   obtain ⟨vautoz,e2,_,bvauto⟩ := DataW.trod_int Tryz.underlying59 h2
   obtain ⟨vauto,rfl⟩ := Int.eq_ofNat_of_zero_le (bounds_u32 bvauto).1
   obtain ⟨vtimez,e3,_,bvtime⟩ := DataW.trod_int Tryz.underlying59 h3
   obtain ⟨vtime,rfl⟩ := Int.eq_ofNat_of_zero_le (bounds_u32 bvtime).1
   obtain ⟨vcyclez,e4,_,bvcycle⟩ := DataW.trod_int Tryz.underlying59 h4
   obtain ⟨vcycle,rfl⟩ := Int.eq_ofNat_of_zero_le (bounds_u32 bvcycle).1
   simp at e0 eg0 eg1 eg2 e2 e3 e4
   subst e0 eg0 eg1 eg2 e2 e3 e4
   have kamask : amask < 4294967296 := by have := (bounds_u32 bamask).2; omega
   have kvauto : vauto < 4294967296 := by have := (bounds_u32 bvauto).2; omega
   have kvtime : vtime < 4294967296 := by have := (bounds_u32 bvtime).2; omega
   have kvcycle : vcycle < 4294967296 := by have := (bounds_u32 bvcycle).2; omega
   refine ⟨⟨vctr,⟨akind,atask,amask⟩,vauto,vtime,vcycle⟩,fun i hi => ?_⟩
   rcases (by omega : i = 0 ∨ i = 1 ∨ i = 2 ∨ i = 3 ∨ i = 4 ∨ i = 5 ∨ i = 6) with rfl | rfl | rfl | rfl | rfl | rfl | rfl
   ·exact ⟨_,rfl,rfl,kamask,kvauto,kvtime,kvcycle⟩
   ·exact ⟨_,rfl,rfl,kamask,kvauto,kvtime,kvcycle⟩
   ·exact ⟨_,rfl,rfl,kamask,kvauto,kvtime,kvcycle⟩
   ·exact ⟨_,rfl,rfl,kamask,kvauto,kvtime,kvcycle⟩
   ·exact ⟨_,rfl,rfl,kamask,kvauto,kvtime,kvcycle⟩
   ·exact ⟨_,rfl,rfl,kamask,kvauto,kvtime,kvcycle⟩
   ·exact ⟨_,rfl,rfl,kamask,kvauto,kvtime,kvcycle⟩
theorem qkm {H : Type} {enc : TypeId × Value → H} {w : World} {spare : Nat → Bool} {held : Bool} (fuel : Nat) (cs : List Value) (y : DataW H × List MemPlace) (hcs : cs.length = 3) (h : DataW.trod enc Tryz.prog w 0 spare held fuel 87 cs = some y) : ∃ x : IsR, ∀ i,i < 3 → ∃ u,cs[i]? = some u ∧ isrP w x i u := by
 obtain ⟨c0,c1,c2,rfl⟩ := qhx hcs
 obtain ⟨xs,n,hn,hx,hl,hlen,hfs⟩ := DataW.trod_struct Tryz.underlying87 h
 match xs,hlen with
 | [y0,y1,y2],_ =>
  have h0 := hfs 0 _ rfl
  have h1 := hfs 1 _ rfl
  have h2 := hfs 2 _ rfl
  simp [qe1,qbu] at h0 h1 h2
  obtain ⟨vcat,e0,_,_⟩ := DataW.trod_int Tryz.underlying3 h0
  obtain ⟨vprio,e1,_,_⟩ := DataW.trod_int Tryz.underlying3 h1
  obtain ⟨vown,w2⟩ := qff h2
  simp at e0 e1
  subst e0 e1
  refine ⟨⟨vcat,vprio,vown⟩,fun i hi => ?_⟩
  rcases (by omega : i = 0 ∨ i = 1 ∨ i = 2) with rfl | rfl | rfl
  ·exact ⟨_,rfl,rfl⟩
  ·exact ⟨_,rfl,rfl⟩
  ·exact ⟨_,rfl,w2⟩
theorem qgk {H : Type} {enc : TypeId × Value → H} {w : World} {spare : Nat → Bool} {held : Bool} (fuel : Nat) (cs : List Value) (y : DataW H × List MemPlace) (hcs : cs.length = 8) (h : DataW.trod enc Tryz.prog w 0 spare held fuel 91 cs = some y) : ∃ x : MsR, ∀ i,i < 8 → ∃ u,cs[i]? = some u ∧ qo4 x i u := by
 obtain ⟨c0,c1,c2,c3,c4,c5,c6,c7,rfl⟩ := qhy hcs
 obtain ⟨xs,n,hn,hx,hl,hlen,hfs⟩ := DataW.trod_struct Tryz.underlying91 h
 match xs,hlen with
 | [y0,y1,y2,y3,y4,y5],_ =>
  have h0 := hfs 0 _ rfl
  have h1 := hfs 1 _ rfl
  have h2 := hfs 2 _ rfl
  have h3 := hfs 3 _ rfl
  have h4 := hfs 4 _ rfl
  have h5 := hfs 5 _ rfl
  simp [qd2,qe7,qbu,qjj] at h0 h1 h2 h3 h4 h5
  obtain ⟨vkind,e0,_,_⟩ := DataW.trod_int Tryz.underlying88 h0
  obtain ⟨vlen,e1,_,_⟩ := DataW.trod_int Tryz.underlying3 h1
  obtain ⟨vfrm,e2,_,_⟩ := DataW.trod_int Tryz.underlying3 h2
  obtain ⟨vinitz,e3,_,bvinit⟩ := DataW.trod_int Tryz.underlying89 h3
  obtain ⟨vinit,rfl⟩ := Int.eq_ofNat_of_zero_le (bounds_u64 bvinit).1
  obtain ⟨vqueue,e4,_,_⟩ := DataW.trod_int Tryz.underlying3 h4
  obtain ⟨ys,m,_,_,_,ylen,yfs⟩ := DataW.trod_struct Tryz.underlying83 h5
  match ys,ylen with
  | [z0,z1,z2],_ =>
   have g0 := yfs 0 _ rfl
   have g1 := yfs 1 _ rfl
   have g2 := yfs 2 _ rfl
   simp [qcy,qbu,qcd] at g0 g1 g2
   obtain ⟨akind,eg0,_,_⟩ := DataW.trod_int Tryz.underlying81 g0
   obtain ⟨atask,eg1,_,_⟩ := DataW.trod_int Tryz.underlying3 g1
   obtain ⟨amaskz,eg2,_,bamask⟩ := DataW.trod_int Tryz.underlying59 g2
   obtain ⟨amask,rfl⟩ := Int.eq_ofNat_of_zero_le (bounds_u32 bamask).1
   simp at e0 e1 e2 e3 e4 eg0 eg1 eg2
   subst e0 e1 e2 e3 e4 eg0 eg1 eg2
   have kvinit : vinit < 18446744073709551616 := by have := (bounds_u64 bvinit).2; omega
   have kamask : amask < 4294967296 := by have := (bounds_u32 bamask).2; omega
   refine ⟨⟨vkind,vlen,vfrm,vinit,vqueue,⟨akind,atask,amask⟩⟩,fun i hi => ?_⟩
   rcases (by omega : i = 0 ∨ i = 1 ∨ i = 2 ∨ i = 3 ∨ i = 4 ∨ i = 5 ∨ i = 6 ∨ i = 7) with rfl | rfl | rfl | rfl | rfl | rfl | rfl | rfl
   ·exact ⟨_,rfl,rfl,kvinit,kamask⟩
   ·exact ⟨_,rfl,rfl,kvinit,kamask⟩
   ·exact ⟨_,rfl,rfl,kvinit,kamask⟩
   ·exact ⟨_,rfl,rfl,kvinit,kamask⟩
   ·exact ⟨_,rfl,rfl,kvinit,kamask⟩
   ·exact ⟨_,rfl,rfl,kvinit,kamask⟩
   ·exact ⟨_,rfl,rfl,kvinit,kamask⟩
   ·exact ⟨_,rfl,rfl,kvinit,kamask⟩
theorem q9_t : Tryz.prog.cellsOf 61 = 8 := by kernel_rfl
theorem q9_g : Tryz.prog.cellsOf 63 = 2 := by kernel_rfl
theorem q9_r : Tryz.prog.cellsOf 78 = 2 := by kernel_rfl
theorem q9_k : Tryz.prog.cellsOf 80 = 3 := by kernel_rfl
theorem q9_a : Tryz.prog.cellsOf 85 = 7 := by kernel_rfl
theorem q9_i : Tryz.prog.cellsOf 87 = 3 := by kernel_rfl
theorem q9_s : Tryz.prog.cellsOf 91 = 8 := by kernel_rfl
theorem ql4 : Tryz.prog.cellsOf 30 = 13 := by kernel_rfl
theorem qhh {α : Type} {l : Array α} (h : l.size = 13) : ∃ c0 c1 c2 c3 c4 c5 c6 c7 c8 c9 c10 c11 c12,l = #[c0,c1,c2,c3,c4,c5,c6,c7,c8,c9,c10,c11,c12] := by
 obtain ⟨l⟩ := l
 obtain ⟨c0,c1,c2,c3,c4,c5,c6,c7,c8,c9,c10,c11,c12,e⟩ := qly (l := l) (by simpa using h)
 exact ⟨c0,c1,c2,c3,c4,c5,c6,c7,c8,c9,c10,c11,c12,by rw [e]⟩
theorem qnw {H : Type} {enc : TypeId × Value → H} {w : World} {spare : Nat → Bool} {held : Bool} {r : Reach} {b0 : Nat} {v : Value} {d : DataW H} {p : List MemPlace}
  (hv : Value.okWide Tryz.prog w r b0 30 v) (h : DataW.Trod enc Tryz.prog w 0 spare held 30 v d p) :
  ∃ (tb : Tb) (vv : Ts),v = .agg (tbC tb vv) ∧ TbAt w tb vv ∧ WfT tb := by
 obtain ⟨cs,rfl,hsz⟩ := okWide_struct Tryz.underlying30 hv
 rw [ql4] at hsz
 obtain ⟨c0,c1,c2,c3,c4,c5,c6,c7,c8,c9,c10,c11,c12,rfl⟩ := qhh hsz
 obtain ⟨fuel,hf⟩ := h
 obtain ⟨xs,n,hn,hx,hl,hlen,hfs⟩ := DataW.trod_struct Tryz.underlying30 hf
 match xs,hlen with
 | [y0,y1,y2,y3,y4,y5,y6,y7,y8,y9,y10,y11,y12],_ =>
  have h0 := hfs 0 _ rfl
  have h1 := hfs 1 _ rfl
  have h2 := hfs 2 _ rfl
  have h3 := hfs 3 _ rfl
  have h4 := hfs 4 _ rfl
  have h5 := hfs 5 _ rfl
  have h6 := hfs 6 _ rfl
  have h7 := hfs 7 _ rfl
  have h8 := hfs 8 _ rfl
  have h9 := hfs 9 _ rfl
  have h10 := hfs 10 _ rfl
  have h11 := hfs 11 _ rfl
  have h12 := hfs 12 _ rfl
  simp [qd3,qcv,qds,qcw,qcs,qdh,qdg,qbu,Value.cells] at h0 h1 h2 h3 h4 h5 h6 h7 h8 h9 h10 h11 h12
  obtain ⟨nUses,e0,_,_⟩ := DataW.trod_int Tryz.underlying3 h0
  obtain ⟨nModes,e1,_,_⟩ := DataW.trod_int Tryz.underlying3 h1
  obtain ⟨nDepth,e9,_,_⟩ := DataW.trod_int Tryz.underlying3 h9
  obtain ⟨nFrames,e10,_,_⟩ := DataW.trod_int Tryz.underlying3 h10
  obtain ⟨nErrors,e11,_,_⟩ := DataW.trod_int Tryz.underlying3 h11
  obtain ⟨nCalls,e12,_,_⟩ := DataW.trod_int Tryz.underlying3 h12
  simp at e0 e1 e9 e10 e11 e12
  subst e0 e1 e9 e10 e11 e12
  obtain ⟨st,lt,rfl,rt,_⟩ := qb6 ⟨(⟨0,0,false,0,0,0, [],0⟩ : TkR)⟩ (by omega) Tryz.underlying22 q9_t h2 qkl
  obtain ⟨sg,lg,rfl,rg,_⟩ := qb6 ⟨(⟨0,0⟩ : RgR)⟩ (by omega) Tryz.underlying23 q9_g h3 qgg
  obtain ⟨sr,lr,rfl,rr,_⟩ := qb6 ⟨(⟨false,0⟩ : RsR)⟩ (by omega) Tryz.underlying24 q9_r h4 qgh
  obtain ⟨sk,lk,rfl,rk,_⟩ := qb6 ⟨(⟨0,0,0⟩ : CtR)⟩ (by omega) Tryz.underlying25 q9_k h5 qgi
  obtain ⟨sa,la,rfl,ra,_⟩ := qb6 ⟨(⟨0,⟨0,0,0⟩,0,0,0⟩ : AlR)⟩ (by omega) Tryz.underlying26 q9_a h6 qgj
  obtain ⟨si,li,rfl,ri,_⟩ := qb6 ⟨(⟨0,0, []⟩ : IsR)⟩ (by omega) Tryz.underlying27 q9_i h7 qkm
  obtain ⟨ss,ls,rfl,rs,_⟩ := qb6 ⟨(⟨0,0,0,0,0,⟨0,0,0⟩⟩ : MsR)⟩ (by omega) Tryz.underlying28 q9_s h8 qgk
  refine ⟨⟨nUses,nModes,lt,lg,lr,lk,la,li,ls,nDepth,nFrames,nErrors,nCalls⟩,⟨st,sg,sr,sk,sa,si,ss⟩, ?_,⟨rt.below (Below.refl _ _) (fun _ _ _ _ h => h.1),rg,rr,rk.below (Below.refl _ _) (fun _ _ _ _ h => h.1),ra.below (Below.refl _ _) (fun _ _ _ _ h => h.1),ri,rs.below (Below.refl _ _) (fun _ _ _ _ h => h.1)⟩,⟨fun x hx => ?_,fun x hx => ?_,fun x hx => ?_,fun x hx => ?_⟩⟩
  ·simp [tbC]
  ·obtain ⟨j,hj⟩ := List.getElem?_of_mem hx
   obtain ⟨_,_,_,_,hr⟩ := rt.row j x hj
   obtain ⟨_,_,hb⟩ := hr 0 (by omega)
   exact hb.2
  ·obtain ⟨j,hj⟩ := List.getElem?_of_mem hx
   obtain ⟨_,_,_,_,hr⟩ := rk.row j x hj
   obtain ⟨_,_,hb⟩ := hr 0 (by omega)
   exact hb.2
  ·obtain ⟨j,hj⟩ := List.getElem?_of_mem hx
   obtain ⟨_,_,_,_,hr⟩ := ra.row j x hj
   obtain ⟨_,_,hb⟩ := hr 0 (by omega)
   exact hb.2
  ·obtain ⟨j,hj⟩ := List.getElem?_of_mem hx
   obtain ⟨_,_,_,_,hr⟩ := rs.row j x hj
   obtain ⟨_,_,hb⟩ := hr 0 (by omega)
   exact hb.2
end Go.Proofs.YtijgopkhdjaolaaGreat
