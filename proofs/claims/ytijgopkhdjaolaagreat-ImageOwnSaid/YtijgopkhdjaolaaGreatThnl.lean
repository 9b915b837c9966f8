import Derived.Test.YtijgopkhdjaolaaGreatXTbm
import Derived.Test.YtijgopkhdjaolaaGreatXTcu
namespace Go.Proofs.YtijgopkhdjaolaaGreat
open Go.ChangeShapes Go.RowKit Go.WideShapes
set_option linter.unusedSimpArgs false
set_option linter.unusedVariables false
set_option maxHeartbeats 16000000
set_option maxRecDepth 100000
def qrk (w:World) (x:TkR) (i:Nat) (u:Value):Prop:=tkrP w x i u∧x.mask < 4294967296∧x.auto < 4294967296
def qrl (x:CtR) (i:Nat) (u:Value):Prop:=ctrP x i u∧x.max < 4294967296∧x.base < 4294967296∧x.min < 4294967296
def qrm (x:AlR) (i:Nat) (u:Value):Prop:=alrP x i u∧x.ac.mask < 4294967296∧x.auto < 4294967296∧x.time < 4294967296∧x.cycle < 4294967296
def qrn (x:MsR) (i:Nat) (u:Value):Prop:=msrP x i u∧x.init < 18446744073709551616∧x.ac.mask < 4294967296
theorem qda : Tryz.prog.cellsOf 3=1:=by kernel_rfl
theorem qka : Tryz.prog.cellsOf 4=1:=by kernel_rfl
theorem qdn : Tryz.prog.cellsOf 59=1:=by kernel_rfl
theorem qmc : Tryz.prog.cellsOf 89=1:=by kernel_rfl
theorem qkb : Tryz.prog.cellsOf 40=1:=by kernel_rfl
theorem qe2 : Tryz.prog.cellsOf 81=1:=by kernel_rfl
theorem qfm : Tryz.prog.cellsOf 88=1:=by kernel_rfl
theorem qe8 : Tryz.prog.cellsOf 83=3:=by kernel_rfl
theorem qh0 : Tryz.prog.cellsOf 22=1:=by kernel_rfl
theorem qh1 : Tryz.prog.cellsOf 23=1:=by kernel_rfl
theorem qf7 : Tryz.prog.cellsOf 24=1:=by kernel_rfl
theorem qfn : Tryz.prog.cellsOf 25=1:=by kernel_rfl
theorem qgk : Tryz.prog.cellsOf 26=1:=by kernel_rfl
theorem qi3 : Tryz.prog.cellsOf 27=1:=by kernel_rfl
theorem qfo : Tryz.prog.cellsOf 28=1:=by kernel_rfl
theorem qmd {α:Type} {l:List α} (h:l.length=2):∃c0 c1,l=[c0,c1]:=by
 match l,h with
 | [c0,c1],_=>exact ⟨c0,c1,rfl⟩
theorem qq7 {α:Type} {l:List α} (h:l.length=7):∃c0 c1 c2 c3 c4 c5 c6,l=[c0,c1,c2,c3,c4,c5,c6]:=by
 match l,h with
 | [c0,c1,c2,c3,c4,c5,c6],_=>exact ⟨c0,c1,c2,c3,c4,c5,c6,rfl⟩
theorem qpd {α:Type} {l:List α} (h:l.length=13):∃c0 c1 c2 c3 c4 c5 c6 c7 c8 c9 c10 c11 c12,l=[c0,c1,c2,c3,c4,c5,c6,c7,c8,c9,c10,c11,c12]:=by
 match l,h with
 | [c0,c1,c2,c3,c4,c5,c6,c7,c8,c9,c10,c11,c12],_=>exact ⟨c0,c1,c2,c3,c4,c5,c6,c7,c8,c9,c10,c11,c12,rfl⟩
theorem qns {H:Type} {enc:TypeId×Value→H} {w:World} {spare:Nat→Bool} {held:Bool} (fuel:Nat) (cs:List Value) (y:DataW H×List MemPlace) (hcs:cs.length=2) (h:DataW.trod enc Tryz.prog w 0 spare held fuel 63 cs=some y):∃x:RgR,∀i,i < 2→∃u,cs[i]?=some u∧rgrP x i u:=by
 obtain ⟨c0,c1,rfl⟩:=qmd hcs
 obtain ⟨xs,n,hn,hx,hl,hlen,hfs⟩:=DataW.trod_struct Tryz.underlying63 h
 match xs,hlen with
 | [y0,y1],_=>
  have h0:=hfs 0 _ rfl
  have h1:=hfs 1 _ rfl
  simp [qda] at h0 h1
  obtain ⟨vprio,e0,_,_⟩:=DataW.trod_int Tryz.underlying3 h0
  obtain ⟨vcap,e1,_,_⟩:=DataW.trod_int Tryz.underlying3 h1
  simp at e0 e1
  subst e0 e1
  refine ⟨⟨vprio,vcap⟩,fun i hi=>?_⟩
  rcases (by omega:i=0∨i=1) with rfl | rfl
  ·exact ⟨_,rfl,rfl⟩
  ·exact ⟨_,rfl,rfl⟩
theorem qnt {H:Type} {enc:TypeId×Value→H} {w:World} {spare:Nat→Bool} {held:Bool} (fuel:Nat) (cs:List Value) (y:DataW H×List MemPlace) (hcs:cs.length=2) (h:DataW.trod enc Tryz.prog w 0 spare held fuel 78 cs=some y):∃x:RsR,∀i,i < 2→∃u,cs[i]?=some u∧rsrP x i u:=by
 obtain ⟨c0,c1,rfl⟩:=qmd hcs
 obtain ⟨xs,n,hn,hx,hl,hlen,hfs⟩:=DataW.trod_struct Tryz.underlying78 h
 match xs,hlen with
 | [y0,y1],_=>
  have h0:=hfs 0 _ rfl
  have h1:=hfs 1 _ rfl
  simp [qka,qda] at h0 h1
  obtain ⟨vinner,e0,_⟩:=DataW.trod_bool Tryz.underlying4 h0
  obtain ⟨vceil,e1,_,_⟩:=DataW.trod_int Tryz.underlying3 h1
  simp at e0 e1
  subst e0 e1
  refine ⟨⟨vinner,vceil⟩,fun i hi=>?_⟩
  rcases (by omega:i=0∨i=1) with rfl | rfl
  ·exact ⟨_,rfl,rfl⟩
  ·exact ⟨_,rfl,rfl⟩
theorem qnu {H:Type} {enc:TypeId×Value→H} {w:World} {spare:Nat→Bool} {held:Bool} (fuel:Nat) (cs:List Value) (y:DataW H×List MemPlace) (hcs:cs.length=3) (h:DataW.trod enc Tryz.prog w 0 spare held fuel 80 cs=some y):∃x:CtR,∀i,i < 3→∃u,cs[i]?=some u∧qrl x i u:=by
 obtain ⟨c0,c1,c2,rfl⟩:=qom hcs
 obtain ⟨xs,n,hn,hx,hl,hlen,hfs⟩:=DataW.trod_struct Tryz.underlying80 h
 match xs,hlen with
 | [y0,y1,y2],_=>
  have h0:=hfs 0 _ rfl
  have h1:=hfs 1 _ rfl
  have h2:=hfs 2 _ rfl
  simp [qdn] at h0 h1 h2
  obtain ⟨vmaxz,e0,_,bvmax⟩:=DataW.trod_int Tryz.underlying59 h0
  obtain ⟨vmax,rfl⟩:=Int.eq_ofNat_of_zero_le (bounds_u32 bvmax).1
  obtain ⟨vbasez,e1,_,bvbase⟩:=DataW.trod_int Tryz.underlying59 h1
  obtain ⟨vbase,rfl⟩:=Int.eq_ofNat_of_zero_le (bounds_u32 bvbase).1
  obtain ⟨vminz,e2,_,bvmin⟩:=DataW.trod_int Tryz.underlying59 h2
  obtain ⟨vmin,rfl⟩:=Int.eq_ofNat_of_zero_le (bounds_u32 bvmin).1
  simp at e0 e1 e2
  subst e0 e1 e2
  have kvmax:vmax < 4294967296:=by have:=(bounds_u32 bvmax).2;omega
  have kvbase:vbase < 4294967296:=by have:=(bounds_u32 bvbase).2;omega
  have kvmin:vmin < 4294967296:=by have:=(bounds_u32 bvmin).2;omega
  refine ⟨⟨vmax,vbase,vmin⟩,fun i hi=>?_⟩
  rcases (by omega:i=0∨i=1∨i=2) with rfl | rfl | rfl
  ·exact ⟨_,rfl,rfl,kvmax,kvbase,kvmin⟩
  ·exact ⟨_,rfl,rfl,kvmax,kvbase,kvmin⟩
  ·exact ⟨_,rfl,rfl,kvmax,kvbase,kvmin⟩
theorem qnv {H:Type} {enc:TypeId×Value→H} {w:World} {spare:Nat→Bool} {held:Bool} (fuel:Nat) (cs:List Value) (y:DataW H×List MemPlace) (hcs:cs.length=7) (h:DataW.trod enc Tryz.prog w 0 spare held fuel 85 cs=some y):∃x:AlR,∀i,i < 7→∃u,cs[i]?=some u∧qrm x i u:=by
 obtain ⟨c0,c1,c2,c3,c4,c5,c6,rfl⟩:=qq7 hcs
 obtain ⟨xs,n,hn,hx,hl,hlen,hfs⟩:=DataW.trod_struct Tryz.underlying85 h
 match xs,hlen with
 | [y0,y1,y2,y3,y4],_=>
  have h0:=hfs 0 _ rfl
  have h1:=hfs 1 _ rfl
  have h2:=hfs 2 _ rfl
  have h3:=hfs 3 _ rfl
  have h4:=hfs 4 _ rfl
  simp [qe8,qda,qdn] at h0 h1 h2 h3 h4
  obtain ⟨vctr,e0,_,_⟩:=DataW.trod_int Tryz.underlying3 h0
  obtain ⟨ys,m,_,_,_,ylen,yfs⟩:=DataW.trod_struct Tryz.underlying83 h1
  match ys,ylen with
  | [z0,z1,z2],_=>
   have g0:=yfs 0 _ rfl
   have g1:=yfs 1 _ rfl
   have g2:=yfs 2 _ rfl
   simp [qe2,qda,qdn] at g0 g1 g2
   obtain ⟨akind,eg0,_,_⟩:=DataW.trod_int Tryz.underlying81 g0
   obtain ⟨atask,eg1,_,_⟩:=DataW.trod_int Tryz.underlying3 g1
   obtain ⟨amaskz,eg2,_,bamask⟩:=DataW.trod_int Tryz.underlying59 g2
   obtain ⟨amask,rfl⟩:=Int.eq_ofNat_of_zero_le (bounds_u32 bamask).1
   obtain ⟨vautoz,e2,_,bvauto⟩:=DataW.trod_int Tryz.underlying59 h2
   obtain ⟨vauto,rfl⟩:=Int.eq_ofNat_of_zero_le (bounds_u32 bvauto).1
   obtain ⟨vtimez,e3,_,bvtime⟩:=DataW.trod_int Tryz.underlying59 h3
   obtain ⟨vtime,rfl⟩:=Int.eq_ofNat_of_zero_le (bounds_u32 bvtime).1
   obtain ⟨vcyclez,e4,_,bvcycle⟩:=DataW.trod_int Tryz.underlying59 h4
   obtain ⟨vcycle,rfl⟩:=Int.eq_ofNat_of_zero_le (bounds_u32 bvcycle).1
   simp at e0 eg0 eg1 eg2 e2 e3 e4
   subst e0 eg0 eg1 eg2 e2 e3 e4
   have kamask:amask < 4294967296:=by have:=(bounds_u32 bamask).2;omega
   have kvauto:vauto < 4294967296:=by have:=(bounds_u32 bvauto).2;omega
   have kvtime:vtime < 4294967296:=by have:=(bounds_u32 bvtime).2;omega
   have kvcycle:vcycle < 4294967296:=by have:=(bounds_u32 bvcycle).2;omega
   refine ⟨⟨vctr,⟨akind,atask,amask⟩,vauto,vtime,vcycle⟩,fun i hi=>?_⟩
   rcases (by omega:i=0∨i=1∨i=2∨i=3∨i=4∨i=5∨i=6) with rfl | rfl | rfl | rfl | rfl | rfl | rfl
   ·exact ⟨_,rfl,rfl,kamask,kvauto,kvtime,kvcycle⟩
   ·exact ⟨_,rfl,rfl,kamask,kvauto,kvtime,kvcycle⟩
   ·exact ⟨_,rfl,rfl,kamask,kvauto,kvtime,kvcycle⟩
   ·exact ⟨_,rfl,rfl,kamask,kvauto,kvtime,kvcycle⟩
   ·exact ⟨_,rfl,rfl,kamask,kvauto,kvtime,kvcycle⟩
   ·exact ⟨_,rfl,rfl,kamask,kvauto,kvtime,kvcycle⟩
   ·exact ⟨_,rfl,rfl,kamask,kvauto,kvtime,kvcycle⟩
theorem qnw {H:Type} {enc:TypeId×Value→H} {w:World} {spare:Nat→Bool} {held:Bool} (fuel:Nat) (cs:List Value) (y:DataW H×List MemPlace) (hcs:cs.length=8) (h:DataW.trod enc Tryz.prog w 0 spare held fuel 91 cs=some y):∃x:MsR,∀i,i < 8→∃u,cs[i]?=some u∧qrn x i u:=by
 obtain ⟨c0,c1,c2,c3,c4,c5,c6,c7,rfl⟩:=qon hcs
 obtain ⟨xs,n,hn,hx,hl,hlen,hfs⟩:=DataW.trod_struct Tryz.underlying91 h
 match xs,hlen with
 | [y0,y1,y2,y3,y4,y5],_=>
  have h0:=hfs 0 _ rfl
  have h1:=hfs 1 _ rfl
  have h2:=hfs 2 _ rfl
  have h3:=hfs 3 _ rfl
  have h4:=hfs 4 _ rfl
  have h5:=hfs 5 _ rfl
  simp [qe8,qfm,qda,qmc] at h0 h1 h2 h3 h4 h5
  obtain ⟨vkind,e0,_,_⟩:=DataW.trod_int Tryz.underlying88 h0
  obtain ⟨vlen,e1,_,_⟩:=DataW.trod_int Tryz.underlying3 h1
  obtain ⟨vfrm,e2,_,_⟩:=DataW.trod_int Tryz.underlying3 h2
  obtain ⟨vinitz,e3,_,bvinit⟩:=DataW.trod_int Tryz.underlying89 h3
  obtain ⟨vinit,rfl⟩:=Int.eq_ofNat_of_zero_le (bounds_u64 bvinit).1
  obtain ⟨vqueue,e4,_,_⟩:=DataW.trod_int Tryz.underlying3 h4
  obtain ⟨ys,m,_,_,_,ylen,yfs⟩:=DataW.trod_struct Tryz.underlying83 h5
  match ys,ylen with
  | [z0,z1,z2],_=>
   have g0:=yfs 0 _ rfl
   have g1:=yfs 1 _ rfl
   have g2:=yfs 2 _ rfl
   simp [qe2,qda,qdn] at g0 g1 g2
   obtain ⟨akind,eg0,_,_⟩:=DataW.trod_int Tryz.underlying81 g0
   obtain ⟨atask,eg1,_,_⟩:=DataW.trod_int Tryz.underlying3 g1
   obtain ⟨amaskz,eg2,_,bamask⟩:=DataW.trod_int Tryz.underlying59 g2
   obtain ⟨amask,rfl⟩:=Int.eq_ofNat_of_zero_le (bounds_u32 bamask).1
   simp at e0 e1 e2 e3 e4 eg0 eg1 eg2
   subst e0 e1 e2 e3 e4 eg0 eg1 eg2
   have kvinit:vinit < 18446744073709551616:=by have:=(bounds_u64 bvinit).2;omega
   have kamask:amask < 4294967296:=by have:=(bounds_u32 bamask).2;omega
   refine ⟨⟨vkind,vlen,vfrm,vinit,vqueue,⟨akind,atask,amask⟩⟩,fun i hi=>?_⟩
   rcases (by omega:i=0∨i=1∨i=2∨i=3∨i=4∨i=5∨i=6∨i=7) with rfl | rfl | rfl | rfl | rfl | rfl | rfl | rfl
   ·exact ⟨_,rfl,rfl,kvinit,kamask⟩
   ·exact ⟨_,rfl,rfl,kvinit,kamask⟩
   ·exact ⟨_,rfl,rfl,kvinit,kamask⟩
   ·exact ⟨_,rfl,rfl,kvinit,kamask⟩
   ·exact ⟨_,rfl,rfl,kvinit,kamask⟩
   ·exact ⟨_,rfl,rfl,kvinit,kamask⟩
   ·exact ⟨_,rfl,rfl,kvinit,kamask⟩
   ·exact ⟨_,rfl,rfl,kvinit,kamask⟩
theorem q9_t : Tryz.prog.cellsOf 61=8:=by kernel_rfl
theorem q9_g : Tryz.prog.cellsOf 63=2:=by kernel_rfl
theorem q9_r : Tryz.prog.cellsOf 78=2:=by kernel_rfl
theorem q9_k : Tryz.prog.cellsOf 80=3:=by kernel_rfl
theorem q9_a : Tryz.prog.cellsOf 85=7:=by kernel_rfl
theorem q9_i : Tryz.prog.cellsOf 87=3:=by kernel_rfl
theorem q9_s : Tryz.prog.cellsOf 91=8:=by kernel_rfl
theorem qro : Tryz.prog.cellsOf 30=13:=by kernel_rfl
theorem qpe {α:Type} {l:Array α} (h:l.size=13):∃c0 c1 c2 c3 c4 c5 c6 c7 c8 c9 c10 c11 c12,l=#[c0,c1,c2,c3,c4,c5,c6,c7,c8,c9,c10,c11,c12]:=by
 obtain ⟨l⟩:=l
 obtain ⟨c0,c1,c2,c3,c4,c5,c6,c7,c8,c9,c10,c11,c12,e⟩:=qpd (l:=l) (by simpa using h)
 exact ⟨c0,c1,c2,c3,c4,c5,c6,c7,c8,c9,c10,c11,c12,by rw [e]⟩
end Go.Proofs.YtijgopkhdjaolaaGreat
