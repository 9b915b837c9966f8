import Derived.Test.YtijgopkhdjaolabGreatTgy
import Derived.Test.YtijgopkhdjaolabGreatXKat
set_option linter.unusedSimpArgs false
set_option linter.unusedVariables false
set_option maxHeartbeats 16000000
set_option maxRecDepth 100000
namespace Go.Proofs.YtijgopkhdjaolabGreat
open Go.Maps Go.RowKit Go.Shelf Go.Sort
theorem qmz {W W':World} {b1 b2 E1 E2 k1 k2 n m:Nat} {u v:Value} {xs ys:List Value} (h:W.ownsRow b1 E1 k1 u n xs) (h2:W.ownsRow b2 E2 k2 v m ys) (hne:E1≠E2) (hg:W.grownBy W' v.ownBlock):W'.ownsRow b1 E1 k1 u n xs:=by
 refine h.kept hg ?_;rcases h.2 with ⟨h0,_⟩ | ⟨g,cap,cur,hv,_,hh,_⟩
 ·rw [h0];exact .inl rfl
 ·right
  intro e;rcases h2.2 with ⟨h0,_⟩ | ⟨g',cap',cur',hv',_,hh',_⟩
  ·rw [h0,hv] at e;cases e
  ·rw [hv,hv'] at e
   have e3:g=g':=Option.some.inj e;rw [e3,hh'] at hh;injection hh with hh
   injection hh with _ e4
   exact hne e4.symm
def qbm (w:World) (base:Nat) (l:List Int) (u:Value):Prop:=w.ownsRow base 3 1 u l.length (l.map fun x=>I x)
theorem qdv {w w':World} {base:Nat} {l:List Int} {u:Value} (h:qbm w base l u) (hb:qB w w'):qbm w' base l u:=qad h hb
theorem qdw {w w':World} {base b2 E2 k2 m:Nat} {l:List Int} {u v:Value} {ys:List Value} (h:qbm w base l u) (h2:w.ownsRow b2 E2 k2 v m ys) (hg:w.grownBy w' v.ownBlock) (hne:3≠E2):qbm w' base l u:=qmz h h2 hne hg
theorem qjh {w:World} {base:Nat} {l:List Int} {u:Value} (h:qbm w base l u):IntsV w l u:=by
 obtain ⟨a,c,rfl⟩:=qam h;exact ⟨⟨a,l.length,c⟩,rfl,qfj (s:=⟨a,l.length,c⟩) rfl h⟩
def tkO9 (w:World) (base:Nat) (x:TkR) (i:Nat) (u:Value):Prop:=match i with | 0=>u=I x.prio | 1=>u=I x.ring | 2=>u=.bool x.full | 3=>u=I x.limit | 4=>u=.int .u32 (x.mask:Int) | 5=>u=I x.inner | 6=>qbm w base x.own u | _=>u=.int .u32 (x.auto:Int)
def isO9 (w:World) (base:Nat) (x:IsR) (i:Nat) (u:Value):Prop:=match i with | 0=>u=I x.cat | 1=>u=I x.prio | _=>qbm w base x.own u
theorem qh6 {w w':World} {base:Nat} {x:TkR} {i:Nat} {u:Value} (h:tkO9 w base x i u) (hb:qB w w'):tkO9 w' base x i u:=by
 unfold tkO9 at h ⊢;split at h <;> first | exact h | exact qdv h hb
theorem qh7 {w w':World} {base:Nat} {x:IsR} {i:Nat} {u:Value} (h:isO9 w base x i u) (hb:qB w w'):isO9 w' base x i u:=by
 unfold isO9 at h ⊢;split at h <;> first | exact h | exact qdv h hb
theorem qli {w w':World} {base b2 k2 m:Nat} {x:TkR} {i:Nat} {u v:Value} {ys:List Value} (h:tkO9 w base x i u) (h2:w.ownsRow b2 71 k2 v m ys) (hg:w.grownBy w' v.ownBlock):tkO9 w' base x i u:=by
 unfold tkO9 at h ⊢;split at h <;> first | exact h | exact qdw h h2 hg (by decide)
theorem qlj {w w':World} {base b2 k2 m:Nat} {x:IsR} {i:Nat} {u v:Value} {ys:List Value} (h:isO9 w base x i u) (h2:w.ownsRow b2 84 k2 v m ys) (hg:w.grownBy w' v.ownBlock):isO9 w' base x i u:=by
 unfold isO9 at h ⊢;split at h <;> first | exact h | exact qdw h h2 hg (by decide)
theorem qrk {w:World} {base:Nat} {x:TkR} {u:Value}:∀{i:Nat},tkO9 w base x i u→tkrP w x i u
 | 0,h=>h
 | 1,h=>h
 | 2,h=>h
 | 3,h=>h
 | 4,h=>h
 | 5,h=>h
 | 6,h=>qjh h
 | _+7,h=>h
theorem qrl {w:World} {base:Nat} {x:IsR} {u:Value}:∀{i:Nat},isO9 w base x i u→isrP w x i u
 | 0,h=>h
 | 1,h=>h
 | _+2,h=>qjh h
end Go.Proofs.YtijgopkhdjaolabGreat
