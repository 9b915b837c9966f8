import Derived.Test.YtmidaeljeoifdaaGreatDoorThg
import Derived.Test.YtmidaeljeoifdaaGreatDoorTcv
import Derived.Test.YtmidaeljeoifdaaGreatDoorThi
namespace Go.Proofs.YtmidaeljeoifdaaGreatDoor
open Go.RowKit Go.Shelf Go.Sort Go.Maps
set_option linter.unusedVariables false
set_option linter.unusedSimpArgs false
def tbS (x : Tk) (us : Int) (md : Nat) (d f e c : Int) : Tb := ⟨us, md, [trow x], [⟨x.prio, IntKind.i64.wrap (capN [trow x] x.prio)⟩], [], [], [], [], [], d, f, e, c⟩
theorem tbS_at {B : Nat} {W : World} {x : Tk} {us : Int} {md : Nat} {d f e c : Int} {at_ : Option Addr} {ct : Nat} {ag : Option Addr} {cg : Nat} {ar : Option Addr} {cr : Nat} {ak : Option Addr} {ck : Nat} {aa : Option Addr} {ca : Nat} {ai : Option Addr} {ci : Nat} {am : Option Addr} {cm2 : Nat}
  (h : Six B W [trow x] [] [] [] [] [] (.slice at_ 1 ct) (.slice ar 0 cr) (.slice ak 0 ck) (.slice aa 0 ca) (.slice ai 0 ci) (.slice am 0 cm2)) (hg : RG B W [⟨x.prio, IntKind.i64.wrap (capN [trow x] x.prio)⟩] (.slice ag 1 cg)) : TbAt W (tbS x us md d f e c) ⟨⟨at_, 1, ct⟩, ⟨ag, 1, cg⟩, ⟨ar, 0, cr⟩, ⟨ak, 0, ck⟩, ⟨aa, 0, ca⟩, ⟨ai, 0, ci⟩, ⟨am, 0, cm2⟩⟩ :=
 ⟨RO.rows (l := [trow x]) h.t (fun _ _ _ h => tkO_P9 h), RO.rows (l := [_]) hg (fun _ _ _ h => h), RO.rows (l := []) h.r (fun _ _ _ h => h), RO.rows (l := []) h.k (fun _ _ _ h => h), RO.rows (l := []) h.a (fun _ _ _ h => h), RO.rows (l := []) h.i (fun _ _ _ h => isO_P9 h), RO.rows (l := []) h.m (fun _ _ _ h => h)⟩
def SO (B : Nat) (W : World) (x : Tk) (v : Ts) : Prop := ∃ (at_ : Option Addr) (ct : Nat) (ag : Option Addr) (cg : Nat) (ar : Option Addr) (cr : Nat) (ak : Option Addr) (ck : Nat) (aa : Option Addr) (ca : Nat) (ai : Option Addr) (ci : Nat) (am : Option Addr) (cm2 : Nat), v = ⟨⟨at_, 1, ct⟩, ⟨ag, 1, cg⟩, ⟨ar, 0, cr⟩, ⟨ak, 0, ck⟩, ⟨aa, 0, ca⟩, ⟨ai, 0, ci⟩, ⟨am, 0, cm2⟩⟩ ∧ Six B W [trow x] [] [] [] [] [] (.slice at_ 1 ct) (.slice ar 0 cr) (.slice ak 0 ck) (.slice aa 0 ca) (.slice ai 0 ci) (.slice am 0 cm2) ∧ RG B W [⟨x.prio, IntKind.i64.wrap (capN [trow x] x.prio)⟩] (.slice ag 1 cg)
theorem SO.at9 {B : Nat} {W : World} {x : Tk} {v : Ts} (h : SO B W x v) (us : Int) (md : Nat) (d f e c : Int) : TbAt W (tbS x us md d f e c) v := by
 obtain ⟨at_, ct, ag, cg, ar, cr, ak, ck, aa, ca, ai, ci, am, cm2, rfl, h1, h2⟩ := h
 exact tbS_at h1 h2
theorem SO.below {B : Nat} {W W' : World} {x : Tk} {v : Ts} (h : SO B W x v) (hb : Below W.heap.size W W') : SO B W' x v := by
 obtain ⟨at_, ct, ag, cg, ar, cr, ak, ck, aa, ca, ai, ci, am, cm2, rfl, h1, h2⟩ := h
 exact ⟨at_, ct, ag, cg, ar, cr, ak, ck, aa, ca, ai, ci, am, cm2, rfl, h1.below hb, RG.below h2 hb⟩
theorem SO.store {B : Nat} {W W' : World} {x : Tk} {v : Ts} {g : Nat} {cs : Array Value} {fr : Nat × Nat} (h : SO B W x v) (hg : W.heap[g]? = some (.cells cs 30 fr)) (hb : W.grownBy W' (some g)) : SO B W' x v := by
 obtain ⟨at_, ct, ag, cg, ar, cr, ak, ck, aa, ca, ai, ci, am, cm2, rfl, h1, h2⟩ := h
 exact ⟨at_, ct, ag, cg, ar, cr, ak, ck, aa, ca, ai, ci, am, cm2, rfl, h1.store hg hb, RG.store h2 hg hb⟩
end Go.Proofs.YtmidaeljeoifdaaGreatDoor
