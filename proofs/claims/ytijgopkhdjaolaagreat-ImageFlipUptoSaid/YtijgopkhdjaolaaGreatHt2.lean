import Derived.Test.YtijgopkhdjaolaaGreatHt1
namespace Go.Proofs.YtijgopkhdjaolaaGreat
open Go.RowKit Go.Shelf Go.Sort
open Go.Proofs.YtijgopkhdjaolaaGreat.Ob (leB leV qa9 qai crc Rd RdAll qaa)
set_option linter.unusedSimpArgs false
set_option linter.unusedVariables false
set_option maxHeartbeats 16000000
set_option maxRecDepth 100000
theorem qgg (W : World) (tb : Tb) (v : Ts) (h : TbAt W tb v) (hw : WfT tb) : Calls Tryz.prog 9 #[.agg (tbC tb v)] W fun e w' => ∃ a n cap,e = .returned (.tuple #[.slice a n cap,I (if chkP tb then 0 else 90)]) ∧ (chkP tb = true → Rd w' a n cap (img tb)) ∧ Below W.heap.size W w' := by
 cases hc : chkP tb with
 | false => exact (qeb W tb v h hw hc).mono fun e w' q => ⟨none,0,0,q.1,(fun e => by cases e),q.2⟩
 | true =>
  have h30 := qbr hc hw
  refine (qef W tb v h hw hc _ rfl).mono ?_
  rintro e w' ⟨g,cap,rfl, -,hO, -,b⟩
  exact ⟨_,_,_,rfl,fun _ => qaa hO (by omega),b⟩
def zTb : Tb := ⟨0,0, [], [], [], [], [], [], [],0,0,0,0⟩
def zTs : Ts := ⟨⟨none,0,0⟩,⟨none,0,0⟩,⟨none,0,0⟩,⟨none,0,0⟩,⟨none,0,0⟩,⟨none,0,0⟩,⟨none,0,0⟩⟩
theorem qd2 {w : World} {a : Option Addr} {n c : Nat} {bs : List UInt8} (h : Rd w a n c bs) : Calls Tryz.prog 15 #[.slice a n c] w fun e w' => ∃ tb v,e = .returned (.tuple #[.agg (tbC tb v),I (qbh (dec bs) : Nat)]) ∧ (∀ tb',dec bs = .ok tb' → tb = tb' ∧ TbAt w' tb v) ∧ Below w.heap.size w w' := by
 refine (qco h).mono ?_
 intro e w' hD
 unfold DP at hD
 cases hd : dec bs with
 | ok tb =>
  rw [hd] at hD
  obtain ⟨v,lo, -,rfl,hO,b⟩ := hD
  exact ⟨tb,v,rfl,fun tb' e => by cases e; exact ⟨rfl,hO.at⟩,b⟩
 | error q =>
  rw [hd] at hD
  obtain ⟨rfl,b⟩ := hD
  exact ⟨zTb,zTs,rfl,fun tb' e => (nomatch e),b⟩
theorem code_ok {bs : List UInt8} : qbh (dec bs) = 0 ↔ ∃ tb,dec bs = .ok tb := by
 cases hd : dec bs with
 | ok tb => simp [qbh]
 | error q => simp [qbh]; exact qiq hd
end Go.Proofs.YtijgopkhdjaolaaGreat
