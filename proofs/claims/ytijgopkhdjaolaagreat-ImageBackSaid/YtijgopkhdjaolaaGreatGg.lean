import Derived.Test.YtijgopkhdjaolaaGreatXHs10
namespace Go.Proofs.YtijgopkhdjaolaaGreat
open Go.RowKit Go.Shelf Go.Sort
open Go.Proofs.YtijgopkhdjaolaaGreat.Ob (leB leV qa9 qai crc Rd RdAll qaa)
set_option linter.unusedSimpArgs false
set_option linter.unusedVariables false
set_option maxHeartbeats 16000000
set_option maxRecDepth 100000
def nL (tb : Tb) : List Int := [1,tb.tasks.length,tb.rings.length,tb.ress.length,tb.ctrs.length,tb.als.length,tb.isrs.length,tb.msgs.length,1]
theorem qc7 {α : Type} {e : α → List UInt8} (he : ∀ x,e x ≠ []) (l : List α) : (l.flatMap e).length = 0 ↔ l.length = 0 := by
 cases l with
 | nil => simp
 | cons x l => simp [he x]
theorem qq7 {tb : Tb} {k : Nat} (hk : k < 9) : ∃ x,(psOf tb)[k]? = some x ∧ x.1 = (k : Int) + 1 ∧ (nL tb)[k]? = some (x.2.1 : Int) ∧ (x.2.2.length = 0 ↔ x.2.1 = 0) := by
 have hB : ∀ n v,0 < n → leB n v ≠ [] := fun n v hn e => by have := qa9 n v; rw [e] at this; simp at this; omega
 have a1 : ∀ (m : Nat) (v : Nat) (l : List UInt8),0 < m → leB m v ++ l ≠ [] := fun m v l hm e => hB m v hm (List.append_eq_nil_iff.mp e).1
 match k,hk with
 | 0,_ => exact ⟨_,rfl,rfl,rfl,by simp [qe7]⟩
 | 1,_ => exact ⟨_,rfl,rfl,rfl,qc7 (fun x => a1 1 _ _ (by decide)) _⟩
 | 2,_ => exact ⟨_,rfl,rfl,rfl,qc7 (fun x => a1 1 _ _ (by decide)) _⟩
 | 3,_ => exact ⟨_,rfl,rfl,rfl,qc7 (fun x => a1 1 _ _ (by decide)) _⟩
 | 4,_ => exact ⟨_,rfl,rfl,rfl,qc7 (fun x => a1 4 _ _ (by decide)) _⟩
 | 5,_ => exact ⟨_,rfl,rfl,rfl,qc7 (fun x => a1 1 _ _ (by decide)) _⟩
 | 6,_ => exact ⟨_,rfl,rfl,rfl,qc7 (fun x => a1 1 _ _ (by decide)) _⟩
 | 7,_ => exact ⟨_,rfl,rfl,rfl,qc7 (fun x => a1 1 _ _ (by decide)) _⟩
 | 8,_ => exact ⟨_,rfl,rfl,rfl,by simp [qa9]⟩
theorem ql9 {x : Pce} : ∀ {l : List Pce} {k : Nat} (o : Nat),l[k]? = some x → ∀ i,i < 4 → (prC o l)[k * 4 + i]? = (prX x (o + (flP (l.take k)).length))[i]?
 | [],k,o,h => by simp at h
 | y :: l,0,o,h => fun i hi => by
  simp at h
  subst h
  rw [prC,List.getElem?_append_left (by simp [prX]; omega)]
  simp [flP]
 | y :: l,k + 1,o,h => fun i hi => by
  rw [prC,List.getElem?_append_right (by simp [prX]; omega)]
  have := ql9 (l := l) (k := k) (o + y.2.2.length) (by simpa using h) i hi
  rw [show (k + 1) * 4 + i - (prX y o).length = k * 4 + i by simp [prX]; omega,this]
  simp [flP,Nat.add_assoc]
theorem qns (tb : Tb) : flP ((psOf tb).take 9) = img tb := by rw [show (psOf tb).take 9 = psOf tb from rfl,qda]
theorem qnt (v : Nat) : leB 2 v = [UInt8.ofNat (v % 256),UInt8.ofNat (v / 256 % 256)] := by
 have h := qa9 2 v
 match hl : leB 2 v,h with
 | [a,b],_ =>
  have h0 := Ob.leB_get 2 v 0 (by decide)
  have h1 := Ob.leB_get 2 v 1 (by decide)
  rw [hl] at h0 h1
  simp at h0 h1
  rw [h0,h1]
theorem qm9 {tb : Tb} : (img tb)[(img tb).length - 2]? = some (UInt8.ofNat (crc 65535 (eAll tb) % 256)) ∧ (img tb)[(img tb).length - 1]? = some (UInt8.ofNat (crc 65535 (eAll tb) / 256 % 256)) := by
 have hl := qca tb
 have ha := qd6 tb
 have he : img tb = eAll tb ++ [UInt8.ofNat (crc 65535 (eAll tb) % 256),UInt8.ofNat (crc 65535 (eAll tb) / 256 % 256)] := by
  show eAll tb ++ leB 2 _ = _
  rw [qnt]
 rw [hl,he]
 refine ⟨?_, ?_⟩
 ·rw [List.getElem?_append_right (by omega),show 30 + (qba tb).length - 2 - (eAll tb).length = 0 by omega]; rfl
 ·rw [List.getElem?_append_right (by omega),show 30 + (qba tb).length - 1 - (eAll tb).length = 1 by omega]; rfl
theorem qla (tb : Tb) : (img tb).take ((img tb).length - 2) = eAll tb := by
 have hl := qca tb
 have ha := qd6 tb
 rw [hl]; unfold img; exact List.take_left' (by omega)
end Go.Proofs.YtijgopkhdjaolaaGreat
