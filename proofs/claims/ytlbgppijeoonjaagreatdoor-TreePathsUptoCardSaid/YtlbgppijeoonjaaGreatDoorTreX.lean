import Derived.Test.YtlbgppijeoonjaaGreatDoorTbX
import Derived.Test.YtlbgppijeoonjaaGreatDoorQua
import Derived.Maps.AppendAt
import Derived.Deep.RegionHeld3
import Derived.Deep.RegionLaw
namespace Go.Proofs.YtlbgppijeoonjaaGreatDoor
open Go.RowKit
set_option linter.unusedVariables false

/-! ### Attributes in memory -/
def atC (a : At) (pv : Value) : Array Value := match a with
  | .mk name o l c v braced _ noted note => #[.string ⟨name.toArray⟩, .int .i64 o, .int .i64 l, .int .i64 c, .int .i64 v.kind, .string ⟨v.text.toArray⟩, .int .u32 (v.num : Int), .bool v.hex, .bool braced, pv, .bool noted, .string ⟨note.toArray⟩]
def rowsA (ps : List (At × Value)) : List Value := ps.flatMap fun p => (atC p.1 p.2).toList
theorem rowsA_snoc (ps : List (At × Value)) (p : At × Value) : rowsA (ps ++ [p]) = rowsA ps ++ (atC p.1 p.2).toList := by simp [rowsA]
/-- A slice of attributes that lies in blocks of F, with all that stands in it. -/
inductive AttrsAt (w : World) (F : Nat → Prop) : Value → List At → Prop
  | nil {a : Option Addr} {cap : Nat} : AttrsAt w F (.slice a 0 cap) []
  | row {g off cap : Nat} {ps : List (At × Value)} : F g → g < w.heap.size → (∀ j u, (rowsA ps)[j]? = some u → w.cell? ⟨g, off + j, none⟩ = some u) → ps.length ≤ cap ∧ cap ≤ maxLen →
      (∀ p, p ∈ ps → AttrsAt w F p.2 p.1.params) → AttrsAt w F (.slice (some ⟨g, off, none⟩) ps.length cap) (ps.map Prod.fst)
theorem attrsAt_mono {w : World} {F G : Nat → Prop} (hFG : ∀ g, F g → G g) {v : Value} {l : List At} (h : AttrsAt w F v l) : AttrsAt w G v l := by
  induction h with
  | nil => exact .nil
  | row a b c d e ih => exact .row (hFG _ a) b c d ih
theorem attrsAt_keep {w w' : World} {F : Nat → Prop} (hs : w.heap.size ≤ w'.heap.size) (hk : ∀ g, F g → g < w.heap.size → w'.heap[g]? = w.heap[g]?) {v : Value} {l : List At} (h : AttrsAt w F v l) : AttrsAt w' F v l := by
  induction h with
  | nil => exact .nil
  | row a b c d e ih => exact .row a (Nat.lt_of_lt_of_le b hs) (fun j u hj => by rw [World.cell?_of_block (hk _ a b)]; exact c j u hj) d ih
theorem attrsAt_move {w w' : World} {F G : Nat → Prop} (hs : w.heap.size ≤ w'.heap.size) (hk : ∀ g, F g → g < w.heap.size → w'.heap[g]? = w.heap[g]? ∧ G g) {v : Value} {l : List At} (h : AttrsAt w F v l) : AttrsAt w' G v l := by
  induction h with
  | nil => exact .nil
  | row a b c d e ih => exact .row (hk _ a b).2 (Nat.lt_of_lt_of_le b hs) (fun j u hj => by rw [World.cell?_of_block (hk _ a b).1]; exact c j u hj) d ih
/-- The parser's block beside a row that grows. -/
theorem Pa.grownO {w w' : World} {r tb : Nat} {o : Option Nat} {xs : List Tp} {v : Value} (h : Pa w r tb xs v) (hg : w.grownBy w' o) (hb : some r ≠ o) (hv : some tb ≠ o) : Pa w' r tb xs v := by
  refine ⟨(hg.block r h.lt hb).trans h.hheap, ?_, h.loc, h.ne, Nat.lt_of_lt_of_le h.tlt hg.size⟩
  have hr := h.row
  obtain ⟨o1, n1, c1, rfl⟩ := h.loc
  cases hr with
  | nil => exact .nil
  | some a b c => exact .some (Nat.lt_of_lt_of_le a hg.size) (fun j u hj => by rw [World.cell?_of_block (hg.block tb a hv)]; exact b j u hj) c
theorem attrsAt_grown {w w' : World} {F : Nat → Prop} {r : Nat} (hg : w.grownBy w' (some r)) (hr : ¬ F r) {v : Value} {l : List At} (h : AttrsAt w F v l) : AttrsAt w' F v l :=
  attrsAt_keep hg.size (fun g hF hl => hg.block g hl (fun e => by cases e; exact hr hF)) h
theorem attrsAt_below {w w' : World} {F : Nat → Prop} (hb : Below w.heap.size w w') {v : Value} {l : List At} (h : AttrsAt w F v l) : AttrsAt w' F v l :=
  attrsAt_keep hb.size (fun g _ hl => hb.block g hl) h
theorem attrsAt_own {w : World} {F : Nat → Prop} {base : Nat} {v : Value} {ps : List (At × Value)} (h : w.ownsRow base 34 12 v ps.length (rowsA ps)) (hF : ∀ g, base ≤ g → F g) (hp : ∀ p, p ∈ ps → AttrsAt w F p.2 p.1.params) : AttrsAt w F v (ps.map Prod.fst) := by
  obtain ⟨hl, ⟨rfl, h0⟩ | ⟨g, cap, cur, rfl, hb, hh, h1, h2, h3, h4⟩⟩ := h
  · have : ps = [] := List.eq_nil_of_length_eq_zero h0
    subst this
    exact .nil
  · refine .row (hF g hb) (heap_lt hh) (fun j u hj => ?_) ⟨h1, h2⟩ hp
    have := cell_of_row w g j _ _ (0, 0) hh
    rw [Nat.zero_add, this, ← Array.getElem?_toList]
    rw [← h4, List.getElem?_take] at hj
    split at hj
    · exact hj
    · cases hj
def VAttr (base : Nat) (a : At) (u : Value) (w' : World) : Prop := ∃ pv, u = .agg (atC a pv) ∧ AttrsAt w' (fun g => base ≤ g) pv a.params
def VAttrs (base : Nat) (l : List At) (u : Value) (w' : World) : Prop := AttrsAt w' (fun g => base ≤ g) u l
/-- What is asked of a call that reads an attribute, attributes. -/
def CAttr (n : Nat) : Prop := ∀ (f d : Nat) (xs : List Tp) (v : Value) (w : World) (r tb : Nat), xs.length ≤ n → 2 * xs.length ≤ f → xs.length ≤ 262145 → d ≤ 4 → Pa w r tb xs v → EndL xs →
  Calls Tryz.prog 106 #[.pointer (some ⟨r, 0, none⟩), .int .i64 (d : Int)] w fun e w' => PPost w r tb (VAttr w.heap.size) (attrL f d xs) e w'
def CAttrs (n : Nat) : Prop := ∀ (f d : Nat) (xs : List Tp) (v : Value) (w : World) (r tb : Nat), xs.length ≤ n → 2 * xs.length ≤ f → xs.length ≤ 262145 → d ≤ 4 → Pa w r tb xs v → EndL xs →
  Calls Tryz.prog 88 #[.pointer (some ⟨r, 0, none⟩), .int .i64 (d : Int)] w fun e w' => PPost w r tb (VAttrs w.heap.size) (attrsL f d xs) e w'
def zero12 : Array Value := #[.string ⟨#[]⟩, .int .i64 0, .int .i64 0, .int .i64 0, .int .i64 0, .string ⟨#[]⟩, .int .u32 0, .bool false, .bool false, .slice none 0 0, .bool false, .string ⟨#[]⟩]
theorem Tryz.info34 : (Tryz.prog.info? 34).map (fun i => (i.zero, i.size, i.bytes)) = some (some (.agg zero12), 12, 128) := by kernel_rfl
theorem own_shape12 {w : World} {base : Nat} {v : Value} {n : Nat} {xs : List Value} (h : w.ownsRow base 34 12 v n xs) : ∃ a cap, v = .slice a n cap := by
  obtain ⟨hl, ⟨rfl, rfl⟩ | ⟨g, cap, cur, rfl, _⟩⟩ := h
  · exact ⟨none, 0, rfl⟩
  · exact ⟨_, _, rfl⟩
theorem attrsAt_shape {w : World} {F : Nat → Prop} {v : Value} {l : List At} (h : AttrsAt w F v l) : ∃ a n cap, v = .slice a n cap := by
  cases h with
  | nil => exact ⟨_, _, _, rfl⟩
  | row _ _ _ _ _ => exact ⟨_, _, _, rfl⟩
theorem one12 (s1 : ByteArray) (a b c k : Int) (s2 : ByteArray) (n : Int) (h1 h2 : Bool) (p : Option Addr) (pn pc : Nat) (h3 : Bool) (s3 : ByteArray) : ∀ u ∈ [Value.string s1, .int .i64 a, .int .i64 b, .int .i64 c, .int .i64 k, .string s2, .int .u32 n, .bool h1, .bool h2, .slice p pn pc, .bool h3, .string s3], u.oneCell' = true := by
  intro u hu
  simp at hu
  rcases hu with rfl | rfl | rfl | rfl | rfl | rfl | rfl | rfl | rfl | rfl | rfl | rfl <;> rfl
/-- How many tokens the parser has yet to read, by its block. -/
def paLen (w : World) (r : Nat) : Nat := match w.cell? ⟨r, 0, none⟩ with | some (.slice _ n _) => n | _ => 0
theorem paLen_eq {w : World} {r tb : Nat} {xs : List Tp} {v : Value} (h : Pa w r tb xs v) : paLen w r = xs.length := by
  unfold paLen
  rw [h.cell]
  have := h.row
  cases this with
  | nil => rfl
  | some a b c => rfl
set_option maxHeartbeats 4000000 in
set_option maxRecDepth 100000 in
theorem attrs_step (n : Nat) (IH : CAttr n) : CAttrs (n + 1) := by
  intro f d xs v w r tb hn hf hm hd h hE
  obtain ⟨i0, hi, hz0, hz1, hz2⟩ := info_parts Tryz.info34
  obtain ⟨M, hM⟩ : ∃ M, M = attrsL f d xs := ⟨_, rfl⟩
  rw [← hM]
  have HM : Hid (M = attrsL f d xs) := hM
  clear hM
  rcases take_end hE (k := 4) (by decide) with ⟨x, t, rfl, hk, e3, hE3⟩ | ⟨x, t, rfl, hk, e3⟩
  · have c1 := take_ok r tb (x :: t) v 4 w h hE e3
    go_enter Tryz.func88, Tryz.ntmps88
    go_wp2_with fail
    refine c1.mono ?_
    rintro e w1 ⟨rfl, v1, hP1, hg1⟩
    unfold tzV tzC
    obtain ⟨f, rfl⟩ : ∃ f', f = f' + 1 := ⟨f - 1, by simp at hf; omega⟩
    have HM2 : Hid (M = rowL f d (([] : List (At × Value)).map Prod.fst) t) := by
      show M = _
      rw [HM.out, attrsL, e3, PR.bind_ok]
      rfl
    simp only [List.length_cons] at hn hf hm
    have hrl := h.lt
    have htl := h.tlt
    clear c1 HM e3 hE h hk
    go_wp2
    go_loopw [5] (fun lv wr => ∃ (f' : Nat) (ys : List Tp) (ps : List (At × Value)) (v' : Value), Hid (M = rowL f' d (ps.map Prod.fst) ys) ∧ 2 * ys.length + 1 ≤ f' ∧ ys.length + ps.length ≤ t.length ∧ Pa wr r tb ys v' ∧ EndL ys ∧ wr.ownsRow w.heap.size 34 12 lv ps.length (rowsA ps) ∧ (∀ p, p ∈ ps → AttrsAt wr (fun g => w.heap.size ≤ g ∧ lv.ownBlock ≠ some g) p.2 p.1.params) ∧ w.grownBy wr (some r)) (fun _ wr => paLen wr r)
    case atStart => exact ⟨f, t, [], v1, HM2, by omega, by simp, hP1, hE3, World.ownsRow_nil _ _ _ _, (fun p hp => by cases hp), hg1⟩
    case round =>
      obtain ⟨f', ys, ps, v', hh, hf', hlen, hP, hEy, hO, hA, hg⟩ := hrel
      clear HM2 hP1 hE3 hg1
      obtain ⟨av, cv, rfl⟩ := own_shape12 hO
      have hpl := paLen_eq hP
      have cc := pcomes_list r tb ys v' 5 wr hP hEy
      obtain ⟨f, rfl⟩ : ∃ f2, f' = f2 + 1 := ⟨f' - 1, by omega⟩
      have h2 := hh.out
      rw [rowL] at h2
      cases hC : comesL 5 ys with
      | true =>
        rw [hC] at cc
        rw [hC, if_pos rfl] at h2
        obtain ⟨x5, s5, ht5⟩ := comes_take hC
        have c5 := take_ok r tb ys v' 5 wr hP hEy ht5
        rw [ht5, PR.bind_ok] at h2
        have HM3 : Hid (M = .ok (ps.map Prod.fst) s5) := h2
        unfold tzV tzC at c5
        clear hh h2 hC
        go_wp2_with (go_at_call 68; refine cc.mono ?_; rintro e w2 ⟨rfl, rfl⟩)
        refine c5.mono ?_
        rintro e w3 ⟨rfl, v3, hP3, hg3⟩
        have hO3 := own_grown hO hg3 hrl
        go_wp2
        go_ret
        rw [HM3.out]
        refine ⟨_, v3, rfl, ?_, hP3, grown_trans hg hg3⟩
        exact attrsAt_own hO3 (fun g hg => hg) (fun p hp => attrsAt_mono (fun g hg => hg.1) (attrsAt_grown hg3 (fun hF => by omega) (hA p hp)))
      | false =>
        rw [hC] at cc
        rw [hC, if_neg (by decide)] at h2
        have HM3 : Hid (M = (attrL f d ys).bind fun a r => rowL f d (ps.map Prod.fst ++ [a]) r) := h2
        have ca := IH f d ys v' wr r tb (by omega) (by omega) (by omega) hd hP hEy
        have hLft := (attrs_left f).1 d ys hEy
        have hgs := hg.size
        clear hh h2 hC
        go_wp2_with (go_at_call 68; refine cc.mono ?_; rintro e w2 ⟨rfl, rfl⟩)
        refine ca.mono ?_
        rintro e w3 hPP
        rcases ppost_use hPP with ⟨a, s, u, v3, e1, rfl, ⟨pv, rfl, hAt⟩, hP3, hg3⟩ | ⟨c, x, e1, hG, hg3⟩
        · obtain ⟨hEs, hls⟩ := hLft a s e1
          have HM4 : Hid (M = rowL f d (ps.map Prod.fst ++ [a]) s) := by
            show M = _
            rw [HM3.out, e1, PR.bind_ok]
          have hO3 := own_grown hO hg3 hrl
          have hA3 : ∀ p, p ∈ ps → AttrsAt w3 (fun g => w.heap.size ≤ g ∧ (Value.slice av ps.length cv).ownBlock ≠ some g) p.2 p.1.params := fun p hp => attrsAt_grown hg3 (fun hF => by omega) (hA p hp)
          have hgw := grown_trans hg hg3
          have hs3 := hgw.size
          have hob : ∀ g, (Value.slice av ps.length cv).ownBlock = some g → g < wr.heap.size := fun g e => (hO.lt g e).2
          obtain ⟨pa, pn, pc, rfl⟩ := attrsAt_shape hAt
          have hlen2 : ps.length ≤ 262145 := by omega
          obtain ⟨an, ao, al, ac, ⟨vk, vt, vn, vh⟩, ab, aps, and, ant⟩ := a
          unfold atC
          clear hPP ca HM3 cc hLft hg3 hg hO hA
          go_wp2_with (at_builtin; refine wpList_append_own_at _ rfl (.tmp 11) (.tmp 15) 32 rfl w.heap.size 34 i0 (.agg zero12) 12 128 Tryz.underlying32 hi hz0 hz1 hz2 rfl (by decide) _ _ _ rfl (hO3.alloc _) ⟨w3.heap.size, 0, none⟩ 1 1 [.string ⟨an.toArray⟩, .int .i64 ao, .int .i64 al, .int .i64 ac, .int .i64 vk, .string ⟨vt.toArray⟩, .int .u32 (vn : Int), .bool vh, .bool ab, .slice pa pn pc, .bool and, .string ⟨ant.toArray⟩] rfl rfl (cell_new7 w3 #[.string ⟨an.toArray⟩, .int .i64 ao, .int .i64 al, .int .i64 ac, .int .i64 vk, .string ⟨vt.toArray⟩, .int .u32 (vn : Int), .bool vh, .bool ab, .slice pa pn pc, .bool and, .string ⟨ant.toArray⟩] _) (one12 _ _ _ _ _ _ _ _ _ _ _ _ _ _) (by unfold maxLen; omega) (by omega) (by simp; omega) ?_)
          intro v6 w6 ho6 hg6 _ hat6
          have hg7 := grown_alloc hg6
          have hob3 : ∀ g, (Value.slice av ps.length cv).ownBlock = some g → w.heap.size ≤ g ∧ g < wr.heap.size := fun g e => ⟨(hO3.lt g e).1, hob g e⟩
          have hblk : ∀ g, g < w3.heap.size → (Value.slice av ps.length cv).ownBlock ≠ some g → v6.ownBlock ≠ some g := fun g hl hne e => by
            rcases hat6 with h | h
            · rw [h] at e; exact hne e
            · rw [h] at e; cases e; omega
          have hP6 : Pa w6 r tb s v3 := hP3.grownO hg7 (fun e => by have := (hob3 _ e.symm).1; omega) (fun e => by have := (hob3 _ e.symm).1; omega)
          have hw6 : w.grownBy w6 (some r) := ⟨hg7.os.trans hgw.os, hg7.tape.trans hgw.tape, hg7.output.trans hgw.output, Nat.le_trans hgw.size hg7.size, fun i hi hr => (hg7.block i (by omega) (fun e => by have := (hob3 _ e.symm).1; omega)).trans (hgw.block i hi hr)⟩
          have hO6 : w6.ownsRow w.heap.size 34 12 v6 (ps ++ [((.mk an ao al ac ⟨vk, vt, vn, vh⟩ ab aps and ant : At), Value.slice pa pn pc)]).length (rowsA (ps ++ [((.mk an ao al ac ⟨vk, vt, vn, vh⟩ ab aps and ant : At), Value.slice pa pn pc)])) := by
            rw [rowsA_snoc, List.length_append]; exact ho6
          have hA6 : ∀ p, p ∈ ps ++ [((.mk an ao al ac ⟨vk, vt, vn, vh⟩ ab aps and ant : At), Value.slice pa pn pc)] → AttrsAt w6 (fun g => w.heap.size ≤ g ∧ v6.ownBlock ≠ some g) p.2 p.1.params := fun p hp => by
            rcases List.mem_append.1 hp with hp | hp
            · exact attrsAt_move hg7.size (fun g hF hl => ⟨hg7.block g hl hF.2.symm, hF.1, hblk g hl hF.2⟩) (hA3 p hp)
            · have hpe : p = _ := List.mem_singleton.1 hp
              subst hpe
              have hne : ∀ g, wr.heap.size ≤ g → (Value.slice av ps.length cv).ownBlock ≠ some g := fun g hF e => by have := (hob3 g e).2; omega
              exact attrsAt_move hg7.size (fun g hF hl => ⟨hg7.block g hl (hne g hF).symm, by omega, hblk g hl (hne g hF)⟩) hAt
          obtain ⟨av6, cv6, rfl⟩ := own_shape12 hO6
          have hpl6 := paLen_eq hP6
          clear ho6 hg6 hg7 hO3 hA3 hAt hP3 hgw hob hob3 hblk hat6
          go_wp2
          go_roundw
          case rel =>
            refine ⟨f, s, ps ++ [((.mk an ao al ac ⟨vk, vt, vn, vh⟩ ab aps and ant : At), Value.slice pa pn pc)], v3, ?_, by omega, by simp; omega, hP6, hEs, hO6, hA6, hw6⟩
            show M = _
            rw [HM4.out, List.map_append]
            rfl
          case measure => rw [hpl6, hpl]; omega
        · have HM4 : Hid (M = .bad c x) := by
            show M = _
            rw [HM3.out, e1, PR.bind_bad]
          obtain ⟨q, p, rfl, hq⟩ := hG
          refine ⟨rfl, ?_⟩
          rw [HM4.out]
          exact ⟨gup_mono ⟨q, p, rfl, hq⟩ hgs, grown_trans hg hg3⟩
  · have c1 := take_bad r tb (x :: t) v 4 w h hE e3
    obtain ⟨f, rfl⟩ : ∃ f', f = f' + 1 := ⟨f - 1, by simp at hf; omega⟩
    have HM2 : Hid (M = .bad 30 x) := by
      show M = _
      rw [HM.out, attrsL, e3, PR.bind_bad]
    go_enter Tryz.func88, Tryz.ntmps88
    go_wp2_with fail
    refine c1.mono ?_
    rintro e w1 ⟨hG, hg3⟩
    obtain ⟨q, p, rfl, hq⟩ := hG
    refine ⟨rfl, ?_⟩
    rw [HM2.out]
    exact ⟨⟨q, p, rfl, hq⟩, hg3⟩
end Go.Proofs.YtlbgppijeoonjaaGreatDoor

namespace Go.Proofs.YtlbgppijeoonjaaGreatDoor
open Go.RowKit
set_option linter.unusedVariables false

/-- A variable of twelve cells. -/
theorem var12 {w : World} {b : Nat} {v0 v1 v2 v3 v4 v5 v6 v7 v8 v9 v10 v11 : Value} {t : TypeId} (h : w.heap[b]? = some (.cells #[v0, v1, v2, v3, v4, v5, v6, v7, v8, v9, v10, v11] t (0, 0))) :
    (w.cell? ⟨b, 0, none⟩ = some v0 ∧ w.cell? ⟨b, 1, none⟩ = some v1 ∧ w.cell? ⟨b, 2, none⟩ = some v2 ∧ w.cell? ⟨b, 3, none⟩ = some v3 ∧ w.cell? ⟨b, 4, none⟩ = some v4 ∧ w.cell? ⟨b, 5, none⟩ = some v5 ∧ w.cell? ⟨b, 6, none⟩ = some v6 ∧ w.cell? ⟨b, 7, none⟩ = some v7 ∧ w.cell? ⟨b, 8, none⟩ = some v8 ∧ w.cell? ⟨b, 9, none⟩ = some v9 ∧ w.cell? ⟨b, 10, none⟩ = some v10 ∧ w.cell? ⟨b, 11, none⟩ = some v11) ∧ ∀ i, w.frozen? ⟨b, i, none⟩ = false := by
  have a1 := fun i => cell_of_row w b i _ _ (0, 0) h
  exact ⟨⟨a1 0, a1 1, a1 2, a1 3, a1 4, a1 5, a1 6, a1 7, a1 8, a1 9, a1 10, a1 11⟩, fun i => frozen_of_row w b i _ _ h⟩
theorem setVal_at (w : World) (b : Nat) (t : TypeId) (o0 o1 o2 o3 o4 o5 o6 o7 o8 o9 o10 o11 v4 v5 v6 v7 : Value) (k : w.heap[b]? = some (.cells #[o0, o1, o2, o3, o4, o5, o6, o7, o8, o9, o10, o11] t (0, 0))) :
    ((((w.setCell ⟨b, 4, none⟩ v4).setCell ⟨b, 5, none⟩ v5).setCell ⟨b, 6, none⟩ v6).setCell ⟨b, 7, none⟩ v7).heap[b]? = some (.cells #[o0, o1, o2, o3, v4, v5, v6, v7, o8, o9, o10, o11] t (0, 0)) := by
  have h0 : (w.setCell ⟨b, 4, none⟩ v4).heap[b]? = some (.cells #[o0, o1, o2, o3, v4, o5, o6, o7, o8, o9, o10, o11] t (0, 0)) := heap_setCell_same _ b 4 _ t _ k
  generalize w.setCell ⟨b, 4, none⟩ v4 = w0 at *
  have h1 : (w0.setCell ⟨b, 5, none⟩ v5).heap[b]? = some (.cells #[o0, o1, o2, o3, v4, v5, o6, o7, o8, o9, o10, o11] t (0, 0)) := heap_setCell_same _ b 5 _ t _ h0
  generalize w0.setCell ⟨b, 5, none⟩ v5 = w1 at *
  have h2 : (w1.setCell ⟨b, 6, none⟩ v6).heap[b]? = some (.cells #[o0, o1, o2, o3, v4, v5, v6, o7, o8, o9, o10, o11] t (0, 0)) := heap_setCell_same _ b 6 _ t _ h1
  generalize w1.setCell ⟨b, 6, none⟩ v6 = w2 at *
  exact heap_setCell_same _ b 7 _ t _ h2
theorem setVal_grown (w : World) (b : Nat) (v4 v5 v6 v7 : Value) : w.grownBy ((((w.setCell ⟨b, 4, none⟩ v4).setCell ⟨b, 5, none⟩ v5).setCell ⟨b, 6, none⟩ v6).setCell ⟨b, 7, none⟩ v7) (some b) := grown_trans (grown_set _ _ _ _) (grown_trans (grown_set _ _ _ _) (grown_trans (grown_set _ _ _ _) (grown_set _ _ _ _)))
theorem setNote_at (w : World) (b : Nat) (t : TypeId) (o0 o1 o2 o3 o4 o5 o6 o7 o8 o9 o10 o11 v10 v11 : Value) (k : w.heap[b]? = some (.cells #[o0, o1, o2, o3, o4, o5, o6, o7, o8, o9, o10, o11] t (0, 0))) :
    ((w.setCell ⟨b, 10, none⟩ v10).setCell ⟨b, 11, none⟩ v11).heap[b]? = some (.cells #[o0, o1, o2, o3, o4, o5, o6, o7, o8, o9, v10, v11] t (0, 0)) := by
  have h0 : (w.setCell ⟨b, 10, none⟩ v10).heap[b]? = some (.cells #[o0, o1, o2, o3, o4, o5, o6, o7, o8, o9, v10, o11] t (0, 0)) := heap_setCell_same _ b 10 _ t _ k
  generalize w.setCell ⟨b, 10, none⟩ v10 = w0 at *
  exact heap_setCell_same _ b 11 _ t _ h0
theorem setNote_grown (w : World) (b : Nat) (v10 v11 : Value) : w.grownBy ((w.setCell ⟨b, 10, none⟩ v10).setCell ⟨b, 11, none⟩ v11) (some b) := grown_trans (grown_set _ _ _ _) (grown_set _ _ _ _)
theorem set12_at (w : World) (b : Nat) (t : TypeId) (o0 o1 o2 o3 o4 o5 o6 o7 o8 o9 o10 o11 v0 v1 v2 v3 v4 v5 v6 v7 v8 v9 v10 v11 : Value) (k : w.heap[b]? = some (.cells #[o0, o1, o2, o3, o4, o5, o6, o7, o8, o9, o10, o11] t (0, 0))) :
    ((((((((((((w.setCell ⟨b, 0, none⟩ v0).setCell ⟨b, 1, none⟩ v1).setCell ⟨b, 2, none⟩ v2).setCell ⟨b, 3, none⟩ v3).setCell ⟨b, 4, none⟩ v4).setCell ⟨b, 5, none⟩ v5).setCell ⟨b, 6, none⟩ v6).setCell ⟨b, 7, none⟩ v7).setCell ⟨b, 8, none⟩ v8).setCell ⟨b, 9, none⟩ v9).setCell ⟨b, 10, none⟩ v10).setCell ⟨b, 11, none⟩ v11).heap[b]? = some (.cells #[v0, v1, v2, v3, v4, v5, v6, v7, v8, v9, v10, v11] t (0, 0)) := by
  have h0 : (w.setCell ⟨b, 0, none⟩ v0).heap[b]? = some (.cells #[v0, o1, o2, o3, o4, o5, o6, o7, o8, o9, o10, o11] t (0, 0)) := heap_setCell_same _ b 0 _ t _ k
  generalize w.setCell ⟨b, 0, none⟩ v0 = w0 at *
  have h1 : (w0.setCell ⟨b, 1, none⟩ v1).heap[b]? = some (.cells #[v0, v1, o2, o3, o4, o5, o6, o7, o8, o9, o10, o11] t (0, 0)) := heap_setCell_same _ b 1 _ t _ h0
  generalize w0.setCell ⟨b, 1, none⟩ v1 = w1 at *
  have h2 : (w1.setCell ⟨b, 2, none⟩ v2).heap[b]? = some (.cells #[v0, v1, v2, o3, o4, o5, o6, o7, o8, o9, o10, o11] t (0, 0)) := heap_setCell_same _ b 2 _ t _ h1
  generalize w1.setCell ⟨b, 2, none⟩ v2 = w2 at *
  have h3 : (w2.setCell ⟨b, 3, none⟩ v3).heap[b]? = some (.cells #[v0, v1, v2, v3, o4, o5, o6, o7, o8, o9, o10, o11] t (0, 0)) := heap_setCell_same _ b 3 _ t _ h2
  generalize w2.setCell ⟨b, 3, none⟩ v3 = w3 at *
  have h4 : (w3.setCell ⟨b, 4, none⟩ v4).heap[b]? = some (.cells #[v0, v1, v2, v3, v4, o5, o6, o7, o8, o9, o10, o11] t (0, 0)) := heap_setCell_same _ b 4 _ t _ h3
  generalize w3.setCell ⟨b, 4, none⟩ v4 = w4 at *
  have h5 : (w4.setCell ⟨b, 5, none⟩ v5).heap[b]? = some (.cells #[v0, v1, v2, v3, v4, v5, o6, o7, o8, o9, o10, o11] t (0, 0)) := heap_setCell_same _ b 5 _ t _ h4
  generalize w4.setCell ⟨b, 5, none⟩ v5 = w5 at *
  have h6 : (w5.setCell ⟨b, 6, none⟩ v6).heap[b]? = some (.cells #[v0, v1, v2, v3, v4, v5, v6, o7, o8, o9, o10, o11] t (0, 0)) := heap_setCell_same _ b 6 _ t _ h5
  generalize w5.setCell ⟨b, 6, none⟩ v6 = w6 at *
  have h7 : (w6.setCell ⟨b, 7, none⟩ v7).heap[b]? = some (.cells #[v0, v1, v2, v3, v4, v5, v6, v7, o8, o9, o10, o11] t (0, 0)) := heap_setCell_same _ b 7 _ t _ h6
  generalize w6.setCell ⟨b, 7, none⟩ v7 = w7 at *
  have h8 : (w7.setCell ⟨b, 8, none⟩ v8).heap[b]? = some (.cells #[v0, v1, v2, v3, v4, v5, v6, v7, v8, o9, o10, o11] t (0, 0)) := heap_setCell_same _ b 8 _ t _ h7
  generalize w7.setCell ⟨b, 8, none⟩ v8 = w8 at *
  have h9 : (w8.setCell ⟨b, 9, none⟩ v9).heap[b]? = some (.cells #[v0, v1, v2, v3, v4, v5, v6, v7, v8, v9, o10, o11] t (0, 0)) := heap_setCell_same _ b 9 _ t _ h8
  generalize w8.setCell ⟨b, 9, none⟩ v9 = w9 at *
  have h10 : (w9.setCell ⟨b, 10, none⟩ v10).heap[b]? = some (.cells #[v0, v1, v2, v3, v4, v5, v6, v7, v8, v9, v10, o11] t (0, 0)) := heap_setCell_same _ b 10 _ t _ h9
  generalize w9.setCell ⟨b, 10, none⟩ v10 = w10 at *
  exact heap_setCell_same _ b 11 _ t _ h10
theorem set12_grown (w : World) (b : Nat) (v0 v1 v2 v3 v4 v5 v6 v7 v8 v9 v10 v11 : Value) : w.grownBy ((((((((((((w.setCell ⟨b, 0, none⟩ v0).setCell ⟨b, 1, none⟩ v1).setCell ⟨b, 2, none⟩ v2).setCell ⟨b, 3, none⟩ v3).setCell ⟨b, 4, none⟩ v4).setCell ⟨b, 5, none⟩ v5).setCell ⟨b, 6, none⟩ v6).setCell ⟨b, 7, none⟩ v7).setCell ⟨b, 8, none⟩ v8).setCell ⟨b, 9, none⟩ v9).setCell ⟨b, 10, none⟩ v10).setCell ⟨b, 11, none⟩ v11) (some b) := grown_trans (grown_set _ _ _ _) (grown_trans (grown_set _ _ _ _) (grown_trans (grown_set _ _ _ _) (grown_trans (grown_set _ _ _ _) (grown_trans (grown_set _ _ _ _) (grown_trans (grown_set _ _ _ _) (grown_trans (grown_set _ _ _ _) (grown_trans (grown_set _ _ _ _) (grown_trans (grown_set _ _ _ _) (grown_trans (grown_set _ _ _ _) (grown_trans (grown_set _ _ _ _) (grown_set _ _ _ _)))))))))))
theorem res_attr {fn : Func} {n : Nat} (hf : fn.results = #[.cell n 34]) (tmps : Array Value) (b : Nat) (w : World) (v0 v1 v2 v3 v4 v5 v6 v7 v8 v9 v10 v11 : Value)
    (h2 : tmps[n]? = some (.pointer (some ⟨b, 0, none⟩))) (hk : w.heap[b]? = some (.cells #[v0, v1, v2, v3, v4, v5, v6, v7, v8, v9, v10, v11] 34 (0, 0))) :
    (results fn tmps).run Tryz.prog w = .ok (.agg #[v0, v1, v2, v3, v4, v5, v6, v7, v8, v9, v10, v11]) w := by
  have a1 := fun i => cell_of_row w b i _ _ (0, 0) hk
  have z0 := a1 0; have z1 := a1 1; have z2 := a1 2; have z3 := a1 3; have z4 := a1 4; have z5 := a1 5; have z6 := a1 6; have z7 := a1 7; have z8 := a1 8; have z9 := a1 9; have z10 := a1 10; have z11 := a1 11
  simp at z0 z1 z2 z3 z4 z5 z6 z7 z8 z9 z10 z11
  simp [results, hf, go_sem, h2, z0, z1, z2, z3, z4, z5, z6, z7, z8, z9, z10, z11]
set_option maxHeartbeats 8000000 in
set_option maxRecDepth 100000 in
theorem attr_step (n : Nat) (IH : CAttrs n) : CAttr (n + 1) := by
  intro f d xs v w r tb hn hf hm hd h hE
  obtain ⟨M, hM⟩ : ∃ M, M = attrL f d xs := ⟨_, rfl⟩
  rw [← hM]
  have hxl : 0 < xs.length := by obtain ⟨x, s, rfl⟩ := endL_ne hE; simp
  obtain ⟨f, rfl⟩ : ∃ f', f = f' + 1 := ⟨f - 1, by omega⟩
  rw [attrL] at hM
  have HM : Hid (M = _) := hM
  clear hM
  have hrl := h.lt
  have htl := h.tlt
  have hv0 : (w.alloc (.cells #[.string ⟨#[]⟩, .int .i64 0, .int .i64 0, .int .i64 0, .int .i64 0, .string ⟨#[]⟩, .int .u32 0, .bool false, .bool false, .slice none 0 0, .bool false, .string ⟨#[]⟩] 34)).heap[w.heap.size]? = some (.cells zero12 34 (0, 0)) := heap_alloc_new w _
  have hb0 := (Below.refl w.heap.size w).alloc (Nat.le_refl _) (.cells #[.string ⟨#[]⟩, .int .i64 0, .int .i64 0, .int .i64 0, .int .i64 0, .string ⟨#[]⟩, .int .u32 0, .bool false, .bool false, .slice none 0 0, .bool false, .string ⟨#[]⟩] 34)
  have hP0 := h.alloc (.cells #[.string ⟨#[]⟩, .int .i64 0, .int .i64 0, .int .i64 0, .int .i64 0, .string ⟨#[]⟩, .int .u32 0, .bool false, .bool false, .slice none 0 0, .bool false, .string ⟨#[]⟩] 34)
  have hg0 : w.grownBy _ (some r) := grown_of_below hb0
  clear hb0
  go_enter Tryz.func106, Tryz.ntmps106
  go_wp2_with fail
  generalize (w.alloc (.cells #[.string ⟨#[]⟩, .int .i64 0, .int .i64 0, .int .i64 0, .int .i64 0, .string ⟨#[]⟩, .int .u32 0, .bool false, .bool false, .slice none 0 0, .bool false, .string ⟨#[]⟩] 34)) = w0 at *
  refine (ptake_any r tb xs v 1 w0 hP0 hE).mono ?_
  rintro e w1 hPP
  rcases ppost_use hPP with ⟨x, s1, u, v1, e1, rfl, rfl, hP1, hg1⟩ | ⟨c, x, e1, hG, hg1⟩
  rotate_left
  · have HM4 : Hid (M = .bad c x) := by
      show M = _
      rw [HM.out, e1, PR.bind_bad]
    obtain ⟨q, p, rfl, hq⟩ := hG
    refine ⟨rfl, ?_⟩
    rw [HM4.out]
    exact ⟨gup_mono ⟨q, p, rfl, hq⟩ hg0.size, grown_trans hg0 hg1⟩
  have hL1 := take_left hE (by decide) _ _ e1
  have HM1 : Hid (M = _) := HM.out.trans (by rw [e1, PR.bind_ok])
  have hv1 := (hg1.block _ (heap_lt hv0) (fun e => by cases e; omega)).trans hv0
  have hg2 := grown_trans hg0 hg1
  clear hPP HM e1 hg0 hg1 hP0 hv0 hE
  unfold tzV tzC
  go_wp2_with fail
  have hb3 := ((Below.refl w1.heap.size w1).alloc (Nat.le_refl _) (.cells #[.int .i64 x.z.kind, .int .i64 x.o, .int .i64 x.l, .int .i64 x.c, .string ⟨x.z.text.toArray⟩, .int .u32 (x.z.val : Int), .bool x.z.hex] 57)).alloc (by simp) (.cells #[.string ⟨x.z.text.toArray⟩, .int .i64 x.o, .int .i64 x.l, .int .i64 x.c, .int .i64 0, .string ⟨#[]⟩, .int .u32 0, .bool false, .bool false, .slice none 0 0, .bool false, .string ⟨#[]⟩] 34)
  have hv3 := (hb3.block _ (heap_lt hv1)).trans hv1
  have hP3 := hP1.below hb3
  have ha3 : ((w1.alloc (.cells #[.int .i64 x.z.kind, .int .i64 x.o, .int .i64 x.l, .int .i64 x.c, .string ⟨x.z.text.toArray⟩, .int .u32 (x.z.val : Int), .bool x.z.hex] 57)).alloc (.cells #[.string ⟨x.z.text.toArray⟩, .int .i64 x.o, .int .i64 x.l, .int .i64 x.c, .int .i64 0, .string ⟨#[]⟩, .int .u32 0, .bool false, .bool false, .slice none 0 0, .bool false, .string ⟨#[]⟩] 34)).heap[w1.heap.size + 1]? = some (.cells #[.string ⟨x.z.text.toArray⟩, .int .i64 x.o, .int .i64 x.l, .int .i64 x.c, .int .i64 0, .string ⟨#[]⟩, .int .u32 0, .bool false, .bool false, .slice none 0 0, .bool false, .string ⟨#[]⟩] 34 (0, 0)) := heap2_1' w1 _ _
  have hg3 := grown_trans hg2 (grown_of_below (r := some r) hb3)
  have hba : w.heap.size < w1.heap.size + 1 := by have := heap_lt hv1; omega
  clear hb3 hv1 hP1 hg2
  generalize ((w1.alloc (.cells #[.int .i64 x.z.kind, .int .i64 x.o, .int .i64 x.l, .int .i64 x.c, .string ⟨x.z.text.toArray⟩, .int .u32 (x.z.val : Int), .bool x.z.hex] 57)).alloc (.cells #[.string ⟨x.z.text.toArray⟩, .int .i64 x.o, .int .i64 x.l, .int .i64 x.c, .int .i64 0, .string ⟨#[]⟩, .int .u32 0, .bool false, .bool false, .slice none 0 0, .bool false, .string ⟨#[]⟩] 34)) = w3 at *
  generalize w1.heap.size + 1 = ba at *
  refine (ptake_any r tb s1 v1 6 w3 hP3 hL1.1).mono ?_
  rintro e w4 hPP
  rcases ppost_use hPP with ⟨x6, s2, u, v2, e1, rfl, rfl, hP4, hg4⟩ | ⟨c, x9, e1, hG, hg9⟩
  rotate_left
  · have HM4 : Hid (M = .bad c x9) := by
      show M = _
      rw [HM1.out, e1, PR.bind_bad]
    obtain ⟨q, p, rfl, hq⟩ := hG
    refine ⟨rfl, ?_⟩
    rw [HM4.out]
    exact ⟨gup_mono ⟨q, p, rfl, hq⟩ hg3.size, grown_trans hg3 hg9⟩
  have hL2 := take_left hL1.1 (by decide) _ _ e1
  have HM2 : Hid (M = _) := HM1.out.trans (by rw [e1, PR.bind_ok])
  have hv4 := (hg4.block _ (heap_lt hv3) (fun e => by cases e; omega)).trans hv3
  have ha4 := (hg4.block _ (heap_lt ha3) (fun e => by cases e; omega)).trans ha3
  have hg5 := grown_trans hg3 hg4
  clear hPP HM1 e1 hg3 hg4 hP3 hv3 ha3
  unfold tzV tzC
  go_wp2_with fail
  refine (pvalue_any r tb s2 v2 w4 hP4 hL2.1).mono ?_
  rintro e w5 hPP
  rcases ppost_use hPP with ⟨⟨vk, vt, vn, vh⟩, s3, u, v3, e1, rfl, rfl, hP5, hg6⟩ | ⟨c, x9, e1, hG, hg9⟩
  rotate_left
  · have HM4 : Hid (M = .bad c x9) := by
      show M = _
      rw [HM2.out, e1, PR.bind_bad]
    obtain ⟨q, p, rfl, hq⟩ := hG
    refine ⟨rfl, ?_⟩
    rw [HM4.out]
    exact ⟨gup_mono ⟨q, p, rfl, hq⟩ hg5.size, grown_trans hg5 hg9⟩
  have hL3 := value_left hL2.1 _ _ e1
  have HM3 : Hid (M = _) := HM2.out.trans (by rw [e1, PR.bind_ok])
  have hv5 := (hg6.block _ (heap_lt hv4) (fun e => by cases e; omega)).trans hv4
  have ha5 := (hg6.block _ (heap_lt ha4) (fun e => by cases e; omega)).trans ha4
  have hg7 := grown_trans hg5 hg6
  obtain ⟨⟨_, _, _, _, y4, y5, y6, y7, _, _, _, _⟩, fy⟩ := var12 ha5
  clear hPP HM2 e1 hg5 hg6 hP4 hv4 ha4
  unfold vlV
  go_wp2_with fail
  have ha6 := setVal_at w5 ba _ _ _ _ _ _ _ _ _ _ _ _ _ (.int .i64 vk) (.string ⟨vt.toArray⟩) (.int .u32 (vn : Int)) (.bool vh) ha5
  have hgs := setVal_grown w5 ba (.int .i64 vk) (.string ⟨vt.toArray⟩) (.int .u32 (vn : Int)) (.bool vh)
  have hv6 := (hgs.block _ (heap_lt hv5) (fun e => by cases e; omega)).trans hv5
  have hP6 := hP5.grown hgs (by omega) (by omega)
  have hg8 := grown_new hg7 hgs (by omega)
  clear ha5 hgs hv5 hP5 hg7 y4 y5 y6 y7 fy
  generalize ((((w5.setCell ⟨ba, 4, none⟩ (.int .i64 vk)).setCell ⟨ba, 5, none⟩ (.string ⟨vt.toArray⟩)).setCell ⟨ba, 6, none⟩ (.int .u32 (vn : Int))).setCell ⟨ba, 7, none⟩ (.bool vh)) = w6 at *
  have cc := pcomes_list r tb s3 v3 4 w6 hP6 hL3.1
  cases hC : comesL 4 s3 with
  | false =>
    rw [hC] at cc
    have HMT : Hid (M = _) := HM3.out.trans (by rw [hC, if_neg (by decide), PR.bind_ok])
    refine cc.mono ?_
    rintro e wq ⟨rfl, rfl⟩
    have hAT : AttrsAt w6 (fun g => w6.heap.size ≤ g) (.slice none 0 0) [] := .nil
    have hbT := heap_lt ha6
    obtain ⟨bnd, hbnd⟩ : ∃ b, b = w6.heap.size := ⟨_, rfl⟩
    rw [← hbnd] at hAT hbT
    have hbr : r < bnd := by rw [hbnd]; exact hP6.lt
    have hPT := hP6
    have hET := hL3.1
    have hgT := hg8
    have haT := ha6
    have hvT := hv6
    clear hC cc HM3 hbnd hP6 hg8 ha6 hv6
    go_wp2_with fail
    refine (pnote_any r tb s3 v3 w6 hPT hET).mono ?_
    rintro e wU hPP
    rcases ppost_use hPP with ⟨nt, s5, u, vU, e1, rfl, rfl, hPU, hgU⟩ | ⟨c, x9, e1, hG, hg9⟩
    rotate_left
    · have HM4 : Hid (M = .bad c x9) := by
        show M = _
        rw [HMT.out, e1, PR.bind_bad]
      obtain ⟨q, p, rfl, hq⟩ := hG
      refine ⟨rfl, ?_⟩
      rw [HM4.out]
      exact ⟨gup_mono ⟨q, p, rfl, hq⟩ hgT.size, grown_trans hgT hg9⟩
    have hL5 := note_left hET _ _ e1
    have HMU : Hid (M = _) := HMT.out.trans (by rw [e1, PR.bind_ok])
    have haU := (hgU.block _ (heap_lt haT) (fun e => by cases e; omega)).trans haT
    have hvU := (hgU.block _ (heap_lt hvT) (fun e => by cases e; omega)).trans hvT
    have hAU := attrsAt_grown hgU (fun hF => by omega) hAT
    have hgV := grown_trans hgT hgU
    obtain ⟨⟨_, _, _, _, _, _, _, _, _, _, y10, y11⟩, fy⟩ := var12 haU
    clear hPP HMT e1 hgU haT hvT hAT hPT hET hgT
    go_wp2_with fail
    have haX := setNote_at wU ba _ _ _ _ _ _ _ _ _ _ _ _ _ (.bool (noteB nt)) (.string ⟨(noteT nt).toArray⟩) haU
    have hgX := setNote_grown wU ba (.bool (noteB nt)) (.string ⟨(noteT nt).toArray⟩)
    have hvX := (hgX.block _ (heap_lt hvU) (fun e => by cases e; omega)).trans hvU
    have hAX := attrsAt_grown hgX (fun hF => by omega) hAU
    have hPX := hPU.grown hgX (by omega) (by omega)
    have hgY := grown_new hgV hgX (by omega)
    clear haU hgX hvU hAU hPU hgV y10 y11 fy
    generalize ((wU.setCell ⟨ba, 10, none⟩ (.bool (noteB nt))).setCell ⟨ba, 11, none⟩ (.string ⟨(noteT nt).toArray⟩)) = wX at *
    refine (ptake_any r tb s5 vU 7 wX hPX hL5.1).mono ?_
    rintro e wZ hPP
    rcases ppost_use hPP with ⟨x7, s6, u, vZ, e1, rfl, rfl, hPZ, hgZ⟩ | ⟨c, x9, e1, hG, hg9⟩
    rotate_left
    · have HM4 : Hid (M = .bad c x9) := by
        show M = _
        rw [HMU.out, e1, PR.bind_bad]
      obtain ⟨q, p, rfl, hq⟩ := hG
      refine ⟨rfl, ?_⟩
      rw [HM4.out]
      exact ⟨gup_mono ⟨q, p, rfl, hq⟩ hgY.size, grown_trans hgY hg9⟩
    have HMZ : Hid (M = .ok (.mk x.z.text x.o x.l x.c ⟨vk, vt, vn, vh⟩ false [] (noteB nt) (noteT nt)) s6) := HMU.out.trans (by rw [e1, PR.bind_ok])
    have haZ := (hgZ.block _ (heap_lt haX) (fun e => by cases e; omega)).trans haX
    have hvZ := (hgZ.block _ (heap_lt hvX) (fun e => by cases e; omega)).trans hvX
    have hAZ := attrsAt_grown hgZ (fun hF => by omega) hAX
    have hgE := grown_trans hgY hgZ
    obtain ⟨⟨y0, y1, y2, y3, y4, y5, y6, y7, y8, y9, y10, y11⟩, fy⟩ := var12 haZ
    obtain ⟨⟨z0, z1, z2, z3, z4, z5, z6, z7, z8, z9, z10, z11⟩, fz⟩ := var12 hvZ
    have g12 := set12_grown wZ w.heap.size (.string ⟨x.z.text.toArray⟩) (.int .i64 x.o) (.int .i64 x.l) (.int .i64 x.c) (.int .i64 vk) (.string ⟨vt.toArray⟩) (.int .u32 (vn : Int)) (.bool vh) (.bool false) (.slice none 0 0) (.bool (noteB nt)) (.string ⟨(noteT nt).toArray⟩)
    clear hPP HMU e1 hgZ haX hvX hAX hPX hL5 hgY haZ
    unfold tzV tzC
    go_wp2
    rw [HMZ.out]
    refine bodyPost_ret (v := .agg (atC (.mk x.z.text x.o x.l x.c ⟨vk, vt, vn, vh⟩ false [] (noteB nt) (noteT nt)) (.slice none 0 0))) (res_attr Tryz.results106 _ w.heap.size _ _ _ _ _ _ _ _ _ _ _ _ _ rfl (set12_at _ _ _ _ _ _ _ _ _ _ _ _ _ _ _ _ _ _ _ _ _ _ _ _ _ _ _ hvZ)) rfl ⟨_, _, rfl, ⟨_, rfl, ?_⟩, hPZ.grown g12 (by omega) (by omega), grown_new hgE g12 (Nat.le_refl _)⟩
    exact attrsAt_mono (fun g hF => by omega) (attrsAt_grown g12 (fun hF => by omega) hAZ)
  | true =>
    rw [hC] at cc
    have hC' := hC
    obtain ⟨x4, t4, rfl⟩ := endL_ne hL3.1
    obtain ⟨⟨_, _, _, _, _, _, _, _, y8, _, _, _⟩, fy⟩ := var12 ha6
    by_cases hd4 : d = 4
    · have HMT : Hid (M = .bad 31 x4) := HM3.out.trans (by rw [hC, if_pos rfl, if_pos hd4, PR.bind_bad]; rfl)
      have hd' : ((d : Int) == 4) = true := by rw [hd4]; rfl
      have cg := giveUp_any r tb x4 t4 v3 31 w6 hP6
      clear hC hC' HM3 hd4
      refine cc.mono ?_
      rintro e wq ⟨rfl, rfl⟩
      go_wp2_with fail
      refine cg.mono ?_
      rintro e w9 ⟨hG, hb9⟩
      obtain ⟨q, p, rfl, hq⟩ := hG
      refine ⟨rfl, ?_⟩
      rw [HMT.out]
      exact ⟨gup_mono ⟨q, p, rfl, hq⟩ hg8.size, grown_trans hg8 (grown_of_below hb9)⟩
    · have HM4 : Hid (M = _) := HM3.out.trans (by rw [hC, if_pos rfl, if_neg hd4])
      have hd' : ((d : Int) == 4) = false := by rw [beq_eq_false_iff_ne]; omega
      have hd5 : d + 1 ≤ 4 := by omega
      clear hC hC' HM3 hd4
      refine cc.mono ?_
      rintro e wq ⟨rfl, rfl⟩
      go_wp2_with fail
      have ha7 : (w6.setCell ⟨ba, 8, none⟩ (.bool true)).heap[ba]? = some (.cells #[.string ⟨x.z.text.toArray⟩, .int .i64 x.o, .int .i64 x.l, .int .i64 x.c, .int .i64 vk, .string ⟨vt.toArray⟩, .int .u32 (vn : Int), .bool vh, .bool true, .slice none 0 0, .bool false, .string ⟨#[]⟩] 34 (0, 0)) := heap_setCell_same w6 ba 8 _ _ _ ha6
      have hgs := grown_set w6 ba 8 (.bool true)
      have hv7 := (hgs.block _ (heap_lt hv6) (fun e => by cases e; omega)).trans hv6
      have hP7 := hP6.grown hgs (by omega) (by omega)
      have hg9 := grown_new hg8 hgs (by omega)
      clear hgs ha6 hv6 hP6 hg8 cc y8 fy
      generalize (w6.setCell ⟨ba, 8, none⟩ (.bool true)) = w7 at *
      have ca := IH f (d + 1) (x4 :: t4) v3 w7 r tb (by omega) (by omega) (by omega) hd5 hP7 hL3.1
      have hLA := (attrs_left f).2.1 (d + 1) (x4 :: t4) hL3.1
      have hbT := heap_lt ha7
      have hbr := hP7.lt
      refine ca.mono ?_
      rintro e w8 hPP
      rcases ppost_use hPP with ⟨aps, s4, u, vT, e1, rfl, hAu, hP8, hgu⟩ | ⟨c, x9, e1, hG, hgu⟩
      rotate_left
      · have HM5 : Hid (M = .bad c x9) := by
          show M = _
          rw [HM4.out, e1, PR.bind_bad, PR.bind_bad]
        obtain ⟨q, p, rfl, hq⟩ := hG
        refine ⟨rfl, ?_⟩
        rw [HM5.out]
        exact ⟨gup_mono ⟨q, p, rfl, hq⟩ hg9.size, grown_trans hg9 hgu⟩
      have hET := (hLA _ _ e1).1
      have HMT : Hid (M = _) := HM4.out.trans (by rw [e1, PR.bind_ok, PR.bind_ok])
      have hA8 : AttrsAt w8 (fun g => w7.heap.size ≤ g) u aps := hAu
      obtain ⟨pa, pn, pc, rfl⟩ := attrsAt_shape hA8
      have ha8 := (hgu.block _ (heap_lt ha7) (fun e => by cases e; omega)).trans ha7
      have hv8 := (hgu.block _ (heap_lt hv7) (fun e => by cases e; omega)).trans hv7
      have hgw := grown_trans hg9 hgu
      obtain ⟨⟨_, _, _, _, _, _, _, _, _, y9, _, _⟩, fy⟩ := var12 ha8
      generalize w7.heap.size = bnd at *
      clear hPP HM4 e1 hAu hLA ca ha7 hv7 hg9 hgu hP7
      go_wp2_with fail
      have haT : (w8.setCell ⟨ba, 9, none⟩ (.slice pa pn pc)).heap[ba]? = some (.cells #[.string ⟨x.z.text.toArray⟩, .int .i64 x.o, .int .i64 x.l, .int .i64 x.c, .int .i64 vk, .string ⟨vt.toArray⟩, .int .u32 (vn : Int), .bool vh, .bool true, .slice pa pn pc, .bool false, .string ⟨#[]⟩] 34 (0, 0)) := heap_setCell_same w8 ba 9 _ _ _ ha8
      have hgs := grown_set w8 ba 9 (.slice pa pn pc)
      have hvT := (hgs.block _ (heap_lt hv8) (fun e => by cases e; omega)).trans hv8
      have hPT := hP8.grown hgs (by omega) (by omega)
      have hgT := grown_new hgw hgs (by omega)
      have hAT := attrsAt_grown hgs (fun hF => by omega) hA8
      clear hgs ha8 hv8 hP8 hgw hA8 y9 fy
      generalize (w8.setCell ⟨ba, 9, none⟩ (.slice pa pn pc)) = wT at *
      refine (pnote_any r tb s4 vT wT hPT hET).mono ?_
      rintro e wU hPP
      rcases ppost_use hPP with ⟨nt, s5, u, vU, e1, rfl, rfl, hPU, hgU⟩ | ⟨c, x9, e1, hG, hg9⟩
      rotate_left
      · have HM4 : Hid (M = .bad c x9) := by
          show M = _
          rw [HMT.out, e1, PR.bind_bad]
        obtain ⟨q, p, rfl, hq⟩ := hG
        refine ⟨rfl, ?_⟩
        rw [HM4.out]
        exact ⟨gup_mono ⟨q, p, rfl, hq⟩ hgT.size, grown_trans hgT hg9⟩
      have hL5 := note_left hET _ _ e1
      have HMU : Hid (M = _) := HMT.out.trans (by rw [e1, PR.bind_ok])
      have haU := (hgU.block _ (heap_lt haT) (fun e => by cases e; omega)).trans haT
      have hvU := (hgU.block _ (heap_lt hvT) (fun e => by cases e; omega)).trans hvT
      have hAU := attrsAt_grown hgU (fun hF => by omega) hAT
      have hgV := grown_trans hgT hgU
      obtain ⟨⟨_, _, _, _, _, _, _, _, _, _, y10, y11⟩, fy⟩ := var12 haU
      clear hPP HMT e1 hgU haT hvT hAT hPT hET hgT
      go_wp2_with fail
      have haX := setNote_at wU ba _ _ _ _ _ _ _ _ _ _ _ _ _ (.bool (noteB nt)) (.string ⟨(noteT nt).toArray⟩) haU
      have hgX := setNote_grown wU ba (.bool (noteB nt)) (.string ⟨(noteT nt).toArray⟩)
      have hvX := (hgX.block _ (heap_lt hvU) (fun e => by cases e; omega)).trans hvU
      have hAX := attrsAt_grown hgX (fun hF => by omega) hAU
      have hPX := hPU.grown hgX (by omega) (by omega)
      have hgY := grown_new hgV hgX (by omega)
      clear haU hgX hvU hAU hPU hgV y10 y11 fy
      generalize ((wU.setCell ⟨ba, 10, none⟩ (.bool (noteB nt))).setCell ⟨ba, 11, none⟩ (.string ⟨(noteT nt).toArray⟩)) = wX at *
      refine (ptake_any r tb s5 vU 7 wX hPX hL5.1).mono ?_
      rintro e wZ hPP
      rcases ppost_use hPP with ⟨x7, s6, u, vZ, e1, rfl, rfl, hPZ, hgZ⟩ | ⟨c, x9, e1, hG, hg9⟩
      rotate_left
      · have HM4 : Hid (M = .bad c x9) := by
          show M = _
          rw [HMU.out, e1, PR.bind_bad]
        obtain ⟨q, p, rfl, hq⟩ := hG
        refine ⟨rfl, ?_⟩
        rw [HM4.out]
        exact ⟨gup_mono ⟨q, p, rfl, hq⟩ hgY.size, grown_trans hgY hg9⟩
      have HMZ : Hid (M = .ok (.mk x.z.text x.o x.l x.c ⟨vk, vt, vn, vh⟩ true aps (noteB nt) (noteT nt)) s6) := HMU.out.trans (by rw [e1, PR.bind_ok])
      have haZ := (hgZ.block _ (heap_lt haX) (fun e => by cases e; omega)).trans haX
      have hvZ := (hgZ.block _ (heap_lt hvX) (fun e => by cases e; omega)).trans hvX
      have hAZ := attrsAt_grown hgZ (fun hF => by omega) hAX
      have hgE := grown_trans hgY hgZ
      obtain ⟨⟨y0, y1, y2, y3, y4, y5, y6, y7, y8, y9, y10, y11⟩, fy⟩ := var12 haZ
      obtain ⟨⟨z0, z1, z2, z3, z4, z5, z6, z7, z8, z9, z10, z11⟩, fz⟩ := var12 hvZ
      have g12 := set12_grown wZ w.heap.size (.string ⟨x.z.text.toArray⟩) (.int .i64 x.o) (.int .i64 x.l) (.int .i64 x.c) (.int .i64 vk) (.string ⟨vt.toArray⟩) (.int .u32 (vn : Int)) (.bool vh) (.bool true) (.slice pa pn pc) (.bool (noteB nt)) (.string ⟨(noteT nt).toArray⟩)
      clear hPP HMU e1 hgZ haX hvX hAX hPX hL5 hgY haZ
      unfold tzV tzC
      go_wp2
      rw [HMZ.out]
      refine bodyPost_ret (v := .agg (atC (.mk x.z.text x.o x.l x.c ⟨vk, vt, vn, vh⟩ true aps (noteB nt) (noteT nt)) (.slice pa pn pc))) (res_attr Tryz.results106 _ w.heap.size _ _ _ _ _ _ _ _ _ _ _ _ _ rfl (set12_at _ _ _ _ _ _ _ _ _ _ _ _ _ _ _ _ _ _ _ _ _ _ _ _ _ _ _ hvZ)) rfl ⟨_, _, rfl, ⟨_, rfl, ?_⟩, hPZ.grown g12 (by omega) (by omega), grown_new hgE g12 (Nat.le_refl _)⟩
      exact attrsAt_mono (fun g hF => by omega) (attrsAt_grown g12 (fun hF => by omega) hAZ)
end Go.Proofs.YtlbgppijeoonjaaGreatDoor

namespace Go.Proofs.YtlbgppijeoonjaaGreatDoor
open Go.RowKit
set_option linter.unusedVariables false

theorem attr_all (n : Nat) : CAttr n ∧ CAttrs n := by
  induction n with
  | zero =>
    constructor
    · intro f d xs v w r tb hn _ _ _ _ hE
      obtain ⟨x, s, rfl⟩ := endL_ne hE
      simp at hn
    · intro f d xs v w r tb hn _ _ _ _ hE
      obtain ⟨x, s, rfl⟩ := endL_ne hE
      simp at hn
  | succ n ih => exact ⟨attr_step n ih.2, attrs_step n ih.1⟩
theorem pattrs_any (f d : Nat) (xs : List Tp) (v : Value) (w : World) (r tb : Nat) (hf : 2 * xs.length ≤ f) (hm : xs.length ≤ 262145) (hd : d ≤ 4) (h : Pa w r tb xs v) (hE : EndL xs) :
    Calls Tryz.prog 88 #[.pointer (some ⟨r, 0, none⟩), .int .i64 (d : Int)] w fun e w' => PPost w r tb (VAttrs w.heap.size) (attrsL f d xs) e w' :=
  (attr_all xs.length).2 f d xs v w r tb (Nat.le_refl _) hf hm hd h hE
def obC (o : Ob) (pv : Value) : Array Value := #[.string ⟨o.kind.toArray⟩, .string ⟨o.name.toArray⟩, .int .i64 o.o, .int .i64 o.l, .int .i64 o.c, pv, .bool o.noted, .string ⟨o.note.toArray⟩]
def VOb (base : Nat) (o : Ob) (u : Value) (w' : World) : Prop := ∃ pv, u = .agg (obC o pv) ∧ AttrsAt w' (fun g => base ≤ g) pv o.attrs
theorem var8 {w : World} {b : Nat} {v0 v1 v2 v3 v4 v5 v6 v7 : Value} {t : TypeId} (h : w.heap[b]? = some (.cells #[v0, v1, v2, v3, v4, v5, v6, v7] t (0, 0))) :
    (w.cell? ⟨b, 0, none⟩ = some v0 ∧ w.cell? ⟨b, 1, none⟩ = some v1 ∧ w.cell? ⟨b, 2, none⟩ = some v2 ∧ w.cell? ⟨b, 3, none⟩ = some v3 ∧ w.cell? ⟨b, 4, none⟩ = some v4 ∧ w.cell? ⟨b, 5, none⟩ = some v5 ∧ w.cell? ⟨b, 6, none⟩ = some v6 ∧ w.cell? ⟨b, 7, none⟩ = some v7) ∧ ∀ i, w.frozen? ⟨b, i, none⟩ = false := by
  have a1 := fun i => cell_of_row w b i _ _ (0, 0) h
  exact ⟨⟨a1 0, a1 1, a1 2, a1 3, a1 4, a1 5, a1 6, a1 7⟩, fun i => frozen_of_row w b i _ _ h⟩
theorem setNote8_at (w : World) (b : Nat) (t : TypeId) (o0 o1 o2 o3 o4 o5 o6 o7 v6 v7 : Value) (k : w.heap[b]? = some (.cells #[o0, o1, o2, o3, o4, o5, o6, o7] t (0, 0))) :
    ((w.setCell ⟨b, 6, none⟩ v6).setCell ⟨b, 7, none⟩ v7).heap[b]? = some (.cells #[o0, o1, o2, o3, o4, o5, v6, v7] t (0, 0)) := by
  have h0 : (w.setCell ⟨b, 6, none⟩ v6).heap[b]? = some (.cells #[o0, o1, o2, o3, o4, o5, v6, o7] t (0, 0)) := heap_setCell_same _ b 6 _ t _ k
  generalize w.setCell ⟨b, 6, none⟩ v6 = w0 at *
  exact heap_setCell_same _ b 7 _ t _ h0
theorem setNote8_grown (w : World) (b : Nat) (v6 v7 : Value) : w.grownBy ((w.setCell ⟨b, 6, none⟩ v6).setCell ⟨b, 7, none⟩ v7) (some b) := grown_trans (grown_set _ _ _ _) (grown_set _ _ _ _)
theorem set8_at (w : World) (b : Nat) (t : TypeId) (o0 o1 o2 o3 o4 o5 o6 o7 v0 v1 v2 v3 v4 v5 v6 v7 : Value) (k : w.heap[b]? = some (.cells #[o0, o1, o2, o3, o4, o5, o6, o7] t (0, 0))) :
    ((((((((w.setCell ⟨b, 0, none⟩ v0).setCell ⟨b, 1, none⟩ v1).setCell ⟨b, 2, none⟩ v2).setCell ⟨b, 3, none⟩ v3).setCell ⟨b, 4, none⟩ v4).setCell ⟨b, 5, none⟩ v5).setCell ⟨b, 6, none⟩ v6).setCell ⟨b, 7, none⟩ v7).heap[b]? = some (.cells #[v0, v1, v2, v3, v4, v5, v6, v7] t (0, 0)) := by
  have h0 : (w.setCell ⟨b, 0, none⟩ v0).heap[b]? = some (.cells #[v0, o1, o2, o3, o4, o5, o6, o7] t (0, 0)) := heap_setCell_same _ b 0 _ t _ k
  generalize w.setCell ⟨b, 0, none⟩ v0 = w0 at *
  have h1 : (w0.setCell ⟨b, 1, none⟩ v1).heap[b]? = some (.cells #[v0, v1, o2, o3, o4, o5, o6, o7] t (0, 0)) := heap_setCell_same _ b 1 _ t _ h0
  generalize w0.setCell ⟨b, 1, none⟩ v1 = w1 at *
  have h2 : (w1.setCell ⟨b, 2, none⟩ v2).heap[b]? = some (.cells #[v0, v1, v2, o3, o4, o5, o6, o7] t (0, 0)) := heap_setCell_same _ b 2 _ t _ h1
  generalize w1.setCell ⟨b, 2, none⟩ v2 = w2 at *
  have h3 : (w2.setCell ⟨b, 3, none⟩ v3).heap[b]? = some (.cells #[v0, v1, v2, v3, o4, o5, o6, o7] t (0, 0)) := heap_setCell_same _ b 3 _ t _ h2
  generalize w2.setCell ⟨b, 3, none⟩ v3 = w3 at *
  have h4 : (w3.setCell ⟨b, 4, none⟩ v4).heap[b]? = some (.cells #[v0, v1, v2, v3, v4, o5, o6, o7] t (0, 0)) := heap_setCell_same _ b 4 _ t _ h3
  generalize w3.setCell ⟨b, 4, none⟩ v4 = w4 at *
  have h5 : (w4.setCell ⟨b, 5, none⟩ v5).heap[b]? = some (.cells #[v0, v1, v2, v3, v4, v5, o6, o7] t (0, 0)) := heap_setCell_same _ b 5 _ t _ h4
  generalize w4.setCell ⟨b, 5, none⟩ v5 = w5 at *
  have h6 : (w5.setCell ⟨b, 6, none⟩ v6).heap[b]? = some (.cells #[v0, v1, v2, v3, v4, v5, v6, o7] t (0, 0)) := heap_setCell_same _ b 6 _ t _ h5
  generalize w5.setCell ⟨b, 6, none⟩ v6 = w6 at *
  exact heap_setCell_same _ b 7 _ t _ h6
theorem set8_grown (w : World) (b : Nat) (v0 v1 v2 v3 v4 v5 v6 v7 : Value) : w.grownBy ((((((((w.setCell ⟨b, 0, none⟩ v0).setCell ⟨b, 1, none⟩ v1).setCell ⟨b, 2, none⟩ v2).setCell ⟨b, 3, none⟩ v3).setCell ⟨b, 4, none⟩ v4).setCell ⟨b, 5, none⟩ v5).setCell ⟨b, 6, none⟩ v6).setCell ⟨b, 7, none⟩ v7) (some b) := grown_trans (grown_set _ _ _ _) (grown_trans (grown_set _ _ _ _) (grown_trans (grown_set _ _ _ _) (grown_trans (grown_set _ _ _ _) (grown_trans (grown_set _ _ _ _) (grown_trans (grown_set _ _ _ _) (grown_trans (grown_set _ _ _ _) (grown_set _ _ _ _)))))))
theorem res_obj {fn : Func} {n : Nat} (hf : fn.results = #[.cell n 71]) (tmps : Array Value) (b : Nat) (w : World) (v0 v1 v2 v3 v4 v5 v6 v7 : Value)
    (h2 : tmps[n]? = some (.pointer (some ⟨b, 0, none⟩))) (hk : w.heap[b]? = some (.cells #[v0, v1, v2, v3, v4, v5, v6, v7] 71 (0, 0))) :
    (results fn tmps).run Tryz.prog w = .ok (.agg #[v0, v1, v2, v3, v4, v5, v6, v7]) w := by
  have a1 := fun i => cell_of_row w b i _ _ (0, 0) hk
  have z0 := a1 0; have z1 := a1 1; have z2 := a1 2; have z3 := a1 3; have z4 := a1 4; have z5 := a1 5; have z6 := a1 6; have z7 := a1 7
  simp at z0 z1 z2 z3 z4 z5 z6 z7
  simp [results, hf, go_sem, h2, z0, z1, z2, z3, z4, z5, z6, z7]
set_option maxHeartbeats 8000000 in
set_option maxRecDepth 100000 in
theorem pobject_any (f : Nat) (xs : List Tp) (v : Value) (w : World) (r tb : Nat) (hf : 2 * xs.length ≤ f) (hm : xs.length ≤ 262145) (h : Pa w r tb xs v) (hE : EndL xs) :
    Calls Tryz.prog 69 #[.pointer (some ⟨r, 0, none⟩)] w fun e w' => PPost w r tb (VOb w.heap.size) (objectL f xs) e w' := by
  obtain ⟨M, hM⟩ : ∃ M, M = objectL f xs := ⟨_, rfl⟩
  rw [← hM]
  unfold objectL at hM
  have HM : Hid (M = _) := hM
  clear hM
  have hrl := h.lt
  have htl := h.tlt
  have hfl := fld_text
  have hv0 : (w.alloc (.cells #[.string ⟨#[]⟩, .string ⟨#[]⟩, .int .i64 0, .int .i64 0, .int .i64 0, .slice none 0 0, .bool false, .string ⟨#[]⟩] 71)).heap[w.heap.size]? = some (.cells #[.string ⟨#[]⟩, .string ⟨#[]⟩, .int .i64 0, .int .i64 0, .int .i64 0, .slice none 0 0, .bool false, .string ⟨#[]⟩] 71 (0, 0)) := heap_alloc_new w _
  have hb0 := (Below.refl w.heap.size w).alloc (Nat.le_refl _) (.cells #[.string ⟨#[]⟩, .string ⟨#[]⟩, .int .i64 0, .int .i64 0, .int .i64 0, .slice none 0 0, .bool false, .string ⟨#[]⟩] 71)
  have hP0 := h.alloc (.cells #[.string ⟨#[]⟩, .string ⟨#[]⟩, .int .i64 0, .int .i64 0, .int .i64 0, .slice none 0 0, .bool false, .string ⟨#[]⟩] 71)
  have hg0 : w.grownBy _ (some r) := grown_of_below hb0
  clear hb0
  go_enter Tryz.func69, Tryz.ntmps69
  go_wp2_with fail
  generalize (w.alloc (.cells #[.string ⟨#[]⟩, .string ⟨#[]⟩, .int .i64 0, .int .i64 0, .int .i64 0, .slice none 0 0, .bool false, .string ⟨#[]⟩] 71)) = w0 at *
  refine (ptake_any r tb xs v 1 w0 hP0 hE).mono ?_
  rintro e w1 hPP
  rcases ppost_use hPP with ⟨x, s1, u, v1, e1, rfl, rfl, hP1, hg1⟩ | ⟨c, x9, e1, hG, hg9⟩
  rotate_left
  · have HM4 : Hid (M = .bad c x9) := by
      show M = _
      rw [HM.out, e1, PR.bind_bad]
    obtain ⟨q, p, rfl, hq⟩ := hG
    refine ⟨rfl, ?_⟩
    rw [HM4.out]
    exact ⟨gup_mono ⟨q, p, rfl, hq⟩ hg0.size, grown_trans hg0 hg9⟩
  have hL1 := take_left hE (by decide) _ _ e1
  have HM1 : Hid (M = _) := HM.out.trans (by rw [e1, PR.bind_ok])
  have hv1 := (hg1.block _ (heap_lt hv0) (fun e => by cases e; omega)).trans hv0
  have hg2 := grown_trans hg0 hg1
  clear hPP HM e1 hg0 hg1 hP0 hv0 hE
  unfold tzV tzC
  go_wp2_with fail
  have hb3 := ((Below.refl w1.heap.size w1).alloc (Nat.le_refl _) (.cells #[.int .i64 x.z.kind, .int .i64 x.o, .int .i64 x.l, .int .i64 x.c, .string ⟨x.z.text.toArray⟩, .int .u32 (x.z.val : Int), .bool x.z.hex] 57)).alloc (by simp) (.cells #[.string ⟨x.z.text.toArray⟩, .string ⟨#[]⟩, .int .i64 x.o, .int .i64 x.l, .int .i64 x.c, .slice none 0 0, .bool false, .string ⟨#[]⟩] 71)
  have hv3 := (hb3.block _ (heap_lt hv1)).trans hv1
  have hP3 := hP1.below hb3
  have ha3 : ((w1.alloc (.cells #[.int .i64 x.z.kind, .int .i64 x.o, .int .i64 x.l, .int .i64 x.c, .string ⟨x.z.text.toArray⟩, .int .u32 (x.z.val : Int), .bool x.z.hex] 57)).alloc (.cells #[.string ⟨x.z.text.toArray⟩, .string ⟨#[]⟩, .int .i64 x.o, .int .i64 x.l, .int .i64 x.c, .slice none 0 0, .bool false, .string ⟨#[]⟩] 71)).heap[w1.heap.size + 1]? = some (.cells #[.string ⟨x.z.text.toArray⟩, .string ⟨#[]⟩, .int .i64 x.o, .int .i64 x.l, .int .i64 x.c, .slice none 0 0, .bool false, .string ⟨#[]⟩] 71 (0, 0)) := heap2_1' w1 _ _
  have hg3 := grown_trans hg2 (grown_of_below (r := some r) hb3)
  have hba : w.heap.size < w1.heap.size + 1 := by have := heap_lt hv1; omega
  clear hb3 hv1 hP1 hg2
  generalize ((w1.alloc (.cells #[.int .i64 x.z.kind, .int .i64 x.o, .int .i64 x.l, .int .i64 x.c, .string ⟨x.z.text.toArray⟩, .int .u32 (x.z.val : Int), .bool x.z.hex] 57)).alloc (.cells #[.string ⟨x.z.text.toArray⟩, .string ⟨#[]⟩, .int .i64 x.o, .int .i64 x.l, .int .i64 x.c, .slice none 0 0, .bool false, .string ⟨#[]⟩] 71)) = w3 at *
  generalize w1.heap.size + 1 = ba at *
  refine (ptake_any r tb s1 v1 1 w3 hP3 hL1.1).mono ?_
  rintro e w4 hPP
  rcases ppost_use hPP with ⟨y, s2, u, v2, e1, rfl, rfl, hP4, hg4⟩ | ⟨c, x9, e1, hG, hg9⟩
  rotate_left
  · have HM4 : Hid (M = .bad c x9) := by
      show M = _
      rw [HM1.out, e1, PR.bind_bad]
    obtain ⟨q, p, rfl, hq⟩ := hG
    refine ⟨rfl, ?_⟩
    rw [HM4.out]
    exact ⟨gup_mono ⟨q, p, rfl, hq⟩ hg3.size, grown_trans hg3 hg9⟩
  have hL2 := take_left hL1.1 (by decide) _ _ e1
  have HM2 : Hid (M = _) := HM1.out.trans (by rw [e1, PR.bind_ok])
  have hv4 := (hg4.block _ (heap_lt hv3) (fun e => by cases e; omega)).trans hv3
  have ha4 := (hg4.block _ (heap_lt ha3) (fun e => by cases e; omega)).trans ha3
  have hg5 := grown_trans hg3 hg4
  obtain ⟨⟨_, y1, _, _, _, _, _, _⟩, fy⟩ := var8 ha4
  clear hPP HM1 e1 hg3 hg4 hP3 hv3 ha3
  unfold tzV tzC
  go_wp2_with fail
  have ha5 : (w4.setCell ⟨ba, 1, none⟩ (.string ⟨y.z.text.toArray⟩)).heap[ba]? = some (.cells #[.string ⟨x.z.text.toArray⟩, .string ⟨y.z.text.toArray⟩, .int .i64 x.o, .int .i64 x.l, .int .i64 x.c, .slice none 0 0, .bool false, .string ⟨#[]⟩] 71 (0, 0)) := heap_setCell_same w4 ba 1 _ _ _ ha4
  have hgs := grown_set w4 ba 1 (.string ⟨y.z.text.toArray⟩)
  have hv5 := (hgs.block _ (heap_lt hv4) (fun e => by cases e; omega)).trans hv4
  have hP5 := hP4.grown hgs (by omega) (by omega)
  have hg6 := grown_new hg5 hgs (by omega)
  clear hgs ha4 hv4 hP4 hg5 y1 fy
  generalize (w4.setCell ⟨ba, 1, none⟩ (.string ⟨y.z.text.toArray⟩)) = w7 at *
  have ca := pattrs_any f 0 s2 v2 w7 r tb (by omega) (by omega) (by omega) hP5 hL2.1
  have hLA := (attrs_left f).2.1 0 s2 hL2.1
  have hbT := heap_lt ha5
  have hbr := hP5.lt
  refine ca.mono ?_
  rintro e w8 hPP
  rcases ppost_use hPP with ⟨aps, s4, u, vT, e1, rfl, hAu, hP8, hgu⟩ | ⟨c, x9, e1, hG, hg9⟩
  rotate_left
  · have HM4 : Hid (M = .bad c x9) := by
      show M = _
      rw [HM2.out, e1, PR.bind_bad]
    obtain ⟨q, p, rfl, hq⟩ := hG
    refine ⟨rfl, ?_⟩
    rw [HM4.out]
    exact ⟨gup_mono ⟨q, p, rfl, hq⟩ hg6.size, grown_trans hg6 hg9⟩
  have hET := (hLA _ _ e1).1
  have HMT : Hid (M = _) := HM2.out.trans (by rw [e1, PR.bind_ok])
  have hA8 : AttrsAt w8 (fun g => w7.heap.size ≤ g) u aps := hAu
  obtain ⟨pa, pn, pc, rfl⟩ := attrsAt_shape hA8
  have ha8 := (hgu.block _ (heap_lt ha5) (fun e => by cases e; omega)).trans ha5
  have hv8 := (hgu.block _ (heap_lt hv5) (fun e => by cases e; omega)).trans hv5
  have hgw := grown_trans hg6 hgu
  obtain ⟨⟨_, _, _, _, _, y5, _, _⟩, fy⟩ := var8 ha8
  generalize w7.heap.size = bnd at *
  clear hPP HM2 e1 hAu hLA ca ha5 hv5 hg6 hgu hP5
  go_wp2_with fail
  have haT : (w8.setCell ⟨ba, 5, none⟩ (.slice pa pn pc)).heap[ba]? = some (.cells #[.string ⟨x.z.text.toArray⟩, .string ⟨y.z.text.toArray⟩, .int .i64 x.o, .int .i64 x.l, .int .i64 x.c, .slice pa pn pc, .bool false, .string ⟨#[]⟩] 71 (0, 0)) := heap_setCell_same w8 ba 5 _ _ _ ha8
  have hgs := grown_set w8 ba 5 (.slice pa pn pc)
  have hvT := (hgs.block _ (heap_lt hv8) (fun e => by cases e; omega)).trans hv8
  have hPT := hP8.grown hgs (by omega) (by omega)
  have hgT := grown_new hgw hgs (by omega)
  have hAT := attrsAt_grown hgs (fun hF => by omega) hA8
  clear hgs ha8 hv8 hP8 hgw hA8 y5 fy
  generalize (w8.setCell ⟨ba, 5, none⟩ (.slice pa pn pc)) = wT at *
  refine (pnote_any r tb s4 vT wT hPT hET).mono ?_
  rintro e wU hPP
  rcases ppost_use hPP with ⟨nt, s5, u, vU, e1, rfl, rfl, hPU, hgU⟩ | ⟨c, x9, e1, hG, hg9⟩
  rotate_left
  · have HM4 : Hid (M = .bad c x9) := by
      show M = _
      rw [HMT.out, e1, PR.bind_bad]
    obtain ⟨q, p, rfl, hq⟩ := hG
    refine ⟨rfl, ?_⟩
    rw [HM4.out]
    exact ⟨gup_mono ⟨q, p, rfl, hq⟩ hgT.size, grown_trans hgT hg9⟩
  have hL5 := note_left hET _ _ e1
  have HMU : Hid (M = _) := HMT.out.trans (by rw [e1, PR.bind_ok])
  have haU := (hgU.block _ (heap_lt haT) (fun e => by cases e; omega)).trans haT
  have hvU := (hgU.block _ (heap_lt hvT) (fun e => by cases e; omega)).trans hvT
  have hAU := attrsAt_grown hgU (fun hF => by omega) hAT
  have hgV := grown_trans hgT hgU
  obtain ⟨⟨_, _, _, _, _, _, y6, y7⟩, fy⟩ := var8 haU
  clear hPP HMT e1 hgU haT hvT hAT hPT hET hgT
  go_wp2_with fail
  have haX := setNote8_at wU ba _ _ _ _ _ _ _ _ _ (.bool (noteB nt)) (.string ⟨(noteT nt).toArray⟩) haU
  have hgX := setNote8_grown wU ba (.bool (noteB nt)) (.string ⟨(noteT nt).toArray⟩)
  have hvX := (hgX.block _ (heap_lt hvU) (fun e => by cases e; omega)).trans hvU
  have hAX := attrsAt_grown hgX (fun hF => by omega) hAU
  have hPX := hPU.grown hgX (by omega) (by omega)
  have hgY := grown_new hgV hgX (by omega)
  clear haU hgX hvU hAU hPU hgV y6 y7 fy
  generalize ((wU.setCell ⟨ba, 6, none⟩ (.bool (noteB nt))).setCell ⟨ba, 7, none⟩ (.string ⟨(noteT nt).toArray⟩)) = wX at *
  refine (ptake_any r tb s5 vU 7 wX hPX hL5.1).mono ?_
  rintro e wZ hPP
  rcases ppost_use hPP with ⟨x7, s6, u, vZ, e1, rfl, rfl, hPZ, hgZ⟩ | ⟨c, x9, e1, hG, hg9⟩
  rotate_left
  · have HM4 : Hid (M = .bad c x9) := by
      show M = _
      rw [HMU.out, e1, PR.bind_bad]
    obtain ⟨q, p, rfl, hq⟩ := hG
    refine ⟨rfl, ?_⟩
    rw [HM4.out]
    exact ⟨gup_mono ⟨q, p, rfl, hq⟩ hgY.size, grown_trans hgY hg9⟩
  have HMZ : Hid (M = .ok ⟨x.z.text, y.z.text, x.o, x.l, x.c, aps, noteB nt, noteT nt⟩ s6) := HMU.out.trans (by rw [e1, PR.bind_ok])
  have haZ := (hgZ.block _ (heap_lt haX) (fun e => by cases e; omega)).trans haX
  have hvZ := (hgZ.block _ (heap_lt hvX) (fun e => by cases e; omega)).trans hvX
  have hAZ := attrsAt_grown hgZ (fun hF => by omega) hAX
  have hgE := grown_trans hgY hgZ
  obtain ⟨⟨y0, y1, y2, y3, y4, y5, y6, y7⟩, fy⟩ := var8 haZ
  obtain ⟨⟨z0, z1, z2, z3, z4, z5, z6, z7⟩, fz⟩ := var8 hvZ
  have g8 := set8_grown wZ w.heap.size (.string ⟨x.z.text.toArray⟩) (.string ⟨y.z.text.toArray⟩) (.int .i64 x.o) (.int .i64 x.l) (.int .i64 x.c) (.slice pa pn pc) (.bool (noteB nt)) (.string ⟨(noteT nt).toArray⟩)
  clear hPP HMU e1 hgZ haX hvX hAX hPX hL5 hgY haZ
  unfold tzV tzC
  go_wp2
  rw [HMZ.out]
  refine bodyPost_ret (v := .agg (obC ⟨x.z.text, y.z.text, x.o, x.l, x.c, aps, noteB nt, noteT nt⟩ (.slice pa pn pc))) (res_obj Tryz.results69 _ w.heap.size _ _ _ _ _ _ _ _ _ rfl (set8_at _ _ _ _ _ _ _ _ _ _ _ _ _ _ _ _ _ _ _ hvZ)) rfl ⟨_, _, rfl, ⟨_, rfl, ?_⟩, hPZ.grown g8 (by omega) (by omega), grown_new hgE g8 (Nat.le_refl _)⟩
  exact attrsAt_mono (fun g hF => by omega) (attrsAt_grown g8 (fun hF => by omega) hAZ)
end Go.Proofs.YtlbgppijeoonjaaGreatDoor

namespace Go.Proofs.YtlbgppijeoonjaaGreatDoor
open Go.RowKit
set_option linter.unusedVariables false

def rowsO (qs : List (Ob × Value)) : List Value := qs.flatMap fun q => (obC q.1 q.2).toList
theorem rowsO_snoc (qs : List (Ob × Value)) (q : Ob × Value) : rowsO (qs ++ [q]) = rowsO qs ++ (obC q.1 q.2).toList := by simp [rowsO]
/-- A slice of objects, with all that stands in it. -/
inductive ObjsAt (w : World) (F : Nat → Prop) : Value → List Ob → Prop
  | nil {a : Option Addr} {cap : Nat} : ObjsAt w F (.slice a 0 cap) []
  | row {g off cap : Nat} {qs : List (Ob × Value)} : F g → g < w.heap.size → (∀ j u, (rowsO qs)[j]? = some u → w.cell? ⟨g, off + j, none⟩ = some u) → qs.length ≤ cap ∧ cap ≤ maxLen →
      (∀ q, q ∈ qs → AttrsAt w F q.2 q.1.attrs) → ObjsAt w F (.slice (some ⟨g, off, none⟩) qs.length cap) (qs.map Prod.fst)
theorem objsAt_move {w w' : World} {F G : Nat → Prop} (hs : w.heap.size ≤ w'.heap.size) (hk : ∀ g, F g → g < w.heap.size → w'.heap[g]? = w.heap[g]? ∧ G g) {v : Value} {l : List Ob} (h : ObjsAt w F v l) : ObjsAt w' G v l := by
  cases h with
  | nil => exact .nil
  | row a b c d e => exact .row (hk _ a b).2 (Nat.lt_of_lt_of_le b hs) (fun j u hj => by rw [World.cell?_of_block (hk _ a b).1]; exact c j u hj) d (fun q hq => attrsAt_move hs hk (e q hq))
theorem objsAt_grown {w w' : World} {F : Nat → Prop} {r : Nat} (hg : w.grownBy w' (some r)) (hr : ¬ F r) {v : Value} {l : List Ob} (h : ObjsAt w F v l) : ObjsAt w' F v l :=
  objsAt_move hg.size (fun g hF hl => ⟨hg.block g hl (fun e => by cases e; exact hr hF), hF⟩) h
theorem objsAt_shape {w : World} {F : Nat → Prop} {v : Value} {l : List Ob} (h : ObjsAt w F v l) : ∃ a n cap, v = .slice a n cap := by
  cases h with
  | nil => exact ⟨_, _, _, rfl⟩
  | row _ _ _ _ _ => exact ⟨_, _, _, rfl⟩
theorem objsAt_own {w : World} {F : Nat → Prop} {base : Nat} {v : Value} {qs : List (Ob × Value)} (h : w.ownsRow base 71 8 v qs.length (rowsO qs)) (hF : ∀ g, base ≤ g → F g) (hp : ∀ q, q ∈ qs → AttrsAt w F q.2 q.1.attrs) : ObjsAt w F v (qs.map Prod.fst) := by
  obtain ⟨hl, ⟨rfl, h0⟩ | ⟨g, cap, cur, rfl, hb, hh, h1, h2, h3, h4⟩⟩ := h
  · have : qs = [] := List.eq_nil_of_length_eq_zero h0
    subst this
    exact .nil
  · refine .row (hF g hb) (heap_lt hh) (fun j u hj => ?_) ⟨h1, h2⟩ hp
    have := cell_of_row w g j _ _ (0, 0) hh
    rw [Nat.zero_add, this, ← Array.getElem?_toList]
    rw [← h4, List.getElem?_take] at hj
    split at hj
    · exact hj
    · cases hj
def trC (t : Tr) (pv : Value) : Array Value := #[.string ⟨t.version.toArray⟩, .string ⟨t.cpu.toArray⟩, pv, .bool t.noted, .string ⟨t.note.toArray⟩]
def VTr (base : Nat) (t : Tr) (u : Value) (w' : World) : Prop := ∃ pv, u = .agg (trC t pv) ∧ ObjsAt w' (fun g => base ≤ g) pv t.objs
def zero8 : Array Value := #[.string ⟨#[]⟩, .string ⟨#[]⟩, .int .i64 0, .int .i64 0, .int .i64 0, .slice none 0 0, .bool false, .string ⟨#[]⟩]
theorem Tryz.info71 : (Tryz.prog.info? 71).map (fun i => (i.zero, i.size, i.bytes)) = some (some (.agg zero8), 8, 104) := by kernel_rfl
theorem own_shape8 {w : World} {base : Nat} {v : Value} {n : Nat} {xs : List Value} (h : w.ownsRow base 71 8 v n xs) : ∃ a cap, v = .slice a n cap := by
  obtain ⟨hl, ⟨rfl, rfl⟩ | ⟨g, cap, cur, rfl, _⟩⟩ := h
  · exact ⟨none, 0, rfl⟩
  · exact ⟨_, _, rfl⟩
theorem one8 (s1 s2 : ByteArray) (a b c : Int) (p : Option Addr) (pn pc : Nat) (h3 : Bool) (s3 : ByteArray) : ∀ u ∈ [Value.string s1, .string s2, .int .i64 a, .int .i64 b, .int .i64 c, .slice p pn pc, .bool h3, .string s3], u.oneCell' = true := by
  intro u hu
  simp at hu
  rcases hu with rfl | rfl | rfl | rfl | rfl | rfl | rfl | rfl <;> rfl
/-- append onto a row of the call's own, as one step of a region that draws; where it lies then. -/
theorem step_append_own_at {P : Program} {ops : Array Oper} {o : Oper} {a : Act} {w : World} {K : Act → World → Prop} {Q : Exit → Act → World → Prop} {F : Prop}
    (hgd : o.guard = none) (s x : Operand) (t : TypeId) (ho : o.op = .call { callee := .builtin .append, args := #[s, x], argTypes := #[t, t] })
    (base : Nat) (e : TypeId) (i : TypeInfo) (z : Value) (size bytes : Nat) (ht : P.underlying t = some (.slice e)) (hi : P.info? e = some i) (hz : i.zero = some z)
    (hsize : i.size = size) (hby : i.bytes = bytes) (hzs : z.cells.size = size) (hsz : 0 < size)
    (v : Value) (n : Nat) (xs : List Value) (hs : a.eval s = v) (hown : w.ownsRow base e size v n xs)
    (ad : Addr) (m c : Nat) (news : List Value) (hx : a.eval x = .slice (some ad) m c) (hl : news.length = m * size) (hnews : ∀ j u, news[j]? = some u → w.cell? (ad.add j) = some u) (h1 : ∀ u ∈ news, u.oneCell' = true)
    (h63 : n + m ≤ maxLen) (hbytes : (n + m) * bytes ≤ 140737488355328) (hbase : base ≤ w.heap.size)
    (h : ∀ v' w', w'.ownsRow base e size v' (n + m) (xs ++ news) → w.grownBy w' v.ownBlock → (v'.ownBlock = v.ownBlock ∨ v'.ownBlock = some w.heap.size) → K (a.put o.dst v') w') :
    if Region.wanted o (yielded ops a.tmps) = true then Oper.wp P o a w K Q else F := by
  have hw : Region.wanted o (yielded ops a.tmps) = true := by simp [Region.wanted, hgd]
  rw [if_pos hw]
  obtain ⟨v', w', hr, h2, h3, h4, h5⟩ := run_append_own_at (P := P) w base t o.type e i z size bytes ht hi hz hsize hby hzs hsz v n xs hown ad m c news hl hnews h1 h63 hbytes hbase
  unfold Oper.wp execOp
  simp only [ho, resolve, invoke, builtin, Sem.run_bind, Sem.run_pure, Result.andThen_ok, List.map_toArray, List.map_cons, List.map_nil, hs, hx, hr]
  exact h v' w' h2 h3 h5
/-- A call of a Go function, as one step of a region that draws. -/
theorem step_call {P : Program} {ops : Array Oper} {o : Oper} {a : Act} {w : World} {K : Act → World → Prop} {Q : Exit → Act → World → Prop} {F : Prop}
    (hgd : o.guard = none) (f : FuncId) (vals : Array Value) (hx : (execOp a.eval o).run P w = .ok (.enter f vals) w) {R : Ending → World → Prop} (hc : Calls P f vals w R)
    (h : ∀ e w', R e w' → (∃ v, e = .returned v ∧ K (a.put o.dst v) w') ∨ (∃ c, e = .panicked c ∧ Q (.panic c) a w')) :
    if Region.wanted o (yielded ops a.tmps) = true then Oper.wp P o a w K Q else F := by
  have hw : Region.wanted o (yielded ops a.tmps) = true := by simp [Region.wanted, hgd]
  rw [if_pos hw]
  unfold Oper.wp
  rw [hx, Oper.upon_enter]
  refine hc.mono fun e w' hR => ?_
  rcases h e w' hR with ⟨v, rfl, hk⟩ | ⟨c, rfl, hk⟩
  · exact hk
  · exact hk
theorem Pa.of_heap {w w' : World} {r tb : Nat} {xs : List Tp} {v : Value} (h : Pa w r tb xs v) (e : w'.heap = w.heap) : Pa w' r tb xs v := by
  refine ⟨by rw [e]; exact h.hheap, ?_, h.loc, h.ne, by rw [e]; exact h.tlt⟩
  have hr := h.row
  cases hr with
  | nil => exact .nil
  | some a b c => exact .some (by rw [e]; exact a) (fun j u hj => by rw [World.cell?_of_block (w := w) (by rw [e])]; exact b j u hj) c
theorem object_left {f : Nat} {xs : List Tp} (h : EndL xs) : Lft 1 xs (objectL f xs) := by
  intro a r e
  unfold objectL at e
  obtain ⟨x1, s1, e1, e⟩ := bind_okE e
  obtain ⟨x2, s2, e2, e⟩ := bind_okE e
  obtain ⟨x3, s3, e3, e⟩ := bind_okE e
  obtain ⟨x4, s4, e4, e⟩ := bind_okE e
  obtain ⟨x5, s5, e5, e⟩ := bind_okE e
  cases e
  have h1 := take_left h (by decide) _ _ e1
  have h2 := take_left h1.1 (by decide) _ _ e2
  have h3 := (attrs_left f).2.1 _ _ h2.1 _ _ e3
  have h4 := note_left h3.1 _ _ e4
  have h5 := take_left h4.1 (by decide) _ _ e5
  exact ⟨h5.1, by omega⟩
theorem word_left {t : List UInt8} {xs : List Tp} (h : EndL xs) : Lft 1 xs (wordL t xs) := by
  intro a r e
  cases h with
  | @one x h0 =>
    have hW : wordL t [x] = if x.z.text = t ∧ x.z.kind = 1 then .ok () [] else .bad 30 x := rfl
    rw [hW, if_neg (fun k => by rw [h0] at k; exact absurd k.2 (by decide))] at e
    cases e
  | @more x s h0 hs =>
    have hW : wordL t (x :: s) = if x.z.text = t ∧ x.z.kind = 1 then .ok () s else .bad 30 x := rfl
    rw [hW] at e
    split at e
    · cases e; exact ⟨hs, by simp⟩
    · cases e
theorem var5 {w : World} {b : Nat} {v0 v1 v2 v3 v4 : Value} {t : TypeId} (h : w.heap[b]? = some (.cells #[v0, v1, v2, v3, v4] t (0, 0))) :
    (w.cell? ⟨b, 0, none⟩ = some v0 ∧ w.cell? ⟨b, 1, none⟩ = some v1 ∧ w.cell? ⟨b, 2, none⟩ = some v2 ∧ w.cell? ⟨b, 3, none⟩ = some v3 ∧ w.cell? ⟨b, 4, none⟩ = some v4) ∧ ∀ i, w.frozen? ⟨b, i, none⟩ = false := by
  have a1 := fun i => cell_of_row w b i _ _ (0, 0) h
  exact ⟨⟨a1 0, a1 1, a1 2, a1 3, a1 4⟩, fun i => frozen_of_row w b i _ _ h⟩
theorem setNote5_at (w : World) (b : Nat) (t : TypeId) (o0 o1 o2 o3 o4 v3 v4 : Value) (k : w.heap[b]? = some (.cells #[o0, o1, o2, o3, o4] t (0, 0))) :
    ((w.setCell ⟨b, 3, none⟩ v3).setCell ⟨b, 4, none⟩ v4).heap[b]? = some (.cells #[o0, o1, o2, v3, v4] t (0, 0)) := by
  have h0 : (w.setCell ⟨b, 3, none⟩ v3).heap[b]? = some (.cells #[o0, o1, o2, v3, o4] t (0, 0)) := heap_setCell_same _ b 3 _ t _ k
  generalize w.setCell ⟨b, 3, none⟩ v3 = w0 at *
  exact heap_setCell_same _ b 4 _ t _ h0
theorem setNote5_grown (w : World) (b : Nat) (v3 v4 : Value) : w.grownBy ((w.setCell ⟨b, 3, none⟩ v3).setCell ⟨b, 4, none⟩ v4) (some b) := grown_trans (grown_set _ _ _ _) (grown_set _ _ _ _)
theorem set5t_at (w : World) (b : Nat) (t : TypeId) (o0 o1 o2 o3 o4 v0 v1 v2 v3 v4 : Value) (k : w.heap[b]? = some (.cells #[o0, o1, o2, o3, o4] t (0, 0))) :
    (((((w.setCell ⟨b, 0, none⟩ v0).setCell ⟨b, 1, none⟩ v1).setCell ⟨b, 2, none⟩ v2).setCell ⟨b, 3, none⟩ v3).setCell ⟨b, 4, none⟩ v4).heap[b]? = some (.cells #[v0, v1, v2, v3, v4] t (0, 0)) := by
  have h0 : (w.setCell ⟨b, 0, none⟩ v0).heap[b]? = some (.cells #[v0, o1, o2, o3, o4] t (0, 0)) := heap_setCell_same _ b 0 _ t _ k
  generalize w.setCell ⟨b, 0, none⟩ v0 = w0 at *
  have h1 : (w0.setCell ⟨b, 1, none⟩ v1).heap[b]? = some (.cells #[v0, v1, o2, o3, o4] t (0, 0)) := heap_setCell_same _ b 1 _ t _ h0
  generalize w0.setCell ⟨b, 1, none⟩ v1 = w1 at *
  have h2 : (w1.setCell ⟨b, 2, none⟩ v2).heap[b]? = some (.cells #[v0, v1, v2, o3, o4] t (0, 0)) := heap_setCell_same _ b 2 _ t _ h1
  generalize w1.setCell ⟨b, 2, none⟩ v2 = w2 at *
  have h3 : (w2.setCell ⟨b, 3, none⟩ v3).heap[b]? = some (.cells #[v0, v1, v2, v3, o4] t (0, 0)) := heap_setCell_same _ b 3 _ t _ h2
  generalize w2.setCell ⟨b, 3, none⟩ v3 = w3 at *
  exact heap_setCell_same _ b 4 _ t _ h3
theorem set5t_grown (w : World) (b : Nat) (v0 v1 v2 v3 v4 : Value) : w.grownBy (((((w.setCell ⟨b, 0, none⟩ v0).setCell ⟨b, 1, none⟩ v1).setCell ⟨b, 2, none⟩ v2).setCell ⟨b, 3, none⟩ v3).setCell ⟨b, 4, none⟩ v4) (some b) := grown_trans (grown_set _ _ _ _) (grown_trans (grown_set _ _ _ _) (grown_trans (grown_set _ _ _ _) (grown_trans (grown_set _ _ _ _) (grown_set _ _ _ _))))
theorem res_tree {fn : Func} {n : Nat} (hf : fn.results = #[.cell n 24]) (tmps : Array Value) (b : Nat) (w : World) (v0 v1 v2 v3 v4 : Value)
    (h2 : tmps[n]? = some (.pointer (some ⟨b, 0, none⟩))) (hk : w.heap[b]? = some (.cells #[v0, v1, v2, v3, v4] 24 (0, 0))) :
    (results fn tmps).run Tryz.prog w = .ok (.agg #[v0, v1, v2, v3, v4]) w := by
  have a1 := fun i => cell_of_row w b i _ _ (0, 0) hk
  have z0 := a1 0; have z1 := a1 1; have z2 := a1 2; have z3 := a1 3; have z4 := a1 4
  simp at z0 z1 z2 z3 z4
  simp [results, hf, go_sem, h2, z0, z1, z2, z3, z4]
set_option maxHeartbeats 8000000 in
set_option maxRecDepth 100000 in
theorem ptext_any (f : Nat) (xs : List Tp) (v : Value) (w : World) (r tb : Nat) (hf : 2 * xs.length ≤ f) (hm : xs.length ≤ 262145) (h : Pa w r tb xs v) (hE : EndL xs) :
    Calls Tryz.prog 48 #[.pointer (some ⟨r, 0, none⟩)] w fun e w' => PPost w r tb (VTr w.heap.size) (textL f xs) e w' := by
  obtain ⟨i0, hi, hz0, hz1, hz2⟩ := info_parts Tryz.info71
  obtain ⟨M, hM⟩ : ∃ M, M = textL f xs := ⟨_, rfl⟩
  rw [← hM]
  unfold textL at hM
  have HM : Hid (M = _) := hM
  clear hM
  have hrl := h.lt
  have htl := h.tlt
  have hfl := fld_text
  have hb1 := ((Below.refl w.heap.size w).alloc (Nat.le_refl _) (.cells #[.string ⟨#[]⟩, .string ⟨#[]⟩, .slice none 0 0, .bool false, .string ⟨#[]⟩] 24)).alloc (by simp) (.cells #[.string ⟨#[]⟩, .string ⟨#[]⟩, .slice none 0 0, .bool false, .string ⟨#[]⟩] 24)
  have hv1 : ((w.alloc (.cells #[.string ⟨#[]⟩, .string ⟨#[]⟩, .slice none 0 0, .bool false, .string ⟨#[]⟩] 24)).alloc (.cells #[.string ⟨#[]⟩, .string ⟨#[]⟩, .slice none 0 0, .bool false, .string ⟨#[]⟩] 24)).heap[w.heap.size]? = some (.cells #[.string ⟨#[]⟩, .string ⟨#[]⟩, .slice none 0 0, .bool false, .string ⟨#[]⟩] 24 (0, 0)) := heap2_0' w _ _
  have ha1 : ((w.alloc (.cells #[.string ⟨#[]⟩, .string ⟨#[]⟩, .slice none 0 0, .bool false, .string ⟨#[]⟩] 24)).alloc (.cells #[.string ⟨#[]⟩, .string ⟨#[]⟩, .slice none 0 0, .bool false, .string ⟨#[]⟩] 24)).heap[w.heap.size + 1]? = some (.cells #[.string ⟨#[]⟩, .string ⟨#[]⟩, .slice none 0 0, .bool false, .string ⟨#[]⟩] 24 (0, 0)) := heap2_1' w _ _
  have hP1 := h.below hb1
  have hg1 : w.grownBy _ (some r) := grown_of_below hb1
  have HM1 := HM
  have hE1 := hE
  obtain ⟨xs', hxs⟩ : ∃ l, l = xs.length := ⟨_, rfl⟩
  go_enter Tryz.func48, Tryz.ntmps48
  go_wp2_with fail
  clear hb1 HM hE
  generalize ((w.alloc (.cells #[.string ⟨#[]⟩, .string ⟨#[]⟩, .slice none 0 0, .bool false, .string ⟨#[]⟩] 24)).alloc (.cells #[.string ⟨#[]⟩, .string ⟨#[]⟩, .slice none 0 0, .bool false, .string ⟨#[]⟩] 24)) = w1 at *
  have hba : w.heap.size < w.heap.size + 1 := Nat.lt_succ_self _
  generalize hba2 : w.heap.size + 1 = ba at *
  have hs1 : xs.length ≤ xs.length := Nat.le_refl _
  refine (pword_any r tb xs v oilV w1 hP1 hE1).mono ?_
  rintro e w2 hPP
  rcases ppost_use hPP with ⟨x1, s2, u, v2, e1, rfl, rfl, hP2, hg9⟩ | ⟨c, x9, e1, hG, hg9⟩
  rotate_left
  · have HM4 : Hid (M = .bad c x9) := by
      show M = _
      rw [HM1.out, e1, PR.bind_bad]
    obtain ⟨q, p, rfl, hq⟩ := hG
    refine ⟨rfl, ?_⟩
    rw [HM4.out]
    exact ⟨gup_mono ⟨q, p, rfl, hq⟩ hg1.size, grown_trans hg1 hg9⟩
  have hE2 := word_left hE1 _ _ e1
  have HM2 : Hid (M = _) := HM1.out.trans (by rw [e1, PR.bind_ok])
  have hv2 := (hg9.block _ (heap_lt hv1) (fun e => by cases e; omega)).trans hv1
  have ha2 := (hg9.block _ (heap_lt ha1) (fun e => by cases e; omega)).trans ha1
  have hg2 := grown_trans hg1 hg9
  clear hPP HM1 e1 hg1 hP1 hv1 ha1 hg9
  go_wp2_with fail
  refine (ptake_any r tb s2 v2 6 w2 hP2 hE2.1).mono ?_
  rintro e w3 hPP
  rcases ppost_use hPP with ⟨x2, s3, u, v3, e1, rfl, rfl, hP3, hg9⟩ | ⟨c, x9, e1, hG, hg9⟩
  rotate_left
  · have HM4 : Hid (M = .bad c x9) := by
      show M = _
      rw [HM2.out, e1, PR.bind_bad]
    obtain ⟨q, p, rfl, hq⟩ := hG
    refine ⟨rfl, ?_⟩
    rw [HM4.out]
    exact ⟨gup_mono ⟨q, p, rfl, hq⟩ hg2.size, grown_trans hg2 hg9⟩
  have hE3 := take_left hE2.1 (by decide) _ _ e1
  have HM3 : Hid (M = _) := HM2.out.trans (by rw [e1, PR.bind_ok])
  have hv3 := (hg9.block _ (heap_lt hv2) (fun e => by cases e; omega)).trans hv2
  have ha3 := (hg9.block _ (heap_lt ha2) (fun e => by cases e; omega)).trans ha2
  have hg3 := grown_trans hg2 hg9
  clear hPP HM2 e1 hg2 hP2 hv2 ha2 hg9
  unfold tzV tzC
  go_wp2_with fail
  refine (ptake_any r tb s3 v3 3 w3 hP3 hE3.1).mono ?_
  rintro e w4 hPP
  rcases ppost_use hPP with ⟨x3, s4, u, v4, e1, rfl, rfl, hP4, hg9⟩ | ⟨c, x9, e1, hG, hg9⟩
  rotate_left
  · have HM4 : Hid (M = .bad c x9) := by
      show M = _
      rw [HM3.out, e1, PR.bind_bad]
    obtain ⟨q, p, rfl, hq⟩ := hG
    refine ⟨rfl, ?_⟩
    rw [HM4.out]
    exact ⟨gup_mono ⟨q, p, rfl, hq⟩ hg3.size, grown_trans hg3 hg9⟩
  have hE4 := take_left hE3.1 (by decide) _ _ e1
  have HM4 : Hid (M = _) := HM3.out.trans (by rw [e1, PR.bind_ok])
  have hv4 := (hg9.block _ (heap_lt hv3) (fun e => by cases e; omega)).trans hv3
  have ha4 := (hg9.block _ (heap_lt ha3) (fun e => by cases e; omega)).trans ha3
  have hg4 := grown_trans hg3 hg9
  clear hPP HM3 e1 hg3 hP3 hv3 ha3 hg9
  unfold tzV tzC
  obtain ⟨⟨y0, _, _, _, _⟩, fy⟩ := var5 ha4
  go_wp2_with fail
  have ha4n : (w4.setCell ⟨ba, 0, none⟩ (.string ⟨x3.z.text.toArray⟩)).heap[ba]? = some (.cells #[.string ⟨x3.z.text.toArray⟩, .string ⟨#[]⟩, .slice none 0 0, .bool false, .string ⟨#[]⟩] 24 (0, 0)) := heap_setCell_same w4 ba 0 _ _ _ ha4
  have hgs := grown_set w4 ba 0 (.string ⟨x3.z.text.toArray⟩)
  have hv4n := (hgs.block _ (heap_lt hv4) (fun e => by cases e; omega)).trans hv4
  have hP4n := hP4.grown hgs (by omega) (by omega)
  have hg4n := grown_new hg4 hgs (by omega)
  clear hgs ha4 hv4 hP4 hg4 y0 fy
  generalize (w4.setCell ⟨ba, 0, none⟩ (.string ⟨x3.z.text.toArray⟩)) = w4n at *
  have ha4 := ha4n
  have hv4 := hv4n
  have hP4 := hP4n
  have hg4 := hg4n
  clear ha4n hv4n hP4n hg4n
  refine (ptake_any r tb s4 v4 7 w4n hP4 hE4.1).mono ?_
  rintro e w5 hPP
  rcases ppost_use hPP with ⟨x4, s5, u, v5, e1, rfl, rfl, hP5, hg9⟩ | ⟨c, x9, e1, hG, hg9⟩
  rotate_left
  · have HM4 : Hid (M = .bad c x9) := by
      show M = _
      rw [HM4.out, e1, PR.bind_bad]
    obtain ⟨q, p, rfl, hq⟩ := hG
    refine ⟨rfl, ?_⟩
    rw [HM4.out]
    exact ⟨gup_mono ⟨q, p, rfl, hq⟩ hg4.size, grown_trans hg4 hg9⟩
  have hE5 := take_left hE4.1 (by decide) _ _ e1
  have HM5 : Hid (M = _) := HM4.out.trans (by rw [e1, PR.bind_ok])
  have hv5 := (hg9.block _ (heap_lt hv4) (fun e => by cases e; omega)).trans hv4
  have ha5 := (hg9.block _ (heap_lt ha4) (fun e => by cases e; omega)).trans ha4
  have hg5 := grown_trans hg4 hg9
  clear hPP HM4 e1 hg4 hP4 hv4 ha4 hg9
  unfold tzV tzC
  go_wp2_with fail
  refine (pword_any r tb s5 v5 cpuW w5 hP5 hE5.1).mono ?_
  rintro e w6 hPP
  rcases ppost_use hPP with ⟨x5, s6, u, v6, e1, rfl, rfl, hP6, hg9⟩ | ⟨c, x9, e1, hG, hg9⟩
  rotate_left
  · have HM4 : Hid (M = .bad c x9) := by
      show M = _
      rw [HM5.out, e1, PR.bind_bad]
    obtain ⟨q, p, rfl, hq⟩ := hG
    refine ⟨rfl, ?_⟩
    rw [HM4.out]
    exact ⟨gup_mono ⟨q, p, rfl, hq⟩ hg5.size, grown_trans hg5 hg9⟩
  have hE6 := word_left hE5.1 _ _ e1
  have HM6 : Hid (M = _) := HM5.out.trans (by rw [e1, PR.bind_ok])
  have hv6 := (hg9.block _ (heap_lt hv5) (fun e => by cases e; omega)).trans hv5
  have ha6 := (hg9.block _ (heap_lt ha5) (fun e => by cases e; omega)).trans ha5
  have hg6 := grown_trans hg5 hg9
  clear hPP HM5 e1 hg5 hP5 hv5 ha5 hg9
  go_wp2_with fail
  refine (ptake_any r tb s6 v6 1 w6 hP6 hE6.1).mono ?_
  rintro e w7 hPP
  rcases ppost_use hPP with ⟨x6, s7, u, v7, e1, rfl, rfl, hP7, hg9⟩ | ⟨c, x9, e1, hG, hg9⟩
  rotate_left
  · have HM4 : Hid (M = .bad c x9) := by
      show M = _
      rw [HM6.out, e1, PR.bind_bad]
    obtain ⟨q, p, rfl, hq⟩ := hG
    refine ⟨rfl, ?_⟩
    rw [HM4.out]
    exact ⟨gup_mono ⟨q, p, rfl, hq⟩ hg6.size, grown_trans hg6 hg9⟩
  have hE7 := take_left hE6.1 (by decide) _ _ e1
  have HM7 : Hid (M = _) := HM6.out.trans (by rw [e1, PR.bind_ok])
  have hv7 := (hg9.block _ (heap_lt hv6) (fun e => by cases e; omega)).trans hv6
  have ha7 := (hg9.block _ (heap_lt ha6) (fun e => by cases e; omega)).trans ha6
  have hg7 := grown_trans hg6 hg9
  clear hPP HM6 e1 hg6 hP6 hv6 ha6 hg9
  unfold tzV tzC
  obtain ⟨⟨_, y1, _, _, _⟩, fy⟩ := var5 ha7
  go_wp2_with fail
  have ha7n : (w7.setCell ⟨ba, 1, none⟩ (.string ⟨x6.z.text.toArray⟩)).heap[ba]? = some (.cells #[.string ⟨x3.z.text.toArray⟩, .string ⟨x6.z.text.toArray⟩, .slice none 0 0, .bool false, .string ⟨#[]⟩] 24 (0, 0)) := heap_setCell_same w7 ba 1 _ _ _ ha7
  have hgs := grown_set w7 ba 1 (.string ⟨x6.z.text.toArray⟩)
  have hv7n := (hgs.block _ (heap_lt hv7) (fun e => by cases e; omega)).trans hv7
  have hP7n := hP7.grown hgs (by omega) (by omega)
  have hg7n := grown_new hg7 hgs (by omega)
  clear hgs ha7 hv7 hP7 hg7 y1 fy
  generalize (w7.setCell ⟨ba, 1, none⟩ (.string ⟨x6.z.text.toArray⟩)) = w7n at *
  have ha7 := ha7n
  have hv7 := hv7n
  have hP7 := hP7n
  have hg7 := hg7n
  clear ha7n hv7n hP7n hg7n
  refine (ptake_any r tb s7 v7 4 w7n hP7 hE7.1).mono ?_
  rintro e w8 hPP
  rcases ppost_use hPP with ⟨x7, s8, u, v8, e1, rfl, rfl, hP8, hg9⟩ | ⟨c, x9, e1, hG, hg9⟩
  rotate_left
  · have HM4 : Hid (M = .bad c x9) := by
      show M = _
      rw [HM7.out, e1, PR.bind_bad]
    obtain ⟨q, p, rfl, hq⟩ := hG
    refine ⟨rfl, ?_⟩
    rw [HM4.out]
    exact ⟨gup_mono ⟨q, p, rfl, hq⟩ hg7.size, grown_trans hg7 hg9⟩
  have hE8 := take_left hE7.1 (by decide) _ _ e1
  have HM8 : Hid (M = _) := HM7.out.trans (by rw [e1, PR.bind_ok])
  have hv8 := (hg9.block _ (heap_lt hv7) (fun e => by cases e; omega)).trans hv7
  have ha8 := (hg9.block _ (heap_lt ha7) (fun e => by cases e; omega)).trans ha7
  have hg8 := grown_trans hg7 hg9
  clear hPP HM7 e1 hg7 hP7 hv7 ha7 hg9
  unfold tzV tzC
  go_wp2
  obtain ⟨K, hK1, hK2⟩ : ∃ K : List Ob → List Tp → PR Tr, M = (objsL f f (([] : List (Ob × Value)).map Prod.fst) s8).bind K ∧ K = (fun os r => (takeL 5 r).bind fun _ r => (noteL r).bind fun nt r => (takeL 7 r).bind fun _ r => (takeL 0 r).bind fun _ r => .ok ⟨x3.z.text, x6.z.text, os, noteB nt, noteT nt⟩ r) := ⟨_, HM8.out, rfl⟩
  have HK1 : Hid (M = (objsL f f (([] : List (Ob × Value)).map Prod.fst) s8).bind K) := hK1
  have HK2 : Hid (K = _) := hK2
  clear hK1 hK2 HM8 h hba2
  have hE8' := hE8.1
  have hl8 : s8.length ≤ xs.length := by omega
  have hf8 : s8.length + 1 ≤ f := by have := hE8.2; omega
  clear hE8 hE7 hE6 hE5 hE4 hE3 hE2 hE1
  go_loopw [] (fun wr => ∃ (g' : Nat) (ys : List Tp) (qs : List (Ob × Value)) (lv v' : Value), Hid (M = (objsL f g' (qs.map Prod.fst) ys).bind K) ∧ ys.length + 1 ≤ g' ∧ ys.length + qs.length ≤ s8.length ∧ Pa wr r tb ys v' ∧ EndL ys ∧ wr.heap[w.heap.size]? = some (.cells #[.string ⟨#[]⟩, .string ⟨#[]⟩, .slice none 0 0, .bool false, .string ⟨#[]⟩] 24 (0, 0)) ∧ wr.heap[ba]? = some (.cells #[.string ⟨x3.z.text.toArray⟩, .string ⟨x6.z.text.toArray⟩, lv, .bool false, .string ⟨#[]⟩] 24 (0, 0)) ∧ wr.ownsRow (ba + 1) 71 8 lv qs.length (rowsO qs) ∧ (∀ q, q ∈ qs → AttrsAt wr (fun g => ba < g ∧ lv.ownBlock ≠ some g) q.2 q.1.attrs) ∧ w.grownBy wr (some r)) (fun wr => paLen wr r)
  case atStart => exact ⟨f, s8, [], _, v8, HK1, hf8, by simp, hP8, hE8', hv8, ha8, World.ownsRow_nil _ _ _ _, (fun p hp => by cases hp), hg8⟩
  case round =>
    obtain ⟨g', ys, qs, lv, v', hh, hg', hlen, hP, hEy, hv, ha, hO, hA, hg⟩ := hrel
    clear HK1 hP8 hE8' hv8 ha8 hg8 hf8
    have hpl := paLen_eq hP
    have hbs := heap_lt ha
    have cc := pcomes_list r tb ys v' 5 wr hP hEy
    obtain ⟨g', rfl⟩ : ∃ f2, g' = f2 + 1 := ⟨g' - 1, by omega⟩
    have h2 := hh.out
    rw [objsL] at h2
    obtain ⟨av, cv, rfl⟩ := own_shape8 hO
    cases hC : comesL 5 ys with
    | false =>
      rw [hC] at cc
      rw [hC, if_neg (by decide)] at h2
      have hLO := object_left (f := f) hEy
      have co : ∀ W : World, W.heap = wr.heap → Calls Tryz.prog 69 #[.pointer (some ⟨r, 0, none⟩)] W fun e w' => PPost W r tb (VOb W.heap.size) (objectL f ys) e w' := fun W hW => pobject_any f ys v' W r tb (by omega) (by omega) (hP.of_heap hW) hEy
      obtain ⟨⟨_, _, k0, _, _⟩, fk⟩ := var5 ha
      have hgs := hg.size
      have HM8 : Hid (M = ((objectL f ys).bind fun o r => objsL f g' (qs.map Prod.fst ++ [o]) r).bind K) := h2
      have HLO : Hid (Lft 1 ys (objectL f ys)) := hLO
      have co1 := co wr.drew rfl
      have hbr : ba ≠ r := by omega
      clear hh h2 hC hLO
      go_wp2_with (go_at_call 68; refine cc.mono ?_; rintro e w2 ⟨rfl, rfl⟩)
      go_region_law
          (first
            | (refine step_call rfl 69 #[.pointer (some ⟨r, 0, none⟩)] (by first | rfl | go_simp) co1 ?_; rintro e w3 hPP; rcases ppost_use hPP with ⟨⟨ok, on, oo, ol, oc, oat, ond, ont⟩, s, u, v3, e1, rfl, ⟨pv, rfl, hAt⟩, hP3, hg3⟩ | ⟨c, x9, e1, hG, hg3⟩; rotate_left; (focus (obtain ⟨q, p, rfl, hq⟩ := hG; refine Or.inr ⟨_, rfl, rfl, ?_⟩; rw [HM8.out, e1, PR.bind_bad, PR.bind_bad]; exact ⟨gup_mono ⟨q, p, rfl, hq⟩ hgs, grown_trans hg (grown_trans (grown_of_below (Below.refl wr.heap.size wr).drew) hg3)⟩)); refine Or.inl ⟨_, rfl, ?_⟩; have HE1 : Hid (_ = _) := e1; clear e1 hPP; have ha3 := (hg3.block ba hbs (fun e => by cases e; exact hbr rfl)).trans ha; obtain ⟨⟨_, _, k1, _, _⟩, fk1⟩ := var5 ha3; have hO3 := own_grown (w := wr.drew) hO hg3 (by omega); have hs3 := heap_lt ha3; obtain ⟨pa, pn, pc, rfl⟩ := attrsAt_shape hAt; unfold obC)
            | (refine step_append_own_at rfl (.tmp 26) (.tmp 29) 22 rfl (ba + 1) 71 i0 (.agg zero8) 8 104 Tryz.underlying22 hi hz0 hz1 hz2 rfl (by decide) (.slice av qs.length cv) qs.length (rowsO qs) rfl (hO3.alloc _) ⟨w3.heap.size, 0, none⟩ 1 1 [.string ⟨ok.toArray⟩, .string ⟨on.toArray⟩, .int .i64 oo, .int .i64 ol, .int .i64 oc, .slice pa pn pc, .bool ond, .string ⟨ont.toArray⟩] rfl rfl (cell_new7 w3 #[.string ⟨ok.toArray⟩, .string ⟨on.toArray⟩, .int .i64 oo, .int .i64 ol, .int .i64 oc, .slice pa pn pc, .bool ond, .string ⟨ont.toArray⟩] _) (one8 _ _ _ _ _ _ _ _ _ _) (by unfold maxLen; omega) (by omega) (by simp; omega) ?_; intro v6 w6 ho6 hg6 hat6; have hg7 := grown_alloc hg6; have ha6 := (hg7.block ba hs3 (fun e => by have := (hO3.lt _ e.symm).1; omega)).trans ha3; obtain ⟨av6, cv6, rfl⟩ := own_shape8 ho6; obtain ⟨⟨_, _, k2, _, _⟩, fk2⟩ := var5 ha6))
      all_goals
        obtain ⟨hEs, hls⟩ := HLO.out _ _ HE1.out
        have HM9 : Hid (M = (objsL f g' (qs.map Prod.fst ++ [⟨ok, on, oo, ol, oc, oat, ond, ont⟩]) s).bind K) := by
          show M = _
          rw [HM8.out, HE1.out, PR.bind_ok]
        have hob3 : ∀ g, (Value.slice av qs.length cv).ownBlock = some g → ba + 1 ≤ g ∧ g < wr.heap.size := fun g e => ⟨(hO3.lt g e).1, (hO.lt g e).2⟩
        have hblk : ∀ g, g < w3.heap.size → (Value.slice av qs.length cv).ownBlock ≠ some g → (Value.slice av6 (qs.length + 1) cv6).ownBlock ≠ some g := fun g hl hne e => by
          rcases hat6 with h | h
          · rw [h] at e; exact hne e
          · rw [h] at e; simp at e; omega
        have hgd : wr.grownBy w3 (some r) := grown_trans (grown_of_below (Below.refl wr.heap.size wr).drew) hg3
        have hgs2 := grown_set w6 ba 2 (.slice av6 (qs.length + 1) cv6)
        have ha7 : (w6.setCell ⟨ba, 2, none⟩ (.slice av6 (qs.length + 1) cv6)).heap[ba]? = some (.cells #[.string ⟨x3.z.text.toArray⟩, .string ⟨x6.z.text.toArray⟩, .slice av6 (qs.length + 1) cv6, .bool false, .string ⟨#[]⟩] 24 (0, 0)) := heap_setCell_same w6 ba 2 _ _ _ ha6
        have hP6 : Pa w6 r tb s v3 := hP3.grownO hg7 (fun e => by have := (hob3 _ e.symm).1; omega) (fun e => by have := (hob3 _ e.symm).1; omega)
        have hP7 := hP6.grown hgs2 (by omega) (by omega)
        have hv3 := (hgd.block _ (heap_lt hv) (fun e => by cases e; omega)).trans hv
        have hv6 := (hg7.block _ (heap_lt hv3) (fun e => by have := (hob3 _ e.symm).1; omega)).trans hv3
        have hv7 := (hgs2.block _ (heap_lt hv6) (fun e => by cases e; omega)).trans hv6
        have hgw3 := grown_trans hg hgd
        have hw6 : w.grownBy w6 (some r) := ⟨hg7.os.trans hgw3.os, hg7.tape.trans hgw3.tape, hg7.output.trans hgw3.output, Nat.le_trans hgw3.size hg7.size, fun i hi hr => (hg7.block i (Nat.lt_of_lt_of_le hi hgw3.size) (fun e => by have := (hob3 _ e.symm).1; omega)).trans (hgw3.block i hi hr)⟩
        have hw7 := grown_new hw6 hgs2 (by omega)
        have hO6 : w6.ownsRow (ba + 1) 71 8 (.slice av6 (qs.length + 1) cv6) (qs ++ [((⟨ok, on, oo, ol, oc, oat, ond, ont⟩ : Ob), Value.slice pa pn pc)]).length (rowsO (qs ++ [((⟨ok, on, oo, ol, oc, oat, ond, ont⟩ : Ob), Value.slice pa pn pc)])) := by
          rw [rowsO_snoc, List.length_append]; exact ho6
        have hO7 := own_grown hO6 hgs2 (Nat.lt_succ_self _)
        have hA7 : ∀ q, q ∈ qs ++ [((⟨ok, on, oo, ol, oc, oat, ond, ont⟩ : Ob), Value.slice pa pn pc)] → AttrsAt (w6.setCell ⟨ba, 2, none⟩ (.slice av6 (qs.length + 1) cv6)) (fun g => ba < g ∧ (Value.slice av6 (qs.length + 1) cv6).ownBlock ≠ some g) q.2 q.1.attrs := fun q hq => by
          refine attrsAt_grown hgs2 (fun hF => absurd hF.1 (Nat.lt_irrefl _)) ?_
          rcases List.mem_append.1 hq with hq | hq
          · exact attrsAt_move hg7.size (fun g hF hl => ⟨hg7.block g hl hF.2.symm, hF.1, hblk g hl hF.2⟩) (attrsAt_grown hgd (fun hF => by omega) (hA q hq))
          · have hqe : q = _ := List.mem_singleton.1 hq
            subst hqe
            have hne : ∀ g, wr.heap.size ≤ g → (Value.slice av qs.length cv).ownBlock ≠ some g := fun g hF e => by have := (hob3 g e).2; omega
            exact attrsAt_move hg7.size (fun g hF hl => ⟨hg7.block g hl (hne g hF).symm, Nat.lt_of_lt_of_le hbs hF, hblk g hl (hne g hF)⟩) hAt
        have hpl7 := paLen_eq hP7
        clear ho6 hg6 hg7 hO3 hAt hP3 hgw3 hob3 hblk hat6 hgd hgs2 hP6 hv3 hv6 hw6 hO6 ha6 ha3 hg3
        go_wp2
        go_roundw
        case rel =>
          refine ⟨g', s, qs ++ [((⟨ok, on, oo, ol, oc, oat, ond, ont⟩ : Ob), Value.slice pa pn pc)], _, v3, ?_, by omega, by simp; omega, hP7, hEs, hv7, ha7, hO7, hA7, hw7⟩
          show M = _
          rw [HM9.out, List.map_append]
          rfl
        case measure => rw [hpl7, hpl]; omega
    | true =>
      rw [hC] at cc
      rw [hC, if_pos rfl, PR.bind_ok, HK2.out] at h2
      dsimp only at h2
      have HM20 : Hid (M = _) := h2
      have hB20 : ObjsAt wr (fun g => ba < g) (.slice av qs.length cv) (qs.map Prod.fst) := objsAt_own hO (fun g hg => hg) (fun q hq => attrsAt_mono (fun g hF => hF.1) (hA q hq))
      clear hh h2 hC hO hA HK2
      go_wp2_with (go_at_call 68; refine cc.mono ?_; rintro e w2 ⟨rfl, rfl⟩)
      refine (ptake_any r tb ys v' 5 wr hP hEy).mono ?_
      rintro e w21 hPP
      rcases ppost_use hPP with ⟨x20, s21, u, v21, e1, rfl, rfl, hP21, hg9⟩ | ⟨c, x9, e1, hG, hg9⟩
      rotate_left
      · have HM4 : Hid (M = .bad c x9) := by
          show M = _
          rw [HM20.out, e1, PR.bind_bad]
        obtain ⟨q, p, rfl, hq⟩ := hG
        refine ⟨rfl, ?_⟩
        rw [HM4.out]
        exact ⟨gup_mono ⟨q, p, rfl, hq⟩ hg.size, grown_trans hg hg9⟩
      have hE21 := take_left hEy (by decide) _ _ e1
      have HM21 : Hid (M = _) := HM20.out.trans (by rw [e1, PR.bind_ok])
      have hv21 := (hg9.block _ (heap_lt hv) (fun e => by cases e; omega)).trans hv
      have ha21 := (hg9.block _ (heap_lt ha) (fun e => by cases e; omega)).trans ha
      have hB21 := objsAt_grown hg9 (fun hF => by omega) hB20
      have hg21 := grown_trans hg hg9
      clear hPP HM20 e1 hg hP hv ha hg9 hB20 cc
      unfold tzV tzC
      go_wp2_with fail
      refine (pnote_any r tb s21 v21 w21 hP21 hE21.1).mono ?_
      rintro e wU hPP
      rcases ppost_use hPP with ⟨nt, s22, u, vU, e1, rfl, rfl, hPU, hg9⟩ | ⟨c, x9, e1, hG, hg9⟩
      rotate_left
      · have HM4 : Hid (M = .bad c x9) := by
          show M = _
          rw [HM21.out, e1, PR.bind_bad]
        obtain ⟨q, p, rfl, hq⟩ := hG
        refine ⟨rfl, ?_⟩
        rw [HM4.out]
        exact ⟨gup_mono ⟨q, p, rfl, hq⟩ hg21.size, grown_trans hg21 hg9⟩
      have hE22 := note_left hE21.1 _ _ e1
      have HM22 : Hid (M = _) := HM21.out.trans (by rw [e1, PR.bind_ok])
      have hvU := (hg9.block _ (heap_lt hv21) (fun e => by cases e; omega)).trans hv21
      have haU := (hg9.block _ (heap_lt ha21) (fun e => by cases e; omega)).trans ha21
      have hBU := objsAt_grown hg9 (fun hF => by omega) hB21
      have hgU := grown_trans hg21 hg9
      obtain ⟨⟨_, _, _, y3, y4⟩, fy⟩ := var5 haU
      clear hPP HM21 e1 hg21 hP21 hv21 ha21 hg9 hB21
      go_wp2_with fail
      have haX := setNote5_at wU ba _ _ _ _ _ _ (.bool (noteB nt)) (.string ⟨(noteT nt).toArray⟩) haU
      have hgX := setNote5_grown wU ba (.bool (noteB nt)) (.string ⟨(noteT nt).toArray⟩)
      have hvX := (hgX.block _ (heap_lt hvU) (fun e => by cases e; omega)).trans hvU
      have hBX := objsAt_grown hgX (fun hF => by omega) hBU
      have hPX := hPU.grown hgX (by omega) (by omega)
      have hgY := grown_new hgU hgX (by omega)
      clear haU hgX hvU hBU hPU hgU y3 y4 fy
      generalize ((wU.setCell ⟨ba, 3, none⟩ (.bool (noteB nt))).setCell ⟨ba, 4, none⟩ (.string ⟨(noteT nt).toArray⟩)) = wX at *
      refine (ptake_any r tb s22 vU 7 wX hPX hE22.1).mono ?_
      rintro e w23 hPP
      rcases ppost_use hPP with ⟨x22, s23, u, v23, e1, rfl, rfl, hP23, hg9⟩ | ⟨c, x9, e1, hG, hg9⟩
      rotate_left
      · have HM4 : Hid (M = .bad c x9) := by
          show M = _
          rw [HM22.out, e1, PR.bind_bad]
        obtain ⟨q, p, rfl, hq⟩ := hG
        refine ⟨rfl, ?_⟩
        rw [HM4.out]
        exact ⟨gup_mono ⟨q, p, rfl, hq⟩ hgY.size, grown_trans hgY hg9⟩
      have hE23 := take_left hE22.1 (by decide) _ _ e1
      have HM23 : Hid (M = _) := HM22.out.trans (by rw [e1, PR.bind_ok])
      have hv23 := (hg9.block _ (heap_lt hvX) (fun e => by cases e; omega)).trans hvX
      have ha23 := (hg9.block _ (heap_lt haX) (fun e => by cases e; omega)).trans haX
      have hB23 := objsAt_grown hg9 (fun hF => by omega) hBX
      have hg23 := grown_trans hgY hg9
      clear hPP HM22 e1 hgY hPX hvX haX hg9 hBX
      unfold tzV tzC
      go_wp2_with fail
      refine (ptake_any r tb s23 v23 0 w23 hP23 hE23.1).mono ?_
      rintro e wZ hPP
      rcases ppost_use hPP with ⟨x23, s24, u, vZ, e1, rfl, rfl, hPZ, hg9⟩ | ⟨c, x9, e1, hG, hg9⟩
      rotate_left
      · have HM4 : Hid (M = .bad c x9) := by
          show M = _
          rw [HM23.out, e1, PR.bind_bad]
        obtain ⟨q, p, rfl, hq⟩ := hG
        refine ⟨rfl, ?_⟩
        rw [HM4.out]
        exact ⟨gup_mono ⟨q, p, rfl, hq⟩ hg23.size, grown_trans hg23 hg9⟩
      have HMZ : Hid (M = .ok ⟨x3.z.text, x6.z.text, qs.map Prod.fst, noteB nt, noteT nt⟩ s24) := HM23.out.trans (by rw [e1, PR.bind_ok])
      have hvZ := (hg9.block _ (heap_lt hv23) (fun e => by cases e; omega)).trans hv23
      have haZ := (hg9.block _ (heap_lt ha23) (fun e => by cases e; omega)).trans ha23
      have hBZ := objsAt_grown hg9 (fun hF => by omega) hB23
      have hgZ := grown_trans hg23 hg9
      obtain ⟨⟨y0, y1, y2, y3, y4⟩, fy⟩ := var5 haZ
      obtain ⟨⟨z0, z1, z2, z3, z4⟩, fz⟩ := var5 hvZ
      have g5 := set5t_grown wZ w.heap.size (.string ⟨x3.z.text.toArray⟩) (.string ⟨x6.z.text.toArray⟩) (.slice av qs.length cv) (.bool (noteB nt)) (.string ⟨(noteT nt).toArray⟩)
      clear hPP HM23 e1 hg23 hP23 hv23 ha23 hg9 hB23 haZ
      unfold tzV tzC
      go_wp2
      rw [HMZ.out]
      refine bodyPost_ret (v := .agg (trC ⟨x3.z.text, x6.z.text, qs.map Prod.fst, noteB nt, noteT nt⟩ (.slice av qs.length cv))) (res_tree Tryz.results48 _ w.heap.size _ _ _ _ _ _ rfl (set5t_at _ _ _ _ _ _ _ _ _ _ _ _ _ hvZ)) rfl ⟨_, _, rfl, ⟨_, rfl, ?_⟩, hPZ.grown g5 (by omega) (by omega), grown_new hgZ g5 (Nat.le_refl _)⟩
      exact objsAt_move g5.size (fun g hF hl => ⟨g5.block g hl (fun e => by cases e; omega), by omega⟩) hBZ
end Go.Proofs.YtlbgppijeoonjaaGreatDoor

