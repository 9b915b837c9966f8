import Derived.Test.YtmidaeljeoifdaaGreatDoorXTbl
namespace Go.Proofs.YtmidaeljeoifdaaGreatDoor
open Go.RowKit
set_option linter.unusedVariables false
set_option linter.unusedSimpArgs false

/-! ### The two answers are one -/
def ringsW (ts : List TkR) : Int → List RgR → Bool
  | _, [] => true
  | ahead, r :: l => inI r.prio 0 (ahead - 1) && ts.any (fun x => x.prio == r.prio) && (r.cap == IntKind.i64.wrap (capN ts r.prio)) && ringsW ts r.prio l
def resOk (tb : Tb) (prio id : Int) : Bool := match tb.ress[id.toNat]? with | some r => !r.inner && decide (prio ≤ r.ceil) | none => false
def ownG (tb : Tb) (prio : Int) : Int → List Int → Bool
  | _, [] => true
  | a, id :: l => decide (a < id) && idB id tb.ress.length && resOk tb prio id && ownG tb prio id l
def autoB (tb : Tb) (a : Nat) : Bool := decide (a < 2 ^ tb.modes.toNat)
def restB (tb : Tb) (x : TkR) : Bool := (x.inner == -1 || inI x.inner x.prio 127) && ownG tb x.prio (-1) x.own && autoB tb x.auto
def tkB (tb : Tb) (x : TkR) : Bool := idB x.ring tb.rings.length && (prioAt tb.rings x.ring == x.prio) && limitB x && restB tb x
def ctB (x : CtR) : Bool := decide (1 ≤ x.max ∧ x.max ≤ 2147483647 ∧ 1 ≤ x.base ∧ x.base ≤ 2147483647 ∧ 1 ≤ x.min ∧ x.min ≤ x.max)
def maskOf (tb : Tb) (i : Int) : Nat := match tb.tasks[i.toNat]? with | some x => x.mask | none => 0
def acB (tb : Tb) (a : AcR) (lo hi : Int) : Bool :=
  inI a.kind lo hi && (if a.kind = 1 then idB a.task tb.tasks.length && (a.mask == 0) else if a.kind = 2 then idB a.task tb.tasks.length && (a.mask != 0) && (bits BinOp.andNot IntKind.u32 (a.mask : Int) (maskOf tb a.task : Int) == 0) else (a.task == 0) && (a.mask == 0))
def ctOf (tb : Tb) (i : Int) : CtR := match tb.ctrs[i.toNat]? with | some x => x | none => ⟨0, 0, 0⟩
def timesB (x : AlR) (k : CtR) : Bool := if x.auto = 0 then (x.time == 0) && (x.cycle == 0) else decide (1 ≤ x.time ∧ x.time ≤ k.max) && (x.cycle == 0 || decide (k.min ≤ x.cycle ∧ x.cycle ≤ k.max))
def alB (tb : Tb) (x : AlR) : Bool := idB x.ctr tb.ctrs.length && acB tb x.ac 1 3 && autoB tb x.auto && timesB x (ctOf tb x.ctr)
def apartB (a b : IsR) : Bool := (a.prio != b.prio) && (a.cat == b.cat || (decide (a.cat < b.cat) == decide (b.prio < a.prio)))
def isB (tb : Tb) (x : IsR) : Bool := inI x.cat 1 2 && inI x.prio 64 127 && (x.cat == 2 || x.own.isEmpty) && ownG tb x.prio (-1) x.own
def isrsG (tb : Tb) (pre : List IsR) : List IsR → Bool
  | [] => true
  | x :: l => isB tb x && pre.all (fun a => apartB a x) && isrsG tb (pre ++ [x]) l
def fldB (x : MsR) : Bool :=
  if x.kind = 1 then (x.len == 1 || x.len == 2 || x.len == 4 || x.len == 8) && (x.frm == 0) && (x.init == 0) && (x.queue == 0)
  else if x.kind = 2 then (x.len == 0) && decide (x.init ≤ 4294967295) && (x.queue == 0)
  else if x.kind = 3 then (x.len == 0) && (x.init == 0) && inI x.queue 1 16 else false
def msOf (tb : Tb) (i : Int) : MsR := match tb.msgs[i.toNat]? with | some x => x | none => ⟨0, 0, 0, 0, 0, ⟨0, 0, 0⟩⟩
def sndB (tb : Tb) (x : MsR) : Bool := idB x.frm tb.msgs.length && ((msOf tb x.frm).kind == 1) && decide (x.init < 2 ^ (8 * (msOf tb x.frm).len.toNat))
def msB (tb : Tb) (x : MsR) : Bool := if x.kind = 1 then acB tb x.ac 0 0 else sndB tb x && acB tb x.ac 0 4
def countsB (tb : Tb) : Bool := inI tb.uses 0 255 && inI tb.modes 1 8 && inI tb.tasks.length 1 256 && decide (tb.ress.length ≤ 65 ∧ tb.ctrs.length ≤ 16 ∧ tb.als.length ≤ 64 ∧ tb.isrs.length ≤ 32 ∧ tb.msgs.length ≤ 64)
def maxL (l : List Nat) : Nat := l.foldl max 0
theorem maxL_le {l : List Nat} {b : Nat} : maxL l ≤ b ↔ ∀ x ∈ l, x ≤ b := by
  have h : ∀ (l : List Nat) (a : Nat), l.foldl max a ≤ b ↔ a ≤ b ∧ ∀ x ∈ l, x ≤ b := by
    intro l
    induction l with
    | nil => intro a; simp
    | cons y l ih =>
      intro a
      rw [List.foldl_cons, ih, Nat.max_le, and_assoc]
      simp only [List.mem_cons, forall_eq_or_imp]
  unfold maxL
  rw [h]
  simp
/-- How many are at one place, where most are. -/
def crowdL (l : List Int) : Nat := maxL (l.map fun k => l.count k)
def mostD (n : Nat) (l : List Int) : Nat := maxL ((List.range n).map fun (k : Nat) => l.count (k : Int))
theorem crowd_most {n : Nat} {l : List Int} (h : ∀ k ∈ l, 0 ≤ k ∧ k < (n : Int)) : crowdL l = mostD n l := by
  apply Nat.le_antisymm
  · refine maxL_le.2 (fun x hx => ?_)
    obtain ⟨k, hk, rfl⟩ := List.mem_map.1 hx
    obtain ⟨h0, h1⟩ := h k hk
    have : l.count k ∈ (List.range n).map fun (k : Nat) => l.count (k : Int) := List.mem_map.2 ⟨k.toNat, List.mem_range.2 (by omega), by rw [Int.toNat_of_nonneg h0]⟩
    exact maxL_le.1 (Nat.le_refl _) _ this
  · refine maxL_le.2 (fun x hx => ?_)
    obtain ⟨k, hk, rfl⟩ := List.mem_map.1 hx
    by_cases hm : (k : Int) ∈ l
    · exact maxL_le.1 (Nat.le_refl _) _ (List.mem_map.2 ⟨(k : Int), hm, rfl⟩)
    · rw [List.count_eq_zero_of_not_mem hm]
      exact Nat.zero_le _
def rcvL (tb : Tb) : List Int := (tb.msgs.filter fun x => x.kind != 1).map fun x => x.frm
def callsN (tb : Tb) : Nat := (tb.als.filter fun x => x.ac.kind == 3).length + (tb.msgs.filter fun x => x.ac.kind == 3).length
def roomB (tb : Tb) (most : Nat) : Bool := (tb.depth == (tb.rings.length : Int)) && (tb.frames == (tb.isrs.length : Int) + 4) && (tb.errors == (max 2 most : Nat)) && (tb.calls == (callsN tb : Int))
/-- The program's Check. -/
def chkP (tb : Tb) : Bool := countsB tb && tb.ress.all (fun r => inI r.ceil (-1) 127) && ringsW tb.tasks 64 tb.rings && tb.tasks.all (tkB tb) && tb.ctrs.all ctB && tb.als.all (alB tb) && isrsG tb [] tb.isrs && (tb.msgs.all fldB && tb.msgs.all (msB tb))
  && roomB tb (max (crowdL (tb.als.map fun x => x.ctr)) (crowdL (rcvL tb)))
/-- The document's. -/
def firstD (x : TkR) : Bool := inI x.prio 0 63 && inI x.limit 1 255 && (x.mask == 0 || x.limit == 1)
def msD (tb : Tb) (x : MsR) : Bool :=
  if x.kind = 1 then (x.len == 1 || x.len == 2 || x.len == 4 || x.len == 8) && (x.frm == 0) && (x.init == 0) && (x.queue == 0) && ((x.ac.kind == 0) && (x.ac.task == 0) && (x.ac.mask == 0))
  else inI x.kind 1 3 && (x.len == 0) && (x.kind != 2 || x.queue == 0) && (x.kind != 3 || ((x.init == 0) && inI x.queue 1 16)) && idB x.frm tb.msgs.length && ((msOf tb x.frm).kind == 1) && decide (x.init ≤ 4294967295)
    && !(decide (0 ≤ (msOf tb x.frm).len) && decide ((msOf tb x.frm).len < 8) && decide (2 ^ (8 * (msOf tb x.frm).len.toNat) ≤ x.init)) && acB tb x.ac 0 4
def chkD (tb : Tb) : Bool := countsB tb && tb.ress.all (fun r => inI r.ceil (-1) 127) && (tb.tasks.all firstD && decide (tb.rings = ringsD tb.tasks 64) && tb.tasks.all (fun x => idB x.ring tb.rings.length && (prioAt tb.rings x.ring == x.prio) && restB tb x))
  && (tb.ctrs.all ctB && tb.als.all (alB tb)) && isrsG tb [] tb.isrs && tb.msgs.all (msD tb)
  && roomB tb (max (mostD tb.ctrs.length (tb.als.map fun x => x.ctr)) (mostD tb.msgs.length (rcvL tb)))
theorem limit_first {x : TkR} : limitB x = true ↔ inI x.limit 1 255 = true ∧ (x.mask = 0 ∨ x.limit = 1) := by
  unfold limitB inI
  by_cases h : x.mask = 0
  · simp [h]
  · simp [h]
    omega
theorem cap_le {ts : List TkR} (hl : ∀ x ∈ ts, 1 ≤ x.limit ∧ x.limit ≤ 255) (p : Int) : 0 ≤ capN ts p ∧ capN ts p ≤ 255 * (ts.length : Int) := by
  induction ts with
  | nil => simp [capN]
  | cons y r ih =>
    have h1 := hl y (List.mem_cons_self ..)
    have ih := ih (fun x hx => hl x (List.mem_cons_of_mem _ hx))
    rw [capN, List.length_cons]
    split <;> omega
theorem wrap_id {v : Int} (h0 : 0 ≤ v) (h1 : v ≤ 65280) : IntKind.i64.wrap v = v := by
  unfold IntKind.wrap
  simp [IntKind.signed, IntKind.bits]
  omega
theorem ringsW_eq {ts : List TkR} (hl : ∀ x ∈ ts, 1 ≤ x.limit ∧ x.limit ≤ 255) (hn : ts.length ≤ 256) : ∀ (a : Int) (l : List RgR), ringsW ts a l = ringsG ts a l
  | _, [] => by rw [ringsW, ringsG]
  | a, r :: l => by
    have := cap_le hl r.prio
    rw [ringsW, ringsG, ringsW_eq hl hn r.prio l, wrap_id this.1 (by omega)]
theorem prio_mem {l : List RgR} {i p : Int} (hi : idB i l.length = true) (hp : prioAt l i = p) : ∃ r ∈ l, r.prio = p := by
  unfold idB at hi
  simp at hi
  have hlt : i.toNat < l.length := by omega
  unfold prioAt at hp
  rw [List.getElem?_eq_getElem hlt] at hp
  exact ⟨_, List.getElem_mem hlt, hp⟩
theorem rings_in {ts : List TkR} : ∀ {a : Int} {l : List RgR}, ringsG ts a l = true → ∀ r ∈ l, 0 ≤ r.prio ∧ r.prio < a
  | a, [], _, r, hr => by cases hr
  | a, r0 :: l, h, r, hr => by
    rw [ringsG] at h
    simp only [Bool.and_eq_true, inI, decide_eq_true_eq] at h
    rcases List.mem_cons.1 hr with rfl | hr
    · omega
    · have := rings_in h.2 r hr
      omega
theorem msg_same {tb : Tb} (hinit : ∀ x ∈ tb.msgs, x.init < 18446744073709551616) : (tb.msgs.all fldB && tb.msgs.all (msB tb)) = true ↔ tb.msgs.all (msD tb) = true := by
  rw [Bool.and_eq_true, List.all_eq_true, List.all_eq_true, List.all_eq_true]
  have at' : ∀ (i : Int), idB i tb.msgs.length = true → msOf tb i ∈ tb.msgs := fun i hi => by
    unfold idB at hi
    simp at hi
    have hlt : i.toNat < tb.msgs.length := by omega
    unfold msOf
    rw [List.getElem?_eq_getElem hlt]
    exact List.getElem_mem hlt
  have ac0 : ∀ a : AcR, acB tb a 0 0 = true ↔ a.kind = 0 ∧ a.task = 0 ∧ a.mask = 0 := fun a => by
    unfold acB inI
    by_cases h1 : a.kind = 1
    · simp [h1]
    · by_cases h2 : a.kind = 2
      · simp [h2]
      · simp [h1, h2]
        omega
  constructor
  · rintro ⟨hf, hm⟩ x hx
    have f := hf x hx
    have m := hm x hx
    unfold fldB at f
    unfold msB at m
    unfold msD
    by_cases h1 : x.kind = 1
    · rw [if_pos h1] at f m ⊢
      have := (ac0 _).1 m
      simp only [Bool.and_eq_true, beq_iff_eq] at f ⊢
      exact ⟨f, ⟨this.1, this.2.1⟩, this.2.2⟩
    · rw [if_neg h1] at f m ⊢
      simp only [Bool.and_eq_true] at m
      obtain ⟨ms, ma⟩ := m
      unfold sndB at ms
      simp only [Bool.and_eq_true, beq_iff_eq, decide_eq_true_eq] at ms
      obtain ⟨⟨s1, s2⟩, s3⟩ := ms
      by_cases h2 : x.kind = 2
      · rw [if_pos h2] at f
        simp only [Bool.and_eq_true, beq_iff_eq, decide_eq_true_eq] at f
        simp [h2, inI, f.1.1, f.2, s1, s2, f.1.2, ma]
        intros
        omega
      · rw [if_neg h2] at f
        by_cases h3 : x.kind = 3
        · rw [if_pos h3] at f
          simp only [Bool.and_eq_true, beq_iff_eq, decide_eq_true_eq] at f
          simp [h3, f.1.1, f.1.2, f.2, s1, s2, ma]
          simp [inI]
        · rw [if_neg h3] at f
          cases f
  · intro h
    refine ⟨fun x hx => ?_, fun x hx => ?_⟩
    · have d := h x hx
      unfold msD at d
      unfold fldB
      by_cases h1 : x.kind = 1
      · rw [if_pos h1] at d ⊢
        simp only [Bool.and_eq_true, beq_iff_eq] at d ⊢
        exact d.1
      · rw [if_neg h1] at d ⊢
        simp only [Bool.and_eq_true, beq_iff_eq, decide_eq_true_eq] at d
        obtain ⟨⟨⟨⟨⟨⟨⟨⟨d1, d2⟩, d3⟩, d4⟩, d5⟩, d6⟩, d7⟩, d8⟩, d9⟩ := d
        by_cases h2 : x.kind = 2
        · rw [if_pos h2]
          simp [h2] at d3
          simp [d2, d3, d7]
        · rw [if_neg h2]
          have h3 : x.kind = 3 := by simp [inI] at d1; omega
          rw [if_pos h3]
          simp [h3] at d4
          simp [d2, d4]
    · have d := h x hx
      unfold msD at d
      unfold msB
      by_cases h1 : x.kind = 1
      · rw [if_pos h1] at d ⊢
        simp only [Bool.and_eq_true, beq_iff_eq] at d
        exact (ac0 _).2 ⟨d.2.1.1, d.2.1.2, d.2.2⟩
      · rw [if_neg h1] at d ⊢
        simp only [Bool.and_eq_true, beq_iff_eq, decide_eq_true_eq] at d
        obtain ⟨⟨⟨⟨⟨⟨⟨⟨d1, d2⟩, d3⟩, d4⟩, d5⟩, d6⟩, d7⟩, d8⟩, d9⟩ := d
        rw [Bool.and_eq_true]
        refine ⟨?_, d9⟩
        unfold sndB
        simp only [Bool.and_eq_true, beq_iff_eq, decide_eq_true_eq]
        refine ⟨⟨d5, d6⟩, ?_⟩
        have ds := h _ (at' _ d5)
        unfold msD at ds
        rw [if_pos d6] at ds
        simp only [Bool.and_eq_true, Bool.or_eq_true, beq_iff_eq] at ds
        have hl := ds.1.1.1.1
        have hi := hinit x hx
        simp at d8
        rcases hl with ((e | e) | e) | e
        · rw [e] at d8 ⊢
          have := d8.resolve_left (by omega)
          simpa using this
        · rw [e] at d8 ⊢
          have := d8.resolve_left (by omega)
          simpa using this
        · rw [e] at d8 ⊢
          have := d8.resolve_left (by omega)
          simpa using this
        · rw [e]
          simpa using hi
/-- The two Checks have one answer. -/
theorem chk_same {tb : Tb} (hinit : ∀ x ∈ tb.msgs, x.init < 18446744073709551616) : chkP tb = chkD tb := by
  rw [Bool.eq_iff_iff]
  unfold chkP chkD
  rw [Bool.and_eq_true, Bool.and_eq_true (a := _ && tb.msgs.all (msD tb))]
  have key : (countsB tb && tb.ress.all (fun r => inI r.ceil (-1) 127) && ringsW tb.tasks 64 tb.rings && tb.tasks.all (tkB tb) && tb.ctrs.all ctB && tb.als.all (alB tb) && isrsG tb [] tb.isrs && (tb.msgs.all fldB && tb.msgs.all (msB tb))) = true ↔
      (countsB tb && tb.ress.all (fun r => inI r.ceil (-1) 127) && (tb.tasks.all firstD && decide (tb.rings = ringsD tb.tasks 64) && tb.tasks.all (fun x => idB x.ring tb.rings.length && (prioAt tb.rings x.ring == x.prio) && restB tb x))
        && (tb.ctrs.all ctB && tb.als.all (alB tb)) && isrsG tb [] tb.isrs && tb.msgs.all (msD tb)) = true := by
    rw [Bool.and_eq_true, msg_same hinit]
    simp only [Bool.and_eq_true, decide_eq_true_eq]
    have hn : countsB tb = true → tb.tasks.length ≤ 256 := fun h => by
      unfold countsB inI at h
      simp at h
      omega
    constructor
    · rintro ⟨⟨⟨⟨⟨⟨⟨c, r⟩, g⟩, t⟩, k⟩, a⟩, i⟩, m⟩
      have hl : ∀ x ∈ tb.tasks, 1 ≤ x.limit ∧ x.limit ≤ 255 := fun x hx => by
        have := List.all_eq_true.1 t x hx
        unfold tkB at this
        simp only [Bool.and_eq_true] at this
        have := (limit_first.1 this.1.2).1
        unfold inI at this
        simpa using this
      rw [ringsW_eq hl (hn c)] at g
      have hm : ∀ x ∈ tb.tasks, ∃ r ∈ tb.rings, r.prio = x.prio := fun x hx => by
        have := List.all_eq_true.1 t x hx
        unfold tkB at this
        simp only [Bool.and_eq_true, beq_iff_eq] at this
        exact prio_mem this.1.1.1 this.1.1.2
      have e := rings_one (fun x hx => (hl x hx).1) 64 tb.rings g (fun x hx _ => hm x hx)
      refine ⟨⟨⟨⟨⟨c, r⟩, ⟨?_, e⟩, ?_⟩, k, a⟩, i⟩, m⟩
      · apply List.all_eq_true.2
        intro x hx
        have hx2 := List.all_eq_true.1 t x hx
        unfold tkB at hx2
        simp only [Bool.and_eq_true] at hx2
        obtain ⟨r', hr', ep⟩ := hm x hx
        have := rings_in g r' hr'
        have h2 := limit_first.1 hx2.1.2
        unfold firstD
        simp only [Bool.and_eq_true, Bool.or_eq_true, beq_iff_eq]
        refine ⟨⟨?_, h2.1⟩, h2.2⟩
        unfold inI
        simp
        omega
      · apply List.all_eq_true.2
        intro x hx
        have hx2 := List.all_eq_true.1 t x hx
        unfold tkB at hx2
        simp only [Bool.and_eq_true] at hx2 ⊢
        exact ⟨hx2.1.1, hx2.2⟩
    · rintro ⟨⟨⟨⟨⟨c, r⟩, ⟨f, e⟩, t⟩, k, a⟩, i⟩, m⟩
      have hf : ∀ x ∈ tb.tasks, inI x.limit 1 255 = true ∧ (x.mask = 0 ∨ x.limit = 1) := fun x hx => by
        have := List.all_eq_true.1 f x hx
        unfold firstD at this
        simp only [Bool.and_eq_true, Bool.or_eq_true, beq_iff_eq] at this
        exact ⟨this.1.2, this.2⟩
      have hl : ∀ x ∈ tb.tasks, 1 ≤ x.limit ∧ x.limit ≤ 255 := fun x hx => by
        have := (hf x hx).1
        unfold inI at this
        simpa using this
      refine ⟨⟨⟨⟨⟨⟨⟨c, r⟩, ?_⟩, ?_⟩, k⟩, a⟩, i⟩, m⟩
      · rw [ringsW_eq hl (hn c), e]
        exact ringsD_ok (fun x hx => (hl x hx).1) 64
      · apply List.all_eq_true.2
        intro x hx
        have hx2 := List.all_eq_true.1 t x hx
        unfold tkB
        simp only [Bool.and_eq_true] at hx2 ⊢
        exact ⟨⟨hx2.1, limit_first.2 (hf x hx)⟩, hx2.2⟩
  rw [key]
  constructor
  · rintro ⟨h, q⟩
    refine ⟨h, ?_⟩
    rw [← most_same h]
    exact q
  · rintro ⟨h, q⟩
    refine ⟨h, ?_⟩
    rw [most_same h]
    exact q
  where
    most_same {tb : Tb} (h : (countsB tb && tb.ress.all (fun r => inI r.ceil (-1) 127) && (tb.tasks.all firstD && decide (tb.rings = ringsD tb.tasks 64) && tb.tasks.all (fun x => idB x.ring tb.rings.length && (prioAt tb.rings x.ring == x.prio) && restB tb x))
          && (tb.ctrs.all ctB && tb.als.all (alB tb)) && isrsG tb [] tb.isrs && tb.msgs.all (msD tb)) = true) : max (crowdL (tb.als.map fun x => x.ctr)) (crowdL (rcvL tb)) = max (mostD tb.ctrs.length (tb.als.map fun x => x.ctr)) (mostD tb.msgs.length (rcvL tb)) := by
      simp only [Bool.and_eq_true] at h
      have ha := h.1.1.2.2
      have hm := h.2
      rw [crowd_most (n := tb.ctrs.length), crowd_most (n := tb.msgs.length)]
      · intro k hk
        unfold rcvL at hk
        obtain ⟨x, hx, rfl⟩ := List.mem_map.1 hk
        obtain ⟨hx1, hx2⟩ := List.mem_filter.1 hx
        have d := List.all_eq_true.1 hm x hx1
        unfold msD at d
        rw [if_neg (by simpa using hx2)] at d
        simp only [Bool.and_eq_true, idB, decide_eq_true_eq] at d
        exact d.1.1.1.1.2
      · intro k hk
        obtain ⟨x, hx, rfl⟩ := List.mem_map.1 hk
        have d := List.all_eq_true.1 ha x hx
        unfold alB at d
        simp only [Bool.and_eq_true, idB, decide_eq_true_eq] at d
        exact d.1.1.1
end Go.Proofs.YtmidaeljeoifdaaGreatDoor

namespace Go.Proofs.YtmidaeljeoifdaaGreatDoor
open Go.RowKit
set_option linter.unusedVariables false
set_option linter.unusedSimpArgs false

/-! ### Tables: the small checks -/
theorem ret_bool' {a b : Bool} (h : a = b) : Ending.returned (.bool a) = Ending.returned (.bool b) := by rw [h]
set_option maxRecDepth 100000 in
theorem withinI_any (v lo hi : Int) (w : World) : Calls Tryz.prog 46 #[I v, I lo, I hi] w fun e w' => e = .returned (.bool (inI v lo hi)) ∧ w' = w := by
  unfold inI
  go_enter Tryz.func46, Tryz.ntmps46
  by_cases h1 : lo ≤ v
  · by_cases h2 : v ≤ hi
    · go_wp2
      go_ret
      exact ⟨ret_bool' (by first | (rw [Bool.eq_iff_iff]; simp; omega) | (simp; omega) | (simp_all; done)), rfl⟩
    · have h2' : hi < v := by omega
      go_wp2
      go_ret
      exact ⟨ret_bool' (by first | (rw [Bool.eq_iff_iff]; simp; omega) | (simp; omega) | (simp_all; done)), rfl⟩
  · have h1' : v < lo := by omega
    go_wp2
    go_ret
    exact ⟨ret_bool' (by first | (rw [Bool.eq_iff_iff]; simp; omega) | (simp; omega) | (simp_all; done)), rfl⟩
set_option maxRecDepth 100000 in
theorem withinK_any (v lo hi : Int) (w : World) : Calls Tryz.prog 108 #[I v, I lo, I hi] w fun e w' => e = .returned (.bool (inI v lo hi)) ∧ w' = w := by
  unfold inI
  go_enter Tryz.func108, Tryz.ntmps108
  by_cases h1 : lo ≤ v
  · by_cases h2 : v ≤ hi
    · go_wp2
      go_ret
      exact ⟨ret_bool' (by first | (rw [Bool.eq_iff_iff]; simp; omega) | (simp; omega) | (simp_all; done)), rfl⟩
    · have h2' : hi < v := by omega
      go_wp2
      go_ret
      exact ⟨ret_bool' (by first | (rw [Bool.eq_iff_iff]; simp; omega) | (simp; omega) | (simp_all; done)), rfl⟩
  · have h1' : v < lo := by omega
    go_wp2
    go_ret
    exact ⟨ret_bool' (by first | (rw [Bool.eq_iff_iff]; simp; omega) | (simp; omega) | (simp_all; done)), rfl⟩
set_option maxRecDepth 100000 in
theorem withinU_any (v lo hi : Nat) (w : World) : Calls Tryz.prog 59 #[.int .u32 (v : Int), .int .u32 (lo : Int), .int .u32 (hi : Int)] w fun e w' => e = .returned (.bool (decide (lo ≤ v) && decide (v ≤ hi))) ∧ w' = w := by
  go_enter Tryz.func59, Tryz.ntmps59
  by_cases h1 : lo ≤ v
  · have g1 : (lo : Int) ≤ v := by omega
    by_cases h2 : v ≤ hi
    · have g2 : (v : Int) ≤ hi := by omega
      go_wp2
      go_ret
      exact ⟨ret_bool' (by first | (rw [Bool.eq_iff_iff]; simp; omega) | (simp; omega) | (simp_all; done)), rfl⟩
    · have g2 : ¬ (v : Int) ≤ hi := by omega
      go_wp2
      go_ret
      exact ⟨ret_bool' (by first | (rw [Bool.eq_iff_iff]; simp; omega) | (simp; omega) | (simp_all; done)), rfl⟩
  · have g1 : ¬ (lo : Int) ≤ v := by omega
    go_wp2
    go_ret
    exact ⟨ret_bool' (by first | (rw [Bool.eq_iff_iff]; simp; omega) | (simp; omega) | (simp_all; done)), rfl⟩
set_option maxRecDepth 100000 in
theorem isID_rings (v : Int) (s : Sl) (w : World) : Calls Tryz.prog 53 #[I v, .slice s.a s.n s.c] w fun e w' => e = .returned (.bool (idB v s.n)) ∧ w' = w := by
  unfold idB
  go_enter Tryz.func53, Tryz.ntmps53
  by_cases h1 : 0 ≤ v
  · by_cases h2 : v < (s.n : Int)
    · go_wp2
      go_ret
      exact ⟨ret_bool' (by first | (rw [Bool.eq_iff_iff]; simp; omega) | (simp; omega) | (simp_all; done)), rfl⟩
    · go_wp2
      go_ret
      exact ⟨ret_bool' (by first | (rw [Bool.eq_iff_iff]; simp; omega) | (simp; omega) | (simp_all; done)), rfl⟩
  · have h1' : v < 0 := by omega
    go_wp2
    go_ret
    exact ⟨ret_bool' (by first | (rw [Bool.eq_iff_iff]; simp; omega) | (simp; omega) | (simp_all; done)), rfl⟩
set_option maxRecDepth 100000 in
theorem isID_ctrs (v : Int) (s : Sl) (w : World) : Calls Tryz.prog 62 #[I v, .slice s.a s.n s.c] w fun e w' => e = .returned (.bool (idB v s.n)) ∧ w' = w := by
  unfold idB
  go_enter Tryz.func62, Tryz.ntmps62
  by_cases h1 : 0 ≤ v
  · by_cases h2 : v < (s.n : Int)
    · go_wp2
      go_ret
      exact ⟨ret_bool' (by first | (rw [Bool.eq_iff_iff]; simp; omega) | (simp; omega) | (simp_all; done)), rfl⟩
    · go_wp2
      go_ret
      exact ⟨ret_bool' (by first | (rw [Bool.eq_iff_iff]; simp; omega) | (simp; omega) | (simp_all; done)), rfl⟩
  · have h1' : v < 0 := by omega
    go_wp2
    go_ret
    exact ⟨ret_bool' (by first | (rw [Bool.eq_iff_iff]; simp; omega) | (simp; omega) | (simp_all; done)), rfl⟩
set_option maxRecDepth 100000 in
theorem isID_ress (v : Int) (s : Sl) (w : World) : Calls Tryz.prog 107 #[I v, .slice s.a s.n s.c] w fun e w' => e = .returned (.bool (idB v s.n)) ∧ w' = w := by
  unfold idB
  go_enter Tryz.func107, Tryz.ntmps107
  by_cases h1 : 0 ≤ v
  · by_cases h2 : v < (s.n : Int)
    · go_wp2
      go_ret
      exact ⟨ret_bool' (by first | (rw [Bool.eq_iff_iff]; simp; omega) | (simp; omega) | (simp_all; done)), rfl⟩
    · go_wp2
      go_ret
      exact ⟨ret_bool' (by first | (rw [Bool.eq_iff_iff]; simp; omega) | (simp; omega) | (simp_all; done)), rfl⟩
  · have h1' : v < 0 := by omega
    go_wp2
    go_ret
    exact ⟨ret_bool' (by first | (rw [Bool.eq_iff_iff]; simp; omega) | (simp; omega) | (simp_all; done)), rfl⟩
set_option maxRecDepth 100000 in
theorem isID_tasks (v : Int) (s : Sl) (w : World) : Calls Tryz.prog 109 #[I v, .slice s.a s.n s.c] w fun e w' => e = .returned (.bool (idB v s.n)) ∧ w' = w := by
  unfold idB
  go_enter Tryz.func109, Tryz.ntmps109
  by_cases h1 : 0 ≤ v
  · by_cases h2 : v < (s.n : Int)
    · go_wp2
      go_ret
      exact ⟨ret_bool' (by first | (rw [Bool.eq_iff_iff]; simp; omega) | (simp; omega) | (simp_all; done)), rfl⟩
    · go_wp2
      go_ret
      exact ⟨ret_bool' (by first | (rw [Bool.eq_iff_iff]; simp; omega) | (simp; omega) | (simp_all; done)), rfl⟩
  · have h1' : v < 0 := by omega
    go_wp2
    go_ret
    exact ⟨ret_bool' (by first | (rw [Bool.eq_iff_iff]; simp; omega) | (simp; omega) | (simp_all; done)), rfl⟩
set_option maxRecDepth 100000 in
theorem isID_msgs (v : Int) (s : Sl) (w : World) : Calls Tryz.prog 111 #[I v, .slice s.a s.n s.c] w fun e w' => e = .returned (.bool (idB v s.n)) ∧ w' = w := by
  unfold idB
  go_enter Tryz.func111, Tryz.ntmps111
  by_cases h1 : 0 ≤ v
  · by_cases h2 : v < (s.n : Int)
    · go_wp2
      go_ret
      exact ⟨ret_bool' (by first | (rw [Bool.eq_iff_iff]; simp; omega) | (simp; omega) | (simp_all; done)), rfl⟩
    · go_wp2
      go_ret
      exact ⟨ret_bool' (by first | (rw [Bool.eq_iff_iff]; simp; omega) | (simp; omega) | (simp_all; done)), rfl⟩
  · have h1' : v < 0 := by omega
    go_wp2
    go_ret
    exact ⟨ret_bool' (by first | (rw [Bool.eq_iff_iff]; simp; omega) | (simp; omega) | (simp_all; done)), rfl⟩
end Go.Proofs.YtmidaeljeoifdaaGreatDoor

namespace Go.Proofs.YtmidaeljeoifdaaGreatDoor
open Go.RowKit
set_option linter.unusedVariables false
set_option linter.unusedSimpArgs false

def tkrC (x : TkR) (s : Sl) : Array Value := #[I x.prio, I x.ring, .bool x.full, I x.limit, .int .u32 (x.mask : Int), I x.inner, .slice s.a s.n s.c, .int .u32 (x.auto : Int)]
def ctrC (x : CtR) : Array Value := #[.int .u32 (x.max : Int), .int .u32 (x.base : Int), .int .u32 (x.min : Int)]
def acrC (x : AcR) : Array Value := #[I x.kind, I x.task, .int .u32 (x.mask : Int)]
def alrC (x : AlR) : Array Value := #[I x.ctr, I x.ac.kind, I x.ac.task, .int .u32 (x.ac.mask : Int), .int .u32 (x.auto : Int), .int .u32 (x.time : Int), .int .u32 (x.cycle : Int)]
def isrC (x : IsR) (s : Sl) : Array Value := #[I x.cat, I x.prio, .slice s.a s.n s.c]
def msrC (x : MsR) : Array Value := #[I x.kind, I x.len, I x.frm, .int .u64 (x.init : Int), I x.queue, I x.ac.kind, I x.ac.task, .int .u32 (x.ac.mask : Int)]
set_option maxHeartbeats 4000000 in
set_option maxRecDepth 100000 in
theorem limitFits_any (x : TkR) (s : Sl) (w : World) : Calls Tryz.prog 54 #[.agg (tkrC x s)] w fun e w' => e = .returned (.bool (limitB x)) ∧ Below w.heap.size w w' := by
  have hb : ∀ o, Below w.heap.size w (w.alloc o) := fun o => below_alloc w o
  unfold tkrC at *
  have k1 := withinI_any x.limit 1 255
  unfold limitB
  go_enter Tryz.func54, Tryz.ntmps54
  by_cases h0 : x.mask = 0
  · have h0' : ((x.mask : Int) != 0) = false := by simp [h0]
    have H0 : Hid (x.mask = 0) := h0
    clear h0
    go_wp2_with (go_at_call 46; refine (k1 _).mono ?_; rintro e w' ⟨rfl, rfl⟩)
    go_ret
    exact ⟨ret_bool' (by simp [H0.out]), hb _⟩
  · have h0' : ((x.mask : Int) != 0) = true := by simpa using h0
    have H0 : Hid (¬ x.mask = 0) := h0
    clear h0
    go_wp2
    go_ret
    exact ⟨ret_bool' (by simp [H0.out]), hb _⟩
set_option maxHeartbeats 4000000 in
set_option maxRecDepth 100000 in
theorem autoFits_any (tb : Tb) (v : Ts) (a : Nat) (ha : a < 4294967296) (hm : 1 ≤ tb.modes ∧ tb.modes ≤ 8) (w : World) : Calls Tryz.prog 56 #[.agg (tbC tb v), .int .u32 (a : Int)] w fun e w' => e = .returned (.bool (autoB tb a)) ∧ Below w.heap.size w w' := by
  have hb : ∀ o, Below w.heap.size w (w.alloc o) := fun o => below_alloc w o
  unfold tbC at *
  unfold autoB
  generalize tb.modes = m at *
  have : m = 1 ∨ m = 2 ∨ m = 3 ∨ m = 4 ∨ m = 5 ∨ m = 6 ∨ m = 7 ∨ m = 8 := by omega
  go_enter Tryz.func56, Tryz.ntmps56
  rcases this with rfl | rfl | rfl | rfl | rfl | rfl | rfl | rfl
  all_goals
    go_wp2
    go_ret
    exact ⟨ret_bool' (by rw [Bool.eq_iff_iff]; simp; omega), hb _⟩
set_option maxHeartbeats 4000000 in
set_option maxRecDepth 100000 in
theorem areApart_any (x y : IsR) (s t : Sl) (w : World) : Calls Tryz.prog 68 #[.agg (isrC x s), .agg (isrC y t)] w fun e w' => e = .returned (.bool (apartB x y)) ∧ Below w.heap.size w w' := by
  have hb : ∀ o p, Below w.heap.size w ((w.alloc o).alloc p) := fun o p => ((Below.refl w.heap.size w).alloc (Nat.le_refl _) o).alloc (by simp) p
  unfold isrC at *
  unfold apartB
  generalize x.prio = a at *
  generalize y.prio = b at *
  generalize x.cat = c at *
  generalize y.cat = d at *
  obtain ⟨R, hR⟩ : ∃ R, R = ((a != b) && (c == d || (decide (c < d) == decide (b < a)))) := ⟨_, rfl⟩
  rw [← hR]
  have HR : Hid (R = ((a != b) && (c == d || (decide (c < d) == decide (b < a))))) := hR
  clear hR
  go_enter Tryz.func68, Tryz.ntmps68
  cases h1 : (a != b)
  · go_wp2
    go_ret
    exact ⟨ret_bool' (by rw [HR.out, h1]; rfl), hb _ _⟩
  · cases h2 : (c == d)
    · go_wp2
      go_ret
      exact ⟨ret_bool' (by rw [HR.out, h1, h2]; simp), hb _ _⟩
    · go_wp2
      go_ret
      exact ⟨ret_bool' (by rw [HR.out, h1, h2]; rfl), hb _ _⟩
set_option maxHeartbeats 4000000 in
set_option maxRecDepth 100000 in
theorem timesFit_any (x : AlR) (k : CtR) (w : World) : Calls Tryz.prog 64 #[.agg (alrC x), .agg (ctrC k)] w fun e w' => e = .returned (.bool (timesB x k)) ∧ Below w.heap.size w w' := by
  have hb : ∀ o p, Below w.heap.size w ((w.alloc o).alloc p) := fun o p => ((Below.refl w.heap.size w).alloc (Nat.le_refl _) o).alloc (by simp) p
  have k1 := withinU_any x.time 1 k.max
  have k2 := withinU_any x.cycle k.min k.max
  unfold alrC ctrC at *
  unfold timesB
  go_enter Tryz.func64, Tryz.ntmps64
  by_cases h0 : x.auto = 0
  · have h0' : ((x.auto : Int) == 0) = true := by simp [h0]
    rw [if_pos h0]
    clear h0
    by_cases h1 : x.time = 0
    · have h1' : ((x.time : Int) == 0) = true := by simp [h1]
      have H1 : Hid (x.time = 0) := h1
      clear h1
      go_wp2
      go_ret
      exact ⟨ret_bool' (by rw [Bool.eq_iff_iff]; simp [H1.out]), hb _ _⟩
    · have h1' : ((x.time : Int) == 0) = false := by simpa using h1
      have H1 : Hid (¬ x.time = 0) := h1
      clear h1
      go_wp2
      go_ret
      exact ⟨ret_bool' (by rw [Bool.eq_iff_iff]; simp [H1.out]), hb _ _⟩
  · have h0' : ((x.auto : Int) == 0) = false := by simpa using h0
    rw [if_neg h0]
    clear h0
    have e1 : (decide (1 ≤ x.time ∧ x.time ≤ k.max)) = (decide (1 ≤ x.time) && decide (x.time ≤ k.max)) := by rw [Bool.eq_iff_iff]; simp
    have e2 : (decide (k.min ≤ x.cycle ∧ x.cycle ≤ k.max)) = (decide (k.min ≤ x.cycle) && decide (x.cycle ≤ k.max)) := by rw [Bool.eq_iff_iff]; simp
    rw [e1, e2]
    clear e1 e2
    generalize (decide (1 ≤ x.time) && decide (x.time ≤ k.max)) = b1 at *
    generalize (decide (k.min ≤ x.cycle) && decide (x.cycle ≤ k.max)) = b2 at *
    by_cases h2 : x.cycle = 0
    · have h2' : ((x.cycle : Int) == 0) = true := by simp [h2]
      have H2 : Hid (x.cycle = 0) := h2
      clear h2
      cases b1
      all_goals
        go_wp2_with (first | (go_at_call 59; refine (k1 _).mono ?_; clear k1; rintro e w' ⟨rfl, rfl⟩) | (go_at_call 59; refine (k2 _).mono ?_; clear k2; rintro e w' ⟨rfl, rfl⟩))
        go_ret
        exact ⟨ret_bool' (by simp [H2.out]), hb _ _⟩
    · have h2' : ((x.cycle : Int) == 0) = false := by simpa using h2
      have H2 : Hid (¬ x.cycle = 0) := h2
      clear h2
      cases b1
      all_goals
        go_wp2_with (first | (go_at_call 59; refine (k1 _).mono ?_; clear k1; rintro e w' ⟨rfl, rfl⟩) | (go_at_call 59; refine (k2 _).mono ?_; clear k2; rintro e w' ⟨rfl, rfl⟩))
        go_ret
        exact ⟨ret_bool' (by simp [H2.out]), hb _ _⟩
end Go.Proofs.YtmidaeljeoifdaaGreatDoor

