import Derived.Test.YtmidaeljeoifdaaGreatDoorTio
import Derived.Test.YtmidaeljeoifdaaGreatDoorTin
import Derived.Test.YtmidaeljeoifdaaGreatDoorTip
import Derived.Test.YtmidaeljeoifdaaGreatDoorMlk
import Derived.Test.YtmidaeljeoifdaaGreatDoorKve
import Derived.Test.YtmidaeljeoifdaaGreatDoorEeq
namespace Go.Proofs.YtmidaeljeoifdaaGreatDoor
open Go.RowKit Go.Shelf Go.Sort Go.Maps
set_option linter.unusedVariables false
set_option linter.unusedSimpArgs false
set_option maxHeartbeats 16000000
set_option maxRecDepth 100000
theorem rt_mono9g {B B' : Nat} {W : World} {l : List TkR} {u : Value} (h : RT B' W l u) (hB : B ≤ B') : RT B W l u := by
 obtain ⟨xs, h1, h2⟩ := h
 exact ⟨xs, own_mono9 h1 hB, h2.mono (fun _ _ _ h => tkO_mono9 hB h)⟩
theorem ri_mono9g {B B' : Nat} {W : World} {l : List IsR} {u : Value} (h : RI B' W l u) (hB : B ≤ B') : RI B W l u := by
 obtain ⟨xs, h1, h2⟩ := h
 exact ⟨xs, own_mono9 h1 hB, h2.mono (fun _ _ _ h => isO_mono9 hB h)⟩
theorem ro_mono9g {β : Type} {B B' E k : Nat} {P : β → Nat → Value → Prop} {W : World} {l : List β} {u : Value} (h : RO B' E k (fun _ => P) W l u) (hB : B ≤ B') : RO B E k (fun _ => P) W l u := by
 obtain ⟨xs, h1, h2⟩ := h
 exact ⟨xs, own_mono9 h1 hB, h2⟩
section
variable {ts : List TkR} {pl : List Int} {rs : List RsR} {ks : List CtR} {als : List AlR} {is : List IsR} {ms : List MsR}
theorem SG.mono9 {B B' : Nat} {W : World} {v : Ts} (h : SG B' W ts pl rs ks als is ms v) (hB : B ≤ B') : SG B W ts pl rs ks als is ms v := by
 obtain ⟨at_, ct, ag, cg, ar, cr, ak, ck, aa, ca, ai, ci, am, cm2, rfl, h1, h2⟩ := h
 exact ⟨at_, ct, ag, cg, ar, cr, ak, ck, aa, ca, ai, ci, am, cm2, rfl, ⟨rt_mono9g h1.t hB, ro_mono9g h1.r hB, ro_mono9g h1.k hB, ro_mono9g h1.a hB, ri_mono9g h1.i hB, ro_mono9g h1.m hB⟩, ro_mono9g h2 hB⟩
end
def tbM (c : Cf) (cl : List Int) (sch d f e k : Int) : Tb := tbG (usN c.o1 c.o2 c.o3 c.o4 c.o5 c.o6 c.o7 c.o8) c.modes.length (c.tasks.map (mkT c cl (prL9 c.tasks))) (prL9 c.tasks) (resL c cl sch) (c.ctrs.map mkK) (c.als.map (mkA c)) (c.isrs.map mkI) (c.msgs.map (mkS c)) d f e k
def zd9 (c : Cf) : Int := (prL9 c.tasks).length
def zf9 (c : Cf) : Int := (c.isrs.length : Int) + 4
def ze9 (c : Cf) (cl : List Int) (sch : Int) : Int := ((max 2 (max (crowdL ((tbM c cl sch 0 0 0 0).als.map fun x => x.ctr)) (crowdL (rcvL (tbM c cl sch 0 0 0 0)))) : Nat) : Int)
def zc9 (c : Cf) (cl : List Int) (sch : Int) : Int := callsN (tbM c cl sch 0 0 0 0)
theorem rm_is9 (c : Cf) (cl : List Int) (sch : Int) : rmC (tbM c cl sch 0 0 0 0) = #[I (zd9 c), I (zf9 c), I (ze9 c cl sch), I (zc9 c cl sch)] := by
 have e1 : (tbM c cl sch 0 0 0 0).rings.length = (prL9 c.tasks).length := by show ((prL9 c.tasks).map _).length = _; simp
 have e2 : (tbM c cl sch 0 0 0 0).isrs.length = c.isrs.length := by show (c.isrs.map _).length = _; simp
 unfold rmC zd9 zf9 ze9 zc9
 rw [e1, e2]
theorem room_ok9 {c : Cf} (h : May c) (cl : List Int) (sch d f e k : Int) : RoomOK (tbM c cl sch d f e k) := by
 have nk := in9 h.k.1
 have na := in9 h.a.1
 have ni := in9 h.i.1
 have ns := in9 h.s.1
 refine ⟨fun x hx => ?_, fun x hx hk => ?_, ?_⟩
 ·obtain ⟨y, hy, rfl⟩ := List.mem_map.1 (show x ∈ c.als.map (mkA c) from hx)
  obtain ⟨j, hj⟩ := List.getElem?_of_mem hy
  have q : isId y.ctr c.ctrs.length = true := (h.a.2 j y hj).2.2 0 (by omega)
  have := id9 q
  show 0 ≤ y.ctr ∧ y.ctr < ((c.ctrs.map mkK).length : Int)
  rw [List.length_map]
  exact this
 ·obtain ⟨y, hy, rfl⟩ := List.mem_map.1 (show x ∈ c.msgs.map (mkS c) from hx)
  obtain ⟨j, hj⟩ := List.getElem?_of_mem hy
  have q : (y.kind == 1 || (isId y.frm c.msgs.length && mkind c y.frm == 1)) = true := (h.s.2 j y hj).2.2 1 (by omega)
  have hk' : ¬ y.kind = 1 := hk
  have q2 : isId y.frm c.msgs.length = true := by
   simp [hk'] at q
   exact q.1
  have := id9 q2
  show 0 ≤ y.frm ∧ y.frm < ((c.msgs.map (mkS c)).length : Int)
  rw [List.length_map]
  exact this
 ·show (c.ctrs.map mkK).length ≤ 16 ∧ (c.als.map (mkA c)).length ≤ 64 ∧ (c.msgs.map (mkS c)).length ≤ 64 ∧ (c.isrs.map mkI).length ≤ 32
  simp only [List.length_map]
  omega
def SM (B : Nat) (W : World) (c : Cf) (cl : List Int) (sch : Int) (v : Ts) : Prop := SG B W (c.tasks.map (mkT c cl (prL9 c.tasks))) (prL9 c.tasks) (resL c cl sch) (c.ctrs.map mkK) (c.als.map (mkA c)) (c.isrs.map mkI) (c.msgs.map (mkS c)) v
theorem tables_c (w : World) (c : Cf) (v : Vs) (h : CfAt w c v) (hmy : May c) (ok : MkOK c) (sch : Int) (s0 s2 s3 s4 : Sl) (cl : List Int) (hcl : RowsAt w 1 intP s0 cl) (hcn : cl.length = c.ress.length) :
  Calls Tryz.prog 34 #[.agg (cfC c v), .agg (Ce.ceC sch s0 s2 s3 s4)] w fun e w' => (∃ u : Ts, e = .returned (.agg (tbC (tbM c cl sch (zd9 c) (zf9 c) (ze9 c cl sch) (zc9 c cl sch)) u)) ∧ SM w.heap.size w' c cl sch u) ∧ Below w.heap.size w w' := by
 have nt := ok.n.1
 have hpn : (prL9 c.tasks).length ≤ 1048576 := Nat.le_trans (prL_len _) nt
 refine tables_any w (cfC c v) (Ce.ceC sch s0 s2 s3 s4) rfl rfl (c.tasks.map (mkT c cl (prL9 c.tasks))) (prL9 c.tasks) (resL c cl sch) (c.ctrs.map mkK) (c.als.map (mkA c)) (c.isrs.map mkI) (c.msgs.map (mkS c)) (usN c.o1 c.o2 c.o3 c.o4 c.o5 c.o6 c.o7 c.o8) c.osn c.o1 c.o2 c.o3 c.o4 c.o5 c.o6 c.o7 c.o8 v.m.a c.modes.length v.m.c v.t v.k.a v.k.n v.k.c v.i.a v.i.n v.i.c rfl rfl rfl rfl rfl rfl rfl rfl rfl (by rw [← h.m.n]; rfl) rfl rfl rfl
  (fun W hW => (prios_any W v.t c.tasks (h.t.below hW (fun _ _ _ _ h => tkP_below9 h hW)) nt).mono (fun e w' hq => ?_))
  (fun W => uses_any W c.osn c.o1 c.o2 c.o3 c.o4 c.o5 c.o6 c.o7 c.o8)
  (fun W hW lv hlv => (tasks_any W c v (h.below hW) ok _ rfl s0 cl rfl (hcl.below hW (fun _ _ _ _ h => h)) hcn lv (prL9 c.tasks) hlv hpn).mono (fun e w' hq => ?_))
  (fun W hW => (res_any W c v (h.below hW) ok _ s0 cl sch rfl rfl (hcl.below hW (fun _ _ _ _ h => h)) hcn).mono (fun e w' hq => ?_))
  (fun W hW => (ct_any W c v (h.below hW) ok).mono (fun e w' hq => ?_))
  (fun W hW => (al_any W c v (h.below hW) ok).mono (fun e w' hq => ?_))
  (fun W hW => (is_any W c v (h.below hW) ok.n.2.2.2.2.1 ok.i).mono (fun e w' hq => ?_))
  (fun W hW => (ms_any W c v (h.below hW) ok).mono (fun e w' hq => ?_))
  hpn (zd9 c) (zf9 c) (ze9 c cl sch) (zc9 c cl sch) (rm_is9 c cl sch) (room_ok9 hmy cl sch 0 0 0 0)
 ·obtain ⟨⟨a, k, h1, h2⟩, h3⟩ := hq
  exact ⟨⟨a, k, h1, own_mono9 h2 hW.size⟩, h3⟩
 ·obtain ⟨⟨a, k, h1, h2⟩, h3⟩ := hq
  refine ⟨⟨a, k, ?_, ?_⟩, h3⟩
  ·rw [List.length_map]; exact h1
  ·rw [List.length_map]; exact rt_mono9g h2 hW.size
 ·obtain ⟨⟨a, k, h1, h2⟩, h3⟩ := hq
  exact ⟨⟨a, k, h1, ro_mono9g h2 hW.size⟩, h3⟩
 ·obtain ⟨⟨a, k, h1, h2⟩, h3⟩ := hq
  refine ⟨⟨a, k, ?_, ?_⟩, h3⟩
  ·rw [List.length_map]; exact h1
  ·rw [List.length_map]; exact ro_mono9g h2 hW.size
 ·obtain ⟨⟨a, k, h1, h2⟩, h3⟩ := hq
  refine ⟨⟨a, k, ?_, ?_⟩, h3⟩
  ·rw [List.length_map]; exact h1
  ·rw [List.length_map]; exact ro_mono9g h2 hW.size
 ·obtain ⟨⟨a, k, h1, h2⟩, h3⟩ := hq
  refine ⟨⟨a, k, ?_, ?_⟩, h3⟩
  ·rw [List.length_map]; exact h1
  ·rw [List.length_map]; exact ri_mono9g h2 hW.size
 ·obtain ⟨⟨a, k, h1, h2⟩, h3⟩ := hq
  refine ⟨⟨a, k, ?_, ?_⟩, h3⟩
  ·rw [List.length_map]; exact h1
  ·rw [List.length_map]; exact ro_mono9g h2 hW.size
end Go.Proofs.YtmidaeljeoifdaaGreatDoor
