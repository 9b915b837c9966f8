import Derived.Test.YtpbnpmeigdjfdaaGreatDoorBgw
import Derived.Test.YtpbnpmeigdjfdaaGreatDoorBgv
namespace Go.Proofs.YtpbnpmeigdjfdaaGreatDoor
open Go.RowKit Go.Sort

theorem grows_any (w : World) (c : Cf) (v : Vs) (h : CfAt w c v) (hl : LensOK c) (hE : EnvE w) (f : Fg) (vf : Vf) (hf : FgAt w f vf) (t : Int) (lim : Nat) (which : Int) (more less : Nat) :
    Calls Tryz.prog 3 #[.agg (cfC c v), .agg (fgC vf), I t, U lim, I which, U more, U less] w fun e w' => Ans w true e w' := by
  by_cases heq : wrap64 ((IntKind.u64.wrap which).tmod (vf.w.n : Int)) = t
  · exact gw_eq w c v h hl hE f vf hf t lim which more less heq
  · exact gw_ne w c v h hl hE f vf hf t lim which more less heq
end Go.Proofs.YtpbnpmeigdjfdaaGreatDoor
