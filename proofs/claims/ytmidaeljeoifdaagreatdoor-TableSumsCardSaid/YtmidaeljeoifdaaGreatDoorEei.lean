import Derived.Test.YtmidaeljeoifdaaGreatDoorEeh
namespace Go.Proofs.YtmidaeljeoifdaaGreatDoor.Ce
open Go.RowKit Go.Sort
set_option linter.unusedVariables false
set_option linter.unusedSimpArgs false
structure Ce where
 res : List Int
 sch : Int
 run : List Int
 tks : List Int
 isr : List Int
def ceC (k : Int) (s0 s2 s3 s4 : Sl) : Array Value := #[.slice s0.a s0.n s0.c, I k, .slice s2.a s2.n s2.c, .slice s3.a s3.n s3.c, .slice s4.a s4.n s4.c]
end Go.Proofs.YtmidaeljeoifdaaGreatDoor.Ce
