/-
  Contract of natural.DivMod for numbers of at most four limbs.
-/
import Derived.Test.YtdmlcddieadelaaForms
import Derived.Deep.RegionWith
set_option linter.unusedVariables false
set_option linter.unusedSimpArgs false
namespace Go.Proofs.Ytdmlcddieadelaa
open Go.RowKit Nm

/-- what DivMod returns: the quotient and the rest, canonical, and no error -/
def DmPost (w : World) (X Y : Nat) (e : Ending) (w' : World) : Prop :=
  ∃ (a1 a2 : Option Addr) (c1 c2 : Nat), e = .returned (.tuple #[.slice a1 (dg 65536 (X / Y)).length c1, .slice a2 (dg 65536 (X % Y)).length c2, .int .i64 0]) ∧
    IRd w' .u16 a1 (dg 65536 (X / Y)).length c1 (dg 65536 (X / Y)) ∧ IRd w' .u16 a2 (dg 65536 (X % Y)).length c2 (dg 65536 (X % Y)) ∧ w.grownBy w' none


end Go.Proofs.Ytdmlcddieadelaa
