/-
  Contract of natural.DivMod for numbers of at most four limbs.
-/
import Derived.Test.YtdmlcddieadelaaGreatDoorForms
import Derived.Deep.RegionWith
set_option linter.unusedVariables false
set_option linter.unusedSimpArgs false
namespace Go.Proofs.YtdmlcddieadelaaGreatDoor
open Go.RowKit Nm

theorem of_at (z : Int) (x : Nat) (hz : z = (x : Int)) (hx : x < W64) (w : World) :
    Calls Tryz.prog 141 #[.int .u64 z] w fun e w' => ∃ a' c', e = .returned (.slice a' (dg 65536 x).length c') ∧ IRd w' .u16 a' (dg 65536 x).length c' (dg 65536 x) ∧ w.grownBy w' none := by
  subst hz; exact of_any x hx w

/-- what DivMod returns: the quotient and the rest, canonical, and no error -/
def DmPost (w : World) (X Y : Nat) (e : Ending) (w' : World) : Prop :=
  ∃ (a1 a2 : Option Addr) (c1 c2 : Nat), e = .returned (.tuple #[.slice a1 (dg 65536 (X / Y)).length c1, .slice a2 (dg 65536 (X % Y)).length c2, .int .i64 0]) ∧
    IRd w' .u16 a1 (dg 65536 (X / Y)).length c1 (dg 65536 (X / Y)) ∧ IRd w' .u16 a2 (dg 65536 (X % Y)).length c2 (dg 65536 (X % Y)) ∧ w.grownBy w' none


end Go.Proofs.YtdmlcddieadelaaGreatDoor
