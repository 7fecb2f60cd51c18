/-
  Contracts of the functions of package natural that handle limbs and words: trim, clone, word, pack, unpack.
-/
import Derived.Test.YtdmlcddieadelaaProg
import Derived.Test.YtdmlcddieadelaaDig
import Derived.Test.YtdmlcddieadelaaMem
set_option linter.unusedVariables false
set_option linter.unusedSimpArgs false
namespace Go.Proofs.Ytdmlcddieadelaa
open Go.RowKit Nm


theorem or_join (v x : Nat) (hv : v < 281474976710656) (hx : x < 65536) : bits .or .u64 ((v : Int) * 65536) (x : Int) = ((v * 65536 + x : Nat) : Int) := by
  have e : ((v : Int) * 65536) = ((v * 65536 : Nat) : Int) := by simp
  rw [e, bits_or_u64_nat _ _ (by omega) (by omega), nat_join 16 _ _ (by omega) (by omega)]

theorem V_word {xs : List Nat} (h : Dg 65536 xs) (m : Nat) (hm : xs.length ≤ m) : V 65536 xs < 65536 ^ m :=
  Nat.lt_of_lt_of_le h.lt (Nat.pow_le_pow_right (by omega) hm)

end Go.Proofs.Ytdmlcddieadelaa
