/-
  RatR, in one text.
-/
import Derived.Test.YtiaonbofkgkdhaaGreatDoorMrR

set_option linter.unusedVariables false
set_option linter.unusedSimpArgs false
namespace Go.Proofs.YtiaonbofkgkdhaaGreatDoor
open Go.RowKit Nm

theorem over_v (B : Nat) {w : World} {g : Bool} {p q : Option Addr} {n c m d D : Nat} {N : Int} {v : Rat} (hA : IsZ w g p n c N) (hB : IsN w q m d D) (hv : mkRat N D = v) (hn : n ≤ B) (hm : m + 4 ≤ B) (hx : B ≤ 300000000) :
    Calls Tryz.prog 90 #[.agg #[.bool g, .slice p n c], .slice q m d] w (VPost w v B) :=
  (over_any hA hB (by omega) (by omega)).mono fun _ _ h => h.v (by rw [rn_q (pd_pos D), pq, hv]) (by rw [rd_q (pd_pos D), pq, hv]) hn hm
theorem norm_v (S : Nat) {w : World} {g1 : Bool} {p1 q1 : Option Addr} {n1 c1 m1 d1 : Nat} {v : Rat} (hA : IsQ w g1 p1 n1 c1 q1 m1 d1 v) (hn1 : n1 ≤ S) (hm1 : m1 ≤ S) (hS : S ≤ 40000000) :
    Calls Tryz.prog 49 #[.agg #[.bool g1, .slice p1 n1 c1, .slice q1 m1 d1]] w (VPost w v (S + 4)) := by
  obtain ⟨N, D, h1, h2, rfl⟩ := hA
  exact (norm3_any h1 h2 (by omega) (by omega)).mono fun _ _ h => h.v (by rw [rn_q (pd_pos D), pq]) (by rw [rd_q (pd_pos D), pq]) (by omega) (by omega)




end Go.Proofs.YtiaonbofkgkdhaaGreatDoor
