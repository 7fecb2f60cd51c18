/-
  Contract of integer.Of.
-/
import Derived.Test.YthkgldpcgmnaiaaDoorIntC
set_option linter.unusedVariables false
set_option linter.unusedSimpArgs false
namespace Go.Proofs.YthkgldpcgmnaiaaDoor
open Go.RowKit Nm

theorem dg_len4 {N : Nat} (h : N < W64) : (dg 65536 N).length ≤ 4 := dg_length_le (by omega) (by rw [← W64_eq]; exact h)

theorem intOf_neg {z : Int} {N : Nat} (hz : z = -(N : Int)) (hN : 0 < N) (hb : N < W64) (w : World) :
    Calls Tryd.prog 20 #[.int .i64 z] w (IPost w z 4) := by
  have hneg : z < 0 := by omega
  have hg1 := World.grownBy_alloc w (.cells #[.bool false, .slice none 0 0] 25) none
  have HZ : Hid (IntKind.u64.wrap (-IntKind.u64.wrap (-(N : Int))) = (N : Int)) := hid (by
    have : N < 18446744073709551616 := hb
    rw [IntKind.wrap_u64, IntKind.wrap_u64]; omega)
  have HN := hid hN
  go_enter Tryd.func20, Tryd.ntmps20
  go_wp2_with fail
  refine (of_at _ N HZ.out hb _).mono ?_
  rintro e w3 ⟨p3, c3, rfl, h3, hg3⟩
  go_wp2_with fail
  refine (signed_any (N := N) h3 true).mono ?_
  rintro e w4 ⟨g4, rfl, h4, hg4⟩
  have hg34 := grown_trans hg3 hg4
  have hc4 := gcell hg34
  have hf4 := gfree hg34
  have hz4 := hg34.size
  simp at hz4
  go_wp2_with fail
  rw [sg_true, ← hz] at h4
  exact bodyPost_ret (v := .agg #[.bool g4, .slice p3 _ c3]) (by simp [results, Tryd.results20, go_sem, hc4]) rfl (IPost.close hg1 (heap_alloc_new w _) (Nat.le_refl _) hg34 h4 (dg_len4 hb))

theorem intOf_pos {z : Int} {N : Nat} (hz : z = (N : Int)) (hb : N < W64) (w : World) :
    Calls Tryd.prog 20 #[.int .i64 z] w (IPost w z 4) := by
  have hneg : ¬ z < 0 := by omega
  have hg1 := World.grownBy_alloc w (.cells #[.bool false, .slice none 0 0] 25) none
  have hb2 : (N : Int) ≤ 18446744073709551615 := by have : N < 18446744073709551616 := hb; omega
  go_enter Tryd.func20, Tryd.ntmps20
  go_wp2_with fail
  refine (of_at _ N (by first | rfl | (rw [IntKind.wrap_u64]; omega)) hb _).mono ?_
  rintro e w3 ⟨p3, c3, rfl, h3, hg3⟩
  go_wp2_with fail
  refine (signed_any (N := N) h3 false).mono ?_
  rintro e w4 ⟨g4, rfl, h4, hg4⟩
  have hg34 := grown_trans hg3 hg4
  have hc4 := gcell hg34
  have hf4 := gfree hg34
  have hz4 := hg34.size
  simp at hz4
  go_wp2_with fail
  rw [sg_false, ← hz] at h4
  exact bodyPost_ret (v := .agg #[.bool g4, .slice p3 _ c3]) (by simp [results, Tryd.results20, go_sem, hc4]) rfl (IPost.close hg1 (heap_alloc_new w _) (Nat.le_refl _) hg34 h4 (dg_len4 hb))

theorem intOf_any (z : Int) (w : World) (h1 : -9223372036854775808 ≤ z) (h2 : z ≤ 9223372036854775807) : Calls Tryd.prog 20 #[.int .i64 z] w (IPost w z 4) := by
  have hb : z.natAbs < W64 := by show z.natAbs < 18446744073709551616; omega
  by_cases h : z < 0
  · exact intOf_neg (N := z.natAbs) (by omega) (by omega) hb w
  · exact intOf_pos (N := z.natAbs) (by omega) hb w

end Go.Proofs.YthkgldpcgmnaiaaDoor
