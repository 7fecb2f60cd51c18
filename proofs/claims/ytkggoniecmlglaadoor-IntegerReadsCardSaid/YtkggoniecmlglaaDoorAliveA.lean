/-
  The first examples of package natural hold.
-/
import Derived.Test.YtkggoniecmlglaaDoorDivS
set_option linter.unusedVariables false
set_option linter.unusedSimpArgs false
namespace Go.Proofs.YtkggoniecmlglaaDoor
open Go.RowKit Nm

theorem trimR_one (x : Nat) (h : x ≠ 0) : trimR [x] = [x] := by simp [trimR, h]

theorem dg_small (x : Nat) (h : 0 < x) (hb : x < 65536) : dg 65536 x = [x] := by
  rw [dg_step x h, Nat.mod_eq_of_lt hb, Nat.div_eq_of_lt hb, dg_zero]

set_option maxHeartbeats 2000000 in
theorem alive1 (w : World) : Calls Tryd.prog 8 #[] w fun e w' => e = .returned (.bool true) ∧ w.grownBy w' none := by
  have d100 : Dg 65536 [100] := Dg.cons (by omega) Dg.nil
  have d7 : Dg 65536 [7] := Dg.cons (by omega) Dg.nil
  have v100 : V 65536 [100] / V 65536 [7] = 14 := rfl
  have v7 : V 65536 [100] % V 65536 [7] = 2 := rfl
  have e14 : dg 65536 14 = [14] := dg_small 14 (by omega) (by omega)
  have e2 : dg 65536 2 = [2] := dg_small 2 (by omega) (by omega)
  have e3 : dg 65536 65537 = [1, 1] := by rw [dg_step 65537 (by omega)]; rw [show 65537 / 65536 = 1 from rfl, dg_small 1 (by omega) (by omega)]
  have HD := fun W (h : IRd W .u16 (some ⟨w.heap.size, 0, none⟩) 1 1 [100]) (k : IRd W .u16 (some ⟨w.heap.size + 1, 0, none⟩) 1 1 [7]) =>
    natDivMod_small _ _ 1 1 1 1 [100] [7] W h k d100 d7 (by rw [trimR_one _ (by omega)]; decide) (by rw [trimR_one _ (by omega), trimR_one _ (by omega)]; decide) (by decide)
  unfold DmPost at HD
  rw [v100, v7, e14, e2] at HD
  have HO := fun W => of_any 65537 (by decide) W
  rw [e3] at HO
  simp only [List.length_cons, List.length_nil, Nat.zero_add, Nat.reduceAdd] at HD HO
  have J14 := hid (show (14 : Int) = ((14 : Nat) : Int) from rfl)
  have J2 := hid (show (2 : Int) = ((2 : Nat) : Int) from rfl)
  have J11 := hid (show ∀ w : World, IRd (w.alloc (.cells #[.int .u16 1, .int .u16 1] 35)) .u16 (some ⟨w.heap.size, 0, none⟩) 2 2 [1, 1] from fun w => IRow.rd0 (IRow.made w 35 .u16 [1, 1]) (by simp))
  have HDD := hid HD
  have HOO := hid HO
  clear HD HO v100 v7 e14 e2 e3
  go_enter Tryd.func8, Tryd.ntmps8
  go_wp2_with (first
    | (go_at_call 33; refine (HDD.out _ ((one_rd w 35 .u16 100 100 rfl).keep (World.grownBy_alloc _ _ _)) (by have := one_rd (w.alloc (.cells #[.int .u16 100] 35)) 35 .u16 7 7 rfl; simpa using this)).mono ?_; rintro e w1 ⟨a1, a2, c1, c2, rfl, hr1, hr2, hg1⟩; have hh1 := hg1.size; simp at hh1)
    | (go_at_call 13; (with_reducible refine (same_any a1 _ 1 c1 1 [14] _ (hr1.keep (World.grownBy_alloc _ _ _)) (one_rd _ _ _ _ 14 J14.out)).mono ?_); rintro e w2 ⟨rfl, hg2⟩)
    | (go_at_call 13; (with_reducible refine (same_any a2 _ 1 c2 1 [2] _ (((hr2.keep (World.grownBy_alloc _ _ _)).keep hg2).keep (World.grownBy_alloc _ _ _)) (one_rd _ _ _ _ 2 J2.out)).mono ?_); rintro e w3 ⟨rfl, hg3⟩)
    | (go_at_call 34; refine (HOO.out _).mono ?_; rintro e w4 ⟨a5, c5, rfl, hr5, hg4⟩)
    | (go_at_call 13; (with_reducible refine (same_any a5 _ 2 c5 2 [1, 1] _ (hr5.keep (World.grownBy_alloc _ _ _)) (J11.out _)).mono ?_); rintro e w5 ⟨rfl, hg5⟩))
  go_ret
  exact ⟨rfl, by
    refine grown_trans ?_ hg5
    refine grown_trans ?_ (World.grownBy_alloc _ _ _)
    refine grown_trans ?_ hg4
    refine grown_trans ?_ hg3
    refine grown_trans ?_ (World.grownBy_alloc _ _ _)
    refine grown_trans ?_ hg2
    refine grown_trans ?_ (World.grownBy_alloc _ _ _)
    refine grown_trans ?_ hg1
    exact grown_trans (World.grownBy_alloc _ _ _) (World.grownBy_alloc _ _ _)⟩
end Go.Proofs.YtkggoniecmlglaaDoor
