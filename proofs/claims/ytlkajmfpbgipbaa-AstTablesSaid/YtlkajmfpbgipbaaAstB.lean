/-
  Contracts of the functions of the table of kinds.
-/
import Derived.Test.YtlkajmfpbgipbaaAstA
import Derived.Test.YtlkajmfpbgipbaaAstM
set_option linter.unusedVariables false
set_option linter.unusedSimpArgs false
namespace Go.Proofs.Ytlkajmfpbgipbaa
open Go.RowKit _root_.Nm Ax

def ShP (s : Nat) (k : Int) (w : World) (e : Ending) (w' : World) : Prop :=
  ∃ (p : Option Addr) (n c : Nat), e = .returned (.tuple #[.string ⟨(pS s k).1.toArray⟩, .slice p n c]) ∧ Frs w p ∧ IRd w' .i64 p n c (pS s k).2 ∧ w.grownBy w' none
theorem ShP.mk {s : Nat} {k : Int} {w w' : World} {d : List UInt8} {xs : List Nat} {p : Option Addr} {n c : Nat} (h : pS s k = (d, xs)) (hf : Frs w p) (hr : IRd w' .i64 p n c xs) (hg : w.grownBy w' none) : ShP s k w (.returned (.tuple #[.string ⟨d.toArray⟩, .slice p n c])) w' :=
  ⟨p, n, c, by rw [h], hf, by rw [h]; exact hr, hg⟩
theorem lit1 (w : World) (T : TypeId) (x : Nat) : IRd (w.alloc (.cells #[.int .i64 (x : Int)] T)) .i64 (some ⟨w.heap.size, 0, none⟩) 1 1 [x] := (IRow.made w T .i64 [x]).rd0 (by simp)
theorem lit2 (w : World) (T : TypeId) (x y : Nat) : IRd (w.alloc (.cells #[.int .i64 (x : Int), .int .i64 (y : Int)] T)) .i64 (some ⟨w.heap.size, 0, none⟩) 2 2 [x, y] := (IRow.made w T .i64 [x, y]).rd0 (by simp)

set_option maxHeartbeats 16000000 in
theorem pointShape_any (k : Int) (w : World) : Calls Try.prog 72 #[.int .i64 k] w (ShP 1 k w) := by
  by_cases h10 : k = 10
  · subst h10
    have HE : Hid (pS 1 10 = ([109, 105, 100, 112, 111, 105, 110, 116], [1, 1])) := hid rfl
    have HPT := hid fun w => points_any 2 (by omega) (by omega) 2 rfl w
    go_enter Try.func72, Try.ntmps72
    go_wp2_with (go_at_call 83; (with_reducible refine (HPT.out _).mono ?_); rintro e w' ⟨p, rfl, hf, hr, hg⟩)
    go_ret2
    exact ShP.mk HE.out hf hr hg
  by_cases h11 : k = 11
  · subst h11
    have HE : Hid (pS 1 11 = ([100, 105, 118, 105, 100, 101], [1, 1])) := hid rfl
    clear h10
    have HPT := hid fun w => points_any 2 (by omega) (by omega) 2 rfl w
    go_enter Try.func72, Try.ntmps72
    go_wp2_with (go_at_call 83; (with_reducible refine (HPT.out _).mono ?_); rintro e w' ⟨p, rfl, hf, hr, hg⟩)
    go_ret2
    exact ShP.mk HE.out hf hr hg
  by_cases h12 : k = 12
  · subst h12
    have HE : Hid (pS 1 12 = ([114, 101, 102, 108, 101, 99, 116], [1, 1])) := hid rfl
    clear h10 h11
    have HPT := hid fun w => points_any 2 (by omega) (by omega) 2 rfl w
    go_enter Try.func72, Try.ntmps72
    go_wp2_with (go_at_call 83; (with_reducible refine (HPT.out _).mono ?_); rintro e w' ⟨p, rfl, hf, hr, hg⟩)
    go_ret2
    exact ShP.mk HE.out hf hr hg
  by_cases h13 : k = 13
  · subst h13
    have HE : Hid (pS 1 13 = ([109, 105, 114, 114, 111, 114], [1, 2])) := hid rfl
    clear h10 h11 h12
    go_enter Try.func72, Try.ntmps72
    go_wp2_with fail
    go_ret2
    exact ShP.mk HE.out (fun a e => by cases e; exact Nat.le_refl _) (lit2 w 3 1 2) (World.grownBy_alloc _ _ _)
  by_cases h14 : k = 14
  · subst h14
    have HE : Hid (pS 1 14 = ([102, 111, 111, 116], [1, 2])) := hid rfl
    clear h10 h11 h12 h13
    go_enter Try.func72, Try.ntmps72
    go_wp2_with fail
    go_ret2
    exact ShP.mk HE.out (fun a e => by cases e; exact Nat.le_refl _) (lit2 w 3 1 2) (World.grownBy_alloc _ _ _)
  by_cases h15 : k = 15
  · subst h15
    have HE : Hid (pS 1 15 = ([109, 101, 101, 116], [2, 2])) := hid rfl
    clear h10 h11 h12 h13 h14
    go_enter Try.func72, Try.ntmps72
    go_wp2_with fail
    go_ret2
    exact ShP.mk HE.out (fun a e => by cases e; exact Nat.le_refl _) (lit2 w 3 2 2) (World.grownBy_alloc _ _ _)
  by_cases h16 : k = 16
  · subst h16
    have HE : Hid (pS 1 16 = ([111, 110], [0])) := hid rfl
    clear h10 h11 h12 h13 h14 h15
    go_enter Try.func72, Try.ntmps72
    go_wp2_with fail
    go_ret2
    exact ShP.mk HE.out (fun a e => by cases e; exact Nat.le_refl _) (lit1 w 3 0) (World.grownBy_alloc _ _ _)
  by_cases h17 : k = 17
  · subst h17
    have HE : Hid (pS 1 17 = ([111, 116, 104, 101, 114], [1, 1, 1])) := hid rfl
    clear h10 h11 h12 h13 h14 h15 h16
    have HPT := hid fun w => points_any 3 (by omega) (by omega) 3 rfl w
    go_enter Try.func72, Try.ntmps72
    go_wp2_with (go_at_call 83; (with_reducible refine (HPT.out _).mono ?_); rintro e w' ⟨p, rfl, hf, hr, hg⟩)
    go_ret2
    exact ShP.mk HE.out hf hr hg
  by_cases h18 : k = 18
  · subst h18
    have HE : Hid (pS 1 18 = ([99, 111, 109, 109, 111, 110], [1, 1, 1])) := hid rfl
    clear h10 h11 h12 h13 h14 h15 h16 h17
    have HPT := hid fun w => points_any 3 (by omega) (by omega) 3 rfl w
    go_enter Try.func72, Try.ntmps72
    go_wp2_with (go_at_call 83; (with_reducible refine (HPT.out _).mono ?_); rintro e w' ⟨p, rfl, hf, hr, hg⟩)
    go_ret2
    exact ShP.mk HE.out hf hr hg
  by_cases h19 : k = 19
  · subst h19
    have HE : Hid (pS 1 19 = ([99, 101, 110, 116, 101, 114], [1, 1, 1])) := hid rfl
    clear h10 h11 h12 h13 h14 h15 h16 h17 h18
    have HPT := hid fun w => points_any 3 (by omega) (by omega) 3 rfl w
    go_enter Try.func72, Try.ntmps72
    go_wp2_with (go_at_call 83; (with_reducible refine (HPT.out _).mono ?_); rintro e w' ⟨p, rfl, hf, hr, hg⟩)
    go_ret2
    exact ShP.mk HE.out hf hr hg
  by_cases h20 : k = 20
  · subst h20
    have HE : Hid (pS 1 20 = ([115, 104, 105, 102, 116], [1, 1, 1])) := hid rfl
    clear h10 h11 h12 h13 h14 h15 h16 h17 h18 h19
    have HPT := hid fun w => points_any 3 (by omega) (by omega) 3 rfl w
    go_enter Try.func72, Try.ntmps72
    go_wp2_with (go_at_call 83; (with_reducible refine (HPT.out _).mono ?_); rintro e w' ⟨p, rfl, hf, hr, hg⟩)
    go_ret2
    exact ShP.mk HE.out hf hr hg
  by_cases h21 : k = 21
  · subst h21
    have HE : Hid (pS 1 21 = ([116, 117, 114, 110], [1, 1])) := hid rfl
    clear h10 h11 h12 h13 h14 h15 h16 h17 h18 h19 h20
    have HPT := hid fun w => points_any 2 (by omega) (by omega) 2 rfl w
    go_enter Try.func72, Try.ntmps72
    go_wp2_with (go_at_call 83; (with_reducible refine (HPT.out _).mono ?_); rintro e w' ⟨p, rfl, hf, hr, hg⟩)
    go_ret2
    exact ShP.mk HE.out hf hr hg
  by_cases h22 : k = 22
  · subst h22
    have HE : Hid (pS 1 22 = ([99, 117, 116], [2, 3])) := hid rfl
    clear h10 h11 h12 h13 h14 h15 h16 h17 h18 h19 h20 h21
    go_enter Try.func72, Try.ntmps72
    go_wp2_with fail
    go_ret2
    exact ShP.mk HE.out (fun a e => by cases e; exact Nat.le_refl _) (lit2 w 3 2 3) (World.grownBy_alloc _ _ _)
  by_cases h23 : k = 23
  · subst h23
    have HE : Hid (pS 1 23 = ([99, 114, 111, 115, 115], [3, 3])) := hid rfl
    clear h10 h11 h12 h13 h14 h15 h16 h17 h18 h19 h20 h21 h22
    go_enter Try.func72, Try.ntmps72
    go_wp2_with fail
    go_ret2
    exact ShP.mk HE.out (fun a e => by cases e; exact Nat.le_refl _) (lit2 w 3 3 3) (World.grownBy_alloc _ _ _)
  by_cases h24 : k = 24
  · subst h24
    have HE : Hid (pS 1 24 = ([97, 112, 101, 120], [1, 1])) := hid rfl
    clear h10 h11 h12 h13 h14 h15 h16 h17 h18 h19 h20 h21 h22 h23
    have HPT := hid fun w => points_any 2 (by omega) (by omega) 2 rfl w
    go_enter Try.func72, Try.ntmps72
    go_wp2_with (go_at_call 83; (with_reducible refine (HPT.out _).mono ?_); rintro e w' ⟨p, rfl, hf, hr, hg⟩)
    go_ret2
    exact ShP.mk HE.out hf hr hg
  have HE : Hid (pS 1 k = ([], [])) := hid (pS_none (ks := [10, 11, 12, 13, 14, 15, 16, 17, 18, 19, 20, 21, 22, 23, 24]) (by decide) (by simp only [List.mem_cons, List.not_mem_nil, or_false]; omega))
  have e10 : (k == 10) = false := by simpa using h10
  have e11 : (k == 11) = false := by simpa using h11
  have e12 : (k == 12) = false := by simpa using h12
  have e13 : (k == 13) = false := by simpa using h13
  have e14 : (k == 14) = false := by simpa using h14
  have e15 : (k == 15) = false := by simpa using h15
  have e16 : (k == 16) = false := by simpa using h16
  have e17 : (k == 17) = false := by simpa using h17
  have e18 : (k == 18) = false := by simpa using h18
  have e19 : (k == 19) = false := by simpa using h19
  have e20 : (k == 20) = false := by simpa using h20
  have e21 : (k == 21) = false := by simpa using h21
  have e22 : (k == 22) = false := by simpa using h22
  have e23 : (k == 23) = false := by simpa using h23
  have e24 : (k == 24) = false := by simpa using h24
  clear h10 h11 h12 h13 h14 h15 h16 h17 h18 h19 h20 h21 h22 h23 h24
  go_enter Try.func72, Try.ntmps72
  go_wp2_with fail
  go_ret2
  exact ShP.mk HE.out (fun a e => by cases e) (IRd.nil _ _) (grown_refl _ _)

set_option maxHeartbeats 16000000 in
theorem lineShape_any (k : Int) (w : World) : Calls Try.prog 73 #[.int .i64 k] w (ShP 2 k w) := by
  by_cases h40 : k = 40
  · subst h40
    have HE : Hid (pS 2 40 = ([108, 105, 110, 101], [1, 1])) := hid rfl
    have HPT := hid fun w => points_any 2 (by omega) (by omega) 2 rfl w
    go_enter Try.func73, Try.ntmps73
    go_wp2_with (go_at_call 83; (with_reducible refine (HPT.out _).mono ?_); rintro e w' ⟨p, rfl, hf, hr, hg⟩)
    go_ret2
    exact ShP.mk HE.out hf hr hg
  by_cases h41 : k = 41
  · subst h41
    have HE : Hid (pS 2 41 = ([112, 97, 114, 97, 108, 108, 101, 108], [1, 2])) := hid rfl
    clear h40
    go_enter Try.func73, Try.ntmps73
    go_wp2_with fail
    go_ret2
    exact ShP.mk HE.out (fun a e => by cases e; exact Nat.le_refl _) (lit2 w 3 1 2) (World.grownBy_alloc _ _ _)
  by_cases h42 : k = 42
  · subst h42
    have HE : Hid (pS 2 42 = ([112, 101, 114, 112, 101, 110, 100, 105, 99, 117, 108, 97, 114], [1, 2])) := hid rfl
    clear h40 h41
    go_enter Try.func73, Try.ntmps73
    go_wp2_with fail
    go_ret2
    exact ShP.mk HE.out (fun a e => by cases e; exact Nat.le_refl _) (lit2 w 3 1 2) (World.grownBy_alloc _ _ _)
  by_cases h43 : k = 43
  · subst h43
    have HE : Hid (pS 2 43 = ([98, 105, 115, 101, 99, 116, 111, 114], [1, 1])) := hid rfl
    clear h40 h41 h42
    have HPT := hid fun w => points_any 2 (by omega) (by omega) 2 rfl w
    go_enter Try.func73, Try.ntmps73
    go_wp2_with (go_at_call 83; (with_reducible refine (HPT.out _).mono ?_); rintro e w' ⟨p, rfl, hf, hr, hg⟩)
    go_ret2
    exact ShP.mk HE.out hf hr hg
  have HE : Hid (pS 2 k = ([], [])) := hid (pS_none (ks := [40, 41, 42, 43]) (by decide) (by simp only [List.mem_cons, List.not_mem_nil, or_false]; omega))
  have e40 : (k == 40) = false := by simpa using h40
  have e41 : (k == 41) = false := by simpa using h41
  have e42 : (k == 42) = false := by simpa using h42
  have e43 : (k == 43) = false := by simpa using h43
  clear h40 h41 h42 h43
  go_enter Try.func73, Try.ntmps73
  go_wp2_with fail
  go_ret2
  exact ShP.mk HE.out (fun a e => by cases e) (IRd.nil _ _) (grown_refl _ _)

set_option maxHeartbeats 16000000 in
theorem circleShape_any (k : Int) (w : World) : Calls Try.prog 74 #[.int .i64 k] w (ShP 3 k w) := by
  by_cases h50 : k = 50
  · subst h50
    have HE : Hid (pS 3 50 = ([99, 105, 114, 99, 108, 101], [1, 1])) := hid rfl
    have HPT := hid fun w => points_any 2 (by omega) (by omega) 2 rfl w
    go_enter Try.func74, Try.ntmps74
    go_wp2_with (go_at_call 83; (with_reducible refine (HPT.out _).mono ?_); rintro e w' ⟨p, rfl, hf, hr, hg⟩)
    go_ret2
    exact ShP.mk HE.out hf hr hg
  by_cases h51 : k = 51
  · subst h51
    have HE : Hid (pS 3 51 = ([99, 105, 114, 99, 117, 109], [1, 1, 1])) := hid rfl
    clear h50
    have HPT := hid fun w => points_any 3 (by omega) (by omega) 3 rfl w
    go_enter Try.func74, Try.ntmps74
    go_wp2_with (go_at_call 83; (with_reducible refine (HPT.out _).mono ?_); rintro e w' ⟨p, rfl, hf, hr, hg⟩)
    go_ret2
    exact ShP.mk HE.out hf hr hg
  have HE : Hid (pS 3 k = ([], [])) := hid (pS_none (ks := [50, 51]) (by decide) (by simp only [List.mem_cons, List.not_mem_nil, or_false]; omega))
  have e50 : (k == 50) = false := by simpa using h50
  have e51 : (k == 51) = false := by simpa using h51
  clear h50 h51
  go_enter Try.func74, Try.ntmps74
  go_wp2_with fail
  go_ret2
  exact ShP.mk HE.out (fun a e => by cases e) (IRd.nil _ _) (grown_refl _ _)

set_option maxHeartbeats 16000000 in
theorem goalShape_any (k : Int) (w : World) : Calls Try.prog 75 #[.int .i64 k] w (ShP 4 k w) := by
  by_cases h60 : k = 60
  · subst h60
    have HE : Hid (pS 4 60 = ([99, 111, 108, 108, 105, 110, 101, 97, 114], [1, 1, 1])) := hid rfl
    have HPT := hid fun w => points_any 3 (by omega) (by omega) 3 rfl w
    go_enter Try.func75, Try.ntmps75
    go_wp2_with (go_at_call 83; (with_reducible refine (HPT.out _).mono ?_); rintro e w' ⟨p, rfl, hf, hr, hg⟩)
    go_ret2
    exact ShP.mk HE.out hf hr hg
  by_cases h61 : k = 61
  · subst h61
    have HE : Hid (pS 4 61 = ([112, 97, 114, 97, 108, 108, 101, 108], [2, 2])) := hid rfl
    clear h60
    go_enter Try.func75, Try.ntmps75
    go_wp2_with fail
    go_ret2
    exact ShP.mk HE.out (fun a e => by cases e; exact Nat.le_refl _) (lit2 w 3 2 2) (World.grownBy_alloc _ _ _)
  by_cases h62 : k = 62
  · subst h62
    have HE : Hid (pS 4 62 = ([112, 101, 114, 112, 101, 110, 100, 105, 99, 117, 108, 97, 114], [2, 2])) := hid rfl
    clear h60 h61
    go_enter Try.func75, Try.ntmps75
    go_wp2_with fail
    go_ret2
    exact ShP.mk HE.out (fun a e => by cases e; exact Nat.le_refl _) (lit2 w 3 2 2) (World.grownBy_alloc _ _ _)
  by_cases h63 : k = 63
  · subst h63
    have HE : Hid (pS 4 63 = ([99, 111, 110, 103, 114, 117, 101, 110, 116], [1, 1, 1, 1])) := hid rfl
    clear h60 h61 h62
    have HPT := hid fun w => points_any 4 (by omega) (by omega) 4 rfl w
    go_enter Try.func75, Try.ntmps75
    go_wp2_with (go_at_call 83; (with_reducible refine (HPT.out _).mono ?_); rintro e w' ⟨p, rfl, hf, hr, hg⟩)
    go_ret2
    exact ShP.mk HE.out hf hr hg
  by_cases h64 : k = 64
  · subst h64
    have HE : Hid (pS 4 64 = ([109, 105, 100, 112, 111, 105, 110, 116], [1, 1, 1])) := hid rfl
    clear h60 h61 h62 h63
    have HPT := hid fun w => points_any 3 (by omega) (by omega) 3 rfl w
    go_enter Try.func75, Try.ntmps75
    go_wp2_with (go_at_call 83; (with_reducible refine (HPT.out _).mono ?_); rintro e w' ⟨p, rfl, hf, hr, hg⟩)
    go_ret2
    exact ShP.mk HE.out hf hr hg
  by_cases h65 : k = 65
  · subst h65
    have HE : Hid (pS 4 65 = ([99, 111, 110, 99, 121, 99, 108, 105, 99], [1, 1, 1, 1])) := hid rfl
    clear h60 h61 h62 h63 h64
    have HPT := hid fun w => points_any 4 (by omega) (by omega) 4 rfl w
    go_enter Try.func75, Try.ntmps75
    go_wp2_with (go_at_call 83; (with_reducible refine (HPT.out _).mono ?_); rintro e w' ⟨p, rfl, hf, hr, hg⟩)
    go_ret2
    exact ShP.mk HE.out hf hr hg
  by_cases h66 : k = 66
  · subst h66
    have HE : Hid (pS 4 66 = ([97, 110, 103, 108, 101], [1, 1, 1, 1, 1, 1])) := hid rfl
    clear h60 h61 h62 h63 h64 h65
    have HPT := hid fun w => points_any 6 (by omega) (by omega) 6 rfl w
    go_enter Try.func75, Try.ntmps75
    go_wp2_with (go_at_call 83; (with_reducible refine (HPT.out _).mono ?_); rintro e w' ⟨p, rfl, hf, hr, hg⟩)
    go_ret2
    exact ShP.mk HE.out hf hr hg
  by_cases h67 : k = 67
  · subst h67
    have HE : Hid (pS 4 67 = ([115, 97, 109, 101], [1, 1])) := hid rfl
    clear h60 h61 h62 h63 h64 h65 h66
    have HPT := hid fun w => points_any 2 (by omega) (by omega) 2 rfl w
    go_enter Try.func75, Try.ntmps75
    go_wp2_with (go_at_call 83; (with_reducible refine (HPT.out _).mono ?_); rintro e w' ⟨p, rfl, hf, hr, hg⟩)
    go_ret2
    exact ShP.mk HE.out hf hr hg
  by_cases h68 : k = 68
  · subst h68
    have HE : Hid (pS 4 68 = ([114, 97, 116, 105, 111], [1, 1, 1, 1])) := hid rfl
    clear h60 h61 h62 h63 h64 h65 h66 h67
    have HPT := hid fun w => points_any 4 (by omega) (by omega) 4 rfl w
    go_enter Try.func75, Try.ntmps75
    go_wp2_with (go_at_call 83; (with_reducible refine (HPT.out _).mono ?_); rintro e w' ⟨p, rfl, hf, hr, hg⟩)
    go_ret2
    exact ShP.mk HE.out hf hr hg
  have HE : Hid (pS 4 k = ([], [])) := hid (pS_none (ks := [60, 61, 62, 63, 64, 65, 66, 67, 68]) (by decide) (by simp only [List.mem_cons, List.not_mem_nil, or_false]; omega))
  have e60 : (k == 60) = false := by simpa using h60
  have e61 : (k == 61) = false := by simpa using h61
  have e62 : (k == 62) = false := by simpa using h62
  have e63 : (k == 63) = false := by simpa using h63
  have e64 : (k == 64) = false := by simpa using h64
  have e65 : (k == 65) = false := by simpa using h65
  have e66 : (k == 66) = false := by simpa using h66
  have e67 : (k == 67) = false := by simpa using h67
  have e68 : (k == 68) = false := by simpa using h68
  clear h60 h61 h62 h63 h64 h65 h66 h67 h68
  go_enter Try.func75, Try.ntmps75
  go_wp2_with fail
  go_ret2
  exact ShP.mk HE.out (fun a e => by cases e) (IRd.nil _ _) (grown_refl _ _)
end Go.Proofs.Ytlkajmfpbgipbaa
