/-
  Whatever the arguments are, the Go function IntervalContains returns true and leaves them as they are. Condition: the table deBruijn64tab of package math/bits holds what the program's text lays (the card ties it).
-/
import Derived.Test.YtcjoecmkkpmjmaaGreatDoorMrX
import Derived.Test.YtcjoecmkkpmjmaaGreatDoorMrS
import Derived.Test.YtcjoecmkkpmjmaaGreatDoorMrE
import Derived.Test.YtcjoecmkkpmjmaaGreatDoorMrH
import Derived.Deep.Strs
import Derived.Lib.SmallJoins
import Derived.Deep.RegionHeld3
import Derived.Deep.DeepCutAuto

set_option linter.unusedVariables false
set_option linter.unusedSimpArgs false
namespace Go.Proofs.YtcjoecmkkpmjmaaGreatDoor
open Go.RowKit Nm

/-- a number of an interval: n eighths of the way -/
def atR (A B : Rat) (n : Int) : Rat := A + (n : Rat) / ((8 : Int) : Rat) * (B - A)
theorem eighth {n : Int} (h0 : 0 ≤ n) (h8 : n ≤ 8) : 0 ≤ (n : Rat) / ((8 : Int) : Rat) ∧ (n : Rat) / ((8 : Int) : Rat) ≤ 1 := by
  have k0 : (0 : Rat) ≤ (n : Rat) := by exact_mod_cast h0
  have k8 : (n : Rat) ≤ ((8 : Int) : Rat) := by exact_mod_cast h8
  have p : (0 : Rat) < ((8 : Int) : Rat) := by decide +kernel
  exact ⟨le_div_of p (by grind), div_le_of p (by grind)⟩
theorem at_in {A B : Rat} (h : A ≤ B) {n : Int} (h0 : 0 ≤ n) (h8 : n ≤ 8) : A ≤ atR A B n ∧ atR A B n ≤ B := by
  obtain ⟨k0, k1⟩ := eighth h0 h8
  unfold atR
  generalize (n : Rat) / ((8 : Int) : Rat) = t at *
  have a := Rat.mul_nonneg k0 (show 0 ≤ B - A by grind)
  have b := mul_le_r k1 (show 0 ≤ B - A by grind)
  constructor <;> grind
theorem mul_in {A B X Y p q : Rat} (h1 : A ≤ p) (h2 : p ≤ B) (h3 : X ≤ q) (h4 : q ≤ Y) : minR (A * X) [A * Y, B * X, B * Y] ≤ p * q ∧ p * q ≤ maxR (A * X) [A * Y, B * X, B * Y] := by
  have e : ∀ c : Rat, c * q = q * c := fun c => Rat.mul_comm c q
  constructor
  · rcases prod_lo (c := q) h1 h2 with h | h
    · rw [e A] at h
      rcases prod_lo (c := A) h3 h4 with k | k
      · exact minR_le_of (y := A * X) (by simp) (by grind)
      · exact minR_le_of (y := A * Y) (by simp) (by grind)
    · rw [e B] at h
      rcases prod_lo (c := B) h3 h4 with k | k
      · exact minR_le_of (y := B * X) (by simp) (by grind)
      · exact minR_le_of (y := B * Y) (by simp) (by grind)
  · rcases prod_hi (c := q) h1 h2 with h | h
    · rw [e A] at h
      rcases prod_hi (c := A) h3 h4 with k | k
      · exact le_maxR_of (y := A * X) (by simp) (by grind)
      · exact le_maxR_of (y := A * Y) (by simp) (by grind)
    · rw [e B] at h
      rcases prod_hi (c := B) h3 h4 with k | k
      · exact le_maxR_of (y := B * X) (by simp) (by grind)
      · exact le_maxR_of (y := B * Y) (by simp) (by grind)
theorem sq_in {A B p : Rat} (h1 : A ≤ p) (h2 : p ≤ B) : sqLo A B ≤ p * p ∧ p * p ≤ sqHi A B := ⟨sqr_lo h1 h2, sqr_hi h1 h2⟩
/-- the reciprocals of an interval without 0 -/
theorem recip_in {X Y q : Rat} (hn : inI X Y ((0 : Int) : Rat) = false) (h1 : X ≤ q) (h2 : q ≤ Y) : q ≠ 0 ∧ ((1 : Int) : Rat) / Y ≤ ((1 : Int) : Rat) / q ∧ ((1 : Int) : Rat) / q ≤ ((1 : Int) : Rat) / X := by
  have hn : ¬ (X ≤ 0 ∧ 0 ≤ Y) := fun h => by rw [inI_zero.2 h] at hn; cases hn
  have one : ((1 : Int) : Rat) = 1 := rfl
  rw [one]
  have flip : ∀ {a b : Rat}, 0 < a → a ≤ b → 1 / b ≤ 1 / a := fun {a b} ha hab => by
    have hb : 0 < b := by grind
    refine div_le_of hb ?_
    have e : 1 / a * a = 1 := by grind
    have k : 0 ≤ 1 / a := le_div_of ha (by grind)
    have := mul_le_r hab k
    grind
  by_cases hX : 0 < X
  · refine ⟨by grind, flip (by grind) h2, flip hX h1⟩
  · have hY : Y < 0 := by
      by_cases hY : Y < 0
      · exact hY
      · exact absurd ⟨by grind, by grind⟩ hn
    have a := flip (show 0 < -Y by grind) (show -Y ≤ -q by grind)
    have b := flip (show 0 < -q by grind) (show -q ≤ -X by grind)
    have eY : 1 / -Y = -(1 / Y) := by grind
    have eq : 1 / -q = -(1 / q) := by grind
    have eX : 1 / -X = -(1 / X) := by grind
    rw [eY, eq] at a
    rw [eq, eX] at b
    exact ⟨by grind, by grind, by grind⟩
theorem div_in {A B X Y p q : Rat} (hn : inI X Y ((0 : Int) : Rat) = false) (h1 : A ≤ p) (h2 : p ≤ B) (h3 : X ≤ q) (h4 : q ≤ Y) :
    minR (A * (((1 : Int) : Rat) / Y)) [A * (((1 : Int) : Rat) / X), B * (((1 : Int) : Rat) / Y), B * (((1 : Int) : Rat) / X)] ≤ p / q ∧ p / q ≤ maxR (A * (((1 : Int) : Rat) / Y)) [A * (((1 : Int) : Rat) / X), B * (((1 : Int) : Rat) / Y), B * (((1 : Int) : Rat) / X)] := by
  obtain ⟨h0, k1, k2⟩ := recip_in hn h3 h4
  have e : p / q = p * (((1 : Int) : Rat) / q) := by
    have one : ((1 : Int) : Rat) = 1 := rfl
    rw [one]; grind
  rw [e]
  exact mul_in h1 h2 k1 k2
theorem sqLo_le (A B : Rat) : sqLo A B ≤ A * A := by
  by_cases k : inI A B ((0 : Int) : Rat) = true
  · rw [show sqLo A B = ((0 : Int) : Rat) from if_pos k]; exact sqr_nonneg A
  · rw [show sqLo A B = minR (A * A) [B * B] from if_neg k]; exact minR_le_of (y := A * A) (by simp) Rat.le_refl
theorem le_sqHi (A B : Rat) : B * B ≤ sqHi A B := le_maxR_of (y := B * B) (by simp) Rat.le_refl
theorem unit_sq (b : Nat) : ((2 ^ (2 * b) : Nat) : Rat) = (((2 ^ b : Nat) : Int) : Rat) * (((2 ^ b : Nat) : Int) : Rat) := by
  have e : 2 ^ (2 * b) = 2 ^ b * 2 ^ b := by rw [Nat.two_mul, Nat.pow_add]
  rw [e, Rat.natCast_mul, unit_cast]
theorem sqrt_in {A B p : Rat} {b r s t : Nat} (h1 : A ≤ p) (h2 : p ≤ B) (h0 : 0 ≤ p)
    (hr : r * r ≤ (maxR A [0] * ((2 ^ (2 * b) : Nat) : Rat)).floor.natAbs)
    (hs : s * s ≤ (-(-B * ((2 ^ (2 * b) : Nat) : Rat)).floor).natAbs) (hs2 : (-(-B * ((2 ^ (2 * b) : Nat) : Rat)).floor).natAbs < (s + 1) * (s + 1))
    (ht : t = if (-(-B * ((2 ^ (2 * b) : Nat) : Rat)).floor).natAbs - s * s = 0 then s else s + 1) :
    sqLo (((r : Int) : Rat) / (((2 ^ b : Nat) : Int) : Rat)) (((t : Int) : Rat) / (((2 ^ b : Nat) : Int) : Rat)) ≤ p ∧ p ≤ sqHi (((r : Int) : Rat) / (((2 ^ b : Nat) : Int) : Rat)) (((t : Int) : Rat) / (((2 ^ b : Nat) : Int) : Rat)) := by
  have hu := unit_pos b
  rw [unit_sq] at hr hs hs2 ht
  generalize (((2 ^ b : Nat) : Int) : Rat) = u at *
  have huu : 0 < u * u := by
    have := Rat.mul_lt_mul_of_pos_right hu hu
    grind
  constructor
  · refine Rat.le_trans (sqLo_le _ _) ?_
    have hx : maxR A [0] ≤ p := maxR_le fun y hy => by
      simp only [List.mem_cons, List.not_mem_nil, or_false] at hy
      rcases hy with rfl | rfl <;> assumption
    have hx0 : 0 ≤ maxR A [0] := le_maxR_of (y := 0) (by simp) Rat.le_refl
    generalize maxR A [0] = x at *
    have hf := Rat.floor_le (x * (u * u))
    have hf0 : 0 ≤ (x * (u * u)).floor := Rat.le_floor_iff.2 (by have := Rat.mul_nonneg hx0 (show 0 ≤ u * u by grind); exact_mod_cast this)
    generalize (x * (u * u)).floor = F at *
    have hi : ((r : Int) * (r : Int)) ≤ F := by
      have : ((r * r : Nat) : Int) ≤ (F.natAbs : Int) := by exact_mod_cast hr
      rw [Int.natAbs_of_nonneg hf0] at this
      exact_mod_cast this
    have hq : ((r : Int) : Rat) * ((r : Int) : Rat) ≤ x * (u * u) := by
      have : (((r : Int) * (r : Int) : Int) : Rat) ≤ (F : Rat) := by exact_mod_cast hi
      rw [Rat.intCast_mul] at this
      exact Rat.le_trans this hf
    have e : ((r : Int) : Rat) / u * (((r : Int) : Rat) / u) = ((r : Int) : Rat) * ((r : Int) : Rat) / (u * u) := by grind
    rw [e]
    exact Rat.le_trans (div_le_of huu hq) hx
  · refine Rat.le_trans ?_ (le_sqHi _ _)
    have hf := Rat.floor_le (-B * (u * u))
    have hB0 : 0 ≤ B := by grind
    have hF0 : 0 ≤ -(-B * (u * u)).floor := by
      have h := Rat.mul_nonneg hB0 (show 0 ≤ u * u by grind)
      have : (((-B * (u * u)).floor : Int) : Rat) ≤ ((0 : Int) : Rat) := by
        have z : ((0 : Int) : Rat) = 0 := rfl
        rw [z]; grind
      have : (-B * (u * u)).floor ≤ 0 := by exact_mod_cast this
      omega
    generalize hF : -(-B * (u * u)).floor = F at *
    have hfF : B * (u * u) ≤ (F : Rat) := by
      rw [← hF, Rat.intCast_neg]; grind
    have hN : (F.natAbs : Int) = F := Int.natAbs_of_nonneg hF0
    have ht2 : F.natAbs ≤ t * t := by
      rw [ht]
      split
      · omega
      · exact Nat.le_of_lt hs2
    have hi : F ≤ (t : Int) * (t : Int) := by
      rw [← hN]; exact_mod_cast ht2
    have hq : B * (u * u) ≤ ((t : Int) : Rat) * ((t : Int) : Rat) := by
      have : (F : Rat) ≤ (((t : Int) * (t : Int) : Int) : Rat) := by exact_mod_cast hi
      rw [Rat.intCast_mul] at this
      exact Rat.le_trans hfF this
    have e : ((t : Int) : Rat) / u * (((t : Int) : Rat) / u) = ((t : Int) : Rat) * ((t : Int) : Rat) / (u * u) := by grind
    rw [e]
    exact Rat.le_trans h2 (le_div_of huu hq)
end Go.Proofs.YtcjoecmkkpmjmaaGreatDoor

set_option linter.unusedVariables false
set_option linter.unusedSimpArgs false
namespace Go.Proofs.YtcjoecmkkpmjmaaGreatDoor
open Go.RowKit Nm

set_option maxRecDepth 20000 in
set_option maxHeartbeats 8000000 in
theorem at_v (S : Nat) {w : World} (T : Tb w) {g1 g2 : Bool} {p1 q1 p2 q2 : Option Addr} {n1 c1 m1 d1 n2 c2 m2 d2 : Nat} {A B : Rat} (hA : IsV w g1 p1 n1 c1 q1 m1 d1 A) (hB : IsV w g2 p2 n2 c2 q2 m2 d2 B) (z : Int) (h0 : 0 ≤ z) (h8 : z ≤ 8) (hn1 : n1 ≤ S) (hm1 : m1 ≤ S) (hn2 : n2 ≤ S) (hm2 : m2 ≤ S) (hS : S ≤ 100) :
    Calls Tryz.prog 13 #[.agg #[.bool g1, .slice p1 n1 c1, .slice q1 m1 d1, .bool g2, .slice p2 n2 c2, .slice q2 m2 d2], .int .i64 z] w (VPost w (atR A B z) (64 * S + 1700)) := by
  have HT := hid T
  clear T
  have hW := (grown_trans (World.grownBy_alloc w (.cells #[.bool g1, .slice p1 n1 c1, .slice q1 m1 d1, .bool g2, .slice p2 n2 c2, .slice q2 m2 d2] 29) none) (World.grownBy_alloc _ (.cells #[.bool false, .slice none 0 0, .slice none 0 0] 27) none))
  have bx0 : ((w.alloc (.cells #[.bool g1, .slice p1 n1 c1, .slice q1 m1 d1, .bool g2, .slice p2 n2 c2, .slice q2 m2 d2] 29)).alloc (.cells #[.bool false, .slice none 0 0, .slice none 0 0] 27)).heap[w.heap.size]? = some (.cells #[.bool g1, .slice p1 n1 c1, .slice q1 m1 d1, .bool g2, .slice p2 n2 c2, .slice q2 m2 d2] 29 (0, 0)) := by
    have h0 := heap_alloc_new w (.cells #[.bool g1, .slice p1 n1 c1, .slice q1 m1 d1, .bool g2, .slice p2 n2 c2, .slice q2 m2 d2] 29)
    have h1 := (World.grownBy_alloc (w.alloc (.cells #[.bool g1, .slice p1 n1 c1, .slice q1 m1 d1, .bool g2, .slice p2 n2 c2, .slice q2 m2 d2] 29)) (.cells #[.bool false, .slice none 0 0, .slice none 0 0] 27) none).block _ (lt_of_block h0) (by simp)
    have h2 := h1.trans h0
    simpa using h2
  have bx1 : ((w.alloc (.cells #[.bool g1, .slice p1 n1 c1, .slice q1 m1 d1, .bool g2, .slice p2 n2 c2, .slice q2 m2 d2] 29)).alloc (.cells #[.bool false, .slice none 0 0, .slice none 0 0] 27)).heap[w.heap.size + 1]? = some (.cells #[.bool false, .slice none 0 0, .slice none 0 0] 27 (0, 0)) := by
    have := heap_alloc_new (w.alloc (.cells #[.bool g1, .slice p1 n1 c1, .slice q1 m1 d1, .bool g2, .slice p2 n2 c2, .slice q2 m2 d2] 29)) (.cells #[.bool false, .slice none 0 0, .slice none 0 0] 27)
    simpa using this
  replace hA := hA.keep hW; replace hB := hB.keep hW
  obtain ⟨⟨x0, x1, x2, x3, x4, x5⟩, _⟩ := ivbox_facts bx0
  clear bx0
  go_enter Tryz.func13, Tryz.ntmps13
  go_wp2_with fail
  generalize ((w.alloc (.cells #[.bool g1, .slice p1 n1 c1, .slice q1 m1 d1, .bool g2, .slice p2 n2 c2, .slice q2 m2 d2] 29)).alloc (.cells #[.bool false, .slice none 0 0, .slice none 0 0] 27)) = w0 at *
  have hg := grown_drew w0 none
  replace hA := hA.keep hg; replace hB := hB.keep hg; replace x0 := hg.cell x0 (by simp); replace x1 := hg.cell x1 (by simp)
  replace x2 := hg.cell x2 (by simp); replace x3 := hg.cell x3 (by simp); replace x4 := hg.cell x4 (by simp); replace x5 := hg.cell x5 (by simp)
  replace bx1 := (hg.block _ (lt_of_block bx1) (by simp)).trans bx1; replace hW := grown_trans hW hg
  clear hg
  go_region_held3 (fun w' => w'.cell? ⟨w.heap.size, 0, none⟩ = some (.bool g1) ∧ w'.cell? ⟨w.heap.size, 1, none⟩ = some (.slice p1 n1 c1) ∧ w'.cell? ⟨w.heap.size, 2, none⟩ = some (.slice q1 m1 d1) ∧ w'.cell? ⟨w.heap.size, 3, none⟩ = some (.bool g2) ∧ w'.cell? ⟨w.heap.size, 4, none⟩ = some (.slice p2 n2 c2) ∧ w'.cell? ⟨w.heap.size, 5, none⟩ = some (.slice q2 m2 d2)) ((try go_split_ands) <;> (repeat' apply And.intro) <;> (repeat (first | (with_reducible assumption) | (with_reducible refine (grown_setCell _ _ _).cell ?_ (by first | (simp; omega) | simp)) | (with_reducible refine (World.grownBy_alloc _ _ none).cell ?_ (by simp)) | (with_reducible refine (grown_drew _ none).cell ?_ (by simp)))))
    (first
      | (go_at_call 55; (with_reducible refine (ratFrac_v (HT.out.keep hW) z 8 (by omega) (by omega) (by omega) (by omega)).mono ?_); rintro ee v1 ⟨g3, p3, n3, c3, q3, m3, d3, rfl, hP, hn3, hm3, hg⟩; replace hA := hA.keep hg; replace hB := hB.keep hg; replace x0 := hg.cell x0 (by simp); replace x1 := hg.cell x1 (by simp); replace x2 := hg.cell x2 (by simp); replace x3 := hg.cell x3 (by simp); replace x4 := hg.cell x4 (by simp); replace x5 := hg.cell x5 (by simp); replace bx1 := (hg.block _ (lt_of_block bx1) (by simp)).trans bx1; replace hW := grown_trans hW hg; clear hg)
      | (go_at_call 18; (with_reducible refine (ratSub_v S (HT.out.keep hW) hB.q hA.q hn2 hm2 hn1 hm1 (by omega)).mono ?_); rintro ee v2 ⟨g4, p4, n4, c4, q4, m4, d4, rfl, hD, hn4, hm4, hg⟩; replace hA := hA.keep hg; replace hB := hB.keep hg; replace hP := hP.keep hg; replace x0 := hg.cell x0 (by simp); replace x1 := hg.cell x1 (by simp); replace x2 := hg.cell x2 (by simp); replace x3 := hg.cell x3 (by simp); replace x4 := hg.cell x4 (by simp); replace x5 := hg.cell x5 (by simp); replace bx1 := (hg.block _ (lt_of_block bx1) (by simp)).trans bx1; replace hW := grown_trans hW hg; clear hg)
      | (go_at_call 20; (with_reducible refine (ratMul_v (4 * S + 80) (HT.out.keep hW) hP.q hD.q (by omega) (by omega) (by omega) (by omega) (by omega)).mono ?_); rintro ee v3 ⟨g5, p5, n5, c5, q5, m5, d5, rfl, hM, hn5, hm5, hg⟩; replace hA := hA.keep hg; replace hB := hB.keep hg; replace hP := hP.keep hg; replace hD := hD.keep hg; replace x0 := hg.cell x0 (by simp); replace x1 := hg.cell x1 (by simp); replace x2 := hg.cell x2 (by simp); replace x3 := hg.cell x3 (by simp); replace x4 := hg.cell x4 (by simp); replace x5 := hg.cell x5 (by simp); replace bx1 := (hg.block _ (lt_of_block bx1) (by simp)).trans bx1; replace hW := grown_trans hW hg; clear hg)
      | (go_at_call 16; (with_reducible refine (ratAdd_v (16 * S + 400) (HT.out.keep hW) hA.q hM.q (by omega) (by omega) (by omega) (by omega) (by omega)).mono ?_); rintro ee v4 ⟨g6, p6, n6, c6, q6, m6, d6, rfl, hZ, hn6, hm6, hg⟩; replace hA := hA.keep hg; replace hB := hB.keep hg; replace hP := hP.keep hg; replace hD := hD.keep hg; replace hM := hM.keep hg; replace x0 := hg.cell x0 (by simp); replace x1 := hg.cell x1 (by simp); replace x2 := hg.cell x2 (by simp); replace x3 := hg.cell x3 (by simp); replace x4 := hg.cell x4 (by simp); replace x5 := hg.cell x5 (by simp); replace bx1 := (hg.block _ (lt_of_block bx1) (by simp)).trans bx1; replace hW := grown_trans hW hg; clear hg; have ff := ratbox_facts bx1; obtain ⟨l0, l1, l2, f0, f1, f2⟩ := ff))
  go_wp2_with fail
  exact bodyPost_ret (v := .agg #[.bool g6, .slice p6 n6 c6, .slice q6 m6 d6]) (by simp [results, Tryz.results13, go_sem, l0, l1, l2, f0, f1, f2]) rfl
    (VPost.close bx1 (by omega) hW hZ (by omega) (by omega))
end Go.Proofs.YtcjoecmkkpmjmaaGreatDoor

set_option linter.unusedVariables false
set_option linter.unusedSimpArgs false
namespace Go.Proofs.YtcjoecmkkpmjmaaGreatDoor
open Go.RowKit Nm
open Go

theorem isGrid_out {w : World} (z : Int) (h : z < 0 ∨ 200 < z) :
    Calls Tryz.prog 34 #[.int .i64 z] w fun e w' => e = .returned (.bool false) ∧ w = w' := by
  by_cases h0 : 0 ≤ z
  · have h1 : ¬ z ≤ 200 := by omega
    have h2 : 200 < z := by omega
    clear h
    go_enter Tryz.func34, Tryz.ntmps34
    go_wp2
    go_ret
    exact ⟨rfl, rfl⟩
  · have h1 : z < 0 := by omega
    clear h
    go_enter Tryz.func34, Tryz.ntmps34
    go_wp2
    go_ret
    exact ⟨rfl, rfl⟩

set_option maxRecDepth 20000 in
set_option maxHeartbeats 4000000 in
theorem ivRound_e (w : World) (g1 g2 : Bool) (p1 q1 p2 q2 : Option Addr) (n1 c1 m1 d1 n2 c2 m2 d2 : Nat) (z : Int) (hz : z < 0 ∨ 200 < z) :
    Calls Tryz.prog 8 #[.agg #[.bool g1, .slice p1 n1 c1, .slice q1 m1 d1, .bool g2, .slice p2 n2 c2, .slice q2 m2 d2], .int .i64 z] w (WEPost w 2) := by
  have hW := (grown_trans (World.grownBy_alloc w (.cells #[.bool g1, .slice p1 n1 c1, .slice q1 m1 d1, .bool g2, .slice p2 n2 c2, .slice q2 m2 d2] 29) none) (World.grownBy_alloc _ (.cells #[.bool false, .slice none 0 0, .slice none 0 0, .bool false, .slice none 0 0, .slice none 0 0] 29) none))
  have bx0 : ((w.alloc (.cells #[.bool g1, .slice p1 n1 c1, .slice q1 m1 d1, .bool g2, .slice p2 n2 c2, .slice q2 m2 d2] 29)).alloc (.cells #[.bool false, .slice none 0 0, .slice none 0 0, .bool false, .slice none 0 0, .slice none 0 0] 29)).heap[w.heap.size]? = some (.cells #[.bool g1, .slice p1 n1 c1, .slice q1 m1 d1, .bool g2, .slice p2 n2 c2, .slice q2 m2 d2] 29 (0, 0)) := by
    have h0 := heap_alloc_new w (.cells #[.bool g1, .slice p1 n1 c1, .slice q1 m1 d1, .bool g2, .slice p2 n2 c2, .slice q2 m2 d2] 29)
    have h1 := (World.grownBy_alloc (w.alloc (.cells #[.bool g1, .slice p1 n1 c1, .slice q1 m1 d1, .bool g2, .slice p2 n2 c2, .slice q2 m2 d2] 29)) (.cells #[.bool false, .slice none 0 0, .slice none 0 0, .bool false, .slice none 0 0, .slice none 0 0] 29) none).block _ (lt_of_block h0) (by simp)
    have h2 := h1.trans h0
    simpa using h2
  have bx1 : ((w.alloc (.cells #[.bool g1, .slice p1 n1 c1, .slice q1 m1 d1, .bool g2, .slice p2 n2 c2, .slice q2 m2 d2] 29)).alloc (.cells #[.bool false, .slice none 0 0, .slice none 0 0, .bool false, .slice none 0 0, .slice none 0 0] 29)).heap[w.heap.size + 1]? = some (.cells #[.bool false, .slice none 0 0, .slice none 0 0, .bool false, .slice none 0 0, .slice none 0 0] 29 (0, 0)) := by
    have := heap_alloc_new (w.alloc (.cells #[.bool g1, .slice p1 n1 c1, .slice q1 m1 d1, .bool g2, .slice p2 n2 c2, .slice q2 m2 d2] 29)) (.cells #[.bool false, .slice none 0 0, .slice none 0 0, .bool false, .slice none 0 0, .slice none 0 0] 29)
    simpa using this
  skip
  obtain ⟨⟨x0, x1, x2, x3, x4, x5⟩, _⟩ := ivbox_facts bx0
  clear bx0
  go_enter Tryz.func8, Tryz.ntmps8
  go_wp2_with fail
  generalize ((w.alloc (.cells #[.bool g1, .slice p1 n1 c1, .slice q1 m1 d1, .bool g2, .slice p2 n2 c2, .slice q2 m2 d2] 29)).alloc (.cells #[.bool false, .slice none 0 0, .slice none 0 0, .bool false, .slice none 0 0, .slice none 0 0] 29)) = w0 at *
  refine (isGrid_out z hz).mono ?_
  rintro ee v1 ⟨rfl, rfl⟩
  have ff := ivbox_facts bx1; obtain ⟨⟨l0, l1, l2, l3, l4, l5⟩, f0, f1, f2, f3, f4, f5⟩ := ff
  go_wp2_with fail
  exact bodyPost_ret (v := .tuple #[.agg #[.bool false, .slice none 0 0, .slice none 0 0, .bool false, .slice none 0 0, .slice none 0 0], .int .i64 2]) (by simp [results, Tryz.results8, go_sem, l0, l1, l2, l3, l4, l5, f0, f1, f2, f3, f4, f5]) rfl
    (WEPost.close (by omega) hW _ _ _ _ _ _ _)

set_option maxRecDepth 20000 in
set_option maxHeartbeats 4000000 in
theorem ivSqrt_out (w : World) (g1 g2 : Bool) (p1 q1 p2 q2 : Option Addr) (n1 c1 m1 d1 n2 c2 m2 d2 : Nat) (z : Int) (hz : z < 0 ∨ 200 < z) :
    Calls Tryz.prog 10 #[.agg #[.bool g1, .slice p1 n1 c1, .slice q1 m1 d1, .bool g2, .slice p2 n2 c2, .slice q2 m2 d2], .int .i64 z] w (WEPost w 2) := by
  have hW := (grown_trans (World.grownBy_alloc w (.cells #[.bool g1, .slice p1 n1 c1, .slice q1 m1 d1, .bool g2, .slice p2 n2 c2, .slice q2 m2 d2] 29) none) (World.grownBy_alloc _ (.cells #[.bool false, .slice none 0 0, .slice none 0 0, .bool false, .slice none 0 0, .slice none 0 0] 29) none))
  have bx0 : ((w.alloc (.cells #[.bool g1, .slice p1 n1 c1, .slice q1 m1 d1, .bool g2, .slice p2 n2 c2, .slice q2 m2 d2] 29)).alloc (.cells #[.bool false, .slice none 0 0, .slice none 0 0, .bool false, .slice none 0 0, .slice none 0 0] 29)).heap[w.heap.size]? = some (.cells #[.bool g1, .slice p1 n1 c1, .slice q1 m1 d1, .bool g2, .slice p2 n2 c2, .slice q2 m2 d2] 29 (0, 0)) := by
    have h0 := heap_alloc_new w (.cells #[.bool g1, .slice p1 n1 c1, .slice q1 m1 d1, .bool g2, .slice p2 n2 c2, .slice q2 m2 d2] 29)
    have h1 := (World.grownBy_alloc (w.alloc (.cells #[.bool g1, .slice p1 n1 c1, .slice q1 m1 d1, .bool g2, .slice p2 n2 c2, .slice q2 m2 d2] 29)) (.cells #[.bool false, .slice none 0 0, .slice none 0 0, .bool false, .slice none 0 0, .slice none 0 0] 29) none).block _ (lt_of_block h0) (by simp)
    have h2 := h1.trans h0
    simpa using h2
  have bx1 : ((w.alloc (.cells #[.bool g1, .slice p1 n1 c1, .slice q1 m1 d1, .bool g2, .slice p2 n2 c2, .slice q2 m2 d2] 29)).alloc (.cells #[.bool false, .slice none 0 0, .slice none 0 0, .bool false, .slice none 0 0, .slice none 0 0] 29)).heap[w.heap.size + 1]? = some (.cells #[.bool false, .slice none 0 0, .slice none 0 0, .bool false, .slice none 0 0, .slice none 0 0] 29 (0, 0)) := by
    have := heap_alloc_new (w.alloc (.cells #[.bool g1, .slice p1 n1 c1, .slice q1 m1 d1, .bool g2, .slice p2 n2 c2, .slice q2 m2 d2] 29)) (.cells #[.bool false, .slice none 0 0, .slice none 0 0, .bool false, .slice none 0 0, .slice none 0 0] 29)
    simpa using this
  skip
  obtain ⟨⟨x0, x1, x2, x3, x4, x5⟩, _⟩ := ivbox_facts bx0
  clear bx0
  go_enter Tryz.func10, Tryz.ntmps10
  go_wp2_with fail
  generalize ((w.alloc (.cells #[.bool g1, .slice p1 n1 c1, .slice q1 m1 d1, .bool g2, .slice p2 n2 c2, .slice q2 m2 d2] 29)).alloc (.cells #[.bool false, .slice none 0 0, .slice none 0 0, .bool false, .slice none 0 0, .slice none 0 0] 29)) = w0 at *
  refine (isGrid_out z hz).mono ?_
  rintro ee v1 ⟨rfl, rfl⟩
  have ff := ivbox_facts bx1; obtain ⟨⟨l0, l1, l2, l3, l4, l5⟩, f0, f1, f2, f3, f4, f5⟩ := ff
  go_wp2_with fail
  exact bodyPost_ret (v := .tuple #[.agg #[.bool false, .slice none 0 0, .slice none 0 0, .bool false, .slice none 0 0, .slice none 0 0], .int .i64 2]) (by simp [results, Tryz.results10, go_sem, l0, l1, l2, l3, l4, l5, f0, f1, f2, f3, f4, f5]) rfl
    (WEPost.close (by omega) hW _ _ _ _ _ _ _)

set_option maxRecDepth 20000 in
set_option maxHeartbeats 4000000 in
theorem ivSqrt_neg (S : Nat) {w : World} {g1 g2 : Bool} {p1 q1 p2 q2 : Option Addr} {n1 c1 m1 d1 n2 c2 m2 d2 : Nat} {B : Rat} (hB : IsV w g2 p2 n2 c2 q2 m2 d2 B) (hb : B < 0) (hn2 : n2 ≤ S) (hm2 : m2 ≤ S) (hS : S ≤ 1000) (z : Int) (h0 : 0 ≤ z) (h1 : z ≤ 200) :
    Calls Tryz.prog 10 #[.agg #[.bool g1, .slice p1 n1 c1, .slice q1 m1 d1, .bool g2, .slice p2 n2 c2, .slice q2 m2 d2], .int .i64 z] w (WEPost w 2) := by
  have hc : cmpR B 0 < 0 := by rw [cmpR_lt hb]; omega
  have hW := (grown_trans (World.grownBy_alloc w (.cells #[.bool g1, .slice p1 n1 c1, .slice q1 m1 d1, .bool g2, .slice p2 n2 c2, .slice q2 m2 d2] 29) none) (World.grownBy_alloc _ (.cells #[.bool false, .slice none 0 0, .slice none 0 0, .bool false, .slice none 0 0, .slice none 0 0] 29) none))
  have bx0 : ((w.alloc (.cells #[.bool g1, .slice p1 n1 c1, .slice q1 m1 d1, .bool g2, .slice p2 n2 c2, .slice q2 m2 d2] 29)).alloc (.cells #[.bool false, .slice none 0 0, .slice none 0 0, .bool false, .slice none 0 0, .slice none 0 0] 29)).heap[w.heap.size]? = some (.cells #[.bool g1, .slice p1 n1 c1, .slice q1 m1 d1, .bool g2, .slice p2 n2 c2, .slice q2 m2 d2] 29 (0, 0)) := by
    have h0 := heap_alloc_new w (.cells #[.bool g1, .slice p1 n1 c1, .slice q1 m1 d1, .bool g2, .slice p2 n2 c2, .slice q2 m2 d2] 29)
    have h1 := (World.grownBy_alloc (w.alloc (.cells #[.bool g1, .slice p1 n1 c1, .slice q1 m1 d1, .bool g2, .slice p2 n2 c2, .slice q2 m2 d2] 29)) (.cells #[.bool false, .slice none 0 0, .slice none 0 0, .bool false, .slice none 0 0, .slice none 0 0] 29) none).block _ (lt_of_block h0) (by simp)
    have h2 := h1.trans h0
    simpa using h2
  have bx1 : ((w.alloc (.cells #[.bool g1, .slice p1 n1 c1, .slice q1 m1 d1, .bool g2, .slice p2 n2 c2, .slice q2 m2 d2] 29)).alloc (.cells #[.bool false, .slice none 0 0, .slice none 0 0, .bool false, .slice none 0 0, .slice none 0 0] 29)).heap[w.heap.size + 1]? = some (.cells #[.bool false, .slice none 0 0, .slice none 0 0, .bool false, .slice none 0 0, .slice none 0 0] 29 (0, 0)) := by
    have := heap_alloc_new (w.alloc (.cells #[.bool g1, .slice p1 n1 c1, .slice q1 m1 d1, .bool g2, .slice p2 n2 c2, .slice q2 m2 d2] 29)) (.cells #[.bool false, .slice none 0 0, .slice none 0 0, .bool false, .slice none 0 0, .slice none 0 0] 29)
    simpa using this
  replace hB := hB.keep hW
  obtain ⟨⟨x0, x1, x2, x3, x4, x5⟩, _⟩ := ivbox_facts bx0
  clear bx0
  go_enter Tryz.func10, Tryz.ntmps10
  go_wp2_with fail
  generalize ((w.alloc (.cells #[.bool g1, .slice p1 n1 c1, .slice q1 m1 d1, .bool g2, .slice p2 n2 c2, .slice q2 m2 d2] 29)).alloc (.cells #[.bool false, .slice none 0 0, .slice none 0 0, .bool false, .slice none 0 0, .slice none 0 0] 29)) = w0 at *
  refine (isGrid_in z h0 h1).mono ?_
  rintro ee v1 ⟨rfl, rfl⟩
  go_wp2_with fail
  refine (ratSign_v S hB.q hn2 hm2 (by omega)).mono ?_
  rintro ee v2 ⟨rfl, hg⟩
  replace hB := hB.keep hg; replace x0 := hg.cell x0 (by simp); replace x1 := hg.cell x1 (by simp); replace x2 := hg.cell x2 (by simp)
  replace x3 := hg.cell x3 (by simp); replace x4 := hg.cell x4 (by simp); replace x5 := hg.cell x5 (by simp); replace bx1 := (hg.block _ (lt_of_block bx1) (by simp)).trans bx1
  replace hW := grown_trans hW hg
  clear hg
  have ff := ivbox_facts bx1; obtain ⟨⟨l0, l1, l2, l3, l4, l5⟩, f0, f1, f2, f3, f4, f5⟩ := ff
  go_wp2_with fail
  exact bodyPost_ret (v := .tuple #[.agg #[.bool false, .slice none 0 0, .slice none 0 0, .bool false, .slice none 0 0, .slice none 0 0], .int .i64 2]) (by simp [results, Tryz.results10, go_sem, l0, l1, l2, l3, l4, l5, f0, f1, f2, f3, f4, f5]) rfl
    (WEPost.close (by omega) hW _ _ _ _ _ _ _)

set_option maxRecDepth 20000 in
set_option maxHeartbeats 4000000 in
theorem rIvRound_e (w : World) (g1 g2 : Bool) (p1 q1 p2 q2 : Option Addr) (n1 c1 m1 d1 n2 c2 m2 d2 : Nat) (z : Int) (hz : z < 0 ∨ 200 < z) :
    Calls Tryz.prog 9 #[.agg #[.bool g1, .slice p1 n1 c1, .slice q1 m1 d1, .bool g2, .slice p2 n2 c2, .slice q2 m2 d2], .int .i64 z] w (WEPost w 2) := by
  have hW := (grown_trans (World.grownBy_alloc w (.cells #[.bool g1, .slice p1 n1 c1, .slice q1 m1 d1, .bool g2, .slice p2 n2 c2, .slice q2 m2 d2] 29) none) (World.grownBy_alloc _ (.cells #[.bool false, .slice none 0 0, .slice none 0 0, .bool false, .slice none 0 0, .slice none 0 0] 29) none))
  have bx0 : ((w.alloc (.cells #[.bool g1, .slice p1 n1 c1, .slice q1 m1 d1, .bool g2, .slice p2 n2 c2, .slice q2 m2 d2] 29)).alloc (.cells #[.bool false, .slice none 0 0, .slice none 0 0, .bool false, .slice none 0 0, .slice none 0 0] 29)).heap[w.heap.size]? = some (.cells #[.bool g1, .slice p1 n1 c1, .slice q1 m1 d1, .bool g2, .slice p2 n2 c2, .slice q2 m2 d2] 29 (0, 0)) := by
    have h0 := heap_alloc_new w (.cells #[.bool g1, .slice p1 n1 c1, .slice q1 m1 d1, .bool g2, .slice p2 n2 c2, .slice q2 m2 d2] 29)
    have h1 := (World.grownBy_alloc (w.alloc (.cells #[.bool g1, .slice p1 n1 c1, .slice q1 m1 d1, .bool g2, .slice p2 n2 c2, .slice q2 m2 d2] 29)) (.cells #[.bool false, .slice none 0 0, .slice none 0 0, .bool false, .slice none 0 0, .slice none 0 0] 29) none).block _ (lt_of_block h0) (by simp)
    have h2 := h1.trans h0
    simpa using h2
  have bx1 : ((w.alloc (.cells #[.bool g1, .slice p1 n1 c1, .slice q1 m1 d1, .bool g2, .slice p2 n2 c2, .slice q2 m2 d2] 29)).alloc (.cells #[.bool false, .slice none 0 0, .slice none 0 0, .bool false, .slice none 0 0, .slice none 0 0] 29)).heap[w.heap.size + 1]? = some (.cells #[.bool false, .slice none 0 0, .slice none 0 0, .bool false, .slice none 0 0, .slice none 0 0] 29 (0, 0)) := by
    have := heap_alloc_new (w.alloc (.cells #[.bool g1, .slice p1 n1 c1, .slice q1 m1 d1, .bool g2, .slice p2 n2 c2, .slice q2 m2 d2] 29)) (.cells #[.bool false, .slice none 0 0, .slice none 0 0, .bool false, .slice none 0 0, .slice none 0 0] 29)
    simpa using this
  skip
  obtain ⟨⟨x0, x1, x2, x3, x4, x5⟩, _⟩ := ivbox_facts bx0
  clear bx0
  go_enter Tryz.func9, Tryz.ntmps9
  go_upto_region 1 with fail
  generalize ((w.alloc (.cells #[.bool g1, .slice p1 n1 c1, .slice q1 m1 d1, .bool g2, .slice p2 n2 c2, .slice q2 m2 d2] 29)).alloc (.cells #[.bool false, .slice none 0 0, .slice none 0 0, .bool false, .slice none 0 0, .slice none 0 0] 29)) = w0 at *
  by_cases hz0 : z < 0
  · have ff := ivbox_facts bx1; obtain ⟨⟨l0, l1, l2, l3, l4, l5⟩, f0, f1, f2, f3, f4, f5⟩ := ff
    go_wp2_with fail
    exact bodyPost_ret (v := .tuple #[.agg #[.bool false, .slice none 0 0, .slice none 0 0, .bool false, .slice none 0 0, .slice none 0 0], .int .i64 2]) (by simp [results, Tryz.results9, go_sem, l0, l1, l2, l3, l4, l5, f0, f1, f2, f3, f4, f5]) rfl
      (WEPost.close (by omega) hW _ _ _ _ _ _ _)
  · have hz1 : 200 < z := by omega
    have ff := ivbox_facts bx1; obtain ⟨⟨l0, l1, l2, l3, l4, l5⟩, f0, f1, f2, f3, f4, f5⟩ := ff
    go_wp2_with fail
    exact bodyPost_ret (v := .tuple #[.agg #[.bool false, .slice none 0 0, .slice none 0 0, .bool false, .slice none 0 0, .slice none 0 0], .int .i64 2]) (by simp [results, Tryz.results9, go_sem, l0, l1, l2, l3, l4, l5, f0, f1, f2, f3, f4, f5]) rfl
      (WEPost.close (by omega) hW _ _ _ _ _ _ _)

set_option maxRecDepth 20000 in
set_option maxHeartbeats 4000000 in
theorem rSqrt_e (S : Nat) {w : World} {g1 g2 : Bool} {p1 q1 p2 q2 : Option Addr} {n1 c1 m1 d1 n2 c2 m2 d2 : Nat} {B : Rat} (hB : IsV w g2 p2 n2 c2 q2 m2 d2 B) (hn2 : n2 ≤ S) (hm2 : m2 ≤ S) (hS : S ≤ 1000) (z : Int) (hz : B < 0 ∨ z < 0 ∨ 200 < z) :
    Calls Tryz.prog 11 #[.agg #[.bool g1, .slice p1 n1 c1, .slice q1 m1 d1, .bool g2, .slice p2 n2 c2, .slice q2 m2 d2], .int .i64 z] w (WEPost w 2) := by
  have hW := (grown_trans (World.grownBy_alloc w (.cells #[.bool g1, .slice p1 n1 c1, .slice q1 m1 d1, .bool g2, .slice p2 n2 c2, .slice q2 m2 d2] 29) none) (World.grownBy_alloc _ (.cells #[.bool false, .slice none 0 0, .slice none 0 0, .bool false, .slice none 0 0, .slice none 0 0] 29) none))
  have bx0 : ((w.alloc (.cells #[.bool g1, .slice p1 n1 c1, .slice q1 m1 d1, .bool g2, .slice p2 n2 c2, .slice q2 m2 d2] 29)).alloc (.cells #[.bool false, .slice none 0 0, .slice none 0 0, .bool false, .slice none 0 0, .slice none 0 0] 29)).heap[w.heap.size]? = some (.cells #[.bool g1, .slice p1 n1 c1, .slice q1 m1 d1, .bool g2, .slice p2 n2 c2, .slice q2 m2 d2] 29 (0, 0)) := by
    have h0 := heap_alloc_new w (.cells #[.bool g1, .slice p1 n1 c1, .slice q1 m1 d1, .bool g2, .slice p2 n2 c2, .slice q2 m2 d2] 29)
    have h1 := (World.grownBy_alloc (w.alloc (.cells #[.bool g1, .slice p1 n1 c1, .slice q1 m1 d1, .bool g2, .slice p2 n2 c2, .slice q2 m2 d2] 29)) (.cells #[.bool false, .slice none 0 0, .slice none 0 0, .bool false, .slice none 0 0, .slice none 0 0] 29) none).block _ (lt_of_block h0) (by simp)
    have h2 := h1.trans h0
    simpa using h2
  have bx1 : ((w.alloc (.cells #[.bool g1, .slice p1 n1 c1, .slice q1 m1 d1, .bool g2, .slice p2 n2 c2, .slice q2 m2 d2] 29)).alloc (.cells #[.bool false, .slice none 0 0, .slice none 0 0, .bool false, .slice none 0 0, .slice none 0 0] 29)).heap[w.heap.size + 1]? = some (.cells #[.bool false, .slice none 0 0, .slice none 0 0, .bool false, .slice none 0 0, .slice none 0 0] 29 (0, 0)) := by
    have := heap_alloc_new (w.alloc (.cells #[.bool g1, .slice p1 n1 c1, .slice q1 m1 d1, .bool g2, .slice p2 n2 c2, .slice q2 m2 d2] 29)) (.cells #[.bool false, .slice none 0 0, .slice none 0 0, .bool false, .slice none 0 0, .slice none 0 0] 29)
    simpa using this
  replace hB := hB.keep hW
  obtain ⟨⟨x0, x1, x2, x3, x4, x5⟩, _⟩ := ivbox_facts bx0
  clear bx0
  go_enter Tryz.func11, Tryz.ntmps11
  go_wp2_with fail
  generalize ((w.alloc (.cells #[.bool g1, .slice p1 n1 c1, .slice q1 m1 d1, .bool g2, .slice p2 n2 c2, .slice q2 m2 d2] 29)).alloc (.cells #[.bool false, .slice none 0 0, .slice none 0 0, .bool false, .slice none 0 0, .slice none 0 0] 29)) = w0 at *
  refine (rSign3_v S hB.q hn2 hm2 (by omega)).mono ?_
  rintro ee v2 ⟨rfl, hg⟩
  replace hB := hB.keep hg; replace x0 := hg.cell x0 (by simp); replace x1 := hg.cell x1 (by simp); replace x2 := hg.cell x2 (by simp)
  replace x3 := hg.cell x3 (by simp); replace x4 := hg.cell x4 (by simp); replace x5 := hg.cell x5 (by simp); replace bx1 := (hg.block _ (lt_of_block bx1) (by simp)).trans bx1
  replace hW := grown_trans hW hg
  clear hg
  by_cases hb : B < 0
  · have hc : cmpR B 0 < 0 := by rw [cmpR_lt hb]; omega
    have ff := ivbox_facts bx1; obtain ⟨⟨l0, l1, l2, l3, l4, l5⟩, f0, f1, f2, f3, f4, f5⟩ := ff
    go_wp2_with fail
    exact bodyPost_ret (v := .tuple #[.agg #[.bool false, .slice none 0 0, .slice none 0 0, .bool false, .slice none 0 0, .slice none 0 0], .int .i64 2]) (by simp [results, Tryz.results11, go_sem, l0, l1, l2, l3, l4, l5, f0, f1, f2, f3, f4, f5]) rfl
      (WEPost.close (by omega) hW _ _ _ _ _ _ _)
  · by_cases hz0 : z < 0
    · have hc : ¬ cmpR B 0 < 0 := cmpR_nn hb
      have hz0 : z < 0 := by assumption
      have ff := ivbox_facts bx1; obtain ⟨⟨l0, l1, l2, l3, l4, l5⟩, f0, f1, f2, f3, f4, f5⟩ := ff
      go_wp2_with fail
      exact bodyPost_ret (v := .tuple #[.agg #[.bool false, .slice none 0 0, .slice none 0 0, .bool false, .slice none 0 0, .slice none 0 0], .int .i64 2]) (by simp [results, Tryz.results11, go_sem, l0, l1, l2, l3, l4, l5, f0, f1, f2, f3, f4, f5]) rfl
        (WEPost.close (by omega) hW _ _ _ _ _ _ _)
    · have hc : ¬ cmpR B 0 < 0 := cmpR_nn hb
      have hz1 : 200 < z := hz.elim (fun h => absurd h hb) (fun h => h.elim (fun h => absurd h hz0) id)
      have ff := ivbox_facts bx1; obtain ⟨⟨l0, l1, l2, l3, l4, l5⟩, f0, f1, f2, f3, f4, f5⟩ := ff
      go_wp2_with fail
      exact bodyPost_ret (v := .tuple #[.agg #[.bool false, .slice none 0 0, .slice none 0 0, .bool false, .slice none 0 0, .slice none 0 0], .int .i64 2]) (by simp [results, Tryz.results11, go_sem, l0, l1, l2, l3, l4, l5, f0, f1, f2, f3, f4, f5]) rfl
        (WEPost.close (by omega) hW _ _ _ _ _ _ _)
end Go.Proofs.YtcjoecmkkpmjmaaGreatDoor

set_option linter.unusedVariables false
set_option linter.unusedSimpArgs false
namespace Go.Proofs.YtcjoecmkkpmjmaaGreatDoor
open Go.ChangeShapes Go.WideShapes Go.ChangeAt Go.RowKit Nm

theorem readThree : Tryz.prog.readableRec 50 = true := by kernel_rfl
theorem rowThree : 50 < Tryz.prog.types.size := of_decide_eq_true (by kernel_rfl)
theorem cellsThree : Tryz.prog.cellsOf 50 = 18 := by kernel_rfl
/-- an interval as it comes in -/
structure IA where
  g1 : Bool
  p1 : Option Addr
  n1 : Nat
  c1 : Nat
  x1 : List Nat
  q1 : Option Addr
  m1 : Nat
  d1 : Nat
  y1 : List Nat
  g2 : Bool
  p2 : Option Addr
  n2 : Nat
  c2 : Nat
  x2 : List Nat
  q2 : Option Addr
  m2 : Nat
  d2 : Nat
  y2 : List Nat
structure IA.ok (i : IA) (W : World) : Prop where
  r1 : IRd W .u16 i.p1 i.n1 i.c1 i.x1
  x1 : Dg 65536 i.x1
  s1 : IRd W .u16 i.q1 i.m1 i.d1 i.y1
  y1 : Dg 65536 i.y1
  r2 : IRd W .u16 i.p2 i.n2 i.c2 i.x2
  x2 : Dg 65536 i.x2
  s2 : IRd W .u16 i.q2 i.m2 i.d2 i.y2
  y2 : Dg 65536 i.y2
section
variable {H : Type} {enc : TypeId × Value → H} {W : World} {v : Value} {d : DataW H} {ps : List MemPlace}
set_option maxRecDepth 100000 in
theorem open_Ivcs {fuel : Nat} {cs : List Value} {x : DataW H × List MemPlace} (hf : DataW.trod enc Tryz.prog W 0 (fun _ => true) true fuel 29 cs = some x) (hl : cs.length = 6) :
    ∃ i : IA, cs = [.bool i.g1, .slice i.p1 i.n1 i.c1, .slice i.q1 i.m1 i.d1, .bool i.g2, .slice i.p2 i.n2 i.c2, .slice i.q2 i.m2 i.d2] ∧ i.ok W := by
  obtain ⟨y0, y1, k, hx, _, h0, h1⟩ := trod_struct2 Tryz.underlying29 hf
  rw [cellsRat] at h0 h1
  match cs, hl with
  | [u, v, t, u2, v2, t2], _ =>
    obtain ⟨g, a, n, c, xs, b, m, e, ys, hs, hr, hd, hr1, hd1⟩ := open_Ratcs h0 (by simp)
    obtain ⟨g2, a2, n2, c2, xs2, b2, m2, e2, ys2, hs2, hr2, hd2, hr3, hd3⟩ := open_Ratcs h1 (by simp)
    simp at hs hs2
    refine ⟨⟨g, a, n, c, xs, b, m, e, ys, g2, a2, n2, c2, xs2, b2, m2, e2, ys2⟩, ?_, ⟨hr, hd, hr1, hd1, hr2, hd2, hr3, hd3⟩⟩
    obtain ⟨rfl, rfl, rfl⟩ := hs
    obtain ⟨rfl, rfl, rfl⟩ := hs2
    rfl
set_option maxRecDepth 100000 in
theorem open_Three (hval : Value.okWide Tryz.prog W .any 0 50 v) (h0 : DataW.Trod enc Tryz.prog W 0 (fun _ => true) true 50 v d ps) :
    ∃ i j k : IA, v = .agg #[.bool i.g1, .slice i.p1 i.n1 i.c1, .slice i.q1 i.m1 i.d1, .bool i.g2, .slice i.p2 i.n2 i.c2, .slice i.q2 i.m2 i.d2, .bool j.g1, .slice j.p1 j.n1 j.c1, .slice j.q1 j.m1 j.d1, .bool j.g2, .slice j.p2 j.n2 j.c2, .slice j.q2 j.m2 j.d2, .bool k.g1, .slice k.p1 k.n1 k.c1, .slice k.q1 k.m1 k.d1, .bool k.g2, .slice k.p2 k.n2 k.c2, .slice k.q2 k.m2 k.d2] ∧ i.ok W ∧ j.ok W ∧ k.ok W := by
  obtain ⟨cs, rfl, hsz⟩ := okWide_struct Tryz.underlying50 hval
  obtain ⟨fuel, hf⟩ := h0
  obtain ⟨y0, y1, y2, m, hx, hl, h0, h1, h2⟩ := Go.Deep.trod_struct3 Tryz.underlying50 hf
  rw [cellsThree] at hl
  rw [cellsIv] at h0 h1 h2
  simp only [Value.cells] at hl h0 h1 h2
  obtain ⟨l⟩ := cs
  match l, hl with
  | [a0, a1, a2, a3, a4, a5, b0, b1, b2, b3, b4, b5, e0, e1, e2, e3, e4, e5], _ =>
    obtain ⟨i, hi, oi⟩ := open_Ivcs h0 (by simp)
    obtain ⟨j, hj, oj⟩ := open_Ivcs h1 (by simp)
    obtain ⟨k, hk, ok⟩ := open_Ivcs h2 (by simp)
    simp at hi hj hk
    refine ⟨i, j, k, ?_, oi, oj, ok⟩
    obtain ⟨rfl, rfl, rfl, rfl, rfl, rfl⟩ := hi
    obtain ⟨rfl, rfl, rfl, rfl, rfl, rfl⟩ := hj
    obtain ⟨rfl, rfl, rfl, rfl, rfl, rfl⟩ := hk
    rfl
end
end Go.Proofs.YtcjoecmkkpmjmaaGreatDoor

set_option linter.unusedVariables false
set_option linter.unusedSimpArgs false
namespace Go.Proofs.YtcjoecmkkpmjmaaGreatDoor
open Go.ChangeShapes Go.WideShapes Go.ChangeAt Go.RowKit Nm

theorem readSample : Tryz.prog.readableRec 38 = true := by kernel_rfl
theorem rowSample : 38 < Tryz.prog.types.size := of_decide_eq_true (by kernel_rfl)
theorem cellsSample : Tryz.prog.cellsOf 38 = 14 := by kernel_rfl
theorem cellsInt1 : Tryz.prog.cellsOf 3 = 1 := by kernel_rfl
theorem sample_cells {x : List Value} (h : x.length = 14) : ∃ a0 a1 a2 a3 a4 a5 b0 b1 b2 b3 b4 b5 e0 e1, x = [a0, a1, a2, a3, a4, a5, b0, b1, b2, b3, b4, b5, e0, e1] := by
  match x, h with
  | [a0, a1, a2, a3, a4, a5, b0, b1, b2, b3, b4, b5, e0, e1], _ => exact ⟨a0, a1, a2, a3, a4, a5, b0, b1, b2, b3, b4, b5, e0, e1, rfl⟩
section
variable {H : Type} {enc : TypeId × Value → H} {W : World} {v : Value} {d : DataW H} {ps : List MemPlace}
set_option maxRecDepth 100000 in
theorem open_Sample (hval : Value.okWide Tryz.prog W .any 0 38 v) (h0 : DataW.Trod enc Tryz.prog W 0 (fun _ => true) true 38 v d ps) :
    ∃ (i j : IA) (x y : Int), v = .agg #[.bool i.g1, .slice i.p1 i.n1 i.c1, .slice i.q1 i.m1 i.d1, .bool i.g2, .slice i.p2 i.n2 i.c2, .slice i.q2 i.m2 i.d2, .bool j.g1, .slice j.p1 j.n1 j.c1, .slice j.q1 j.m1 j.d1, .bool j.g2, .slice j.p2 j.n2 j.c2, .slice j.q2 j.m2 j.d2, .int .i64 x, .int .i64 y] ∧ i.ok W ∧ j.ok W ∧ (Lit.int .i64 x).wf = true ∧ (Lit.int .i64 y).wf = true := by
  obtain ⟨cs, rfl, hsz⟩ := okWide_struct Tryz.underlying38 hval
  obtain ⟨fuel, hf⟩ := h0
  obtain ⟨y0, y1, y2, y3, m, hx, hl, h0, h1, h2, h3⟩ := Go.Joins.trod_struct4 Tryz.underlying38 hf
  rw [cellsSample] at hl
  rw [cellsIv] at h0 h1
  rw [cellsInt1] at h2 h3
  simp only [Value.cells] at hl h0 h1 h2 h3
  obtain ⟨l⟩ := cs
  obtain ⟨a0, a1, a2, a3, a4, a5, b0, b1, b2, b3, b4, b5, e0, e1, rfl⟩ := sample_cells hl
  obtain ⟨i, hi, oi⟩ := open_Ivcs h0 (by simp)
  obtain ⟨j, hj, oj⟩ := open_Ivcs h1 (by simp)
  obtain ⟨x, hx, _, wx⟩ := DataW.trod_int Tryz.underlying3 h2
  obtain ⟨y, hy, _, wy⟩ := DataW.trod_int Tryz.underlying3 h3
  simp at hi hj hx hy
  refine ⟨i, j, x, y, ?_, oi, oj, wx, wy⟩
  obtain ⟨rfl, rfl, rfl, rfl, rfl, rfl⟩ := hi
  obtain ⟨rfl, rfl, rfl, rfl, rfl, rfl⟩ := hj
  obtain rfl := hx
  obtain rfl := hy
  rfl
end
end Go.Proofs.YtcjoecmkkpmjmaaGreatDoor

set_option linter.unusedVariables false
set_option linter.unusedSimpArgs false
namespace Go.Proofs.YtcjoecmkkpmjmaaGreatDoor
open Go.ChangeShapes Go.WideShapes Go.ChangeAt Go.RowKit Nm
open Go

theorem cells14 {w : World} {G : Nat} {v0 v1 v2 v3 v4 v5 v6 v7 v8 v9 v10 v11 v12 v13 : Value} {T : TypeId} (hb : w.heap[G]? = some (.cells #[v0, v1, v2, v3, v4, v5, v6, v7, v8, v9, v10, v11, v12, v13] T (0, 0))) :
    w.cell? ⟨G, 0, none⟩ = some v0 ∧ w.cell? ⟨G, 1, none⟩ = some v1 ∧ w.cell? ⟨G, 2, none⟩ = some v2 ∧ w.cell? ⟨G, 3, none⟩ = some v3 ∧ w.cell? ⟨G, 4, none⟩ = some v4 ∧ w.cell? ⟨G, 5, none⟩ = some v5 ∧ w.cell? ⟨G, 6, none⟩ = some v6 ∧ w.cell? ⟨G, 7, none⟩ = some v7 ∧ w.cell? ⟨G, 8, none⟩ = some v8 ∧ w.cell? ⟨G, 9, none⟩ = some v9 ∧ w.cell? ⟨G, 10, none⟩ = some v10 ∧ w.cell? ⟨G, 11, none⟩ = some v11 ∧ w.cell? ⟨G, 12, none⟩ = some v12 ∧ w.cell? ⟨G, 13, none⟩ = some v13 := by
  have k0 := cell_of_row w G 0 _ _ _ hb
  have k1 := cell_of_row w G 1 _ _ _ hb
  have k2 := cell_of_row w G 2 _ _ _ hb
  have k3 := cell_of_row w G 3 _ _ _ hb
  have k4 := cell_of_row w G 4 _ _ _ hb
  have k5 := cell_of_row w G 5 _ _ _ hb
  have k6 := cell_of_row w G 6 _ _ _ hb
  have k7 := cell_of_row w G 7 _ _ _ hb
  have k8 := cell_of_row w G 8 _ _ _ hb
  have k9 := cell_of_row w G 9 _ _ _ hb
  have k10 := cell_of_row w G 10 _ _ _ hb
  have k11 := cell_of_row w G 11 _ _ _ hb
  have k12 := cell_of_row w G 12 _ _ _ hb
  have k13 := cell_of_row w G 13 _ _ _ hb
  simp at k0 k1 k2 k3 k4 k5 k6 k7 k8 k9 k10 k11 k12 k13
  exact ⟨k0, k1, k2, k3, k4, k5, k6, k7, k8, k9, k10, k11, k12, k13⟩
theorem has_t (S : Nat) {w : World} {g1 g2 g3 : Bool} {p1 q1 p2 q2 p3 q3 : Option Addr} {n1 c1 m1 d1 n2 c2 m2 d2 n3 c3 m3 d3 : Nat} {lo hi x : Rat} (hA : IsQ w g1 p1 n1 c1 q1 m1 d1 lo) (hB : IsQ w g2 p2 n2 c2 q2 m2 d2 hi) (hX : IsQ w g3 p3 n3 c3 q3 m3 d3 x) (hn1 : n1 ≤ S) (hm1 : m1 ≤ S) (hn2 : n2 ≤ S) (hm2 : m2 ≤ S) (hn3 : n3 ≤ S) (hm3 : m3 ≤ S) (hS : S ≤ 40000) (h : inI lo hi x = true) :
    Calls Tryz.prog 14 #[.agg #[.bool g1, .slice p1 n1 c1, .slice q1 m1 d1, .bool g2, .slice p2 n2 c2, .slice q2 m2 d2], .agg #[.bool g3, .slice p3 n3 c3, .slice q3 m3 d3]] w fun e w' => e = .returned (.bool true) ∧ w.grownBy w' none := by
  have := has_v S hA hB hX hn1 hm1 hn2 hm2 hn3 hm3 hS
  rwa [h] at this
theorem sqrt_ord {A B p : Rat} {b r s t : Nat} (h1 : A ≤ p) (h2 : p ≤ B) (h0 : 0 ≤ p)
    (hr : r * r ≤ (maxR A [0] * ((2 ^ (2 * b) : Nat) : Rat)).floor.natAbs)
    (hs : s * s ≤ (-(-B * ((2 ^ (2 * b) : Nat) : Rat)).floor).natAbs) (hs2 : (-(-B * ((2 ^ (2 * b) : Nat) : Rat)).floor).natAbs < (s + 1) * (s + 1))
    (ht : t = if (-(-B * ((2 ^ (2 * b) : Nat) : Rat)).floor).natAbs - s * s = 0 then s else s + 1) :
    ((r : Int) : Rat) / (((2 ^ b : Nat) : Int) : Rat) ≤ ((t : Int) : Rat) / (((2 ^ b : Nat) : Int) : Rat) := by
  have hu := unit_pos b
  have hu2 := unit_pos (2 * b)
  rw [← unit_cast (2 * b)] at hu2
  generalize ((2 ^ (2 * b) : Nat) : Rat) = v at *
  have hx : maxR A [0] ≤ B := maxR_le fun y hy => by
    simp only [List.mem_cons, List.not_mem_nil, or_false] at hy
    rcases hy with rfl | rfl <;> grind
  have hx0 : 0 ≤ maxR A [0] := le_maxR_of (y := 0) (by simp) Rat.le_refl
  generalize maxR A [0] = x at *
  have hB0 : 0 ≤ B := by grind
  have m1 := Rat.floor_le (x * v)
  have m2 := Rat.floor_le (-B * v)
  have k1 : x * v ≤ B * v := mul_le_r hx (by grind)
  have f0 : 0 ≤ (x * v).floor := Rat.le_floor_iff.2 (by have := Rat.mul_nonneg hx0 (show 0 ≤ v by grind); exact_mod_cast this)
  have k2 : (x * v).floor ≤ -(-B * v).floor := by
    have : (((x * v).floor : Int) : Rat) ≤ ((-(-B * v).floor : Int) : Rat) := by
      rw [Rat.intCast_neg]; grind
    exact_mod_cast this
  have ht2 : (-(-B * v).floor).natAbs ≤ t * t := by
    rw [ht]
    split
    · omega
    · exact Nat.le_of_lt hs2
  have hrt : r * r ≤ t * t := by omega
  have hle : r ≤ t := by
    by_cases h : r ≤ t
    · exact h
    · have := Nat.mul_le_mul (show t + 1 ≤ r by omega) (show t + 1 ≤ r by omega)
      have e3 : (t + 1) * (t + 1) = t * t + 2 * t + 1 := by grind
      omega
  refine div_le_of hu ?_
  have e : ((t : Int) : Rat) / (((2 ^ b : Nat) : Int) : Rat) * (((2 ^ b : Nat) : Int) : Rat) = ((t : Int) : Rat) := by grind
  rw [e]
  exact_mod_cast hle
/-- what Div of numbers gave -/
def DqRel (w0 : World) (P Q : Rat) (s9 s10 : Value) (wx : World) : Prop :=
  ∃ u : Nat, s9 = .pointer (some ⟨u, 0, none⟩) ∧ w0.grownBy wx none ∧ ((s10 = .int .i64 0 ∧ Q ≠ 0 ∧ ∃ (g : Bool) (p : Option Addr) (n c : Nat) (q : Option Addr) (m d : Nat), wx.heap[u]? = some (.cells #[.bool g, .slice p n c, .slice q m d] 27 (0, 0)) ∧ IsV wx g p n c q m d (P / Q) ∧ (n ≤ 9300 ∧ m ≤ 9300)) ∨
    (s10 = .int .i64 3 ∧ Q = 0))
/-- what Div gave, in a block: an interval, or the error -/
def DvIs (X Y lo hi : Rat) (u : Nat) (s8 : Value) (wx : World) : Prop :=
  (s8 = .int .i64 0 ∧ inI X Y ((0 : Int) : Rat) = false ∧ ∃ (g h : Bool) (p q r s : Option Addr) (n c m d k a l b : Nat), wx.heap[u]? = some (.cells #[.bool g, .slice p n c, .slice q m d, .bool h, .slice r k a, .slice s l b] 29 (0, 0)) ∧ IsV wx g p n c q m d lo ∧ IsV wx h r k a s l b hi ∧ (n ≤ 400 ∧ m ≤ 400) ∧ (k ≤ 400 ∧ l ≤ 400)) ∨
    (s8 = .int .i64 3 ∧ inI X Y ((0 : Int) : Rat) = true)
theorem DvIs.keep {X Y lo hi : Rat} {u : Nat} {s8 : Value} {w w' : World} (h : DvIs X Y lo hi u s8 w) (hg : w.grownBy w' none) : DvIs X Y lo hi u s8 w' :=
  h.imp (fun ⟨e, i, g, h, p, q, r, s, n, c, m, d, k, a, l, b, hb, h1, h2, h3, h4⟩ => ⟨e, i, g, h, p, q, r, s, n, c, m, d, k, a, l, b, (hg.block _ (lt_of_block hb) (by simp)).trans hb, h1.keep hg, h2.keep hg, h3, h4⟩) id
/-- what Div gave: an interval, or the error -/
def DvRel (w0 : World) (X Y lo hi : Rat) (s7 s8 : Value) (wx : World) : Prop :=
  ∃ u : Nat, s7 = .pointer (some ⟨u, 0, none⟩) ∧ w0.grownBy wx none ∧ DvIs X Y lo hi u s8 wx

set_option maxRecDepth 100000 in
set_option maxHeartbeats 16000000 in
theorem intervalContains_walk (g1 g2 g3 g4 : Bool) (p1 q1 p2 q2 p3 q3 p4 q4 : Option Addr) (n1 c1 m1 d1 n2 c2 m2 d2 n3 c3 m3 d3 n4 c4 m4 d4 : Nat) (A B X Y : Rat) (z1 z2 z : Int) (w : World) (T : Tb w) (HA : Hid (n1 ≤ 8 → m1 ≤ 8 → ∃ r : Bool, (∀ W, w.grownBy W none → Calls Tryz.prog 70 #[.agg #[.bool g1, .slice p1 n1 c1, .slice q1 m1 d1]] W fun e w' => e = .returned (.bool r) ∧ W.grownBy w' none) ∧ (r = true → IsV w g1 p1 n1 c1 q1 m1 d1 A))) (HB : Hid (n2 ≤ 8 → m2 ≤ 8 → ∃ r : Bool, (∀ W, w.grownBy W none → Calls Tryz.prog 70 #[.agg #[.bool g2, .slice p2 n2 c2, .slice q2 m2 d2]] W fun e w' => e = .returned (.bool r) ∧ W.grownBy w' none) ∧ (r = true → IsV w g2 p2 n2 c2 q2 m2 d2 B))) (HX : Hid (n3 ≤ 8 → m3 ≤ 8 → ∃ r : Bool, (∀ W, w.grownBy W none → Calls Tryz.prog 70 #[.agg #[.bool g3, .slice p3 n3 c3, .slice q3 m3 d3]] W fun e w' => e = .returned (.bool r) ∧ W.grownBy w' none) ∧ (r = true → IsV w g3 p3 n3 c3 q3 m3 d3 X))) (HY : Hid (n4 ≤ 8 → m4 ≤ 8 → ∃ r : Bool, (∀ W, w.grownBy W none → Calls Tryz.prog 70 #[.agg #[.bool g4, .slice p4 n4 c4, .slice q4 m4 d4]] W fun e w' => e = .returned (.bool r) ∧ W.grownBy w' none) ∧ (r = true → IsV w g4 p4 n4 c4 q4 m4 d4 Y))) :
    Calls Tryz.prog 4 #[.agg #[.bool g1, .slice p1 n1 c1, .slice q1 m1 d1, .bool g2, .slice p2 n2 c2, .slice q2 m2 d2, .bool g3, .slice p3 n3 c3, .slice q3 m3 d3, .bool g4, .slice p4 n4 c4, .slice q4 m4 d4, .int .i64 z1, .int .i64 z2], .int .i64 z] w fun e w' => e = .returned (.bool true) ∧ w.grownBy w' none := by
  obtain ⟨ra, Ra, Va⟩ : ∃ r : Bool, IW.rt ⟨g1, p1, n1, c1, q1, m1, d1, g2, p2, n2, c2, q2, m2, d2⟩ w r ∧ (IW.ok ⟨g1, p1, n1, c1, q1, m1, d1, g2, p2, n2, c2, q2, m2, d2⟩ → r = true → IsV w g1 p1 n1 c1 q1 m1 d1 A ∧ IsV w g2 p2 n2 c2 q2 m2 d2 B ∧ A ≤ B) := by
    by_cases h : n1 ≤ 8 ∧ m1 ≤ 8 ∧ n2 ≤ 8 ∧ m2 ≤ 8
    · obtain ⟨r, h1, h2⟩ := rRt_full 8 (HA.out h.1 h.2.1) (HB.out h.2.2.1 h.2.2.2) h.1 h.2.1 h.2.2.1 h.2.2.2 (by omega)
      exact ⟨r, fun _ => h1, fun _ => h2⟩
    · exact ⟨false, fun k => absurd k h, fun k => absurd k h⟩
  obtain ⟨rb, Rb, Vb⟩ : ∃ r : Bool, IW.rt ⟨g3, p3, n3, c3, q3, m3, d3, g4, p4, n4, c4, q4, m4, d4⟩ w r ∧ (IW.ok ⟨g3, p3, n3, c3, q3, m3, d3, g4, p4, n4, c4, q4, m4, d4⟩ → r = true → IsV w g3 p3 n3 c3 q3 m3 d3 X ∧ IsV w g4 p4 n4 c4 q4 m4 d4 Y ∧ X ≤ Y) := by
    by_cases h : n3 ≤ 8 ∧ m3 ≤ 8 ∧ n4 ≤ 8 ∧ m4 ≤ 8
    · obtain ⟨r, h1, h2⟩ := rRt_full 8 (HX.out h.1 h.2.1) (HY.out h.2.2.1 h.2.2.2) h.1 h.2.1 h.2.2.1 h.2.2.2 (by omega)
      exact ⟨r, fun _ => h1, fun _ => h2⟩
    · exact ⟨false, fun k => absurd k h, fun k => absurd k h⟩
  have hW := World.grownBy_alloc w (.cells #[.bool g1, .slice p1 n1 c1, .slice q1 m1 d1, .bool g2, .slice p2 n2 c2, .slice q2 m2 d2, .bool g3, .slice p3 n3 c3, .slice q3 m3 d3, .bool g4, .slice p4 n4 c4, .slice q4 m4 d4, .int .i64 z1, .int .i64 z2] 38) none
  have hbk := heap_alloc_new w (.cells #[.bool g1, .slice p1 n1 c1, .slice q1 m1 d1, .bool g2, .slice p2 n2 c2, .slice q2 m2 d2, .bool g3, .slice p3 n3 c3, .slice q3 m3 d3, .bool g4, .slice p4 n4 c4, .slice q4 m4 d4, .int .i64 z1, .int .i64 z2] 38)
  obtain ⟨x0, x1, x2, x3, x4, x5, x6, x7, x8, x9, x10, x11, x12, x13⟩ := cells14 hbk
  have hlt0 := lt_of_block hbk
  clear hbk
  have HT := hid T
  clear T HA HB HX HY
  go_enter Tryz.func4, Tryz.ntmps4
  go_upto_region 1 with fail
  generalize w.alloc (.cells #[.bool g1, .slice p1 n1 c1, .slice q1 m1 d1, .bool g2, .slice p2 n2 c2, .slice q2 m2 d2, .bool g3, .slice p3 n3 c3, .slice q3 m3 d3, .bool g4, .slice p4 n4 c4, .slice q4 m4 d4, .int .i64 z1, .int .i64 z2] 38) = w0 at *
  have HS := small4_two ⟨g1, p1, n1, c1, q1, m1, d1, g2, p2, n2, c2, q2, m2, d2⟩ ⟨g3, p3, n3, c3, q3, m3, d3, g4, p4, n4, c4, q4, m4, d4⟩ ra rb w0 _ rfl (Ra.keep hW) (Rb.keep hW)
  dsimp only at HS
  clear Ra Rb
  by_cases hok : (IW.ok ⟨g1, p1, n1, c1, q1, m1, d1, g2, p2, n2, c2, q2, m2, d2⟩ ∧ ra = true) ∧ IW.ok ⟨g3, p3, n3, c3, q3, m3, d3, g4, p4, n4, c4, q4, m4, d4⟩ ∧ rb = true
  · rw [decide_eq_true hok] at HS
    replace HS := hid HS
    obtain ⟨⟨ok1, e1⟩, ok2, e2⟩ := hok
    obtain ⟨hA0, hB0, hAB⟩ := Va ok1 e1
    obtain ⟨hX0, hY0, hXY⟩ := Vb ok2 e2
    have hn1 : n1 ≤ 8 := ok1.1
    have hm1 : m1 ≤ 8 := ok1.2.1
    have hn2 : n2 ≤ 8 := ok1.2.2.1
    have hm2 : m2 ≤ 8 := ok1.2.2.2
    have hn3 : n3 ≤ 8 := ok2.1
    have hm3 : m3 ≤ 8 := ok2.2.1
    have hn4 : n4 ≤ 8 := ok2.2.2.1
    have hm4 : m4 ≤ 8 := ok2.2.2.2
    clear ok1 ok2 e1 e2 Va Vb
    by_cases hk6 : z1 < 0
    · go_wp2_with fail
      refine HS.out.mono ?_
      rintro e w1 ⟨rfl, hg⟩
      replace x0 := hg.cell x0 (by simp); replace x1 := hg.cell x1 (by simp); replace x2 := hg.cell x2 (by simp); replace x3 := hg.cell x3 (by simp); replace x4 := hg.cell x4 (by simp); replace x5 := hg.cell x5 (by simp); replace x6 := hg.cell x6 (by simp); replace x7 := hg.cell x7 (by simp); replace x8 := hg.cell x8 (by simp); replace x9 := hg.cell x9 (by simp); replace x10 := hg.cell x10 (by simp); replace x11 := hg.cell x11 (by simp); replace x12 := hg.cell x12 (by simp); replace x13 := hg.cell x13 (by simp); replace hW := grown_trans hW hg
      clear hg HS
      go_wp2_with fail
      refine (alive4 (HT.out.keep hW)).mono ?_
      rintro e w2 ⟨rfl, hg⟩
      go_wp2_with fail
      go_ret
      exact ⟨rfl, grown_trans hW hg⟩
    · by_cases hk5 : 8 < z1
      · go_wp2_with fail
        refine HS.out.mono ?_
        rintro e w1 ⟨rfl, hg⟩
        replace x0 := hg.cell x0 (by simp); replace x1 := hg.cell x1 (by simp); replace x2 := hg.cell x2 (by simp); replace x3 := hg.cell x3 (by simp); replace x4 := hg.cell x4 (by simp); replace x5 := hg.cell x5 (by simp); replace x6 := hg.cell x6 (by simp); replace x7 := hg.cell x7 (by simp); replace x8 := hg.cell x8 (by simp); replace x9 := hg.cell x9 (by simp); replace x10 := hg.cell x10 (by simp); replace x11 := hg.cell x11 (by simp); replace x12 := hg.cell x12 (by simp); replace x13 := hg.cell x13 (by simp); replace hW := grown_trans hW hg
        clear hg HS
        go_wp2_with fail
        refine (alive4 (HT.out.keep hW)).mono ?_
        rintro e w2 ⟨rfl, hg⟩
        go_wp2_with fail
        go_ret
        exact ⟨rfl, grown_trans hW hg⟩
      · by_cases hk4 : z2 < 0
        · go_wp2_with fail
          refine HS.out.mono ?_
          rintro e w1 ⟨rfl, hg⟩
          replace x0 := hg.cell x0 (by simp); replace x1 := hg.cell x1 (by simp); replace x2 := hg.cell x2 (by simp); replace x3 := hg.cell x3 (by simp); replace x4 := hg.cell x4 (by simp); replace x5 := hg.cell x5 (by simp); replace x6 := hg.cell x6 (by simp); replace x7 := hg.cell x7 (by simp); replace x8 := hg.cell x8 (by simp); replace x9 := hg.cell x9 (by simp); replace x10 := hg.cell x10 (by simp); replace x11 := hg.cell x11 (by simp); replace x12 := hg.cell x12 (by simp); replace x13 := hg.cell x13 (by simp); replace hW := grown_trans hW hg
          clear hg HS
          go_wp2_with fail
          refine (alive4 (HT.out.keep hW)).mono ?_
          rintro e w2 ⟨rfl, hg⟩
          go_wp2_with fail
          go_ret
          exact ⟨rfl, grown_trans hW hg⟩
        · by_cases hk3 : 8 < z2
          · go_wp2_with fail
            refine HS.out.mono ?_
            rintro e w1 ⟨rfl, hg⟩
            replace x0 := hg.cell x0 (by simp); replace x1 := hg.cell x1 (by simp); replace x2 := hg.cell x2 (by simp); replace x3 := hg.cell x3 (by simp); replace x4 := hg.cell x4 (by simp); replace x5 := hg.cell x5 (by simp); replace x6 := hg.cell x6 (by simp); replace x7 := hg.cell x7 (by simp); replace x8 := hg.cell x8 (by simp); replace x9 := hg.cell x9 (by simp); replace x10 := hg.cell x10 (by simp); replace x11 := hg.cell x11 (by simp); replace x12 := hg.cell x12 (by simp); replace x13 := hg.cell x13 (by simp); replace hW := grown_trans hW hg
            clear hg HS
            go_wp2_with fail
            refine (alive4 (HT.out.keep hW)).mono ?_
            rintro e w2 ⟨rfl, hg⟩
            go_wp2_with fail
            go_ret
            exact ⟨rfl, grown_trans hW hg⟩
          · by_cases hk2 : z < 0
            · go_wp2_with fail
              refine HS.out.mono ?_
              rintro e w1 ⟨rfl, hg⟩
              replace x0 := hg.cell x0 (by simp); replace x1 := hg.cell x1 (by simp); replace x2 := hg.cell x2 (by simp); replace x3 := hg.cell x3 (by simp); replace x4 := hg.cell x4 (by simp); replace x5 := hg.cell x5 (by simp); replace x6 := hg.cell x6 (by simp); replace x7 := hg.cell x7 (by simp); replace x8 := hg.cell x8 (by simp); replace x9 := hg.cell x9 (by simp); replace x10 := hg.cell x10 (by simp); replace x11 := hg.cell x11 (by simp); replace x12 := hg.cell x12 (by simp); replace x13 := hg.cell x13 (by simp); replace hW := grown_trans hW hg
              clear hg HS
              go_wp2_with fail
              refine (alive4 (HT.out.keep hW)).mono ?_
              rintro e w2 ⟨rfl, hg⟩
              go_wp2_with fail
              go_ret
              exact ⟨rfl, grown_trans hW hg⟩
            · by_cases hk1 : 60 < z
              · go_wp2_with fail
                refine HS.out.mono ?_
                rintro e w1 ⟨rfl, hg⟩
                replace x0 := hg.cell x0 (by simp); replace x1 := hg.cell x1 (by simp); replace x2 := hg.cell x2 (by simp); replace x3 := hg.cell x3 (by simp); replace x4 := hg.cell x4 (by simp); replace x5 := hg.cell x5 (by simp); replace x6 := hg.cell x6 (by simp); replace x7 := hg.cell x7 (by simp); replace x8 := hg.cell x8 (by simp); replace x9 := hg.cell x9 (by simp); replace x10 := hg.cell x10 (by simp); replace x11 := hg.cell x11 (by simp); replace x12 := hg.cell x12 (by simp); replace x13 := hg.cell x13 (by simp); replace hW := grown_trans hW hg
                clear hg HS
                go_wp2_with fail
                refine (alive4 (HT.out.keep hW)).mono ?_
                rintro e w2 ⟨rfl, hg⟩
                go_wp2_with fail
                go_ret
                exact ⟨rfl, grown_trans hW hg⟩
              · obtain ⟨b, rfl⟩ : ∃ b : Nat, z = (b : Int) := ⟨z.toNat, by omega⟩
                have hz2 : ¬ ((60 : Int) < (b : Int)) := by omega
                have hb : b ≤ 60 := by omega
                have hP := at_in hAB (n := z1) (by omega) (by omega)
                have hQ := at_in hXY (n := z2) (by omega) (by omega)
                obtain ⟨P, EP0⟩ : ∃ P, P = atR A B z1 := ⟨_, rfl⟩
                obtain ⟨Q, EQ0⟩ : ∃ Q, Q = atR X Y z2 := ⟨_, rfl⟩
                rw [← EP0] at hP; rw [← EQ0] at hQ
                have EP := hid EP0.symm; have EQ := hid EQ0.symm
                clear EP0 EQ0
                obtain ⟨pp1, pp2⟩ := hP
                obtain ⟨qq1, qq2⟩ := hQ
                have hm := mul_in pp1 pp2 qq1 qq2
                have hs := sq_in pp1 pp2
                have E1 := hid (inI_of pp1 pp2)
                have E2 := hid (show inI (A + X) (B + Y) (P + Q) = true from inI_of (by grind) (by grind))
                have E3 := hid (show inI (A - Y) (B - X) (P - Q) = true from inI_of (by grind) (by grind))
                have E4 := hid (inI_of hm.1 hm.2)
                have E5 := hid (inI_of hs.1 hs.2)
                have E7 := hid (inI_of (Rat.le_trans (rdLo_le A b) pp1) (Rat.le_trans pp2 (le_rdHi B b)))
                have EP1 := hid pp1; have EP2 := hid pp2; have EQ1 := hid qq1; have EQ2 := hid qq2; have HAB := hid hAB; have HXY := hid hXY
                clear hm hs pp1 pp2 qq1 qq2 hAB hXY
                go_wp2_with fail
                refine HS.out.mono ?_
                rintro e w1 ⟨rfl, hg⟩
                have hw01 := hg
                replace x0 := hg.cell x0 (by simp); replace x1 := hg.cell x1 (by simp); replace x2 := hg.cell x2 (by simp); replace x3 := hg.cell x3 (by simp); replace x4 := hg.cell x4 (by simp); replace x5 := hg.cell x5 (by simp); replace x6 := hg.cell x6 (by simp); replace x7 := hg.cell x7 (by simp); replace x8 := hg.cell x8 (by simp); replace x9 := hg.cell x9 (by simp); replace x10 := hg.cell x10 (by simp); replace x11 := hg.cell x11 (by simp); replace x12 := hg.cell x12 (by simp); replace x13 := hg.cell x13 (by simp); replace hW := grown_trans hW hg
                clear hg HS
                have hA := hA0.keep hW; have hB := hB0.keep hW; have hX := hX0.keep hW; have hY := hY0.keep hW
                clear hA0 hB0 hX0 hY0
                go_upto_region 3 with fail
                have HC1 := hid (fun W (h : w1.grownBy W none) => at_v 8 (HT.out.keep (grown_trans hW h)) (hA.keep h) (hB.keep h) z1 (by omega) (by omega) (by omega) (by omega) (by omega) (by omega) (by omega))
                have HC2 := hid (fun W (h : w1.grownBy W none) => at_v 8 (HT.out.keep (grown_trans hW h)) (hX.keep h) (hY.keep h) z2 (by omega) (by omega) (by omega) (by omega) (by omega) (by omega) (by omega))
                unfold VPost at HC1 HC2
                rw [EP.out] at HC1; rw [EQ.out] at HC2
                have G0 : w1.grownBy w1.drew none := grown_drew _ _
                have G1 : ∀ o, w1.grownBy (w1.alloc o).drew none := fun o => grown_trans (World.grownBy_alloc _ _ _) (grown_drew _ _)
                have G2 : ∀ o o', w1.grownBy ((w1.alloc o).alloc o').drew none := fun o o' => grown_trans (grown_trans (World.grownBy_alloc _ _ _) (World.grownBy_alloc _ _ _)) (grown_drew _ _)
                have hltw := hW.size
                have hlt1 : w.heap.size < w1.heap.size := Nat.lt_of_lt_of_le hlt0 hw01.size
                clear hw01
                go_cut [5, 6] from 51 to 61 (fun s5 s6 wx => RPair P Q 2300 w1 s5 s6 wx)
                case first =>
                  go_region_held3 (fun w' => w'.cell? ⟨w.heap.size, 0, none⟩ = some (.bool g1) ∧ w'.cell? ⟨w.heap.size, 1, none⟩ = some (.slice p1 n1 c1) ∧ w'.cell? ⟨w.heap.size, 2, none⟩ = some (.slice q1 m1 d1) ∧ w'.cell? ⟨w.heap.size, 3, none⟩ = some (.bool g2) ∧ w'.cell? ⟨w.heap.size, 4, none⟩ = some (.slice p2 n2 c2) ∧ w'.cell? ⟨w.heap.size, 5, none⟩ = some (.slice q2 m2 d2) ∧ w'.cell? ⟨w.heap.size, 6, none⟩ = some (.bool g3) ∧ w'.cell? ⟨w.heap.size, 7, none⟩ = some (.slice p3 n3 c3) ∧ w'.cell? ⟨w.heap.size, 8, none⟩ = some (.slice q3 m3 d3) ∧ w'.cell? ⟨w.heap.size, 9, none⟩ = some (.bool g4) ∧ w'.cell? ⟨w.heap.size, 10, none⟩ = some (.slice p4 n4 c4) ∧ w'.cell? ⟨w.heap.size, 11, none⟩ = some (.slice q4 m4 d4) ∧ w'.cell? ⟨w.heap.size, 12, none⟩ = some (.int .i64 z1) ∧ w'.cell? ⟨w.heap.size, 13, none⟩ = some (.int .i64 z2)) ((try go_split_ands) <;> (repeat' apply And.intro) <;> (repeat (first | (with_reducible assumption) | (with_reducible refine (grown_setCell _ _ _).cell ?_ (by simp; omega)) | (with_reducible refine (World.grownBy_alloc _ _ none).cell ?_ (by simp)) | (with_reducible refine hg2.cell ?_ (by simp)) | (with_reducible refine hg1.cell ?_ (by simp)) | (with_reducible refine (grown_drew _ none).cell ?_ (by simp)))))
                    (first
                      | (go_at_call 13; (with_reducible refine (HC1.out _ (by first | exact G0 | exact G1 _ | exact G2 _ _)).mono ?_); rintro e w2 ⟨g11, p11, n11, c11, q11, m11, d11, rfl, h1, hn11, hm11, hg1⟩; have hz1 := hg1.size; (try simp at hz1); have H1 : w1.grownBy w2 none := grown_trans (by first | exact G0 | exact G1 _ | exact G2 _ _) hg1; have hs1 := H1.size; (try (have B0 : RBoxAt w2 (w1.heap.size) := RBoxAt.grown (by first | exact (RBoxAt.new _).drew | exact ((RBoxAt.new _).alloc _).drew) hg1; obtain ⟨B0a, B0b, B0c, B0d, B0e, B0f, B0g⟩ := B0.facts; have B0H := hid B0; clear B0)); (try (have B1 : RBoxAt w2 (w1.heap.size + 1) := RBoxAt.grown (by first | exact (RBoxAt.new2 _ _).drew) hg1; obtain ⟨B1a, B1b, B1c, B1d, B1e, B1f, B1g⟩ := B1.facts; have B1H := hid B1; clear B1)); have k1 := fun o => gcell (World.grownBy_alloc w2 o none); have f1 := fun o => gfree (World.grownBy_alloc w2 o none))
                      | (go_at_call 13; (with_reducible refine (HC2.out _ (by first | exact H1 | exact grown_trans H1 (World.grownBy_alloc _ _ _) | exact grown_trans (grown_trans H1 (World.grownBy_alloc _ _ _)) (World.grownBy_alloc _ _ _))).mono ?_); rintro e w3 ⟨g12, p12, n12, c12, q12, m12, d12, rfl, h2, hn12, hm12, hg2⟩; have hz2 := hg2.size; (try simp at hz2); (try (have D0 : RBoxAt w3 (w1.heap.size) := RBoxAt.grown (by first | exact B0H.out | exact B0H.out.alloc _ | exact (B0H.out.alloc _).alloc _) hg2; obtain ⟨D0a, D0b, D0c, D0d, D0e, D0f, D0g⟩ := D0.facts; have D0H := hid D0; clear D0)); (try (have D1 : RBoxAt w3 (w1.heap.size + 1) := RBoxAt.grown (by first | exact B1H.out) hg2; obtain ⟨D1a, D1b, D1c, D1d, D1e, D1f, D1g⟩ := D1.facts; have D1H := hid D1; clear D1)); (try (have D2 : RBoxAt w3 (w2.heap.size) := RBoxAt.grown (by first | exact RBoxAt.new _ | exact (RBoxAt.new _).alloc _) hg2; obtain ⟨D2a, D2b, D2c, D2d, D2e, D2f, D2g⟩ := D2.facts; have D2H := hid D2; clear D2)); (try (have D3 : RBoxAt w3 (w2.heap.size + 1) := RBoxAt.grown (by first | exact RBoxAt.new2 _ _) hg2; obtain ⟨D3a, D3b, D3c, D3d, D3e, D3f, D3g⟩ := D3.facts; have D3H := hid D3; clear D3)); clear k1 f1; have k2 := fun o => gcell (World.grownBy_alloc w3 o none); have f2 := fun o => gfree (World.grownBy_alloc w3 o none); (try have e01 : w1.heap.size ≠ w2.heap.size := by omega); (try have e10 : w2.heap.size ≠ w1.heap.size := by omega); (try have e02 : w1.heap.size ≠ w3.heap.size := by omega); (try have e12 : w2.heap.size ≠ w3.heap.size := by omega); (try have e20 : w3.heap.size ≠ w1.heap.size := by omega); (try have e21 : w3.heap.size ≠ w2.heap.size := by omega)))
                  all_goals
                    go_wp2_with fail
                    go_meet
                    have HX : w2.grownBy w3 none := by
                      first
                        | exact hg2
                        | exact grown_trans (World.grownBy_alloc _ _ _) hg2
                        | exact grown_trans (grown_trans (World.grownBy_alloc _ _ _) (World.grownBy_alloc _ _ _)) hg2
                    have K1 := h1.keep HX
                    have K2 := h2
                    have KG := grown_trans H1 HX
                    have b1 : n11 ≤ 2300 ∧ m11 ≤ 2300 := ⟨by omega, by omega⟩
                    have b2 : n12 ≤ 2300 ∧ m12 ≤ 2300 := ⟨by omega, by omega⟩
                    have hz01 := H1.size
                    have hzz := KG.size
                    first
                      | with_reducible exact rleaf_alloc K1 K2 b1 b2 KG
                      | with_reducible exact rleaf_alloc' K1 K2 b1 b2 KG
                      | with_reducible exact rleaf_set1 K1 K2 b1 b2 KG D0H.out (by omega)
                      | with_reducible exact rleaf_set1 K1 K2 b1 b2 KG D2H.out (by omega)
                      | with_reducible exact rleaf_set2 K1 K2 b1 b2 KG D0H.out (by omega)
                      | with_reducible exact rleaf_set2 K1 K2 b1 b2 KG D2H.out (by omega)
                      | with_reducible exact rleaf_sets K1 K2 b1 b2 KG D0H.out D1H.out (by omega) (by omega) (by omega)
                      | with_reducible exact rleaf_sets K1 K2 b1 b2 KG D1H.out D0H.out (by omega) (by omega) (by omega)
                      | with_reducible exact rleaf_sets K1 K2 b1 b2 KG D2H.out D3H.out (by omega) (by omega) (by omega)
                      | with_reducible exact rleaf_sets K1 K2 b1 b2 KG D3H.out D2H.out (by omega) (by omega) (by omega)
                      | with_reducible exact rleaf_sets K1 K2 b1 b2 KG D0H.out D2H.out (by omega) (by omega) (by omega)
                      | with_reducible exact rleaf_sets K1 K2 b1 b2 KG D2H.out D0H.out (by omega) (by omega) (by omega)
                case rest =>
                  obtain ⟨u, v, g5, g6, p5, p6, q5, q6, n5, c5, m5, d5, n6, c6, m6, d6, rfl, rfl, y0, y1, y2, t0, t1, t2, hP, hQ, ⟨hn5, hm5⟩, ⟨hn6, hm6⟩, hg⟩ := hcut
                  clear HC1 HC2 G0 G1 G2 hltw hlt1 EP EQ
                  replace hA := hA.keep hg; replace hB := hB.keep hg; replace hX := hX.keep hg; replace hY := hY.keep hg; replace x0 := hg.cell x0 (by simp); replace x1 := hg.cell x1 (by simp); replace x2 := hg.cell x2 (by simp); replace x3 := hg.cell x3 (by simp); replace x4 := hg.cell x4 (by simp); replace x5 := hg.cell x5 (by simp); replace x6 := hg.cell x6 (by simp); replace x7 := hg.cell x7 (by simp); replace x8 := hg.cell x8 (by simp); replace x9 := hg.cell x9 (by simp); replace x10 := hg.cell x10 (by simp); replace x11 := hg.cell x11 (by simp); replace x12 := hg.cell x12 (by simp); replace x13 := hg.cell x13 (by simp); replace hW := grown_trans hW hg
                  clear hg
                  go_upto_region 4 with fail
                  generalize hwc : wc = w4 at *
                  clear hwc
                  have hR := grown_refl w4 none
                  go_cut [5, 111] from 61 to 111 (fun s5 s111 wx => s5 = .pointer (some ⟨u, 0, none⟩) ∧ s111 = .bool false ∧ w4.grownBy wx none)
                  case first =>
                    have hg := grown_drew w4 none
                    replace hA := hA.keep hg; replace hB := hB.keep hg; replace hX := hX.keep hg; replace hY := hY.keep hg; replace hP := hP.keep hg; replace hQ := hQ.keep hg; replace x0 := hg.cell x0 (by simp); replace x1 := hg.cell x1 (by simp); replace x2 := hg.cell x2 (by simp); replace x3 := hg.cell x3 (by simp); replace x4 := hg.cell x4 (by simp); replace x5 := hg.cell x5 (by simp); replace x6 := hg.cell x6 (by simp); replace x7 := hg.cell x7 (by simp); replace x8 := hg.cell x8 (by simp); replace x9 := hg.cell x9 (by simp); replace x10 := hg.cell x10 (by simp); replace x11 := hg.cell x11 (by simp); replace x12 := hg.cell x12 (by simp); replace x13 := hg.cell x13 (by simp); replace y0 := hg.cell y0 (by simp); replace y1 := hg.cell y1 (by simp); replace y2 := hg.cell y2 (by simp); replace t0 := hg.cell t0 (by simp); replace t1 := hg.cell t1 (by simp); replace t2 := hg.cell t2 (by simp); replace hW := grown_trans hW hg; replace hR := grown_trans hR hg
                    clear hg
                    go_region_held3 (fun w' => w'.cell? ⟨w.heap.size, 0, none⟩ = some (.bool g1) ∧ w'.cell? ⟨w.heap.size, 1, none⟩ = some (.slice p1 n1 c1) ∧ w'.cell? ⟨w.heap.size, 2, none⟩ = some (.slice q1 m1 d1) ∧ w'.cell? ⟨w.heap.size, 3, none⟩ = some (.bool g2) ∧ w'.cell? ⟨w.heap.size, 4, none⟩ = some (.slice p2 n2 c2) ∧ w'.cell? ⟨w.heap.size, 5, none⟩ = some (.slice q2 m2 d2) ∧ w'.cell? ⟨w.heap.size, 6, none⟩ = some (.bool g3) ∧ w'.cell? ⟨w.heap.size, 7, none⟩ = some (.slice p3 n3 c3) ∧ w'.cell? ⟨w.heap.size, 8, none⟩ = some (.slice q3 m3 d3) ∧ w'.cell? ⟨w.heap.size, 9, none⟩ = some (.bool g4) ∧ w'.cell? ⟨w.heap.size, 10, none⟩ = some (.slice p4 n4 c4) ∧ w'.cell? ⟨w.heap.size, 11, none⟩ = some (.slice q4 m4 d4) ∧ w'.cell? ⟨u, 0, none⟩ = some (.bool g5) ∧ w'.cell? ⟨u, 1, none⟩ = some (.slice p5 n5 c5) ∧ w'.cell? ⟨u, 2, none⟩ = some (.slice q5 m5 d5) ∧ w'.cell? ⟨v, 0, none⟩ = some (.bool g6) ∧ w'.cell? ⟨v, 1, none⟩ = some (.slice p6 n6 c6) ∧ w'.cell? ⟨v, 2, none⟩ = some (.slice q6 m6 d6)) ((try go_split_ands) <;> (repeat' apply And.intro) <;> (repeat (first | (with_reducible assumption) | (with_reducible refine (grown_setCell _ _ _).cell ?_ (by simp; omega)) | (with_reducible refine (World.grownBy_alloc _ _ none).cell ?_ (by simp)) | (with_reducible refine (grown_drew _ none).cell ?_ (by simp)))))
                      (first
                        | (go_at_call 14; (with_reducible refine (has_t 9300 hA.q hB.q hP.q (by omega) (by omega) (by omega) (by omega) (by omega) (by omega) (by omega) E1.out).mono ?_); rintro e w21 ⟨rfl, hg⟩; replace hA := hA.keep hg; replace hB := hB.keep hg; replace hX := hX.keep hg; replace hY := hY.keep hg; replace hP := hP.keep hg; replace hQ := hQ.keep hg; replace x0 := hg.cell x0 (by simp); replace x1 := hg.cell x1 (by simp); replace x2 := hg.cell x2 (by simp); replace x3 := hg.cell x3 (by simp); replace x4 := hg.cell x4 (by simp); replace x5 := hg.cell x5 (by simp); replace x6 := hg.cell x6 (by simp); replace x7 := hg.cell x7 (by simp); replace x8 := hg.cell x8 (by simp); replace x9 := hg.cell x9 (by simp); replace x10 := hg.cell x10 (by simp); replace x11 := hg.cell x11 (by simp); replace x12 := hg.cell x12 (by simp); replace x13 := hg.cell x13 (by simp); replace y0 := hg.cell y0 (by simp); replace y1 := hg.cell y1 (by simp); replace y2 := hg.cell y2 (by simp); replace t0 := hg.cell t0 (by simp); replace t1 := hg.cell t1 (by simp); replace t2 := hg.cell t2 (by simp); replace hW := grown_trans hW hg; replace hR := grown_trans hR hg; clear hg)
                        | (go_at_call 15; (with_reducible refine (ivAdd_v 8 (HT.out.keep hW) hA hB hX hY (by omega) (by omega) (by omega) (by omega) (by omega) (by omega) (by omega) (by omega) (by omega)).mono ?_); rintro e w22 ⟨g64, g65, p64, q64, p65, q65, n64, c64, m64, d64, n65, c65, m65, d65, rfl, aP, aQ, ⟨hn64, hm64⟩, ⟨hn65, hm65⟩, hg⟩; replace hA := hA.keep hg; replace hB := hB.keep hg; replace hX := hX.keep hg; replace hY := hY.keep hg; replace hP := hP.keep hg; replace hQ := hQ.keep hg; replace x0 := hg.cell x0 (by simp); replace x1 := hg.cell x1 (by simp); replace x2 := hg.cell x2 (by simp); replace x3 := hg.cell x3 (by simp); replace x4 := hg.cell x4 (by simp); replace x5 := hg.cell x5 (by simp); replace x6 := hg.cell x6 (by simp); replace x7 := hg.cell x7 (by simp); replace x8 := hg.cell x8 (by simp); replace x9 := hg.cell x9 (by simp); replace x10 := hg.cell x10 (by simp); replace x11 := hg.cell x11 (by simp); replace x12 := hg.cell x12 (by simp); replace x13 := hg.cell x13 (by simp); replace y0 := hg.cell y0 (by simp); replace y1 := hg.cell y1 (by simp); replace y2 := hg.cell y2 (by simp); replace t0 := hg.cell t0 (by simp); replace t1 := hg.cell t1 (by simp); replace t2 := hg.cell t2 (by simp); replace hW := grown_trans hW hg; replace hR := grown_trans hR hg; clear hg)
                        | (go_at_call 16; (with_reducible refine (ratAdd_v 2300 (HT.out.keep hW) hP.q hQ.q (by omega) (by omega) (by omega) (by omega) (by omega)).mono ?_); rintro e w23 ⟨g23, p23, n23, c23, q23, m23, d23, rfl, sS, hn23, hm23, hg⟩; replace hA := hA.keep hg; replace hB := hB.keep hg; replace hX := hX.keep hg; replace hY := hY.keep hg; replace hP := hP.keep hg; replace hQ := hQ.keep hg; replace aP := aP.keep hg; replace aQ := aQ.keep hg; replace x0 := hg.cell x0 (by simp); replace x1 := hg.cell x1 (by simp); replace x2 := hg.cell x2 (by simp); replace x3 := hg.cell x3 (by simp); replace x4 := hg.cell x4 (by simp); replace x5 := hg.cell x5 (by simp); replace x6 := hg.cell x6 (by simp); replace x7 := hg.cell x7 (by simp); replace x8 := hg.cell x8 (by simp); replace x9 := hg.cell x9 (by simp); replace x10 := hg.cell x10 (by simp); replace x11 := hg.cell x11 (by simp); replace x12 := hg.cell x12 (by simp); replace x13 := hg.cell x13 (by simp); replace y0 := hg.cell y0 (by simp); replace y1 := hg.cell y1 (by simp); replace y2 := hg.cell y2 (by simp); replace t0 := hg.cell t0 (by simp); replace t1 := hg.cell t1 (by simp); replace t2 := hg.cell t2 (by simp); replace hW := grown_trans hW hg; replace hR := grown_trans hR hg; clear hg)
                        | (go_at_call 14; (with_reducible refine (has_t 9300 aP.q aQ.q sS.q (by omega) (by omega) (by omega) (by omega) (by omega) (by omega) (by omega) E2.out).mono ?_); rintro e w24 ⟨rfl, hg⟩; clear aP aQ sS; replace hA := hA.keep hg; replace hB := hB.keep hg; replace hX := hX.keep hg; replace hY := hY.keep hg; replace hP := hP.keep hg; replace hQ := hQ.keep hg; replace x0 := hg.cell x0 (by simp); replace x1 := hg.cell x1 (by simp); replace x2 := hg.cell x2 (by simp); replace x3 := hg.cell x3 (by simp); replace x4 := hg.cell x4 (by simp); replace x5 := hg.cell x5 (by simp); replace x6 := hg.cell x6 (by simp); replace x7 := hg.cell x7 (by simp); replace x8 := hg.cell x8 (by simp); replace x9 := hg.cell x9 (by simp); replace x10 := hg.cell x10 (by simp); replace x11 := hg.cell x11 (by simp); replace x12 := hg.cell x12 (by simp); replace x13 := hg.cell x13 (by simp); replace y0 := hg.cell y0 (by simp); replace y1 := hg.cell y1 (by simp); replace y2 := hg.cell y2 (by simp); replace t0 := hg.cell t0 (by simp); replace t1 := hg.cell t1 (by simp); replace t2 := hg.cell t2 (by simp); replace hW := grown_trans hW hg; replace hR := grown_trans hR hg; clear hg)
                        | (go_at_call 17; (with_reducible refine (ivSub_v 8 (HT.out.keep hW) hA hB hX hY (by omega) (by omega) (by omega) (by omega) (by omega) (by omega) (by omega) (by omega) (by omega)).mono ?_); rintro e w25 ⟨g70, g71, p70, q70, p71, q71, n70, c70, m70, d70, n71, c71, m71, d71, rfl, cP, cQ, ⟨hn70, hm70⟩, ⟨hn71, hm71⟩, hg⟩; replace hA := hA.keep hg; replace hB := hB.keep hg; replace hX := hX.keep hg; replace hY := hY.keep hg; replace hP := hP.keep hg; replace hQ := hQ.keep hg; replace x0 := hg.cell x0 (by simp); replace x1 := hg.cell x1 (by simp); replace x2 := hg.cell x2 (by simp); replace x3 := hg.cell x3 (by simp); replace x4 := hg.cell x4 (by simp); replace x5 := hg.cell x5 (by simp); replace x6 := hg.cell x6 (by simp); replace x7 := hg.cell x7 (by simp); replace x8 := hg.cell x8 (by simp); replace x9 := hg.cell x9 (by simp); replace x10 := hg.cell x10 (by simp); replace x11 := hg.cell x11 (by simp); replace x12 := hg.cell x12 (by simp); replace x13 := hg.cell x13 (by simp); replace y0 := hg.cell y0 (by simp); replace y1 := hg.cell y1 (by simp); replace y2 := hg.cell y2 (by simp); replace t0 := hg.cell t0 (by simp); replace t1 := hg.cell t1 (by simp); replace t2 := hg.cell t2 (by simp); replace hW := grown_trans hW hg; replace hR := grown_trans hR hg; clear hg)
                        | (go_at_call 18; (with_reducible refine (ratSub_v 2300 (HT.out.keep hW) hP.q hQ.q (by omega) (by omega) (by omega) (by omega) (by omega)).mono ?_); rintro e w26 ⟨g26, p26, n26, c26, q26, m26, d26, rfl, sD, hn26, hm26, hg⟩; replace hA := hA.keep hg; replace hB := hB.keep hg; replace hX := hX.keep hg; replace hY := hY.keep hg; replace hP := hP.keep hg; replace hQ := hQ.keep hg; replace cP := cP.keep hg; replace cQ := cQ.keep hg; replace x0 := hg.cell x0 (by simp); replace x1 := hg.cell x1 (by simp); replace x2 := hg.cell x2 (by simp); replace x3 := hg.cell x3 (by simp); replace x4 := hg.cell x4 (by simp); replace x5 := hg.cell x5 (by simp); replace x6 := hg.cell x6 (by simp); replace x7 := hg.cell x7 (by simp); replace x8 := hg.cell x8 (by simp); replace x9 := hg.cell x9 (by simp); replace x10 := hg.cell x10 (by simp); replace x11 := hg.cell x11 (by simp); replace x12 := hg.cell x12 (by simp); replace x13 := hg.cell x13 (by simp); replace y0 := hg.cell y0 (by simp); replace y1 := hg.cell y1 (by simp); replace y2 := hg.cell y2 (by simp); replace t0 := hg.cell t0 (by simp); replace t1 := hg.cell t1 (by simp); replace t2 := hg.cell t2 (by simp); replace hW := grown_trans hW hg; replace hR := grown_trans hR hg; clear hg)
                        | (go_at_call 14; (with_reducible refine (has_t 9300 cP.q cQ.q sD.q (by omega) (by omega) (by omega) (by omega) (by omega) (by omega) (by omega) E3.out).mono ?_); rintro e w27 ⟨rfl, hg⟩; clear cP cQ sD; replace hA := hA.keep hg; replace hB := hB.keep hg; replace hX := hX.keep hg; replace hY := hY.keep hg; replace hP := hP.keep hg; replace hQ := hQ.keep hg; replace x0 := hg.cell x0 (by simp); replace x1 := hg.cell x1 (by simp); replace x2 := hg.cell x2 (by simp); replace x3 := hg.cell x3 (by simp); replace x4 := hg.cell x4 (by simp); replace x5 := hg.cell x5 (by simp); replace x6 := hg.cell x6 (by simp); replace x7 := hg.cell x7 (by simp); replace x8 := hg.cell x8 (by simp); replace x9 := hg.cell x9 (by simp); replace x10 := hg.cell x10 (by simp); replace x11 := hg.cell x11 (by simp); replace x12 := hg.cell x12 (by simp); replace x13 := hg.cell x13 (by simp); replace y0 := hg.cell y0 (by simp); replace y1 := hg.cell y1 (by simp); replace y2 := hg.cell y2 (by simp); replace t0 := hg.cell t0 (by simp); replace t1 := hg.cell t1 (by simp); replace t2 := hg.cell t2 (by simp); replace hW := grown_trans hW hg; replace hR := grown_trans hR hg; clear hg)
                        | (go_at_call 19; (with_reducible refine (ivMul_v 8 (HT.out.keep hW) hA hB hX hY (by omega) (by omega) (by omega) (by omega) (by omega) (by omega) (by omega) (by omega) (by omega)).mono ?_); rintro e w28 ⟨g76, g77, p76, q76, p77, q77, n76, c76, m76, d76, n77, c77, m77, d77, rfl, eP, eQ, ⟨hn76, hm76⟩, ⟨hn77, hm77⟩, hg⟩; replace hA := hA.keep hg; replace hB := hB.keep hg; replace hX := hX.keep hg; replace hY := hY.keep hg; replace hP := hP.keep hg; replace hQ := hQ.keep hg; replace x0 := hg.cell x0 (by simp); replace x1 := hg.cell x1 (by simp); replace x2 := hg.cell x2 (by simp); replace x3 := hg.cell x3 (by simp); replace x4 := hg.cell x4 (by simp); replace x5 := hg.cell x5 (by simp); replace x6 := hg.cell x6 (by simp); replace x7 := hg.cell x7 (by simp); replace x8 := hg.cell x8 (by simp); replace x9 := hg.cell x9 (by simp); replace x10 := hg.cell x10 (by simp); replace x11 := hg.cell x11 (by simp); replace x12 := hg.cell x12 (by simp); replace x13 := hg.cell x13 (by simp); replace y0 := hg.cell y0 (by simp); replace y1 := hg.cell y1 (by simp); replace y2 := hg.cell y2 (by simp); replace t0 := hg.cell t0 (by simp); replace t1 := hg.cell t1 (by simp); replace t2 := hg.cell t2 (by simp); replace hW := grown_trans hW hg; replace hR := grown_trans hR hg; clear hg)
                        | (go_at_call 20; (with_reducible refine (ratMul_v 2300 (HT.out.keep hW) hP.q hQ.q (by omega) (by omega) (by omega) (by omega) (by omega)).mono ?_); rintro e w29 ⟨g29, p29, n29, c29, q29, m29, d29, rfl, sM, hn29, hm29, hg⟩; replace hA := hA.keep hg; replace hB := hB.keep hg; replace hX := hX.keep hg; replace hY := hY.keep hg; replace hP := hP.keep hg; replace hQ := hQ.keep hg; replace eP := eP.keep hg; replace eQ := eQ.keep hg; replace x0 := hg.cell x0 (by simp); replace x1 := hg.cell x1 (by simp); replace x2 := hg.cell x2 (by simp); replace x3 := hg.cell x3 (by simp); replace x4 := hg.cell x4 (by simp); replace x5 := hg.cell x5 (by simp); replace x6 := hg.cell x6 (by simp); replace x7 := hg.cell x7 (by simp); replace x8 := hg.cell x8 (by simp); replace x9 := hg.cell x9 (by simp); replace x10 := hg.cell x10 (by simp); replace x11 := hg.cell x11 (by simp); replace x12 := hg.cell x12 (by simp); replace x13 := hg.cell x13 (by simp); replace y0 := hg.cell y0 (by simp); replace y1 := hg.cell y1 (by simp); replace y2 := hg.cell y2 (by simp); replace t0 := hg.cell t0 (by simp); replace t1 := hg.cell t1 (by simp); replace t2 := hg.cell t2 (by simp); replace hW := grown_trans hW hg; replace hR := grown_trans hR hg; clear hg)
                        | (go_at_call 14; (with_reducible refine (has_t 9300 eP.q eQ.q sM.q (by omega) (by omega) (by omega) (by omega) (by omega) (by omega) (by omega) E4.out).mono ?_); rintro e w30 ⟨rfl, hg⟩; clear eP eQ sM; replace hA := hA.keep hg; replace hB := hB.keep hg; replace hX := hX.keep hg; replace hY := hY.keep hg; replace hP := hP.keep hg; replace hQ := hQ.keep hg; replace x0 := hg.cell x0 (by simp); replace x1 := hg.cell x1 (by simp); replace x2 := hg.cell x2 (by simp); replace x3 := hg.cell x3 (by simp); replace x4 := hg.cell x4 (by simp); replace x5 := hg.cell x5 (by simp); replace x6 := hg.cell x6 (by simp); replace x7 := hg.cell x7 (by simp); replace x8 := hg.cell x8 (by simp); replace x9 := hg.cell x9 (by simp); replace x10 := hg.cell x10 (by simp); replace x11 := hg.cell x11 (by simp); replace x12 := hg.cell x12 (by simp); replace x13 := hg.cell x13 (by simp); replace y0 := hg.cell y0 (by simp); replace y1 := hg.cell y1 (by simp); replace y2 := hg.cell y2 (by simp); replace t0 := hg.cell t0 (by simp); replace t1 := hg.cell t1 (by simp); replace t2 := hg.cell t2 (by simp); replace hW := grown_trans hW hg; replace hR := grown_trans hR hg; clear hg)
                        | (go_at_call 21; (with_reducible refine (ivSquare_v 8 (HT.out.keep hW) hA hB HAB.out (by omega) (by omega) (by omega) (by omega) (by omega)).mono ?_); rintro e w31 ⟨g82, g83, p82, q82, p83, q83, n82, c82, m82, d82, n83, c83, m83, d83, rfl, iP, iQ, ⟨hn82, hm82⟩, ⟨hn83, hm83⟩, hg⟩; replace hA := hA.keep hg; replace hB := hB.keep hg; replace hX := hX.keep hg; replace hY := hY.keep hg; replace hP := hP.keep hg; replace hQ := hQ.keep hg; replace x0 := hg.cell x0 (by simp); replace x1 := hg.cell x1 (by simp); replace x2 := hg.cell x2 (by simp); replace x3 := hg.cell x3 (by simp); replace x4 := hg.cell x4 (by simp); replace x5 := hg.cell x5 (by simp); replace x6 := hg.cell x6 (by simp); replace x7 := hg.cell x7 (by simp); replace x8 := hg.cell x8 (by simp); replace x9 := hg.cell x9 (by simp); replace x10 := hg.cell x10 (by simp); replace x11 := hg.cell x11 (by simp); replace x12 := hg.cell x12 (by simp); replace x13 := hg.cell x13 (by simp); replace y0 := hg.cell y0 (by simp); replace y1 := hg.cell y1 (by simp); replace y2 := hg.cell y2 (by simp); replace t0 := hg.cell t0 (by simp); replace t1 := hg.cell t1 (by simp); replace t2 := hg.cell t2 (by simp); replace hW := grown_trans hW hg; replace hR := grown_trans hR hg; clear hg)
                        | (go_at_call 20; (with_reducible refine (ratMul_v 2300 (HT.out.keep hW) hP.q hP.q (by omega) (by omega) (by omega) (by omega) (by omega)).mono ?_); rintro e w32 ⟨g32, p32, n32, c32, q32, m32, d32, rfl, sQ, hn32, hm32, hg⟩; replace hA := hA.keep hg; replace hB := hB.keep hg; replace hX := hX.keep hg; replace hY := hY.keep hg; replace hP := hP.keep hg; replace hQ := hQ.keep hg; replace iP := iP.keep hg; replace iQ := iQ.keep hg; replace x0 := hg.cell x0 (by simp); replace x1 := hg.cell x1 (by simp); replace x2 := hg.cell x2 (by simp); replace x3 := hg.cell x3 (by simp); replace x4 := hg.cell x4 (by simp); replace x5 := hg.cell x5 (by simp); replace x6 := hg.cell x6 (by simp); replace x7 := hg.cell x7 (by simp); replace x8 := hg.cell x8 (by simp); replace x9 := hg.cell x9 (by simp); replace x10 := hg.cell x10 (by simp); replace x11 := hg.cell x11 (by simp); replace x12 := hg.cell x12 (by simp); replace x13 := hg.cell x13 (by simp); replace y0 := hg.cell y0 (by simp); replace y1 := hg.cell y1 (by simp); replace y2 := hg.cell y2 (by simp); replace t0 := hg.cell t0 (by simp); replace t1 := hg.cell t1 (by simp); replace t2 := hg.cell t2 (by simp); replace hW := grown_trans hW hg; replace hR := grown_trans hR hg; clear hg)
                        | (go_at_call 14; (with_reducible refine (has_t 9300 iP.q iQ.q sQ.q (by omega) (by omega) (by omega) (by omega) (by omega) (by omega) (by omega) E5.out).mono ?_); rintro e w33 ⟨rfl, hg⟩; clear iP iQ sQ; replace hA := hA.keep hg; replace hB := hB.keep hg; replace hX := hX.keep hg; replace hY := hY.keep hg; replace hP := hP.keep hg; replace hQ := hQ.keep hg; replace x0 := hg.cell x0 (by simp); replace x1 := hg.cell x1 (by simp); replace x2 := hg.cell x2 (by simp); replace x3 := hg.cell x3 (by simp); replace x4 := hg.cell x4 (by simp); replace x5 := hg.cell x5 (by simp); replace x6 := hg.cell x6 (by simp); replace x7 := hg.cell x7 (by simp); replace x8 := hg.cell x8 (by simp); replace x9 := hg.cell x9 (by simp); replace x10 := hg.cell x10 (by simp); replace x11 := hg.cell x11 (by simp); replace x12 := hg.cell x12 (by simp); replace x13 := hg.cell x13 (by simp); replace y0 := hg.cell y0 (by simp); replace y1 := hg.cell y1 (by simp); replace y2 := hg.cell y2 (by simp); replace t0 := hg.cell t0 (by simp); replace t1 := hg.cell t1 (by simp); replace t2 := hg.cell t2 (by simp); replace hW := grown_trans hW hg; replace hR := grown_trans hR hg; clear hg))
                    go_wp2_with fail
                    go_meet
                    exact ⟨rfl, rfl, hR⟩
                  case rest =>
                    obtain ⟨rfl, rfl, hg⟩ := hcut
                    clear hR
                    replace hA := hA.keep hg; replace hB := hB.keep hg; replace hX := hX.keep hg; replace hY := hY.keep hg; replace hP := hP.keep hg; replace hQ := hQ.keep hg; replace x0 := hg.cell x0 (by simp); replace x1 := hg.cell x1 (by simp); replace x2 := hg.cell x2 (by simp); replace x3 := hg.cell x3 (by simp); replace x4 := hg.cell x4 (by simp); replace x5 := hg.cell x5 (by simp); replace x6 := hg.cell x6 (by simp); replace x7 := hg.cell x7 (by simp); replace x8 := hg.cell x8 (by simp); replace x9 := hg.cell x9 (by simp); replace x10 := hg.cell x10 (by simp); replace x11 := hg.cell x11 (by simp); replace x12 := hg.cell x12 (by simp); replace x13 := hg.cell x13 (by simp); replace y0 := hg.cell y0 (by simp); replace y1 := hg.cell y1 (by simp); replace y2 := hg.cell y2 (by simp); replace t0 := hg.cell t0 (by simp); replace t1 := hg.cell t1 (by simp); replace t2 := hg.cell t2 (by simp); replace hW := grown_trans hW hg
                    clear hg
                    clear E1 E2 E3 E4 E5
                    go_upto_region 6 with fail
                    generalize hwc : wc = w6 at *
                    clear hwc
                    have hR := grown_refl w6 none
                    go_cut [7, 8] from 112 to 120 (fun s7 s8 wx => DvRel w6 X Y (minR (A * (((1 : Int) : Rat) / Y)) [A * (((1 : Int) : Rat) / X), B * (((1 : Int) : Rat) / Y), B * (((1 : Int) : Rat) / X)]) (maxR (A * (((1 : Int) : Rat) / Y)) [A * (((1 : Int) : Rat) / X), B * (((1 : Int) : Rat) / Y), B * (((1 : Int) : Rat) / X)]) s7 s8 wx)
                    case first =>
                      cases hi : inI X Y ((0 : Int) : Rat)
                      · have hv := signs_v HXY.out hi
                        have HI := hid hi
                        have HV1 := hid hv.1; have HV2 := hid hv.2.1; have HV3 := hid hv.2.2
                        clear hi hv
                        go_wp2_with fail
                        refine (ivDiv_v 8 (HT.out.keep hW) hA hB hX hY (by omega) (by omega) (by omega) (by omega) (by omega) (by omega) (by omega) (by omega) HV2.out HV3.out (by omega) HV1).mono ?_
                        rintro e wd ⟨g7, g8, p7, q7, p8, q8, n7, c7, m7, d7, n8, c8, m8, d8, rfl, hL, hH, ⟨hn7, hm7⟩, ⟨hn8, hm8⟩, hg⟩
                        go_wp2_with fail
                        go_meet
                        have hga := World.grownBy_alloc wd (.cells #[.bool g7, .slice p7 n7 c7, .slice q7 m7 d7, .bool g8, .slice p8 n8 c8, .slice q8 m8 d8] 29) none
                        exact ⟨_, rfl, grown_trans hg hga, Or.inl ⟨rfl, HI.out, g7, g8, p7, q7, p8, q8, n7, c7, m7, d7, n8, c8, m8, d8, heap_alloc_new _ _, hL.keep hga, hH.keep hga, ⟨by omega, by omega⟩, ⟨by omega, by omega⟩⟩⟩
                      · have HI := hid hi
                        clear hi
                        go_wp2_with fail
                        refine (ivDiv_e 8 (HT.out.keep hW) hA hB hX hY (by omega) (by omega) (by omega) (by omega) (by omega) (by omega) (by omega) (by omega) (by omega) (hid (signs_e HI.out))).mono ?_
                        rintro e wd ⟨rfl, hg⟩
                        go_wp2_with fail
                        go_meet
                        exact ⟨_, rfl, grown_trans hg (World.grownBy_alloc _ _ _), Or.inr ⟨rfl, HI.out⟩⟩
                    case rest =>
                      obtain ⟨u7, rfl, hg, hD⟩ := hcut
                      clear hR
                      replace hA := hA.keep hg; replace hB := hB.keep hg; replace hX := hX.keep hg; replace hY := hY.keep hg; replace hP := hP.keep hg; replace hQ := hQ.keep hg; replace x0 := hg.cell x0 (by simp); replace x1 := hg.cell x1 (by simp); replace x2 := hg.cell x2 (by simp); replace x3 := hg.cell x3 (by simp); replace x4 := hg.cell x4 (by simp); replace x5 := hg.cell x5 (by simp); replace x6 := hg.cell x6 (by simp); replace x7 := hg.cell x7 (by simp); replace x8 := hg.cell x8 (by simp); replace x9 := hg.cell x9 (by simp); replace x10 := hg.cell x10 (by simp); replace x11 := hg.cell x11 (by simp); replace x12 := hg.cell x12 (by simp); replace x13 := hg.cell x13 (by simp); replace y0 := hg.cell y0 (by simp); replace y1 := hg.cell y1 (by simp); replace y2 := hg.cell y2 (by simp); replace t0 := hg.cell t0 (by simp); replace t1 := hg.cell t1 (by simp); replace t2 := hg.cell t2 (by simp); replace hW := grown_trans hW hg
                      replace hD := hid hD
                      clear hg
                      go_upto_region 7 with fail
                      generalize hwc : wc = w7 at *
                      clear hwc
                      have hR := grown_refl w7 none
                      go_cut [9, 10] from 120 to 126 (fun s9 s10 wx => DqRel w7 P Q s9 s10 wx)
                      case first =>
                        by_cases hq0 : Q = 0
                        · have HQ0 := hid hq0
                          clear hq0
                          go_wp2_with fail
                          refine (ratDiv_e 2300 hP.q hQ.q HQ0.out (by omega) (by omega) (by omega) (by omega) (by omega)).mono ?_
                          rintro e v1 ⟨rfl, hg⟩
                          go_wp2_with fail
                          go_meet
                          exact ⟨_, rfl, grown_trans hg (World.grownBy_alloc _ _ _), Or.inr ⟨rfl, HQ0.out⟩⟩
                        · have HQ0 := hid hq0
                          clear hq0
                          go_wp2_with fail
                          refine (ratDiv_v 2300 (HT.out.keep hW) hP.q hQ.q HQ0.out (by omega) (by omega) (by omega) (by omega) (by omega)).mono ?_
                          rintro e v1 ⟨g9, p9, n9, c9, q9, m9, d9, rfl, hZ, hn9, hm9, hg⟩
                          go_wp2_with fail
                          go_meet
                          have hga := World.grownBy_alloc v1 (.cells #[.bool g9, .slice p9 n9 c9, .slice q9 m9 d9] 27) none
                          exact ⟨_, rfl, grown_trans hg hga, Or.inl ⟨rfl, HQ0.out, g9, p9, n9, c9, q9, m9, d9, heap_alloc_new _ _, hZ.keep hga, ⟨by omega, by omega⟩⟩⟩
                      case rest =>
                        obtain ⟨u9, rfl, hg, hE⟩ := hcut
                        replace hD := hid (hD.out.keep hg)
                        clear hR
                        replace hA := hA.keep hg; replace hB := hB.keep hg; replace hX := hX.keep hg; replace hY := hY.keep hg; replace hP := hP.keep hg; replace hQ := hQ.keep hg; replace x0 := hg.cell x0 (by simp); replace x1 := hg.cell x1 (by simp); replace x2 := hg.cell x2 (by simp); replace x3 := hg.cell x3 (by simp); replace x4 := hg.cell x4 (by simp); replace x5 := hg.cell x5 (by simp); replace x6 := hg.cell x6 (by simp); replace x7 := hg.cell x7 (by simp); replace x8 := hg.cell x8 (by simp); replace x9 := hg.cell x9 (by simp); replace x10 := hg.cell x10 (by simp); replace x11 := hg.cell x11 (by simp); replace x12 := hg.cell x12 (by simp); replace x13 := hg.cell x13 (by simp); replace y0 := hg.cell y0 (by simp); replace y1 := hg.cell y1 (by simp); replace y2 := hg.cell y2 (by simp); replace t0 := hg.cell t0 (by simp); replace t1 := hg.cell t1 (by simp); replace t2 := hg.cell t2 (by simp); replace hW := grown_trans hW hg
                        replace hE := hid hE
                        clear hg
                        go_upto_region 8 with fail
                        generalize hwc : wc = w8 at *
                        clear hwc
                        go_cut [5, 137] from 126 to 137 (fun s5 s137 wx => s5 = .pointer (some ⟨u, 0, none⟩) ∧ s137 = .bool false ∧ w8.grownBy wx none)
                        case first =>
                          rcases hD.out with ⟨rfl, hi, g7, g8, p7, q7, p8, q8, n7, c7, m7, d7, n8, c8, m8, d8, bk, hL, hH, ⟨hn7, hm7⟩, ⟨hn8, hm8⟩⟩ | ⟨rfl, hi⟩
                          · clear hD
                            have hqq := recip_in hi EQ1.out EQ2.out
                            have hdd := div_in hi EP1.out EP2.out EQ1.out EQ2.out
                            have E6 := hid (inI_of hdd.1 hdd.2)
                            have HQ0 := hid hqq.1
                            clear hqq hdd hi
                            rcases hE.out with ⟨rfl, _, g9, p9, n9, c9, q9, m9, d9, bz, hZ, ⟨hn9, hm9⟩⟩ | ⟨_, hq0⟩
                            · obtain ⟨d0, d1, d2, d3, d4, d5⟩ := (ivbox_facts bk).1
                              obtain ⟨r0, r1, r2, _, _, _⟩ := ratbox_facts bz
                              clear hE
                              go_wp2_with fail
                              refine (has_t 9300 hL.q hH.q hZ.q (by omega) (by omega) (by omega) (by omega) (by omega) (by omega) (by omega) E6.out).mono ?_
                              rintro e v2 ⟨rfl, hg⟩
                              go_wp2_with fail
                              go_meet
                              exact ⟨rfl, rfl, hg⟩
                            · exact absurd hq0 HQ0.out
                          · clear hD hi
                            rcases hE.out with ⟨rfl, _⟩ | ⟨rfl, _⟩
                            · clear hE
                              go_wp2_with fail
                              go_meet
                              exact ⟨rfl, rfl, grown_refl _ _⟩
                            · clear hE
                              go_wp2_with fail
                              go_meet
                              exact ⟨rfl, rfl, grown_refl _ _⟩
                        case rest =>
                          obtain ⟨rfl, rfl, hg⟩ := hcut
                          clear hD hE
                          replace hA := hA.keep hg; replace hB := hB.keep hg; replace hX := hX.keep hg; replace hY := hY.keep hg; replace hP := hP.keep hg; replace hQ := hQ.keep hg; replace x0 := hg.cell x0 (by simp); replace x1 := hg.cell x1 (by simp); replace x2 := hg.cell x2 (by simp); replace x3 := hg.cell x3 (by simp); replace x4 := hg.cell x4 (by simp); replace x5 := hg.cell x5 (by simp); replace x6 := hg.cell x6 (by simp); replace x7 := hg.cell x7 (by simp); replace x8 := hg.cell x8 (by simp); replace x9 := hg.cell x9 (by simp); replace x10 := hg.cell x10 (by simp); replace x11 := hg.cell x11 (by simp); replace x12 := hg.cell x12 (by simp); replace x13 := hg.cell x13 (by simp); replace y0 := hg.cell y0 (by simp); replace y1 := hg.cell y1 (by simp); replace y2 := hg.cell y2 (by simp); replace t0 := hg.cell t0 (by simp); replace t1 := hg.cell t1 (by simp); replace t2 := hg.cell t2 (by simp); replace hW := grown_trans hW hg
                          clear hg
                          clear hX hY hQ t0 t1 t2 x6 x7 x8 x9 x10 x11 x12 x13
                          go_upto_region 10 with fail
                          generalize hwc : wc = w9 at *
                          clear hwc
                          go_wp2_with fail
                          refine (ivRound_v 8 (HT.out.keep hW) hA hB b (by omega) (by omega) (by omega) (by omega) (by omega) (by omega)).mono ?_
                          rintro e v11 ⟨g11, g12, p11, q11, p12, q12, n11, c11, m11, d11, n12, c12, m12, d12, rfl, kL, kH, ⟨hn11, hm11⟩, ⟨hn12, hm12⟩, hg⟩
                          replace hA := hA.keep hg; replace hB := hB.keep hg; replace hP := hP.keep hg; replace x0 := hg.cell x0 (by simp); replace x1 := hg.cell x1 (by simp); replace x2 := hg.cell x2 (by simp); replace x3 := hg.cell x3 (by simp); replace x4 := hg.cell x4 (by simp); replace x5 := hg.cell x5 (by simp); replace y0 := hg.cell y0 (by simp); replace y1 := hg.cell y1 (by simp); replace y2 := hg.cell y2 (by simp); replace hW := grown_trans hW hg
                          clear hg
                          have hg := World.grownBy_alloc v11 (.cells #[.bool g11, .slice p11 n11 c11, .slice q11 m11 d11, .bool g12, .slice p12 n12 c12, .slice q12 m12 d12] 29) none
                          have hb := heap_alloc_new v11 (.cells #[.bool g11, .slice p11 n11 c11, .slice q11 m11 d11, .bool g12, .slice p12 n12 c12, .slice q12 m12 d12] 29)
                          obtain ⟨⟨k0, k1, k2, k3, k4, k5⟩, _⟩ := ivbox_facts hb
                          clear hb
                          replace hA := hA.keep hg; replace hB := hB.keep hg; replace hP := hP.keep hg; replace kL := kL.keep hg; replace kH := kH.keep hg; replace x0 := hg.cell x0 (by simp); replace x1 := hg.cell x1 (by simp); replace x2 := hg.cell x2 (by simp); replace x3 := hg.cell x3 (by simp); replace x4 := hg.cell x4 (by simp); replace x5 := hg.cell x5 (by simp); replace y0 := hg.cell y0 (by simp); replace y1 := hg.cell y1 (by simp); replace y2 := hg.cell y2 (by simp); replace hW := grown_trans hW hg
                          clear hg
                          go_wp2_with fail
                          generalize v11.alloc (.cells #[.bool g11, .slice p11 n11 c11, .slice q11 m11 d11, .bool g12, .slice p12 n12 c12, .slice q12 m12 d12] 29) = wb at *
                          generalize v11.heap.size = K11 at *
                          by_cases hB1 : B < 0
                          · have hBn := hid hB1
                            clear hB1
                            refine (ivSqrt_neg 8 hB hBn.out (by omega) (by omega) (by omega) b (by omega) (by omega)).mono ?_
                            rintro e v12 ⟨rfl, hg⟩
                            replace hA := hA.keep hg; replace hB := hB.keep hg; replace hP := hP.keep hg; replace kL := kL.keep hg; replace kH := kH.keep hg; replace x0 := hg.cell x0 (by simp); replace x1 := hg.cell x1 (by simp); replace x2 := hg.cell x2 (by simp); replace x3 := hg.cell x3 (by simp); replace x4 := hg.cell x4 (by simp); replace x5 := hg.cell x5 (by simp); replace y0 := hg.cell y0 (by simp); replace y1 := hg.cell y1 (by simp); replace y2 := hg.cell y2 (by simp); replace k0 := hg.cell k0 (by simp); replace k1 := hg.cell k1 (by simp); replace k2 := hg.cell k2 (by simp); replace k3 := hg.cell k3 (by simp); replace k4 := hg.cell k4 (by simp); replace k5 := hg.cell k5 (by simp); replace hW := grown_trans hW hg
                            clear hg
                            have hg := World.grownBy_alloc v12 (.cells #[.bool false, .slice none 0 0, .slice none 0 0, .bool false, .slice none 0 0, .slice none 0 0] 29) none
                            have hb := heap_alloc_new v12 (.cells #[.bool false, .slice none 0 0, .slice none 0 0, .bool false, .slice none 0 0, .slice none 0 0] 29)
                            obtain ⟨⟨s0, s1, s2, s3, s4, s5⟩, _⟩ := ivbox_facts hb
                            clear hb
                            replace hA := hA.keep hg; replace hB := hB.keep hg; replace hP := hP.keep hg; replace kL := kL.keep hg; replace kH := kH.keep hg; replace x0 := hg.cell x0 (by simp); replace x1 := hg.cell x1 (by simp); replace x2 := hg.cell x2 (by simp); replace x3 := hg.cell x3 (by simp); replace x4 := hg.cell x4 (by simp); replace x5 := hg.cell x5 (by simp); replace y0 := hg.cell y0 (by simp); replace y1 := hg.cell y1 (by simp); replace y2 := hg.cell y2 (by simp); replace k0 := hg.cell k0 (by simp); replace k1 := hg.cell k1 (by simp); replace k2 := hg.cell k2 (by simp); replace k3 := hg.cell k3 (by simp); replace k4 := hg.cell k4 (by simp); replace k5 := hg.cell k5 (by simp); replace hW := grown_trans hW hg
                            clear hg
                            go_wp2_with fail
                            generalize v12.alloc (.cells #[.bool false, .slice none 0 0, .slice none 0 0, .bool false, .slice none 0 0, .slice none 0 0] 29) = wd at *
                            generalize v12.heap.size = K12 at *
                            refine (has_t 9300 kL.q kH.q hP.q (by omega) (by omega) (by omega) (by omega) (by omega) (by omega) (by omega) E7.out).mono ?_
                            rintro e v13 ⟨rfl, hg⟩
                            replace hA := hA.keep hg; replace hB := hB.keep hg; replace hP := hP.keep hg; replace kL := kL.keep hg; replace kH := kH.keep hg; replace x0 := hg.cell x0 (by simp); replace x1 := hg.cell x1 (by simp); replace x2 := hg.cell x2 (by simp); replace x3 := hg.cell x3 (by simp); replace x4 := hg.cell x4 (by simp); replace x5 := hg.cell x5 (by simp); replace y0 := hg.cell y0 (by simp); replace y1 := hg.cell y1 (by simp); replace y2 := hg.cell y2 (by simp); replace k0 := hg.cell k0 (by simp); replace k1 := hg.cell k1 (by simp); replace k2 := hg.cell k2 (by simp); replace k3 := hg.cell k3 (by simp); replace k4 := hg.cell k4 (by simp); replace k5 := hg.cell k5 (by simp); replace s0 := hg.cell s0 (by simp); replace s1 := hg.cell s1 (by simp); replace s2 := hg.cell s2 (by simp); replace s3 := hg.cell s3 (by simp); replace s4 := hg.cell s4 (by simp); replace s5 := hg.cell s5 (by simp); replace hW := grown_trans hW hg
                            clear hg
                            go_wp2_with fail
                            refine (ratSign_v 8 hB.q (by omega) (by omega) (by omega)).mono ?_
                            rintro e v14 ⟨rfl, hg⟩
                            replace hA := hA.keep hg; replace hB := hB.keep hg; replace hP := hP.keep hg; replace kL := kL.keep hg; replace kH := kH.keep hg; replace x0 := hg.cell x0 (by simp); replace x1 := hg.cell x1 (by simp); replace x2 := hg.cell x2 (by simp); replace x3 := hg.cell x3 (by simp); replace x4 := hg.cell x4 (by simp); replace x5 := hg.cell x5 (by simp); replace y0 := hg.cell y0 (by simp); replace y1 := hg.cell y1 (by simp); replace y2 := hg.cell y2 (by simp); replace k0 := hg.cell k0 (by simp); replace k1 := hg.cell k1 (by simp); replace k2 := hg.cell k2 (by simp); replace k3 := hg.cell k3 (by simp); replace k4 := hg.cell k4 (by simp); replace k5 := hg.cell k5 (by simp); replace s0 := hg.cell s0 (by simp); replace s1 := hg.cell s1 (by simp); replace s2 := hg.cell s2 (by simp); replace s3 := hg.cell s3 (by simp); replace s4 := hg.cell s4 (by simp); replace s5 := hg.cell s5 (by simp); replace hW := grown_trans hW hg
                            clear hg
                            rw [cmpR_lt hBn.out]
                            go_upto_region 14 with fail
                            generalize hwc : v14 = w14 at *
                            clear hwc
                            have hg := grown_drew w14 none
                            replace hA := hA.keep hg; replace hB := hB.keep hg; replace hP := hP.keep hg; replace kL := kL.keep hg; replace kH := kH.keep hg; replace x0 := hg.cell x0 (by simp); replace x1 := hg.cell x1 (by simp); replace x2 := hg.cell x2 (by simp); replace x3 := hg.cell x3 (by simp); replace x4 := hg.cell x4 (by simp); replace x5 := hg.cell x5 (by simp); replace y0 := hg.cell y0 (by simp); replace y1 := hg.cell y1 (by simp); replace y2 := hg.cell y2 (by simp); replace k0 := hg.cell k0 (by simp); replace k1 := hg.cell k1 (by simp); replace k2 := hg.cell k2 (by simp); replace k3 := hg.cell k3 (by simp); replace k4 := hg.cell k4 (by simp); replace k5 := hg.cell k5 (by simp); replace s0 := hg.cell s0 (by simp); replace s1 := hg.cell s1 (by simp); replace s2 := hg.cell s2 (by simp); replace s3 := hg.cell s3 (by simp); replace s4 := hg.cell s4 (by simp); replace s5 := hg.cell s5 (by simp); replace hW := grown_trans hW hg
                            clear hg
                            refine wp_region_noPanic ?_
                            refine wp_region_held_drew (S := fun w' => w'.cell? ⟨u, 0, none⟩ = some (.bool g5) ∧ w'.cell? ⟨u, 1, none⟩ = some (.slice p5 n5 c5) ∧ w'.cell? ⟨u, 2, none⟩ = some (.slice q5 m5 d5)) (by kernel_rfl) ?_ (fun hHeld => ?_)
                            · ((try go_split_ands) <;> (repeat' apply And.intro) <;> (repeat (first | (with_reducible assumption) | (with_reducible refine (grown_setCell _ _ _).cell ?_ (by first | (simp; omega) | simp)) | (with_reducible refine (World.grownBy_alloc _ _ none).cell ?_ (by simp)) | (with_reducible refine (grown_drew _ none).cell ?_ (by simp)))))
                            (refine wpAnyH_take (i := 0) (oi := Oper.mk _ _ _ _ _ _) (v := ?_) rfl (by kernel_rfl) (by kernel_rfl) (by kernel_rfl) (fun _ _ _ h => h) (Or.inl ⟨by kernel_rfl, ?_⟩) (by assumption) ?_; rotate_left 1; focus (intro w hSw; (try dsimp only at hSw); go_simp; (try (with_reducible rfl)); done); (try simp only [Act.put, List.setIfInBounds_toArray, List.set_cons_zero, List.set_cons_succ]))
                            (refine wpAnyH_take (i := 1) (oi := Oper.mk _ _ _ _ _ _) (v := ?_) rfl (by kernel_rfl) (by kernel_rfl) (by kernel_rfl) (fun _ _ _ h => h) (Or.inl ⟨by kernel_rfl, ?_⟩) (by assumption) ?_; rotate_left 1; focus (intro w hSw; (try dsimp only at hSw); go_simp; (try (with_reducible rfl)); done); (try simp only [Act.put, List.setIfInBounds_toArray, List.set_cons_zero, List.set_cons_succ]))
                            (refine wpAnyH_take (i := 2) (oi := Oper.mk _ _ _ _ _ _) (v := ?_) rfl (by kernel_rfl) (by kernel_rfl) (by kernel_rfl) (fun _ _ _ h => h) (Or.inl ⟨by kernel_rfl, ?_⟩) (by assumption) ?_; rotate_left 1; focus (intro w hSw; (try dsimp only at hSw); go_simp; (try (with_reducible rfl)); done); (try simp only [Act.put, List.setIfInBounds_toArray, List.set_cons_zero, List.set_cons_succ]))
                            (refine wpAnyH_take (i := 3) (oi := Oper.mk _ _ _ _ _ _) (v := undef) rfl (by kernel_rfl) (by kernel_rfl) (by kernel_rfl) (fun _ _ _ h => h) (Or.inr ⟨by kernel_rfl, rfl⟩) (by assumption) ?_; (try simp only [Act.put, List.setIfInBounds_toArray, List.set_cons_zero, List.set_cons_succ]))
                            (refine wpAnyH_take (i := 4) (oi := Oper.mk _ _ _ _ _ _) (v := undef) rfl (by kernel_rfl) (by kernel_rfl) (by kernel_rfl) (fun _ _ _ h => h) (Or.inr ⟨by kernel_rfl, rfl⟩) (by assumption) ?_; (try simp only [Act.put, List.setIfInBounds_toArray, List.set_cons_zero, List.set_cons_succ]))
                            (refine wpAnyH_take (i := 5) (oi := Oper.mk _ _ _ _ _ _) (v := undef) rfl (by kernel_rfl) (by kernel_rfl) (by kernel_rfl) (fun _ _ _ h => h) (Or.inr ⟨by kernel_rfl, rfl⟩) (by assumption) ?_; (try simp only [Act.put, List.setIfInBounds_toArray, List.set_cons_zero, List.set_cons_succ]))
                            (refine wpAnyH_take (i := 6) (oi := Oper.mk _ _ _ _ _ _) (v := ?_) rfl (by kernel_rfl) (by kernel_rfl) (by kernel_rfl) (fun _ _ _ h => h) (Or.inl ⟨by kernel_rfl, ?_⟩) (by assumption) ?_; rotate_left 1; focus (intro w hSw; (try dsimp only at hSw); go_simp; (try (with_reducible rfl)); done); (try simp only [Act.put, List.setIfInBounds_toArray, List.set_cons_zero, List.set_cons_succ]))
                            (refine wpAnyH_take (i := 7) (oi := Oper.mk _ _ _ _ _ _) (v := ?_) rfl (by kernel_rfl) (by kernel_rfl) (by kernel_rfl) (fun _ _ _ h => h) (Or.inl ⟨by kernel_rfl, ?_⟩) (by assumption) ?_; rotate_left 1; focus (intro w hSw; (try dsimp only at hSw); go_simp; (try (with_reducible rfl)); done); (try simp only [Act.put, List.setIfInBounds_toArray, List.set_cons_zero, List.set_cons_succ]))
                            (refine wpAnyH_take (i := 8) (oi := Oper.mk _ _ _ _ _ _) (v := undef) rfl (by kernel_rfl) (by kernel_rfl) (by kernel_rfl) (fun _ _ _ h => h) (Or.inr ⟨by kernel_rfl, rfl⟩) (by assumption) ?_; (try simp only [Act.put, List.setIfInBounds_toArray, List.set_cons_zero, List.set_cons_succ]))
                            (refine wpAnyH_take (i := 10) (oi := Oper.mk _ _ _ _ _ _) (v := undef) rfl (by kernel_rfl) (by kernel_rfl) (by kernel_rfl) (fun _ _ _ h => h) (Or.inr ⟨by kernel_rfl, rfl⟩) (by assumption) ?_; (try simp only [Act.put, List.setIfInBounds_toArray, List.set_cons_zero, List.set_cons_succ]))
                            (refine wpAnyH_take (i := 9) (oi := Oper.mk _ _ _ _ _ _) (v := undef) rfl (by kernel_rfl) (by kernel_rfl) (by kernel_rfl) (fun _ _ _ h => h) (Or.inr ⟨by kernel_rfl, rfl⟩) (by assumption) ?_; (try simp only [Act.put, List.setIfInBounds_toArray, List.set_cons_zero, List.set_cons_succ]))
                            (refine wpAnyH_take (i := 11) (oi := Oper.mk _ _ _ _ _ _) (v := undef) rfl (by kernel_rfl) (by kernel_rfl) (by kernel_rfl) (fun _ _ _ h => h) (Or.inr ⟨by kernel_rfl, rfl⟩) (by assumption) ?_; (try simp only [Act.put, List.setIfInBounds_toArray, List.set_cons_zero, List.set_cons_succ]))
                            (refine wpAnyH_take (i := 12) (oi := Oper.mk _ _ _ _ _ _) (v := ?_) rfl (by kernel_rfl) (by kernel_rfl) (by kernel_rfl) (fun _ _ _ h => h) (Or.inl ⟨by kernel_rfl, ?_⟩) (by assumption) ?_; rotate_left 1; focus (intro w hSw; (try dsimp only at hSw); go_simp; (try (with_reducible rfl)); done); (try simp only [Act.put, List.setIfInBounds_toArray, List.set_cons_zero, List.set_cons_succ]))
                            (refine wpAnyH_take (i := 13) (oi := Oper.mk _ _ _ _ _ _) (v := ?_) rfl (by kernel_rfl) (by kernel_rfl) (by kernel_rfl) (fun _ _ _ h => h) (Or.inl ⟨by kernel_rfl, ?_⟩) (by assumption) ?_; rotate_left 1; focus (intro w hSw; (try dsimp only at hSw); go_simp; (try (with_reducible rfl)); done); (try simp only [Act.put, List.setIfInBounds_toArray, List.set_cons_zero, List.set_cons_succ]))
                            refine wpAnyH_ready (rs := [14]) (by kernel_rfl) (by simp) ?_
                            refine AllReadyH.cons (o := Oper.mk _ _ _ _ _ _) rfl (fun K hK => ?_) AllReadyH.nil
                            (try rw [if_pos (by kernel_rfl)])
                            (first | (first | (go_at_call 7; (with_reducible refine (alive4 (HT.out.keep hW)).mono ?_); rintro e w51 ⟨rfl, hg⟩; replace hA := hA.keep hg; replace hB := hB.keep hg; replace hP := hP.keep hg; replace kL := kL.keep hg; replace kH := kH.keep hg; replace x0 := hg.cell x0 (by simp); replace x1 := hg.cell x1 (by simp); replace x2 := hg.cell x2 (by simp); replace x3 := hg.cell x3 (by simp); replace x4 := hg.cell x4 (by simp); replace x5 := hg.cell x5 (by simp); replace y0 := hg.cell y0 (by simp); replace y1 := hg.cell y1 (by simp); replace y2 := hg.cell y2 (by simp); replace k0 := hg.cell k0 (by simp); replace k1 := hg.cell k1 (by simp); replace k2 := hg.cell k2 (by simp); replace k3 := hg.cell k3 (by simp); replace k4 := hg.cell k4 (by simp); replace k5 := hg.cell k5 (by simp); replace s0 := hg.cell s0 (by simp); replace s1 := hg.cell s1 (by simp); replace s2 := hg.cell s2 (by simp); replace s3 := hg.cell s3 (by simp); replace s4 := hg.cell s4 (by simp); replace s5 := hg.cell s5 (by simp); replace hW := grown_trans hW hg; clear hg)) | (go_simp; (first | (go_at_call 7; (with_reducible refine (alive4 (HT.out.keep hW)).mono ?_); rintro e w51 ⟨rfl, hg⟩; replace hA := hA.keep hg; replace hB := hB.keep hg; replace hP := hP.keep hg; replace kL := kL.keep hg; replace kH := kH.keep hg; replace x0 := hg.cell x0 (by simp); replace x1 := hg.cell x1 (by simp); replace x2 := hg.cell x2 (by simp); replace x3 := hg.cell x3 (by simp); replace x4 := hg.cell x4 (by simp); replace x5 := hg.cell x5 (by simp); replace y0 := hg.cell y0 (by simp); replace y1 := hg.cell y1 (by simp); replace y2 := hg.cell y2 (by simp); replace k0 := hg.cell k0 (by simp); replace k1 := hg.cell k1 (by simp); replace k2 := hg.cell k2 (by simp); replace k3 := hg.cell k3 (by simp); replace k4 := hg.cell k4 (by simp); replace k5 := hg.cell k5 (by simp); replace s0 := hg.cell s0 (by simp); replace s1 := hg.cell s1 (by simp); replace s2 := hg.cell s2 (by simp); replace s3 := hg.cell s3 (by simp); replace s4 := hg.cell s4 (by simp); replace s5 := hg.cell s5 (by simp); replace hW := grown_trans hW hg; clear hg))))
                            refine hK.out _ _ ?_ (fun hNew => ?_)
                            · (try dsimp only)
                              ((try go_split_ands) <;> (repeat' apply And.intro) <;> (repeat (first | (with_reducible assumption) | (with_reducible refine (grown_setCell _ _ _).cell ?_ (by first | (simp; omega) | simp)) | (with_reducible refine (World.grownBy_alloc _ _ none).cell ?_ (by simp)) | (with_reducible refine (grown_drew _ none).cell ?_ (by simp)))))
                            clear hK K hHeld
                            have hHeld := hNew
                            clear hNew
                            (try simp only [Act.put, List.setIfInBounds_toArray, List.set_cons_zero, List.set_cons_succ])
                            (refine wpAnyH_take (i := 15) (oi := Oper.mk _ _ _ _ _ _) (v := ?_) rfl (by kernel_rfl) (by kernel_rfl) (by kernel_rfl) (fun _ _ _ h => h) (Or.inl ⟨by kernel_rfl, ?_⟩) (by assumption) ?_; rotate_left 1; focus (intro w hSw; (try dsimp only at hSw); go_simp; (try (with_reducible rfl)); done); (try simp only [Act.put, List.setIfInBounds_toArray, List.set_cons_zero, List.set_cons_succ]))
                            (refine wpAnyH_take (i := 16) (oi := Oper.mk _ _ _ _ _ _) (v := ?_) rfl (by kernel_rfl) (by kernel_rfl) (by kernel_rfl) (fun _ _ _ h => h) (Or.inl ⟨by kernel_rfl, ?_⟩) (by assumption) ?_; rotate_left 1; focus (intro w hSw; (try dsimp only at hSw); go_simp; (try (with_reducible rfl)); done); (try simp only [Act.put, List.setIfInBounds_toArray, List.set_cons_zero, List.set_cons_succ]))
                            refine wpAnyH_done (by kernel_rfl) ?_ _
                            refine NoPanic.normal ?_
                            go_wp2_with fail
                            go_ret
                            exact ⟨rfl, hW⟩
                          · have HB0 := hid (show 0 ≤ B by grind)
                            clear hB1
                            by_cases hp : P < 0
                            · refine (ivSqrt_v 8 (HT.out.keep hW) hA hB b (by omega) HB0.out (by omega) (by omega) (by omega) (by omega) (by omega)).mono ?_
                              rintro e v12 ⟨R, S1, T1, i1, i2, i3, g13, g14, p13, q13, p14, q14, n13, c13, m13, d13, n14, c14, m14, d14, rfl, jL, jH, ⟨hn13, hm13⟩, ⟨hn14, hm14⟩, hg⟩
                              replace i1 := hid i1; replace i2 := hid i2; replace i3 := hid i3
                              replace hA := hA.keep hg; replace hB := hB.keep hg; replace hP := hP.keep hg; replace kL := kL.keep hg; replace kH := kH.keep hg; replace x0 := hg.cell x0 (by simp); replace x1 := hg.cell x1 (by simp); replace x2 := hg.cell x2 (by simp); replace x3 := hg.cell x3 (by simp); replace x4 := hg.cell x4 (by simp); replace x5 := hg.cell x5 (by simp); replace y0 := hg.cell y0 (by simp); replace y1 := hg.cell y1 (by simp); replace y2 := hg.cell y2 (by simp); replace k0 := hg.cell k0 (by simp); replace k1 := hg.cell k1 (by simp); replace k2 := hg.cell k2 (by simp); replace k3 := hg.cell k3 (by simp); replace k4 := hg.cell k4 (by simp); replace k5 := hg.cell k5 (by simp); replace hW := grown_trans hW hg
                              clear hg
                              have hg := World.grownBy_alloc v12 (.cells #[.bool g13, .slice p13 n13 c13, .slice q13 m13 d13, .bool g14, .slice p14 n14 c14, .slice q14 m14 d14] 29) none
                              have hb := heap_alloc_new v12 (.cells #[.bool g13, .slice p13 n13 c13, .slice q13 m13 d13, .bool g14, .slice p14 n14 c14, .slice q14 m14 d14] 29)
                              obtain ⟨⟨s0, s1, s2, s3, s4, s5⟩, _⟩ := ivbox_facts hb
                              clear hb
                              replace hA := hA.keep hg; replace hB := hB.keep hg; replace hP := hP.keep hg; replace kL := kL.keep hg; replace kH := kH.keep hg; replace jL := jL.keep hg; replace jH := jH.keep hg; replace x0 := hg.cell x0 (by simp); replace x1 := hg.cell x1 (by simp); replace x2 := hg.cell x2 (by simp); replace x3 := hg.cell x3 (by simp); replace x4 := hg.cell x4 (by simp); replace x5 := hg.cell x5 (by simp); replace y0 := hg.cell y0 (by simp); replace y1 := hg.cell y1 (by simp); replace y2 := hg.cell y2 (by simp); replace k0 := hg.cell k0 (by simp); replace k1 := hg.cell k1 (by simp); replace k2 := hg.cell k2 (by simp); replace k3 := hg.cell k3 (by simp); replace k4 := hg.cell k4 (by simp); replace k5 := hg.cell k5 (by simp); replace hW := grown_trans hW hg
                              clear hg
                              go_wp2_with fail
                              generalize v12.alloc (.cells #[.bool g13, .slice p13 n13 c13, .slice q13 m13 d13, .bool g14, .slice p14 n14 c14, .slice q14 m14 d14] 29) = wd at *
                              generalize v12.heap.size = K12 at *
                              refine (has_t 9300 kL.q kH.q hP.q (by omega) (by omega) (by omega) (by omega) (by omega) (by omega) (by omega) E7.out).mono ?_
                              rintro e v13 ⟨rfl, hg⟩
                              replace hA := hA.keep hg; replace hB := hB.keep hg; replace hP := hP.keep hg; replace kL := kL.keep hg; replace kH := kH.keep hg; replace jL := jL.keep hg; replace jH := jH.keep hg; replace x0 := hg.cell x0 (by simp); replace x1 := hg.cell x1 (by simp); replace x2 := hg.cell x2 (by simp); replace x3 := hg.cell x3 (by simp); replace x4 := hg.cell x4 (by simp); replace x5 := hg.cell x5 (by simp); replace y0 := hg.cell y0 (by simp); replace y1 := hg.cell y1 (by simp); replace y2 := hg.cell y2 (by simp); replace k0 := hg.cell k0 (by simp); replace k1 := hg.cell k1 (by simp); replace k2 := hg.cell k2 (by simp); replace k3 := hg.cell k3 (by simp); replace k4 := hg.cell k4 (by simp); replace k5 := hg.cell k5 (by simp); replace s0 := hg.cell s0 (by simp); replace s1 := hg.cell s1 (by simp); replace s2 := hg.cell s2 (by simp); replace s3 := hg.cell s3 (by simp); replace s4 := hg.cell s4 (by simp); replace s5 := hg.cell s5 (by simp); replace hW := grown_trans hW hg
                              clear hg
                              go_wp2_with fail
                              refine (ratSign_v 8 hB.q (by omega) (by omega) (by omega)).mono ?_
                              rintro e v14 ⟨rfl, hg⟩
                              replace hA := hA.keep hg; replace hB := hB.keep hg; replace hP := hP.keep hg; replace kL := kL.keep hg; replace kH := kH.keep hg; replace jL := jL.keep hg; replace jH := jH.keep hg; replace x0 := hg.cell x0 (by simp); replace x1 := hg.cell x1 (by simp); replace x2 := hg.cell x2 (by simp); replace x3 := hg.cell x3 (by simp); replace x4 := hg.cell x4 (by simp); replace x5 := hg.cell x5 (by simp); replace y0 := hg.cell y0 (by simp); replace y1 := hg.cell y1 (by simp); replace y2 := hg.cell y2 (by simp); replace k0 := hg.cell k0 (by simp); replace k1 := hg.cell k1 (by simp); replace k2 := hg.cell k2 (by simp); replace k3 := hg.cell k3 (by simp); replace k4 := hg.cell k4 (by simp); replace k5 := hg.cell k5 (by simp); replace s0 := hg.cell s0 (by simp); replace s1 := hg.cell s1 (by simp); replace s2 := hg.cell s2 (by simp); replace s3 := hg.cell s3 (by simp); replace s4 := hg.cell s4 (by simp); replace s5 := hg.cell s5 (by simp); replace hW := grown_trans hW hg
                              clear hg
                              have hc0 : ¬ (cmpR B 0 < 0) := cmpR_nn (by have := HB0.out; grind)
                              have hc1 : 0 ≤ cmpR B 0 := by omega
                              go_upto_region 14 with fail
                              generalize hwc : v14 = w14 at *
                              clear hwc
                              have HPP := hid hp
                              clear hp
                              have hg := grown_drew w14 none
                              replace hA := hA.keep hg; replace hB := hB.keep hg; replace hP := hP.keep hg; replace kL := kL.keep hg; replace kH := kH.keep hg; replace jL := jL.keep hg; replace jH := jH.keep hg; replace x0 := hg.cell x0 (by simp); replace x1 := hg.cell x1 (by simp); replace x2 := hg.cell x2 (by simp); replace x3 := hg.cell x3 (by simp); replace x4 := hg.cell x4 (by simp); replace x5 := hg.cell x5 (by simp); replace y0 := hg.cell y0 (by simp); replace y1 := hg.cell y1 (by simp); replace y2 := hg.cell y2 (by simp); replace k0 := hg.cell k0 (by simp); replace k1 := hg.cell k1 (by simp); replace k2 := hg.cell k2 (by simp); replace k3 := hg.cell k3 (by simp); replace k4 := hg.cell k4 (by simp); replace k5 := hg.cell k5 (by simp); replace s0 := hg.cell s0 (by simp); replace s1 := hg.cell s1 (by simp); replace s2 := hg.cell s2 (by simp); replace s3 := hg.cell s3 (by simp); replace s4 := hg.cell s4 (by simp); replace s5 := hg.cell s5 (by simp); replace hW := grown_trans hW hg
                              clear hg
                              refine wp_region_noPanic ?_
                              refine wp_region_held_drew (S := fun w' => w'.cell? ⟨u, 0, none⟩ = some (.bool g5) ∧ w'.cell? ⟨u, 1, none⟩ = some (.slice p5 n5 c5) ∧ w'.cell? ⟨u, 2, none⟩ = some (.slice q5 m5 d5)) (by kernel_rfl) ?_ (fun hHeld => ?_)
                              · ((try go_split_ands) <;> (repeat' apply And.intro) <;> (repeat (first | (with_reducible assumption) | (with_reducible refine (grown_setCell _ _ _).cell ?_ (by first | (simp; omega) | simp)) | (with_reducible refine (World.grownBy_alloc _ _ none).cell ?_ (by simp)) | (with_reducible refine (grown_drew _ none).cell ?_ (by simp)))))
                              (refine wpAnyH_take (i := 0) (oi := Oper.mk _ _ _ _ _ _) (v := ?_) rfl (by kernel_rfl) (by kernel_rfl) (by kernel_rfl) (fun _ _ _ h => h) (Or.inl ⟨by kernel_rfl, ?_⟩) (by assumption) ?_; rotate_left 1; focus (intro w hSw; (try dsimp only at hSw); go_simp; (try (with_reducible rfl)); done); (try simp only [Act.put, List.setIfInBounds_toArray, List.set_cons_zero, List.set_cons_succ]))
                              (refine wpAnyH_take (i := 1) (oi := Oper.mk _ _ _ _ _ _) (v := ?_) rfl (by kernel_rfl) (by kernel_rfl) (by kernel_rfl) (fun _ _ _ h => h) (Or.inl ⟨by kernel_rfl, ?_⟩) (by assumption) ?_; rotate_left 1; focus (intro w hSw; (try dsimp only at hSw); go_simp; (try (with_reducible rfl)); done); (try simp only [Act.put, List.setIfInBounds_toArray, List.set_cons_zero, List.set_cons_succ]))
                              (refine wpAnyH_take (i := 2) (oi := Oper.mk _ _ _ _ _ _) (v := ?_) rfl (by kernel_rfl) (by kernel_rfl) (by kernel_rfl) (fun _ _ _ h => h) (Or.inl ⟨by kernel_rfl, ?_⟩) (by assumption) ?_; rotate_left 1; focus (intro w hSw; (try dsimp only at hSw); go_simp; (try (with_reducible rfl)); done); (try simp only [Act.put, List.setIfInBounds_toArray, List.set_cons_zero, List.set_cons_succ]))
                              (refine wpAnyH_take (i := 3) (oi := Oper.mk _ _ _ _ _ _) (v := ?_) rfl (by kernel_rfl) (by kernel_rfl) (by kernel_rfl) (fun _ _ _ h => h) (Or.inl ⟨by kernel_rfl, ?_⟩) (by assumption) ?_; rotate_left 1; focus (intro w hSw; (try dsimp only at hSw); go_simp; (try (with_reducible rfl)); done); (try simp only [Act.put, List.setIfInBounds_toArray, List.set_cons_zero, List.set_cons_succ]))
                              refine wpAnyH_ready (rs := [4]) (by kernel_rfl) (by simp) ?_
                              refine AllReadyH.cons (o := Oper.mk _ _ _ _ _ _) rfl (fun K hK => ?_) AllReadyH.nil
                              (try rw [if_pos (by kernel_rfl)])
                              (first | (first | (go_at_call 24; (with_reducible refine (ratSign_v 2300 hP.q (by omega) (by omega) (by omega)).mono ?_); rintro e w50 ⟨rfl, hg⟩; rw [cmpR_lt HPP.out]; replace hA := hA.keep hg; replace hB := hB.keep hg; replace hP := hP.keep hg; replace kL := kL.keep hg; replace kH := kH.keep hg; replace jL := jL.keep hg; replace jH := jH.keep hg; replace x0 := hg.cell x0 (by simp); replace x1 := hg.cell x1 (by simp); replace x2 := hg.cell x2 (by simp); replace x3 := hg.cell x3 (by simp); replace x4 := hg.cell x4 (by simp); replace x5 := hg.cell x5 (by simp); replace y0 := hg.cell y0 (by simp); replace y1 := hg.cell y1 (by simp); replace y2 := hg.cell y2 (by simp); replace k0 := hg.cell k0 (by simp); replace k1 := hg.cell k1 (by simp); replace k2 := hg.cell k2 (by simp); replace k3 := hg.cell k3 (by simp); replace k4 := hg.cell k4 (by simp); replace k5 := hg.cell k5 (by simp); replace s0 := hg.cell s0 (by simp); replace s1 := hg.cell s1 (by simp); replace s2 := hg.cell s2 (by simp); replace s3 := hg.cell s3 (by simp); replace s4 := hg.cell s4 (by simp); replace s5 := hg.cell s5 (by simp); replace hW := grown_trans hW hg; clear hg)) | (go_simp; (first | (go_at_call 24; (with_reducible refine (ratSign_v 2300 hP.q (by omega) (by omega) (by omega)).mono ?_); rintro e w50 ⟨rfl, hg⟩; rw [cmpR_lt HPP.out]; replace hA := hA.keep hg; replace hB := hB.keep hg; replace hP := hP.keep hg; replace kL := kL.keep hg; replace kH := kH.keep hg; replace jL := jL.keep hg; replace jH := jH.keep hg; replace x0 := hg.cell x0 (by simp); replace x1 := hg.cell x1 (by simp); replace x2 := hg.cell x2 (by simp); replace x3 := hg.cell x3 (by simp); replace x4 := hg.cell x4 (by simp); replace x5 := hg.cell x5 (by simp); replace y0 := hg.cell y0 (by simp); replace y1 := hg.cell y1 (by simp); replace y2 := hg.cell y2 (by simp); replace k0 := hg.cell k0 (by simp); replace k1 := hg.cell k1 (by simp); replace k2 := hg.cell k2 (by simp); replace k3 := hg.cell k3 (by simp); replace k4 := hg.cell k4 (by simp); replace k5 := hg.cell k5 (by simp); replace s0 := hg.cell s0 (by simp); replace s1 := hg.cell s1 (by simp); replace s2 := hg.cell s2 (by simp); replace s3 := hg.cell s3 (by simp); replace s4 := hg.cell s4 (by simp); replace s5 := hg.cell s5 (by simp); replace hW := grown_trans hW hg; clear hg))))
                              refine hK.out _ _ ?_ (fun hNew => ?_)
                              · (try dsimp only)
                                ((try go_split_ands) <;> (repeat' apply And.intro) <;> (repeat (first | (with_reducible assumption) | (with_reducible refine (grown_setCell _ _ _).cell ?_ (by first | (simp; omega) | simp)) | (with_reducible refine (World.grownBy_alloc _ _ none).cell ?_ (by simp)) | (with_reducible refine (grown_drew _ none).cell ?_ (by simp)))))
                              clear hK K hHeld
                              have hHeld := hNew
                              clear hNew
                              (try simp only [Act.put, List.setIfInBounds_toArray, List.set_cons_zero, List.set_cons_succ])
                              (refine wpAnyH_take (i := 5) (oi := Oper.mk _ _ _ _ _ _) (v := ?_) rfl (by kernel_rfl) (by kernel_rfl) (by kernel_rfl) (fun _ _ _ h => h) (Or.inl ⟨by kernel_rfl, ?_⟩) (by assumption) ?_; rotate_left 1; focus (intro w hSw; (try dsimp only at hSw); go_simp; (try (with_reducible rfl)); done); (try simp only [Act.put, List.setIfInBounds_toArray, List.set_cons_zero, List.set_cons_succ]))
                              (refine wpAnyH_take (i := 6) (oi := Oper.mk _ _ _ _ _ _) (v := ?_) rfl (by kernel_rfl) (by kernel_rfl) (by kernel_rfl) (fun _ _ _ h => h) (Or.inl ⟨by kernel_rfl, ?_⟩) (by assumption) ?_; rotate_left 1; focus (intro w hSw; (try dsimp only at hSw); go_simp; (try (with_reducible rfl)); done); (try simp only [Act.put, List.setIfInBounds_toArray, List.set_cons_zero, List.set_cons_succ]))
                              (refine wpAnyH_take (i := 7) (oi := Oper.mk _ _ _ _ _ _) (v := ?_) rfl (by kernel_rfl) (by kernel_rfl) (by kernel_rfl) (fun _ _ _ h => h) (Or.inl ⟨by kernel_rfl, ?_⟩) (by assumption) ?_; rotate_left 1; focus (intro w hSw; (try dsimp only at hSw); go_simp; (try (with_reducible rfl)); done); (try simp only [Act.put, List.setIfInBounds_toArray, List.set_cons_zero, List.set_cons_succ]))
                              (refine wpAnyH_take (i := 8) (oi := Oper.mk _ _ _ _ _ _) (v := undef) rfl (by kernel_rfl) (by kernel_rfl) (by kernel_rfl) (fun _ _ _ h => h) (Or.inr ⟨by kernel_rfl, rfl⟩) (by assumption) ?_; (try simp only [Act.put, List.setIfInBounds_toArray, List.set_cons_zero, List.set_cons_succ]))
                              (refine wpAnyH_take (i := 10) (oi := Oper.mk _ _ _ _ _ _) (v := undef) rfl (by kernel_rfl) (by kernel_rfl) (by kernel_rfl) (fun _ _ _ h => h) (Or.inr ⟨by kernel_rfl, rfl⟩) (by assumption) ?_; (try simp only [Act.put, List.setIfInBounds_toArray, List.set_cons_zero, List.set_cons_succ]))
                              (refine wpAnyH_take (i := 9) (oi := Oper.mk _ _ _ _ _ _) (v := undef) rfl (by kernel_rfl) (by kernel_rfl) (by kernel_rfl) (fun _ _ _ h => h) (Or.inr ⟨by kernel_rfl, rfl⟩) (by assumption) ?_; (try simp only [Act.put, List.setIfInBounds_toArray, List.set_cons_zero, List.set_cons_succ]))
                              (refine wpAnyH_take (i := 11) (oi := Oper.mk _ _ _ _ _ _) (v := undef) rfl (by kernel_rfl) (by kernel_rfl) (by kernel_rfl) (fun _ _ _ h => h) (Or.inr ⟨by kernel_rfl, rfl⟩) (by assumption) ?_; (try simp only [Act.put, List.setIfInBounds_toArray, List.set_cons_zero, List.set_cons_succ]))
                              (refine wpAnyH_take (i := 12) (oi := Oper.mk _ _ _ _ _ _) (v := ?_) rfl (by kernel_rfl) (by kernel_rfl) (by kernel_rfl) (fun _ _ _ h => h) (Or.inl ⟨by kernel_rfl, ?_⟩) (by assumption) ?_; rotate_left 1; focus (intro w hSw; (try dsimp only at hSw); go_simp; (try (with_reducible rfl)); done); (try simp only [Act.put, List.setIfInBounds_toArray, List.set_cons_zero, List.set_cons_succ]))
                              (refine wpAnyH_take (i := 13) (oi := Oper.mk _ _ _ _ _ _) (v := ?_) rfl (by kernel_rfl) (by kernel_rfl) (by kernel_rfl) (fun _ _ _ h => h) (Or.inl ⟨by kernel_rfl, ?_⟩) (by assumption) ?_; rotate_left 1; focus (intro w hSw; (try dsimp only at hSw); go_simp; (try (with_reducible rfl)); done); (try simp only [Act.put, List.setIfInBounds_toArray, List.set_cons_zero, List.set_cons_succ]))
                              refine wpAnyH_ready (rs := [14]) (by kernel_rfl) (by simp) ?_
                              refine AllReadyH.cons (o := Oper.mk _ _ _ _ _ _) rfl (fun K hK => ?_) AllReadyH.nil
                              (try rw [if_pos (by kernel_rfl)])
                              (first | (first | (go_at_call 7; (with_reducible refine (alive4 (HT.out.keep hW)).mono ?_); rintro e w51 ⟨rfl, hg⟩; replace hA := hA.keep hg; replace hB := hB.keep hg; replace hP := hP.keep hg; replace kL := kL.keep hg; replace kH := kH.keep hg; replace jL := jL.keep hg; replace jH := jH.keep hg; replace x0 := hg.cell x0 (by simp); replace x1 := hg.cell x1 (by simp); replace x2 := hg.cell x2 (by simp); replace x3 := hg.cell x3 (by simp); replace x4 := hg.cell x4 (by simp); replace x5 := hg.cell x5 (by simp); replace y0 := hg.cell y0 (by simp); replace y1 := hg.cell y1 (by simp); replace y2 := hg.cell y2 (by simp); replace k0 := hg.cell k0 (by simp); replace k1 := hg.cell k1 (by simp); replace k2 := hg.cell k2 (by simp); replace k3 := hg.cell k3 (by simp); replace k4 := hg.cell k4 (by simp); replace k5 := hg.cell k5 (by simp); replace s0 := hg.cell s0 (by simp); replace s1 := hg.cell s1 (by simp); replace s2 := hg.cell s2 (by simp); replace s3 := hg.cell s3 (by simp); replace s4 := hg.cell s4 (by simp); replace s5 := hg.cell s5 (by simp); replace hW := grown_trans hW hg; clear hg)) | (go_simp; (first | (go_at_call 7; (with_reducible refine (alive4 (HT.out.keep hW)).mono ?_); rintro e w51 ⟨rfl, hg⟩; replace hA := hA.keep hg; replace hB := hB.keep hg; replace hP := hP.keep hg; replace kL := kL.keep hg; replace kH := kH.keep hg; replace jL := jL.keep hg; replace jH := jH.keep hg; replace x0 := hg.cell x0 (by simp); replace x1 := hg.cell x1 (by simp); replace x2 := hg.cell x2 (by simp); replace x3 := hg.cell x3 (by simp); replace x4 := hg.cell x4 (by simp); replace x5 := hg.cell x5 (by simp); replace y0 := hg.cell y0 (by simp); replace y1 := hg.cell y1 (by simp); replace y2 := hg.cell y2 (by simp); replace k0 := hg.cell k0 (by simp); replace k1 := hg.cell k1 (by simp); replace k2 := hg.cell k2 (by simp); replace k3 := hg.cell k3 (by simp); replace k4 := hg.cell k4 (by simp); replace k5 := hg.cell k5 (by simp); replace s0 := hg.cell s0 (by simp); replace s1 := hg.cell s1 (by simp); replace s2 := hg.cell s2 (by simp); replace s3 := hg.cell s3 (by simp); replace s4 := hg.cell s4 (by simp); replace s5 := hg.cell s5 (by simp); replace hW := grown_trans hW hg; clear hg))))
                              refine hK.out _ _ ?_ (fun hNew => ?_)
                              · (try dsimp only)
                                ((try go_split_ands) <;> (repeat' apply And.intro) <;> (repeat (first | (with_reducible assumption) | (with_reducible refine (grown_setCell _ _ _).cell ?_ (by first | (simp; omega) | simp)) | (with_reducible refine (World.grownBy_alloc _ _ none).cell ?_ (by simp)) | (with_reducible refine (grown_drew _ none).cell ?_ (by simp)))))
                              clear hK K hHeld
                              have hHeld := hNew
                              clear hNew
                              (try simp only [Act.put, List.setIfInBounds_toArray, List.set_cons_zero, List.set_cons_succ])
                              (refine wpAnyH_take (i := 15) (oi := Oper.mk _ _ _ _ _ _) (v := ?_) rfl (by kernel_rfl) (by kernel_rfl) (by kernel_rfl) (fun _ _ _ h => h) (Or.inl ⟨by kernel_rfl, ?_⟩) (by assumption) ?_; rotate_left 1; focus (intro w hSw; (try dsimp only at hSw); go_simp; (try (with_reducible rfl)); done); (try simp only [Act.put, List.setIfInBounds_toArray, List.set_cons_zero, List.set_cons_succ]))
                              (refine wpAnyH_take (i := 16) (oi := Oper.mk _ _ _ _ _ _) (v := ?_) rfl (by kernel_rfl) (by kernel_rfl) (by kernel_rfl) (fun _ _ _ h => h) (Or.inl ⟨by kernel_rfl, ?_⟩) (by assumption) ?_; rotate_left 1; focus (intro w hSw; (try dsimp only at hSw); go_simp; (try (with_reducible rfl)); done); (try simp only [Act.put, List.setIfInBounds_toArray, List.set_cons_zero, List.set_cons_succ]))
                              refine wpAnyH_done (by kernel_rfl) ?_ _
                              refine NoPanic.normal ?_
                              go_wp2_with fail
                              go_ret
                              exact ⟨rfl, hW⟩
                            · by_cases hp2 : P = 0
                              · refine (ivSqrt_v 8 (HT.out.keep hW) hA hB b (by omega) HB0.out (by omega) (by omega) (by omega) (by omega) (by omega)).mono ?_
                                rintro e v12 ⟨R, S1, T1, i1, i2, i3, g13, g14, p13, q13, p14, q14, n13, c13, m13, d13, n14, c14, m14, d14, rfl, jL, jH, ⟨hn13, hm13⟩, ⟨hn14, hm14⟩, hg⟩
                                replace i1 := hid i1; replace i2 := hid i2; replace i3 := hid i3
                                replace hA := hA.keep hg; replace hB := hB.keep hg; replace hP := hP.keep hg; replace kL := kL.keep hg; replace kH := kH.keep hg; replace x0 := hg.cell x0 (by simp); replace x1 := hg.cell x1 (by simp); replace x2 := hg.cell x2 (by simp); replace x3 := hg.cell x3 (by simp); replace x4 := hg.cell x4 (by simp); replace x5 := hg.cell x5 (by simp); replace y0 := hg.cell y0 (by simp); replace y1 := hg.cell y1 (by simp); replace y2 := hg.cell y2 (by simp); replace k0 := hg.cell k0 (by simp); replace k1 := hg.cell k1 (by simp); replace k2 := hg.cell k2 (by simp); replace k3 := hg.cell k3 (by simp); replace k4 := hg.cell k4 (by simp); replace k5 := hg.cell k5 (by simp); replace hW := grown_trans hW hg
                                clear hg
                                have hg := World.grownBy_alloc v12 (.cells #[.bool g13, .slice p13 n13 c13, .slice q13 m13 d13, .bool g14, .slice p14 n14 c14, .slice q14 m14 d14] 29) none
                                have hb := heap_alloc_new v12 (.cells #[.bool g13, .slice p13 n13 c13, .slice q13 m13 d13, .bool g14, .slice p14 n14 c14, .slice q14 m14 d14] 29)
                                obtain ⟨⟨s0, s1, s2, s3, s4, s5⟩, _⟩ := ivbox_facts hb
                                clear hb
                                replace hA := hA.keep hg; replace hB := hB.keep hg; replace hP := hP.keep hg; replace kL := kL.keep hg; replace kH := kH.keep hg; replace jL := jL.keep hg; replace jH := jH.keep hg; replace x0 := hg.cell x0 (by simp); replace x1 := hg.cell x1 (by simp); replace x2 := hg.cell x2 (by simp); replace x3 := hg.cell x3 (by simp); replace x4 := hg.cell x4 (by simp); replace x5 := hg.cell x5 (by simp); replace y0 := hg.cell y0 (by simp); replace y1 := hg.cell y1 (by simp); replace y2 := hg.cell y2 (by simp); replace k0 := hg.cell k0 (by simp); replace k1 := hg.cell k1 (by simp); replace k2 := hg.cell k2 (by simp); replace k3 := hg.cell k3 (by simp); replace k4 := hg.cell k4 (by simp); replace k5 := hg.cell k5 (by simp); replace hW := grown_trans hW hg
                                clear hg
                                go_wp2_with fail
                                generalize v12.alloc (.cells #[.bool g13, .slice p13 n13 c13, .slice q13 m13 d13, .bool g14, .slice p14 n14 c14, .slice q14 m14 d14] 29) = wd at *
                                generalize v12.heap.size = K12 at *
                                refine (has_t 9300 kL.q kH.q hP.q (by omega) (by omega) (by omega) (by omega) (by omega) (by omega) (by omega) E7.out).mono ?_
                                rintro e v13 ⟨rfl, hg⟩
                                replace hA := hA.keep hg; replace hB := hB.keep hg; replace hP := hP.keep hg; replace kL := kL.keep hg; replace kH := kH.keep hg; replace jL := jL.keep hg; replace jH := jH.keep hg; replace x0 := hg.cell x0 (by simp); replace x1 := hg.cell x1 (by simp); replace x2 := hg.cell x2 (by simp); replace x3 := hg.cell x3 (by simp); replace x4 := hg.cell x4 (by simp); replace x5 := hg.cell x5 (by simp); replace y0 := hg.cell y0 (by simp); replace y1 := hg.cell y1 (by simp); replace y2 := hg.cell y2 (by simp); replace k0 := hg.cell k0 (by simp); replace k1 := hg.cell k1 (by simp); replace k2 := hg.cell k2 (by simp); replace k3 := hg.cell k3 (by simp); replace k4 := hg.cell k4 (by simp); replace k5 := hg.cell k5 (by simp); replace s0 := hg.cell s0 (by simp); replace s1 := hg.cell s1 (by simp); replace s2 := hg.cell s2 (by simp); replace s3 := hg.cell s3 (by simp); replace s4 := hg.cell s4 (by simp); replace s5 := hg.cell s5 (by simp); replace hW := grown_trans hW hg
                                clear hg
                                go_wp2_with fail
                                refine (ratSign_v 8 hB.q (by omega) (by omega) (by omega)).mono ?_
                                rintro e v14 ⟨rfl, hg⟩
                                replace hA := hA.keep hg; replace hB := hB.keep hg; replace hP := hP.keep hg; replace kL := kL.keep hg; replace kH := kH.keep hg; replace jL := jL.keep hg; replace jH := jH.keep hg; replace x0 := hg.cell x0 (by simp); replace x1 := hg.cell x1 (by simp); replace x2 := hg.cell x2 (by simp); replace x3 := hg.cell x3 (by simp); replace x4 := hg.cell x4 (by simp); replace x5 := hg.cell x5 (by simp); replace y0 := hg.cell y0 (by simp); replace y1 := hg.cell y1 (by simp); replace y2 := hg.cell y2 (by simp); replace k0 := hg.cell k0 (by simp); replace k1 := hg.cell k1 (by simp); replace k2 := hg.cell k2 (by simp); replace k3 := hg.cell k3 (by simp); replace k4 := hg.cell k4 (by simp); replace k5 := hg.cell k5 (by simp); replace s0 := hg.cell s0 (by simp); replace s1 := hg.cell s1 (by simp); replace s2 := hg.cell s2 (by simp); replace s3 := hg.cell s3 (by simp); replace s4 := hg.cell s4 (by simp); replace s5 := hg.cell s5 (by simp); replace hW := grown_trans hW hg
                                clear hg
                                have hc0 : ¬ (cmpR B 0 < 0) := cmpR_nn (by have := HB0.out; grind)
                                have hc1 : 0 ≤ cmpR B 0 := by omega
                                go_upto_region 14 with fail
                                generalize hwc : v14 = w14 at *
                                clear hwc
                                have HPP := hid hp
                                have HSG := hid (show cmpR P 0 = 0 from cmpR_zero.2 (by grind))
                                clear hp hp2
                                have hsi := sqrt_in EP1.out EP2.out (show 0 ≤ P by have := HPP.out; grind) i1.out.1 i2.out.1 i2.out.2 i3.out
                                have E8 := hid (inI_of hsi.1 hsi.2)
                                have HSO := hid (sqrt_ord EP1.out EP2.out (show 0 ≤ P by have := HPP.out; grind) i1.out.1 i2.out.1 i2.out.2 i3.out)
                                clear hsi i1 i2 i3
                                have hg := grown_drew w14 none
                                replace hA := hA.keep hg; replace hB := hB.keep hg; replace hP := hP.keep hg; replace kL := kL.keep hg; replace kH := kH.keep hg; replace jL := jL.keep hg; replace jH := jH.keep hg; replace x0 := hg.cell x0 (by simp); replace x1 := hg.cell x1 (by simp); replace x2 := hg.cell x2 (by simp); replace x3 := hg.cell x3 (by simp); replace x4 := hg.cell x4 (by simp); replace x5 := hg.cell x5 (by simp); replace y0 := hg.cell y0 (by simp); replace y1 := hg.cell y1 (by simp); replace y2 := hg.cell y2 (by simp); replace k0 := hg.cell k0 (by simp); replace k1 := hg.cell k1 (by simp); replace k2 := hg.cell k2 (by simp); replace k3 := hg.cell k3 (by simp); replace k4 := hg.cell k4 (by simp); replace k5 := hg.cell k5 (by simp); replace s0 := hg.cell s0 (by simp); replace s1 := hg.cell s1 (by simp); replace s2 := hg.cell s2 (by simp); replace s3 := hg.cell s3 (by simp); replace s4 := hg.cell s4 (by simp); replace s5 := hg.cell s5 (by simp); replace hW := grown_trans hW hg
                                clear hg
                                go_region_held3 (fun w' => w'.cell? ⟨u, 0, none⟩ = some (.bool g5) ∧ w'.cell? ⟨u, 1, none⟩ = some (.slice p5 n5 c5) ∧ w'.cell? ⟨u, 2, none⟩ = some (.slice q5 m5 d5) ∧ w'.cell? ⟨K12, 0, none⟩ = some (.bool g13) ∧ w'.cell? ⟨K12, 1, none⟩ = some (.slice p13 n13 c13) ∧ w'.cell? ⟨K12, 2, none⟩ = some (.slice q13 m13 d13) ∧ w'.cell? ⟨K12, 3, none⟩ = some (.bool g14) ∧ w'.cell? ⟨K12, 4, none⟩ = some (.slice p14 n14 c14) ∧ w'.cell? ⟨K12, 5, none⟩ = some (.slice q14 m14 d14)) ((try go_split_ands) <;> (repeat' apply And.intro) <;> (repeat (first | (with_reducible assumption) | (with_reducible refine (grown_setCell _ _ _).cell ?_ (by simp; omega)) | (with_reducible refine (World.grownBy_alloc _ _ none).cell ?_ (by simp)) | (with_reducible refine (grown_drew _ none).cell ?_ (by simp)))))
                                  (first
                                    | (go_at_call 24; (with_reducible refine (ratSign_v 2300 hP.q (by omega) (by omega) (by omega)).mono ?_); rintro e w41 ⟨rfl, hg⟩; rw [HSG.out]; replace hA := hA.keep hg; replace hB := hB.keep hg; replace hP := hP.keep hg; replace kL := kL.keep hg; replace kH := kH.keep hg; replace jL := jL.keep hg; replace jH := jH.keep hg; replace x0 := hg.cell x0 (by simp); replace x1 := hg.cell x1 (by simp); replace x2 := hg.cell x2 (by simp); replace x3 := hg.cell x3 (by simp); replace x4 := hg.cell x4 (by simp); replace x5 := hg.cell x5 (by simp); replace y0 := hg.cell y0 (by simp); replace y1 := hg.cell y1 (by simp); replace y2 := hg.cell y2 (by simp); replace k0 := hg.cell k0 (by simp); replace k1 := hg.cell k1 (by simp); replace k2 := hg.cell k2 (by simp); replace k3 := hg.cell k3 (by simp); replace k4 := hg.cell k4 (by simp); replace k5 := hg.cell k5 (by simp); replace s0 := hg.cell s0 (by simp); replace s1 := hg.cell s1 (by simp); replace s2 := hg.cell s2 (by simp); replace s3 := hg.cell s3 (by simp); replace s4 := hg.cell s4 (by simp); replace s5 := hg.cell s5 (by simp); replace hW := grown_trans hW hg; clear hg)
                                    | (go_at_call 21; (with_reducible refine (ivSquare_v 400 (HT.out.keep hW) jL jH HSO.out (by omega) (by omega) (by omega) (by omega) (by omega)).mono ?_); rintro e w42 ⟨g15, g16, p15, q15, p16, q16, n15, c15, m15, d15, n16, c16, m16, d16, rfl, lP, lQ, ⟨hn15, hm15⟩, ⟨hn16, hm16⟩, hg⟩; replace hA := hA.keep hg; replace hB := hB.keep hg; replace hP := hP.keep hg; replace kL := kL.keep hg; replace kH := kH.keep hg; replace jL := jL.keep hg; replace jH := jH.keep hg; replace x0 := hg.cell x0 (by simp); replace x1 := hg.cell x1 (by simp); replace x2 := hg.cell x2 (by simp); replace x3 := hg.cell x3 (by simp); replace x4 := hg.cell x4 (by simp); replace x5 := hg.cell x5 (by simp); replace y0 := hg.cell y0 (by simp); replace y1 := hg.cell y1 (by simp); replace y2 := hg.cell y2 (by simp); replace k0 := hg.cell k0 (by simp); replace k1 := hg.cell k1 (by simp); replace k2 := hg.cell k2 (by simp); replace k3 := hg.cell k3 (by simp); replace k4 := hg.cell k4 (by simp); replace k5 := hg.cell k5 (by simp); replace s0 := hg.cell s0 (by simp); replace s1 := hg.cell s1 (by simp); replace s2 := hg.cell s2 (by simp); replace s3 := hg.cell s3 (by simp); replace s4 := hg.cell s4 (by simp); replace s5 := hg.cell s5 (by simp); replace hW := grown_trans hW hg; clear hg)
                                    | (go_at_call 14; (with_reducible refine (has_t 9300 lP.q lQ.q hP.q (by omega) (by omega) (by omega) (by omega) (by omega) (by omega) (by omega) E8.out).mono ?_); rintro e w43 ⟨rfl, hg⟩; replace hA := hA.keep hg; replace hB := hB.keep hg; replace hP := hP.keep hg; replace kL := kL.keep hg; replace kH := kH.keep hg; replace jL := jL.keep hg; replace jH := jH.keep hg; replace lP := lP.keep hg; replace lQ := lQ.keep hg; replace x0 := hg.cell x0 (by simp); replace x1 := hg.cell x1 (by simp); replace x2 := hg.cell x2 (by simp); replace x3 := hg.cell x3 (by simp); replace x4 := hg.cell x4 (by simp); replace x5 := hg.cell x5 (by simp); replace y0 := hg.cell y0 (by simp); replace y1 := hg.cell y1 (by simp); replace y2 := hg.cell y2 (by simp); replace k0 := hg.cell k0 (by simp); replace k1 := hg.cell k1 (by simp); replace k2 := hg.cell k2 (by simp); replace k3 := hg.cell k3 (by simp); replace k4 := hg.cell k4 (by simp); replace k5 := hg.cell k5 (by simp); replace s0 := hg.cell s0 (by simp); replace s1 := hg.cell s1 (by simp); replace s2 := hg.cell s2 (by simp); replace s3 := hg.cell s3 (by simp); replace s4 := hg.cell s4 (by simp); replace s5 := hg.cell s5 (by simp); replace hW := grown_trans hW hg; clear hg)
                                    | (go_at_call 7; (with_reducible refine (alive4 (HT.out.keep hW)).mono ?_); rintro e w44 ⟨rfl, hg⟩; replace hA := hA.keep hg; replace hB := hB.keep hg; replace hP := hP.keep hg; replace kL := kL.keep hg; replace kH := kH.keep hg; replace jL := jL.keep hg; replace jH := jH.keep hg; replace lP := lP.keep hg; replace lQ := lQ.keep hg; replace x0 := hg.cell x0 (by simp); replace x1 := hg.cell x1 (by simp); replace x2 := hg.cell x2 (by simp); replace x3 := hg.cell x3 (by simp); replace x4 := hg.cell x4 (by simp); replace x5 := hg.cell x5 (by simp); replace y0 := hg.cell y0 (by simp); replace y1 := hg.cell y1 (by simp); replace y2 := hg.cell y2 (by simp); replace k0 := hg.cell k0 (by simp); replace k1 := hg.cell k1 (by simp); replace k2 := hg.cell k2 (by simp); replace k3 := hg.cell k3 (by simp); replace k4 := hg.cell k4 (by simp); replace k5 := hg.cell k5 (by simp); replace s0 := hg.cell s0 (by simp); replace s1 := hg.cell s1 (by simp); replace s2 := hg.cell s2 (by simp); replace s3 := hg.cell s3 (by simp); replace s4 := hg.cell s4 (by simp); replace s5 := hg.cell s5 (by simp); replace hW := grown_trans hW hg; clear hg))
                                go_wp2_with fail
                                go_ret
                                exact ⟨rfl, hW⟩
                              · refine (ivSqrt_v 8 (HT.out.keep hW) hA hB b (by omega) HB0.out (by omega) (by omega) (by omega) (by omega) (by omega)).mono ?_
                                rintro e v12 ⟨R, S1, T1, i1, i2, i3, g13, g14, p13, q13, p14, q14, n13, c13, m13, d13, n14, c14, m14, d14, rfl, jL, jH, ⟨hn13, hm13⟩, ⟨hn14, hm14⟩, hg⟩
                                replace i1 := hid i1; replace i2 := hid i2; replace i3 := hid i3
                                replace hA := hA.keep hg; replace hB := hB.keep hg; replace hP := hP.keep hg; replace kL := kL.keep hg; replace kH := kH.keep hg; replace x0 := hg.cell x0 (by simp); replace x1 := hg.cell x1 (by simp); replace x2 := hg.cell x2 (by simp); replace x3 := hg.cell x3 (by simp); replace x4 := hg.cell x4 (by simp); replace x5 := hg.cell x5 (by simp); replace y0 := hg.cell y0 (by simp); replace y1 := hg.cell y1 (by simp); replace y2 := hg.cell y2 (by simp); replace k0 := hg.cell k0 (by simp); replace k1 := hg.cell k1 (by simp); replace k2 := hg.cell k2 (by simp); replace k3 := hg.cell k3 (by simp); replace k4 := hg.cell k4 (by simp); replace k5 := hg.cell k5 (by simp); replace hW := grown_trans hW hg
                                clear hg
                                have hg := World.grownBy_alloc v12 (.cells #[.bool g13, .slice p13 n13 c13, .slice q13 m13 d13, .bool g14, .slice p14 n14 c14, .slice q14 m14 d14] 29) none
                                have hb := heap_alloc_new v12 (.cells #[.bool g13, .slice p13 n13 c13, .slice q13 m13 d13, .bool g14, .slice p14 n14 c14, .slice q14 m14 d14] 29)
                                obtain ⟨⟨s0, s1, s2, s3, s4, s5⟩, _⟩ := ivbox_facts hb
                                clear hb
                                replace hA := hA.keep hg; replace hB := hB.keep hg; replace hP := hP.keep hg; replace kL := kL.keep hg; replace kH := kH.keep hg; replace jL := jL.keep hg; replace jH := jH.keep hg; replace x0 := hg.cell x0 (by simp); replace x1 := hg.cell x1 (by simp); replace x2 := hg.cell x2 (by simp); replace x3 := hg.cell x3 (by simp); replace x4 := hg.cell x4 (by simp); replace x5 := hg.cell x5 (by simp); replace y0 := hg.cell y0 (by simp); replace y1 := hg.cell y1 (by simp); replace y2 := hg.cell y2 (by simp); replace k0 := hg.cell k0 (by simp); replace k1 := hg.cell k1 (by simp); replace k2 := hg.cell k2 (by simp); replace k3 := hg.cell k3 (by simp); replace k4 := hg.cell k4 (by simp); replace k5 := hg.cell k5 (by simp); replace hW := grown_trans hW hg
                                clear hg
                                go_wp2_with fail
                                generalize v12.alloc (.cells #[.bool g13, .slice p13 n13 c13, .slice q13 m13 d13, .bool g14, .slice p14 n14 c14, .slice q14 m14 d14] 29) = wd at *
                                generalize v12.heap.size = K12 at *
                                refine (has_t 9300 kL.q kH.q hP.q (by omega) (by omega) (by omega) (by omega) (by omega) (by omega) (by omega) E7.out).mono ?_
                                rintro e v13 ⟨rfl, hg⟩
                                replace hA := hA.keep hg; replace hB := hB.keep hg; replace hP := hP.keep hg; replace kL := kL.keep hg; replace kH := kH.keep hg; replace jL := jL.keep hg; replace jH := jH.keep hg; replace x0 := hg.cell x0 (by simp); replace x1 := hg.cell x1 (by simp); replace x2 := hg.cell x2 (by simp); replace x3 := hg.cell x3 (by simp); replace x4 := hg.cell x4 (by simp); replace x5 := hg.cell x5 (by simp); replace y0 := hg.cell y0 (by simp); replace y1 := hg.cell y1 (by simp); replace y2 := hg.cell y2 (by simp); replace k0 := hg.cell k0 (by simp); replace k1 := hg.cell k1 (by simp); replace k2 := hg.cell k2 (by simp); replace k3 := hg.cell k3 (by simp); replace k4 := hg.cell k4 (by simp); replace k5 := hg.cell k5 (by simp); replace s0 := hg.cell s0 (by simp); replace s1 := hg.cell s1 (by simp); replace s2 := hg.cell s2 (by simp); replace s3 := hg.cell s3 (by simp); replace s4 := hg.cell s4 (by simp); replace s5 := hg.cell s5 (by simp); replace hW := grown_trans hW hg
                                clear hg
                                go_wp2_with fail
                                refine (ratSign_v 8 hB.q (by omega) (by omega) (by omega)).mono ?_
                                rintro e v14 ⟨rfl, hg⟩
                                replace hA := hA.keep hg; replace hB := hB.keep hg; replace hP := hP.keep hg; replace kL := kL.keep hg; replace kH := kH.keep hg; replace jL := jL.keep hg; replace jH := jH.keep hg; replace x0 := hg.cell x0 (by simp); replace x1 := hg.cell x1 (by simp); replace x2 := hg.cell x2 (by simp); replace x3 := hg.cell x3 (by simp); replace x4 := hg.cell x4 (by simp); replace x5 := hg.cell x5 (by simp); replace y0 := hg.cell y0 (by simp); replace y1 := hg.cell y1 (by simp); replace y2 := hg.cell y2 (by simp); replace k0 := hg.cell k0 (by simp); replace k1 := hg.cell k1 (by simp); replace k2 := hg.cell k2 (by simp); replace k3 := hg.cell k3 (by simp); replace k4 := hg.cell k4 (by simp); replace k5 := hg.cell k5 (by simp); replace s0 := hg.cell s0 (by simp); replace s1 := hg.cell s1 (by simp); replace s2 := hg.cell s2 (by simp); replace s3 := hg.cell s3 (by simp); replace s4 := hg.cell s4 (by simp); replace s5 := hg.cell s5 (by simp); replace hW := grown_trans hW hg
                                clear hg
                                have hc0 : ¬ (cmpR B 0 < 0) := cmpR_nn (by have := HB0.out; grind)
                                have hc1 : 0 ≤ cmpR B 0 := by omega
                                go_upto_region 14 with fail
                                generalize hwc : v14 = w14 at *
                                clear hwc
                                have HPP := hid hp
                                have HSG := hid (show cmpR P 0 = 1 from cmpR_gt (by grind))
                                clear hp hp2
                                have hsi := sqrt_in EP1.out EP2.out (show 0 ≤ P by have := HPP.out; grind) i1.out.1 i2.out.1 i2.out.2 i3.out
                                have E8 := hid (inI_of hsi.1 hsi.2)
                                have HSO := hid (sqrt_ord EP1.out EP2.out (show 0 ≤ P by have := HPP.out; grind) i1.out.1 i2.out.1 i2.out.2 i3.out)
                                clear hsi i1 i2 i3
                                have hg := grown_drew w14 none
                                replace hA := hA.keep hg; replace hB := hB.keep hg; replace hP := hP.keep hg; replace kL := kL.keep hg; replace kH := kH.keep hg; replace jL := jL.keep hg; replace jH := jH.keep hg; replace x0 := hg.cell x0 (by simp); replace x1 := hg.cell x1 (by simp); replace x2 := hg.cell x2 (by simp); replace x3 := hg.cell x3 (by simp); replace x4 := hg.cell x4 (by simp); replace x5 := hg.cell x5 (by simp); replace y0 := hg.cell y0 (by simp); replace y1 := hg.cell y1 (by simp); replace y2 := hg.cell y2 (by simp); replace k0 := hg.cell k0 (by simp); replace k1 := hg.cell k1 (by simp); replace k2 := hg.cell k2 (by simp); replace k3 := hg.cell k3 (by simp); replace k4 := hg.cell k4 (by simp); replace k5 := hg.cell k5 (by simp); replace s0 := hg.cell s0 (by simp); replace s1 := hg.cell s1 (by simp); replace s2 := hg.cell s2 (by simp); replace s3 := hg.cell s3 (by simp); replace s4 := hg.cell s4 (by simp); replace s5 := hg.cell s5 (by simp); replace hW := grown_trans hW hg
                                clear hg
                                go_region_held3 (fun w' => w'.cell? ⟨u, 0, none⟩ = some (.bool g5) ∧ w'.cell? ⟨u, 1, none⟩ = some (.slice p5 n5 c5) ∧ w'.cell? ⟨u, 2, none⟩ = some (.slice q5 m5 d5) ∧ w'.cell? ⟨K12, 0, none⟩ = some (.bool g13) ∧ w'.cell? ⟨K12, 1, none⟩ = some (.slice p13 n13 c13) ∧ w'.cell? ⟨K12, 2, none⟩ = some (.slice q13 m13 d13) ∧ w'.cell? ⟨K12, 3, none⟩ = some (.bool g14) ∧ w'.cell? ⟨K12, 4, none⟩ = some (.slice p14 n14 c14) ∧ w'.cell? ⟨K12, 5, none⟩ = some (.slice q14 m14 d14)) ((try go_split_ands) <;> (repeat' apply And.intro) <;> (repeat (first | (with_reducible assumption) | (with_reducible refine (grown_setCell _ _ _).cell ?_ (by simp; omega)) | (with_reducible refine (World.grownBy_alloc _ _ none).cell ?_ (by simp)) | (with_reducible refine (grown_drew _ none).cell ?_ (by simp)))))
                                  (first
                                    | (go_at_call 24; (with_reducible refine (ratSign_v 2300 hP.q (by omega) (by omega) (by omega)).mono ?_); rintro e w41 ⟨rfl, hg⟩; rw [HSG.out]; replace hA := hA.keep hg; replace hB := hB.keep hg; replace hP := hP.keep hg; replace kL := kL.keep hg; replace kH := kH.keep hg; replace jL := jL.keep hg; replace jH := jH.keep hg; replace x0 := hg.cell x0 (by simp); replace x1 := hg.cell x1 (by simp); replace x2 := hg.cell x2 (by simp); replace x3 := hg.cell x3 (by simp); replace x4 := hg.cell x4 (by simp); replace x5 := hg.cell x5 (by simp); replace y0 := hg.cell y0 (by simp); replace y1 := hg.cell y1 (by simp); replace y2 := hg.cell y2 (by simp); replace k0 := hg.cell k0 (by simp); replace k1 := hg.cell k1 (by simp); replace k2 := hg.cell k2 (by simp); replace k3 := hg.cell k3 (by simp); replace k4 := hg.cell k4 (by simp); replace k5 := hg.cell k5 (by simp); replace s0 := hg.cell s0 (by simp); replace s1 := hg.cell s1 (by simp); replace s2 := hg.cell s2 (by simp); replace s3 := hg.cell s3 (by simp); replace s4 := hg.cell s4 (by simp); replace s5 := hg.cell s5 (by simp); replace hW := grown_trans hW hg; clear hg)
                                    | (go_at_call 21; (with_reducible refine (ivSquare_v 400 (HT.out.keep hW) jL jH HSO.out (by omega) (by omega) (by omega) (by omega) (by omega)).mono ?_); rintro e w42 ⟨g15, g16, p15, q15, p16, q16, n15, c15, m15, d15, n16, c16, m16, d16, rfl, lP, lQ, ⟨hn15, hm15⟩, ⟨hn16, hm16⟩, hg⟩; replace hA := hA.keep hg; replace hB := hB.keep hg; replace hP := hP.keep hg; replace kL := kL.keep hg; replace kH := kH.keep hg; replace jL := jL.keep hg; replace jH := jH.keep hg; replace x0 := hg.cell x0 (by simp); replace x1 := hg.cell x1 (by simp); replace x2 := hg.cell x2 (by simp); replace x3 := hg.cell x3 (by simp); replace x4 := hg.cell x4 (by simp); replace x5 := hg.cell x5 (by simp); replace y0 := hg.cell y0 (by simp); replace y1 := hg.cell y1 (by simp); replace y2 := hg.cell y2 (by simp); replace k0 := hg.cell k0 (by simp); replace k1 := hg.cell k1 (by simp); replace k2 := hg.cell k2 (by simp); replace k3 := hg.cell k3 (by simp); replace k4 := hg.cell k4 (by simp); replace k5 := hg.cell k5 (by simp); replace s0 := hg.cell s0 (by simp); replace s1 := hg.cell s1 (by simp); replace s2 := hg.cell s2 (by simp); replace s3 := hg.cell s3 (by simp); replace s4 := hg.cell s4 (by simp); replace s5 := hg.cell s5 (by simp); replace hW := grown_trans hW hg; clear hg)
                                    | (go_at_call 14; (with_reducible refine (has_t 9300 lP.q lQ.q hP.q (by omega) (by omega) (by omega) (by omega) (by omega) (by omega) (by omega) E8.out).mono ?_); rintro e w43 ⟨rfl, hg⟩; replace hA := hA.keep hg; replace hB := hB.keep hg; replace hP := hP.keep hg; replace kL := kL.keep hg; replace kH := kH.keep hg; replace jL := jL.keep hg; replace jH := jH.keep hg; replace lP := lP.keep hg; replace lQ := lQ.keep hg; replace x0 := hg.cell x0 (by simp); replace x1 := hg.cell x1 (by simp); replace x2 := hg.cell x2 (by simp); replace x3 := hg.cell x3 (by simp); replace x4 := hg.cell x4 (by simp); replace x5 := hg.cell x5 (by simp); replace y0 := hg.cell y0 (by simp); replace y1 := hg.cell y1 (by simp); replace y2 := hg.cell y2 (by simp); replace k0 := hg.cell k0 (by simp); replace k1 := hg.cell k1 (by simp); replace k2 := hg.cell k2 (by simp); replace k3 := hg.cell k3 (by simp); replace k4 := hg.cell k4 (by simp); replace k5 := hg.cell k5 (by simp); replace s0 := hg.cell s0 (by simp); replace s1 := hg.cell s1 (by simp); replace s2 := hg.cell s2 (by simp); replace s3 := hg.cell s3 (by simp); replace s4 := hg.cell s4 (by simp); replace s5 := hg.cell s5 (by simp); replace hW := grown_trans hW hg; clear hg)
                                    | (go_at_call 7; (with_reducible refine (alive4 (HT.out.keep hW)).mono ?_); rintro e w44 ⟨rfl, hg⟩; replace hA := hA.keep hg; replace hB := hB.keep hg; replace hP := hP.keep hg; replace kL := kL.keep hg; replace kH := kH.keep hg; replace jL := jL.keep hg; replace jH := jH.keep hg; replace lP := lP.keep hg; replace lQ := lQ.keep hg; replace x0 := hg.cell x0 (by simp); replace x1 := hg.cell x1 (by simp); replace x2 := hg.cell x2 (by simp); replace x3 := hg.cell x3 (by simp); replace x4 := hg.cell x4 (by simp); replace x5 := hg.cell x5 (by simp); replace y0 := hg.cell y0 (by simp); replace y1 := hg.cell y1 (by simp); replace y2 := hg.cell y2 (by simp); replace k0 := hg.cell k0 (by simp); replace k1 := hg.cell k1 (by simp); replace k2 := hg.cell k2 (by simp); replace k3 := hg.cell k3 (by simp); replace k4 := hg.cell k4 (by simp); replace k5 := hg.cell k5 (by simp); replace s0 := hg.cell s0 (by simp); replace s1 := hg.cell s1 (by simp); replace s2 := hg.cell s2 (by simp); replace s3 := hg.cell s3 (by simp); replace s4 := hg.cell s4 (by simp); replace s5 := hg.cell s5 (by simp); replace hW := grown_trans hW hg; clear hg))
                                go_wp2_with fail
                                go_ret
                                exact ⟨rfl, hW⟩
  · rw [decide_eq_false hok] at HS
    replace HS := hid HS
    go_wp2_with fail
    refine HS.out.mono ?_
    rintro e w1 ⟨rfl, hg⟩
    replace x0 := hg.cell x0 (by simp); replace x1 := hg.cell x1 (by simp); replace x2 := hg.cell x2 (by simp); replace x3 := hg.cell x3 (by simp); replace x4 := hg.cell x4 (by simp); replace x5 := hg.cell x5 (by simp); replace x6 := hg.cell x6 (by simp); replace x7 := hg.cell x7 (by simp); replace x8 := hg.cell x8 (by simp); replace x9 := hg.cell x9 (by simp); replace x10 := hg.cell x10 (by simp); replace x11 := hg.cell x11 (by simp); replace x12 := hg.cell x12 (by simp); replace x13 := hg.cell x13 (by simp); replace hW := grown_trans hW hg
    clear hg HS
    go_wp2_with fail
    refine (alive4 (HT.out.keep hW)).mono ?_
    rintro e w2 ⟨rfl, hg⟩
    go_wp2_with fail
    go_ret
    exact ⟨rfl, grown_trans hW hg⟩

theorem intervalContains_door (os : Os) (args : Array Value) : laidMetH Tryz.prog [("math/bits.deBruijn64tab", Rows.laid_math_bits_deBruijn64tab)] ((World.doorLaid Tryz.prog 400 os).forCall (fun _ _ => 0) ⟨#[], args, []⟩).memory :=
  laidMetH_of_parts3 (fuel := 8) (laidMet_of_run' 8 (by kernel_rfl) (by kernel_rfl)) (by kernel_rfl) (by kernel_rfl)

set_option maxRecDepth 100000 in
theorem intervalContains_lifted (os : Os) (started : os.Started) (H : Type) (enc : TypeId × Value → H) :
    ReturnsInHanded {} Tryz.checked os 4 .any (fun w args => (Rows.intervalContainsSpec.pre enc Tryz.prog Tryz.f4 [] false w args ∧ laidMetH Tryz.prog [("math/bits.deBruijn64tab", Rows.laid_math_bits_deBruijn64tab)] w) ∧ sizedMet enc Tryz.prog Tryz.f4 (OpenSpec.ofChange Rows.intervalContainsSpec) false w args)
      (Rows.intervalContainsSpec.post enc Tryz.prog Tryz.f4 false true false false) := by
  refine returnsInHanded_of_change_and (C := Tryz.checked) (X := fun w _ => laidMetH Tryz.prog [("math/bits.deBruijn64tab", Rows.laid_math_bits_deBruijn64tab)] w) (fun _ _ _ hh h => h.of_heap hh) own1 started (by kernel_rfl) Tryz.func4
    (ChangeSpec.witness_shaped (enc := enc) (C := Tryz.checked) (os := os) (X := fun w _ => laidMetH Tryz.prog [("math/bits.deBruijn64tab", Rows.laid_math_bits_deBruijn64tab)] w) false (World.doorLaid Tryz.prog 400 os) #[.agg #[.bool false, .slice none 0 0, .slice none 0 0, .bool false, .slice none 0 0, .slice none 0 0, .bool false, .slice none 0 0, .slice none 0 0, .bool false, .slice none 0 0, .slice none 0 0, .int .i64 0, .int .i64 0], .int .i64 0] 8 rfl (World.shaped_of_RefB (by kernel_rfl) (by kernel_rfl)) (by kernel_rfl) (by kernel_rfl) (by kernel_rfl) (intervalContains_door os _)) ?_
  intro W base args ds gs before hval0 hW _ _ hL _
  have hval : ∀ (j : Nat) t v, Tryz.f4.params[j]? = some t → args[j]? = some v → Value.okWide Tryz.prog W .any base t v := hval0
  have hW' := hW
  obtain ⟨p, q, hA0, hV, rfl, hfz, hnd⟩ := hW
  have hA : DataW.TrodAll enc Tryz.prog W 0 (fun _ => true) true Tryz.f4.params.toList args.toList ds p := hA0
  rw [Tryz.params4] at hA hval
  obtain ⟨v0, v1, d0, d1, p0, p1, rfl, rfl, rfl, h0, h1⟩ := trodAll_two hA
  obtain ⟨rfl, rfl⟩ := trodVars_none hV
  have hlt : ∀ x ∈ p0 ++ (p1), x.block < W.heap.size := fun x hx => hW'.lt x (by simpa using hx)
  obtain ⟨i0, j0, x0, y0, rfl, oi0, oj0, wx0, wy0⟩ := open_Sample (hval 0 38 v0 rfl rfl) h0
  obtain ⟨z1, rfl, rfl, rfl, wz1⟩ := open_int Tryz.underlying3 (hval 1 3 v1 rfl rfl) h1
  refine (intervalContains_walk i0.g1 i0.g2 j0.g1 j0.g2 i0.p1 i0.q1 i0.p2 i0.q2 j0.p1 j0.q1 j0.p2 j0.q2 i0.n1 i0.c1 i0.m1 i0.d1 i0.n2 i0.c2 i0.m2 i0.d2 j0.n1 j0.c1 j0.m1 j0.d1 j0.n2 j0.c2 j0.m2 j0.d2 _ _ _ _ x0 y0 z1 W (tb_of_laid hL) (hid fun h1 h2 => have ⟨r, _, k1, k2⟩ := right3_full (tb_of_laid hL) i0.g1 oi0.r1 oi0.x1 oi0.s1 oi0.y1 (by omega) (by omega); ⟨r, k1, k2⟩) (hid fun h1 h2 => have ⟨r, _, k1, k2⟩ := right3_full (tb_of_laid hL) i0.g2 oi0.r2 oi0.x2 oi0.s2 oi0.y2 (by omega) (by omega); ⟨r, k1, k2⟩) (hid fun h1 h2 => have ⟨r, _, k1, k2⟩ := right3_full (tb_of_laid hL) j0.g1 oj0.r1 oj0.x1 oj0.s1 oj0.y1 (by omega) (by omega); ⟨r, k1, k2⟩) (hid fun h1 h2 => have ⟨r, _, k1, k2⟩ := right3_full (tb_of_laid hL) j0.g2 oj0.r2 oj0.x2 oj0.s2 oj0.y2 (by omega) (by omega); ⟨r, k1, k2⟩)).mono fun e W' ⟨he, hg⟩ => ?_
  subst he
  have hB := grown_below hg
  exact ⟨_, rfl, _, _, _, [], _, [], hW', trodAll_mk1 (shut_bool Tryz.underlying4 true),
    trodAll_mk2 (Below.trod laidOut1 readSample rowSample h0 hB fun x hx => hlt x (by simp [hx])) (shut_int Tryz.underlying3 wz1), rfl, hB.frame _, fun h => by cases h⟩

theorem intervalContains_holds : Rows.IntervalContainsSaid :=
  OpenClaim.holds_of_wide 4 Tryz.f4 rfl rfl rfl rfl rfl rfl rfl ⟨rfl, rfl, rfl, rfl, rfl⟩ rfl rfl rfl rfl rfl (by kernel_rfl) Tryz.func4 (by kernel_rfl)
    (of_decide_eq_true (by kernel_rfl)) (by unfold Func.isWrapper; first | (rw [if_pos (by decide +kernel)]; kernel_rfl) | (rw [if_neg (by decide +kernel)]; exact ⟨rfl, rfl⟩))
    (fun os started H enc _ => intervalContains_lifted os started H enc)

theorem intervalContains_card : Rows.IntervalContainsCardSaid :=
  Claim7.holds_tied_plain_at .later [] [.data] true _ false
    intervalContains_holds (fun _ h => by cases h) (by kernel_rfl) (fun _ h => by cases h) intervalContains_row_tie rfl ⟨rfl, rfl⟩ (by kernel_rfl) rfl
    (fun f fn hf hfn => by
      obtain rfl : f = 4 := Option.some.inj ((show Tryz.prog.funcNamed "geoprover/geoproverlaw04.IntervalContains" = some 4 by kernel_rfl).symm.trans hf) |>.symm
      obtain rfl : fn = Tryz.f4 := (Option.some.inj (Tryz.func4.symm.trans hfn)).symm
      exact ⟨by kernel_rfl, fun j t ht => by
        rw [Tryz.params4] at ht
        have hm : t ∈ [38, 3] := by simpa using Array.mem_of_getElem? ht
        have hall : ([38, 3].all fun u => !Tryz.prog.wantsStandIn u) = true := by kernel_rfl
        exact (show Tryz.prog.wantsStandIn t = false by simpa using List.all_eq_true.1 hall t hm)⟩)
    (by kernel_rfl)

end Go.Proofs.YtcjoecmkkpmjmaaGreatDoor
