/-
  PlT PlU PlV PmD PmE PlW PlX PmF PlZ PmA, in one text.
-/
import Derived.Test.YtknmdmofmcfjhaaGreatDoorMrS
import Derived.Deep.RegionHeld3
import Derived.Test.YtknmdmofmcfjhaaGreatDoorMrQ
import Derived.Test.YtknmdmofmcfjhaaGreatDoorMrT
import Derived.Test.YtknmdmofmcfjhaaGreatDoorMrM
import Derived.Laws.MakeOwn

set_option linter.unusedVariables false
set_option linter.unusedSimpArgs false
namespace Go.Proofs.YtknmdmofmcfjhaaGreatDoor
open Go Go.RowKit _root_.Nm
end Go.Proofs.YtknmdmofmcfjhaaGreatDoor

set_option linter.unusedVariables false
set_option linter.unusedSimpArgs false
namespace Go.Proofs.YtknmdmofmcfjhaaGreatDoor
open Go Go.RowKit _root_.Nm
end Go.Proofs.YtknmdmofmcfjhaaGreatDoor

set_option linter.unusedVariables false
set_option linter.unusedSimpArgs false
namespace Go.Proofs.YtknmdmofmcfjhaaGreatDoor
open Go Go.RowKit _root_.Nm
end Go.Proofs.YtknmdmofmcfjhaaGreatDoor

set_option linter.unusedVariables false
set_option linter.unusedSimpArgs false
namespace Go.Proofs.YtknmdmofmcfjhaaGreatDoor
open Go Go.RowKit _root_.Nm
end Go.Proofs.YtknmdmofmcfjhaaGreatDoor

set_option linter.unusedVariables false
set_option linter.unusedSimpArgs false
namespace Go.Proofs.YtknmdmofmcfjhaaGreatDoor
open Go Go.RowKit _root_.Nm
end Go.Proofs.YtknmdmofmcfjhaaGreatDoor

set_option linter.unusedVariables false
set_option linter.unusedSimpArgs false
namespace Go.Proofs.YtknmdmofmcfjhaaGreatDoor
open Go Go.RowKit _root_.Nm
end Go.Proofs.YtknmdmofmcfjhaaGreatDoor

set_option linter.unusedVariables false
set_option linter.unusedSimpArgs false
namespace Go.Proofs.YtknmdmofmcfjhaaGreatDoor
open Go Go.RowKit _root_.Nm
theorem IsP.take {w : World} {p : Option Addr} {n c : Nat} {P : List Tm} (h : IsP w p n c P) {k : Nat} (hk : k ≤ n) : IsP w p k c (P.take k) := by
  have hl := h.len
  refine ⟨by rw [List.length_take]; omega, Nat.le_trans hk h.cap, h.max, fun i hi => ?_⟩
  rw [List.length_take] at hi
  have := h.tms i (by omega)
  rw [List.getElem_take]
  exact this
theorem IsP.drop {w : World} {b o n c : Nat} {P : List Tm} (h : IsP w (some ⟨b, o, none⟩) n c P) {k : Nat} (hk : k ≤ n) : IsP w (some ⟨b, o + k * 4, none⟩) (n - k) (c - k) (P.drop k) := by
  have hl := h.len
  have hc := h.cap
  have hm := h.max
  refine ⟨by rw [List.length_drop]; omega, by omega, by omega, fun i hi => ?_⟩
  rw [List.length_drop] at hi
  obtain ⟨b', o', cs, e, h2, h3⟩ := h.tms (k + i) (by omega)
  cases e
  rw [List.getElem_drop]
  refine ⟨b, o + k * 4, cs, rfl, fun j hj => ?_, h3⟩
  have := h2 j hj
  rw [show o + k * 4 + i * 4 + j = o + (k + i) * 4 + j by rw [Nat.add_mul]; omega]
  exact this
theorem IsP.drop2 {w : World} {b o n c : Nat} {P : List Tm} (h : IsP w (some ⟨b, o, none⟩) n c P) {k : Nat} (hk : k ≤ n) : IsP w (if c = k then some ⟨b, o, none⟩ else some ⟨b, o + k * 4, none⟩) (n - k) (c - k) (P.drop k) := by
  by_cases hc : c = k
  · rw [if_pos hc]
    have h1 := h.len
    have h2 := h.cap
    refine ⟨by rw [List.length_drop]; omega, by omega, by omega, fun i hi => by rw [List.length_drop] at hi; omega⟩
  · rw [if_neg hc]
    exact h.drop hk
theorem IsQ.bd {w : World} {g : Bool} {p q : Option Addr} {n c m d H : Nat} {v : Rat} (h : IsQ w g p n c q m d v) (h0 : 0 < H) (h1 : n ≤ H) (h2 : m ≤ H) : Bd H v := by
  obtain ⟨N, D, hN, hD, rfl⟩ := h
  rcases Nat.eq_zero_or_pos D with e | e
  · rw [e, Rat.mkRat_zero]
    exact ⟨Nat.pow_pos (by omega), Nat.one_lt_pow (by omega) (by omega)⟩
  · exact Bd.mk e (Nat.lt_of_lt_of_le hN.1.lt (Nat.pow_le_pow_right (by omega) h1)) (Nat.lt_of_lt_of_le hD.lt (Nat.pow_le_pow_right (by omega) h2))
theorem IsP.empty (w : World) (p : Option Addr) (c : Nat) (hc : c ≤ 9223372036854775807) : IsP w p 0 c [] := ⟨rfl, by omega, hc, fun i hi => absurd hi (Nat.not_lt_zero i)⟩
end Go.Proofs.YtknmdmofmcfjhaaGreatDoor

set_option linter.unusedVariables false
set_option linter.unusedSimpArgs false
namespace Go.Proofs.YtknmdmofmcfjhaaGreatDoor
open Go Go.RowKit _root_.Nm
end Go.Proofs.YtknmdmofmcfjhaaGreatDoor

set_option linter.unusedVariables false
set_option linter.unusedSimpArgs false
namespace Go.Proofs.YtknmdmofmcfjhaaGreatDoor
open Go Go.RowKit _root_.Nm
/-- the greatest value of f at a monomial, or d -/
def mxF (f : List Int → Int) (d : Int) (P : List Tm) : Int := P.foldl (fun a t => max a (f t.1)) d
theorem mxF_take (f : List Int → Int) (d : Int) {P : List Tm} {i : Nat} (hi : i < P.length) : mxF f d (P.take (i + 1)) = max (mxF f d (P.take i)) (f P[i].1) := by
  rw [← take_snoc P i hi]
  unfold mxF
  rw [List.foldl_append]
  rfl
set_option maxHeartbeats 8000000 in
set_option maxRecDepth 100000 in
theorem mainVar_v {w : World} {p : Option Addr} {n c : Nat} {P : List Tm} (hP : IsP w p n c P) (eP : ExP 1048576 P) :
    Calls Tryz.prog 95 #[.slice p n c] w fun e w' => e = .returned (.int .i64 (mxF (fun xs => (xs.length : Int) - 1) (-1) P)) ∧ w.grownBy w' none := by
  have hl := hP.len; have hc := hP.cap; have hmx := hP.max
  have HP := hid hP; have HE := hid eP; have HL := hid hl
  clear hP eP hl
  obtain ⟨f, hf⟩ : ∃ f : List Int → Int, f = fun xs => (xs.length : Int) - 1 := ⟨_, rfl⟩
  rw [← hf]
  have HF := hid hf
  clear hf
  go_enter Tryz.func95, Tryz.ntmps95
  go_wp2_with fail
  go_loopw [3, 8] (fun x y wr => ∃ (i : Nat), i ≤ n ∧ x = .int .i64 (mxF f (-1) (P.take i)) ∧ y = .int .i64 i ∧ Hid (w.grownBy wr none)) (fun _ y _ => n - (intOf y).toNat)
  case atStart => exact ⟨0, Nat.zero_le _, by first | rfl | simp [mxF], rfl, hid (grown_refl _ _)⟩
  case round =>
    obtain ⟨i, hi, rfl, rfl, HG⟩ := hrel
    by_cases hlt : i < n
    · have hil : i < P.length := by have := HL.out; omega
      obtain ⟨b, o, g1, p1, n1, c1, q1, m1, d1, a1, k1, e1, rfl, ⟨x0, x1, x2, x3⟩, hV, hX⟩ := ((HP.out.keep HG.out).tms i hil).out
      have HTK := hid (mxF_take f (-1) hil)
      have he := HE.out.at hil
      obtain ⟨t, ht⟩ : ∃ t, t = P[i] := ⟨_, rfl⟩
      rw [← ht] at HTK hX he
      obtain ⟨xs, v⟩ := t
      dsimp only at HTK hX he
      have HC := hid fun W (hg : wr.grownBy W none) => main_any a1 k1 e1 xs W (hX.keep hg) he.last
      obtain ⟨z, hz⟩ : ∃ z, z = f xs := ⟨_, rfl⟩
      rw [← hz] at HTK
      rw [HF.out] at hz
      dsimp only at hz
      rw [hX.len] at hz; rw [← hz] at HC
      obtain ⟨a, ha⟩ : ∃ a, a = mxF f (-1) (P.take i) := ⟨_, rfl⟩
      rw [← ha] at HTK ⊢
      clear hV hX he ht hz ha
      have gA := World.grownBy_alloc wr (.cells #[.bool g1, .slice p1 n1 c1, .slice q1 m1 d1, .slice a1 k1 e1] 33 (0, 0)) none
      have BA := hid (blk0 wr (.cells #[.bool g1, .slice p1 n1 c1, .slice q1 m1 d1, .slice a1 k1 e1] 33 (0, 0)))
      obtain ⟨i0, i1, i2, i3⟩ := box4p (blk0 wr (.cells #[.bool false, .slice none 0 0, .slice none 0 0, .slice none 0 0] 33 (0, 0)))
      have fa := fun o => frozen_of_row (wr.alloc (.cells #[.bool false, .slice none 0 0, .slice none 0 0, .slice none 0 0] 33 (0, 0))) wr.heap.size o _ _ (blk0 wr (.cells #[.bool false, .slice none 0 0, .slice none 0 0, .slice none 0 0] 33 (0, 0)))
      have f0 := fa 0; have f1 := fa 1; have f2 := fa 2; have f3 := fa 3
      clear fa
      go_upto_region 5 with fail
      clear i0 i1 i2 i3 f0 f1 f2 f3 x0 x1 x2 x3
      replace HG := hid (grown_trans HG.out gA)
      have HC2 := hid (HC.out _ gA)
      obtain ⟨b1, hb1⟩ : ∃ x, x = wr.heap.size := ⟨_, rfl⟩
      rw [← hb1] at BA ⊢
      clear gA hb1 HC
      generalize wr.alloc _ = w1 at *
      obtain ⟨k0, k1', k2', k3⟩ := box4p BA.out
      rcases Int.le_total a z with haz | haz
      · have hmz : max a z = z := by omega
        go_wp2_with (go_at_call 148; (with_reducible refine HC2.out.mono ?_); rintro e w2 ⟨rfl, rfl⟩)
        refine ⟨⟨i + 1, by omega, by rw [HTK.out, hmz], by go_num, HG⟩, by simp [intOf]; omega⟩
      · have hmz : max a z = a := by omega
        go_wp2_with (go_at_call 148; (with_reducible refine HC2.out.mono ?_); rintro e w2 ⟨rfl, rfl⟩)
        refine ⟨⟨i + 1, by omega, by rw [HTK.out, hmz], by go_num, HG⟩, by simp [intOf]; omega⟩
    · obtain rfl : i = n := by omega
      go_wp2_with fail
      go_ret
      exact ⟨by rw [List.take_of_length_le (by have := HL.out; omega)]; rfl, HG.out⟩
end Go.Proofs.YtknmdmofmcfjhaaGreatDoor

set_option linter.unusedVariables false
set_option linter.unusedSimpArgs false
namespace Go.Proofs.YtknmdmofmcfjhaaGreatDoor
open Go Go.RowKit _root_.Nm
theorem mxF_ge {f : List Int → Int} : ∀ {P : List Tm} {d : Int}, d ≤ mxF f d P ∧ ∀ t ∈ P, f t.1 ≤ mxF f d P
  | [], d => ⟨Int.le_refl _, fun t ht => by cases ht⟩
  | s :: P, d => by
    obtain ⟨h1, h2⟩ := mxF_ge (f := f) (P := P) (d := max d (f s.1))
    have e : mxF f d (s :: P) = mxF f (max d (f s.1)) P := rfl
    rw [e]
    refine ⟨by omega, fun t ht => ?_⟩
    rcases List.mem_cons.1 ht with rfl | ht
    · omega
    · exact h2 t ht
theorem mxF_le {f : List Int → Int} {B : Int} : ∀ {P : List Tm} {d : Int}, d ≤ B → (∀ t ∈ P, f t.1 ≤ B) → mxF f d P ≤ B
  | [], d, h, _ => h
  | s :: P, d, h, k => by
    have e : mxF f d (s :: P) = mxF f (max d (f s.1)) P := rfl
    rw [e]
    have := k s (by simp)
    exact mxF_le (by omega) fun t ht => k t (by simp [ht])
/-- one more than the greatest variable -/
theorem main_nat {P : List Tm} (eP : ExP 1048576 P) : ∃ N : Nat, (N : Int) = mxF (fun xs => (xs.length : Int) - 1) (-1) P + 1 ∧ N ≤ 64 ∧ ∀ t ∈ P, t.1.length ≤ N := by
  obtain ⟨h1, h2⟩ := mxF_ge (f := fun xs => (xs.length : Int) - 1) (P := P) (d := -1)
  have h3 := mxF_le (f := fun xs => (xs.length : Int) - 1) (B := 63) (P := P) (d := -1) (by omega) (fun t ht => by have := (eP t ht).len; show (t.1.length : Int) - 1 ≤ 63; omega)
  refine ⟨(mxF (fun xs => (xs.length : Int) - 1) (-1) P + 1).toNat, by omega, by omega, fun t ht => ?_⟩
  have := h2 t ht
  omega
end Go.Proofs.YtknmdmofmcfjhaaGreatDoor
