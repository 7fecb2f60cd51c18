/-
  PlZ PmA PmB PmC, in one text.
-/
import Derived.Test.YtceoegmflbgckaaGreatDoorMrS
import Derived.Test.YtceoegmflbgckaaGreatDoorMrM
import Derived.Laws.MakeOwn
import Derived.Deep.RegionHeld3

set_option linter.unusedVariables false
set_option linter.unusedSimpArgs false
namespace Go.Proofs.YtceoegmflbgckaaGreatDoor
open Go Go.RowKit _root_.Nm
/-- the greatest value of f at a monomial, or d -/
def mxF (f : List Int → Int) (d : Int) (P : List Tm) : Int := P.foldl (fun a t => max a (f t.1)) d
theorem mxF_take (f : List Int → Int) (d : Int) {P : List Tm} {i : Nat} (hi : i < P.length) : mxF f d (P.take (i + 1)) = max (mxF f d (P.take i)) (f P[i].1) := by
  rw [← take_snoc P i hi]
  unfold mxF
  rw [List.foldl_append]
  rfl
set_option maxHeartbeats 8000000 in
set_option maxRecDepth 100000 in
theorem degree6_v {w : World} {p : Option Addr} {n c : Nat} {P : List Tm} (hP : IsP w p n c P) (eP : ExP 1048576 P) :
    Calls Tryz.prog 39 #[.slice p n c] w fun e w' => e = .returned (.int .i64 (mxF (fun xs => degZ xs) (-1) P)) ∧ w.grownBy w' none := by
  have hl := hP.len; have hc := hP.cap; have hmx := hP.max
  have HP := hid hP; have HE := hid eP; have HL := hid hl
  clear hP eP hl
  obtain ⟨f, hf⟩ : ∃ f : List Int → Int, f = fun xs => degZ xs := ⟨_, rfl⟩
  rw [← hf]
  have HF := hid hf
  clear hf
  go_enter Tryz.func39, Tryz.ntmps39
  go_wp2_with fail
  go_loopw [3, 8] (fun x y wr => ∃ (i : Nat), i ≤ n ∧ x = .int .i64 (mxF f (-1) (P.take i)) ∧ y = .int .i64 i ∧ Hid (w.grownBy wr none)) (fun _ y _ => n - (intOf y).toNat)
  case atStart => exact ⟨0, Nat.zero_le _, by first | rfl | simp [mxF], rfl, hid (grown_refl _ _)⟩
  case round =>
    obtain ⟨i, hi, rfl, rfl, HG⟩ := hrel
    by_cases hlt : i < n
    · have hil : i < P.length := by have := HL.out; omega
      obtain ⟨b, o, g1, p1, n1, c1, q1, m1, d1, a1, k1, e1, rfl, ⟨x0, x1, x2, x3⟩, hV, hX⟩ := ((HP.out.keep HG.out).tms i hil).out
      have HTK := hid (mxF_take f (-1) hil)
      have he := HE.out.at hil
      obtain ⟨t, ht⟩ : ∃ t, t = P[i] := ⟨_, rfl⟩
      rw [← ht] at HTK hX he
      obtain ⟨xs, v⟩ := t
      dsimp only at HTK hX he
      have HC := hid fun W (hg : wr.grownBy W none) => degree_any a1 k1 e1 xs W (hX.keep hg) he ⟨by omega, by omega⟩
      obtain ⟨z, hz⟩ : ∃ z, z = f xs := ⟨_, rfl⟩
      rw [← hz] at HTK
      rw [HF.out] at hz
      dsimp only at hz
      rw [← hz] at HC
      obtain ⟨a, ha⟩ : ∃ a, a = mxF f (-1) (P.take i) := ⟨_, rfl⟩
      rw [← ha] at HTK ⊢
      clear hV hX he ht hz ha
      have gA := World.grownBy_alloc wr (.cells #[.bool g1, .slice p1 n1 c1, .slice q1 m1 d1, .slice a1 k1 e1] 33 (0, 0)) none
      have BA := hid (blk0 wr (.cells #[.bool g1, .slice p1 n1 c1, .slice q1 m1 d1, .slice a1 k1 e1] 33 (0, 0)))
      obtain ⟨i0, i1, i2, i3⟩ := box4p (blk0 wr (.cells #[.bool false, .slice none 0 0, .slice none 0 0, .slice none 0 0] 33 (0, 0)))
      have fa := fun o => frozen_of_row (wr.alloc (.cells #[.bool false, .slice none 0 0, .slice none 0 0, .slice none 0 0] 33 (0, 0))) wr.heap.size o _ _ (blk0 wr (.cells #[.bool false, .slice none 0 0, .slice none 0 0, .slice none 0 0] 33 (0, 0)))
      have f0 := fa 0; have f1 := fa 1; have f2 := fa 2; have f3 := fa 3
      clear fa
      go_upto_region 5 with fail
      clear i0 i1 i2 i3 f0 f1 f2 f3 x0 x1 x2 x3
      replace HG := hid (grown_trans HG.out gA)
      have HC2 := hid (HC.out _ gA)
      obtain ⟨b1, hb1⟩ : ∃ x, x = wr.heap.size := ⟨_, rfl⟩
      rw [← hb1] at BA ⊢
      clear gA hb1 HC
      generalize wr.alloc _ = w1 at *
      obtain ⟨k0, k1', k2', k3⟩ := box4p BA.out
      rcases Int.le_total a z with haz | haz
      · have hmz : max a z = z := by omega
        go_wp2_with (go_at_call 98; (with_reducible refine HC2.out.mono ?_); rintro e w2 ⟨rfl, rfl⟩)
        refine ⟨⟨i + 1, by omega, by rw [HTK.out, hmz], by go_num, HG⟩, by simp [intOf]; omega⟩
      · have hmz : max a z = a := by omega
        go_wp2_with (go_at_call 98; (with_reducible refine HC2.out.mono ?_); rintro e w2 ⟨rfl, rfl⟩)
        refine ⟨⟨i + 1, by omega, by rw [HTK.out, hmz], by go_num, HG⟩, by simp [intOf]; omega⟩
    · obtain rfl : i = n := by omega
      go_wp2_with fail
      go_ret
      exact ⟨by rw [List.take_of_length_le (by have := HL.out; omega)]; rfl, HG.out⟩
set_option maxHeartbeats 8000000 in
set_option maxRecDepth 100000 in
theorem mainVar_v {w : World} {p : Option Addr} {n c : Nat} {P : List Tm} (hP : IsP w p n c P) (eP : ExP 1048576 P) :
    Calls Tryz.prog 95 #[.slice p n c] w fun e w' => e = .returned (.int .i64 (mxF (fun xs => (xs.length : Int) - 1) (-1) P)) ∧ w.grownBy w' none := by
  have hl := hP.len; have hc := hP.cap; have hmx := hP.max
  have HP := hid hP; have HE := hid eP; have HL := hid hl
  clear hP eP hl
  obtain ⟨f, hf⟩ : ∃ f : List Int → Int, f = fun xs => (xs.length : Int) - 1 := ⟨_, rfl⟩
  rw [← hf]
  have HF := hid hf
  clear hf
  go_enter Tryz.func95, Tryz.ntmps95
  go_wp2_with fail
  go_loopw [3, 8] (fun x y wr => ∃ (i : Nat), i ≤ n ∧ x = .int .i64 (mxF f (-1) (P.take i)) ∧ y = .int .i64 i ∧ Hid (w.grownBy wr none)) (fun _ y _ => n - (intOf y).toNat)
  case atStart => exact ⟨0, Nat.zero_le _, by first | rfl | simp [mxF], rfl, hid (grown_refl _ _)⟩
  case round =>
    obtain ⟨i, hi, rfl, rfl, HG⟩ := hrel
    by_cases hlt : i < n
    · have hil : i < P.length := by have := HL.out; omega
      obtain ⟨b, o, g1, p1, n1, c1, q1, m1, d1, a1, k1, e1, rfl, ⟨x0, x1, x2, x3⟩, hV, hX⟩ := ((HP.out.keep HG.out).tms i hil).out
      have HTK := hid (mxF_take f (-1) hil)
      have he := HE.out.at hil
      obtain ⟨t, ht⟩ : ∃ t, t = P[i] := ⟨_, rfl⟩
      rw [← ht] at HTK hX he
      obtain ⟨xs, v⟩ := t
      dsimp only at HTK hX he
      have HC := hid fun W (hg : wr.grownBy W none) => main_any a1 k1 e1 xs W (hX.keep hg) he.last
      obtain ⟨z, hz⟩ : ∃ z, z = f xs := ⟨_, rfl⟩
      rw [← hz] at HTK
      rw [HF.out] at hz
      dsimp only at hz
      rw [hX.len] at hz; rw [← hz] at HC
      obtain ⟨a, ha⟩ : ∃ a, a = mxF f (-1) (P.take i) := ⟨_, rfl⟩
      rw [← ha] at HTK ⊢
      clear hV hX he ht hz ha
      have gA := World.grownBy_alloc wr (.cells #[.bool g1, .slice p1 n1 c1, .slice q1 m1 d1, .slice a1 k1 e1] 33 (0, 0)) none
      have BA := hid (blk0 wr (.cells #[.bool g1, .slice p1 n1 c1, .slice q1 m1 d1, .slice a1 k1 e1] 33 (0, 0)))
      obtain ⟨i0, i1, i2, i3⟩ := box4p (blk0 wr (.cells #[.bool false, .slice none 0 0, .slice none 0 0, .slice none 0 0] 33 (0, 0)))
      have fa := fun o => frozen_of_row (wr.alloc (.cells #[.bool false, .slice none 0 0, .slice none 0 0, .slice none 0 0] 33 (0, 0))) wr.heap.size o _ _ (blk0 wr (.cells #[.bool false, .slice none 0 0, .slice none 0 0, .slice none 0 0] 33 (0, 0)))
      have f0 := fa 0; have f1 := fa 1; have f2 := fa 2; have f3 := fa 3
      clear fa
      go_upto_region 5 with fail
      clear i0 i1 i2 i3 f0 f1 f2 f3 x0 x1 x2 x3
      replace HG := hid (grown_trans HG.out gA)
      have HC2 := hid (HC.out _ gA)
      obtain ⟨b1, hb1⟩ : ∃ x, x = wr.heap.size := ⟨_, rfl⟩
      rw [← hb1] at BA ⊢
      clear gA hb1 HC
      generalize wr.alloc _ = w1 at *
      obtain ⟨k0, k1', k2', k3⟩ := box4p BA.out
      rcases Int.le_total a z with haz | haz
      · have hmz : max a z = z := by omega
        go_wp2_with (go_at_call 148; (with_reducible refine HC2.out.mono ?_); rintro e w2 ⟨rfl, rfl⟩)
        refine ⟨⟨i + 1, by omega, by rw [HTK.out, hmz], by go_num, HG⟩, by simp [intOf]; omega⟩
      · have hmz : max a z = a := by omega
        go_wp2_with (go_at_call 148; (with_reducible refine HC2.out.mono ?_); rintro e w2 ⟨rfl, rfl⟩)
        refine ⟨⟨i + 1, by omega, by rw [HTK.out, hmz], by go_num, HG⟩, by simp [intOf]; omega⟩
    · obtain rfl : i = n := by omega
      go_wp2_with fail
      go_ret
      exact ⟨by rw [List.take_of_length_le (by have := HL.out; omega)]; rfl, HG.out⟩
set_option maxHeartbeats 8000000 in
set_option maxRecDepth 100000 in
theorem degreeIn_v {w : World} {p : Option Addr} {n c : Nat} {P : List Tm} (hP : IsP w p n c P) (eP : ExP 1048576 P) (v0 : Nat) (hv0 : v0 ≤ 1000) :
    Calls Tryz.prog 96 #[.slice p n c, .int .i64 (v0 : Int)] w fun e w' => e = .returned (.int .i64 (mxF (fun xs => ex xs v0) (0) P)) ∧ w.grownBy w' none := by
  have hl := hP.len; have hc := hP.cap; have hmx := hP.max
  have HP := hid hP; have HE := hid eP; have HL := hid hl
  clear hP eP hl
  obtain ⟨f, hf⟩ : ∃ f : List Int → Int, f = fun xs => ex xs v0 := ⟨_, rfl⟩
  rw [← hf]
  have HF := hid hf
  clear hf
  go_enter Tryz.func96, Tryz.ntmps96
  go_wp2_with fail
  go_loopw [5, 10] (fun x y wr => ∃ (i : Nat), i ≤ n ∧ x = .int .i64 (mxF f (0) (P.take i)) ∧ y = .int .i64 i ∧ Hid (w.grownBy wr none)) (fun _ y _ => n - (intOf y).toNat)
  case atStart => exact ⟨0, Nat.zero_le _, by first | rfl | simp [mxF], rfl, hid (grown_refl _ _)⟩
  case round =>
    obtain ⟨i, hi, rfl, rfl, HG⟩ := hrel
    by_cases hlt : i < n
    · have hil : i < P.length := by have := HL.out; omega
      obtain ⟨b, o, g1, p1, n1, c1, q1, m1, d1, a1, k1, e1, rfl, ⟨x0, x1, x2, x3⟩, hV, hX⟩ := ((HP.out.keep HG.out).tms i hil).out
      have HTK := hid (mxF_take f (0) hil)
      have he := HE.out.at hil
      obtain ⟨t, ht⟩ : ∃ t, t = P[i] := ⟨_, rfl⟩
      rw [← ht] at HTK hX he
      obtain ⟨xs, v⟩ := t
      dsimp only at HTK hX he
      have HC := hid fun W (hg : wr.grownBy W none) => exp_nat a1 k1 e1 xs W (hX.keep hg) v0
      obtain ⟨z, hz⟩ : ∃ z, z = f xs := ⟨_, rfl⟩
      rw [← hz] at HTK
      rw [HF.out] at hz
      dsimp only at hz
      rw [← hz] at HC
      obtain ⟨a, ha⟩ : ∃ a, a = mxF f (0) (P.take i) := ⟨_, rfl⟩
      rw [← ha] at HTK ⊢
      clear hV hX he ht hz ha
      have gA := World.grownBy_alloc wr (.cells #[.bool g1, .slice p1 n1 c1, .slice q1 m1 d1, .slice a1 k1 e1] 33 (0, 0)) none
      have BA := hid (blk0 wr (.cells #[.bool g1, .slice p1 n1 c1, .slice q1 m1 d1, .slice a1 k1 e1] 33 (0, 0)))
      obtain ⟨i0, i1, i2, i3⟩ := box4p (blk0 wr (.cells #[.bool false, .slice none 0 0, .slice none 0 0, .slice none 0 0] 33 (0, 0)))
      have fa := fun o => frozen_of_row (wr.alloc (.cells #[.bool false, .slice none 0 0, .slice none 0 0, .slice none 0 0] 33 (0, 0))) wr.heap.size o _ _ (blk0 wr (.cells #[.bool false, .slice none 0 0, .slice none 0 0, .slice none 0 0] 33 (0, 0)))
      have f0 := fa 0; have f1 := fa 1; have f2 := fa 2; have f3 := fa 3
      clear fa
      go_upto_region 5 with fail
      clear i0 i1 i2 i3 f0 f1 f2 f3 x0 x1 x2 x3
      replace HG := hid (grown_trans HG.out gA)
      have HC2 := hid (HC.out _ gA)
      obtain ⟨b1, hb1⟩ : ∃ x, x = wr.heap.size := ⟨_, rfl⟩
      rw [← hb1] at BA ⊢
      clear gA hb1 HC
      generalize wr.alloc _ = w1 at *
      obtain ⟨k0, k1', k2', k3⟩ := box4p BA.out
      rcases Int.le_total a z with haz | haz
      · have hmz : max a z = z := by omega
        go_wp2_with (go_at_call 131; (with_reducible refine HC2.out.mono ?_); rintro e w2 ⟨rfl, rfl⟩)
        refine ⟨⟨i + 1, by omega, by rw [HTK.out, hmz], by go_num, HG⟩, by simp [intOf]; omega⟩
      · have hmz : max a z = a := by omega
        go_wp2_with (go_at_call 131; (with_reducible refine HC2.out.mono ?_); rintro e w2 ⟨rfl, rfl⟩)
        refine ⟨⟨i + 1, by omega, by rw [HTK.out, hmz], by go_num, HG⟩, by simp [intOf]; omega⟩
    · obtain rfl : i = n := by omega
      go_wp2_with fail
      go_ret
      exact ⟨by rw [List.take_of_length_le (by have := HL.out; omega)]; rfl, HG.out⟩
set_option maxHeartbeats 8000000 in
set_option maxRecDepth 100000 in
theorem rDegree6_v {w : World} {p : Option Addr} {n c : Nat} {P : List Tm} (hP : IsP w p n c P) (eP : ExP 1048576 P) :
    Calls Tryz.prog 34 #[.slice p n c] w fun e w' => e = .returned (.int .i64 (mxF (fun xs => degZ xs) (-1) P)) ∧ w.grownBy w' none := by
  have hl := hP.len; have hc := hP.cap; have hmx := hP.max
  have HP := hid hP; have HE := hid eP; have HL := hid hl
  clear hP eP hl
  obtain ⟨f, hf⟩ : ∃ f : List Int → Int, f = fun xs => degZ xs := ⟨_, rfl⟩
  rw [← hf]
  have HF := hid hf
  clear hf
  go_enter Tryz.func34, Tryz.ntmps34
  go_wp2_with fail
  go_loopw [3, 4] (fun x y wr => ∃ (i : Nat), i ≤ n ∧ x = .int .i64 (mxF f (-1) (P.take i)) ∧ y = .int .i64 i ∧ Hid (w.grownBy wr none)) (fun _ y _ => n - (intOf y).toNat)
  case atStart => exact ⟨0, Nat.zero_le _, by first | rfl | simp [mxF], rfl, hid (grown_refl _ _)⟩
  case round =>
    obtain ⟨i, hi, rfl, rfl, HG⟩ := hrel
    by_cases hlt : i < n
    · have hil : i < P.length := by have := HL.out; omega
      obtain ⟨b, o, g1, p1, n1, c1, q1, m1, d1, a1, k1, e1, rfl, ⟨x0, x1, x2, x3⟩, hV, hX⟩ := ((HP.out.keep HG.out).tms i hil).out
      have HTK := hid (mxF_take f (-1) hil)
      have he := HE.out.at hil
      obtain ⟨t, ht⟩ : ∃ t, t = P[i] := ⟨_, rfl⟩
      rw [← ht] at HTK hX he
      obtain ⟨xs, v⟩ := t
      dsimp only at HTK hX he
      have HC := hid (rdegree_any a1 k1 e1 xs wr hX he ⟨by omega, by omega⟩)
      obtain ⟨z, hz⟩ : ∃ z, z = f xs := ⟨_, rfl⟩
      rw [← hz] at HTK
      rw [HF.out] at hz
      dsimp only at hz
      rw [← hz] at HC
      obtain ⟨a, ha⟩ : ∃ a, a = mxF f (-1) (P.take i) := ⟨_, rfl⟩
      rw [← ha] at HTK ⊢
      clear hV hX he ht hz ha
      rcases Int.le_total a z with haz | haz
      · have hmz : max a z = z := by omega
        go_wp2_with (go_at_call 90; (with_reducible refine HC.out.mono ?_); rintro e w2 ⟨rfl, rfl⟩)
        refine ⟨⟨i + 1, by omega, by rw [HTK.out, hmz], by go_num, HG⟩, by simp [intOf]; omega⟩
      · have hmz : max a z = a := by omega
        go_wp2_with (go_at_call 90; (with_reducible refine HC.out.mono ?_); rintro e w2 ⟨rfl, rfl⟩)
        refine ⟨⟨i + 1, by omega, by rw [HTK.out, hmz], by go_num, HG⟩, by simp [intOf]; omega⟩
    · obtain rfl : i = n := by omega
      go_wp2_with fail
      go_ret
      exact ⟨by rw [List.take_of_length_le (by have := HL.out; omega)]; rfl, HG.out⟩
end Go.Proofs.YtceoegmflbgckaaGreatDoor

set_option linter.unusedVariables false
set_option linter.unusedSimpArgs false
namespace Go.Proofs.YtceoegmflbgckaaGreatDoor
open Go Go.RowKit _root_.Nm
def intP (l : List Int) : List (List Value) := l.map fun z => [Value.int .i64 z]
theorem intP_add (l : List Int) (z : Int) : intP l ++ [[.int .i64 z]] = intP (l ++ [z]) := by simp [intP]
theorem infoIntP : (Tryz.prog.info? 3).map (fun i => (i.zero, i.size, i.bytes)) = some (some (.int .i64 0), 1, 8) := by kernel_rfl
theorem intZP : (Value.int .i64 0).cells.size = 1 := rfl
theorem one_posP : 0 < 1 := by decide
theorem one_srdP (w : World) (e : TypeId) (x : Value) (b : Nat) (hb : b = w.heap.size) : SRd (w.alloc (.cells #[x] e)) 1 (some ⟨b, 0, none⟩) 1 1 [[x]] := one_srd w e 1 [x] rfl b hb
theorem int_oneP (z : Int) : ∀ u ∈ [Value.int .i64 z], u.oneCell' = true := by
  intro u hu
  rw [List.mem_singleton.1 hu]
  rfl
theorem ZRd.ofOwnP {w : World} {base : Nat} {e : TypeId} {p : Option Addr} {n c : Nat} {l : List Int} (h : SOwn w base e 1 p n c (intP l)) : ZRd w .i64 p n c l where
  len := by have := SRd.len h.rd; simpa [intP] using this
  cap := SRd.cap h.rd
  max := SRd.max h.rd
  cel := fun j hj => by
    have hl : j < (intP l).length := by simpa [intP] using hj
    obtain ⟨b, o, hp, hc⟩ := SRd.at h.rd (by decide) (i := j) hl
    refine ⟨b, o, hp, ?_⟩
    have := hc 0 (by simp [intP])
    simpa [intP] using this
/-- the variables below v that occur -/
def vrL (P : List Tm) : Nat → List Int
  | 0 => []
  | v + 1 => if 0 < mxF (fun xs => ex xs v) 0 P then vrL P v ++ [(v : Int)] else vrL P v
theorem vrL_len (P : List Tm) : ∀ v, (vrL P v).length ≤ v
  | 0 => Nat.le_refl _
  | v + 1 => by
    have := vrL_len P v
    unfold vrL
    split
    · simp; omega
    · omega
theorem mxF_none {f : List Int → Int} {d : Int} {P : List Tm} (h : ∀ t ∈ P, f t.1 ≤ d) : mxF f d P = d := by
  unfold mxF
  induction P with
  | nil => rfl
  | cons t P ih =>
    have := h t (by simp)
    simp only [List.foldl_cons]
    rw [show max d (f t.1) = d by omega]
    exact ih fun s hs => h s (by simp [hs])
theorem mxF_ge {f : List Int → Int} : ∀ {P : List Tm} {d : Int}, d ≤ mxF f d P ∧ ∀ t ∈ P, f t.1 ≤ mxF f d P
  | [], d => ⟨Int.le_refl _, fun t ht => by cases ht⟩
  | s :: P, d => by
    obtain ⟨h1, h2⟩ := mxF_ge (f := f) (P := P) (d := max d (f s.1))
    have e : mxF f d (s :: P) = mxF f (max d (f s.1)) P := rfl
    rw [e]
    refine ⟨by omega, fun t ht => ?_⟩
    rcases List.mem_cons.1 ht with rfl | ht
    · omega
    · exact h2 t ht
theorem mxF_le {f : List Int → Int} {B : Int} : ∀ {P : List Tm} {d : Int}, d ≤ B → (∀ t ∈ P, f t.1 ≤ B) → mxF f d P ≤ B
  | [], d, h, _ => h
  | s :: P, d, h, k => by
    have e : mxF f d (s :: P) = mxF f (max d (f s.1)) P := rfl
    rw [e]
    have := k s (by simp)
    exact mxF_le (by omega) fun t ht => k t (by simp [ht])
/-- behind the greatest variable none occurs -/
theorem vrL_more (P : List Tm) {N : Nat} (h : ∀ t ∈ P, t.1.length ≤ N) : ∀ {M : Nat}, N ≤ M → vrL P M = vrL P N := by
  intro M hM
  induction M with
  | zero => rw [show N = 0 by omega]
  | succ M ih =>
    by_cases e : N = M + 1
    · rw [e]
    · have := mxF_none (f := fun xs => ex xs M) (d := 0) (P := P) (fun t ht => by
        show ex t.1 M ≤ 0
        rw [ex_ge (by have := h t ht; omega)]
        omega)
      show (if 0 < mxF (fun xs => ex xs M) 0 P then vrL P M ++ [(M : Int)] else vrL P M) = vrL P N
      rw [this, if_neg (by omega)]
      exact ih (by omega)
/-- one more than the greatest variable -/
theorem main_nat {P : List Tm} (eP : ExP 1048576 P) : ∃ N : Nat, (N : Int) = mxF (fun xs => (xs.length : Int) - 1) (-1) P + 1 ∧ N ≤ 64 ∧ ∀ t ∈ P, t.1.length ≤ N := by
  obtain ⟨h1, h2⟩ := mxF_ge (f := fun xs => (xs.length : Int) - 1) (P := P) (d := -1)
  have h3 := mxF_le (f := fun xs => (xs.length : Int) - 1) (B := 63) (P := P) (d := -1) (by omega) (fun t ht => by have := (eP t ht).len; show (t.1.length : Int) - 1 ≤ 63; omega)
  refine ⟨(mxF (fun xs => (xs.length : Int) - 1) (-1) P + 1).toNat, by omega, by omega, fun t ht => ?_⟩
  have := h2 t ht
  omega
set_option maxHeartbeats 8000000 in
set_option maxRecDepth 100000 in
theorem vars6_v {w : World} {p : Option Addr} {n c : Nat} {P : List Tm} (hP : IsP w p n c P) (eP : ExP 1048576 P) :
    Calls Tryz.prog 37 #[.slice p n c] w fun e w' => ∃ q m d, e = .returned (.slice q m d) ∧ ZRd w' .i64 q m d (vrL P 64) ∧ w.grownBy w' none := by
  obtain ⟨N, hN, hN64, hNl⟩ := main_nat eP
  have HMV := hid (mainVar_v hP eP)
  have HFIN := hid (vrL_more P hNl hN64)
  obtain ⟨mv, hmv⟩ : ∃ z, z = mxF (fun xs => (xs.length : Int) - 1) (-1) P := ⟨_, rfl⟩
  rw [← hmv] at HMV hN
  have hmn : mv + 1 = (N : Int) := by omega
  have HDI := hid fun W (hg : w.grownBy W none) (v0 : Nat) (hv : v0 ≤ 1000) => degreeIn_v (hP.keep hg) eP v0 hv
  clear hP eP hmv hN hNl
  go_enter Tryz.func37, Tryz.ntmps37
  go_wp2_with (go_at_call 95; (with_reducible refine HMV.out.mono ?_); rintro e w1 ⟨rfl, hg⟩; have HG := hid hg; clear hg)
  go_loopw [3, 8] (fun x y wr => ∃ (v m d : Nat) (q : Option Addr), v ≤ N ∧ x = .slice q m d ∧ y = .int .i64 v ∧ Hid (w.grownBy wr none) ∧ Hid (SOwn wr w.heap.size 3 1 q m d (intP (vrL P v)))) (fun _ y _ => N - (intOf y).toNat)
  case atStart => exact ⟨0, 0, 0, none, Nat.zero_le _, rfl, rfl, HG, hid (SOwn.nil _ _ _ _)⟩
  case round =>
    clear HG HMV
    obtain ⟨v, m, d, q, hv, rfl, rfl, HG, HO⟩ := hrel
    have hml : m ≤ 64 := by
      have h1 := SRd.len HO.out.rd
      have h2 := vrL_len P v
      simp only [intP, List.length_map] at h1
      omega
    have hsw := HG.out.size
    by_cases hlt : v < N
    · have HD := hid (HDI.out _ HG.out v (by omega))
      have HVL : Hid (vrL P (v + 1) = if 0 < mxF (fun xs => ex xs v) 0 P then vrL P v ++ [(v : Int)] else vrL P v) := hid rfl
      obtain ⟨z, hz⟩ : ∃ z, z = mxF (fun xs => ex xs v) 0 P := ⟨_, rfl⟩
      rw [← hz] at HD HVL
      obtain ⟨L, hL⟩ : ∃ L, L = vrL P v := ⟨_, rfl⟩
      rw [← hL] at HVL HO
      clear hz hL HDI HFIN
      by_cases hz0 : 0 < z
      · go_wp2_with (first
          | (go_at_call 96; (with_reducible refine HD.out.mono ?_); rintro e w2 ⟨rfl, hg⟩; replace HG := hid (grown_trans HG.out hg); replace HO := hid (SOwn.keep HO.out hg); have hsw2 := HG.out.size; clear hg)
          | ((with_reducible refine wls_append _ rfl (.tmp 15) (.tmp 17) 30 rfl 3 1 (.int .i64 0) 8 Tryz.underlying30 infoIntP intZP one_posP w.heap.size _ _ _ (intP L) rfl (SOwn.alloc HO.out _) _ 1 [.int .i64 (v : Int)] rfl (one_srdP _ _ _ _ (by simp)) (int_oneP _) (by omega) (by omega) w (grown_trans HG.out (World.grownBy_alloc _ _ _)) (by omega) (by simp; omega) ?_); intro p' c2 w4 ho2 hg4 hbx; clear hbx; have HO2 := hid ho2; have HG2 := hid hg4; clear ho2 hg4))
        refine ⟨⟨v + 1, m + 1, c2, p', by omega, rfl, by go_num, HG2, hid ?_⟩, by simp [intOf]; omega⟩
        rw [HVL.out, if_pos hz0, ← intP_add]
        exact HO2.out
      · go_wp2_with (go_at_call 96; (with_reducible refine HD.out.mono ?_); rintro e w2 ⟨rfl, hg⟩; replace HG := hid (grown_trans HG.out hg); replace HO := hid (SOwn.keep HO.out hg); clear hg)
        refine ⟨⟨v + 1, m, d, q, by omega, rfl, by go_num, HG, hid ?_⟩, by simp [intOf]; omega⟩
        rw [HVL.out, if_neg (by omega)]
        exact HO.out
    · obtain rfl : v = N := by omega
      go_wp2_with fail
      go_ret
      exact ⟨q, m, d, rfl, by first | (rw [HFIN.out]; exact ZRd.ofOwnP HO.out) | exact ZRd.ofOwnP HO.out, HG.out⟩
set_option maxHeartbeats 8000000 in
set_option maxRecDepth 100000 in
theorem rVars6_v {w : World} {p : Option Addr} {n c : Nat} {P : List Tm} (hP : IsP w p n c P) :
    Calls Tryz.prog 38 #[.slice p n c] w fun e w' => ∃ q m d, e = .returned (.slice q m d) ∧ ZRd w' .i64 q m d (vrL P 64) ∧ w.grownBy w' none := by
  have hl := hP.len; have hc := hP.cap; have hmx := hP.max
  have HP := hid hP; have HL := hid hl
  clear hP hl
  go_enter Tryz.func38, Tryz.ntmps38
  go_wp2_with fail
  go_loopw [3, 4] (fun x y wr => ∃ (v m d : Nat) (q : Option Addr), v ≤ 64 ∧ x = .slice q m d ∧ y = .int .i64 v ∧ Hid (w.grownBy wr none) ∧ Hid (SOwn wr w.heap.size 3 1 q m d (intP (vrL P v)))) (fun _ y _ => 64 - (intOf y).toNat)
  case atStart => exact ⟨0, 0, 0, none, Nat.zero_le _, rfl, rfl, hid (grown_refl _ _), hid (SOwn.nil _ _ _ _)⟩
  case round =>
    obtain ⟨v, m, d, q, hv, rfl, rfl, HG, HO⟩ := hrel
    have hml : m ≤ 64 := by
      have h1 := SRd.len HO.out.rd
      have h2 := vrL_len P v
      simp only [intP, List.length_map] at h1
      omega
    have hsw := HG.out.size
    by_cases hlt : v < 64
    · have HVL : Hid (vrL P (v + 1) = if 0 < mxF (fun xs => ex xs v) 0 P then vrL P v ++ [(v : Int)] else vrL P v) := hid rfl
      obtain ⟨L, hL⟩ : ∃ L, L = vrL P v := ⟨_, rfl⟩
      rw [← hL] at HVL HO
      obtain ⟨f, hf⟩ : ∃ f : List Int → Int, f = fun xs => ex xs v := ⟨_, rfl⟩
      rw [← hf] at HVL
      have HF := hid hf
      clear hL hf
      have hdl : decide ((v : Int) < 64) = true := decide_eq_true (by omega)
      have HLT := hid hlt
      go_upto_region 7 with fail
      (try rw [hdl])
      clear hdl hlt
      go_loopw [5, 6] (fun x y w2 => ∃ (i : Nat), i ≤ n ∧ x = .bool (decide (0 < mxF f 0 (P.take i))) ∧ y = .int .i64 i ∧ Hid (wr.grownBy w2 none)) (fun _ y _ => n - (intOf y).toNat)
      case atStart => exact ⟨0, Nat.zero_le _, by first | rfl | simp [mxF], rfl, hid (grown_refl _ _)⟩
      case round =>
        obtain ⟨i, hi, rfl, rfl, HH⟩ := hrel
        by_cases hin : i < n
        · have hil : i < P.length := by have := HL.out; omega
          obtain ⟨b, o, g1, p1, n1, c1, q1, m1, d1, a1, k1, e1, rfl, ⟨x0, x1, x2, x3⟩, hV, hX⟩ := ((HP.out.keep (grown_trans HG.out HH.out)).tms i hil).out
          have HTK := hid (mxF_take f 0 hil)
          obtain ⟨t, ht⟩ : ∃ t, t = P[i] := ⟨_, rfl⟩
          rw [← ht] at HTK hX
          obtain ⟨xs, u⟩ := t
          dsimp only at HTK hX
          have HC := hid (rexp_nat a1 k1 e1 xs _ hX v)
          obtain ⟨z, hz⟩ : ∃ z, z = f xs := ⟨_, rfl⟩
          rw [← hz] at HTK
          rw [HF.out] at hz
          dsimp only at hz
          rw [← hz] at HC
          obtain ⟨a, ha⟩ : ∃ a, a = mxF f 0 (P.take i) := ⟨_, rfl⟩
          rw [← ha] at HTK ⊢
          clear hV hX ht hz ha
          by_cases ha0 : 0 < a
          · rw [decide_eq_true ha0]
            have HMM : Hid (0 < max a z) := hid (by omega)
            clear ha0
            go_wp2_with fail
            refine ⟨⟨i + 1, by omega, by rw [HTK.out, decide_eq_true HMM.out], by go_num, HH⟩, by simp [intOf]; omega⟩
          · rw [decide_eq_false ha0]
            have HMM : Hid (decide (0 < max a z) = decide (0 < z)) := hid (by
              by_cases hz0 : 0 < z
              · rw [decide_eq_true hz0, decide_eq_true (by omega)]
              · rw [decide_eq_false hz0, decide_eq_false (by omega)])
            obtain ⟨bz, hbz⟩ : ∃ bz, bz = decide (0 < z) := ⟨_, rfl⟩
            have HBZ := hid hbz
            clear ha0 hbz
            go_wp2_with (go_at_call 97; (with_reducible refine HC.out.mono ?_); rintro e w3 ⟨rfl, rfl⟩)
            refine ⟨⟨i + 1, by omega, by rw [HTK.out, HMM.out], by go_num, HH⟩, by simp [intOf]; omega⟩
        · obtain rfl : i = n := by omega
          rw [List.take_of_length_le (by have := HL.out; omega)]
          obtain ⟨z, hz⟩ : ∃ z, z = mxF f 0 P := ⟨_, rfl⟩
          rw [← hz] at HVL ⊢
          replace HG := hid (grown_trans HG.out HH.out)
          replace HO := hid (SOwn.keep HO.out HH.out)
          have hsw2 := HG.out.size
          have hlt := HLT.out
          clear hz HF HH
          by_cases hz0 : 0 < z
          · rw [decide_eq_true hz0]
            go_wp2_with ((with_reducible refine wls_append _ rfl (.tmp 29) (.tmp 31) 30 rfl 3 1 (.int .i64 0) 8 Tryz.underlying30 infoIntP intZP one_posP w.heap.size _ _ _ (intP L) rfl (SOwn.alloc HO.out _) _ 1 [.int .i64 (v : Int)] rfl (one_srdP _ _ _ _ (by simp)) (int_oneP _) (by omega) (by omega) w (grown_trans HG.out (World.grownBy_alloc _ _ _)) (by omega) (by simp; omega) ?_); intro p' c2 w4 ho2 hg4 hbx; clear hbx; have HO2 := hid ho2; have HG2 := hid hg4; clear ho2 hg4)
            refine ⟨⟨v + 1, m + 1, c2, p', by omega, rfl, by go_num, HG2, hid ?_⟩, by simp [intOf]; omega⟩
            rw [HVL.out, if_pos hz0, ← intP_add]
            exact HO2.out
          · rw [decide_eq_false hz0]
            go_wp2_with fail
            refine ⟨⟨v + 1, m, d, q, by omega, rfl, by go_num, HG, hid ?_⟩, by simp [intOf]; omega⟩
            rw [HVL.out, if_neg (by omega)]
            exact HO.out
    · obtain rfl : v = 64 := by omega
      go_wp2_with fail
      go_ret
      exact ⟨q, m, d, rfl, ZRd.ofOwnP HO.out, HG.out⟩
end Go.Proofs.YtceoegmflbgckaaGreatDoor

set_option linter.unusedVariables false
set_option linter.unusedSimpArgs false
namespace Go.Proofs.YtceoegmflbgckaaGreatDoor
open Go Go.RowKit _root_.Nm
/-- the greatest of the first i terms in the order -/
def ldI (od : Int) (P : List Tm) : Nat → Tm
  | 0 => tmI P 0
  | i + 1 => if 0 < ordZ od (tmI P i).1 (ldI od P i).1 then tmI P i else ldI od P i
theorem ordZ_self (od : Int) (xs : List Int) : ordZ od xs xs = 0 := by unfold ordZ; rw [if_neg (by intro h; exact h.2 rfl), lexL_self]
theorem ldI_one (od : Int) (P : List Tm) : ldI od P 1 = tmI P 0 := by
  show (if 0 < ordZ od (tmI P 0).1 (tmI P 0).1 then tmI P 0 else tmI P 0) = tmI P 0
  split <;> rfl
theorem ldI_mem (od : Int) {P : List Tm} (h : 0 < P.length) : ∀ i, i ≤ P.length → ldI od P i ∈ P
  | 0, _ => by show tmI P 0 ∈ P; rw [tmI_at h]; exact List.getElem_mem h
  | i + 1, hi => by
    show (if 0 < ordZ od (tmI P i).1 (ldI od P i).1 then tmI P i else ldI od P i) ∈ P
    split
    · rw [tmI_at (by omega)]; exact List.getElem_mem _
    · exact ldI_mem od h i (by omega)
/-- in the order of the terms the first one leads -/
theorem ldI_lex {od : Int} (ho : od ≠ 1) {P : List Tm} (nP : NF P) : ∀ i, i ≤ P.length → ldI od P i = tmI P 0
  | 0, _ => rfl
  | i + 1, hi => by
    show (if 0 < ordZ od (tmI P i).1 (ldI od P i).1 then tmI P i else ldI od P i) = tmI P 0
    rw [ldI_lex ho nP i (by omega), if_neg]
    unfold ordZ
    rw [if_neg (by intro h; exact ho h.1)]
    rcases Nat.eq_zero_or_pos i with e | e
    · subst e; rw [lexL_self]; omega
    · have := List.pairwise_iff_getElem.1 nP.desc 0 i (by omega) (by omega) e
      rw [tmI_at (show 0 < P.length by omega), tmI_at (show i < P.length by omega), lexL_neg]
      omega
/-- the best so far lies in the box -/
def LdS (w wr : World) (bm : Nat) (t : Tm) : Prop := ∃ (g1 : Bool) (p1 : Option Addr) (n1 c1 : Nat) (q1 : Option Addr) (m1 d1 : Nat) (a1 : Option Addr) (k1 e1 : Nat), wr.heap[bm]? = some (.cells #[.bool g1, .slice p1 n1 c1, .slice q1 m1 d1, .slice a1 k1 e1] 33 (0, 0)) ∧ IsV w g1 p1 n1 c1 q1 m1 d1 t.2 ∧ ZRd w .i64 a1 k1 e1 t.1
set_option maxHeartbeats 4000000 in
set_option maxRecDepth 100000 in
theorem lead1_v {w : World} {B : Int} {od : Int} (g1 : Bool) (p1 : Option Addr) (n1 c1 : Nat) (q1 : Option Addr) (m1 d1 : Nat) {a1 : Option Addr} {k1 e1 : Nat} (g2 : Bool) (p2 : Option Addr) (n2 c2 : Nat) (q2 : Option Addr) (m2 d2 : Nat) {a2 : Option Addr} {k2 e2 : Nat} {xs ys : List Int} (hx : ZRd w .i64 a1 k1 e1 xs) (hy : ZRd w .i64 a2 k2 e2 ys) (rx : RightZ B xs) (ry : RightZ B ys) (hB : 0 ≤ B ∧ B ≤ 4294967296) {bo : Nat} (hbo : w.heap[bo]? = some (.cells #[.int .i64 od] 3 (0, 0))) :
    Calls Tryz.prog 101 #[.agg #[.bool g1, .slice p1 n1 c1, .slice q1 m1 d1, .slice a1 k1 e1], .agg #[.bool g2, .slice p2 n2 c2, .slice q2 m2 d2, .slice a2 k2 e2], .pointer (some ⟨bo, 0, none⟩)] w fun e w' => e = .returned (.int .i64 (ordZ od xs ys)) ∧ w.grownBy w' none := by
  have HC := hid fun W (hg : w.grownBy W none) => cmpM_any a1 a2 k1 k2 e1 e2 xs ys od W (hx.keep hg) (hy.keep hg) rx ry hB hB
  obtain ⟨z, hz⟩ : ∃ z, z = ordZ od xs ys := ⟨_, rfl⟩
  rw [← hz] at HC ⊢
  clear hx hy rx ry hz
  have hW := grown_trans (World.grownBy_alloc w (.cells #[.bool g1, .slice p1 n1 c1, .slice q1 m1 d1, .slice a1 k1 e1] 33 (0, 0)) none) (World.grownBy_alloc (w.alloc (.cells #[.bool g1, .slice p1 n1 c1, .slice q1 m1 d1, .slice a1 k1 e1] 33 (0, 0))) (.cells #[.bool g2, .slice p2 n2 c2, .slice q2 m2 d2, .slice a2 k2 e2] 33 (0, 0)) none)
  have hob := cell_of_one (keepB hbo hW)
  obtain ⟨k0, k1', k2', k3⟩ := box4p (keepB (blk0 w (.cells #[.bool g1, .slice p1 n1 c1, .slice q1 m1 d1, .slice a1 k1 e1] 33 (0, 0))) (World.grownBy_alloc (w.alloc (.cells #[.bool g1, .slice p1 n1 c1, .slice q1 m1 d1, .slice a1 k1 e1] 33 (0, 0))) (.cells #[.bool g2, .slice p2 n2 c2, .slice q2 m2 d2, .slice a2 k2 e2] 33 (0, 0)) none))
  have hsz : (w.alloc (.cells #[.bool g1, .slice p1 n1 c1, .slice q1 m1 d1, .slice a1 k1 e1] 33 (0, 0))).heap.size = w.heap.size + 1 := by simp
  have B2 := blk0 (w.alloc (.cells #[.bool g1, .slice p1 n1 c1, .slice q1 m1 d1, .slice a1 k1 e1] 33 (0, 0))) (.cells #[.bool g2, .slice p2 n2 c2, .slice q2 m2 d2, .slice a2 k2 e2] 33 (0, 0))
  rw [hsz] at B2
  obtain ⟨l0, l1, l2, l3⟩ := box4p B2
  clear hsz B2 hbo
  go_enter Tryz.func101, Tryz.ntmps101
  go_upto_region 1 with fail
  generalize ((w.alloc _).alloc _) = w0 at *
  go_wp2_with (go_at_call 79; (with_reducible refine (HC.out _ hW).mono ?_); rintro e w1 ⟨rfl, rfl⟩)
  go_ret
  exact ⟨rfl, hW⟩
set_option maxHeartbeats 32000000 in
set_option maxRecDepth 100000 in
theorem maxF_v (od : Int) {w : World} {b o n c : Nat} {P : List Tm} (hP : IsP w (some ⟨b, o, none⟩) n c P) (eP : ExP 1048576 P) (hn : 0 < n) {bo : Nat} (hbo : w.heap[bo]? = some (.cells #[.int .i64 od] 3 (0, 0))) :
    Calls Tryz.prog 100 #[.slice (some ⟨b, o, none⟩) n c, .func (.func 101) #[] #[.pointer (some ⟨bo, 0, none⟩)]] w fun e w' => ∃ g1 p1 n1 c1 q1 m1 d1 a1 k1 e1, e = .returned (.agg #[.bool g1, .slice p1 n1 c1, .slice q1 m1 d1, .slice a1 k1 e1]) ∧ (IsV w g1 p1 n1 c1 q1 m1 d1 (ldI od P n).2 ∧ ZRd w .i64 a1 k1 e1 (ldI od P n).1) ∧ w.grownBy w' none := by
  have hl := hP.len; have hc := hP.cap; have hmx := hP.max
  have HP := hid hP; have HE := hid eP; have HL := hid hl
  obtain ⟨b', o', g1, p1, n1, c1, q1, m1, d1, a1, k1, e1, hbo', hxs, hV1, hX1⟩ := (hP.tms 0 (by omega)).out
  cases hbo'
  simp only [Nat.zero_mul, Nat.add_zero] at hxs
  obtain ⟨x0, x1, x2, x3⟩ := hxs
  have ht0 : tmI P 0 = P[0] := tmI_at (by omega)
  rw [← ht0] at hV1 hX1
  have HV1 := hid hV1; have HX1 := hid hX1
  have HOB := hid hbo
  have hbow := lt_of_block hbo
  clear hP eP hl hV1 hX1 hbo ht0
  have gR := World.grownBy_alloc w (.cells #[.bool false, .slice none 0 0, .slice none 0 0, .slice none 0 0] 33 (0, 0)) none
  have BR := hid (blk0 w (.cells #[.bool false, .slice none 0 0, .slice none 0 0, .slice none 0 0] 33 (0, 0)))
  go_enter Tryz.func100, Tryz.ntmps100
  go_upto_region 3 with fail
  obtain ⟨r0, hr0⟩ : ∃ x, x = w.heap.size := ⟨_, rfl⟩
  have hr0w : w.heap.size ≤ r0 := by omega
  have hbor : bo < r0 := by omega
  rw [← hr0] at BR ⊢
  clear hr0
  have HG := hid gR
  have BO := hid (keepB HOB.out gR)
  replace x0 := gR.cell x0 (by simp); replace x1 := gR.cell x1 (by simp); replace x2 := gR.cell x2 (by simp); replace x3 := gR.cell x3 (by simp)
  have hlt0 := lt_of_block BR.out
  clear gR
  generalize w.alloc _ = w0 at *
  have gB := World.grownBy_alloc w0 (.cells #[.bool g1, .slice p1 n1 c1, .slice q1 m1 d1, .slice a1 k1 e1] 33 (0, 0)) none
  have BB := hid (blk0 w0 (.cells #[.bool g1, .slice p1 n1 c1, .slice q1 m1 d1, .slice a1 k1 e1] 33 (0, 0)))
  obtain ⟨i0, i1, i2, i3⟩ := box4p (blk0 w0 (.cells #[.bool false, .slice none 0 0, .slice none 0 0, .slice none 0 0] 33 (0, 0)))
  have fa := fun o => frozen_of_row (w0.alloc (.cells #[.bool false, .slice none 0 0, .slice none 0 0, .slice none 0 0] 33 (0, 0))) w0.heap.size o _ _ (blk0 w0 (.cells #[.bool false, .slice none 0 0, .slice none 0 0, .slice none 0 0] 33 (0, 0)))
  have f0 := fa 0; have f1 := fa 1; have f2 := fa 2; have f3 := fa 3
  clear fa
  go_upto_region 4 with fail
  clear i0 i1 i2 i3 f0 f1 f2 f3 x0 x1 x2 x3
  obtain ⟨bm, hbm⟩ : ∃ x, x = w0.heap.size := ⟨_, rfl⟩
  have hrbm : r0 < bm := by omega
  have hbmw : w.heap.size ≤ bm := by omega
  rw [← hbm] at BB ⊢
  clear hbm hlt0
  replace HG := hid (grown_trans HG.out gB)
  replace BR := hid (keepB BR.out gB)
  replace BO := hid (keepB BO.out gB)
  clear gB
  generalize w0.alloc _ = w1 at *
  have HLS := hid (show LdS w w1 bm (tmI P 0) from ⟨g1, p1, n1, c1, q1, m1, d1, a1, k1, e1, BB.out, HV1.out, HX1.out⟩)
  clear BB HV1 HX1
  go_wp2_with fail
  have HN0 := hid hn
  clear hn
  go_loopw [6] (fun x wr => ∃ (i : Nat), 1 ≤ i ∧ i ≤ n ∧ x = .int .i64 i ∧ Hid (w.grownBy wr none) ∧ Hid (wr.heap[r0]? = some (.cells #[.bool false, .slice none 0 0, .slice none 0 0, .slice none 0 0] 33 (0, 0))) ∧ Hid (LdS w wr bm (ldI od P i)) ∧ Hid (wr.heap[bo]? = some (.cells #[.int .i64 od] 3 (0, 0)))) (fun x _ => n - (intOf x).toNat)
  case atStart => exact ⟨1, Nat.le_refl _, HN0.out, rfl, HG, BR, by rw [ldI_one]; exact HLS, BO⟩
  case round =>
    clear HG BR HLS BO
    obtain ⟨i, h1i, hi, rfl, HG, BR, HLS, BO⟩ := hrel
    obtain ⟨g1, p1, n1, c1, q1, m1, d1, a1, k1, e1, hbm, hV1, hX1⟩ := HLS.out
    have BM := hid hbm
    by_cases hlt : i < n
    · have hil : i < P.length := by have := HL.out; omega
      obtain ⟨b', o', g2, p2, n2, c2, q2, m2, d2, a2, k2, e2, hbo, ⟨y0, y1, y2, y3⟩, hV2, hX2⟩ := (HP.out.tms i hil).out
      cases hbo
      have hbw : b < w.heap.size := World.block_lt_of_cell? w _ y0
      have r1 : RightZ 1048576 (ldI od P i).1 := HE.out _ (ldI_mem od (by have := HL.out; omega) i (by have := HL.out; omega))
      have r2 := HE.out.at hil
      have HNX : Hid (ldI od P (i + 1) = if 0 < ordZ od P[i].1 (ldI od P i).1 then P[i] else ldI od P i) := hid (by rw [← tmI_at hil]; rfl)
      obtain ⟨t, ht⟩ : ∃ t, t = P[i] := ⟨_, rfl⟩
      rw [← ht] at hV2 hX2 r2 HNX
      obtain ⟨s, hs⟩ : ∃ s, s = ldI od P i := ⟨_, rfl⟩
      rw [← hs] at hV1 hX1 r1 HNX
      have HL1 := hid fun W (hg : wr.grownBy W none) (hb : W.heap[bo]? = some (.cells #[.int .i64 od] 3 (0, 0))) => lead1_v (B := 1048576) g2 p2 n2 c2 q2 m2 d2 g1 p1 n1 c1 q1 m1 d1 (hX2.keep (grown_trans HG.out hg)) (hX1.keep (grown_trans HG.out hg)) r2 r1 ⟨by omega, by omega⟩ hb
      obtain ⟨z, hz⟩ : ∃ z, z = ordZ od t.1 s.1 := ⟨_, rfl⟩
      rw [← hz] at HNX HL1
      have HV2 := hid hV2; have HX2 := hid hX2; have HV1 := hid hV1; have HX1 := hid hX1
      replace y0 := HG.out.cell y0 (by simp); replace y1 := HG.out.cell y1 (by simp); replace y2 := HG.out.cell y2 (by simp); replace y3 := HG.out.cell y3 (by simp)
      clear hbm hV1 hX1 hV2 hX2 r1 r2 ht hs hz
      have hsw := HG.out.size
      by_cases hz0 : 0 < z
      · go_upto_region 7 with fail
        refine wp_region_noPanic ?_
        refine wp_region_held_drew (S := (fun W => W.heap[bm]? = some (.cells #[.bool g1, .slice p1 n1 c1, .slice q1 m1 d1, .slice a1 k1 e1] 33 (0, 0)) ∧ W.heap[bo]? = some (.cells #[.int .i64 od] 3 (0, 0)) ∧ W.cell? ⟨b, o + i * 4, none⟩ = some (.bool g2) ∧ W.cell? ⟨b, o + i * 4 + 1, none⟩ = some (.slice p2 n2 c2) ∧ W.cell? ⟨b, o + i * 4 + 2, none⟩ = some (.slice q2 m2 d2) ∧ W.cell? ⟨b, o + i * 4 + 3, none⟩ = some (.slice a2 k2 e2))) (by kernel_rfl) ?_ (fun hHeld => ?_)
        · (try dsimp only)
          exact ⟨keepB BM.out (grown_drew _ none), keepB BO.out (grown_drew _ none), (grown_drew _ none).cell y0 (by simp), (grown_drew _ none).cell y1 (by simp), (grown_drew _ none).cell y2 (by simp), (grown_drew _ none).cell y3 (by simp)⟩
        have hgg := grown_drew wr none
        generalize wr.drew = wd at *
        refine wpAnyH_take (i := 0) (oi := Oper.mk _ _ _ _ _ _) (v := ?_) rfl (by kernel_rfl) (by kernel_rfl) (by kernel_rfl) (fun _ _ _ h => h) (Or.inl ⟨by kernel_rfl, ?_⟩) hHeld ?_
        rotate_left 1
        · intro W hSw
          (try dsimp only at hSw)
          obtain ⟨hb, ho, h0, h1, h2, h3⟩ := hSw
          obtain ⟨j0, j1, j2, j3⟩ := box4p hb
          go_simp
          (try (with_reducible rfl))
        (try simp only [Act.put, List.setIfInBounds_toArray, List.set_cons_zero, List.set_cons_succ])
        refine wpAnyH_take (i := 1) (oi := Oper.mk _ _ _ _ _ _) (v := ?_) rfl (by kernel_rfl) (by kernel_rfl) (by kernel_rfl) (fun _ _ _ h => h) (Or.inl ⟨by kernel_rfl, ?_⟩) hHeld ?_
        rotate_left 1
        · intro W hSw
          (try dsimp only at hSw)
          obtain ⟨hb, ho, h0, h1, h2, h3⟩ := hSw
          obtain ⟨j0, j1, j2, j3⟩ := box4p hb
          go_simp
          (try (with_reducible rfl))
        (try simp only [Act.put, List.setIfInBounds_toArray, List.set_cons_zero, List.set_cons_succ])
        refine wpAnyH_take (i := 2) (oi := Oper.mk _ _ _ _ _ _) (v := ?_) rfl (by kernel_rfl) (by kernel_rfl) (by kernel_rfl) (fun _ _ _ h => h) (Or.inl ⟨by kernel_rfl, ?_⟩) hHeld ?_
        rotate_left 1
        · intro W hSw
          (try dsimp only at hSw)
          obtain ⟨hb, ho, h0, h1, h2, h3⟩ := hSw
          obtain ⟨j0, j1, j2, j3⟩ := box4p hb
          go_simp
          (try (with_reducible rfl))
        (try simp only [Act.put, List.setIfInBounds_toArray, List.set_cons_zero, List.set_cons_succ])
        refine wpAnyH_take (i := 3) (oi := Oper.mk _ _ _ _ _ _) (v := ?_) rfl (by kernel_rfl) (by kernel_rfl) (by kernel_rfl) (fun _ _ _ h => h) (Or.inl ⟨by kernel_rfl, ?_⟩) hHeld ?_
        rotate_left 1
        · intro W hSw
          (try dsimp only at hSw)
          obtain ⟨hb, ho, h0, h1, h2, h3⟩ := hSw
          obtain ⟨j0, j1, j2, j3⟩ := box4p hb
          go_simp
          (try (with_reducible rfl))
        (try simp only [Act.put, List.setIfInBounds_toArray, List.set_cons_zero, List.set_cons_succ])
        refine wpAnyH_take (i := 4) (oi := Oper.mk _ _ _ _ _ _) (v := ?_) rfl (by kernel_rfl) (by kernel_rfl) (by kernel_rfl) (fun _ _ _ h => h) (Or.inl ⟨by kernel_rfl, ?_⟩) hHeld ?_
        rotate_left 1
        · intro W hSw
          (try dsimp only at hSw)
          obtain ⟨hb, ho, h0, h1, h2, h3⟩ := hSw
          obtain ⟨j0, j1, j2, j3⟩ := box4p hb
          go_simp
          (try (with_reducible rfl))
        (try simp only [Act.put, List.setIfInBounds_toArray, List.set_cons_zero, List.set_cons_succ])
        refine wpAnyH_take (i := 5) (oi := Oper.mk _ _ _ _ _ _) (v := ?_) rfl (by kernel_rfl) (by kernel_rfl) (by kernel_rfl) (fun _ _ _ h => h) (Or.inl ⟨by kernel_rfl, ?_⟩) hHeld ?_
        rotate_left 1
        · intro W hSw
          (try dsimp only at hSw)
          obtain ⟨hb, ho, h0, h1, h2, h3⟩ := hSw
          obtain ⟨j0, j1, j2, j3⟩ := box4p hb
          go_simp
          (try (with_reducible rfl))
        (try simp only [Act.put, List.setIfInBounds_toArray, List.set_cons_zero, List.set_cons_succ])
        refine wpAnyH_ready (rs := [6]) (by kernel_rfl) (by simp) ?_
        refine AllReadyH.cons (o := Oper.mk _ _ _ _ _ _) rfl (fun K hK => ?_) AllReadyH.nil
        have hbo := hHeld.2.1
        (try dsimp only at hbo)
        (try rw [if_pos (by kernel_rfl)])
        go_simp
        go_at_call 101
        refine (HL1.out _ hgg hbo).mono ?_
        rintro e wy1 ⟨rfl, hgS⟩
        replace hgg := grown_trans hgg hgS
        refine hK.out _ _ ?_ (fun hNew => ?_)
        · have hH := hHeld
          (try dsimp only at hH)
          (try dsimp only)
          first | with_reducible exact hH | exact ⟨keepB hH.1 hgS, keepB hH.2.1 hgS, hgS.cell hH.2.2.1 (by simp), hgS.cell hH.2.2.2.1 (by simp), hgS.cell hH.2.2.2.2.1 (by simp), hgS.cell hH.2.2.2.2.2 (by simp)⟩
        clear hK K hHeld
        have hHeld := hNew
        clear hNew
        (try simp only [Act.put, List.setIfInBounds_toArray, List.set_cons_zero, List.set_cons_succ])
        clear hgS
        (try clear hbo)
        refine wpAnyH_take (i := 7) (oi := Oper.mk _ _ _ _ _ _) (v := ?_) rfl (by kernel_rfl) (by kernel_rfl) (by kernel_rfl) (fun _ _ _ h => h) (Or.inl ⟨by kernel_rfl, ?_⟩) hHeld ?_
        rotate_left 1
        · intro W hSw
          (try dsimp only at hSw)
          obtain ⟨hb, ho, h0, h1, h2, h3⟩ := hSw
          obtain ⟨j0, j1, j2, j3⟩ := box4p hb
          go_simp
          (try (with_reducible rfl))
        (try simp only [Act.put, List.setIfInBounds_toArray, List.set_cons_zero, List.set_cons_succ])
        refine wpAnyH_done (by kernel_rfl) ?_ _
        refine NoPanic.normal ?_
        obtain ⟨hb, ho, h0, h1, h2, h3⟩ := hHeld
        (try dsimp only at hb ho h0 h1 h2 h3)
        obtain ⟨⟨j0, j1, j2, j3⟩, f0, f1, f2, f3⟩ := box4 hb
        have hgS := set4_grown wy1 bm (.bool g2) (.slice p2 n2 c2) (.slice q2 m2 d2) (.slice a2 k2 e2)
        have hbE := set4 hb (.bool g2) (.slice p2 n2 c2) (.slice q2 m2 d2) (.slice a2 k2 e2)
        have HGE := hid (grown_new (grown_trans HG.out hgg) hgS (fun g' e => by cases e; exact hbmw))
        have BRE := hid ((hgS.block r0 (lt_of_block (keepB BR.out hgg)) (by simp; omega)).trans (keepB BR.out hgg))
        have BME := hid hbE
        have BOE := hid ((hgS.block bo (lt_of_block ho) (by simp; omega)).trans ho)
        clear hb hgS hbE
        go_wp2_with fail
        refine ⟨⟨i + 1, by omega, by omega, by go_num, HGE, BRE, hid ⟨g2, p2, n2, c2, q2, m2, d2, a2, k2, e2, BME.out, ?_, ?_⟩, BOE⟩, by simp [intOf]; omega⟩
        · rw [HNX.out, if_pos hz0]; exact HV2.out
        · rw [HNX.out, if_pos hz0]; exact HX2.out
      · go_upto_region 7 with fail
        refine wp_region_noPanic ?_
        refine wp_region_held_drew (S := (fun W => W.heap[bm]? = some (.cells #[.bool g1, .slice p1 n1 c1, .slice q1 m1 d1, .slice a1 k1 e1] 33 (0, 0)) ∧ W.heap[bo]? = some (.cells #[.int .i64 od] 3 (0, 0)) ∧ W.cell? ⟨b, o + i * 4, none⟩ = some (.bool g2) ∧ W.cell? ⟨b, o + i * 4 + 1, none⟩ = some (.slice p2 n2 c2) ∧ W.cell? ⟨b, o + i * 4 + 2, none⟩ = some (.slice q2 m2 d2) ∧ W.cell? ⟨b, o + i * 4 + 3, none⟩ = some (.slice a2 k2 e2))) (by kernel_rfl) ?_ (fun hHeld => ?_)
        · (try dsimp only)
          exact ⟨keepB BM.out (grown_drew _ none), keepB BO.out (grown_drew _ none), (grown_drew _ none).cell y0 (by simp), (grown_drew _ none).cell y1 (by simp), (grown_drew _ none).cell y2 (by simp), (grown_drew _ none).cell y3 (by simp)⟩
        have hgg := grown_drew wr none
        generalize wr.drew = wd at *
        refine wpAnyH_take (i := 0) (oi := Oper.mk _ _ _ _ _ _) (v := ?_) rfl (by kernel_rfl) (by kernel_rfl) (by kernel_rfl) (fun _ _ _ h => h) (Or.inl ⟨by kernel_rfl, ?_⟩) hHeld ?_
        rotate_left 1
        · intro W hSw
          (try dsimp only at hSw)
          obtain ⟨hb, ho, h0, h1, h2, h3⟩ := hSw
          obtain ⟨j0, j1, j2, j3⟩ := box4p hb
          go_simp
          (try (with_reducible rfl))
        (try simp only [Act.put, List.setIfInBounds_toArray, List.set_cons_zero, List.set_cons_succ])
        refine wpAnyH_take (i := 1) (oi := Oper.mk _ _ _ _ _ _) (v := ?_) rfl (by kernel_rfl) (by kernel_rfl) (by kernel_rfl) (fun _ _ _ h => h) (Or.inl ⟨by kernel_rfl, ?_⟩) hHeld ?_
        rotate_left 1
        · intro W hSw
          (try dsimp only at hSw)
          obtain ⟨hb, ho, h0, h1, h2, h3⟩ := hSw
          obtain ⟨j0, j1, j2, j3⟩ := box4p hb
          go_simp
          (try (with_reducible rfl))
        (try simp only [Act.put, List.setIfInBounds_toArray, List.set_cons_zero, List.set_cons_succ])
        refine wpAnyH_take (i := 2) (oi := Oper.mk _ _ _ _ _ _) (v := ?_) rfl (by kernel_rfl) (by kernel_rfl) (by kernel_rfl) (fun _ _ _ h => h) (Or.inl ⟨by kernel_rfl, ?_⟩) hHeld ?_
        rotate_left 1
        · intro W hSw
          (try dsimp only at hSw)
          obtain ⟨hb, ho, h0, h1, h2, h3⟩ := hSw
          obtain ⟨j0, j1, j2, j3⟩ := box4p hb
          go_simp
          (try (with_reducible rfl))
        (try simp only [Act.put, List.setIfInBounds_toArray, List.set_cons_zero, List.set_cons_succ])
        refine wpAnyH_take (i := 3) (oi := Oper.mk _ _ _ _ _ _) (v := ?_) rfl (by kernel_rfl) (by kernel_rfl) (by kernel_rfl) (fun _ _ _ h => h) (Or.inl ⟨by kernel_rfl, ?_⟩) hHeld ?_
        rotate_left 1
        · intro W hSw
          (try dsimp only at hSw)
          obtain ⟨hb, ho, h0, h1, h2, h3⟩ := hSw
          obtain ⟨j0, j1, j2, j3⟩ := box4p hb
          go_simp
          (try (with_reducible rfl))
        (try simp only [Act.put, List.setIfInBounds_toArray, List.set_cons_zero, List.set_cons_succ])
        refine wpAnyH_take (i := 4) (oi := Oper.mk _ _ _ _ _ _) (v := ?_) rfl (by kernel_rfl) (by kernel_rfl) (by kernel_rfl) (fun _ _ _ h => h) (Or.inl ⟨by kernel_rfl, ?_⟩) hHeld ?_
        rotate_left 1
        · intro W hSw
          (try dsimp only at hSw)
          obtain ⟨hb, ho, h0, h1, h2, h3⟩ := hSw
          obtain ⟨j0, j1, j2, j3⟩ := box4p hb
          go_simp
          (try (with_reducible rfl))
        (try simp only [Act.put, List.setIfInBounds_toArray, List.set_cons_zero, List.set_cons_succ])
        refine wpAnyH_take (i := 5) (oi := Oper.mk _ _ _ _ _ _) (v := ?_) rfl (by kernel_rfl) (by kernel_rfl) (by kernel_rfl) (fun _ _ _ h => h) (Or.inl ⟨by kernel_rfl, ?_⟩) hHeld ?_
        rotate_left 1
        · intro W hSw
          (try dsimp only at hSw)
          obtain ⟨hb, ho, h0, h1, h2, h3⟩ := hSw
          obtain ⟨j0, j1, j2, j3⟩ := box4p hb
          go_simp
          (try (with_reducible rfl))
        (try simp only [Act.put, List.setIfInBounds_toArray, List.set_cons_zero, List.set_cons_succ])
        refine wpAnyH_ready (rs := [6]) (by kernel_rfl) (by simp) ?_
        refine AllReadyH.cons (o := Oper.mk _ _ _ _ _ _) rfl (fun K hK => ?_) AllReadyH.nil
        have hbo := hHeld.2.1
        (try dsimp only at hbo)
        (try rw [if_pos (by kernel_rfl)])
        go_simp
        go_at_call 101
        refine (HL1.out _ hgg hbo).mono ?_
        rintro e wy1 ⟨rfl, hgS⟩
        replace hgg := grown_trans hgg hgS
        refine hK.out _ _ ?_ (fun hNew => ?_)
        · have hH := hHeld
          (try dsimp only at hH)
          (try dsimp only)
          first | with_reducible exact hH | exact ⟨keepB hH.1 hgS, keepB hH.2.1 hgS, hgS.cell hH.2.2.1 (by simp), hgS.cell hH.2.2.2.1 (by simp), hgS.cell hH.2.2.2.2.1 (by simp), hgS.cell hH.2.2.2.2.2 (by simp)⟩
        clear hK K hHeld
        have hHeld := hNew
        clear hNew
        (try simp only [Act.put, List.setIfInBounds_toArray, List.set_cons_zero, List.set_cons_succ])
        clear hgS
        (try clear hbo)
        refine wpAnyH_take (i := 7) (oi := Oper.mk _ _ _ _ _ _) (v := ?_) rfl (by kernel_rfl) (by kernel_rfl) (by kernel_rfl) (fun _ _ _ h => h) (Or.inl ⟨by kernel_rfl, ?_⟩) hHeld ?_
        rotate_left 1
        · intro W hSw
          (try dsimp only at hSw)
          obtain ⟨hb, ho, h0, h1, h2, h3⟩ := hSw
          obtain ⟨j0, j1, j2, j3⟩ := box4p hb
          go_simp
          (try (with_reducible rfl))
        (try simp only [Act.put, List.setIfInBounds_toArray, List.set_cons_zero, List.set_cons_succ])
        refine wpAnyH_done (by kernel_rfl) ?_ _
        refine NoPanic.normal ?_
        obtain ⟨hb, ho, h0, h1, h2, h3⟩ := hHeld
        (try dsimp only at hb ho)
        have BME := hid hb
        have BRE := hid (keepB BR.out hgg)
        have BOE := hid ho
        clear hb h0 h1 h2 h3
        go_wp2_with fail
        refine ⟨⟨i + 1, by omega, by omega, by go_num, hid (grown_trans HG.out hgg), BRE, hid ⟨g1, p1, n1, c1, q1, m1, d1, a1, k1, e1, BME.out, ?_, ?_⟩, BOE⟩, by simp [intOf]; omega⟩
        · rw [HNX.out, if_neg (by omega)]; exact HV1.out
        · rw [HNX.out, if_neg (by omega)]; exact HX1.out
    · obtain rfl : i = n := by omega
      obtain ⟨j0, j1, j2, j3⟩ := box4p BM.out
      obtain ⟨⟨z0, z1, z2, z3⟩, f0, f1, f2, f3⟩ := box4 BR.out
      have hgS := set4_grown wr r0 (.bool g1) (.slice p1 n1 c1) (.slice q1 m1 d1) (.slice a1 k1 e1)
      have hbE := set4 BR.out (.bool g1) (.slice p1 n1 c1) (.slice q1 m1 d1) (.slice a1 k1 e1)
      have HGE := hid (grown_new HG.out hgS (fun g' e => by cases e; exact hr0w))
      have BRE := hid hbE
      have HR := hid (And.intro hV1 hX1)
      clear hgS hbE hbm hV1 hX1
      go_wp2_with fail
      generalize (((wr.setCell _ _).setCell _ _).setCell _ _).setCell _ _ = wE at *
      obtain ⟨l0, l1, l2, l3⟩ := box4p BRE.out
      clear j0 j1 j2 j3 z0 z1 z2 z3 f0 f1 f2 f3
      exact bodyPost_ret (v := .agg #[.bool g1, .slice p1 n1 c1, .slice q1 m1 d1, .slice a1 k1 e1]) (by simp [results, Tryz.results100, go_sem, l0, l1, l2, l3]) rfl ⟨g1, p1, n1, c1, q1, m1, d1, a1, k1, e1, rfl, HR.out, HGE.out⟩
set_option maxHeartbeats 32000000 in
set_option maxRecDepth 100000 in
theorem rLead6_v (od : Int) {w : World} {b o n c : Nat} {P : List Tm} (hP : IsP w (some ⟨b, o, none⟩) n c P) (eP : ExP 1048576 P) (hn : 0 < n) :
    Calls Tryz.prog 41 #[.slice (some ⟨b, o, none⟩) n c, .int .i64 od] w fun e w' => ∃ g1 p1 n1 c1 q1 m1 d1 a1 k1 e1, e = .returned (.tuple #[.agg #[.bool g1, .slice p1 n1 c1, .slice q1 m1 d1, .slice a1 k1 e1], .bool true]) ∧ (IsV w g1 p1 n1 c1 q1 m1 d1 (ldI od P n).2 ∧ ZRd w .i64 a1 k1 e1 (ldI od P n).1) ∧ w.grownBy w' none := by
  have hl := hP.len; have hc := hP.cap; have hmx := hP.max
  have HP := hid hP; have HE := hid eP; have HL := hid hl
  obtain ⟨b', o', g1, p1, n1, c1, q1, m1, d1, a1, k1, e1, hbo', hxs, hV1, hX1⟩ := (hP.tms 0 (by omega)).out
  cases hbo'
  simp only [Nat.zero_mul, Nat.add_zero] at hxs
  obtain ⟨x0, x1, x2, x3⟩ := hxs
  have ht0 : tmI P 0 = P[0] := tmI_at (by omega)
  rw [← ht0] at hV1 hX1
  have HV1 := hid hV1; have HX1 := hid hX1
  have hne0 : ((n : Int) == 0) = false := by simp; omega
  clear hP eP hl hV1 hX1 ht0
  have gR := World.grownBy_alloc w (.cells #[.bool false, .slice none 0 0, .slice none 0 0, .slice none 0 0] 33 (0, 0)) none
  have BR := hid (blk0 w (.cells #[.bool false, .slice none 0 0, .slice none 0 0, .slice none 0 0] 33 (0, 0)))
  go_enter Tryz.func41, Tryz.ntmps41
  go_upto_region 3 with fail
  obtain ⟨r0, hr0⟩ : ∃ x, x = w.heap.size := ⟨_, rfl⟩
  have hr0w : w.heap.size ≤ r0 := by omega
  rw [← hr0] at BR ⊢
  clear hr0
  have HG := hid gR
  replace x0 := gR.cell x0 (by simp); replace x1 := gR.cell x1 (by simp); replace x2 := gR.cell x2 (by simp); replace x3 := gR.cell x3 (by simp)
  have hlt0 := lt_of_block BR.out
  clear gR
  generalize w.alloc _ = w0 at *
  have gB := World.grownBy_alloc w0 (.cells #[.bool g1, .slice p1 n1 c1, .slice q1 m1 d1, .slice a1 k1 e1] 33 (0, 0)) none
  have BB := hid (blk0 w0 (.cells #[.bool g1, .slice p1 n1 c1, .slice q1 m1 d1, .slice a1 k1 e1] 33 (0, 0)))
  obtain ⟨i0, i1, i2, i3⟩ := box4p (blk0 w0 (.cells #[.bool false, .slice none 0 0, .slice none 0 0, .slice none 0 0] 33 (0, 0)))
  have fa := fun o => frozen_of_row (w0.alloc (.cells #[.bool false, .slice none 0 0, .slice none 0 0, .slice none 0 0] 33 (0, 0))) w0.heap.size o _ _ (blk0 w0 (.cells #[.bool false, .slice none 0 0, .slice none 0 0, .slice none 0 0] 33 (0, 0)))
  have f0 := fa 0; have f1 := fa 1; have f2 := fa 2; have f3 := fa 3
  clear fa
  go_upto_region 4 with fail
  clear i0 i1 i2 i3 f0 f1 f2 f3 x0 x1 x2 x3
  obtain ⟨bm, hbm⟩ : ∃ x, x = w0.heap.size := ⟨_, rfl⟩
  have hrbm : r0 < bm := by omega
  have hbmw : w.heap.size ≤ bm := by omega
  rw [← hbm] at BB ⊢
  clear hbm hlt0
  replace HG := hid (grown_trans HG.out gB)
  replace BR := hid (keepB BR.out gB)
  clear gB
  generalize w0.alloc _ = w1 at *
  have HLS := hid (show LdS w w1 bm (tmI P 0) from ⟨g1, p1, n1, c1, q1, m1, d1, a1, k1, e1, BB.out, HV1.out, HX1.out⟩)
  clear BB HV1 HX1
  go_wp2_with fail
  have HN0 := hid hn
  clear hn hne0
  go_loopw [7] (fun x wr => ∃ (i : Nat), 1 ≤ i ∧ i ≤ n ∧ x = .int .i64 i ∧ Hid (w.grownBy wr none) ∧ Hid (wr.heap[r0]? = some (.cells #[.bool false, .slice none 0 0, .slice none 0 0, .slice none 0 0] 33 (0, 0))) ∧ Hid (LdS w wr bm (ldI od P i))) (fun x _ => n - (intOf x).toNat)
  case atStart => exact ⟨1, Nat.le_refl _, HN0.out, rfl, HG, BR, by rw [ldI_one]; exact HLS⟩
  case round =>
    clear HG BR HLS
    obtain ⟨i, h1i, hi, rfl, HG, BR, HLS⟩ := hrel
    obtain ⟨g1, p1, n1, c1, q1, m1, d1, a1, k1, e1, hbm, hV1, hX1⟩ := HLS.out
    have BM := hid hbm
    by_cases hlt : i < n
    · have hil : i < P.length := by have := HL.out; omega
      obtain ⟨b', o', g2, p2, n2, c2, q2, m2, d2, a2, k2, e2, hbo, ⟨y0, y1, y2, y3⟩, hV2, hX2⟩ := (HP.out.tms i hil).out
      cases hbo
      have hbw : b < w.heap.size := World.block_lt_of_cell? w _ y0
      have r1 : RightZ 1048576 (ldI od P i).1 := HE.out _ (ldI_mem od (by have := HL.out; omega) i (by have := HL.out; omega))
      have r2 := HE.out.at hil
      have HNX : Hid (ldI od P (i + 1) = if 0 < ordZ od P[i].1 (ldI od P i).1 then P[i] else ldI od P i) := hid (by rw [← tmI_at hil]; rfl)
      obtain ⟨t, ht⟩ : ∃ t, t = P[i] := ⟨_, rfl⟩
      rw [← ht] at hV2 hX2 r2 HNX
      obtain ⟨s, hs⟩ : ∃ s, s = ldI od P i := ⟨_, rfl⟩
      rw [← hs] at hV1 hX1 r1 HNX
      have HC5 := hid fun W (hg : wr.grownBy W none) => rcmpM_any a2 a1 k2 k1 e2 e1 t.1 s.1 od W (hX2.keep (grown_trans HG.out hg)) (hX1.keep (grown_trans HG.out hg)) r2 r1 ⟨by omega, by omega⟩ ⟨by omega, by omega⟩
      obtain ⟨z, hz⟩ : ∃ z, z = ordZ od t.1 s.1 := ⟨_, rfl⟩
      rw [← hz] at HNX HC5
      have HV2 := hid hV2; have HX2 := hid hX2; have HV1 := hid hV1; have HX1 := hid hX1
      replace y0 := HG.out.cell y0 (by simp); replace y1 := HG.out.cell y1 (by simp); replace y2 := HG.out.cell y2 (by simp); replace y3 := HG.out.cell y3 (by simp)
      clear hbm hV1 hX1 hV2 hX2 r1 r2 ht hs hz
      have hsw := HG.out.size
      by_cases hz0 : 0 < z
      · go_upto_region 7 with fail
        refine wp_region_noPanic ?_
        refine wp_region_held_drew (S := (fun W => W.heap[bm]? = some (.cells #[.bool g1, .slice p1 n1 c1, .slice q1 m1 d1, .slice a1 k1 e1] 33 (0, 0)) ∧ W.cell? ⟨b, o + i * 4, none⟩ = some (.bool g2) ∧ W.cell? ⟨b, o + i * 4 + 1, none⟩ = some (.slice p2 n2 c2) ∧ W.cell? ⟨b, o + i * 4 + 2, none⟩ = some (.slice q2 m2 d2) ∧ W.cell? ⟨b, o + i * 4 + 3, none⟩ = some (.slice a2 k2 e2))) (by kernel_rfl) ?_ (fun hHeld => ?_)
        · (try dsimp only)
          exact ⟨keepB BM.out (grown_drew _ none), (grown_drew _ none).cell y0 (by simp), (grown_drew _ none).cell y1 (by simp), (grown_drew _ none).cell y2 (by simp), (grown_drew _ none).cell y3 (by simp)⟩
        have hgg := grown_drew wr none
        generalize wr.drew = wd at *
        refine wpAnyH_take (i := 0) (oi := Oper.mk _ _ _ _ _ _) (v := ?_) rfl (by kernel_rfl) (by kernel_rfl) (by kernel_rfl) (fun _ _ _ h => h) (Or.inl ⟨by kernel_rfl, ?_⟩) hHeld ?_
        rotate_left 1
        · intro W hSw
          (try dsimp only at hSw)
          obtain ⟨hb, h0, h1, h2, h3⟩ := hSw
          obtain ⟨j0, j1, j2, j3⟩ := box4p hb
          go_simp
          (try (with_reducible rfl))
        (try simp only [Act.put, List.setIfInBounds_toArray, List.set_cons_zero, List.set_cons_succ])
        refine wpAnyH_take (i := 1) (oi := Oper.mk _ _ _ _ _ _) (v := ?_) rfl (by kernel_rfl) (by kernel_rfl) (by kernel_rfl) (fun _ _ _ h => h) (Or.inl ⟨by kernel_rfl, ?_⟩) hHeld ?_
        rotate_left 1
        · intro W hSw
          (try dsimp only at hSw)
          obtain ⟨hb, h0, h1, h2, h3⟩ := hSw
          obtain ⟨j0, j1, j2, j3⟩ := box4p hb
          go_simp
          (try (with_reducible rfl))
        (try simp only [Act.put, List.setIfInBounds_toArray, List.set_cons_zero, List.set_cons_succ])
        refine wpAnyH_take (i := 2) (oi := Oper.mk _ _ _ _ _ _) (v := ?_) rfl (by kernel_rfl) (by kernel_rfl) (by kernel_rfl) (fun _ _ _ h => h) (Or.inl ⟨by kernel_rfl, ?_⟩) hHeld ?_
        rotate_left 1
        · intro W hSw
          (try dsimp only at hSw)
          obtain ⟨hb, h0, h1, h2, h3⟩ := hSw
          obtain ⟨j0, j1, j2, j3⟩ := box4p hb
          go_simp
          (try (with_reducible rfl))
        (try simp only [Act.put, List.setIfInBounds_toArray, List.set_cons_zero, List.set_cons_succ])
        refine wpAnyH_take (i := 3) (oi := Oper.mk _ _ _ _ _ _) (v := ?_) rfl (by kernel_rfl) (by kernel_rfl) (by kernel_rfl) (fun _ _ _ h => h) (Or.inl ⟨by kernel_rfl, ?_⟩) hHeld ?_
        rotate_left 1
        · intro W hSw
          (try dsimp only at hSw)
          obtain ⟨hb, h0, h1, h2, h3⟩ := hSw
          obtain ⟨j0, j1, j2, j3⟩ := box4p hb
          go_simp
          (try (with_reducible rfl))
        (try simp only [Act.put, List.setIfInBounds_toArray, List.set_cons_zero, List.set_cons_succ])
        refine wpAnyH_take (i := 4) (oi := Oper.mk _ _ _ _ _ _) (v := ?_) rfl (by kernel_rfl) (by kernel_rfl) (by kernel_rfl) (fun _ _ _ h => h) (Or.inl ⟨by kernel_rfl, ?_⟩) hHeld ?_
        rotate_left 1
        · intro W hSw
          (try dsimp only at hSw)
          obtain ⟨hb, h0, h1, h2, h3⟩ := hSw
          obtain ⟨j0, j1, j2, j3⟩ := box4p hb
          go_simp
          (try (with_reducible rfl))
        (try simp only [Act.put, List.setIfInBounds_toArray, List.set_cons_zero, List.set_cons_succ])
        refine wpAnyH_take (i := 5) (oi := Oper.mk _ _ _ _ _ _) (v := ?_) rfl (by kernel_rfl) (by kernel_rfl) (by kernel_rfl) (fun _ _ _ h => h) (Or.inl ⟨by kernel_rfl, ?_⟩) hHeld ?_
        rotate_left 1
        · intro W hSw
          (try dsimp only at hSw)
          obtain ⟨hb, h0, h1, h2, h3⟩ := hSw
          obtain ⟨j0, j1, j2, j3⟩ := box4p hb
          go_simp
          (try (with_reducible rfl))
        (try simp only [Act.put, List.setIfInBounds_toArray, List.set_cons_zero, List.set_cons_succ])
        refine wpAnyH_take (i := 6) (oi := Oper.mk _ _ _ _ _ _) (v := ?_) rfl (by kernel_rfl) (by kernel_rfl) (by kernel_rfl) (fun _ _ _ h => h) (Or.inl ⟨by kernel_rfl, ?_⟩) hHeld ?_
        rotate_left 1
        · intro W hSw
          (try dsimp only at hSw)
          obtain ⟨hb, h0, h1, h2, h3⟩ := hSw
          obtain ⟨j0, j1, j2, j3⟩ := box4p hb
          go_simp
          (try (with_reducible rfl))
        (try simp only [Act.put, List.setIfInBounds_toArray, List.set_cons_zero, List.set_cons_succ])
        refine wpAnyH_take (i := 7) (oi := Oper.mk _ _ _ _ _ _) (v := ?_) rfl (by kernel_rfl) (by kernel_rfl) (by kernel_rfl) (fun _ _ _ h => h) (Or.inl ⟨by kernel_rfl, ?_⟩) hHeld ?_
        rotate_left 1
        · intro W hSw
          (try dsimp only at hSw)
          obtain ⟨hb, h0, h1, h2, h3⟩ := hSw
          obtain ⟨j0, j1, j2, j3⟩ := box4p hb
          go_simp
          (try (with_reducible rfl))
        (try simp only [Act.put, List.setIfInBounds_toArray, List.set_cons_zero, List.set_cons_succ])
        refine wpAnyH_ready (rs := [8]) (by kernel_rfl) (by simp) ?_
        refine AllReadyH.cons (o := Oper.mk _ _ _ _ _ _) rfl (fun K hK => ?_) AllReadyH.nil
        (try rw [if_pos (by kernel_rfl)])
        go_simp
        go_at_call 68
        refine (HC5.out _ hgg).mono ?_
        rintro e _ ⟨rfl, rfl⟩
        refine hK.out _ _ ?_ (fun hNew => ?_)
        · have hH := hHeld
          (try dsimp only at hH)
          (try dsimp only)
          with_reducible exact hH
        clear hK K hHeld
        have hHeld := hNew
        clear hNew
        (try simp only [Act.put, List.setIfInBounds_toArray, List.set_cons_zero, List.set_cons_succ])
        refine wpAnyH_take (i := 9) (oi := Oper.mk _ _ _ _ _ _) (v := ?_) rfl (by kernel_rfl) (by kernel_rfl) (by kernel_rfl) (fun _ _ _ h => h) (Or.inl ⟨by kernel_rfl, ?_⟩) hHeld ?_
        rotate_left 1
        · intro W hSw
          (try dsimp only at hSw)
          obtain ⟨hb, h0, h1, h2, h3⟩ := hSw
          obtain ⟨j0, j1, j2, j3⟩ := box4p hb
          go_simp
          (try (with_reducible rfl))
        (try simp only [Act.put, List.setIfInBounds_toArray, List.set_cons_zero, List.set_cons_succ])
        refine wpAnyH_done (by kernel_rfl) ?_ _
        refine NoPanic.normal ?_
        obtain ⟨hb, h0, h1, h2, h3⟩ := hHeld
        (try dsimp only at hb ho h0 h1 h2 h3)
        obtain ⟨⟨j0, j1, j2, j3⟩, f0, f1, f2, f3⟩ := box4 hb
        have hgS := set4_grown wd bm (.bool g2) (.slice p2 n2 c2) (.slice q2 m2 d2) (.slice a2 k2 e2)
        have hbE := set4 hb (.bool g2) (.slice p2 n2 c2) (.slice q2 m2 d2) (.slice a2 k2 e2)
        have HGE := hid (grown_new (grown_trans HG.out hgg) hgS (fun g' e => by cases e; exact hbmw))
        have BRE := hid ((hgS.block r0 (lt_of_block (keepB BR.out hgg)) (by simp; omega)).trans (keepB BR.out hgg))
        have BME := hid hbE

        clear hb hgS hbE
        go_wp2_with fail
        refine ⟨⟨i + 1, by omega, by omega, by go_num, HGE, BRE, hid ⟨g2, p2, n2, c2, q2, m2, d2, a2, k2, e2, BME.out, ?_, ?_⟩⟩, by simp [intOf]; omega⟩
        · rw [HNX.out, if_pos hz0]; exact HV2.out
        · rw [HNX.out, if_pos hz0]; exact HX2.out
      · go_upto_region 7 with fail
        refine wp_region_noPanic ?_
        refine wp_region_held_drew (S := (fun W => W.heap[bm]? = some (.cells #[.bool g1, .slice p1 n1 c1, .slice q1 m1 d1, .slice a1 k1 e1] 33 (0, 0)) ∧ W.cell? ⟨b, o + i * 4, none⟩ = some (.bool g2) ∧ W.cell? ⟨b, o + i * 4 + 1, none⟩ = some (.slice p2 n2 c2) ∧ W.cell? ⟨b, o + i * 4 + 2, none⟩ = some (.slice q2 m2 d2) ∧ W.cell? ⟨b, o + i * 4 + 3, none⟩ = some (.slice a2 k2 e2))) (by kernel_rfl) ?_ (fun hHeld => ?_)
        · (try dsimp only)
          exact ⟨keepB BM.out (grown_drew _ none), (grown_drew _ none).cell y0 (by simp), (grown_drew _ none).cell y1 (by simp), (grown_drew _ none).cell y2 (by simp), (grown_drew _ none).cell y3 (by simp)⟩
        have hgg := grown_drew wr none
        generalize wr.drew = wd at *
        refine wpAnyH_take (i := 0) (oi := Oper.mk _ _ _ _ _ _) (v := ?_) rfl (by kernel_rfl) (by kernel_rfl) (by kernel_rfl) (fun _ _ _ h => h) (Or.inl ⟨by kernel_rfl, ?_⟩) hHeld ?_
        rotate_left 1
        · intro W hSw
          (try dsimp only at hSw)
          obtain ⟨hb, h0, h1, h2, h3⟩ := hSw
          obtain ⟨j0, j1, j2, j3⟩ := box4p hb
          go_simp
          (try (with_reducible rfl))
        (try simp only [Act.put, List.setIfInBounds_toArray, List.set_cons_zero, List.set_cons_succ])
        refine wpAnyH_take (i := 1) (oi := Oper.mk _ _ _ _ _ _) (v := ?_) rfl (by kernel_rfl) (by kernel_rfl) (by kernel_rfl) (fun _ _ _ h => h) (Or.inl ⟨by kernel_rfl, ?_⟩) hHeld ?_
        rotate_left 1
        · intro W hSw
          (try dsimp only at hSw)
          obtain ⟨hb, h0, h1, h2, h3⟩ := hSw
          obtain ⟨j0, j1, j2, j3⟩ := box4p hb
          go_simp
          (try (with_reducible rfl))
        (try simp only [Act.put, List.setIfInBounds_toArray, List.set_cons_zero, List.set_cons_succ])
        refine wpAnyH_take (i := 2) (oi := Oper.mk _ _ _ _ _ _) (v := ?_) rfl (by kernel_rfl) (by kernel_rfl) (by kernel_rfl) (fun _ _ _ h => h) (Or.inl ⟨by kernel_rfl, ?_⟩) hHeld ?_
        rotate_left 1
        · intro W hSw
          (try dsimp only at hSw)
          obtain ⟨hb, h0, h1, h2, h3⟩ := hSw
          obtain ⟨j0, j1, j2, j3⟩ := box4p hb
          go_simp
          (try (with_reducible rfl))
        (try simp only [Act.put, List.setIfInBounds_toArray, List.set_cons_zero, List.set_cons_succ])
        refine wpAnyH_take (i := 3) (oi := Oper.mk _ _ _ _ _ _) (v := ?_) rfl (by kernel_rfl) (by kernel_rfl) (by kernel_rfl) (fun _ _ _ h => h) (Or.inl ⟨by kernel_rfl, ?_⟩) hHeld ?_
        rotate_left 1
        · intro W hSw
          (try dsimp only at hSw)
          obtain ⟨hb, h0, h1, h2, h3⟩ := hSw
          obtain ⟨j0, j1, j2, j3⟩ := box4p hb
          go_simp
          (try (with_reducible rfl))
        (try simp only [Act.put, List.setIfInBounds_toArray, List.set_cons_zero, List.set_cons_succ])
        refine wpAnyH_take (i := 4) (oi := Oper.mk _ _ _ _ _ _) (v := ?_) rfl (by kernel_rfl) (by kernel_rfl) (by kernel_rfl) (fun _ _ _ h => h) (Or.inl ⟨by kernel_rfl, ?_⟩) hHeld ?_
        rotate_left 1
        · intro W hSw
          (try dsimp only at hSw)
          obtain ⟨hb, h0, h1, h2, h3⟩ := hSw
          obtain ⟨j0, j1, j2, j3⟩ := box4p hb
          go_simp
          (try (with_reducible rfl))
        (try simp only [Act.put, List.setIfInBounds_toArray, List.set_cons_zero, List.set_cons_succ])
        refine wpAnyH_take (i := 5) (oi := Oper.mk _ _ _ _ _ _) (v := ?_) rfl (by kernel_rfl) (by kernel_rfl) (by kernel_rfl) (fun _ _ _ h => h) (Or.inl ⟨by kernel_rfl, ?_⟩) hHeld ?_
        rotate_left 1
        · intro W hSw
          (try dsimp only at hSw)
          obtain ⟨hb, h0, h1, h2, h3⟩ := hSw
          obtain ⟨j0, j1, j2, j3⟩ := box4p hb
          go_simp
          (try (with_reducible rfl))
        (try simp only [Act.put, List.setIfInBounds_toArray, List.set_cons_zero, List.set_cons_succ])
        refine wpAnyH_take (i := 6) (oi := Oper.mk _ _ _ _ _ _) (v := ?_) rfl (by kernel_rfl) (by kernel_rfl) (by kernel_rfl) (fun _ _ _ h => h) (Or.inl ⟨by kernel_rfl, ?_⟩) hHeld ?_
        rotate_left 1
        · intro W hSw
          (try dsimp only at hSw)
          obtain ⟨hb, h0, h1, h2, h3⟩ := hSw
          obtain ⟨j0, j1, j2, j3⟩ := box4p hb
          go_simp
          (try (with_reducible rfl))
        (try simp only [Act.put, List.setIfInBounds_toArray, List.set_cons_zero, List.set_cons_succ])
        refine wpAnyH_take (i := 7) (oi := Oper.mk _ _ _ _ _ _) (v := ?_) rfl (by kernel_rfl) (by kernel_rfl) (by kernel_rfl) (fun _ _ _ h => h) (Or.inl ⟨by kernel_rfl, ?_⟩) hHeld ?_
        rotate_left 1
        · intro W hSw
          (try dsimp only at hSw)
          obtain ⟨hb, h0, h1, h2, h3⟩ := hSw
          obtain ⟨j0, j1, j2, j3⟩ := box4p hb
          go_simp
          (try (with_reducible rfl))
        (try simp only [Act.put, List.setIfInBounds_toArray, List.set_cons_zero, List.set_cons_succ])
        refine wpAnyH_ready (rs := [8]) (by kernel_rfl) (by simp) ?_
        refine AllReadyH.cons (o := Oper.mk _ _ _ _ _ _) rfl (fun K hK => ?_) AllReadyH.nil
        (try rw [if_pos (by kernel_rfl)])
        go_simp
        go_at_call 68
        refine (HC5.out _ hgg).mono ?_
        rintro e _ ⟨rfl, rfl⟩
        refine hK.out _ _ ?_ (fun hNew => ?_)
        · have hH := hHeld
          (try dsimp only at hH)
          (try dsimp only)
          with_reducible exact hH
        clear hK K hHeld
        have hHeld := hNew
        clear hNew
        (try simp only [Act.put, List.setIfInBounds_toArray, List.set_cons_zero, List.set_cons_succ])
        refine wpAnyH_take (i := 9) (oi := Oper.mk _ _ _ _ _ _) (v := ?_) rfl (by kernel_rfl) (by kernel_rfl) (by kernel_rfl) (fun _ _ _ h => h) (Or.inl ⟨by kernel_rfl, ?_⟩) hHeld ?_
        rotate_left 1
        · intro W hSw
          (try dsimp only at hSw)
          obtain ⟨hb, h0, h1, h2, h3⟩ := hSw
          obtain ⟨j0, j1, j2, j3⟩ := box4p hb
          go_simp
          (try (with_reducible rfl))
        (try simp only [Act.put, List.setIfInBounds_toArray, List.set_cons_zero, List.set_cons_succ])
        refine wpAnyH_done (by kernel_rfl) ?_ _
        refine NoPanic.normal ?_
        obtain ⟨hb, h0, h1, h2, h3⟩ := hHeld
        (try dsimp only at hb ho)
        have BME := hid hb
        have BRE := hid (keepB BR.out hgg)

        clear hb h0 h1 h2 h3
        go_wp2_with fail
        refine ⟨⟨i + 1, by omega, by omega, by go_num, hid (grown_trans HG.out hgg), BRE, hid ⟨g1, p1, n1, c1, q1, m1, d1, a1, k1, e1, BME.out, ?_, ?_⟩⟩, by simp [intOf]; omega⟩
        · rw [HNX.out, if_neg (by omega)]; exact HV1.out
        · rw [HNX.out, if_neg (by omega)]; exact HX1.out
    · obtain rfl : i = n := by omega
      obtain ⟨j0, j1, j2, j3⟩ := box4p BM.out
      obtain ⟨⟨z0, z1, z2, z3⟩, f0, f1, f2, f3⟩ := box4 BR.out
      have hgS := set4_grown wr r0 (.bool g1) (.slice p1 n1 c1) (.slice q1 m1 d1) (.slice a1 k1 e1)
      have hbE := set4 BR.out (.bool g1) (.slice p1 n1 c1) (.slice q1 m1 d1) (.slice a1 k1 e1)
      have HGE := hid (grown_new HG.out hgS (fun g' e => by cases e; exact hr0w))
      have BRE := hid hbE
      have HR := hid (And.intro hV1 hX1)
      clear hgS hbE hbm hV1 hX1
      go_wp2_with fail
      generalize (((wr.setCell _ _).setCell _ _).setCell _ _).setCell _ _ = wE at *
      obtain ⟨l0, l1, l2, l3⟩ := box4p BRE.out
      clear j0 j1 j2 j3 z0 z1 z2 z3 f0 f1 f2 f3
      exact bodyPost_ret (v := .tuple #[.agg #[.bool g1, .slice p1 n1 c1, .slice q1 m1 d1, .slice a1 k1 e1], .bool true]) (by simp [results, Tryz.results41, go_sem, l0, l1, l2, l3]) rfl ⟨g1, p1, n1, c1, q1, m1, d1, a1, k1, e1, rfl, HR.out, HGE.out⟩
end Go.Proofs.YtceoegmflbgckaaGreatDoor

set_option linter.unusedVariables false
set_option linter.unusedSimpArgs false
namespace Go.Proofs.YtceoegmflbgckaaGreatDoor
open Go Go.RowKit _root_.Nm
theorem stay_mono {w w' : World} {a1 : Option Addr} {k1 e1 : Nat} {xs : List Int} (h : ZRd w .i64 a1 k1 e1 xs) {G : Nat} {T : TypeId} (hg : w.grownBy w' (some G)) {g : Bool} {p : Option Addr} {n c : Nat} {q : Option Addr} {m d : Nat} {a : Option Addr} {k e : Nat} (hb : w.heap[G]? = some (.cells #[.bool g, .slice p n c, .slice q m d, .slice a k e] T (0, 0))) : ZRd w' .i64 a1 k1 e1 xs := by
  have hno : ∀ v ∈ #[Value.bool g, .slice p n c, .slice q m d, .slice a k e], ∀ x, v ≠ .int .i64 x := by simp
  have hS : ∀ G' O, w.heap[G']? = some O → ¬ G' = G → w'.heap[G']? = some O := fun G' O hG' hne => (hg.block G' (lt_of_block hG') (by simpa using hne)).trans hG'
  exact Stay.zrd (S := fun x => x = G) h (fun x hx hm e => h.notIn hb hno x hx hm e) w' hS
set_option maxHeartbeats 16000000 in
set_option maxRecDepth 100000 in
theorem lead6_v (H : Nat) (od : Int) {w : World} {b o n c : Nat} {P : List Tm} (hP : IsP w (some ⟨b, o, none⟩) n c P) (bP : BdP H P) (eP : ExP 1048576 P) (nP : NF P) (hH : H ≤ 9000) (hn : 0 < n) :
    Calls Tryz.prog 40 #[.slice (some ⟨b, o, none⟩) n c, .int .i64 od] w fun e w' => ∃ g3 p3 n3 c3 q3 m3 d3 a3 k3 e3, e = .returned (.tuple #[.agg #[.bool g3, .slice p3 n3 c3, .slice q3 m3 d3, .slice a3 k3 e3], .bool true]) ∧ (IsV w' g3 p3 n3 c3 q3 m3 d3 (ldI od P n).2 ∧ ZRd w' .i64 a3 k3 e3 (ldI od P n).1) ∧ w.grownBy w' none := by
  have hl := hP.len; have hc := hP.cap; have hmx := hP.max
  have hne0 : ((n : Int) == 0) = false := by simp; omega
  have gO := World.grownBy_alloc w (.cells #[.int .i64 od] 3 (0, 0)) none
  have gR := World.grownBy_alloc (w.alloc (.cells #[.int .i64 od] 3 (0, 0))) (.cells #[.bool false, .slice none 0 0, .slice none 0 0, .slice none 0 0] 33 (0, 0)) none
  have BO := hid (keepB (blk0 w (.cells #[.int .i64 od] 3 (0, 0))) gR)
  have hsz : (w.alloc (.cells #[.int .i64 od] 3 (0, 0))).heap.size = w.heap.size + 1 := by simp
  have hbR := blk0 (w.alloc (.cells #[.int .i64 od] 3 (0, 0))) (.cells #[.bool false, .slice none 0 0, .slice none 0 0, .slice none 0 0] 33 (0, 0))
  rw [hsz] at hbR
  have BR := hid hbR
  have HG := hid (grown_trans gO gR)
  clear gO gR hbR hsz
  by_cases ho : od = 1
  · subst ho
    have hmem := ldI_mem 1 (P := P) (by omega) n (by omega)
    have HMX := hid fun W (hg : w.grownBy W none) (bo : Nat) (hb : W.heap[bo]? = some (.cells #[.int .i64 1] 3 (0, 0))) => maxF_v 1 (hP.keep hg) eP hn hb
    have HFR := hid fun W g1 p1 n1 c1 q1 m1 d1 a1 k1 e1 (hV : IsV W g1 p1 n1 c1 q1 m1 d1 (ldI 1 P n).2) (hX : ZRd W .i64 a1 k1 e1 (ldI 1 P n).1) => fresh_v hV hX (by have := (hV.lens (bP _ hmem)).1; omega) (by have := (hV.lens (bP _ hmem)).2; omega) (by have := hX.len; have := (eP _ hmem).len; omega)
    clear hP bP eP nP hmem hn hl
    go_enter Tryz.func40, Tryz.ntmps40
    go_upto_region 3 with fail
    obtain ⟨bo, hbo⟩ : ∃ x, x = w.heap.size := ⟨_, rfl⟩
    obtain ⟨r0, hr0⟩ : ∃ x, x = w.heap.size + 1 := ⟨_, rfl⟩
    have hr0w : w.heap.size ≤ r0 := by omega
    rw [← hr0] at BR ⊢
    rw [← hbo] at BO ⊢
    clear hr0 hbo
    generalize ((w.alloc _).alloc _) = w0 at *
    have ko := cell_of_one BO.out
    go_wp2_with (first
      | (go_at_call 100; (with_reducible refine (HMX.out _ HG.out _ BO.out).mono ?_); rintro e w2 ⟨g1, p1, n1, c1, q1, m1, d1, a1, k1, e1, rfl, ⟨hV1, hX1⟩, hg2⟩; have HV1 := hid (hV1.keep hg2); have HX1 := hid (hX1.keep hg2); clear hV1 hX1)
      | (go_at_call 99; (with_reducible refine (HFR.out _ _ _ _ _ _ _ _ _ _ _ HV1.out HX1.out).mono ?_); rintro e w3 ⟨g3, p3, n3, c3, q3, m3, d3, a3, k3, e3, rfl, hV3, hX3, hg⟩; have hbR := keepB BR.out (grown_trans hg2 hg); obtain ⟨⟨z0, z1, z2, z3⟩, f0, f1, f2, f3⟩ := box4 hbR; have hgS := set4_grown w3 r0 (.bool g3) (.slice p3 n3 c3) (.slice q3 m3 d3) (.slice a3 k3 e3); have hbE := set4 hbR (.bool g3) (.slice p3 n3 c3) (.slice q3 m3 d3) (.slice a3 k3 e3); have hV4 := stay_rat hV3 hbE hgS hbR; have hX4 := stay_mono hX3 hgS hbR; have HGE := hid (grown_new (grown_trans HG.out (grown_trans hg2 hg)) hgS (fun g' e => by cases e; exact hr0w)); have HBE := hid hbE; have HV4 := hid hV4; have HX4 := hid hX4; clear hV3 hX3 hbE hgS hV4 hX4 hbR hg))
    generalize (((w3.setCell _ _).setCell _ _).setCell _ _).setCell _ _ = wE at *
    obtain ⟨l0, l1, l2, l3⟩ := box4p HBE.out
    clear z0 z1 z2 z3 f0 f1 f2 f3
    exact bodyPost_ret (v := .tuple #[.agg #[.bool g3, .slice p3 n3 c3, .slice q3 m3 d3, .slice a3 k3 e3], .bool true]) (by simp [results, Tryz.results40, go_sem, l0, l1, l2, l3]) rfl ⟨g3, p3, n3, c3, q3, m3, d3, a3, k3, e3, rfl, ⟨HV4.out, HX4.out⟩, HGE.out⟩
  · have hod : (od != 1) = true := by simpa using ho
    have hmem := ldI_mem od (P := P) (by omega) n (by omega)
    have hld := ldI_lex ho nP n (by omega)
    have ht0 : tmI P 0 = P[0] := tmI_at (by omega)
    obtain ⟨b', o', g1, p1, n1, c1, q1, m1, d1, a1, k1, e1, hbo', hxs, hV1, hX1⟩ := (hP.tms 0 (by omega)).out
    cases hbo'
    simp only [Nat.zero_mul, Nat.add_zero] at hxs
    obtain ⟨x0, x1, x2, x3⟩ := hxs
    rw [← ht0, ← hld] at hV1 hX1
    have HFR := hid fun W (hg : w.grownBy W none) => fresh_v (hV1.keep hg) (hX1.keep hg) (by have := (hV1.lens (bP _ hmem)).1; omega) (by have := (hV1.lens (bP _ hmem)).2; omega) (by have := hX1.len; have := (eP _ hmem).len; omega)
    replace x0 := HG.out.cell x0 (by simp); replace x1 := HG.out.cell x1 (by simp); replace x2 := HG.out.cell x2 (by simp); replace x3 := HG.out.cell x3 (by simp)
    clear hP bP eP nP hmem hl hV1 hX1 hld ht0
    go_enter Tryz.func40, Tryz.ntmps40
    go_upto_region 3 with fail
    obtain ⟨bo, hbo⟩ : ∃ x, x = w.heap.size := ⟨_, rfl⟩
    obtain ⟨r0, hr0⟩ : ∃ x, x = w.heap.size + 1 := ⟨_, rfl⟩
    have hr0w : w.heap.size ≤ r0 := by omega
    rw [← hr0] at BR ⊢
    rw [← hbo] at BO ⊢
    clear hr0 hbo
    generalize ((w.alloc _).alloc _) = w0 at *
    have ko := cell_of_one BO.out
    go_wp2_with (go_at_call 99; (with_reducible refine (HFR.out _ HG.out).mono ?_); rintro e w3 ⟨g3, p3, n3, c3, q3, m3, d3, a3, k3, e3, rfl, hV3, hX3, hg⟩; have hbR := keepB BR.out hg; obtain ⟨⟨z0, z1, z2, z3⟩, f0, f1, f2, f3⟩ := box4 hbR; have hgS := set4_grown w3 r0 (.bool g3) (.slice p3 n3 c3) (.slice q3 m3 d3) (.slice a3 k3 e3); have hbE := set4 hbR (.bool g3) (.slice p3 n3 c3) (.slice q3 m3 d3) (.slice a3 k3 e3); have hV4 := stay_rat hV3 hbE hgS hbR; have hX4 := stay_mono hX3 hgS hbR; have HGE := hid (grown_new (grown_trans HG.out hg) hgS (fun g' e => by cases e; exact hr0w)); have HBE := hid hbE; have HV4 := hid hV4; have HX4 := hid hX4; clear hV3 hX3 hbE hgS hV4 hX4 hbR hg)
    generalize (((w3.setCell _ _).setCell _ _).setCell _ _).setCell _ _ = wE at *
    obtain ⟨l0, l1, l2, l3⟩ := box4p HBE.out
    clear z0 z1 z2 z3 f0 f1 f2 f3
    exact bodyPost_ret (v := .tuple #[.agg #[.bool g3, .slice p3 n3 c3, .slice q3 m3 d3, .slice a3 k3 e3], .bool true]) (by simp [results, Tryz.results40, go_sem, l0, l1, l2, l3]) rfl ⟨g3, p3, n3, c3, q3, m3, d3, a3, k3, e3, rfl, ⟨HV4.out, HX4.out⟩, HGE.out⟩
set_option maxHeartbeats 4000000 in
set_option maxRecDepth 100000 in
theorem lead0_v (od : Int) {w : World} {p : Option Addr} {c : Nat} (hc : c ≤ 9223372036854775807) :
    Calls Tryz.prog 40 #[.slice p 0 c, .int .i64 od] w fun e w' => e = .returned (.tuple #[.agg #[.bool false, .slice none 0 0, .slice none 0 0, .slice none 0 0], .bool false]) ∧ w.grownBy w' none := by
  have gO := World.grownBy_alloc w (.cells #[.int .i64 od] 3 (0, 0)) none
  have gR := World.grownBy_alloc (w.alloc (.cells #[.int .i64 od] 3 (0, 0))) (.cells #[.bool false, .slice none 0 0, .slice none 0 0, .slice none 0 0] 33 (0, 0)) none
  have hsz : (w.alloc (.cells #[.int .i64 od] 3 (0, 0))).heap.size = w.heap.size + 1 := by simp
  have hbR := blk0 (w.alloc (.cells #[.int .i64 od] 3 (0, 0))) (.cells #[.bool false, .slice none 0 0, .slice none 0 0, .slice none 0 0] 33 (0, 0))
  rw [hsz] at hbR
  have BR := hid hbR
  have HG := hid (grown_trans gO gR)
  clear gO gR hbR hsz
  go_enter Tryz.func40, Tryz.ntmps40
  go_upto_region 2 with fail
  obtain ⟨r0, hr0⟩ : ∃ x, x = w.heap.size + 1 := ⟨_, rfl⟩
  have hr0w : w.heap.size ≤ r0 := by omega
  rw [← hr0] at BR ⊢
  clear hr0
  generalize ((w.alloc _).alloc _) = w0 at *
  obtain ⟨⟨z0, z1, z2, z3⟩, f0, f1, f2, f3⟩ := box4 BR.out
  have hgS := set4_grown w0 r0 (.bool false) (.slice none 0 0) (.slice none 0 0) (.slice none 0 0)
  have HBE := hid (set4 BR.out (.bool false) (.slice none 0 0) (.slice none 0 0) (.slice none 0 0))
  have HGE := hid (grown_new HG.out hgS (fun g' e => by cases e; exact hr0w))
  clear hgS
  go_wp2_with fail
  generalize (((w0.setCell _ _).setCell _ _).setCell _ _).setCell _ _ = wE at *
  obtain ⟨l0, l1, l2, l3⟩ := box4p HBE.out
  clear z0 z1 z2 z3 f0 f1 f2 f3
  exact bodyPost_ret (v := .tuple #[.agg #[.bool false, .slice none 0 0, .slice none 0 0, .slice none 0 0], .bool false]) (by simp [results, Tryz.results40, go_sem, l0, l1, l2, l3]) rfl ⟨rfl, HGE.out⟩
set_option maxHeartbeats 4000000 in
set_option maxRecDepth 100000 in
theorem rLead0_v (od : Int) {w : World} {p : Option Addr} {c : Nat} (hc : c ≤ 9223372036854775807) :
    Calls Tryz.prog 41 #[.slice p 0 c, .int .i64 od] w fun e w' => e = .returned (.tuple #[.agg #[.bool false, .slice none 0 0, .slice none 0 0, .slice none 0 0], .bool false]) ∧ w.grownBy w' none := by
  have gR := World.grownBy_alloc w (.cells #[.bool false, .slice none 0 0, .slice none 0 0, .slice none 0 0] 33 (0, 0)) none
  have BR := hid (blk0 w (.cells #[.bool false, .slice none 0 0, .slice none 0 0, .slice none 0 0] 33 (0, 0)))
  have HG := hid gR
  clear gR
  go_enter Tryz.func41, Tryz.ntmps41
  go_upto_region 2 with fail
  obtain ⟨r0, hr0⟩ : ∃ x, x = w.heap.size := ⟨_, rfl⟩
  have hr0w : w.heap.size ≤ r0 := by omega
  rw [← hr0] at BR ⊢
  clear hr0
  generalize w.alloc _ = w0 at *
  obtain ⟨⟨z0, z1, z2, z3⟩, f0, f1, f2, f3⟩ := box4 BR.out
  have hgS := set4_grown w0 r0 (.bool false) (.slice none 0 0) (.slice none 0 0) (.slice none 0 0)
  have HBE := hid (set4 BR.out (.bool false) (.slice none 0 0) (.slice none 0 0) (.slice none 0 0))
  have HGE := hid (grown_new HG.out hgS (fun g' e => by cases e; exact hr0w))
  clear hgS
  go_wp2_with fail
  generalize (((w0.setCell _ _).setCell _ _).setCell _ _).setCell _ _ = wE at *
  obtain ⟨l0, l1, l2, l3⟩ := box4p HBE.out
  clear z0 z1 z2 z3 f0 f1 f2 f3
  exact bodyPost_ret (v := .tuple #[.agg #[.bool false, .slice none 0 0, .slice none 0 0, .slice none 0 0], .bool false]) (by simp [results, Tryz.results41, go_sem, l0, l1, l2, l3]) rfl ⟨rfl, HGE.out⟩
end Go.Proofs.YtceoegmflbgckaaGreatDoor
