/-
  Contracts of functions of the program, part 9: GcdW, GcdB, Euclid, Lead, Diff, Rests.
-/
import Derived.Test.YtnfmjlomiihcnaaDoorMi8
import Derived.Lib.TrailingZeros
import Derived.IntWalk
import Derived.Deep.CutBlock
/-
  Contracts of math/bits.TrailingZeros64 and natural.wordGcd, where the table of package math/bits holds what its initialiser lays.
-/
set_option linter.unusedVariables false
set_option linter.unusedSimpArgs false
namespace Go.Proofs.YtnfmjlomiihcnaaDoor
open Go.RowKit Nm

/-- the table of package math/bits as its initialiser lays it -/
def Tb (w : World) : Prop := ∀ j, j < 64 → w.cell? ⟨2, j, none⟩ = some (.int .u8 (Lib.deBruijn64tab.getD j 0 : Nat))
theorem Tb.keep {w w' : World} (h : Tb w) (hg : w.grownBy w' none) : Tb w' := fun j hj => hg.cell (h j hj) (by simp)

theorem tz_key (x a : Nat) (hx : x < 18446744073709551616) (hx0 : x ≠ 0) (hlow : x &&& (18446744073709551616 - x) = a) :
    IntKind.u64.wrap (bits BinOp.and IntKind.u64 (x : Int) (IntKind.u64.wrap (-(x : Int))) * 285870213051353865) / 288230376151711744 = ((a * 285870213051353865 % 18446744073709551616 / 288230376151711744 : Nat) : Int) := by
  have e1 : IntKind.u64.wrap (-(x : Int)) = ((18446744073709551616 - x : Nat) : Int) := by rw [IntKind.wrap_u64]; omega
  rw [e1, bits_and_u64_nat x _ hx (by omega), hlow, IntKind.wrap_u64]
  omega

theorem tz64_core (x k idx : Nat) (w : World) (hx0 : ((x : Int) == 0) = false)
    (key : IntKind.u64.wrap (bits BinOp.and IntKind.u64 (x : Int) (IntKind.u64.wrap (-(x : Int))) * 285870213051353865) / 288230376151711744 = (idx : Int))
    (hi : idx < 64) (hk : k < 64) (hcell : w.cell? ⟨2, idx, none⟩ = some (.int .u8 k)) :
    Calls Tryd.prog 92 #[.int .u64 x] w fun e w' => e = .returned (.int .i64 k) ∧ w = w' := by
  go_enter Tryd.func92, Tryd.ntmps92
  go_wp2_with (simp only [key])
  go_ret
  exact ⟨rfl, rfl⟩

theorem tz64_any (x : Nat) (h0 : 0 < x) (hx : x < W64) (w : World) (hT : Tb w) :
    Calls Tryd.prog 92 #[.int .u64 x] w fun e w' => ∃ k : Nat, k < 64 ∧ e = .returned (.int .i64 k) ∧ Hid (∃ m, x = 2 ^ k * (2 * m + 1)) ∧ w = w' := by
  have hx' : x < 18446744073709551616 := hx
  obtain ⟨hlow, hk⟩ := Lib.lowest_bit 64 x (by omega) hx'
  obtain ⟨hi, htab⟩ := Lib.deBruijn64_at _ hk
  have hcell := hT _ hi
  rw [htab] at hcell
  have hc := tz64_core x _ _ w (beq_eq_false_iff_ne.2 (by omega)) (tz_key x _ hx' (by omega) hlow) hi hk hcell
  refine hc.mono fun e w' ⟨he, hw⟩ => ⟨_, hk, he, hid ?_, hw⟩
  unfold Lib.ctz
  rw [if_neg (by omega)]
  obtain ⟨m, hm, _⟩ := Lib.ctzFrom_spec 64 x h0 hx'
  exact ⟨m, hm⟩

set_option maxHeartbeats 1000000 in
theorem wordGcd_any (x y : Nat) (hx : x < W64) (hy : y < W64) (w : World) (hT : Tb w) :
    Calls Tryd.prog 57 #[.int .u64 x, .int .u64 y] w fun e w' => e = .returned (.int .u64 (Nat.gcd x y : Nat)) ∧ w = w' := by
  have hor : bits .or .u64 (x : Int) (y : Int) = ((x ||| y : Nat) : Int) := bits_or_u64_nat x y hx hy
  by_cases h0 : x = 0
  · subst h0
    have e0 : (((0 : Nat) : Int) == 0) = true := rfl
    rw [Nat.zero_or] at hor
    have hor' : bits .or .u64 (0 : Int) (y : Int) = (y : Int) := hor
    rw [Nat.gcd_zero_left]
    go_enter Tryd.func57, Tryd.ntmps57
    go_wp2
    go_ret
    exact ⟨rfl, rfl⟩
  · have e0 : (((x : Nat) : Int) == 0) = false := beq_eq_false_iff_ne.2 (by omega)
    by_cases h1 : y = 0
    · subst h1
      have e1 : (((0 : Nat) : Int) == 0) = true := rfl
      rw [Nat.or_zero] at hor
      have hor' : bits .or .u64 (x : Int) (0 : Int) = (x : Int) := hor
      rw [Nat.gcd_zero_right]
      go_enter Tryd.func57, Tryd.ntmps57
      go_wp2
      go_ret
      exact ⟨rfl, rfl⟩
    · have e1 : (((y : Nat) : Int) == 0) = false := beq_eq_false_iff_ne.2 (by omega)
      have hob : x ||| y < W64 := Nat.or_lt_two_pow (n := 64) hx hy
      have ho0 : 0 < x ||| y := Nat.lt_of_lt_of_le (by omega) (Nat.left_le_or (n := x) (m := y))
      obtain ⟨z, hz⟩ : ∃ z, z = x ||| y := ⟨_, rfl⟩
      rw [← hz] at hor hob ho0
      have HZ := hid hz
      have HOR := hid hor
      have HG := hid (rfl : Nat.gcd x y = Nat.gcd x y)
      have H1 := hid (tz64_any z ho0 hob w hT)
      have H2 := hid (tz64_any x (by omega) hx w hT)
      clear hz
      go_enter Tryd.func57, Tryd.ntmps57
      go_wp2_with fail
      refine H1.out.mono ?_
      rintro e w' ⟨t, ht, rfl, HT, rfl⟩
      go_wp2_with fail
      refine H2.out.mono ?_
      rintro e w' ⟨a, ha, rfl, HA, rfl⟩
      obtain ⟨m, hm⟩ := HT.out
      obtain ⟨p', hp⟩ := HA.out
      obtain ⟨c1, c2, c3⟩ := or_zeros (HZ.out.symm.trans hm)
      obtain ⟨P, hP⟩ : ∃ P, P = 2 * p' + 1 := ⟨_, rfl⟩
      rw [← hP] at hp
      have hP2 : P % 2 = 1 := by omega
      have hsplit := hid (gcd_split hp hP2 c1 c2 c3)
      have hxa : x / 2 ^ a = P := by rw [hp]; exact Nat.mul_div_cancel_left _ (Nat.pow_pos (by omega))
      have exa : (x : Int) / 2 ^ a = (P : Int) := by rw [← hxa]; simp
      have hPb : P < W64 := by rw [← hxa]; exact Nat.lt_of_le_of_lt (Nat.div_le_self _ _) hx
      have HP2 := hid hP2
      clear hm hp c1 c2 c3 hP hxa HT HA H1 H2 hor hP2 HOR
      go_wp2_with fail
      clear exa
      go_loop [0, 1] (fun s0 s1 => ∃ u v : Nat, s0 = .int .u64 u ∧ s1 = .int .u64 v ∧ u < W64 ∧ v < W64 ∧ Hid (u % 2 = 1 ∧ Nat.gcd u v = Nat.gcd P y)) (fun s0 s1 => (intOf s0 + intOf s1).toNat)
      case atStart => exact ⟨P, y, rfl, rfl, hPb, hy, hid ⟨HP2.out, rfl⟩⟩
      case round =>
        obtain ⟨u, v, rfl, rfl, hu, hv, HC⟩ := hrel
        by_cases hv0 : v = 0
        · subst hv0
          have ev : (((0 : Nat) : Int) != 0) = false := rfl
          have hg := HC.out.2
          rw [Nat.gcd_zero_right] at hg
          have hgb : u * 2 ^ t = Nat.gcd x y := by rw [hsplit.out, hg, Nat.mul_comm]
          have hlt : Nat.gcd x y < 18446744073709551616 := Nat.lt_of_le_of_lt (Nat.gcd_le_left y (by omega)) hx
          have esh : IntKind.u64.wrap ((u : Int) * 2 ^ t) = ((Nat.gcd x y : Nat) : Int) := by
            rw [show ((u : Int) * 2 ^ t) = ((u * 2 ^ t : Nat) : Int) by simp, hgb]; exact wrap_in _ hlt
          clear hg hgb hlt
          go_wp2_with fail
          go_ret
          exact ⟨rfl, rfl⟩
        · have ev : (((v : Nat) : Int) != 0) = true := by rw [bne_iff_ne]; omega
          go_wp2_with fail
          refine (tz64_any v (by omega) hv w hT).mono ?_
          rintro e w' ⟨k, hk, rfl, HK, rfl⟩
          obtain ⟨q', hq⟩ := HK.out
          obtain ⟨q, hq'⟩ : ∃ q, q = 2 * q' + 1 := ⟨_, rfl⟩
          rw [← hq'] at hq
          have hvk : v / 2 ^ k = q := by rw [hq]; exact Nat.mul_div_cancel_left _ (Nat.pow_pos (by omega))
          have evk : (v : Int) / 2 ^ k = (q : Int) := by rw [← hvk]; simp
          have hqv : q ≤ v := by rw [← hvk]; exact Nat.div_le_self _ _
          have hrd := hid (gcd_round HC.out.1 HC.out.2 hq (by omega))
          have HQ2 := hid (show q % 2 = 1 by omega)
          have hu1 : 1 ≤ u := by have := HC.out.1; omega
          have hq1 : 1 ≤ q := by omega
          clear hq hq' hvk HK ev
          by_cases hlt : q < u
          · have hlt' : (q : Int) < (u : Int) := by omega
            have esub : IntKind.u64.wrap ((u : Int) - (q : Int)) = ((u - q : Nat) : Int) := by rw [IntKind.wrap_u64]; unfold W64 at hu; omega
            obtain ⟨dd, hdd⟩ : ∃ dd, dd = u - q := ⟨_, rfl⟩
            rw [← hdd] at esub
            have hr := hid (hrd.out.2 hlt)
            rw [← hdd] at hr
            have HDD := hid hdd
            clear hdd
            go_wp2_with fail
            exact ⟨⟨q, dd, rfl, rfl, Nat.lt_of_le_of_lt hqv hv, by have := HDD.out; omega, hid ⟨HQ2.out, hr.out⟩⟩, by have := HDD.out; simp [intOf]; omega⟩
          · have hlt' : ¬ (q : Int) < (u : Int) := by omega
            have esub : IntKind.u64.wrap ((q : Int) - (u : Int)) = ((q - u : Nat) : Int) := by rw [IntKind.wrap_u64]; unfold W64 at hv; omega
            obtain ⟨dd, hdd⟩ : ∃ dd, dd = q - u := ⟨_, rfl⟩
            rw [← hdd] at esub
            have hr := hid (hrd.out.1 (by omega))
            rw [← hdd] at hr
            have HDD := hid hdd
            clear hdd
            go_wp2_with fail
            exact ⟨⟨u, dd, rfl, rfl, hu, by have := HDD.out; omega, hid ⟨HC.out.1, hr.out⟩⟩, by have := HDD.out; simp [intOf]; omega⟩
end Go.Proofs.YtnfmjlomiihcnaaDoor

/-
  Plain arithmetic of Lehmer's steps: what the leading bits determine. No program is mentioned here.
-/
set_option linter.unusedVariables false
namespace Nm
/-- what some steps of Euclid's algorithm on the leading bits A and C have made of them: the rests h and o, and their cofactors -/
structure Es (A C x0 y0 x1 y1 n h o : Nat) : Prop where
  eu : (n % 2 = 0 ∧ Eu A C x0 y0 x1 y1 h o) ∨ (n % 2 = 1 ∧ Eu C A y0 x0 y1 x1 h o)
  le : o ≤ h
  some : (n = 0 ∧ x0 = 1 ∧ y0 = 0 ∧ x1 = 0 ∧ y1 = 1) ∨ (1 ≤ n ∧ x0 ≤ y0 ∧ x1 ≤ y1 ∧ 1 ≤ y0 ∧ 1 ≤ x1 ∧ y1 ≤ o ∧ o + y0 + y1 ≤ h ∧ n ≤ y1)

theorem Es.start {A C : Nat} (h : C ≤ A) : Es A C 1 0 0 1 0 A C := ⟨.inl ⟨rfl, Eu.start A C⟩, h, .inl ⟨rfl, rfl, rfl, rfl, rfl⟩⟩

theorem Es.back {A C x0 y0 x1 y1 n h o : Nat} (e : Es A C x0 y0 x1 y1 n h o) : A = y1 * h + y0 * o ∧ C = x1 * h + x0 * o := by
  rcases e.eu with ⟨_, k⟩ | ⟨_, k⟩
  · exact k.back
  · exact ⟨k.back.2, k.back.1⟩

/-- the next cofactors fit -/
theorem Es.fits {A C x0 y0 x1 y1 n h o : Nat} (e : Es A C x0 y0 x1 y1 n h o) (ho : 0 < o) :
    (y0 + h / o * y1) * o ≤ A ∧ (x0 + h / o * x1) * o ≤ C ∧ y0 + h / o * y1 ≤ A ∧ x0 + h / o * x1 ≤ C ∧ 1 ≤ h / o := by
  obtain ⟨b1, b2⟩ := e.back
  have hq : h / o * o ≤ h := Nat.div_mul_le_self h o
  have f1 : (y0 + h / o * y1) * o ≤ A := by
    rw [b1, Nat.add_mul, Nat.mul_right_comm]
    have := Nat.mul_le_mul_right y1 hq
    rw [Nat.mul_comm h y1] at this; omega
  have f2 : (x0 + h / o * x1) * o ≤ C := by
    rw [b2, Nat.add_mul, Nat.mul_right_comm]
    have := Nat.mul_le_mul_right x1 hq
    rw [Nat.mul_comm h x1] at this; omega
  refine ⟨f1, f2, Nat.le_trans (Nat.le_mul_of_pos_right _ ho) f1, Nat.le_trans (Nat.le_mul_of_pos_right _ ho) f2, (Nat.le_div_iff_mul_le ho).2 (by have := e.le; omega)⟩

theorem Es.next {A C x0 y0 x1 y1 n h o : Nat} (e : Es A C x0 y0 x1 y1 n h o) (ho : 0 < o) (h1 : y0 + h / o * y1 ≤ h % o) (h2 : y1 + (y0 + h / o * y1) ≤ o - h % o) :
    Es A C x1 y1 (x0 + h / o * x1) (y0 + h / o * y1) (n + 1) o (h % o) := by
  have hq := (e.fits ho).2.2.2.2
  have hrest := Nat.mod_lt h ho
  have hdm : h = h / o * o + h % o := by rw [Nat.mul_comm]; exact (Nat.div_add_mod h o).symm
  generalize h / o = q at *
  generalize h % o = r at *
  refine ⟨?_, by omega, .inr ⟨by omega, ?_, ?_, ?_, ?_, h1, by omega, ?_⟩⟩
  · rcases e.eu with ⟨k1, k⟩ | ⟨k1, k⟩
    · exact .inr ⟨by omega, k.step q r hdm⟩
    · exact .inl ⟨by omega, k.step q r hdm⟩
  · rcases e.some with ⟨_, _, _, rfl, rfl⟩ | ⟨_, _, h3, _⟩
    · omega
    · exact h3
  · rcases e.some with ⟨_, rfl, rfl, rfl, rfl⟩ | ⟨_, k0, k1, _⟩
    · omega
    · have := Nat.mul_le_mul_left q k1; omega
  · rcases e.some with ⟨_, _, _, _, rfl⟩ | ⟨k0, _, _, _, _, _, _, k7⟩
    · omega
    · omega
  · rcases e.some with ⟨_, rfl, _, _, _⟩ | ⟨_, _, _, _, k4, _⟩
    · omega
    · have := Nat.mul_le_mul hq k4; omega
  · rcases e.some with ⟨rfl, _, rfl, _, rfl⟩ | ⟨_, _, _, k3, _, _, _, k7⟩
    · omega
    · have := Nat.mul_le_mul_right y1 hq; omega

theorem half_lt {y A : Nat} (h : y * y ≤ A) (hA : A < 18446744073709551616) : y < 4294967296 := by
  refine Nat.lt_of_not_le fun hge => ?_
  have := Nat.mul_le_mul hge hge
  omega

/-- the same steps on numbers that begin with these bits -/
theorem Es.lift {A C x0 y0 x1 y1 n h o : Nat} (e : Es A C x0 y0 x1 y1 n h o) (hn : 1 ≤ n) {K a' c' a c : Nat} (ha : a' < K) (hc : c' < K) (ea : a = A * K + a') (ec : c = C * K + c') :
    ∃ H O, O < H ∧ Nat.gcd H O = Nat.gcd a c ∧ H + O < a + c ∧ H ≤ a ∧
      (n % 2 = 0 → y0 * c ≤ x0 * a ∧ H = x0 * a - y0 * c ∧ x1 * a ≤ y1 * c ∧ O = y1 * c - x1 * a) ∧ (n % 2 = 1 → x0 * a ≤ y0 * c ∧ H = y0 * c - x0 * a ∧ y1 * c ≤ x1 * a ∧ O = x1 * a - y1 * c) := by
  rcases e.some with ⟨k0, _⟩ | ⟨_, k1, k2, k3, k4, k5, k6, k7⟩
  · omega
  rcases e.eu with ⟨m, k⟩ | ⟨m, k⟩
  · obtain ⟨l1, l2, l3, l4⟩ := k.lift (M0 := y0) (M1 := y1) ha hc ea ec (Nat.le_refl _) k2 (Nat.le_refl _) (by omega) k5 (by omega)
    obtain ⟨b1, b2⟩ := l4.back
    generalize hH : x0 * a - y0 * c = H at *
    generalize hO : y1 * c - x1 * a = O at *
    have p1 : 1 * H ≤ y1 * H := Nat.mul_le_mul_right _ (by omega)
    have p2 : 1 * O ≤ y0 * O := Nat.mul_le_mul_right _ k3
    have p3 : 1 * H ≤ x1 * H := Nat.mul_le_mul_right _ k4
    exact ⟨H, O, l3, l4.gcd, by omega, by omega, fun _ => ⟨l1, hH.symm ▸ rfl, l2, hO.symm ▸ rfl⟩, fun h => by omega⟩
  · obtain ⟨l1, l2, l3, l4⟩ := k.lift (M0 := x0) (M1 := y1) hc ha ec ea (Nat.le_refl _) (Nat.le_refl _) k2 (by omega) k5 (by omega)
    obtain ⟨b1, b2⟩ := l4.back
    generalize hH : y0 * c - x0 * a = H at *
    generalize hO : x1 * a - y1 * c = O at *
    have p1 : 1 * H ≤ y1 * H := Nat.mul_le_mul_right _ (by omega)
    have p2 : 1 * O ≤ y0 * O := Nat.mul_le_mul_right _ k3
    have p3 : 1 * H ≤ x1 * H := Nat.mul_le_mul_right _ k4
    exact ⟨H, O, l3, by rw [l4.gcd, Nat.gcd_comm], by omega, by omega, fun h => by omega, fun _ => ⟨l1, hH.symm ▸ rfl, l2, hO.symm ▸ rfl⟩⟩
end Nm

/-
  Contract of natural.euclid: the steps that the leading bits determine.
-/
set_option linter.unusedVariables false
set_option linter.unusedSimpArgs false
namespace Go.Proofs.YtnfmjlomiihcnaaDoor
open Go.RowKit Nm

/-- the five cells of a struct rests -/
def Rst (w : World) (g x0 y0 x1 y1 n : Nat) : Prop := w.heap[g]? = some (.cells #[.int .u64 x0, .int .u64 y0, .int .u64 x1, .int .u64 y1, .int .i64 n] 103 (0, 0))

theorem Rst.facts {w : World} {g x0 y0 x1 y1 n : Nat} (h : Rst w g x0 y0 x1 y1 n) :
    w.cell? ⟨g, 0, none⟩ = some (.int .u64 x0) ∧ w.cell? ⟨g, 1, none⟩ = some (.int .u64 y0) ∧ w.cell? ⟨g, 2, none⟩ = some (.int .u64 x1) ∧ w.cell? ⟨g, 3, none⟩ = some (.int .u64 y1) ∧ w.cell? ⟨g, 4, none⟩ = some (.int .i64 n) ∧
      w.frozen? ⟨g, 0, none⟩ = false ∧ w.frozen? ⟨g, 1, none⟩ = false ∧ w.frozen? ⟨g, 2, none⟩ = false ∧ w.frozen? ⟨g, 3, none⟩ = false ∧ w.frozen? ⟨g, 4, none⟩ = false := by
  unfold Rst at h
  have k := fun j => cell_of_row w g j _ _ _ h
  have f := fun j => frozen_of_row w g j _ _ h
  exact ⟨by rw [k]; rfl, by rw [k]; rfl, by rw [k]; rfl, by rw [k]; rfl, by rw [k]; rfl, f 0, f 1, f 2, f 3, f 4⟩

theorem Rst.set5 {w : World} {g x0 y0 x1 y1 n : Nat} (h : Rst w g x0 y0 x1 y1 n) (a b c d m : Nat) :
    Rst (((((w.setCell ⟨g, 0, none⟩ (.int .u64 a)).setCell ⟨g, 1, none⟩ (.int .u64 b)).setCell ⟨g, 2, none⟩ (.int .u64 c)).setCell ⟨g, 3, none⟩ (.int .u64 d)).setCell ⟨g, 4, none⟩ (.int .i64 m)) g a b c d m := by
  unfold Rst at h ⊢
  rw [heap_setCell_same _ g 4 _ _ _ (heap_setCell_same _ g 3 _ _ _ (heap_setCell_same _ g 2 _ _ _ (heap_setCell_same _ g 1 _ _ _ (heap_setCell_same _ g 0 _ _ _ h))))]
  simp
theorem Rst.kept {w w' : World} {g x0 y0 x1 y1 n : Nat} (h : Rst w g x0 y0 x1 y1 n) {row : Option Nat} (hg : w.grownBy w' row) (hne : some g ≠ row) : Rst w' g x0 y0 x1 y1 n := (hg.block g (lt_of_block h) hne).trans h
theorem grown_set5 (w : World) (g : Nat) (a b c d e : Value) : w.grownBy (((((w.setCell ⟨g, 0, none⟩ a).setCell ⟨g, 1, none⟩ b).setCell ⟨g, 2, none⟩ c).setCell ⟨g, 3, none⟩ d).setCell ⟨g, 4, none⟩ e) (some g) :=
  grown_trans (grown_trans (grown_trans (grown_trans (grown_setCell w ⟨g, 0, none⟩ a) (grown_setCell _ ⟨g, 1, none⟩ b)) (grown_setCell _ ⟨g, 2, none⟩ c)) (grown_setCell _ ⟨g, 3, none⟩ d)) (grown_setCell _ ⟨g, 4, none⟩ e)

set_option maxHeartbeats 2000000 in
theorem euclid_any (A C : Nat) (hA : A < W64) (hC : C ≤ A) (w : World) :
    Calls Tryd.prog 93 #[.int .u64 A, .int .u64 C] w fun e w' => ∃ x0 y0 x1 y1 n : Nat, e = .returned (.agg #[.int .u64 x0, .int .u64 y0, .int .u64 x1, .int .u64 y1, .int .i64 n]) ∧ x0 < W64 ∧ y0 < W64 ∧ x1 < W64 ∧ y1 < W64 ∧ n ≤ 4294967296 ∧
      Hid (∃ h o, Es A C x0 y0 x1 y1 n h o) ∧ w.grownBy w' none := by
  go_enter Tryd.func93, Tryd.ntmps93
  go_wp2_with fail
  obtain ⟨g4, hg4⟩ : ∃ g, g = w.heap.size := ⟨_, rfl⟩
  have hb5 : Rst ((w.alloc (.cells #[.int .u64 (0 : Nat), .int .u64 (0 : Nat), .int .u64 (0 : Nat), .int .u64 (0 : Nat), .int .i64 (0 : Nat)] 103)).alloc (.cells #[.int .u64 (1 : Nat), .int .u64 (0 : Nat), .int .u64 (0 : Nat), .int .u64 (1 : Nat), .int .i64 (0 : Nat)] 103)) (w.heap.size + 1) 1 0 0 1 0 := by
    have := heap_alloc_new (w.alloc (.cells #[.int .u64 (0 : Nat), .int .u64 (0 : Nat), .int .u64 (0 : Nat), .int .u64 (0 : Nat), .int .i64 (0 : Nat)] 103)) (.cells #[.int .u64 (1 : Nat), .int .u64 (0 : Nat), .int .u64 (0 : Nat), .int .u64 (1 : Nat), .int .i64 (0 : Nat)] 103)
    simpa [Rst] using this
  have hb4 : Rst ((w.alloc (.cells #[.int .u64 (0 : Nat), .int .u64 (0 : Nat), .int .u64 (0 : Nat), .int .u64 (0 : Nat), .int .i64 (0 : Nat)] 103)).alloc (.cells #[.int .u64 (1 : Nat), .int .u64 (0 : Nat), .int .u64 (0 : Nat), .int .u64 (1 : Nat), .int .i64 (0 : Nat)] 103)) w.heap.size 0 0 0 0 0 :=
    (Below.heap_alloc (w.alloc _) _ w.heap.size (by simp)).trans (heap_alloc_new w _)
  have hgw : w.grownBy ((w.alloc (.cells #[.int .u64 (0 : Nat), .int .u64 (0 : Nat), .int .u64 (0 : Nat), .int .u64 (0 : Nat), .int .i64 (0 : Nat)] 103)).alloc (.cells #[.int .u64 (1 : Nat), .int .u64 (0 : Nat), .int .u64 (0 : Nat), .int .u64 (1 : Nat), .int .i64 (0 : Nat)] 103)) none :=
    grown_trans (World.grownBy_alloc _ _ none) (World.grownBy_alloc _ _ none)
  rw [← hg4] at hb4 hb5 ⊢
  have HG := hid hg4
  clear hg4
  go_loopw [0, 1] (fun s0 s1 wr => ∃ hi o x0 y0 x1 y1 n : Nat, s0 = .int .u64 hi ∧ s1 = .int .u64 o ∧ hi < W64 ∧ o < W64 ∧ x0 < W64 ∧ y0 < W64 ∧ x1 < W64 ∧ y1 < W64 ∧ n ≤ 4294967296 ∧ Rst wr (g4 + 1) x0 y0 x1 y1 n ∧ Rst wr g4 0 0 0 0 0 ∧ w.grownBy wr none ∧ Hid (Es A C x0 y0 x1 y1 n hi o)) (fun _ s1 _ => (intOf s1).toNat)
  case atStart => exact ⟨A, C, 1, 0, 0, 1, 0, rfl, rfl, hA, Nat.lt_of_le_of_lt hC hA, by decide, by decide, by decide, by decide, by omega, hb5, hb4, hgw, hid (Es.start hC)⟩
  case round =>
    clear hb4 hb5 hgw
    obtain ⟨hi, o, x0, y0, x1, y1, n, rfl, rfl, hh, ho, b0, b1, b2, b3, hn, hr5, hr4, hgr, HE⟩ := hrel
    obtain ⟨c0, c1, c2, c3, c4, f0, f1, f2, f3, f4⟩ := hr5.facts
    by_cases hpos : 0 < o
    · have hpos' : (0 : Int) < (o : Int) := by omega
      have ho1 : (1 : Int) ≤ (o : Int) := by omega
      have hfit := HE.out.fits hpos
      obtain ⟨q, hq⟩ : ∃ q, q = hi / o := ⟨_, rfl⟩
      obtain ⟨r, hr⟩ : ∃ r, r = hi % o := ⟨_, rfl⟩
      have hro : r < o := by rw [hr]; exact Nat.mod_lt _ hpos
      have hqb : q < W64 := by rw [hq]; exact Nat.lt_of_le_of_lt (Nat.div_le_self _ _) hh
      have HN := hid (fun h1 h2 => HE.out.next hpos h1 h2)
      rw [← hq] at hfit HN
      rw [← hr] at HN
      obtain ⟨m1, hm1⟩ : ∃ m, m = q * x1 := ⟨_, rfl⟩
      obtain ⟨m2, hm2⟩ : ∃ m, m = q * y1 := ⟨_, rfl⟩
      obtain ⟨X, hX⟩ : ∃ X, X = x0 + m1 := ⟨_, rfl⟩
      obtain ⟨Y, hY⟩ : ∃ Y, Y = y0 + m2 := ⟨_, rfl⟩
      rw [← hm1, ← hm2, ← hX, ← hY] at hfit HN
      have hYA : Y ≤ A := hfit.2.2.1
      have hXC : X ≤ C := hfit.2.2.2.1
      have hYo : Y * o ≤ A := hfit.1
      unfold W64 at hA
      have e1 : IntKind.u64.wrap ((hi : Int) / (o : Int)) = (q : Int) := by rw [hq, ← Int.natCast_ediv]; exact wrap_in _ (Nat.lt_of_le_of_lt (Nat.div_le_self _ _) hh)
      have e2 : (hi : Int).tmod (o : Int) = (r : Int) := by rw [hr]; rfl
      have e2' : (hi : Int) % (o : Int) = (r : Int) := by rw [hr]; simp
      have e3 : IntKind.u64.wrap ((q : Int) * (x1 : Int)) = (m1 : Int) := by rw [cast_mul, ← hm1]; exact wrap_in _ (by omega)
      have e4 : IntKind.u64.wrap ((q : Int) * (y1 : Int)) = (m2 : Int) := by rw [cast_mul, ← hm2]; exact wrap_in _ (by omega)
      have e5 : IntKind.u64.wrap ((x0 : Int) + (m1 : Int)) = (X : Int) := by rw [cast_add, ← hX]; exact wrap_in _ (by omega)
      have e6 : IntKind.u64.wrap ((y0 : Int) + (m2 : Int)) = (Y : Int) := by rw [cast_add, ← hY]; exact wrap_in _ (by omega)
      have e7 : IntKind.i64.wrap ((n : Int) + 1) = ((n + 1 : Nat) : Int) := by have := IntWalk.i64_in ((n : Int) + 1) (by omega); rw [this]; simp
      have HF := hid (And.intro hYo (And.intro hYA hXC))
      have hyY : y1 ≤ Y := by
        rw [hY, hm2]
        have := Nat.le_mul_of_pos_left y1 (show 0 < q from hfit.2.2.2.2); omega
      clear hq hr hm1 hm2 hX hY hYo hYA hXC hfit
      go_wp2_with fail
      go_quiet (fail)
      replace hr5 : Rst (wr.drewN nq) (g4 + 1) x0 y0 x1 y1 n := hr5
      replace hr4 : Rst (wr.drewN nq) g4 0 0 0 0 0 := hr4
      replace hgr := gdN hgr nq
      clear c0 c1 c2 c3 c4 f0 f1 f2 f3 f4
      generalize wr.drewN nq = wz at *
      obtain ⟨c0, c1, c2, c3, c4, f0, f1, f2, f3, f4⟩ := hr5.facts
      go_upto_region 5 with fail
      have hl5 := lt_of_block hr5
      have hl4 := lt_of_block hr4
      have hgA := World.grownBy_alloc wz (.cells #[.int .u64 x1, .int .u64 y1, .int .u64 X, .int .u64 Y, .int .i64 ((n : Int) + 1)] 103) none
      have hr8 : Rst (wz.alloc (.cells #[.int .u64 x1, .int .u64 y1, .int .u64 X, .int .u64 Y, .int .i64 ((n : Int) + 1)] 103)) wz.heap.size x1 y1 X Y (n + 1) := by
        have := heap_alloc_new wz (.cells #[.int .u64 x1, .int .u64 y1, .int .u64 X, .int .u64 Y, .int .i64 ((n : Int) + 1)] 103)
        unfold Rst; simpa using this
      replace hr5 := hr5.kept hgA (by simp)
      replace hr4 := hr4.kept hgA (by simp)
      replace hgr := grown_trans hgr hgA
      clear hgA c0 c1 c2 c3 c4 f0 f1 f2 f3 f4
      generalize wz.alloc (.cells #[.int .u64 x1, .int .u64 y1, .int .u64 X, .int .u64 Y, .int .i64 ((n : Int) + 1)] 103) = wy at *
      generalize wz.heap.size = g8 at *
      obtain ⟨c0, c1, c2, c3, c4, f0, f1, f2, f3, f4⟩ := hr5.facts
      obtain ⟨p0, p1, p2, p3, p4, _, _, _, _, _⟩ := hr8.facts
      obtain ⟨k0, k1, k2, k3, k4, z0, z1, z2, z3, z4⟩ := hr4.facts
      by_cases hA1 : r < Y
      · have hA1' : (r : Int) < (Y : Int) := by omega
        go_wp2_with fail
        exact bodyPost_ret (v := .agg #[.int .u64 x0, .int .u64 y0, .int .u64 x1, .int .u64 y1, .int .i64 n]) (by simp [results, Tryd.results93, go_sem, k0, k1, k2, k3, k4]) rfl
          ⟨x0, y0, x1, y1, n, rfl, b0, b1, b2, b3, hn, hid ⟨hi, o, HE.out⟩, grown_new hgr (grown_set5 _ _ _ _ _ _ _) (fun g' e' => by cases e'; have := HG.out; omega)⟩
      · have hA1' : ¬ (r : Int) < (Y : Int) := by omega
        have hYb : Y < 4294967296 := half_lt (Nat.le_trans (Nat.mul_le_mul_left Y (show Y ≤ o by omega)) HF.out.1) hA
        obtain ⟨dd, hdd⟩ : ∃ dd, dd = o - r := ⟨_, rfl⟩
        obtain ⟨S, hS⟩ : ∃ S, S = y1 + Y := ⟨_, rfl⟩
        have e8 : IntKind.u64.wrap ((o : Int) - (r : Int)) = (dd : Int) := by unfold W64 at ho; rw [IntKind.wrap_u64]; omega
        have e9 : IntKind.u64.wrap ((y1 : Int) + (Y : Int)) = (S : Int) := by rw [IntKind.wrap_u64]; omega
        have HDS := hid (And.intro hdd hS)
        clear hdd hS
        by_cases hB1 : dd < S
        · have hB1' : (dd : Int) < (S : Int) := by omega
          go_wp2_with fail
          exact bodyPost_ret (v := .agg #[.int .u64 x0, .int .u64 y0, .int .u64 x1, .int .u64 y1, .int .i64 n]) (by simp [results, Tryd.results93, go_sem, k0, k1, k2, k3, k4]) rfl
            ⟨x0, y0, x1, y1, n, rfl, b0, b1, b2, b3, hn, hid ⟨hi, o, HE.out⟩, grown_new hgr (grown_set5 _ _ _ _ _ _ _) (fun g' e' => by cases e'; have := HG.out; omega)⟩
        · have hB1' : ¬ (dd : Int) < (S : Int) := by omega
          have hnx := hid (HN.out (by omega) (by have := HDS.out; omega))
          have hny : n + 1 ≤ 4294967296 := by
            rcases hnx.out.some with ⟨h0, _⟩ | ⟨_, _, _, _, _, _, _, h7⟩
            · omega
            · omega
          go_wp2_with fail
          refine ⟨⟨o, r, x1, y1, X, Y, n + 1, rfl, rfl, ho, by omega, b2, b3, ?_, ?_, hny, Rst.set5 hr5 x1 y1 X Y (n + 1), hr4.kept (grown_set5 _ _ _ _ _ _ _) (by simp), grown_new hgr (grown_set5 _ _ _ _ _ _ _) (fun g' e' => by cases e'; have := HG.out; omega), hnx⟩, by simp [intOf]; omega⟩
          · have := HF.out.2.2; unfold W64; omega
          · unfold W64; omega
    · obtain rfl : o = 0 := by omega
      obtain ⟨k0, k1, k2, k3, k4, z0, z1, z2, z3, z4⟩ := hr4.facts
      go_wp2_with fail
      exact bodyPost_ret (v := .agg #[.int .u64 x0, .int .u64 y0, .int .u64 x1, .int .u64 y1, .int .i64 n]) (by simp [results, Tryd.results93, go_sem, k0, k1, k2, k3, k4]) rfl
        ⟨x0, y0, x1, y1, n, rfl, b0, b1, b2, b3, hn, hid ⟨hi, 0, HE.out⟩, grown_new hgr (grown_set5 _ _ _ _ _ _ _) (fun g' e' => by cases e'; have := HG.out; omega)⟩
end Go.Proofs.YtnfmjlomiihcnaaDoor

/-
  Contract of natural.leading: the highest bits of two numbers, at the same places.
-/
set_option linter.unusedVariables false
set_option linter.unusedSimpArgs false
namespace Go.Proofs.YtnfmjlomiihcnaaDoor
open Go.RowKit Nm

/-- A and C are the numbers a and c without the same number of low bits -/
def IsLead (a c A C : Nat) : Prop := ∃ K a' c', 0 < K ∧ a' < K ∧ c' < K ∧ a = A * K + a' ∧ c = C * K + c'

theorem top_two {W : Nat} (hW : 1 < W) (xs : List Nat) (hd : Dg W xs) (m : Nat) (hl : xs.length = m + 2) (T : Nat) (hT : 0 < T) :
    V W xs / (W ^ m * T) = (xs[m + 1] * W + xs[m]) / T := by
  obtain ⟨lo, h1, h2⟩ := two_top hW xs hd m hl
  rw [← Nat.div_div_eq_div_mul, h2, Nat.mul_comm, Nat.mul_add_div (Nat.pow_pos (by omega)), Nat.div_eq_of_lt h1, Nat.add_zero]

theorem lead_word {S T W x1 x0 : Nat} (hST : S * T = W) (hT : 0 < T) : (x1 * W + x0) / T = x1 * S + x0 / T := by
  rw [← hST, ← Nat.mul_assoc, Nat.add_comm, Nat.mul_comm, Nat.add_mul_div_left _ _ hT, Nat.add_comm]

set_option maxHeartbeats 2000000 in
theorem leading_any (ax ay : Option Addr) (m cx cy : Nat) (xs ys : List Nat) (w : World) (hx : IRd w .u64 ax (m + 2) cx xs) (hy : IRd w .u64 ay (m + 2) cy ys) (hxd : Dg W64 xs) (hyd : Dg W64 ys) (hm : m ≤ 900000)
    (htop : ∀ t, xs[m + 1]? = some t → 0 < t) (hle : V W64 ys ≤ V W64 xs) :
    Calls Tryd.prog 94 #[.slice ax (m + 2 : Nat) cx, .slice ay (m + 2 : Nat) cy] w fun e w' => ∃ A C : Nat, e = .returned (.tuple #[.int .u64 A, .int .u64 C]) ∧ A < W64 ∧ C ≤ A ∧ Hid (IsLead (V W64 xs) (V W64 ys) A C) ∧ ∃ n, w' = w.drewN n := by
  have hxl : xs.length = m + 2 := hx.len
  have hyl : ys.length = m + 2 := hy.len
  have hxm := hx.max
  have hxc := hx.cap
  have hym := hy.max
  have hyc := hy.cap
  obtain ⟨bx, ox, rfl, hx1⟩ := hx.cel (m + 1) (by omega)
  obtain ⟨by', oy, rfl, hy1⟩ := hy.cel (m + 1) (by omega)
  obtain ⟨bx', ox', ex, hx0⟩ := hx.cel m (by omega)
  cases ex
  obtain ⟨by2, oy2, ey, hy0⟩ := hy.cel m (by omega)
  cases ey
  obtain ⟨u1, hu1⟩ : ∃ u, u = xs[m + 1]'(by omega) := ⟨_, rfl⟩
  obtain ⟨u0, hu0⟩ : ∃ u, u = xs[m]'(by omega) := ⟨_, rfl⟩
  obtain ⟨v1, hv1⟩ : ∃ u, u = ys[m + 1]'(by omega) := ⟨_, rfl⟩
  obtain ⟨v0, hv0⟩ : ∃ u, u = ys[m]'(by omega) := ⟨_, rfl⟩
  rw [← hu1] at hx1
  rw [← hu0] at hx0
  rw [← hv1] at hy1
  rw [← hv0] at hy0
  have bu1 : u1 < W64 := by rw [hu1]; exact hxd.get _ _
  have bu0 : u0 < W64 := by rw [hu0]; exact hxd.get _ _
  have bv1 : v1 < W64 := by rw [hv1]; exact hyd.get _ _
  have bv0 : v0 < W64 := by rw [hv0]; exact hyd.get _ _
  have hpos : 0 < u1 := htop u1 (by rw [List.getElem?_eq_getElem (by omega), hu1])
  have hvu : v1 ≤ u1 := by
    rw [hu1, hv1, dig_get xs hxd (m + 1) (by omega), dig_get ys hyd (m + 1) (by omega)]
    have h1 : V W64 xs / W64 ^ (m + 1) < W64 := Nat.div_lt_of_lt_mul (by have := hxd.lt; rw [hxl, Nat.pow_succ] at this; exact this)
    have h2 : V W64 ys / W64 ^ (m + 1) < W64 := Nat.div_lt_of_lt_mul (by have := hyd.lt; rw [hyl, Nat.pow_succ] at this; exact this)
    rw [Nat.mod_eq_of_lt h1, Nat.mod_eq_of_lt h2]
    exact Nat.div_le_div_right hle
  have L1 := hid (lz_any u1 hpos bu1 w)
  have HUV := hid (And.intro hu1 (And.intro hu0 (And.intro hv1 hv0)))
  have HLE := hid hle
  clear hu1 hu0 hv1 hv0 hle htop
  have hm1 : (0 : Int) ≤ (m : Int) + 2 - 1 := by omega
  have hm2 : (0 : Int) ≤ (m : Int) + 2 - 2 := by omega
  go_enter Tryd.func94, Tryd.ntmps94
  go_wp2_with fail
  refine L1.out.mono ?_
  rintro e w' ⟨s, hs, rfl, HL, rfl⟩
  obtain ⟨T, hT⟩ : ∃ T, T = 64 - s := ⟨_, rfl⟩
  have hST : 2 ^ s * 2 ^ T = W64 := by rw [hT]; exact two_pow_cut s hs
  have hT0 : 0 < 2 ^ T := Nat.pow_pos (by omega)
  have l1 := HL.out.2.2
  have l2 : v1 * 2 ^ s < 18446744073709551616 := Nat.lt_of_le_of_lt (Nat.mul_le_mul_right _ hvu) l1
  obtain ⟨H1, hH1⟩ : ∃ H, H = u1 * 2 ^ s := ⟨_, rfl⟩
  obtain ⟨H2, hH2⟩ : ∃ H, H = v1 * 2 ^ s := ⟨_, rfl⟩
  obtain ⟨L1', hL1⟩ : ∃ H, H = u0 / 2 ^ T := ⟨_, rfl⟩
  obtain ⟨L2', hL2⟩ : ∃ H, H = v0 / 2 ^ T := ⟨_, rfl⟩
  rw [← hH1] at l1
  rw [← hH2] at l2
  have k1 : L1' < 2 ^ s := by rw [hL1]; exact Nat.div_lt_of_lt_mul (by rw [Nat.mul_comm, hST]; exact bu0)
  have k2 : L2' < 2 ^ s := by rw [hL2]; exact Nat.div_lt_of_lt_mul (by rw [Nat.mul_comm, hST]; exact bv0)
  have hpw : 2 ^ s < 18446744073709551616 := Nat.lt_of_lt_of_le (Nat.pow_lt_pow_right (by omega) (show s < 64 by omega)) (by decide)
  obtain ⟨A, hA⟩ : ∃ A, A = H1 + L1' := ⟨_, rfl⟩
  obtain ⟨C, hC⟩ : ∃ C, C = H2 + L2' := ⟨_, rfl⟩
  have eH1 : IntKind.u64.wrap ((u1 : Int) * 2 ^ s) = (H1 : Int) := by rw [show ((u1 : Int) * 2 ^ s) = ((u1 * 2 ^ s : Nat) : Int) by simp, ← hH1]; exact wrap_in _ l1
  have eH2 : IntKind.u64.wrap ((v1 : Int) * 2 ^ s) = (H2 : Int) := by rw [show ((v1 : Int) * 2 ^ s) = ((v1 * 2 ^ s : Nat) : Int) by simp, ← hH2]; exact wrap_in _ l2
  have eL1 : (u0 : Int) / 2 ^ T = (L1' : Int) := by rw [hL1]; simp
  have eL2 : (v0 : Int) / 2 ^ T = (L2' : Int) := by rw [hL2]; simp
  have eT : IntKind.i64.wrap (64 - (s : Int)) = (T : Int) := by rw [IntWalk.i64_in _ (by omega)]; omega
  have eT2 : (64 : Int) - (s : Int) = (T : Int) := by omega
  have ei1 : IntKind.i64.wrap ((m : Int) + 2 - 1) = (m : Int) + 2 - 1 := IntWalk.i64_in _ (by omega)
  have ei2 : IntKind.i64.wrap ((m : Int) + 2 - 2) = (m : Int) + 2 - 2 := IntWalk.i64_in _ (by omega)
  have eO1 : bits .or .u64 (H1 : Int) (L1' : Int) = (A : Int) := by rw [bits_or_u64_nat _ _ l1 (by omega), nat_join s _ _ (by rw [hH1]; exact Nat.mul_mod_left _ _) k1, hA]
  have eO2 : bits .or .u64 (H2 : Int) (L2' : Int) = (C : Int) := by rw [bits_or_u64_nat _ _ l2 (by omega), nat_join s _ _ (by rw [hH2]; exact Nat.mul_mod_left _ _) k2, hC]
  have hs0 : (0 : Int) ≤ (s : Int) := by omega
  have hT1 : (0 : Int) ≤ (T : Int) := by omega
  have fA : V W64 xs / (W64 ^ m * 2 ^ T) = A := by
    rw [top_two (by decide) xs hxd m hxl _ hT0, ← HUV.out.1, ← HUV.out.2.1, lead_word hST hT0, hA, hH1, hL1]
  have fC : V W64 ys / (W64 ^ m * 2 ^ T) = C := by
    rw [top_two (by decide) ys hyd m hyl _ hT0, ← HUV.out.2.2.1, ← HUV.out.2.2.2, lead_word hST hT0, hC, hH2, hL2]
  have hK : 0 < W64 ^ m * 2 ^ T := Nat.mul_pos (Nat.pow_pos (by decide)) hT0
  have hfin : A < W64 ∧ C ≤ A ∧ IsLead (V W64 xs) (V W64 ys) A C := by
    refine ⟨?_, ?_, ⟨W64 ^ m * 2 ^ T, V W64 xs % (W64 ^ m * 2 ^ T), V W64 ys % (W64 ^ m * 2 ^ T), hK, Nat.mod_lt _ hK, Nat.mod_lt _ hK, ?_, ?_⟩⟩
    · have h1 : u1 < 2 ^ T := Nat.lt_of_mul_lt_mul_right (a := 2 ^ s) (by rw [← hH1, Nat.mul_comm (2 ^ T), hST]; exact l1)
      have h2 : (u1 + 1) * 2 ^ s ≤ 2 ^ T * 2 ^ s := Nat.mul_le_mul_right _ h1
      rw [Nat.add_mul, Nat.one_mul, ← hH1, Nat.mul_comm (2 ^ T), hST] at h2
      omega
    · rw [← fA, ← fC]; exact Nat.div_le_div_right HLE.out
    · rw [← fA, Nat.mul_comm]; exact (Nat.div_add_mod _ _).symm
    · rw [← fC, Nat.mul_comm]; exact (Nat.div_add_mod _ _).symm
  have HFIN := hid hfin
  clear hT hST hH1 hH2 hL1 hL2 l1 l2 hA hC k1 k2 hpw fA fC hK hfin hT0
  go_wp2_with fail
  go_quiet (fail)
  go_wp2_with fail
  go_quiet (fail)
  go_wp2_with fail
  go_ret2
  exact ⟨A, C, rfl, HFIN.out.1, HFIN.out.2.1, hid HFIN.out.2.2, _, World.drewN_drewN _ _ _⟩
end Go.Proofs.YtnfmjlomiihcnaaDoor

/-
  Contract of natural.difference: p x less q y, word by word.
-/
set_option linter.unusedVariables false
set_option linter.unusedSimpArgs false
namespace Go.Proofs.YtnfmjlomiihcnaaDoor
open Go.RowKit Nm

/-- a word times a word and a carry: two words -/
theorem word_step (p x lo hi pl c cy : Nat) (hp : p < W64) (hx : x < W64) (hcy : cy < W64) (h1 : p * x = lo + W64 * hi) (h2 : lo + cy + 0 = pl + W64 * c) : p * x + cy = pl + W64 * (hi + c) ∧ hi + c < W64 := by
  have e : p * x + cy = pl + W64 * (hi + c) := by rw [Nat.mul_add]; omega
  refine ⟨e, Nat.lt_of_not_le fun h => ?_⟩
  have k1 : W64 * W64 ≤ W64 * (hi + c) := Nat.mul_le_mul_left _ h
  have k2 : p * x ≤ (W64 - 1) * (W64 - 1) := Nat.mul_le_mul (by omega) (by omega)
  have k3 : (W64 - 1) * (W64 - 1) + 2 * (W64 - 1) + 1 = W64 * W64 := by decide
  omega

theorem diff_round {W i pl ml bo d bo' a b plus plus' minus minus' Vd Vd' A B vx vy p q x y : Nat} (h1 : a + plus = pl + W * plus') (h2 : b + minus = ml + W * minus') (h3 : d + (ml + bo) = pl + W * bo') (ha : a = p * x) (hb : b = q * y)
    (e : Vd + q * vy + W ^ i * plus = p * vx + W ^ i * (minus + bo)) (hd : Vd' = Vd + W ^ i * d) (hx : A = vx + W ^ i * x) (hy : B = vy + W ^ i * y) :
    Vd' + q * B + W ^ (i + 1) * plus' = p * A + W ^ (i + 1) * (minus' + bo') := by
  have k1 := congrArg (W ^ i * ·) h1
  have k2 := congrArg (W ^ i * ·) h2
  have k3 := congrArg (W ^ i * ·) h3
  simp only [Nat.mul_add] at k1 k2 k3
  rw [hd, hx, hy, Nat.pow_succ, Nat.mul_add, Nat.mul_add, Nat.mul_assoc, Nat.mul_assoc, Nat.mul_add, Nat.mul_add]
  rw [Nat.mul_add] at e
  have m1 : q * (W ^ i * y) = W ^ i * b := by rw [hb, Nat.mul_left_comm]
  have m2 : p * (W ^ i * x) = W ^ i * a := by rw [ha, Nat.mul_left_comm]
  omega

theorem diff_end {N Vd A B plus mb : Nat} (e : Vd + B + N * plus = A + N * mb) (hle : B ≤ A) (hd : Vd < N) (hA : A - B < N) : Vd + B = A := by
  rcases Nat.lt_trichotomy plus mb with h | h | h
  · obtain ⟨t, rfl⟩ : ∃ t, mb = plus + 1 + t := ⟨mb - plus - 1, by omega⟩
    rw [Nat.mul_add, Nat.mul_add, Nat.mul_one] at e
    omega
  · subst h; omega
  · obtain ⟨t, rfl⟩ : ∃ t, plus = mb + 1 + t := ⟨plus - mb - 1, by omega⟩
    rw [Nat.mul_add, Nat.mul_add, Nat.mul_one] at e
    omega

set_option maxRecDepth 100000 in
set_option maxHeartbeats 2000000 in
theorem difference_any (g L cd : Nat) (dc xs ys : List Nat) (ax ay : Option Addr) (cx cy p q : Nat) (w : World) (hrow : IRow w g 59 .u64 dc) (hxr : IRd w .u64 ax L cx xs) (hyr : IRd w .u64 ay L cy ys)
    (hnx : ∀ a, ax = some a → some a.block ≠ some g) (hny : ∀ a, ay = some a → some a.block ≠ some g) (hL : L ≤ dc.length) (hlen : dc.length ≤ 900000) (hLc : L ≤ cd) (hcd : cd ≤ 9223372036854775807)
    (hdc : Dg W64 dc) (hxs : Dg W64 xs) (hys : Dg W64 ys) (hp : p < W64) (hq : q < W64) (hle : q * V W64 ys ≤ p * V W64 xs) (hfit : p * V W64 xs - q * V W64 ys < W64 ^ L) :
    Calls Tryd.prog 107 #[.slice (some ⟨g, 0, none⟩) L cd, .int .u64 p, .slice ax L cx, .int .u64 q, .slice ay L cy] w fun e w' => ∃ dc' : List Nat, e = .returned (.tuple #[]) ∧ IRow w' g 59 .u64 dc' ∧ w.grownBy w' (some g) ∧
      Hid (dc'.length = dc.length ∧ Dg W64 dc' ∧ V W64 (dc'.take L) + q * V W64 ys = p * V W64 xs) := by
  have HLX := hid hxr.len
  have HLY := hid hyr.len
  have hxm := hxr.max
  have hxc := hxr.cap
  have hym := hyr.max
  have hyc := hyr.cap
  have HFIT := hid (And.intro hle hfit)
  clear hle hfit
  go_enter Tryd.func107, Tryd.ntmps107
  go_wp2_with fail
  go_loopw [10, 11, 12, 21] (fun s10 s11 s12 i wr => ∃ (k plus minus bo : Nat) (cu : List Nat), k ≤ L ∧ i = .int .i64 k ∧ s10 = .int .u64 plus ∧ s11 = .int .u64 minus ∧ s12 = .int .u64 bo ∧ plus < W64 ∧ minus < W64 ∧ bo ≤ 1 ∧ IRow wr g 59 .u64 cu ∧ w.grownBy wr (some g) ∧
      Hid (cu.length = dc.length ∧ Dg W64 cu ∧ V W64 (cu.take k) + q * V W64 (ys.take k) + W64 ^ k * plus = p * V W64 (xs.take k) + W64 ^ k * (minus + bo))) (fun _ _ _ i _ => L - (intOf i).toNat)
  case atStart => exact ⟨0, 0, 0, 0, dc, Nat.zero_le _, rfl, rfl, rfl, rfl, by decide, by decide, by omega, hrow, grown_refl _ _, hid ⟨rfl, hdc, by simp⟩⟩
  case round =>
    obtain ⟨k, plus, minus, bo, cu, hk, rfl, rfl, rfl, rfl, hplus, hminus, hbo, hr, hgr, HC⟩ := hrel
    by_cases hlt : k < L
    · obtain ⟨bx, ox, rfl, hcx⟩ := hxr.cel k (by rw [HLX.out]; exact hlt)
      obtain ⟨by', oy, rfl, hcy'⟩ := hyr.cel k (by rw [HLY.out]; exact hlt)
      have hx2 := hgr.cell hcx (hnx ⟨bx, ox, none⟩ rfl)
      have hy2 := hgr.cell hcy' (hny ⟨by', oy, none⟩ rfl)
      obtain ⟨x, hx⟩ : ∃ x, x = xs[k]'(by rw [HLX.out]; exact hlt) := ⟨_, rfl⟩
      obtain ⟨y, hy⟩ : ∃ y, y = ys[k]'(by rw [HLY.out]; exact hlt) := ⟨_, rfl⟩
      rw [← hx] at hx2
      rw [← hy] at hy2
      have hxb : x < W64 := by rw [hx]; exact hxs.get k _
      have hyb : y < W64 := by rw [hy]; exact hys.get k _
      have hvx := V_take_succ (B := W64) xs k (by rw [HLX.out]; exact hlt)
      have hvy := V_take_succ (B := W64) ys k (by rw [HLY.out]; exact hlt)
      rw [← hx] at hvx
      rw [← hy] at hvy
      have hcl : k < cu.length := by rw [HC.out.1]; omega
      have hcc := hr.cell k hcl
      have hfr := hr.free k
      obtain ⟨d0, hd0⟩ : ∃ d0, d0 = cu[k] := ⟨_, rfl⟩
      rw [← hd0] at hcc
      have HVX := hid hvx
      have HVY := hid hvy
      have hk1 : (k : Int) < (L : Int) := by omega
      have hk0 : (0 : Int) ≤ (k : Int) := by omega
      clear hx hy hd0 hcx hcy' hvx hvy
      go_wp2_with fail
      refine (mul64_any p x hp hxb _).mono ?_
      rintro e w' ⟨h1, l1, rfl, hh1, hl1, HM1, rfl⟩
      go_wp2_with (with_reducible refine wl_add64 _ rfl (.tmp 34) (.tmp 35) _ _ rfl _ _ 0 rfl rfl rfl hl1 hplus (by omega) ?_; intro pl c1 hpl hc1 HA1)
      have hs1 := word_step p x l1 h1 pl c1 plus hp hxb hplus HM1.out HA1.out
      have hw1 : IntKind.u64.wrap ((h1 : Int) + c1) = ((h1 + c1 : Nat) : Int) := by have := hs1.2; unfold W64 at this; rw [IntKind.wrap_u64]; omega
      refine (mul64_any q y hq hyb _).mono ?_
      rintro e w' ⟨h2, l2, rfl, hh2, hl2, HM2, rfl⟩
      go_wp2_with (first
        | (with_reducible refine wl_add64 _ rfl (.tmp 52) (.tmp 53) _ _ rfl _ _ 0 rfl rfl rfl hl2 hminus (by omega) ?_; intro ml c2 hml hc2 HA2)
        | (with_reducible refine wl_sub64 _ rfl (.tmp 63) (.tmp 64) (.tmp 65) _ rfl _ _ bo rfl rfl rfl hpl hml hbo ?_; intro dd bo' hdd hbo' HS))
      have hs2 := word_step q y l2 h2 ml c2 minus hq hyb hminus HM2.out HA2.out
      have hw2 : IntKind.u64.wrap ((h2 : Int) + c2) = ((h2 + c2 : Nat) : Int) := by have := hs2.2; unfold W64 at this; rw [IntKind.wrap_u64]; omega
      have hcut : V W64 ((cu.set k dd).take (k + 1)) = V W64 (cu.take k) + W64 ^ k * dd := by
        rw [V_take_succ _ k (by simpa using hcl), List.take_set, List.set_eq_of_length_le (by simp; omega)]
        simp
      refine ⟨⟨k + 1, h1 + c1, h2 + c2, bo', cu.set k dd, by omega, rfl, by first | rfl | rw [hw1] | simp, by first | rfl | rw [hw2] | simp, rfl, hs1.2, hs2.2, hbo', hr.setv k _ dd rfl, grown_trans hgr (grown_setCell _ _ _), hid ⟨by simpa using HC.out.1, HC.out.2.1.set _ _ hdd, ?_⟩⟩, by simp [intOf]; omega⟩
      exact diff_round hs1.1 hs2.1 HS.out rfl rfl HC.out.2.2 hcut HVX.out HVY.out
    · obtain rfl : k = L := by omega
      have hfin := HC.out.2.2
      rw [show ys.take k = ys from List.take_of_length_le (by rw [HLY.out]; exact Nat.le_refl _), show xs.take k = xs from List.take_of_length_le (by rw [HLX.out]; exact Nat.le_refl _)] at hfin
      have hlt2 : V W64 (cu.take k) < W64 ^ k := by
        have := (HC.out.2.1.take k).lt
        rw [List.length_take, Nat.min_eq_left (by rw [HC.out.1]; exact hL)] at this
        exact this
      have hres := hid (diff_end hfin HFIT.out.1 hlt2 HFIT.out.2)
      clear hfin hlt2
      go_wp2_with fail
      go_end0
      exact ⟨cu, rfl, hr, hgr, hid ⟨HC.out.1, HC.out.2.1, hres.out⟩⟩
end Go.Proofs.YtnfmjlomiihcnaaDoor

/-
  Contract of the method of the struct rests: the rests of two numbers after the steps that their leading bits determine.
-/
set_option linter.unusedVariables false
set_option linter.unusedSimpArgs false
namespace Go.Proofs.YtnfmjlomiihcnaaDoor
open Go.RowKit Nm

/-- what Lehmer's steps make of a and c: H and O -/
def Leh (a c H O : Nat) : Prop := O < H ∧ Nat.gcd H O = Nat.gcd a c ∧ H + O < a + c ∧ H ≤ a

set_option maxHeartbeats 2000000 in
theorem restsOf_any (g3 g4 L c3 c4 : Nat) (d3 d4 xs ys : List Nat) (ax ay : Option Addr) (cx cy x0 y0 x1 y1 n : Nat) (w : World) (hr3 : IRow w g3 59 .u64 d3) (hr4 : IRow w g4 59 .u64 d4) (h34 : g3 ≠ g4)
    (hxr : IRd w .u64 ax L cx xs) (hyr : IRd w .u64 ay L cy ys) (hx3 : ∀ p, ax = some p → p.block ≠ g3) (hx4 : ∀ p, ax = some p → p.block ≠ g4) (hy3 : ∀ p, ay = some p → p.block ≠ g3) (hy4 : ∀ p, ay = some p → p.block ≠ g4)
    (hL3 : L ≤ d3.length) (hL4 : L ≤ d4.length) (hl3 : d3.length ≤ 900000) (hl4 : d4.length ≤ 900000) (hc3 : L ≤ c3) (hc4 : L ≤ c4) (hm3 : c3 ≤ 9223372036854775807) (hm4 : c4 ≤ 9223372036854775807)
    (hd3 : Dg W64 d3) (hd4 : Dg W64 d4) (hxs : Dg W64 xs) (hys : Dg W64 ys) (b0 : x0 < W64) (b1 : y0 < W64) (b2 : x1 < W64) (b3 : y1 < W64) (hn : n ≤ 4294967296) (hn1 : 1 ≤ n)
    (A C h o : Nat) (hE : Es A C x0 y0 x1 y1 n h o) (hlead : IsLead (V W64 xs) (V W64 ys) A C) :
    Calls Tryd.prog 95 #[.agg #[.int .u64 x0, .int .u64 y0, .int .u64 x1, .int .u64 y1, .int .i64 n], .slice ax L cx, .slice ay L cy, .slice (some ⟨g3, 0, none⟩) L c3, .slice (some ⟨g4, 0, none⟩) L c4] w
      fun e w' => ∃ (d3' d4' : List Nat) (wa wb : World), e = .returned (.tuple #[]) ∧ IRow w' g3 59 .u64 d3' ∧ IRow w' g4 59 .u64 d4' ∧ w.grownBy wa none ∧ wa.grownBy wb (some g3) ∧ wb.grownBy w' (some g4) ∧
        Hid (d3'.length = d3.length ∧ d4'.length = d4.length ∧ Dg W64 d3' ∧ Dg W64 d4' ∧ Leh (V W64 xs) (V W64 ys) (V W64 (d3'.take L)) (V W64 (d4'.take L))) := by
  obtain ⟨K, a', c', hK, ha, hc, ea, ec⟩ := hlead
  obtain ⟨H, O, l1, l2, l3, l4, l5, l6⟩ := hE.lift hn1 ha hc ea ec
  have hxL : V W64 xs < W64 ^ L := by have := hxs.lt; rw [hxr.len] at this; exact this
  have hHL : H < W64 ^ L := Nat.lt_of_le_of_lt l4 hxL
  have hOL : O < W64 ^ L := Nat.lt_trans l1 hHL
  have HLEH : Hid (Leh (V W64 xs) (V W64 ys) H O) := hid ⟨l1, l2, l3, l4⟩
  have n0 : (0 : Int) ≤ (n : Int) := by omega
  have hgb := World.grownBy_alloc w (.cells #[.int .u64 x0, .int .u64 y0, .int .u64 x1, .int .u64 y1, .int .i64 n] 103) none
  have hbox : Rst (w.alloc (.cells #[.int .u64 x0, .int .u64 y0, .int .u64 x1, .int .u64 y1, .int .i64 n] 103)) w.heap.size x0 y0 x1 y1 n := heap_alloc_new w _
  have hlt3 := hr3.lt
  have hlt4 := hr4.lt
  clear hK ha hc ea ec l1 l2 l3 l4 hE hxL
  rcases Nat.mod_two_eq_zero_or_one n with hp | hp
  · obtain ⟨q1, q2, q3, q4⟩ := l5 hp
    have hpar : (((n : Int) % 2) == 0) = true := by simp; omega
    have HQ := hid (And.intro q2 q4)
    have hD1 := fun W hr hx hy => difference_any g3 L c3 d3 xs ys ax ay cx cy x0 y0 W hr hx hy (fun p hp => by simpa using hx3 p hp) (fun p hp => by simpa using hy3 p hp) hL3 hl3 hc3 hm3 hd3 hxs hys b0 b1 q1 (by rw [← q2]; exact hHL)
    have hD2 := fun W hr hx hy => difference_any g4 L c4 d4 ys xs ay ax cy cx y1 x1 W hr hx hy (fun p hp => by simpa using hy4 p hp) (fun p hp => by simpa using hx4 p hp) hL4 hl4 hc4 hm4 hd4 hys hxs b3 b2 q3 (by rw [← q4]; exact hOL)
    have HD1 := hid hD1
    have HD2 := hid hD2
    have HQ1 := hid (And.intro q1 q3)
    clear hD1 hD2 q1 q2 q3 q4 l5 l6 hp
    obtain ⟨k0, k1, k2, k3, k4, _, _, _, _, _⟩ := hbox.facts
    go_enter Tryd.func95, Tryd.ntmps95
    go_wp2_with fail
    refine (HD1.out _ (hr3.kept hgb (by simp)) (hxr.keep hgb) (hyr.keep hgb)).mono ?_
    rintro e w1 ⟨d3', rfl, hr3', hg1, H3⟩
    have hbox1 := hbox.kept hg1 (by simp; omega)
    obtain ⟨k0, k1, k2, k3, k4, _, _, _, _, _⟩ := hbox1.facts
    go_wp2_with fail
    refine (HD2.out _ ((hr4.kept hgb (by simp)).kept hg1 (by simp; omega)) ((hyr.keep hgb).kept hg1 (.inr fun p hp => by simpa using hy3 p hp)) ((hxr.keep hgb).kept hg1 (.inr fun p hp => by simpa using hx3 p hp))).mono ?_
    rintro e w2 ⟨d4', rfl, hr4', hg2, H4⟩
    go_wp2_with fail
    go_end0
    refine ⟨d3', d4', _, _, rfl, hr3'.kept hg2 (by simp; omega), hr4', hgb, hg1, hg2, hid ⟨H3.out.1, H4.out.1, H3.out.2.1, H4.out.2.1, ?_⟩⟩
    rw [show V W64 (d3'.take L) = H by have := H3.out.2.2; have := HQ.out.1; have := HQ1.out.1; omega, show V W64 (d4'.take L) = O by have := H4.out.2.2; have := HQ.out.2; have := HQ1.out.2; omega]
    exact HLEH.out
  · obtain ⟨q1, q2, q3, q4⟩ := l6 hp
    have hpar : (((n : Int) % 2) == 0) = false := by rw [beq_eq_false_iff_ne]; omega
    have HQ := hid (And.intro q2 q4)
    have hD1 := fun W hr hx hy => difference_any g3 L c3 d3 ys xs ay ax cy cx y0 x0 W hr hx hy (fun p hp => by simpa using hy3 p hp) (fun p hp => by simpa using hx3 p hp) hL3 hl3 hc3 hm3 hd3 hys hxs b1 b0 q1 (by rw [← q2]; exact hHL)
    have hD2 := fun W hr hx hy => difference_any g4 L c4 d4 xs ys ax ay cx cy x1 y1 W hr hx hy (fun p hp => by simpa using hx4 p hp) (fun p hp => by simpa using hy4 p hp) hL4 hl4 hc4 hm4 hd4 hxs hys b2 b3 q3 (by rw [← q4]; exact hOL)
    have HD1 := hid hD1
    have HD2 := hid hD2
    have HQ1 := hid (And.intro q1 q3)
    clear hD1 hD2 q1 q2 q3 q4 l5 l6 hp
    obtain ⟨k0, k1, k2, k3, k4, _, _, _, _, _⟩ := hbox.facts
    go_enter Tryd.func95, Tryd.ntmps95
    go_wp2_with fail
    refine (HD1.out _ (hr3.kept hgb (by simp)) (hyr.keep hgb) (hxr.keep hgb)).mono ?_
    rintro e w1 ⟨d3', rfl, hr3', hg1, H3⟩
    have hbox1 := hbox.kept hg1 (by simp; omega)
    obtain ⟨k0, k1, k2, k3, k4, _, _, _, _, _⟩ := hbox1.facts
    go_wp2_with fail
    refine (HD2.out _ ((hr4.kept hgb (by simp)).kept hg1 (by simp; omega)) ((hxr.keep hgb).kept hg1 (.inr fun p hp => by simpa using hx3 p hp)) ((hyr.keep hgb).kept hg1 (.inr fun p hp => by simpa using hy3 p hp))).mono ?_
    rintro e w2 ⟨d4', rfl, hr4', hg2, H4⟩
    go_wp2_with fail
    go_end0
    refine ⟨d3', d4', _, _, rfl, hr3'.kept hg2 (by simp; omega), hr4', hgb, hg1, hg2, hid ⟨H3.out.1, H4.out.1, H3.out.2.1, H4.out.2.1, ?_⟩⟩
    rw [show V W64 (d3'.take L) = H by have := H3.out.2.2; have := HQ.out.1; have := HQ1.out.1; omega, show V W64 (d4'.take L) = O by have := H4.out.2.2; have := HQ.out.2; have := HQ1.out.2; omega]
    exact HLEH.out
end Go.Proofs.YtnfmjlomiihcnaaDoor
