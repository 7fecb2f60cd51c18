/-
  Contract of natural.euclid: the steps that the leading bits determine.
-/
import Derived.Test.YtibjmibdboamcaaDoorGcdW
import Derived.Test.YtibjmibdboamcaaDoorGcdB
import Derived.IntWalk
import Derived.Deep.CutBlock
set_option linter.unusedVariables false
set_option linter.unusedSimpArgs false
namespace Go.Proofs.YtibjmibdboamcaaDoor
open Go.RowKit Nm

/-- the five cells of a struct rests -/
def Rst (w : World) (g x0 y0 x1 y1 n : Nat) : Prop := w.heap[g]? = some (.cells #[.int .u64 x0, .int .u64 y0, .int .u64 x1, .int .u64 y1, .int .i64 n] 121 (0, 0))

theorem Rst.facts {w : World} {g x0 y0 x1 y1 n : Nat} (h : Rst w g x0 y0 x1 y1 n) :
    w.cell? ⟨g, 0, none⟩ = some (.int .u64 x0) ∧ w.cell? ⟨g, 1, none⟩ = some (.int .u64 y0) ∧ w.cell? ⟨g, 2, none⟩ = some (.int .u64 x1) ∧ w.cell? ⟨g, 3, none⟩ = some (.int .u64 y1) ∧ w.cell? ⟨g, 4, none⟩ = some (.int .i64 n) ∧
      w.frozen? ⟨g, 0, none⟩ = false ∧ w.frozen? ⟨g, 1, none⟩ = false ∧ w.frozen? ⟨g, 2, none⟩ = false ∧ w.frozen? ⟨g, 3, none⟩ = false ∧ w.frozen? ⟨g, 4, none⟩ = false := by
  unfold Rst at h
  have k := fun j => cell_of_row w g j _ _ _ h
  have f := fun j => frozen_of_row w g j _ _ h
  exact ⟨by rw [k]; rfl, by rw [k]; rfl, by rw [k]; rfl, by rw [k]; rfl, by rw [k]; rfl, f 0, f 1, f 2, f 3, f 4⟩

theorem Rst.set5 {w : World} {g x0 y0 x1 y1 n : Nat} (h : Rst w g x0 y0 x1 y1 n) (a b c d m : Nat) :
    Rst (((((w.setCell ⟨g, 0, none⟩ (.int .u64 a)).setCell ⟨g, 1, none⟩ (.int .u64 b)).setCell ⟨g, 2, none⟩ (.int .u64 c)).setCell ⟨g, 3, none⟩ (.int .u64 d)).setCell ⟨g, 4, none⟩ (.int .i64 m)) g a b c d m := by
  unfold Rst at h ⊢
  rw [heap_setCell_same _ g 4 _ _ _ (heap_setCell_same _ g 3 _ _ _ (heap_setCell_same _ g 2 _ _ _ (heap_setCell_same _ g 1 _ _ _ (heap_setCell_same _ g 0 _ _ _ h))))]
  simp
theorem Rst.kept {w w' : World} {g x0 y0 x1 y1 n : Nat} (h : Rst w g x0 y0 x1 y1 n) {row : Option Nat} (hg : w.grownBy w' row) (hne : some g ≠ row) : Rst w' g x0 y0 x1 y1 n := (hg.block g (lt_of_block h) hne).trans h
theorem grown_set5 (w : World) (g : Nat) (a b c d e : Value) : w.grownBy (((((w.setCell ⟨g, 0, none⟩ a).setCell ⟨g, 1, none⟩ b).setCell ⟨g, 2, none⟩ c).setCell ⟨g, 3, none⟩ d).setCell ⟨g, 4, none⟩ e) (some g) :=
  grown_trans (grown_trans (grown_trans (grown_trans (grown_setCell w ⟨g, 0, none⟩ a) (grown_setCell _ ⟨g, 1, none⟩ b)) (grown_setCell _ ⟨g, 2, none⟩ c)) (grown_setCell _ ⟨g, 3, none⟩ d)) (grown_setCell _ ⟨g, 4, none⟩ e)

set_option maxHeartbeats 2000000 in
theorem euclid_any (A C : Nat) (hA : A < W64) (hC : C ≤ A) (w : World) :
    Calls Tryd.prog 98 #[.int .u64 A, .int .u64 C] w fun e w' => ∃ x0 y0 x1 y1 n : Nat, e = .returned (.agg #[.int .u64 x0, .int .u64 y0, .int .u64 x1, .int .u64 y1, .int .i64 n]) ∧ x0 < W64 ∧ y0 < W64 ∧ x1 < W64 ∧ y1 < W64 ∧ n ≤ 4294967296 ∧
      Hid (∃ h o, Es A C x0 y0 x1 y1 n h o) ∧ w.grownBy w' none := by
  go_enter Tryd.func98, Tryd.ntmps98
  go_wp2_with fail
  obtain ⟨g4, hg4⟩ : ∃ g, g = w.heap.size := ⟨_, rfl⟩
  have hb5 : Rst ((w.alloc (.cells #[.int .u64 (0 : Nat), .int .u64 (0 : Nat), .int .u64 (0 : Nat), .int .u64 (0 : Nat), .int .i64 (0 : Nat)] 121)).alloc (.cells #[.int .u64 (1 : Nat), .int .u64 (0 : Nat), .int .u64 (0 : Nat), .int .u64 (1 : Nat), .int .i64 (0 : Nat)] 121)) (w.heap.size + 1) 1 0 0 1 0 := by
    have := heap_alloc_new (w.alloc (.cells #[.int .u64 (0 : Nat), .int .u64 (0 : Nat), .int .u64 (0 : Nat), .int .u64 (0 : Nat), .int .i64 (0 : Nat)] 121)) (.cells #[.int .u64 (1 : Nat), .int .u64 (0 : Nat), .int .u64 (0 : Nat), .int .u64 (1 : Nat), .int .i64 (0 : Nat)] 121)
    simpa [Rst] using this
  have hb4 : Rst ((w.alloc (.cells #[.int .u64 (0 : Nat), .int .u64 (0 : Nat), .int .u64 (0 : Nat), .int .u64 (0 : Nat), .int .i64 (0 : Nat)] 121)).alloc (.cells #[.int .u64 (1 : Nat), .int .u64 (0 : Nat), .int .u64 (0 : Nat), .int .u64 (1 : Nat), .int .i64 (0 : Nat)] 121)) w.heap.size 0 0 0 0 0 :=
    (Below.heap_alloc (w.alloc _) _ w.heap.size (by simp)).trans (heap_alloc_new w _)
  have hgw : w.grownBy ((w.alloc (.cells #[.int .u64 (0 : Nat), .int .u64 (0 : Nat), .int .u64 (0 : Nat), .int .u64 (0 : Nat), .int .i64 (0 : Nat)] 121)).alloc (.cells #[.int .u64 (1 : Nat), .int .u64 (0 : Nat), .int .u64 (0 : Nat), .int .u64 (1 : Nat), .int .i64 (0 : Nat)] 121)) none :=
    grown_trans (World.grownBy_alloc _ _ none) (World.grownBy_alloc _ _ none)
  rw [← hg4] at hb4 hb5 ⊢
  have HG := hid hg4
  clear hg4
  go_loopw [0, 1] (fun s0 s1 wr => ∃ hi o x0 y0 x1 y1 n : Nat, s0 = .int .u64 hi ∧ s1 = .int .u64 o ∧ hi < W64 ∧ o < W64 ∧ x0 < W64 ∧ y0 < W64 ∧ x1 < W64 ∧ y1 < W64 ∧ n ≤ 4294967296 ∧ Rst wr (g4 + 1) x0 y0 x1 y1 n ∧ Rst wr g4 0 0 0 0 0 ∧ w.grownBy wr none ∧ Hid (Es A C x0 y0 x1 y1 n hi o)) (fun _ s1 _ => (intOf s1).toNat)
  case atStart => exact ⟨A, C, 1, 0, 0, 1, 0, rfl, rfl, hA, Nat.lt_of_le_of_lt hC hA, by decide, by decide, by decide, by decide, by omega, hb5, hb4, hgw, hid (Es.start hC)⟩
  case round =>
    clear hb4 hb5 hgw
    obtain ⟨hi, o, x0, y0, x1, y1, n, rfl, rfl, hh, ho, b0, b1, b2, b3, hn, hr5, hr4, hgr, HE⟩ := hrel
    obtain ⟨c0, c1, c2, c3, c4, f0, f1, f2, f3, f4⟩ := hr5.facts
    by_cases hpos : 0 < o
    · have hpos' : (0 : Int) < (o : Int) := by omega
      have ho1 : (1 : Int) ≤ (o : Int) := by omega
      have hfit := HE.out.fits hpos
      obtain ⟨q, hq⟩ : ∃ q, q = hi / o := ⟨_, rfl⟩
      obtain ⟨r, hr⟩ : ∃ r, r = hi % o := ⟨_, rfl⟩
      have hro : r < o := by rw [hr]; exact Nat.mod_lt _ hpos
      have hqb : q < W64 := by rw [hq]; exact Nat.lt_of_le_of_lt (Nat.div_le_self _ _) hh
      have HN := hid (fun h1 h2 => HE.out.next hpos h1 h2)
      rw [← hq] at hfit HN
      rw [← hr] at HN
      obtain ⟨m1, hm1⟩ : ∃ m, m = q * x1 := ⟨_, rfl⟩
      obtain ⟨m2, hm2⟩ : ∃ m, m = q * y1 := ⟨_, rfl⟩
      obtain ⟨X, hX⟩ : ∃ X, X = x0 + m1 := ⟨_, rfl⟩
      obtain ⟨Y, hY⟩ : ∃ Y, Y = y0 + m2 := ⟨_, rfl⟩
      rw [← hm1, ← hm2, ← hX, ← hY] at hfit HN
      have hYA : Y ≤ A := hfit.2.2.1
      have hXC : X ≤ C := hfit.2.2.2.1
      have hYo : Y * o ≤ A := hfit.1
      unfold W64 at hA
      have e1 : IntKind.u64.wrap ((hi : Int) / (o : Int)) = (q : Int) := by rw [hq, ← Int.natCast_ediv]; exact wrap_in _ (Nat.lt_of_le_of_lt (Nat.div_le_self _ _) hh)
      have e2 : (hi : Int).tmod (o : Int) = (r : Int) := by rw [hr]; rfl
      have e2' : (hi : Int) % (o : Int) = (r : Int) := by rw [hr]; simp
      have e3 : IntKind.u64.wrap ((q : Int) * (x1 : Int)) = (m1 : Int) := by rw [cast_mul, ← hm1]; exact wrap_in _ (by omega)
      have e4 : IntKind.u64.wrap ((q : Int) * (y1 : Int)) = (m2 : Int) := by rw [cast_mul, ← hm2]; exact wrap_in _ (by omega)
      have e5 : IntKind.u64.wrap ((x0 : Int) + (m1 : Int)) = (X : Int) := by rw [cast_add, ← hX]; exact wrap_in _ (by omega)
      have e6 : IntKind.u64.wrap ((y0 : Int) + (m2 : Int)) = (Y : Int) := by rw [cast_add, ← hY]; exact wrap_in _ (by omega)
      have e7 : IntKind.i64.wrap ((n : Int) + 1) = ((n + 1 : Nat) : Int) := by have := IntWalk.i64_in ((n : Int) + 1) (by omega); rw [this]; simp
      have HF := hid (And.intro hYo (And.intro hYA hXC))
      have hyY : y1 ≤ Y := by
        rw [hY, hm2]
        have := Nat.le_mul_of_pos_left y1 (show 0 < q from hfit.2.2.2.2); omega
      clear hq hr hm1 hm2 hX hY hYo hYA hXC hfit
      go_wp2_with fail
      go_quiet (fail)
      replace hr5 : Rst (wr.drewN nq) (g4 + 1) x0 y0 x1 y1 n := hr5
      replace hr4 : Rst (wr.drewN nq) g4 0 0 0 0 0 := hr4
      replace hgr := gdN hgr nq
      clear c0 c1 c2 c3 c4 f0 f1 f2 f3 f4
      generalize wr.drewN nq = wz at *
      obtain ⟨c0, c1, c2, c3, c4, f0, f1, f2, f3, f4⟩ := hr5.facts
      go_upto_region 5 with fail
      have hl5 := lt_of_block hr5
      have hl4 := lt_of_block hr4
      have hgA := World.grownBy_alloc wz (.cells #[.int .u64 x1, .int .u64 y1, .int .u64 X, .int .u64 Y, .int .i64 ((n : Int) + 1)] 121) none
      have hr8 : Rst (wz.alloc (.cells #[.int .u64 x1, .int .u64 y1, .int .u64 X, .int .u64 Y, .int .i64 ((n : Int) + 1)] 121)) wz.heap.size x1 y1 X Y (n + 1) := by
        have := heap_alloc_new wz (.cells #[.int .u64 x1, .int .u64 y1, .int .u64 X, .int .u64 Y, .int .i64 ((n : Int) + 1)] 121)
        unfold Rst; simpa using this
      replace hr5 := hr5.kept hgA (by simp)
      replace hr4 := hr4.kept hgA (by simp)
      replace hgr := grown_trans hgr hgA
      clear hgA c0 c1 c2 c3 c4 f0 f1 f2 f3 f4
      generalize wz.alloc (.cells #[.int .u64 x1, .int .u64 y1, .int .u64 X, .int .u64 Y, .int .i64 ((n : Int) + 1)] 121) = wy at *
      generalize wz.heap.size = g8 at *
      obtain ⟨c0, c1, c2, c3, c4, f0, f1, f2, f3, f4⟩ := hr5.facts
      obtain ⟨p0, p1, p2, p3, p4, _, _, _, _, _⟩ := hr8.facts
      obtain ⟨k0, k1, k2, k3, k4, z0, z1, z2, z3, z4⟩ := hr4.facts
      by_cases hA1 : r < Y
      · have hA1' : (r : Int) < (Y : Int) := by omega
        go_wp2_with fail
        exact bodyPost_ret (v := .agg #[.int .u64 x0, .int .u64 y0, .int .u64 x1, .int .u64 y1, .int .i64 n]) (by simp [results, Tryd.results98, go_sem, k0, k1, k2, k3, k4]) rfl
          ⟨x0, y0, x1, y1, n, rfl, b0, b1, b2, b3, hn, hid ⟨hi, o, HE.out⟩, grown_new hgr (grown_set5 _ _ _ _ _ _ _) (fun g' e' => by cases e'; have := HG.out; omega)⟩
      · have hA1' : ¬ (r : Int) < (Y : Int) := by omega
        have hYb : Y < 4294967296 := half_lt (Nat.le_trans (Nat.mul_le_mul_left Y (show Y ≤ o by omega)) HF.out.1) hA
        obtain ⟨dd, hdd⟩ : ∃ dd, dd = o - r := ⟨_, rfl⟩
        obtain ⟨S, hS⟩ : ∃ S, S = y1 + Y := ⟨_, rfl⟩
        have e8 : IntKind.u64.wrap ((o : Int) - (r : Int)) = (dd : Int) := by unfold W64 at ho; rw [IntKind.wrap_u64]; omega
        have e9 : IntKind.u64.wrap ((y1 : Int) + (Y : Int)) = (S : Int) := by rw [IntKind.wrap_u64]; omega
        have HDS := hid (And.intro hdd hS)
        clear hdd hS
        by_cases hB1 : dd < S
        · have hB1' : (dd : Int) < (S : Int) := by omega
          go_wp2_with fail
          exact bodyPost_ret (v := .agg #[.int .u64 x0, .int .u64 y0, .int .u64 x1, .int .u64 y1, .int .i64 n]) (by simp [results, Tryd.results98, go_sem, k0, k1, k2, k3, k4]) rfl
            ⟨x0, y0, x1, y1, n, rfl, b0, b1, b2, b3, hn, hid ⟨hi, o, HE.out⟩, grown_new hgr (grown_set5 _ _ _ _ _ _ _) (fun g' e' => by cases e'; have := HG.out; omega)⟩
        · have hB1' : ¬ (dd : Int) < (S : Int) := by omega
          have hnx := hid (HN.out (by omega) (by have := HDS.out; omega))
          have hny : n + 1 ≤ 4294967296 := by
            rcases hnx.out.some with ⟨h0, _⟩ | ⟨_, _, _, _, _, _, _, h7⟩
            · omega
            · omega
          go_wp2_with fail
          refine ⟨⟨o, r, x1, y1, X, Y, n + 1, rfl, rfl, ho, by omega, b2, b3, ?_, ?_, hny, Rst.set5 hr5 x1 y1 X Y (n + 1), hr4.kept (grown_set5 _ _ _ _ _ _ _) (by simp), grown_new hgr (grown_set5 _ _ _ _ _ _ _) (fun g' e' => by cases e'; have := HG.out; omega), hnx⟩, by simp [intOf]; omega⟩
          · have := HF.out.2.2; unfold W64; omega
          · unfold W64; omega
    · obtain rfl : o = 0 := by omega
      obtain ⟨k0, k1, k2, k3, k4, z0, z1, z2, z3, z4⟩ := hr4.facts
      go_wp2_with fail
      exact bodyPost_ret (v := .agg #[.int .u64 x0, .int .u64 y0, .int .u64 x1, .int .u64 y1, .int .i64 n]) (by simp [results, Tryd.results98, go_sem, k0, k1, k2, k3, k4]) rfl
        ⟨x0, y0, x1, y1, n, rfl, b0, b1, b2, b3, hn, hid ⟨hi, 0, HE.out⟩, grown_new hgr (grown_set5 _ _ _ _ _ _ _) (fun g' e' => by cases e'; have := HG.out; omega)⟩
end Go.Proofs.YtibjmibdboamcaaDoor
