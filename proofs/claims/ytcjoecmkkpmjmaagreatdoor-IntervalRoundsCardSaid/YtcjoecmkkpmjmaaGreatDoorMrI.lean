/-
  RatI, in one text.
-/
import Derived.Test.YtcjoecmkkpmjmaaGreatDoorMrA

set_option linter.unusedVariables false
set_option linter.unusedSimpArgs false
namespace Go.Proofs.YtcjoecmkkpmjmaaGreatDoor
open Go.RowKit Nm

theorem qZ_floor {g : Bool} {N M : Nat} (hM : 0 < M) : qZ g false N M = sg g N / (M : Int) := by
  cases g
  · unfold qZ
    simp [sg]
  · have h := Nat.div_add_mod N M
    have h2 := Nat.mod_lt N hM
    unfold qZ
    have e : (true != false) = true := rfl
    rw [e, sg_true, sg_true]
    by_cases hr : 0 < N % M
    · rw [if_pos ⟨rfl, hr⟩]
      refine ((Int.ediv_emod_unique (a := -(N : Int)) (b := M) (q := -((N / M + 1 : Nat) : Int)) (r := (M : Int) - ((N % M : Nat) : Int)) (by omega)).2 ⟨?_, by omega, by omega⟩).1.symm
      have h3 : ((M * (N / M) : Nat) : Int) + ((N % M : Nat) : Int) = N := by exact_mod_cast h
      have h4 : ((M * (N / M) : Nat) : Int) = (M : Int) * ((N / M : Nat) : Int) := by push_cast; rfl
      have h5 : (M : Int) * -((N / M + 1 : Nat) : Int) = -((M : Int) * ((N / M : Nat) : Int)) - M := by push_cast; rw [Int.mul_neg, Int.mul_add]; omega
      rw [h5]
      omega
    · rw [if_neg (by rintro ⟨_, h⟩; exact hr h)]
      refine ((Int.ediv_emod_unique (a := -(N : Int)) (b := M) (q := -((N / M : Nat) : Int)) (r := 0) (by omega)).2 ⟨?_, by omega, by omega⟩).1.symm
      have h3 : ((M * (N / M) : Nat) : Int) + ((N % M : Nat) : Int) = N := by exact_mod_cast h
      have h4 : ((M * (N / M) : Nat) : Int) = (M : Int) * ((N / M : Nat) : Int) := by push_cast; rfl
      rw [Int.mul_neg]
      omega

theorem natDivMod_p {w : World} {p q : Option Addr} {n m c d N M : Nat} (hA : IsN w p n c N) (hB : IsN w q m d M) (hn : n ≤ 800000) (hm : m ≤ 800000) (hpos : 0 < M) :
    Calls Tryz.prog 90 #[.slice p n c, .slice q m d] w (DmPost w N M) := by
  obtain ⟨L, h1, h2, rfl⟩ := hA
  obtain ⟨K, k1, k2, rfl⟩ := hB
  exact natDivMod_any p q n m c d L K w h1 k1 h2 k2 hn hm hpos

theorem wholeF_any {w : World} (p : Option Addr) (n c : Nat) :
    Calls Tryz.prog 68 #[.slice p n c] w fun e w' => e = .returned (.agg #[.bool false, .slice p n c]) ∧ w.grownBy w' none := by
  go_enter Tryz.func68, Tryz.ntmps68
  go_wp2
  exact bodyPost_ret (v := .agg #[.bool false, .slice p n c]) (by simp [results, Tryz.results68, go_sem]) rfl ⟨rfl, World.grownBy_alloc w _ none⟩

set_option maxRecDepth 100000 in
set_option maxHeartbeats 8000000 in
theorem ratFloor_any {w : World} {g : Bool} {p q : Option Addr} {n c m d D : Nat} {N : Int} (hA : IsZ w g p n c N) (hB : IsN w q m d D) (hn : n ≤ 9000) (hm : m ≤ 9000) :
    Calls Tryz.prog 77 #[.agg #[.bool g, .slice p n c, .slice q m d]] w (IPost w (pn N D / (pd D : Int)) (n + 6)) := by
  have hb2 := grown_trans (World.grownBy_alloc w (.cells #[.bool g, .slice p n c, .slice q m d] 27) none) (World.grownBy_alloc _ (.cells #[.bool false, .slice none 0 0] 25) none)
  have HP := hid (parts_any (hA.keep hb2) (hB.keep hb2) (by omega) (by omega))
  have HPP := hid (pd_pos D)
  unfold PtPost at HP
  clear hA hB
  go_enter Tryz.func77, Tryz.ntmps77
  go_upto_region 2 with (go_at_call 60; (with_reducible refine HP.out.mono ?_); rintro ee wp ⟨g1, p1, n1, c1, q1, m1, d1, rfl, hN, hD, hn1, hm1, hgp⟩)
  have hbr := (hgp.block (w.heap.size + 1) (by simp) (by simp)).trans (second w _ _)
  have hga := World.grownBy_alloc wp (.cells #[.bool g1, .slice p1 n1 c1] 25) none
  have x0 : (wp.alloc (.cells #[.bool g1, .slice p1 n1 c1] 25)).cell? ⟨wp.heap.size, 0, none⟩ = some (.bool g1) := by simp [go_sem]
  have x1 : (wp.alloc (.cells #[.bool g1, .slice p1 n1 c1] 25)).cell? ⟨wp.heap.size, 1, none⟩ = some (.slice p1 n1 c1) := by simp [go_sem]
  replace hbr := (hga.block (w.heap.size + 1) (lt_of_block hbr) (by simp)).trans hbr
  replace hN := hN.keep hga
  replace hD := hD.keep hga
  have HG0 := hid (grown_trans (grown_trans hb2 hgp) hga)
  have hlt : wp.heap.size < (wp.alloc (.cells #[.bool g1, .slice p1 n1 c1] 25)).heap.size := by simp
  clear hga HP hgp
  generalize hw0 : wp.alloc (.cells #[.bool g1, .slice p1 n1 c1] 25) = w0 at *
  clear hw0
  generalize wp.heap.size = K at *
  obtain ⟨hNn, hNs⟩ := hN
  have HD := (fun W (h : w0.grownBy W none) => intDivMod_any (ga := g1) (gb := false) (hNn.keep h) (hD.keep h) HPP.out (by omega) (by omega) (fun W' h' => natDivMod_p ((hNn.keep h).keep h') ((hD.keep h).keep h') (by omega) (by omega) HPP.out))
  rw [qZ_floor HPP.out, ← hNs] at HD
  replace HD := hid HD
  unfold DmI at HD
  have G0 : w0.grownBy w0.drew none := grown_drew _ _
  have G1 : ∀ o, w0.grownBy (w0.alloc o).drew none := fun o => grown_trans (World.grownBy_alloc _ _ _) (grown_drew _ _)
  have G2 : ∀ o o', w0.grownBy ((w0.alloc o).alloc o').drew none := fun o o' => grown_trans (grown_trans (World.grownBy_alloc _ _ _) (World.grownBy_alloc _ _ _)) (grown_drew _ _)
  replace hbr := hid hbr
  clear hNn hNs hD
  go_cut [5, 6] from 7 to 20 (fun s5 s6 wx => PairRel (pn N D / (pd D : Int)) (rZ g1 (pn N D).natAbs (pd D)) (n + 6) (m + 4) w0 s5 s6 wx)
  case first =>
    go_region_held3 (fun w' => w'.cell? ⟨K, 0, none⟩ = some (.bool g1) ∧ w'.cell? ⟨K, 1, none⟩ = some (.slice p1 n1 c1))
      ((try go_split_ands) <;> (repeat' apply And.intro) <;> (repeat (first | (with_reducible assumption) | (with_reducible refine (grown_setCell _ _ _).cell ?_ (by simp; omega)) | (with_reducible refine (World.grownBy_alloc _ _ none).cell ?_ (by simp)) | (with_reducible refine hg2.cell ?_ (by simp)) | (with_reducible refine hg1.cell ?_ (by simp)) | (with_reducible refine (grown_drew _ none).cell ?_ (by simp)))))
      (first
        | (go_at_call 68; (with_reducible refine (wholeF_any _ _ _).mono ?_); rintro e w1 ⟨rfl, hg1⟩; have hz1 := hg1.size; (try simp at hz1); have H1 : w0.grownBy w1 none := grown_trans (by first | exact G0 | exact G1 _ | exact G2 _ _) hg1; (try (have B0 : BoxAt w1 (w0.heap.size) := BoxAt.grown (by first | exact (BoxAt.new _).drew | exact ((BoxAt.new _).alloc _).drew) hg1; obtain ⟨B0a, B0b, B0c, B0d, B0e⟩ := B0.facts; have B0H := hid B0; clear B0)); (try (have B1 : BoxAt w1 (w0.heap.size + 1) := BoxAt.grown (by first | exact (BoxAt.new2 _ _).drew) hg1; obtain ⟨B1a, B1b, B1c, B1d, B1e⟩ := B1.facts; have B1H := hid B1; clear B1)); have k1 := fun o => gcell (World.grownBy_alloc w1 o none); have f1 := fun o => gfree (World.grownBy_alloc w1 o none))
        | (go_at_call 124; (with_reducible refine (HD.out _ (by first | exact H1 | exact grown_trans H1 (World.grownBy_alloc _ _ _) | exact grown_trans (grown_trans H1 (World.grownBy_alloc _ _ _)) (World.grownBy_alloc _ _ _))).mono ?_); rintro e w2 ⟨gq, pq, nq, cq, gr, pr, nr, cr, rfl, h1, h2, hn1q, hn2q, hg2⟩; have hz2 := hg2.size; (try simp at hz2); replace h1 := hid h1; replace h2 := hid h2; (try (have D0 : BoxAt w2 (w0.heap.size) := BoxAt.grown (by first | exact B0H.out | exact B0H.out.alloc _ | exact (B0H.out.alloc _).alloc _) hg2; obtain ⟨D0a, D0b, D0c, D0d, D0e⟩ := D0.facts; have D0H := hid D0; clear D0)); (try (have D1 : BoxAt w2 (w0.heap.size + 1) := BoxAt.grown (by first | exact B1H.out) hg2; obtain ⟨D1a, D1b, D1c, D1d, D1e⟩ := D1.facts; have D1H := hid D1; clear D1)); (try (have D2 : BoxAt w2 (w1.heap.size) := BoxAt.grown (by first | exact BoxAt.new _ | exact (BoxAt.new _).alloc _) hg2; obtain ⟨D2a, D2b, D2c, D2d, D2e⟩ := D2.facts; have D2H := hid D2; clear D2)); (try (have D3 : BoxAt w2 (w1.heap.size + 1) := BoxAt.grown (by first | exact BoxAt.new2 _ _) hg2; obtain ⟨D3a, D3b, D3c, D3d, D3e⟩ := D3.facts; have D3H := hid D3; clear D3)); clear k1 f1; have k2 := fun o => gcell (World.grownBy_alloc w2 o none); have f2 := fun o => gfree (World.grownBy_alloc w2 o none); (try have e01 : w0.heap.size ≠ w1.heap.size := by omega); (try have e10 : w1.heap.size ≠ w0.heap.size := by omega); (try have e02 : w0.heap.size ≠ w2.heap.size := by omega); (try have e12 : w1.heap.size ≠ w2.heap.size := by omega); (try have e20 : w2.heap.size ≠ w0.heap.size := by omega); (try have e21 : w2.heap.size ≠ w1.heap.size := by omega)))
    all_goals
      go_wp2_with fail
      go_meet
      have HX : w1.grownBy w2 none := by
        first
          | exact hg2
          | exact grown_trans (World.grownBy_alloc _ _ _) hg2
          | exact grown_trans (grown_trans (World.grownBy_alloc _ _ _) (World.grownBy_alloc _ _ _)) hg2
      have K1 := h1.out
      have K2 := h2.out
      have KG := grown_trans H1 HX
      have b1 : nq ≤ n + 6 := by omega
      have b2 : nr ≤ m + 4 := by omega
      have hz01 := H1.size
      first
        | with_reducible exact leaf_alloc K1 K2 b1 b2 KG
        | with_reducible exact leaf_alloc' K1 K2 b1 b2 KG
        | with_reducible exact leaf_set1 K1 K2 b1 b2 KG D0H.out (by omega)
        | with_reducible exact leaf_set1 K1 K2 b1 b2 KG D2H.out (by omega)
        | with_reducible exact leaf_set2 K1 K2 b1 b2 KG D0H.out (by omega)
        | with_reducible exact leaf_set2 K1 K2 b1 b2 KG D2H.out (by omega)
        | with_reducible exact leaf_sets K1 K2 b1 b2 KG D0H.out D1H.out (by omega) (by omega) (by omega)
        | with_reducible exact leaf_sets K1 K2 b1 b2 KG D1H.out D0H.out (by omega) (by omega) (by omega)
        | with_reducible exact leaf_sets K1 K2 b1 b2 KG D2H.out D3H.out (by omega) (by omega) (by omega)
        | with_reducible exact leaf_sets K1 K2 b1 b2 KG D3H.out D2H.out (by omega) (by omega) (by omega)
        | with_reducible exact leaf_sets K1 K2 b1 b2 KG D0H.out D2H.out (by omega) (by omega) (by omega)
        | with_reducible exact leaf_sets K1 K2 b1 b2 KG D2H.out D0H.out (by omega) (by omega) (by omega)
  case rest =>
    obtain ⟨u, v, ga, gb, pa, pb, na, ca, nb, cb, rfl, rfl, ya, yb, yc, yd, hQ, hR, b1, b2, hgw⟩ := hcut
    have hb8 := (hgw.block (w.heap.size + 1) (lt_of_block hbr.out) (by simp)).trans hbr.out
    obtain ⟨l0, l1, m0, m1', _⟩ := BoxAt.facts hb8
    clear HD hR yc yd G0 G1 G2
    go_wp2_with fail
    exact bodyPost_ret (v := .agg #[.bool ga, .slice pa na ca]) (by simp [results, Tryz.results77, go_sem, l0, l1, m0, m1']) rfl
      (IPost.close HG0.out hbr.out (by omega) hgw hQ b1)
end Go.Proofs.YtcjoecmkkpmjmaaGreatDoor
