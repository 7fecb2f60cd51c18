/-
  Whatever the arguments are, the Go function RationalField returns true and leaves them as they are. Condition: the table deBruijn64tab of package math/bits holds what the program's text lays (the card ties it).
-/
import Derived.Test.YtdgcmbpmjcfhpaaDoorMrX
import Derived.Deep.RegionHeld3
import Derived.Deep.DeepCutAuto

set_option linter.unusedVariables false
set_option linter.unusedSimpArgs false
namespace Go.Proofs.YtdgcmbpmjcfhpaaDoor
open Go.ChangeShapes Go.WideShapes Go.ChangeAt Go.RowKit Nm
open Go

theorem small3_three (ga : Bool) (sa ta : Option Addr) (na ca ma da : Nat) (gb : Bool) (sb tb : Option Addr) (nb cb mb db : Nat) (gc : Bool) (sc tc : Option Addr) (nc cc mc dc : Nat) (w : World) (G : Nat) (hG : G = w.heap.size) :
    Calls Tryd.prog 14 #[.slice (some ⟨G, 0, none⟩) 3 3] (w.alloc (.cells #[.bool ga, .slice sa na ca, .slice ta ma da, .bool gb, .slice sb nb cb, .slice tb mb db, .bool gc, .slice sc nc cc, .slice tc mc dc] 30)) fun e w' =>
      e = .returned (.bool (decide ((na ≤ 12 ∧ ma ≤ 12) ∧ (nb ≤ 12 ∧ mb ≤ 12) ∧ nc ≤ 12 ∧ mc ≤ 12))) ∧ w.grownBy w' none := by
  subst hG
  have := small3_any w.heap.size 3 [((sa, na, ca), (ta, ma, da)), ((sb, nb, cb), (tb, mb, db)), ((sc, nc, cc), (tc, mc, dc))] (w.alloc (.cells #[.bool ga, .slice sa na ca, .slice ta ma da, .bool gb, .slice sb nb cb, .slice tb mb db, .bool gc, .slice sc nc cc, .slice tc mc dc] 30)) (by simp) (fun j hj => by
    match j, hj with
    | 0, _ => simp
    | 1, _ => simp
    | 2, _ => simp)
  refine this.mono fun e w' ⟨h1, h2⟩ => ⟨by simpa using h1, h2 ▸ World.grownBy_alloc w _ none⟩


set_option maxRecDepth 100000 in
set_option maxHeartbeats 16000000 in
theorem rationalField_walk (ga : Bool) (sa ta : Option Addr) (na ca ma da : Nat) (gb : Bool) (sb tb : Option Addr) (nb cb mb db : Nat) (gc : Bool) (sc tc : Option Addr) (nc cc mc dc : Nat) (A B C : Rat) (w : World) (T : Tb w) (ha : IsQ w ga sa na ca ta ma da A) (hb : IsQ w gb sb nb cb tb mb db B) (hc : IsQ w gc sc nc cc tc mc dc C) :
    Calls Tryd.prog 4 #[.agg #[.bool ga, .slice sa na ca, .slice ta ma da], .agg #[.bool gb, .slice sb nb cb, .slice tb mb db], .agg #[.bool gc, .slice sc nc cc, .slice tc mc dc]] w fun e w' => e = .returned (.bool true) ∧ w.grownBy w' none := by
  have hW3 := (grown_trans (grown_trans (World.grownBy_alloc w (.cells #[.bool ga, .slice sa na ca, .slice ta ma da] 30) none) (World.grownBy_alloc _ (.cells #[.bool gb, .slice sb nb cb, .slice tb mb db] 30) none)) (World.grownBy_alloc _ (.cells #[.bool gc, .slice sc nc cc, .slice tc mc dc] 30) none))
  have HS := small3_three ga sa ta na ca ma da gb sb tb nb cb mb db gc sc tc nc cc mc dc (((w.alloc (.cells #[.bool ga, .slice sa na ca, .slice ta ma da] 30)).alloc (.cells #[.bool gb, .slice sb nb cb, .slice tb mb db] 30)).alloc (.cells #[.bool gc, .slice sc nc cc, .slice tc mc dc] 30)) (w.heap.size + 1 + 1 + 1) (by simp)
  have HT := hid T
  clear T
  by_cases h12 : (na ≤ 12 ∧ ma ≤ 12) ∧ (nb ≤ 12 ∧ mb ≤ 12) ∧ nc ≤ 12 ∧ mc ≤ 12
  · rw [decide_eq_true h12] at HS
    replace HS := hid HS
    obtain ⟨⟨hna, hma⟩, ⟨hnb, hmb⟩, hnc, hmc⟩ := h12
    go_enter Tryd.func4, Tryd.ntmps4
    go_wp2_with fail
    refine HS.out.mono ?_
    rintro e w0 ⟨rfl, hg⟩
    have xa0 : w0.cell? ⟨w.heap.size, 0, none⟩ = some (.bool ga) := hg.cell (by simp [go_sem, World.cell?_alloc_past]) (by simp)
    have xa1 : w0.cell? ⟨w.heap.size, 1, none⟩ = some (.slice sa na ca) := hg.cell (by simp [go_sem, World.cell?_alloc_past]) (by simp)
    have xa2 : w0.cell? ⟨w.heap.size, 2, none⟩ = some (.slice ta ma da) := hg.cell (by simp [go_sem, World.cell?_alloc_past]) (by simp)
    have xb0 : w0.cell? ⟨w.heap.size + 1, 0, none⟩ = some (.bool gb) := hg.cell (by simp [go_sem, World.cell?_alloc_past]) (by simp)
    have xb1 : w0.cell? ⟨w.heap.size + 1, 1, none⟩ = some (.slice sb nb cb) := hg.cell (by simp [go_sem, World.cell?_alloc_past]) (by simp)
    have xb2 : w0.cell? ⟨w.heap.size + 1, 2, none⟩ = some (.slice tb mb db) := hg.cell (by simp [go_sem, World.cell?_alloc_past]) (by simp)
    have xc0 : w0.cell? ⟨w.heap.size + 1 + 1, 0, none⟩ = some (.bool gc) := hg.cell (by simp [go_sem, World.cell?_alloc_past]) (by simp)
    have xc1 : w0.cell? ⟨w.heap.size + 1 + 1, 1, none⟩ = some (.slice sc nc cc) := hg.cell (by simp [go_sem, World.cell?_alloc_past]) (by simp)
    have xc2 : w0.cell? ⟨w.heap.size + 1 + 1, 2, none⟩ = some (.slice tc mc dc) := hg.cell (by simp [go_sem, World.cell?_alloc_past]) (by simp)
    have hz0 := hg.size; simp at hz0
    replace hg := grown_trans hW3 hg
    replace ha := ha.keep hg; replace hb := hb.keep hg; replace hc := hc.keep hg
    have hW := hg
    clear hg HS hW3
    have HC1 := hid (fun W (h : w0.grownBy W none) => ratAdd_v 12 (HT.out.keep (grown_trans hW h)) (ha.keep h) (hb.keep h) (by omega) (by omega) (by omega) (by omega) (by omega))
    have HC2 := hid (fun W (h : w0.grownBy W none) => ratMul_v 12 (HT.out.keep (grown_trans hW h)) (ha.keep h) (hb.keep h) (by omega) (by omega) (by omega) (by omega) (by omega))
    unfold VPost at HC1 HC2
    have G0 : w0.grownBy w0.drew none := grown_drew _ _
    have G1 : ∀ o, w0.grownBy (w0.alloc o).drew none := fun o => grown_trans (World.grownBy_alloc _ _ _) (grown_drew _ _)
    have G2 : ∀ o o', w0.grownBy ((w0.alloc o).alloc o').drew none := fun o o' => grown_trans (grown_trans (World.grownBy_alloc _ _ _) (World.grownBy_alloc _ _ _)) (grown_drew _ _)
    go_upto_region 3 with fail
    go_cut [7, 8] from 18 to 23 (fun s7 s8 wx => RPair (A + B) (A * B) 68 w0 s7 s8 wx)
    case first =>
      go_region_held3 (fun w' => w'.cell? ⟨w.heap.size, 0, none⟩ = some (.bool ga) ∧ w'.cell? ⟨w.heap.size, 1, none⟩ = some (.slice sa na ca) ∧ w'.cell? ⟨w.heap.size, 2, none⟩ = some (.slice ta ma da) ∧ w'.cell? ⟨w.heap.size + 1, 0, none⟩ = some (.bool gb) ∧ w'.cell? ⟨w.heap.size + 1, 1, none⟩ = some (.slice sb nb cb) ∧ w'.cell? ⟨w.heap.size + 1, 2, none⟩ = some (.slice tb mb db)) ((try go_split_ands) <;> (repeat' apply And.intro) <;> (repeat (first | (with_reducible assumption) | (with_reducible refine (grown_setCell _ _ _).cell ?_ (by simp; omega)) | (with_reducible refine (World.grownBy_alloc _ _ none).cell ?_ (by simp)) | (with_reducible refine hg2.cell ?_ (by simp)) | (with_reducible refine hg1.cell ?_ (by simp)) | (with_reducible refine (grown_drew _ none).cell ?_ (by simp)))))
        (first
          | (go_at_call 15; (with_reducible refine (HC1.out _ (by first | exact G0 | exact G1 _ | exact G2 _ _)).mono ?_); rintro e w1 ⟨g1, p1, n1, c1, q1, m1, d1, rfl, h1, hn1, hm1, hg1⟩; have hz1 := hg1.size; (try simp at hz1); have H1 : w0.grownBy w1 none := grown_trans (by first | exact G0 | exact G1 _ | exact G2 _ _) hg1; (try (have B0 : RBoxAt w1 (w0.heap.size) := RBoxAt.grown (by first | exact (RBoxAt.new _).drew | exact ((RBoxAt.new _).alloc _).drew) hg1; obtain ⟨B0a, B0b, B0c, B0d, B0e, B0f, B0g⟩ := B0.facts; have B0H := hid B0; clear B0)); (try (have B1 : RBoxAt w1 (w0.heap.size + 1) := RBoxAt.grown (by first | exact (RBoxAt.new2 _ _).drew) hg1; obtain ⟨B1a, B1b, B1c, B1d, B1e, B1f, B1g⟩ := B1.facts; have B1H := hid B1; clear B1)); have k1 := fun o => gcell (World.grownBy_alloc w1 o none); have f1 := fun o => gfree (World.grownBy_alloc w1 o none))
          | (go_at_call 16; (with_reducible refine (HC2.out _ (by first | exact H1 | exact grown_trans H1 (World.grownBy_alloc _ _ _) | exact grown_trans (grown_trans H1 (World.grownBy_alloc _ _ _)) (World.grownBy_alloc _ _ _))).mono ?_); rintro e w2 ⟨g2, p2, n2, c2, q2, m2, d2, rfl, h2, hn2, hm2, hg2⟩; have hz2 := hg2.size; (try simp at hz2); (try (have D0 : RBoxAt w2 (w0.heap.size) := RBoxAt.grown (by first | exact B0H.out | exact B0H.out.alloc _ | exact (B0H.out.alloc _).alloc _) hg2; obtain ⟨D0a, D0b, D0c, D0d, D0e, D0f, D0g⟩ := D0.facts; have D0H := hid D0; clear D0)); (try (have D1 : RBoxAt w2 (w0.heap.size + 1) := RBoxAt.grown (by first | exact B1H.out) hg2; obtain ⟨D1a, D1b, D1c, D1d, D1e, D1f, D1g⟩ := D1.facts; have D1H := hid D1; clear D1)); (try (have D2 : RBoxAt w2 (w1.heap.size) := RBoxAt.grown (by first | exact RBoxAt.new _ | exact (RBoxAt.new _).alloc _) hg2; obtain ⟨D2a, D2b, D2c, D2d, D2e, D2f, D2g⟩ := D2.facts; have D2H := hid D2; clear D2)); (try (have D3 : RBoxAt w2 (w1.heap.size + 1) := RBoxAt.grown (by first | exact RBoxAt.new2 _ _) hg2; obtain ⟨D3a, D3b, D3c, D3d, D3e, D3f, D3g⟩ := D3.facts; have D3H := hid D3; clear D3)); clear k1 f1; have k2 := fun o => gcell (World.grownBy_alloc w2 o none); have f2 := fun o => gfree (World.grownBy_alloc w2 o none); (try have e01 : w0.heap.size ≠ w1.heap.size := by omega); (try have e10 : w1.heap.size ≠ w0.heap.size := by omega); (try have e02 : w0.heap.size ≠ w2.heap.size := by omega); (try have e12 : w1.heap.size ≠ w2.heap.size := by omega); (try have e20 : w2.heap.size ≠ w0.heap.size := by omega); (try have e21 : w2.heap.size ≠ w1.heap.size := by omega)))
      all_goals
        go_wp2_with fail
        go_meet
        have HX : w1.grownBy w2 none := by
          first
            | exact hg2
            | exact grown_trans (World.grownBy_alloc _ _ _) hg2
            | exact grown_trans (grown_trans (World.grownBy_alloc _ _ _) (World.grownBy_alloc _ _ _)) hg2
        have K1 := h1.keep HX
        have K2 := h2
        have KG := grown_trans H1 HX
        have b1 : n1 ≤ 68 ∧ m1 ≤ 68 := ⟨by omega, by omega⟩
        have b2 : n2 ≤ 68 ∧ m2 ≤ 68 := ⟨by omega, by omega⟩
        have hz01 := H1.size
        first
          | with_reducible exact rleaf_alloc K1 K2 b1 b2 KG
          | with_reducible exact rleaf_alloc' K1 K2 b1 b2 KG
          | with_reducible exact rleaf_set1 K1 K2 b1 b2 KG D0H.out (by omega)
          | with_reducible exact rleaf_set1 K1 K2 b1 b2 KG D2H.out (by omega)
          | with_reducible exact rleaf_set2 K1 K2 b1 b2 KG D0H.out (by omega)
          | with_reducible exact rleaf_set2 K1 K2 b1 b2 KG D2H.out (by omega)
          | with_reducible exact rleaf_sets K1 K2 b1 b2 KG D0H.out D1H.out (by omega) (by omega) (by omega)
          | with_reducible exact rleaf_sets K1 K2 b1 b2 KG D1H.out D0H.out (by omega) (by omega) (by omega)
          | with_reducible exact rleaf_sets K1 K2 b1 b2 KG D2H.out D3H.out (by omega) (by omega) (by omega)
          | with_reducible exact rleaf_sets K1 K2 b1 b2 KG D3H.out D2H.out (by omega) (by omega) (by omega)
          | with_reducible exact rleaf_sets K1 K2 b1 b2 KG D0H.out D2H.out (by omega) (by omega) (by omega)
          | with_reducible exact rleaf_sets K1 K2 b1 b2 KG D2H.out D0H.out (by omega) (by omega) (by omega)
    case rest =>
      obtain ⟨u, v, gs, gp, ps, pp, qs, qp, ns, cs, ms, ds, np, cp, mp, dp, rfl, rfl, y0, y1, y2, z0, z1, z2, hS, hP, ⟨bs1, bs2⟩, ⟨bp1, bp2⟩, hg⟩ := hcut
      clear HC1 HC2 G0 G1 G2
      replace ha := ha.keep hg; replace hb := hb.keep hg; replace hc := hc.keep hg; replace xa0 := hg.cell xa0 (by simp); replace xa1 := hg.cell xa1 (by simp); replace xa2 := hg.cell xa2 (by simp); replace xb0 := hg.cell xb0 (by simp); replace xb1 := hg.cell xb1 (by simp); replace xb2 := hg.cell xb2 (by simp); replace xc0 := hg.cell xc0 (by simp); replace xc1 := hg.cell xc1 (by simp); replace xc2 := hg.cell xc2 (by simp); replace hW := grown_trans hW hg
      clear hg
      go_wp2_with fail
      have hg := grown_drew wc none
      replace ha := ha.keep hg; replace hb := hb.keep hg; replace hc := hc.keep hg; replace hS := hS.keep hg; replace hP := hP.keep hg; replace xa0 := hg.cell xa0 (by simp); replace xa1 := hg.cell xa1 (by simp); replace xa2 := hg.cell xa2 (by simp); replace xb0 := hg.cell xb0 (by simp); replace xb1 := hg.cell xb1 (by simp); replace xb2 := hg.cell xb2 (by simp); replace xc0 := hg.cell xc0 (by simp); replace xc1 := hg.cell xc1 (by simp); replace xc2 := hg.cell xc2 (by simp); replace y0 := hg.cell y0 (by simp); replace y1 := hg.cell y1 (by simp); replace y2 := hg.cell y2 (by simp); replace z0 := hg.cell z0 (by simp); replace z1 := hg.cell z1 (by simp); replace z2 := hg.cell z2 (by simp); replace hW := grown_trans hW hg
      clear hg
      go_region_held3 (fun w' => w'.cell? ⟨w.heap.size, 0, none⟩ = some (.bool ga) ∧ w'.cell? ⟨w.heap.size, 1, none⟩ = some (.slice sa na ca) ∧ w'.cell? ⟨w.heap.size, 2, none⟩ = some (.slice ta ma da) ∧ w'.cell? ⟨w.heap.size + 1, 0, none⟩ = some (.bool gb) ∧ w'.cell? ⟨w.heap.size + 1, 1, none⟩ = some (.slice sb nb cb) ∧ w'.cell? ⟨w.heap.size + 1, 2, none⟩ = some (.slice tb mb db) ∧ w'.cell? ⟨w.heap.size + 1 + 1, 0, none⟩ = some (.bool gc) ∧ w'.cell? ⟨w.heap.size + 1 + 1, 1, none⟩ = some (.slice sc nc cc) ∧ w'.cell? ⟨w.heap.size + 1 + 1, 2, none⟩ = some (.slice tc mc dc) ∧ w'.cell? ⟨u, 0, none⟩ = some (.bool gs) ∧ w'.cell? ⟨u, 1, none⟩ = some (.slice ps ns cs) ∧ w'.cell? ⟨u, 2, none⟩ = some (.slice qs ms ds) ∧ w'.cell? ⟨v, 0, none⟩ = some (.bool gp) ∧ w'.cell? ⟨v, 1, none⟩ = some (.slice pp np cp) ∧ w'.cell? ⟨v, 2, none⟩ = some (.slice qp mp dp)) ((try go_split_ands) <;> (repeat' apply And.intro) <;> (repeat (first | (with_reducible assumption) | (with_reducible refine (grown_setCell _ _ _).cell ?_ (by simp; omega)) | (with_reducible refine (World.grownBy_alloc _ _ none).cell ?_ (by simp)) | (with_reducible refine (grown_drew _ none).cell ?_ (by simp)))))
        (first
          | (go_at_call 17; (with_reducible refine (ratRight_v 68 (HT.out.keep hW) hS (by omega) (by omega) (by omega)).mono ?_); rintro e w1 ⟨rfl, hg⟩; replace ha := ha.keep hg; replace hb := hb.keep hg; replace hc := hc.keep hg; replace hS := hS.keep hg; replace hP := hP.keep hg; replace xa0 := hg.cell xa0 (by simp); replace xa1 := hg.cell xa1 (by simp); replace xa2 := hg.cell xa2 (by simp); replace xb0 := hg.cell xb0 (by simp); replace xb1 := hg.cell xb1 (by simp); replace xb2 := hg.cell xb2 (by simp); replace xc0 := hg.cell xc0 (by simp); replace xc1 := hg.cell xc1 (by simp); replace xc2 := hg.cell xc2 (by simp); replace y0 := hg.cell y0 (by simp); replace y1 := hg.cell y1 (by simp); replace y2 := hg.cell y2 (by simp); replace z0 := hg.cell z0 (by simp); replace z1 := hg.cell z1 (by simp); replace z2 := hg.cell z2 (by simp); replace hW := grown_trans hW hg; clear hg)
          | (go_at_call 17; (with_reducible refine (ratRight_v 68 (HT.out.keep hW) hP (by omega) (by omega) (by omega)).mono ?_); rintro e w2 ⟨rfl, hg⟩; replace ha := ha.keep hg; replace hb := hb.keep hg; replace hc := hc.keep hg; replace hS := hS.keep hg; replace hP := hP.keep hg; replace xa0 := hg.cell xa0 (by simp); replace xa1 := hg.cell xa1 (by simp); replace xa2 := hg.cell xa2 (by simp); replace xb0 := hg.cell xb0 (by simp); replace xb1 := hg.cell xb1 (by simp); replace xb2 := hg.cell xb2 (by simp); replace xc0 := hg.cell xc0 (by simp); replace xc1 := hg.cell xc1 (by simp); replace xc2 := hg.cell xc2 (by simp); replace y0 := hg.cell y0 (by simp); replace y1 := hg.cell y1 (by simp); replace y2 := hg.cell y2 (by simp); replace z0 := hg.cell z0 (by simp); replace z1 := hg.cell z1 (by simp); replace z2 := hg.cell z2 (by simp); replace hW := grown_trans hW hg; clear hg)
          | (go_at_call 15; (with_reducible refine (ratAdd_v 12 (HT.out.keep hW) hb ha (by omega) (by omega) (by omega) (by omega) (by omega)).mono ?_); rintro e w3 ⟨g3, p3, n3, c3, q3, m3, d3, rfl, e1, hn3, hm3, hg⟩; replace ha := ha.keep hg; replace hb := hb.keep hg; replace hc := hc.keep hg; replace hS := hS.keep hg; replace hP := hP.keep hg; replace xa0 := hg.cell xa0 (by simp); replace xa1 := hg.cell xa1 (by simp); replace xa2 := hg.cell xa2 (by simp); replace xb0 := hg.cell xb0 (by simp); replace xb1 := hg.cell xb1 (by simp); replace xb2 := hg.cell xb2 (by simp); replace xc0 := hg.cell xc0 (by simp); replace xc1 := hg.cell xc1 (by simp); replace xc2 := hg.cell xc2 (by simp); replace y0 := hg.cell y0 (by simp); replace y1 := hg.cell y1 (by simp); replace y2 := hg.cell y2 (by simp); replace z0 := hg.cell z0 (by simp); replace z1 := hg.cell z1 (by simp); replace z2 := hg.cell z2 (by simp); replace hW := grown_trans hW hg; clear hg)
          | (go_at_call 9; (with_reducible refine (same3_v hS e1 (Rat.add_comm A B)).mono ?_); rintro e w4 ⟨rfl, hg⟩; replace ha := ha.keep hg; replace hb := hb.keep hg; replace hc := hc.keep hg; replace hS := hS.keep hg; replace hP := hP.keep hg; replace e1 := e1.keep hg; replace xa0 := hg.cell xa0 (by simp); replace xa1 := hg.cell xa1 (by simp); replace xa2 := hg.cell xa2 (by simp); replace xb0 := hg.cell xb0 (by simp); replace xb1 := hg.cell xb1 (by simp); replace xb2 := hg.cell xb2 (by simp); replace xc0 := hg.cell xc0 (by simp); replace xc1 := hg.cell xc1 (by simp); replace xc2 := hg.cell xc2 (by simp); replace y0 := hg.cell y0 (by simp); replace y1 := hg.cell y1 (by simp); replace y2 := hg.cell y2 (by simp); replace z0 := hg.cell z0 (by simp); replace z1 := hg.cell z1 (by simp); replace z2 := hg.cell z2 (by simp); replace hW := grown_trans hW hg; clear hg)
          | (go_at_call 16; (with_reducible refine (ratMul_v 12 (HT.out.keep hW) hb ha (by omega) (by omega) (by omega) (by omega) (by omega)).mono ?_); rintro e w5 ⟨g5, p5, n5, c5, q5, m5, d5, rfl, e2, hn5, hm5, hg⟩; replace ha := ha.keep hg; replace hb := hb.keep hg; replace hc := hc.keep hg; replace hS := hS.keep hg; replace hP := hP.keep hg; replace e1 := e1.keep hg; replace xa0 := hg.cell xa0 (by simp); replace xa1 := hg.cell xa1 (by simp); replace xa2 := hg.cell xa2 (by simp); replace xb0 := hg.cell xb0 (by simp); replace xb1 := hg.cell xb1 (by simp); replace xb2 := hg.cell xb2 (by simp); replace xc0 := hg.cell xc0 (by simp); replace xc1 := hg.cell xc1 (by simp); replace xc2 := hg.cell xc2 (by simp); replace y0 := hg.cell y0 (by simp); replace y1 := hg.cell y1 (by simp); replace y2 := hg.cell y2 (by simp); replace z0 := hg.cell z0 (by simp); replace z1 := hg.cell z1 (by simp); replace z2 := hg.cell z2 (by simp); replace hW := grown_trans hW hg; clear hg)
          | (go_at_call 9; (with_reducible refine (same3_v hP e2 (Rat.mul_comm A B)).mono ?_); rintro e w6 ⟨rfl, hg⟩; replace ha := ha.keep hg; replace hb := hb.keep hg; replace hc := hc.keep hg; replace hS := hS.keep hg; replace hP := hP.keep hg; replace e1 := e1.keep hg; replace e2 := e2.keep hg; replace xa0 := hg.cell xa0 (by simp); replace xa1 := hg.cell xa1 (by simp); replace xa2 := hg.cell xa2 (by simp); replace xb0 := hg.cell xb0 (by simp); replace xb1 := hg.cell xb1 (by simp); replace xb2 := hg.cell xb2 (by simp); replace xc0 := hg.cell xc0 (by simp); replace xc1 := hg.cell xc1 (by simp); replace xc2 := hg.cell xc2 (by simp); replace y0 := hg.cell y0 (by simp); replace y1 := hg.cell y1 (by simp); replace y2 := hg.cell y2 (by simp); replace z0 := hg.cell z0 (by simp); replace z1 := hg.cell z1 (by simp); replace z2 := hg.cell z2 (by simp); replace hW := grown_trans hW hg; clear hg))
      clear e1 e2
      go_wp2_with fail
      have hg := grown_drew w6 none
      replace ha := ha.keep hg; replace hb := hb.keep hg; replace hc := hc.keep hg; replace hS := hS.keep hg; replace hP := hP.keep hg; replace xa0 := hg.cell xa0 (by simp); replace xa1 := hg.cell xa1 (by simp); replace xa2 := hg.cell xa2 (by simp); replace xb0 := hg.cell xb0 (by simp); replace xb1 := hg.cell xb1 (by simp); replace xb2 := hg.cell xb2 (by simp); replace xc0 := hg.cell xc0 (by simp); replace xc1 := hg.cell xc1 (by simp); replace xc2 := hg.cell xc2 (by simp); replace y0 := hg.cell y0 (by simp); replace y1 := hg.cell y1 (by simp); replace y2 := hg.cell y2 (by simp); replace z0 := hg.cell z0 (by simp); replace z1 := hg.cell z1 (by simp); replace z2 := hg.cell z2 (by simp); replace hW := grown_trans hW hg
      clear hg
      go_region_held3 (fun w' => w'.cell? ⟨w.heap.size, 0, none⟩ = some (.bool ga) ∧ w'.cell? ⟨w.heap.size, 1, none⟩ = some (.slice sa na ca) ∧ w'.cell? ⟨w.heap.size, 2, none⟩ = some (.slice ta ma da) ∧ w'.cell? ⟨w.heap.size + 1, 0, none⟩ = some (.bool gb) ∧ w'.cell? ⟨w.heap.size + 1, 1, none⟩ = some (.slice sb nb cb) ∧ w'.cell? ⟨w.heap.size + 1, 2, none⟩ = some (.slice tb mb db) ∧ w'.cell? ⟨w.heap.size + 1 + 1, 0, none⟩ = some (.bool gc) ∧ w'.cell? ⟨w.heap.size + 1 + 1, 1, none⟩ = some (.slice sc nc cc) ∧ w'.cell? ⟨w.heap.size + 1 + 1, 2, none⟩ = some (.slice tc mc dc) ∧ w'.cell? ⟨u, 0, none⟩ = some (.bool gs) ∧ w'.cell? ⟨u, 1, none⟩ = some (.slice ps ns cs) ∧ w'.cell? ⟨u, 2, none⟩ = some (.slice qs ms ds) ∧ w'.cell? ⟨v, 0, none⟩ = some (.bool gp) ∧ w'.cell? ⟨v, 1, none⟩ = some (.slice pp np cp) ∧ w'.cell? ⟨v, 2, none⟩ = some (.slice qp mp dp)) ((try go_split_ands) <;> (repeat' apply And.intro) <;> (repeat (first | (with_reducible assumption) | (with_reducible refine (grown_setCell _ _ _).cell ?_ (by simp; omega)) | (with_reducible refine (World.grownBy_alloc _ _ none).cell ?_ (by simp)) | (with_reducible refine (grown_drew _ none).cell ?_ (by simp)))))
        (first
          | (go_at_call 16; (with_reducible refine (ratMul_v 12 (HT.out.keep hW) hb hc (by omega) (by omega) (by omega) (by omega) (by omega)).mono ?_); rintro e w17 ⟨g17, p17, n17, c17, q17, m17, d17, rfl, e9, hn17, hm17, hg⟩; replace ha := ha.keep hg; replace hb := hb.keep hg; replace hc := hc.keep hg; replace hS := hS.keep hg; replace hP := hP.keep hg; replace e1 := e1.keep hg; replace e2 := e2.keep hg; replace e3 := e3.keep hg; replace e4 := e4.keep hg; replace e5 := e5.keep hg; replace e6 := e6.keep hg; replace e7 := e7.keep hg; replace e8 := e8.keep hg; replace xa0 := hg.cell xa0 (by simp); replace xa1 := hg.cell xa1 (by simp); replace xa2 := hg.cell xa2 (by simp); replace xb0 := hg.cell xb0 (by simp); replace xb1 := hg.cell xb1 (by simp); replace xb2 := hg.cell xb2 (by simp); replace xc0 := hg.cell xc0 (by simp); replace xc1 := hg.cell xc1 (by simp); replace xc2 := hg.cell xc2 (by simp); replace y0 := hg.cell y0 (by simp); replace y1 := hg.cell y1 (by simp); replace y2 := hg.cell y2 (by simp); replace z0 := hg.cell z0 (by simp); replace z1 := hg.cell z1 (by simp); replace z2 := hg.cell z2 (by simp); replace hW := grown_trans hW hg; clear hg)
          | (go_at_call 15; (with_reducible refine (ratAdd_v 68 (HT.out.keep hW) hS.q hc (by omega) (by omega) (by omega) (by omega) (by omega)).mono ?_); rintro e w7 ⟨g7, p7, n7, c7, q7, m7, d7, rfl, e1, hn7, hm7, hg⟩; replace ha := ha.keep hg; replace hb := hb.keep hg; replace hc := hc.keep hg; replace hS := hS.keep hg; replace hP := hP.keep hg; replace xa0 := hg.cell xa0 (by simp); replace xa1 := hg.cell xa1 (by simp); replace xa2 := hg.cell xa2 (by simp); replace xb0 := hg.cell xb0 (by simp); replace xb1 := hg.cell xb1 (by simp); replace xb2 := hg.cell xb2 (by simp); replace xc0 := hg.cell xc0 (by simp); replace xc1 := hg.cell xc1 (by simp); replace xc2 := hg.cell xc2 (by simp); replace y0 := hg.cell y0 (by simp); replace y1 := hg.cell y1 (by simp); replace y2 := hg.cell y2 (by simp); replace z0 := hg.cell z0 (by simp); replace z1 := hg.cell z1 (by simp); replace z2 := hg.cell z2 (by simp); replace hW := grown_trans hW hg; clear hg)
          | (go_at_call 15; (with_reducible refine (ratAdd_v 12 (HT.out.keep hW) hb hc (by omega) (by omega) (by omega) (by omega) (by omega)).mono ?_); rintro e w8 ⟨g8, p8, n8, c8, q8, m8, d8, rfl, e2, hn8, hm8, hg⟩; replace ha := ha.keep hg; replace hb := hb.keep hg; replace hc := hc.keep hg; replace hS := hS.keep hg; replace hP := hP.keep hg; replace e1 := e1.keep hg; replace xa0 := hg.cell xa0 (by simp); replace xa1 := hg.cell xa1 (by simp); replace xa2 := hg.cell xa2 (by simp); replace xb0 := hg.cell xb0 (by simp); replace xb1 := hg.cell xb1 (by simp); replace xb2 := hg.cell xb2 (by simp); replace xc0 := hg.cell xc0 (by simp); replace xc1 := hg.cell xc1 (by simp); replace xc2 := hg.cell xc2 (by simp); replace y0 := hg.cell y0 (by simp); replace y1 := hg.cell y1 (by simp); replace y2 := hg.cell y2 (by simp); replace z0 := hg.cell z0 (by simp); replace z1 := hg.cell z1 (by simp); replace z2 := hg.cell z2 (by simp); replace hW := grown_trans hW hg; clear hg)
          | (go_at_call 15; (with_reducible refine (ratAdd_v 68 (HT.out.keep hW) ha e2.q (by omega) (by omega) (by omega) (by omega) (by omega)).mono ?_); rintro e w9 ⟨g9, p9, n9, c9, q9, m9, d9, rfl, e3, hn9, hm9, hg⟩; replace ha := ha.keep hg; replace hb := hb.keep hg; replace hc := hc.keep hg; replace hS := hS.keep hg; replace hP := hP.keep hg; replace e1 := e1.keep hg; replace e2 := e2.keep hg; replace xa0 := hg.cell xa0 (by simp); replace xa1 := hg.cell xa1 (by simp); replace xa2 := hg.cell xa2 (by simp); replace xb0 := hg.cell xb0 (by simp); replace xb1 := hg.cell xb1 (by simp); replace xb2 := hg.cell xb2 (by simp); replace xc0 := hg.cell xc0 (by simp); replace xc1 := hg.cell xc1 (by simp); replace xc2 := hg.cell xc2 (by simp); replace y0 := hg.cell y0 (by simp); replace y1 := hg.cell y1 (by simp); replace y2 := hg.cell y2 (by simp); replace z0 := hg.cell z0 (by simp); replace z1 := hg.cell z1 (by simp); replace z2 := hg.cell z2 (by simp); replace hW := grown_trans hW hg; clear hg)
          | (go_at_call 9; (with_reducible refine (same3_v e1 e3 (Rat.add_assoc A B C)).mono ?_); rintro e w10 ⟨rfl, hg⟩; replace ha := ha.keep hg; replace hb := hb.keep hg; replace hc := hc.keep hg; replace hS := hS.keep hg; replace hP := hP.keep hg; replace e1 := e1.keep hg; replace e2 := e2.keep hg; replace e3 := e3.keep hg; replace xa0 := hg.cell xa0 (by simp); replace xa1 := hg.cell xa1 (by simp); replace xa2 := hg.cell xa2 (by simp); replace xb0 := hg.cell xb0 (by simp); replace xb1 := hg.cell xb1 (by simp); replace xb2 := hg.cell xb2 (by simp); replace xc0 := hg.cell xc0 (by simp); replace xc1 := hg.cell xc1 (by simp); replace xc2 := hg.cell xc2 (by simp); replace y0 := hg.cell y0 (by simp); replace y1 := hg.cell y1 (by simp); replace y2 := hg.cell y2 (by simp); replace z0 := hg.cell z0 (by simp); replace z1 := hg.cell z1 (by simp); replace z2 := hg.cell z2 (by simp); replace hW := grown_trans hW hg; clear hg)
          | (go_at_call 16; (with_reducible refine (ratMul_v 68 (HT.out.keep hW) hP.q hc (by omega) (by omega) (by omega) (by omega) (by omega)).mono ?_); rintro e w11 ⟨g11, p11, n11, c11, q11, m11, d11, rfl, e4, hn11, hm11, hg⟩; replace ha := ha.keep hg; replace hb := hb.keep hg; replace hc := hc.keep hg; replace hS := hS.keep hg; replace hP := hP.keep hg; replace e1 := e1.keep hg; replace e2 := e2.keep hg; replace e3 := e3.keep hg; replace xa0 := hg.cell xa0 (by simp); replace xa1 := hg.cell xa1 (by simp); replace xa2 := hg.cell xa2 (by simp); replace xb0 := hg.cell xb0 (by simp); replace xb1 := hg.cell xb1 (by simp); replace xb2 := hg.cell xb2 (by simp); replace xc0 := hg.cell xc0 (by simp); replace xc1 := hg.cell xc1 (by simp); replace xc2 := hg.cell xc2 (by simp); replace y0 := hg.cell y0 (by simp); replace y1 := hg.cell y1 (by simp); replace y2 := hg.cell y2 (by simp); replace z0 := hg.cell z0 (by simp); replace z1 := hg.cell z1 (by simp); replace z2 := hg.cell z2 (by simp); replace hW := grown_trans hW hg; clear hg)
          | (go_at_call 16; (with_reducible refine (ratMul_v 12 (HT.out.keep hW) hb hc (by omega) (by omega) (by omega) (by omega) (by omega)).mono ?_); rintro e w12 ⟨g12, p12, n12, c12, q12, m12, d12, rfl, e5, hn12, hm12, hg⟩; replace ha := ha.keep hg; replace hb := hb.keep hg; replace hc := hc.keep hg; replace hS := hS.keep hg; replace hP := hP.keep hg; replace e1 := e1.keep hg; replace e2 := e2.keep hg; replace e3 := e3.keep hg; replace e4 := e4.keep hg; replace xa0 := hg.cell xa0 (by simp); replace xa1 := hg.cell xa1 (by simp); replace xa2 := hg.cell xa2 (by simp); replace xb0 := hg.cell xb0 (by simp); replace xb1 := hg.cell xb1 (by simp); replace xb2 := hg.cell xb2 (by simp); replace xc0 := hg.cell xc0 (by simp); replace xc1 := hg.cell xc1 (by simp); replace xc2 := hg.cell xc2 (by simp); replace y0 := hg.cell y0 (by simp); replace y1 := hg.cell y1 (by simp); replace y2 := hg.cell y2 (by simp); replace z0 := hg.cell z0 (by simp); replace z1 := hg.cell z1 (by simp); replace z2 := hg.cell z2 (by simp); replace hW := grown_trans hW hg; clear hg)
          | (go_at_call 16; (with_reducible refine (ratMul_v 68 (HT.out.keep hW) ha e5.q (by omega) (by omega) (by omega) (by omega) (by omega)).mono ?_); rintro e w13 ⟨g13, p13, n13, c13, q13, m13, d13, rfl, e6, hn13, hm13, hg⟩; replace ha := ha.keep hg; replace hb := hb.keep hg; replace hc := hc.keep hg; replace hS := hS.keep hg; replace hP := hP.keep hg; replace e1 := e1.keep hg; replace e2 := e2.keep hg; replace e3 := e3.keep hg; replace e4 := e4.keep hg; replace e5 := e5.keep hg; replace xa0 := hg.cell xa0 (by simp); replace xa1 := hg.cell xa1 (by simp); replace xa2 := hg.cell xa2 (by simp); replace xb0 := hg.cell xb0 (by simp); replace xb1 := hg.cell xb1 (by simp); replace xb2 := hg.cell xb2 (by simp); replace xc0 := hg.cell xc0 (by simp); replace xc1 := hg.cell xc1 (by simp); replace xc2 := hg.cell xc2 (by simp); replace y0 := hg.cell y0 (by simp); replace y1 := hg.cell y1 (by simp); replace y2 := hg.cell y2 (by simp); replace z0 := hg.cell z0 (by simp); replace z1 := hg.cell z1 (by simp); replace z2 := hg.cell z2 (by simp); replace hW := grown_trans hW hg; clear hg)
          | (go_at_call 9; (with_reducible refine (same3_v e4 e6 (Rat.mul_assoc A B C)).mono ?_); rintro e w14 ⟨rfl, hg⟩; replace ha := ha.keep hg; replace hb := hb.keep hg; replace hc := hc.keep hg; replace hS := hS.keep hg; replace hP := hP.keep hg; replace e1 := e1.keep hg; replace e2 := e2.keep hg; replace e3 := e3.keep hg; replace e4 := e4.keep hg; replace e5 := e5.keep hg; replace e6 := e6.keep hg; replace xa0 := hg.cell xa0 (by simp); replace xa1 := hg.cell xa1 (by simp); replace xa2 := hg.cell xa2 (by simp); replace xb0 := hg.cell xb0 (by simp); replace xb1 := hg.cell xb1 (by simp); replace xb2 := hg.cell xb2 (by simp); replace xc0 := hg.cell xc0 (by simp); replace xc1 := hg.cell xc1 (by simp); replace xc2 := hg.cell xc2 (by simp); replace y0 := hg.cell y0 (by simp); replace y1 := hg.cell y1 (by simp); replace y2 := hg.cell y2 (by simp); replace z0 := hg.cell z0 (by simp); replace z1 := hg.cell z1 (by simp); replace z2 := hg.cell z2 (by simp); replace hW := grown_trans hW hg; clear hg)
          | (go_at_call 16; (with_reducible refine (ratMul_v 68 (HT.out.keep hW) hS.q hc (by omega) (by omega) (by omega) (by omega) (by omega)).mono ?_); rintro e w15 ⟨g15, p15, n15, c15, q15, m15, d15, rfl, e7, hn15, hm15, hg⟩; replace ha := ha.keep hg; replace hb := hb.keep hg; replace hc := hc.keep hg; replace hS := hS.keep hg; replace hP := hP.keep hg; replace e1 := e1.keep hg; replace e2 := e2.keep hg; replace e3 := e3.keep hg; replace e4 := e4.keep hg; replace e5 := e5.keep hg; replace e6 := e6.keep hg; replace xa0 := hg.cell xa0 (by simp); replace xa1 := hg.cell xa1 (by simp); replace xa2 := hg.cell xa2 (by simp); replace xb0 := hg.cell xb0 (by simp); replace xb1 := hg.cell xb1 (by simp); replace xb2 := hg.cell xb2 (by simp); replace xc0 := hg.cell xc0 (by simp); replace xc1 := hg.cell xc1 (by simp); replace xc2 := hg.cell xc2 (by simp); replace y0 := hg.cell y0 (by simp); replace y1 := hg.cell y1 (by simp); replace y2 := hg.cell y2 (by simp); replace z0 := hg.cell z0 (by simp); replace z1 := hg.cell z1 (by simp); replace z2 := hg.cell z2 (by simp); replace hW := grown_trans hW hg; clear hg)
          | (go_at_call 16; (with_reducible refine (ratMul_v 12 (HT.out.keep hW) ha hc (by omega) (by omega) (by omega) (by omega) (by omega)).mono ?_); rintro e w16 ⟨g16, p16, n16, c16, q16, m16, d16, rfl, e8, hn16, hm16, hg⟩; replace ha := ha.keep hg; replace hb := hb.keep hg; replace hc := hc.keep hg; replace hS := hS.keep hg; replace hP := hP.keep hg; replace e1 := e1.keep hg; replace e2 := e2.keep hg; replace e3 := e3.keep hg; replace e4 := e4.keep hg; replace e5 := e5.keep hg; replace e6 := e6.keep hg; replace e7 := e7.keep hg; replace xa0 := hg.cell xa0 (by simp); replace xa1 := hg.cell xa1 (by simp); replace xa2 := hg.cell xa2 (by simp); replace xb0 := hg.cell xb0 (by simp); replace xb1 := hg.cell xb1 (by simp); replace xb2 := hg.cell xb2 (by simp); replace xc0 := hg.cell xc0 (by simp); replace xc1 := hg.cell xc1 (by simp); replace xc2 := hg.cell xc2 (by simp); replace y0 := hg.cell y0 (by simp); replace y1 := hg.cell y1 (by simp); replace y2 := hg.cell y2 (by simp); replace z0 := hg.cell z0 (by simp); replace z1 := hg.cell z1 (by simp); replace z2 := hg.cell z2 (by simp); replace hW := grown_trans hW hg; clear hg)
          | (go_at_call 15; (with_reducible refine (ratAdd_v 68 (HT.out.keep hW) e8.q e9.q (by omega) (by omega) (by omega) (by omega) (by omega)).mono ?_); rintro e w18 ⟨g18, p18, n18, c18, q18, m18, d18, rfl, f1, hn18, hm18, hg⟩; replace ha := ha.keep hg; replace hb := hb.keep hg; replace hc := hc.keep hg; replace hS := hS.keep hg; replace hP := hP.keep hg; replace e1 := e1.keep hg; replace e2 := e2.keep hg; replace e3 := e3.keep hg; replace e4 := e4.keep hg; replace e5 := e5.keep hg; replace e6 := e6.keep hg; replace e7 := e7.keep hg; replace e8 := e8.keep hg; replace e9 := e9.keep hg; replace xa0 := hg.cell xa0 (by simp); replace xa1 := hg.cell xa1 (by simp); replace xa2 := hg.cell xa2 (by simp); replace xb0 := hg.cell xb0 (by simp); replace xb1 := hg.cell xb1 (by simp); replace xb2 := hg.cell xb2 (by simp); replace xc0 := hg.cell xc0 (by simp); replace xc1 := hg.cell xc1 (by simp); replace xc2 := hg.cell xc2 (by simp); replace y0 := hg.cell y0 (by simp); replace y1 := hg.cell y1 (by simp); replace y2 := hg.cell y2 (by simp); replace z0 := hg.cell z0 (by simp); replace z1 := hg.cell z1 (by simp); replace z2 := hg.cell z2 (by simp); replace hW := grown_trans hW hg; clear hg)
          | (go_at_call 9; (with_reducible refine (same3_v e7 f1 (Rat.add_mul A B C)).mono ?_); rintro e w19 ⟨rfl, hg⟩; replace ha := ha.keep hg; replace hb := hb.keep hg; replace hc := hc.keep hg; replace hS := hS.keep hg; replace hP := hP.keep hg; replace e1 := e1.keep hg; replace e2 := e2.keep hg; replace e3 := e3.keep hg; replace e4 := e4.keep hg; replace e5 := e5.keep hg; replace e6 := e6.keep hg; replace e7 := e7.keep hg; replace e8 := e8.keep hg; replace e9 := e9.keep hg; replace f1 := f1.keep hg; replace xa0 := hg.cell xa0 (by simp); replace xa1 := hg.cell xa1 (by simp); replace xa2 := hg.cell xa2 (by simp); replace xb0 := hg.cell xb0 (by simp); replace xb1 := hg.cell xb1 (by simp); replace xb2 := hg.cell xb2 (by simp); replace xc0 := hg.cell xc0 (by simp); replace xc1 := hg.cell xc1 (by simp); replace xc2 := hg.cell xc2 (by simp); replace y0 := hg.cell y0 (by simp); replace y1 := hg.cell y1 (by simp); replace y2 := hg.cell y2 (by simp); replace z0 := hg.cell z0 (by simp); replace z1 := hg.cell z1 (by simp); replace z2 := hg.cell z2 (by simp); replace hW := grown_trans hW hg; clear hg))
      clear e1 e2 e3 e4 e5 e6 e7 e8 e9 f1
      go_wp2_with fail
      have EQ := hid (show decide (A + B - B = A) = true from decide_eq_true (by grind))
      have hg := grown_drew w19 none
      replace ha := ha.keep hg; replace hb := hb.keep hg; replace hc := hc.keep hg; replace hS := hS.keep hg; replace hP := hP.keep hg; replace xa0 := hg.cell xa0 (by simp); replace xa1 := hg.cell xa1 (by simp); replace xa2 := hg.cell xa2 (by simp); replace xb0 := hg.cell xb0 (by simp); replace xb1 := hg.cell xb1 (by simp); replace xb2 := hg.cell xb2 (by simp); replace xc0 := hg.cell xc0 (by simp); replace xc1 := hg.cell xc1 (by simp); replace xc2 := hg.cell xc2 (by simp); replace y0 := hg.cell y0 (by simp); replace y1 := hg.cell y1 (by simp); replace y2 := hg.cell y2 (by simp); replace z0 := hg.cell z0 (by simp); replace z1 := hg.cell z1 (by simp); replace z2 := hg.cell z2 (by simp); replace hW := grown_trans hW hg
      clear hg
      go_region_held3 (fun w' => w'.cell? ⟨w.heap.size, 0, none⟩ = some (.bool ga) ∧ w'.cell? ⟨w.heap.size, 1, none⟩ = some (.slice sa na ca) ∧ w'.cell? ⟨w.heap.size, 2, none⟩ = some (.slice ta ma da) ∧ w'.cell? ⟨w.heap.size + 1, 0, none⟩ = some (.bool gb) ∧ w'.cell? ⟨w.heap.size + 1, 1, none⟩ = some (.slice sb nb cb) ∧ w'.cell? ⟨w.heap.size + 1, 2, none⟩ = some (.slice tb mb db) ∧ w'.cell? ⟨w.heap.size + 1 + 1, 0, none⟩ = some (.bool gc) ∧ w'.cell? ⟨w.heap.size + 1 + 1, 1, none⟩ = some (.slice sc nc cc) ∧ w'.cell? ⟨w.heap.size + 1 + 1, 2, none⟩ = some (.slice tc mc dc) ∧ w'.cell? ⟨u, 0, none⟩ = some (.bool gs) ∧ w'.cell? ⟨u, 1, none⟩ = some (.slice ps ns cs) ∧ w'.cell? ⟨u, 2, none⟩ = some (.slice qs ms ds) ∧ w'.cell? ⟨v, 0, none⟩ = some (.bool gp) ∧ w'.cell? ⟨v, 1, none⟩ = some (.slice pp np cp) ∧ w'.cell? ⟨v, 2, none⟩ = some (.slice qp mp dp)) ((try go_split_ands) <;> (repeat' apply And.intro) <;> (repeat (first | (with_reducible assumption) | (with_reducible refine (grown_setCell _ _ _).cell ?_ (by simp; omega)) | (with_reducible refine (World.grownBy_alloc _ _ none).cell ?_ (by simp)) | (with_reducible refine (grown_drew _ none).cell ?_ (by simp)))))
        (first
          | (go_at_call 19; (with_reducible refine (ratSub_v 68 (HT.out.keep hW) hS.q hb (by omega) (by omega) (by omega) (by omega) (by omega)).mono ?_); rintro e w20 ⟨g20, p20, n20, c20, q20, m20, d20, rfl, e1, hn20, hm20, hg⟩; replace ha := ha.keep hg; replace hb := hb.keep hg; replace hc := hc.keep hg; replace hS := hS.keep hg; replace hP := hP.keep hg; replace xa0 := hg.cell xa0 (by simp); replace xa1 := hg.cell xa1 (by simp); replace xa2 := hg.cell xa2 (by simp); replace xb0 := hg.cell xb0 (by simp); replace xb1 := hg.cell xb1 (by simp); replace xb2 := hg.cell xb2 (by simp); replace xc0 := hg.cell xc0 (by simp); replace xc1 := hg.cell xc1 (by simp); replace xc2 := hg.cell xc2 (by simp); replace y0 := hg.cell y0 (by simp); replace y1 := hg.cell y1 (by simp); replace y2 := hg.cell y2 (by simp); replace z0 := hg.cell z0 (by simp); replace z1 := hg.cell z1 (by simp); replace z2 := hg.cell z2 (by simp); replace hW := grown_trans hW hg; clear hg)
          | (go_at_call 18; (with_reducible refine (ratEqual_v 292 e1.q ha (by omega) (by omega) (by omega) (by omega) (by omega)).mono ?_); rintro e w21 ⟨rfl, hg⟩; rw [EQ.out]; replace ha := ha.keep hg; replace hb := hb.keep hg; replace hc := hc.keep hg; replace hS := hS.keep hg; replace hP := hP.keep hg; replace e1 := e1.keep hg; replace xa0 := hg.cell xa0 (by simp); replace xa1 := hg.cell xa1 (by simp); replace xa2 := hg.cell xa2 (by simp); replace xb0 := hg.cell xb0 (by simp); replace xb1 := hg.cell xb1 (by simp); replace xb2 := hg.cell xb2 (by simp); replace xc0 := hg.cell xc0 (by simp); replace xc1 := hg.cell xc1 (by simp); replace xc2 := hg.cell xc2 (by simp); replace y0 := hg.cell y0 (by simp); replace y1 := hg.cell y1 (by simp); replace y2 := hg.cell y2 (by simp); replace z0 := hg.cell z0 (by simp); replace z1 := hg.cell z1 (by simp); replace z2 := hg.cell z2 (by simp); replace hW := grown_trans hW hg; clear hg))
      clear e1
      by_cases hb0 : B = 0
      · have t0 := hid (show cmpR B 0 = 0 from cmpR_zero.2 hb0)
        go_wp2_with fail
        refine (ratDiv_e 68 hP.q hb hb0 (by omega) (by omega) (by omega) (by omega) (by omega)).mono ?_
        rintro e w22 ⟨rfl, hg⟩
        replace ha := ha.keep hg; replace hb := hb.keep hg; replace hc := hc.keep hg; replace hS := hS.keep hg; replace hP := hP.keep hg; replace xa0 := hg.cell xa0 (by simp); replace xa1 := hg.cell xa1 (by simp); replace xa2 := hg.cell xa2 (by simp); replace xb0 := hg.cell xb0 (by simp); replace xb1 := hg.cell xb1 (by simp); replace xb2 := hg.cell xb2 (by simp); replace xc0 := hg.cell xc0 (by simp); replace xc1 := hg.cell xc1 (by simp); replace xc2 := hg.cell xc2 (by simp); replace y0 := hg.cell y0 (by simp); replace y1 := hg.cell y1 (by simp); replace y2 := hg.cell y2 (by simp); replace z0 := hg.cell z0 (by simp); replace z1 := hg.cell z1 (by simp); replace z2 := hg.cell z2 (by simp); replace hW := grown_trans hW hg
        clear hg
        have hg := World.grownBy_alloc w22 (.cells #[.bool false, .slice none 0 0, .slice none 0 0] 30) none
        have br := heap_alloc_new w22 (.cells #[.bool false, .slice none 0 0, .slice none 0 0] 30)
        obtain ⟨r0, r1, r2, _, _, _⟩ := ratbox_facts br
        clear br
        replace ha := ha.keep hg; replace hb := hb.keep hg; replace hc := hc.keep hg; replace hS := hS.keep hg; replace hP := hP.keep hg; replace xa0 := hg.cell xa0 (by simp); replace xa1 := hg.cell xa1 (by simp); replace xa2 := hg.cell xa2 (by simp); replace xb0 := hg.cell xb0 (by simp); replace xb1 := hg.cell xb1 (by simp); replace xb2 := hg.cell xb2 (by simp); replace xc0 := hg.cell xc0 (by simp); replace xc1 := hg.cell xc1 (by simp); replace xc2 := hg.cell xc2 (by simp); replace y0 := hg.cell y0 (by simp); replace y1 := hg.cell y1 (by simp); replace y2 := hg.cell y2 (by simp); replace z0 := hg.cell z0 (by simp); replace z1 := hg.cell z1 (by simp); replace z2 := hg.cell z2 (by simp); replace hW := grown_trans hW hg
        clear hg
        go_wp2_with fail
        generalize w22.alloc (.cells #[.bool false, .slice none 0 0, .slice none 0 0] 30) = wd at *
        generalize w22.heap.size = K at *
        refine (ratSign_v 12 hb (by omega) (by omega) (by omega)).mono ?_
        rintro e we ⟨rfl, hg⟩
        rw [t0.out]
        replace ha := ha.keep hg; replace hb := hb.keep hg; replace hc := hc.keep hg; replace hS := hS.keep hg; replace hP := hP.keep hg; replace xa0 := hg.cell xa0 (by simp); replace xa1 := hg.cell xa1 (by simp); replace xa2 := hg.cell xa2 (by simp); replace xb0 := hg.cell xb0 (by simp); replace xb1 := hg.cell xb1 (by simp); replace xb2 := hg.cell xb2 (by simp); replace xc0 := hg.cell xc0 (by simp); replace xc1 := hg.cell xc1 (by simp); replace xc2 := hg.cell xc2 (by simp); replace y0 := hg.cell y0 (by simp); replace y1 := hg.cell y1 (by simp); replace y2 := hg.cell y2 (by simp); replace z0 := hg.cell z0 (by simp); replace z1 := hg.cell z1 (by simp); replace z2 := hg.cell z2 (by simp); replace r0 := hg.cell r0 (by simp); replace r1 := hg.cell r1 (by simp); replace r2 := hg.cell r2 (by simp); replace hW := grown_trans hW hg
        clear hg
        go_wp2_with fail
        refine (alive3 (HT.out.keep hW)).mono ?_
        rintro e wf ⟨rfl, hg⟩
        replace hW := grown_trans hW hg
        go_wp2_with fail
        go_ret
        exact ⟨rfl, hW⟩
      · have t1 : (cmpR B 0 == 0) = false := beq_eq_false_iff_ne.2 (fun h => hb0 (cmpR_zero.1 h))
        go_wp2_with fail
        refine (ratDiv_v 68 (HT.out.keep hW) hP.q hb hb0 (by omega) (by omega) (by omega) (by omega) (by omega)).mono ?_
        rintro e w22 ⟨g22, p22, n22, c22, q22, m22, d22, rfl, hQ, hn22, hm22, hg⟩
        replace ha := ha.keep hg; replace hb := hb.keep hg; replace hc := hc.keep hg; replace hS := hS.keep hg; replace hP := hP.keep hg; replace xa0 := hg.cell xa0 (by simp); replace xa1 := hg.cell xa1 (by simp); replace xa2 := hg.cell xa2 (by simp); replace xb0 := hg.cell xb0 (by simp); replace xb1 := hg.cell xb1 (by simp); replace xb2 := hg.cell xb2 (by simp); replace xc0 := hg.cell xc0 (by simp); replace xc1 := hg.cell xc1 (by simp); replace xc2 := hg.cell xc2 (by simp); replace y0 := hg.cell y0 (by simp); replace y1 := hg.cell y1 (by simp); replace y2 := hg.cell y2 (by simp); replace z0 := hg.cell z0 (by simp); replace z1 := hg.cell z1 (by simp); replace z2 := hg.cell z2 (by simp); replace hW := grown_trans hW hg
        clear hg
        have hg := World.grownBy_alloc w22 (.cells #[.bool g22, .slice p22 n22 c22, .slice q22 m22 d22] 30) none
        have br := heap_alloc_new w22 (.cells #[.bool g22, .slice p22 n22 c22, .slice q22 m22 d22] 30)
        obtain ⟨r0, r1, r2, _, _, _⟩ := ratbox_facts br
        clear br
        replace ha := ha.keep hg; replace hb := hb.keep hg; replace hc := hc.keep hg; replace hS := hS.keep hg; replace hP := hP.keep hg; replace hQ := hQ.keep hg; replace xa0 := hg.cell xa0 (by simp); replace xa1 := hg.cell xa1 (by simp); replace xa2 := hg.cell xa2 (by simp); replace xb0 := hg.cell xb0 (by simp); replace xb1 := hg.cell xb1 (by simp); replace xb2 := hg.cell xb2 (by simp); replace xc0 := hg.cell xc0 (by simp); replace xc1 := hg.cell xc1 (by simp); replace xc2 := hg.cell xc2 (by simp); replace y0 := hg.cell y0 (by simp); replace y1 := hg.cell y1 (by simp); replace y2 := hg.cell y2 (by simp); replace z0 := hg.cell z0 (by simp); replace z1 := hg.cell z1 (by simp); replace z2 := hg.cell z2 (by simp); replace hW := grown_trans hW hg
        clear hg
        go_wp2_with fail
        generalize w22.alloc (.cells #[.bool g22, .slice p22 n22 c22, .slice q22 m22 d22] 30) = wd at *
        generalize w22.heap.size = K at *
        have EQ2 := hid (show decide (A * B / B = A) = true from decide_eq_true (by grind))
        refine (ratSign_v 12 hb (by omega) (by omega) (by omega)).mono ?_
        rintro e we ⟨rfl, hg⟩
        replace ha := ha.keep hg; replace hb := hb.keep hg; replace hc := hc.keep hg; replace hS := hS.keep hg; replace hP := hP.keep hg; replace hQ := hQ.keep hg; replace xa0 := hg.cell xa0 (by simp); replace xa1 := hg.cell xa1 (by simp); replace xa2 := hg.cell xa2 (by simp); replace xb0 := hg.cell xb0 (by simp); replace xb1 := hg.cell xb1 (by simp); replace xb2 := hg.cell xb2 (by simp); replace xc0 := hg.cell xc0 (by simp); replace xc1 := hg.cell xc1 (by simp); replace xc2 := hg.cell xc2 (by simp); replace y0 := hg.cell y0 (by simp); replace y1 := hg.cell y1 (by simp); replace y2 := hg.cell y2 (by simp); replace z0 := hg.cell z0 (by simp); replace z1 := hg.cell z1 (by simp); replace z2 := hg.cell z2 (by simp); replace r0 := hg.cell r0 (by simp); replace r1 := hg.cell r1 (by simp); replace r2 := hg.cell r2 (by simp); replace hW := grown_trans hW hg
        clear hg
        go_wp2_with fail
        refine (ratRight_v 292 (HT.out.keep hW) hQ (by omega) (by omega) (by omega)).mono ?_
        rintro e wf ⟨rfl, hg⟩
        replace ha := ha.keep hg; replace hb := hb.keep hg; replace hc := hc.keep hg; replace hS := hS.keep hg; replace hP := hP.keep hg; replace hQ := hQ.keep hg; replace xa0 := hg.cell xa0 (by simp); replace xa1 := hg.cell xa1 (by simp); replace xa2 := hg.cell xa2 (by simp); replace xb0 := hg.cell xb0 (by simp); replace xb1 := hg.cell xb1 (by simp); replace xb2 := hg.cell xb2 (by simp); replace xc0 := hg.cell xc0 (by simp); replace xc1 := hg.cell xc1 (by simp); replace xc2 := hg.cell xc2 (by simp); replace y0 := hg.cell y0 (by simp); replace y1 := hg.cell y1 (by simp); replace y2 := hg.cell y2 (by simp); replace z0 := hg.cell z0 (by simp); replace z1 := hg.cell z1 (by simp); replace z2 := hg.cell z2 (by simp); replace r0 := hg.cell r0 (by simp); replace r1 := hg.cell r1 (by simp); replace r2 := hg.cell r2 (by simp); replace hW := grown_trans hW hg
        clear hg
        go_wp2_with fail
        refine (ratEqual_v 292 hQ.q ha (by omega) (by omega) (by omega) (by omega) (by omega)).mono ?_
        rintro e wh ⟨rfl, hg⟩
        rw [EQ2.out]
        replace ha := ha.keep hg; replace hb := hb.keep hg; replace hc := hc.keep hg; replace hS := hS.keep hg; replace hP := hP.keep hg; replace hQ := hQ.keep hg; replace xa0 := hg.cell xa0 (by simp); replace xa1 := hg.cell xa1 (by simp); replace xa2 := hg.cell xa2 (by simp); replace xb0 := hg.cell xb0 (by simp); replace xb1 := hg.cell xb1 (by simp); replace xb2 := hg.cell xb2 (by simp); replace xc0 := hg.cell xc0 (by simp); replace xc1 := hg.cell xc1 (by simp); replace xc2 := hg.cell xc2 (by simp); replace y0 := hg.cell y0 (by simp); replace y1 := hg.cell y1 (by simp); replace y2 := hg.cell y2 (by simp); replace z0 := hg.cell z0 (by simp); replace z1 := hg.cell z1 (by simp); replace z2 := hg.cell z2 (by simp); replace r0 := hg.cell r0 (by simp); replace r1 := hg.cell r1 (by simp); replace r2 := hg.cell r2 (by simp); replace hW := grown_trans hW hg
        clear hg
        go_wp2_with fail
        refine (alive3 (HT.out.keep hW)).mono ?_
        rintro e wi ⟨rfl, hg⟩
        replace hW := grown_trans hW hg
        go_wp2_with fail
        go_ret
        exact ⟨rfl, hW⟩
  · rw [decide_eq_false h12] at HS
    replace HS := hid HS
    go_enter Tryd.func4, Tryd.ntmps4
    go_wp2_with fail
    refine HS.out.mono ?_
    rintro e w0 ⟨rfl, hg⟩
    replace hW := grown_trans hW3 hg
    go_wp2_with fail
    refine (alive3 (HT.out.keep hW)).mono ?_
    rintro e w1 ⟨rfl, hg⟩
    go_wp2_with fail
    go_ret
    exact ⟨rfl, grown_trans hW hg⟩

theorem rationalField_door (os : Os) (args : Array Value) : laidMetH Tryd.prog [("math/bits.deBruijn64tab", Rows.laid_math_bits_deBruijn64tab)] ((World.doorLaid Tryd.prog 400 os).forCall (fun _ _ => 0) ⟨#[], args, []⟩).memory :=
  laidMetH_of_parts3 (fuel := 8) (laidMet_of_run' 8 (by kernel_rfl) (by kernel_rfl)) (by kernel_rfl) (by kernel_rfl)

set_option maxRecDepth 100000 in
theorem rationalField_lifted (os : Os) (started : os.Started) (H : Type) (enc : TypeId × Value → H) :
    ReturnsInHanded {} Tryd.checked os 4 .any (fun w args => (Rows.rationalFieldSpec.pre enc Tryd.prog Tryd.f4 [] false w args ∧ laidMetH Tryd.prog [("math/bits.deBruijn64tab", Rows.laid_math_bits_deBruijn64tab)] w) ∧ sizedMet enc Tryd.prog Tryd.f4 (OpenSpec.ofChange Rows.rationalFieldSpec) false w args)
      (Rows.rationalFieldSpec.post enc Tryd.prog Tryd.f4 false true false false) := by
  refine returnsInHanded_of_change_and (C := Tryd.checked) (X := fun w _ => laidMetH Tryd.prog [("math/bits.deBruijn64tab", Rows.laid_math_bits_deBruijn64tab)] w) (fun _ _ _ hh h => h.of_heap hh) own1 started (by kernel_rfl) Tryd.func4
    (ChangeSpec.witness_shaped (enc := enc) (C := Tryd.checked) (os := os) (X := fun w _ => laidMetH Tryd.prog [("math/bits.deBruijn64tab", Rows.laid_math_bits_deBruijn64tab)] w) false (World.doorLaid Tryd.prog 400 os) #[.agg #[.bool false, .slice none 0 0, .slice none 0 0], .agg #[.bool false, .slice none 0 0, .slice none 0 0], .agg #[.bool false, .slice none 0 0, .slice none 0 0]] 8 rfl (World.shaped_of_RefB (by kernel_rfl) (by kernel_rfl)) (by kernel_rfl) (by kernel_rfl) (by kernel_rfl) (rationalField_door os _)) ?_
  intro W base args ds gs before hval0 hW _ _ hL _
  have hval : ∀ (j : Nat) t v, Tryd.f4.params[j]? = some t → args[j]? = some v → Value.okWide Tryd.prog W .any base t v := hval0
  have hW' := hW
  obtain ⟨p, q, hA0, hV, rfl, hfz, hnd⟩ := hW
  have hA : DataW.TrodAll enc Tryd.prog W 0 (fun _ => true) true Tryd.f4.params.toList args.toList ds p := hA0
  rw [Tryd.params4] at hA hval
  obtain ⟨v0, v1, v2, d0, d1, d2, p0, p1, p2, rfl, rfl, rfl, h0, h1, h2⟩ := trodAll_three hA
  obtain ⟨rfl, rfl⟩ := trodVars_none hV
  have hlt : ∀ x ∈ p0 ++ (p1 ++ (p2)), x.block < W.heap.size := fun x hx => hW'.lt x (by simpa using hx)
  obtain ⟨g0, a, n, c, xs, a', n', c', xs', rfl, hr0, hx0, hs0, hy0⟩ := open_Rat (hval 0 30 v0 rfl rfl) h0
  obtain ⟨g1, b, m, d, ys, b', m', d', ys', rfl, hr1, hx1, hs1, hy1⟩ := open_Rat (hval 1 30 v1 rfl rfl) h1
  obtain ⟨g2, r, l, k, zs, r', l', k', zs', rfl, hr2, hx2, hs2, hy2⟩ := open_Rat (hval 2 30 v2 rfl rfl) h2
  refine (rationalField_walk g0 a a' n c n' c' g1 b b' m d m' d' g2 r r' l k l' k' _ _ _ W (tb_of_laid hL) (IsQ.of g0 hr0 hx0 hs0 hy0) (IsQ.of g1 hr1 hx1 hs1 hy1) (IsQ.of g2 hr2 hx2 hs2 hy2)).mono fun e W' ⟨he, hg⟩ => ?_
  subst he
  have hB := grown_below hg
  exact ⟨_, rfl, _, _, _, [], _, [], hW', trodAll_mk1 (shut_bool Tryd.underlying4 true),
    trodAll_mk3 (Below.trod laidOut1 readRat rowRat h0 hB fun x hx => hlt x (by simp [hx])) (Below.trod laidOut1 readRat rowRat h1 hB fun x hx => hlt x (by simp [hx])) (Below.trod laidOut1 readRat rowRat h2 hB fun x hx => hlt x (by simp [hx])), rfl, hB.frame _, fun h => by cases h⟩

theorem rationalField_holds : Rows.RationalFieldSaid :=
  OpenClaim.holds_of_wide 4 Tryd.f4 rfl rfl rfl rfl rfl rfl rfl ⟨rfl, rfl, rfl, rfl, rfl⟩ rfl rfl rfl rfl rfl (by kernel_rfl) Tryd.func4 (by kernel_rfl)
    (of_decide_eq_true (by kernel_rfl)) (by unfold Func.isWrapper; first | (rw [if_pos (by decide +kernel)]; kernel_rfl) | (rw [if_neg (by decide +kernel)]; exact ⟨rfl, rfl⟩))
    (fun os started H enc _ => rationalField_lifted os started H enc)

theorem rationalField_card : Rows.RationalFieldCardSaid :=
  Claim7.holds_tied_plain_at .later [] [.data] true _ false
    rationalField_holds (fun _ h => by cases h) (by kernel_rfl) (fun _ h => by cases h) rationalField_row_tie rfl ⟨rfl, rfl⟩ (by kernel_rfl) rfl
    (fun f fn hf hfn => by
      obtain rfl : f = 4 := Option.some.inj ((show Tryd.prog.funcNamed "geoprover/geoproverlaw03.RationalField" = some 4 by kernel_rfl).symm.trans hf) |>.symm
      obtain rfl : fn = Tryd.f4 := (Option.some.inj (Tryd.func4.symm.trans hfn)).symm
      exact ⟨by kernel_rfl, fun j t ht => by
        rw [Tryd.params4] at ht
        have hm : t ∈ [30, 30, 30] := by simpa using Array.mem_of_getElem? ht
        have hall : ([30, 30, 30].all fun u => !Tryd.prog.wantsStandIn u) = true := by kernel_rfl
        exact (show Tryd.prog.wantsStandIn t = false by simpa using List.all_eq_true.1 hall t hm)⟩)
    (by kernel_rfl)

end Go.Proofs.YtdgcmbpmjcfhpaaDoor
