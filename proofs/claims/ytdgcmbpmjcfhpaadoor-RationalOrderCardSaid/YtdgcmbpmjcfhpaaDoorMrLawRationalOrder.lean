/-
  Whatever the arguments are, the Go function RationalOrder returns true and leaves them as they are. Condition: the table deBruijn64tab of package math/bits holds what the program's text lays (the card ties it).
-/
import Derived.Test.YtdgcmbpmjcfhpaaDoorMrP
import Derived.Deep.RegionHeld3
import Derived.Deep.DeepCutAuto

set_option linter.unusedVariables false
set_option linter.unusedSimpArgs false
namespace Go.Proofs.YtdgcmbpmjcfhpaaDoor
open Go.ChangeShapes Go.WideShapes Go.ChangeAt Go.RowKit Nm
open Go

theorem small3_three (ga : Bool) (sa ta : Option Addr) (na ca ma da : Nat) (gb : Bool) (sb tb : Option Addr) (nb cb mb db : Nat) (gc : Bool) (sc tc : Option Addr) (nc cc mc dc : Nat) (w : World) (G : Nat) (hG : G = w.heap.size) :
    Calls Tryd.prog 14 #[.slice (some ⟨G, 0, none⟩) 3 3] (w.alloc (.cells #[.bool ga, .slice sa na ca, .slice ta ma da, .bool gb, .slice sb nb cb, .slice tb mb db, .bool gc, .slice sc nc cc, .slice tc mc dc] 30)) fun e w' =>
      e = .returned (.bool (decide ((na ≤ 12 ∧ ma ≤ 12) ∧ (nb ≤ 12 ∧ mb ≤ 12) ∧ nc ≤ 12 ∧ mc ≤ 12))) ∧ w.grownBy w' none := by
  subst hG
  have := small3_any w.heap.size 3 [((sa, na, ca), (ta, ma, da)), ((sb, nb, cb), (tb, mb, db)), ((sc, nc, cc), (tc, mc, dc))] (w.alloc (.cells #[.bool ga, .slice sa na ca, .slice ta ma da, .bool gb, .slice sb nb cb, .slice tb mb db, .bool gc, .slice sc nc cc, .slice tc mc dc] 30)) (by simp) (fun j hj => by
    match j, hj with
    | 0, _ => simp
    | 1, _ => simp
    | 2, _ => simp)
  refine this.mono fun e w' ⟨h1, h2⟩ => ⟨by simpa using h1, h2 ▸ World.grownBy_alloc w _ none⟩


set_option maxRecDepth 100000 in
set_option maxHeartbeats 16000000 in
theorem rationalOrder_walk (ga : Bool) (sa ta : Option Addr) (na ca ma da : Nat) (gb : Bool) (sb tb : Option Addr) (nb cb mb db : Nat) (gc : Bool) (sc tc : Option Addr) (nc cc mc dc : Nat) (A B C : Rat) (w : World) (T : Tb w) (ha : IsQ w ga sa na ca ta ma da A) (hb : IsQ w gb sb nb cb tb mb db B) (hc : IsQ w gc sc nc cc tc mc dc C) :
    Calls Tryd.prog 5 #[.agg #[.bool ga, .slice sa na ca, .slice ta ma da], .agg #[.bool gb, .slice sb nb cb, .slice tb mb db], .agg #[.bool gc, .slice sc nc cc, .slice tc mc dc]] w fun e w' => e = .returned (.bool true) ∧ w.grownBy w' none := by
  have hW3 := (grown_trans (grown_trans (World.grownBy_alloc w (.cells #[.bool ga, .slice sa na ca, .slice ta ma da] 30) none) (World.grownBy_alloc _ (.cells #[.bool gb, .slice sb nb cb, .slice tb mb db] 30) none)) (World.grownBy_alloc _ (.cells #[.bool gc, .slice sc nc cc, .slice tc mc dc] 30) none))
  have HS := small3_three ga sa ta na ca ma da gb sb tb nb cb mb db gc sc tc nc cc mc dc (((w.alloc (.cells #[.bool ga, .slice sa na ca, .slice ta ma da] 30)).alloc (.cells #[.bool gb, .slice sb nb cb, .slice tb mb db] 30)).alloc (.cells #[.bool gc, .slice sc nc cc, .slice tc mc dc] 30)) (w.heap.size + 1 + 1 + 1) (by simp)
  have HT := hid T
  clear T
  by_cases h12 : (na ≤ 12 ∧ ma ≤ 12) ∧ (nb ≤ 12 ∧ mb ≤ 12) ∧ nc ≤ 12 ∧ mc ≤ 12
  · rw [decide_eq_true h12] at HS
    replace HS := hid HS
    obtain ⟨⟨hna, hma⟩, ⟨hnb, hmb⟩, hnc, hmc⟩ := h12
    go_enter Tryd.func5, Tryd.ntmps5
    go_wp2_with fail
    refine HS.out.mono ?_
    rintro e w0 ⟨rfl, hg⟩
    have xa0 : w0.cell? ⟨w.heap.size, 0, none⟩ = some (.bool ga) := hg.cell (by simp [go_sem, World.cell?_alloc_past]) (by simp)
    have xa1 : w0.cell? ⟨w.heap.size, 1, none⟩ = some (.slice sa na ca) := hg.cell (by simp [go_sem, World.cell?_alloc_past]) (by simp)
    have xa2 : w0.cell? ⟨w.heap.size, 2, none⟩ = some (.slice ta ma da) := hg.cell (by simp [go_sem, World.cell?_alloc_past]) (by simp)
    have xb0 : w0.cell? ⟨w.heap.size + 1, 0, none⟩ = some (.bool gb) := hg.cell (by simp [go_sem, World.cell?_alloc_past]) (by simp)
    have xb1 : w0.cell? ⟨w.heap.size + 1, 1, none⟩ = some (.slice sb nb cb) := hg.cell (by simp [go_sem, World.cell?_alloc_past]) (by simp)
    have xb2 : w0.cell? ⟨w.heap.size + 1, 2, none⟩ = some (.slice tb mb db) := hg.cell (by simp [go_sem, World.cell?_alloc_past]) (by simp)
    have xc0 : w0.cell? ⟨w.heap.size + 1 + 1, 0, none⟩ = some (.bool gc) := hg.cell (by simp [go_sem, World.cell?_alloc_past]) (by simp)
    have xc1 : w0.cell? ⟨w.heap.size + 1 + 1, 1, none⟩ = some (.slice sc nc cc) := hg.cell (by simp [go_sem, World.cell?_alloc_past]) (by simp)
    have xc2 : w0.cell? ⟨w.heap.size + 1 + 1, 2, none⟩ = some (.slice tc mc dc) := hg.cell (by simp [go_sem, World.cell?_alloc_past]) (by simp)
    have hz0 := hg.size; simp at hz0
    replace hg := grown_trans hW3 hg
    replace ha := ha.keep hg; replace hb := hb.keep hg; replace hc := hc.keep hg
    have hW := hg
    clear hg HS hW3
    have b1 := cmpR_bd A B
    have b2 := cmpR_bd C 0
    have q0 := wrap_sg1 b1
    have q1 := wrap_sg2 b1 b2
    go_wp2_with fail
    refine (ratCmp_v 12 ha hb (by omega) (by omega) (by omega) (by omega) (by omega)).mono ?_
    rintro e w1 ⟨rfl, hg⟩
    replace ha := ha.keep hg; replace hb := hb.keep hg; replace hc := hc.keep hg; replace xa0 := hg.cell xa0 (by simp); replace xa1 := hg.cell xa1 (by simp); replace xa2 := hg.cell xa2 (by simp); replace xb0 := hg.cell xb0 (by simp); replace xb1 := hg.cell xb1 (by simp); replace xb2 := hg.cell xb2 (by simp); replace xc0 := hg.cell xc0 (by simp); replace xc1 := hg.cell xc1 (by simp); replace xc2 := hg.cell xc2 (by simp); replace hW := grown_trans hW hg
    clear hg
    go_wp2_with fail
    have hg := grown_drew w1 none
    replace ha := ha.keep hg; replace hb := hb.keep hg; replace hc := hc.keep hg; replace xa0 := hg.cell xa0 (by simp); replace xa1 := hg.cell xa1 (by simp); replace xa2 := hg.cell xa2 (by simp); replace xb0 := hg.cell xb0 (by simp); replace xb1 := hg.cell xb1 (by simp); replace xb2 := hg.cell xb2 (by simp); replace xc0 := hg.cell xc0 (by simp); replace xc1 := hg.cell xc1 (by simp); replace xc2 := hg.cell xc2 (by simp); replace hW := grown_trans hW hg
    clear hg
    go_region_held3 (fun w' => w'.cell? ⟨w.heap.size, 0, none⟩ = some (.bool ga) ∧ w'.cell? ⟨w.heap.size, 1, none⟩ = some (.slice sa na ca) ∧ w'.cell? ⟨w.heap.size, 2, none⟩ = some (.slice ta ma da) ∧ w'.cell? ⟨w.heap.size + 1, 0, none⟩ = some (.bool gb) ∧ w'.cell? ⟨w.heap.size + 1, 1, none⟩ = some (.slice sb nb cb) ∧ w'.cell? ⟨w.heap.size + 1, 2, none⟩ = some (.slice tb mb db) ∧ w'.cell? ⟨w.heap.size + 1 + 1, 0, none⟩ = some (.bool gc) ∧ w'.cell? ⟨w.heap.size + 1 + 1, 1, none⟩ = some (.slice sc nc cc) ∧ w'.cell? ⟨w.heap.size + 1 + 1, 2, none⟩ = some (.slice tc mc dc)) ((try go_split_ands) <;> (repeat' apply And.intro) <;> (repeat (first | (with_reducible assumption) | (with_reducible refine (grown_setCell _ _ _).cell ?_ (by simp; omega)) | (with_reducible refine (World.grownBy_alloc _ _ none).cell ?_ (by simp)) | (with_reducible refine (grown_drew _ none).cell ?_ (by simp)))))
      (first
        | (go_at_call 22; (with_reducible refine (ratCmp_v 12 hb ha (by omega) (by omega) (by omega) (by omega) (by omega)).mono ?_); rintro e w2 ⟨rfl, hg⟩; rw [cmpR_neg A B]; replace ha := ha.keep hg; replace hb := hb.keep hg; replace hc := hc.keep hg; replace xa0 := hg.cell xa0 (by simp); replace xa1 := hg.cell xa1 (by simp); replace xa2 := hg.cell xa2 (by simp); replace xb0 := hg.cell xb0 (by simp); replace xb1 := hg.cell xb1 (by simp); replace xb2 := hg.cell xb2 (by simp); replace xc0 := hg.cell xc0 (by simp); replace xc1 := hg.cell xc1 (by simp); replace xc2 := hg.cell xc2 (by simp); replace hW := grown_trans hW hg; clear hg)
        | (go_at_call 19; (with_reducible refine (ratSub_v 12 (HT.out.keep hW) ha hb (by omega) (by omega) (by omega) (by omega) (by omega)).mono ?_); rintro e w3 ⟨g3, p3, n3, c3, q3, m3, d3, rfl, e1, hn3, hm3, hg⟩; replace ha := ha.keep hg; replace hb := hb.keep hg; replace hc := hc.keep hg; replace xa0 := hg.cell xa0 (by simp); replace xa1 := hg.cell xa1 (by simp); replace xa2 := hg.cell xa2 (by simp); replace xb0 := hg.cell xb0 (by simp); replace xb1 := hg.cell xb1 (by simp); replace xb2 := hg.cell xb2 (by simp); replace xc0 := hg.cell xc0 (by simp); replace xc1 := hg.cell xc1 (by simp); replace xc2 := hg.cell xc2 (by simp); replace hW := grown_trans hW hg; clear hg)
        | (go_at_call 21; (with_reducible refine (ratSign_v 68 e1.q (by omega) (by omega) (by omega)).mono ?_); rintro e w4 ⟨rfl, hg⟩; rw [cmpR_sub]; replace ha := ha.keep hg; replace hb := hb.keep hg; replace hc := hc.keep hg; replace e1 := e1.keep hg; replace xa0 := hg.cell xa0 (by simp); replace xa1 := hg.cell xa1 (by simp); replace xa2 := hg.cell xa2 (by simp); replace xb0 := hg.cell xb0 (by simp); replace xb1 := hg.cell xb1 (by simp); replace xb2 := hg.cell xb2 (by simp); replace xc0 := hg.cell xc0 (by simp); replace xc1 := hg.cell xc1 (by simp); replace xc2 := hg.cell xc2 (by simp); replace hW := grown_trans hW hg; clear hg)
        | (go_at_call 15; (with_reducible refine (ratAdd_v 12 (HT.out.keep hW) ha hc (by omega) (by omega) (by omega) (by omega) (by omega)).mono ?_); rintro e w5 ⟨g5, p5, n5, c5, q5, m5, d5, rfl, e2, hn5, hm5, hg⟩; replace ha := ha.keep hg; replace hb := hb.keep hg; replace hc := hc.keep hg; replace e1 := e1.keep hg; replace xa0 := hg.cell xa0 (by simp); replace xa1 := hg.cell xa1 (by simp); replace xa2 := hg.cell xa2 (by simp); replace xb0 := hg.cell xb0 (by simp); replace xb1 := hg.cell xb1 (by simp); replace xb2 := hg.cell xb2 (by simp); replace xc0 := hg.cell xc0 (by simp); replace xc1 := hg.cell xc1 (by simp); replace xc2 := hg.cell xc2 (by simp); replace hW := grown_trans hW hg; clear hg)
        | (go_at_call 15; (with_reducible refine (ratAdd_v 12 (HT.out.keep hW) hb hc (by omega) (by omega) (by omega) (by omega) (by omega)).mono ?_); rintro e w6 ⟨g6, p6, n6, c6, q6, m6, d6, rfl, e3, hn6, hm6, hg⟩; replace ha := ha.keep hg; replace hb := hb.keep hg; replace hc := hc.keep hg; replace e1 := e1.keep hg; replace e2 := e2.keep hg; replace xa0 := hg.cell xa0 (by simp); replace xa1 := hg.cell xa1 (by simp); replace xa2 := hg.cell xa2 (by simp); replace xb0 := hg.cell xb0 (by simp); replace xb1 := hg.cell xb1 (by simp); replace xb2 := hg.cell xb2 (by simp); replace xc0 := hg.cell xc0 (by simp); replace xc1 := hg.cell xc1 (by simp); replace xc2 := hg.cell xc2 (by simp); replace hW := grown_trans hW hg; clear hg)
        | (go_at_call 22; (with_reducible refine (ratCmp_v 68 e2.q e3.q (by omega) (by omega) (by omega) (by omega) (by omega)).mono ?_); rintro e w7 ⟨rfl, hg⟩; rw [cmpR_add]; replace ha := ha.keep hg; replace hb := hb.keep hg; replace hc := hc.keep hg; replace e1 := e1.keep hg; replace e2 := e2.keep hg; replace e3 := e3.keep hg; replace xa0 := hg.cell xa0 (by simp); replace xa1 := hg.cell xa1 (by simp); replace xa2 := hg.cell xa2 (by simp); replace xb0 := hg.cell xb0 (by simp); replace xb1 := hg.cell xb1 (by simp); replace xb2 := hg.cell xb2 (by simp); replace xc0 := hg.cell xc0 (by simp); replace xc1 := hg.cell xc1 (by simp); replace xc2 := hg.cell xc2 (by simp); replace hW := grown_trans hW hg; clear hg)
        | (go_at_call 16; (with_reducible refine (ratMul_v 12 (HT.out.keep hW) ha hc (by omega) (by omega) (by omega) (by omega) (by omega)).mono ?_); rintro e w8 ⟨g8, p8, n8, c8, q8, m8, d8, rfl, e4, hn8, hm8, hg⟩; replace ha := ha.keep hg; replace hb := hb.keep hg; replace hc := hc.keep hg; replace e1 := e1.keep hg; replace e2 := e2.keep hg; replace e3 := e3.keep hg; replace xa0 := hg.cell xa0 (by simp); replace xa1 := hg.cell xa1 (by simp); replace xa2 := hg.cell xa2 (by simp); replace xb0 := hg.cell xb0 (by simp); replace xb1 := hg.cell xb1 (by simp); replace xb2 := hg.cell xb2 (by simp); replace xc0 := hg.cell xc0 (by simp); replace xc1 := hg.cell xc1 (by simp); replace xc2 := hg.cell xc2 (by simp); replace hW := grown_trans hW hg; clear hg)
        | (go_at_call 16; (with_reducible refine (ratMul_v 12 (HT.out.keep hW) hb hc (by omega) (by omega) (by omega) (by omega) (by omega)).mono ?_); rintro e w9 ⟨g9, p9, n9, c9, q9, m9, d9, rfl, e5, hn9, hm9, hg⟩; replace ha := ha.keep hg; replace hb := hb.keep hg; replace hc := hc.keep hg; replace e1 := e1.keep hg; replace e2 := e2.keep hg; replace e3 := e3.keep hg; replace e4 := e4.keep hg; replace xa0 := hg.cell xa0 (by simp); replace xa1 := hg.cell xa1 (by simp); replace xa2 := hg.cell xa2 (by simp); replace xb0 := hg.cell xb0 (by simp); replace xb1 := hg.cell xb1 (by simp); replace xb2 := hg.cell xb2 (by simp); replace xc0 := hg.cell xc0 (by simp); replace xc1 := hg.cell xc1 (by simp); replace xc2 := hg.cell xc2 (by simp); replace hW := grown_trans hW hg; clear hg)
        | (go_at_call 22; (with_reducible refine (ratCmp_v 68 e4.q e5.q (by omega) (by omega) (by omega) (by omega) (by omega)).mono ?_); rintro e w10 ⟨rfl, hg⟩; rw [cmpR_mul]; replace ha := ha.keep hg; replace hb := hb.keep hg; replace hc := hc.keep hg; replace e1 := e1.keep hg; replace e2 := e2.keep hg; replace e3 := e3.keep hg; replace e4 := e4.keep hg; replace e5 := e5.keep hg; replace xa0 := hg.cell xa0 (by simp); replace xa1 := hg.cell xa1 (by simp); replace xa2 := hg.cell xa2 (by simp); replace xb0 := hg.cell xb0 (by simp); replace xb1 := hg.cell xb1 (by simp); replace xb2 := hg.cell xb2 (by simp); replace xc0 := hg.cell xc0 (by simp); replace xc1 := hg.cell xc1 (by simp); replace xc2 := hg.cell xc2 (by simp); replace hW := grown_trans hW hg; clear hg)
        | (go_at_call 21; (with_reducible refine (ratSign_v 12 hc (by omega) (by omega) (by omega)).mono ?_); rintro e w11 ⟨rfl, hg⟩; replace ha := ha.keep hg; replace hb := hb.keep hg; replace hc := hc.keep hg; replace e1 := e1.keep hg; replace e2 := e2.keep hg; replace e3 := e3.keep hg; replace e4 := e4.keep hg; replace e5 := e5.keep hg; replace xa0 := hg.cell xa0 (by simp); replace xa1 := hg.cell xa1 (by simp); replace xa2 := hg.cell xa2 (by simp); replace xb0 := hg.cell xb0 (by simp); replace xb1 := hg.cell xb1 (by simp); replace xb2 := hg.cell xb2 (by simp); replace xc0 := hg.cell xc0 (by simp); replace xc1 := hg.cell xc1 (by simp); replace xc2 := hg.cell xc2 (by simp); replace hW := grown_trans hW hg; clear hg)
        | (go_at_call 18; (with_reducible refine (ratEqual_v 12 ha hb (by omega) (by omega) (by omega) (by omega) (by omega)).mono ?_); rintro e w12 ⟨rfl, hg⟩; rw [eq_cmpR]; replace ha := ha.keep hg; replace hb := hb.keep hg; replace hc := hc.keep hg; replace e1 := e1.keep hg; replace e2 := e2.keep hg; replace e3 := e3.keep hg; replace e4 := e4.keep hg; replace e5 := e5.keep hg; replace xa0 := hg.cell xa0 (by simp); replace xa1 := hg.cell xa1 (by simp); replace xa2 := hg.cell xa2 (by simp); replace xb0 := hg.cell xb0 (by simp); replace xb1 := hg.cell xb1 (by simp); replace xb2 := hg.cell xb2 (by simp); replace xc0 := hg.cell xc0 (by simp); replace xc1 := hg.cell xc1 (by simp); replace xc2 := hg.cell xc2 (by simp); replace hW := grown_trans hW hg; clear hg))
    clear e1 e2 e3 e4 e5
    clear b1 b2 q0 q1
    go_wp2_with fail
    refine (ratFloor_v 12 ha (by omega) (by omega) (by omega)).mono ?_
    rintro e w13 ⟨gf, pf, nf, cf, rfl, hF, hnf, hg⟩
    replace ha := ha.keep hg; replace hb := hb.keep hg; replace hc := hc.keep hg; replace xa0 := hg.cell xa0 (by simp); replace xa1 := hg.cell xa1 (by simp); replace xa2 := hg.cell xa2 (by simp); replace xb0 := hg.cell xb0 (by simp); replace xb1 := hg.cell xb1 (by simp); replace xb2 := hg.cell xb2 (by simp); replace xc0 := hg.cell xc0 (by simp); replace xc1 := hg.cell xc1 (by simp); replace xc2 := hg.cell xc2 (by simp); replace hW := grown_trans hW hg
    clear hg
    obtain ⟨K, hK⟩ : ∃ K, K = w13.heap.size := ⟨_, rfl⟩
    have hg := grown_trans (World.grownBy_alloc w13 (.cells #[.int .u16 1] 46) none) (World.grownBy_alloc _ (.cells #[.bool gf, .slice pf nf cf, .slice (some ⟨K, 0, none⟩) 1 1] 30) none)
    have c1 : IsC ((w13.alloc (.cells #[.int .u16 1] 46)).alloc (.cells #[.bool gf, .slice pf nf cf, .slice (some ⟨K, 0, none⟩) 1 1] 30)) (some ⟨K, 0, none⟩) 1 1 1 := hK ▸ word_c (x := 1) (first_of w13 _ _) (by omega) (by omega)
    have bf := second w13 (.cells #[.int .u16 1] 46) (.cells #[.bool gf, .slice pf nf cf, .slice (some ⟨K, 0, none⟩) 1 1] 30)
    rw [← hK] at bf
    obtain ⟨y0, y1, y2, _, _, _⟩ := ratbox_facts bf
    clear bf
    replace hF := hF.keep hg
    replace ha := ha.keep hg; replace hb := hb.keep hg; replace hc := hc.keep hg; replace xa0 := hg.cell xa0 (by simp); replace xa1 := hg.cell xa1 (by simp); replace xa2 := hg.cell xa2 (by simp); replace xb0 := hg.cell xb0 (by simp); replace xb1 := hg.cell xb1 (by simp); replace xb2 := hg.cell xb2 (by simp); replace xc0 := hg.cell xc0 (by simp); replace xc1 := hg.cell xc1 (by simp); replace xc2 := hg.cell xc2 (by simp); replace hW := grown_trans hW hg
    have hV := IsV.of_int hF c1
    clear hg hF c1
    have HK := hid hK
    subst hK
    go_wp2_with fail
    generalize (w13.alloc (.cells #[.int .u16 1] 46)).alloc (.cells #[.bool gf, .slice pf nf cf, .slice (some ⟨w13.heap.size, 0, none⟩) 1 1] 30) = wf at *
    generalize w13.heap.size = K at *
    clear HK
    have f1 : cmpR (A.floor : Rat) A ≤ 0 := by
      have := Rat.floor_le A
      unfold cmpR; split
      · omega
      · rw [if_pos (by grind)]; omega
    have f2 : cmpR ((A.floor : Rat) + ((1 : Int) : Rat)) A = 1 := by
      have := Rat.lt_floor (x := A)
      refine cmpR_gt ?_
      have e1 : ((1 : Int) : Rat) = 1 := rfl
      rw [e1]
      grind
    replace f2 := hid f2
    have hg := grown_drew wf none
    replace ha := ha.keep hg; replace hb := hb.keep hg; replace hc := hc.keep hg; replace hV := hV.keep hg; replace xa0 := hg.cell xa0 (by simp); replace xa1 := hg.cell xa1 (by simp); replace xa2 := hg.cell xa2 (by simp); replace xb0 := hg.cell xb0 (by simp); replace xb1 := hg.cell xb1 (by simp); replace xb2 := hg.cell xb2 (by simp); replace xc0 := hg.cell xc0 (by simp); replace xc1 := hg.cell xc1 (by simp); replace xc2 := hg.cell xc2 (by simp); replace y0 := hg.cell y0 (by simp); replace y1 := hg.cell y1 (by simp); replace y2 := hg.cell y2 (by simp); replace hW := grown_trans hW hg
    clear hg
    go_region_held3 (fun w' => w'.cell? ⟨w.heap.size, 0, none⟩ = some (.bool ga) ∧ w'.cell? ⟨w.heap.size, 1, none⟩ = some (.slice sa na ca) ∧ w'.cell? ⟨w.heap.size, 2, none⟩ = some (.slice ta ma da) ∧ w'.cell? ⟨w.heap.size + 1, 0, none⟩ = some (.bool gb) ∧ w'.cell? ⟨w.heap.size + 1, 1, none⟩ = some (.slice sb nb cb) ∧ w'.cell? ⟨w.heap.size + 1, 2, none⟩ = some (.slice tb mb db) ∧ w'.cell? ⟨w.heap.size + 1 + 1, 0, none⟩ = some (.bool gc) ∧ w'.cell? ⟨w.heap.size + 1 + 1, 1, none⟩ = some (.slice sc nc cc) ∧ w'.cell? ⟨w.heap.size + 1 + 1, 2, none⟩ = some (.slice tc mc dc) ∧ w'.cell? ⟨K + 1, 0, none⟩ = some (.bool gf) ∧ w'.cell? ⟨K + 1, 1, none⟩ = some (.slice pf nf cf) ∧ w'.cell? ⟨K + 1, 2, none⟩ = some (.slice (some ⟨K, 0, none⟩) 1 1)) ((try go_split_ands) <;> (repeat' apply And.intro) <;> (repeat (first | (with_reducible assumption) | (with_reducible refine (grown_setCell _ _ _).cell ?_ (by simp; omega)) | (with_reducible refine (World.grownBy_alloc _ _ none).cell ?_ (by simp)) | (with_reducible refine (grown_drew _ none).cell ?_ (by simp)))))
      (first
        | (go_at_call 17; (with_reducible refine (ratRight_v 18 (HT.out.keep hW) hV (by omega) (by omega) (by omega)).mono ?_); rintro e w14 ⟨rfl, hg⟩; replace ha := ha.keep hg; replace hb := hb.keep hg; replace hc := hc.keep hg; replace hV := hV.keep hg; replace xa0 := hg.cell xa0 (by simp); replace xa1 := hg.cell xa1 (by simp); replace xa2 := hg.cell xa2 (by simp); replace xb0 := hg.cell xb0 (by simp); replace xb1 := hg.cell xb1 (by simp); replace xb2 := hg.cell xb2 (by simp); replace xc0 := hg.cell xc0 (by simp); replace xc1 := hg.cell xc1 (by simp); replace xc2 := hg.cell xc2 (by simp); replace y0 := hg.cell y0 (by simp); replace y1 := hg.cell y1 (by simp); replace y2 := hg.cell y2 (by simp); replace hW := grown_trans hW hg; clear hg)
        | (go_at_call 22; (with_reducible refine (ratCmp_v 18 hV.q ha (by omega) (by omega) (by omega) (by omega) (by omega)).mono ?_); rintro e w15 ⟨rfl, hg⟩; replace ha := ha.keep hg; replace hb := hb.keep hg; replace hc := hc.keep hg; replace hV := hV.keep hg; replace xa0 := hg.cell xa0 (by simp); replace xa1 := hg.cell xa1 (by simp); replace xa2 := hg.cell xa2 (by simp); replace xb0 := hg.cell xb0 (by simp); replace xb1 := hg.cell xb1 (by simp); replace xb2 := hg.cell xb2 (by simp); replace xc0 := hg.cell xc0 (by simp); replace xc1 := hg.cell xc1 (by simp); replace xc2 := hg.cell xc2 (by simp); replace y0 := hg.cell y0 (by simp); replace y1 := hg.cell y1 (by simp); replace y2 := hg.cell y2 (by simp); replace hW := grown_trans hW hg; clear hg)
        | (go_at_call 10; (with_reducible refine (ratOf_v 1 _ (by omega) (by omega)).mono ?_); rintro e w16 ⟨g16, p16, n16, c16, q16, m16, d16, rfl, hO, hn16, hm16, hg⟩; replace ha := ha.keep hg; replace hb := hb.keep hg; replace hc := hc.keep hg; replace hV := hV.keep hg; replace xa0 := hg.cell xa0 (by simp); replace xa1 := hg.cell xa1 (by simp); replace xa2 := hg.cell xa2 (by simp); replace xb0 := hg.cell xb0 (by simp); replace xb1 := hg.cell xb1 (by simp); replace xb2 := hg.cell xb2 (by simp); replace xc0 := hg.cell xc0 (by simp); replace xc1 := hg.cell xc1 (by simp); replace xc2 := hg.cell xc2 (by simp); replace y0 := hg.cell y0 (by simp); replace y1 := hg.cell y1 (by simp); replace y2 := hg.cell y2 (by simp); replace hW := grown_trans hW hg; clear hg)
        | (go_at_call 15; (with_reducible refine (ratAdd_v 18 (HT.out.keep hW) hV.q hO.q (by omega) (by omega) (by omega) (by omega) (by omega)).mono ?_); rintro e w17 ⟨g17, p17, n17, c17, q17, m17, d17, rfl, hS, hn17, hm17, hg⟩; replace ha := ha.keep hg; replace hb := hb.keep hg; replace hc := hc.keep hg; replace hV := hV.keep hg; replace hO := hO.keep hg; replace xa0 := hg.cell xa0 (by simp); replace xa1 := hg.cell xa1 (by simp); replace xa2 := hg.cell xa2 (by simp); replace xb0 := hg.cell xb0 (by simp); replace xb1 := hg.cell xb1 (by simp); replace xb2 := hg.cell xb2 (by simp); replace xc0 := hg.cell xc0 (by simp); replace xc1 := hg.cell xc1 (by simp); replace xc2 := hg.cell xc2 (by simp); replace y0 := hg.cell y0 (by simp); replace y1 := hg.cell y1 (by simp); replace y2 := hg.cell y2 (by simp); replace hW := grown_trans hW hg; clear hg)
        | (go_at_call 22; (with_reducible refine (ratCmp_v 92 hS.q ha (by omega) (by omega) (by omega) (by omega) (by omega)).mono ?_); rintro e w18 ⟨rfl, hg⟩; rw [f2.out]; replace ha := ha.keep hg; replace hb := hb.keep hg; replace hc := hc.keep hg; replace hV := hV.keep hg; replace hO := hO.keep hg; replace hS := hS.keep hg; replace xa0 := hg.cell xa0 (by simp); replace xa1 := hg.cell xa1 (by simp); replace xa2 := hg.cell xa2 (by simp); replace xb0 := hg.cell xb0 (by simp); replace xb1 := hg.cell xb1 (by simp); replace xb2 := hg.cell xb2 (by simp); replace xc0 := hg.cell xc0 (by simp); replace xc1 := hg.cell xc1 (by simp); replace xc2 := hg.cell xc2 (by simp); replace y0 := hg.cell y0 (by simp); replace y1 := hg.cell y1 (by simp); replace y2 := hg.cell y2 (by simp); replace hW := grown_trans hW hg; clear hg)
        | (go_at_call 6; (with_reducible refine (alive3 (HT.out.keep hW)).mono ?_); rintro e w19 ⟨rfl, hg⟩; replace ha := ha.keep hg; replace hb := hb.keep hg; replace hc := hc.keep hg; replace hV := hV.keep hg; replace hO := hO.keep hg; replace hS := hS.keep hg; replace xa0 := hg.cell xa0 (by simp); replace xa1 := hg.cell xa1 (by simp); replace xa2 := hg.cell xa2 (by simp); replace xb0 := hg.cell xb0 (by simp); replace xb1 := hg.cell xb1 (by simp); replace xb2 := hg.cell xb2 (by simp); replace xc0 := hg.cell xc0 (by simp); replace xc1 := hg.cell xc1 (by simp); replace xc2 := hg.cell xc2 (by simp); replace y0 := hg.cell y0 (by simp); replace y1 := hg.cell y1 (by simp); replace y2 := hg.cell y2 (by simp); replace hW := grown_trans hW hg; clear hg))
    go_wp2_with fail
    go_ret
    exact ⟨rfl, hW⟩
  · rw [decide_eq_false h12] at HS
    replace HS := hid HS
    go_enter Tryd.func5, Tryd.ntmps5
    go_wp2_with fail
    refine HS.out.mono ?_
    rintro e w0 ⟨rfl, hg⟩
    replace hW := grown_trans hW3 hg
    go_wp2_with fail
    refine (alive3 (HT.out.keep hW)).mono ?_
    rintro e w1 ⟨rfl, hg⟩
    go_wp2_with fail
    go_ret
    exact ⟨rfl, grown_trans hW hg⟩

theorem rationalOrder_door (os : Os) (args : Array Value) : laidMetH Tryd.prog [("math/bits.deBruijn64tab", Rows.laid_math_bits_deBruijn64tab)] ((World.doorLaid Tryd.prog 400 os).forCall (fun _ _ => 0) ⟨#[], args, []⟩).memory :=
  laidMetH_of_parts3 (fuel := 8) (laidMet_of_run' 8 (by kernel_rfl) (by kernel_rfl)) (by kernel_rfl) (by kernel_rfl)

set_option maxRecDepth 100000 in
theorem rationalOrder_lifted (os : Os) (started : os.Started) (H : Type) (enc : TypeId × Value → H) :
    ReturnsInHanded {} Tryd.checked os 5 .any (fun w args => (Rows.rationalOrderSpec.pre enc Tryd.prog Tryd.f5 [] false w args ∧ laidMetH Tryd.prog [("math/bits.deBruijn64tab", Rows.laid_math_bits_deBruijn64tab)] w) ∧ sizedMet enc Tryd.prog Tryd.f5 (OpenSpec.ofChange Rows.rationalOrderSpec) false w args)
      (Rows.rationalOrderSpec.post enc Tryd.prog Tryd.f5 false true false false) := by
  refine returnsInHanded_of_change_and (C := Tryd.checked) (X := fun w _ => laidMetH Tryd.prog [("math/bits.deBruijn64tab", Rows.laid_math_bits_deBruijn64tab)] w) (fun _ _ _ hh h => h.of_heap hh) own1 started (by kernel_rfl) Tryd.func5
    (ChangeSpec.witness_shaped (enc := enc) (C := Tryd.checked) (os := os) (X := fun w _ => laidMetH Tryd.prog [("math/bits.deBruijn64tab", Rows.laid_math_bits_deBruijn64tab)] w) false (World.doorLaid Tryd.prog 400 os) #[.agg #[.bool false, .slice none 0 0, .slice none 0 0], .agg #[.bool false, .slice none 0 0, .slice none 0 0], .agg #[.bool false, .slice none 0 0, .slice none 0 0]] 8 rfl (World.shaped_of_RefB (by kernel_rfl) (by kernel_rfl)) (by kernel_rfl) (by kernel_rfl) (by kernel_rfl) (rationalOrder_door os _)) ?_
  intro W base args ds gs before hval0 hW _ _ hL _
  have hval : ∀ (j : Nat) t v, Tryd.f5.params[j]? = some t → args[j]? = some v → Value.okWide Tryd.prog W .any base t v := hval0
  have hW' := hW
  obtain ⟨p, q, hA0, hV, rfl, hfz, hnd⟩ := hW
  have hA : DataW.TrodAll enc Tryd.prog W 0 (fun _ => true) true Tryd.f5.params.toList args.toList ds p := hA0
  rw [Tryd.params5] at hA hval
  obtain ⟨v0, v1, v2, d0, d1, d2, p0, p1, p2, rfl, rfl, rfl, h0, h1, h2⟩ := trodAll_three hA
  obtain ⟨rfl, rfl⟩ := trodVars_none hV
  have hlt : ∀ x ∈ p0 ++ (p1 ++ (p2)), x.block < W.heap.size := fun x hx => hW'.lt x (by simpa using hx)
  obtain ⟨g0, a, n, c, xs, a', n', c', xs', rfl, hr0, hx0, hs0, hy0⟩ := open_Rat (hval 0 30 v0 rfl rfl) h0
  obtain ⟨g1, b, m, d, ys, b', m', d', ys', rfl, hr1, hx1, hs1, hy1⟩ := open_Rat (hval 1 30 v1 rfl rfl) h1
  obtain ⟨g2, r, l, k, zs, r', l', k', zs', rfl, hr2, hx2, hs2, hy2⟩ := open_Rat (hval 2 30 v2 rfl rfl) h2
  refine (rationalOrder_walk g0 a a' n c n' c' g1 b b' m d m' d' g2 r r' l k l' k' _ _ _ W (tb_of_laid hL) (IsQ.of g0 hr0 hx0 hs0 hy0) (IsQ.of g1 hr1 hx1 hs1 hy1) (IsQ.of g2 hr2 hx2 hs2 hy2)).mono fun e W' ⟨he, hg⟩ => ?_
  subst he
  have hB := grown_below hg
  exact ⟨_, rfl, _, _, _, [], _, [], hW', trodAll_mk1 (shut_bool Tryd.underlying4 true),
    trodAll_mk3 (Below.trod laidOut1 readRat rowRat h0 hB fun x hx => hlt x (by simp [hx])) (Below.trod laidOut1 readRat rowRat h1 hB fun x hx => hlt x (by simp [hx])) (Below.trod laidOut1 readRat rowRat h2 hB fun x hx => hlt x (by simp [hx])), rfl, hB.frame _, fun h => by cases h⟩

theorem rationalOrder_holds : Rows.RationalOrderSaid :=
  OpenClaim.holds_of_wide 5 Tryd.f5 rfl rfl rfl rfl rfl rfl rfl ⟨rfl, rfl, rfl, rfl, rfl⟩ rfl rfl rfl rfl rfl (by kernel_rfl) Tryd.func5 (by kernel_rfl)
    (of_decide_eq_true (by kernel_rfl)) (by unfold Func.isWrapper; first | (rw [if_pos (by decide +kernel)]; kernel_rfl) | (rw [if_neg (by decide +kernel)]; exact ⟨rfl, rfl⟩))
    (fun os started H enc _ => rationalOrder_lifted os started H enc)

theorem rationalOrder_card : Rows.RationalOrderCardSaid :=
  Claim7.holds_tied_plain_at .later [] [.data] true _ false
    rationalOrder_holds (fun _ h => by cases h) (by kernel_rfl) (fun _ h => by cases h) rationalOrder_row_tie rfl ⟨rfl, rfl⟩ (by kernel_rfl) rfl
    (fun f fn hf hfn => by
      obtain rfl : f = 5 := Option.some.inj ((show Tryd.prog.funcNamed "geoprover/geoproverlaw03.RationalOrder" = some 5 by kernel_rfl).symm.trans hf) |>.symm
      obtain rfl : fn = Tryd.f5 := (Option.some.inj (Tryd.func5.symm.trans hfn)).symm
      exact ⟨by kernel_rfl, fun j t ht => by
        rw [Tryd.params5] at ht
        have hm : t ∈ [30, 30, 30] := by simpa using Array.mem_of_getElem? ht
        have hall : ([30, 30, 30].all fun u => !Tryd.prog.wantsStandIn u) = true := by kernel_rfl
        exact (show Tryd.prog.wantsStandIn t = false by simpa using List.all_eq_true.1 hall t hm)⟩)
    (by kernel_rfl)

end Go.Proofs.YtdgcmbpmjcfhpaaDoor
