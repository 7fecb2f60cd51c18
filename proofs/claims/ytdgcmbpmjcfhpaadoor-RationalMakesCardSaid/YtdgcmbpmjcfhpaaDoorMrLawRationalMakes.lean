/-
  Whatever the arguments are, the Go function RationalMakes returns true and leaves them as they are. Condition: the table deBruijn64tab of package math/bits holds what the program's text lays (the card ties it).
-/
import Derived.Test.YtdgcmbpmjcfhpaaDoorMrU
import Derived.Deep.RegionHeld3
import Derived.Deep.DeepCutAuto

set_option linter.unusedVariables false
set_option linter.unusedSimpArgs false
namespace Go.Proofs.YtdgcmbpmjcfhpaaDoor
open Go.ChangeShapes Go.WideShapes Go.ChangeAt Go.RowKit Nm
open Go

set_option maxRecDepth 100000 in
set_option maxHeartbeats 16000000 in
theorem rationalMakes_walk (ga gb : Bool) (sa sb : Option Addr) (na ca nb cb : Nat) (N M x y : Int) (h1 : -9223372036854775808 ≤ x) (h2 : x ≤ 9223372036854775807) (h3 : -9223372036854775808 ≤ y) (h4 : y ≤ 9223372036854775807) (w : World) (T : Tb w) (hA : IsZ w ga sa na ca N) (hB : IsZ w gb sb nb cb M) :
    Calls Tryd.prog 3 #[.agg #[.bool ga, .slice sa na ca], .agg #[.bool gb, .slice sb nb cb], .agg #[.int .i64 x, .int .i64 y]] w fun e w' => e = .returned (.bool true) ∧ w.grownBy w' none := by
  have HT := hid T
  clear T
  have hW := (grown_trans (grown_trans (World.grownBy_alloc w (.cells #[.bool ga, .slice sa na ca] 25) none) (World.grownBy_alloc _ (.cells #[.bool gb, .slice sb nb cb] 25) none)) (World.grownBy_alloc _ (.cells #[.int .i64 x, .int .i64 y] 27) none))
  have bx0 : (((w.alloc (.cells #[.bool ga, .slice sa na ca] 25)).alloc (.cells #[.bool gb, .slice sb nb cb] 25)).alloc (.cells #[.int .i64 x, .int .i64 y] 27)).heap[w.heap.size]? = some (.cells #[.bool ga, .slice sa na ca] 25 (0, 0)) := by
    have h0 := heap_alloc_new w (.cells #[.bool ga, .slice sa na ca] 25)
    have h1 := (grown_trans (World.grownBy_alloc (w.alloc (.cells #[.bool ga, .slice sa na ca] 25)) (.cells #[.bool gb, .slice sb nb cb] 25) none) (World.grownBy_alloc _ (.cells #[.int .i64 x, .int .i64 y] 27) none)).block _ (lt_of_block h0) (by simp)
    have h2 := h1.trans h0
    simpa using h2
  have bx1 : (((w.alloc (.cells #[.bool ga, .slice sa na ca] 25)).alloc (.cells #[.bool gb, .slice sb nb cb] 25)).alloc (.cells #[.int .i64 x, .int .i64 y] 27)).heap[w.heap.size + 1]? = some (.cells #[.bool gb, .slice sb nb cb] 25 (0, 0)) := by
    have h0 := heap_alloc_new (w.alloc (.cells #[.bool ga, .slice sa na ca] 25)) (.cells #[.bool gb, .slice sb nb cb] 25)
    have h1 := (World.grownBy_alloc ((w.alloc (.cells #[.bool ga, .slice sa na ca] 25)).alloc (.cells #[.bool gb, .slice sb nb cb] 25)) (.cells #[.int .i64 x, .int .i64 y] 27) none).block _ (lt_of_block h0) (by simp)
    have h2 := h1.trans h0
    simpa using h2
  have bx2 : (((w.alloc (.cells #[.bool ga, .slice sa na ca] 25)).alloc (.cells #[.bool gb, .slice sb nb cb] 25)).alloc (.cells #[.int .i64 x, .int .i64 y] 27)).heap[w.heap.size + 1 + 1]? = some (.cells #[.int .i64 x, .int .i64 y] 27 (0, 0)) := by
    have := heap_alloc_new ((w.alloc (.cells #[.bool ga, .slice sa na ca] 25)).alloc (.cells #[.bool gb, .slice sb nb cb] 25)) (.cells #[.int .i64 x, .int .i64 y] 27)
    simpa using this
  replace hA := hA.keep hW; replace hB := hB.keep hW
  obtain ⟨xa0, xa1, _, _⟩ := intbox_facts bx0
  obtain ⟨xb0, xb1, _, _⟩ := intbox_facts bx1
  obtain ⟨t0, t1⟩ := two_facts bx2
  clear bx0 bx1 bx2
  go_enter Tryd.func3, Tryd.ntmps3
  go_wp2_with fail
  generalize (((w.alloc (.cells #[.bool ga, .slice sa na ca] 25)).alloc (.cells #[.bool gb, .slice sb nb cb] 25)).alloc (.cells #[.int .i64 x, .int .i64 y] 27)) = w0 at *
  have hg := grown_drew w0 none
  replace hA := hA.keep hg; replace hB := hB.keep hg; replace xa0 := hg.cell xa0 (by simp); replace xa1 := hg.cell xa1 (by simp); replace xb0 := hg.cell xb0 (by simp); replace xb1 := hg.cell xb1 (by simp); replace t0 := hg.cell t0 (by simp); replace t1 := hg.cell t1 (by simp); replace hW := grown_trans hW hg
  clear hg
  go_region_held3 (fun w' => w'.cell? ⟨w.heap.size + 1 + 1, 0, none⟩ = some (.int .i64 x) ∧ w'.cell? ⟨w.heap.size + 1 + 1, 1, none⟩ = some (.int .i64 y)) ((try go_split_ands) <;> (repeat' apply And.intro) <;> (repeat (first | (with_reducible assumption) | (with_reducible refine (grown_setCell _ _ _).cell ?_ (by first | (simp; omega) | simp)) | (with_reducible refine (World.grownBy_alloc _ _ none).cell ?_ (by simp)) | (with_reducible refine (grown_drew _ none).cell ?_ (by simp))))) (fail)
  clear t0 t1
  skip
  by_cases ha : na ≤ 12
  · have k1 : ¬ ((12 : Int) < (na : Int)) := by omega
    by_cases hb : nb ≤ 12
    · have k2 : ¬ ((12 : Int) < (nb : Int)) := by omega
      go_wp2_with fail
      by_cases h0 : M = 0
      · refine (ratMake_e hA (h0 ▸ hB) (by omega) (by omega)).mono ?_
        rintro e w1 ⟨rfl, hg⟩
        replace hA := hA.keep hg; replace hB := hB.keep hg; replace xa0 := hg.cell xa0 (by simp); replace xa1 := hg.cell xa1 (by simp); replace xb0 := hg.cell xb0 (by simp); replace xb1 := hg.cell xb1 (by simp); replace hW := grown_trans hW hg
        clear hg
        have hg := World.grownBy_alloc w1 (.cells #[.bool false, .slice none 0 0, .slice none 0 0] 30) none
        have br := heap_alloc_new w1 (.cells #[.bool false, .slice none 0 0, .slice none 0 0] 30)
        obtain ⟨y0, y1, y2, _, _, _⟩ := ratbox_facts br
        clear br
        replace hA := hA.keep hg; replace hB := hB.keep hg; replace xa0 := hg.cell xa0 (by simp); replace xa1 := hg.cell xa1 (by simp); replace xb0 := hg.cell xb0 (by simp); replace xb1 := hg.cell xb1 (by simp); replace hW := grown_trans hW hg
        clear hg
        go_wp2_with fail
        generalize w1.alloc (.cells #[.bool false, .slice none 0 0, .slice none 0 0] 30) = wa at *
        generalize w1.heap.size = K1 at *
        refine (rMake_e 12 hA hB h0 (by omega) (by omega) (by omega)).mono ?_
        rintro e w2 ⟨rfl, hg⟩
        replace hA := hA.keep hg; replace hB := hB.keep hg; replace xa0 := hg.cell xa0 (by simp); replace xa1 := hg.cell xa1 (by simp); replace xb0 := hg.cell xb0 (by simp); replace xb1 := hg.cell xb1 (by simp); replace y0 := hg.cell y0 (by simp); replace y1 := hg.cell y1 (by simp); replace y2 := hg.cell y2 (by simp); replace hW := grown_trans hW hg
        clear hg
        have hg := World.grownBy_alloc w2 (.cells #[.bool false, .slice none 0 0, .slice none 0 0] 30) none
        have br := heap_alloc_new w2 (.cells #[.bool false, .slice none 0 0, .slice none 0 0] 30)
        obtain ⟨z0, z1, z2, _, _, _⟩ := ratbox_facts br
        clear br
        replace hA := hA.keep hg; replace hB := hB.keep hg; replace xa0 := hg.cell xa0 (by simp); replace xa1 := hg.cell xa1 (by simp); replace xb0 := hg.cell xb0 (by simp); replace xb1 := hg.cell xb1 (by simp); replace y0 := hg.cell y0 (by simp); replace y1 := hg.cell y1 (by simp); replace y2 := hg.cell y2 (by simp); replace hW := grown_trans hW hg
        clear hg
        go_wp2_with fail
        generalize w2.alloc (.cells #[.bool false, .slice none 0 0, .slice none 0 0] 30) = wb at *
        generalize w2.heap.size = K2 at *
        refine (same3_any (IsI.zero _) (IsC.nil _) (IsI.zero _) (IsC.nil _) rfl rfl).mono ?_
        rintro e w3 ⟨rfl, hg⟩
        replace hA := hA.keep hg; replace hB := hB.keep hg; replace xa0 := hg.cell xa0 (by simp); replace xa1 := hg.cell xa1 (by simp); replace xb0 := hg.cell xb0 (by simp); replace xb1 := hg.cell xb1 (by simp); replace y0 := hg.cell y0 (by simp); replace y1 := hg.cell y1 (by simp); replace y2 := hg.cell y2 (by simp); replace z0 := hg.cell z0 (by simp); replace z1 := hg.cell z1 (by simp); replace z2 := hg.cell z2 (by simp); replace hW := grown_trans hW hg
        clear hg
        go_wp2_with fail
        refine (ratOf_v x _ h1 h2).mono ?_
        rintro e w4 ⟨g4, p4, n4, c4, q4, m4, d4, rfl, e4, hn4, hm4, hg⟩
        replace hA := hA.keep hg; replace hB := hB.keep hg; replace xa0 := hg.cell xa0 (by simp); replace xa1 := hg.cell xa1 (by simp); replace xb0 := hg.cell xb0 (by simp); replace xb1 := hg.cell xb1 (by simp); replace y0 := hg.cell y0 (by simp); replace y1 := hg.cell y1 (by simp); replace y2 := hg.cell y2 (by simp); replace z0 := hg.cell z0 (by simp); replace z1 := hg.cell z1 (by simp); replace z2 := hg.cell z2 (by simp); replace hW := grown_trans hW hg
        clear hg
        go_wp2_with fail
        refine (rOf3_v x h1 h2).mono ?_
        rintro e w5 ⟨g5, p5, n5, c5, q5, m5, d5, rfl, e5, hn5, hm5, hg⟩
        replace hA := hA.keep hg; replace hB := hB.keep hg; replace e4 := e4.keep hg; replace xa0 := hg.cell xa0 (by simp); replace xa1 := hg.cell xa1 (by simp); replace xb0 := hg.cell xb0 (by simp); replace xb1 := hg.cell xb1 (by simp); replace y0 := hg.cell y0 (by simp); replace y1 := hg.cell y1 (by simp); replace y2 := hg.cell y2 (by simp); replace z0 := hg.cell z0 (by simp); replace z1 := hg.cell z1 (by simp); replace z2 := hg.cell z2 (by simp); replace hW := grown_trans hW hg
        clear hg
        go_wp2_with fail
        refine (same3_v e4 e5 rfl).mono ?_
        rintro e w6 ⟨rfl, hg⟩
        replace hA := hA.keep hg; replace hB := hB.keep hg; replace e4 := e4.keep hg; replace e5 := e5.keep hg; replace xa0 := hg.cell xa0 (by simp); replace xa1 := hg.cell xa1 (by simp); replace xb0 := hg.cell xb0 (by simp); replace xb1 := hg.cell xb1 (by simp); replace y0 := hg.cell y0 (by simp); replace y1 := hg.cell y1 (by simp); replace y2 := hg.cell y2 (by simp); replace z0 := hg.cell z0 (by simp); replace z1 := hg.cell z1 (by simp); replace z2 := hg.cell z2 (by simp); replace hW := grown_trans hW hg
        clear hg
        go_wp2_with fail
        refine (ratFrac_v (HT.out.keep hW) x y h1 h2 h3 h4).mono ?_
        rintro e w7 ⟨g7, p7, n7, c7, q7, m7, d7, rfl, e7, hn7, hm7, hg⟩
        replace hA := hA.keep hg; replace hB := hB.keep hg; replace e4 := e4.keep hg; replace e5 := e5.keep hg; replace xa0 := hg.cell xa0 (by simp); replace xa1 := hg.cell xa1 (by simp); replace xb0 := hg.cell xb0 (by simp); replace xb1 := hg.cell xb1 (by simp); replace y0 := hg.cell y0 (by simp); replace y1 := hg.cell y1 (by simp); replace y2 := hg.cell y2 (by simp); replace z0 := hg.cell z0 (by simp); replace z1 := hg.cell z1 (by simp); replace z2 := hg.cell z2 (by simp); replace hW := grown_trans hW hg
        clear hg
        go_wp2_with fail
        refine (rFrac3_v x y h1 h2 h3 h4).mono ?_
        rintro e w8 ⟨g8, p8, n8, c8, q8, m8, d8, rfl, e8, hn8, hm8, hg⟩
        replace hA := hA.keep hg; replace hB := hB.keep hg; replace e4 := e4.keep hg; replace e5 := e5.keep hg; replace e7 := e7.keep hg; replace xa0 := hg.cell xa0 (by simp); replace xa1 := hg.cell xa1 (by simp); replace xb0 := hg.cell xb0 (by simp); replace xb1 := hg.cell xb1 (by simp); replace y0 := hg.cell y0 (by simp); replace y1 := hg.cell y1 (by simp); replace y2 := hg.cell y2 (by simp); replace z0 := hg.cell z0 (by simp); replace z1 := hg.cell z1 (by simp); replace z2 := hg.cell z2 (by simp); replace hW := grown_trans hW hg
        clear hg
        go_wp2_with fail
        refine (same3_v e7 e8 rfl).mono ?_
        rintro e w9 ⟨rfl, hg⟩
        replace hA := hA.keep hg; replace hB := hB.keep hg; replace e4 := e4.keep hg; replace e5 := e5.keep hg; replace e7 := e7.keep hg; replace e8 := e8.keep hg; replace xa0 := hg.cell xa0 (by simp); replace xa1 := hg.cell xa1 (by simp); replace xb0 := hg.cell xb0 (by simp); replace xb1 := hg.cell xb1 (by simp); replace y0 := hg.cell y0 (by simp); replace y1 := hg.cell y1 (by simp); replace y2 := hg.cell y2 (by simp); replace z0 := hg.cell z0 (by simp); replace z1 := hg.cell z1 (by simp); replace z2 := hg.cell z2 (by simp); replace hW := grown_trans hW hg
        clear hg
        go_wp2_with fail
        refine (alive3 (HT.out.keep hW)).mono ?_
        rintro e w10 ⟨rfl, hg⟩
        replace hW := grown_trans hW hg
        go_wp2_with fail
        go_ret
        exact ⟨rfl, hW⟩
      · refine (make_v 13 (HT.out.keep hW) hA hB h0 rfl (by omega) (by omega) (by omega)).mono ?_
        rintro e w1 ⟨g1, p1, n1, c1, q1, m1, d1, rfl, hQ, hn1, hm1, hg⟩
        replace hA := hA.keep hg; replace hB := hB.keep hg; replace xa0 := hg.cell xa0 (by simp); replace xa1 := hg.cell xa1 (by simp); replace xb0 := hg.cell xb0 (by simp); replace xb1 := hg.cell xb1 (by simp); replace hW := grown_trans hW hg
        clear hg
        have hg := World.grownBy_alloc w1 (.cells #[.bool g1, .slice p1 n1 c1, .slice q1 m1 d1] 30) none
        have br := heap_alloc_new w1 (.cells #[.bool g1, .slice p1 n1 c1, .slice q1 m1 d1] 30)
        obtain ⟨y0, y1, y2, _, _, _⟩ := ratbox_facts br
        clear br
        replace hA := hA.keep hg; replace hB := hB.keep hg; replace hQ := hQ.keep hg; replace xa0 := hg.cell xa0 (by simp); replace xa1 := hg.cell xa1 (by simp); replace xb0 := hg.cell xb0 (by simp); replace xb1 := hg.cell xb1 (by simp); replace hW := grown_trans hW hg
        clear hg
        go_wp2_with fail
        generalize w1.alloc (.cells #[.bool g1, .slice p1 n1 c1, .slice q1 m1 d1] 30) = wa at *
        generalize w1.heap.size = K1 at *
        refine (rMake_v 12 hA hB h0 rfl (by omega) (by omega) (by omega)).mono ?_
        rintro e w2 ⟨g2, p2, n2, c2, q2, m2, d2, rfl, hR, hn2, hm2, hg⟩
        replace hA := hA.keep hg; replace hB := hB.keep hg; replace hQ := hQ.keep hg; replace xa0 := hg.cell xa0 (by simp); replace xa1 := hg.cell xa1 (by simp); replace xb0 := hg.cell xb0 (by simp); replace xb1 := hg.cell xb1 (by simp); replace y0 := hg.cell y0 (by simp); replace y1 := hg.cell y1 (by simp); replace y2 := hg.cell y2 (by simp); replace hW := grown_trans hW hg
        clear hg
        have hg := World.grownBy_alloc w2 (.cells #[.bool g2, .slice p2 n2 c2, .slice q2 m2 d2] 30) none
        have br := heap_alloc_new w2 (.cells #[.bool g2, .slice p2 n2 c2, .slice q2 m2 d2] 30)
        obtain ⟨z0, z1, z2, _, _, _⟩ := ratbox_facts br
        clear br
        replace hA := hA.keep hg; replace hB := hB.keep hg; replace hQ := hQ.keep hg; replace hR := hR.keep hg; replace xa0 := hg.cell xa0 (by simp); replace xa1 := hg.cell xa1 (by simp); replace xb0 := hg.cell xb0 (by simp); replace xb1 := hg.cell xb1 (by simp); replace y0 := hg.cell y0 (by simp); replace y1 := hg.cell y1 (by simp); replace y2 := hg.cell y2 (by simp); replace hW := grown_trans hW hg
        clear hg
        go_wp2_with fail
        generalize w2.alloc (.cells #[.bool g2, .slice p2 n2 c2, .slice q2 m2 d2] 30) = wb at *
        generalize w2.heap.size = K2 at *
        refine (same3_v hQ hR rfl).mono ?_
        rintro e w3 ⟨rfl, hg⟩
        replace hA := hA.keep hg; replace hB := hB.keep hg; replace hQ := hQ.keep hg; replace hR := hR.keep hg; replace xa0 := hg.cell xa0 (by simp); replace xa1 := hg.cell xa1 (by simp); replace xb0 := hg.cell xb0 (by simp); replace xb1 := hg.cell xb1 (by simp); replace y0 := hg.cell y0 (by simp); replace y1 := hg.cell y1 (by simp); replace y2 := hg.cell y2 (by simp); replace z0 := hg.cell z0 (by simp); replace z1 := hg.cell z1 (by simp); replace z2 := hg.cell z2 (by simp); replace hW := grown_trans hW hg
        clear hg
        go_wp2_with fail
        refine (ratOf_v x _ h1 h2).mono ?_
        rintro e w4 ⟨g4, p4, n4, c4, q4, m4, d4, rfl, e4, hn4, hm4, hg⟩
        replace hA := hA.keep hg; replace hB := hB.keep hg; replace hQ := hQ.keep hg; replace hR := hR.keep hg; replace xa0 := hg.cell xa0 (by simp); replace xa1 := hg.cell xa1 (by simp); replace xb0 := hg.cell xb0 (by simp); replace xb1 := hg.cell xb1 (by simp); replace y0 := hg.cell y0 (by simp); replace y1 := hg.cell y1 (by simp); replace y2 := hg.cell y2 (by simp); replace z0 := hg.cell z0 (by simp); replace z1 := hg.cell z1 (by simp); replace z2 := hg.cell z2 (by simp); replace hW := grown_trans hW hg
        clear hg
        go_wp2_with fail
        refine (rOf3_v x h1 h2).mono ?_
        rintro e w5 ⟨g5, p5, n5, c5, q5, m5, d5, rfl, e5, hn5, hm5, hg⟩
        replace hA := hA.keep hg; replace hB := hB.keep hg; replace hQ := hQ.keep hg; replace hR := hR.keep hg; replace e4 := e4.keep hg; replace xa0 := hg.cell xa0 (by simp); replace xa1 := hg.cell xa1 (by simp); replace xb0 := hg.cell xb0 (by simp); replace xb1 := hg.cell xb1 (by simp); replace y0 := hg.cell y0 (by simp); replace y1 := hg.cell y1 (by simp); replace y2 := hg.cell y2 (by simp); replace z0 := hg.cell z0 (by simp); replace z1 := hg.cell z1 (by simp); replace z2 := hg.cell z2 (by simp); replace hW := grown_trans hW hg
        clear hg
        go_wp2_with fail
        refine (same3_v e4 e5 rfl).mono ?_
        rintro e w6 ⟨rfl, hg⟩
        replace hA := hA.keep hg; replace hB := hB.keep hg; replace hQ := hQ.keep hg; replace hR := hR.keep hg; replace e4 := e4.keep hg; replace e5 := e5.keep hg; replace xa0 := hg.cell xa0 (by simp); replace xa1 := hg.cell xa1 (by simp); replace xb0 := hg.cell xb0 (by simp); replace xb1 := hg.cell xb1 (by simp); replace y0 := hg.cell y0 (by simp); replace y1 := hg.cell y1 (by simp); replace y2 := hg.cell y2 (by simp); replace z0 := hg.cell z0 (by simp); replace z1 := hg.cell z1 (by simp); replace z2 := hg.cell z2 (by simp); replace hW := grown_trans hW hg
        clear hg
        go_wp2_with fail
        refine (ratFrac_v (HT.out.keep hW) x y h1 h2 h3 h4).mono ?_
        rintro e w7 ⟨g7, p7, n7, c7, q7, m7, d7, rfl, e7, hn7, hm7, hg⟩
        replace hA := hA.keep hg; replace hB := hB.keep hg; replace hQ := hQ.keep hg; replace hR := hR.keep hg; replace e4 := e4.keep hg; replace e5 := e5.keep hg; replace xa0 := hg.cell xa0 (by simp); replace xa1 := hg.cell xa1 (by simp); replace xb0 := hg.cell xb0 (by simp); replace xb1 := hg.cell xb1 (by simp); replace y0 := hg.cell y0 (by simp); replace y1 := hg.cell y1 (by simp); replace y2 := hg.cell y2 (by simp); replace z0 := hg.cell z0 (by simp); replace z1 := hg.cell z1 (by simp); replace z2 := hg.cell z2 (by simp); replace hW := grown_trans hW hg
        clear hg
        go_wp2_with fail
        refine (rFrac3_v x y h1 h2 h3 h4).mono ?_
        rintro e w8 ⟨g8, p8, n8, c8, q8, m8, d8, rfl, e8, hn8, hm8, hg⟩
        replace hA := hA.keep hg; replace hB := hB.keep hg; replace hQ := hQ.keep hg; replace hR := hR.keep hg; replace e4 := e4.keep hg; replace e5 := e5.keep hg; replace e7 := e7.keep hg; replace xa0 := hg.cell xa0 (by simp); replace xa1 := hg.cell xa1 (by simp); replace xb0 := hg.cell xb0 (by simp); replace xb1 := hg.cell xb1 (by simp); replace y0 := hg.cell y0 (by simp); replace y1 := hg.cell y1 (by simp); replace y2 := hg.cell y2 (by simp); replace z0 := hg.cell z0 (by simp); replace z1 := hg.cell z1 (by simp); replace z2 := hg.cell z2 (by simp); replace hW := grown_trans hW hg
        clear hg
        go_wp2_with fail
        refine (same3_v e7 e8 rfl).mono ?_
        rintro e w9 ⟨rfl, hg⟩
        replace hA := hA.keep hg; replace hB := hB.keep hg; replace hQ := hQ.keep hg; replace hR := hR.keep hg; replace e4 := e4.keep hg; replace e5 := e5.keep hg; replace e7 := e7.keep hg; replace e8 := e8.keep hg; replace xa0 := hg.cell xa0 (by simp); replace xa1 := hg.cell xa1 (by simp); replace xb0 := hg.cell xb0 (by simp); replace xb1 := hg.cell xb1 (by simp); replace y0 := hg.cell y0 (by simp); replace y1 := hg.cell y1 (by simp); replace y2 := hg.cell y2 (by simp); replace z0 := hg.cell z0 (by simp); replace z1 := hg.cell z1 (by simp); replace z2 := hg.cell z2 (by simp); replace hW := grown_trans hW hg
        clear hg
        go_wp2_with fail
        refine (alive3 (HT.out.keep hW)).mono ?_
        rintro e w10 ⟨rfl, hg⟩
        replace hW := grown_trans hW hg
        go_wp2_with fail
        go_ret
        exact ⟨rfl, hW⟩
    · have k2 : ((12 : Int) < (nb : Int)) := by omega
      go_wp2_with fail
      refine (alive3 (HT.out.keep hW)).mono ?_
      rintro e w10 ⟨rfl, hg⟩
      replace hW := grown_trans hW hg
      go_wp2_with fail
      go_ret
      exact ⟨rfl, hW⟩
  · have k1 : ((12 : Int) < (na : Int)) := by omega
    go_wp2_with fail
    refine (alive3 (HT.out.keep hW)).mono ?_
    rintro e w10 ⟨rfl, hg⟩
    replace hW := grown_trans hW hg
    go_wp2_with fail
    go_ret
    exact ⟨rfl, hW⟩

theorem rationalMakes_door (os : Os) (args : Array Value) : laidMetH Tryd.prog [("math/bits.deBruijn64tab", Rows.laid_math_bits_deBruijn64tab)] ((World.doorLaid Tryd.prog 400 os).forCall (fun _ _ => 0) ⟨#[], args, []⟩).memory :=
  laidMetH_of_parts3 (fuel := 8) (laidMet_of_run' 8 (by kernel_rfl) (by kernel_rfl)) (by kernel_rfl) (by kernel_rfl)

set_option maxRecDepth 100000 in
theorem rationalMakes_lifted (os : Os) (started : os.Started) (H : Type) (enc : TypeId × Value → H) :
    ReturnsInHanded {} Tryd.checked os 3 .any (fun w args => (Rows.rationalMakesSpec.pre enc Tryd.prog Tryd.f3 [] false w args ∧ laidMetH Tryd.prog [("math/bits.deBruijn64tab", Rows.laid_math_bits_deBruijn64tab)] w) ∧ sizedMet enc Tryd.prog Tryd.f3 (OpenSpec.ofChange Rows.rationalMakesSpec) false w args)
      (Rows.rationalMakesSpec.post enc Tryd.prog Tryd.f3 false true false false) := by
  refine returnsInHanded_of_change_and (C := Tryd.checked) (X := fun w _ => laidMetH Tryd.prog [("math/bits.deBruijn64tab", Rows.laid_math_bits_deBruijn64tab)] w) (fun _ _ _ hh h => h.of_heap hh) own1 started (by kernel_rfl) Tryd.func3
    (ChangeSpec.witness_shaped (enc := enc) (C := Tryd.checked) (os := os) (X := fun w _ => laidMetH Tryd.prog [("math/bits.deBruijn64tab", Rows.laid_math_bits_deBruijn64tab)] w) false (World.doorLaid Tryd.prog 400 os) #[.agg #[.bool false, .slice none 0 0], .agg #[.bool false, .slice none 0 0], .agg #[.int .i64 0, .int .i64 0]] 8 rfl (World.shaped_of_RefB (by kernel_rfl) (by kernel_rfl)) (by kernel_rfl) (by kernel_rfl) (by kernel_rfl) (rationalMakes_door os _)) ?_
  intro W base args ds gs before hval0 hW _ _ hL _
  have hval : ∀ (j : Nat) t v, Tryd.f3.params[j]? = some t → args[j]? = some v → Value.okWide Tryd.prog W .any base t v := hval0
  have hW' := hW
  obtain ⟨p, q, hA0, hV, rfl, hfz, hnd⟩ := hW
  have hA : DataW.TrodAll enc Tryd.prog W 0 (fun _ => true) true Tryd.f3.params.toList args.toList ds p := hA0
  rw [Tryd.params3] at hA hval
  obtain ⟨v0, v1, v2, d0, d1, d2, p0, p1, p2, rfl, rfl, rfl, h0, h1, h2⟩ := trodAll_three hA
  obtain ⟨rfl, rfl⟩ := trodVars_none hV
  have hlt : ∀ x ∈ p0 ++ (p1 ++ (p2)), x.block < W.heap.size := fun x hx => hW'.lt x (by simpa using hx)
  obtain ⟨g0, a, n, c, xs, rfl, hr0, hx0⟩ := open_Int (hval 0 25 v0 rfl rfl) h0
  obtain ⟨g1, b, m, d, ys, rfl, hr1, hx1⟩ := open_Int (hval 1 25 v1 rfl rfl) h1
  obtain ⟨z2, y2, rfl, wz2, wy2⟩ := open_Two (hval 2 27 v2 rfl rfl) h2
  refine (rationalMakes_walk g0 g1 a b n c m d _ _ z2 y2 (bounds_i64 wz2).1 (bounds_i64 wz2).2 (bounds_i64 wy2).1 (bounds_i64 wy2).2 W (tb_of_laid hL) (IsZ.of g0 hr0 hx0) (IsZ.of g1 hr1 hx1)).mono fun e W' ⟨he, hg⟩ => ?_
  subst he
  have hB := grown_below hg
  exact ⟨_, rfl, _, _, _, [], _, [], hW', trodAll_mk1 (shut_bool Tryd.underlying4 true),
    trodAll_mk3 (Below.trod laidOut1 readInt rowInt h0 hB fun x hx => hlt x (by simp [hx])) (Below.trod laidOut1 readInt rowInt h1 hB fun x hx => hlt x (by simp [hx])) (Below.trod laidOut1 readTwo rowTwo h2 hB fun x hx => hlt x (by simp [hx])), rfl, hB.frame _, fun h => by cases h⟩

theorem rationalMakes_holds : Rows.RationalMakesSaid :=
  OpenClaim.holds_of_wide 3 Tryd.f3 rfl rfl rfl rfl rfl rfl rfl ⟨rfl, rfl, rfl, rfl, rfl⟩ rfl rfl rfl rfl rfl (by kernel_rfl) Tryd.func3 (by kernel_rfl)
    (of_decide_eq_true (by kernel_rfl)) (by unfold Func.isWrapper; first | (rw [if_pos (by decide +kernel)]; kernel_rfl) | (rw [if_neg (by decide +kernel)]; exact ⟨rfl, rfl⟩))
    (fun os started H enc _ => rationalMakes_lifted os started H enc)

theorem rationalMakes_card : Rows.RationalMakesCardSaid :=
  Claim7.holds_tied_plain_at .later [] [.data] true _ false
    rationalMakes_holds (fun _ h => by cases h) (by kernel_rfl) (fun _ h => by cases h) rationalMakes_row_tie rfl ⟨rfl, rfl⟩ (by kernel_rfl) rfl
    (fun f fn hf hfn => by
      obtain rfl : f = 3 := Option.some.inj ((show Tryd.prog.funcNamed "geoprover/geoproverlaw03.RationalMakes" = some 3 by kernel_rfl).symm.trans hf) |>.symm
      obtain rfl : fn = Tryd.f3 := (Option.some.inj (Tryd.func3.symm.trans hfn)).symm
      exact ⟨by kernel_rfl, fun j t ht => by
        rw [Tryd.params3] at ht
        have hm : t ∈ [25, 25, 27] := by simpa using Array.mem_of_getElem? ht
        have hall : ([25, 25, 27].all fun u => !Tryd.prog.wantsStandIn u) = true := by kernel_rfl
        exact (show Tryd.prog.wantsStandIn t = false by simpa using List.all_eq_true.1 hall t hm)⟩)
    (by kernel_rfl)

end Go.Proofs.YtdgcmbpmjcfhpaaDoor
