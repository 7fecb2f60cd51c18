/-
  Whatever the arguments are, the Go function RationalAdds returns true and leaves them as they are. Condition: the table deBruijn64tab of package math/bits holds what the program's text lays (the card ties it).
-/
import Derived.Test.YtdgcmbpmjcfhpaaGreatDoorMrT
import Derived.Deep.RegionHeld3
import Derived.Deep.DeepCutAuto

set_option linter.unusedVariables false
set_option linter.unusedSimpArgs false
namespace Go.Proofs.YtdgcmbpmjcfhpaaGreatDoor
open Go.ChangeShapes Go.WideShapes Go.ChangeAt Go.RowKit Nm
open Go

theorem small3_two (ga : Bool) (sa ta : Option Addr) (na ca ma da : Nat) (gb : Bool) (sb tb : Option Addr) (nb cb mb db : Nat) (w : World) (G : Nat) (hG : G = w.heap.size) :
    Calls Tryz.prog 5 #[.slice (some ⟨G, 0, none⟩) 2 2] (w.alloc (.cells #[.bool ga, .slice sa na ca, .slice ta ma da, .bool gb, .slice sb nb cb, .slice tb mb db] 27)) fun e w' =>
      e = .returned (.bool (decide ((na ≤ 12 ∧ ma ≤ 12) ∧ nb ≤ 12 ∧ mb ≤ 12))) ∧ w.grownBy w' none := by
  subst hG
  have := small3_any w.heap.size 2 [((sa, na, ca), (ta, ma, da)), ((sb, nb, cb), (tb, mb, db))] (w.alloc (.cells #[.bool ga, .slice sa na ca, .slice ta ma da, .bool gb, .slice sb nb cb, .slice tb mb db] 27)) (by simp) (fun j hj => by
    match j, hj with
    | 0, _ => simp
    | 1, _ => simp)
  refine this.mono fun e w' ⟨h1, h2⟩ => ⟨by simpa using h1, h2 ▸ World.grownBy_alloc w _ none⟩


set_option maxRecDepth 100000 in
set_option maxHeartbeats 16000000 in
theorem rationalAdds_walk (ga : Bool) (sa ta : Option Addr) (na ca ma da : Nat) (gb : Bool) (sb tb : Option Addr) (nb cb mb db : Nat) (A B : Rat) (w : World) (T : Tb w) (ha : IsQ w ga sa na ca ta ma da A) (hb : IsQ w gb sb nb cb tb mb db B) :
    Calls Tryz.prog 4 #[.agg #[.bool ga, .slice sa na ca, .slice ta ma da], .agg #[.bool gb, .slice sb nb cb, .slice tb mb db]] w fun e w' => e = .returned (.bool true) ∧ w.grownBy w' none := by
  have hW3 := (grown_trans (World.grownBy_alloc w (.cells #[.bool ga, .slice sa na ca, .slice ta ma da] 27) none) (World.grownBy_alloc _ (.cells #[.bool gb, .slice sb nb cb, .slice tb mb db] 27) none))
  have HS := small3_two ga sa ta na ca ma da gb sb tb nb cb mb db ((w.alloc (.cells #[.bool ga, .slice sa na ca, .slice ta ma da] 27)).alloc (.cells #[.bool gb, .slice sb nb cb, .slice tb mb db] 27)) (w.heap.size + 1 + 1) (by simp)
  have HT := hid T
  clear T
  by_cases h12 : (na ≤ 12 ∧ ma ≤ 12) ∧ nb ≤ 12 ∧ mb ≤ 12
  · rw [decide_eq_true h12] at HS
    replace HS := hid HS
    obtain ⟨⟨hna, hma⟩, hnb, hmb⟩ := h12
    go_enter Tryz.func4, Tryz.ntmps4
    go_wp2_with fail
    refine HS.out.mono ?_
    rintro e w0 ⟨rfl, hg⟩
    have xa0 : w0.cell? ⟨w.heap.size, 0, none⟩ = some (.bool ga) := hg.cell (by simp [go_sem, World.cell?_alloc_past]) (by simp)
    have xa1 : w0.cell? ⟨w.heap.size, 1, none⟩ = some (.slice sa na ca) := hg.cell (by simp [go_sem, World.cell?_alloc_past]) (by simp)
    have xa2 : w0.cell? ⟨w.heap.size, 2, none⟩ = some (.slice ta ma da) := hg.cell (by simp [go_sem, World.cell?_alloc_past]) (by simp)
    have xb0 : w0.cell? ⟨w.heap.size + 1, 0, none⟩ = some (.bool gb) := hg.cell (by simp [go_sem, World.cell?_alloc_past]) (by simp)
    have xb1 : w0.cell? ⟨w.heap.size + 1, 1, none⟩ = some (.slice sb nb cb) := hg.cell (by simp [go_sem, World.cell?_alloc_past]) (by simp)
    have xb2 : w0.cell? ⟨w.heap.size + 1, 2, none⟩ = some (.slice tb mb db) := hg.cell (by simp [go_sem, World.cell?_alloc_past]) (by simp)
    have hz0 := hg.size; simp at hz0
    replace hg := grown_trans hW3 hg
    replace ha := ha.keep hg; replace hb := hb.keep hg
    have hW := hg
    clear hg HS hW3
    by_cases hb0 : B = 0
    · go_wp2_with fail
      refine (ratDiv_e 12 ha hb hb0 (by omega) (by omega) (by omega) (by omega) (by omega)).mono ?_
      rintro e w1 ⟨rfl, hg⟩
      replace ha := ha.keep hg; replace hb := hb.keep hg; replace xa0 := hg.cell xa0 (by simp); replace xa1 := hg.cell xa1 (by simp); replace xa2 := hg.cell xa2 (by simp); replace xb0 := hg.cell xb0 (by simp); replace xb1 := hg.cell xb1 (by simp); replace xb2 := hg.cell xb2 (by simp); replace hW := grown_trans hW hg
      clear hg
      have hg := World.grownBy_alloc w1 (.cells #[.bool false, .slice none 0 0, .slice none 0 0] 27) none
      have br := heap_alloc_new w1 (.cells #[.bool false, .slice none 0 0, .slice none 0 0] 27)
      obtain ⟨y0, y1, y2, _, _, _⟩ := ratbox_facts br
      clear br
      replace ha := ha.keep hg; replace hb := hb.keep hg; replace xa0 := hg.cell xa0 (by simp); replace xa1 := hg.cell xa1 (by simp); replace xa2 := hg.cell xa2 (by simp); replace xb0 := hg.cell xb0 (by simp); replace xb1 := hg.cell xb1 (by simp); replace xb2 := hg.cell xb2 (by simp); replace hW := grown_trans hW hg
      clear hg
      go_wp2_with fail
      generalize w1.alloc (.cells #[.bool false, .slice none 0 0, .slice none 0 0] 27) = wa at *
      generalize w1.heap.size = K1 at *
      refine (rDiv3_e 12 ha hb hb0 (by omega) (by omega) (by omega) (by omega) (by omega)).mono ?_
      rintro e w2 ⟨rfl, hg⟩
      replace ha := ha.keep hg; replace hb := hb.keep hg; replace xa0 := hg.cell xa0 (by simp); replace xa1 := hg.cell xa1 (by simp); replace xa2 := hg.cell xa2 (by simp); replace xb0 := hg.cell xb0 (by simp); replace xb1 := hg.cell xb1 (by simp); replace xb2 := hg.cell xb2 (by simp); replace y0 := hg.cell y0 (by simp); replace y1 := hg.cell y1 (by simp); replace y2 := hg.cell y2 (by simp); replace hW := grown_trans hW hg
      clear hg
      have hg := World.grownBy_alloc w2 (.cells #[.bool false, .slice none 0 0, .slice none 0 0] 27) none
      have br := heap_alloc_new w2 (.cells #[.bool false, .slice none 0 0, .slice none 0 0] 27)
      obtain ⟨z0, z1, z2, _, _, _⟩ := ratbox_facts br
      clear br
      replace ha := ha.keep hg; replace hb := hb.keep hg; replace xa0 := hg.cell xa0 (by simp); replace xa1 := hg.cell xa1 (by simp); replace xa2 := hg.cell xa2 (by simp); replace xb0 := hg.cell xb0 (by simp); replace xb1 := hg.cell xb1 (by simp); replace xb2 := hg.cell xb2 (by simp); replace y0 := hg.cell y0 (by simp); replace y1 := hg.cell y1 (by simp); replace y2 := hg.cell y2 (by simp); replace hW := grown_trans hW hg
      clear hg
      go_wp2_with fail
      generalize w2.alloc (.cells #[.bool false, .slice none 0 0, .slice none 0 0] 27) = wb at *
      generalize w2.heap.size = K2 at *
      have hg := grown_drew wb none
      replace ha := ha.keep hg; replace hb := hb.keep hg; replace xa0 := hg.cell xa0 (by simp); replace xa1 := hg.cell xa1 (by simp); replace xa2 := hg.cell xa2 (by simp); replace xb0 := hg.cell xb0 (by simp); replace xb1 := hg.cell xb1 (by simp); replace xb2 := hg.cell xb2 (by simp); replace y0 := hg.cell y0 (by simp); replace y1 := hg.cell y1 (by simp); replace y2 := hg.cell y2 (by simp); replace z0 := hg.cell z0 (by simp); replace z1 := hg.cell z1 (by simp); replace z2 := hg.cell z2 (by simp); replace hW := grown_trans hW hg
      clear hg
      go_region_held3 (fun w' => w'.cell? ⟨w.heap.size, 0, none⟩ = some (.bool ga) ∧ w'.cell? ⟨w.heap.size, 1, none⟩ = some (.slice sa na ca) ∧ w'.cell? ⟨w.heap.size, 2, none⟩ = some (.slice ta ma da) ∧ w'.cell? ⟨w.heap.size + 1, 0, none⟩ = some (.bool gb) ∧ w'.cell? ⟨w.heap.size + 1, 1, none⟩ = some (.slice sb nb cb) ∧ w'.cell? ⟨w.heap.size + 1, 2, none⟩ = some (.slice tb mb db) ∧ w'.cell? ⟨K1, 0, none⟩ = some (.bool false) ∧ w'.cell? ⟨K1, 1, none⟩ = some (.slice none 0 0) ∧ w'.cell? ⟨K1, 2, none⟩ = some (.slice none 0 0) ∧ w'.cell? ⟨K2, 0, none⟩ = some (.bool false) ∧ w'.cell? ⟨K2, 1, none⟩ = some (.slice none 0 0) ∧ w'.cell? ⟨K2, 2, none⟩ = some (.slice none 0 0)) ((try go_split_ands) <;> (repeat' apply And.intro) <;> (repeat (first | (with_reducible assumption) | (with_reducible refine (grown_setCell _ _ _).cell ?_ (by simp; omega)) | (with_reducible refine (World.grownBy_alloc _ _ none).cell ?_ (by simp)) | (with_reducible refine (grown_drew _ none).cell ?_ (by simp)))))
        (first
          | (go_at_call 18; (with_reducible refine (ratNeg_v 12 (HT.out.keep hW) ha (by omega) (by omega) (by omega)).mono ?_); rintro e w3 ⟨g3, p3, n3, c3, q3, m3, d3, rfl, e1, hn3, hm3, hg⟩; replace ha := ha.keep hg; replace hb := hb.keep hg; replace xa0 := hg.cell xa0 (by simp); replace xa1 := hg.cell xa1 (by simp); replace xa2 := hg.cell xa2 (by simp); replace xb0 := hg.cell xb0 (by simp); replace xb1 := hg.cell xb1 (by simp); replace xb2 := hg.cell xb2 (by simp); replace y0 := hg.cell y0 (by simp); replace y1 := hg.cell y1 (by simp); replace y2 := hg.cell y2 (by simp); replace z0 := hg.cell z0 (by simp); replace z1 := hg.cell z1 (by simp); replace z2 := hg.cell z2 (by simp); replace hW := grown_trans hW hg; clear hg)
          | (go_at_call 19; (with_reducible refine (rNeg3_v 12 ha (by omega) (by omega) (by omega)).mono ?_); rintro e w4 ⟨g4, p4, n4, c4, q4, m4, d4, rfl, e2, hn4, hm4, hg⟩; replace ha := ha.keep hg; replace hb := hb.keep hg; replace e1 := e1.keep hg; replace xa0 := hg.cell xa0 (by simp); replace xa1 := hg.cell xa1 (by simp); replace xa2 := hg.cell xa2 (by simp); replace xb0 := hg.cell xb0 (by simp); replace xb1 := hg.cell xb1 (by simp); replace xb2 := hg.cell xb2 (by simp); replace y0 := hg.cell y0 (by simp); replace y1 := hg.cell y1 (by simp); replace y2 := hg.cell y2 (by simp); replace z0 := hg.cell z0 (by simp); replace z1 := hg.cell z1 (by simp); replace z2 := hg.cell z2 (by simp); replace hW := grown_trans hW hg; clear hg)
          | (go_at_call 17; (with_reducible refine (same3_v e1 e2 (rfl)).mono ?_); rintro e w5 ⟨rfl, hg⟩; replace ha := ha.keep hg; replace hb := hb.keep hg; replace e1 := e1.keep hg; replace e2 := e2.keep hg; replace xa0 := hg.cell xa0 (by simp); replace xa1 := hg.cell xa1 (by simp); replace xa2 := hg.cell xa2 (by simp); replace xb0 := hg.cell xb0 (by simp); replace xb1 := hg.cell xb1 (by simp); replace xb2 := hg.cell xb2 (by simp); replace y0 := hg.cell y0 (by simp); replace y1 := hg.cell y1 (by simp); replace y2 := hg.cell y2 (by simp); replace z0 := hg.cell z0 (by simp); replace z1 := hg.cell z1 (by simp); replace z2 := hg.cell z2 (by simp); replace hW := grown_trans hW hg; clear hg)
          | (go_at_call 20; (with_reducible refine (ratAdd_v 12 (HT.out.keep hW) ha hb (by omega) (by omega) (by omega) (by omega) (by omega)).mono ?_); rintro e w6 ⟨g6, p6, n6, c6, q6, m6, d6, rfl, e3, hn6, hm6, hg⟩; replace ha := ha.keep hg; replace hb := hb.keep hg; replace e1 := e1.keep hg; replace e2 := e2.keep hg; replace xa0 := hg.cell xa0 (by simp); replace xa1 := hg.cell xa1 (by simp); replace xa2 := hg.cell xa2 (by simp); replace xb0 := hg.cell xb0 (by simp); replace xb1 := hg.cell xb1 (by simp); replace xb2 := hg.cell xb2 (by simp); replace y0 := hg.cell y0 (by simp); replace y1 := hg.cell y1 (by simp); replace y2 := hg.cell y2 (by simp); replace z0 := hg.cell z0 (by simp); replace z1 := hg.cell z1 (by simp); replace z2 := hg.cell z2 (by simp); replace hW := grown_trans hW hg; clear hg)
          | (go_at_call 21; (with_reducible refine (rAdd3_v 12 ha hb (by omega) (by omega) (by omega) (by omega) (by omega)).mono ?_); rintro e w7 ⟨g7, p7, n7, c7, q7, m7, d7, rfl, e4, hn7, hm7, hg⟩; replace ha := ha.keep hg; replace hb := hb.keep hg; replace e1 := e1.keep hg; replace e2 := e2.keep hg; replace e3 := e3.keep hg; replace xa0 := hg.cell xa0 (by simp); replace xa1 := hg.cell xa1 (by simp); replace xa2 := hg.cell xa2 (by simp); replace xb0 := hg.cell xb0 (by simp); replace xb1 := hg.cell xb1 (by simp); replace xb2 := hg.cell xb2 (by simp); replace y0 := hg.cell y0 (by simp); replace y1 := hg.cell y1 (by simp); replace y2 := hg.cell y2 (by simp); replace z0 := hg.cell z0 (by simp); replace z1 := hg.cell z1 (by simp); replace z2 := hg.cell z2 (by simp); replace hW := grown_trans hW hg; clear hg)
          | (go_at_call 17; (with_reducible refine (same3_v e3 e4 (rfl)).mono ?_); rintro e w8 ⟨rfl, hg⟩; replace ha := ha.keep hg; replace hb := hb.keep hg; replace e1 := e1.keep hg; replace e2 := e2.keep hg; replace e3 := e3.keep hg; replace e4 := e4.keep hg; replace xa0 := hg.cell xa0 (by simp); replace xa1 := hg.cell xa1 (by simp); replace xa2 := hg.cell xa2 (by simp); replace xb0 := hg.cell xb0 (by simp); replace xb1 := hg.cell xb1 (by simp); replace xb2 := hg.cell xb2 (by simp); replace y0 := hg.cell y0 (by simp); replace y1 := hg.cell y1 (by simp); replace y2 := hg.cell y2 (by simp); replace z0 := hg.cell z0 (by simp); replace z1 := hg.cell z1 (by simp); replace z2 := hg.cell z2 (by simp); replace hW := grown_trans hW hg; clear hg)
          | (go_at_call 22; (with_reducible refine (ratSub_v 12 (HT.out.keep hW) ha hb (by omega) (by omega) (by omega) (by omega) (by omega)).mono ?_); rintro e w9 ⟨g9, p9, n9, c9, q9, m9, d9, rfl, e5, hn9, hm9, hg⟩; replace ha := ha.keep hg; replace hb := hb.keep hg; replace e1 := e1.keep hg; replace e2 := e2.keep hg; replace e3 := e3.keep hg; replace e4 := e4.keep hg; replace xa0 := hg.cell xa0 (by simp); replace xa1 := hg.cell xa1 (by simp); replace xa2 := hg.cell xa2 (by simp); replace xb0 := hg.cell xb0 (by simp); replace xb1 := hg.cell xb1 (by simp); replace xb2 := hg.cell xb2 (by simp); replace y0 := hg.cell y0 (by simp); replace y1 := hg.cell y1 (by simp); replace y2 := hg.cell y2 (by simp); replace z0 := hg.cell z0 (by simp); replace z1 := hg.cell z1 (by simp); replace z2 := hg.cell z2 (by simp); replace hW := grown_trans hW hg; clear hg)
          | (go_at_call 23; (with_reducible refine (rSub3_v 12 ha hb (by omega) (by omega) (by omega) (by omega) (by omega)).mono ?_); rintro e w10 ⟨g10, p10, n10, c10, q10, m10, d10, rfl, e6, hn10, hm10, hg⟩; replace ha := ha.keep hg; replace hb := hb.keep hg; replace e1 := e1.keep hg; replace e2 := e2.keep hg; replace e3 := e3.keep hg; replace e4 := e4.keep hg; replace e5 := e5.keep hg; replace xa0 := hg.cell xa0 (by simp); replace xa1 := hg.cell xa1 (by simp); replace xa2 := hg.cell xa2 (by simp); replace xb0 := hg.cell xb0 (by simp); replace xb1 := hg.cell xb1 (by simp); replace xb2 := hg.cell xb2 (by simp); replace y0 := hg.cell y0 (by simp); replace y1 := hg.cell y1 (by simp); replace y2 := hg.cell y2 (by simp); replace z0 := hg.cell z0 (by simp); replace z1 := hg.cell z1 (by simp); replace z2 := hg.cell z2 (by simp); replace hW := grown_trans hW hg; clear hg)
          | (go_at_call 17; (with_reducible refine (same3_v e5 e6 (rfl)).mono ?_); rintro e w11 ⟨rfl, hg⟩; replace ha := ha.keep hg; replace hb := hb.keep hg; replace e1 := e1.keep hg; replace e2 := e2.keep hg; replace e3 := e3.keep hg; replace e4 := e4.keep hg; replace e5 := e5.keep hg; replace e6 := e6.keep hg; replace xa0 := hg.cell xa0 (by simp); replace xa1 := hg.cell xa1 (by simp); replace xa2 := hg.cell xa2 (by simp); replace xb0 := hg.cell xb0 (by simp); replace xb1 := hg.cell xb1 (by simp); replace xb2 := hg.cell xb2 (by simp); replace y0 := hg.cell y0 (by simp); replace y1 := hg.cell y1 (by simp); replace y2 := hg.cell y2 (by simp); replace z0 := hg.cell z0 (by simp); replace z1 := hg.cell z1 (by simp); replace z2 := hg.cell z2 (by simp); replace hW := grown_trans hW hg; clear hg)
          | (go_at_call 24; (with_reducible refine (ratMul_v 12 (HT.out.keep hW) ha hb (by omega) (by omega) (by omega) (by omega) (by omega)).mono ?_); rintro e w12 ⟨g12, p12, n12, c12, q12, m12, d12, rfl, e7, hn12, hm12, hg⟩; replace ha := ha.keep hg; replace hb := hb.keep hg; replace e1 := e1.keep hg; replace e2 := e2.keep hg; replace e3 := e3.keep hg; replace e4 := e4.keep hg; replace e5 := e5.keep hg; replace e6 := e6.keep hg; replace xa0 := hg.cell xa0 (by simp); replace xa1 := hg.cell xa1 (by simp); replace xa2 := hg.cell xa2 (by simp); replace xb0 := hg.cell xb0 (by simp); replace xb1 := hg.cell xb1 (by simp); replace xb2 := hg.cell xb2 (by simp); replace y0 := hg.cell y0 (by simp); replace y1 := hg.cell y1 (by simp); replace y2 := hg.cell y2 (by simp); replace z0 := hg.cell z0 (by simp); replace z1 := hg.cell z1 (by simp); replace z2 := hg.cell z2 (by simp); replace hW := grown_trans hW hg; clear hg)
          | (go_at_call 25; (with_reducible refine (rMul3_v 12 ha hb (by omega) (by omega) (by omega) (by omega) (by omega)).mono ?_); rintro e w13 ⟨g13, p13, n13, c13, q13, m13, d13, rfl, e8, hn13, hm13, hg⟩; replace ha := ha.keep hg; replace hb := hb.keep hg; replace e1 := e1.keep hg; replace e2 := e2.keep hg; replace e3 := e3.keep hg; replace e4 := e4.keep hg; replace e5 := e5.keep hg; replace e6 := e6.keep hg; replace e7 := e7.keep hg; replace xa0 := hg.cell xa0 (by simp); replace xa1 := hg.cell xa1 (by simp); replace xa2 := hg.cell xa2 (by simp); replace xb0 := hg.cell xb0 (by simp); replace xb1 := hg.cell xb1 (by simp); replace xb2 := hg.cell xb2 (by simp); replace y0 := hg.cell y0 (by simp); replace y1 := hg.cell y1 (by simp); replace y2 := hg.cell y2 (by simp); replace z0 := hg.cell z0 (by simp); replace z1 := hg.cell z1 (by simp); replace z2 := hg.cell z2 (by simp); replace hW := grown_trans hW hg; clear hg)
          | (go_at_call 17; (with_reducible refine (same3_v e7 e8 (rfl)).mono ?_); rintro e w14 ⟨rfl, hg⟩; replace ha := ha.keep hg; replace hb := hb.keep hg; replace e1 := e1.keep hg; replace e2 := e2.keep hg; replace e3 := e3.keep hg; replace e4 := e4.keep hg; replace e5 := e5.keep hg; replace e6 := e6.keep hg; replace e7 := e7.keep hg; replace e8 := e8.keep hg; replace xa0 := hg.cell xa0 (by simp); replace xa1 := hg.cell xa1 (by simp); replace xa2 := hg.cell xa2 (by simp); replace xb0 := hg.cell xb0 (by simp); replace xb1 := hg.cell xb1 (by simp); replace xb2 := hg.cell xb2 (by simp); replace y0 := hg.cell y0 (by simp); replace y1 := hg.cell y1 (by simp); replace y2 := hg.cell y2 (by simp); replace z0 := hg.cell z0 (by simp); replace z1 := hg.cell z1 (by simp); replace z2 := hg.cell z2 (by simp); replace hW := grown_trans hW hg; clear hg)
          | (go_at_call 17; (with_reducible refine (same3_any (IsI.zero _) (IsC.nil _) (IsI.zero _) (IsC.nil _) rfl rfl).mono ?_); rintro e w15 ⟨rfl, hg⟩; replace ha := ha.keep hg; replace hb := hb.keep hg; replace e1 := e1.keep hg; replace e2 := e2.keep hg; replace e3 := e3.keep hg; replace e4 := e4.keep hg; replace e5 := e5.keep hg; replace e6 := e6.keep hg; replace e7 := e7.keep hg; replace e8 := e8.keep hg; replace xa0 := hg.cell xa0 (by simp); replace xa1 := hg.cell xa1 (by simp); replace xa2 := hg.cell xa2 (by simp); replace xb0 := hg.cell xb0 (by simp); replace xb1 := hg.cell xb1 (by simp); replace xb2 := hg.cell xb2 (by simp); replace y0 := hg.cell y0 (by simp); replace y1 := hg.cell y1 (by simp); replace y2 := hg.cell y2 (by simp); replace z0 := hg.cell z0 (by simp); replace z1 := hg.cell z1 (by simp); replace z2 := hg.cell z2 (by simp); replace hW := grown_trans hW hg; clear hg)
          | (go_at_call 6; (with_reducible refine (alive3 (HT.out.keep hW)).mono ?_); rintro e w16 ⟨rfl, hg⟩; replace ha := ha.keep hg; replace hb := hb.keep hg; replace e1 := e1.keep hg; replace e2 := e2.keep hg; replace e3 := e3.keep hg; replace e4 := e4.keep hg; replace e5 := e5.keep hg; replace e6 := e6.keep hg; replace e7 := e7.keep hg; replace e8 := e8.keep hg; replace xa0 := hg.cell xa0 (by simp); replace xa1 := hg.cell xa1 (by simp); replace xa2 := hg.cell xa2 (by simp); replace xb0 := hg.cell xb0 (by simp); replace xb1 := hg.cell xb1 (by simp); replace xb2 := hg.cell xb2 (by simp); replace y0 := hg.cell y0 (by simp); replace y1 := hg.cell y1 (by simp); replace y2 := hg.cell y2 (by simp); replace z0 := hg.cell z0 (by simp); replace z1 := hg.cell z1 (by simp); replace z2 := hg.cell z2 (by simp); replace hW := grown_trans hW hg; clear hg))
      go_wp2_with fail
      go_ret
      exact ⟨rfl, hW⟩
    · go_wp2_with fail
      refine (ratDiv_v 12 (HT.out.keep hW) ha hb hb0 (by omega) (by omega) (by omega) (by omega) (by omega)).mono ?_
      rintro e w1 ⟨g1, p1, n1, c1, q1, m1, d1, rfl, hQ, hn1, hm1, hg⟩
      replace ha := ha.keep hg; replace hb := hb.keep hg; replace xa0 := hg.cell xa0 (by simp); replace xa1 := hg.cell xa1 (by simp); replace xa2 := hg.cell xa2 (by simp); replace xb0 := hg.cell xb0 (by simp); replace xb1 := hg.cell xb1 (by simp); replace xb2 := hg.cell xb2 (by simp); replace hW := grown_trans hW hg
      clear hg
      have hg := World.grownBy_alloc w1 (.cells #[.bool g1, .slice p1 n1 c1, .slice q1 m1 d1] 27) none
      have br := heap_alloc_new w1 (.cells #[.bool g1, .slice p1 n1 c1, .slice q1 m1 d1] 27)
      obtain ⟨y0, y1, y2, _, _, _⟩ := ratbox_facts br
      clear br
      replace ha := ha.keep hg; replace hb := hb.keep hg; replace hQ := hQ.keep hg; replace xa0 := hg.cell xa0 (by simp); replace xa1 := hg.cell xa1 (by simp); replace xa2 := hg.cell xa2 (by simp); replace xb0 := hg.cell xb0 (by simp); replace xb1 := hg.cell xb1 (by simp); replace xb2 := hg.cell xb2 (by simp); replace hW := grown_trans hW hg
      clear hg
      go_wp2_with fail
      generalize w1.alloc (.cells #[.bool g1, .slice p1 n1 c1, .slice q1 m1 d1] 27) = wa at *
      generalize w1.heap.size = K1 at *
      refine (rDiv3_v 12 ha hb hb0 (by omega) (by omega) (by omega) (by omega) (by omega)).mono ?_
      rintro e w2 ⟨g2, p2, n2, c2, q2, m2, d2, rfl, hR, hn2, hm2, hg⟩
      replace ha := ha.keep hg; replace hb := hb.keep hg; replace hQ := hQ.keep hg; replace xa0 := hg.cell xa0 (by simp); replace xa1 := hg.cell xa1 (by simp); replace xa2 := hg.cell xa2 (by simp); replace xb0 := hg.cell xb0 (by simp); replace xb1 := hg.cell xb1 (by simp); replace xb2 := hg.cell xb2 (by simp); replace y0 := hg.cell y0 (by simp); replace y1 := hg.cell y1 (by simp); replace y2 := hg.cell y2 (by simp); replace hW := grown_trans hW hg
      clear hg
      have hg := World.grownBy_alloc w2 (.cells #[.bool g2, .slice p2 n2 c2, .slice q2 m2 d2] 27) none
      have br := heap_alloc_new w2 (.cells #[.bool g2, .slice p2 n2 c2, .slice q2 m2 d2] 27)
      obtain ⟨z0, z1, z2, _, _, _⟩ := ratbox_facts br
      clear br
      replace ha := ha.keep hg; replace hb := hb.keep hg; replace hQ := hQ.keep hg; replace hR := hR.keep hg; replace xa0 := hg.cell xa0 (by simp); replace xa1 := hg.cell xa1 (by simp); replace xa2 := hg.cell xa2 (by simp); replace xb0 := hg.cell xb0 (by simp); replace xb1 := hg.cell xb1 (by simp); replace xb2 := hg.cell xb2 (by simp); replace y0 := hg.cell y0 (by simp); replace y1 := hg.cell y1 (by simp); replace y2 := hg.cell y2 (by simp); replace hW := grown_trans hW hg
      clear hg
      go_wp2_with fail
      generalize w2.alloc (.cells #[.bool g2, .slice p2 n2 c2, .slice q2 m2 d2] 27) = wb at *
      generalize w2.heap.size = K2 at *
      have hg := grown_drew wb none
      replace ha := ha.keep hg; replace hb := hb.keep hg; replace hQ := hQ.keep hg; replace hR := hR.keep hg; replace xa0 := hg.cell xa0 (by simp); replace xa1 := hg.cell xa1 (by simp); replace xa2 := hg.cell xa2 (by simp); replace xb0 := hg.cell xb0 (by simp); replace xb1 := hg.cell xb1 (by simp); replace xb2 := hg.cell xb2 (by simp); replace y0 := hg.cell y0 (by simp); replace y1 := hg.cell y1 (by simp); replace y2 := hg.cell y2 (by simp); replace z0 := hg.cell z0 (by simp); replace z1 := hg.cell z1 (by simp); replace z2 := hg.cell z2 (by simp); replace hW := grown_trans hW hg
      clear hg
      go_region_held3 (fun w' => w'.cell? ⟨w.heap.size, 0, none⟩ = some (.bool ga) ∧ w'.cell? ⟨w.heap.size, 1, none⟩ = some (.slice sa na ca) ∧ w'.cell? ⟨w.heap.size, 2, none⟩ = some (.slice ta ma da) ∧ w'.cell? ⟨w.heap.size + 1, 0, none⟩ = some (.bool gb) ∧ w'.cell? ⟨w.heap.size + 1, 1, none⟩ = some (.slice sb nb cb) ∧ w'.cell? ⟨w.heap.size + 1, 2, none⟩ = some (.slice tb mb db) ∧ w'.cell? ⟨K1, 0, none⟩ = some (.bool g1) ∧ w'.cell? ⟨K1, 1, none⟩ = some (.slice p1 n1 c1) ∧ w'.cell? ⟨K1, 2, none⟩ = some (.slice q1 m1 d1) ∧ w'.cell? ⟨K2, 0, none⟩ = some (.bool g2) ∧ w'.cell? ⟨K2, 1, none⟩ = some (.slice p2 n2 c2) ∧ w'.cell? ⟨K2, 2, none⟩ = some (.slice q2 m2 d2)) ((try go_split_ands) <;> (repeat' apply And.intro) <;> (repeat (first | (with_reducible assumption) | (with_reducible refine (grown_setCell _ _ _).cell ?_ (by simp; omega)) | (with_reducible refine (World.grownBy_alloc _ _ none).cell ?_ (by simp)) | (with_reducible refine (grown_drew _ none).cell ?_ (by simp)))))
        (first
          | (go_at_call 18; (with_reducible refine (ratNeg_v 12 (HT.out.keep hW) ha (by omega) (by omega) (by omega)).mono ?_); rintro e w3 ⟨g3, p3, n3, c3, q3, m3, d3, rfl, e1, hn3, hm3, hg⟩; replace ha := ha.keep hg; replace hb := hb.keep hg; replace hQ := hQ.keep hg; replace hR := hR.keep hg; replace xa0 := hg.cell xa0 (by simp); replace xa1 := hg.cell xa1 (by simp); replace xa2 := hg.cell xa2 (by simp); replace xb0 := hg.cell xb0 (by simp); replace xb1 := hg.cell xb1 (by simp); replace xb2 := hg.cell xb2 (by simp); replace y0 := hg.cell y0 (by simp); replace y1 := hg.cell y1 (by simp); replace y2 := hg.cell y2 (by simp); replace z0 := hg.cell z0 (by simp); replace z1 := hg.cell z1 (by simp); replace z2 := hg.cell z2 (by simp); replace hW := grown_trans hW hg; clear hg)
          | (go_at_call 19; (with_reducible refine (rNeg3_v 12 ha (by omega) (by omega) (by omega)).mono ?_); rintro e w4 ⟨g4, p4, n4, c4, q4, m4, d4, rfl, e2, hn4, hm4, hg⟩; replace ha := ha.keep hg; replace hb := hb.keep hg; replace hQ := hQ.keep hg; replace hR := hR.keep hg; replace e1 := e1.keep hg; replace xa0 := hg.cell xa0 (by simp); replace xa1 := hg.cell xa1 (by simp); replace xa2 := hg.cell xa2 (by simp); replace xb0 := hg.cell xb0 (by simp); replace xb1 := hg.cell xb1 (by simp); replace xb2 := hg.cell xb2 (by simp); replace y0 := hg.cell y0 (by simp); replace y1 := hg.cell y1 (by simp); replace y2 := hg.cell y2 (by simp); replace z0 := hg.cell z0 (by simp); replace z1 := hg.cell z1 (by simp); replace z2 := hg.cell z2 (by simp); replace hW := grown_trans hW hg; clear hg)
          | (go_at_call 17; (with_reducible refine (same3_v e1 e2 (rfl)).mono ?_); rintro e w5 ⟨rfl, hg⟩; replace ha := ha.keep hg; replace hb := hb.keep hg; replace hQ := hQ.keep hg; replace hR := hR.keep hg; replace e1 := e1.keep hg; replace e2 := e2.keep hg; replace xa0 := hg.cell xa0 (by simp); replace xa1 := hg.cell xa1 (by simp); replace xa2 := hg.cell xa2 (by simp); replace xb0 := hg.cell xb0 (by simp); replace xb1 := hg.cell xb1 (by simp); replace xb2 := hg.cell xb2 (by simp); replace y0 := hg.cell y0 (by simp); replace y1 := hg.cell y1 (by simp); replace y2 := hg.cell y2 (by simp); replace z0 := hg.cell z0 (by simp); replace z1 := hg.cell z1 (by simp); replace z2 := hg.cell z2 (by simp); replace hW := grown_trans hW hg; clear hg)
          | (go_at_call 20; (with_reducible refine (ratAdd_v 12 (HT.out.keep hW) ha hb (by omega) (by omega) (by omega) (by omega) (by omega)).mono ?_); rintro e w6 ⟨g6, p6, n6, c6, q6, m6, d6, rfl, e3, hn6, hm6, hg⟩; replace ha := ha.keep hg; replace hb := hb.keep hg; replace hQ := hQ.keep hg; replace hR := hR.keep hg; replace e1 := e1.keep hg; replace e2 := e2.keep hg; replace xa0 := hg.cell xa0 (by simp); replace xa1 := hg.cell xa1 (by simp); replace xa2 := hg.cell xa2 (by simp); replace xb0 := hg.cell xb0 (by simp); replace xb1 := hg.cell xb1 (by simp); replace xb2 := hg.cell xb2 (by simp); replace y0 := hg.cell y0 (by simp); replace y1 := hg.cell y1 (by simp); replace y2 := hg.cell y2 (by simp); replace z0 := hg.cell z0 (by simp); replace z1 := hg.cell z1 (by simp); replace z2 := hg.cell z2 (by simp); replace hW := grown_trans hW hg; clear hg)
          | (go_at_call 21; (with_reducible refine (rAdd3_v 12 ha hb (by omega) (by omega) (by omega) (by omega) (by omega)).mono ?_); rintro e w7 ⟨g7, p7, n7, c7, q7, m7, d7, rfl, e4, hn7, hm7, hg⟩; replace ha := ha.keep hg; replace hb := hb.keep hg; replace hQ := hQ.keep hg; replace hR := hR.keep hg; replace e1 := e1.keep hg; replace e2 := e2.keep hg; replace e3 := e3.keep hg; replace xa0 := hg.cell xa0 (by simp); replace xa1 := hg.cell xa1 (by simp); replace xa2 := hg.cell xa2 (by simp); replace xb0 := hg.cell xb0 (by simp); replace xb1 := hg.cell xb1 (by simp); replace xb2 := hg.cell xb2 (by simp); replace y0 := hg.cell y0 (by simp); replace y1 := hg.cell y1 (by simp); replace y2 := hg.cell y2 (by simp); replace z0 := hg.cell z0 (by simp); replace z1 := hg.cell z1 (by simp); replace z2 := hg.cell z2 (by simp); replace hW := grown_trans hW hg; clear hg)
          | (go_at_call 17; (with_reducible refine (same3_v e3 e4 (rfl)).mono ?_); rintro e w8 ⟨rfl, hg⟩; replace ha := ha.keep hg; replace hb := hb.keep hg; replace hQ := hQ.keep hg; replace hR := hR.keep hg; replace e1 := e1.keep hg; replace e2 := e2.keep hg; replace e3 := e3.keep hg; replace e4 := e4.keep hg; replace xa0 := hg.cell xa0 (by simp); replace xa1 := hg.cell xa1 (by simp); replace xa2 := hg.cell xa2 (by simp); replace xb0 := hg.cell xb0 (by simp); replace xb1 := hg.cell xb1 (by simp); replace xb2 := hg.cell xb2 (by simp); replace y0 := hg.cell y0 (by simp); replace y1 := hg.cell y1 (by simp); replace y2 := hg.cell y2 (by simp); replace z0 := hg.cell z0 (by simp); replace z1 := hg.cell z1 (by simp); replace z2 := hg.cell z2 (by simp); replace hW := grown_trans hW hg; clear hg)
          | (go_at_call 22; (with_reducible refine (ratSub_v 12 (HT.out.keep hW) ha hb (by omega) (by omega) (by omega) (by omega) (by omega)).mono ?_); rintro e w9 ⟨g9, p9, n9, c9, q9, m9, d9, rfl, e5, hn9, hm9, hg⟩; replace ha := ha.keep hg; replace hb := hb.keep hg; replace hQ := hQ.keep hg; replace hR := hR.keep hg; replace e1 := e1.keep hg; replace e2 := e2.keep hg; replace e3 := e3.keep hg; replace e4 := e4.keep hg; replace xa0 := hg.cell xa0 (by simp); replace xa1 := hg.cell xa1 (by simp); replace xa2 := hg.cell xa2 (by simp); replace xb0 := hg.cell xb0 (by simp); replace xb1 := hg.cell xb1 (by simp); replace xb2 := hg.cell xb2 (by simp); replace y0 := hg.cell y0 (by simp); replace y1 := hg.cell y1 (by simp); replace y2 := hg.cell y2 (by simp); replace z0 := hg.cell z0 (by simp); replace z1 := hg.cell z1 (by simp); replace z2 := hg.cell z2 (by simp); replace hW := grown_trans hW hg; clear hg)
          | (go_at_call 23; (with_reducible refine (rSub3_v 12 ha hb (by omega) (by omega) (by omega) (by omega) (by omega)).mono ?_); rintro e w10 ⟨g10, p10, n10, c10, q10, m10, d10, rfl, e6, hn10, hm10, hg⟩; replace ha := ha.keep hg; replace hb := hb.keep hg; replace hQ := hQ.keep hg; replace hR := hR.keep hg; replace e1 := e1.keep hg; replace e2 := e2.keep hg; replace e3 := e3.keep hg; replace e4 := e4.keep hg; replace e5 := e5.keep hg; replace xa0 := hg.cell xa0 (by simp); replace xa1 := hg.cell xa1 (by simp); replace xa2 := hg.cell xa2 (by simp); replace xb0 := hg.cell xb0 (by simp); replace xb1 := hg.cell xb1 (by simp); replace xb2 := hg.cell xb2 (by simp); replace y0 := hg.cell y0 (by simp); replace y1 := hg.cell y1 (by simp); replace y2 := hg.cell y2 (by simp); replace z0 := hg.cell z0 (by simp); replace z1 := hg.cell z1 (by simp); replace z2 := hg.cell z2 (by simp); replace hW := grown_trans hW hg; clear hg)
          | (go_at_call 17; (with_reducible refine (same3_v e5 e6 (rfl)).mono ?_); rintro e w11 ⟨rfl, hg⟩; replace ha := ha.keep hg; replace hb := hb.keep hg; replace hQ := hQ.keep hg; replace hR := hR.keep hg; replace e1 := e1.keep hg; replace e2 := e2.keep hg; replace e3 := e3.keep hg; replace e4 := e4.keep hg; replace e5 := e5.keep hg; replace e6 := e6.keep hg; replace xa0 := hg.cell xa0 (by simp); replace xa1 := hg.cell xa1 (by simp); replace xa2 := hg.cell xa2 (by simp); replace xb0 := hg.cell xb0 (by simp); replace xb1 := hg.cell xb1 (by simp); replace xb2 := hg.cell xb2 (by simp); replace y0 := hg.cell y0 (by simp); replace y1 := hg.cell y1 (by simp); replace y2 := hg.cell y2 (by simp); replace z0 := hg.cell z0 (by simp); replace z1 := hg.cell z1 (by simp); replace z2 := hg.cell z2 (by simp); replace hW := grown_trans hW hg; clear hg)
          | (go_at_call 24; (with_reducible refine (ratMul_v 12 (HT.out.keep hW) ha hb (by omega) (by omega) (by omega) (by omega) (by omega)).mono ?_); rintro e w12 ⟨g12, p12, n12, c12, q12, m12, d12, rfl, e7, hn12, hm12, hg⟩; replace ha := ha.keep hg; replace hb := hb.keep hg; replace hQ := hQ.keep hg; replace hR := hR.keep hg; replace e1 := e1.keep hg; replace e2 := e2.keep hg; replace e3 := e3.keep hg; replace e4 := e4.keep hg; replace e5 := e5.keep hg; replace e6 := e6.keep hg; replace xa0 := hg.cell xa0 (by simp); replace xa1 := hg.cell xa1 (by simp); replace xa2 := hg.cell xa2 (by simp); replace xb0 := hg.cell xb0 (by simp); replace xb1 := hg.cell xb1 (by simp); replace xb2 := hg.cell xb2 (by simp); replace y0 := hg.cell y0 (by simp); replace y1 := hg.cell y1 (by simp); replace y2 := hg.cell y2 (by simp); replace z0 := hg.cell z0 (by simp); replace z1 := hg.cell z1 (by simp); replace z2 := hg.cell z2 (by simp); replace hW := grown_trans hW hg; clear hg)
          | (go_at_call 25; (with_reducible refine (rMul3_v 12 ha hb (by omega) (by omega) (by omega) (by omega) (by omega)).mono ?_); rintro e w13 ⟨g13, p13, n13, c13, q13, m13, d13, rfl, e8, hn13, hm13, hg⟩; replace ha := ha.keep hg; replace hb := hb.keep hg; replace hQ := hQ.keep hg; replace hR := hR.keep hg; replace e1 := e1.keep hg; replace e2 := e2.keep hg; replace e3 := e3.keep hg; replace e4 := e4.keep hg; replace e5 := e5.keep hg; replace e6 := e6.keep hg; replace e7 := e7.keep hg; replace xa0 := hg.cell xa0 (by simp); replace xa1 := hg.cell xa1 (by simp); replace xa2 := hg.cell xa2 (by simp); replace xb0 := hg.cell xb0 (by simp); replace xb1 := hg.cell xb1 (by simp); replace xb2 := hg.cell xb2 (by simp); replace y0 := hg.cell y0 (by simp); replace y1 := hg.cell y1 (by simp); replace y2 := hg.cell y2 (by simp); replace z0 := hg.cell z0 (by simp); replace z1 := hg.cell z1 (by simp); replace z2 := hg.cell z2 (by simp); replace hW := grown_trans hW hg; clear hg)
          | (go_at_call 17; (with_reducible refine (same3_v e7 e8 (rfl)).mono ?_); rintro e w14 ⟨rfl, hg⟩; replace ha := ha.keep hg; replace hb := hb.keep hg; replace hQ := hQ.keep hg; replace hR := hR.keep hg; replace e1 := e1.keep hg; replace e2 := e2.keep hg; replace e3 := e3.keep hg; replace e4 := e4.keep hg; replace e5 := e5.keep hg; replace e6 := e6.keep hg; replace e7 := e7.keep hg; replace e8 := e8.keep hg; replace xa0 := hg.cell xa0 (by simp); replace xa1 := hg.cell xa1 (by simp); replace xa2 := hg.cell xa2 (by simp); replace xb0 := hg.cell xb0 (by simp); replace xb1 := hg.cell xb1 (by simp); replace xb2 := hg.cell xb2 (by simp); replace y0 := hg.cell y0 (by simp); replace y1 := hg.cell y1 (by simp); replace y2 := hg.cell y2 (by simp); replace z0 := hg.cell z0 (by simp); replace z1 := hg.cell z1 (by simp); replace z2 := hg.cell z2 (by simp); replace hW := grown_trans hW hg; clear hg)
          | (go_at_call 17; (with_reducible refine (same3_v hQ hR (rfl)).mono ?_); rintro e w15 ⟨rfl, hg⟩; replace ha := ha.keep hg; replace hb := hb.keep hg; replace hQ := hQ.keep hg; replace hR := hR.keep hg; replace e1 := e1.keep hg; replace e2 := e2.keep hg; replace e3 := e3.keep hg; replace e4 := e4.keep hg; replace e5 := e5.keep hg; replace e6 := e6.keep hg; replace e7 := e7.keep hg; replace e8 := e8.keep hg; replace xa0 := hg.cell xa0 (by simp); replace xa1 := hg.cell xa1 (by simp); replace xa2 := hg.cell xa2 (by simp); replace xb0 := hg.cell xb0 (by simp); replace xb1 := hg.cell xb1 (by simp); replace xb2 := hg.cell xb2 (by simp); replace y0 := hg.cell y0 (by simp); replace y1 := hg.cell y1 (by simp); replace y2 := hg.cell y2 (by simp); replace z0 := hg.cell z0 (by simp); replace z1 := hg.cell z1 (by simp); replace z2 := hg.cell z2 (by simp); replace hW := grown_trans hW hg; clear hg)
          | (go_at_call 6; (with_reducible refine (alive3 (HT.out.keep hW)).mono ?_); rintro e w16 ⟨rfl, hg⟩; replace ha := ha.keep hg; replace hb := hb.keep hg; replace hQ := hQ.keep hg; replace hR := hR.keep hg; replace e1 := e1.keep hg; replace e2 := e2.keep hg; replace e3 := e3.keep hg; replace e4 := e4.keep hg; replace e5 := e5.keep hg; replace e6 := e6.keep hg; replace e7 := e7.keep hg; replace e8 := e8.keep hg; replace xa0 := hg.cell xa0 (by simp); replace xa1 := hg.cell xa1 (by simp); replace xa2 := hg.cell xa2 (by simp); replace xb0 := hg.cell xb0 (by simp); replace xb1 := hg.cell xb1 (by simp); replace xb2 := hg.cell xb2 (by simp); replace y0 := hg.cell y0 (by simp); replace y1 := hg.cell y1 (by simp); replace y2 := hg.cell y2 (by simp); replace z0 := hg.cell z0 (by simp); replace z1 := hg.cell z1 (by simp); replace z2 := hg.cell z2 (by simp); replace hW := grown_trans hW hg; clear hg))
      go_wp2_with fail
      go_ret
      exact ⟨rfl, hW⟩
  · rw [decide_eq_false h12] at HS
    replace HS := hid HS
    go_enter Tryz.func4, Tryz.ntmps4
    go_wp2_with fail
    refine HS.out.mono ?_
    rintro e w0 ⟨rfl, hg⟩
    replace hW := grown_trans hW3 hg
    go_wp2_with fail
    refine (alive3 (HT.out.keep hW)).mono ?_
    rintro e w1 ⟨rfl, hg⟩
    go_wp2_with fail
    go_ret
    exact ⟨rfl, grown_trans hW hg⟩

theorem rationalAdds_door (os : Os) (args : Array Value) : laidMetH Tryz.prog [("math/bits.deBruijn64tab", Rows.laid_math_bits_deBruijn64tab)] ((World.doorLaid Tryz.prog 400 os).forCall (fun _ _ => 0) ⟨#[], args, []⟩).memory :=
  laidMetH_of_parts3 (fuel := 8) (laidMet_of_run' 8 (by kernel_rfl) (by kernel_rfl)) (by kernel_rfl) (by kernel_rfl)

set_option maxRecDepth 100000 in
theorem rationalAdds_lifted (os : Os) (started : os.Started) (H : Type) (enc : TypeId × Value → H) :
    ReturnsInHanded {} Tryz.checked os 4 .any (fun w args => (Rows.rationalAddsSpec.pre enc Tryz.prog Tryz.f4 [] false w args ∧ laidMetH Tryz.prog [("math/bits.deBruijn64tab", Rows.laid_math_bits_deBruijn64tab)] w) ∧ sizedMet enc Tryz.prog Tryz.f4 (OpenSpec.ofChange Rows.rationalAddsSpec) false w args)
      (Rows.rationalAddsSpec.post enc Tryz.prog Tryz.f4 false true false false) := by
  refine returnsInHanded_of_change_and (C := Tryz.checked) (X := fun w _ => laidMetH Tryz.prog [("math/bits.deBruijn64tab", Rows.laid_math_bits_deBruijn64tab)] w) (fun _ _ _ hh h => h.of_heap hh) own1 started (by kernel_rfl) Tryz.func4
    (ChangeSpec.witness_shaped (enc := enc) (C := Tryz.checked) (os := os) (X := fun w _ => laidMetH Tryz.prog [("math/bits.deBruijn64tab", Rows.laid_math_bits_deBruijn64tab)] w) false (World.doorLaid Tryz.prog 400 os) #[.agg #[.bool false, .slice none 0 0, .slice none 0 0], .agg #[.bool false, .slice none 0 0, .slice none 0 0]] 8 rfl (World.shaped_of_RefB (by kernel_rfl) (by kernel_rfl)) (by kernel_rfl) (by kernel_rfl) (by kernel_rfl) (rationalAdds_door os _)) ?_
  intro W base args ds gs before hval0 hW _ _ hL _
  have hval : ∀ (j : Nat) t v, Tryz.f4.params[j]? = some t → args[j]? = some v → Value.okWide Tryz.prog W .any base t v := hval0
  have hW' := hW
  obtain ⟨p, q, hA0, hV, rfl, hfz, hnd⟩ := hW
  have hA : DataW.TrodAll enc Tryz.prog W 0 (fun _ => true) true Tryz.f4.params.toList args.toList ds p := hA0
  rw [Tryz.params4] at hA hval
  obtain ⟨v0, v1, d0, d1, p0, p1, rfl, rfl, rfl, h0, h1⟩ := trodAll_two hA
  obtain ⟨rfl, rfl⟩ := trodVars_none hV
  have hlt : ∀ x ∈ p0 ++ (p1), x.block < W.heap.size := fun x hx => hW'.lt x (by simpa using hx)
  obtain ⟨g0, a, n, c, xs, a', n', c', xs', rfl, hr0, hx0, hs0, hy0⟩ := open_Rat (hval 0 27 v0 rfl rfl) h0
  obtain ⟨g1, b, m, d, ys, b', m', d', ys', rfl, hr1, hx1, hs1, hy1⟩ := open_Rat (hval 1 27 v1 rfl rfl) h1
  refine (rationalAdds_walk g0 a a' n c n' c' g1 b b' m d m' d' _ _ W (tb_of_laid hL) (IsQ.of g0 hr0 hx0 hs0 hy0) (IsQ.of g1 hr1 hx1 hs1 hy1)).mono fun e W' ⟨he, hg⟩ => ?_
  subst he
  have hB := grown_below hg
  exact ⟨_, rfl, _, _, _, [], _, [], hW', trodAll_mk1 (shut_bool Tryz.underlying4 true),
    trodAll_mk2 (Below.trod laidOut1 readRat rowRat h0 hB fun x hx => hlt x (by simp [hx])) (Below.trod laidOut1 readRat rowRat h1 hB fun x hx => hlt x (by simp [hx])), rfl, hB.frame _, fun h => by cases h⟩

theorem rationalAdds_holds : Rows.RationalAddsSaid :=
  OpenClaim.holds_of_wide 4 Tryz.f4 rfl rfl rfl rfl rfl rfl rfl ⟨rfl, rfl, rfl, rfl, rfl⟩ rfl rfl rfl rfl rfl (by kernel_rfl) Tryz.func4 (by kernel_rfl)
    (of_decide_eq_true (by kernel_rfl)) (by unfold Func.isWrapper; first | (rw [if_pos (by decide +kernel)]; kernel_rfl) | (rw [if_neg (by decide +kernel)]; exact ⟨rfl, rfl⟩))
    (fun os started H enc _ => rationalAdds_lifted os started H enc)

theorem rationalAdds_card : Rows.RationalAddsCardSaid :=
  Claim7.holds_tied_plain_at .later [] [.data] true _ false
    rationalAdds_holds (fun _ h => by cases h) (by kernel_rfl) (fun _ h => by cases h) rationalAdds_row_tie rfl ⟨rfl, rfl⟩ (by kernel_rfl) rfl
    (fun f fn hf hfn => by
      obtain rfl : f = 4 := Option.some.inj ((show Tryz.prog.funcNamed "geoprover/geoproverlaw03.RationalAdds" = some 4 by kernel_rfl).symm.trans hf) |>.symm
      obtain rfl : fn = Tryz.f4 := (Option.some.inj (Tryz.func4.symm.trans hfn)).symm
      exact ⟨by kernel_rfl, fun j t ht => by
        rw [Tryz.params4] at ht
        have hm : t ∈ [27, 27] := by simpa using Array.mem_of_getElem? ht
        have hall : ([27, 27].all fun u => !Tryz.prog.wantsStandIn u) = true := by kernel_rfl
        exact (show Tryz.prog.wantsStandIn t = false by simpa using List.all_eq_true.1 hall t hm)⟩)
    (by kernel_rfl)

end Go.Proofs.YtdgcmbpmjcfhpaaGreatDoor
