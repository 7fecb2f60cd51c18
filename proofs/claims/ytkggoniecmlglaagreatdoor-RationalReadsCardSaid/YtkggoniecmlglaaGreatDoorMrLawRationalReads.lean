/-
  Whatever the arguments are, the Go function RationalReads returns true and leaves them as they are. Condition: the tables of packages math/bits and internal/strconv, and the two errors of strconv, hold what the program's text lays (the card ties them).
-/
import Derived.Test.YtkggoniecmlglaaGreatDoorMrQ
import Derived.Test.YtkggoniecmlglaaGreatDoorMrV
import Derived.Test.YtkggoniecmlglaaGreatDoorMrA
import Derived.Test.YtkggoniecmlglaaGreatDoorMrS
import Derived.Test.YtkggoniecmlglaaGreatDoorMrP
import Derived.Test.YtkggoniecmlglaaGreatDoorMrB
import Derived.ChangeMaps5
import Derived.Deep.RegionHeld3
import Derived.Deep.DeepCutAuto

set_option linter.unusedVariables false
set_option linter.unusedSimpArgs false
namespace Go.Proofs.YtkggoniecmlglaaGreatDoor
open Go.ChangeShapes Go.WideShapes Go.ChangeAt Go.RowKit _root_.Nm
open Go Go.ChangeMaps

theorem small3_one (ga : Bool) (sa ta : Option Addr) (na ca ma da : Nat) (w : World) (G : Nat) (hG : G = w.heap.size) :
    Calls Tryz.prog 5 #[.slice (some ⟨G, 0, none⟩) 1 1] (w.alloc (.cells #[.bool ga, .slice sa na ca, .slice ta ma da] 27)) fun e w' =>
      e = .returned (.bool (decide (na ≤ 12 ∧ ma ≤ 12))) ∧ w.grownBy w' none := by
  subst hG
  have := small3_any w.heap.size 1 [((sa, na, ca), (ta, ma, da))] (w.alloc (.cells #[.bool ga, .slice sa na ca, .slice ta ma da] 27)) (by simp) (fun j hj => by
    match j, hj with
    | 0, _ => simp)
  refine this.mono fun e w' ⟨h1, h2⟩ => ⟨by simpa using h1, h2 ▸ World.grownBy_alloc w _ none⟩

set_option maxRecDepth 100000 in
set_option maxHeartbeats 16000000 in
theorem rationalReads_walk (ga : Bool) (sa ta : Option Addr) (na ca ma da : Nat) (A : Rat) (s : ByteArray) (w : World) (T : Tb w) (TP : Tp w) (ha : IsQ w ga sa na ca ta ma da A) :
    Calls Tryz.prog 3 #[.agg #[.bool ga, .slice sa na ca, .slice ta ma da], .string s] w fun e w' => e = .returned (.bool true) ∧ w.grownBy w' none := by
  have hW3 := World.grownBy_alloc w (.cells #[.bool ga, .slice sa na ca, .slice ta ma da] 27) none
  have HS := small3_one ga sa ta na ca ma da (w.alloc (.cells #[.bool ga, .slice sa na ca, .slice ta ma da] 27)) (w.heap.size + 1) (by simp)
  by_cases h12 : na ≤ 12 ∧ ma ≤ 12
  rotate_left
  · rw [decide_eq_false h12] at HS
    replace HS := hid HS
    go_enter Tryz.func3, Tryz.ntmps3
    go_wp2_with fail
    refine HS.out.mono ?_
    rintro e w0 ⟨rfl, hg⟩
    have hW := grown_trans hW3 hg
    go_wp2_with fail
    refine (alive3 (T.keep hW)).mono ?_
    rintro e w1 ⟨rfl, hg⟩
    go_wp2_with fail
    go_ret
    exact ⟨rfl, grown_trans hW hg⟩
  rw [decide_eq_true h12] at HS
  replace HS := hid HS
  obtain ⟨hna, hma⟩ := h12
  by_cases h21 : 2100 < s.size
  · have h21' : (2100 : Int) < (s.size : Int) := by omega
    go_enter Tryz.func3, Tryz.ntmps3
    go_wp2_with fail
    refine HS.out.mono ?_
    rintro e w0 ⟨rfl, hg⟩
    have hW := grown_trans hW3 hg
    go_wp2_with fail
    refine (alive3 (T.keep hW)).mono ?_
    rintro e w1 ⟨rfl, hg⟩
    go_wp2_with fail
    go_ret
    exact ⟨rfl, grown_trans hW hg⟩
  have h21' : ¬ ((2100 : Int) < (s.size : Int)) := by omega
  have hs : s.size ≤ 2000000 := by omega
  by_cases hE : rqE s.data.toList = 0
  · skip
    go_enter Tryz.func3, Tryz.ntmps3
    go_wp2_with fail
    refine HS.out.mono ?_
    rintro e w0 ⟨rfl, hg⟩
    have x0 : w0.cell? ⟨w.heap.size, 0, none⟩ = some (.bool ga) := hg.cell (by simp [go_sem, World.cell?_alloc_past]) (by simp)
    have x1 : w0.cell? ⟨w.heap.size, 1, none⟩ = some (.slice sa na ca) := hg.cell (by simp [go_sem, World.cell?_alloc_past]) (by simp)
    have x2 : w0.cell? ⟨w.heap.size, 2, none⟩ = some (.slice ta ma da) := hg.cell (by simp [go_sem, World.cell?_alloc_past]) (by simp)
    have hz0 := hg.size; simp at hz0
    replace hg := grown_trans hW3 hg
    replace ha := ha.keep hg; replace T := T.keep hg; replace TP := tp_keep TP hg
    have hW := hg
    clear hg HS hW3
    have HR1 := hid (fun W (T : Tb W) => (ratRead_any s _ rfl hs W T).mono fun e w' h => h.2 hE)
    have HR2 := hid (fun W => (rRatRead_any s _ rfl hs W).mono fun e w' h => h.2 hE)
    unfold MPost at HR1 HR2
    clear hE
    go_wp2_with fail
    refine (HR1.out _ T).mono ?_
    rintro e v1 ⟨g1, p1, n1, c1, q1, m1, d1, rfl, h1, hn1, hm1, hg⟩
    replace T := T.keep hg; replace TP := tp_keep TP hg; replace ha := ha.keep hg; replace x0 := hg.cell x0 (by simp); replace x1 := hg.cell x1 (by simp); replace x2 := hg.cell x2 (by simp); replace hW := grown_trans hW hg; clear hg
    have hg := World.grownBy_alloc v1 (.cells #[.bool g1, .slice p1 n1 c1, .slice q1 m1 d1] 27) none
    have hb := heap_alloc_new v1 (.cells #[.bool g1, .slice p1 n1 c1, .slice q1 m1 d1] 27)
    replace T := T.keep hg; replace TP := tp_keep TP hg; replace ha := ha.keep hg; replace h1 := h1.keep hg; replace x0 := hg.cell x0 (by simp); replace x1 := hg.cell x1 (by simp); replace x2 := hg.cell x2 (by simp); replace hW := grown_trans hW hg; clear hg
    obtain ⟨y0, y1, y2, yf0, yf1, yf2⟩ := ratbox_facts hb
    clear hb
    go_wp2_with fail
    generalize v1.alloc (.cells #[.bool g1, .slice p1 n1 c1, .slice q1 m1 d1] 27) = uy at *
    generalize v1.heap.size = Ky at *
    refine (HR2.out _).mono ?_
    rintro e v2 ⟨g2, p2, n2, c2, q2, m2, d2, rfl, h2, hn2, hm2, hg⟩
    replace T := T.keep hg; replace TP := tp_keep TP hg; replace ha := ha.keep hg; replace h1 := h1.keep hg; replace x0 := hg.cell x0 (by simp); replace x1 := hg.cell x1 (by simp); replace x2 := hg.cell x2 (by simp); replace y0 := hg.cell y0 (by simp); replace y1 := hg.cell y1 (by simp); replace y2 := hg.cell y2 (by simp); replace hW := grown_trans hW hg; clear hg
    have hg := World.grownBy_alloc v2 (.cells #[.bool g2, .slice p2 n2 c2, .slice q2 m2 d2] 27) none
    have hb := heap_alloc_new v2 (.cells #[.bool g2, .slice p2 n2 c2, .slice q2 m2 d2] 27)
    replace T := T.keep hg; replace TP := tp_keep TP hg; replace ha := ha.keep hg; replace h1 := h1.keep hg; replace h2 := h2.keep hg; replace x0 := hg.cell x0 (by simp); replace x1 := hg.cell x1 (by simp); replace x2 := hg.cell x2 (by simp); replace y0 := hg.cell y0 (by simp); replace y1 := hg.cell y1 (by simp); replace y2 := hg.cell y2 (by simp); replace hW := grown_trans hW hg; clear hg
    obtain ⟨z0, z1, z2, zf0, zf1, zf2⟩ := ratbox_facts hb
    clear hb
    go_upto_region 5 with fail
    generalize v2.alloc (.cells #[.bool g2, .slice p2 n2 c2, .slice q2 m2 d2] 27) = uz at *
    generalize v2.heap.size = Kz at *
    have hg := grown_drew uz none
    replace T := T.keep hg; replace TP := tp_keep TP hg; replace ha := ha.keep hg; replace h1 := h1.keep hg; replace h2 := h2.keep hg; replace x0 := hg.cell x0 (by simp); replace x1 := hg.cell x1 (by simp); replace x2 := hg.cell x2 (by simp); replace y0 := hg.cell y0 (by simp); replace y1 := hg.cell y1 (by simp); replace y2 := hg.cell y2 (by simp); replace z0 := hg.cell z0 (by simp); replace z1 := hg.cell z1 (by simp); replace z2 := hg.cell z2 (by simp); replace hW := grown_trans hW hg; clear hg
    go_region_held3 (fun w' => w'.cell? ⟨w.heap.size, 0, none⟩ = some (.bool ga) ∧ w'.cell? ⟨w.heap.size, 1, none⟩ = some (.slice sa na ca) ∧ w'.cell? ⟨w.heap.size, 2, none⟩ = some (.slice ta ma da) ∧ w'.cell? ⟨Ky, 0, none⟩ = some (.bool g1) ∧ w'.cell? ⟨Ky, 1, none⟩ = some (.slice p1 n1 c1) ∧ w'.cell? ⟨Ky, 2, none⟩ = some (.slice q1 m1 d1) ∧ w'.cell? ⟨Kz, 0, none⟩ = some (.bool g2) ∧ w'.cell? ⟨Kz, 1, none⟩ = some (.slice p2 n2 c2) ∧ w'.cell? ⟨Kz, 2, none⟩ = some (.slice q2 m2 d2)) ((try go_split_ands) <;> (repeat' apply And.intro) <;> (repeat (first | (with_reducible assumption) | (with_reducible refine (grown_setCell _ _ _).cell ?_ (by simp; omega)) | (with_reducible refine (World.grownBy_alloc _ _ none).cell ?_ (by simp)) | (with_reducible refine (grown_drew _ none).cell ?_ (by simp)))))
      (first
        | (go_at_call 9; (with_reducible refine (ratText_v T TP ha (by omega) (by omega)).mono ?_); rintro e v3 ⟨rfl, hg⟩; replace T := T.keep hg; replace TP := tp_keep TP hg; replace ha := ha.keep hg; replace h1 := h1.keep hg; replace h2 := h2.keep hg; replace x0 := hg.cell x0 (by simp); replace x1 := hg.cell x1 (by simp); replace x2 := hg.cell x2 (by simp); replace y0 := hg.cell y0 (by simp); replace y1 := hg.cell y1 (by simp); replace y2 := hg.cell y2 (by simp); replace z0 := hg.cell z0 (by simp); replace z1 := hg.cell z1 (by simp); replace z2 := hg.cell z2 (by simp); replace hW := grown_trans hW hg; clear hg)
        | (go_at_call 10; (with_reducible refine (rRatText_v ha (by omega) (by omega)).mono ?_); rintro e v4 ⟨rfl, hg⟩; replace T := T.keep hg; replace TP := tp_keep TP hg; replace ha := ha.keep hg; replace h1 := h1.keep hg; replace h2 := h2.keep hg; replace x0 := hg.cell x0 (by simp); replace x1 := hg.cell x1 (by simp); replace x2 := hg.cell x2 (by simp); replace y0 := hg.cell y0 (by simp); replace y1 := hg.cell y1 (by simp); replace y2 := hg.cell y2 (by simp); replace z0 := hg.cell z0 (by simp); replace z1 := hg.cell z1 (by simp); replace z2 := hg.cell z2 (by simp); replace hW := grown_trans hW hg; clear hg)
        | (go_at_call 11; (with_reducible refine (same3_v h1 h2 rfl).mono ?_); rintro e v5 ⟨rfl, hg⟩; replace T := T.keep hg; replace TP := tp_keep TP hg; replace ha := ha.keep hg; replace h1 := h1.keep hg; replace h2 := h2.keep hg; replace x0 := hg.cell x0 (by simp); replace x1 := hg.cell x1 (by simp); replace x2 := hg.cell x2 (by simp); replace y0 := hg.cell y0 (by simp); replace y1 := hg.cell y1 (by simp); replace y2 := hg.cell y2 (by simp); replace z0 := hg.cell z0 (by simp); replace z1 := hg.cell z1 (by simp); replace z2 := hg.cell z2 (by simp); replace hW := grown_trans hW hg; clear hg)
        | (go_at_call 6; (with_reducible refine (alive3 T).mono ?_); rintro e v6 ⟨rfl, hg⟩; replace T := T.keep hg; replace TP := tp_keep TP hg; replace ha := ha.keep hg; replace h1 := h1.keep hg; replace h2 := h2.keep hg; replace x0 := hg.cell x0 (by simp); replace x1 := hg.cell x1 (by simp); replace x2 := hg.cell x2 (by simp); replace y0 := hg.cell y0 (by simp); replace y1 := hg.cell y1 (by simp); replace y2 := hg.cell y2 (by simp); replace z0 := hg.cell z0 (by simp); replace z1 := hg.cell z1 (by simp); replace z2 := hg.cell z2 (by simp); replace hW := grown_trans hW hg; clear hg))
    go_wp2_with fail
    go_ret
    exact ⟨rfl, hW⟩
  · skip
    go_enter Tryz.func3, Tryz.ntmps3
    go_wp2_with fail
    refine HS.out.mono ?_
    rintro e w0 ⟨rfl, hg⟩
    have x0 : w0.cell? ⟨w.heap.size, 0, none⟩ = some (.bool ga) := hg.cell (by simp [go_sem, World.cell?_alloc_past]) (by simp)
    have x1 : w0.cell? ⟨w.heap.size, 1, none⟩ = some (.slice sa na ca) := hg.cell (by simp [go_sem, World.cell?_alloc_past]) (by simp)
    have x2 : w0.cell? ⟨w.heap.size, 2, none⟩ = some (.slice ta ma da) := hg.cell (by simp [go_sem, World.cell?_alloc_past]) (by simp)
    have hz0 := hg.size; simp at hz0
    replace hg := grown_trans hW3 hg
    replace ha := ha.keep hg; replace T := T.keep hg; replace TP := tp_keep TP hg
    have hW := hg
    clear hg HS hW3
    have HR1 := hid (fun W (T : Tb W) => (ratRead_any s _ rfl hs W T).mono fun e w' h => h.1 hE)
    have HR2 := hid (fun W => (rRatRead_any s _ rfl hs W).mono fun e w' h => h.1 hE)
    unfold EPost at HR1 HR2
    clear hE
    generalize rqE s.data.toList = E at *
    go_wp2_with fail
    refine (HR1.out _ T).mono ?_
    rintro e v1 ⟨rfl, hg⟩
    replace T := T.keep hg; replace TP := tp_keep TP hg; replace ha := ha.keep hg; replace x0 := hg.cell x0 (by simp); replace x1 := hg.cell x1 (by simp); replace x2 := hg.cell x2 (by simp); replace hW := grown_trans hW hg; clear hg
    have hg := World.grownBy_alloc v1 (.cells #[.bool false, .slice none 0 0, .slice none 0 0] 27) none
    have hb := heap_alloc_new v1 (.cells #[.bool false, .slice none 0 0, .slice none 0 0] 27)
    replace T := T.keep hg; replace TP := tp_keep TP hg; replace ha := ha.keep hg; replace x0 := hg.cell x0 (by simp); replace x1 := hg.cell x1 (by simp); replace x2 := hg.cell x2 (by simp); replace hW := grown_trans hW hg; clear hg
    obtain ⟨y0, y1, y2, yf0, yf1, yf2⟩ := ratbox_facts hb
    clear hb
    go_wp2_with fail
    generalize v1.alloc (.cells #[.bool false, .slice none 0 0, .slice none 0 0] 27) = uy at *
    generalize v1.heap.size = Ky at *
    refine (HR2.out _).mono ?_
    rintro e v2 ⟨rfl, hg⟩
    replace T := T.keep hg; replace TP := tp_keep TP hg; replace ha := ha.keep hg; replace x0 := hg.cell x0 (by simp); replace x1 := hg.cell x1 (by simp); replace x2 := hg.cell x2 (by simp); replace y0 := hg.cell y0 (by simp); replace y1 := hg.cell y1 (by simp); replace y2 := hg.cell y2 (by simp); replace hW := grown_trans hW hg; clear hg
    have hg := World.grownBy_alloc v2 (.cells #[.bool false, .slice none 0 0, .slice none 0 0] 27) none
    have hb := heap_alloc_new v2 (.cells #[.bool false, .slice none 0 0, .slice none 0 0] 27)
    replace T := T.keep hg; replace TP := tp_keep TP hg; replace ha := ha.keep hg; replace x0 := hg.cell x0 (by simp); replace x1 := hg.cell x1 (by simp); replace x2 := hg.cell x2 (by simp); replace y0 := hg.cell y0 (by simp); replace y1 := hg.cell y1 (by simp); replace y2 := hg.cell y2 (by simp); replace hW := grown_trans hW hg; clear hg
    obtain ⟨z0, z1, z2, zf0, zf1, zf2⟩ := ratbox_facts hb
    clear hb
    go_upto_region 5 with fail
    generalize v2.alloc (.cells #[.bool false, .slice none 0 0, .slice none 0 0] 27) = uz at *
    generalize v2.heap.size = Kz at *
    have hg := grown_drew uz none
    replace T := T.keep hg; replace TP := tp_keep TP hg; replace ha := ha.keep hg; replace x0 := hg.cell x0 (by simp); replace x1 := hg.cell x1 (by simp); replace x2 := hg.cell x2 (by simp); replace y0 := hg.cell y0 (by simp); replace y1 := hg.cell y1 (by simp); replace y2 := hg.cell y2 (by simp); replace z0 := hg.cell z0 (by simp); replace z1 := hg.cell z1 (by simp); replace z2 := hg.cell z2 (by simp); replace hW := grown_trans hW hg; clear hg
    go_region_held3 (fun w' => w'.cell? ⟨w.heap.size, 0, none⟩ = some (.bool ga) ∧ w'.cell? ⟨w.heap.size, 1, none⟩ = some (.slice sa na ca) ∧ w'.cell? ⟨w.heap.size, 2, none⟩ = some (.slice ta ma da) ∧ w'.cell? ⟨Ky, 0, none⟩ = some (.bool false) ∧ w'.cell? ⟨Ky, 1, none⟩ = some (.slice none 0 0) ∧ w'.cell? ⟨Ky, 2, none⟩ = some (.slice none 0 0) ∧ w'.cell? ⟨Kz, 0, none⟩ = some (.bool false) ∧ w'.cell? ⟨Kz, 1, none⟩ = some (.slice none 0 0) ∧ w'.cell? ⟨Kz, 2, none⟩ = some (.slice none 0 0)) ((try go_split_ands) <;> (repeat' apply And.intro) <;> (repeat (first | (with_reducible assumption) | (with_reducible refine (grown_setCell _ _ _).cell ?_ (by simp; omega)) | (with_reducible refine (World.grownBy_alloc _ _ none).cell ?_ (by simp)) | (with_reducible refine (grown_drew _ none).cell ?_ (by simp)))))
      (first
        | (go_at_call 9; (with_reducible refine (ratText_v T TP ha (by omega) (by omega)).mono ?_); rintro e v3 ⟨rfl, hg⟩; replace T := T.keep hg; replace TP := tp_keep TP hg; replace ha := ha.keep hg; replace x0 := hg.cell x0 (by simp); replace x1 := hg.cell x1 (by simp); replace x2 := hg.cell x2 (by simp); replace y0 := hg.cell y0 (by simp); replace y1 := hg.cell y1 (by simp); replace y2 := hg.cell y2 (by simp); replace z0 := hg.cell z0 (by simp); replace z1 := hg.cell z1 (by simp); replace z2 := hg.cell z2 (by simp); replace hW := grown_trans hW hg; clear hg)
        | (go_at_call 10; (with_reducible refine (rRatText_v ha (by omega) (by omega)).mono ?_); rintro e v4 ⟨rfl, hg⟩; replace T := T.keep hg; replace TP := tp_keep TP hg; replace ha := ha.keep hg; replace x0 := hg.cell x0 (by simp); replace x1 := hg.cell x1 (by simp); replace x2 := hg.cell x2 (by simp); replace y0 := hg.cell y0 (by simp); replace y1 := hg.cell y1 (by simp); replace y2 := hg.cell y2 (by simp); replace z0 := hg.cell z0 (by simp); replace z1 := hg.cell z1 (by simp); replace z2 := hg.cell z2 (by simp); replace hW := grown_trans hW hg; clear hg)
        | (go_at_call 11; (with_reducible refine (same3_any (isI_nil _) (IsC.nil _) (isI_nil _) (IsC.nil _) rfl rfl).mono ?_); rintro e v5 ⟨rfl, hg⟩; replace T := T.keep hg; replace TP := tp_keep TP hg; replace ha := ha.keep hg; replace x0 := hg.cell x0 (by simp); replace x1 := hg.cell x1 (by simp); replace x2 := hg.cell x2 (by simp); replace y0 := hg.cell y0 (by simp); replace y1 := hg.cell y1 (by simp); replace y2 := hg.cell y2 (by simp); replace z0 := hg.cell z0 (by simp); replace z1 := hg.cell z1 (by simp); replace z2 := hg.cell z2 (by simp); replace hW := grown_trans hW hg; clear hg)
        | (go_at_call 6; (with_reducible refine (alive3 T).mono ?_); rintro e v6 ⟨rfl, hg⟩; replace T := T.keep hg; replace TP := tp_keep TP hg; replace ha := ha.keep hg; replace x0 := hg.cell x0 (by simp); replace x1 := hg.cell x1 (by simp); replace x2 := hg.cell x2 (by simp); replace y0 := hg.cell y0 (by simp); replace y1 := hg.cell y1 (by simp); replace y2 := hg.cell y2 (by simp); replace z0 := hg.cell z0 (by simp); replace z1 := hg.cell z1 (by simp); replace z2 := hg.cell z2 (by simp); replace hW := grown_trans hW hg; clear hg))
    go_wp2_with fail
    go_ret
    exact ⟨rfl, hW⟩

theorem rationalReads_door (os : Os) (args : Array Value) : laidMetH Tryz.prog [("math/bits.deBruijn32tab", Rows.laid_math_bits_deBruijn32tab), ("math/bits.deBruijn64tab", Rows.laid_math_bits_deBruijn64tab), ("internal/strconv.uint64pow10", Rows.laid_internal_strconv_uint64pow10), ("strconv.ErrRange", Rows.laid_strconv_ErrRange), ("strconv.ErrSyntax", Rows.laid_strconv_ErrSyntax)] ((World.doorLaid Tryz.prog 400 os).forCall (fun _ _ => 0) ⟨#[], args, []⟩).memory :=
  laidMetH_of_parts3 (fuel := 8) (laidMet_of_run' 8 (by kernel_rfl) (by kernel_rfl)) (by kernel_rfl) (by kernel_rfl)

set_option maxRecDepth 100000 in
theorem rationalReads_lifted (os : Os) (started : os.Started) (H : Type) (enc : TypeId × Value → H) :
    ReturnsInHanded {} Tryz.checked os 3 .any (fun w args => (Rows.rationalReadsSpec.pre enc Tryz.prog Tryz.f3 [] false w args ∧ laidMetH Tryz.prog [("math/bits.deBruijn32tab", Rows.laid_math_bits_deBruijn32tab), ("math/bits.deBruijn64tab", Rows.laid_math_bits_deBruijn64tab), ("internal/strconv.uint64pow10", Rows.laid_internal_strconv_uint64pow10), ("strconv.ErrRange", Rows.laid_strconv_ErrRange), ("strconv.ErrSyntax", Rows.laid_strconv_ErrSyntax)] w) ∧ sizedMet enc Tryz.prog Tryz.f3 (OpenSpec.ofChange Rows.rationalReadsSpec) false w args)
      (Rows.rationalReadsSpec.post enc Tryz.prog Tryz.f3 false true false false) := by
  refine returnsInHanded_of_change_and (C := Tryz.checked) (X := fun w _ => laidMetH Tryz.prog [("math/bits.deBruijn32tab", Rows.laid_math_bits_deBruijn32tab), ("math/bits.deBruijn64tab", Rows.laid_math_bits_deBruijn64tab), ("internal/strconv.uint64pow10", Rows.laid_internal_strconv_uint64pow10), ("strconv.ErrRange", Rows.laid_strconv_ErrRange), ("strconv.ErrSyntax", Rows.laid_strconv_ErrSyntax)] w) (fun _ _ _ hh h => h.of_heap hh) own1 started (by kernel_rfl) Tryz.func3
    (ChangeSpec.witness_shaped (enc := enc) (C := Tryz.checked) (os := os) (X := fun w _ => laidMetH Tryz.prog [("math/bits.deBruijn32tab", Rows.laid_math_bits_deBruijn32tab), ("math/bits.deBruijn64tab", Rows.laid_math_bits_deBruijn64tab), ("internal/strconv.uint64pow10", Rows.laid_internal_strconv_uint64pow10), ("strconv.ErrRange", Rows.laid_strconv_ErrRange), ("strconv.ErrSyntax", Rows.laid_strconv_ErrSyntax)] w) false (World.doorLaid Tryz.prog 400 os) #[.agg #[.bool false, .slice none 0 0, .slice none 0 0], .string ⟨#[]⟩] 8 rfl (World.shaped_of_RefB (by kernel_rfl) (by kernel_rfl)) (by kernel_rfl) (by kernel_rfl) (by kernel_rfl) (rationalReads_door os _)) ?_
  intro W base args ds gs before hval0 hW _ _ hL _
  have hval : ∀ (j : Nat) t v, Tryz.f3.params[j]? = some t → args[j]? = some v → Value.okWide Tryz.prog W .any base t v := hval0
  have hW' := hW
  obtain ⟨p, q, hA0, hV, rfl, hfz, hnd⟩ := hW
  have hA : DataW.TrodAll enc Tryz.prog W 0 (fun _ => true) true Tryz.f3.params.toList args.toList ds p := hA0
  rw [Tryz.params3] at hA hval
  obtain ⟨v0, v1, d0, d1, p0, p1, rfl, rfl, rfl, h0, h1⟩ := trodAll_two hA
  obtain ⟨rfl, rfl⟩ := trodVars_none hV
  have hlt : ∀ x ∈ p0 ++ (p1), x.block < W.heap.size := fun x hx => hW'.lt x (by simpa using hx)
  obtain ⟨g0, a, n, c, xs, a', n', c', xs', rfl, hr0, hx0, hs0, hy0⟩ := open_Rat (hval 0 27 v0 rfl rfl) h0
  obtain ⟨s1, rfl, rfl, rfl, ws1⟩ := open_string Tryz.underlying9 (hval 1 9 v1 rfl rfl) h1
  refine (rationalReads_walk g0 a a' n c n' c' _ s1 W (tb_of_laid5 hL) (tp_of_laid hL) (IsQ.of g0 hr0 hx0 hs0 hy0)).mono fun e W' ⟨he, hg⟩ => ?_
  subst he
  have hB := grown_below hg
  exact ⟨_, rfl, _, _, _, [], _, [], hW', trodAll_mk1 (shut_bool Tryz.underlying4 true),
    trodAll_mk2 (Below.trod laidOut1 readRat rowRat h0 hB fun x hx => hlt x (by simp [hx])) (shut_string Tryz.underlying9 ws1), rfl, hB.frame _, fun h => by cases h⟩

theorem rationalReads_holds : Rows.RationalReadsSaid :=
  OpenClaim.holds_of_wide 3 Tryz.f3 rfl rfl rfl rfl rfl rfl rfl ⟨rfl, rfl, rfl, rfl, rfl⟩ rfl rfl rfl rfl rfl (by kernel_rfl) Tryz.func3 (by kernel_rfl)
    (of_decide_eq_true (by kernel_rfl)) (by unfold Func.isWrapper; first | (rw [if_pos (by decide +kernel)]; kernel_rfl) | (rw [if_neg (by decide +kernel)]; exact ⟨rfl, rfl⟩))
    (fun os started H enc _ => rationalReads_lifted os started H enc)

theorem rationalReads_card : Rows.RationalReadsCardSaid :=
  Claim7.holds_tied_plain_at .later [] [.data, .data, .data, .sentinel, .sentinel] true _ true
    rationalReads_holds (fun _ h => by cases h) (by kernel_rfl) (fun _ h => by cases h) rationalReads_row_tie rfl ⟨rfl, rfl⟩ (by kernel_rfl) rfl
    (fun f fn hf hfn => by
      obtain rfl : f = 3 := Option.some.inj ((show Tryz.prog.funcNamed "geoprover/geoproverlaw03.RationalReads" = some 3 by kernel_rfl).symm.trans hf) |>.symm
      obtain rfl : fn = Tryz.f3 := (Option.some.inj (Tryz.func3.symm.trans hfn)).symm
      exact ⟨by kernel_rfl, fun j t ht => by
        rw [Tryz.params3] at ht
        have hm : t ∈ [27, 9] := by simpa using Array.mem_of_getElem? ht
        have hall : ([27, 9].all fun u => !Tryz.prog.wantsStandIn u) = true := by kernel_rfl
        exact (show Tryz.prog.wantsStandIn t = false by simpa using List.all_eq_true.1 hall t hm)⟩)
    (by kernel_rfl)

end Go.Proofs.YtkggoniecmlglaaGreatDoor
