/-
  Whatever the arguments are, the Go function RationalForms returns true and leaves them as they are. Condition: the table deBruijn64tab of package math/bits holds what the program's text lays (the card ties it).
-/
import Derived.Test.YtdgcmbpmjcfhpaaGreatDoorMrT
import Derived.Deep.RegionHeld3
import Derived.Deep.DeepCutAuto

set_option linter.unusedVariables false
set_option linter.unusedSimpArgs false
namespace Go.Proofs.YtdgcmbpmjcfhpaaGreatDoor
open Go.ChangeShapes Go.WideShapes Go.ChangeAt Go.RowKit Nm
open Go

theorem small3_two (ga : Bool) (sa ta : Option Addr) (na ca ma da : Nat) (gb : Bool) (sb tb : Option Addr) (nb cb mb db : Nat) (w : World) (G : Nat) (hG : G = w.heap.size) :
    Calls Tryz.prog 5 #[.slice (some ⟨G, 0, none⟩) 2 2] (w.alloc (.cells #[.bool ga, .slice sa na ca, .slice ta ma da, .bool gb, .slice sb nb cb, .slice tb mb db] 27)) fun e w' =>
      e = .returned (.bool (decide ((na ≤ 12 ∧ ma ≤ 12) ∧ nb ≤ 12 ∧ mb ≤ 12))) ∧ w.grownBy w' none := by
  subst hG
  have := small3_any w.heap.size 2 [((sa, na, ca), (ta, ma, da)), ((sb, nb, cb), (tb, mb, db))] (w.alloc (.cells #[.bool ga, .slice sa na ca, .slice ta ma da, .bool gb, .slice sb nb cb, .slice tb mb db] 27)) (by simp) (fun j hj => by
    match j, hj with
    | 0, _ => simp
    | 1, _ => simp)
  refine this.mono fun e w' ⟨h1, h2⟩ => ⟨by simpa using h1, h2 ▸ World.grownBy_alloc w _ none⟩


set_option maxRecDepth 20000 in
set_option maxHeartbeats 4000000 in
theorem ratRight_f1 {w : World} {g1 : Bool} {p1 q1 : Option Addr} {n1 c1 m1 d1 : Nat} (H1 : ∀ W, w.grownBy W none → Calls Tryz.prog 30 #[.agg #[.bool g1, .slice p1 n1 c1]] W fun e w' => e = .returned (.bool false) ∧ W.grownBy w' none) :
    Calls Tryz.prog 7 #[.agg #[.bool g1, .slice p1 n1 c1, .slice q1 m1 d1]] w fun e w' => e = .returned (.bool false) ∧ w.grownBy w' none := by
  have HH1 := hid H1
  clear H1
  have hW := (World.grownBy_alloc w (.cells #[.bool g1, .slice p1 n1 c1, .slice q1 m1 d1] 27) none)
  have bx0 : (w.alloc (.cells #[.bool g1, .slice p1 n1 c1, .slice q1 m1 d1] 27)).heap[w.heap.size]? = some (.cells #[.bool g1, .slice p1 n1 c1, .slice q1 m1 d1] 27 (0, 0)) := by
    have := heap_alloc_new w (.cells #[.bool g1, .slice p1 n1 c1, .slice q1 m1 d1] 27)
    simpa using this
  obtain ⟨x0, x1, x2, _, _, _⟩ := ratbox_facts bx0
  clear bx0
  skip
  go_enter Tryz.func7, Tryz.ntmps7
  go_wp2_with fail
  generalize (w.alloc (.cells #[.bool g1, .slice p1 n1 c1, .slice q1 m1 d1] 27)) = w0 at *
  refine (wholeS_any _ _ _).mono ?_
  rintro ee v1 ⟨rfl, hg⟩
  replace x0 := hg.cell x0 (by simp); replace x1 := hg.cell x1 (by simp); replace x2 := hg.cell x2 (by simp); replace hW := grown_trans hW hg
  clear hg
  have hg := World.grownBy_alloc v1 (.cells #[.bool false, .slice q1 m1 d1] 25) none
  have hb := heap_alloc_new v1 (.cells #[.bool false, .slice q1 m1 d1] 25)
  replace x0 := hg.cell x0 (by simp); replace x1 := hg.cell x1 (by simp); replace x2 := hg.cell x2 (by simp); replace hW := grown_trans hW hg
  obtain ⟨z0, z1, _, _⟩ := intbox_facts hb
  clear hg hb
  go_wp2_with fail
  generalize v1.alloc (.cells #[.bool false, .slice q1 m1 d1] 25) = u1 at *
  generalize v1.heap.size = K1 at *
  refine (HH1.out _ hW).mono ?_
  rintro ee v2 ⟨rfl, hg⟩
  replace x0 := hg.cell x0 (by simp); replace x1 := hg.cell x1 (by simp); replace x2 := hg.cell x2 (by simp); replace z0 := hg.cell z0 (by simp)
  replace z1 := hg.cell z1 (by simp); replace hW := grown_trans hW hg
  clear hg
  go_wp2_with fail
  go_ret
  exact ⟨rfl, hW⟩

set_option maxRecDepth 20000 in
set_option maxHeartbeats 4000000 in
theorem ratRight_f2 {w : World} {g1 : Bool} {p1 q1 : Option Addr} {n1 c1 m1 d1 : Nat} (H1 : ∀ W, w.grownBy W none → Calls Tryz.prog 30 #[.agg #[.bool g1, .slice p1 n1 c1]] W fun e w' => e = .returned (.bool true) ∧ W.grownBy w' none) (H2 : ∀ W, w.grownBy W none → Calls Tryz.prog 30 #[.agg #[.bool false, .slice q1 m1 d1]] W fun e w' => e = .returned (.bool false) ∧ W.grownBy w' none) :
    Calls Tryz.prog 7 #[.agg #[.bool g1, .slice p1 n1 c1, .slice q1 m1 d1]] w fun e w' => e = .returned (.bool false) ∧ w.grownBy w' none := by
  have HH1 := hid H1
  have HH2 := hid H2
  clear H1 H2
  have hW := (World.grownBy_alloc w (.cells #[.bool g1, .slice p1 n1 c1, .slice q1 m1 d1] 27) none)
  have bx0 : (w.alloc (.cells #[.bool g1, .slice p1 n1 c1, .slice q1 m1 d1] 27)).heap[w.heap.size]? = some (.cells #[.bool g1, .slice p1 n1 c1, .slice q1 m1 d1] 27 (0, 0)) := by
    have := heap_alloc_new w (.cells #[.bool g1, .slice p1 n1 c1, .slice q1 m1 d1] 27)
    simpa using this
  obtain ⟨x0, x1, x2, _, _, _⟩ := ratbox_facts bx0
  clear bx0
  skip
  go_enter Tryz.func7, Tryz.ntmps7
  go_wp2_with fail
  generalize (w.alloc (.cells #[.bool g1, .slice p1 n1 c1, .slice q1 m1 d1] 27)) = w0 at *
  refine (wholeS_any _ _ _).mono ?_
  rintro ee v1 ⟨rfl, hg⟩
  replace x0 := hg.cell x0 (by simp); replace x1 := hg.cell x1 (by simp); replace x2 := hg.cell x2 (by simp); replace hW := grown_trans hW hg
  clear hg
  have hg := World.grownBy_alloc v1 (.cells #[.bool false, .slice q1 m1 d1] 25) none
  have hb := heap_alloc_new v1 (.cells #[.bool false, .slice q1 m1 d1] 25)
  replace x0 := hg.cell x0 (by simp); replace x1 := hg.cell x1 (by simp); replace x2 := hg.cell x2 (by simp); replace hW := grown_trans hW hg
  obtain ⟨z0, z1, _, _⟩ := intbox_facts hb
  clear hg hb
  go_wp2_with fail
  generalize v1.alloc (.cells #[.bool false, .slice q1 m1 d1] 25) = u1 at *
  generalize v1.heap.size = K1 at *
  refine (HH1.out _ hW).mono ?_
  rintro ee v2 ⟨rfl, hg⟩
  replace x0 := hg.cell x0 (by simp); replace x1 := hg.cell x1 (by simp); replace x2 := hg.cell x2 (by simp); replace z0 := hg.cell z0 (by simp)
  replace z1 := hg.cell z1 (by simp); replace hW := grown_trans hW hg
  clear hg
  go_wp2_with fail
  refine (HH2.out _ hW).mono ?_
  rintro ee v3 ⟨rfl, hg⟩
  replace x0 := hg.cell x0 (by simp); replace x1 := hg.cell x1 (by simp); replace x2 := hg.cell x2 (by simp); replace z0 := hg.cell z0 (by simp)
  replace z1 := hg.cell z1 (by simp); replace hW := grown_trans hW hg
  clear hg
  go_wp2_with fail
  go_ret
  exact ⟨rfl, hW⟩

set_option maxRecDepth 20000 in
set_option maxHeartbeats 4000000 in
theorem ratRight_f3 {w : World} {g1 : Bool} {p1 q1 : Option Addr} {n1 c1 m1 d1 : Nat} (H1 : ∀ W, w.grownBy W none → Calls Tryz.prog 30 #[.agg #[.bool g1, .slice p1 n1 c1]] W fun e w' => e = .returned (.bool true) ∧ W.grownBy w' none) (H2 : ∀ W, w.grownBy W none → Calls Tryz.prog 30 #[.agg #[.bool false, .slice q1 m1 d1]] W fun e w' => e = .returned (.bool true) ∧ W.grownBy w' none) (hE : IsN w q1 m1 d1 0) (hm1 : m1 ≤ 9000) :
    Calls Tryz.prog 7 #[.agg #[.bool g1, .slice p1 n1 c1, .slice q1 m1 d1]] w fun e w' => e = .returned (.bool false) ∧ w.grownBy w' none := by
  have HH1 := hid H1
  have HH2 := hid H2
  have HS := hid (show cmpI ((0 : Nat) : Int) 0 = 0 by decide)
  clear H1 H2
  have hW := (World.grownBy_alloc w (.cells #[.bool g1, .slice p1 n1 c1, .slice q1 m1 d1] 27) none)
  have bx0 : (w.alloc (.cells #[.bool g1, .slice p1 n1 c1, .slice q1 m1 d1] 27)).heap[w.heap.size]? = some (.cells #[.bool g1, .slice p1 n1 c1, .slice q1 m1 d1] 27 (0, 0)) := by
    have := heap_alloc_new w (.cells #[.bool g1, .slice p1 n1 c1, .slice q1 m1 d1] 27)
    simpa using this
  obtain ⟨x0, x1, x2, _, _, _⟩ := ratbox_facts bx0
  clear bx0
  replace hE := hE.keep hW
  go_enter Tryz.func7, Tryz.ntmps7
  go_wp2_with fail
  generalize (w.alloc (.cells #[.bool g1, .slice p1 n1 c1, .slice q1 m1 d1] 27)) = w0 at *
  refine (wholeS_any _ _ _).mono ?_
  rintro ee v1 ⟨rfl, hg⟩
  replace hE := hE.keep hg; replace x0 := hg.cell x0 (by simp); replace x1 := hg.cell x1 (by simp); replace x2 := hg.cell x2 (by simp)
  replace hW := grown_trans hW hg
  clear hg
  have hg := World.grownBy_alloc v1 (.cells #[.bool false, .slice q1 m1 d1] 25) none
  have hb := heap_alloc_new v1 (.cells #[.bool false, .slice q1 m1 d1] 25)
  replace hE := hE.keep hg; replace x0 := hg.cell x0 (by simp); replace x1 := hg.cell x1 (by simp); replace x2 := hg.cell x2 (by simp)
  replace hW := grown_trans hW hg
  obtain ⟨z0, z1, _, _⟩ := intbox_facts hb
  clear hg hb
  go_wp2_with fail
  generalize v1.alloc (.cells #[.bool false, .slice q1 m1 d1] 25) = u1 at *
  generalize v1.heap.size = K1 at *
  refine (HH1.out _ hW).mono ?_
  rintro ee v2 ⟨rfl, hg⟩
  replace hE := hE.keep hg; replace x0 := hg.cell x0 (by simp); replace x1 := hg.cell x1 (by simp); replace x2 := hg.cell x2 (by simp)
  replace z0 := hg.cell z0 (by simp); replace z1 := hg.cell z1 (by simp); replace hW := grown_trans hW hg
  clear hg
  go_wp2_with fail
  refine (HH2.out _ hW).mono ?_
  rintro ee v3 ⟨rfl, hg⟩
  replace hE := hE.keep hg; replace x0 := hg.cell x0 (by simp); replace x1 := hg.cell x1 (by simp); replace x2 := hg.cell x2 (by simp)
  replace z0 := hg.cell z0 (by simp); replace z1 := hg.cell z1 (by simp); replace hW := grown_trans hW hg
  clear hg
  go_wp2_with fail
  refine (intSign_any (IsZ.of_n hE) (by omega)).mono ?_
  rintro ee v4 ⟨rfl, hg⟩
  rw [HS.out]
  replace hE := hE.keep hg; replace x0 := hg.cell x0 (by simp); replace x1 := hg.cell x1 (by simp); replace x2 := hg.cell x2 (by simp)
  replace z0 := hg.cell z0 (by simp); replace z1 := hg.cell z1 (by simp); replace hW := grown_trans hW hg
  clear hg
  go_wp2_with fail
  go_ret
  exact ⟨rfl, hW⟩

set_option maxRecDepth 20000 in
set_option maxHeartbeats 4000000 in
theorem ratRight_g {w : World} {g1 : Bool} {p1 q1 : Option Addr} {n1 c1 m1 d1 : Nat} {N : Int} {D : Nat} {b : Bool} (T : Tb w) (H1 : ∀ W, w.grownBy W none → Calls Tryz.prog 30 #[.agg #[.bool g1, .slice p1 n1 c1]] W fun e w' => e = .returned (.bool true) ∧ W.grownBy w' none) (H2 : ∀ W, w.grownBy W none → Calls Tryz.prog 30 #[.agg #[.bool false, .slice q1 m1 d1]] W fun e w' => e = .returned (.bool true) ∧ W.grownBy w' none) (hA : IsZ w g1 p1 n1 c1 N) (hE : IsN w q1 m1 d1 D) (hD : 0 < D) (hb : b = decide (Nat.gcd N.natAbs D = 1)) (hn1 : n1 ≤ 9000) (hm1 : m1 ≤ 9000) :
    Calls Tryz.prog 7 #[.agg #[.bool g1, .slice p1 n1 c1, .slice q1 m1 d1]] w fun e w' => e = .returned (.bool b) ∧ w.grownBy w' none := by
  have HH1 := hid H1
  have HH2 := hid H2
  have HT := hid T
  have HB := hid hb
  have HS := hid (show cmpI (D : Int) 0 = 1 by unfold cmpI; rw [if_neg (by omega), if_pos (by omega)])
  clear H1 H2 T hb
  have hW := (World.grownBy_alloc w (.cells #[.bool g1, .slice p1 n1 c1, .slice q1 m1 d1] 27) none)
  have bx0 : (w.alloc (.cells #[.bool g1, .slice p1 n1 c1, .slice q1 m1 d1] 27)).heap[w.heap.size]? = some (.cells #[.bool g1, .slice p1 n1 c1, .slice q1 m1 d1] 27 (0, 0)) := by
    have := heap_alloc_new w (.cells #[.bool g1, .slice p1 n1 c1, .slice q1 m1 d1] 27)
    simpa using this
  obtain ⟨x0, x1, x2, _, _, _⟩ := ratbox_facts bx0
  clear bx0
  replace hA := hA.keep hW; replace hE := hE.keep hW
  go_enter Tryz.func7, Tryz.ntmps7
  go_wp2_with fail
  generalize (w.alloc (.cells #[.bool g1, .slice p1 n1 c1, .slice q1 m1 d1] 27)) = w0 at *
  refine (wholeS_any _ _ _).mono ?_
  rintro ee v1 ⟨rfl, hg⟩
  replace hA := hA.keep hg; replace hE := hE.keep hg; replace x0 := hg.cell x0 (by simp); replace x1 := hg.cell x1 (by simp)
  replace x2 := hg.cell x2 (by simp); replace hW := grown_trans hW hg
  clear hg
  have hg := World.grownBy_alloc v1 (.cells #[.bool false, .slice q1 m1 d1] 25) none
  have hb := heap_alloc_new v1 (.cells #[.bool false, .slice q1 m1 d1] 25)
  replace hA := hA.keep hg; replace hE := hE.keep hg; replace x0 := hg.cell x0 (by simp); replace x1 := hg.cell x1 (by simp)
  replace x2 := hg.cell x2 (by simp); replace hW := grown_trans hW hg
  obtain ⟨z0, z1, _, _⟩ := intbox_facts hb
  clear hg hb
  go_wp2_with fail
  generalize v1.alloc (.cells #[.bool false, .slice q1 m1 d1] 25) = u1 at *
  generalize v1.heap.size = K1 at *
  refine (HH1.out _ hW).mono ?_
  rintro ee v2 ⟨rfl, hg⟩
  replace hA := hA.keep hg; replace hE := hE.keep hg; replace x0 := hg.cell x0 (by simp); replace x1 := hg.cell x1 (by simp)
  replace x2 := hg.cell x2 (by simp); replace z0 := hg.cell z0 (by simp); replace z1 := hg.cell z1 (by simp); replace hW := grown_trans hW hg
  clear hg
  go_wp2_with fail
  refine (HH2.out _ hW).mono ?_
  rintro ee v3 ⟨rfl, hg⟩
  replace hA := hA.keep hg; replace hE := hE.keep hg; replace x0 := hg.cell x0 (by simp); replace x1 := hg.cell x1 (by simp)
  replace x2 := hg.cell x2 (by simp); replace z0 := hg.cell z0 (by simp); replace z1 := hg.cell z1 (by simp); replace hW := grown_trans hW hg
  clear hg
  go_wp2_with fail
  refine (intSign_any (IsZ.of_n hE) (by omega)).mono ?_
  rintro ee v4 ⟨rfl, hg⟩
  rw [HS.out]
  replace hA := hA.keep hg; replace hE := hE.keep hg; replace x0 := hg.cell x0 (by simp); replace x1 := hg.cell x1 (by simp)
  replace x2 := hg.cell x2 (by simp); replace z0 := hg.cell z0 (by simp); replace z1 := hg.cell z1 (by simp); replace hW := grown_trans hW hg
  clear hg
  go_wp2_with fail
  refine (intGcd_any (HT.out.keep hW) hA.1 hE (by omega) (by omega)).mono ?_
  rintro ee v5 ⟨p3, n3, c3, rfl, hX, hn3, hg⟩
  replace hA := hA.keep hg; replace hE := hE.keep hg; replace x0 := hg.cell x0 (by simp); replace x1 := hg.cell x1 (by simp)
  replace x2 := hg.cell x2 (by simp); replace z0 := hg.cell z0 (by simp); replace z1 := hg.cell z1 (by simp); replace hW := grown_trans hW hg
  clear hg
  go_wp2_with fail
  refine (isOne_any hX.isN).mono ?_
  rintro ee v6 ⟨rfl, hg⟩
  rw [← HB.out]
  replace hA := hA.keep hg; replace hE := hE.keep hg; replace hX := hX.keep hg; replace x0 := hg.cell x0 (by simp)
  replace x1 := hg.cell x1 (by simp); replace x2 := hg.cell x2 (by simp); replace z0 := hg.cell z0 (by simp); replace z1 := hg.cell z1 (by simp)
  replace hW := grown_trans hW hg
  clear hg
  go_wp2_with fail
  go_ret
  exact ⟨rfl, hW⟩

set_option maxRecDepth 20000 in
set_option maxHeartbeats 4000000 in
theorem refRight_f1 {w : World} {g1 : Bool} {p1 q1 : Option Addr} {n1 c1 m1 d1 : Nat} (H1 : ∀ W, w.grownBy W none → Calls Tryz.prog 34 #[.agg #[.bool g1, .slice p1 n1 c1]] W fun e w' => e = .returned (.bool false) ∧ W.grownBy w' none) :
    Calls Tryz.prog 8 #[.agg #[.bool g1, .slice p1 n1 c1, .slice q1 m1 d1]] w fun e w' => e = .returned (.bool false) ∧ w.grownBy w' none := by
  have HH1 := hid H1
  clear H1
  have hW := (World.grownBy_alloc w (.cells #[.bool g1, .slice p1 n1 c1, .slice q1 m1 d1] 27) none)
  have bx0 : (w.alloc (.cells #[.bool g1, .slice p1 n1 c1, .slice q1 m1 d1] 27)).heap[w.heap.size]? = some (.cells #[.bool g1, .slice p1 n1 c1, .slice q1 m1 d1] 27 (0, 0)) := by
    have := heap_alloc_new w (.cells #[.bool g1, .slice p1 n1 c1, .slice q1 m1 d1] 27)
    simpa using this
  obtain ⟨x0, x1, x2, _, _, _⟩ := ratbox_facts bx0
  clear bx0
  skip
  go_enter Tryz.func8, Tryz.ntmps8
  go_wp2_with fail
  generalize (w.alloc (.cells #[.bool g1, .slice p1 n1 c1, .slice q1 m1 d1] 27)) = w0 at *
  refine (HH1.out _ hW).mono ?_
  rintro ee v1 ⟨rfl, hg⟩
  replace x0 := hg.cell x0 (by simp); replace x1 := hg.cell x1 (by simp); replace x2 := hg.cell x2 (by simp); replace hW := grown_trans hW hg
  clear hg
  go_wp2_with fail
  go_ret
  exact ⟨rfl, hW⟩

set_option maxRecDepth 20000 in
set_option maxHeartbeats 4000000 in
theorem refRight_f2 {w : World} {g1 : Bool} {p1 q1 : Option Addr} {n1 c1 m1 d1 : Nat} (H1 : ∀ W, w.grownBy W none → Calls Tryz.prog 34 #[.agg #[.bool g1, .slice p1 n1 c1]] W fun e w' => e = .returned (.bool true) ∧ W.grownBy w' none) (H2 : ∀ W, w.grownBy W none → Calls Tryz.prog 35 #[.slice q1 m1 d1] W fun e w' => e = .returned (.bool false) ∧ W.grownBy w' none) :
    Calls Tryz.prog 8 #[.agg #[.bool g1, .slice p1 n1 c1, .slice q1 m1 d1]] w fun e w' => e = .returned (.bool false) ∧ w.grownBy w' none := by
  have HH1 := hid H1
  have HH2 := hid H2
  clear H1 H2
  have hW := (World.grownBy_alloc w (.cells #[.bool g1, .slice p1 n1 c1, .slice q1 m1 d1] 27) none)
  have bx0 : (w.alloc (.cells #[.bool g1, .slice p1 n1 c1, .slice q1 m1 d1] 27)).heap[w.heap.size]? = some (.cells #[.bool g1, .slice p1 n1 c1, .slice q1 m1 d1] 27 (0, 0)) := by
    have := heap_alloc_new w (.cells #[.bool g1, .slice p1 n1 c1, .slice q1 m1 d1] 27)
    simpa using this
  obtain ⟨x0, x1, x2, _, _, _⟩ := ratbox_facts bx0
  clear bx0
  skip
  go_enter Tryz.func8, Tryz.ntmps8
  go_wp2_with fail
  generalize (w.alloc (.cells #[.bool g1, .slice p1 n1 c1, .slice q1 m1 d1] 27)) = w0 at *
  refine (HH1.out _ hW).mono ?_
  rintro ee v1 ⟨rfl, hg⟩
  replace x0 := hg.cell x0 (by simp); replace x1 := hg.cell x1 (by simp); replace x2 := hg.cell x2 (by simp); replace hW := grown_trans hW hg
  clear hg
  go_wp2_with fail
  refine (HH2.out _ hW).mono ?_
  rintro ee v2 ⟨rfl, hg⟩
  replace x0 := hg.cell x0 (by simp); replace x1 := hg.cell x1 (by simp); replace x2 := hg.cell x2 (by simp); replace hW := grown_trans hW hg
  clear hg
  go_wp2_with fail
  go_ret
  exact ⟨rfl, hW⟩

set_option maxRecDepth 20000 in
set_option maxHeartbeats 4000000 in
theorem refRight_f3 {w : World} {g1 : Bool} {p1 q1 : Option Addr} {n1 c1 d1 : Nat} {N : Int} {b : Bool} (H1 : ∀ W, w.grownBy W none → Calls Tryz.prog 34 #[.agg #[.bool g1, .slice p1 n1 c1]] W fun e w' => e = .returned (.bool true) ∧ W.grownBy w' none) (H2 : ∀ W, w.grownBy W none → Calls Tryz.prog 35 #[.slice q1 0 d1] W fun e w' => e = .returned (.bool true) ∧ W.grownBy w' none) (hA : IsZ w g1 p1 n1 c1 N) (hE : IsN w q1 0 d1 0) (hb : decide (Nat.gcd N.natAbs 0 = 1) = b) (hn1 : n1 ≤ 9000) :
    Calls Tryz.prog 8 #[.agg #[.bool g1, .slice p1 n1 c1, .slice q1 0 d1]] w fun e w' => e = .returned (.bool false) ∧ w.grownBy w' none := by
  have HH1 := hid H1
  have HH2 := hid H2
  have HB := hid hb
  clear H1 H2 hb
  cases b
  all_goals
    have hW := (World.grownBy_alloc w (.cells #[.bool g1, .slice p1 n1 c1, .slice q1 0 d1] 27) none)
    have bx0 : (w.alloc (.cells #[.bool g1, .slice p1 n1 c1, .slice q1 0 d1] 27)).heap[w.heap.size]? = some (.cells #[.bool g1, .slice p1 n1 c1, .slice q1 0 d1] 27 (0, 0)) := by
      have := heap_alloc_new w (.cells #[.bool g1, .slice p1 n1 c1, .slice q1 0 d1] 27)
      simpa using this
    obtain ⟨x0, x1, x2, _, _, _⟩ := ratbox_facts bx0
    clear bx0
    replace hA := hA.keep hW; replace hE := hE.keep hW
    go_enter Tryz.func8, Tryz.ntmps8
    go_wp2_with fail
    generalize (w.alloc (.cells #[.bool g1, .slice p1 n1 c1, .slice q1 0 d1] 27)) = w0 at *
    refine (HH1.out _ hW).mono ?_
    rintro ee v1 ⟨rfl, hg⟩
    replace hA := hA.keep hg; replace hE := hE.keep hg; replace x0 := hg.cell x0 (by simp); replace x1 := hg.cell x1 (by simp)
    replace x2 := hg.cell x2 (by simp); replace hW := grown_trans hW hg
    clear hg
    go_wp2_with fail
    refine (HH2.out _ hW).mono ?_
    rintro ee v2 ⟨rfl, hg⟩
    replace hA := hA.keep hg; replace hE := hE.keep hg; replace x0 := hg.cell x0 (by simp); replace x1 := hg.cell x1 (by simp)
    replace x2 := hg.cell x2 (by simp); replace hW := grown_trans hW hg
    clear hg
    go_wp2_with fail
    refine (refGcd_n hA.1 hE (by omega) (by omega)).mono ?_
    rintro ee v3 ⟨p3, n3, c3, rfl, hX, hn3, hg⟩
    replace hA := hA.keep hg; replace hE := hE.keep hg; replace x0 := hg.cell x0 (by simp); replace x1 := hg.cell x1 (by simp)
    replace x2 := hg.cell x2 (by simp); replace hW := grown_trans hW hg
    clear hg
    go_wp2_with fail
    refine (refOf_c 1 (by unfold W64; omega) _).mono ?_
    rintro ee v4 ⟨p4, n4, c4, rfl, hY, hn4, hg⟩
    replace hA := hA.keep hg; replace hE := hE.keep hg; replace hX := hX.keep hg; replace x0 := hg.cell x0 (by simp)
    replace x1 := hg.cell x1 (by simp); replace x2 := hg.cell x2 (by simp); replace hW := grown_trans hW hg
    clear hg
    go_wp2_with fail
    refine (same_d hX hY).mono ?_
    rintro ee v5 ⟨rfl, hg⟩
    rw [HB.out]
    replace hA := hA.keep hg; replace hE := hE.keep hg; replace hX := hX.keep hg; replace hY := hY.keep hg
    replace x0 := hg.cell x0 (by simp); replace x1 := hg.cell x1 (by simp); replace x2 := hg.cell x2 (by simp); replace hW := grown_trans hW hg
    clear hg
    go_wp2_with fail
    go_ret
    exact ⟨rfl, hW⟩

set_option maxRecDepth 20000 in
set_option maxHeartbeats 4000000 in
theorem refRight_g {w : World} {g1 : Bool} {p1 q1 : Option Addr} {n1 c1 m1 d1 : Nat} {N : Int} {D : Nat} {b : Bool} (H1 : ∀ W, w.grownBy W none → Calls Tryz.prog 34 #[.agg #[.bool g1, .slice p1 n1 c1]] W fun e w' => e = .returned (.bool true) ∧ W.grownBy w' none) (H2 : ∀ W, w.grownBy W none → Calls Tryz.prog 35 #[.slice q1 m1 d1] W fun e w' => e = .returned (.bool true) ∧ W.grownBy w' none) (hA : IsZ w g1 p1 n1 c1 N) (hE : IsN w q1 m1 d1 D) (h0 : 0 < m1) (hb : decide (Nat.gcd N.natAbs D = 1) = b) (hn1 : n1 ≤ 9000) (hm1 : m1 ≤ 9000) :
    Calls Tryz.prog 8 #[.agg #[.bool g1, .slice p1 n1 c1, .slice q1 m1 d1]] w fun e w' => e = .returned (.bool b) ∧ w.grownBy w' none := by
  have HH1 := hid H1
  have HH2 := hid H2
  have HB := hid hb
  have h1 : (0 : Int) < (m1 : Int) := by omega
  clear H1 H2 hb
  cases b
  all_goals
    have hW := (World.grownBy_alloc w (.cells #[.bool g1, .slice p1 n1 c1, .slice q1 m1 d1] 27) none)
    have bx0 : (w.alloc (.cells #[.bool g1, .slice p1 n1 c1, .slice q1 m1 d1] 27)).heap[w.heap.size]? = some (.cells #[.bool g1, .slice p1 n1 c1, .slice q1 m1 d1] 27 (0, 0)) := by
      have := heap_alloc_new w (.cells #[.bool g1, .slice p1 n1 c1, .slice q1 m1 d1] 27)
      simpa using this
    obtain ⟨x0, x1, x2, _, _, _⟩ := ratbox_facts bx0
    clear bx0
    replace hA := hA.keep hW; replace hE := hE.keep hW
    go_enter Tryz.func8, Tryz.ntmps8
    go_wp2_with fail
    generalize (w.alloc (.cells #[.bool g1, .slice p1 n1 c1, .slice q1 m1 d1] 27)) = w0 at *
    refine (HH1.out _ hW).mono ?_
    rintro ee v1 ⟨rfl, hg⟩
    replace hA := hA.keep hg; replace hE := hE.keep hg; replace x0 := hg.cell x0 (by simp); replace x1 := hg.cell x1 (by simp)
    replace x2 := hg.cell x2 (by simp); replace hW := grown_trans hW hg
    clear hg
    go_wp2_with fail
    refine (HH2.out _ hW).mono ?_
    rintro ee v2 ⟨rfl, hg⟩
    replace hA := hA.keep hg; replace hE := hE.keep hg; replace x0 := hg.cell x0 (by simp); replace x1 := hg.cell x1 (by simp)
    replace x2 := hg.cell x2 (by simp); replace hW := grown_trans hW hg
    clear hg
    go_wp2_with fail
    refine (refGcd_n hA.1 hE (by omega) (by omega)).mono ?_
    rintro ee v3 ⟨p3, n3, c3, rfl, hX, hn3, hg⟩
    replace hA := hA.keep hg; replace hE := hE.keep hg; replace x0 := hg.cell x0 (by simp); replace x1 := hg.cell x1 (by simp)
    replace x2 := hg.cell x2 (by simp); replace hW := grown_trans hW hg
    clear hg
    go_wp2_with fail
    refine (refOf_c 1 (by unfold W64; omega) _).mono ?_
    rintro ee v4 ⟨p4, n4, c4, rfl, hY, hn4, hg⟩
    replace hA := hA.keep hg; replace hE := hE.keep hg; replace hX := hX.keep hg; replace x0 := hg.cell x0 (by simp)
    replace x1 := hg.cell x1 (by simp); replace x2 := hg.cell x2 (by simp); replace hW := grown_trans hW hg
    clear hg
    go_wp2_with fail
    refine (same_d hX hY).mono ?_
    rintro ee v5 ⟨rfl, hg⟩
    rw [HB.out]
    replace hA := hA.keep hg; replace hE := hE.keep hg; replace hX := hX.keep hg; replace hY := hY.keep hg
    replace x0 := hg.cell x0 (by simp); replace x1 := hg.cell x1 (by simp); replace x2 := hg.cell x2 (by simp); replace hW := grown_trans hW hg
    clear hg
    go_wp2_with fail
    go_ret
    exact ⟨rfl, hW⟩

theorem right3_both {w : World} (T : Tb w) (g : Bool) {a b : Option Addr} {n c m d : Nat} {xs ys : List Nat} (hr0 : IRd w .u16 a n c xs) (hx : Dg 65536 xs) (hr1 : IRd w .u16 b m d ys) (hy : Dg 65536 ys) (hn : n ≤ 9000) (hm : m ≤ 9000) :
    ∃ r : Bool, (∀ W, w.grownBy W none → Calls Tryz.prog 7 #[.agg #[.bool g, .slice a n c, .slice b m d]] W fun e w' => e = .returned (.bool r) ∧ W.grownBy w' none) ∧
      (∀ W, w.grownBy W none → Calls Tryz.prog 8 #[.agg #[.bool g, .slice a n c, .slice b m d]] W fun e w' => e = .returned (.bool r) ∧ W.grownBy w' none) := by
  obtain ⟨vN, N1, N2⟩ := right_both g hr0
  obtain ⟨vD, D1, D2, DP⟩ := valid_both hr1 hy
  have hA := IsZ.of g hr0 hx
  have hE := IsN.of hr1 hy
  cases vN
  · exact ⟨false, fun W hW => ratRight_f1 (fun W' h => N1 W' (grown_trans hW h)), fun W hW => refRight_f1 (fun W' h => N2 W' (grown_trans hW h))⟩
  cases vD
  · exact ⟨false, fun W hW => ratRight_f2 (fun W' h => N1 W' (grown_trans hW h)) (fun W' h => D1 W' (grown_trans hW h)), fun W hW => refRight_f2 (fun W' h => N2 W' (grown_trans hW h)) (fun W' h => D2 W' (grown_trans hW h))⟩
  by_cases h0 : m = 0
  · subst h0
    have hz : ys = [] := List.eq_nil_of_length_eq_zero hr1.len
    subst hz
    exact ⟨false, fun W hW => ratRight_f3 (fun W' h => N1 W' (grown_trans hW h)) (fun W' h => D1 W' (grown_trans hW h)) (hE.keep hW) (by omega),
      fun W hW => refRight_f3 (fun W' h => N2 W' (grown_trans hW h)) (fun W' h => D2 W' (grown_trans hW h)) (hA.keep hW) (hE.keep hW) rfl hn⟩
  · exact ⟨_, fun W hW => ratRight_g (T.keep hW) (fun W' h => N1 W' (grown_trans hW h)) (fun W' h => D1 W' (grown_trans hW h)) (hA.keep hW) (hE.keep hW) (DP rfl (by omega)) rfl hn hm,
      fun W hW => refRight_g (fun W' h => N2 W' (grown_trans hW h)) (fun W' h => D2 W' (grown_trans hW h)) (hA.keep hW) (hE.keep hW) (by omega) rfl hn hm⟩

set_option maxRecDepth 100000 in
set_option maxHeartbeats 16000000 in
theorem rationalForms_walk (ga : Bool) (sa ta : Option Addr) (na ca ma da : Nat) (gb : Bool) (sb tb : Option Addr) (nb cb mb db : Nat) (A B : Rat) (w : World) (T : Tb w) (ha : IsQ w ga sa na ca ta ma da A) (hb : IsQ w gb sb nb cb tb mb db B) (HR : Hid (na ≤ 12 → ma ≤ 12 → ∃ r : Bool, (∀ W, w.grownBy W none → Calls Tryz.prog 7 #[.agg #[.bool ga, .slice sa na ca, .slice ta ma da]] W fun e w' => e = .returned (.bool r) ∧ W.grownBy w' none) ∧ (∀ W, w.grownBy W none → Calls Tryz.prog 8 #[.agg #[.bool ga, .slice sa na ca, .slice ta ma da]] W fun e w' => e = .returned (.bool r) ∧ W.grownBy w' none))) :
    Calls Tryz.prog 3 #[.agg #[.bool ga, .slice sa na ca, .slice ta ma da], .agg #[.bool gb, .slice sb nb cb, .slice tb mb db]] w fun e w' => e = .returned (.bool true) ∧ w.grownBy w' none := by
  have hW3 := (grown_trans (World.grownBy_alloc w (.cells #[.bool ga, .slice sa na ca, .slice ta ma da] 27) none) (World.grownBy_alloc _ (.cells #[.bool gb, .slice sb nb cb, .slice tb mb db] 27) none))
  have HS := small3_two ga sa ta na ca ma da gb sb tb nb cb mb db ((w.alloc (.cells #[.bool ga, .slice sa na ca, .slice ta ma da] 27)).alloc (.cells #[.bool gb, .slice sb nb cb, .slice tb mb db] 27)) (w.heap.size + 1 + 1) (by simp)
  have HT := hid T
  clear T
  by_cases h12 : (na ≤ 12 ∧ ma ≤ 12) ∧ nb ≤ 12 ∧ mb ≤ 12
  · rw [decide_eq_true h12] at HS
    replace HS := hid HS
    obtain ⟨⟨hna, hma⟩, hnb, hmb⟩ := h12
    go_enter Tryz.func3, Tryz.ntmps3
    go_wp2_with fail
    refine HS.out.mono ?_
    rintro e w0 ⟨rfl, hg⟩
    have xa0 : w0.cell? ⟨w.heap.size, 0, none⟩ = some (.bool ga) := hg.cell (by simp [go_sem, World.cell?_alloc_past]) (by simp)
    have xa1 : w0.cell? ⟨w.heap.size, 1, none⟩ = some (.slice sa na ca) := hg.cell (by simp [go_sem, World.cell?_alloc_past]) (by simp)
    have xa2 : w0.cell? ⟨w.heap.size, 2, none⟩ = some (.slice ta ma da) := hg.cell (by simp [go_sem, World.cell?_alloc_past]) (by simp)
    have xb0 : w0.cell? ⟨w.heap.size + 1, 0, none⟩ = some (.bool gb) := hg.cell (by simp [go_sem, World.cell?_alloc_past]) (by simp)
    have xb1 : w0.cell? ⟨w.heap.size + 1, 1, none⟩ = some (.slice sb nb cb) := hg.cell (by simp [go_sem, World.cell?_alloc_past]) (by simp)
    have xb2 : w0.cell? ⟨w.heap.size + 1, 2, none⟩ = some (.slice tb mb db) := hg.cell (by simp [go_sem, World.cell?_alloc_past]) (by simp)
    have hz0 := hg.size; simp at hz0
    replace hg := grown_trans hW3 hg
    replace ha := ha.keep hg; replace hb := hb.keep hg
    have hW := hg
    clear hg HS hW3
    obtain ⟨r, R1, R2⟩ := HR.out hna hma
    replace R1 := hid R1
    replace R2 := hid R2
    go_wp2_with fail
    have hg := grown_drew w0 none
    replace ha := ha.keep hg; replace hb := hb.keep hg; replace xa0 := hg.cell xa0 (by simp); replace xa1 := hg.cell xa1 (by simp); replace xa2 := hg.cell xa2 (by simp); replace xb0 := hg.cell xb0 (by simp); replace xb1 := hg.cell xb1 (by simp); replace xb2 := hg.cell xb2 (by simp); replace hW := grown_trans hW hg
    clear hg
    go_region_held3 (fun w' => w'.cell? ⟨w.heap.size, 0, none⟩ = some (.bool ga) ∧ w'.cell? ⟨w.heap.size, 1, none⟩ = some (.slice sa na ca) ∧ w'.cell? ⟨w.heap.size, 2, none⟩ = some (.slice ta ma da) ∧ w'.cell? ⟨w.heap.size + 1, 0, none⟩ = some (.bool gb) ∧ w'.cell? ⟨w.heap.size + 1, 1, none⟩ = some (.slice sb nb cb) ∧ w'.cell? ⟨w.heap.size + 1, 2, none⟩ = some (.slice tb mb db)) ((try go_split_ands) <;> (repeat' apply And.intro) <;> (repeat (first | (with_reducible assumption) | (with_reducible refine (grown_setCell _ _ _).cell ?_ (by simp; omega)) | (with_reducible refine (World.grownBy_alloc _ _ none).cell ?_ (by simp)) | (with_reducible refine (grown_drew _ none).cell ?_ (by simp)))))
      (first
        | (go_at_call 7; (with_reducible refine (R1.out _ hW).mono ?_); rintro e w1 ⟨rfl, hg⟩; replace ha := ha.keep hg; replace hb := hb.keep hg; replace xa0 := hg.cell xa0 (by simp); replace xa1 := hg.cell xa1 (by simp); replace xa2 := hg.cell xa2 (by simp); replace xb0 := hg.cell xb0 (by simp); replace xb1 := hg.cell xb1 (by simp); replace xb2 := hg.cell xb2 (by simp); replace hW := grown_trans hW hg; clear hg)
        | (go_at_call 8; (with_reducible refine (R2.out _ hW).mono ?_); rintro e w2 ⟨rfl, hg⟩; replace ha := ha.keep hg; replace hb := hb.keep hg; replace xa0 := hg.cell xa0 (by simp); replace xa1 := hg.cell xa1 (by simp); replace xa2 := hg.cell xa2 (by simp); replace xb0 := hg.cell xb0 (by simp); replace xb1 := hg.cell xb1 (by simp); replace xb2 := hg.cell xb2 (by simp); replace hW := grown_trans hW hg; clear hg)
        | (go_at_call 9; (with_reducible refine (ratSign_v 12 ha (by omega) (by omega) (by omega)).mono ?_); rintro e w3 ⟨rfl, hg⟩; replace ha := ha.keep hg; replace hb := hb.keep hg; replace xa0 := hg.cell xa0 (by simp); replace xa1 := hg.cell xa1 (by simp); replace xa2 := hg.cell xa2 (by simp); replace xb0 := hg.cell xb0 (by simp); replace xb1 := hg.cell xb1 (by simp); replace xb2 := hg.cell xb2 (by simp); replace hW := grown_trans hW hg; clear hg)
        | (go_at_call 10; (with_reducible refine (rSign3_v 12 ha (by omega) (by omega) (by omega)).mono ?_); rintro e w4 ⟨rfl, hg⟩; replace ha := ha.keep hg; replace hb := hb.keep hg; replace xa0 := hg.cell xa0 (by simp); replace xa1 := hg.cell xa1 (by simp); replace xa2 := hg.cell xa2 (by simp); replace xb0 := hg.cell xb0 (by simp); replace xb1 := hg.cell xb1 (by simp); replace xb2 := hg.cell xb2 (by simp); replace hW := grown_trans hW hg; clear hg)
        | (go_at_call 11; (with_reducible refine (ratCmp_v 12 ha hb (by omega) (by omega) (by omega) (by omega) (by omega)).mono ?_); rintro e w5 ⟨rfl, hg⟩; replace ha := ha.keep hg; replace hb := hb.keep hg; replace xa0 := hg.cell xa0 (by simp); replace xa1 := hg.cell xa1 (by simp); replace xa2 := hg.cell xa2 (by simp); replace xb0 := hg.cell xb0 (by simp); replace xb1 := hg.cell xb1 (by simp); replace xb2 := hg.cell xb2 (by simp); replace hW := grown_trans hW hg; clear hg)
        | (go_at_call 12; (with_reducible refine (rCmp3_v 12 ha hb (by omega) (by omega) (by omega) (by omega) (by omega)).mono ?_); rintro e w6 ⟨rfl, hg⟩; replace ha := ha.keep hg; replace hb := hb.keep hg; replace xa0 := hg.cell xa0 (by simp); replace xa1 := hg.cell xa1 (by simp); replace xa2 := hg.cell xa2 (by simp); replace xb0 := hg.cell xb0 (by simp); replace xb1 := hg.cell xb1 (by simp); replace xb2 := hg.cell xb2 (by simp); replace hW := grown_trans hW hg; clear hg)
        | (go_at_call 13; (with_reducible refine (ratEqual_v 12 ha hb (by omega) (by omega) (by omega) (by omega) (by omega)).mono ?_); rintro e w7 ⟨rfl, hg⟩; replace ha := ha.keep hg; replace hb := hb.keep hg; replace xa0 := hg.cell xa0 (by simp); replace xa1 := hg.cell xa1 (by simp); replace xa2 := hg.cell xa2 (by simp); replace xb0 := hg.cell xb0 (by simp); replace xb1 := hg.cell xb1 (by simp); replace xb2 := hg.cell xb2 (by simp); replace hW := grown_trans hW hg; clear hg)
        | (go_at_call 14; (with_reducible refine (rEqual3_v 12 ha hb (by omega) (by omega) (by omega) (by omega) (by omega)).mono ?_); rintro e w8 ⟨rfl, hg⟩; replace ha := ha.keep hg; replace hb := hb.keep hg; replace xa0 := hg.cell xa0 (by simp); replace xa1 := hg.cell xa1 (by simp); replace xa2 := hg.cell xa2 (by simp); replace xb0 := hg.cell xb0 (by simp); replace xb1 := hg.cell xb1 (by simp); replace xb2 := hg.cell xb2 (by simp); replace hW := grown_trans hW hg; clear hg)
        | (go_at_call 6; (with_reducible refine (alive3 (HT.out.keep hW)).mono ?_); rintro e w9 ⟨rfl, hg⟩; replace ha := ha.keep hg; replace hb := hb.keep hg; replace xa0 := hg.cell xa0 (by simp); replace xa1 := hg.cell xa1 (by simp); replace xa2 := hg.cell xa2 (by simp); replace xb0 := hg.cell xb0 (by simp); replace xb1 := hg.cell xb1 (by simp); replace xb2 := hg.cell xb2 (by simp); replace hW := grown_trans hW hg; clear hg))
    go_wp2_with fail
    go_ret
    exact ⟨rfl, hW⟩
  · rw [decide_eq_false h12] at HS
    replace HS := hid HS
    go_enter Tryz.func3, Tryz.ntmps3
    go_wp2_with fail
    refine HS.out.mono ?_
    rintro e w0 ⟨rfl, hg⟩
    replace hW := grown_trans hW3 hg
    go_wp2_with fail
    refine (alive3 (HT.out.keep hW)).mono ?_
    rintro e w1 ⟨rfl, hg⟩
    go_wp2_with fail
    go_ret
    exact ⟨rfl, grown_trans hW hg⟩

theorem rationalForms_door (os : Os) (args : Array Value) : laidMetH Tryz.prog [("math/bits.deBruijn64tab", Rows.laid_math_bits_deBruijn64tab)] ((World.doorLaid Tryz.prog 400 os).forCall (fun _ _ => 0) ⟨#[], args, []⟩).memory :=
  laidMetH_of_parts3 (fuel := 8) (laidMet_of_run' 8 (by kernel_rfl) (by kernel_rfl)) (by kernel_rfl) (by kernel_rfl)

set_option maxRecDepth 100000 in
theorem rationalForms_lifted (os : Os) (started : os.Started) (H : Type) (enc : TypeId × Value → H) :
    ReturnsInHanded {} Tryz.checked os 3 .any (fun w args => (Rows.rationalFormsSpec.pre enc Tryz.prog Tryz.f3 [] false w args ∧ laidMetH Tryz.prog [("math/bits.deBruijn64tab", Rows.laid_math_bits_deBruijn64tab)] w) ∧ sizedMet enc Tryz.prog Tryz.f3 (OpenSpec.ofChange Rows.rationalFormsSpec) false w args)
      (Rows.rationalFormsSpec.post enc Tryz.prog Tryz.f3 false true false false) := by
  refine returnsInHanded_of_change_and (C := Tryz.checked) (X := fun w _ => laidMetH Tryz.prog [("math/bits.deBruijn64tab", Rows.laid_math_bits_deBruijn64tab)] w) (fun _ _ _ hh h => h.of_heap hh) own1 started (by kernel_rfl) Tryz.func3
    (ChangeSpec.witness_shaped (enc := enc) (C := Tryz.checked) (os := os) (X := fun w _ => laidMetH Tryz.prog [("math/bits.deBruijn64tab", Rows.laid_math_bits_deBruijn64tab)] w) false (World.doorLaid Tryz.prog 400 os) #[.agg #[.bool false, .slice none 0 0, .slice none 0 0], .agg #[.bool false, .slice none 0 0, .slice none 0 0]] 8 rfl (World.shaped_of_RefB (by kernel_rfl) (by kernel_rfl)) (by kernel_rfl) (by kernel_rfl) (by kernel_rfl) (rationalForms_door os _)) ?_
  intro W base args ds gs before hval0 hW _ _ hL _
  have hval : ∀ (j : Nat) t v, Tryz.f3.params[j]? = some t → args[j]? = some v → Value.okWide Tryz.prog W .any base t v := hval0
  have hW' := hW
  obtain ⟨p, q, hA0, hV, rfl, hfz, hnd⟩ := hW
  have hA : DataW.TrodAll enc Tryz.prog W 0 (fun _ => true) true Tryz.f3.params.toList args.toList ds p := hA0
  rw [Tryz.params3] at hA hval
  obtain ⟨v0, v1, d0, d1, p0, p1, rfl, rfl, rfl, h0, h1⟩ := trodAll_two hA
  obtain ⟨rfl, rfl⟩ := trodVars_none hV
  have hlt : ∀ x ∈ p0 ++ (p1), x.block < W.heap.size := fun x hx => hW'.lt x (by simpa using hx)
  obtain ⟨g0, a, n, c, xs, a', n', c', xs', rfl, hr0, hx0, hs0, hy0⟩ := open_Rat (hval 0 27 v0 rfl rfl) h0
  obtain ⟨g1, b, m, d, ys, b', m', d', ys', rfl, hr1, hx1, hs1, hy1⟩ := open_Rat (hval 1 27 v1 rfl rfl) h1
  refine (rationalForms_walk g0 a a' n c n' c' g1 b b' m d m' d' _ _ W (tb_of_laid hL) (IsQ.of g0 hr0 hx0 hs0 hy0) (IsQ.of g1 hr1 hx1 hs1 hy1) (hid fun h1 h2 => right3_both (tb_of_laid hL) g0 hr0 hx0 hs0 hy0 (by omega) (by omega))).mono fun e W' ⟨he, hg⟩ => ?_
  subst he
  have hB := grown_below hg
  exact ⟨_, rfl, _, _, _, [], _, [], hW', trodAll_mk1 (shut_bool Tryz.underlying4 true),
    trodAll_mk2 (Below.trod laidOut1 readRat rowRat h0 hB fun x hx => hlt x (by simp [hx])) (Below.trod laidOut1 readRat rowRat h1 hB fun x hx => hlt x (by simp [hx])), rfl, hB.frame _, fun h => by cases h⟩

theorem rationalForms_holds : Rows.RationalFormsSaid :=
  OpenClaim.holds_of_wide 3 Tryz.f3 rfl rfl rfl rfl rfl rfl rfl ⟨rfl, rfl, rfl, rfl, rfl⟩ rfl rfl rfl rfl rfl (by kernel_rfl) Tryz.func3 (by kernel_rfl)
    (of_decide_eq_true (by kernel_rfl)) (by unfold Func.isWrapper; first | (rw [if_pos (by decide +kernel)]; kernel_rfl) | (rw [if_neg (by decide +kernel)]; exact ⟨rfl, rfl⟩))
    (fun os started H enc _ => rationalForms_lifted os started H enc)

theorem rationalForms_card : Rows.RationalFormsCardSaid :=
  Claim7.holds_tied_plain_at .later [] [.data] true _ false
    rationalForms_holds (fun _ h => by cases h) (by kernel_rfl) (fun _ h => by cases h) rationalForms_row_tie rfl ⟨rfl, rfl⟩ (by kernel_rfl) rfl
    (fun f fn hf hfn => by
      obtain rfl : f = 3 := Option.some.inj ((show Tryz.prog.funcNamed "geoprover/geoproverlaw03.RationalForms" = some 3 by kernel_rfl).symm.trans hf) |>.symm
      obtain rfl : fn = Tryz.f3 := (Option.some.inj (Tryz.func3.symm.trans hfn)).symm
      exact ⟨by kernel_rfl, fun j t ht => by
        rw [Tryz.params3] at ht
        have hm : t ∈ [27, 27] := by simpa using Array.mem_of_getElem? ht
        have hall : ([27, 27].all fun u => !Tryz.prog.wantsStandIn u) = true := by kernel_rfl
        exact (show Tryz.prog.wantsStandIn t = false by simpa using List.all_eq_true.1 hall t hm)⟩)
    (by kernel_rfl)

end Go.Proofs.YtdgcmbpmjcfhpaaGreatDoor
