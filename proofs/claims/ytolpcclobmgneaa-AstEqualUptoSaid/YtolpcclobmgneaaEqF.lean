/-
  Contracts of the equality of statements with one name, and of programs of one statement.
-/
import Derived.Test.YtolpcclobmgneaaEqC
set_option linter.unusedVariables false
set_option linter.unusedSimpArgs false
namespace Go.Proofs.Ytolpcclobmgneaa
open Go.RowKit _root_.Nm
theorem box10 {w : World} {G : Nat} {a b c d e f g h i j : Value} {T : TypeId} (hb : w.heap[G]? = some (.cells #[a, b, c, d, e, f, g, h, i, j] T (0, 0))) :
    (w.cell? ⟨G, 0, none⟩ = some a ∧ w.cell? ⟨G, 1, none⟩ = some b ∧ w.cell? ⟨G, 2, none⟩ = some c ∧ w.cell? ⟨G, 3, none⟩ = some d ∧ w.cell? ⟨G, 4, none⟩ = some e ∧ w.cell? ⟨G, 5, none⟩ = some f ∧ w.cell? ⟨G, 6, none⟩ = some g ∧ w.cell? ⟨G, 7, none⟩ = some h ∧ w.cell? ⟨G, 8, none⟩ = some i ∧ w.cell? ⟨G, 9, none⟩ = some j) ∧
    (∀ o, w.frozen? ⟨G, o, none⟩ = false) := by
  have k := fun i => cell_of_row w G i _ _ _ hb
  have k0 := k 0
  have k1 := k 1
  have k2 := k 2
  have k3 := k 3
  have k4 := k 4
  have k5 := k 5
  have k6 := k 6
  have k7 := k 7
  have k8 := k 8
  have k9 := k 9
  simp at k0 k1 k2 k3 k4 k5 k6 k7 k8 k9
  exact ⟨⟨k0, k1, k2, k3, k4, k5, k6, k7, k8, k9⟩, fun o => frozen_of_row w G o _ _ hb⟩
theorem box1c {w : World} {G : Nat} {a : Value} {T : TypeId} (hb : w.heap[G]? = some (.cells #[a] T (0, 0))) : w.cell? ⟨G, 0, none⟩ = some a ∧ w.frozen? ⟨G, 0, none⟩ = false := by
  have k0 := cell_of_row w G 0 _ _ _ hb
  simp at k0
  exact ⟨k0, frozen_of_row w G 0 _ _ hb⟩
def zeroS (T : TypeId) : Obj := .cells #[.int .i64 0, .slice none 0 0, .int .i64 0, .string ⟨#[]⟩, .bool false, .slice none 0 0, .slice none 0 0, .slice none 0 0, .int .i64 0, .int .i64 0] T (0, 0)

set_option maxHeartbeats 4000000 in
set_option maxRecDepth 100000 in
theorem eqStr1 (P Q : Nat) (a a' : ByteArray) (b : Bool) (hb : b = (a.toList == a'.toList)) (w : World) (h1 : w.cell? ⟨P, 0, none⟩ = some (.string a)) (h2 : w.cell? ⟨Q, 0, none⟩ = some (.string a')) :
    Calls Try.prog 17 #[.slice (some ⟨P, 0, none⟩) 1 1, .slice (some ⟨Q, 0, none⟩) 1 1] w fun e w' => e = .returned (.bool b) ∧ w.grownBy w' none := by
  go_enter Try.func17, Try.ntmps17
  go_wp2_with fail
  go_loopw [13] (fun x wr => ∃ k : Nat, k ≤ 1 ∧ x = .int .i64 k ∧ w.grownBy wr none ∧ (k = 1 → b = true)) (fun x _ => 1 - (intOf x).toNat)
  case atStart => exact ⟨0, Nat.zero_le _, rfl, grown_refl _ _, fun h => by omega⟩
  case round =>
    obtain ⟨k, hk, rfl, hg, hall⟩ := hrel
    replace h1 := hg.cell h1 (by simp)
    replace h2 := hg.cell h2 (by simp)
    have HB := hid hb
    have HALL := hid hall
    clear hb hall
    by_cases hlt : k = 0
    · subst hlt
      cases b
      · have hz : (a.toList == a'.toList) = false := HB.out.symm
        go_wp2_with fail
        go_quiet (fail)
        go_wp2_with fail
        go_ret
        exact ⟨rfl, gdN hg _⟩
      · have hz : (a.toList == a'.toList) = true := HB.out.symm
        go_wp2_with fail
        go_quiet (fail)
        go_wp2_with fail
        exact ⟨⟨1, by omega, by go_num, gdN hg _, fun _ => trivial⟩, by simp [intOf]⟩
    · obtain rfl : k = 1 := by omega
      obtain rfl := HALL.out rfl
      go_wp2_with fail
      go_ret
      exact ⟨rfl, hg⟩

set_option maxHeartbeats 8000000 in
set_option maxRecDepth 100000 in
theorem equalStmt1 (m m' P Q : Nat) (a a' : ByteArray) (k1 k2 o1 o2 : Int) (e1 : Int) (e2 : ByteArray) (e3 : Bool) (p1 : Option Addr) (n1 c1 : Nat) (p2 : Option Addr) (n2 c2 : Nat) (p3 : Option Addr) (n3 c3 : Nat) (e7 : Int) (x1 : Int) (x2 : ByteArray) (x3 : Bool) (q1 : Option Addr) (m1 d1 : Nat) (q2 : Option Addr) (m2 d2 : Nat) (q3 : Option Addr) (m3 d3 : Nat) (x7 : Int) (t t' : Tr) (v1 v2 : Bool) (w : World)
    (h1 : w.cell? ⟨P, 0, none⟩ = some (.string a)) (h2 : w.cell? ⟨Q, 0, none⟩ = some (.string a')) (hE : ERd w m [.int .i64 e1, .string e2, .bool e3, .slice p1 n1 c1, .slice p2 n2 c2, .slice p3 n3 c3, .int .i64 e7] t) (hE' : ERd w m' [.int .i64 x1, .string x2, .bool x3, .slice q1 m1 d1, .slice q2 m2 d2, .slice q3 m3 d3, .int .i64 x7] t') (hv1 : v1 = (a.toList == a'.toList)) (hv2 : v2 = true ↔ EqP m t t') :
    Calls Try.prog 14 #[.agg #[.int .i64 k1, .slice (some ⟨P, 0, none⟩) 1 1, .int .i64 e1, .string e2, .bool e3, .slice p1 n1 c1, .slice p2 n2 c2, .slice p3 n3 c3, .int .i64 e7, .int .i64 o1], .agg #[.int .i64 k2, .slice (some ⟨Q, 0, none⟩) 1 1, .int .i64 x1, .string x2, .bool x3, .slice q1 m1 d1, .slice q2 m2 d2, .slice q3 m3 d3, .int .i64 x7, .int .i64 o2]] w fun e w' => e = .returned (.bool (decide (k1 = k2) && (v1 && v2))) ∧ w.grownBy w' none := by
  have HR := hid fun w' (hg : w.grownBy w' none) => eqStr1 P Q a a' v1 hv1 w' (hg.cell h1 (by simp)) (hg.cell h2 (by simp))
  have HF := hid fun w' (hg : w.grownBy w' none) => equalExpr_ok m m' _ _ t t' v2 w' (hE.keep hg) (hE'.keep hg) hv2
  clear h1 h2 hE hE' hv1 hv2
  obtain ⟨⟨k0, k1', k2', k3, k4, k5, k6, k7, k8, k9⟩, -⟩ := box10 (blk1 w (.cells #[.int .i64 k1, .slice (some ⟨P, 0, none⟩) 1 1, .int .i64 e1, .string e2, .bool e3, .slice p1 n1 c1, .slice p2 n2 c2, .slice p3 n3 c3, .int .i64 e7, .int .i64 o1] 36 (0, 0)) (.cells #[.int .i64 k2, .slice (some ⟨Q, 0, none⟩) 1 1, .int .i64 x1, .string x2, .bool x3, .slice q1 m1 d1, .slice q2 m2 d2, .slice q3 m3 d3, .int .i64 x7, .int .i64 o2] 36 (0, 0)))
  have bx := blk0 (w.alloc (.cells #[.int .i64 k1, .slice (some ⟨P, 0, none⟩) 1 1, .int .i64 e1, .string e2, .bool e3, .slice p1 n1 c1, .slice p2 n2 c2, .slice p3 n3 c3, .int .i64 e7, .int .i64 o1] 36 (0, 0))) (.cells #[.int .i64 k2, .slice (some ⟨Q, 0, none⟩) 1 1, .int .i64 x1, .string x2, .bool x3, .slice q1 m1 d1, .slice q2 m2 d2, .slice q3 m3 d3, .int .i64 x7, .int .i64 o2] 36 (0, 0))
  rw [show (w.alloc (.cells #[.int .i64 k1, .slice (some ⟨P, 0, none⟩) 1 1, .int .i64 e1, .string e2, .bool e3, .slice p1 n1 c1, .slice p2 n2 c2, .slice p3 n3 c3, .int .i64 e7, .int .i64 o1] 36 (0, 0))).heap.size = w.heap.size + 1 by simp] at bx
  obtain ⟨⟨j0, j1, j2, j3, j4, j5, j6, j7, j8, j9⟩, -⟩ := box10 bx
  clear bx
  have hW := grown_trans (World.grownBy_alloc w (.cells #[.int .i64 k1, .slice (some ⟨P, 0, none⟩) 1 1, .int .i64 e1, .string e2, .bool e3, .slice p1 n1 c1, .slice p2 n2 c2, .slice p3 n3 c3, .int .i64 e7, .int .i64 o1] 36 (0, 0)) none) (World.grownBy_alloc _ (.cells #[.int .i64 k2, .slice (some ⟨Q, 0, none⟩) 1 1, .int .i64 x1, .string x2, .bool x3, .slice q1 m1 d1, .slice q2 m2 d2, .slice q3 m3 d3, .int .i64 x7, .int .i64 o2] 36 (0, 0)) none)
  by_cases hk : k1 = k2
  · subst hk
    cases v1
    all_goals
      go_enter Try.func14, Try.ntmps14
      go_upto_region 1 with fail
      generalize ((w.alloc _).alloc _) = w0 at *
      go_wp2_with (first
        | (go_at_call 17; refine (HR.out _ hW).mono ?_; rintro e w1 ⟨rfl, hg⟩; replace hW := grown_trans hW hg; replace k0 := hg.cell k0 (by simp); replace k1' := hg.cell k1' (by simp); replace k2' := hg.cell k2' (by simp); replace k3 := hg.cell k3 (by simp); replace k4 := hg.cell k4 (by simp); replace k5 := hg.cell k5 (by simp); replace k6 := hg.cell k6 (by simp); replace k7 := hg.cell k7 (by simp); replace k8 := hg.cell k8 (by simp); replace k9 := hg.cell k9 (by simp); replace j0 := hg.cell j0 (by simp); replace j1 := hg.cell j1 (by simp); replace j2 := hg.cell j2 (by simp); replace j3 := hg.cell j3 (by simp); replace j4 := hg.cell j4 (by simp); replace j5 := hg.cell j5 (by simp); replace j6 := hg.cell j6 (by simp); replace j7 := hg.cell j7 (by simp); replace j8 := hg.cell j8 (by simp); replace j9 := hg.cell j9 (by simp); clear HR hg)
        | (go_at_call 6; refine (HF.out _ hW).mono ?_; rintro e w1 ⟨rfl, hg⟩; replace hW := grown_trans hW hg; replace k0 := hg.cell k0 (by simp); replace k1' := hg.cell k1' (by simp); replace k2' := hg.cell k2' (by simp); replace k3 := hg.cell k3 (by simp); replace k4 := hg.cell k4 (by simp); replace k5 := hg.cell k5 (by simp); replace k6 := hg.cell k6 (by simp); replace k7 := hg.cell k7 (by simp); replace k8 := hg.cell k8 (by simp); replace k9 := hg.cell k9 (by simp); replace j0 := hg.cell j0 (by simp); replace j1 := hg.cell j1 (by simp); replace j2 := hg.cell j2 (by simp); replace j3 := hg.cell j3 (by simp); replace j4 := hg.cell j4 (by simp); replace j5 := hg.cell j5 (by simp); replace j6 := hg.cell j6 (by simp); replace j7 := hg.cell j7 (by simp); replace j8 := hg.cell j8 (by simp); replace j9 := hg.cell j9 (by simp); clear HF hg))
      go_ret
      exact ⟨by simp, hW⟩
  · have hz := hk
    go_enter Try.func14, Try.ntmps14
    go_upto_region 1 with fail
    generalize ((w.alloc _).alloc _) = w0 at *
    go_wp2_with fail
    go_ret
    exact ⟨by simp [hk], hW⟩


set_option maxHeartbeats 16000000 in
set_option maxRecDepth 100000 in
theorem eqFnS1 (B C m m' P Q : Nat) (a a' : ByteArray) (k1 k2 o1 o2 : Int) (e1 : Int) (e2 : ByteArray) (e3 : Bool) (p1 : Option Addr) (n1 c1 : Nat) (p2 : Option Addr) (n2 c2 : Nat) (p3 : Option Addr) (n3 c3 : Nat) (e7 : Int) (x1 : Int) (x2 : ByteArray) (x3 : Bool) (q1 : Option Addr) (m1 d1 : Nat) (q2 : Option Addr) (m2 d2 : Nat) (q3 : Option Addr) (m3 d3 : Nat) (x7 : Int) (t t' : Tr) (v1 v2 b : Bool) (w : World)
    (hB : w.heap[B]? = some (.cells #[.int .i64 k1, .slice (some ⟨P, 0, none⟩) 1 1, .int .i64 e1, .string e2, .bool e3, .slice p1 n1 c1, .slice p2 n2 c2, .slice p3 n3 c3, .int .i64 e7, .int .i64 o1] 36 (0, 0))) (hC : w.heap[C]? = some (.cells #[.int .i64 k2, .slice (some ⟨Q, 0, none⟩) 1 1, .int .i64 x1, .string x2, .bool x3, .slice q1 m1 d1, .slice q2 m2 d2, .slice q3 m3 d3, .int .i64 x7, .int .i64 o2] 36 (0, 0)))
    (h1 : w.cell? ⟨P, 0, none⟩ = some (.string a)) (h2 : w.cell? ⟨Q, 0, none⟩ = some (.string a')) (hE : ERd w m [.int .i64 e1, .string e2, .bool e3, .slice p1 n1 c1, .slice p2 n2 c2, .slice p3 n3 c3, .int .i64 e7] t) (hE' : ERd w m' [.int .i64 x1, .string x2, .bool x3, .slice q1 m1 d1, .slice q2 m2 d2, .slice q3 m3 d3, .int .i64 x7] t') (hv1 : v1 = (a.toList == a'.toList)) (hv2 : v2 = true ↔ EqP m t t') (hb : b = (decide (k1 = k2) && (v1 && v2))) :
    Calls Try.prog 13 #[.slice (some ⟨B, 0, none⟩) 1 1, .slice (some ⟨C, 0, none⟩) 1 1, .func (.func 14) #[] #[]] w fun e w' => e = .returned (.bool b) ∧ w.grownBy w' none := by
  have HC0 := hid fun w' (hg : w.grownBy w' none) => equalStmt1 m m' P Q a a' k1 k2 o1 o2 e1 e2 e3 p1 n1 c1 p2 n2 c2 p3 n3 c3 e7 x1 x2 x3 q1 m1 d1 q2 m2 d2 q3 m3 d3 x7 t t' v1 v2 w' (hg.cell h1 (by simp)) (hg.cell h2 (by simp)) (hE.keep hg) (hE'.keep hg) hv1 hv2
  rw [← hb] at HC0
  have HB := hid hB
  have HCC := hid hC
  clear h1 h2 hE hE' hv1 hv2 hb hB hC
  go_enter Try.func13, Try.ntmps13
  go_wp2_with fail
  go_loopw [17] (fun x wr => ∃ k : Nat, k ≤ 1 ∧ x = .int .i64 k ∧ w.grownBy wr none ∧ (k = 1 → b = true)) (fun x _ => 1 - (intOf x).toNat)
  case atStart => exact ⟨0, Nat.zero_le _, rfl, grown_refl _ _, fun h => by omega⟩
  case round =>
    obtain ⟨k, hk, rfl, hg, hall⟩ := hrel
    have HALL := hid hall
    clear hall
    by_cases hlt : k = 0
    · subst hlt
      obtain ⟨⟨a0, a1, a2, a3, a4, a5, a6, a7, a8, a9⟩, -⟩ := box10 (keepB HB.out hg)
      have hG1 := World.grownBy_alloc wr (.cells #[.int .i64 k1, .slice (some ⟨P, 0, none⟩) 1 1, .int .i64 e1, .string e2, .bool e3, .slice p1 n1 c1, .slice p2 n2 c2, .slice p3 n3 c3, .int .i64 e7, .int .i64 o1] 36 (0, 0)) none
      have hG2 := World.grownBy_alloc (wr.alloc (.cells #[.int .i64 k1, .slice (some ⟨P, 0, none⟩) 1 1, .int .i64 e1, .string e2, .bool e3, .slice p1 n1 c1, .slice p2 n2 c2, .slice p3 n3 c3, .int .i64 e7, .int .i64 o1] 36 (0, 0))) (.cells #[.int .i64 k2, .slice (some ⟨Q, 0, none⟩) 1 1, .int .i64 x1, .string x2, .bool x3, .slice q1 m1 d1, .slice q2 m2 d2, .slice q3 m3 d3, .int .i64 x7, .int .i64 o2] 36 (0, 0)) none
      obtain ⟨⟨b0, b1, b2, b3, b4, b5, b6, b7, b8, b9⟩, -⟩ := box10 (keepB (keepB HCC.out hg) hG1)
      have HGG := hid (grown_trans hg (grown_trans hG1 hG2))
      obtain ⟨⟨i0, i1, i2, i3, i4, i5, i6, i7, i8, i9⟩, fa⟩ := box10 (blk0 wr (zeroS 36))
      have f0 := fa 0; have f1 := fa 1; have f2 := fa 2; have f3 := fa 3; have f4 := fa 4; have f5 := fa 5; have f6 := fa 6; have f7 := fa 7; have f8 := fa 8; have f9 := fa 9
      have bx := blk0 (wr.alloc (.cells #[.int .i64 k1, .slice (some ⟨P, 0, none⟩) 1 1, .int .i64 e1, .string e2, .bool e3, .slice p1 n1 c1, .slice p2 n2 c2, .slice p3 n3 c3, .int .i64 e7, .int .i64 o1] 36 (0, 0))) (zeroS 36)
      rw [show (wr.alloc (.cells #[.int .i64 k1, .slice (some ⟨P, 0, none⟩) 1 1, .int .i64 e1, .string e2, .bool e3, .slice p1 n1 c1, .slice p2 n2 c2, .slice p3 n3 c3, .int .i64 e7, .int .i64 o1] 36 (0, 0))).heap.size = wr.heap.size + 1 by simp] at bx
      obtain ⟨⟨j0, j1, j2, j3, j4, j5, j6, j7, j8, j9⟩, ga⟩ := box10 bx
      have g0 := ga 0; have g1 := ga 1; have g2 := ga 2; have g3 := ga 3; have g4 := ga 4; have g5 := ga 5; have g6 := ga 6; have g7 := ga 7; have g8 := ga 8; have g9 := ga 9
      clear bx fa ga hG1 hG2
      unfold zeroS at i0 i1 i2 i3 i4 i5 i6 i7 i8 i9 f0 f1 f2 f3 f4 f5 f6 f7 f8 f9 j0 j1 j2 j3 j4 j5 j6 j7 j8 j9 g0 g1 g2 g3 g4 g5 g6 g7 g8 g9
      cases b
      · go_wp2_with (go_at_call 14; refine (HC0.out _ HGG.out).mono ?_; rintro e w2 ⟨rfl, hg2⟩)
        go_ret
        exact ⟨rfl, grown_trans HGG.out hg2⟩
      · go_wp2_with (go_at_call 14; refine (HC0.out _ HGG.out).mono ?_; rintro e w2 ⟨rfl, hg2⟩)
        exact ⟨⟨1, by omega, by go_num, grown_trans HGG.out hg2, fun _ => trivial⟩, by simp [intOf]⟩
    · obtain rfl : k = 1 := by omega
      obtain rfl := HALL.out rfl
      go_wp2_with fail
      go_ret
      exact ⟨rfl, hg⟩
set_option maxHeartbeats 4000000 in
set_option maxRecDepth 100000 in
theorem eqFnS0 (a : Addr) (v : Value) (w : World) : Calls Try.prog 13 #[.slice (some a) 1 1, .slice none 0 0, v] w fun e w' => e = .returned (.bool false) ∧ w.grownBy w' none := by
  go_enter Try.func13, Try.ntmps13
  go_wp2_with fail
  go_ret
  exact ⟨rfl, grown_refl _ _⟩
set_option maxHeartbeats 4000000 in
set_option maxRecDepth 100000 in

theorem equalP (u v : Value) (b : Bool) (w : World) (hu : (∃ p n c, u = .slice p n c)) (hv : (∃ p n c, v = .slice p n c)) (HF : ∀ w', w.grownBy w' none → Calls Try.prog 13 #[u, v, .func (.func 14) #[] #[]] w' fun e w2 => e = .returned (.bool b) ∧ w'.grownBy w2 none) :
    Calls Try.prog 8 #[.agg #[u], .agg #[v]] w fun e w' => e = .returned (.bool b) ∧ w.grownBy w' none := by
  obtain ⟨p, n, c, rfl⟩ := hu
  obtain ⟨q, m, d, rfl⟩ := hv
  have HFF := hid HF
  clear HF
  obtain ⟨k0, -⟩ := box1c (blk1 w (.cells #[.slice p n c] 39 (0, 0)) (.cells #[.slice q m d] 39 (0, 0)))
  have bx := blk0 (w.alloc (.cells #[.slice p n c] 39 (0, 0))) (.cells #[.slice q m d] 39 (0, 0))
  rw [show (w.alloc (.cells #[.slice p n c] 39 (0, 0))).heap.size = w.heap.size + 1 by simp] at bx
  obtain ⟨j0, -⟩ := box1c bx
  clear bx
  have hW := grown_trans (World.grownBy_alloc w (.cells #[.slice p n c] 39 (0, 0)) none) (World.grownBy_alloc _ (.cells #[.slice q m d] 39 (0, 0)) none)
  go_enter Try.func8, Try.ntmps8
  go_upto_region 1 with fail
  generalize ((w.alloc _).alloc _) = w0 at *
  go_wp2_with (go_at_call 13; refine (HFF.out _ hW).mono ?_; rintro e w1 ⟨rfl, hg⟩)
  go_ret
  exact ⟨rfl, grown_trans hW hg⟩
end Go.Proofs.Ytolpcclobmgneaa
