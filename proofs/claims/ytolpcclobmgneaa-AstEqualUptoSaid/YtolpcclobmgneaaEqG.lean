/-
  The walk of AstEqual.
-/
import Derived.Test.YtolpcclobmgneaaEqD
import Derived.Test.YtolpcclobmgneaaEqE
import Derived.Test.YtolpcclobmgneaaEqF
import Derived.Test.YtolpcclobmgneaaAstR
import Derived.Deep.RegionHeld3
set_option linter.unusedVariables false
set_option linter.unusedSimpArgs false
namespace Go.Proofs.Ytolpcclobmgneaa
open Go.RowKit _root_.Nm
set_option maxHeartbeats 16000000 in
set_option maxRecDepth 100000 in
theorem astEqual_walk (m m' : Nat) (cs cs' : List Value) (t t' : Tr) (d : Int) (w : World) (hE : ERd w m cs t) (hE' : ERd w m' cs' t') (hsz : szF m t ≤ 1048576) :
    Calls Try.prog 3 #[.agg cs.toArray, .agg cs'.toArray, .int .i64 d] w fun e w' => e = .returned (.bool true) ∧ w.grownBy w' none := by
  obtain ⟨e1, e2, e3, p1, n1, c1, p2, n2, c2, p3, n3, c3, e7, rfl⟩ := hE.shape
  obtain ⟨x1, x2, x3, q1, m1, d1, q2, m2, d2, q3, m3, d3, x7, rfl⟩ := hE'.shape
  obtain ⟨bs, hbs⟩ : ∃ b, decide (cntF m t ≤ 300) = b := ⟨_, rfl⟩
  obtain ⟨bs', hbs'⟩ : ∃ b, decide (cntF m' t' ≤ 300) = b := ⟨_, rfl⟩
  obtain ⟨v, hv⟩ := ex_bool (EqP m t t')
  have HSM := hid fun w' (hg : w.grownBy w' none) => small_e m _ t bs hbs w' (hE.keep hg)
  have HSM' := hid fun w' (hg : w.grownBy w' none) => small_e m' _ t' bs' hbs' w' (hE'.keep hg)
  have HEQ := hid fun w' (hg : w.grownBy w' none) => equalExpr_ok m m' _ _ t t' v w' (hE.keep hg) (hE'.keep hg) hv
  have HRE := hid fun w' (hg : w.grownBy w' none) => rEqualExpr_ok m m' _ _ t t' v w' (hE.keep hg) (hE'.keep hg) hv
  have HX := hid hE
  have HX' := hid hE'
  have HV := hid hv
  have HSZ := hid hsz
  clear hbs hbs' hE hE' hv hsz
  obtain ⟨⟨a0, a1, a2, a3, a4, a5, a6⟩, -⟩ := box7 (blk1 w (.cells #[.int .i64 e1, .string e2, .bool e3, .slice p1 n1 c1, .slice p2 n2 c2, .slice p3 n3 c3, .int .i64 e7] 30 (0, 0)) (.cells #[.int .i64 x1, .string x2, .bool x3, .slice q1 m1 d1, .slice q2 m2 d2, .slice q3 m3 d3, .int .i64 x7] 30 (0, 0)))
  have bx := blk0 (w.alloc (.cells #[.int .i64 e1, .string e2, .bool e3, .slice p1 n1 c1, .slice p2 n2 c2, .slice p3 n3 c3, .int .i64 e7] 30 (0, 0))) (.cells #[.int .i64 x1, .string x2, .bool x3, .slice q1 m1 d1, .slice q2 m2 d2, .slice q3 m3 d3, .int .i64 x7] 30 (0, 0))
  rw [show (w.alloc (.cells #[.int .i64 e1, .string e2, .bool e3, .slice p1 n1 c1, .slice p2 n2 c2, .slice p3 n3 c3, .int .i64 e7] 30 (0, 0))).heap.size = w.heap.size + 1 by simp] at bx
  obtain ⟨⟨b0, b1, b2, b3, b4, b5, b6⟩, -⟩ := box7 bx
  clear bx
  have hgr := grown_trans (World.grownBy_alloc w (.cells #[.int .i64 e1, .string e2, .bool e3, .slice p1 n1 c1, .slice p2 n2 c2, .slice p3 n3 c3, .int .i64 e7] 30 (0, 0)) none) (World.grownBy_alloc _ (.cells #[.int .i64 x1, .string x2, .bool x3, .slice q1 m1 d1, .slice q2 m2 d2, .slice q3 m3 d3, .int .i64 x7] 30 (0, 0)) none)
  cases bs
  · go_enter Try.func3, Try.ntmps3
    go_upto_region 1 with fail
    generalize ((w.alloc _).alloc _) = w0 at *
    go_wp2_with (go_at_call 4; refine (HSM.out _ hgr).mono ?_; rintro e w1 ⟨rfl, hg⟩)
    go_ret
    exact ⟨rfl, grown_trans hgr hg⟩
  cases bs'
  · go_enter Try.func3, Try.ntmps3
    go_upto_region 1 with fail
    generalize ((w.alloc _).alloc _) = w0 at *
    go_wp2_with (first | (go_at_call 4; refine (HSM.out _ hgr).mono ?_; rintro e w1 ⟨rfl, hg⟩; replace hgr := grown_trans hgr hg; replace a0 := hg.cell a0 (by simp); replace a1 := hg.cell a1 (by simp); replace a2 := hg.cell a2 (by simp); replace a3 := hg.cell a3 (by simp); replace a4 := hg.cell a4 (by simp); replace a5 := hg.cell a5 (by simp); replace a6 := hg.cell a6 (by simp); replace b0 := hg.cell b0 (by simp); replace b1 := hg.cell b1 (by simp); replace b2 := hg.cell b2 (by simp); replace b3 := hg.cell b3 (by simp); replace b4 := hg.cell b4 (by simp); replace b5 := hg.cell b5 (by simp); replace b6 := hg.cell b6 (by simp); clear HSM hg) | (go_at_call 4; refine (HSM'.out _ hgr).mono ?_; rintro e w1 ⟨rfl, hg⟩))
    go_ret
    exact ⟨rfl, grown_trans hgr hg⟩
  cases v
  · go_enter Try.func3, Try.ntmps3
    go_upto_region 1 with fail
    generalize ((w.alloc _).alloc _) = w0 at *
    go_wp2_with (first | (go_at_call 4; refine (HSM.out _ hgr).mono ?_; rintro e w1 ⟨rfl, hg⟩; replace hgr := grown_trans hgr hg; replace a0 := hg.cell a0 (by simp); replace a1 := hg.cell a1 (by simp); replace a2 := hg.cell a2 (by simp); replace a3 := hg.cell a3 (by simp); replace a4 := hg.cell a4 (by simp); replace a5 := hg.cell a5 (by simp); replace a6 := hg.cell a6 (by simp); replace b0 := hg.cell b0 (by simp); replace b1 := hg.cell b1 (by simp); replace b2 := hg.cell b2 (by simp); replace b3 := hg.cell b3 (by simp); replace b4 := hg.cell b4 (by simp); replace b5 := hg.cell b5 (by simp); replace b6 := hg.cell b6 (by simp); clear HSM hg) | (go_at_call 4; refine (HSM'.out _ hgr).mono ?_; rintro e w1 ⟨rfl, hg⟩; replace hgr := grown_trans hgr hg; replace a0 := hg.cell a0 (by simp); replace a1 := hg.cell a1 (by simp); replace a2 := hg.cell a2 (by simp); replace a3 := hg.cell a3 (by simp); replace a4 := hg.cell a4 (by simp); replace a5 := hg.cell a5 (by simp); replace a6 := hg.cell a6 (by simp); replace b0 := hg.cell b0 (by simp); replace b1 := hg.cell b1 (by simp); replace b2 := hg.cell b2 (by simp); replace b3 := hg.cell b3 (by simp); replace b4 := hg.cell b4 (by simp); replace b5 := hg.cell b5 (by simp); replace b6 := hg.cell b6 (by simp); clear HSM' hg) | (go_at_call 5; refine (HRE.out _ hgr).mono ?_; rintro e w3 ⟨rfl, hg⟩; replace hgr := grown_trans hgr hg; replace a0 := hg.cell a0 (by simp); replace a1 := hg.cell a1 (by simp); replace a2 := hg.cell a2 (by simp); replace a3 := hg.cell a3 (by simp); replace a4 := hg.cell a4 (by simp); replace a5 := hg.cell a5 (by simp); replace a6 := hg.cell a6 (by simp); replace b0 := hg.cell b0 (by simp); replace b1 := hg.cell b1 (by simp); replace b2 := hg.cell b2 (by simp); replace b3 := hg.cell b3 (by simp); replace b4 := hg.cell b4 (by simp); replace b5 := hg.cell b5 (by simp); replace b6 := hg.cell b6 (by simp); clear HRE hg))
    have HW3 := hid hgr
    have HS3 : Hid (w.heap.size + 2 ≤ w3.heap.size) := hid (by have := World.block_lt_of_cell? w3 _ b0; simp at this; omega)
    have HE1 := hid fun w' (hg : w3.grownBy w' none) => HEQ.out w' (grown_trans HW3.out hg)
    have HMV := hid fun w' (hg : w3.grownBy w' none) => moved_any m (fun _ => False) _ t d w' (fun b hb => hb.elim) (ERd.erdX (HX.out.keep (grown_trans HW3.out hg))) HSZ.out
    have HE2 := hid fun w' (cs9 : List Value) (hg : w3.grownBy w' none) (h9 : ERd w' m cs9 (movF m d t)) => equalExpr_ok m m _ _ t (movF m d t) true w' (HX.out.keep (grown_trans HW3.out hg)) h9 ⟨fun _ => EqP.mov d HX.out, fun _ => rfl⟩
    replace hgr := grown_refl w3 none
    go_region_held3 (fun w' => w'.cell? ⟨w.heap.size, 0, none⟩ = some (.int .i64 e1) ∧ w'.cell? ⟨w.heap.size, 1, none⟩ = some (.string e2) ∧ w'.cell? ⟨w.heap.size, 2, none⟩ = some (.bool e3) ∧ w'.cell? ⟨w.heap.size, 3, none⟩ = some (.slice p1 n1 c1) ∧ w'.cell? ⟨w.heap.size, 4, none⟩ = some (.slice p2 n2 c2) ∧ w'.cell? ⟨w.heap.size, 5, none⟩ = some (.slice p3 n3 c3) ∧ w'.cell? ⟨w.heap.size, 6, none⟩ = some (.int .i64 e7) ∧ w'.cell? ⟨w.heap.size + 1, 0, none⟩ = some (.int .i64 x1) ∧ w'.cell? ⟨w.heap.size + 1, 1, none⟩ = some (.string x2) ∧ w'.cell? ⟨w.heap.size + 1, 2, none⟩ = some (.bool x3) ∧ w'.cell? ⟨w.heap.size + 1, 3, none⟩ = some (.slice q1 m1 d1) ∧ w'.cell? ⟨w.heap.size + 1, 4, none⟩ = some (.slice q2 m2 d2) ∧ w'.cell? ⟨w.heap.size + 1, 5, none⟩ = some (.slice q3 m3 d3) ∧ w'.cell? ⟨w.heap.size + 1, 6, none⟩ = some (.int .i64 x7) ∧ w3.grownBy w' none) ((try go_split_ands) <;> (repeat' apply And.intro) <;> (first | (with_reducible assumption) | (with_reducible refine (grown_drew _ none).cell ?_ (by simp); with_reducible assumption) | (with_reducible refine grown_trans ?_ (grown_drew _ none); with_reducible assumption))) (first | (go_at_call 6; (first | with_reducible refine (HE1.out _ hgr).mono ?_ | with_reducible refine (HE1.out _ (grown_trans hgr (grown_drew _ none))).mono ?_); rintro e w4 ⟨rfl, hg⟩; (first | replace hgr := grown_trans hgr hg | replace hgr := grown_trans (grown_trans hgr (grown_drew _ none)) hg); replace a0 := hg.cell a0 (by simp); replace a1 := hg.cell a1 (by simp); replace a2 := hg.cell a2 (by simp); replace a3 := hg.cell a3 (by simp); replace a4 := hg.cell a4 (by simp); replace a5 := hg.cell a5 (by simp); replace a6 := hg.cell a6 (by simp); replace b0 := hg.cell b0 (by simp); replace b1 := hg.cell b1 (by simp); replace b2 := hg.cell b2 (by simp); replace b3 := hg.cell b3 (by simp); replace b4 := hg.cell b4 (by simp); replace b5 := hg.cell b5 (by simp); replace b6 := hg.cell b6 (by simp)) | (go_at_call 7; (first | with_reducible refine (HMV.out _ hgr).mono ?_ | with_reducible refine (HMV.out _ (grown_trans hgr (grown_drew _ none))).mono ?_); rintro e w4 ⟨cs9, rfl, hM, hg⟩; (first | replace hgr := grown_trans hgr hg | replace hgr := grown_trans (grown_trans hgr (grown_drew _ none)) hg); replace a0 := hg.cell a0 (by simp); replace a1 := hg.cell a1 (by simp); replace a2 := hg.cell a2 (by simp); replace a3 := hg.cell a3 (by simp); replace a4 := hg.cell a4 (by simp); replace a5 := hg.cell a5 (by simp); replace a6 := hg.cell a6 (by simp); replace b0 := hg.cell b0 (by simp); replace b1 := hg.cell b1 (by simp); replace b2 := hg.cell b2 (by simp); replace b3 := hg.cell b3 (by simp); replace b4 := hg.cell b4 (by simp); replace b5 := hg.cell b5 (by simp); replace b6 := hg.cell b6 (by simp); obtain ⟨y1, y2, y3, s1, r1, t1, s2, r2, t2, s3, r3, t3, y7, rfl⟩ := hM.erd.shape; have HME := hid hM.erd; clear hM) | (go_at_call 6; (first | with_reducible refine (HE2.out _ _ hgr (HME.out)).mono ?_ | with_reducible refine (HE2.out _ _ (grown_trans hgr (grown_drew _ none)) (HME.out.keep (grown_drew _ none))).mono ?_); rintro e w5 ⟨rfl, hg⟩; (first | replace hgr := grown_trans hgr hg | replace hgr := grown_trans (grown_trans hgr (grown_drew _ none)) hg); replace a0 := hg.cell a0 (by simp); replace a1 := hg.cell a1 (by simp); replace a2 := hg.cell a2 (by simp); replace a3 := hg.cell a3 (by simp); replace a4 := hg.cell a4 (by simp); replace a5 := hg.cell a5 (by simp); replace a6 := hg.cell a6 (by simp); replace b0 := hg.cell b0 (by simp); replace b1 := hg.cell b1 (by simp); replace b2 := hg.cell b2 (by simp); replace b3 := hg.cell b3 (by simp); replace b4 := hg.cell b4 (by simp); replace b5 := hg.cell b5 (by simp); replace b6 := hg.cell b6 (by simp)))
    go_upto_region 6 with fail
    have hgW := grown_trans HW3.out hgr
    have HG5 := hid hgW
    have HGQ := hid hgr
    clear hgr HE1 HMV HE2
    have hs5 : w.heap.size + 2 ≤ w5.heap.size := by have h1 := HS3.out; have h2 := HGQ.out.size; omega
    have hgN := World.grownBy_alloc w5 (.cells #[.string ⟨#[65]⟩] 9 (0, 0)) none
    replace a0 := hgN.cell a0 (by simp); replace a1 := hgN.cell a1 (by simp); replace a2 := hgN.cell a2 (by simp); replace a3 := hgN.cell a3 (by simp); replace a4 := hgN.cell a4 (by simp); replace a5 := hgN.cell a5 (by simp); replace a6 := hgN.cell a6 (by simp); replace b0 := hgN.cell b0 (by simp); replace b1 := hgN.cell b1 (by simp); replace b2 := hgN.cell b2 (by simp); replace b3 := hgN.cell b3 (by simp); replace b4 := hgN.cell b4 (by simp); replace b5 := hgN.cell b5 (by simp); replace b6 := hgN.cell b6 (by simp)
    obtain ⟨z0, fz⟩ := box1c (blk0 ((w5.alloc (.cells #[.string ⟨#[65]⟩] 9 (0, 0))).alloc (.cells #[.int .i64 2, .slice (some ⟨w5.heap.size, 0, none⟩) 1 1, .int .i64 e1, .string e2, .bool e3, .slice p1 n1 c1, .slice p2 n2 c2, .slice p3 n3 c3, .int .i64 e7, .int .i64 d] 36 (0, 0))) (.cells #[.slice none 0 0] 39 (0, 0)))
    rw [show ((w5.alloc (.cells #[.string ⟨#[65]⟩] 9 (0, 0))).alloc (.cells #[.int .i64 2, .slice (some ⟨w5.heap.size, 0, none⟩) 1 1, .int .i64 e1, .string e2, .bool e3, .slice p1 n1 c1, .slice p2 n2 c2, .slice p3 n3 c3, .int .i64 e7, .int .i64 d] 36 (0, 0))).heap.size = w5.heap.size + 2 by simp] at z0 fz
    go_upto_region 7 with fail
    have hN := blk2 w5 (.cells #[.string ⟨#[65]⟩] 9 (0, 0)) (.cells #[.int .i64 2, .slice (some ⟨w5.heap.size, 0, none⟩) 1 1, .int .i64 e1, .string e2, .bool e3, .slice p1 n1 c1, .slice p2 n2 c2, .slice p3 n3 c3, .int .i64 e7, .int .i64 d] 36 (0, 0)) (.cells #[.slice (some ⟨w5.heap.size + 1, 0, none⟩) 1 1] 39 (0, 0))
    have hS := blk1 (w5.alloc (.cells #[.string ⟨#[65]⟩] 9 (0, 0))) (.cells #[.int .i64 2, .slice (some ⟨w5.heap.size, 0, none⟩) 1 1, .int .i64 e1, .string e2, .bool e3, .slice p1 n1 c1, .slice p2 n2 c2, .slice p3 n3 c3, .int .i64 e7, .int .i64 d] 36 (0, 0)) (.cells #[.slice (some ⟨w5.heap.size + 1, 0, none⟩) 1 1] 39 (0, 0))
    have hP := blk0 ((w5.alloc (.cells #[.string ⟨#[65]⟩] 9 (0, 0))).alloc (.cells #[.int .i64 2, .slice (some ⟨w5.heap.size, 0, none⟩) 1 1, .int .i64 e1, .string e2, .bool e3, .slice p1 n1 c1, .slice p2 n2 c2, .slice p3 n3 c3, .int .i64 e7, .int .i64 d] 36 (0, 0))) (.cells #[.slice (some ⟨w5.heap.size + 1, 0, none⟩) 1 1] 39 (0, 0))
    rw [show (w5.alloc (.cells #[.string ⟨#[65]⟩] 9 (0, 0))).heap.size = w5.heap.size + 1 by simp] at hS
    rw [show ((w5.alloc (.cells #[.string ⟨#[65]⟩] 9 (0, 0))).alloc (.cells #[.int .i64 2, .slice (some ⟨w5.heap.size, 0, none⟩) 1 1, .int .i64 e1, .string e2, .bool e3, .slice p1 n1 c1, .slice p2 n2 c2, .slice p3 n3 c3, .int .i64 e7, .int .i64 d] 36 (0, 0))).heap.size = w5.heap.size + 2 by simp] at hP
    have hsz6 : (((w5.alloc (.cells #[.string ⟨#[65]⟩] 9 (0, 0))).alloc (.cells #[.int .i64 2, .slice (some ⟨w5.heap.size, 0, none⟩) 1 1, .int .i64 e1, .string e2, .bool e3, .slice p1 n1 c1, .slice p2 n2 c2, .slice p3 n3 c3, .int .i64 e7, .int .i64 d] 36 (0, 0))).alloc (.cells #[.slice (some ⟨w5.heap.size + 1, 0, none⟩) 1 1] 39 (0, 0))).heap.size = w5.heap.size + 3 := by simp
    have hg := grown_trans (World.grownBy_alloc w5 (.cells #[.string ⟨#[65]⟩] 9 (0, 0)) none) (grown_trans (World.grownBy_alloc _ (.cells #[.int .i64 2, .slice (some ⟨w5.heap.size, 0, none⟩) 1 1, .int .i64 e1, .string e2, .bool e3, .slice p1 n1 c1, .slice p2 n2 c2, .slice p3 n3 c3, .int .i64 e7, .int .i64 d] 36 (0, 0)) none) (World.grownBy_alloc _ (.cells #[.slice (some ⟨w5.heap.size + 1, 0, none⟩) 1 1] 39 (0, 0)) none))
    replace hgW := grown_trans hgW hg
    have hg2 := grown_trans (World.grownBy_alloc (w5.alloc (.cells #[.string ⟨#[65]⟩] 9 (0, 0))) (.cells #[.int .i64 2, .slice (some ⟨w5.heap.size, 0, none⟩) 1 1, .int .i64 e1, .string e2, .bool e3, .slice p1 n1 c1, .slice p2 n2 c2, .slice p3 n3 c3, .int .i64 e7, .int .i64 d] 36 (0, 0)) none) (World.grownBy_alloc _ (.cells #[.slice (some ⟨w5.heap.size + 1, 0, none⟩) 1 1] 39 (0, 0)) none)
    replace a0 := hg2.cell a0 (by simp); replace a1 := hg2.cell a1 (by simp); replace a2 := hg2.cell a2 (by simp); replace a3 := hg2.cell a3 (by simp); replace a4 := hg2.cell a4 (by simp); replace a5 := hg2.cell a5 (by simp); replace a6 := hg2.cell a6 (by simp); replace b0 := hg2.cell b0 (by simp); replace b1 := hg2.cell b1 (by simp); replace b2 := hg2.cell b2 (by simp); replace b3 := hg2.cell b3 (by simp); replace b4 := hg2.cell b4 (by simp); replace b5 := hg2.cell b5 (by simp); replace b6 := hg2.cell b6 (by simp)
    clear z0 fz hg hg2 hgN
    generalize (((w5.alloc _).alloc _).alloc _) = w6 at *
    generalize w5.heap.size = K at *
    have hgN := World.grownBy_alloc w6 (.cells #[.string ⟨#[65]⟩] 9 (0, 0)) none
    replace a0 := hgN.cell a0 (by simp); replace a1 := hgN.cell a1 (by simp); replace a2 := hgN.cell a2 (by simp); replace a3 := hgN.cell a3 (by simp); replace a4 := hgN.cell a4 (by simp); replace a5 := hgN.cell a5 (by simp); replace a6 := hgN.cell a6 (by simp); replace b0 := hgN.cell b0 (by simp); replace b1 := hgN.cell b1 (by simp); replace b2 := hgN.cell b2 (by simp); replace b3 := hgN.cell b3 (by simp); replace b4 := hgN.cell b4 (by simp); replace b5 := hgN.cell b5 (by simp); replace b6 := hgN.cell b6 (by simp)
    obtain ⟨y0, fy⟩ := box1c (blk0 ((w6.alloc (.cells #[.string ⟨#[65]⟩] 9 (0, 0))).alloc (.cells #[.int .i64 2, .slice (some ⟨K + 3, 0, none⟩) 1 1, .int .i64 x1, .string x2, .bool x3, .slice q1 m1 d1, .slice q2 m2 d2, .slice q3 m3 d3, .int .i64 x7, .int .i64 0] 36 (0, 0))) (.cells #[.slice none 0 0] 39 (0, 0)))
    rw [show ((w6.alloc (.cells #[.string ⟨#[65]⟩] 9 (0, 0))).alloc (.cells #[.int .i64 2, .slice (some ⟨K + 3, 0, none⟩) 1 1, .int .i64 x1, .string x2, .bool x3, .slice q1 m1 d1, .slice q2 m2 d2, .slice q3 m3 d3, .int .i64 x7, .int .i64 0] 36 (0, 0))).heap.size = K + 5 by simp [hsz6]] at y0 fy
    go_upto_region 8 with fail
    have hN2 := blk2 w6 (.cells #[.string ⟨#[65]⟩] 9 (0, 0)) (.cells #[.int .i64 2, .slice (some ⟨K + 3, 0, none⟩) 1 1, .int .i64 x1, .string x2, .bool x3, .slice q1 m1 d1, .slice q2 m2 d2, .slice q3 m3 d3, .int .i64 x7, .int .i64 0] 36 (0, 0)) (.cells #[.slice (some ⟨K + 4, 0, none⟩) 1 1] 39 (0, 0))
    have hS2 := blk1 (w6.alloc (.cells #[.string ⟨#[65]⟩] 9 (0, 0))) (.cells #[.int .i64 2, .slice (some ⟨K + 3, 0, none⟩) 1 1, .int .i64 x1, .string x2, .bool x3, .slice q1 m1 d1, .slice q2 m2 d2, .slice q3 m3 d3, .int .i64 x7, .int .i64 0] 36 (0, 0)) (.cells #[.slice (some ⟨K + 4, 0, none⟩) 1 1] 39 (0, 0))
    have hP2 := blk0 ((w6.alloc (.cells #[.string ⟨#[65]⟩] 9 (0, 0))).alloc (.cells #[.int .i64 2, .slice (some ⟨K + 3, 0, none⟩) 1 1, .int .i64 x1, .string x2, .bool x3, .slice q1 m1 d1, .slice q2 m2 d2, .slice q3 m3 d3, .int .i64 x7, .int .i64 0] 36 (0, 0))) (.cells #[.slice (some ⟨K + 4, 0, none⟩) 1 1] 39 (0, 0))
    rw [hsz6] at hN2
    rw [show (w6.alloc (.cells #[.string ⟨#[65]⟩] 9 (0, 0))).heap.size = K + 4 by simp [hsz6]] at hS2
    rw [show ((w6.alloc (.cells #[.string ⟨#[65]⟩] 9 (0, 0))).alloc (.cells #[.int .i64 2, .slice (some ⟨K + 3, 0, none⟩) 1 1, .int .i64 x1, .string x2, .bool x3, .slice q1 m1 d1, .slice q2 m2 d2, .slice q3 m3 d3, .int .i64 x7, .int .i64 0] 36 (0, 0))).heap.size = K + 5 by simp [hsz6]] at hP2
    have hsz7 : (((w6.alloc (.cells #[.string ⟨#[65]⟩] 9 (0, 0))).alloc (.cells #[.int .i64 2, .slice (some ⟨K + 3, 0, none⟩) 1 1, .int .i64 x1, .string x2, .bool x3, .slice q1 m1 d1, .slice q2 m2 d2, .slice q3 m3 d3, .int .i64 x7, .int .i64 0] 36 (0, 0))).alloc (.cells #[.slice (some ⟨K + 4, 0, none⟩) 1 1] 39 (0, 0))).heap.size = K + 6 := by simp [hsz6]
    have hg := grown_trans (World.grownBy_alloc w6 (.cells #[.string ⟨#[65]⟩] 9 (0, 0)) none) (grown_trans (World.grownBy_alloc _ (.cells #[.int .i64 2, .slice (some ⟨K + 3, 0, none⟩) 1 1, .int .i64 x1, .string x2, .bool x3, .slice q1 m1 d1, .slice q2 m2 d2, .slice q3 m3 d3, .int .i64 x7, .int .i64 0] 36 (0, 0)) none) (World.grownBy_alloc _ (.cells #[.slice (some ⟨K + 4, 0, none⟩) 1 1] 39 (0, 0)) none))
    replace hgW := grown_trans hgW hg
    replace hN := keepB hN hg
    replace hS := keepB hS hg
    replace hP := keepB hP hg
    clear y0 fy hg hgN a0 a1 a2 a3 a4 a5 a6 b0 b1 b2 b3 b4 b5 b6
    generalize (((w6.alloc _).alloc _).alloc _) = w7 at *
    have HQ1 := hid fun w' (hg : w7.grownBy w' none) => equalP (.slice (some ⟨K + 1, 0, none⟩) 1 1) (.slice (some ⟨K + 4, 0, none⟩) 1 1) false w' ⟨_, _, _, rfl⟩ ⟨_, _, _, rfl⟩ (fun w2 hg2 => eqFnS1 (K + 1) (K + 4) m m' K (K + 3) ⟨#[65]⟩ ⟨#[65]⟩ 2 2 d 0 e1 e2 e3 p1 n1 c1 p2 n2 c2 p3 n3 c3 e7 x1 x2 x3 q1 m1 d1 q2 m2 d2 q3 m3 d3 x7 t t' true false false w2 (keepB hS (grown_trans hg hg2)) (keepB hS2 (grown_trans hg hg2)) (box1c (keepB hN (grown_trans hg hg2))).1 (box1c (keepB hN2 (grown_trans hg hg2))).1 (HX.out.keep (grown_trans hgW (grown_trans hg hg2))) (HX'.out.keep (grown_trans hgW (grown_trans hg hg2))) (by simp) (by first | exact HV.out | exact ⟨fun _ => HV.out.1 trivial, fun _ => rfl⟩) (by simp))
    have HQ2 := hid fun w' (hg : w7.grownBy w' none) => equalP (.slice (some ⟨K + 1, 0, none⟩) 1 1) (.slice none 0 0) false w' ⟨_, _, _, rfl⟩ ⟨_, _, _, rfl⟩ (fun w2 hg2 => eqFnS0 ⟨K + 1, 0, none⟩ _ w2)
    obtain ⟨i0, fi⟩ := box1c hP
    obtain ⟨j0, fj⟩ := box1c hP2
    have hgr := grown_refl w7 none
    go_upto_region 10 with (first
      | (go_at_call 8; with_reducible refine (HQ1.out _ hgr).mono ?_; rintro e w8 ⟨rfl, hg⟩; replace hgr := grown_trans hgr hg; replace i0 := hg.cell i0 (by simp); replace j0 := hg.cell j0 (by simp); clear HQ1 hg)
      | (go_at_call 8; with_reducible refine (HQ2.out _ hgr).mono ?_; rintro e w9 ⟨rfl, hg⟩; replace hgr := grown_trans hgr hg; replace i0 := hg.cell i0 (by simp); replace j0 := hg.cell j0 (by simp); clear HQ2 hg))
    have hK9 : K + 6 ≤ w9.heap.size := by have := hgr.size; omega
    replace hgW := grown_trans hgW hgr
    replace hN := keepB hN hgr
    replace hS := keepB hS hgr
    replace hP := keepB hP hgr
    replace hS2 := keepB hS2 hgr
    replace hP2 := keepB hP2 hgr
    clear hN2 hgr i0 j0 fi fj
    have gM := World.grownBy_alloc w9 (.cells #[.string ⟨#[66]⟩] 9 (0, 0)) none
    have hM := blk0 w9 (.cells #[.string ⟨#[66]⟩] 9 (0, 0))
    replace hS2 := keepB hS2 gM
    obtain ⟨j0, fj⟩ := box1c (keepB hP2 gM)
    have j1 := (box1c hP2).1
    have fs := (box10 hS2).2 1
    have cs1 := (box10 hS2).1.2.1
    go_upto_region 11 with fail
    have hgs := grown_setCell (w9.alloc (.cells #[.string ⟨#[66]⟩] 9 (0, 0))) ⟨K + 4, 1, none⟩ (.slice (some ⟨w9.heap.size, 0, none⟩) 1 1)
    have hst := heap_setCell_same (w9.alloc (.cells #[.string ⟨#[66]⟩] 9 (0, 0))) (K + 4) 1 _ _ (.slice (some ⟨w9.heap.size, 0, none⟩) 1 1) hS2
    simp at hst
    replace hgW := set1_grown (grown_trans hgW gM) (K + 4) 1 (.slice (some ⟨w9.heap.size, 0, none⟩) 1 1) (by omega)
    replace hN := (hgs.block K (lt_of_block (keepB hN gM)) (by simp)).trans (keepB hN gM)
    replace hS := (hgs.block (K + 1) (lt_of_block (keepB hS gM)) (by simp)).trans (keepB hS gM)
    replace hP := (hgs.block (K + 2) (lt_of_block (keepB hP gM)) (by simp)).trans (keepB hP gM)
    replace hP2 := (hgs.block (K + 5) (lt_of_block (keepB hP2 gM)) (by simp)).trans (keepB hP2 gM)
    replace hM := (hgs.block w9.heap.size (lt_of_block hM) (by simp; omega)).trans hM
    have hK10 := hgs.size
    have hK11 := gM.size
    clear hS2 gM hgs j0 fj fs j1 cs1
    generalize ((w9.alloc _).setCell _ _) = w10 at *
    generalize w9.heap.size = M at *
    have hK12 : K + 6 ≤ w10.heap.size := by omega
    clear hK10 hK11
    have hN2 := hM
    have hS2 := hst
    have HQ3 := hid fun w' (hg : w10.grownBy w' none) => equalP (.slice (some ⟨K + 1, 0, none⟩) 1 1) (.slice (some ⟨K + 4, 0, none⟩) 1 1) false w' ⟨_, _, _, rfl⟩ ⟨_, _, _, rfl⟩ (fun w2 hg2 => eqFnS1 (K + 1) (K + 4) m m' K M ⟨#[65]⟩ ⟨#[66]⟩ 2 2 d 0 e1 e2 e3 p1 n1 c1 p2 n2 c2 p3 n3 c3 e7 x1 x2 x3 q1 m1 d1 q2 m2 d2 q3 m3 d3 x7 t t' false false false w2 (keepB hS (grown_trans hg hg2)) (keepB hS2 (grown_trans hg hg2)) (box1c (keepB hN (grown_trans hg hg2))).1 (box1c (keepB hN2 (grown_trans hg hg2))).1 (HX.out.keep (grown_trans hgW (grown_trans hg hg2))) (HX'.out.keep (grown_trans hgW (grown_trans hg hg2))) (by kernel_rfl) (by first | exact HV.out | exact ⟨fun _ => HV.out.1 trivial, fun _ => rfl⟩) (by simp))
    obtain ⟨i0, fi⟩ := box1c hP
    obtain ⟨j0, fj⟩ := box1c hP2
    go_upto_region 13 with (go_at_call 8; with_reducible refine (HQ3.out _ (grown_refl w10 none)).mono ?_; rintro e w11 ⟨rfl, hgr⟩)
    have hK13 : K + 6 ≤ w11.heap.size := by have := hgr.size; omega
    replace hgW := grown_trans hgW hgr
    replace hN := keepB hN hgr
    replace hS := keepB hS hgr
    replace hP := keepB hP hgr
    replace hS2 := keepB hS2 hgr
    replace hP2 := keepB hP2 hgr
    clear hN2 hM hst hgr i0 j0 fi fj HQ3
    have gM := World.grownBy_alloc w11 (.cells #[.string ⟨#[65]⟩] 9 (0, 0)) none
    have hM := blk0 w11 (.cells #[.string ⟨#[65]⟩] 9 (0, 0))
    replace hS2 := keepB hS2 gM
    obtain ⟨j0, fj⟩ := box1c (keepB hP2 gM)
    have j1 := (box1c hP2).1
    have fs := (box10 hS2).2 1
    have cs1 := (box10 hS2).1.2.1
    go_upto_region 14 with fail
    have hgs := grown_setCell (w11.alloc (.cells #[.string ⟨#[65]⟩] 9 (0, 0))) ⟨K + 4, 1, none⟩ (.slice (some ⟨w11.heap.size, 0, none⟩) 1 1)
    have hst := heap_setCell_same (w11.alloc (.cells #[.string ⟨#[65]⟩] 9 (0, 0))) (K + 4) 1 _ _ (.slice (some ⟨w11.heap.size, 0, none⟩) 1 1) hS2
    simp at hst
    replace hgW := set1_grown (grown_trans hgW gM) (K + 4) 1 (.slice (some ⟨w11.heap.size, 0, none⟩) 1 1) (by omega)
    replace hN := (hgs.block K (lt_of_block (keepB hN gM)) (by simp)).trans (keepB hN gM)
    replace hS := (hgs.block (K + 1) (lt_of_block (keepB hS gM)) (by simp)).trans (keepB hS gM)
    replace hP := (hgs.block (K + 2) (lt_of_block (keepB hP gM)) (by simp)).trans (keepB hP gM)
    replace hP2 := (hgs.block (K + 5) (lt_of_block (keepB hP2 gM)) (by simp)).trans (keepB hP2 gM)
    replace hM := (hgs.block w11.heap.size (lt_of_block hM) (by simp; omega)).trans hM
    clear hS2 gM hgs j0 fj fs j1 cs1
    generalize ((w11.alloc _).setCell _ _) = w12 at *
    generalize w11.heap.size = M2 at *
    obtain ⟨i0, fi⟩ := box1c hP
    obtain ⟨j0, fj⟩ := box1c hP2
    have fs := (box10 hst).2 0
    have cs0 := (box10 hst).1.1
    have hgs := grown_setCell w12 ⟨K + 4, 0, none⟩ (.int .i64 3)
    have hS2 := heap_setCell_same w12 (K + 4) 0 _ _ (.int .i64 3) hst
    simp at hS2
    replace hgW := set1_grown hgW (K + 4) 0 (.int .i64 3) (by omega)
    replace hN := (hgs.block K (lt_of_block hN) (by simp)).trans hN
    replace hS := (hgs.block (K + 1) (lt_of_block hS) (by simp)).trans hS
    replace hP := (hgs.block (K + 2) (lt_of_block hP) (by simp)).trans hP
    replace hP2 := (hgs.block (K + 5) (lt_of_block hP2) (by simp)).trans hP2
    replace hM := (hgs.block M2 (lt_of_block hM) (by simp; omega)).trans hM
    clear hst hgs
    have hN2 := hM
    have HQ4 := hid fun w' (hg : (w12.setCell ⟨K + 4, 0, none⟩ (.int .i64 3)).grownBy w' none) => equalP (.slice (some ⟨K + 1, 0, none⟩) 1 1) (.slice (some ⟨K + 4, 0, none⟩) 1 1) false w' ⟨_, _, _, rfl⟩ ⟨_, _, _, rfl⟩ (fun w2 hg2 => eqFnS1 (K + 1) (K + 4) m m' K M2 ⟨#[65]⟩ ⟨#[65]⟩ 2 3 d 0 e1 e2 e3 p1 n1 c1 p2 n2 c2 p3 n3 c3 e7 x1 x2 x3 q1 m1 d1 q2 m2 d2 q3 m3 d3 x7 t t' true false false w2 (keepB hS (grown_trans hg hg2)) (keepB hS2 (grown_trans hg hg2)) (box1c (keepB hN (grown_trans hg hg2))).1 (box1c (keepB hN2 (grown_trans hg hg2))).1 (HX.out.keep (grown_trans hgW (grown_trans hg hg2))) (HX'.out.keep (grown_trans hgW (grown_trans hg hg2))) (by simp) (by first | exact HV.out | exact ⟨fun _ => HV.out.1 trivial, fun _ => rfl⟩) (by simp))
    clear hN hS hP hP2 hM hN2 hS2
    go_wp2_with (go_at_call 8; with_reducible refine (HQ4.out _ (grown_refl _ none)).mono ?_; rintro e w14 ⟨rfl, hgr⟩)
    go_ret
    exact ⟨rfl, grown_trans hgW hgr⟩
  · go_enter Try.func3, Try.ntmps3
    go_upto_region 1 with fail
    generalize ((w.alloc _).alloc _) = w0 at *
    go_wp2_with (first | (go_at_call 4; refine (HSM.out _ hgr).mono ?_; rintro e w1 ⟨rfl, hg⟩; replace hgr := grown_trans hgr hg; replace a0 := hg.cell a0 (by simp); replace a1 := hg.cell a1 (by simp); replace a2 := hg.cell a2 (by simp); replace a3 := hg.cell a3 (by simp); replace a4 := hg.cell a4 (by simp); replace a5 := hg.cell a5 (by simp); replace a6 := hg.cell a6 (by simp); replace b0 := hg.cell b0 (by simp); replace b1 := hg.cell b1 (by simp); replace b2 := hg.cell b2 (by simp); replace b3 := hg.cell b3 (by simp); replace b4 := hg.cell b4 (by simp); replace b5 := hg.cell b5 (by simp); replace b6 := hg.cell b6 (by simp); clear HSM hg) | (go_at_call 4; refine (HSM'.out _ hgr).mono ?_; rintro e w1 ⟨rfl, hg⟩; replace hgr := grown_trans hgr hg; replace a0 := hg.cell a0 (by simp); replace a1 := hg.cell a1 (by simp); replace a2 := hg.cell a2 (by simp); replace a3 := hg.cell a3 (by simp); replace a4 := hg.cell a4 (by simp); replace a5 := hg.cell a5 (by simp); replace a6 := hg.cell a6 (by simp); replace b0 := hg.cell b0 (by simp); replace b1 := hg.cell b1 (by simp); replace b2 := hg.cell b2 (by simp); replace b3 := hg.cell b3 (by simp); replace b4 := hg.cell b4 (by simp); replace b5 := hg.cell b5 (by simp); replace b6 := hg.cell b6 (by simp); clear HSM' hg) | (go_at_call 5; refine (HRE.out _ hgr).mono ?_; rintro e w3 ⟨rfl, hg⟩; replace hgr := grown_trans hgr hg; replace a0 := hg.cell a0 (by simp); replace a1 := hg.cell a1 (by simp); replace a2 := hg.cell a2 (by simp); replace a3 := hg.cell a3 (by simp); replace a4 := hg.cell a4 (by simp); replace a5 := hg.cell a5 (by simp); replace a6 := hg.cell a6 (by simp); replace b0 := hg.cell b0 (by simp); replace b1 := hg.cell b1 (by simp); replace b2 := hg.cell b2 (by simp); replace b3 := hg.cell b3 (by simp); replace b4 := hg.cell b4 (by simp); replace b5 := hg.cell b5 (by simp); replace b6 := hg.cell b6 (by simp); clear HRE hg))
    have HW3 := hid hgr
    have HS3 : Hid (w.heap.size + 2 ≤ w3.heap.size) := hid (by have := World.block_lt_of_cell? w3 _ b0; simp at this; omega)
    have HE1 := hid fun w' (hg : w3.grownBy w' none) => HEQ.out w' (grown_trans HW3.out hg)
    have HMV := hid fun w' (hg : w3.grownBy w' none) => moved_any m (fun _ => False) _ t d w' (fun b hb => hb.elim) (ERd.erdX (HX.out.keep (grown_trans HW3.out hg))) HSZ.out
    have HE2 := hid fun w' (cs9 : List Value) (hg : w3.grownBy w' none) (h9 : ERd w' m cs9 (movF m d t)) => equalExpr_ok m m _ _ t (movF m d t) true w' (HX.out.keep (grown_trans HW3.out hg)) h9 ⟨fun _ => EqP.mov d HX.out, fun _ => rfl⟩
    replace hgr := grown_refl w3 none
    go_region_held3 (fun w' => w'.cell? ⟨w.heap.size, 0, none⟩ = some (.int .i64 e1) ∧ w'.cell? ⟨w.heap.size, 1, none⟩ = some (.string e2) ∧ w'.cell? ⟨w.heap.size, 2, none⟩ = some (.bool e3) ∧ w'.cell? ⟨w.heap.size, 3, none⟩ = some (.slice p1 n1 c1) ∧ w'.cell? ⟨w.heap.size, 4, none⟩ = some (.slice p2 n2 c2) ∧ w'.cell? ⟨w.heap.size, 5, none⟩ = some (.slice p3 n3 c3) ∧ w'.cell? ⟨w.heap.size, 6, none⟩ = some (.int .i64 e7) ∧ w'.cell? ⟨w.heap.size + 1, 0, none⟩ = some (.int .i64 x1) ∧ w'.cell? ⟨w.heap.size + 1, 1, none⟩ = some (.string x2) ∧ w'.cell? ⟨w.heap.size + 1, 2, none⟩ = some (.bool x3) ∧ w'.cell? ⟨w.heap.size + 1, 3, none⟩ = some (.slice q1 m1 d1) ∧ w'.cell? ⟨w.heap.size + 1, 4, none⟩ = some (.slice q2 m2 d2) ∧ w'.cell? ⟨w.heap.size + 1, 5, none⟩ = some (.slice q3 m3 d3) ∧ w'.cell? ⟨w.heap.size + 1, 6, none⟩ = some (.int .i64 x7) ∧ w3.grownBy w' none) ((try go_split_ands) <;> (repeat' apply And.intro) <;> (first | (with_reducible assumption) | (with_reducible refine (grown_drew _ none).cell ?_ (by simp); with_reducible assumption) | (with_reducible refine grown_trans ?_ (grown_drew _ none); with_reducible assumption))) (first | (go_at_call 6; (first | with_reducible refine (HE1.out _ hgr).mono ?_ | with_reducible refine (HE1.out _ (grown_trans hgr (grown_drew _ none))).mono ?_); rintro e w4 ⟨rfl, hg⟩; (first | replace hgr := grown_trans hgr hg | replace hgr := grown_trans (grown_trans hgr (grown_drew _ none)) hg); replace a0 := hg.cell a0 (by simp); replace a1 := hg.cell a1 (by simp); replace a2 := hg.cell a2 (by simp); replace a3 := hg.cell a3 (by simp); replace a4 := hg.cell a4 (by simp); replace a5 := hg.cell a5 (by simp); replace a6 := hg.cell a6 (by simp); replace b0 := hg.cell b0 (by simp); replace b1 := hg.cell b1 (by simp); replace b2 := hg.cell b2 (by simp); replace b3 := hg.cell b3 (by simp); replace b4 := hg.cell b4 (by simp); replace b5 := hg.cell b5 (by simp); replace b6 := hg.cell b6 (by simp)) | (go_at_call 7; (first | with_reducible refine (HMV.out _ hgr).mono ?_ | with_reducible refine (HMV.out _ (grown_trans hgr (grown_drew _ none))).mono ?_); rintro e w4 ⟨cs9, rfl, hM, hg⟩; (first | replace hgr := grown_trans hgr hg | replace hgr := grown_trans (grown_trans hgr (grown_drew _ none)) hg); replace a0 := hg.cell a0 (by simp); replace a1 := hg.cell a1 (by simp); replace a2 := hg.cell a2 (by simp); replace a3 := hg.cell a3 (by simp); replace a4 := hg.cell a4 (by simp); replace a5 := hg.cell a5 (by simp); replace a6 := hg.cell a6 (by simp); replace b0 := hg.cell b0 (by simp); replace b1 := hg.cell b1 (by simp); replace b2 := hg.cell b2 (by simp); replace b3 := hg.cell b3 (by simp); replace b4 := hg.cell b4 (by simp); replace b5 := hg.cell b5 (by simp); replace b6 := hg.cell b6 (by simp); obtain ⟨y1, y2, y3, s1, r1, t1, s2, r2, t2, s3, r3, t3, y7, rfl⟩ := hM.erd.shape; have HME := hid hM.erd; clear hM) | (go_at_call 6; (first | with_reducible refine (HE2.out _ _ hgr (HME.out)).mono ?_ | with_reducible refine (HE2.out _ _ (grown_trans hgr (grown_drew _ none)) (HME.out.keep (grown_drew _ none))).mono ?_); rintro e w5 ⟨rfl, hg⟩; (first | replace hgr := grown_trans hgr hg | replace hgr := grown_trans (grown_trans hgr (grown_drew _ none)) hg); replace a0 := hg.cell a0 (by simp); replace a1 := hg.cell a1 (by simp); replace a2 := hg.cell a2 (by simp); replace a3 := hg.cell a3 (by simp); replace a4 := hg.cell a4 (by simp); replace a5 := hg.cell a5 (by simp); replace a6 := hg.cell a6 (by simp); replace b0 := hg.cell b0 (by simp); replace b1 := hg.cell b1 (by simp); replace b2 := hg.cell b2 (by simp); replace b3 := hg.cell b3 (by simp); replace b4 := hg.cell b4 (by simp); replace b5 := hg.cell b5 (by simp); replace b6 := hg.cell b6 (by simp)))
    go_upto_region 6 with fail
    have hgW := grown_trans HW3.out hgr
    have HG5 := hid hgW
    have HGQ := hid hgr
    clear hgr HE1 HMV HE2
    have hs5 : w.heap.size + 2 ≤ w5.heap.size := by have h1 := HS3.out; have h2 := HGQ.out.size; omega
    have hgN := World.grownBy_alloc w5 (.cells #[.string ⟨#[65]⟩] 9 (0, 0)) none
    replace a0 := hgN.cell a0 (by simp); replace a1 := hgN.cell a1 (by simp); replace a2 := hgN.cell a2 (by simp); replace a3 := hgN.cell a3 (by simp); replace a4 := hgN.cell a4 (by simp); replace a5 := hgN.cell a5 (by simp); replace a6 := hgN.cell a6 (by simp); replace b0 := hgN.cell b0 (by simp); replace b1 := hgN.cell b1 (by simp); replace b2 := hgN.cell b2 (by simp); replace b3 := hgN.cell b3 (by simp); replace b4 := hgN.cell b4 (by simp); replace b5 := hgN.cell b5 (by simp); replace b6 := hgN.cell b6 (by simp)
    obtain ⟨z0, fz⟩ := box1c (blk0 ((w5.alloc (.cells #[.string ⟨#[65]⟩] 9 (0, 0))).alloc (.cells #[.int .i64 2, .slice (some ⟨w5.heap.size, 0, none⟩) 1 1, .int .i64 e1, .string e2, .bool e3, .slice p1 n1 c1, .slice p2 n2 c2, .slice p3 n3 c3, .int .i64 e7, .int .i64 d] 36 (0, 0))) (.cells #[.slice none 0 0] 39 (0, 0)))
    rw [show ((w5.alloc (.cells #[.string ⟨#[65]⟩] 9 (0, 0))).alloc (.cells #[.int .i64 2, .slice (some ⟨w5.heap.size, 0, none⟩) 1 1, .int .i64 e1, .string e2, .bool e3, .slice p1 n1 c1, .slice p2 n2 c2, .slice p3 n3 c3, .int .i64 e7, .int .i64 d] 36 (0, 0))).heap.size = w5.heap.size + 2 by simp] at z0 fz
    go_upto_region 7 with fail
    have hN := blk2 w5 (.cells #[.string ⟨#[65]⟩] 9 (0, 0)) (.cells #[.int .i64 2, .slice (some ⟨w5.heap.size, 0, none⟩) 1 1, .int .i64 e1, .string e2, .bool e3, .slice p1 n1 c1, .slice p2 n2 c2, .slice p3 n3 c3, .int .i64 e7, .int .i64 d] 36 (0, 0)) (.cells #[.slice (some ⟨w5.heap.size + 1, 0, none⟩) 1 1] 39 (0, 0))
    have hS := blk1 (w5.alloc (.cells #[.string ⟨#[65]⟩] 9 (0, 0))) (.cells #[.int .i64 2, .slice (some ⟨w5.heap.size, 0, none⟩) 1 1, .int .i64 e1, .string e2, .bool e3, .slice p1 n1 c1, .slice p2 n2 c2, .slice p3 n3 c3, .int .i64 e7, .int .i64 d] 36 (0, 0)) (.cells #[.slice (some ⟨w5.heap.size + 1, 0, none⟩) 1 1] 39 (0, 0))
    have hP := blk0 ((w5.alloc (.cells #[.string ⟨#[65]⟩] 9 (0, 0))).alloc (.cells #[.int .i64 2, .slice (some ⟨w5.heap.size, 0, none⟩) 1 1, .int .i64 e1, .string e2, .bool e3, .slice p1 n1 c1, .slice p2 n2 c2, .slice p3 n3 c3, .int .i64 e7, .int .i64 d] 36 (0, 0))) (.cells #[.slice (some ⟨w5.heap.size + 1, 0, none⟩) 1 1] 39 (0, 0))
    rw [show (w5.alloc (.cells #[.string ⟨#[65]⟩] 9 (0, 0))).heap.size = w5.heap.size + 1 by simp] at hS
    rw [show ((w5.alloc (.cells #[.string ⟨#[65]⟩] 9 (0, 0))).alloc (.cells #[.int .i64 2, .slice (some ⟨w5.heap.size, 0, none⟩) 1 1, .int .i64 e1, .string e2, .bool e3, .slice p1 n1 c1, .slice p2 n2 c2, .slice p3 n3 c3, .int .i64 e7, .int .i64 d] 36 (0, 0))).heap.size = w5.heap.size + 2 by simp] at hP
    have hsz6 : (((w5.alloc (.cells #[.string ⟨#[65]⟩] 9 (0, 0))).alloc (.cells #[.int .i64 2, .slice (some ⟨w5.heap.size, 0, none⟩) 1 1, .int .i64 e1, .string e2, .bool e3, .slice p1 n1 c1, .slice p2 n2 c2, .slice p3 n3 c3, .int .i64 e7, .int .i64 d] 36 (0, 0))).alloc (.cells #[.slice (some ⟨w5.heap.size + 1, 0, none⟩) 1 1] 39 (0, 0))).heap.size = w5.heap.size + 3 := by simp
    have hg := grown_trans (World.grownBy_alloc w5 (.cells #[.string ⟨#[65]⟩] 9 (0, 0)) none) (grown_trans (World.grownBy_alloc _ (.cells #[.int .i64 2, .slice (some ⟨w5.heap.size, 0, none⟩) 1 1, .int .i64 e1, .string e2, .bool e3, .slice p1 n1 c1, .slice p2 n2 c2, .slice p3 n3 c3, .int .i64 e7, .int .i64 d] 36 (0, 0)) none) (World.grownBy_alloc _ (.cells #[.slice (some ⟨w5.heap.size + 1, 0, none⟩) 1 1] 39 (0, 0)) none))
    replace hgW := grown_trans hgW hg
    have hg2 := grown_trans (World.grownBy_alloc (w5.alloc (.cells #[.string ⟨#[65]⟩] 9 (0, 0))) (.cells #[.int .i64 2, .slice (some ⟨w5.heap.size, 0, none⟩) 1 1, .int .i64 e1, .string e2, .bool e3, .slice p1 n1 c1, .slice p2 n2 c2, .slice p3 n3 c3, .int .i64 e7, .int .i64 d] 36 (0, 0)) none) (World.grownBy_alloc _ (.cells #[.slice (some ⟨w5.heap.size + 1, 0, none⟩) 1 1] 39 (0, 0)) none)
    replace a0 := hg2.cell a0 (by simp); replace a1 := hg2.cell a1 (by simp); replace a2 := hg2.cell a2 (by simp); replace a3 := hg2.cell a3 (by simp); replace a4 := hg2.cell a4 (by simp); replace a5 := hg2.cell a5 (by simp); replace a6 := hg2.cell a6 (by simp); replace b0 := hg2.cell b0 (by simp); replace b1 := hg2.cell b1 (by simp); replace b2 := hg2.cell b2 (by simp); replace b3 := hg2.cell b3 (by simp); replace b4 := hg2.cell b4 (by simp); replace b5 := hg2.cell b5 (by simp); replace b6 := hg2.cell b6 (by simp)
    clear z0 fz hg hg2 hgN
    generalize (((w5.alloc _).alloc _).alloc _) = w6 at *
    generalize w5.heap.size = K at *
    have hgN := World.grownBy_alloc w6 (.cells #[.string ⟨#[65]⟩] 9 (0, 0)) none
    replace a0 := hgN.cell a0 (by simp); replace a1 := hgN.cell a1 (by simp); replace a2 := hgN.cell a2 (by simp); replace a3 := hgN.cell a3 (by simp); replace a4 := hgN.cell a4 (by simp); replace a5 := hgN.cell a5 (by simp); replace a6 := hgN.cell a6 (by simp); replace b0 := hgN.cell b0 (by simp); replace b1 := hgN.cell b1 (by simp); replace b2 := hgN.cell b2 (by simp); replace b3 := hgN.cell b3 (by simp); replace b4 := hgN.cell b4 (by simp); replace b5 := hgN.cell b5 (by simp); replace b6 := hgN.cell b6 (by simp)
    obtain ⟨y0, fy⟩ := box1c (blk0 ((w6.alloc (.cells #[.string ⟨#[65]⟩] 9 (0, 0))).alloc (.cells #[.int .i64 2, .slice (some ⟨K + 3, 0, none⟩) 1 1, .int .i64 x1, .string x2, .bool x3, .slice q1 m1 d1, .slice q2 m2 d2, .slice q3 m3 d3, .int .i64 x7, .int .i64 0] 36 (0, 0))) (.cells #[.slice none 0 0] 39 (0, 0)))
    rw [show ((w6.alloc (.cells #[.string ⟨#[65]⟩] 9 (0, 0))).alloc (.cells #[.int .i64 2, .slice (some ⟨K + 3, 0, none⟩) 1 1, .int .i64 x1, .string x2, .bool x3, .slice q1 m1 d1, .slice q2 m2 d2, .slice q3 m3 d3, .int .i64 x7, .int .i64 0] 36 (0, 0))).heap.size = K + 5 by simp [hsz6]] at y0 fy
    go_upto_region 8 with fail
    have hN2 := blk2 w6 (.cells #[.string ⟨#[65]⟩] 9 (0, 0)) (.cells #[.int .i64 2, .slice (some ⟨K + 3, 0, none⟩) 1 1, .int .i64 x1, .string x2, .bool x3, .slice q1 m1 d1, .slice q2 m2 d2, .slice q3 m3 d3, .int .i64 x7, .int .i64 0] 36 (0, 0)) (.cells #[.slice (some ⟨K + 4, 0, none⟩) 1 1] 39 (0, 0))
    have hS2 := blk1 (w6.alloc (.cells #[.string ⟨#[65]⟩] 9 (0, 0))) (.cells #[.int .i64 2, .slice (some ⟨K + 3, 0, none⟩) 1 1, .int .i64 x1, .string x2, .bool x3, .slice q1 m1 d1, .slice q2 m2 d2, .slice q3 m3 d3, .int .i64 x7, .int .i64 0] 36 (0, 0)) (.cells #[.slice (some ⟨K + 4, 0, none⟩) 1 1] 39 (0, 0))
    have hP2 := blk0 ((w6.alloc (.cells #[.string ⟨#[65]⟩] 9 (0, 0))).alloc (.cells #[.int .i64 2, .slice (some ⟨K + 3, 0, none⟩) 1 1, .int .i64 x1, .string x2, .bool x3, .slice q1 m1 d1, .slice q2 m2 d2, .slice q3 m3 d3, .int .i64 x7, .int .i64 0] 36 (0, 0))) (.cells #[.slice (some ⟨K + 4, 0, none⟩) 1 1] 39 (0, 0))
    rw [hsz6] at hN2
    rw [show (w6.alloc (.cells #[.string ⟨#[65]⟩] 9 (0, 0))).heap.size = K + 4 by simp [hsz6]] at hS2
    rw [show ((w6.alloc (.cells #[.string ⟨#[65]⟩] 9 (0, 0))).alloc (.cells #[.int .i64 2, .slice (some ⟨K + 3, 0, none⟩) 1 1, .int .i64 x1, .string x2, .bool x3, .slice q1 m1 d1, .slice q2 m2 d2, .slice q3 m3 d3, .int .i64 x7, .int .i64 0] 36 (0, 0))).heap.size = K + 5 by simp [hsz6]] at hP2
    have hsz7 : (((w6.alloc (.cells #[.string ⟨#[65]⟩] 9 (0, 0))).alloc (.cells #[.int .i64 2, .slice (some ⟨K + 3, 0, none⟩) 1 1, .int .i64 x1, .string x2, .bool x3, .slice q1 m1 d1, .slice q2 m2 d2, .slice q3 m3 d3, .int .i64 x7, .int .i64 0] 36 (0, 0))).alloc (.cells #[.slice (some ⟨K + 4, 0, none⟩) 1 1] 39 (0, 0))).heap.size = K + 6 := by simp [hsz6]
    have hg := grown_trans (World.grownBy_alloc w6 (.cells #[.string ⟨#[65]⟩] 9 (0, 0)) none) (grown_trans (World.grownBy_alloc _ (.cells #[.int .i64 2, .slice (some ⟨K + 3, 0, none⟩) 1 1, .int .i64 x1, .string x2, .bool x3, .slice q1 m1 d1, .slice q2 m2 d2, .slice q3 m3 d3, .int .i64 x7, .int .i64 0] 36 (0, 0)) none) (World.grownBy_alloc _ (.cells #[.slice (some ⟨K + 4, 0, none⟩) 1 1] 39 (0, 0)) none))
    replace hgW := grown_trans hgW hg
    replace hN := keepB hN hg
    replace hS := keepB hS hg
    replace hP := keepB hP hg
    clear y0 fy hg hgN a0 a1 a2 a3 a4 a5 a6 b0 b1 b2 b3 b4 b5 b6
    generalize (((w6.alloc _).alloc _).alloc _) = w7 at *
    have HQ1 := hid fun w' (hg : w7.grownBy w' none) => equalP (.slice (some ⟨K + 1, 0, none⟩) 1 1) (.slice (some ⟨K + 4, 0, none⟩) 1 1) true w' ⟨_, _, _, rfl⟩ ⟨_, _, _, rfl⟩ (fun w2 hg2 => eqFnS1 (K + 1) (K + 4) m m' K (K + 3) ⟨#[65]⟩ ⟨#[65]⟩ 2 2 d 0 e1 e2 e3 p1 n1 c1 p2 n2 c2 p3 n3 c3 e7 x1 x2 x3 q1 m1 d1 q2 m2 d2 q3 m3 d3 x7 t t' true true true w2 (keepB hS (grown_trans hg hg2)) (keepB hS2 (grown_trans hg hg2)) (box1c (keepB hN (grown_trans hg hg2))).1 (box1c (keepB hN2 (grown_trans hg hg2))).1 (HX.out.keep (grown_trans hgW (grown_trans hg hg2))) (HX'.out.keep (grown_trans hgW (grown_trans hg hg2))) (by simp) (by first | exact HV.out | exact ⟨fun _ => HV.out.1 trivial, fun _ => rfl⟩) (by simp))
    have HQ2 := hid fun w' (hg : w7.grownBy w' none) => equalP (.slice (some ⟨K + 1, 0, none⟩) 1 1) (.slice none 0 0) false w' ⟨_, _, _, rfl⟩ ⟨_, _, _, rfl⟩ (fun w2 hg2 => eqFnS0 ⟨K + 1, 0, none⟩ _ w2)
    obtain ⟨i0, fi⟩ := box1c hP
    obtain ⟨j0, fj⟩ := box1c hP2
    have hgr := grown_refl w7 none
    go_upto_region 10 with (first
      | (go_at_call 8; with_reducible refine (HQ1.out _ hgr).mono ?_; rintro e w8 ⟨rfl, hg⟩; replace hgr := grown_trans hgr hg; replace i0 := hg.cell i0 (by simp); replace j0 := hg.cell j0 (by simp); clear HQ1 hg)
      | (go_at_call 8; with_reducible refine (HQ2.out _ hgr).mono ?_; rintro e w9 ⟨rfl, hg⟩; replace hgr := grown_trans hgr hg; replace i0 := hg.cell i0 (by simp); replace j0 := hg.cell j0 (by simp); clear HQ2 hg))
    have hK9 : K + 6 ≤ w9.heap.size := by have := hgr.size; omega
    replace hgW := grown_trans hgW hgr
    replace hN := keepB hN hgr
    replace hS := keepB hS hgr
    replace hP := keepB hP hgr
    replace hS2 := keepB hS2 hgr
    replace hP2 := keepB hP2 hgr
    clear hN2 hgr i0 j0 fi fj
    have gM := World.grownBy_alloc w9 (.cells #[.string ⟨#[66]⟩] 9 (0, 0)) none
    have hM := blk0 w9 (.cells #[.string ⟨#[66]⟩] 9 (0, 0))
    replace hS2 := keepB hS2 gM
    obtain ⟨j0, fj⟩ := box1c (keepB hP2 gM)
    have j1 := (box1c hP2).1
    have fs := (box10 hS2).2 1
    have cs1 := (box10 hS2).1.2.1
    go_upto_region 11 with fail
    have hgs := grown_setCell (w9.alloc (.cells #[.string ⟨#[66]⟩] 9 (0, 0))) ⟨K + 4, 1, none⟩ (.slice (some ⟨w9.heap.size, 0, none⟩) 1 1)
    have hst := heap_setCell_same (w9.alloc (.cells #[.string ⟨#[66]⟩] 9 (0, 0))) (K + 4) 1 _ _ (.slice (some ⟨w9.heap.size, 0, none⟩) 1 1) hS2
    simp at hst
    replace hgW := set1_grown (grown_trans hgW gM) (K + 4) 1 (.slice (some ⟨w9.heap.size, 0, none⟩) 1 1) (by omega)
    replace hN := (hgs.block K (lt_of_block (keepB hN gM)) (by simp)).trans (keepB hN gM)
    replace hS := (hgs.block (K + 1) (lt_of_block (keepB hS gM)) (by simp)).trans (keepB hS gM)
    replace hP := (hgs.block (K + 2) (lt_of_block (keepB hP gM)) (by simp)).trans (keepB hP gM)
    replace hP2 := (hgs.block (K + 5) (lt_of_block (keepB hP2 gM)) (by simp)).trans (keepB hP2 gM)
    replace hM := (hgs.block w9.heap.size (lt_of_block hM) (by simp; omega)).trans hM
    have hK10 := hgs.size
    have hK11 := gM.size
    clear hS2 gM hgs j0 fj fs j1 cs1
    generalize ((w9.alloc _).setCell _ _) = w10 at *
    generalize w9.heap.size = M at *
    have hK12 : K + 6 ≤ w10.heap.size := by omega
    clear hK10 hK11
    have hN2 := hM
    have hS2 := hst
    have HQ3 := hid fun w' (hg : w10.grownBy w' none) => equalP (.slice (some ⟨K + 1, 0, none⟩) 1 1) (.slice (some ⟨K + 4, 0, none⟩) 1 1) false w' ⟨_, _, _, rfl⟩ ⟨_, _, _, rfl⟩ (fun w2 hg2 => eqFnS1 (K + 1) (K + 4) m m' K M ⟨#[65]⟩ ⟨#[66]⟩ 2 2 d 0 e1 e2 e3 p1 n1 c1 p2 n2 c2 p3 n3 c3 e7 x1 x2 x3 q1 m1 d1 q2 m2 d2 q3 m3 d3 x7 t t' false true false w2 (keepB hS (grown_trans hg hg2)) (keepB hS2 (grown_trans hg hg2)) (box1c (keepB hN (grown_trans hg hg2))).1 (box1c (keepB hN2 (grown_trans hg hg2))).1 (HX.out.keep (grown_trans hgW (grown_trans hg hg2))) (HX'.out.keep (grown_trans hgW (grown_trans hg hg2))) (by kernel_rfl) (by first | exact HV.out | exact ⟨fun _ => HV.out.1 trivial, fun _ => rfl⟩) (by simp))
    obtain ⟨i0, fi⟩ := box1c hP
    obtain ⟨j0, fj⟩ := box1c hP2
    go_upto_region 13 with (go_at_call 8; with_reducible refine (HQ3.out _ (grown_refl w10 none)).mono ?_; rintro e w11 ⟨rfl, hgr⟩)
    have hK13 : K + 6 ≤ w11.heap.size := by have := hgr.size; omega
    replace hgW := grown_trans hgW hgr
    replace hN := keepB hN hgr
    replace hS := keepB hS hgr
    replace hP := keepB hP hgr
    replace hS2 := keepB hS2 hgr
    replace hP2 := keepB hP2 hgr
    clear hN2 hM hst hgr i0 j0 fi fj HQ3
    have gM := World.grownBy_alloc w11 (.cells #[.string ⟨#[65]⟩] 9 (0, 0)) none
    have hM := blk0 w11 (.cells #[.string ⟨#[65]⟩] 9 (0, 0))
    replace hS2 := keepB hS2 gM
    obtain ⟨j0, fj⟩ := box1c (keepB hP2 gM)
    have j1 := (box1c hP2).1
    have fs := (box10 hS2).2 1
    have cs1 := (box10 hS2).1.2.1
    go_upto_region 14 with fail
    have hgs := grown_setCell (w11.alloc (.cells #[.string ⟨#[65]⟩] 9 (0, 0))) ⟨K + 4, 1, none⟩ (.slice (some ⟨w11.heap.size, 0, none⟩) 1 1)
    have hst := heap_setCell_same (w11.alloc (.cells #[.string ⟨#[65]⟩] 9 (0, 0))) (K + 4) 1 _ _ (.slice (some ⟨w11.heap.size, 0, none⟩) 1 1) hS2
    simp at hst
    replace hgW := set1_grown (grown_trans hgW gM) (K + 4) 1 (.slice (some ⟨w11.heap.size, 0, none⟩) 1 1) (by omega)
    replace hN := (hgs.block K (lt_of_block (keepB hN gM)) (by simp)).trans (keepB hN gM)
    replace hS := (hgs.block (K + 1) (lt_of_block (keepB hS gM)) (by simp)).trans (keepB hS gM)
    replace hP := (hgs.block (K + 2) (lt_of_block (keepB hP gM)) (by simp)).trans (keepB hP gM)
    replace hP2 := (hgs.block (K + 5) (lt_of_block (keepB hP2 gM)) (by simp)).trans (keepB hP2 gM)
    replace hM := (hgs.block w11.heap.size (lt_of_block hM) (by simp; omega)).trans hM
    clear hS2 gM hgs j0 fj fs j1 cs1
    generalize ((w11.alloc _).setCell _ _) = w12 at *
    generalize w11.heap.size = M2 at *
    obtain ⟨i0, fi⟩ := box1c hP
    obtain ⟨j0, fj⟩ := box1c hP2
    have fs := (box10 hst).2 0
    have cs0 := (box10 hst).1.1
    have hgs := grown_setCell w12 ⟨K + 4, 0, none⟩ (.int .i64 3)
    have hS2 := heap_setCell_same w12 (K + 4) 0 _ _ (.int .i64 3) hst
    simp at hS2
    replace hgW := set1_grown hgW (K + 4) 0 (.int .i64 3) (by omega)
    replace hN := (hgs.block K (lt_of_block hN) (by simp)).trans hN
    replace hS := (hgs.block (K + 1) (lt_of_block hS) (by simp)).trans hS
    replace hP := (hgs.block (K + 2) (lt_of_block hP) (by simp)).trans hP
    replace hP2 := (hgs.block (K + 5) (lt_of_block hP2) (by simp)).trans hP2
    replace hM := (hgs.block M2 (lt_of_block hM) (by simp; omega)).trans hM
    clear hst hgs
    have hN2 := hM
    have HQ4 := hid fun w' (hg : (w12.setCell ⟨K + 4, 0, none⟩ (.int .i64 3)).grownBy w' none) => equalP (.slice (some ⟨K + 1, 0, none⟩) 1 1) (.slice (some ⟨K + 4, 0, none⟩) 1 1) false w' ⟨_, _, _, rfl⟩ ⟨_, _, _, rfl⟩ (fun w2 hg2 => eqFnS1 (K + 1) (K + 4) m m' K M2 ⟨#[65]⟩ ⟨#[65]⟩ 2 3 d 0 e1 e2 e3 p1 n1 c1 p2 n2 c2 p3 n3 c3 e7 x1 x2 x3 q1 m1 d1 q2 m2 d2 q3 m3 d3 x7 t t' true true false w2 (keepB hS (grown_trans hg hg2)) (keepB hS2 (grown_trans hg hg2)) (box1c (keepB hN (grown_trans hg hg2))).1 (box1c (keepB hN2 (grown_trans hg hg2))).1 (HX.out.keep (grown_trans hgW (grown_trans hg hg2))) (HX'.out.keep (grown_trans hgW (grown_trans hg hg2))) (by simp) (by first | exact HV.out | exact ⟨fun _ => HV.out.1 trivial, fun _ => rfl⟩) (by simp))
    clear hN hS hP hP2 hM hN2 hS2
    go_wp2_with (go_at_call 8; with_reducible refine (HQ4.out _ (grown_refl _ none)).mono ?_; rintro e w14 ⟨rfl, hgr⟩)
    go_ret
    exact ⟨rfl, grown_trans hgW hgr⟩
end Go.Proofs.Ytolpcclobmgneaa
