/-
  The walk of AstMeasures.
-/
import Derived.Test.YtlkajmfpbgipbaaAstZ
import Derived.Test.YtlkajmfpbgipbaaAstP
import Derived.Test.YtlkajmfpbgipbaaAstU
import Derived.Test.YtlkajmfpbgipbaaAstR
import Derived.Deep.RegionWith
import Derived.Deep.RegionHeld3
set_option linter.unusedVariables false
set_option linter.unusedSimpArgs false
namespace Go.Proofs.Ytlkajmfpbgipbaa
open Go.RowKit _root_.Nm
set_option maxHeartbeats 4000000 in
set_option maxRecDepth 100000 in
theorem small_any (m : Nat) (cs : List Value) (t : Tr) (w : World) (hE : ERd w m cs t) : Calls Try.prog 30 #[.agg cs.toArray] w fun e w' => (∃ b, e = .returned (.bool b)) ∧ w.grownBy w' none := by
  obtain ⟨k, nm, g, pn, nn, cn, pd, nd, cd, pa, na, ca, pos, rfl⟩ := hE.shape
  have HA := hid (World.grownBy_alloc w (.cells #[.int .i64 k, .string nm, .bool g, .slice pn nn cn, .slice pd nd cd, .slice pa na ca, .int .i64 pos] 50 (0, 0)) none)
  have HC := hid (count_any m _ t _ (hE.keep HA.out))
  clear hE
  go_enter Try.func30, Try.ntmps30
  go_wp2_with (go_at_call 55; refine HC.out.mono ?_; rintro e w2 ⟨⟨z, rfl⟩, hg⟩)
  go_ret
  exact ⟨⟨_, rfl⟩, grown_trans HA.out hg⟩
theorem gfix : True := trivial
set_option maxHeartbeats 16000000 in
set_option maxRecDepth 100000 in
theorem astMeasures_walk (m : Nat) (cs : List Value) (t : Tr) (w : World) (hE : ERd w m cs t) (hlen : (preF m t).length ≤ 1048576) : Calls Try.prog 9 #[.agg cs.toArray] w fun e w' => e = .returned (.bool true) ∧ w.grownBy w' none := by
  obtain ⟨k, nm, g, pn, nn, cn, pd, nd, cd, pa, na, ca, pos, rfl⟩ := hE.shape
  have HA := hid (World.grownBy_alloc w (.cells #[.int .i64 k, .string nm, .bool g, .slice pn nn cn, .slice pd nd cd, .slice pa na ca, .int .i64 pos] 50 (0, 0)) none)
  obtain ⟨bs, hbs⟩ : ∃ b, decide (cntF m t ≤ 300) = b := ⟨_, rfl⟩
  have HSM := hid fun w' (hg : (w.alloc (.cells #[.int .i64 k, .string nm, .bool g, .slice pn nn cn, .slice pd nd cd, .slice pa na ca, .int .i64 pos] 50 (0, 0))).grownBy w' none) => small_e m _ t bs hbs w' (hE.keep (grown_trans HA.out hg))
  clear hbs
  have HN1 : Hid (∀ w', (w.alloc (.cells #[.int .i64 k, .string nm, .bool g, .slice pn nn cn, .slice pd nd cd, .slice pa na ca, .int .i64 pos] 50 (0, 0))).grownBy w' none → Calls Try.prog 32 #[.agg #[.int .i64 k, .string nm, .bool g, .slice pn nn cn, .slice pd nd cd, .slice pa na ca, .int .i64 pos]] w' fun e w2 => ∃ p c, e = .returned (.slice p (ded (preF m t)).length c) ∧ NRd w2 p (ded (preF m t)).length c (ded (preF m t)) ∧ w'.grownBy w2 none) := hid fun w' hg => (names_any m _ t w' (hE.keep (grown_trans HA.out hg)) hlen).mono fun e w2 ⟨p, n, c, h1, h2, h3⟩ => ⟨p, c, by rw [h2.len]; exact h1, by rw [h2.len]; exact h2, h3⟩
  have HN2 : Hid (∀ w', (w.alloc (.cells #[.int .i64 k, .string nm, .bool g, .slice pn nn cn, .slice pd nd cd, .slice pa na ca, .int .i64 pos] 50 (0, 0))).grownBy w' none → Calls Try.prog 33 #[.agg #[.int .i64 k, .string nm, .bool g, .slice pn nn cn, .slice pd nd cd, .slice pa na ca, .int .i64 pos]] w' fun e w2 => ∃ p c, e = .returned (.slice p (ded (preF m t)).length c) ∧ NRd w2 p (ded (preF m t)).length c (ded (preF m t)) ∧ w'.grownBy w2 none) := hid fun w' hg => (rnames_any m _ t w' (hE.keep (grown_trans HA.out hg)) hlen).mono fun e w2 ⟨p, n, c, h1, h2, h3⟩ => ⟨p, c, by rw [NRd.len (SOwn.rd h2)]; exact h1, by rw [NRd.len (SOwn.rd h2)]; exact SOwn.rd h2, h3⟩
  have HD1 := hid fun w' (hg : (w.alloc (.cells #[.int .i64 k, .string nm, .bool g, .slice pn nn cn, .slice pd nd cd, .slice pa na ca, .int .i64 pos] 50 (0, 0))).grownBy w' none) => depth_any m _ t w' (hE.keep (grown_trans HA.out hg))
  have HD2 := hid fun w' (hg : (w.alloc (.cells #[.int .i64 k, .string nm, .bool g, .slice pn nn cn, .slice pd nd cd, .slice pa na ca, .int .i64 pos] 50 (0, 0))).grownBy w' none) => rdepth_any m _ t w' (hE.keep (grown_trans HA.out hg))
  generalize depF m t = dd at *
  generalize ded (preF m t) = DD at *
  obtain ⟨⟨k0, k1, k2, k3, k4, k5, k6⟩, f0, f1, f2, f3, f4, f5, f6⟩ := box7 (blk0 w (.cells #[.int .i64 k, .string nm, .bool g, .slice pn nn cn, .slice pd nd cd, .slice pa na ca, .int .i64 pos] 50 (0, 0)))
  have hgr := grown_refl (w.alloc (.cells #[.int .i64 k, .string nm, .bool g, .slice pn nn cn, .slice pd nd cd, .slice pa na ca, .int .i64 pos] 50 (0, 0))) none
  clear hE hlen f0 f1 f2 f3 f4 f5 f6
  cases bs
  · go_enter Try.func9, Try.ntmps9
    go_wp2_with fail
    refine wp_region_noPanic ?_
    refine wp_region_held_drew (S := (fun w' => w'.cell? ⟨w.heap.size, 0, none⟩ = some (.int .i64 k) ∧ w'.cell? ⟨w.heap.size, 1, none⟩ = some (.string nm) ∧ w'.cell? ⟨w.heap.size, 2, none⟩ = some (.bool g) ∧ w'.cell? ⟨w.heap.size, 3, none⟩ = some (.slice pn nn cn) ∧ w'.cell? ⟨w.heap.size, 4, none⟩ = some (.slice pd nd cd) ∧ w'.cell? ⟨w.heap.size, 5, none⟩ = some (.slice pa na ca) ∧ w'.cell? ⟨w.heap.size, 6, none⟩ = some (.int .i64 pos) ∧ (w.alloc (.cells #[.int .i64 k, .string nm, .bool g, .slice pn nn cn, .slice pd nd cd, .slice pa na ca, .int .i64 pos] 50 (0, 0))).grownBy w' none)) (by kernel_rfl) ?_ (fun hHeld => ?_)
    · ((try go_split_ands) <;> (repeat' apply And.intro) <;> (first | (with_reducible assumption) | (with_reducible refine (grown_drew _ none).cell ?_ (by simp); with_reducible assumption) | (with_reducible refine grown_trans ?_ (grown_drew _ none); with_reducible assumption)))
    (refine wpAnyH_take (i := 0) (oi := Oper.mk _ _ _ _ _ _) (v := ?_) rfl (by kernel_rfl) (by kernel_rfl) (by kernel_rfl) (fun _ _ _ h => h) (Or.inl ⟨by kernel_rfl, ?_⟩) (by assumption) ?_; rotate_left 1; focus (intro w hSw; (try dsimp only at hSw); (try obtain ⟨q0, q1, q2, q3, q4, q5, q6, q7⟩ := hSw); go_simp; (try (with_reducible rfl)); done); (try simp only [Act.put, List.setIfInBounds_toArray, List.set_cons_zero, List.set_cons_succ]))
    refine wpAnyH_ready (rs := [1]) (by kernel_rfl) (by simp) ?_
    refine AllReadyH.cons (o := Oper.mk _ _ _ _ _ _) rfl (fun K hK => ?_) AllReadyH.nil
    (try rw [if_pos (by kernel_rfl)])
    (first | ((go_at_call 30; (first | refine (HSM.out _ hgr).mono ?_ | refine (HSM.out _ (grown_trans hgr (grown_drew _ none))).mono ?_); rintro e w1 ⟨rfl, hg⟩; (first | replace hgr := grown_trans hgr hg | replace hgr := grown_trans (grown_trans hgr (grown_drew _ none)) hg); replace k0 := hg.cell k0 (by simp); replace k1 := hg.cell k1 (by simp); replace k2 := hg.cell k2 (by simp); replace k3 := hg.cell k3 (by simp); replace k4 := hg.cell k4 (by simp); replace k5 := hg.cell k5 (by simp); replace k6 := hg.cell k6 (by simp))) | (go_simp; ((go_at_call 30; (first | refine (HSM.out _ hgr).mono ?_ | refine (HSM.out _ (grown_trans hgr (grown_drew _ none))).mono ?_); rintro e w1 ⟨rfl, hg⟩; (first | replace hgr := grown_trans hgr hg | replace hgr := grown_trans (grown_trans hgr (grown_drew _ none)) hg); replace k0 := hg.cell k0 (by simp); replace k1 := hg.cell k1 (by simp); replace k2 := hg.cell k2 (by simp); replace k3 := hg.cell k3 (by simp); replace k4 := hg.cell k4 (by simp); replace k5 := hg.cell k5 (by simp); replace k6 := hg.cell k6 (by simp)))))
    refine hK.out _ _ ?_ (fun hNew => ?_)
    · (try dsimp only)
      ((try go_split_ands) <;> (repeat' apply And.intro) <;> (first | (with_reducible assumption) | (with_reducible refine (grown_drew _ none).cell ?_ (by simp); with_reducible assumption) | (with_reducible refine grown_trans ?_ (grown_drew _ none); with_reducible assumption)))
    clear hK K hHeld
    have hHeld := hNew
    clear hNew
    (try simp only [Act.put, List.setIfInBounds_toArray, List.set_cons_zero, List.set_cons_succ])
    (refine wpAnyH_take (i := 2) (oi := Oper.mk _ _ _ _ _ _) (v := ?_) rfl (by kernel_rfl) (by kernel_rfl) (by kernel_rfl) (fun _ _ _ h => h) (Or.inl ⟨by kernel_rfl, ?_⟩) (by assumption) ?_; rotate_left 1; focus (intro w hSw; (try dsimp only at hSw); (try obtain ⟨q0, q1, q2, q3, q4, q5, q6, q7⟩ := hSw); go_simp; (try (with_reducible rfl)); done); (try simp only [Act.put, List.setIfInBounds_toArray, List.set_cons_zero, List.set_cons_succ]))
    (refine wpAnyH_take (i := 3) (oi := Oper.mk _ _ _ _ _ _) (v := ?_) rfl (by kernel_rfl) (by kernel_rfl) (by kernel_rfl) (fun _ _ _ h => h) (Or.inl ⟨by kernel_rfl, ?_⟩) (by assumption) ?_; rotate_left 1; focus (intro w hSw; (try dsimp only at hSw); (try obtain ⟨q0, q1, q2, q3, q4, q5, q6, q7⟩ := hSw); go_simp; (try (with_reducible rfl)); done); (try simp only [Act.put, List.setIfInBounds_toArray, List.set_cons_zero, List.set_cons_succ]))
    (refine wpAnyH_take (i := 4) (oi := Oper.mk _ _ _ _ _ _) (v := undef) rfl (by kernel_rfl) (by kernel_rfl) (by kernel_rfl) (fun _ _ _ h => h) (Or.inr ⟨by kernel_rfl, rfl⟩) (by assumption) ?_; (try simp only [Act.put, List.setIfInBounds_toArray, List.set_cons_zero, List.set_cons_succ]))
    (refine wpAnyH_take (i := 5) (oi := Oper.mk _ _ _ _ _ _) (v := undef) rfl (by kernel_rfl) (by kernel_rfl) (by kernel_rfl) (fun _ _ _ h => h) (Or.inr ⟨by kernel_rfl, rfl⟩) (by assumption) ?_; (try simp only [Act.put, List.setIfInBounds_toArray, List.set_cons_zero, List.set_cons_succ]))
    (refine wpAnyH_take (i := 6) (oi := Oper.mk _ _ _ _ _ _) (v := undef) rfl (by kernel_rfl) (by kernel_rfl) (by kernel_rfl) (fun _ _ _ h => h) (Or.inr ⟨by kernel_rfl, rfl⟩) (by assumption) ?_; (try simp only [Act.put, List.setIfInBounds_toArray, List.set_cons_zero, List.set_cons_succ]))
    (refine wpAnyH_take (i := 7) (oi := Oper.mk _ _ _ _ _ _) (v := undef) rfl (by kernel_rfl) (by kernel_rfl) (by kernel_rfl) (fun _ _ _ h => h) (Or.inr ⟨by kernel_rfl, rfl⟩) (by assumption) ?_; (try simp only [Act.put, List.setIfInBounds_toArray, List.set_cons_zero, List.set_cons_succ]))
    (refine wpAnyH_take (i := 8) (oi := Oper.mk _ _ _ _ _ _) (v := undef) rfl (by kernel_rfl) (by kernel_rfl) (by kernel_rfl) (fun _ _ _ h => h) (Or.inr ⟨by kernel_rfl, rfl⟩) (by assumption) ?_; (try simp only [Act.put, List.setIfInBounds_toArray, List.set_cons_zero, List.set_cons_succ]))
    (refine wpAnyH_take (i := 9) (oi := Oper.mk _ _ _ _ _ _) (v := undef) rfl (by kernel_rfl) (by kernel_rfl) (by kernel_rfl) (fun _ _ _ h => h) (Or.inr ⟨by kernel_rfl, rfl⟩) (by assumption) ?_; (try simp only [Act.put, List.setIfInBounds_toArray, List.set_cons_zero, List.set_cons_succ]))
    (refine wpAnyH_take (i := 10) (oi := Oper.mk _ _ _ _ _ _) (v := undef) rfl (by kernel_rfl) (by kernel_rfl) (by kernel_rfl) (fun _ _ _ h => h) (Or.inr ⟨by kernel_rfl, rfl⟩) (by assumption) ?_; (try simp only [Act.put, List.setIfInBounds_toArray, List.set_cons_zero, List.set_cons_succ]))
    (refine wpAnyH_take (i := 11) (oi := Oper.mk _ _ _ _ _ _) (v := undef) rfl (by kernel_rfl) (by kernel_rfl) (by kernel_rfl) (fun _ _ _ h => h) (Or.inr ⟨by kernel_rfl, rfl⟩) (by assumption) ?_; (try simp only [Act.put, List.setIfInBounds_toArray, List.set_cons_zero, List.set_cons_succ]))
    (refine wpAnyH_take (i := 12) (oi := Oper.mk _ _ _ _ _ _) (v := undef) rfl (by kernel_rfl) (by kernel_rfl) (by kernel_rfl) (fun _ _ _ h => h) (Or.inr ⟨by kernel_rfl, rfl⟩) (by assumption) ?_; (try simp only [Act.put, List.setIfInBounds_toArray, List.set_cons_zero, List.set_cons_succ]))
    (refine wpAnyH_take (i := 13) (oi := Oper.mk _ _ _ _ _ _) (v := undef) rfl (by kernel_rfl) (by kernel_rfl) (by kernel_rfl) (fun _ _ _ h => h) (Or.inr ⟨by kernel_rfl, rfl⟩) (by assumption) ?_; (try simp only [Act.put, List.setIfInBounds_toArray, List.set_cons_zero, List.set_cons_succ]))
    (refine wpAnyH_take (i := 14) (oi := Oper.mk _ _ _ _ _ _) (v := undef) rfl (by kernel_rfl) (by kernel_rfl) (by kernel_rfl) (fun _ _ _ h => h) (Or.inr ⟨by kernel_rfl, rfl⟩) (by assumption) ?_; (try simp only [Act.put, List.setIfInBounds_toArray, List.set_cons_zero, List.set_cons_succ]))
    (refine wpAnyH_take (i := 15) (oi := Oper.mk _ _ _ _ _ _) (v := undef) rfl (by kernel_rfl) (by kernel_rfl) (by kernel_rfl) (fun _ _ _ h => h) (Or.inr ⟨by kernel_rfl, rfl⟩) (by assumption) ?_; (try simp only [Act.put, List.setIfInBounds_toArray, List.set_cons_zero, List.set_cons_succ]))
    (refine wpAnyH_take (i := 16) (oi := Oper.mk _ _ _ _ _ _) (v := ?_) rfl (by kernel_rfl) (by kernel_rfl) (by kernel_rfl) (fun _ _ _ h => h) (Or.inl ⟨by kernel_rfl, ?_⟩) (by assumption) ?_; rotate_left 1; focus (intro w hSw; (try dsimp only at hSw); (try obtain ⟨q0, q1, q2, q3, q4, q5, q6, q7⟩ := hSw); go_simp; (try (with_reducible rfl)); done); (try simp only [Act.put, List.setIfInBounds_toArray, List.set_cons_zero, List.set_cons_succ]))
    (refine wpAnyH_take (i := 17) (oi := Oper.mk _ _ _ _ _ _) (v := ?_) rfl (by kernel_rfl) (by kernel_rfl) (by kernel_rfl) (fun _ _ _ h => h) (Or.inl ⟨by kernel_rfl, ?_⟩) (by assumption) ?_; rotate_left 1; focus (intro w hSw; (try dsimp only at hSw); (try obtain ⟨q0, q1, q2, q3, q4, q5, q6, q7⟩ := hSw); go_simp; (try (with_reducible rfl)); done); (try simp only [Act.put, List.setIfInBounds_toArray, List.set_cons_zero, List.set_cons_succ]))
    refine wpAnyH_done (by kernel_rfl) ?_ _
    refine NoPanic.normal ?_
    go_wp2_with fail
    go_ret
    exact ⟨rfl, grown_trans HA.out hgr⟩
  · go_enter Try.func9, Try.ntmps9
    go_wp2_with fail
    go_region_held3 (fun w' => w'.cell? ⟨w.heap.size, 0, none⟩ = some (.int .i64 k) ∧ w'.cell? ⟨w.heap.size, 1, none⟩ = some (.string nm) ∧ w'.cell? ⟨w.heap.size, 2, none⟩ = some (.bool g) ∧ w'.cell? ⟨w.heap.size, 3, none⟩ = some (.slice pn nn cn) ∧ w'.cell? ⟨w.heap.size, 4, none⟩ = some (.slice pd nd cd) ∧ w'.cell? ⟨w.heap.size, 5, none⟩ = some (.slice pa na ca) ∧ w'.cell? ⟨w.heap.size, 6, none⟩ = some (.int .i64 pos) ∧ (w.alloc (.cells #[.int .i64 k, .string nm, .bool g, .slice pn nn cn, .slice pd nd cd, .slice pa na ca, .int .i64 pos] 50 (0, 0))).grownBy w' none)
      ((try go_split_ands) <;> (repeat' apply And.intro) <;> (first | (with_reducible assumption) | (with_reducible refine (grown_drew _ none).cell ?_ (by simp); with_reducible assumption) | (with_reducible refine grown_trans ?_ (grown_drew _ none); with_reducible assumption)))
      (first
        | (go_at_call 30; (first | refine (HSM.out _ hgr).mono ?_ | refine (HSM.out _ (grown_trans hgr (grown_drew _ none))).mono ?_); rintro e w1 ⟨rfl, hg⟩; (first | replace hgr := grown_trans hgr hg | replace hgr := grown_trans (grown_trans hgr (grown_drew _ none)) hg); replace k0 := hg.cell k0 (by simp); replace k1 := hg.cell k1 (by simp); replace k2 := hg.cell k2 (by simp); replace k3 := hg.cell k3 (by simp); replace k4 := hg.cell k4 (by simp); replace k5 := hg.cell k5 (by simp); replace k6 := hg.cell k6 (by simp))
        | (go_at_call 32; (first | refine (HN1.out _ hgr).mono ?_ | refine (HN1.out _ (grown_trans hgr (grown_drew _ none))).mono ?_); rintro e w2 ⟨p1, c1, rfl, hN1, hg⟩; (first | replace hgr := grown_trans hgr hg | replace hgr := grown_trans (grown_trans hgr (grown_drew _ none)) hg); replace k0 := hg.cell k0 (by simp); replace k1 := hg.cell k1 (by simp); replace k2 := hg.cell k2 (by simp); replace k3 := hg.cell k3 (by simp); replace k4 := hg.cell k4 (by simp); replace k5 := hg.cell k5 (by simp); replace k6 := hg.cell k6 (by simp))
        | (go_at_call 33; (first | refine (HN2.out _ hgr).mono ?_ | refine (HN2.out _ (grown_trans hgr (grown_drew _ none))).mono ?_); rintro e w3 ⟨p2, c2, rfl, hN2, hg⟩; replace hN1 := hN1.keep hg; (first | replace hgr := grown_trans hgr hg | replace hgr := grown_trans (grown_trans hgr (grown_drew _ none)) hg); replace k0 := hg.cell k0 (by simp); replace k1 := hg.cell k1 (by simp); replace k2 := hg.cell k2 (by simp); replace k3 := hg.cell k3 (by simp); replace k4 := hg.cell k4 (by simp); replace k5 := hg.cell k5 (by simp); replace k6 := hg.cell k6 (by simp))
        | (go_at_call 31; (refine (sameStrings_any p1 p2 _ c1 c2 _ _ hN1 hN2).mono ?_); rintro e w4 ⟨rfl, hg⟩; (first | replace hgr := grown_trans hgr hg | replace hgr := grown_trans (grown_trans hgr (grown_drew _ none)) hg); replace k0 := hg.cell k0 (by simp); replace k1 := hg.cell k1 (by simp); replace k2 := hg.cell k2 (by simp); replace k3 := hg.cell k3 (by simp); replace k4 := hg.cell k4 (by simp); replace k5 := hg.cell k5 (by simp); replace k6 := hg.cell k6 (by simp))
        | (go_at_call 34; (first | refine (HD1.out _ hgr).mono ?_ | refine (HD1.out _ (grown_trans hgr (grown_drew _ none))).mono ?_); rintro e w5 ⟨rfl, hg⟩; (first | replace hgr := grown_trans hgr hg | replace hgr := grown_trans (grown_trans hgr (grown_drew _ none)) hg); replace k0 := hg.cell k0 (by simp); replace k1 := hg.cell k1 (by simp); replace k2 := hg.cell k2 (by simp); replace k3 := hg.cell k3 (by simp); replace k4 := hg.cell k4 (by simp); replace k5 := hg.cell k5 (by simp); replace k6 := hg.cell k6 (by simp))
        | (go_at_call 35; (first | refine (HD2.out _ hgr).mono ?_ | refine (HD2.out _ (grown_trans hgr (grown_drew _ none))).mono ?_); rintro e w6 ⟨rfl, hg⟩; (first | replace hgr := grown_trans hgr hg | replace hgr := grown_trans (grown_trans hgr (grown_drew _ none)) hg); replace k0 := hg.cell k0 (by simp); replace k1 := hg.cell k1 (by simp); replace k2 := hg.cell k2 (by simp); replace k3 := hg.cell k3 (by simp); replace k4 := hg.cell k4 (by simp); replace k5 := hg.cell k5 (by simp); replace k6 := hg.cell k6 (by simp)))
    go_wp2_with fail
    go_ret
    exact ⟨rfl, grown_trans HA.out hgr⟩
end Go.Proofs.Ytlkajmfpbgipbaa
