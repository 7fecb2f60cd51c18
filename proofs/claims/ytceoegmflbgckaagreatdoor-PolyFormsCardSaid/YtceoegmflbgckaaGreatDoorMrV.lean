/-
  PlT PlU PlV PlW, in one text.
-/
import Derived.Test.YtceoegmflbgckaaGreatDoorMrS
import Derived.Deep.RegionHeld3

set_option linter.unusedVariables false
set_option linter.unusedSimpArgs false
namespace Go.Proofs.YtceoegmflbgckaaGreatDoor
open Go Go.RowKit _root_.Nm
end Go.Proofs.YtceoegmflbgckaaGreatDoor

set_option linter.unusedVariables false
set_option linter.unusedSimpArgs false
namespace Go.Proofs.YtceoegmflbgckaaGreatDoor
open Go Go.RowKit _root_.Nm
end Go.Proofs.YtceoegmflbgckaaGreatDoor

set_option linter.unusedVariables false
set_option linter.unusedSimpArgs false
namespace Go.Proofs.YtceoegmflbgckaaGreatDoor
open Go Go.RowKit _root_.Nm
theorem acc_facts {g : Nat → List Tm} {L M : Nat} {B : Int} : ∀ k, (∀ i, i < k → (g i).length ≤ L ∧ BdP M (g i) ∧ ExP B (g i)) → (accP g k).length ≤ k * L ∧ BdP (k * (M + 1)) (accP g k) ∧ ExP B (accP g k)
  | 0, _ => ⟨by simp [accP], fun t ht => (by cases ht), fun t ht => (by cases ht)⟩
  | k + 1, h => by
    obtain ⟨x1, x2, x3⟩ := acc_facts k (fun i hi => h i (by omega))
    obtain ⟨y1, y2, y3⟩ := h k (by omega)
    have e1 : (k + 1) * L = k * L + L := Nat.succ_mul _ _
    have e2 : (k + 1) * (M + 1) = k * (M + 1) + (M + 1) := Nat.succ_mul _ _
    show (addP (accP g k) (g k)).length ≤ _ ∧ BdP _ (addP (accP g k) (g k)) ∧ ExP B (addP (accP g k) (g k))
    exact ⟨by have := addP_len (accP g k) (g k); omega, (x2.add y2).mono (by omega), x3.add y3⟩
set_option maxHeartbeats 16000000 in
set_option maxRecDepth 100000 in
theorem rCmp6_v (H : Nat) (B : Int) {w : World} {p q : Option Addr} {n c m d : Nat} {P Q : List Tm} (hP : IsP w p n c P) (hQ : IsP w q m d Q) (bP : BdP H P) (bQ : BdP H Q) (eP : ExP B P) (eQ : ExP B Q) (hH : H ≤ 9000) (hB : 0 ≤ B ∧ B ≤ 4294967296) :
    Calls Tryz.prog 22 #[.slice p n c, .slice q m d] w fun e w' => e = .returned (.int .i64 (cmpP P Q)) ∧ w.grownBy w' none := by
  have hlP := hP.len; have hcP := hP.cap; have hxP := hP.max
  have hlQ := hQ.len; have hcQ := hQ.cap; have hxQ := hQ.max
  have HPi := hid hP; have HQi := hid hQ
  have HBD := hid (And.intro bP (And.intro bQ (And.intro eP eQ)))
  clear hP hQ bP bQ eP eQ
  go_enter Tryz.func22, Tryz.ntmps22
  go_wp2_with fail
  go_loopw [5] (fun x wr => ∃ (i : Nat), i ≤ n ∧ i ≤ m ∧ x = .int .i64 i ∧ Hid (w.grownBy wr none) ∧ Hid (cmpP (P.drop i) (Q.drop i) = cmpP P Q)) (fun x _ => n - (intOf x).toNat)
  case atStart => exact ⟨0, Nat.zero_le _, Nat.zero_le _, rfl, hid (grown_refl _ _), hid rfl⟩
  case round =>
    obtain ⟨i, hi, him, rfl, HG, HS⟩ := hrel
    by_cases hlt : i < n
    · by_cases hlm : i < m
      · have hil : i < P.length := by omega
        have hil2 : i < Q.length := by omega
        obtain ⟨ba, oa, g1, p1, n1, c1, q1, m1, d1, a1, k1, e1, rfl, ⟨x0, x1, x2, x3⟩, hV, hX⟩ := ((HPi.out.keep HG.out).tms i hil).out
        obtain ⟨bb, ob, g2, p2, n2, c2, q2, m2, d2, a2, k2, e2, rfl, ⟨y0, y1, y2, y3⟩, hU, hY⟩ := ((HQi.out.keep HG.out).tms i hil2).out
        have HDP := hid (drop_at hil); have HDQ := hid (drop_at hil2)
        obtain ⟨hd1, hd2, hd3, hd4⟩ := HBD.out
        have bv := hV.lens (hd1.at hil); have ev := hd3.at hil; have bu := hU.lens (hd2.at hil2); have eu := hd4.at hil2
        obtain ⟨s, hs⟩ : ∃ s, s = P[i] := ⟨_, rfl⟩
        obtain ⟨t, ht⟩ : ∃ t, t = Q[i] := ⟨_, rfl⟩
        rw [← hs] at HDP hV hX ev
        rw [← ht] at HDQ hU hY eu
        obtain ⟨xs, v⟩ := s
        obtain ⟨ys, u⟩ := t
        dsimp only at hV hX ev hU hY eu
        have HC5 := hid fun W (hg : wr.grownBy W none) => rcmpM_any a1 a2 k1 k2 e1 e2 xs ys 0 W (hX.keep hg) (hY.keep hg) ev eu hB hB
        have ho : ordZ 0 xs ys = lexL xs ys := by unfold ordZ; rw [if_neg (by intro h; have := h.1; omega)]
        rw [ho] at HC5
        have HC3 := hid fun W (hg : wr.grownBy W none) => rCmp3_v 9000 (hV.keep hg).q (hU.keep hg).q (by omega) (by omega) (by omega) (by omega) (by omega)
        obtain ⟨z, hz⟩ : ∃ z, z = lexL xs ys := ⟨_, rfl⟩
        rw [← hz] at HC5
        have HZ := hid hz
        obtain ⟨y, hy⟩ : ∃ y, y = cmpR v u := ⟨_, rfl⟩
        rw [← hy] at HC3
        have HY := hid hy
        clear hV hX hU hY bv ev bu eu hs ht hd1 hd2 hd3 hd4 ho hz hy
        go_upto_region 4 with fail
        refine wp_region_noPanic ?_
        refine wp_region_held_drew (S := (fun W => W.cell? ⟨ba, oa + i * 4, none⟩ = some (.bool g1) ∧ W.cell? ⟨ba, oa + i * 4 + 1, none⟩ = some (.slice p1 n1 c1) ∧ W.cell? ⟨ba, oa + i * 4 + 2, none⟩ = some (.slice q1 m1 d1) ∧ W.cell? ⟨ba, oa + i * 4 + 3, none⟩ = some (.slice a1 k1 e1) ∧ W.cell? ⟨bb, ob + i * 4, none⟩ = some (.bool g2) ∧ W.cell? ⟨bb, ob + i * 4 + 1, none⟩ = some (.slice p2 n2 c2) ∧ W.cell? ⟨bb, ob + i * 4 + 2, none⟩ = some (.slice q2 m2 d2) ∧ W.cell? ⟨bb, ob + i * 4 + 3, none⟩ = some (.slice a2 k2 e2))) (by kernel_rfl) ?_ (fun hHeld => ?_)
        · (try dsimp only)
          exact ⟨(grown_drew _ none).cell x0 (by simp), (grown_drew _ none).cell x1 (by simp), (grown_drew _ none).cell x2 (by simp), (grown_drew _ none).cell x3 (by simp), (grown_drew _ none).cell y0 (by simp), (grown_drew _ none).cell y1 (by simp), (grown_drew _ none).cell y2 (by simp), (grown_drew _ none).cell y3 (by simp)⟩
        have hgg := grown_drew wr none
        generalize wr.drew = wdwr at *
        refine wpAnyH_take (i := 0) (oi := Oper.mk _ _ _ _ _ _) (v := ?_) rfl (by kernel_rfl) (by kernel_rfl) (by kernel_rfl) (fun _ _ _ h => h) (Or.inl ⟨by kernel_rfl, ?_⟩) hHeld ?_
        rotate_left 1
        · intro W hSw
          (try dsimp only at hSw)
          obtain ⟨h0, h1, h2, h3, h4, h5, h6, h7⟩ := hSw
          go_simp
          (try (with_reducible rfl))
        (try simp only [Act.put, List.setIfInBounds_toArray, List.set_cons_zero, List.set_cons_succ])
        refine wpAnyH_take (i := 1) (oi := Oper.mk _ _ _ _ _ _) (v := ?_) rfl (by kernel_rfl) (by kernel_rfl) (by kernel_rfl) (fun _ _ _ h => h) (Or.inl ⟨by kernel_rfl, ?_⟩) hHeld ?_
        rotate_left 1
        · intro W hSw
          (try dsimp only at hSw)
          obtain ⟨h0, h1, h2, h3, h4, h5, h6, h7⟩ := hSw
          go_simp
          (try (with_reducible rfl))
        (try simp only [Act.put, List.setIfInBounds_toArray, List.set_cons_zero, List.set_cons_succ])
        refine wpAnyH_take (i := 2) (oi := Oper.mk _ _ _ _ _ _) (v := ?_) rfl (by kernel_rfl) (by kernel_rfl) (by kernel_rfl) (fun _ _ _ h => h) (Or.inl ⟨by kernel_rfl, ?_⟩) hHeld ?_
        rotate_left 1
        · intro W hSw
          (try dsimp only at hSw)
          obtain ⟨h0, h1, h2, h3, h4, h5, h6, h7⟩ := hSw
          go_simp
          (try (with_reducible rfl))
        (try simp only [Act.put, List.setIfInBounds_toArray, List.set_cons_zero, List.set_cons_succ])
        refine wpAnyH_take (i := 3) (oi := Oper.mk _ _ _ _ _ _) (v := ?_) rfl (by kernel_rfl) (by kernel_rfl) (by kernel_rfl) (fun _ _ _ h => h) (Or.inl ⟨by kernel_rfl, ?_⟩) hHeld ?_
        rotate_left 1
        · intro W hSw
          (try dsimp only at hSw)
          obtain ⟨h0, h1, h2, h3, h4, h5, h6, h7⟩ := hSw
          go_simp
          (try (with_reducible rfl))
        (try simp only [Act.put, List.setIfInBounds_toArray, List.set_cons_zero, List.set_cons_succ])
        refine wpAnyH_take (i := 4) (oi := Oper.mk _ _ _ _ _ _) (v := ?_) rfl (by kernel_rfl) (by kernel_rfl) (by kernel_rfl) (fun _ _ _ h => h) (Or.inl ⟨by kernel_rfl, ?_⟩) hHeld ?_
        rotate_left 1
        · intro W hSw
          (try dsimp only at hSw)
          obtain ⟨h0, h1, h2, h3, h4, h5, h6, h7⟩ := hSw
          go_simp
          (try (with_reducible rfl))
        (try simp only [Act.put, List.setIfInBounds_toArray, List.set_cons_zero, List.set_cons_succ])
        refine wpAnyH_take (i := 5) (oi := Oper.mk _ _ _ _ _ _) (v := ?_) rfl (by kernel_rfl) (by kernel_rfl) (by kernel_rfl) (fun _ _ _ h => h) (Or.inl ⟨by kernel_rfl, ?_⟩) hHeld ?_
        rotate_left 1
        · intro W hSw
          (try dsimp only at hSw)
          obtain ⟨h0, h1, h2, h3, h4, h5, h6, h7⟩ := hSw
          go_simp
          (try (with_reducible rfl))
        (try simp only [Act.put, List.setIfInBounds_toArray, List.set_cons_zero, List.set_cons_succ])
        refine wpAnyH_take (i := 6) (oi := Oper.mk _ _ _ _ _ _) (v := ?_) rfl (by kernel_rfl) (by kernel_rfl) (by kernel_rfl) (fun _ _ _ h => h) (Or.inl ⟨by kernel_rfl, ?_⟩) hHeld ?_
        rotate_left 1
        · intro W hSw
          (try dsimp only at hSw)
          obtain ⟨h0, h1, h2, h3, h4, h5, h6, h7⟩ := hSw
          go_simp
          (try (with_reducible rfl))
        (try simp only [Act.put, List.setIfInBounds_toArray, List.set_cons_zero, List.set_cons_succ])
        refine wpAnyH_take (i := 7) (oi := Oper.mk _ _ _ _ _ _) (v := ?_) rfl (by kernel_rfl) (by kernel_rfl) (by kernel_rfl) (fun _ _ _ h => h) (Or.inl ⟨by kernel_rfl, ?_⟩) hHeld ?_
        rotate_left 1
        · intro W hSw
          (try dsimp only at hSw)
          obtain ⟨h0, h1, h2, h3, h4, h5, h6, h7⟩ := hSw
          go_simp
          (try (with_reducible rfl))
        (try simp only [Act.put, List.setIfInBounds_toArray, List.set_cons_zero, List.set_cons_succ])
        refine wpAnyH_take (i := 8) (oi := Oper.mk _ _ _ _ _ _) (v := ?_) rfl (by kernel_rfl) (by kernel_rfl) (by kernel_rfl) (fun _ _ _ h => h) (Or.inl ⟨by kernel_rfl, ?_⟩) hHeld ?_
        rotate_left 1
        · intro W hSw
          (try dsimp only at hSw)
          obtain ⟨h0, h1, h2, h3, h4, h5, h6, h7⟩ := hSw
          go_simp
          (try (with_reducible rfl))
        (try simp only [Act.put, List.setIfInBounds_toArray, List.set_cons_zero, List.set_cons_succ])
        refine wpAnyH_take (i := 9) (oi := Oper.mk _ _ _ _ _ _) (v := ?_) rfl (by kernel_rfl) (by kernel_rfl) (by kernel_rfl) (fun _ _ _ h => h) (Or.inl ⟨by kernel_rfl, ?_⟩) hHeld ?_
        rotate_left 1
        · intro W hSw
          (try dsimp only at hSw)
          obtain ⟨h0, h1, h2, h3, h4, h5, h6, h7⟩ := hSw
          go_simp
          (try (with_reducible rfl))
        (try simp only [Act.put, List.setIfInBounds_toArray, List.set_cons_zero, List.set_cons_succ])
        refine wpAnyH_ready (rs := [10]) (by kernel_rfl) (by simp) ?_
        refine AllReadyH.cons (o := Oper.mk _ _ _ _ _ _) rfl (fun K hK => ?_) AllReadyH.nil
        (try rw [if_pos (by kernel_rfl)])
        go_simp
        go_at_call 68
        refine (HC5.out _ hgg).mono ?_
        rintro e wy1 ⟨rfl, rfl⟩
        refine hK.out _ _ ?_ (fun hNew => ?_)
        · have hH := hHeld
          (try dsimp only at hH)
          (try dsimp only)
          first | with_reducible exact hH | exact ⟨hgS.cell hH.1 (by simp), hgS.cell hH.2.1 (by simp), hgS.cell hH.2.2.1 (by simp), hgS.cell hH.2.2.2.1 (by simp), hgS.cell hH.2.2.2.2.1 (by simp), hgS.cell hH.2.2.2.2.2.1 (by simp), hgS.cell hH.2.2.2.2.2.2.1 (by simp), hgS.cell hH.2.2.2.2.2.2.2 (by simp)⟩
        clear hK K hHeld
        have hHeld := hNew
        clear hNew
        (try simp only [Act.put, List.setIfInBounds_toArray, List.set_cons_zero, List.set_cons_succ])
        refine wpAnyH_ready (rs := [11]) (by kernel_rfl) (by simp) ?_
        refine AllReadyH.cons (o := Oper.mk _ _ _ _ _ _) rfl (fun K hK => ?_) AllReadyH.nil
        (try rw [if_pos (by kernel_rfl)])
        go_simp
        refine hK.out _ _ ?_ (fun hNew => ?_)
        · have hH := hHeld
          (try dsimp only at hH)
          (try dsimp only)
          first | with_reducible exact hH | exact ⟨hgS.cell hH.1 (by simp), hgS.cell hH.2.1 (by simp), hgS.cell hH.2.2.1 (by simp), hgS.cell hH.2.2.2.1 (by simp), hgS.cell hH.2.2.2.2.1 (by simp), hgS.cell hH.2.2.2.2.2.1 (by simp), hgS.cell hH.2.2.2.2.2.2.1 (by simp), hgS.cell hH.2.2.2.2.2.2.2 (by simp)⟩
        clear hK K hHeld
        have hHeld := hNew
        clear hNew
        (try simp only [Act.put, List.setIfInBounds_toArray, List.set_cons_zero, List.set_cons_succ])
        refine wpAnyH_done (by kernel_rfl) ?_ _
        refine NoPanic.normal ?_
        clear hHeld
        replace HG := hid (grown_trans HG.out hgg)
        replace HC3 := hid fun W (hg : wdwr.grownBy W none) => HC3.out W (grown_trans hgg hg)
        replace x0 := hgg.cell x0 (by simp); replace x1 := hgg.cell x1 (by simp); replace x2 := hgg.cell x2 (by simp); replace x3 := hgg.cell x3 (by simp); replace y0 := hgg.cell y0 (by simp); replace y1 := hgg.cell y1 (by simp); replace y2 := hgg.cell y2 (by simp); replace y3 := hgg.cell y3 (by simp)
        clear hgg
        by_cases hz0 : z = 0
        · subst hz0
          go_upto_region 7 with fail
          refine wp_region_noPanic ?_
          refine wp_region_held_drew (S := (fun W => W.cell? ⟨ba, oa + i * 4, none⟩ = some (.bool g1) ∧ W.cell? ⟨ba, oa + i * 4 + 1, none⟩ = some (.slice p1 n1 c1) ∧ W.cell? ⟨ba, oa + i * 4 + 2, none⟩ = some (.slice q1 m1 d1) ∧ W.cell? ⟨ba, oa + i * 4 + 3, none⟩ = some (.slice a1 k1 e1) ∧ W.cell? ⟨bb, ob + i * 4, none⟩ = some (.bool g2) ∧ W.cell? ⟨bb, ob + i * 4 + 1, none⟩ = some (.slice p2 n2 c2) ∧ W.cell? ⟨bb, ob + i * 4 + 2, none⟩ = some (.slice q2 m2 d2) ∧ W.cell? ⟨bb, ob + i * 4 + 3, none⟩ = some (.slice a2 k2 e2))) (by kernel_rfl) ?_ (fun hHeld => ?_)
          · (try dsimp only)
            exact ⟨(grown_drew _ none).cell x0 (by simp), (grown_drew _ none).cell x1 (by simp), (grown_drew _ none).cell x2 (by simp), (grown_drew _ none).cell x3 (by simp), (grown_drew _ none).cell y0 (by simp), (grown_drew _ none).cell y1 (by simp), (grown_drew _ none).cell y2 (by simp), (grown_drew _ none).cell y3 (by simp)⟩
          have hgg := grown_drew wdwr none
          generalize wdwr.drew = wdwdwr at *
          refine wpAnyH_take (i := 0) (oi := Oper.mk _ _ _ _ _ _) (v := ?_) rfl (by kernel_rfl) (by kernel_rfl) (by kernel_rfl) (fun _ _ _ h => h) (Or.inl ⟨by kernel_rfl, ?_⟩) hHeld ?_
          rotate_left 1
          · intro W hSw
            (try dsimp only at hSw)
            obtain ⟨h0, h1, h2, h3, h4, h5, h6, h7⟩ := hSw
            go_simp
            (try (with_reducible rfl))
          (try simp only [Act.put, List.setIfInBounds_toArray, List.set_cons_zero, List.set_cons_succ])
          refine wpAnyH_take (i := 1) (oi := Oper.mk _ _ _ _ _ _) (v := ?_) rfl (by kernel_rfl) (by kernel_rfl) (by kernel_rfl) (fun _ _ _ h => h) (Or.inl ⟨by kernel_rfl, ?_⟩) hHeld ?_
          rotate_left 1
          · intro W hSw
            (try dsimp only at hSw)
            obtain ⟨h0, h1, h2, h3, h4, h5, h6, h7⟩ := hSw
            go_simp
            (try (with_reducible rfl))
          (try simp only [Act.put, List.setIfInBounds_toArray, List.set_cons_zero, List.set_cons_succ])
          refine wpAnyH_take (i := 2) (oi := Oper.mk _ _ _ _ _ _) (v := ?_) rfl (by kernel_rfl) (by kernel_rfl) (by kernel_rfl) (fun _ _ _ h => h) (Or.inl ⟨by kernel_rfl, ?_⟩) hHeld ?_
          rotate_left 1
          · intro W hSw
            (try dsimp only at hSw)
            obtain ⟨h0, h1, h2, h3, h4, h5, h6, h7⟩ := hSw
            go_simp
            (try (with_reducible rfl))
          (try simp only [Act.put, List.setIfInBounds_toArray, List.set_cons_zero, List.set_cons_succ])
          refine wpAnyH_take (i := 3) (oi := Oper.mk _ _ _ _ _ _) (v := ?_) rfl (by kernel_rfl) (by kernel_rfl) (by kernel_rfl) (fun _ _ _ h => h) (Or.inl ⟨by kernel_rfl, ?_⟩) hHeld ?_
          rotate_left 1
          · intro W hSw
            (try dsimp only at hSw)
            obtain ⟨h0, h1, h2, h3, h4, h5, h6, h7⟩ := hSw
            go_simp
            (try (with_reducible rfl))
          (try simp only [Act.put, List.setIfInBounds_toArray, List.set_cons_zero, List.set_cons_succ])
          refine wpAnyH_take (i := 4) (oi := Oper.mk _ _ _ _ _ _) (v := ?_) rfl (by kernel_rfl) (by kernel_rfl) (by kernel_rfl) (fun _ _ _ h => h) (Or.inl ⟨by kernel_rfl, ?_⟩) hHeld ?_
          rotate_left 1
          · intro W hSw
            (try dsimp only at hSw)
            obtain ⟨h0, h1, h2, h3, h4, h5, h6, h7⟩ := hSw
            go_simp
            (try (with_reducible rfl))
          (try simp only [Act.put, List.setIfInBounds_toArray, List.set_cons_zero, List.set_cons_succ])
          refine wpAnyH_take (i := 5) (oi := Oper.mk _ _ _ _ _ _) (v := ?_) rfl (by kernel_rfl) (by kernel_rfl) (by kernel_rfl) (fun _ _ _ h => h) (Or.inl ⟨by kernel_rfl, ?_⟩) hHeld ?_
          rotate_left 1
          · intro W hSw
            (try dsimp only at hSw)
            obtain ⟨h0, h1, h2, h3, h4, h5, h6, h7⟩ := hSw
            go_simp
            (try (with_reducible rfl))
          (try simp only [Act.put, List.setIfInBounds_toArray, List.set_cons_zero, List.set_cons_succ])
          refine wpAnyH_take (i := 6) (oi := Oper.mk _ _ _ _ _ _) (v := ?_) rfl (by kernel_rfl) (by kernel_rfl) (by kernel_rfl) (fun _ _ _ h => h) (Or.inl ⟨by kernel_rfl, ?_⟩) hHeld ?_
          rotate_left 1
          · intro W hSw
            (try dsimp only at hSw)
            obtain ⟨h0, h1, h2, h3, h4, h5, h6, h7⟩ := hSw
            go_simp
            (try (with_reducible rfl))
          (try simp only [Act.put, List.setIfInBounds_toArray, List.set_cons_zero, List.set_cons_succ])
          refine wpAnyH_take (i := 7) (oi := Oper.mk _ _ _ _ _ _) (v := ?_) rfl (by kernel_rfl) (by kernel_rfl) (by kernel_rfl) (fun _ _ _ h => h) (Or.inl ⟨by kernel_rfl, ?_⟩) hHeld ?_
          rotate_left 1
          · intro W hSw
            (try dsimp only at hSw)
            obtain ⟨h0, h1, h2, h3, h4, h5, h6, h7⟩ := hSw
            go_simp
            (try (with_reducible rfl))
          (try simp only [Act.put, List.setIfInBounds_toArray, List.set_cons_zero, List.set_cons_succ])
          refine wpAnyH_take (i := 8) (oi := Oper.mk _ _ _ _ _ _) (v := ?_) rfl (by kernel_rfl) (by kernel_rfl) (by kernel_rfl) (fun _ _ _ h => h) (Or.inl ⟨by kernel_rfl, ?_⟩) hHeld ?_
          rotate_left 1
          · intro W hSw
            (try dsimp only at hSw)
            obtain ⟨h0, h1, h2, h3, h4, h5, h6, h7⟩ := hSw
            go_simp
            (try (with_reducible rfl))
          (try simp only [Act.put, List.setIfInBounds_toArray, List.set_cons_zero, List.set_cons_succ])
          refine wpAnyH_take (i := 9) (oi := Oper.mk _ _ _ _ _ _) (v := ?_) rfl (by kernel_rfl) (by kernel_rfl) (by kernel_rfl) (fun _ _ _ h => h) (Or.inl ⟨by kernel_rfl, ?_⟩) hHeld ?_
          rotate_left 1
          · intro W hSw
            (try dsimp only at hSw)
            obtain ⟨h0, h1, h2, h3, h4, h5, h6, h7⟩ := hSw
            go_simp
            (try (with_reducible rfl))
          (try simp only [Act.put, List.setIfInBounds_toArray, List.set_cons_zero, List.set_cons_succ])
          refine wpAnyH_ready (rs := [10]) (by kernel_rfl) (by simp) ?_
          refine AllReadyH.cons (o := Oper.mk _ _ _ _ _ _) rfl (fun K hK => ?_) AllReadyH.nil
          (try rw [if_pos (by kernel_rfl)])
          go_simp
          go_at_call 81
          refine (HC3.out _ hgg).mono ?_
          rintro e wy1 ⟨rfl, hgS⟩
          replace hgg := grown_trans hgg hgS
          refine hK.out _ _ ?_ (fun hNew => ?_)
          · have hH := hHeld
            (try dsimp only at hH)
            (try dsimp only)
            first | with_reducible exact hH | exact ⟨hgS.cell hH.1 (by simp), hgS.cell hH.2.1 (by simp), hgS.cell hH.2.2.1 (by simp), hgS.cell hH.2.2.2.1 (by simp), hgS.cell hH.2.2.2.2.1 (by simp), hgS.cell hH.2.2.2.2.2.1 (by simp), hgS.cell hH.2.2.2.2.2.2.1 (by simp), hgS.cell hH.2.2.2.2.2.2.2 (by simp)⟩
          clear hK K hHeld
          have hHeld := hNew
          clear hNew
          (try simp only [Act.put, List.setIfInBounds_toArray, List.set_cons_zero, List.set_cons_succ])
          clear hgS
          refine wpAnyH_ready (rs := [11]) (by kernel_rfl) (by simp) ?_
          refine AllReadyH.cons (o := Oper.mk _ _ _ _ _ _) rfl (fun K hK => ?_) AllReadyH.nil
          (try rw [if_pos (by kernel_rfl)])
          go_simp
          refine hK.out _ _ ?_ (fun hNew => ?_)
          · have hH := hHeld
            (try dsimp only at hH)
            (try dsimp only)
            first | with_reducible exact hH | exact ⟨hgS.cell hH.1 (by simp), hgS.cell hH.2.1 (by simp), hgS.cell hH.2.2.1 (by simp), hgS.cell hH.2.2.2.1 (by simp), hgS.cell hH.2.2.2.2.1 (by simp), hgS.cell hH.2.2.2.2.2.1 (by simp), hgS.cell hH.2.2.2.2.2.2.1 (by simp), hgS.cell hH.2.2.2.2.2.2.2 (by simp)⟩
          clear hK K hHeld
          have hHeld := hNew
          clear hNew
          (try simp only [Act.put, List.setIfInBounds_toArray, List.set_cons_zero, List.set_cons_succ])
          refine wpAnyH_done (by kernel_rfl) ?_ _
          refine NoPanic.normal ?_
          clear hHeld
          replace HG := hid (grown_trans HG.out hgg)
          clear hgg
          by_cases hy0 : y = 0
          · subst hy0
            go_wp2_with fail
            refine ⟨⟨i + 1, by omega, by omega, by go_num, HG, hid ?_⟩, by simp [intOf]; omega⟩
            have := HS.out
            rw [HDP.out, HDQ.out, cmpP, if_pos (by unfold cmpT; rw [if_pos HZ.out.symm]; exact HY.out.symm)] at this
            exact this
          · have hyn : (y != 0) = true := by simpa using hy0
            have HYN := hid hy0
            go_wp2_with fail
            go_ret
            have := HS.out
            rw [HDP.out, HDQ.out, cmpP, if_neg (by unfold cmpT; rw [if_pos HZ.out.symm, ← HY.out]; exact HYN.out)] at this
            unfold cmpT at this
            rw [if_pos HZ.out.symm, ← HY.out] at this
            exact ⟨by (rw [← this]; first | done | rfl), HG.out⟩
        · have hzn : (z != 0) = true := by simpa using hz0
          have HZN := hid hz0
          go_wp2_with fail
          go_ret
          have := HS.out
          rw [HDP.out, HDQ.out, cmpP, if_neg (by unfold cmpT; rw [if_neg (by rw [← HZ.out]; exact HZN.out), ← HZ.out]; exact HZN.out)] at this
          unfold cmpT at this
          rw [if_neg (by rw [← HZ.out]; exact HZN.out), ← HZ.out] at this
          exact ⟨by (rw [← this]; first | done | rfl), HG.out⟩
      · obtain rfl : i = m := by omega
        go_wp2_with fail
        go_ret
        have := HS.out
        rw [drop_at (P := P) (by omega), List.drop_of_length_le (l := Q) (by omega)] at this
        exact ⟨by (rw [← this]; first | done | rfl), HG.out⟩
    · obtain rfl : i = n := by omega
      have hnlt : ¬ m < i := by omega
      by_cases hlm : i < m
      · go_wp2_with fail
        go_ret
        have := HS.out
        rw [List.drop_of_length_le (l := P) (by omega), drop_at (P := Q) (by omega)] at this
        exact ⟨by (rw [← this]; first | done | rfl), HG.out⟩
      · obtain rfl : i = m := by omega
        go_wp2_with fail
        go_ret
        have := HS.out
        rw [List.drop_of_length_le (l := P) (by omega), List.drop_of_length_le (l := Q) (by omega)] at this
        exact ⟨by (rw [← this]; first | done | rfl), HG.out⟩
set_option maxHeartbeats 4000000 in
set_option maxRecDepth 100000 in
theorem rEqual6_v (H : Nat) (B : Int) {w : World} {p q : Option Addr} {n c m d : Nat} {P Q : List Tm} (hP : IsP w p n c P) (hQ : IsP w q m d Q) (bP : BdP H P) (bQ : BdP H Q) (eP : ExP B P) (eQ : ExP B Q) (hH : H ≤ 9000) (hB : 0 ≤ B ∧ B ≤ 4294967296) :
    Calls Tryz.prog 16 #[.slice p n c, .slice q m d] w fun e w' => e = .returned (.bool (decide (cmpP P Q = 0))) ∧ w.grownBy w' none := by
  have HC := hid (rCmp6_v H B hP hQ bP bQ eP eQ hH hB)
  obtain ⟨z, hz⟩ : ∃ z, z = cmpP P Q := ⟨_, rfl⟩
  rw [← hz] at HC ⊢
  clear hP hQ bP bQ eP eQ hz
  by_cases hz0 : z = 0
  · subst hz0
    go_enter Tryz.func16, Tryz.ntmps16
    go_wp2_with (go_at_call 22; (with_reducible refine HC.out.mono ?_); rintro e w1 ⟨rfl, hg⟩)
    go_ret
    exact ⟨by simp, hg⟩
  · have hzn : (z == 0) = false := by simpa using hz0
    go_enter Tryz.func16, Tryz.ntmps16
    go_wp2_with (go_at_call 22; (with_reducible refine HC.out.mono ?_); rintro e w1 ⟨rfl, hg⟩)
    go_ret
    exact ⟨by simp [hz0], hg⟩
end Go.Proofs.YtceoegmflbgckaaGreatDoor

set_option linter.unusedVariables false
set_option linter.unusedSimpArgs false
namespace Go.Proofs.YtceoegmflbgckaaGreatDoor
open Go Go.RowKit _root_.Nm
theorem Pk.req_c {H L : Nat} {B : Int} {P : List Tm} (h : Pk H B L P) {w : World} {p q : Option Addr} {n c m d : Nat} (hP : IsP w p n c P) (hQ : IsP w q m d P) (hH : H ≤ 9000) (hB : 0 ≤ B ∧ B ≤ 4294967296) :
    Calls Tryz.prog 16 #[.slice p n c, .slice q m d] w fun e w' => e = .returned (.bool true) ∧ w.grownBy w' none := by
  have := rEqual6_v H B hP hQ h.bd h.bd h.ex h.ex hH hB
  rwa [cmpP_self, decide_eq_true rfl] at this
set_option maxHeartbeats 4000000 in
set_option maxRecDepth 100000 in
theorem short_v {w : World} (g1 : Bool) (p1 : Option Addr) (n1 c1 : Nat) (q1 : Option Addr) (m1 d1 : Nat) (h1 : n1 ≤ c1 ∧ c1 ≤ 9223372036854775807) (h2 : m1 ≤ d1 ∧ d1 ≤ 9223372036854775807) :
    Calls Tryz.prog 12 #[.agg #[.bool g1, .slice p1 n1 c1, .slice q1 m1 d1]] w fun e w' => e = .returned (.bool (decide (n1 ≤ 4 ∧ m1 ≤ 4))) ∧ w.grownBy w' none := by
  have hW := hid (World.grownBy_alloc w (.cells #[.bool g1, .slice p1 n1 c1, .slice q1 m1 d1] 29 (0, 0)) none)
  obtain ⟨k0, k1, k2⟩ := box3p (blk0 w (.cells #[.bool g1, .slice p1 n1 c1, .slice q1 m1 d1] 29 (0, 0)))
  by_cases ha : n1 ≤ 4
  · by_cases hb : m1 ≤ 4
    · have hb2 : (m1 : Int) ≤ 4 := by omega
      go_enter Tryz.func12, Tryz.ntmps12
      go_wp2_with fail
      go_ret
      exact ⟨by simp [ha, hb, hb2], hW.out⟩
    · have hb2 : ¬ (m1 : Int) ≤ 4 := by omega
      have hb3 : ((m1 : Int) ≤ 4) = False := by simp; omega
      go_enter Tryz.func12, Tryz.ntmps12
      go_wp2_with fail
      go_ret
      exact ⟨by simp [ha, hb, hb3]; try omega, hW.out⟩
  · go_enter Tryz.func12, Tryz.ntmps12
    go_wp2_with fail
    go_ret
    exact ⟨by simp [ha], hW.out⟩
end Go.Proofs.YtceoegmflbgckaaGreatDoor
