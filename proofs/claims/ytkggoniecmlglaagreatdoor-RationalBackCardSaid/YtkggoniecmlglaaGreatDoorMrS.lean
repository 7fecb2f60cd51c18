/-
  Alive3 Small3, in one text.
-/
import Derived.Test.YtkggoniecmlglaaGreatDoorMrF
import Derived.Test.YtkggoniecmlglaaGreatDoorMrA

set_option linter.unusedVariables false
set_option linter.unusedSimpArgs false
namespace Go.Proofs.YtkggoniecmlglaaGreatDoor
open Go.RowKit Nm

theorem word_c {w : World} {G x : Nat} {T : TypeId} (h : w.heap[G]? = some (.cells #[.int .u16 x] T (0, 0))) (h0 : 0 < x) (h1 : x < 65536) : IsC w (some ⟨G, 0, none⟩) 1 1 x := by
  have e : dg 65536 x = [x] := by
    rw [dg_step x (by omega), Nat.mod_eq_of_lt h1, Nat.div_eq_of_lt h1]
    simp [dg_zero]
  unfold IsC
  rw [e]
  have hr : IRow w G T .u16 [x] := by
    unfold IRow
    simpa [iv] using h
  exact hr.rd0 (by simp)
theorem rn_a : rn (qn 2 (-4)) 4 = -1 := by decide +kernel
theorem rd_a : rd (qn 2 (-4)) 4 = 2 := by decide +kernel
theorem rn_b : rn (pn (rn (qn 9 4) 4) (rd (qn 9 4) 4)) (pd (rd (qn 9 4) 4)) = 9 := by decide +kernel
theorem rd_b : rd (pn (rn (qn 9 4) 4) (rd (qn 9 4) 4)) (pd (rd (qn 9 4) 4)) = 4 := by decide +kernel
theorem rn_c : rn (qn 3 2) 2 = 3 := by decide +kernel
theorem rd_c : rd (qn 3 2) 2 = 2 := by decide +kernel
theorem sq_a : SqSpec 9 4 3 2 true := .inl ⟨rfl, by omega, by omega, by omega⟩

set_option maxRecDepth 100000 in
set_option maxHeartbeats 8000000 in
theorem alive3 {w : World} (T : Tb w) : Calls Tryz.prog 6 #[] w fun e w' => e = .returned (.bool true) ∧ w.grownBy w' none := by
  have hb2 := grown_trans (World.grownBy_alloc w (.cells #[.int .u16 2] 44) none) (World.grownBy_alloc _ (.cells #[.int .u16 4] 44) none)
  have c2 : IsC ((w.alloc (.cells #[.int .u16 2] 44)).alloc (.cells #[.int .u16 4] 44)) (some ⟨w.heap.size, 0, none⟩) 1 1 2 := word_c (x := 2) (first_of w _ _) (by omega) (by omega)
  have c4 : IsC ((w.alloc (.cells #[.int .u16 2] 44)).alloc (.cells #[.int .u16 4] 44)) (some ⟨w.heap.size + 1, 0, none⟩) 1 1 4 := word_c (x := 4) (second w _ _) (by omega) (by omega)
  have HT := hid T
  have HM := ratMake_any (N := 2) (M := -4) (T.keep hb2) (IsZ.mk false c2.isN) (IsZ.mk true c4.isN) (by omega) (by omega) (by omega)
  have e4 : (-4 : Int).natAbs = 4 := rfl
  rw [e4, rn_a, rd_a] at HM
  replace HM := hid HM
  unfold MkPost at HM
  clear T c2 c4
  go_enter Tryz.func6, Tryz.ntmps6
  go_wp2_with fail
  refine HM.out.mono ?_
  rintro ee w1 ⟨g1, p1, n1, c1, q1, m1, d1, rfl, h1, k1, hn1, hm1, hg1⟩
  replace hg1 := grown_trans hb2 hg1
  clear HM hb2
  have ha := World.grownBy_alloc w1 (.cells #[.bool g1, .slice p1 n1 c1, .slice q1 m1 d1] 27) none
  have hb1 := heap_alloc_new w1 (.cells #[.bool g1, .slice p1 n1 c1, .slice q1 m1 d1] 27)
  replace h1 := hid (h1.keep ha)
  replace k1 := k1.keep ha
  replace hg1 := grown_trans hg1 ha
  have HF := ratFrac_any (HT.out.keep hg1) 9 4 (by omega) (by omega) (by omega) (by omega) (by omega)
  have e5 : (4 : Int).natAbs = 4 := rfl
  rw [e5] at HF
  replace HF := hid HF
  unfold LPost at HF
  clear ha e4 e5
  go_wp2_with fail
  generalize w1.alloc (.cells #[.bool g1, .slice p1 n1 c1, .slice q1 m1 d1] 27) = wa at *
  generalize w1.heap.size = K1 at *
  refine HF.out.mono ?_
  rintro ee w2 ⟨g2, p2, n2, c2, q2, m2, d2, rfl, h2, k2, hn2, hm2, hg2⟩
  replace h1 := hid (h1.out.keep hg2)
  replace k1 := k1.keep hg2
  replace hb1 := (hg2.block K1 (lt_of_block hb1) (by simp)).trans hb1
  replace hg1 := grown_trans hg1 hg2
  have HS := ratSqrt_any (HT.out.keep hg1) h2.z k2.isN (by omega) (by omega)
  rw [rn_b, rd_b] at HS
  unfold SqPost at HS
  replace HS := hid HS
  clear HF h2 k2 hg2
  go_wp2_with fail
  refine HS.out.mono ?_
  rintro ee w3 ⟨g3, p3, n3, c3, q3, m3, d3, Z, U, ok, rfl, h3, k3, hs, hg3⟩
  obtain ⟨rfl, rfl, rfl⟩ := SqSpec.unique hs sq_a
  replace h1 := hid (h1.out.keep hg3)
  replace k1 := k1.keep hg3
  replace hb1 := (hg3.block K1 (lt_of_block hb1) (by simp)).trans hb1
  replace hg1 := grown_trans hg1 hg3
  clear HS hs hg3
  have ha := World.grownBy_alloc w3 (.cells #[.bool g3, .slice p3 n3 c3, .slice q3 m3 d3] 27) none
  have hb3 := heap_alloc_new w3 (.cells #[.bool g3, .slice p3 n3 c3, .slice q3 m3 d3] 27)
  replace h1 := hid (h1.out.keep ha)
  replace k1 := k1.keep ha
  replace h3 := hid (h3.keep ha)
  replace k3 := k3.keep ha
  replace hb1 := (ha.block K1 (lt_of_block hb1) (by simp)).trans hb1
  replace hg1 := grown_trans hg1 ha
  clear ha
  go_wp2_with fail
  generalize w3.alloc (.cells #[.bool g3, .slice p3 n3 c3, .slice q3 m3 d3] 27) = w0 at *
  generalize w3.heap.size = K3 at *
  obtain ⟨x0, x1, x2, _, _, _⟩ := ratbox_facts hb1
  obtain ⟨y0, y1, y2, _, _, _⟩ := ratbox_facts hb3
  have lt1 := lt_of_block hb1
  have lt3 := lt_of_block hb3
  have m1t : true = decide ((-1 : Int) < 0) := by decide
  have HL1 := hid (fun W (G H : Nat) (hG : W.heap[G]? = some (.cells #[.int .u16 1] 44 (0, 0))) (hH : W.heap[H]? = some (.cells #[.int .u16 2] 44 (0, 0))) (hW : w0.grownBy W none) =>
    same3_any (h1.out.keep hW) (k1.keep hW) (X' := -1) (Y' := 2) (h := true) ⟨(word_c (x := 1) hG (by omega) (by omega)), m1t⟩ (word_c (x := 2) hH (by omega) (by omega)) rfl rfl)
  have HF2 := hid (fun W (hW : w0.grownBy W none) => ratFrac_any (HT.out.keep (grown_trans hg1 hW)) 3 2 (by omega) (by omega) (by omega) (by omega) (by omega))
  have e6 : (2 : Int).natAbs = 2 := rfl
  rw [e6, rn_c, rd_c] at HF2
  unfold LPost at HF2
  have HL2 := hid (fun W (hW : w0.grownBy W none) g6 p6 n6 c6 q6 m6 d6 (h6 : Hid (IsI W g6 p6 n6 c6 3)) (k6 : Hid (IsC W q6 m6 d6 2)) => same3_any (h3.out.keep hW) (k3.keep hW) h6.out k6.out rfl rfl)
  have HG := hid hg1
  have G0 : w0.grownBy w0.drew none := grown_drew _ _
  clear hb1 hb3 h1 k1 h3 k3 hg1 e6 m1t
  go_region_held3 (fun w' => w'.cell? ⟨K1, 0, none⟩ = some (.bool g1) ∧ w'.cell? ⟨K1, 1, none⟩ = some (.slice p1 n1 c1) ∧ w'.cell? ⟨K1, 2, none⟩ = some (.slice q1 m1 d1) ∧ w'.cell? ⟨K3, 0, none⟩ = some (.bool g3) ∧ w'.cell? ⟨K3, 1, none⟩ = some (.slice p3 n3 c3) ∧ w'.cell? ⟨K3, 2, none⟩ = some (.slice q3 m3 d3))
      ((try go_split_ands) <;> (repeat' apply And.intro) <;> (repeat (first | (with_reducible assumption) | (with_reducible refine (grown_setCell _ _ _).cell ?_ (by simp; omega)) | (with_reducible refine (World.grownBy_alloc _ _ none).cell ?_ (by simp)) | (with_reducible refine hg7.cell ?_ (by simp)) | (with_reducible refine hg5.cell ?_ (by simp)) | (with_reducible refine hg6.cell ?_ (by simp)) | (with_reducible refine (grown_drew _ none).cell ?_ (by simp)))))
      (first
        | (go_at_call 11; (with_reducible refine (HL1.out _ _ _ ?_ ?_ ?_).mono ?_); (first | exact first_of _ _ _ | exact second _ _ _); (first | exact first_of _ _ _ | exact second _ _ _); (exact grown_trans G0 (grown_trans (World.grownBy_alloc _ _ none) (World.grownBy_alloc _ _ none))); rintro e w5 ⟨rfl, hg5⟩; have H5 : w0.grownBy w5 none := grown_trans (grown_trans G0 (grown_trans (World.grownBy_alloc _ _ none) (World.grownBy_alloc _ _ none))) hg5)
        | (go_at_call 19; (with_reducible refine (HF2.out _ H5).mono ?_); rintro e w6 ⟨g6, p6, n6, c6, q6, m6, d6, rfl, h6, k6, hn6, hm6, hg6⟩; have H6 := grown_trans H5 hg6; replace h6 := hid h6; replace k6 := hid k6)
        | (go_at_call 11; (with_reducible refine (HL2.out _ H6 _ _ _ _ _ _ _ h6 k6).mono ?_); rintro e w7 ⟨rfl, hg7⟩; have H7 := grown_trans H6 hg7))
  all_goals
    go_wp2_with fail
    go_ret
    exact ⟨rfl, grown_trans HG.out H7⟩
end Go.Proofs.YtkggoniecmlglaaGreatDoor

set_option linter.unusedVariables false
set_option linter.unusedSimpArgs false
namespace Go.Proofs.YtkggoniecmlglaaGreatDoor
open Go.RowKit Nm

abbrev Sl := Option Addr × Nat × Nat
set_option maxHeartbeats 2000000 in
theorem small3_any (g c : Nat) (vs : List (Sl × Sl)) (w : World) (hn : vs.length ≤ 1000)
    (h : ∀ j (hj : j < vs.length), w.cell? ⟨g, j * 3 + 1, none⟩ = some (.slice vs[j].1.1 vs[j].1.2.1 vs[j].1.2.2) ∧ w.cell? ⟨g, j * 3 + 2, none⟩ = some (.slice vs[j].2.1 vs[j].2.2.1 vs[j].2.2.2)) :
    Calls Tryz.prog 5 #[.slice (some ⟨g, 0, none⟩) vs.length c] w fun e w' => e = .returned (.bool (decide (∀ v ∈ vs, v.1.2.1 ≤ 12 ∧ v.2.2.1 ≤ 12))) ∧ w = w' := by
  obtain ⟨n, hnn⟩ : ∃ n, n = vs.length := ⟨_, rfl⟩
  rw [← hnn] at hn ⊢
  have H := hid h
  have HN := hid hnn
  clear h hnn
  go_enter Tryz.func5, Tryz.ntmps5
  go_wp2_with fail
  go_loop [3] (fun i => ∃ k : Nat, k ≤ n ∧ i = .int .i64 k ∧ Hid (∀ j (hj : j < vs.length), j < k → vs[j].1.2.1 ≤ 12 ∧ vs[j].2.2.1 ≤ 12)) (fun i => n - (intOf i).toNat)
  case atStart => exact ⟨0, Nat.zero_le _, rfl, hid fun j _ h => by omega⟩
  case round =>
    obtain ⟨k, hk, rfl, HK⟩ := hrel
    by_cases hlt : k < n
    · have hkv : k < vs.length := by rw [← HN.out]; exact hlt
      obtain ⟨hc, hd⟩ := H.out k hkv
      obtain ⟨v, hv⟩ : ∃ v, v = vs[k] := ⟨_, rfl⟩
      rw [← hv] at hc hd
      obtain ⟨⟨p, m, d⟩, q, m2, d2⟩ := v
      simp only [] at hc hd
      have HV := hid hv
      clear hv
      have hki : (k : Int) < (n : Int) := by omega
      by_cases h24 : m ≤ 12
      · have h24' : ¬ ((12 : Int) < (m : Int)) := by omega
        by_cases h25 : m2 ≤ 12
        · have h25' : ¬ ((12 : Int) < (m2 : Int)) := by omega
          go_wp2
          refine ⟨⟨k + 1, by omega, rfl, hid fun j hj hjk => ?_⟩, by simp [intOf]; omega⟩
          by_cases e : j = k
          · subst e; rw [← HV.out]; exact ⟨h24, h25⟩
          · exact HK.out j hj (by omega)
        · have h25' : ((12 : Int) < (m2 : Int)) := by omega
          go_wp2
          go_ret
          have : ¬ ∀ v ∈ vs, v.1.2.1 ≤ 12 ∧ v.2.2.1 ≤ 12 := fun h => by
            have := h vs[k] (List.getElem_mem hkv)
            rw [← HV.out] at this; exact h25 this.2
          rw [decide_eq_false this]
          exact ⟨rfl, rfl⟩
      · have h24' : ((12 : Int) < (m : Int)) := by omega
        go_wp2
        go_ret
        have : ¬ ∀ v ∈ vs, v.1.2.1 ≤ 12 ∧ v.2.2.1 ≤ 12 := fun h => by
          have := h vs[k] (List.getElem_mem hkv)
          rw [← HV.out] at this; exact h24 this.1
        rw [decide_eq_false this]
        exact ⟨rfl, rfl⟩
    · obtain rfl : k = n := by omega
      go_wp2
      go_ret
      have : ∀ v ∈ vs, v.1.2.1 ≤ 12 ∧ v.2.2.1 ≤ 12 := fun v hv => by
        obtain ⟨j, hj, rfl⟩ := List.getElem_of_mem hv
        exact HK.out j hj (by rw [HN.out]; exact hj)
      rw [decide_eq_true this]
      exact ⟨rfl, rfl⟩
end Go.Proofs.YtkggoniecmlglaaGreatDoor
