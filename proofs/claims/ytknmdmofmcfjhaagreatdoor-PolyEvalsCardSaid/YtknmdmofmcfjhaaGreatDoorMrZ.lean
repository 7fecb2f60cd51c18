/-
  PmN PmO, in one text.
-/
import Derived.Test.YtknmdmofmcfjhaaGreatDoorMrX
import Derived.Test.YtknmdmofmcfjhaaGreatDoorMrV

set_option linter.unusedVariables false
set_option linter.unusedSimpArgs false
namespace Go.Proofs.YtknmdmofmcfjhaaGreatDoor
open Go Go.RowKit _root_.Nm
theorem term_bd {V : List Rat} (h : ∀ v ∈ V, Bd 2 v) {v : Nat} (hv : v ≤ 6) {t : Tm} (h1 : Bd 4 t.2) (h2 : RightZ 8 t.1) : Bd 108 (t.2 * mv V t.1 v) := (h1.mul (mv_bd h h2 v)).mono (by omega)
theorem sumV_bd {V : List Rat} (h : ∀ v ∈ V, Bd 2 v) {v : Nat} (hv : v ≤ 6) : ∀ A : List Tm, (∀ t ∈ A, Bd 4 t.2 ∧ RightZ 8 t.1) → Bd (130 * A.length + 1) (sumV V v A)
  | [], _ => (show Bd 1 (0 : Rat) from ⟨by decide, by decide⟩)
  | t :: A, hA => by
    have h1 := term_bd h hv (hA t (by simp)).1 (hA t (by simp)).2
    exact (h1.add (sumV_bd h hv A fun s hs => hA s (by simp [hs]))).mono (by rw [List.length_cons]; omega)
theorem hI_bd {V : List Rat} (h : ∀ v ∈ V, Bd 2 v) {v : Nat} (hv : v ≤ 6) (Q : List Tm) (e : Nat) : ∀ A : List Tm, (∀ t ∈ A, Bd 4 t.2 ∧ RightZ 8 t.1) → Bd (130 * A.length + 1) (hI V v Q e A)
  | [], _ => (show Bd 1 (0 : Rat) from ⟨by decide, by decide⟩)
  | t :: A, hA => by
    have h1 := term_bd h hv (hA t (by simp)).1 (hA t (by simp)).2
    have h2 := bd_pow (getD_bd h (j := v)) ((ex t.1 v).toNat - e)
    have h3 := (hA t (by simp)).2.ex (by omega) v
    exact ((h1.mul h2).add (hI_bd h hv Q e A fun s hs => hA s (by simp [hs]))).mono (by rw [List.length_cons]; omega)
theorem term_fld0 (x y z u : Value) : ∀ w, (Instr.field 33 (.agg #[x, y, z, u]) 0).run Tryz.prog w = .ok (.agg #[x, y, z]) w := fun w => by kernel_rfl
def lnV : Value → Nat
  | .slice _ n _ => n
  | _ => 0
theorem drop_get {Q : List Tm} {i j : Nat} (h : i + j < Q.length) : (Q.drop i)[j]'(by rw [List.length_drop]; omega) = Q[i + j] := by simp
set_option maxHeartbeats 64000000 in
set_option maxRecDepth 100000 in
theorem horner_v : ∀ (v : Nat) (w : World) (T : Tb w) (b o n c : Nat) (Q : List Tm) (hP : IsP w (some ⟨b, o, none⟩) n c Q) (hn : 0 < n) (hn8 : n ≤ 8) (sg : Seg v Q) (bQ : BdP 4 Q) (eQ : ExP 8 Q) (pv : Option Addr) (nv cv : Nat) (V : List Rat) (hV : IsRs w pv nv cv V) (bV : ∀ x ∈ V, Bd 2 x) (hv : v ≤ nv) (hv6 : v ≤ 6),
    Calls Tryz.prog 103 #[.slice (some ⟨b, o, none⟩) n c, .int .i64 ((v : Int) - 1), .slice pv nv cv] w (QPost w (sumV V v Q)) := by
  intro v
  induction v using Nat.strongRecOn with
  | _ v ih =>
  intro w T b o n c Q hP hn hn8 sg bQ eQ pv nv cv V hV bV hv hv6
  have hl := hP.len; have hc := hP.cap; have hmx := hP.max; have hcv := hV.cap; have hmv := hV.max
  have HP := hid hP; have HL := hid hl; have HV := hid hV; have HB := hid (And.intro bQ eQ); have HBV := hid bV; have HT := hid T
  have HIH := hid ih
  obtain ⟨Z, hZ⟩ : ∃ Z, Z = sumV V v Q := ⟨_, rfl⟩
  rw [← hZ]
  have HZ := hid hZ; have HSG := hid sg
  obtain ⟨b', o', g1, p1, n1, c1, q1, m1, d1, a1, k1, e1, hbo', hxs, hV1, hX1⟩ := (hP.tms 0 (by omega)).out
  cases hbo'
  simp only [Nat.zero_mul, Nat.add_zero] at hxs
  obtain ⟨x0, x1, x2, x3⟩ := hxs
  have HV1 := hid hV1; have HX1 := hid hX1
  have hQ0 : 0 < Q.length := by omega
  have gA := World.grownBy_alloc w (.cells #[.bool false, .slice none 0 0, .slice none 0 0] 29 (0, 0)) none
  have HG := hid gA
  have BR := hid (blk0 w (.cells #[.bool false, .slice none 0 0, .slice none 0 0] 29 (0, 0)))
  clear hP hV bQ eQ bV T ih hZ sg hV1 hX1
  replace x0 := gA.cell x0 (by simp); replace x1 := gA.cell x1 (by simp); replace x2 := gA.cell x2 (by simp); replace x3 := gA.cell x3 (by simp)
  clear gA
  go_enter Tryz.func103, Tryz.ntmps103
  go_upto_region 1 with fail
  obtain ⟨br, hbr⟩ : ∃ x, x = w.heap.size := ⟨_, rfl⟩
  have hrw : w.heap.size ≤ br := by omega
  rw [← hbr] at BR ⊢
  clear hbr
  generalize w.alloc _ = w0 at *
  go_loop [1] (fun x => ∃ u : Nat, u ≤ v ∧ x = .int .i64 ((u : Int) - 1) ∧ Hid (Seg u Q) ∧ Hid (sumV V u Q = Z)) (fun x => (intOf x + 1).toNat)
  case atStart => exact ⟨v, Nat.le_refl _, rfl, HSG, hid HZ.out.symm⟩
  case round =>
    clear HSG HZ
    obtain ⟨u, huv, rfl, HSG, HZ⟩ := hrel
    cases u with
    | zero =>
      have hone := HSG.out.one
      have hn1 : n = 1 := by have := HL.out; omega
      have HZ0 : Hid (Q[0].2 = Z) := hid (by
        rw [← HZ.out]
        match Q, hQ0, hone with
        | [t], _, _ => show t.2 = t.2 * 1 + 0; rw [Rat.mul_one, Rat.add_zero])
      obtain ⟨z, hz⟩ : ∃ z, z = Q[0].2 := ⟨_, rfl⟩
      obtain ⟨xs, hxs⟩ : ∃ xs, xs = Q[0].1 := ⟨_, rfl⟩
      have hbz := HB.out.1.at hQ0; have hez := HB.out.2.at hQ0
      rw [← hz] at HZ0 HV1 hbz
      rw [← hxs] at HX1 hez
      have HFR := hid (fresh_v (HV1.out.keep HG.out) (HX1.out.keep HG.out) (by have := (HV1.out.lens hbz).1; omega) (by have := (HV1.out.lens hbz).2; omega) (by have := HX1.out.len; have := hez.len; omega))
      clear hz hxs hbz hez hone
      have hfl := term_fld0
      have hneg : ((0 : Nat) : Int) - 1 = -1 := by omega
      rw [hneg]
      clear hneg
      go_wp2_with (go_at_call 99; (with_reducible refine (HFR.out).mono ?_); rintro e w3 ⟨g3, p3, n3, c3, q3, m3, d3, a3, k3, e3, rfl, hV3, hX3, hg⟩; have hbR := keepB BR.out hg; obtain ⟨z0, z1, z2⟩ := box3p hbR; have fa := fun o => frozen_of_row w3 br o _ _ hbR; have f0 := fa 0; have f1 := fa 1; have f2 := fa 2; have HQ := hid (QPost.close hbR hrw (grown_trans HG.out hg) hV3); have HBE := hid (set3_block hbR g3 p3 n3 c3 q3 m3 d3); clear fa hbR hV3 hX3 hg)
      clear z0 z1 z2 f0 f1 f2
      generalize ((w3.setCell _ _).setCell _ _).setCell _ _ = wE at *
      obtain ⟨l0, l1, l2⟩ := box3p HBE.out
      exact bodyPost_ret (v := .agg #[.bool g3, .slice p3 n3 c3, .slice q3 m3 d3]) (by simp [results, Tryz.results103, go_sem, l0, l1, l2]) rfl (QPost.congr HQ.out HZ0.out)
    | succ u =>
      have hu1 : ((u + 1 : Nat) : Int) - 1 = (u : Int) := by omega
      rw [hu1]
      clear hu1
      have HE1 := hid (exp_nat a1 k1 e1 Q[0].1 w0 (HX1.out.keep HG.out) u)
      by_cases hz : ex Q[0].1 u = 0
      · rw [hz] at HE1
        obtain ⟨s1, s2⟩ := HSG.out.skip (V := V) hQ0 HB.out.2 hz
        have HS1 := hid s1; have HS2 := hid (s2.symm.trans HZ.out)
        clear s1 s2 hz
        go_wp2_with (go_at_call 131; (with_reducible refine (HE1.out).mono ?_); rintro e _ ⟨rfl, rfl⟩)
        exact ⟨⟨u, by omega, by go_num, HS1, HS2⟩, by simp [intOf]⟩
      · have hzb : (ex Q[0].1 u == 0) = false := by simpa using hz
        obtain ⟨z0', hz0⟩ : ∃ z, z = ex Q[0].1 u := ⟨_, rfl⟩
        rw [← hz0] at HE1 hzb hz
        clear hz0
        have hvu : u < nv := by omega
        obtain ⟨bv, ov, gv, pv1, nv1, cv1, qv1, mv1, dv1, rfl, ⟨v0, v1, v2⟩, hVv⟩ := HV.out.els u (by have := HV.out.len; omega)
        obtain ⟨vj, hvj⟩ : ∃ x, x = V[u]'(by have := HV.out.len; omega) := ⟨_, rfl⟩
        have HVJ : Hid (vj = V.getD u 0) := hid (by rw [hvj, getD_in])
        have hvb : Bd 2 vj := by rw [hvj]; exact HBV.out _ (List.getElem_mem _)
        rw [← hvj] at hVv
        have HVV := hid hVv; have HVB := hid hvb
        have HIHu := hid (HIH.out u (by omega))
        have HOF := hid fun W : World => ratOf_v 0 W (by omega) (by omega)
        rw [show ((0 : Int) : Rat) = 0 from rfl] at HOF
        unfold VPost at HOF
        clear hVv hvb hvj HIH HV1 HX1
        go_upto_region 6 with (first | (go_at_call 131; (with_reducible refine (HE1.out).mono ?_); rintro e _ ⟨rfl, rfl⟩) | (go_at_call 91; (with_reducible refine (HOF.out _).mono ?_); rintro e w1 ⟨g7, p7, n7, c7, q7, m7, d7, rfl, hV7, -, -, hg⟩; have HV7 := hid hV7; replace HG := hid (grown_trans HG.out hg); replace BR := hid (keepB BR.out hg); clear hV7 hg; have gB := World.grownBy_alloc w1 (.cells #[.bool g7, .slice p7 n7 c7, .slice q7 m7 d7] 29 (0, 0)) none; have BB := hid (blk0 w1 (.cells #[.bool g7, .slice p7 n7 c7, .slice q7 m7 d7] 29 (0, 0))); obtain ⟨i0, i1, i2⟩ := box3p (blk0 w1 (.cells #[.bool false, .slice none 0 0, .slice none 0 0] 29 (0, 0))); have fa := fun o => frozen_of_row (w1.alloc (.cells #[.bool false, .slice none 0 0, .slice none 0 0] 29 (0, 0))) w1.heap.size o _ _ (blk0 w1 (.cells #[.bool false, .slice none 0 0, .slice none 0 0] 29 (0, 0))); have f0 := fa 0; have f1 := fa 1; have f2 := fa 2; clear fa))
        clear i0 i1 i2 f0 f1 f2 x0 x1 x2 x3 HE1 hzb hz HOF
        obtain ⟨b7, hb7⟩ : ∃ x, x = w1.heap.size := ⟨_, rfl⟩
        have h7w : w.heap.size ≤ b7 := by have := HG.out.size; omega
        have h67 : br < b7 := by have := lt_of_block BR.out; omega
        rw [← hb7] at BB ⊢
        replace HG := hid (grown_trans HG.out gB); replace BR := hid (keepB BR.out gB); replace HV7 := hid (HV7.out.keep gB)
        have B7 := BB
        clear gB BB hb7
        generalize w1.alloc _ = w1b at *
        go_loopw [0] (fun x wr => ∃ (i m o2 c2 : Nat) (g7 : Bool) (p7 : Option Addr) (n7 c7 : Nat) (q7 : Option Addr) (m7 d7 : Nat), i + m = n ∧ x = .slice (some ⟨b, o2, none⟩) m c2 ∧ Hid (w.grownBy wr none) ∧ Hid (wr.heap[br]? = some (.cells #[.bool false, .slice none 0 0, .slice none 0 0] 29 (0, 0))) ∧ Hid (wr.heap[b7]? = some (.cells #[.bool g7, .slice p7 n7 c7, .slice q7 m7 d7] 29 (0, 0))) ∧ Hid (IsP w (some ⟨b, o2, none⟩) m c2 (Q.drop i)) ∧ Hid (IsV wr g7 p7 n7 c7 q7 m7 d7 (hI V u Q (eI Q u i) (Q.take i)))) (fun x _ => lnV x)
        case atStart => exact ⟨0, n, o, c, g7, p7, n7, c7, q7, m7, d7, by omega, rfl, HG, BR, B7, hid (by rw [List.drop_zero]; exact HP.out), hid (by rw [List.take_zero]; exact HV7.out)⟩
        case round =>
          clear HG BR B7 HV7
          obtain ⟨i, m, o2, c2, g7, p7, n7, c7, q7, m7, d7, him, rfl, HG, BR, B7, HPD, HV7⟩ := hrel
          have hc2 := HPD.out.cap; have hm2 := HPD.out.max
          by_cases hm : m = 0
          · subst hm
            obtain rfl : n = i := by omega
            have HEN : Hid (hI V u Q (eI Q u n) (Q.take n) = Z) := hid (by
              rw [show eI Q u n = 0 by unfold eI; rw [if_neg (by omega)], List.take_of_length_le (by omega), hI_end]
              exact HZ.out)
            obtain ⟨r0, r1, r2⟩ := box3p B7.out
            have HQ := hid (QPost.close BR.out hrw HG.out HV7.out)
            have HBE := hid (set3_block BR.out g7 p7 n7 c7 q7 m7 d7)
            obtain ⟨z0, z1, z2⟩ := box3p BR.out
            have fa := fun o => frozen_of_row wr br o _ _ BR.out
            have f0 := fa 0; have f1 := fa 1; have f2 := fa 2
            clear fa
            go_wp2_with fail
            clear z0 z1 z2 f0 f1 f2 r0 r1 r2
            generalize ((wr.setCell _ _).setCell _ _).setCell _ _ = wE at *
            obtain ⟨l0, l1, l2⟩ := box3p HBE.out
            exact bodyPost_ret (v := .agg #[.bool g7, .slice p7 n7 c7, .slice q7 m7 d7]) (by simp [results, Tryz.results103, go_sem, l0, l1, l2]) rfl (QPost.congr HQ.out HEN.out)
          · have hil : i < Q.length := by omega
            have hdl : (Q.drop i).length = m := by rw [List.length_drop]; omega
            obtain ⟨b', o', g2, p2, n2, c2', q2, m2, d2, a2, k2, e2, hbo', hxs, hV2, hX2⟩ := (HPD.out.tms 0 (by omega)).out
            cases hbo'
            simp only [Nat.zero_mul, Nat.add_zero] at hxs
            obtain ⟨-, -, -, y3⟩ := hxs
            replace y3 := HG.out.cell y3 (by simp)
            have he8 := ((HB.out.2.at hil).ex (by omega) u)
            obtain ⟨dn, hdn⟩ : ∃ k : Nat, ex Q[i].1 u = (k : Int) := ⟨(ex Q[i].1 u).toNat, by omega⟩
            have hdn8 : dn ≤ 8 := by omega
            have hei : eI Q u i = dn := by unfold eI; rw [if_pos hil, tmI_at hil, hdn]; rfl
            have e0 : (Q.drop i)[0].1 = Q[i].1 := by rw [drop_get (by omega)]; rfl
            have HEX1 := hid fun W (hg : w.grownBy W none) => exp_nat a2 k2 e2 _ W (hX2.keep hg) u
            rw [e0, hdn] at HEX1
            clear hV2 hX2 e0 he8
            go_upto_region 9 with (go_at_call 131; (with_reducible refine (HEX1.out _ HG.out).mono ?_); rintro e _ ⟨rfl, rfl⟩)
            clear y3
            go_loop [9] (fun x => ∃ e : Nat, 1 ≤ e ∧ e ≤ m ∧ x = .int .i64 e ∧ Hid (∀ k, k < e → ex (tmI (Q.drop i) k).1 u = dn)) (fun x => m - (intOf x).toNat)
            case atStart => exact ⟨1, by omega, by omega, rfl, hid fun k hk => by
              obtain rfl : k = 0 := by omega
              rw [tmI_at (by omega), drop_get (by omega)]
              exact hdn⟩
            case round =>
              obtain ⟨e, he1, hem, rfl, HS3⟩ := hrel
              have hec : e ≤ c2 := by omega
              have hu8 : u ≤ 8 := by omega
              by_cases hlt : e < m
              · obtain ⟨b', o', g3, p3, n3, c3, q3, m3, d3, a3, k3, e3, hbo', hxs, hV3, hX3⟩ := (HPD.out.tms e (by omega)).out
                cases hbo'
                obtain ⟨-, -, -, y3e⟩ := hxs
                have hie : i + e < Q.length := by omega
                have he8 := ((HB.out.2.at hie).ex (by omega) u)
                obtain ⟨de, hde⟩ : ∃ k : Nat, ex Q[i + e].1 u = (k : Int) := ⟨(ex Q[i + e].1 u).toNat, by omega⟩
                have HEX2 := hid fun W (hg : w.grownBy W none) => exp_nat a3 k3 e3 _ W (hX3.keep hg) u
                rw [drop_get hie, hde] at HEX2
                have t3 := HG.out.cell y3e (by simp)
                clear hV3 hX3 he8
                by_cases heq : de = dn
                · subst heq
                  go_wp2_with (go_at_call 131; (with_reducible refine (HEX2.out _ HG.out).mono ?_); rintro e _ ⟨rfl, rfl⟩)
                  exact ⟨⟨e + 1, by omega, by omega, by go_num, hid fun k hk => by
                    by_cases hke : k = e
                    · subst hke
                      rw [tmI_at (by omega), drop_get hie]
                      exact hde
                    · exact HS3.out k (by omega)⟩, by simp [intOf]; omega⟩
                · have hle : de ≤ dn := by
                    have := HSG.out.fall (show i ≤ i + e by omega) hie
                    omega
                  have hee : eI Q u (i + e) = de := by unfold eI; rw [if_pos hie, tmI_at hie, hde]; rfl
                  obtain ⟨dz, hdz⟩ : ∃ k, k = dn - de := ⟨_, rfl⟩
                  have hcc : ¬ c2 = e := by omega
                  obtain ⟨gs, hgs⟩ : ∃ x, x = sumV V u ((Q.drop i).take e) := ⟨_, rfl⟩
                  have hHS3 := HS3.out
                  have hgr : ∀ t ∈ (Q.drop i).take e, (ex t.1 u).toNat = dn := fun t ht => by
                    obtain ⟨k, hk, rfl⟩ := List.getElem_of_mem ht
                    have hk1 : k < e := by rw [List.length_take] at hk; omega
                    have hk2 := hHS3 k hk1
                    rw [tmI_at (by rw [List.length_take] at hk; omega)] at hk2
                    rw [List.getElem_take, hk2]
                    rfl
                  have hcat : Q.take i ++ (Q.drop i).take e = Q.take (i + e) := (List.take_add ..).symm
                  have hsg : gs = hI V u Q dn ((Q.drop i).take e) := by rw [hgs]; exact (hI_group V u Q _ hgr).symm
                  have hbm : ∀ t ∈ Q, Bd 4 t.2 ∧ RightZ 8 t.1 := fun t ht => ⟨HB.out.1 t ht, HB.out.2 t ht⟩
                  obtain ⟨a, ha⟩ : ∃ x, x = hI V u Q (eI Q u i) (Q.take i) := ⟨_, rfl⟩
                  obtain ⟨s, hs⟩ : ∃ x, x = a + gs := ⟨_, rfl⟩
                  have hba : Bd 1100 a := by rw [ha]; exact (hI_bd HBV.out (by omega) Q _ _ fun t ht => hbm t (List.mem_of_mem_take ht)).mono (by rw [List.length_take]; omega)
                  have hbg : Bd 1100 gs := by rw [hgs]; exact (sumV_bd HBV.out (by omega) _ fun t ht => hbm t (List.mem_of_mem_drop (List.mem_of_mem_take ht))).mono (by rw [List.length_take]; omega)
                  have hss : s = hI V u Q dn (Q.take (i + e)) := by rw [hs, ha, hsg, ← hcat, hI_append, hei]
                  have hbs : Bd 1100 s := by rw [hss]; exact (hI_bd HBV.out (by omega) Q _ _ fun t ht => hbm t (List.mem_of_mem_take ht)).mono (by rw [List.length_take]; omega)
                  have hfall : ∀ t ∈ Q.take (i + e), dn ≤ (ex t.1 u).toNat := fun t ht => by
                    obtain ⟨k, hk, rfl⟩ := List.getElem_of_mem ht
                    rw [List.length_take] at hk
                    rw [List.getElem_take]
                    have hz := hHS3 (e - 1) (by omega)
                    rw [tmI_at (by rw [List.length_drop]; omega), drop_get (by omega)] at hz
                    have := HSG.out.fall (show k ≤ i + (e - 1) by omega) (by omega)
                    omega
                  obtain ⟨z, hz⟩ : ∃ x, x = vj ^ dz := ⟨_, rfl⟩
                  obtain ⟨y, hy⟩ : ∃ x, x = s * z := ⟨_, rfl⟩
                  have hbz : Bd 17 z := by rw [hz]; exact (bd_pow HVB.out dz).mono (by omega)
                  have hyy : y = hI V u Q (eI Q u (i + e)) (Q.take (i + e)) := by
                    have := hI_step V u Q (show eI Q u (i + e) ≤ dn by omega) _ hfall
                    rw [← this, hy, hss, hz, HVJ.out, show dn - eI Q u (i + e) = dz by omega]
                  have HREC : Hid (∀ W, w.grownBy W none → Calls Tryz.prog 103 #[.slice (some ⟨b, o2, none⟩) e c2, .int .i64 (IntKind.i64.wrap ((u : Int) - 1)), .slice (some ⟨bv, ov, none⟩) nv cv] W (QPost W gs)) := hid fun W hg => by
                    rw [hgs, wrapI64 (by omega) (by omega)]
                    exact HIHu.out W (HT.out.keep hg) _ _ _ _ _ ((HPD.out.take (by omega)).keep hg) (by omega) (by omega) (((HSG.out.drop i).take e).down fun s hs t ht => by
                      have h1 := hgr s hs; have h2 := hgr t ht
                      have h3 := ((HB.out.2 s (List.mem_of_mem_drop (List.mem_of_mem_take hs))).ex (by omega) u).1
                      have h4 := ((HB.out.2 t (List.mem_of_mem_drop (List.mem_of_mem_take ht))).ex (by omega) u).1
                      omega) (fun t ht => HB.out.1 t (List.mem_of_mem_drop (List.mem_of_mem_take ht))) (fun t ht => HB.out.2 t (List.mem_of_mem_drop (List.mem_of_mem_take ht))) _ _ _ _ (HV.out.keep hg) HBV.out (by omega) (by omega)
                  have HADi : Hid (∀ W, w.grownBy W none → ∀ g p n c q m d g2 p2 n2 c2 q2 m2 d2, IsV W g p n c q m d a → IsV W g2 p2 n2 c2 q2 m2 d2 gs → Calls Tryz.prog 50 #[.agg #[.bool g, .slice p n c, .slice q m d], .agg #[.bool g2, .slice p2 n2 c2, .slice q2 m2 d2]] W (VPost W s 4420)) := hid fun W hg g p n c q m d g2 p2 n2 c2 q2 m2 d2 h k => by rw [hs]; exact ratAdd_v 1100 (HT.out.keep hg) h.q k.q (h.lens hba).1 (h.lens hba).2 (k.lens hbg).1 (k.lens hbg).2 (by omega)
                  have HMLi : Hid (∀ W, w.grownBy W none → ∀ g p n c q m d g2 p2 n2 c2 q2 m2 d2, IsV W g p n c q m d s → IsV W g2 p2 n2 c2 q2 m2 d2 z → Calls Tryz.prog 51 #[.agg #[.bool g, .slice p n c, .slice q m d], .agg #[.bool g2, .slice p2 n2 c2, .slice q2 m2 d2]] W (VPost W y 4420)) := hid fun W hg g p n c q m d g2 p2 n2 c2 q2 m2 d2 h k => by rw [hy]; exact ratMul_v 1100 (HT.out.keep hg) h.q k.q (h.lens hbs).1 (h.lens hbs).2 (by have := (k.lens hbz).1; omega) (by have := (k.lens hbz).2; omega) (by omega)
                  have HPW : Hid (∀ W, w.grownBy W none → Calls Tryz.prog 150 #[.agg #[.bool gv, .slice pv1 nv1 cv1, .slice qv1 mv1 dv1], .int .i64 ((dn : Int) - (de : Int))] W (VPost W z 20)) := hid fun W hg => by
                    have := power6_v (HVV.out.keep hg) (HVV.out.lens HVB.out).1 (HVV.out.lens HVB.out).2 (show dz ≤ 8 by omega)
                    rw [← hz] at this
                    rw [show (dz : Int) = (dn : Int) - (de : Int) by omega] at this
                    exact this
                  have HVE : Hid (∀ {W g p n c q m d}, IsV W g p n c q m d y → IsV W g p n c q m d (hI V u Q (eI Q u (i + e)) (Q.take (i + e)))) := hid fun h => h.congr hyy
                  have HPN := hid (HPD.out.drop2 (show e ≤ m by omega))
                  rw [List.drop_drop] at HPN
                  rw [← ha] at HV7
                  unfold QPost at HREC
                  unfold VPost at HADi HMLi HPW
                  clear hgs hHS3 hgr hcat hsg hbm ha hs hba hbg hss hbs hfall hz hy hbz hyy
                  rw [if_neg hcc] at HPN
                  go_upto_region 11 with (go_at_call 131; (with_reducible refine (HEX2.out _ HG.out).mono ?_); rintro e _ ⟨rfl, rfl⟩)
                  clear t3
                  refine wp_region_noPanic ?_
                  refine wp_region_held_drew (S := (fun W => w.grownBy W none)) (by kernel_rfl) ?_ (fun hHeld => ?_)
                  · (try dsimp only)
                    exact grown_trans HG.out (grown_drew _ none)
                  have hgg := grown_trans HG.out (grown_drew wr none)
                  have hbR := keepB BR.out (grown_drew wr none)
                  have hb7 := keepB B7.out (grown_drew wr none)
                  have hV7 := HV7.out.keep (grown_drew wr none)
                  clear HG B7 HV7 BR
                  generalize wr.drew = wd at *
                  refine wpAnyH_take (i := 1) (oi := Oper.mk _ _ _ _ _ _) (v := ?_) rfl (by kernel_rfl) (by kernel_rfl) (by kernel_rfl) (fun _ _ _ h => h) (Or.inl ⟨by kernel_rfl, ?_⟩) hHeld ?_
                  rotate_left 1
                  · intro W hSw
                    (try dsimp only at hSw)
                    skip
                    go_simp
                    (try (with_reducible rfl))
                  (try simp only [Act.put, List.setIfInBounds_toArray, List.set_cons_zero, List.set_cons_succ])
                  refine wpAnyH_take (i := 2) (oi := Oper.mk _ _ _ _ _ _) (v := ?_) rfl (by kernel_rfl) (by kernel_rfl) (by kernel_rfl) (fun _ _ _ h => h) (Or.inl ⟨by kernel_rfl, ?_⟩) hHeld ?_
                  rotate_left 1
                  · intro W hSw
                    (try dsimp only at hSw)
                    skip
                    go_simp
                    (try (with_reducible rfl))
                  (try simp only [Act.put, List.setIfInBounds_toArray, List.set_cons_zero, List.set_cons_succ])
                  refine wpAnyH_take (i := 3) (oi := Oper.mk _ _ _ _ _ _) (v := ?_) rfl (by kernel_rfl) (by kernel_rfl) (by kernel_rfl) (fun _ _ _ h => h) (Or.inl ⟨by kernel_rfl, ?_⟩) hHeld ?_
                  rotate_left 1
                  · intro W hSw
                    (try dsimp only at hSw)
                    skip
                    go_simp
                    (try (with_reducible rfl))
                  (try simp only [Act.put, List.setIfInBounds_toArray, List.set_cons_zero, List.set_cons_succ])
                  refine wpAnyH_take (i := 4) (oi := Oper.mk _ _ _ _ _ _) (v := ?_) rfl (by kernel_rfl) (by kernel_rfl) (by kernel_rfl) (fun _ _ _ h => h) (Or.inl ⟨by kernel_rfl, ?_⟩) hHeld ?_
                  rotate_left 1
                  · intro W hSw
                    (try dsimp only at hSw)
                    skip
                    go_simp
                    (try (with_reducible rfl))
                  (try simp only [Act.put, List.setIfInBounds_toArray, List.set_cons_zero, List.set_cons_succ])
                  refine wpAnyH_take (i := 5) (oi := Oper.mk _ _ _ _ _ _) (v := ?_) rfl (by kernel_rfl) (by kernel_rfl) (by kernel_rfl) (fun _ _ _ h => h) (Or.inl ⟨by kernel_rfl, ?_⟩) hHeld ?_
                  rotate_left 1
                  · intro W hSw
                    (try dsimp only at hSw)
                    skip
                    go_simp
                    (try (with_reducible rfl))
                  (try simp only [Act.put, List.setIfInBounds_toArray, List.set_cons_zero, List.set_cons_succ])
                  refine wpAnyH_take (i := 6) (oi := Oper.mk _ _ _ _ _ _) (v := ?_) rfl (by kernel_rfl) (by kernel_rfl) (by kernel_rfl) (fun _ _ _ h => h) (Or.inl ⟨by kernel_rfl, ?_⟩) hHeld ?_
                  rotate_left 1
                  · intro W hSw
                    (try dsimp only at hSw)
                    skip
                    go_simp
                    (try (with_reducible rfl))
                  (try simp only [Act.put, List.setIfInBounds_toArray, List.set_cons_zero, List.set_cons_succ])
                  refine wpAnyH_ready (rs := [0, 7]) (by kernel_rfl) (by simp) ?_
                  refine AllReadyH.cons (o := Oper.mk _ _ _ _ _ _) rfl (fun K hK => ?_) ?_
                  · (try rw [if_pos (by kernel_rfl)])
                    obtain ⟨z0, z1, z2⟩ := box3p hb7
                    go_simp
                    refine hK.out _ _ ?_ (fun hNew => ?_)
                    · have hH := hHeld
                      (try dsimp only at hH)
                      (try dsimp only)
                      first | with_reducible exact grown_trans hH hgS | with_reducible exact grown_new hH hgS (fun g' e => by cases e; exact h7w) | with_reducible exact hH
                    clear hK K hHeld
                    have hHeld := hNew
                    clear hNew
                    (try simp only [Act.put, List.setIfInBounds_toArray, List.set_cons_zero, List.set_cons_succ])
                    refine wpAnyH_ready (rs := [7]) (by kernel_rfl) (by simp) ?_
                    refine AllReadyH.cons (o := Oper.mk _ _ _ _ _ _) rfl (fun K hK => ?_) AllReadyH.nil
                    (try rw [if_pos (by kernel_rfl)])
                    go_simp
                    go_at_call 103
                    (with_reducible refine (HREC.out _ hgg).mono ?_)
                    rintro e wy1 ⟨g8, p8, n8, c8, q8, m8, d8, rfl, hV8, hgS⟩
                    replace hgg := grown_trans hgg hgS
                    replace hbR := keepB hbR hgS
                    replace hb7 := keepB hb7 hgS
                    replace hV7 := hV7.keep hgS
                    refine hK.out _ _ ?_ (fun hNew => ?_)
                    · have hH := hHeld
                      (try dsimp only at hH)
                      (try dsimp only)
                      first | with_reducible exact grown_trans hH hgS | with_reducible exact grown_new hH hgS (fun g' e => by cases e; exact h7w) | with_reducible exact hH
                    clear hK K hHeld
                    have hHeld := hNew
                    clear hNew
                    (try simp only [Act.put, List.setIfInBounds_toArray, List.set_cons_zero, List.set_cons_succ])
                    clear hgS
                    refine wpAnyH_ready (rs := [8]) (by kernel_rfl) (by simp) ?_
                    refine AllReadyH.cons (o := Oper.mk _ _ _ _ _ _) rfl (fun K hK => ?_) AllReadyH.nil
                    (try rw [if_pos (by kernel_rfl)])
                    go_simp
                    go_at_call 50
                    (with_reducible refine (HADi.out _ hgg _ _ _ _ _ _ _ _ _ _ _ _ _ _ hV7 hV8).mono ?_)
                    rintro e wy2 ⟨g9, p9, n9, c9, q9, m9, d9, rfl, hV9, -, -, hgS⟩
                    replace hgg := grown_trans hgg hgS
                    replace hbR := keepB hbR hgS
                    replace hb7 := keepB hb7 hgS
                    replace hV7 := hV7.keep hgS
                    replace hV8 := hV8.keep hgS
                    refine hK.out _ _ ?_ (fun hNew => ?_)
                    · have hH := hHeld
                      (try dsimp only at hH)
                      (try dsimp only)
                      first | with_reducible exact grown_trans hH hgS | with_reducible exact grown_new hH hgS (fun g' e => by cases e; exact h7w) | with_reducible exact hH
                    clear hK K hHeld
                    have hHeld := hNew
                    clear hNew
                    (try simp only [Act.put, List.setIfInBounds_toArray, List.set_cons_zero, List.set_cons_succ])
                    clear hgS
                    refine wpAnyH_ready (rs := [9]) (by kernel_rfl) (by simp) ?_
                    refine AllReadyH.cons (o := Oper.mk _ _ _ _ _ _) rfl (fun K hK => ?_) AllReadyH.nil
                    (try rw [if_pos (by kernel_rfl)])
                    obtain ⟨z0, z1, z2⟩ := box3p hb7
                    have zf := fun o => frozen_of_row wy2 b7 o _ _ hb7
                    have f0 := zf 0
                    have f1 := zf 1
                    have f2 := zf 2
                    go_simp
                    have hgS := set3_grown wy2 b7 (.bool g9) (.slice p9 n9 c9) (.slice q9 m9 d9)
                    have B7E := hid (set3_block hb7 g9 p9 n9 c9 q9 m9 d9)
                    have HGE := hid (grown_new hgg hgS (fun g' e => by cases e; exact h7w))
                    have HV7E := hid (stay3 hV9 hb7 hgS)
                    have BRE := hid ((hgS.block br (lt_of_block hbR) (by simp; omega)).trans hbR)
                    clear z0 z1 z2 zf f0 f1 f2
                    refine hK.out _ _ ?_ (fun hNew => ?_)
                    · have hH := hHeld
                      (try dsimp only at hH)
                      (try dsimp only)
                      first | with_reducible exact grown_trans hH hgS | with_reducible exact grown_new hH hgS (fun g' e => by cases e; exact h7w) | with_reducible exact hH
                    clear hK K hHeld
                    have hHeld := hNew
                    clear hNew
                    (try simp only [Act.put, List.setIfInBounds_toArray, List.set_cons_zero, List.set_cons_succ])
                    refine wpAnyH_done (by kernel_rfl) ?_ _
                    refine NoPanic.normal ?_
                    clear hHeld hgS hV8 hV9 hV7 hbR hb7 hgg
                    generalize ((wy2.setCell _ _).setCell _ _).setCell _ _ = wE at *
                    have HGE2 := HGE
                    have B7E2 := B7E
                    have HV7E2 := HV7E
                    have BRE2 := BRE
                    clear HGE B7E HV7E BRE
                    have t3 := HGE2.out.cell y3e (by simp)
                    go_upto_region 15 with (go_at_call 131; (with_reducible refine (HEX2.out _ HGE2.out).mono ?_); rintro e _ ⟨rfl, rfl⟩)
                    clear t3
                    refine wp_region_noPanic ?_
                    refine wp_region_held_drew (S := (fun W => w.grownBy W none)) (by kernel_rfl) ?_ (fun hHeld => ?_)
                    · (try dsimp only)
                      exact grown_trans HGE2.out (grown_drew _ none)
                    have hgg := grown_trans HGE2.out (grown_drew wE none)
                    have hbR := keepB BRE2.out (grown_drew wE none)
                    have hb7 := keepB B7E2.out (grown_drew wE none)
                    have hV7 := HV7E2.out.keep (grown_drew wE none)
                    clear HGE2 B7E2 HV7E2 BRE2
                    generalize wE.drew = wd at *
                    refine wpAnyH_take (i := 1) (oi := Oper.mk _ _ _ _ _ _) (v := ?_) rfl (by kernel_rfl) (by kernel_rfl) (by kernel_rfl) (fun _ _ _ h => h) (Or.inl ⟨by kernel_rfl, ?_⟩) hHeld ?_
                    rotate_left 1
                    · intro W hSw
                      (try dsimp only at hSw)
                      have e0 := hSw.cell v0 (by simp)
                      have e1' := hSw.cell v1 (by simp)
                      have e2 := hSw.cell v2 (by simp)
                      go_simp
                      (try (with_reducible rfl))
                    (try simp only [Act.put, List.setIfInBounds_toArray, List.set_cons_zero, List.set_cons_succ])
                    refine wpAnyH_take (i := 2) (oi := Oper.mk _ _ _ _ _ _) (v := ?_) rfl (by kernel_rfl) (by kernel_rfl) (by kernel_rfl) (fun _ _ _ h => h) (Or.inl ⟨by kernel_rfl, ?_⟩) hHeld ?_
                    rotate_left 1
                    · intro W hSw
                      (try dsimp only at hSw)
                      have e0 := hSw.cell v0 (by simp)
                      have e1' := hSw.cell v1 (by simp)
                      have e2 := hSw.cell v2 (by simp)
                      go_simp
                      (try (with_reducible rfl))
                    (try simp only [Act.put, List.setIfInBounds_toArray, List.set_cons_zero, List.set_cons_succ])
                    refine wpAnyH_take (i := 3) (oi := Oper.mk _ _ _ _ _ _) (v := ?_) rfl (by kernel_rfl) (by kernel_rfl) (by kernel_rfl) (fun _ _ _ h => h) (Or.inl ⟨by kernel_rfl, ?_⟩) hHeld ?_
                    rotate_left 1
                    · intro W hSw
                      (try dsimp only at hSw)
                      have e0 := hSw.cell v0 (by simp)
                      have e1' := hSw.cell v1 (by simp)
                      have e2 := hSw.cell v2 (by simp)
                      go_simp
                      (try (with_reducible rfl))
                    (try simp only [Act.put, List.setIfInBounds_toArray, List.set_cons_zero, List.set_cons_succ])
                    refine wpAnyH_take (i := 4) (oi := Oper.mk _ _ _ _ _ _) (v := ?_) rfl (by kernel_rfl) (by kernel_rfl) (by kernel_rfl) (fun _ _ _ h => h) (Or.inl ⟨by kernel_rfl, ?_⟩) hHeld ?_
                    rotate_left 1
                    · intro W hSw
                      (try dsimp only at hSw)
                      have e0 := hSw.cell v0 (by simp)
                      have e1' := hSw.cell v1 (by simp)
                      have e2 := hSw.cell v2 (by simp)
                      go_simp
                      (try (with_reducible rfl))
                    (try simp only [Act.put, List.setIfInBounds_toArray, List.set_cons_zero, List.set_cons_succ])
                    refine wpAnyH_take (i := 5) (oi := Oper.mk _ _ _ _ _ _) (v := ?_) rfl (by kernel_rfl) (by kernel_rfl) (by kernel_rfl) (fun _ _ _ h => h) (Or.inl ⟨by kernel_rfl, ?_⟩) hHeld ?_
                    rotate_left 1
                    · intro W hSw
                      (try dsimp only at hSw)
                      have e0 := hSw.cell v0 (by simp)
                      have e1' := hSw.cell v1 (by simp)
                      have e2 := hSw.cell v2 (by simp)
                      go_simp
                      (try (with_reducible rfl))
                    (try simp only [Act.put, List.setIfInBounds_toArray, List.set_cons_zero, List.set_cons_succ])
                    refine wpAnyH_ready (rs := [0, 6]) (by kernel_rfl) (by simp) ?_
                    refine AllReadyH.cons (o := Oper.mk _ _ _ _ _ _) rfl (fun K hK => ?_) ?_
                    · (try rw [if_pos (by kernel_rfl)])
                      obtain ⟨z0, z1, z2⟩ := box3p hb7
                      go_simp
                      refine hK.out _ _ ?_ (fun hNew => ?_)
                      · have hH := hHeld
                        (try dsimp only at hH)
                        (try dsimp only)
                        first | with_reducible exact grown_trans hH hgS | with_reducible exact grown_new hH hgS (fun g' e => by cases e; exact h7w) | with_reducible exact hH
                      clear hK K hHeld
                      have hHeld := hNew
                      clear hNew
                      (try simp only [Act.put, List.setIfInBounds_toArray, List.set_cons_zero, List.set_cons_succ])
                      refine wpAnyH_ready (rs := [6]) (by kernel_rfl) (by simp) ?_
                      refine AllReadyH.cons (o := Oper.mk _ _ _ _ _ _) rfl (fun K hK => ?_) AllReadyH.nil
                      (try rw [if_pos (by kernel_rfl)])
                      go_simp
                      go_at_call 150
                      (with_reducible refine (HPW.out _ hgg).mono ?_)
                      rintro e wy1 ⟨g4, p4, n4, c4, q4, m4, d4, rfl, hV4, -, -, hgS⟩
                      replace hgg := grown_trans hgg hgS
                      replace hbR := keepB hbR hgS
                      replace hb7 := keepB hb7 hgS
                      replace hV7 := hV7.keep hgS
                      refine hK.out _ _ ?_ (fun hNew => ?_)
                      · have hH := hHeld
                        (try dsimp only at hH)
                        (try dsimp only)
                        first | with_reducible exact grown_trans hH hgS | with_reducible exact grown_new hH hgS (fun g' e => by cases e; exact h7w) | with_reducible exact hH
                      clear hK K hHeld
                      have hHeld := hNew
                      clear hNew
                      (try simp only [Act.put, List.setIfInBounds_toArray, List.set_cons_zero, List.set_cons_succ])
                      clear hgS
                      refine wpAnyH_ready (rs := [7]) (by kernel_rfl) (by simp) ?_
                      refine AllReadyH.cons (o := Oper.mk _ _ _ _ _ _) rfl (fun K hK => ?_) AllReadyH.nil
                      (try rw [if_pos (by kernel_rfl)])
                      go_simp
                      go_at_call 51
                      (with_reducible refine (HMLi.out _ hgg _ _ _ _ _ _ _ _ _ _ _ _ _ _ hV7 hV4).mono ?_)
                      rintro e wy2 ⟨g5, p5, n5, c5, q5, m5, d5, rfl, hV5, -, -, hgS⟩
                      replace hgg := grown_trans hgg hgS
                      replace hbR := keepB hbR hgS
                      replace hb7 := keepB hb7 hgS
                      replace hV7 := hV7.keep hgS
                      replace hV4 := hV4.keep hgS
                      refine hK.out _ _ ?_ (fun hNew => ?_)
                      · have hH := hHeld
                        (try dsimp only at hH)
                        (try dsimp only)
                        first | with_reducible exact grown_trans hH hgS | with_reducible exact grown_new hH hgS (fun g' e => by cases e; exact h7w) | with_reducible exact hH
                      clear hK K hHeld
                      have hHeld := hNew
                      clear hNew
                      (try simp only [Act.put, List.setIfInBounds_toArray, List.set_cons_zero, List.set_cons_succ])
                      clear hgS
                      refine wpAnyH_ready (rs := [8]) (by kernel_rfl) (by simp) ?_
                      refine AllReadyH.cons (o := Oper.mk _ _ _ _ _ _) rfl (fun K hK => ?_) AllReadyH.nil
                      (try rw [if_pos (by kernel_rfl)])
                      obtain ⟨z0, z1, z2⟩ := box3p hb7
                      have zf := fun o => frozen_of_row wy2 b7 o _ _ hb7
                      have f0 := zf 0
                      have f1 := zf 1
                      have f2 := zf 2
                      go_simp
                      have hgS := set3_grown wy2 b7 (.bool g5) (.slice p5 n5 c5) (.slice q5 m5 d5)
                      have B7E := hid (set3_block hb7 g5 p5 n5 c5 q5 m5 d5)
                      have HGE := hid (grown_new hgg hgS (fun g' e => by cases e; exact h7w))
                      have HV7E := hid (stay3 hV5 hb7 hgS)
                      have BRE := hid ((hgS.block br (lt_of_block hbR) (by simp; omega)).trans hbR)
                      clear z0 z1 z2 zf f0 f1 f2
                      refine hK.out _ _ ?_ (fun hNew => ?_)
                      · have hH := hHeld
                        (try dsimp only at hH)
                        (try dsimp only)
                        first | with_reducible exact grown_trans hH hgS | with_reducible exact grown_new hH hgS (fun g' e => by cases e; exact h7w) | with_reducible exact hH
                      clear hK K hHeld
                      have hHeld := hNew
                      clear hNew
                      (try simp only [Act.put, List.setIfInBounds_toArray, List.set_cons_zero, List.set_cons_succ])
                      refine wpAnyH_done (by kernel_rfl) ?_ _
                      refine NoPanic.normal ?_
                      clear hHeld hgS hV4 hV5 hV7 hbR hb7 hgg
                      generalize ((wy2.setCell _ _).setCell _ _).setCell _ _ = wF at *
                      have HN := hid (HVE.out HV7E.out)
                      clear HV7E
                      go_wp2_with fail
                      exact ⟨⟨i + e, m - e, o2 + e * 4, c2 - e, g5, p5, n5, c5, q5, m5, d5, by omega, by first | rfl | (simp; done) | (simp; omega), HGE, BRE, B7E, HPN, HN⟩, by simp [lnV]; omega⟩
                    refine AllReadyH.cons (o := Oper.mk _ _ _ _ _ _) rfl (fun K hK => ?_) AllReadyH.nil
                    (try rw [if_pos (by kernel_rfl)])
                    go_simp
                    go_at_call 150
                    (with_reducible refine (HPW.out _ hgg).mono ?_)
                    rintro e wy1 ⟨g4, p4, n4, c4, q4, m4, d4, rfl, hV4, -, -, hgS⟩
                    replace hgg := grown_trans hgg hgS
                    replace hbR := keepB hbR hgS
                    replace hb7 := keepB hb7 hgS
                    replace hV7 := hV7.keep hgS
                    refine hK.out _ _ ?_ (fun hNew => ?_)
                    · have hH := hHeld
                      (try dsimp only at hH)
                      (try dsimp only)
                      first | with_reducible exact grown_trans hH hgS | with_reducible exact grown_new hH hgS (fun g' e => by cases e; exact h7w) | with_reducible exact hH
                    clear hK K hHeld
                    have hHeld := hNew
                    clear hNew
                    (try simp only [Act.put, List.setIfInBounds_toArray, List.set_cons_zero, List.set_cons_succ])
                    clear hgS
                    refine wpAnyH_ready (rs := [0]) (by kernel_rfl) (by simp) ?_
                    refine AllReadyH.cons (o := Oper.mk _ _ _ _ _ _) rfl (fun K hK => ?_) AllReadyH.nil
                    (try rw [if_pos (by kernel_rfl)])
                    obtain ⟨z0, z1, z2⟩ := box3p hb7
                    go_simp
                    refine hK.out _ _ ?_ (fun hNew => ?_)
                    · have hH := hHeld
                      (try dsimp only at hH)
                      (try dsimp only)
                      first | with_reducible exact grown_trans hH hgS | with_reducible exact grown_new hH hgS (fun g' e => by cases e; exact h7w) | with_reducible exact hH
                    clear hK K hHeld
                    have hHeld := hNew
                    clear hNew
                    (try simp only [Act.put, List.setIfInBounds_toArray, List.set_cons_zero, List.set_cons_succ])
                    refine wpAnyH_ready (rs := [7]) (by kernel_rfl) (by simp) ?_
                    refine AllReadyH.cons (o := Oper.mk _ _ _ _ _ _) rfl (fun K hK => ?_) AllReadyH.nil
                    (try rw [if_pos (by kernel_rfl)])
                    go_simp
                    go_at_call 51
                    (with_reducible refine (HMLi.out _ hgg _ _ _ _ _ _ _ _ _ _ _ _ _ _ hV7 hV4).mono ?_)
                    rintro e wy2 ⟨g5, p5, n5, c5, q5, m5, d5, rfl, hV5, -, -, hgS⟩
                    replace hgg := grown_trans hgg hgS
                    replace hbR := keepB hbR hgS
                    replace hb7 := keepB hb7 hgS
                    replace hV7 := hV7.keep hgS
                    replace hV4 := hV4.keep hgS
                    refine hK.out _ _ ?_ (fun hNew => ?_)
                    · have hH := hHeld
                      (try dsimp only at hH)
                      (try dsimp only)
                      first | with_reducible exact grown_trans hH hgS | with_reducible exact grown_new hH hgS (fun g' e => by cases e; exact h7w) | with_reducible exact hH
                    clear hK K hHeld
                    have hHeld := hNew
                    clear hNew
                    (try simp only [Act.put, List.setIfInBounds_toArray, List.set_cons_zero, List.set_cons_succ])
                    clear hgS
                    refine wpAnyH_ready (rs := [8]) (by kernel_rfl) (by simp) ?_
                    refine AllReadyH.cons (o := Oper.mk _ _ _ _ _ _) rfl (fun K hK => ?_) AllReadyH.nil
                    (try rw [if_pos (by kernel_rfl)])
                    obtain ⟨z0, z1, z2⟩ := box3p hb7
                    have zf := fun o => frozen_of_row wy2 b7 o _ _ hb7
                    have f0 := zf 0
                    have f1 := zf 1
                    have f2 := zf 2
                    go_simp
                    have hgS := set3_grown wy2 b7 (.bool g5) (.slice p5 n5 c5) (.slice q5 m5 d5)
                    have B7E := hid (set3_block hb7 g5 p5 n5 c5 q5 m5 d5)
                    have HGE := hid (grown_new hgg hgS (fun g' e => by cases e; exact h7w))
                    have HV7E := hid (stay3 hV5 hb7 hgS)
                    have BRE := hid ((hgS.block br (lt_of_block hbR) (by simp; omega)).trans hbR)
                    clear z0 z1 z2 zf f0 f1 f2
                    refine hK.out _ _ ?_ (fun hNew => ?_)
                    · have hH := hHeld
                      (try dsimp only at hH)
                      (try dsimp only)
                      first | with_reducible exact grown_trans hH hgS | with_reducible exact grown_new hH hgS (fun g' e => by cases e; exact h7w) | with_reducible exact hH
                    clear hK K hHeld
                    have hHeld := hNew
                    clear hNew
                    (try simp only [Act.put, List.setIfInBounds_toArray, List.set_cons_zero, List.set_cons_succ])
                    refine wpAnyH_done (by kernel_rfl) ?_ _
                    refine NoPanic.normal ?_
                    clear hHeld hgS hV4 hV5 hV7 hbR hb7 hgg
                    generalize ((wy2.setCell _ _).setCell _ _).setCell _ _ = wF at *
                    have HN := hid (HVE.out HV7E.out)
                    clear HV7E
                    go_wp2_with fail
                    exact ⟨⟨i + e, m - e, o2 + e * 4, c2 - e, g5, p5, n5, c5, q5, m5, d5, by omega, by first | rfl | (simp; done) | (simp; omega), HGE, BRE, B7E, HPN, HN⟩, by simp [lnV]; omega⟩
                  refine AllReadyH.cons (o := Oper.mk _ _ _ _ _ _) rfl (fun K hK => ?_) AllReadyH.nil
                  (try rw [if_pos (by kernel_rfl)])
                  go_simp
                  go_at_call 103
                  (with_reducible refine (HREC.out _ hgg).mono ?_)
                  rintro e wy1 ⟨g8, p8, n8, c8, q8, m8, d8, rfl, hV8, hgS⟩
                  replace hgg := grown_trans hgg hgS
                  replace hbR := keepB hbR hgS
                  replace hb7 := keepB hb7 hgS
                  replace hV7 := hV7.keep hgS
                  refine hK.out _ _ ?_ (fun hNew => ?_)
                  · have hH := hHeld
                    (try dsimp only at hH)
                    (try dsimp only)
                    first | with_reducible exact grown_trans hH hgS | with_reducible exact grown_new hH hgS (fun g' e => by cases e; exact h7w) | with_reducible exact hH
                  clear hK K hHeld
                  have hHeld := hNew
                  clear hNew
                  (try simp only [Act.put, List.setIfInBounds_toArray, List.set_cons_zero, List.set_cons_succ])
                  clear hgS
                  refine wpAnyH_ready (rs := [0]) (by kernel_rfl) (by simp) ?_
                  refine AllReadyH.cons (o := Oper.mk _ _ _ _ _ _) rfl (fun K hK => ?_) AllReadyH.nil
                  (try rw [if_pos (by kernel_rfl)])
                  obtain ⟨z0, z1, z2⟩ := box3p hb7
                  go_simp
                  refine hK.out _ _ ?_ (fun hNew => ?_)
                  · have hH := hHeld
                    (try dsimp only at hH)
                    (try dsimp only)
                    first | with_reducible exact grown_trans hH hgS | with_reducible exact grown_new hH hgS (fun g' e => by cases e; exact h7w) | with_reducible exact hH
                  clear hK K hHeld
                  have hHeld := hNew
                  clear hNew
                  (try simp only [Act.put, List.setIfInBounds_toArray, List.set_cons_zero, List.set_cons_succ])
                  refine wpAnyH_ready (rs := [8]) (by kernel_rfl) (by simp) ?_
                  refine AllReadyH.cons (o := Oper.mk _ _ _ _ _ _) rfl (fun K hK => ?_) AllReadyH.nil
                  (try rw [if_pos (by kernel_rfl)])
                  go_simp
                  go_at_call 50
                  (with_reducible refine (HADi.out _ hgg _ _ _ _ _ _ _ _ _ _ _ _ _ _ hV7 hV8).mono ?_)
                  rintro e wy2 ⟨g9, p9, n9, c9, q9, m9, d9, rfl, hV9, -, -, hgS⟩
                  replace hgg := grown_trans hgg hgS
                  replace hbR := keepB hbR hgS
                  replace hb7 := keepB hb7 hgS
                  replace hV7 := hV7.keep hgS
                  replace hV8 := hV8.keep hgS
                  refine hK.out _ _ ?_ (fun hNew => ?_)
                  · have hH := hHeld
                    (try dsimp only at hH)
                    (try dsimp only)
                    first | with_reducible exact grown_trans hH hgS | with_reducible exact grown_new hH hgS (fun g' e => by cases e; exact h7w) | with_reducible exact hH
                  clear hK K hHeld
                  have hHeld := hNew
                  clear hNew
                  (try simp only [Act.put, List.setIfInBounds_toArray, List.set_cons_zero, List.set_cons_succ])
                  clear hgS
                  refine wpAnyH_ready (rs := [9]) (by kernel_rfl) (by simp) ?_
                  refine AllReadyH.cons (o := Oper.mk _ _ _ _ _ _) rfl (fun K hK => ?_) AllReadyH.nil
                  (try rw [if_pos (by kernel_rfl)])
                  obtain ⟨z0, z1, z2⟩ := box3p hb7
                  have zf := fun o => frozen_of_row wy2 b7 o _ _ hb7
                  have f0 := zf 0
                  have f1 := zf 1
                  have f2 := zf 2
                  go_simp
                  have hgS := set3_grown wy2 b7 (.bool g9) (.slice p9 n9 c9) (.slice q9 m9 d9)
                  have B7E := hid (set3_block hb7 g9 p9 n9 c9 q9 m9 d9)
                  have HGE := hid (grown_new hgg hgS (fun g' e => by cases e; exact h7w))
                  have HV7E := hid (stay3 hV9 hb7 hgS)
                  have BRE := hid ((hgS.block br (lt_of_block hbR) (by simp; omega)).trans hbR)
                  clear z0 z1 z2 zf f0 f1 f2
                  refine hK.out _ _ ?_ (fun hNew => ?_)
                  · have hH := hHeld
                    (try dsimp only at hH)
                    (try dsimp only)
                    first | with_reducible exact grown_trans hH hgS | with_reducible exact grown_new hH hgS (fun g' e => by cases e; exact h7w) | with_reducible exact hH
                  clear hK K hHeld
                  have hHeld := hNew
                  clear hNew
                  (try simp only [Act.put, List.setIfInBounds_toArray, List.set_cons_zero, List.set_cons_succ])
                  refine wpAnyH_done (by kernel_rfl) ?_ _
                  refine NoPanic.normal ?_
                  clear hHeld hgS hV8 hV9 hV7 hbR hb7 hgg
                  generalize ((wy2.setCell _ _).setCell _ _).setCell _ _ = wE at *
                  have HGE2 := HGE
                  have B7E2 := B7E
                  have HV7E2 := HV7E
                  have BRE2 := BRE
                  clear HGE B7E HV7E BRE
                  have t3 := HGE2.out.cell y3e (by simp)
                  go_upto_region 15 with (go_at_call 131; (with_reducible refine (HEX2.out _ HGE2.out).mono ?_); rintro e _ ⟨rfl, rfl⟩)
                  clear t3
                  refine wp_region_noPanic ?_
                  refine wp_region_held_drew (S := (fun W => w.grownBy W none)) (by kernel_rfl) ?_ (fun hHeld => ?_)
                  · (try dsimp only)
                    exact grown_trans HGE2.out (grown_drew _ none)
                  have hgg := grown_trans HGE2.out (grown_drew wE none)
                  have hbR := keepB BRE2.out (grown_drew wE none)
                  have hb7 := keepB B7E2.out (grown_drew wE none)
                  have hV7 := HV7E2.out.keep (grown_drew wE none)
                  clear HGE2 B7E2 HV7E2 BRE2
                  generalize wE.drew = wd at *
                  refine wpAnyH_take (i := 1) (oi := Oper.mk _ _ _ _ _ _) (v := ?_) rfl (by kernel_rfl) (by kernel_rfl) (by kernel_rfl) (fun _ _ _ h => h) (Or.inl ⟨by kernel_rfl, ?_⟩) hHeld ?_
                  rotate_left 1
                  · intro W hSw
                    (try dsimp only at hSw)
                    have e0 := hSw.cell v0 (by simp)
                    have e1' := hSw.cell v1 (by simp)
                    have e2 := hSw.cell v2 (by simp)
                    go_simp
                    (try (with_reducible rfl))
                  (try simp only [Act.put, List.setIfInBounds_toArray, List.set_cons_zero, List.set_cons_succ])
                  refine wpAnyH_take (i := 2) (oi := Oper.mk _ _ _ _ _ _) (v := ?_) rfl (by kernel_rfl) (by kernel_rfl) (by kernel_rfl) (fun _ _ _ h => h) (Or.inl ⟨by kernel_rfl, ?_⟩) hHeld ?_
                  rotate_left 1
                  · intro W hSw
                    (try dsimp only at hSw)
                    have e0 := hSw.cell v0 (by simp)
                    have e1' := hSw.cell v1 (by simp)
                    have e2 := hSw.cell v2 (by simp)
                    go_simp
                    (try (with_reducible rfl))
                  (try simp only [Act.put, List.setIfInBounds_toArray, List.set_cons_zero, List.set_cons_succ])
                  refine wpAnyH_take (i := 3) (oi := Oper.mk _ _ _ _ _ _) (v := ?_) rfl (by kernel_rfl) (by kernel_rfl) (by kernel_rfl) (fun _ _ _ h => h) (Or.inl ⟨by kernel_rfl, ?_⟩) hHeld ?_
                  rotate_left 1
                  · intro W hSw
                    (try dsimp only at hSw)
                    have e0 := hSw.cell v0 (by simp)
                    have e1' := hSw.cell v1 (by simp)
                    have e2 := hSw.cell v2 (by simp)
                    go_simp
                    (try (with_reducible rfl))
                  (try simp only [Act.put, List.setIfInBounds_toArray, List.set_cons_zero, List.set_cons_succ])
                  refine wpAnyH_take (i := 4) (oi := Oper.mk _ _ _ _ _ _) (v := ?_) rfl (by kernel_rfl) (by kernel_rfl) (by kernel_rfl) (fun _ _ _ h => h) (Or.inl ⟨by kernel_rfl, ?_⟩) hHeld ?_
                  rotate_left 1
                  · intro W hSw
                    (try dsimp only at hSw)
                    have e0 := hSw.cell v0 (by simp)
                    have e1' := hSw.cell v1 (by simp)
                    have e2 := hSw.cell v2 (by simp)
                    go_simp
                    (try (with_reducible rfl))
                  (try simp only [Act.put, List.setIfInBounds_toArray, List.set_cons_zero, List.set_cons_succ])
                  refine wpAnyH_take (i := 5) (oi := Oper.mk _ _ _ _ _ _) (v := ?_) rfl (by kernel_rfl) (by kernel_rfl) (by kernel_rfl) (fun _ _ _ h => h) (Or.inl ⟨by kernel_rfl, ?_⟩) hHeld ?_
                  rotate_left 1
                  · intro W hSw
                    (try dsimp only at hSw)
                    have e0 := hSw.cell v0 (by simp)
                    have e1' := hSw.cell v1 (by simp)
                    have e2 := hSw.cell v2 (by simp)
                    go_simp
                    (try (with_reducible rfl))
                  (try simp only [Act.put, List.setIfInBounds_toArray, List.set_cons_zero, List.set_cons_succ])
                  refine wpAnyH_ready (rs := [0, 6]) (by kernel_rfl) (by simp) ?_
                  refine AllReadyH.cons (o := Oper.mk _ _ _ _ _ _) rfl (fun K hK => ?_) ?_
                  · (try rw [if_pos (by kernel_rfl)])
                    obtain ⟨z0, z1, z2⟩ := box3p hb7
                    go_simp
                    refine hK.out _ _ ?_ (fun hNew => ?_)
                    · have hH := hHeld
                      (try dsimp only at hH)
                      (try dsimp only)
                      first | with_reducible exact grown_trans hH hgS | with_reducible exact grown_new hH hgS (fun g' e => by cases e; exact h7w) | with_reducible exact hH
                    clear hK K hHeld
                    have hHeld := hNew
                    clear hNew
                    (try simp only [Act.put, List.setIfInBounds_toArray, List.set_cons_zero, List.set_cons_succ])
                    refine wpAnyH_ready (rs := [6]) (by kernel_rfl) (by simp) ?_
                    refine AllReadyH.cons (o := Oper.mk _ _ _ _ _ _) rfl (fun K hK => ?_) AllReadyH.nil
                    (try rw [if_pos (by kernel_rfl)])
                    go_simp
                    go_at_call 150
                    (with_reducible refine (HPW.out _ hgg).mono ?_)
                    rintro e wy1 ⟨g4, p4, n4, c4, q4, m4, d4, rfl, hV4, -, -, hgS⟩
                    replace hgg := grown_trans hgg hgS
                    replace hbR := keepB hbR hgS
                    replace hb7 := keepB hb7 hgS
                    replace hV7 := hV7.keep hgS
                    refine hK.out _ _ ?_ (fun hNew => ?_)
                    · have hH := hHeld
                      (try dsimp only at hH)
                      (try dsimp only)
                      first | with_reducible exact grown_trans hH hgS | with_reducible exact grown_new hH hgS (fun g' e => by cases e; exact h7w) | with_reducible exact hH
                    clear hK K hHeld
                    have hHeld := hNew
                    clear hNew
                    (try simp only [Act.put, List.setIfInBounds_toArray, List.set_cons_zero, List.set_cons_succ])
                    clear hgS
                    refine wpAnyH_ready (rs := [7]) (by kernel_rfl) (by simp) ?_
                    refine AllReadyH.cons (o := Oper.mk _ _ _ _ _ _) rfl (fun K hK => ?_) AllReadyH.nil
                    (try rw [if_pos (by kernel_rfl)])
                    go_simp
                    go_at_call 51
                    (with_reducible refine (HMLi.out _ hgg _ _ _ _ _ _ _ _ _ _ _ _ _ _ hV7 hV4).mono ?_)
                    rintro e wy2 ⟨g5, p5, n5, c5, q5, m5, d5, rfl, hV5, -, -, hgS⟩
                    replace hgg := grown_trans hgg hgS
                    replace hbR := keepB hbR hgS
                    replace hb7 := keepB hb7 hgS
                    replace hV7 := hV7.keep hgS
                    replace hV4 := hV4.keep hgS
                    refine hK.out _ _ ?_ (fun hNew => ?_)
                    · have hH := hHeld
                      (try dsimp only at hH)
                      (try dsimp only)
                      first | with_reducible exact grown_trans hH hgS | with_reducible exact grown_new hH hgS (fun g' e => by cases e; exact h7w) | with_reducible exact hH
                    clear hK K hHeld
                    have hHeld := hNew
                    clear hNew
                    (try simp only [Act.put, List.setIfInBounds_toArray, List.set_cons_zero, List.set_cons_succ])
                    clear hgS
                    refine wpAnyH_ready (rs := [8]) (by kernel_rfl) (by simp) ?_
                    refine AllReadyH.cons (o := Oper.mk _ _ _ _ _ _) rfl (fun K hK => ?_) AllReadyH.nil
                    (try rw [if_pos (by kernel_rfl)])
                    obtain ⟨z0, z1, z2⟩ := box3p hb7
                    have zf := fun o => frozen_of_row wy2 b7 o _ _ hb7
                    have f0 := zf 0
                    have f1 := zf 1
                    have f2 := zf 2
                    go_simp
                    have hgS := set3_grown wy2 b7 (.bool g5) (.slice p5 n5 c5) (.slice q5 m5 d5)
                    have B7E := hid (set3_block hb7 g5 p5 n5 c5 q5 m5 d5)
                    have HGE := hid (grown_new hgg hgS (fun g' e => by cases e; exact h7w))
                    have HV7E := hid (stay3 hV5 hb7 hgS)
                    have BRE := hid ((hgS.block br (lt_of_block hbR) (by simp; omega)).trans hbR)
                    clear z0 z1 z2 zf f0 f1 f2
                    refine hK.out _ _ ?_ (fun hNew => ?_)
                    · have hH := hHeld
                      (try dsimp only at hH)
                      (try dsimp only)
                      first | with_reducible exact grown_trans hH hgS | with_reducible exact grown_new hH hgS (fun g' e => by cases e; exact h7w) | with_reducible exact hH
                    clear hK K hHeld
                    have hHeld := hNew
                    clear hNew
                    (try simp only [Act.put, List.setIfInBounds_toArray, List.set_cons_zero, List.set_cons_succ])
                    refine wpAnyH_done (by kernel_rfl) ?_ _
                    refine NoPanic.normal ?_
                    clear hHeld hgS hV4 hV5 hV7 hbR hb7 hgg
                    generalize ((wy2.setCell _ _).setCell _ _).setCell _ _ = wF at *
                    have HN := hid (HVE.out HV7E.out)
                    clear HV7E
                    go_wp2_with fail
                    exact ⟨⟨i + e, m - e, o2 + e * 4, c2 - e, g5, p5, n5, c5, q5, m5, d5, by omega, by first | rfl | (simp; done) | (simp; omega), HGE, BRE, B7E, HPN, HN⟩, by simp [lnV]; omega⟩
                  refine AllReadyH.cons (o := Oper.mk _ _ _ _ _ _) rfl (fun K hK => ?_) AllReadyH.nil
                  (try rw [if_pos (by kernel_rfl)])
                  go_simp
                  go_at_call 150
                  (with_reducible refine (HPW.out _ hgg).mono ?_)
                  rintro e wy1 ⟨g4, p4, n4, c4, q4, m4, d4, rfl, hV4, -, -, hgS⟩
                  replace hgg := grown_trans hgg hgS
                  replace hbR := keepB hbR hgS
                  replace hb7 := keepB hb7 hgS
                  replace hV7 := hV7.keep hgS
                  refine hK.out _ _ ?_ (fun hNew => ?_)
                  · have hH := hHeld
                    (try dsimp only at hH)
                    (try dsimp only)
                    first | with_reducible exact grown_trans hH hgS | with_reducible exact grown_new hH hgS (fun g' e => by cases e; exact h7w) | with_reducible exact hH
                  clear hK K hHeld
                  have hHeld := hNew
                  clear hNew
                  (try simp only [Act.put, List.setIfInBounds_toArray, List.set_cons_zero, List.set_cons_succ])
                  clear hgS
                  refine wpAnyH_ready (rs := [0]) (by kernel_rfl) (by simp) ?_
                  refine AllReadyH.cons (o := Oper.mk _ _ _ _ _ _) rfl (fun K hK => ?_) AllReadyH.nil
                  (try rw [if_pos (by kernel_rfl)])
                  obtain ⟨z0, z1, z2⟩ := box3p hb7
                  go_simp
                  refine hK.out _ _ ?_ (fun hNew => ?_)
                  · have hH := hHeld
                    (try dsimp only at hH)
                    (try dsimp only)
                    first | with_reducible exact grown_trans hH hgS | with_reducible exact grown_new hH hgS (fun g' e => by cases e; exact h7w) | with_reducible exact hH
                  clear hK K hHeld
                  have hHeld := hNew
                  clear hNew
                  (try simp only [Act.put, List.setIfInBounds_toArray, List.set_cons_zero, List.set_cons_succ])
                  refine wpAnyH_ready (rs := [7]) (by kernel_rfl) (by simp) ?_
                  refine AllReadyH.cons (o := Oper.mk _ _ _ _ _ _) rfl (fun K hK => ?_) AllReadyH.nil
                  (try rw [if_pos (by kernel_rfl)])
                  go_simp
                  go_at_call 51
                  (with_reducible refine (HMLi.out _ hgg _ _ _ _ _ _ _ _ _ _ _ _ _ _ hV7 hV4).mono ?_)
                  rintro e wy2 ⟨g5, p5, n5, c5, q5, m5, d5, rfl, hV5, -, -, hgS⟩
                  replace hgg := grown_trans hgg hgS
                  replace hbR := keepB hbR hgS
                  replace hb7 := keepB hb7 hgS
                  replace hV7 := hV7.keep hgS
                  replace hV4 := hV4.keep hgS
                  refine hK.out _ _ ?_ (fun hNew => ?_)
                  · have hH := hHeld
                    (try dsimp only at hH)
                    (try dsimp only)
                    first | with_reducible exact grown_trans hH hgS | with_reducible exact grown_new hH hgS (fun g' e => by cases e; exact h7w) | with_reducible exact hH
                  clear hK K hHeld
                  have hHeld := hNew
                  clear hNew
                  (try simp only [Act.put, List.setIfInBounds_toArray, List.set_cons_zero, List.set_cons_succ])
                  clear hgS
                  refine wpAnyH_ready (rs := [8]) (by kernel_rfl) (by simp) ?_
                  refine AllReadyH.cons (o := Oper.mk _ _ _ _ _ _) rfl (fun K hK => ?_) AllReadyH.nil
                  (try rw [if_pos (by kernel_rfl)])
                  obtain ⟨z0, z1, z2⟩ := box3p hb7
                  have zf := fun o => frozen_of_row wy2 b7 o _ _ hb7
                  have f0 := zf 0
                  have f1 := zf 1
                  have f2 := zf 2
                  go_simp
                  have hgS := set3_grown wy2 b7 (.bool g5) (.slice p5 n5 c5) (.slice q5 m5 d5)
                  have B7E := hid (set3_block hb7 g5 p5 n5 c5 q5 m5 d5)
                  have HGE := hid (grown_new hgg hgS (fun g' e => by cases e; exact h7w))
                  have HV7E := hid (stay3 hV5 hb7 hgS)
                  have BRE := hid ((hgS.block br (lt_of_block hbR) (by simp; omega)).trans hbR)
                  clear z0 z1 z2 zf f0 f1 f2
                  refine hK.out _ _ ?_ (fun hNew => ?_)
                  · have hH := hHeld
                    (try dsimp only at hH)
                    (try dsimp only)
                    first | with_reducible exact grown_trans hH hgS | with_reducible exact grown_new hH hgS (fun g' e => by cases e; exact h7w) | with_reducible exact hH
                  clear hK K hHeld
                  have hHeld := hNew
                  clear hNew
                  (try simp only [Act.put, List.setIfInBounds_toArray, List.set_cons_zero, List.set_cons_succ])
                  refine wpAnyH_done (by kernel_rfl) ?_ _
                  refine NoPanic.normal ?_
                  clear hHeld hgS hV4 hV5 hV7 hbR hb7 hgg
                  generalize ((wy2.setCell _ _).setCell _ _).setCell _ _ = wF at *
                  have HN := hid (HVE.out HV7E.out)
                  clear HV7E
                  go_wp2_with fail
                  exact ⟨⟨i + e, m - e, o2 + e * 4, c2 - e, g5, p5, n5, c5, q5, m5, d5, by omega, by first | rfl | (simp; done) | (simp; omega), HGE, BRE, B7E, HPN, HN⟩, by simp [lnV]; omega⟩
              · have hee : eI Q u (i + e) = 0 := by unfold eI; rw [if_neg (by omega)]
                obtain ⟨dz, hdz⟩ : ∃ k, k = dn - 0 := ⟨_, rfl⟩
                obtain ⟨gs, hgs⟩ : ∃ x, x = sumV V u ((Q.drop i).take e) := ⟨_, rfl⟩
                have hHS3 := HS3.out
                have hgr : ∀ t ∈ (Q.drop i).take e, (ex t.1 u).toNat = dn := fun t ht => by
                  obtain ⟨k, hk, rfl⟩ := List.getElem_of_mem ht
                  have hk1 : k < e := by rw [List.length_take] at hk; omega
                  have hk2 := hHS3 k hk1
                  rw [tmI_at (by rw [List.length_take] at hk; omega)] at hk2
                  rw [List.getElem_take, hk2]
                  rfl
                have hcat : Q.take i ++ (Q.drop i).take e = Q.take (i + e) := (List.take_add ..).symm
                have hsg : gs = hI V u Q dn ((Q.drop i).take e) := by rw [hgs]; exact (hI_group V u Q _ hgr).symm
                have hbm : ∀ t ∈ Q, Bd 4 t.2 ∧ RightZ 8 t.1 := fun t ht => ⟨HB.out.1 t ht, HB.out.2 t ht⟩
                obtain ⟨a, ha⟩ : ∃ x, x = hI V u Q (eI Q u i) (Q.take i) := ⟨_, rfl⟩
                obtain ⟨s, hs⟩ : ∃ x, x = a + gs := ⟨_, rfl⟩
                have hba : Bd 1100 a := by rw [ha]; exact (hI_bd HBV.out (by omega) Q _ _ fun t ht => hbm t (List.mem_of_mem_take ht)).mono (by rw [List.length_take]; omega)
                have hbg : Bd 1100 gs := by rw [hgs]; exact (sumV_bd HBV.out (by omega) _ fun t ht => hbm t (List.mem_of_mem_drop (List.mem_of_mem_take ht))).mono (by rw [List.length_take]; omega)
                have hss : s = hI V u Q dn (Q.take (i + e)) := by rw [hs, ha, hsg, ← hcat, hI_append, hei]
                have hbs : Bd 1100 s := by rw [hss]; exact (hI_bd HBV.out (by omega) Q _ _ fun t ht => hbm t (List.mem_of_mem_take ht)).mono (by rw [List.length_take]; omega)
                have hfall : ∀ t ∈ Q.take (i + e), dn ≤ (ex t.1 u).toNat := fun t ht => by
                  obtain ⟨k, hk, rfl⟩ := List.getElem_of_mem ht
                  rw [List.length_take] at hk
                  rw [List.getElem_take]
                  have hz := hHS3 (e - 1) (by omega)
                  rw [tmI_at (by rw [List.length_drop]; omega), drop_get (by omega)] at hz
                  have := HSG.out.fall (show k ≤ i + (e - 1) by omega) (by omega)
                  omega
                obtain ⟨z, hz⟩ : ∃ x, x = vj ^ dz := ⟨_, rfl⟩
                obtain ⟨y, hy⟩ : ∃ x, x = s * z := ⟨_, rfl⟩
                have hbz : Bd 17 z := by rw [hz]; exact (bd_pow HVB.out dz).mono (by omega)
                have hyy : y = hI V u Q (eI Q u (i + e)) (Q.take (i + e)) := by
                  have := hI_step V u Q (show eI Q u (i + e) ≤ dn by omega) _ hfall
                  rw [← this, hy, hss, hz, HVJ.out, show dn - eI Q u (i + e) = dz by omega]
                have HREC : Hid (∀ W, w.grownBy W none → Calls Tryz.prog 103 #[.slice (some ⟨b, o2, none⟩) e c2, .int .i64 (IntKind.i64.wrap ((u : Int) - 1)), .slice (some ⟨bv, ov, none⟩) nv cv] W (QPost W gs)) := hid fun W hg => by
                  rw [hgs, wrapI64 (by omega) (by omega)]
                  exact HIHu.out W (HT.out.keep hg) _ _ _ _ _ ((HPD.out.take (by omega)).keep hg) (by omega) (by omega) (((HSG.out.drop i).take e).down fun s hs t ht => by
                    have h1 := hgr s hs; have h2 := hgr t ht
                    have h3 := ((HB.out.2 s (List.mem_of_mem_drop (List.mem_of_mem_take hs))).ex (by omega) u).1
                    have h4 := ((HB.out.2 t (List.mem_of_mem_drop (List.mem_of_mem_take ht))).ex (by omega) u).1
                    omega) (fun t ht => HB.out.1 t (List.mem_of_mem_drop (List.mem_of_mem_take ht))) (fun t ht => HB.out.2 t (List.mem_of_mem_drop (List.mem_of_mem_take ht))) _ _ _ _ (HV.out.keep hg) HBV.out (by omega) (by omega)
                have HADi : Hid (∀ W, w.grownBy W none → ∀ g p n c q m d g2 p2 n2 c2 q2 m2 d2, IsV W g p n c q m d a → IsV W g2 p2 n2 c2 q2 m2 d2 gs → Calls Tryz.prog 50 #[.agg #[.bool g, .slice p n c, .slice q m d], .agg #[.bool g2, .slice p2 n2 c2, .slice q2 m2 d2]] W (VPost W s 4420)) := hid fun W hg g p n c q m d g2 p2 n2 c2 q2 m2 d2 h k => by rw [hs]; exact ratAdd_v 1100 (HT.out.keep hg) h.q k.q (h.lens hba).1 (h.lens hba).2 (k.lens hbg).1 (k.lens hbg).2 (by omega)
                have HMLi : Hid (∀ W, w.grownBy W none → ∀ g p n c q m d g2 p2 n2 c2 q2 m2 d2, IsV W g p n c q m d s → IsV W g2 p2 n2 c2 q2 m2 d2 z → Calls Tryz.prog 51 #[.agg #[.bool g, .slice p n c, .slice q m d], .agg #[.bool g2, .slice p2 n2 c2, .slice q2 m2 d2]] W (VPost W y 4420)) := hid fun W hg g p n c q m d g2 p2 n2 c2 q2 m2 d2 h k => by rw [hy]; exact ratMul_v 1100 (HT.out.keep hg) h.q k.q (h.lens hbs).1 (h.lens hbs).2 (by have := (k.lens hbz).1; omega) (by have := (k.lens hbz).2; omega) (by omega)
                have HPW : Hid (∀ W, w.grownBy W none → Calls Tryz.prog 150 #[.agg #[.bool gv, .slice pv1 nv1 cv1, .slice qv1 mv1 dv1], .int .i64 (dn : Int)] W (VPost W z 20)) := hid fun W hg => by
                  have := power6_v (HVV.out.keep hg) (HVV.out.lens HVB.out).1 (HVV.out.lens HVB.out).2 (show dz ≤ 8 by omega)
                  rw [← hz] at this
                  rw [show (dz : Int) = (dn : Int) by omega] at this
                  exact this
                have HVE : Hid (∀ {W g p n c q m d}, IsV W g p n c q m d y → IsV W g p n c q m d (hI V u Q (eI Q u (i + e)) (Q.take (i + e)))) := hid fun h => h.congr hyy
                have HPN := hid (HPD.out.drop2 (show e ≤ m by omega))
                rw [List.drop_drop] at HPN
                rw [← ha] at HV7
                unfold QPost at HREC
                unfold VPost at HADi HMLi HPW
                clear hgs hHS3 hgr hcat hsg hbm ha hs hba hbg hss hbs hfall hz hy hbz hyy
                by_cases hce : c2 = e
                · rw [if_pos hce] at HPN
                  obtain rfl : e = c2 := hce.symm
                  go_upto_region 11 with fail
                  refine wp_region_noPanic ?_
                  refine wp_region_held_drew (S := (fun W => w.grownBy W none)) (by kernel_rfl) ?_ (fun hHeld => ?_)
                  · (try dsimp only)
                    exact grown_trans HG.out (grown_drew _ none)
                  have hgg := grown_trans HG.out (grown_drew wr none)
                  have hbR := keepB BR.out (grown_drew wr none)
                  have hb7 := keepB B7.out (grown_drew wr none)
                  have hV7 := HV7.out.keep (grown_drew wr none)
                  clear HG B7 HV7 BR
                  generalize wr.drew = wd at *
                  refine wpAnyH_take (i := 1) (oi := Oper.mk _ _ _ _ _ _) (v := ?_) rfl (by kernel_rfl) (by kernel_rfl) (by kernel_rfl) (fun _ _ _ h => h) (Or.inl ⟨by kernel_rfl, ?_⟩) hHeld ?_
                  rotate_left 1
                  · intro W hSw
                    (try dsimp only at hSw)
                    skip
                    go_simp
                    (try (with_reducible rfl))
                  (try simp only [Act.put, List.setIfInBounds_toArray, List.set_cons_zero, List.set_cons_succ])
                  refine wpAnyH_take (i := 2) (oi := Oper.mk _ _ _ _ _ _) (v := ?_) rfl (by kernel_rfl) (by kernel_rfl) (by kernel_rfl) (fun _ _ _ h => h) (Or.inl ⟨by kernel_rfl, ?_⟩) hHeld ?_
                  rotate_left 1
                  · intro W hSw
                    (try dsimp only at hSw)
                    skip
                    go_simp
                    (try (with_reducible rfl))
                  (try simp only [Act.put, List.setIfInBounds_toArray, List.set_cons_zero, List.set_cons_succ])
                  refine wpAnyH_take (i := 3) (oi := Oper.mk _ _ _ _ _ _) (v := ?_) rfl (by kernel_rfl) (by kernel_rfl) (by kernel_rfl) (fun _ _ _ h => h) (Or.inl ⟨by kernel_rfl, ?_⟩) hHeld ?_
                  rotate_left 1
                  · intro W hSw
                    (try dsimp only at hSw)
                    skip
                    go_simp
                    (try (with_reducible rfl))
                  (try simp only [Act.put, List.setIfInBounds_toArray, List.set_cons_zero, List.set_cons_succ])
                  refine wpAnyH_take (i := 4) (oi := Oper.mk _ _ _ _ _ _) (v := ?_) rfl (by kernel_rfl) (by kernel_rfl) (by kernel_rfl) (fun _ _ _ h => h) (Or.inl ⟨by kernel_rfl, ?_⟩) hHeld ?_
                  rotate_left 1
                  · intro W hSw
                    (try dsimp only at hSw)
                    skip
                    go_simp
                    (try (with_reducible rfl))
                  (try simp only [Act.put, List.setIfInBounds_toArray, List.set_cons_zero, List.set_cons_succ])
                  refine wpAnyH_take (i := 5) (oi := Oper.mk _ _ _ _ _ _) (v := ?_) rfl (by kernel_rfl) (by kernel_rfl) (by kernel_rfl) (fun _ _ _ h => h) (Or.inl ⟨by kernel_rfl, ?_⟩) hHeld ?_
                  rotate_left 1
                  · intro W hSw
                    (try dsimp only at hSw)
                    skip
                    go_simp
                    (try (with_reducible rfl))
                  (try simp only [Act.put, List.setIfInBounds_toArray, List.set_cons_zero, List.set_cons_succ])
                  refine wpAnyH_take (i := 6) (oi := Oper.mk _ _ _ _ _ _) (v := ?_) rfl (by kernel_rfl) (by kernel_rfl) (by kernel_rfl) (fun _ _ _ h => h) (Or.inl ⟨by kernel_rfl, ?_⟩) hHeld ?_
                  rotate_left 1
                  · intro W hSw
                    (try dsimp only at hSw)
                    skip
                    go_simp
                    (try (with_reducible rfl))
                  (try simp only [Act.put, List.setIfInBounds_toArray, List.set_cons_zero, List.set_cons_succ])
                  refine wpAnyH_ready (rs := [0, 7]) (by kernel_rfl) (by simp) ?_
                  refine AllReadyH.cons (o := Oper.mk _ _ _ _ _ _) rfl (fun K hK => ?_) ?_
                  · (try rw [if_pos (by kernel_rfl)])
                    obtain ⟨z0, z1, z2⟩ := box3p hb7
                    go_simp
                    refine hK.out _ _ ?_ (fun hNew => ?_)
                    · have hH := hHeld
                      (try dsimp only at hH)
                      (try dsimp only)
                      first | with_reducible exact grown_trans hH hgS | with_reducible exact grown_new hH hgS (fun g' e => by cases e; exact h7w) | with_reducible exact hH
                    clear hK K hHeld
                    have hHeld := hNew
                    clear hNew
                    (try simp only [Act.put, List.setIfInBounds_toArray, List.set_cons_zero, List.set_cons_succ])
                    refine wpAnyH_ready (rs := [7]) (by kernel_rfl) (by simp) ?_
                    refine AllReadyH.cons (o := Oper.mk _ _ _ _ _ _) rfl (fun K hK => ?_) AllReadyH.nil
                    (try rw [if_pos (by kernel_rfl)])
                    go_simp
                    go_at_call 103
                    (with_reducible refine (HREC.out _ hgg).mono ?_)
                    rintro e wy1 ⟨g8, p8, n8, c8, q8, m8, d8, rfl, hV8, hgS⟩
                    replace hgg := grown_trans hgg hgS
                    replace hbR := keepB hbR hgS
                    replace hb7 := keepB hb7 hgS
                    replace hV7 := hV7.keep hgS
                    refine hK.out _ _ ?_ (fun hNew => ?_)
                    · have hH := hHeld
                      (try dsimp only at hH)
                      (try dsimp only)
                      first | with_reducible exact grown_trans hH hgS | with_reducible exact grown_new hH hgS (fun g' e => by cases e; exact h7w) | with_reducible exact hH
                    clear hK K hHeld
                    have hHeld := hNew
                    clear hNew
                    (try simp only [Act.put, List.setIfInBounds_toArray, List.set_cons_zero, List.set_cons_succ])
                    clear hgS
                    refine wpAnyH_ready (rs := [8]) (by kernel_rfl) (by simp) ?_
                    refine AllReadyH.cons (o := Oper.mk _ _ _ _ _ _) rfl (fun K hK => ?_) AllReadyH.nil
                    (try rw [if_pos (by kernel_rfl)])
                    go_simp
                    go_at_call 50
                    (with_reducible refine (HADi.out _ hgg _ _ _ _ _ _ _ _ _ _ _ _ _ _ hV7 hV8).mono ?_)
                    rintro e wy2 ⟨g9, p9, n9, c9, q9, m9, d9, rfl, hV9, -, -, hgS⟩
                    replace hgg := grown_trans hgg hgS
                    replace hbR := keepB hbR hgS
                    replace hb7 := keepB hb7 hgS
                    replace hV7 := hV7.keep hgS
                    replace hV8 := hV8.keep hgS
                    refine hK.out _ _ ?_ (fun hNew => ?_)
                    · have hH := hHeld
                      (try dsimp only at hH)
                      (try dsimp only)
                      first | with_reducible exact grown_trans hH hgS | with_reducible exact grown_new hH hgS (fun g' e => by cases e; exact h7w) | with_reducible exact hH
                    clear hK K hHeld
                    have hHeld := hNew
                    clear hNew
                    (try simp only [Act.put, List.setIfInBounds_toArray, List.set_cons_zero, List.set_cons_succ])
                    clear hgS
                    refine wpAnyH_ready (rs := [9]) (by kernel_rfl) (by simp) ?_
                    refine AllReadyH.cons (o := Oper.mk _ _ _ _ _ _) rfl (fun K hK => ?_) AllReadyH.nil
                    (try rw [if_pos (by kernel_rfl)])
                    obtain ⟨z0, z1, z2⟩ := box3p hb7
                    have zf := fun o => frozen_of_row wy2 b7 o _ _ hb7
                    have f0 := zf 0
                    have f1 := zf 1
                    have f2 := zf 2
                    go_simp
                    have hgS := set3_grown wy2 b7 (.bool g9) (.slice p9 n9 c9) (.slice q9 m9 d9)
                    have B7E := hid (set3_block hb7 g9 p9 n9 c9 q9 m9 d9)
                    have HGE := hid (grown_new hgg hgS (fun g' e => by cases e; exact h7w))
                    have HV7E := hid (stay3 hV9 hb7 hgS)
                    have BRE := hid ((hgS.block br (lt_of_block hbR) (by simp; omega)).trans hbR)
                    clear z0 z1 z2 zf f0 f1 f2
                    refine hK.out _ _ ?_ (fun hNew => ?_)
                    · have hH := hHeld
                      (try dsimp only at hH)
                      (try dsimp only)
                      first | with_reducible exact grown_trans hH hgS | with_reducible exact grown_new hH hgS (fun g' e => by cases e; exact h7w) | with_reducible exact hH
                    clear hK K hHeld
                    have hHeld := hNew
                    clear hNew
                    (try simp only [Act.put, List.setIfInBounds_toArray, List.set_cons_zero, List.set_cons_succ])
                    refine wpAnyH_done (by kernel_rfl) ?_ _
                    refine NoPanic.normal ?_
                    clear hHeld hgS hV8 hV9 hV7 hbR hb7 hgg
                    generalize ((wy2.setCell _ _).setCell _ _).setCell _ _ = wE at *
                    have HGE2 := HGE
                    have B7E2 := B7E
                    have HV7E2 := HV7E
                    have BRE2 := BRE
                    clear HGE B7E HV7E BRE
                    go_upto_region 15 with fail
                    refine wp_region_noPanic ?_
                    refine wp_region_held_drew (S := (fun W => w.grownBy W none)) (by kernel_rfl) ?_ (fun hHeld => ?_)
                    · (try dsimp only)
                      exact grown_trans HGE2.out (grown_drew _ none)
                    have hgg := grown_trans HGE2.out (grown_drew wE none)
                    have hbR := keepB BRE2.out (grown_drew wE none)
                    have hb7 := keepB B7E2.out (grown_drew wE none)
                    have hV7 := HV7E2.out.keep (grown_drew wE none)
                    clear HGE2 B7E2 HV7E2 BRE2
                    generalize wE.drew = wd at *
                    refine wpAnyH_take (i := 1) (oi := Oper.mk _ _ _ _ _ _) (v := ?_) rfl (by kernel_rfl) (by kernel_rfl) (by kernel_rfl) (fun _ _ _ h => h) (Or.inl ⟨by kernel_rfl, ?_⟩) hHeld ?_
                    rotate_left 1
                    · intro W hSw
                      (try dsimp only at hSw)
                      have e0 := hSw.cell v0 (by simp)
                      have e1' := hSw.cell v1 (by simp)
                      have e2 := hSw.cell v2 (by simp)
                      go_simp
                      (try (with_reducible rfl))
                    (try simp only [Act.put, List.setIfInBounds_toArray, List.set_cons_zero, List.set_cons_succ])
                    refine wpAnyH_take (i := 2) (oi := Oper.mk _ _ _ _ _ _) (v := ?_) rfl (by kernel_rfl) (by kernel_rfl) (by kernel_rfl) (fun _ _ _ h => h) (Or.inl ⟨by kernel_rfl, ?_⟩) hHeld ?_
                    rotate_left 1
                    · intro W hSw
                      (try dsimp only at hSw)
                      have e0 := hSw.cell v0 (by simp)
                      have e1' := hSw.cell v1 (by simp)
                      have e2 := hSw.cell v2 (by simp)
                      go_simp
                      (try (with_reducible rfl))
                    (try simp only [Act.put, List.setIfInBounds_toArray, List.set_cons_zero, List.set_cons_succ])
                    refine wpAnyH_take (i := 3) (oi := Oper.mk _ _ _ _ _ _) (v := ?_) rfl (by kernel_rfl) (by kernel_rfl) (by kernel_rfl) (fun _ _ _ h => h) (Or.inl ⟨by kernel_rfl, ?_⟩) hHeld ?_
                    rotate_left 1
                    · intro W hSw
                      (try dsimp only at hSw)
                      have e0 := hSw.cell v0 (by simp)
                      have e1' := hSw.cell v1 (by simp)
                      have e2 := hSw.cell v2 (by simp)
                      go_simp
                      (try (with_reducible rfl))
                    (try simp only [Act.put, List.setIfInBounds_toArray, List.set_cons_zero, List.set_cons_succ])
                    refine wpAnyH_take (i := 4) (oi := Oper.mk _ _ _ _ _ _) (v := ?_) rfl (by kernel_rfl) (by kernel_rfl) (by kernel_rfl) (fun _ _ _ h => h) (Or.inl ⟨by kernel_rfl, ?_⟩) hHeld ?_
                    rotate_left 1
                    · intro W hSw
                      (try dsimp only at hSw)
                      have e0 := hSw.cell v0 (by simp)
                      have e1' := hSw.cell v1 (by simp)
                      have e2 := hSw.cell v2 (by simp)
                      go_simp
                      (try (with_reducible rfl))
                    (try simp only [Act.put, List.setIfInBounds_toArray, List.set_cons_zero, List.set_cons_succ])
                    refine wpAnyH_take (i := 5) (oi := Oper.mk _ _ _ _ _ _) (v := ?_) rfl (by kernel_rfl) (by kernel_rfl) (by kernel_rfl) (fun _ _ _ h => h) (Or.inl ⟨by kernel_rfl, ?_⟩) hHeld ?_
                    rotate_left 1
                    · intro W hSw
                      (try dsimp only at hSw)
                      have e0 := hSw.cell v0 (by simp)
                      have e1' := hSw.cell v1 (by simp)
                      have e2 := hSw.cell v2 (by simp)
                      go_simp
                      (try (with_reducible rfl))
                    (try simp only [Act.put, List.setIfInBounds_toArray, List.set_cons_zero, List.set_cons_succ])
                    refine wpAnyH_ready (rs := [0, 6]) (by kernel_rfl) (by simp) ?_
                    refine AllReadyH.cons (o := Oper.mk _ _ _ _ _ _) rfl (fun K hK => ?_) ?_
                    · (try rw [if_pos (by kernel_rfl)])
                      obtain ⟨z0, z1, z2⟩ := box3p hb7
                      go_simp
                      refine hK.out _ _ ?_ (fun hNew => ?_)
                      · have hH := hHeld
                        (try dsimp only at hH)
                        (try dsimp only)
                        first | with_reducible exact grown_trans hH hgS | with_reducible exact grown_new hH hgS (fun g' e => by cases e; exact h7w) | with_reducible exact hH
                      clear hK K hHeld
                      have hHeld := hNew
                      clear hNew
                      (try simp only [Act.put, List.setIfInBounds_toArray, List.set_cons_zero, List.set_cons_succ])
                      refine wpAnyH_ready (rs := [6]) (by kernel_rfl) (by simp) ?_
                      refine AllReadyH.cons (o := Oper.mk _ _ _ _ _ _) rfl (fun K hK => ?_) AllReadyH.nil
                      (try rw [if_pos (by kernel_rfl)])
                      go_simp
                      go_at_call 150
                      (with_reducible refine (HPW.out _ hgg).mono ?_)
                      rintro e wy1 ⟨g4, p4, n4, c4, q4, m4, d4, rfl, hV4, -, -, hgS⟩
                      replace hgg := grown_trans hgg hgS
                      replace hbR := keepB hbR hgS
                      replace hb7 := keepB hb7 hgS
                      replace hV7 := hV7.keep hgS
                      refine hK.out _ _ ?_ (fun hNew => ?_)
                      · have hH := hHeld
                        (try dsimp only at hH)
                        (try dsimp only)
                        first | with_reducible exact grown_trans hH hgS | with_reducible exact grown_new hH hgS (fun g' e => by cases e; exact h7w) | with_reducible exact hH
                      clear hK K hHeld
                      have hHeld := hNew
                      clear hNew
                      (try simp only [Act.put, List.setIfInBounds_toArray, List.set_cons_zero, List.set_cons_succ])
                      clear hgS
                      refine wpAnyH_ready (rs := [7]) (by kernel_rfl) (by simp) ?_
                      refine AllReadyH.cons (o := Oper.mk _ _ _ _ _ _) rfl (fun K hK => ?_) AllReadyH.nil
                      (try rw [if_pos (by kernel_rfl)])
                      go_simp
                      go_at_call 51
                      (with_reducible refine (HMLi.out _ hgg _ _ _ _ _ _ _ _ _ _ _ _ _ _ hV7 hV4).mono ?_)
                      rintro e wy2 ⟨g5, p5, n5, c5, q5, m5, d5, rfl, hV5, -, -, hgS⟩
                      replace hgg := grown_trans hgg hgS
                      replace hbR := keepB hbR hgS
                      replace hb7 := keepB hb7 hgS
                      replace hV7 := hV7.keep hgS
                      replace hV4 := hV4.keep hgS
                      refine hK.out _ _ ?_ (fun hNew => ?_)
                      · have hH := hHeld
                        (try dsimp only at hH)
                        (try dsimp only)
                        first | with_reducible exact grown_trans hH hgS | with_reducible exact grown_new hH hgS (fun g' e => by cases e; exact h7w) | with_reducible exact hH
                      clear hK K hHeld
                      have hHeld := hNew
                      clear hNew
                      (try simp only [Act.put, List.setIfInBounds_toArray, List.set_cons_zero, List.set_cons_succ])
                      clear hgS
                      refine wpAnyH_ready (rs := [8]) (by kernel_rfl) (by simp) ?_
                      refine AllReadyH.cons (o := Oper.mk _ _ _ _ _ _) rfl (fun K hK => ?_) AllReadyH.nil
                      (try rw [if_pos (by kernel_rfl)])
                      obtain ⟨z0, z1, z2⟩ := box3p hb7
                      have zf := fun o => frozen_of_row wy2 b7 o _ _ hb7
                      have f0 := zf 0
                      have f1 := zf 1
                      have f2 := zf 2
                      go_simp
                      have hgS := set3_grown wy2 b7 (.bool g5) (.slice p5 n5 c5) (.slice q5 m5 d5)
                      have B7E := hid (set3_block hb7 g5 p5 n5 c5 q5 m5 d5)
                      have HGE := hid (grown_new hgg hgS (fun g' e => by cases e; exact h7w))
                      have HV7E := hid (stay3 hV5 hb7 hgS)
                      have BRE := hid ((hgS.block br (lt_of_block hbR) (by simp; omega)).trans hbR)
                      clear z0 z1 z2 zf f0 f1 f2
                      refine hK.out _ _ ?_ (fun hNew => ?_)
                      · have hH := hHeld
                        (try dsimp only at hH)
                        (try dsimp only)
                        first | with_reducible exact grown_trans hH hgS | with_reducible exact grown_new hH hgS (fun g' e => by cases e; exact h7w) | with_reducible exact hH
                      clear hK K hHeld
                      have hHeld := hNew
                      clear hNew
                      (try simp only [Act.put, List.setIfInBounds_toArray, List.set_cons_zero, List.set_cons_succ])
                      refine wpAnyH_done (by kernel_rfl) ?_ _
                      refine NoPanic.normal ?_
                      clear hHeld hgS hV4 hV5 hV7 hbR hb7 hgg
                      generalize ((wy2.setCell _ _).setCell _ _).setCell _ _ = wF at *
                      have HN := hid (HVE.out HV7E.out)
                      clear HV7E
                      go_wp2_with fail
                      exact ⟨⟨i + e, m - e, o2, e - e, g5, p5, n5, c5, q5, m5, d5, by omega, by first | rfl | (simp; done) | (simp; omega), HGE, BRE, B7E, HPN, HN⟩, by simp [lnV]; omega⟩
                    refine AllReadyH.cons (o := Oper.mk _ _ _ _ _ _) rfl (fun K hK => ?_) AllReadyH.nil
                    (try rw [if_pos (by kernel_rfl)])
                    go_simp
                    go_at_call 150
                    (with_reducible refine (HPW.out _ hgg).mono ?_)
                    rintro e wy1 ⟨g4, p4, n4, c4, q4, m4, d4, rfl, hV4, -, -, hgS⟩
                    replace hgg := grown_trans hgg hgS
                    replace hbR := keepB hbR hgS
                    replace hb7 := keepB hb7 hgS
                    replace hV7 := hV7.keep hgS
                    refine hK.out _ _ ?_ (fun hNew => ?_)
                    · have hH := hHeld
                      (try dsimp only at hH)
                      (try dsimp only)
                      first | with_reducible exact grown_trans hH hgS | with_reducible exact grown_new hH hgS (fun g' e => by cases e; exact h7w) | with_reducible exact hH
                    clear hK K hHeld
                    have hHeld := hNew
                    clear hNew
                    (try simp only [Act.put, List.setIfInBounds_toArray, List.set_cons_zero, List.set_cons_succ])
                    clear hgS
                    refine wpAnyH_ready (rs := [0]) (by kernel_rfl) (by simp) ?_
                    refine AllReadyH.cons (o := Oper.mk _ _ _ _ _ _) rfl (fun K hK => ?_) AllReadyH.nil
                    (try rw [if_pos (by kernel_rfl)])
                    obtain ⟨z0, z1, z2⟩ := box3p hb7
                    go_simp
                    refine hK.out _ _ ?_ (fun hNew => ?_)
                    · have hH := hHeld
                      (try dsimp only at hH)
                      (try dsimp only)
                      first | with_reducible exact grown_trans hH hgS | with_reducible exact grown_new hH hgS (fun g' e => by cases e; exact h7w) | with_reducible exact hH
                    clear hK K hHeld
                    have hHeld := hNew
                    clear hNew
                    (try simp only [Act.put, List.setIfInBounds_toArray, List.set_cons_zero, List.set_cons_succ])
                    refine wpAnyH_ready (rs := [7]) (by kernel_rfl) (by simp) ?_
                    refine AllReadyH.cons (o := Oper.mk _ _ _ _ _ _) rfl (fun K hK => ?_) AllReadyH.nil
                    (try rw [if_pos (by kernel_rfl)])
                    go_simp
                    go_at_call 51
                    (with_reducible refine (HMLi.out _ hgg _ _ _ _ _ _ _ _ _ _ _ _ _ _ hV7 hV4).mono ?_)
                    rintro e wy2 ⟨g5, p5, n5, c5, q5, m5, d5, rfl, hV5, -, -, hgS⟩
                    replace hgg := grown_trans hgg hgS
                    replace hbR := keepB hbR hgS
                    replace hb7 := keepB hb7 hgS
                    replace hV7 := hV7.keep hgS
                    replace hV4 := hV4.keep hgS
                    refine hK.out _ _ ?_ (fun hNew => ?_)
                    · have hH := hHeld
                      (try dsimp only at hH)
                      (try dsimp only)
                      first | with_reducible exact grown_trans hH hgS | with_reducible exact grown_new hH hgS (fun g' e => by cases e; exact h7w) | with_reducible exact hH
                    clear hK K hHeld
                    have hHeld := hNew
                    clear hNew
                    (try simp only [Act.put, List.setIfInBounds_toArray, List.set_cons_zero, List.set_cons_succ])
                    clear hgS
                    refine wpAnyH_ready (rs := [8]) (by kernel_rfl) (by simp) ?_
                    refine AllReadyH.cons (o := Oper.mk _ _ _ _ _ _) rfl (fun K hK => ?_) AllReadyH.nil
                    (try rw [if_pos (by kernel_rfl)])
                    obtain ⟨z0, z1, z2⟩ := box3p hb7
                    have zf := fun o => frozen_of_row wy2 b7 o _ _ hb7
                    have f0 := zf 0
                    have f1 := zf 1
                    have f2 := zf 2
                    go_simp
                    have hgS := set3_grown wy2 b7 (.bool g5) (.slice p5 n5 c5) (.slice q5 m5 d5)
                    have B7E := hid (set3_block hb7 g5 p5 n5 c5 q5 m5 d5)
                    have HGE := hid (grown_new hgg hgS (fun g' e => by cases e; exact h7w))
                    have HV7E := hid (stay3 hV5 hb7 hgS)
                    have BRE := hid ((hgS.block br (lt_of_block hbR) (by simp; omega)).trans hbR)
                    clear z0 z1 z2 zf f0 f1 f2
                    refine hK.out _ _ ?_ (fun hNew => ?_)
                    · have hH := hHeld
                      (try dsimp only at hH)
                      (try dsimp only)
                      first | with_reducible exact grown_trans hH hgS | with_reducible exact grown_new hH hgS (fun g' e => by cases e; exact h7w) | with_reducible exact hH
                    clear hK K hHeld
                    have hHeld := hNew
                    clear hNew
                    (try simp only [Act.put, List.setIfInBounds_toArray, List.set_cons_zero, List.set_cons_succ])
                    refine wpAnyH_done (by kernel_rfl) ?_ _
                    refine NoPanic.normal ?_
                    clear hHeld hgS hV4 hV5 hV7 hbR hb7 hgg
                    generalize ((wy2.setCell _ _).setCell _ _).setCell _ _ = wF at *
                    have HN := hid (HVE.out HV7E.out)
                    clear HV7E
                    go_wp2_with fail
                    exact ⟨⟨i + e, m - e, o2, e - e, g5, p5, n5, c5, q5, m5, d5, by omega, by first | rfl | (simp; done) | (simp; omega), HGE, BRE, B7E, HPN, HN⟩, by simp [lnV]; omega⟩
                  refine AllReadyH.cons (o := Oper.mk _ _ _ _ _ _) rfl (fun K hK => ?_) AllReadyH.nil
                  (try rw [if_pos (by kernel_rfl)])
                  go_simp
                  go_at_call 103
                  (with_reducible refine (HREC.out _ hgg).mono ?_)
                  rintro e wy1 ⟨g8, p8, n8, c8, q8, m8, d8, rfl, hV8, hgS⟩
                  replace hgg := grown_trans hgg hgS
                  replace hbR := keepB hbR hgS
                  replace hb7 := keepB hb7 hgS
                  replace hV7 := hV7.keep hgS
                  refine hK.out _ _ ?_ (fun hNew => ?_)
                  · have hH := hHeld
                    (try dsimp only at hH)
                    (try dsimp only)
                    first | with_reducible exact grown_trans hH hgS | with_reducible exact grown_new hH hgS (fun g' e => by cases e; exact h7w) | with_reducible exact hH
                  clear hK K hHeld
                  have hHeld := hNew
                  clear hNew
                  (try simp only [Act.put, List.setIfInBounds_toArray, List.set_cons_zero, List.set_cons_succ])
                  clear hgS
                  refine wpAnyH_ready (rs := [0]) (by kernel_rfl) (by simp) ?_
                  refine AllReadyH.cons (o := Oper.mk _ _ _ _ _ _) rfl (fun K hK => ?_) AllReadyH.nil
                  (try rw [if_pos (by kernel_rfl)])
                  obtain ⟨z0, z1, z2⟩ := box3p hb7
                  go_simp
                  refine hK.out _ _ ?_ (fun hNew => ?_)
                  · have hH := hHeld
                    (try dsimp only at hH)
                    (try dsimp only)
                    first | with_reducible exact grown_trans hH hgS | with_reducible exact grown_new hH hgS (fun g' e => by cases e; exact h7w) | with_reducible exact hH
                  clear hK K hHeld
                  have hHeld := hNew
                  clear hNew
                  (try simp only [Act.put, List.setIfInBounds_toArray, List.set_cons_zero, List.set_cons_succ])
                  refine wpAnyH_ready (rs := [8]) (by kernel_rfl) (by simp) ?_
                  refine AllReadyH.cons (o := Oper.mk _ _ _ _ _ _) rfl (fun K hK => ?_) AllReadyH.nil
                  (try rw [if_pos (by kernel_rfl)])
                  go_simp
                  go_at_call 50
                  (with_reducible refine (HADi.out _ hgg _ _ _ _ _ _ _ _ _ _ _ _ _ _ hV7 hV8).mono ?_)
                  rintro e wy2 ⟨g9, p9, n9, c9, q9, m9, d9, rfl, hV9, -, -, hgS⟩
                  replace hgg := grown_trans hgg hgS
                  replace hbR := keepB hbR hgS
                  replace hb7 := keepB hb7 hgS
                  replace hV7 := hV7.keep hgS
                  replace hV8 := hV8.keep hgS
                  refine hK.out _ _ ?_ (fun hNew => ?_)
                  · have hH := hHeld
                    (try dsimp only at hH)
                    (try dsimp only)
                    first | with_reducible exact grown_trans hH hgS | with_reducible exact grown_new hH hgS (fun g' e => by cases e; exact h7w) | with_reducible exact hH
                  clear hK K hHeld
                  have hHeld := hNew
                  clear hNew
                  (try simp only [Act.put, List.setIfInBounds_toArray, List.set_cons_zero, List.set_cons_succ])
                  clear hgS
                  refine wpAnyH_ready (rs := [9]) (by kernel_rfl) (by simp) ?_
                  refine AllReadyH.cons (o := Oper.mk _ _ _ _ _ _) rfl (fun K hK => ?_) AllReadyH.nil
                  (try rw [if_pos (by kernel_rfl)])
                  obtain ⟨z0, z1, z2⟩ := box3p hb7
                  have zf := fun o => frozen_of_row wy2 b7 o _ _ hb7
                  have f0 := zf 0
                  have f1 := zf 1
                  have f2 := zf 2
                  go_simp
                  have hgS := set3_grown wy2 b7 (.bool g9) (.slice p9 n9 c9) (.slice q9 m9 d9)
                  have B7E := hid (set3_block hb7 g9 p9 n9 c9 q9 m9 d9)
                  have HGE := hid (grown_new hgg hgS (fun g' e => by cases e; exact h7w))
                  have HV7E := hid (stay3 hV9 hb7 hgS)
                  have BRE := hid ((hgS.block br (lt_of_block hbR) (by simp; omega)).trans hbR)
                  clear z0 z1 z2 zf f0 f1 f2
                  refine hK.out _ _ ?_ (fun hNew => ?_)
                  · have hH := hHeld
                    (try dsimp only at hH)
                    (try dsimp only)
                    first | with_reducible exact grown_trans hH hgS | with_reducible exact grown_new hH hgS (fun g' e => by cases e; exact h7w) | with_reducible exact hH
                  clear hK K hHeld
                  have hHeld := hNew
                  clear hNew
                  (try simp only [Act.put, List.setIfInBounds_toArray, List.set_cons_zero, List.set_cons_succ])
                  refine wpAnyH_done (by kernel_rfl) ?_ _
                  refine NoPanic.normal ?_
                  clear hHeld hgS hV8 hV9 hV7 hbR hb7 hgg
                  generalize ((wy2.setCell _ _).setCell _ _).setCell _ _ = wE at *
                  have HGE2 := HGE
                  have B7E2 := B7E
                  have HV7E2 := HV7E
                  have BRE2 := BRE
                  clear HGE B7E HV7E BRE
                  go_upto_region 15 with fail
                  refine wp_region_noPanic ?_
                  refine wp_region_held_drew (S := (fun W => w.grownBy W none)) (by kernel_rfl) ?_ (fun hHeld => ?_)
                  · (try dsimp only)
                    exact grown_trans HGE2.out (grown_drew _ none)
                  have hgg := grown_trans HGE2.out (grown_drew wE none)
                  have hbR := keepB BRE2.out (grown_drew wE none)
                  have hb7 := keepB B7E2.out (grown_drew wE none)
                  have hV7 := HV7E2.out.keep (grown_drew wE none)
                  clear HGE2 B7E2 HV7E2 BRE2
                  generalize wE.drew = wd at *
                  refine wpAnyH_take (i := 1) (oi := Oper.mk _ _ _ _ _ _) (v := ?_) rfl (by kernel_rfl) (by kernel_rfl) (by kernel_rfl) (fun _ _ _ h => h) (Or.inl ⟨by kernel_rfl, ?_⟩) hHeld ?_
                  rotate_left 1
                  · intro W hSw
                    (try dsimp only at hSw)
                    have e0 := hSw.cell v0 (by simp)
                    have e1' := hSw.cell v1 (by simp)
                    have e2 := hSw.cell v2 (by simp)
                    go_simp
                    (try (with_reducible rfl))
                  (try simp only [Act.put, List.setIfInBounds_toArray, List.set_cons_zero, List.set_cons_succ])
                  refine wpAnyH_take (i := 2) (oi := Oper.mk _ _ _ _ _ _) (v := ?_) rfl (by kernel_rfl) (by kernel_rfl) (by kernel_rfl) (fun _ _ _ h => h) (Or.inl ⟨by kernel_rfl, ?_⟩) hHeld ?_
                  rotate_left 1
                  · intro W hSw
                    (try dsimp only at hSw)
                    have e0 := hSw.cell v0 (by simp)
                    have e1' := hSw.cell v1 (by simp)
                    have e2 := hSw.cell v2 (by simp)
                    go_simp
                    (try (with_reducible rfl))
                  (try simp only [Act.put, List.setIfInBounds_toArray, List.set_cons_zero, List.set_cons_succ])
                  refine wpAnyH_take (i := 3) (oi := Oper.mk _ _ _ _ _ _) (v := ?_) rfl (by kernel_rfl) (by kernel_rfl) (by kernel_rfl) (fun _ _ _ h => h) (Or.inl ⟨by kernel_rfl, ?_⟩) hHeld ?_
                  rotate_left 1
                  · intro W hSw
                    (try dsimp only at hSw)
                    have e0 := hSw.cell v0 (by simp)
                    have e1' := hSw.cell v1 (by simp)
                    have e2 := hSw.cell v2 (by simp)
                    go_simp
                    (try (with_reducible rfl))
                  (try simp only [Act.put, List.setIfInBounds_toArray, List.set_cons_zero, List.set_cons_succ])
                  refine wpAnyH_take (i := 4) (oi := Oper.mk _ _ _ _ _ _) (v := ?_) rfl (by kernel_rfl) (by kernel_rfl) (by kernel_rfl) (fun _ _ _ h => h) (Or.inl ⟨by kernel_rfl, ?_⟩) hHeld ?_
                  rotate_left 1
                  · intro W hSw
                    (try dsimp only at hSw)
                    have e0 := hSw.cell v0 (by simp)
                    have e1' := hSw.cell v1 (by simp)
                    have e2 := hSw.cell v2 (by simp)
                    go_simp
                    (try (with_reducible rfl))
                  (try simp only [Act.put, List.setIfInBounds_toArray, List.set_cons_zero, List.set_cons_succ])
                  refine wpAnyH_take (i := 5) (oi := Oper.mk _ _ _ _ _ _) (v := ?_) rfl (by kernel_rfl) (by kernel_rfl) (by kernel_rfl) (fun _ _ _ h => h) (Or.inl ⟨by kernel_rfl, ?_⟩) hHeld ?_
                  rotate_left 1
                  · intro W hSw
                    (try dsimp only at hSw)
                    have e0 := hSw.cell v0 (by simp)
                    have e1' := hSw.cell v1 (by simp)
                    have e2 := hSw.cell v2 (by simp)
                    go_simp
                    (try (with_reducible rfl))
                  (try simp only [Act.put, List.setIfInBounds_toArray, List.set_cons_zero, List.set_cons_succ])
                  refine wpAnyH_ready (rs := [0, 6]) (by kernel_rfl) (by simp) ?_
                  refine AllReadyH.cons (o := Oper.mk _ _ _ _ _ _) rfl (fun K hK => ?_) ?_
                  · (try rw [if_pos (by kernel_rfl)])
                    obtain ⟨z0, z1, z2⟩ := box3p hb7
                    go_simp
                    refine hK.out _ _ ?_ (fun hNew => ?_)
                    · have hH := hHeld
                      (try dsimp only at hH)
                      (try dsimp only)
                      first | with_reducible exact grown_trans hH hgS | with_reducible exact grown_new hH hgS (fun g' e => by cases e; exact h7w) | with_reducible exact hH
                    clear hK K hHeld
                    have hHeld := hNew
                    clear hNew
                    (try simp only [Act.put, List.setIfInBounds_toArray, List.set_cons_zero, List.set_cons_succ])
                    refine wpAnyH_ready (rs := [6]) (by kernel_rfl) (by simp) ?_
                    refine AllReadyH.cons (o := Oper.mk _ _ _ _ _ _) rfl (fun K hK => ?_) AllReadyH.nil
                    (try rw [if_pos (by kernel_rfl)])
                    go_simp
                    go_at_call 150
                    (with_reducible refine (HPW.out _ hgg).mono ?_)
                    rintro e wy1 ⟨g4, p4, n4, c4, q4, m4, d4, rfl, hV4, -, -, hgS⟩
                    replace hgg := grown_trans hgg hgS
                    replace hbR := keepB hbR hgS
                    replace hb7 := keepB hb7 hgS
                    replace hV7 := hV7.keep hgS
                    refine hK.out _ _ ?_ (fun hNew => ?_)
                    · have hH := hHeld
                      (try dsimp only at hH)
                      (try dsimp only)
                      first | with_reducible exact grown_trans hH hgS | with_reducible exact grown_new hH hgS (fun g' e => by cases e; exact h7w) | with_reducible exact hH
                    clear hK K hHeld
                    have hHeld := hNew
                    clear hNew
                    (try simp only [Act.put, List.setIfInBounds_toArray, List.set_cons_zero, List.set_cons_succ])
                    clear hgS
                    refine wpAnyH_ready (rs := [7]) (by kernel_rfl) (by simp) ?_
                    refine AllReadyH.cons (o := Oper.mk _ _ _ _ _ _) rfl (fun K hK => ?_) AllReadyH.nil
                    (try rw [if_pos (by kernel_rfl)])
                    go_simp
                    go_at_call 51
                    (with_reducible refine (HMLi.out _ hgg _ _ _ _ _ _ _ _ _ _ _ _ _ _ hV7 hV4).mono ?_)
                    rintro e wy2 ⟨g5, p5, n5, c5, q5, m5, d5, rfl, hV5, -, -, hgS⟩
                    replace hgg := grown_trans hgg hgS
                    replace hbR := keepB hbR hgS
                    replace hb7 := keepB hb7 hgS
                    replace hV7 := hV7.keep hgS
                    replace hV4 := hV4.keep hgS
                    refine hK.out _ _ ?_ (fun hNew => ?_)
                    · have hH := hHeld
                      (try dsimp only at hH)
                      (try dsimp only)
                      first | with_reducible exact grown_trans hH hgS | with_reducible exact grown_new hH hgS (fun g' e => by cases e; exact h7w) | with_reducible exact hH
                    clear hK K hHeld
                    have hHeld := hNew
                    clear hNew
                    (try simp only [Act.put, List.setIfInBounds_toArray, List.set_cons_zero, List.set_cons_succ])
                    clear hgS
                    refine wpAnyH_ready (rs := [8]) (by kernel_rfl) (by simp) ?_
                    refine AllReadyH.cons (o := Oper.mk _ _ _ _ _ _) rfl (fun K hK => ?_) AllReadyH.nil
                    (try rw [if_pos (by kernel_rfl)])
                    obtain ⟨z0, z1, z2⟩ := box3p hb7
                    have zf := fun o => frozen_of_row wy2 b7 o _ _ hb7
                    have f0 := zf 0
                    have f1 := zf 1
                    have f2 := zf 2
                    go_simp
                    have hgS := set3_grown wy2 b7 (.bool g5) (.slice p5 n5 c5) (.slice q5 m5 d5)
                    have B7E := hid (set3_block hb7 g5 p5 n5 c5 q5 m5 d5)
                    have HGE := hid (grown_new hgg hgS (fun g' e => by cases e; exact h7w))
                    have HV7E := hid (stay3 hV5 hb7 hgS)
                    have BRE := hid ((hgS.block br (lt_of_block hbR) (by simp; omega)).trans hbR)
                    clear z0 z1 z2 zf f0 f1 f2
                    refine hK.out _ _ ?_ (fun hNew => ?_)
                    · have hH := hHeld
                      (try dsimp only at hH)
                      (try dsimp only)
                      first | with_reducible exact grown_trans hH hgS | with_reducible exact grown_new hH hgS (fun g' e => by cases e; exact h7w) | with_reducible exact hH
                    clear hK K hHeld
                    have hHeld := hNew
                    clear hNew
                    (try simp only [Act.put, List.setIfInBounds_toArray, List.set_cons_zero, List.set_cons_succ])
                    refine wpAnyH_done (by kernel_rfl) ?_ _
                    refine NoPanic.normal ?_
                    clear hHeld hgS hV4 hV5 hV7 hbR hb7 hgg
                    generalize ((wy2.setCell _ _).setCell _ _).setCell _ _ = wF at *
                    have HN := hid (HVE.out HV7E.out)
                    clear HV7E
                    go_wp2_with fail
                    exact ⟨⟨i + e, m - e, o2, e - e, g5, p5, n5, c5, q5, m5, d5, by omega, by first | rfl | (simp; done) | (simp; omega), HGE, BRE, B7E, HPN, HN⟩, by simp [lnV]; omega⟩
                  refine AllReadyH.cons (o := Oper.mk _ _ _ _ _ _) rfl (fun K hK => ?_) AllReadyH.nil
                  (try rw [if_pos (by kernel_rfl)])
                  go_simp
                  go_at_call 150
                  (with_reducible refine (HPW.out _ hgg).mono ?_)
                  rintro e wy1 ⟨g4, p4, n4, c4, q4, m4, d4, rfl, hV4, -, -, hgS⟩
                  replace hgg := grown_trans hgg hgS
                  replace hbR := keepB hbR hgS
                  replace hb7 := keepB hb7 hgS
                  replace hV7 := hV7.keep hgS
                  refine hK.out _ _ ?_ (fun hNew => ?_)
                  · have hH := hHeld
                    (try dsimp only at hH)
                    (try dsimp only)
                    first | with_reducible exact grown_trans hH hgS | with_reducible exact grown_new hH hgS (fun g' e => by cases e; exact h7w) | with_reducible exact hH
                  clear hK K hHeld
                  have hHeld := hNew
                  clear hNew
                  (try simp only [Act.put, List.setIfInBounds_toArray, List.set_cons_zero, List.set_cons_succ])
                  clear hgS
                  refine wpAnyH_ready (rs := [0]) (by kernel_rfl) (by simp) ?_
                  refine AllReadyH.cons (o := Oper.mk _ _ _ _ _ _) rfl (fun K hK => ?_) AllReadyH.nil
                  (try rw [if_pos (by kernel_rfl)])
                  obtain ⟨z0, z1, z2⟩ := box3p hb7
                  go_simp
                  refine hK.out _ _ ?_ (fun hNew => ?_)
                  · have hH := hHeld
                    (try dsimp only at hH)
                    (try dsimp only)
                    first | with_reducible exact grown_trans hH hgS | with_reducible exact grown_new hH hgS (fun g' e => by cases e; exact h7w) | with_reducible exact hH
                  clear hK K hHeld
                  have hHeld := hNew
                  clear hNew
                  (try simp only [Act.put, List.setIfInBounds_toArray, List.set_cons_zero, List.set_cons_succ])
                  refine wpAnyH_ready (rs := [7]) (by kernel_rfl) (by simp) ?_
                  refine AllReadyH.cons (o := Oper.mk _ _ _ _ _ _) rfl (fun K hK => ?_) AllReadyH.nil
                  (try rw [if_pos (by kernel_rfl)])
                  go_simp
                  go_at_call 51
                  (with_reducible refine (HMLi.out _ hgg _ _ _ _ _ _ _ _ _ _ _ _ _ _ hV7 hV4).mono ?_)
                  rintro e wy2 ⟨g5, p5, n5, c5, q5, m5, d5, rfl, hV5, -, -, hgS⟩
                  replace hgg := grown_trans hgg hgS
                  replace hbR := keepB hbR hgS
                  replace hb7 := keepB hb7 hgS
                  replace hV7 := hV7.keep hgS
                  replace hV4 := hV4.keep hgS
                  refine hK.out _ _ ?_ (fun hNew => ?_)
                  · have hH := hHeld
                    (try dsimp only at hH)
                    (try dsimp only)
                    first | with_reducible exact grown_trans hH hgS | with_reducible exact grown_new hH hgS (fun g' e => by cases e; exact h7w) | with_reducible exact hH
                  clear hK K hHeld
                  have hHeld := hNew
                  clear hNew
                  (try simp only [Act.put, List.setIfInBounds_toArray, List.set_cons_zero, List.set_cons_succ])
                  clear hgS
                  refine wpAnyH_ready (rs := [8]) (by kernel_rfl) (by simp) ?_
                  refine AllReadyH.cons (o := Oper.mk _ _ _ _ _ _) rfl (fun K hK => ?_) AllReadyH.nil
                  (try rw [if_pos (by kernel_rfl)])
                  obtain ⟨z0, z1, z2⟩ := box3p hb7
                  have zf := fun o => frozen_of_row wy2 b7 o _ _ hb7
                  have f0 := zf 0
                  have f1 := zf 1
                  have f2 := zf 2
                  go_simp
                  have hgS := set3_grown wy2 b7 (.bool g5) (.slice p5 n5 c5) (.slice q5 m5 d5)
                  have B7E := hid (set3_block hb7 g5 p5 n5 c5 q5 m5 d5)
                  have HGE := hid (grown_new hgg hgS (fun g' e => by cases e; exact h7w))
                  have HV7E := hid (stay3 hV5 hb7 hgS)
                  have BRE := hid ((hgS.block br (lt_of_block hbR) (by simp; omega)).trans hbR)
                  clear z0 z1 z2 zf f0 f1 f2
                  refine hK.out _ _ ?_ (fun hNew => ?_)
                  · have hH := hHeld
                    (try dsimp only at hH)
                    (try dsimp only)
                    first | with_reducible exact grown_trans hH hgS | with_reducible exact grown_new hH hgS (fun g' e => by cases e; exact h7w) | with_reducible exact hH
                  clear hK K hHeld
                  have hHeld := hNew
                  clear hNew
                  (try simp only [Act.put, List.setIfInBounds_toArray, List.set_cons_zero, List.set_cons_succ])
                  refine wpAnyH_done (by kernel_rfl) ?_ _
                  refine NoPanic.normal ?_
                  clear hHeld hgS hV4 hV5 hV7 hbR hb7 hgg
                  generalize ((wy2.setCell _ _).setCell _ _).setCell _ _ = wF at *
                  have HN := hid (HVE.out HV7E.out)
                  clear HV7E
                  go_wp2_with fail
                  exact ⟨⟨i + e, m - e, o2, e - e, g5, p5, n5, c5, q5, m5, d5, by omega, by first | rfl | (simp; done) | (simp; omega), HGE, BRE, B7E, HPN, HN⟩, by simp [lnV]; omega⟩
                · rw [if_neg hce] at HPN
                  go_upto_region 11 with fail
                  refine wp_region_noPanic ?_
                  refine wp_region_held_drew (S := (fun W => w.grownBy W none)) (by kernel_rfl) ?_ (fun hHeld => ?_)
                  · (try dsimp only)
                    exact grown_trans HG.out (grown_drew _ none)
                  have hgg := grown_trans HG.out (grown_drew wr none)
                  have hbR := keepB BR.out (grown_drew wr none)
                  have hb7 := keepB B7.out (grown_drew wr none)
                  have hV7 := HV7.out.keep (grown_drew wr none)
                  clear HG B7 HV7 BR
                  generalize wr.drew = wd at *
                  refine wpAnyH_take (i := 1) (oi := Oper.mk _ _ _ _ _ _) (v := ?_) rfl (by kernel_rfl) (by kernel_rfl) (by kernel_rfl) (fun _ _ _ h => h) (Or.inl ⟨by kernel_rfl, ?_⟩) hHeld ?_
                  rotate_left 1
                  · intro W hSw
                    (try dsimp only at hSw)
                    skip
                    go_simp
                    (try (with_reducible rfl))
                  (try simp only [Act.put, List.setIfInBounds_toArray, List.set_cons_zero, List.set_cons_succ])
                  refine wpAnyH_take (i := 2) (oi := Oper.mk _ _ _ _ _ _) (v := ?_) rfl (by kernel_rfl) (by kernel_rfl) (by kernel_rfl) (fun _ _ _ h => h) (Or.inl ⟨by kernel_rfl, ?_⟩) hHeld ?_
                  rotate_left 1
                  · intro W hSw
                    (try dsimp only at hSw)
                    skip
                    go_simp
                    (try (with_reducible rfl))
                  (try simp only [Act.put, List.setIfInBounds_toArray, List.set_cons_zero, List.set_cons_succ])
                  refine wpAnyH_take (i := 3) (oi := Oper.mk _ _ _ _ _ _) (v := ?_) rfl (by kernel_rfl) (by kernel_rfl) (by kernel_rfl) (fun _ _ _ h => h) (Or.inl ⟨by kernel_rfl, ?_⟩) hHeld ?_
                  rotate_left 1
                  · intro W hSw
                    (try dsimp only at hSw)
                    skip
                    go_simp
                    (try (with_reducible rfl))
                  (try simp only [Act.put, List.setIfInBounds_toArray, List.set_cons_zero, List.set_cons_succ])
                  refine wpAnyH_take (i := 4) (oi := Oper.mk _ _ _ _ _ _) (v := ?_) rfl (by kernel_rfl) (by kernel_rfl) (by kernel_rfl) (fun _ _ _ h => h) (Or.inl ⟨by kernel_rfl, ?_⟩) hHeld ?_
                  rotate_left 1
                  · intro W hSw
                    (try dsimp only at hSw)
                    skip
                    go_simp
                    (try (with_reducible rfl))
                  (try simp only [Act.put, List.setIfInBounds_toArray, List.set_cons_zero, List.set_cons_succ])
                  refine wpAnyH_take (i := 5) (oi := Oper.mk _ _ _ _ _ _) (v := ?_) rfl (by kernel_rfl) (by kernel_rfl) (by kernel_rfl) (fun _ _ _ h => h) (Or.inl ⟨by kernel_rfl, ?_⟩) hHeld ?_
                  rotate_left 1
                  · intro W hSw
                    (try dsimp only at hSw)
                    skip
                    go_simp
                    (try (with_reducible rfl))
                  (try simp only [Act.put, List.setIfInBounds_toArray, List.set_cons_zero, List.set_cons_succ])
                  refine wpAnyH_take (i := 6) (oi := Oper.mk _ _ _ _ _ _) (v := ?_) rfl (by kernel_rfl) (by kernel_rfl) (by kernel_rfl) (fun _ _ _ h => h) (Or.inl ⟨by kernel_rfl, ?_⟩) hHeld ?_
                  rotate_left 1
                  · intro W hSw
                    (try dsimp only at hSw)
                    skip
                    go_simp
                    (try (with_reducible rfl))
                  (try simp only [Act.put, List.setIfInBounds_toArray, List.set_cons_zero, List.set_cons_succ])
                  refine wpAnyH_ready (rs := [0, 7]) (by kernel_rfl) (by simp) ?_
                  refine AllReadyH.cons (o := Oper.mk _ _ _ _ _ _) rfl (fun K hK => ?_) ?_
                  · (try rw [if_pos (by kernel_rfl)])
                    obtain ⟨z0, z1, z2⟩ := box3p hb7
                    go_simp
                    refine hK.out _ _ ?_ (fun hNew => ?_)
                    · have hH := hHeld
                      (try dsimp only at hH)
                      (try dsimp only)
                      first | with_reducible exact grown_trans hH hgS | with_reducible exact grown_new hH hgS (fun g' e => by cases e; exact h7w) | with_reducible exact hH
                    clear hK K hHeld
                    have hHeld := hNew
                    clear hNew
                    (try simp only [Act.put, List.setIfInBounds_toArray, List.set_cons_zero, List.set_cons_succ])
                    refine wpAnyH_ready (rs := [7]) (by kernel_rfl) (by simp) ?_
                    refine AllReadyH.cons (o := Oper.mk _ _ _ _ _ _) rfl (fun K hK => ?_) AllReadyH.nil
                    (try rw [if_pos (by kernel_rfl)])
                    go_simp
                    go_at_call 103
                    (with_reducible refine (HREC.out _ hgg).mono ?_)
                    rintro e wy1 ⟨g8, p8, n8, c8, q8, m8, d8, rfl, hV8, hgS⟩
                    replace hgg := grown_trans hgg hgS
                    replace hbR := keepB hbR hgS
                    replace hb7 := keepB hb7 hgS
                    replace hV7 := hV7.keep hgS
                    refine hK.out _ _ ?_ (fun hNew => ?_)
                    · have hH := hHeld
                      (try dsimp only at hH)
                      (try dsimp only)
                      first | with_reducible exact grown_trans hH hgS | with_reducible exact grown_new hH hgS (fun g' e => by cases e; exact h7w) | with_reducible exact hH
                    clear hK K hHeld
                    have hHeld := hNew
                    clear hNew
                    (try simp only [Act.put, List.setIfInBounds_toArray, List.set_cons_zero, List.set_cons_succ])
                    clear hgS
                    refine wpAnyH_ready (rs := [8]) (by kernel_rfl) (by simp) ?_
                    refine AllReadyH.cons (o := Oper.mk _ _ _ _ _ _) rfl (fun K hK => ?_) AllReadyH.nil
                    (try rw [if_pos (by kernel_rfl)])
                    go_simp
                    go_at_call 50
                    (with_reducible refine (HADi.out _ hgg _ _ _ _ _ _ _ _ _ _ _ _ _ _ hV7 hV8).mono ?_)
                    rintro e wy2 ⟨g9, p9, n9, c9, q9, m9, d9, rfl, hV9, -, -, hgS⟩
                    replace hgg := grown_trans hgg hgS
                    replace hbR := keepB hbR hgS
                    replace hb7 := keepB hb7 hgS
                    replace hV7 := hV7.keep hgS
                    replace hV8 := hV8.keep hgS
                    refine hK.out _ _ ?_ (fun hNew => ?_)
                    · have hH := hHeld
                      (try dsimp only at hH)
                      (try dsimp only)
                      first | with_reducible exact grown_trans hH hgS | with_reducible exact grown_new hH hgS (fun g' e => by cases e; exact h7w) | with_reducible exact hH
                    clear hK K hHeld
                    have hHeld := hNew
                    clear hNew
                    (try simp only [Act.put, List.setIfInBounds_toArray, List.set_cons_zero, List.set_cons_succ])
                    clear hgS
                    refine wpAnyH_ready (rs := [9]) (by kernel_rfl) (by simp) ?_
                    refine AllReadyH.cons (o := Oper.mk _ _ _ _ _ _) rfl (fun K hK => ?_) AllReadyH.nil
                    (try rw [if_pos (by kernel_rfl)])
                    obtain ⟨z0, z1, z2⟩ := box3p hb7
                    have zf := fun o => frozen_of_row wy2 b7 o _ _ hb7
                    have f0 := zf 0
                    have f1 := zf 1
                    have f2 := zf 2
                    go_simp
                    have hgS := set3_grown wy2 b7 (.bool g9) (.slice p9 n9 c9) (.slice q9 m9 d9)
                    have B7E := hid (set3_block hb7 g9 p9 n9 c9 q9 m9 d9)
                    have HGE := hid (grown_new hgg hgS (fun g' e => by cases e; exact h7w))
                    have HV7E := hid (stay3 hV9 hb7 hgS)
                    have BRE := hid ((hgS.block br (lt_of_block hbR) (by simp; omega)).trans hbR)
                    clear z0 z1 z2 zf f0 f1 f2
                    refine hK.out _ _ ?_ (fun hNew => ?_)
                    · have hH := hHeld
                      (try dsimp only at hH)
                      (try dsimp only)
                      first | with_reducible exact grown_trans hH hgS | with_reducible exact grown_new hH hgS (fun g' e => by cases e; exact h7w) | with_reducible exact hH
                    clear hK K hHeld
                    have hHeld := hNew
                    clear hNew
                    (try simp only [Act.put, List.setIfInBounds_toArray, List.set_cons_zero, List.set_cons_succ])
                    refine wpAnyH_done (by kernel_rfl) ?_ _
                    refine NoPanic.normal ?_
                    clear hHeld hgS hV8 hV9 hV7 hbR hb7 hgg
                    generalize ((wy2.setCell _ _).setCell _ _).setCell _ _ = wE at *
                    have HGE2 := HGE
                    have B7E2 := B7E
                    have HV7E2 := HV7E
                    have BRE2 := BRE
                    clear HGE B7E HV7E BRE
                    go_upto_region 15 with fail
                    refine wp_region_noPanic ?_
                    refine wp_region_held_drew (S := (fun W => w.grownBy W none)) (by kernel_rfl) ?_ (fun hHeld => ?_)
                    · (try dsimp only)
                      exact grown_trans HGE2.out (grown_drew _ none)
                    have hgg := grown_trans HGE2.out (grown_drew wE none)
                    have hbR := keepB BRE2.out (grown_drew wE none)
                    have hb7 := keepB B7E2.out (grown_drew wE none)
                    have hV7 := HV7E2.out.keep (grown_drew wE none)
                    clear HGE2 B7E2 HV7E2 BRE2
                    generalize wE.drew = wd at *
                    refine wpAnyH_take (i := 1) (oi := Oper.mk _ _ _ _ _ _) (v := ?_) rfl (by kernel_rfl) (by kernel_rfl) (by kernel_rfl) (fun _ _ _ h => h) (Or.inl ⟨by kernel_rfl, ?_⟩) hHeld ?_
                    rotate_left 1
                    · intro W hSw
                      (try dsimp only at hSw)
                      have e0 := hSw.cell v0 (by simp)
                      have e1' := hSw.cell v1 (by simp)
                      have e2 := hSw.cell v2 (by simp)
                      go_simp
                      (try (with_reducible rfl))
                    (try simp only [Act.put, List.setIfInBounds_toArray, List.set_cons_zero, List.set_cons_succ])
                    refine wpAnyH_take (i := 2) (oi := Oper.mk _ _ _ _ _ _) (v := ?_) rfl (by kernel_rfl) (by kernel_rfl) (by kernel_rfl) (fun _ _ _ h => h) (Or.inl ⟨by kernel_rfl, ?_⟩) hHeld ?_
                    rotate_left 1
                    · intro W hSw
                      (try dsimp only at hSw)
                      have e0 := hSw.cell v0 (by simp)
                      have e1' := hSw.cell v1 (by simp)
                      have e2 := hSw.cell v2 (by simp)
                      go_simp
                      (try (with_reducible rfl))
                    (try simp only [Act.put, List.setIfInBounds_toArray, List.set_cons_zero, List.set_cons_succ])
                    refine wpAnyH_take (i := 3) (oi := Oper.mk _ _ _ _ _ _) (v := ?_) rfl (by kernel_rfl) (by kernel_rfl) (by kernel_rfl) (fun _ _ _ h => h) (Or.inl ⟨by kernel_rfl, ?_⟩) hHeld ?_
                    rotate_left 1
                    · intro W hSw
                      (try dsimp only at hSw)
                      have e0 := hSw.cell v0 (by simp)
                      have e1' := hSw.cell v1 (by simp)
                      have e2 := hSw.cell v2 (by simp)
                      go_simp
                      (try (with_reducible rfl))
                    (try simp only [Act.put, List.setIfInBounds_toArray, List.set_cons_zero, List.set_cons_succ])
                    refine wpAnyH_take (i := 4) (oi := Oper.mk _ _ _ _ _ _) (v := ?_) rfl (by kernel_rfl) (by kernel_rfl) (by kernel_rfl) (fun _ _ _ h => h) (Or.inl ⟨by kernel_rfl, ?_⟩) hHeld ?_
                    rotate_left 1
                    · intro W hSw
                      (try dsimp only at hSw)
                      have e0 := hSw.cell v0 (by simp)
                      have e1' := hSw.cell v1 (by simp)
                      have e2 := hSw.cell v2 (by simp)
                      go_simp
                      (try (with_reducible rfl))
                    (try simp only [Act.put, List.setIfInBounds_toArray, List.set_cons_zero, List.set_cons_succ])
                    refine wpAnyH_take (i := 5) (oi := Oper.mk _ _ _ _ _ _) (v := ?_) rfl (by kernel_rfl) (by kernel_rfl) (by kernel_rfl) (fun _ _ _ h => h) (Or.inl ⟨by kernel_rfl, ?_⟩) hHeld ?_
                    rotate_left 1
                    · intro W hSw
                      (try dsimp only at hSw)
                      have e0 := hSw.cell v0 (by simp)
                      have e1' := hSw.cell v1 (by simp)
                      have e2 := hSw.cell v2 (by simp)
                      go_simp
                      (try (with_reducible rfl))
                    (try simp only [Act.put, List.setIfInBounds_toArray, List.set_cons_zero, List.set_cons_succ])
                    refine wpAnyH_ready (rs := [0, 6]) (by kernel_rfl) (by simp) ?_
                    refine AllReadyH.cons (o := Oper.mk _ _ _ _ _ _) rfl (fun K hK => ?_) ?_
                    · (try rw [if_pos (by kernel_rfl)])
                      obtain ⟨z0, z1, z2⟩ := box3p hb7
                      go_simp
                      refine hK.out _ _ ?_ (fun hNew => ?_)
                      · have hH := hHeld
                        (try dsimp only at hH)
                        (try dsimp only)
                        first | with_reducible exact grown_trans hH hgS | with_reducible exact grown_new hH hgS (fun g' e => by cases e; exact h7w) | with_reducible exact hH
                      clear hK K hHeld
                      have hHeld := hNew
                      clear hNew
                      (try simp only [Act.put, List.setIfInBounds_toArray, List.set_cons_zero, List.set_cons_succ])
                      refine wpAnyH_ready (rs := [6]) (by kernel_rfl) (by simp) ?_
                      refine AllReadyH.cons (o := Oper.mk _ _ _ _ _ _) rfl (fun K hK => ?_) AllReadyH.nil
                      (try rw [if_pos (by kernel_rfl)])
                      go_simp
                      go_at_call 150
                      (with_reducible refine (HPW.out _ hgg).mono ?_)
                      rintro e wy1 ⟨g4, p4, n4, c4, q4, m4, d4, rfl, hV4, -, -, hgS⟩
                      replace hgg := grown_trans hgg hgS
                      replace hbR := keepB hbR hgS
                      replace hb7 := keepB hb7 hgS
                      replace hV7 := hV7.keep hgS
                      refine hK.out _ _ ?_ (fun hNew => ?_)
                      · have hH := hHeld
                        (try dsimp only at hH)
                        (try dsimp only)
                        first | with_reducible exact grown_trans hH hgS | with_reducible exact grown_new hH hgS (fun g' e => by cases e; exact h7w) | with_reducible exact hH
                      clear hK K hHeld
                      have hHeld := hNew
                      clear hNew
                      (try simp only [Act.put, List.setIfInBounds_toArray, List.set_cons_zero, List.set_cons_succ])
                      clear hgS
                      refine wpAnyH_ready (rs := [7]) (by kernel_rfl) (by simp) ?_
                      refine AllReadyH.cons (o := Oper.mk _ _ _ _ _ _) rfl (fun K hK => ?_) AllReadyH.nil
                      (try rw [if_pos (by kernel_rfl)])
                      go_simp
                      go_at_call 51
                      (with_reducible refine (HMLi.out _ hgg _ _ _ _ _ _ _ _ _ _ _ _ _ _ hV7 hV4).mono ?_)
                      rintro e wy2 ⟨g5, p5, n5, c5, q5, m5, d5, rfl, hV5, -, -, hgS⟩
                      replace hgg := grown_trans hgg hgS
                      replace hbR := keepB hbR hgS
                      replace hb7 := keepB hb7 hgS
                      replace hV7 := hV7.keep hgS
                      replace hV4 := hV4.keep hgS
                      refine hK.out _ _ ?_ (fun hNew => ?_)
                      · have hH := hHeld
                        (try dsimp only at hH)
                        (try dsimp only)
                        first | with_reducible exact grown_trans hH hgS | with_reducible exact grown_new hH hgS (fun g' e => by cases e; exact h7w) | with_reducible exact hH
                      clear hK K hHeld
                      have hHeld := hNew
                      clear hNew
                      (try simp only [Act.put, List.setIfInBounds_toArray, List.set_cons_zero, List.set_cons_succ])
                      clear hgS
                      refine wpAnyH_ready (rs := [8]) (by kernel_rfl) (by simp) ?_
                      refine AllReadyH.cons (o := Oper.mk _ _ _ _ _ _) rfl (fun K hK => ?_) AllReadyH.nil
                      (try rw [if_pos (by kernel_rfl)])
                      obtain ⟨z0, z1, z2⟩ := box3p hb7
                      have zf := fun o => frozen_of_row wy2 b7 o _ _ hb7
                      have f0 := zf 0
                      have f1 := zf 1
                      have f2 := zf 2
                      go_simp
                      have hgS := set3_grown wy2 b7 (.bool g5) (.slice p5 n5 c5) (.slice q5 m5 d5)
                      have B7E := hid (set3_block hb7 g5 p5 n5 c5 q5 m5 d5)
                      have HGE := hid (grown_new hgg hgS (fun g' e => by cases e; exact h7w))
                      have HV7E := hid (stay3 hV5 hb7 hgS)
                      have BRE := hid ((hgS.block br (lt_of_block hbR) (by simp; omega)).trans hbR)
                      clear z0 z1 z2 zf f0 f1 f2
                      refine hK.out _ _ ?_ (fun hNew => ?_)
                      · have hH := hHeld
                        (try dsimp only at hH)
                        (try dsimp only)
                        first | with_reducible exact grown_trans hH hgS | with_reducible exact grown_new hH hgS (fun g' e => by cases e; exact h7w) | with_reducible exact hH
                      clear hK K hHeld
                      have hHeld := hNew
                      clear hNew
                      (try simp only [Act.put, List.setIfInBounds_toArray, List.set_cons_zero, List.set_cons_succ])
                      refine wpAnyH_done (by kernel_rfl) ?_ _
                      refine NoPanic.normal ?_
                      clear hHeld hgS hV4 hV5 hV7 hbR hb7 hgg
                      generalize ((wy2.setCell _ _).setCell _ _).setCell _ _ = wF at *
                      have HN := hid (HVE.out HV7E.out)
                      clear HV7E
                      go_wp2_with fail
                      exact ⟨⟨i + e, m - e, o2 + e * 4, c2 - e, g5, p5, n5, c5, q5, m5, d5, by omega, by first | rfl | (simp; done) | (simp; omega), HGE, BRE, B7E, HPN, HN⟩, by simp [lnV]; omega⟩
                    refine AllReadyH.cons (o := Oper.mk _ _ _ _ _ _) rfl (fun K hK => ?_) AllReadyH.nil
                    (try rw [if_pos (by kernel_rfl)])
                    go_simp
                    go_at_call 150
                    (with_reducible refine (HPW.out _ hgg).mono ?_)
                    rintro e wy1 ⟨g4, p4, n4, c4, q4, m4, d4, rfl, hV4, -, -, hgS⟩
                    replace hgg := grown_trans hgg hgS
                    replace hbR := keepB hbR hgS
                    replace hb7 := keepB hb7 hgS
                    replace hV7 := hV7.keep hgS
                    refine hK.out _ _ ?_ (fun hNew => ?_)
                    · have hH := hHeld
                      (try dsimp only at hH)
                      (try dsimp only)
                      first | with_reducible exact grown_trans hH hgS | with_reducible exact grown_new hH hgS (fun g' e => by cases e; exact h7w) | with_reducible exact hH
                    clear hK K hHeld
                    have hHeld := hNew
                    clear hNew
                    (try simp only [Act.put, List.setIfInBounds_toArray, List.set_cons_zero, List.set_cons_succ])
                    clear hgS
                    refine wpAnyH_ready (rs := [0]) (by kernel_rfl) (by simp) ?_
                    refine AllReadyH.cons (o := Oper.mk _ _ _ _ _ _) rfl (fun K hK => ?_) AllReadyH.nil
                    (try rw [if_pos (by kernel_rfl)])
                    obtain ⟨z0, z1, z2⟩ := box3p hb7
                    go_simp
                    refine hK.out _ _ ?_ (fun hNew => ?_)
                    · have hH := hHeld
                      (try dsimp only at hH)
                      (try dsimp only)
                      first | with_reducible exact grown_trans hH hgS | with_reducible exact grown_new hH hgS (fun g' e => by cases e; exact h7w) | with_reducible exact hH
                    clear hK K hHeld
                    have hHeld := hNew
                    clear hNew
                    (try simp only [Act.put, List.setIfInBounds_toArray, List.set_cons_zero, List.set_cons_succ])
                    refine wpAnyH_ready (rs := [7]) (by kernel_rfl) (by simp) ?_
                    refine AllReadyH.cons (o := Oper.mk _ _ _ _ _ _) rfl (fun K hK => ?_) AllReadyH.nil
                    (try rw [if_pos (by kernel_rfl)])
                    go_simp
                    go_at_call 51
                    (with_reducible refine (HMLi.out _ hgg _ _ _ _ _ _ _ _ _ _ _ _ _ _ hV7 hV4).mono ?_)
                    rintro e wy2 ⟨g5, p5, n5, c5, q5, m5, d5, rfl, hV5, -, -, hgS⟩
                    replace hgg := grown_trans hgg hgS
                    replace hbR := keepB hbR hgS
                    replace hb7 := keepB hb7 hgS
                    replace hV7 := hV7.keep hgS
                    replace hV4 := hV4.keep hgS
                    refine hK.out _ _ ?_ (fun hNew => ?_)
                    · have hH := hHeld
                      (try dsimp only at hH)
                      (try dsimp only)
                      first | with_reducible exact grown_trans hH hgS | with_reducible exact grown_new hH hgS (fun g' e => by cases e; exact h7w) | with_reducible exact hH
                    clear hK K hHeld
                    have hHeld := hNew
                    clear hNew
                    (try simp only [Act.put, List.setIfInBounds_toArray, List.set_cons_zero, List.set_cons_succ])
                    clear hgS
                    refine wpAnyH_ready (rs := [8]) (by kernel_rfl) (by simp) ?_
                    refine AllReadyH.cons (o := Oper.mk _ _ _ _ _ _) rfl (fun K hK => ?_) AllReadyH.nil
                    (try rw [if_pos (by kernel_rfl)])
                    obtain ⟨z0, z1, z2⟩ := box3p hb7
                    have zf := fun o => frozen_of_row wy2 b7 o _ _ hb7
                    have f0 := zf 0
                    have f1 := zf 1
                    have f2 := zf 2
                    go_simp
                    have hgS := set3_grown wy2 b7 (.bool g5) (.slice p5 n5 c5) (.slice q5 m5 d5)
                    have B7E := hid (set3_block hb7 g5 p5 n5 c5 q5 m5 d5)
                    have HGE := hid (grown_new hgg hgS (fun g' e => by cases e; exact h7w))
                    have HV7E := hid (stay3 hV5 hb7 hgS)
                    have BRE := hid ((hgS.block br (lt_of_block hbR) (by simp; omega)).trans hbR)
                    clear z0 z1 z2 zf f0 f1 f2
                    refine hK.out _ _ ?_ (fun hNew => ?_)
                    · have hH := hHeld
                      (try dsimp only at hH)
                      (try dsimp only)
                      first | with_reducible exact grown_trans hH hgS | with_reducible exact grown_new hH hgS (fun g' e => by cases e; exact h7w) | with_reducible exact hH
                    clear hK K hHeld
                    have hHeld := hNew
                    clear hNew
                    (try simp only [Act.put, List.setIfInBounds_toArray, List.set_cons_zero, List.set_cons_succ])
                    refine wpAnyH_done (by kernel_rfl) ?_ _
                    refine NoPanic.normal ?_
                    clear hHeld hgS hV4 hV5 hV7 hbR hb7 hgg
                    generalize ((wy2.setCell _ _).setCell _ _).setCell _ _ = wF at *
                    have HN := hid (HVE.out HV7E.out)
                    clear HV7E
                    go_wp2_with fail
                    exact ⟨⟨i + e, m - e, o2 + e * 4, c2 - e, g5, p5, n5, c5, q5, m5, d5, by omega, by first | rfl | (simp; done) | (simp; omega), HGE, BRE, B7E, HPN, HN⟩, by simp [lnV]; omega⟩
                  refine AllReadyH.cons (o := Oper.mk _ _ _ _ _ _) rfl (fun K hK => ?_) AllReadyH.nil
                  (try rw [if_pos (by kernel_rfl)])
                  go_simp
                  go_at_call 103
                  (with_reducible refine (HREC.out _ hgg).mono ?_)
                  rintro e wy1 ⟨g8, p8, n8, c8, q8, m8, d8, rfl, hV8, hgS⟩
                  replace hgg := grown_trans hgg hgS
                  replace hbR := keepB hbR hgS
                  replace hb7 := keepB hb7 hgS
                  replace hV7 := hV7.keep hgS
                  refine hK.out _ _ ?_ (fun hNew => ?_)
                  · have hH := hHeld
                    (try dsimp only at hH)
                    (try dsimp only)
                    first | with_reducible exact grown_trans hH hgS | with_reducible exact grown_new hH hgS (fun g' e => by cases e; exact h7w) | with_reducible exact hH
                  clear hK K hHeld
                  have hHeld := hNew
                  clear hNew
                  (try simp only [Act.put, List.setIfInBounds_toArray, List.set_cons_zero, List.set_cons_succ])
                  clear hgS
                  refine wpAnyH_ready (rs := [0]) (by kernel_rfl) (by simp) ?_
                  refine AllReadyH.cons (o := Oper.mk _ _ _ _ _ _) rfl (fun K hK => ?_) AllReadyH.nil
                  (try rw [if_pos (by kernel_rfl)])
                  obtain ⟨z0, z1, z2⟩ := box3p hb7
                  go_simp
                  refine hK.out _ _ ?_ (fun hNew => ?_)
                  · have hH := hHeld
                    (try dsimp only at hH)
                    (try dsimp only)
                    first | with_reducible exact grown_trans hH hgS | with_reducible exact grown_new hH hgS (fun g' e => by cases e; exact h7w) | with_reducible exact hH
                  clear hK K hHeld
                  have hHeld := hNew
                  clear hNew
                  (try simp only [Act.put, List.setIfInBounds_toArray, List.set_cons_zero, List.set_cons_succ])
                  refine wpAnyH_ready (rs := [8]) (by kernel_rfl) (by simp) ?_
                  refine AllReadyH.cons (o := Oper.mk _ _ _ _ _ _) rfl (fun K hK => ?_) AllReadyH.nil
                  (try rw [if_pos (by kernel_rfl)])
                  go_simp
                  go_at_call 50
                  (with_reducible refine (HADi.out _ hgg _ _ _ _ _ _ _ _ _ _ _ _ _ _ hV7 hV8).mono ?_)
                  rintro e wy2 ⟨g9, p9, n9, c9, q9, m9, d9, rfl, hV9, -, -, hgS⟩
                  replace hgg := grown_trans hgg hgS
                  replace hbR := keepB hbR hgS
                  replace hb7 := keepB hb7 hgS
                  replace hV7 := hV7.keep hgS
                  replace hV8 := hV8.keep hgS
                  refine hK.out _ _ ?_ (fun hNew => ?_)
                  · have hH := hHeld
                    (try dsimp only at hH)
                    (try dsimp only)
                    first | with_reducible exact grown_trans hH hgS | with_reducible exact grown_new hH hgS (fun g' e => by cases e; exact h7w) | with_reducible exact hH
                  clear hK K hHeld
                  have hHeld := hNew
                  clear hNew
                  (try simp only [Act.put, List.setIfInBounds_toArray, List.set_cons_zero, List.set_cons_succ])
                  clear hgS
                  refine wpAnyH_ready (rs := [9]) (by kernel_rfl) (by simp) ?_
                  refine AllReadyH.cons (o := Oper.mk _ _ _ _ _ _) rfl (fun K hK => ?_) AllReadyH.nil
                  (try rw [if_pos (by kernel_rfl)])
                  obtain ⟨z0, z1, z2⟩ := box3p hb7
                  have zf := fun o => frozen_of_row wy2 b7 o _ _ hb7
                  have f0 := zf 0
                  have f1 := zf 1
                  have f2 := zf 2
                  go_simp
                  have hgS := set3_grown wy2 b7 (.bool g9) (.slice p9 n9 c9) (.slice q9 m9 d9)
                  have B7E := hid (set3_block hb7 g9 p9 n9 c9 q9 m9 d9)
                  have HGE := hid (grown_new hgg hgS (fun g' e => by cases e; exact h7w))
                  have HV7E := hid (stay3 hV9 hb7 hgS)
                  have BRE := hid ((hgS.block br (lt_of_block hbR) (by simp; omega)).trans hbR)
                  clear z0 z1 z2 zf f0 f1 f2
                  refine hK.out _ _ ?_ (fun hNew => ?_)
                  · have hH := hHeld
                    (try dsimp only at hH)
                    (try dsimp only)
                    first | with_reducible exact grown_trans hH hgS | with_reducible exact grown_new hH hgS (fun g' e => by cases e; exact h7w) | with_reducible exact hH
                  clear hK K hHeld
                  have hHeld := hNew
                  clear hNew
                  (try simp only [Act.put, List.setIfInBounds_toArray, List.set_cons_zero, List.set_cons_succ])
                  refine wpAnyH_done (by kernel_rfl) ?_ _
                  refine NoPanic.normal ?_
                  clear hHeld hgS hV8 hV9 hV7 hbR hb7 hgg
                  generalize ((wy2.setCell _ _).setCell _ _).setCell _ _ = wE at *
                  have HGE2 := HGE
                  have B7E2 := B7E
                  have HV7E2 := HV7E
                  have BRE2 := BRE
                  clear HGE B7E HV7E BRE
                  go_upto_region 15 with fail
                  refine wp_region_noPanic ?_
                  refine wp_region_held_drew (S := (fun W => w.grownBy W none)) (by kernel_rfl) ?_ (fun hHeld => ?_)
                  · (try dsimp only)
                    exact grown_trans HGE2.out (grown_drew _ none)
                  have hgg := grown_trans HGE2.out (grown_drew wE none)
                  have hbR := keepB BRE2.out (grown_drew wE none)
                  have hb7 := keepB B7E2.out (grown_drew wE none)
                  have hV7 := HV7E2.out.keep (grown_drew wE none)
                  clear HGE2 B7E2 HV7E2 BRE2
                  generalize wE.drew = wd at *
                  refine wpAnyH_take (i := 1) (oi := Oper.mk _ _ _ _ _ _) (v := ?_) rfl (by kernel_rfl) (by kernel_rfl) (by kernel_rfl) (fun _ _ _ h => h) (Or.inl ⟨by kernel_rfl, ?_⟩) hHeld ?_
                  rotate_left 1
                  · intro W hSw
                    (try dsimp only at hSw)
                    have e0 := hSw.cell v0 (by simp)
                    have e1' := hSw.cell v1 (by simp)
                    have e2 := hSw.cell v2 (by simp)
                    go_simp
                    (try (with_reducible rfl))
                  (try simp only [Act.put, List.setIfInBounds_toArray, List.set_cons_zero, List.set_cons_succ])
                  refine wpAnyH_take (i := 2) (oi := Oper.mk _ _ _ _ _ _) (v := ?_) rfl (by kernel_rfl) (by kernel_rfl) (by kernel_rfl) (fun _ _ _ h => h) (Or.inl ⟨by kernel_rfl, ?_⟩) hHeld ?_
                  rotate_left 1
                  · intro W hSw
                    (try dsimp only at hSw)
                    have e0 := hSw.cell v0 (by simp)
                    have e1' := hSw.cell v1 (by simp)
                    have e2 := hSw.cell v2 (by simp)
                    go_simp
                    (try (with_reducible rfl))
                  (try simp only [Act.put, List.setIfInBounds_toArray, List.set_cons_zero, List.set_cons_succ])
                  refine wpAnyH_take (i := 3) (oi := Oper.mk _ _ _ _ _ _) (v := ?_) rfl (by kernel_rfl) (by kernel_rfl) (by kernel_rfl) (fun _ _ _ h => h) (Or.inl ⟨by kernel_rfl, ?_⟩) hHeld ?_
                  rotate_left 1
                  · intro W hSw
                    (try dsimp only at hSw)
                    have e0 := hSw.cell v0 (by simp)
                    have e1' := hSw.cell v1 (by simp)
                    have e2 := hSw.cell v2 (by simp)
                    go_simp
                    (try (with_reducible rfl))
                  (try simp only [Act.put, List.setIfInBounds_toArray, List.set_cons_zero, List.set_cons_succ])
                  refine wpAnyH_take (i := 4) (oi := Oper.mk _ _ _ _ _ _) (v := ?_) rfl (by kernel_rfl) (by kernel_rfl) (by kernel_rfl) (fun _ _ _ h => h) (Or.inl ⟨by kernel_rfl, ?_⟩) hHeld ?_
                  rotate_left 1
                  · intro W hSw
                    (try dsimp only at hSw)
                    have e0 := hSw.cell v0 (by simp)
                    have e1' := hSw.cell v1 (by simp)
                    have e2 := hSw.cell v2 (by simp)
                    go_simp
                    (try (with_reducible rfl))
                  (try simp only [Act.put, List.setIfInBounds_toArray, List.set_cons_zero, List.set_cons_succ])
                  refine wpAnyH_take (i := 5) (oi := Oper.mk _ _ _ _ _ _) (v := ?_) rfl (by kernel_rfl) (by kernel_rfl) (by kernel_rfl) (fun _ _ _ h => h) (Or.inl ⟨by kernel_rfl, ?_⟩) hHeld ?_
                  rotate_left 1
                  · intro W hSw
                    (try dsimp only at hSw)
                    have e0 := hSw.cell v0 (by simp)
                    have e1' := hSw.cell v1 (by simp)
                    have e2 := hSw.cell v2 (by simp)
                    go_simp
                    (try (with_reducible rfl))
                  (try simp only [Act.put, List.setIfInBounds_toArray, List.set_cons_zero, List.set_cons_succ])
                  refine wpAnyH_ready (rs := [0, 6]) (by kernel_rfl) (by simp) ?_
                  refine AllReadyH.cons (o := Oper.mk _ _ _ _ _ _) rfl (fun K hK => ?_) ?_
                  · (try rw [if_pos (by kernel_rfl)])
                    obtain ⟨z0, z1, z2⟩ := box3p hb7
                    go_simp
                    refine hK.out _ _ ?_ (fun hNew => ?_)
                    · have hH := hHeld
                      (try dsimp only at hH)
                      (try dsimp only)
                      first | with_reducible exact grown_trans hH hgS | with_reducible exact grown_new hH hgS (fun g' e => by cases e; exact h7w) | with_reducible exact hH
                    clear hK K hHeld
                    have hHeld := hNew
                    clear hNew
                    (try simp only [Act.put, List.setIfInBounds_toArray, List.set_cons_zero, List.set_cons_succ])
                    refine wpAnyH_ready (rs := [6]) (by kernel_rfl) (by simp) ?_
                    refine AllReadyH.cons (o := Oper.mk _ _ _ _ _ _) rfl (fun K hK => ?_) AllReadyH.nil
                    (try rw [if_pos (by kernel_rfl)])
                    go_simp
                    go_at_call 150
                    (with_reducible refine (HPW.out _ hgg).mono ?_)
                    rintro e wy1 ⟨g4, p4, n4, c4, q4, m4, d4, rfl, hV4, -, -, hgS⟩
                    replace hgg := grown_trans hgg hgS
                    replace hbR := keepB hbR hgS
                    replace hb7 := keepB hb7 hgS
                    replace hV7 := hV7.keep hgS
                    refine hK.out _ _ ?_ (fun hNew => ?_)
                    · have hH := hHeld
                      (try dsimp only at hH)
                      (try dsimp only)
                      first | with_reducible exact grown_trans hH hgS | with_reducible exact grown_new hH hgS (fun g' e => by cases e; exact h7w) | with_reducible exact hH
                    clear hK K hHeld
                    have hHeld := hNew
                    clear hNew
                    (try simp only [Act.put, List.setIfInBounds_toArray, List.set_cons_zero, List.set_cons_succ])
                    clear hgS
                    refine wpAnyH_ready (rs := [7]) (by kernel_rfl) (by simp) ?_
                    refine AllReadyH.cons (o := Oper.mk _ _ _ _ _ _) rfl (fun K hK => ?_) AllReadyH.nil
                    (try rw [if_pos (by kernel_rfl)])
                    go_simp
                    go_at_call 51
                    (with_reducible refine (HMLi.out _ hgg _ _ _ _ _ _ _ _ _ _ _ _ _ _ hV7 hV4).mono ?_)
                    rintro e wy2 ⟨g5, p5, n5, c5, q5, m5, d5, rfl, hV5, -, -, hgS⟩
                    replace hgg := grown_trans hgg hgS
                    replace hbR := keepB hbR hgS
                    replace hb7 := keepB hb7 hgS
                    replace hV7 := hV7.keep hgS
                    replace hV4 := hV4.keep hgS
                    refine hK.out _ _ ?_ (fun hNew => ?_)
                    · have hH := hHeld
                      (try dsimp only at hH)
                      (try dsimp only)
                      first | with_reducible exact grown_trans hH hgS | with_reducible exact grown_new hH hgS (fun g' e => by cases e; exact h7w) | with_reducible exact hH
                    clear hK K hHeld
                    have hHeld := hNew
                    clear hNew
                    (try simp only [Act.put, List.setIfInBounds_toArray, List.set_cons_zero, List.set_cons_succ])
                    clear hgS
                    refine wpAnyH_ready (rs := [8]) (by kernel_rfl) (by simp) ?_
                    refine AllReadyH.cons (o := Oper.mk _ _ _ _ _ _) rfl (fun K hK => ?_) AllReadyH.nil
                    (try rw [if_pos (by kernel_rfl)])
                    obtain ⟨z0, z1, z2⟩ := box3p hb7
                    have zf := fun o => frozen_of_row wy2 b7 o _ _ hb7
                    have f0 := zf 0
                    have f1 := zf 1
                    have f2 := zf 2
                    go_simp
                    have hgS := set3_grown wy2 b7 (.bool g5) (.slice p5 n5 c5) (.slice q5 m5 d5)
                    have B7E := hid (set3_block hb7 g5 p5 n5 c5 q5 m5 d5)
                    have HGE := hid (grown_new hgg hgS (fun g' e => by cases e; exact h7w))
                    have HV7E := hid (stay3 hV5 hb7 hgS)
                    have BRE := hid ((hgS.block br (lt_of_block hbR) (by simp; omega)).trans hbR)
                    clear z0 z1 z2 zf f0 f1 f2
                    refine hK.out _ _ ?_ (fun hNew => ?_)
                    · have hH := hHeld
                      (try dsimp only at hH)
                      (try dsimp only)
                      first | with_reducible exact grown_trans hH hgS | with_reducible exact grown_new hH hgS (fun g' e => by cases e; exact h7w) | with_reducible exact hH
                    clear hK K hHeld
                    have hHeld := hNew
                    clear hNew
                    (try simp only [Act.put, List.setIfInBounds_toArray, List.set_cons_zero, List.set_cons_succ])
                    refine wpAnyH_done (by kernel_rfl) ?_ _
                    refine NoPanic.normal ?_
                    clear hHeld hgS hV4 hV5 hV7 hbR hb7 hgg
                    generalize ((wy2.setCell _ _).setCell _ _).setCell _ _ = wF at *
                    have HN := hid (HVE.out HV7E.out)
                    clear HV7E
                    go_wp2_with fail
                    exact ⟨⟨i + e, m - e, o2 + e * 4, c2 - e, g5, p5, n5, c5, q5, m5, d5, by omega, by first | rfl | (simp; done) | (simp; omega), HGE, BRE, B7E, HPN, HN⟩, by simp [lnV]; omega⟩
                  refine AllReadyH.cons (o := Oper.mk _ _ _ _ _ _) rfl (fun K hK => ?_) AllReadyH.nil
                  (try rw [if_pos (by kernel_rfl)])
                  go_simp
                  go_at_call 150
                  (with_reducible refine (HPW.out _ hgg).mono ?_)
                  rintro e wy1 ⟨g4, p4, n4, c4, q4, m4, d4, rfl, hV4, -, -, hgS⟩
                  replace hgg := grown_trans hgg hgS
                  replace hbR := keepB hbR hgS
                  replace hb7 := keepB hb7 hgS
                  replace hV7 := hV7.keep hgS
                  refine hK.out _ _ ?_ (fun hNew => ?_)
                  · have hH := hHeld
                    (try dsimp only at hH)
                    (try dsimp only)
                    first | with_reducible exact grown_trans hH hgS | with_reducible exact grown_new hH hgS (fun g' e => by cases e; exact h7w) | with_reducible exact hH
                  clear hK K hHeld
                  have hHeld := hNew
                  clear hNew
                  (try simp only [Act.put, List.setIfInBounds_toArray, List.set_cons_zero, List.set_cons_succ])
                  clear hgS
                  refine wpAnyH_ready (rs := [0]) (by kernel_rfl) (by simp) ?_
                  refine AllReadyH.cons (o := Oper.mk _ _ _ _ _ _) rfl (fun K hK => ?_) AllReadyH.nil
                  (try rw [if_pos (by kernel_rfl)])
                  obtain ⟨z0, z1, z2⟩ := box3p hb7
                  go_simp
                  refine hK.out _ _ ?_ (fun hNew => ?_)
                  · have hH := hHeld
                    (try dsimp only at hH)
                    (try dsimp only)
                    first | with_reducible exact grown_trans hH hgS | with_reducible exact grown_new hH hgS (fun g' e => by cases e; exact h7w) | with_reducible exact hH
                  clear hK K hHeld
                  have hHeld := hNew
                  clear hNew
                  (try simp only [Act.put, List.setIfInBounds_toArray, List.set_cons_zero, List.set_cons_succ])
                  refine wpAnyH_ready (rs := [7]) (by kernel_rfl) (by simp) ?_
                  refine AllReadyH.cons (o := Oper.mk _ _ _ _ _ _) rfl (fun K hK => ?_) AllReadyH.nil
                  (try rw [if_pos (by kernel_rfl)])
                  go_simp
                  go_at_call 51
                  (with_reducible refine (HMLi.out _ hgg _ _ _ _ _ _ _ _ _ _ _ _ _ _ hV7 hV4).mono ?_)
                  rintro e wy2 ⟨g5, p5, n5, c5, q5, m5, d5, rfl, hV5, -, -, hgS⟩
                  replace hgg := grown_trans hgg hgS
                  replace hbR := keepB hbR hgS
                  replace hb7 := keepB hb7 hgS
                  replace hV7 := hV7.keep hgS
                  replace hV4 := hV4.keep hgS
                  refine hK.out _ _ ?_ (fun hNew => ?_)
                  · have hH := hHeld
                    (try dsimp only at hH)
                    (try dsimp only)
                    first | with_reducible exact grown_trans hH hgS | with_reducible exact grown_new hH hgS (fun g' e => by cases e; exact h7w) | with_reducible exact hH
                  clear hK K hHeld
                  have hHeld := hNew
                  clear hNew
                  (try simp only [Act.put, List.setIfInBounds_toArray, List.set_cons_zero, List.set_cons_succ])
                  clear hgS
                  refine wpAnyH_ready (rs := [8]) (by kernel_rfl) (by simp) ?_
                  refine AllReadyH.cons (o := Oper.mk _ _ _ _ _ _) rfl (fun K hK => ?_) AllReadyH.nil
                  (try rw [if_pos (by kernel_rfl)])
                  obtain ⟨z0, z1, z2⟩ := box3p hb7
                  have zf := fun o => frozen_of_row wy2 b7 o _ _ hb7
                  have f0 := zf 0
                  have f1 := zf 1
                  have f2 := zf 2
                  go_simp
                  have hgS := set3_grown wy2 b7 (.bool g5) (.slice p5 n5 c5) (.slice q5 m5 d5)
                  have B7E := hid (set3_block hb7 g5 p5 n5 c5 q5 m5 d5)
                  have HGE := hid (grown_new hgg hgS (fun g' e => by cases e; exact h7w))
                  have HV7E := hid (stay3 hV5 hb7 hgS)
                  have BRE := hid ((hgS.block br (lt_of_block hbR) (by simp; omega)).trans hbR)
                  clear z0 z1 z2 zf f0 f1 f2
                  refine hK.out _ _ ?_ (fun hNew => ?_)
                  · have hH := hHeld
                    (try dsimp only at hH)
                    (try dsimp only)
                    first | with_reducible exact grown_trans hH hgS | with_reducible exact grown_new hH hgS (fun g' e => by cases e; exact h7w) | with_reducible exact hH
                  clear hK K hHeld
                  have hHeld := hNew
                  clear hNew
                  (try simp only [Act.put, List.setIfInBounds_toArray, List.set_cons_zero, List.set_cons_succ])
                  refine wpAnyH_done (by kernel_rfl) ?_ _
                  refine NoPanic.normal ?_
                  clear hHeld hgS hV4 hV5 hV7 hbR hb7 hgg
                  generalize ((wy2.setCell _ _).setCell _ _).setCell _ _ = wF at *
                  have HN := hid (HVE.out HV7E.out)
                  clear HV7E
                  go_wp2_with fail
                  exact ⟨⟨i + e, m - e, o2 + e * 4, c2 - e, g5, p5, n5, c5, q5, m5, d5, by omega, by first | rfl | (simp; done) | (simp; omega), HGE, BRE, B7E, HPN, HN⟩, by simp [lnV]; omega⟩
end Go.Proofs.YtknmdmofmcfjhaaGreatDoor

set_option linter.unusedVariables false
set_option linter.unusedSimpArgs false
namespace Go.Proofs.YtknmdmofmcfjhaaGreatDoor
open Go Go.RowKit _root_.Nm
theorem mv_const {V : List Rat} {xs : List Int} {a : Nat} (h : xs.length ≤ a) : mv V xs a = mv V xs xs.length := by
  obtain ⟨d, rfl⟩ : ∃ d, a = xs.length + d := ⟨a - xs.length, by omega⟩
  clear h
  induction d with
  | zero => rfl
  | succ d ih =>
    show mv V xs (xs.length + d) * _ ^ (ex xs (xs.length + d)).toNat = _
    rw [ex_ge (by omega), ih, show (0 : Int).toNat = 0 from rfl, Rat.pow_zero, Rat.mul_one]
theorem sumV_sm {V : List Rat} {P : List Tm} {N : Nat} (h1 : ∀ t ∈ P, t.1.length ≤ N) (h2 : N ≤ V.length) : sumV V N P = sm V P P.length := by
  rw [sm_sumV P.length (Nat.le_refl _) (fun t ht => Nat.le_trans (h1 t ht) h2), List.take_length]
  exact sumV_congr fun t ht => by rw [mv_const (h1 t ht), mv_const (Nat.le_trans (h1 t ht) h2)]
set_option maxHeartbeats 4000000 in
set_option maxRecDepth 100000 in
theorem few1_v {w : World} {g : Nat} {T : TypeId} {p : Option Addr} {n c : Nat} (h : w.heap[g]? = some (.cells #[.slice p n c] T (0, 0))) {b1 : Bool}
    (B1 : ∀ W, w.grownBy W none → Calls Tryz.prog 33 #[.slice p n c, .int .i64 8, .int .i64 5, .int .i64 8] W fun e w' => e = .returned (.bool b1) ∧ W.grownBy w' none) :
    Calls Tryz.prog 18 #[.slice (some ⟨g, 0, none⟩) 1 1] w fun e w' => e = .returned (.bool b1) ∧ w.grownBy w' none := by
  have HB := hid h
  have C1 := hid B1
  clear h B1
  go_enter Tryz.func18, Tryz.ntmps18
  go_wp2_with fail
  go_loopw [3] (fun x wr => ∃ (i : Nat), i ≤ 1 ∧ x = .int .i64 i ∧ Hid (w.grownBy wr none) ∧ Hid (1 ≤ i → b1 = true)) (fun x _ => 1 - (intOf x).toNat)
  case atStart => exact ⟨0, by omega, rfl, hid (grown_refl _ _), hid fun h => by omega⟩
  case round =>
    obtain ⟨i, hi, rfl, HG, HS⟩ := hrel
    have k0 : wr.cell? ⟨g, 0, none⟩ = some (.slice p n c) := cell_of_row wr g 0 _ _ _ (keepB HB.out HG.out)
    obtain rfl | rfl : i = 0 ∨ i = 1 := by omega
    · cases b1
      · go_wp2_with (go_at_call 33; (with_reducible refine (C1.out _ HG.out).mono ?_); rintro e w1 ⟨rfl, hg⟩; replace HG := hid (grown_trans HG.out hg); clear hg)
        go_ret
        exact ⟨rfl, HG.out⟩
      · go_wp2_with (go_at_call 33; (with_reducible refine (C1.out _ HG.out).mono ?_); rintro e w1 ⟨rfl, hg⟩; replace HG := hid (grown_trans HG.out hg); clear hg)
        exact ⟨⟨1, by omega, by go_num, HG, hid fun _ => by first | rfl | trivial⟩, by simp [intOf]⟩
    · obtain rfl := HS.out (by omega)
      go_wp2_with fail
      go_ret
      exact ⟨rfl, HG.out⟩
set_option maxHeartbeats 16000000 in
set_option maxRecDepth 100000 in
theorem rEvalE_v {w : World} {p : Option Addr} {n c : Nat} {P : List Tm} (hP : IsP w p n c P) {pv : Option Addr} {nv cv : Nat} (hcv : nv ≤ cv) (hmv : cv ≤ 9223372036854775807) (hbad : ¬ ∀ t ∈ P, t.1.length ≤ nv) :
    Calls Tryz.prog 46 #[.slice p n c, .slice pv nv cv] w fun e w' => e = .returned (.tuple #[.agg #[.bool false, .slice none 0 0, .slice none 0 0], .int .i64 2]) ∧ w.grownBy w' none := by
  have hl := hP.len; have hc := hP.cap; have hmx := hP.max
  have HP := hid hP; have HL := hid hl; have HBAD := hid hbad
  have HO := hid fun W : World => rOf3_v (w := W) 0 (by omega) (by omega)
  unfold VPost at HO
  clear hP hl hbad
  have gA := World.grownBy_alloc w (.cells #[.bool false, .slice none 0 0, .slice none 0 0] 29 (0, 0)) none
  have HG := hid gA
  have B4 := hid (blk0 w (.cells #[.bool false, .slice none 0 0, .slice none 0 0] 29 (0, 0)))
  clear gA
  go_enter Tryz.func46, Tryz.ntmps46
  go_upto_region 1 with fail
  obtain ⟨b4, hb4⟩ : ∃ x, x = w.heap.size := ⟨_, rfl⟩
  have h4w : w.heap.size ≤ b4 := by omega
  rw [← hb4] at B4 ⊢
  clear hb4
  generalize w.alloc _ = w0 at *
  go_upto_region 2 with (go_at_call 55; (with_reducible refine (HO.out _).mono ?_); rintro e w1 ⟨g6, p6, n6, c6, q6, m6, d6, rfl, hV6, -, -, hg⟩; replace HG := hid (grown_trans HG.out hg); replace B4 := hid (keepB B4.out hg); clear hV6 hg; have gB := World.grownBy_alloc w1 (.cells #[.bool g6, .slice p6 n6 c6, .slice q6 m6 d6] 29 (0, 0)) none; have BB := hid (blk0 w1 (.cells #[.bool g6, .slice p6 n6 c6, .slice q6 m6 d6] 29 (0, 0))); obtain ⟨i0, i1, i2⟩ := box3p (blk0 w1 (.cells #[.bool false, .slice none 0 0, .slice none 0 0] 29 (0, 0))); have fa := fun o => frozen_of_row (w1.alloc (.cells #[.bool false, .slice none 0 0, .slice none 0 0] 29 (0, 0))) w1.heap.size o _ _ (blk0 w1 (.cells #[.bool false, .slice none 0 0, .slice none 0 0] 29 (0, 0))); have f0 := fa 0; have f1 := fa 1; have f2 := fa 2; clear fa)
  clear i0 i1 i2 f0 f1 f2
  replace HG := hid (grown_trans HG.out gB); replace B4 := hid (keepB B4.out gB)
  clear BB
  generalize w1.alloc _ = w1b at *
  clear gB
  go_upto_region 3 with fail
  go_loop [7] (fun i => ∃ k : Nat, k ≤ n ∧ i = .int .i64 k ∧ Hid (∀ j (hj : j < P.length), j < k → P[j].1.length ≤ nv)) (fun i => n - (intOf i).toNat)
  case atStart => exact ⟨0, Nat.zero_le _, rfl, hid fun j hj h => by omega⟩
  case round =>
    obtain ⟨i, hi, rfl, HS⟩ := hrel
    by_cases hlt : i < n
    · have hil : i < P.length := by have := HL.out; omega
      obtain ⟨b, o, g1, p1, n1, c1, q1, m1, d1, a1, k1, e1, rfl, ⟨x0, x1, x2, x3⟩, hVx, hX⟩ := ((HP.out.keep HG.out).tms i hil).out
      have hkl := hid hX.len
      have hkc := hX.cap; have hkm := hX.max
      clear hVx hX x0 x1 x2
      by_cases hb : nv < k1
      · have HBE := hid (set3_block B4.out false none 0 0 none 0 0)
        have HGE := hid (grown_new HG.out (set3_grown w1b b4 (.bool false) (.slice none 0 0) (.slice none 0 0)) (fun g' e => by cases e; exact h4w))
        obtain ⟨z0, z1, z2⟩ := box3p B4.out
        have fa := fun o => frozen_of_row w1b b4 o _ _ B4.out
        have f0 := fa 0; have f1 := fa 1; have f2 := fa 2
        clear fa
        go_wp2_with fail
        clear z0 z1 z2 f0 f1 f2
        generalize ((w1b.setCell _ _).setCell _ _).setCell _ _ = wE at *
        obtain ⟨l0, l1, l2⟩ := box3p HBE.out
        exact bodyPost_ret (v := .tuple #[.agg #[.bool false, .slice none 0 0, .slice none 0 0], .int .i64 2]) (by simp [results, Tryz.results46, go_sem, l0, l1, l2]) rfl ⟨rfl, HGE.out⟩
      · go_wp2_with fail
        exact ⟨⟨i + 1, by omega, by go_num, hid fun j hj hji => by
          by_cases hje : j = i
          · subst hje; have := hkl.out; omega
          · exact HS.out j hj (by omega)⟩, by simp [intOf]; omega⟩
    · exfalso
      exact HBAD.out fun t ht => by
        obtain ⟨j, hj, rfl⟩ := List.getElem_of_mem ht
        exact HS.out j hj (by have := HL.out; omega)
set_option maxHeartbeats 16000000 in
set_option maxRecDepth 100000 in
theorem evalE_v {w : World} {p : Option Addr} {n c : Nat} {P : List Tm} (hP : IsP w p n c P) (eP : ExP 8 P) {pv : Option Addr} {nv cv : Nat} (hcv : nv ≤ cv) (hmv : cv ≤ 9223372036854775807) (hbad : ¬ ∀ t ∈ P, t.1.length ≤ nv) :
    Calls Tryz.prog 45 #[.slice p n c, .slice pv nv cv] w fun e w' => e = .returned (.tuple #[.agg #[.bool false, .slice none 0 0, .slice none 0 0], .int .i64 2]) ∧ w.grownBy w' none := by
  have HMV := hid fun W (hg : w.grownBy W none) => mainVar_v (hP.keep hg) (eP.mono (by omega))
  obtain ⟨N, hN, hN64, hNl⟩ := main_nat (eP.mono (show (8 : Int) ≤ 1048576 by omega))
  have hbig : nv < N := by
    rcases Nat.lt_or_ge nv N with h | h
    · exact h
    · exact absurd (fun t ht => Nat.le_trans (hNl t ht) h) hbad
  rw [show mxF (fun xs => (xs.length : Int) - 1) (-1) P = (N : Int) - 1 by omega] at HMV
  clear hP eP hbad hN hNl
  have gA := World.grownBy_alloc w (.cells #[.bool false, .slice none 0 0, .slice none 0 0] 29 (0, 0)) none
  have HG := hid gA
  have B4 := hid (blk0 w (.cells #[.bool false, .slice none 0 0, .slice none 0 0] 29 (0, 0)))
  clear gA
  go_enter Tryz.func45, Tryz.ntmps45
  go_upto_region 1 with fail
  obtain ⟨b4, hb4⟩ : ∃ x, x = w.heap.size := ⟨_, rfl⟩
  have h4w : w.heap.size ≤ b4 := by omega
  rw [← hb4] at B4 ⊢
  clear hb4
  generalize w.alloc _ = w0 at *
  go_upto_region 3 with (go_at_call 95; (with_reducible refine (HMV.out _ HG.out).mono ?_); rintro e w1 ⟨rfl, hg⟩; replace HG := hid (grown_trans HG.out hg); replace B4 := hid (keepB B4.out hg); clear hg)
  have HBE := hid (set3_block B4.out false none 0 0 none 0 0)
  have HGE := hid (grown_new HG.out (set3_grown w1 b4 (.bool false) (.slice none 0 0) (.slice none 0 0)) (fun g' e => by cases e; exact h4w))
  obtain ⟨z0, z1, z2⟩ := box3p B4.out
  have fa := fun o => frozen_of_row w1 b4 o _ _ B4.out
  have f0 := fa 0; have f1 := fa 1; have f2 := fa 2
  clear fa
  go_wp2_with fail
  clear z0 z1 z2 f0 f1 f2
  generalize ((w1.setCell _ _).setCell _ _).setCell _ _ = wE at *
  obtain ⟨l0, l1, l2⟩ := box3p HBE.out
  exact bodyPost_ret (v := .tuple #[.agg #[.bool false, .slice none 0 0, .slice none 0 0], .int .i64 2]) (by simp [results, Tryz.results45, go_sem, l0, l1, l2]) rfl ⟨rfl, HGE.out⟩
set_option maxHeartbeats 16000000 in
set_option maxRecDepth 100000 in
theorem eval6_v {w : World} (T : Tb w) {p : Option Addr} {n c : Nat} {P : List Tm} (hP : IsP w p n c P) (nP : NF P) (bP : BdP 4 P) (eP : ExP 8 P) (hl5 : ∀ t ∈ P, t.1.length ≤ 5) (hn8 : n ≤ 8) {pv : Option Addr} {nv cv : Nat} {V : List Rat} (hV : IsRs w pv nv cv V) (bV : ∀ v ∈ V, Bd 2 v) (hok : ∀ t ∈ P, t.1.length ≤ nv) :
    Calls Tryz.prog 45 #[.slice p n c, .slice pv nv cv] w fun e w' => ∃ g1 p1 n1 c1 q1 m1 d1, e = .returned (.tuple #[.agg #[.bool g1, .slice p1 n1 c1, .slice q1 m1 d1], .int .i64 0]) ∧ IsV w' g1 p1 n1 c1 q1 m1 d1 (sm V P n) ∧ w.grownBy w' none := by
  have HMV := hid fun W (hg : w.grownBy W none) => mainVar_v (hP.keep hg) (eP.mono (by omega))
  obtain ⟨N, hN, hN64, hNl⟩ := main_nat (eP.mono (show (8 : Int) ≤ 1048576 by omega))
  have hNv : N ≤ nv := by
    have := mxF_le (f := fun xs => (xs.length : Int) - 1) (B := (nv : Int) - 1) (P := P) (d := -1) (by omega) (fun t ht => by have := hok t ht; show (t.1.length : Int) - 1 ≤ _; omega)
    omega
  have hN5 : N ≤ 5 := by
    have := mxF_le (f := fun xs => (xs.length : Int) - 1) (B := 4) (P := P) (d := -1) (by omega) (fun t ht => by have := hl5 t ht; show (t.1.length : Int) - 1 ≤ _; omega)
    omega
  rw [show mxF (fun xs => (xs.length : Int) - 1) (-1) P = (N : Int) - 1 by omega] at HMV
  have hl := hP.len; have hc := hP.cap; have hmx := hP.max; have hcv := hV.cap; have hmv := hV.max
  have hsum : sumV V N P = sm V P n := by rw [sumV_sm hNl (by rw [hV.len]; exact hNv), hl]
  obtain ⟨z, hz⟩ : ∃ z, z = sm V P n := ⟨_, rfl⟩
  rw [← hz] at hsum ⊢
  by_cases hn0 : n = 0
  · have hz0 : z = 0 := by rw [hz, hn0]; rfl
    have HZ := hid hz0
    subst hn0
    have HO := hid fun W : World => ratOf_v 0 W (by omega) (by omega)
    rw [show ((0 : Int) : Rat) = 0 from rfl] at HO
    unfold VPost at HO
    clear T hP nP bP eP hl5 hV bV hok hN hNl hsum hz hz0 hl
    have gA := World.grownBy_alloc w (.cells #[.bool false, .slice none 0 0, .slice none 0 0] 29 (0, 0)) none
    have HG := hid gA
    have B4 := hid (blk0 w (.cells #[.bool false, .slice none 0 0, .slice none 0 0] 29 (0, 0)))
    clear gA
    go_enter Tryz.func45, Tryz.ntmps45
    go_upto_region 1 with fail
    obtain ⟨b4, hb4⟩ : ∃ x, x = w.heap.size := ⟨_, rfl⟩
    have h4w : w.heap.size ≤ b4 := by omega
    rw [← hb4] at B4 ⊢
    clear hb4
    generalize w.alloc _ = w0 at *
    go_wp2_with (first | (go_at_call 95; (with_reducible refine (HMV.out _ HG.out).mono ?_); rintro e w1 ⟨rfl, hg⟩; replace HG := hid (grown_trans HG.out hg); replace B4 := hid (keepB B4.out hg); clear hg) | (go_at_call 91; (with_reducible refine (HO.out _).mono ?_); rintro e w2 ⟨g2, p2, n2, c2, q2, m2, d2, rfl, hV2, -, -, hg⟩; have hbb := keepB B4.out hg; obtain ⟨z0, z1, z2⟩ := box3p hbb; have fa := fun o => frozen_of_row w2 b4 o _ _ hbb; have f0 := fa 0; have f1 := fa 1; have f2 := fa 2; have HQ := hid (QPost.close hbb h4w (grown_trans HG.out hg) hV2); have HBE := hid (set3_block hbb g2 p2 n2 c2 q2 m2 d2); clear fa hbb hV2 hg))
    clear z0 z1 z2 f0 f1 f2
    generalize ((w2.setCell _ _).setCell _ _).setCell _ _ = wE at *
    obtain ⟨l0, l1, l2⟩ := box3p HBE.out
    obtain ⟨g, p, n', c, q, m, d, he, hVq, hgq⟩ := HQ.out
    cases he
    exact bodyPost_ret (v := .tuple #[.agg #[.bool g2, .slice p2 n2 c2, .slice q2 m2 d2], .int .i64 0]) (by simp [results, Tryz.results45, go_sem, l0, l1, l2]) rfl ⟨_, _, _, _, _, _, _, rfl, by rw [HZ.out]; exact hVq, hgq⟩
  · have hnp : 0 < n := by omega
    obtain ⟨b, o, cs, rfl, -, -⟩ := hP.tms 0 (by omega)
    have HHO := hid fun W (hg : w.grownBy W none) => horner_v N W (T.keep hg) b o n c P (hP.keep hg) hnp hn8 ⟨nP.desc, fun s hs t ht j hj => by rw [ex_ge (Nat.le_trans (hNl s hs) hj), ex_ge (Nat.le_trans (hNl t ht) hj)]⟩ bP eP pv nv cv V (hV.keep hg) bV hNv (by omega)
    rw [hsum] at HHO
    unfold QPost at HHO
    clear T hP nP bP eP hl5 hV bV hok hN hNl hsum hz hl
    have gA := World.grownBy_alloc w (.cells #[.bool false, .slice none 0 0, .slice none 0 0] 29 (0, 0)) none
    have HG := hid gA
    have B4 := hid (blk0 w (.cells #[.bool false, .slice none 0 0, .slice none 0 0] 29 (0, 0)))
    clear gA
    go_enter Tryz.func45, Tryz.ntmps45
    go_upto_region 1 with fail
    obtain ⟨b4, hb4⟩ : ∃ x, x = w.heap.size := ⟨_, rfl⟩
    have h4w : w.heap.size ≤ b4 := by omega
    rw [← hb4] at B4 ⊢
    clear hb4
    generalize w.alloc _ = w0 at *
    go_wp2_with (first | (go_at_call 95; (with_reducible refine (HMV.out _ HG.out).mono ?_); rintro e w1 ⟨rfl, hg⟩; replace HG := hid (grown_trans HG.out hg); replace B4 := hid (keepB B4.out hg); clear hg) | (go_at_call 103; (with_reducible refine (HHO.out _ HG.out).mono ?_); rintro e w2 ⟨g2, p2, n2, c2, q2, m2, d2, rfl, hV2, hg⟩; have hbb := keepB B4.out hg; obtain ⟨z0, z1, z2⟩ := box3p hbb; have fa := fun o => frozen_of_row w2 b4 o _ _ hbb; have f0 := fa 0; have f1 := fa 1; have f2 := fa 2; have HQ := hid (QPost.close hbb h4w (grown_trans HG.out hg) hV2); have HBE := hid (set3_block hbb g2 p2 n2 c2 q2 m2 d2); clear fa hbb hV2 hg))
    clear z0 z1 z2 f0 f1 f2
    generalize ((w2.setCell _ _).setCell _ _).setCell _ _ = wE at *
    obtain ⟨l0, l1, l2⟩ := box3p HBE.out
    obtain ⟨g, p, n', c, q, m, d, he, hVq, hgq⟩ := HQ.out
    cases he
    exact bodyPost_ret (v := .tuple #[.agg #[.bool g2, .slice p2 n2 c2, .slice q2 m2 d2], .int .i64 0]) (by simp [results, Tryz.results45, go_sem, l0, l1, l2]) rfl ⟨_, _, _, _, _, _, _, rfl, hVq, hgq⟩
end Go.Proofs.YtknmdmofmcfjhaaGreatDoor
