/-
  Contract of natural.wordsGcd: the greatest common divisor of two numbers of words, by Lehmer's steps.
-/
import Derived.Test.YtdgcmbpmjcfhpaaGreatDoorWgA
set_option linter.unusedVariables false
set_option linter.unusedSimpArgs false
namespace Go.Proofs.YtdgcmbpmjcfhpaaGreatDoor
open Go.RowKit Nm

theorem infoW : (Tryz.prog.info? 53).map (fun i => (i.zero, i.size, i.bytes)) = some (some (.int .u64 0), 1, 8) := by kernel_rfl
/-- what wordsGcd returns: words of the number G -/
def WG (w : World) (gx G : Nat) (e : Ending) (w' : World) : Prop := ∃ p n c zs, e = .returned (.slice p n c) ∧ IRd w' .u64 p n c zs ∧ n ≤ 900000 ∧ Hid (Dg W64 zs ∧ V W64 zs = G) ∧ w.grownBy w' (some gx)

set_option maxRecDepth 100000 in
set_option maxHeartbeats 4000000 in
theorem wordsGcd_any (gx N M Mc : Nat) (bp : Option Addr) (us vs : List Nat) (w : World) (hT : Tb w) (hgT : gx ≠ 0) (hx : IRow w gx 53 .u64 us) (hu : us.length = N) (hy : IRd w .u64 bp M Mc vs) (hM : M ≤ N) (hN : N ≤ 250000)
    (hdu : Dg W64 us) (hdv : Dg W64 vs) (hle : V W64 vs ≤ V W64 us) :
    Calls Tryz.prog 95 #[.slice (some ⟨gx, 0, none⟩) N N, .slice bp M Mc] w (WG w gx (Nat.gcd (V W64 us) (V W64 vs))) := by
  have hmk := run_make_words (P := Tryz.prog) 88 53 Tryz.underlying88 infoW N (by omega)
  go_enter Tryz.func95, Tryz.ntmps95
  go_upto_region 1 with fail
  go_cut [5, 6] from 14 to 17 (fun x y wc => x = .slice (some ⟨gx, 0, none⟩) N N ∧ y = .slice (some ⟨w.heap.size, 0, none⟩) N N ∧ IRow wc w.heap.size 53 .u64 (List.replicate N 0) ∧ w.grownBy wc none)
  case first =>
    go_region
    all_goals
      go_wp2_with fail
      go_meet
      exact ⟨rfl, rfl, IRow.rep w _ N, grown_trans (World.grownBy_alloc w _ none) (grown_drew _ none)⟩
  case rest =>
    obtain ⟨rfl, rfl, hr1, hg1⟩ := hcut
    obtain ⟨g1, hg1e⟩ : ∃ g, g = w.heap.size := ⟨_, rfl⟩
    rw [← hg1e] at hr1 ⊢
    have HG1 := hid hg1e
    clear hg1e
    go_upto_region 3 with (refine wl_copy _ rfl (.tmp 18) (.tmp 19) 88 88 rfl 53 Tryz.underlying88 (by kernel_rfl) .u64 _ _ _ _ _ _ rfl rfl g1 0 53 (List.replicate N 0) vs hr1 (fun _ => rfl) (hy.keep hg1) (by simp) ?_; intro w2 hr2 hg2)
    have hw2 : w.grownBy w2 none := grown_new hg1 hg2 (fun g e => by cases e; rw [HG1.out]; exact Nat.le_refl _)
    go_simp
    go_cut [7, 8] from 21 to 26 (fun x y wc => ∃ g2 g3 : Nat, x = .slice (some ⟨g2, 0, none⟩) N N ∧ y = .slice (some ⟨g3, 0, none⟩) N N ∧ IRow wc g2 53 .u64 (List.replicate N 0) ∧ IRow wc g3 53 .u64 (List.replicate N 0) ∧ g2 ≠ g3 ∧ w2.heap.size ≤ g2 ∧ w2.heap.size ≤ g3 ∧ w2.grownBy wc none)
    case first =>
      go_region
      all_goals
        go_wp2_with fail
        go_meet
        have hx2 := rep2 w2 53 N
        first
          | exact ⟨_, _, rfl, rfl, hx2.1, hx2.2.1, by omega, by omega, by omega, hx2.2.2⟩
          | exact ⟨_, _, rfl, rfl, hx2.2.1, hx2.1, by omega, by omega, by omega, hx2.2.2⟩
    case rest =>
      obtain ⟨g2, g3, rfl, rfl, hr3, hr4, h23, h2, h3, hg3⟩ := hcut
      have hsp : splice (List.replicate N 0) 0 (vs.take N) = vs ++ List.replicate (N - M) 0 := by
        have := hy.len
        rw [List.take_of_length_le (by omega)]
        simp [splice, this]
      rw [hsp] at hr2
      have hgxw := hx.lt
      have hy0 : V W64 ((vs ++ List.replicate (N - M) 0).take N) = V W64 vs := by
        have := hy.len
        rw [List.take_of_length_le (by simp; omega), V_append, V_zeros]; simp
      have hx0 : V W64 (us.take N) = V W64 us := by rw [List.take_of_length_le (by omega)]
      have hz0 : Dg W64 (List.replicate N 0) := Dg.zeros W64_pos N
      have H0 : G4 w wc gx N (Nat.gcd (V W64 us) (V W64 vs)) N gx g1 g2 g3 us (vs ++ List.replicate (N - M) 0) (List.replicate N 0) (List.replicate N 0) :=
        { rx := hx.kept (grown_trans hw2 hg3) (by simp), ry := hr2.kept hg3 (by simp), rz := hr3, rv := hr4, lx := hu, ly := by have := hy.len; simp; omega, lr := by simp, ls := by simp,
          dx := hdu, dy := hdv.append (Dg.zeros W64_pos _), dr := hz0, ds := hz0, pq := by have := HG1.out; omega, pr := by have := hw2.size; omega, ps := by have := hw2.size; omega, qr := by have := hr2.lt; omega, qs := by have := hr2.lt; omega, rs' := h23,
          op := .inl rfl, oq := .inr (by rw [HG1.out]; exact Nat.le_refl _), or' := .inr (by have := hw2.size; omega), os := .inr (by have := hw2.size; omega), grow := grown_any (grown_trans hw2 hg3) _, nN := Nat.le_refl _,
          le := by rw [hx0, hy0]; exact hle, gcd := by rw [hx0, hy0] }
      have HH0 := hid H0
      generalize Nat.gcd (V W64 us) (V W64 vs) = G at *
      clear H0 hmk hsp hy0 hx0 hz0 hr1 hg1 hr2 hg2 hw2 hr3 hr4 h23 h2 h3 hg3 HG1 hy hx hu hdu hdv hle hM hgxw
      generalize vs ++ List.replicate (N - M) 0 = vs2 at *
      go_wp2_with fail
      go_loopg [5, 6, 7, 8] (V W64 (us.take N) + V W64 (vs2.take N)) (fun k x y z v wr => ∃ (n p q r s : Nat) (xs ys rs ss : List Nat), x = .slice (some ⟨p, 0, none⟩) n N ∧ y = .slice (some ⟨q, 0, none⟩) n N ∧ z = .slice (some ⟨r, 0, none⟩) n N ∧ v = .slice (some ⟨s, 0, none⟩) n N ∧
        Hid (G4 w wr gx N G n p q r s xs ys rs ss ∧ k = V W64 (xs.take n) + V W64 (ys.take n)))
      case atStart => exact ⟨N, gx, g1, g2, g3, us, vs2, _, _, rfl, rfl, rfl, rfl, hid ⟨HH0.out, rfl⟩⟩
      case round =>
        clear HH0
        obtain ⟨n, p, q, r, s, xs, ys, rs, ss, rfl, rfl, rfl, rfl, HR⟩ := hrel
        have hnN : n ≤ N := HR.out.1.nN
        have T1 := hid (trim64 (some ⟨p, 0, none⟩) n N (xs.take n) wr (IRow.rdn HR.out.1.rx n N (by rw [HR.out.1.lx]; exact hnN) hnN (by omega)))
        obtain ⟨hc1, hc2, hc3⟩ := HR.out.1.cut
        have hk : gk = V W64 (xs.take (trimR (xs.take n)).length) + V W64 (ys.take (trimR (xs.take n)).length) := by rw [hc2, hc3]; exact HR.out.2
        have hcan := Can_trimR (HR.out.1.dx.take n)
        rw [trim_take] at hcan
        generalize (trimR (xs.take n)).length = nn at *
        have H1 := hid hc1
        have HK := hid hk
        have HCAN := hid hcan
        have hnn : nn ≤ N := hc1.nN
        have hn0 : (0 : Int) ≤ (nn : Int) := by omega
        have hn1 : (nn : Int) ≤ (N : Int) := by omega
        clear hc1 hc2 hc3 hk hcan HR
        go_upto_region 5 with (go_at_call 109; (with_reducible refine (T1.out).mono ?_); rintro e w' ⟨rfl, rfl⟩)
        go_quiet (fail)
        have H2 := hid (H1.out.keep (grown_drewN wr nq none))
        clear H1 T1
        generalize wr.drewN nq = wz at *
        have T2 := hid (trim64 (some ⟨q, 0, none⟩) nn N (ys.take nn) wz (IRow.rdn H2.out.ry nn N (by rw [H2.out.ly]; exact hnn) hnn (by omega)))
        have hyv : V W64 (ys.take (trimR (ys.take nn)).length) = V W64 (ys.take nn) := by rw [← trim_take, V_trimR]
        have hcan := Can_trimR (H2.out.dy.take nn)
        rw [trim_take] at hcan
        have hmn : (trimR (ys.take nn)).length ≤ nn := by
          have := trimR_length_le (ys.take nn)
          have h2 : (ys.take nn).length ≤ nn := by rw [List.length_take]; omega
          omega
        generalize (trimR (ys.take nn)).length = m at *
        have HY := hid hyv
        have HCY := hid hcan
        clear hyv hcan
        rcases Nat.eq_zero_or_pos m with hm0 | hm0
        · subst hm0
          have hfin : V W64 (xs.take nn) = G := by
            have := H2.out.gcd
            rw [← HY.out] at this
            simpa using this
          have HF := hid hfin
          clear hfin
          go_wp2_with (go_at_call 109; (with_reducible refine (T2.out).mono ?_); rintro e w' ⟨rfl, rfl⟩)
          go_ret
          exact ⟨_, nn, N, xs.take nn, rfl, IRow.rdn H2.out.rx nn N (by rw [H2.out.lx]; exact hnn) hnn (by omega), by omega, hid ⟨H2.out.dx.take nn, HF.out⟩, H2.out.grow⟩
        rcases Nat.lt_or_ge 1 m with hm1 | hm1
        rotate_left
        · obtain rfl : m = 1 := by omega
          have hyl : 0 < ys.length := by rw [H2.out.ly]; omega
          have hcell := H2.out.ry.cell 0 hyl
          have hd : ys[0] < W64 := H2.out.dy.get 0 hyl
          have hvy : V W64 (ys.take 1) = ys[0] := by
            have := V_take_succ (B := W64) ys 0 hyl
            simpa using this
          have hd0 : 0 < ys[0] := by
            refine Nat.pos_of_ne_zero fun e => HCY.out.2 ?_
            rw [List.take_succ_eq_append_getElem hyl, e]; simp
          generalize ys[0] = d at *
          have D1 := divW_any p nn N xs d wz.drew H2.out.rx.drew (by rw [H2.out.lx]; exact hnn) hnn (by omega) (by rw [H2.out.lx]; omega) H2.out.dx hd0 hd
          have hx5 : V W64 (xs.take nn) % d < d := Nat.mod_lt _ hd0
          have hgg : Nat.gcd d (V W64 (xs.take nn) % d) = G := by
            rw [Nat.gcd_comm, ← Nat.gcd_rec, Nat.gcd_comm, ← hvy, HY.out]; exact H2.out.gcd
          have hGd : G ≤ d := by rw [← hgg]; exact Nat.gcd_le_left _ hd0
          generalize V W64 (xs.take nn) % d = x5 at *
          have hx5W : x5 < W64 := Nat.lt_trans hx5 hd
          have D2 : ∀ w5, wz.drew.grownBy w5 (some p) → Calls Tryz.prog 90 #[.int .u64 d, .int .u64 x5] w5 fun e w' => e = .returned (.int .u64 G) ∧ w5 = w' := fun w5 hg5 => by
            have := wordGcd_any d x5 hd hx5W w5 (tb_kept hT (grown_sub (grown_none H2.out.grow (grown_drew _ none)) hg5 H2.out.op) hgT)
            rwa [hgg] at this
          have HD1 := hid D1
          have HD2 := hid D2
          have HGW : Hid (G < W64) := hid (by omega)
          have HPQ := hid H2.out.pq
          have hcd : wz.drew.cell? ⟨q, 0, none⟩ = some (.int .u64 d) := hcell
          clear D1 D2 hx5 hgg hGd hx5W hvy hyl hd hd0 HY HCY
          go_upto_region 11 with (go_at_call 109; (with_reducible refine (T2.out).mono ?_); rintro e w' ⟨rfl, rfl⟩)
          go_region_held3 (fun w' => w'.cell? ⟨q, 0, none⟩ = some (.int .u64 d)) (first | assumption | (exact hg5.cell hcd (by simp; exact fun e => HPQ.out e.symm)) | (refine (World.grownBy_alloc _ _ none).cell ?_ (by simp); exact hg5.cell hcd (by simp; exact fun e => HPQ.out e.symm)))
            (first
              | (go_at_call 92; (with_reducible refine (HD1.out).mono ?_); rintro e w5 ⟨cur5, rfl, hr5, hg5, HC5⟩)
              | (go_at_call 90; (with_reducible refine (HD2.out _ hg5).mono ?_); rintro e w' ⟨rfl, rfl⟩))
          go_wp2
          go_ret
          exact ⟨_, 1, 1, [G], rfl, one_rd w5 _ _ _ G rfl, by omega, hid ⟨Dg.cons HGW.out Dg.nil, by simp⟩, grown_none (grown_sub (grown_none H2.out.grow (grown_drew _ none)) hg5 H2.out.op) (World.grownBy_alloc _ _ _)⟩
        · obtain ⟨mm, rfl⟩ : ∃ mm, m = mm + 2 := ⟨m - 2, by omega⟩
          obtain ⟨k, rfl⟩ : ∃ k, nn = k + 2 := ⟨nn - 2, by omega⟩
          have hxr := IRow.rdn H2.out.rx (k + 2) N (by rw [H2.out.lx]; exact hnn) hnn (by omega)
          have hyr := IRow.rdn H2.out.ry (k + 2) N (by rw [H2.out.ly]; exact hnn) hnn (by omega)
          have htop : ∀ t, (xs.take (k + 2))[k + 1]? = some t → 0 < t := fun t ht => by
            refine Nat.pos_of_ne_zero fun e => HCAN.out.2 ?_
            rw [List.getLast?_eq_getElem?, hxr.len, ← e]; exact ht
          have L1 := hid (leading_any (some ⟨p, 0, none⟩) (some ⟨q, 0, none⟩) k N N (xs.take (k + 2)) (ys.take (k + 2)) wz hxr hyr (H2.out.dx.take _) (H2.out.dy.take _) (by omega) htop H2.out.le)
          have HXR := hid hxr
          have HYR := hid hyr
          clear hxr hyr htop
          have c0 : (((mm : Int) + 2) == 0) = false := by simp; omega
          have c1 : (((mm : Int) + 2) == 1) = false := by simp; omega
          go_upto_region 13 with (first
            | (go_at_call 109; (with_reducible refine (T2.out).mono ?_); rintro e w' ⟨rfl, rfl⟩)
            | (go_at_call 111; (with_reducible refine (L1.out).mono ?_); rintro e w' ⟨A, C, rfl, hA, hC, HLD, nq, rfl⟩)
            | (go_at_call 110; (with_reducible refine (euclid_any A C hA hC _).mono ?_); rintro e w3 ⟨x0, y0, x1, y1, t, rfl, b0, b1, b2, b3, ht, HE, hg3⟩))
          have hb : Rst (w3.alloc (.cells #[.int .u64 x0, .int .u64 y0, .int .u64 x1, .int .u64 y1, .int .i64 t] 108)) w3.heap.size x0 y0 x1 y1 t := heap_alloc_new w3 _
          have H3 := hid (((H2.out.keep (grown_drewN wz nq none)).keep hg3).keep (World.grownBy_alloc w3 (.cells #[.int .u64 x0, .int .u64 y0, .int .u64 x1, .int .u64 y1, .int .i64 t] 108) none))
          clear H2 L1 T2 HXR HYR hg3
          generalize hwb : w3.alloc (.cells #[.int .u64 x0, .int .u64 y0, .int .u64 x1, .int .u64 y1, .int .i64 t] 108) = wb at *
          clear hwb
          generalize w3.heap.size = gb at *
          obtain ⟨f0, f1, f2, f3, f4, _⟩ := hb.facts
          clear hb
          have hxr := IRow.rdn H3.out.rx (k + 2) N (by rw [H3.out.lx]; exact hnn) hnn (by omega)
          have hyr := IRow.rdn H3.out.ry (k + 2) N (by rw [H3.out.ly]; exact hnn) hnn (by omega)
          have ht0 : (0 : Int) ≤ (t : Int) := by omega
          by_cases ht1 : t = 0
          · have hte : (((t : Int) == 0)) = true := by simp; omega
            have hyr2 := IRow.rdn H3.out.ry (mm + 2) N (by rw [H3.out.ly]; omega) (by omega) (by omega)
            have htop : ∀ t, (ys.take (mm + 2))[mm + 1]? = some t → 0 < t := fun t ht => by
              refine Nat.pos_of_ne_zero fun e => HCY.out.2 ?_
              rw [List.getLast?_eq_getElem?, hyr2.len, ← e]; exact ht
            have hypos : 0 < V W64 (ys.take (mm + 2)) := HCY.out.pos W64_pos (fun e => by
              have := congrArg List.length e
              rw [hyr2.len] at this; simp at this)
            have DV := hid (divide_len (some ⟨p, 0, none⟩) (some ⟨q, 0, none⟩) (k + 2) mm N N (xs.take (k + 2)) (ys.take (mm + 2)) wb hxr hyr2 (H3.out.dx.take _) (H3.out.dy.take _) hmn (by omega) (by omega) htop)
            have HYP := hid hypos
            clear ht1 hxr hyr hyr2 htop hypos
            go_wp2_with (first
              | (go_at_call 103; (with_reducible refine (DV.out).mono ?_); rintro e w5 ⟨a1, a2, n1, n2, qs, rs', rfl, hq5, hr5, hn15, hn25, HDV, hg5⟩)
              | (refine wl_copy _ rfl (.tmp 76) (.tmp 77) 88 88 rfl 53 Tryz.underlying88 (by kernel_rfl) .u64 _ _ _ _ _ _ rfl rfl p 0 53 xs rs' (H3.out.rx.kept hg5 (by simp)) (fun _ => rfl) hr5 (by rw [H3.out.lx]; omega) ?_; intro w6 hr6 hg6))
            obtain ⟨_, v1, _, v2, v3⟩ := HDV.out
            have v4 : V W64 rs' < V W64 (ys.take (mm + 2)) := by rw [v2]; exact Nat.mod_lt _ HYP.out
            rw [HY.out] at v2 v4
            have v5 := V_take_lt H3.out.dy (k + 2) (by rw [H3.out.ly]; exact hnn)
            obtain ⟨c1, c2, c3⟩ := copied_rest H3.out.lx hnn H3.out.dx v1 v3 (Nat.lt_trans v4 v5)
            have v6 := H3.out.le
            have v7 := HK.out
            have v8 : 0 < V W64 (ys.take (k + 2)) := by rw [← HY.out]; exact HYP.out
            have HS := hid ((H3.out.keep hg5).swap hr6 hg6 c1 c2 (by rw [c3, v2]) v8)
            have HC3 := hid c3
            go_roundg (V W64 (ys.take (k + 2)) + V W64 rs')
            case measure => omega
            case rel => exact ⟨k + 2, q, p, r, s, ys, _, rs, ss, rfl, rfl, rfl, rfl, hid ⟨HS.out, by rw [HC3.out]⟩⟩
          · have hte : (((t : Int) == 0)) = false := by simp; omega
            obtain ⟨h, o, hE⟩ := HE.out
            have RO := hid (restsOf_any r s (k + 2) N N rs ss (xs.take (k + 2)) (ys.take (k + 2)) (some ⟨p, 0, none⟩) (some ⟨q, 0, none⟩) N N x0 y0 x1 y1 t wb H3.out.rz H3.out.rv H3.out.rs' hxr hyr (fun a e => by cases e; exact H3.out.pr) (fun a e => by cases e; exact H3.out.ps) (fun a e => by cases e; exact H3.out.qr) (fun a e => by cases e; exact H3.out.qs)
              (by rw [H3.out.lr]; exact hnn) (by rw [H3.out.ls]; exact hnn) (by rw [H3.out.lr]; omega) (by rw [H3.out.ls]; omega) hnn hnn (by omega) (by omega) H3.out.dr H3.out.ds (H3.out.dx.take _) (H3.out.dy.take _) b0 b1 b2 b3 ht (by omega) A C h o hE HLD.out)
            clear ht1 hxr hyr hE
            go_wp2_with (go_at_call 112; (with_reducible refine (RO.out).mono ?_); rintro e w5 ⟨d3, d4, wa, wc5, rfl, hr5, hr6, hga, hgb5, hgc, HD⟩)
            obtain ⟨l3, l4, e3, e4, hL⟩ := HD.out
            have HS := hid (H3.out.leh hr5 hr6 hga hgb5 hgc l3 l4 e3 e4 hL)
            have v1 := hL.2.2.1
            have v7 := HK.out
            go_roundg (V W64 (d3.take (k + 2)) + V W64 (d4.take (k + 2)))
            case measure => omega
            case rel => exact ⟨k + 2, r, s, p, q, d3, d4, xs, ys, rfl, rfl, rfl, rfl, hid ⟨HS.out, rfl⟩⟩
end Go.Proofs.YtdgcmbpmjcfhpaaGreatDoor
