/-
  Contract of natural.Text: the decimal numeral.
-/
import Derived.Test.YtkggoniecmlglaaGreatDoorFmt
import Derived.Test.YtkggoniecmlglaaGreatDoorVal
import Derived.Test.YtkggoniecmlglaaGreatDoorDivW
import Derived.Test.YtkggoniecmlglaaGreatDoorPack
import Derived.Deep.LoopGhost
set_option linter.unusedVariables false
set_option linter.unusedSimpArgs false
namespace Go.Proofs.YtkggoniecmlglaaGreatDoor
open Go.RowKit _root_.Nm

/-- one digit more: what is left of a group -/
theorem group_step {W g k : Nat} (hk : k < 19) (hR : 0 < W * 10 ^ (19 - k) + g) : (W * 10 ^ (19 - k) + g) / 10 = W * 10 ^ (19 - (k + 1)) + g / 10 ∧ (W * 10 ^ (19 - k) + g) % 10 = g % 10 := by
  have e : 10 ^ (19 - k) = 10 ^ (19 - (k + 1)) * 10 := by rw [← Nat.pow_succ]; congr 1; omega
  rw [e, ← Nat.mul_assoc]
  generalize W * 10 ^ (19 - (k + 1)) = A
  omega
theorem group_lt {g k : Nat} (hk : k < 19) (h : g < 10 ^ (19 - k)) : g / 10 < 10 ^ (19 - (k + 1)) := by
  have e : 10 ^ (19 - k) = 10 ^ (19 - (k + 1)) * 10 := by rw [← Nat.pow_succ]; congr 1; omega
  rw [e] at h
  omega
theorem drop_set_pred (row : List Nat) (p y : Nat) (hp : p < row.length) : (row.set p y).drop p = y :: row.drop (p + 1) := by
  rw [List.drop_eq_getElem_cons (by simpa using hp), List.getElem_set_self, List.drop_set_of_lt (by omega)]

set_option maxHeartbeats 4000000 in
set_option maxRecDepth 100000 in
theorem natText_n {w : World} {a : Option Addr} {n c N : Nat} (hA : IsN w a n c N) (hn : n ≤ 40000) (T : Tp w) :
    Calls Tryz.prog 33 #[.slice a n c] w fun e w' => e = .returned (str (Lib.decDigits N)) ∧ w.grownBy w' none := by
  obtain ⟨xs, h, hd, rfl⟩ := hA
  have hl : (trimR xs).length ≤ n := by rw [← h.len]; exact trimR_length_le xs
  have ht := h.take (trimR xs).length hl
  rw [← trimR_eq_take] at ht
  have R1 := hid (trim16 a n c xs w h)
  have hcx := Can_trimR hd
  have hv := V_trimR (B := 65536) xs
  rw [← hv]
  clear hv
  generalize trimR xs = us at *
  clear h
  by_cases h4 : us.length ≤ 4
  · have hb : V 65536 us < 18446744073709551616 := V_word hcx.1 4 h4
    have HW := hid (word_any a us.length c us w ht hcx.1 h4)
    generalize V 65536 us = N at *
    have HF := hid (fmtU_any N hb w T)
    have h4' : (us.length : Int) ≤ 4 := by omega
    clear hb
    go_enter Tryz.func33, Tryz.ntmps33
    go_wp2_with (first
      | (go_at_call 70; (with_reducible refine (R1.out).mono ?_); rintro e w' ⟨rfl, rfl⟩)
      | (go_at_call 72; (with_reducible refine (HW.out).mono ?_); rintro e w' ⟨rfl, rfl⟩)
      | (go_at_call 71; (with_reducible refine (HF.out).mono ?_); rintro e w' ⟨rfl, hg⟩))
    go_ret
    exact ⟨rfl, hg⟩
  · have hpos : 0 < V 65536 us := hcx.pos (by omega) (by intro e; rw [e] at h4; simp at h4)
    have hlen : V 65536 us < 10 ^ (20 * ((us.length + 3) / 4)) := by
      refine Nat.lt_of_lt_of_le hcx.1.lt ?_
      refine Nat.le_trans (Nat.pow_le_pow_right (n := 65536) (by omega) (show us.length ≤ 4 * ((us.length + 3) / 4) by omega)) ?_
      rw [Nat.pow_mul, Nat.pow_mul]
      exact Nat.pow_le_pow_left (by decide) _
    have h5 : ¬ ((us.length : Int) ≤ 4) := by omega
    have HP := hid (pack_any a us.length c us w ht hcx.1 (by omega))
    have hul : us.length ≤ 40000 := by omega
    generalize V 65536 us = N at *
    have HLEN := hid hlen
    have HPOS := hid hpos
    clear hlen hpos
    go_enter Tryz.func33, Tryz.ntmps33
    go_wp2_with (first
      | (go_at_call 70; (with_reducible refine (R1.out).mono ?_); rintro e w' ⟨rfl, rfl⟩))
    refine HP.out.mono ?_
    rintro e w1 ⟨M, ys, rfl, hr1, HZ, hg1⟩
    have hM : M ≤ 10001 := by have := HZ.out.1; omega
    obtain ⟨t, ht20⟩ : ∃ t, t = 20 * M := ⟨_, rfl⟩
    have hLM : (20 : Int) * (M : Int) = (t : Int) := by omega
    have htb : t ≤ 200020 := by omega
    have HT := hid ht20
    clear ht20
    go_wp2_with (first
      | (at_make; refine wl_make _ rfl _ _ 96 rfl 5 .u8 1 Tryz.underlying96 (by kernel_rfl) _ _ _ _ rfl rfl t (by first | rfl | exact hLM) (by first | rfl | exact hLM) (by omega) (by omega) ?_; intro w2 hr2 hg2))
    obtain ⟨g1, hg1e⟩ : ∃ g1, g1 = w.heap.size := ⟨_, rfl⟩
    obtain ⟨g2, hg2e⟩ : ∃ g2, g2 = w1.heap.size := ⟨_, rfl⟩
    have hg12 : g1 < g2 := by rw [hg1e, hg2e]; exact hr1.lt
    rw [← hg1e] at hr1 ⊢
    rw [← hg2e] at hr2 ⊢
    have hcur0 := hr1.kept hg2 (by simp)
    have hgw0 := grown_trans hg1 hg2
    have HG := hid (And.intro hg1e hg2e)
    have HG1 := hid hg1.size
    clear hg1e hg2e hr1 hg1 hg2 HP
    go_loopg [3, 5] N (fun j x y wr => ∃ (m p : Nat) (cur row : List Nat) (ds : List UInt8), x = .slice (some ⟨g1, 0, none⟩) m M ∧ y = .int .i64 p ∧ m ≤ M ∧ p ≤ t ∧ IRow wr g1 51 .u64 cur ∧ IRow wr g2 5 .u8 row ∧ w.grownBy wr none ∧
       Hid (j = V W64 (cur.take m) ∧ cur.length = M ∧ Dg W64 cur ∧ (m ≠ 0 → 0 < j) ∧ row.length = t ∧ row.drop p = ds.map UInt8.toNat ∧ dd N = dd j ++ ds))
    case atStart =>
      refine ⟨M, t, ys, _, [], rfl, by simp, Nat.le_refl _, Nat.le_refl _, hcur0, hr2, hgw0, hid ⟨?_, HZ.out.2.1, HZ.out.2.2.2, fun _ => HPOS.out, by simp, ?_, by simp⟩⟩
      · rw [List.take_of_length_le (by rw [HZ.out.2.1]; exact Nat.le_refl _)]; exact HZ.out.2.2.1.symm
      · rw [List.drop_of_length_le (by simp)]; rfl
    case round =>
      clear hcur0 hr2 hgw0
      obtain ⟨m, p, cur, row, ds, rfl, rfl, hm, hp, hcur, hrow, hgw, HI⟩ := hrel
      by_cases h0 : 0 < m
      · have hD := hid (divW_any g1 m M cur 10000000000000000000 wr hcur (by rw [HI.out.2.1]; exact hm) hm (by omega) (by rw [HI.out.2.1]; omega) HI.out.2.2.1 (by decide) (by decide))
        have h0' : (0 : Int) < (m : Int) := by omega
        go_wp2_with fail
        refine hD.out.mono ?_
        rintro e w3 ⟨cur', rfl, hcur3, hgr, HD⟩
        have hrow3 := hrow.kept hgr (by intro e; cases e; omega)
        have hgw3 : w.grownBy w3 none := grown_new hgw hgr (fun g e => by cases e; rw [HG.out.1]; exact Nat.le_refl _)
        have hrd : IRd w3 .u64 (some ⟨g1, 0, none⟩) m M (cur'.take m) := by
          have := hcur3.rd 0 m M (by rw [HD.out.1, HI.out.2.1]; omega) hm (by omega)
          simpa using this
        have htr := trim64 _ m M (cur'.take m) w3 hrd
        have hm'm : (trimR (cur'.take m)).length ≤ m := by have := trimR_length_le (cur'.take m); rw [List.length_take] at this; omega
        have htk : trimR (cur'.take m) = cur'.take (trimR (cur'.take m)).length := by
          have := trimR_eq_take (cur'.take m)
          rwa [List.take_take, Nat.min_eq_left hm'm] at this
        have hcan := Can_trimR (HD.out.2.1.take m)
        have hVt := V_trimR (B := W64) (cur'.take m)
        rw [HD.out.2.2.1, ← HI.out.1] at hVt
        obtain ⟨G, hG⟩ : ∃ G, G = V W64 (cur.take m) % 10000000000000000000 := ⟨_, rfl⟩
        rw [← hG]
        rw [← HI.out.1] at hG
        obtain ⟨m', hm'⟩ : ∃ m', m' = (trimR (cur'.take m)).length := ⟨_, rfl⟩
        rw [← hm'] at htr hm'm htk
        obtain ⟨W, hW⟩ : ∃ W, W = V W64 (cur'.take m') := ⟨_, rfl⟩
        rw [htk, ← hW] at hVt
        have hW0 : m' ≠ 0 → 0 < W := fun h => by rw [hW, ← htk]; exact hcan.pos (by decide) (by intro e; rw [e] at hm'; exact h hm')
        have hW1 : m' = 0 → W = 0 := fun h => by rw [hW, h]; rfl
        have hGlt : G < 10 ^ 19 := by rw [hG]; exact Nat.mod_lt _ (by decide)
        have hsum : gk = W * 10 ^ (19 - 0) + G := by rw [hVt, hG]; have := Nat.div_add_mod gk 10000000000000000000; omega
        have hWlt : W < gk := by rw [hVt]; exact Nat.div_lt_self (HI.out.2.2.2.1 (by omega)) (by decide)
        have hlen : (dd N).length ≤ t := by rw [HT.out, HZ.out.1]; exact dd_length_le _ _ HLEN.out
        have hrw : row.drop p = ds.map UInt8.toNat := HI.out.2.2.2.2.2.1
        have hdd := HI.out.2.2.2.2.2.2
        rw [hsum] at hdd
        have HTR := hid htr
        have HWW := hid (And.intro hW (And.intro hW0 (And.intro hW1 hWlt)))
        have HC := hid (And.intro HD.out.2.1 (HD.out.1.trans HI.out.2.1))
        have HIN := hid (And.intro hGlt (And.intro HI.out.2.2.2.2.1 (And.intro hrw hdd)))
        have HLN := hid hlen
        clear htr hW hW0 hW1 hWlt hGlt hrw hdd hlen hsum hVt hcan htk hm' hG hrd hD hgr hgw hcur hrow HI HD
        go_wp2_with fail
        refine HTR.out.mono ?_
        rintro e w4 ⟨rfl, rfl⟩
        go_wp2_with fail
        go_loopw [5, 6] (fun x y wr => ∃ (k p' g : Nat) (row : List Nat) (ds : List UInt8), x = .int .i64 p' ∧ y = .int .u64 g ∧ k ≤ 19 ∧ p' + k = p ∧ IRow wr g1 51 .u64 cur' ∧ IRow wr g2 5 .u8 row ∧ w.grownBy wr none ∧
          Hid (g < 10 ^ (19 - k) ∧ row.length = t ∧ row.drop p' = ds.map UInt8.toNat ∧ dd N = dd (W * 10 ^ (19 - k) + g) ++ ds)) (fun x _ _ => (intOf x).toNat)
        case atStart => exact ⟨0, p, G, row, ds, rfl, rfl, by omega, rfl, hcur3, hrow3, hgw3, hid HIN.out⟩
        case round =>
          clear hcur3 hrow3 hgw3 HIN
          obtain ⟨k, p', g, row, ds, rfl, rfl, hk, hpk, hc, hr, hg, HI⟩ := hrel
          have hfin : ∀ q v, w.grownBy (wr.setCell ⟨g2, q, none⟩ v) none := fun q v => grown_new hg (grown_setCell wr ⟨g2, q, none⟩ v) (fun g e => by cases e; rw [HG.out.2]; exact HG1.out)
          have hckeep : ∀ q v, IRow (wr.setCell ⟨g2, q, none⟩ v) g1 51 .u64 cur' := fun q v => hc.kept (grown_setCell wr ⟨g2, q, none⟩ v) (by intro e; simp at e; omega)
          have HFIN := hid (And.intro hfin hckeep)
          clear hfin hckeep
          by_cases hgo : 0 < g ∨ (0 < m' ∧ k < 19)
          · have hk19 : k < 19 := by
              rcases hgo with h | h
              · rcases Nat.lt_or_ge k 19 with h' | h'
                · exact h'
                · have := HI.out.1
                  rw [show 19 - k = 0 by omega] at this
                  simp at this; omega
              · exact h.2
            have hR : 0 < W * 10 ^ (19 - k) + g := by
              rcases hgo with h | h
              · omega
              · have := Nat.mul_pos (HWW.out.2.1 (by omega)) (Nat.pow_pos (n := 19 - k) (show 0 < 10 by omega)); omega
            have e := group_step hk19 hR
            have hdl : (dd (W * 10 ^ (19 - k) + g)).length + ds.length = (dd N).length := by rw [HI.out.2.2.2, List.length_append]
            have hd1 : 1 ≤ (dd (W * 10 ^ (19 - k) + g)).length := by rw [dd_step hR, List.length_append]; simp
            have hds : ds.length = t - p' := by have := congrArg List.length HI.out.2.2.1; rw [List.length_drop, HI.out.2.1, List.length_map] at this; omega
            have hp1 : 1 ≤ p' := by have := HLN.out; omega
            obtain ⟨q, rfl⟩ : ∃ q, p' = q + 1 := ⟨p' - 1, by omega⟩
            have hql : q < row.length := by rw [HI.out.2.1]; omega
            have hcc := hr.cell q hql
            have hfr := hr.free q
            obtain ⟨y, hy⟩ : ∃ y, y = row[q] := ⟨_, rfl⟩
            rw [← hy] at hcc
            obtain ⟨d, hd'⟩ : ∃ d, d = g % 10 := ⟨_, rfl⟩
            obtain ⟨g', hg'⟩ : ∃ g', g' = g / 10 := ⟨_, rfl⟩
            have hd10 : d < 10 := by rw [hd']; exact Nat.mod_lt _ (by omega)
            have hnew : Hid (g' < 10 ^ (19 - (k + 1)) ∧ (row.set q (48 + d)).length = t ∧ (row.set q (48 + d)).drop q = (dgc d :: ds).map UInt8.toNat ∧ dd N = dd (W * 10 ^ (19 - (k + 1)) + g') ++ (dgc d :: ds)) := hid (by
              refine ⟨by rw [hg']; exact group_lt hk19 HI.out.1, by rw [List.length_set]; exact HI.out.2.1, ?_, ?_⟩
              · rw [drop_set_pred _ _ _ hql, List.map_cons, dgc_toNat hd10, HI.out.2.2.1]
              · rw [HI.out.2.2.2, dd_step hR, e.1, e.2, ← hd', ← hg', List.append_assoc]; rfl)
            have hE1 : (g : Int) % 10 = (d : Int) := by omega
            have hE2 : (g : Int) / 10 = (g' : Int) := by omega
            have hE3 : IntKind.u64.wrap (g' : Int) = (g' : Int) := by
              have h1 := HI.out.1
              have h2 : 10 ^ (19 - k) ≤ 10 ^ 19 := Nat.pow_le_pow_right (by omega) (by omega)
              rw [IntKind.wrap_u64]; omega
            have hq1 : (0 : Int) ≤ (q : Int) := by omega
            have hq2 : (q : Int) < (t : Int) := by rw [← HI.out.2.1]; omega
            have hsplit : (0 : Int) < (g : Int) ∨ (¬ ((0 : Int) < (g : Int)) ∧ (0 : Int) < (m' : Int) ∧ (p : Int) - 19 < (q : Int) + 1) := by
              rcases Nat.eq_zero_or_pos g with h0 | h0
              · rcases hgo with h | h
                · omega
                · exact .inr ⟨by omega, by omega, by omega⟩
              · exact .inl (by omega)
            clear hy hd' hg' hdl hd1 hds e hR hgo hp1 HI
            rcases hsplit with h1 | ⟨h0', h1, h2⟩
            · go_wp2
              exact ⟨⟨k + 1, q, g', _, _, by first | rfl | (simp; done) | (simp; omega), by first | rfl | (simp; done) | (simp; omega), by omega, by omega, HFIN.out.2 _ _, hr.setv q _ (48 + d) (by first | omega | (rw [IntKind.wrap_u8]; omega)), HFIN.out.1 _ _, hnew⟩, by simp [intOf]⟩
            · go_wp2
              exact ⟨⟨k + 1, q, g', _, _, by first | rfl | (simp; done) | (simp; omega), by first | rfl | (simp; done) | (simp; omega), by omega, by omega, HFIN.out.2 _ _, hr.setv q _ (48 + d) (by first | omega | (rw [IntKind.wrap_u8]; omega)), HFIN.out.1 _ _, hnew⟩, by simp [intOf]⟩
          · have hg0 : g = 0 := by omega
            have hmk : m' = 0 ∨ (0 < m' ∧ k = 19) := by omega
            have hdd : dd N = dd W ++ ds := by
              have := HI.out.2.2.2
              rcases hmk with h | h
              · rw [HWW.out.2.2.1 h] at this ⊢
                rw [hg0] at this
                simpa using this
              · rw [h.2, hg0] at this
                simpa using this
            have HR := hid (And.intro HI.out.2.1 (And.intro HI.out.2.2.1 hdd))
            have hng : ¬ ((0 : Int) < (g : Int)) := by omega
            have hsplit : (¬ ((0 : Int) < (m' : Int))) ∨ ((0 : Int) < (m' : Int) ∧ ¬ ((p : Int) - 19 < (p' : Int))) := by
              rcases hmk with h | h
              · exact .inl (by omega)
              · exact .inr ⟨by omega, by omega⟩
            clear hgo hg0 hmk hdd HI
            rcases hsplit with h1 | ⟨h1, h2⟩
            all_goals
              go_wp2
              go_roundg W
              case measure => exact HWW.out.2.2.2
              case rel => exact ⟨m', p', cur', row, ds, rfl, rfl, by omega, by omega, hc, hr, hg, hid ⟨HWW.out.1, HC.out.2, HC.out.1, HWW.out.2.1, HR.out.1, HR.out.2.1, HR.out.2.2⟩⟩
      · have hm0 : m = 0 := by omega
        subst hm0
        have hj0 : gk = 0 := by rw [HI.out.1]; rfl
        have hdd : Lib.decDigits N = ds := by
          have := HI.out.2.2.2.2.2.2
          rw [hj0, dd_zero, List.nil_append, dd_pos HPOS.out] at this
          exact this
        have hds : ds.length = t - p := by have := congrArg List.length HI.out.2.2.2.2.2.1; rw [List.length_drop, HI.out.2.2.2.2.1, List.length_map] at this; omega
        have hne : ds ≠ [] := by
          rw [← hdd]
          obtain ⟨_, _, c, r, e, _⟩ := dec_spec N
          rw [e]; simp
        have hlt : p < t := by
          have : ds.length ≠ 0 := fun e => hne (List.eq_nil_of_length_eq_zero e)
          omega
        have hcv : (convert 96 9 (.slice (some ⟨g2, p, none⟩) (t - p) (t - p))).run Tryz.prog wr = .ok (.string ⟨ds.toArray⟩) wr := by
          have h := run_convert_bytes_back (P := Tryz.prog) wr 96 9 5 ⟨g2, p, none⟩ (t - p) ds (by kernel_rfl) (by kernel_rfl) (by kernel_rfl) (fun j hj => by
            have hjl : p + j < row.length := by rw [HI.out.2.2.2.2.1]; omega
            rw [Lib.add_plain, hrow.cell (p + j) hjl]
            have e : row[p + j] = (row.drop p)[j]'(by rw [List.length_drop]; omega) := by simp
            rw [e]
            congr 2
            simp only [HI.out.2.2.2.2.2.1, List.getElem_map])
          rw [hds] at h
          exact h
        have hpt : (p : Int) ≤ (t : Int) := by omega
        have htp : ((t : Int) - (p : Int)).toNat = t - p := by omega
        have HDD := hid hdd
        clear hdd hds hne hj0 HI
        go_wp2
        go_ret
        exact ⟨by rw [HDD.out]; rfl, hgw⟩
end Go.Proofs.YtkggoniecmlglaaGreatDoor
