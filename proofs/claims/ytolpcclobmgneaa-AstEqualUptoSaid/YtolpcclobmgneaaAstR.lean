/-
  Count, exactly.
-/
import Derived.Test.YtolpcclobmgneaaAstT
set_option linter.unusedVariables false
set_option linter.unusedSimpArgs false
namespace Go.Proofs.Ytolpcclobmgneaa
open Go.RowKit _root_.Nm
/-- the number of parts, as the machine counts -/
def cntF : Nat → Tr → Int
  | 0, _ => 0
  | m + 1, .node _ l => (l.map (cntF m)).foldl (fun a b => wrap64 (a + b)) 1
def sumC (m : Nat) (l : List Tr) : Int := (l.map (cntF m)).foldl (fun a b => wrap64 (a + b)) 1
theorem sumC_succ (m : Nat) (l : List Tr) {k : Nat} (hk : k < l.length) : sumC m (l.take (k + 1)) = wrap64 (sumC m (l.take k) + cntF m l[k]) := by
  unfold sumC
  rw [List.take_add_one, List.map_append, List.foldl_append, List.getElem?_eq_getElem hk]
  rfl
theorem cntF_succ (m : Nat) (h : Hd) (l : List Tr) : cntF (m + 1) (.node h l) = sumC m l := rfl
set_option maxHeartbeats 8000000 in
set_option maxRecDepth 100000 in
theorem count_e : ∀ (m : Nat) (cs : List Value) (t : Tr) (w : World), ERd w m cs t → Calls Try.prog 9 #[.agg cs.toArray] w fun e w' => e = .returned (.int .i64 (cntF m t)) ∧ w.grownBy w' none
  | 0, _, _, _, h => h.elim
  | m + 1, cs, .node h l, w, hE => by
    have IH := hid (count_e m)
    obtain ⟨pn, nn, cn, pd, nd, cd, pa, na, ca, rfl, hn, hd, ⟨hla, hac, hca, hnm⟩, hargs⟩ := hE
    have HX := hid hargs
    clear hargs hn hd
    have HA := hid (World.grownBy_alloc w (.cells #[.int .i64 h.k, .string h.nm, .bool h.g, .slice pn nn cn, .slice pd nd cd, .slice pa na ca, .int .i64 h.pos] 30 (0, 0)) none)
    go_enter Try.func9, Try.ntmps9
    go_wp2_with fail
    go_loopw [3, 9] (fun z x wr => ∃ k : Nat, k ≤ na ∧ z = .int .i64 (sumC m (l.take k)) ∧ x = .int .i64 k ∧ w.grownBy wr none) (fun z x _ => na - (intOf x).toNat)
    case atStart => exact ⟨0, Nat.zero_le _, rfl, rfl, HA.out⟩
    case round =>
      obtain ⟨k, hk, rfl, rfl, hg⟩ := hrel
      by_cases hlt : k < na
      · obtain ⟨b, o, cs', rfl, h7, hc, hE⟩ := HX.out k (by omega)
        obtain ⟨e1, e2, e3, pn', nn', cn', pd', nd', cd', pa', na', ca', e7, rfl⟩ := hE.shape
        have c0 := hg.cell (hc 0 (by simp)) (by simp)
        have c1 := hg.cell (hc 1 (by simp)) (by simp)
        have c2 := hg.cell (hc 2 (by simp)) (by simp)
        have c3 := hg.cell (hc 3 (by simp)) (by simp)
        have c4 := hg.cell (hc 4 (by simp)) (by simp)
        have c5 := hg.cell (hc 5 (by simp)) (by simp)
        have c6 := hg.cell (hc 6 (by simp)) (by simp)
        simp only [List.getElem_cons_zero, List.getElem_cons_succ, Nat.add_zero] at c0 c1 c2 c3 c4 c5 c6
        have HE := hid (ERd.keep (grown_trans hg (World.grownBy_alloc wr (.cells #[.int .i64 e1, .string e2, .bool e3, .slice pn' nn' cn', .slice pd' nd' cd', .slice pa' na' ca', .int .i64 e7] 30 (0, 0)) none)) hE)
        clear hc hE h7
        obtain ⟨⟨k0, k1, k2, k3, k4, k5, k6⟩, f0, f1, f2, f3, f4, f5, f6⟩ := box7 (blk0 wr (zeroE 30))
        unfold zeroE at k0 k1 k2 k3 k4 k5 k6 f0 f1 f2 f3 f4 f5 f6
        go_wp2_with (go_at_call 9; refine (IH.out _ _ _ HE.out).mono ?_; rintro e w2 ⟨rfl, hg2⟩)
        exact ⟨⟨k + 1, by omega, by rw [sumC_succ m l (by omega)], by go_num, grown_trans hg (grown_trans (World.grownBy_alloc _ _ none) hg2)⟩, by simp [intOf]; omega⟩
      · obtain rfl : k = na := by omega
        go_wp2_with fail
        go_ret
        exact ⟨by rw [cntF_succ, show sumC m l = sumC m (l.take k) by rw [List.take_of_length_le (by omega)]]; rfl, hg⟩
set_option maxHeartbeats 4000000 in
set_option maxRecDepth 100000 in
theorem small_e (m : Nat) (cs : List Value) (t : Tr) (b : Bool) (hb : decide (cntF m t ≤ 300) = b) (w : World) (hE : ERd w m cs t) : Calls Try.prog 4 #[.agg cs.toArray] w fun e w' => e = .returned (.bool b) ∧ w.grownBy w' none := by
  obtain ⟨k, nm, g, pn, nn, cn, pd, nd, cd, pa, na, ca, pos, rfl⟩ := hE.shape
  have HA := hid (World.grownBy_alloc w (.cells #[.int .i64 k, .string nm, .bool g, .slice pn nn cn, .slice pd nd cd, .slice pa na ca, .int .i64 pos] 30 (0, 0)) none)
  have HC := hid (count_e m _ t _ (hE.keep HA.out))
  have HB := hid hb
  clear hE hb
  generalize cntF m t = z at *
  go_enter Try.func4, Try.ntmps4
  go_wp2_with (go_at_call 9; refine HC.out.mono ?_; rintro e w2 ⟨rfl, hg⟩)
  go_ret
  refine ⟨?_, grown_trans HA.out hg⟩
  rw [← HB.out]
  rfl
end Go.Proofs.Ytolpcclobmgneaa
