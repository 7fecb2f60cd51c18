/-
  Contracts of combine with its three functions, and of Mul, Lcm, Quo.
-/
import Derived.Test.YtcmbdnkfihanmaaProg
import Derived.Test.YtcmbdnkfihanmaaMonoC
import Derived.Lib.MinMax
set_option linter.unusedVariables false
set_option linter.unusedSimpArgs false
namespace Go.Proofs.Ytcmbdnkfihanmaa
open Go.RowKit Nm

theorem infoInt : (Try.prog.info? 3).map (fun i => (i.zero, i.size, i.bytes)) = some (some (.int .i64 0), 1, 8) := by kernel_rfl
/-- a call returns a new slice that reads as xs -/
def ZRes (w : World) (xs : List Int) (e : Ending) (w' : World) : Prop := ∃ p c, e = .returned (.slice p xs.length c) ∧ ZRd w' .i64 p xs.length c xs ∧ w.grownBy w' none
theorem fadd_any (x y : Int) (w : World) (h : -1099511627776 ≤ x ∧ x ≤ 1099511627776 ∧ -1099511627776 ≤ y ∧ y ≤ 1099511627776) :
    Calls Try.prog 61 #[.int .i64 x, .int .i64 y] w fun e w' => e = .returned (.int .i64 (x + y)) ∧ w = w' := by
  obtain ⟨h1, h2, h3, h4⟩ := h
  go_enter Try.func61, Try.ntmps61
  go_wp2
  go_ret
  exact ⟨rfl, rfl⟩
theorem fmax_any (x y : Int) (w : World)  :
    Calls Try.prog 62 #[.int .i64 x, .int .i64 y] w fun e w' => e = .returned (.int .i64 (max x y)) ∧ w = w' := by
  skip
  go_enter Try.func62, Try.ntmps62
  go_wp2
  go_ret
  exact ⟨rfl, rfl⟩
theorem fsub_any (x y : Int) (w : World) (h : -1099511627776 ≤ x ∧ x ≤ 1099511627776 ∧ -1099511627776 ≤ y ∧ y ≤ 1099511627776) :
    Calls Try.prog 60 #[.int .i64 x, .int .i64 y] w fun e w' => e = .returned (.int .i64 (x - y)) ∧ w = w' := by
  obtain ⟨h1, h2, h3, h4⟩ := h
  go_enter Try.func60, Try.ntmps60
  go_wp2
  go_ret
  exact ⟨rfl, rfl⟩
set_option maxHeartbeats 1000000 in
theorem combineAdd_any (f : Int → Int → Int) (a b : Option Addr) (n m c d : Nat) (xs ys : List Int) (w : World) (h : ZRd w .i64 a n c xs) (k : ZRd w .i64 b m d ys) (hn : n ≤ 1000) (hm : m ≤ 1000)
    (hF : ∀ i (w : World), Calls Try.prog 61 #[.int .i64 (ex xs i), .int .i64 (ex ys i)] w fun e w' => e = .returned (.int .i64 (f (ex xs i) (ex ys i))) ∧ w = w') :
    Calls Try.prog 59 #[.slice a n c, .slice b m d, .func (.func 61) #[] #[]] w (ZRes w (trimZ (combZ f xs ys))) := by
  have HL := hid h.len
  have KL := hid k.len
  have hcap := h.cap
  have hmax := h.max
  have kcap := k.cap
  have kmax := k.max
  have HF := hid hF
  clear hF
  obtain ⟨q, hq⟩ : ∃ q, q = max n m := ⟨_, rfl⟩
  have hqi : max (n : Int) (m : Int) = (q : Int) := by omega
  have hqb : q ≤ 1000 := by omega
  have hnq : n ≤ q := by omega
  have hmq : m ≤ q := by omega
  have HQ := hid hq
  clear hq
  go_enter Try.func59, Try.ntmps59
  go_wp2_with (at_make; refine wz_make _ rfl _ _ 35 rfl 3 .i64 8 Try.underlying35 infoInt _ _ _ _ rfl rfl q (by omega) (by omega) (by omega) (by omega) ?_; intro w1 hr1 hg1)
  clear hqi
  obtain ⟨g, hg⟩ : ∃ g, g = w.heap.size := ⟨_, rfl⟩
  rw [← hg] at hr1 ⊢
  have HG := hid hg
  clear hg
  go_loopw [20] (fun i wr => ∃ k : Nat, ∃ cur : List Int, k ≤ q ∧ i = .int .i64 k ∧ ZRow wr g 3 .i64 cur ∧ w1.grownBy wr (some g) ∧ Hid (cur.length = q ∧ ∀ j, j < k → cur[j]? = some (f (ex xs j) (ex ys j))))
    (fun i _ => q - (intOf i).toNat)
  case atStart => exact ⟨0, _, Nat.zero_le _, rfl, hr1, grown_refl _ _, hid ⟨by simp, fun j hj => by omega⟩⟩
  case round =>
    obtain ⟨i, cur, hi, rfl, hrow, hgr, HC⟩ := hrel
    by_cases hlt : i < q
    · have hcl : i < cur.length := by rw [HC.out.1]; exact hlt
      have hcc := hrow.cell i hcl
      have hfr := hrow.free i
      obtain ⟨y, hy⟩ : ∃ y, y = cur[i] := ⟨_, rfl⟩
      rw [← hy] at hcc
      clear hy
      have R := HF.out i wr
      have hli : (i : Int) < (q : Int) := by omega
      have done : ∀ v, v = f (ex xs i) (ex ys i) → ∃ (k : Nat) (cur' : List Int), k ≤ q ∧ (Value.int .i64 ((i : Int) + 1)) = .int .i64 k ∧ ZRow (wr.setCell ⟨g, i, none⟩ (.int .i64 v)) g 3 .i64 cur' ∧ w1.grownBy (wr.setCell ⟨g, i, none⟩ (.int .i64 v)) (some g) ∧ Hid (cur'.length = q ∧ ∀ j, j < k → cur'[j]? = some (f (ex xs j) (ex ys j))) := by
        rintro _ rfl
        refine ⟨i + 1, _, by omega, by simp, hrow.set i _, grown_trans hgr (grown_setCell _ _ _), hid ⟨by simpa using HC.out.1, fun j hj => ?_⟩⟩
        by_cases hjk : j = i
        · subst hjk; rw [List.getElem?_set_self hcl]
        · rw [List.getElem?_set_ne (Ne.symm hjk)]
          exact HC.out.2 j (by omega)
      generalize hv : f (ex xs i) (ex ys i) = v at R
      have DONE := hid (done v hv.symm)
      clear done hv
      have keep : ∀ {z : Option Addr} {l cc : Nat} {zs : List Int}, ZRd w .i64 z l cc zs → ∀ j (hj : j < zs.length), ∃ b o, z = some ⟨b, o, none⟩ ∧ wr.cell? ⟨b, o + j, none⟩ = some (.int .i64 zs[j]) := by
        intro z l cc zs hz j hj
        obtain ⟨b, o, rfl, hc⟩ := hz.cel j hj
        refine ⟨b, o, rfl, hgr.cell (hg1.cell hc (by simp)) ?_⟩
        intro e
        have := World.block_lt_of_cell? _ _ hc
        have h2 := HG.out
        simp at e this; omega
      by_cases h1 : i < n
      · have h1' : (i : Int) < (n : Int) := by omega
        obtain ⟨b1, o1, rfl, hc1⟩ := keep h i (by rw [HL.out]; exact h1)
        rw [ex_lt (by rw [HL.out]; exact h1)] at R
        by_cases h2 : i < m
        · have h2' : (i : Int) < (m : Int) := by omega
          obtain ⟨b2, o2, rfl, hc2⟩ := keep k i (by rw [KL.out]; exact h2)
          rw [ex_lt (by rw [KL.out]; exact h2)] at R
          have RR := hid R
          clear R keep h k
          generalize xs[i]'_ = x1 at *
          generalize ys[i]'_ = x2 at *
          go_wp2_with (go_at_call 61; (with_reducible refine (RR.out).mono ?_); rintro e w' ⟨rfl, rfl⟩)
          exact ⟨DONE.out, by simp [intOf]; omega⟩
        · have h2' : ¬ (i : Int) < (m : Int) := by omega
          rw [ex_ge (xs := ys) (by rw [KL.out]; omega)] at R
          have RR := hid R
          clear R keep h k
          generalize xs[i]'_ = x1 at *
          go_wp2_with (go_at_call 61; (with_reducible refine (RR.out).mono ?_); rintro e w' ⟨rfl, rfl⟩)
          exact ⟨DONE.out, by simp [intOf]; omega⟩
      · have h1' : ¬ (i : Int) < (n : Int) := by omega
        rw [ex_ge (xs := xs) (by rw [HL.out]; omega)] at R
        by_cases h2 : i < m
        · have h2' : (i : Int) < (m : Int) := by omega
          obtain ⟨b2, o2, rfl, hc2⟩ := keep k i (by rw [KL.out]; exact h2)
          rw [ex_lt (by rw [KL.out]; exact h2)] at R
          have RR := hid R
          clear R keep h k
          generalize ys[i]'_ = x2 at *
          go_wp2_with (go_at_call 61; (with_reducible refine (RR.out).mono ?_); rintro e w' ⟨rfl, rfl⟩)
          exact ⟨DONE.out, by simp [intOf]; omega⟩
        · have := HQ.out
          omega
    · obtain rfl : i = q := by omega
      have e : cur = combZ f xs ys := by
        apply List.ext_getElem (by rw [HC.out.1, combZ_length, HL.out, KL.out]; exact HQ.out)
        intro j h1 h2
        have := HC.out.2 j (by rw [HC.out.1] at h1; exact h1)
        rw [List.getElem?_eq_getElem h1] at this
        simp only [Option.some.injEq] at this
        rw [this]; simp [combZ]
      have hrd := hrow.rd0 (by rw [HC.out.1]; omega)
      rw [HC.out.1, e] at hrd
      have R := hid (trimM_any _ _ _ _ _ hrd)
      have hT := hrd.take (trimZ (combZ f xs ys)).length (by rw [← hrd.len]; exact trimZ_length_le _)
      rw [← trimZ_eq_take] at hT
      have HT := hid hT
      have GG := hid (grown_new hg1 hgr (fun g' e' => by cases e'; rw [HG.out]; exact Nat.le_refl _))
      clear hrd e hT
      go_wp2_with (go_at_call 54; (with_reducible refine (R.out).mono ?_); rintro e w' ⟨rfl, rfl⟩)
      go_ret
      exact ⟨_, _, rfl, HT.out, GG.out⟩
set_option maxHeartbeats 1000000 in
theorem combineMax_any (f : Int → Int → Int) (a b : Option Addr) (n m c d : Nat) (xs ys : List Int) (w : World) (h : ZRd w .i64 a n c xs) (k : ZRd w .i64 b m d ys) (hn : n ≤ 1000) (hm : m ≤ 1000)
    (hF : ∀ i (w : World), Calls Try.prog 62 #[.int .i64 (ex xs i), .int .i64 (ex ys i)] w fun e w' => e = .returned (.int .i64 (f (ex xs i) (ex ys i))) ∧ w = w') :
    Calls Try.prog 59 #[.slice a n c, .slice b m d, .func (.func 62) #[] #[]] w (ZRes w (trimZ (combZ f xs ys))) := by
  have HL := hid h.len
  have KL := hid k.len
  have hcap := h.cap
  have hmax := h.max
  have kcap := k.cap
  have kmax := k.max
  have HF := hid hF
  clear hF
  obtain ⟨q, hq⟩ : ∃ q, q = max n m := ⟨_, rfl⟩
  have hqi : max (n : Int) (m : Int) = (q : Int) := by omega
  have hqb : q ≤ 1000 := by omega
  have hnq : n ≤ q := by omega
  have hmq : m ≤ q := by omega
  have HQ := hid hq
  clear hq
  go_enter Try.func59, Try.ntmps59
  go_wp2_with (at_make; refine wz_make _ rfl _ _ 35 rfl 3 .i64 8 Try.underlying35 infoInt _ _ _ _ rfl rfl q (by omega) (by omega) (by omega) (by omega) ?_; intro w1 hr1 hg1)
  clear hqi
  obtain ⟨g, hg⟩ : ∃ g, g = w.heap.size := ⟨_, rfl⟩
  rw [← hg] at hr1 ⊢
  have HG := hid hg
  clear hg
  go_loopw [20] (fun i wr => ∃ k : Nat, ∃ cur : List Int, k ≤ q ∧ i = .int .i64 k ∧ ZRow wr g 3 .i64 cur ∧ w1.grownBy wr (some g) ∧ Hid (cur.length = q ∧ ∀ j, j < k → cur[j]? = some (f (ex xs j) (ex ys j))))
    (fun i _ => q - (intOf i).toNat)
  case atStart => exact ⟨0, _, Nat.zero_le _, rfl, hr1, grown_refl _ _, hid ⟨by simp, fun j hj => by omega⟩⟩
  case round =>
    obtain ⟨i, cur, hi, rfl, hrow, hgr, HC⟩ := hrel
    by_cases hlt : i < q
    · have hcl : i < cur.length := by rw [HC.out.1]; exact hlt
      have hcc := hrow.cell i hcl
      have hfr := hrow.free i
      obtain ⟨y, hy⟩ : ∃ y, y = cur[i] := ⟨_, rfl⟩
      rw [← hy] at hcc
      clear hy
      have R := HF.out i wr
      have hli : (i : Int) < (q : Int) := by omega
      have done : ∀ v, v = f (ex xs i) (ex ys i) → ∃ (k : Nat) (cur' : List Int), k ≤ q ∧ (Value.int .i64 ((i : Int) + 1)) = .int .i64 k ∧ ZRow (wr.setCell ⟨g, i, none⟩ (.int .i64 v)) g 3 .i64 cur' ∧ w1.grownBy (wr.setCell ⟨g, i, none⟩ (.int .i64 v)) (some g) ∧ Hid (cur'.length = q ∧ ∀ j, j < k → cur'[j]? = some (f (ex xs j) (ex ys j))) := by
        rintro _ rfl
        refine ⟨i + 1, _, by omega, by simp, hrow.set i _, grown_trans hgr (grown_setCell _ _ _), hid ⟨by simpa using HC.out.1, fun j hj => ?_⟩⟩
        by_cases hjk : j = i
        · subst hjk; rw [List.getElem?_set_self hcl]
        · rw [List.getElem?_set_ne (Ne.symm hjk)]
          exact HC.out.2 j (by omega)
      generalize hv : f (ex xs i) (ex ys i) = v at R
      have DONE := hid (done v hv.symm)
      clear done hv
      have keep : ∀ {z : Option Addr} {l cc : Nat} {zs : List Int}, ZRd w .i64 z l cc zs → ∀ j (hj : j < zs.length), ∃ b o, z = some ⟨b, o, none⟩ ∧ wr.cell? ⟨b, o + j, none⟩ = some (.int .i64 zs[j]) := by
        intro z l cc zs hz j hj
        obtain ⟨b, o, rfl, hc⟩ := hz.cel j hj
        refine ⟨b, o, rfl, hgr.cell (hg1.cell hc (by simp)) ?_⟩
        intro e
        have := World.block_lt_of_cell? _ _ hc
        have h2 := HG.out
        simp at e this; omega
      by_cases h1 : i < n
      · have h1' : (i : Int) < (n : Int) := by omega
        obtain ⟨b1, o1, rfl, hc1⟩ := keep h i (by rw [HL.out]; exact h1)
        rw [ex_lt (by rw [HL.out]; exact h1)] at R
        by_cases h2 : i < m
        · have h2' : (i : Int) < (m : Int) := by omega
          obtain ⟨b2, o2, rfl, hc2⟩ := keep k i (by rw [KL.out]; exact h2)
          rw [ex_lt (by rw [KL.out]; exact h2)] at R
          have RR := hid R
          clear R keep h k
          generalize xs[i]'_ = x1 at *
          generalize ys[i]'_ = x2 at *
          go_wp2_with (go_at_call 62; (with_reducible refine (RR.out).mono ?_); rintro e w' ⟨rfl, rfl⟩)
          exact ⟨DONE.out, by simp [intOf]; omega⟩
        · have h2' : ¬ (i : Int) < (m : Int) := by omega
          rw [ex_ge (xs := ys) (by rw [KL.out]; omega)] at R
          have RR := hid R
          clear R keep h k
          generalize xs[i]'_ = x1 at *
          go_wp2_with (go_at_call 62; (with_reducible refine (RR.out).mono ?_); rintro e w' ⟨rfl, rfl⟩)
          exact ⟨DONE.out, by simp [intOf]; omega⟩
      · have h1' : ¬ (i : Int) < (n : Int) := by omega
        rw [ex_ge (xs := xs) (by rw [HL.out]; omega)] at R
        by_cases h2 : i < m
        · have h2' : (i : Int) < (m : Int) := by omega
          obtain ⟨b2, o2, rfl, hc2⟩ := keep k i (by rw [KL.out]; exact h2)
          rw [ex_lt (by rw [KL.out]; exact h2)] at R
          have RR := hid R
          clear R keep h k
          generalize ys[i]'_ = x2 at *
          go_wp2_with (go_at_call 62; (with_reducible refine (RR.out).mono ?_); rintro e w' ⟨rfl, rfl⟩)
          exact ⟨DONE.out, by simp [intOf]; omega⟩
        · have := HQ.out
          omega
    · obtain rfl : i = q := by omega
      have e : cur = combZ f xs ys := by
        apply List.ext_getElem (by rw [HC.out.1, combZ_length, HL.out, KL.out]; exact HQ.out)
        intro j h1 h2
        have := HC.out.2 j (by rw [HC.out.1] at h1; exact h1)
        rw [List.getElem?_eq_getElem h1] at this
        simp only [Option.some.injEq] at this
        rw [this]; simp [combZ]
      have hrd := hrow.rd0 (by rw [HC.out.1]; omega)
      rw [HC.out.1, e] at hrd
      have R := hid (trimM_any _ _ _ _ _ hrd)
      have hT := hrd.take (trimZ (combZ f xs ys)).length (by rw [← hrd.len]; exact trimZ_length_le _)
      rw [← trimZ_eq_take] at hT
      have HT := hid hT
      have GG := hid (grown_new hg1 hgr (fun g' e' => by cases e'; rw [HG.out]; exact Nat.le_refl _))
      clear hrd e hT
      go_wp2_with (go_at_call 54; (with_reducible refine (R.out).mono ?_); rintro e w' ⟨rfl, rfl⟩)
      go_ret
      exact ⟨_, _, rfl, HT.out, GG.out⟩
set_option maxHeartbeats 1000000 in
theorem combineSub_any (f : Int → Int → Int) (a b : Option Addr) (n m c d : Nat) (xs ys : List Int) (w : World) (h : ZRd w .i64 a n c xs) (k : ZRd w .i64 b m d ys) (hn : n ≤ 1000) (hm : m ≤ 1000)
    (hF : ∀ i (w : World), Calls Try.prog 60 #[.int .i64 (ex xs i), .int .i64 (ex ys i)] w fun e w' => e = .returned (.int .i64 (f (ex xs i) (ex ys i))) ∧ w = w') :
    Calls Try.prog 59 #[.slice a n c, .slice b m d, .func (.func 60) #[] #[]] w (ZRes w (trimZ (combZ f xs ys))) := by
  have HL := hid h.len
  have KL := hid k.len
  have hcap := h.cap
  have hmax := h.max
  have kcap := k.cap
  have kmax := k.max
  have HF := hid hF
  clear hF
  obtain ⟨q, hq⟩ : ∃ q, q = max n m := ⟨_, rfl⟩
  have hqi : max (n : Int) (m : Int) = (q : Int) := by omega
  have hqb : q ≤ 1000 := by omega
  have hnq : n ≤ q := by omega
  have hmq : m ≤ q := by omega
  have HQ := hid hq
  clear hq
  go_enter Try.func59, Try.ntmps59
  go_wp2_with (at_make; refine wz_make _ rfl _ _ 35 rfl 3 .i64 8 Try.underlying35 infoInt _ _ _ _ rfl rfl q (by omega) (by omega) (by omega) (by omega) ?_; intro w1 hr1 hg1)
  clear hqi
  obtain ⟨g, hg⟩ : ∃ g, g = w.heap.size := ⟨_, rfl⟩
  rw [← hg] at hr1 ⊢
  have HG := hid hg
  clear hg
  go_loopw [20] (fun i wr => ∃ k : Nat, ∃ cur : List Int, k ≤ q ∧ i = .int .i64 k ∧ ZRow wr g 3 .i64 cur ∧ w1.grownBy wr (some g) ∧ Hid (cur.length = q ∧ ∀ j, j < k → cur[j]? = some (f (ex xs j) (ex ys j))))
    (fun i _ => q - (intOf i).toNat)
  case atStart => exact ⟨0, _, Nat.zero_le _, rfl, hr1, grown_refl _ _, hid ⟨by simp, fun j hj => by omega⟩⟩
  case round =>
    obtain ⟨i, cur, hi, rfl, hrow, hgr, HC⟩ := hrel
    by_cases hlt : i < q
    · have hcl : i < cur.length := by rw [HC.out.1]; exact hlt
      have hcc := hrow.cell i hcl
      have hfr := hrow.free i
      obtain ⟨y, hy⟩ : ∃ y, y = cur[i] := ⟨_, rfl⟩
      rw [← hy] at hcc
      clear hy
      have R := HF.out i wr
      have hli : (i : Int) < (q : Int) := by omega
      have done : ∀ v, v = f (ex xs i) (ex ys i) → ∃ (k : Nat) (cur' : List Int), k ≤ q ∧ (Value.int .i64 ((i : Int) + 1)) = .int .i64 k ∧ ZRow (wr.setCell ⟨g, i, none⟩ (.int .i64 v)) g 3 .i64 cur' ∧ w1.grownBy (wr.setCell ⟨g, i, none⟩ (.int .i64 v)) (some g) ∧ Hid (cur'.length = q ∧ ∀ j, j < k → cur'[j]? = some (f (ex xs j) (ex ys j))) := by
        rintro _ rfl
        refine ⟨i + 1, _, by omega, by simp, hrow.set i _, grown_trans hgr (grown_setCell _ _ _), hid ⟨by simpa using HC.out.1, fun j hj => ?_⟩⟩
        by_cases hjk : j = i
        · subst hjk; rw [List.getElem?_set_self hcl]
        · rw [List.getElem?_set_ne (Ne.symm hjk)]
          exact HC.out.2 j (by omega)
      generalize hv : f (ex xs i) (ex ys i) = v at R
      have DONE := hid (done v hv.symm)
      clear done hv
      have keep : ∀ {z : Option Addr} {l cc : Nat} {zs : List Int}, ZRd w .i64 z l cc zs → ∀ j (hj : j < zs.length), ∃ b o, z = some ⟨b, o, none⟩ ∧ wr.cell? ⟨b, o + j, none⟩ = some (.int .i64 zs[j]) := by
        intro z l cc zs hz j hj
        obtain ⟨b, o, rfl, hc⟩ := hz.cel j hj
        refine ⟨b, o, rfl, hgr.cell (hg1.cell hc (by simp)) ?_⟩
        intro e
        have := World.block_lt_of_cell? _ _ hc
        have h2 := HG.out
        simp at e this; omega
      by_cases h1 : i < n
      · have h1' : (i : Int) < (n : Int) := by omega
        obtain ⟨b1, o1, rfl, hc1⟩ := keep h i (by rw [HL.out]; exact h1)
        rw [ex_lt (by rw [HL.out]; exact h1)] at R
        by_cases h2 : i < m
        · have h2' : (i : Int) < (m : Int) := by omega
          obtain ⟨b2, o2, rfl, hc2⟩ := keep k i (by rw [KL.out]; exact h2)
          rw [ex_lt (by rw [KL.out]; exact h2)] at R
          have RR := hid R
          clear R keep h k
          generalize xs[i]'_ = x1 at *
          generalize ys[i]'_ = x2 at *
          go_wp2_with (go_at_call 60; (with_reducible refine (RR.out).mono ?_); rintro e w' ⟨rfl, rfl⟩)
          exact ⟨DONE.out, by simp [intOf]; omega⟩
        · have h2' : ¬ (i : Int) < (m : Int) := by omega
          rw [ex_ge (xs := ys) (by rw [KL.out]; omega)] at R
          have RR := hid R
          clear R keep h k
          generalize xs[i]'_ = x1 at *
          go_wp2_with (go_at_call 60; (with_reducible refine (RR.out).mono ?_); rintro e w' ⟨rfl, rfl⟩)
          exact ⟨DONE.out, by simp [intOf]; omega⟩
      · have h1' : ¬ (i : Int) < (n : Int) := by omega
        rw [ex_ge (xs := xs) (by rw [HL.out]; omega)] at R
        by_cases h2 : i < m
        · have h2' : (i : Int) < (m : Int) := by omega
          obtain ⟨b2, o2, rfl, hc2⟩ := keep k i (by rw [KL.out]; exact h2)
          rw [ex_lt (by rw [KL.out]; exact h2)] at R
          have RR := hid R
          clear R keep h k
          generalize ys[i]'_ = x2 at *
          go_wp2_with (go_at_call 60; (with_reducible refine (RR.out).mono ?_); rintro e w' ⟨rfl, rfl⟩)
          exact ⟨DONE.out, by simp [intOf]; omega⟩
        · have := HQ.out
          omega
    · obtain rfl : i = q := by omega
      have e : cur = combZ f xs ys := by
        apply List.ext_getElem (by rw [HC.out.1, combZ_length, HL.out, KL.out]; exact HQ.out)
        intro j h1 h2
        have := HC.out.2 j (by rw [HC.out.1] at h1; exact h1)
        rw [List.getElem?_eq_getElem h1] at this
        simp only [Option.some.injEq] at this
        rw [this]; simp [combZ]
      have hrd := hrow.rd0 (by rw [HC.out.1]; omega)
      rw [HC.out.1, e] at hrd
      have R := hid (trimM_any _ _ _ _ _ hrd)
      have hT := hrd.take (trimZ (combZ f xs ys)).length (by rw [← hrd.len]; exact trimZ_length_le _)
      rw [← trimZ_eq_take] at hT
      have HT := hid hT
      have GG := hid (grown_new hg1 hgr (fun g' e' => by cases e'; rw [HG.out]; exact Nat.le_refl _))
      clear hrd e hT
      go_wp2_with (go_at_call 54; (with_reducible refine (R.out).mono ?_); rintro e w' ⟨rfl, rfl⟩)
      go_ret
      exact ⟨_, _, rfl, HT.out, GG.out⟩
end Go.Proofs.Ytcmbdnkfihanmaa
