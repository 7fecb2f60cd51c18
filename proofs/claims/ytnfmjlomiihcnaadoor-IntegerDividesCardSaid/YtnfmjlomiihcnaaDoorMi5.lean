/-
  Contracts of functions of the program, part 5: IntN, IntM, RefAdd, RefSub, RefMul, IntR.
-/
import Derived.Test.YtnfmjlomiihcnaaDoorMi4
import Derived.Deep.RegionWith
import Derived.Deep.RegionHeld3
/-
  Contracts of integer.Norm and Neg.
-/
set_option linter.unusedVariables false
set_option linter.unusedSimpArgs false
namespace Go.Proofs.YtnfmjlomiihcnaaDoor
open Go.RowKit Nm

set_option maxHeartbeats 2000000 in
theorem intNorm_any {w : World} {p : Option Addr} {n c : Nat} {g : Bool} {Z : Int} (hA : IsZ w g p n c Z) (hn : n ≤ 400000) :
    Calls Tryd.prog 38 #[.agg #[.bool g, .slice p n c]] w (IPost w Z n) := by
  have hg2 := grown_trans (World.grownBy_alloc w (.cells #[.bool g, .slice p n c] 43) none) (World.grownBy_alloc _ (.cells #[.bool false, .slice none 0 0] 43) none)
  go_enter Tryd.func38, Tryd.ntmps38
  go_wp2_with fail
  go_region_with (first
    | (go_at_call 79; refine (magnitude_any (g := g) ((hA.1.keep hg2).keep (grown_drew _ none)) hn).mono ?_; rintro e w3 ⟨p3, n3, c3, rfl, h3, hn3, hg3⟩; have hc3 := gcell hg3; have hf3 := gfree hg3; have hz3 := hg3.size; simp at hz3)
    | (go_at_call 75; refine (signed_any h3 g).mono ?_; rintro e w4 ⟨g4, rfl, h4, hg4⟩; have hg34 := grown_trans hg3 hg4; clear hc3 hf3 hz3; have hc4 := gcell hg34; have hf4 := gfree hg34; have hz4 := hg34.size; simp at hz4))
  all_goals go_wp2
  all_goals
    rw [sg_z hA] at h4
    exact bodyPost_ret (v := .agg #[.bool g4, .slice p3 n3 c3]) (by simp [results, Tryd.results38, go_sem, hc4]) rfl (IPost.close (grown_trans hg2 (grown_drew _ none)) (second w _ _) (by omega) hg34 h4 hn3)


end Go.Proofs.YtnfmjlomiihcnaaDoor

/-
  Contract of integer.Mul.
-/
set_option linter.unusedVariables false
set_option linter.unusedSimpArgs false
namespace Go.Proofs.YtnfmjlomiihcnaaDoor
open Go.RowKit Nm


set_option maxHeartbeats 4000000 in
theorem intMul_any {w : World} {p q : Option Addr} {n c m d : Nat} {ga gb : Bool} {X Y : Int} (hA : IsZ w ga p n c X) (hB : IsZ w gb q m d Y) (hn : n ≤ 400000) (hm : m ≤ 400000) :
    Calls Tryd.prog 41 #[.agg #[.bool ga, .slice p n c], .agg #[.bool gb, .slice q m d]] w (IPost w (X * Y) (n + m)) := by
  have hg3 := grown_trans (grown_trans (World.grownBy_alloc w (.cells #[.bool ga, .slice p n c] 43) none) (World.grownBy_alloc _ (.cells #[.bool gb, .slice q m d] 43) none)) (World.grownBy_alloc _ (.cells #[.bool false, .slice none 0 0] 43) none)
  have HM := hid (fun W (h : w.grownBy W none) => natMul_n (hA.1.keep h) (hB.1.keep h) hn hm)
  have hsg : sg (ga != gb) (X.natAbs * Y.natAbs) = X * Y := by
    have h1 := sg_z hA
    have h2 := sg_z hB
    generalize X.natAbs = N at *
    generalize Y.natAbs = M at *
    subst h1; subst h2
    cases ga <;> cases gb <;> simp [sg, Int.neg_mul, Int.mul_neg]
  have HSG := hid hsg
  clear hsg
  go_enter Tryd.func41, Tryd.ntmps41
  go_wp2_with fail
  go_region_held3 (fun w' => w'.cell? ⟨w.heap.size, 0, none⟩ = some (.bool ga) ∧ w'.cell? ⟨w.heap.size, 1, none⟩ = some (.slice p n c) ∧ w'.cell? ⟨w.heap.size + 1, 0, none⟩ = some (.bool gb) ∧ w'.cell? ⟨w.heap.size + 1, 1, none⟩ = some (.slice q m d)) (simp [*, go_sem, World.cell?_alloc_past])
    (first
      | (go_at_call 24; refine (HM.out _ (grown_trans hg3 (grown_drew _ none))).mono ?_; rintro e w3 ⟨p3, n3, c3, rfl, h3, hn3, hg3'⟩; have hc3 := gcell hg3'; have hf3 := gfree hg3'; have hz3 := hg3'.size; simp at hz3)
      | (go_at_call 75; refine (signed_any h3 (ga != gb)).mono ?_; rintro e w4 ⟨g4, rfl, h4, hg4⟩; have hg34 := grown_trans hg3' hg4; clear hc3 hf3 hz3; have hc4 := gcell hg34; have hf4 := gfree hg34; have hz4 := hg34.size; simp at hz4))
  all_goals go_wp2
  all_goals
    rw [HSG.out] at h4
    exact bodyPost_ret (v := .agg #[.bool g4, .slice p3 n3 c3]) (by simp [results, Tryd.results41, go_sem, hc4]) rfl (IPost.close (grown_trans hg3 (grown_drew _ none)) (third w _ _ _) (by omega) hg34 h4 hn3)

end Go.Proofs.YtnfmjlomiihcnaaDoor

/-
  Contract of the reference Add.
-/
set_option linter.unusedVariables false
set_option linter.unusedSimpArgs false
namespace Go.Proofs.YtnfmjlomiihcnaaDoor
open Go.RowKit Nm

/-- the value of the first k limbs, counted behind the end as zeros -/
def vk (xs : List Nat) (k : Nat) : Nat := V 65536 (xs.take k)
theorem vk_succ (xs : List Nat) (k : Nat) : vk xs (k + 1) = vk xs k + 65536 ^ k * lb xs k := by
  unfold vk lb
  by_cases h : k < xs.length
  · rw [V_take_succ xs k h, List.getElem?_eq_getElem h]; rfl
  · rw [List.take_of_length_le (by omega), List.take_of_length_le (by omega), List.getElem?_eq_none (by omega)]; simp
theorem vk_all (xs : List Nat) (k : Nat) (h : xs.length ≤ k) : vk xs k = V 65536 xs := by unfold vk; rw [List.take_of_length_le h]
theorem V_snoc (zs : List Nat) (y : Nat) : V 65536 (zs ++ [y]) = V 65536 zs + 65536 ^ zs.length * y := by simp [V_append]

/-- what a reference's result is: the valid Nat of a number -/
theorem refNorm_n {w : World} {p : Option Addr} {n c N : Nat} (h : IsN w p n c N) (hn : n ≤ 4000000) :
    Calls Tryd.prog 51 #[.slice p n c] w fun e w' => ∃ p' n' c', e = .returned (.slice p' n' c') ∧ IsC w' p' n' c' N ∧ n' ≤ n ∧ w.grownBy w' none := by
  obtain ⟨L, h1, h2, rfl⟩ := h
  refine (refNorm_any p n c L w h1 hn).mono fun e w' ⟨p', c', h, hr, hg⟩ => ⟨p', _, c', h, ?_, ?_, hg⟩
  · unfold IsC; rw [← trimR_dg (by omega) h2]; exact hr
  · rw [← h1.len]; exact trimR_length_le L

set_option maxHeartbeats 2000000 in
theorem refAdd_n {p q : Option Addr} {n c m d N M : Nat} {w : World} (hA : IsN w p n c N) (hB : IsN w q m d M) (hn : n ≤ 900000) (hm : m ≤ 900000) :
    Calls Tryd.prog 62 #[.slice p n c, .slice q m d] w fun e w' => ∃ p' n' c', e = .returned (.slice p' n' c') ∧ IsC w' p' n' c' (N + M) ∧ n' ≤ n + m + 1 ∧ w.grownBy w' none := by
  obtain ⟨xs, h1, hx, rfl⟩ := hA
  obtain ⟨ys, k1, hy, rfl⟩ := hB
  have hmax := h1.max
  have hcap := h1.cap
  have kmax := k1.max
  have kcap := k1.cap
  have HLX := hid h1.len
  have HLY := hid k1.len
  obtain ⟨L, hL⟩ : ∃ L, L = max n m := ⟨_, rfl⟩
  have hL1 : n ≤ L := by omega
  have hL2 : m ≤ L := by omega
  have hL3 : L ≤ 900000 := by omega
  have hL4 : L ≤ n + m := by omega
  have HL := hid hL
  have htot : V 65536 xs + V 65536 ys < 65536 ^ (L + 1) := by
    have e1 := hx.lt
    have e2 := hy.lt
    rw [HLX.out] at e1
    rw [HLY.out] at e2
    have e3 : 65536 ^ n ≤ 65536 ^ L := Nat.pow_le_pow_right (by omega) (by omega)
    have e4 : 65536 ^ m ≤ 65536 ^ L := Nat.pow_le_pow_right (by omega) (by omega)
    rw [Nat.pow_succ]; omega
  have HT := hid htot
  have R1 := hid (fun W (h : IRd W .u16 p n c xs) i => refLimb_val p n c xs W h hx i)
  have R2 := hid (fun W (h : IRd W .u16 q m d ys) i => refLimb_val q m d ys W h hy i)
  clear hL htot
  go_enter Tryd.func62, Tryd.ntmps62
  go_wp2_with fail
  go_loopw [5, 6, 7] (fun s cy i wr => ∃ (k y : Nat) (p' : Option Addr) (c' : Nat) (zs : List Nat), k ≤ L + 1 ∧ i = .int .i64 k ∧ cy = .int .i64 y ∧ y ≤ 1 ∧ s = .slice p' k c' ∧ IOwn wr w.heap.size 37 .u16 p' k c' zs ∧ w.grownBy wr none ∧
      Hid (Dg 65536 zs ∧ V 65536 zs + 65536 ^ k * y = vk xs k + vk ys k)) (fun _ _ i _ => L + 1 - (intOf i).toNat)
  case atStart => exact ⟨0, 0, none, 0, [], by omega, rfl, rfl, by omega, rfl, IOwn.nil _ _ _ _, grown_refl _ _, hid ⟨Dg.nil, by simp [vk]⟩⟩
  case round =>
    obtain ⟨k, y, p', c', zs, hk, rfl, rfl, hy1, rfl, ho, hgr, HC⟩ := hrel
    by_cases hend : L ≤ k ∧ y = 0
    · obtain ⟨he1, rfl⟩ := hend
      have t1 : ¬ ((k : Int) < (n : Int)) := by omega
      have t2 : ¬ ((k : Int) < (m : Int)) := by omega
      have HN : Hid (IsN wr p' k c' (V 65536 xs + V 65536 ys)) := hid ⟨zs, ho.rd, HC.out.1, by
        have := HC.out.2
        rw [vk_all xs k (by rw [HLX.out]; omega), vk_all ys k (by rw [HLY.out]; omega)] at this
        simpa using this⟩
      go_wp2_with fail
      refine (refNorm_n HN.out (by omega)).mono ?_
      rintro e w' ⟨p2, n2, c2, rfl, hc, hn2, hg⟩
      go_wp2_with fail
      go_ret
      exact ⟨p2, n2, c2, rfl, hc, by omega, grown_trans hgr hg⟩
    · have hkL : k < L + 1 := by
        rcases Nat.lt_or_ge k (L + 1) with h | h
        · exact h
        · obtain rfl : k = L + 1 := by omega
          have hyp : y ≠ 0 := fun e => hend ⟨by omega, e⟩
          have := HC.out.2
          rw [vk_all xs _ (by rw [HLX.out]; omega), vk_all ys _ (by rw [HLY.out]; omega)] at this
          have := carry_place this HT.out hyp (by omega)
          omega
      have hx' := h1.keep hgr
      have hy' := k1.keep hgr
      have b1 := lb_lt hx k
      have b2 := lb_lt hy k
      have L1 := R1.out wr hx' k
      have L2 := R2.out wr hy' k
      have v1 := vk_succ xs k
      have v2 := vk_succ ys k
      generalize lb xs k = x at *
      generalize lb ys k = z at *
      have H1 := hid L1
      have H2 := hid L2
      have HV := hid (And.intro v1 v2)
      clear L1 L2 v1 v2
      have hcase : ((k : Int) < (n : Int)) ∨ (¬ ((k : Int) < (n : Int)) ∧ (k : Int) < (m : Int)) ∨ (¬ ((k : Int) < (n : Int)) ∧ ¬ ((k : Int) < (m : Int)) ∧ (0 : Int) < (y : Int)) := by
        have := HL.out
        have : L ≤ k → ¬ y = 0 := fun h e => hend ⟨h, e⟩
        omega
      clear hend
      have hmi : (x + z + y) % 65536 < 65536 := Nat.mod_lt _ (by omega)
      have hok : w.heap.size ≤ wr.heap.size := hgr.size
      have fin : ∀ zs', zs' = zs ++ [(x + z + y) % 65536] → Hid (Dg 65536 zs' ∧ V 65536 zs' + 65536 ^ (k + 1) * ((x + z + y) / 65536) = vk xs (k + 1) + vk ys (k + 1)) := by
        intro zs' e
        subst e
        refine hid ⟨HC.out.1.append (Dg.cons hmi Dg.nil), ?_⟩
        rw [V_snoc, HV.out.1, HV.out.2, ho.1, Nat.pow_succ, Nat.mul_assoc]
        have h2 := HC.out.2
        have h3 : 65536 ^ k * ((x + z + y) % 65536) + 65536 ^ k * (65536 * ((x + z + y) / 65536)) = 65536 ^ k * x + 65536 ^ k * z + 65536 ^ k * y := by
          rw [← Nat.mul_add, Nat.mod_add_div, Nat.mul_add, Nat.mul_add]
        omega
      have FIN := hid fin
      clear fin
      rcases hcase with t1 | ⟨t1, t2⟩ | ⟨t1, t2, t3⟩
      all_goals
        go_wp2_with (first
          | (go_at_call 91; (with_reducible refine (H1.out).mono ?_); rintro e w' ⟨rfl, rfl⟩)
          | (go_at_call 91; (with_reducible refine (H2.out).mono ?_); rintro e w' ⟨rfl, rfl⟩)
          | (with_reducible refine wl_append _ rfl (.tmp 34) (.tmp 38) 23 rfl 37 .u16 2 Tryd.underlying23 info16 w.heap.size _ _ _ zs rfl (ho.alloc _) _ 1 1 [(x + z + y) % 65536] rfl (one_rd _ _ _ _ _ (by first | rfl | (rw [IntKind.wrap_u16]; omega) | omega)) (by omega) (by omega) w (grown_trans hgr (World.grownBy_alloc _ _ _)) (Nat.le_refl _) (by simp; omega) ?_; intro p2 c2 w2 ho2 hg2))
        exact ⟨⟨k + 1, (x + z + y) / 65536, _, _, _, by omega, rfl, by congr 1, by omega, rfl, ho2, hg2, FIN.out _ rfl⟩, by simp [intOf]; omega⟩
end Go.Proofs.YtnfmjlomiihcnaaDoor

/-
  Contracts of the reference Sub.
-/
set_option linter.unusedVariables false
set_option linter.unusedSimpArgs false
namespace Go.Proofs.YtnfmjlomiihcnaaDoor
open Go.RowKit Nm

theorem refCmp_n {p q : Option Addr} {n c m d N M : Nat} {w : World} (hA : IsN w p n c N) (hB : IsN w q m d M) :
    Calls Tryd.prog 90 #[.slice p n c, .slice q m d] w fun e w' => e = .returned (.int .i64 (cmpI (N : Nat) (M : Nat))) ∧ w = w' := by
  obtain ⟨L, h1, h2, rfl⟩ := hA
  obtain ⟨K, k1, k2, rfl⟩ := hB
  exact refCmp_any p q n m c d L K w h1 k1 h2 k2

theorem refSub_e {p q : Option Addr} {n c m d N M : Nat} {w : World} (hA : IsN w p n c N) (hB : IsN w q m d M) (hlt : N < M) :
    Calls Tryd.prog 55 #[.slice p n c, .slice q m d] w fun e w' => e = .returned (.tuple #[.slice none 0 0, .int .i64 2]) ∧ w = w' := by
  have H1 := hid (refCmp_n hA hB)
  have HLT := hid (cmpI_lt hlt)
  clear hlt
  go_enter Tryd.func55, Tryd.ntmps55
  go_wp2_with fail
  refine H1.out.mono ?_
  rw [HLT.out]
  rintro e w' ⟨rfl, rfl⟩
  go_wp2_with fail
  go_ret2
  exact ⟨rfl, rfl⟩

set_option maxHeartbeats 2000000 in
theorem refSub_n {p q : Option Addr} {n c m d N M : Nat} {w : World} (hA : IsN w p n c N) (hB : IsN w q m d M) (hn : n ≤ 900000) (hle : M ≤ N) :
    Calls Tryd.prog 55 #[.slice p n c, .slice q m d] w fun e w' => ∃ p' n' c', e = .returned (.tuple #[.slice p' n' c', .int .i64 0]) ∧ IsC w' p' n' c' (N - M) ∧ n' ≤ n ∧ w.grownBy w' none := by
  have hc0 : 0 ≤ cmpI (N : Nat) (M : Nat) := by
    rcases Nat.lt_or_ge M N with h1 | h1
    · rw [cmpI_gt h1]; decide
    · rw [show N = M by omega, cmpI_eq]; decide
  have HC0 := hid (refCmp_n hA hB)
  generalize cmpI (N : Nat) (M : Nat) = s at *
  obtain ⟨xs, h1, hx, rfl⟩ := hA
  obtain ⟨ys, k1, hy, rfl⟩ := hB
  have hmax := h1.max
  have hcap := h1.cap
  have HLX := hid h1.len
  have HLY := hid k1.len
  have hxl := hx.lt
  rw [HLX.out] at hxl
  have hyt : vk ys n = V 65536 ys := by
    by_cases hm : ys.length ≤ n
    · exact vk_all ys n hm
    · unfold vk; rw [V_take_eq ys hy n (by omega), Nat.mod_eq_of_lt (by omega)]
  have HYT := hid hyt
  have HXL := hid hxl
  have HLE := hid hle
  have R1 := hid (fun W (h : IRd W .u16 p n c xs) i => refLimb_val p n c xs W h hx i)
  have R2 := hid (fun W (h : IRd W .u16 q m d ys) i => refLimb_val q m d ys W h hy i)
  clear hyt hxl hle
  go_enter Tryd.func55, Tryd.ntmps55
  go_wp2_with fail
  refine HC0.out.mono ?_
  rintro e w' ⟨rfl, rfl⟩
  go_wp2_with fail
  go_loopw [6, 7, 8] (fun s cy i wr => ∃ (k y : Nat) (p' : Option Addr) (c' : Nat) (zs : List Nat), k ≤ n ∧ i = .int .i64 k ∧ cy = .int .i64 y ∧ y ≤ 1 ∧ s = .slice p' k c' ∧ IOwn wr w.heap.size 37 .u16 p' k c' zs ∧ w.grownBy wr none ∧
      Hid (Dg 65536 zs ∧ V 65536 zs + vk ys k = vk xs k + 65536 ^ k * y)) (fun _ _ i _ => n - (intOf i).toNat)
  case atStart => exact ⟨0, 0, none, 0, [], by omega, rfl, rfl, by omega, rfl, IOwn.nil _ _ _ _, grown_refl _ _, hid ⟨Dg.nil, by simp [vk]⟩⟩
  case round =>
    obtain ⟨k, y, p', c', zs, hk, rfl, rfl, hy1, rfl, ho, hgr, HC⟩ := hrel
    by_cases hlt : k < n
    · have hx' := h1.keep hgr
      have hy' := k1.keep hgr
      have b1 := lb_lt hx k
      have b2 := lb_lt hy k
      have L1 := R1.out wr hx' k
      have L2 := R2.out wr hy' k
      have v1 := vk_succ xs k
      have v2 := vk_succ ys k
      generalize lb xs k = x at *
      generalize lb ys k = z at *
      have H1 := hid L1
      have H2 := hid L2
      have HV := hid (And.intro v1 v2)
      clear L1 L2 v1 v2
      have hok : w.heap.size ≤ wr.heap.size := hgr.size
      have t1 : (k : Int) < (n : Int) := by omega
      have fin : ∀ r b, r + (z + y) = x + 65536 * b → r < 65536 → Hid (Dg 65536 (zs ++ [r]) ∧ V 65536 (zs ++ [r]) + vk ys (k + 1) = vk xs (k + 1) + 65536 ^ (k + 1) * b) := by
        intro r b e hr
        refine hid ⟨HC.out.1.append (Dg.cons hr Dg.nil), ?_⟩
        rw [V_snoc, HV.out.1, HV.out.2, ho.1, Nat.pow_succ, Nat.mul_assoc]
        have h2 := HC.out.2
        have h3 : 65536 ^ k * (r + (z + y)) = 65536 ^ k * (x + 65536 * b) := by rw [e]
        rw [Nat.mul_add, Nat.mul_add, Nat.mul_add] at h3
        omega
      have FIN := hid fin
      clear fin
      by_cases hb : x < z + y
      · have t2 : (x : Int) - z - y < 0 := by omega
        go_wp2_with (first
          | (go_at_call 91; (with_reducible refine (H1.out).mono ?_); rintro e w' ⟨rfl, rfl⟩)
          | (go_at_call 91; (with_reducible refine (H2.out).mono ?_); rintro e w' ⟨rfl, rfl⟩)
          | (with_reducible refine wl_append _ rfl (.tmp 33) (.tmp 36) 23 rfl 37 .u16 2 Tryd.underlying23 info16 w.heap.size _ _ _ zs rfl (ho.alloc _) _ 1 1 [x + 65536 - z - y] rfl (one_rd _ _ _ _ _ (by first | rfl | (rw [IntKind.wrap_u16]; omega) | omega)) (by omega) (by omega) w (grown_trans hgr (World.grownBy_alloc _ _ _)) (Nat.le_refl _) (by simp; omega) ?_; intro p2 c2 w2 ho2 hg2))
        exact ⟨⟨k + 1, 1, _, _, _, by omega, rfl, rfl, by omega, rfl, ho2, hg2, FIN.out _ _ (by omega) (by omega)⟩, by simp [intOf]; omega⟩
      · have t2 : ¬ ((x : Int) - z - y < 0) := by omega
        go_wp2_with (first
          | (go_at_call 91; (with_reducible refine (H1.out).mono ?_); rintro e w' ⟨rfl, rfl⟩)
          | (go_at_call 91; (with_reducible refine (H2.out).mono ?_); rintro e w' ⟨rfl, rfl⟩)
          | (with_reducible refine wl_append _ rfl (.tmp 33) (.tmp 36) 23 rfl 37 .u16 2 Tryd.underlying23 info16 w.heap.size _ _ _ zs rfl (ho.alloc _) _ 1 1 [x - z - y] rfl (one_rd _ _ _ _ _ (by first | rfl | (rw [IntKind.wrap_u16]; omega) | omega)) (by omega) (by omega) w (grown_trans hgr (World.grownBy_alloc _ _ _)) (Nat.le_refl _) (by simp; omega) ?_; intro p2 c2 w2 ho2 hg2))
        exact ⟨⟨k + 1, 0, _, _, _, by omega, rfl, rfl, by omega, rfl, ho2, hg2, FIN.out _ _ (by omega) (by omega)⟩, by simp [intOf]; omega⟩
    · obtain rfl : k = n := by omega
      have HN : Hid (IsN wr p' k c' (V 65536 xs - V 65536 ys)) := hid ⟨zs, ho.rd, HC.out.1, by
        have h2 := HC.out.2
        rw [vk_all xs k (by rw [HLX.out]; omega), HYT.out] at h2
        have h3 := HC.out.1.lt
        rw [ho.1] at h3
        have h4 := HLE.out
        have h5 := HXL.out
        have : y = 0 := by
          rcases Nat.eq_zero_or_pos y with h | h
          · exact h
          · have := borrow_place h2 h4 h3 (by omega) (by omega); omega
        subst this
        simp at h2; omega⟩
      go_wp2_with fail
      refine (refNorm_n HN.out (by omega)).mono ?_
      rintro e w' ⟨p2, n2, c2, rfl, hc, hn2, hg⟩
      go_wp2_with fail
      go_ret2
      exact ⟨p2, n2, c2, rfl, hc, by omega, grown_trans hgr hg⟩
end Go.Proofs.YtnfmjlomiihcnaaDoor

/-
  Contract of the reference Mul.
-/
set_option linter.unusedVariables false
set_option linter.unusedSimpArgs false
namespace Go.Proofs.YtnfmjlomiihcnaaDoor
open Go.RowKit Nm

theorem mul_small (x z : Nat) (hx : x < 65536) (hz : z < 65536) : x * z ≤ 4294836225 := Nat.mul_le_mul (show x ≤ 65535 by omega) (show z ≤ 65535 by omega)

theorem vk_mul_lt (xs ys : List Nat) (hx : Dg 65536 xs) (hy : Dg 65536 ys) (i m : Nat) (hm : ys.length = m) : vk xs i * V 65536 ys < 65536 ^ (i + m) := by
  have h1 : vk xs i < 65536 ^ i := by
    unfold vk
    exact Nat.lt_of_lt_of_le (hx.take i).lt (Nat.pow_le_pow_right (by omega) (by rw [List.length_take]; omega))
  have h2 := hy.lt
  rw [hm] at h2
  rw [Nat.pow_add]
  exact Nat.mul_lt_mul'' h1 h2

set_option maxHeartbeats 4000000 in
theorem refMul_n {p q : Option Addr} {n c m d N M : Nat} {w : World} (hA : IsN w p n c N) (hB : IsN w q m d M) (hn : n ≤ 400000) (hm : m ≤ 400000) :
    Calls Tryd.prog 56 #[.slice p n c, .slice q m d] w fun e w' => ∃ p' n' c', e = .returned (.slice p' n' c') ∧ IsC w' p' n' c' (N * M) ∧ n' ≤ n + m + 1 ∧ w.grownBy w' none := by
  obtain ⟨xs, h1, hx, rfl⟩ := hA
  obtain ⟨ys, k1, hy, rfl⟩ := hB
  have hmax := h1.max
  have hcap := h1.cap
  have HLX := hid h1.len
  have HLY := hid k1.len
  have R2 := hid (fun W (h : IRd W .u16 q m d ys) i => refLimb_val q m d ys W h hy i)
  have HVL := hid (fun i => vk_mul_lt xs ys hx hy i m HLY.out)
  obtain ⟨Y, hY⟩ : ∃ Y, Y = V 65536 ys := ⟨_, rfl⟩
  have HY := hid hY
  clear hY
  obtain ⟨g, hg⟩ : ∃ g, g = w.heap.size := ⟨_, rfl⟩
  go_enter Tryd.func56, Tryd.ntmps56
  go_wp2_with (at_make; refine wl_make _ rfl _ _ 23 rfl 37 .u16 2 Tryd.underlying23 (by kernel_rfl) _ _ _ _ rfl rfl (n + m + 1) (by omega) (by omega) (by omega) (by omega) ?_; intro w1 hr1 hg1)
  rw [← hg] at hr1 ⊢
  have HG := hid hg
  clear hg
  go_loopw [6] (fun i wr => ∃ (k : Nat) (cur : List Nat), k ≤ n ∧ i = .int .i64 k ∧ IRow wr g 37 .u16 cur ∧ w1.grownBy wr (some g) ∧ Hid (cur.length = n + m + 1 ∧ Dg 65536 cur ∧ V 65536 cur = vk xs k * Y)) (fun i _ => n - (intOf i).toNat)
  case atStart => exact ⟨0, _, Nat.zero_le _, rfl, hr1, grown_refl _ _, hid ⟨by simp, Dg.zeros (by omega) _, by simp [V_zeros, vk]⟩⟩
  case round =>
    obtain ⟨i, cur, hi, rfl, hrow, hgr, HC⟩ := hrel
    by_cases hlt : i < n
    · have hiu : i < xs.length := by rw [HLX.out]; exact hlt
      obtain ⟨b, o, rfl, hc1⟩ := h1.cel i hiu
      have hbl := World.block_lt_of_cell? _ _ hc1
      obtain ⟨x, hx'⟩ : ∃ x, x = xs[i] := ⟨_, rfl⟩
      rw [← hx'] at hc1
      have hxb : x < 65536 := by rw [hx']; exact hx.get i hiu
      have HX : Hid (vk xs (i + 1) = vk xs i + 65536 ^ i * x) := hid (by rw [vk_succ, hx']; unfold lb; rw [List.getElem?_eq_getElem hiu]; rfl)
      clear hx'
      have ti : (i : Int) < (n : Int) := by omega
      go_wp2_with fail
      go_loopw [7, 8] (fun cy s wq => ∃ (k y : Nat) (cu : List Nat), k ≤ m + 1 ∧ s = .int .i64 k ∧ cy = .int .u64 y ∧ y < 65536 ∧ IRow wq g 37 .u16 cu ∧ w1.grownBy wq (some g) ∧
          Hid (cu.length = n + m + 1 ∧ Dg 65536 cu ∧ V 65536 cu + 65536 ^ (i + k) * y = vk xs i * Y + 65536 ^ i * (x * vk ys k))) (fun _ s _ => m + 1 - (intOf s).toNat)
      case atStart => exact ⟨0, 0, cur, by omega, rfl, rfl, by omega, hrow, hgr, hid ⟨HC.out.1, HC.out.2.1, by rw [HC.out.2.2]; simp [vk]⟩⟩
      case round =>
        obtain ⟨k, y, cu, hk, rfl, rfl, hyb, hrow, hgr, HC⟩ := hrel
        by_cases hend : m ≤ k ∧ y = 0
        · obtain ⟨he1, rfl⟩ := hend
          have t1 : ¬ ((k : Int) < (m : Int)) := by omega
          go_wp2
          refine ⟨⟨i + 1, cu, by omega, rfl, hrow, hgr, hid ⟨HC.out.1, HC.out.2.1, ?_⟩⟩, by simp [intOf]; omega⟩
          have h2 := HC.out.2.2
          rw [vk_all ys k (by rw [HLY.out]; exact he1), ← HY.out, Nat.mul_zero, Nat.add_zero] at h2
          rw [h2, HX.out, Nat.add_mul, Nat.mul_assoc]
        · have hkm : k < m + 1 := by
            rcases Nat.lt_or_ge k (m + 1) with h | h
            · exact h
            · obtain rfl : k = m + 1 := by omega
              have hyp : y ≠ 0 := fun e => hend ⟨by omega, e⟩
              have h2 := HC.out.2.2
              rw [vk_all ys _ (by rw [HLY.out]; omega), ← HY.out, ← Nat.mul_assoc, ← Nat.add_mul, ← HX.out] at h2
              have h3 := HVL.out (i + 1)
              rw [← HY.out] at h3
              have := carry_place h2 h3 hyp (by omega)
              omega
          have hcl : i + k < cu.length := by rw [HC.out.1]; omega
          have hcc := hrow.cell (i + k) hcl
          have hfr := hrow.free (i + k)
          obtain ⟨t, ht⟩ : ∃ t, t = cu[i + k] := ⟨_, rfl⟩
          rw [← ht] at hcc
          have htb : t < 65536 := by rw [ht]; exact HC.out.2.1.get _ hcl
          have HTT := hid ht
          have hgw : w.grownBy wr none := grown_new hg1 hgr (fun g' e' => by cases e'; rw [HG.out]; exact Nat.le_refl _)
          have hca := hgw.cell hc1 (by simp)
          have b2 := lb_lt hy k
          have L2 := fun W h => R2.out W h k
          have v2 := vk_succ ys k
          generalize lb ys k = z at *
          have hyw := k1.keep hgw
          have H2 := hid L2
          have HV2 := hid v2
          clear ht L2 v2
          have hm1 := mul_small x z hxb b2
          have hm2 : (x : Int) * (z : Int) ≤ 4294836225 := by rw [← Int.natCast_mul]; omega
          have hm3 : (0 : Int) ≤ (x : Int) * (z : Int) := by rw [← Int.natCast_mul]; omega
          have hcase : ((k : Int) < (m : Int)) ∨ (¬ ((k : Int) < (m : Int)) ∧ (0 : Int) < (y : Int)) := by
            have : m ≤ k → ¬ y = 0 := fun h e => hend ⟨h, e⟩
            omega
          have hik : (0 : Int) ≤ (i : Int) + k := by omega
          have hik2 : (i : Int) + k < (n : Int) + m + 1 := by omega
          clear hend
          rcases hcase with t1 | ⟨t1, t2⟩
          all_goals
            go_wp2
            go_quiet ((go_at_call 91; exact quiet_same (H2.out _ (hyw.keep (grown_drewN _ _ _)))))
            go_wp2
            have e0 : (t : Int) + (x : Int) * z + y = ((t + x * z + y : Nat) : Int) := by simp
            have hs := step_add (B := 65536) cu (i + k) ((t + x * z + y) % 65536) ((t + x * z + y) / 65536) (x * z + y) hcl (by rw [← HTT.out]; omega)
            refine ⟨⟨k + 1, (t + x * z + y) / 65536, _, by omega, rfl, ?_, by omega, hrow.setv _ _ ((t + x * z + y) % 65536) ?_, grown_trans (gdN hgr _) (grown_setCell _ _ _), hid ⟨by simpa using HC.out.1, HC.out.2.1.set _ _ (Nat.mod_lt _ (by omega)), ?_⟩⟩, by simp [intOf]; omega⟩
            · congr 1
            · omega
            · have h2 := HC.out.2.2
              have e1 : 65536 ^ i * (65536 ^ k * (x * z)) = 65536 ^ (i + k) * (x * z) := by rw [← Nat.mul_assoc, ← Nat.pow_add]
              rw [HV2.out, Nat.mul_add x, Nat.mul_add (65536 ^ i), Nat.mul_left_comm x, e1]
              rw [Nat.mul_add (65536 ^ (i + k)) (x * z) y] at hs
              rw [show i + (k + 1) = i + k + 1 by omega]
              omega
    · obtain rfl : i = n := by omega
      have HN : Hid (IsN wr (some ⟨g, 0, none⟩) (i + m + 1) (i + m + 1) (V 65536 xs * V 65536 ys)) := hid ⟨cur, by have := hrow.rd0 (by rw [HC.out.1]; omega); rwa [HC.out.1] at this, HC.out.2.1, by
        rw [HC.out.2.2, vk_all xs i (by rw [HLX.out]; exact Nat.le_refl _), HY.out]⟩
      go_wp2_with fail
      refine (refNorm_n HN.out (by omega)).mono ?_
      rintro e w' ⟨p2, n2, c2, rfl, hc, hn2, hg⟩
      go_wp2_with fail
      go_ret
      exact ⟨p2, n2, c2, rfl, hc, by omega, grown_trans (grown_new hg1 hgr (fun g' e' => by cases e'; rw [HG.out]; exact Nat.le_refl _)) hg⟩
end Go.Proofs.YtnfmjlomiihcnaaDoor

/-
  Contracts of the reference of integers: of, Norm, Neg, Mul, Add, Sub.
-/
set_option linter.unusedVariables false
set_option linter.unusedSimpArgs false
namespace Go.Proofs.YtnfmjlomiihcnaaDoor
open Go.RowKit Nm

theorem IsC.pos_len {w : World} {p : Option Addr} {n c N : Nat} (hA : IsC w p n c N) : decide (0 < n) = decide (0 < N) := by
  have hn : n = 0 ↔ N = 0 := by
    rw [← hA.len]
    constructor
    · intro h
      have h2 : dg 65536 N = [] := List.eq_nil_of_length_eq_zero h
      have := V_dg (B := 65536) (by omega) N
      rw [h2] at this; exact this.symm
    · rintro rfl; rfl
  by_cases h : 0 < n
  · rw [decide_eq_true h, decide_eq_true (by omega)]
  · rw [decide_eq_false h, decide_eq_false (by omega)]

theorem IsI.mk {w : World} {p : Option Addr} {n c N : Nat} (hA : IsC w p n c N) (g : Bool) : IsI w (g && decide (0 < n)) p n c (sg g N) :=
  ⟨by rw [sg_abs]; exact hA, by rw [hA.pos_len]; exact (sg_neg g N).symm⟩

set_option maxHeartbeats 2000000 in
theorem rOf_any {w : World} {p : Option Addr} {n c N : Nat} (g : Bool) (hA : IsN w p n c N) (hn : n ≤ 4000000) :
    Calls Tryd.prog 76 #[.bool g, .slice p n c] w (IPost w (sg g N) n) := by
  have hg1 := World.grownBy_alloc w (.cells #[.bool false, .slice none 0 0] 43) none
  cases g
  all_goals
    go_enter Tryd.func76, Tryd.ntmps76
    go_wp2_with fail
    refine (refNorm_n (hA.keep hg1) hn).mono ?_
    rintro e w1 ⟨p1, n1, c1, rfl, h1, hn1, hg⟩
    have hc1 := gcell hg
    have hf1 := gfree hg
    have hz1 := hg.size
    simp at hz1
  · have FIN := hid (IsI.mk h1 false)
    go_wp2_with fail
    exact bodyPost_ret (v := .agg #[.bool false, .slice p1 n1 c1]) (by simp [results, Tryd.results76, go_sem, hc1]) rfl (IPost.close hg1 (heap_alloc_new w _) (by omega) hg FIN.out hn1)
  · have FIN := hid (IsI.mk h1 true)
    go_wp2_with fail
    exact bodyPost_ret (v := .agg #[.bool (decide (0 < n1)), .slice p1 n1 c1]) (by simp [results, Tryd.results76, go_sem, hc1]) rfl (IPost.close hg1 (heap_alloc_new w _) (by omega) hg (by simpa using FIN.out) hn1)

set_option maxHeartbeats 2000000 in
theorem rNorm_any {w : World} {p : Option Addr} {n c : Nat} {g : Bool} {Z : Int} (hA : IsZ w g p n c Z) (hn : n ≤ 400000) :
    Calls Tryd.prog 78 #[.agg #[.bool g, .slice p n c]] w (IPost w Z n) := by
  have hg2 := grown_trans (World.grownBy_alloc w (.cells #[.bool g, .slice p n c] 43) none) (World.grownBy_alloc _ (.cells #[.bool false, .slice none 0 0] 43) none)
  go_enter Tryd.func78, Tryd.ntmps78
  go_wp2_with fail
  refine (rOf_any g (hA.1.keep hg2) (by omega)).mono ?_
  rintro e w1 ⟨g1, p1, n1, c1, rfl, h1, hn1, hg⟩
  rw [sg_z hA] at h1
  have hc1 := gcell hg
  have hf1 := gfree hg
  have hz1 := hg.size
  simp at hz1
  go_wp2_with fail
  exact bodyPost_ret (v := .agg #[.bool g1, .slice p1 n1 c1]) (by simp [results, Tryd.results78, go_sem, hc1]) rfl (IPost.close hg2 (second w _ _) (by omega) hg h1 hn1)


theorem mul_sgn {w : World} {ga gb : Bool} {p q : Option Addr} {n c m d : Nat} {X Y : Int} (hA : IsZ w ga p n c X) (hB : IsZ w gb q m d Y) : sg (ga != gb) (X.natAbs * Y.natAbs) = X * Y := by
  have h1 := sg_z hA
  have h2 := sg_z hB
  generalize X.natAbs = N at *
  generalize Y.natAbs = M at *
  subst h1; subst h2
  cases ga <;> cases gb <;> simp [sg, Int.neg_mul, Int.mul_neg]



end Go.Proofs.YtnfmjlomiihcnaaDoor
