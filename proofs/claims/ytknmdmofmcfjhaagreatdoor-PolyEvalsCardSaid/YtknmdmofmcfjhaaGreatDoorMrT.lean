/-
  RatT RatW RatYY RatR RatS RatU, in one text.
-/
import Derived.Test.YtknmdmofmcfjhaaGreatDoorMrR
import Derived.Deep.DeepCutAuto
import Derived.Lib.SmallJoins

set_option linter.unusedVariables false
set_option linter.unusedSimpArgs false
namespace Go.Proofs.YtknmdmofmcfjhaaGreatDoor
open Go.RowKit Nm


set_option maxHeartbeats 1000000 in
theorem same_ne (a b : Option Addr) (n c d : Nat) (xs ys : List Nat) (w : World) (h : IRd w .u16 a n c xs) (k : IRd w .u16 b n d ys) (hne : xs ≠ ys) :
    Calls Tryz.prog 74 #[.slice a n c, .slice b n d] w fun e w' => e = .returned (.bool false) ∧ w.grownBy w' none := by
  have hmax := h.max
  have hcap := h.cap
  have HL := hid h.len
  have HK := hid k.len
  have HN := hid hne
  clear hne
  go_enter Tryz.func74, Tryz.ntmps74
  go_wp2_with fail
  go_loopw [5] (fun i wr => ∃ j : Nat, j ≤ n ∧ i = .int .i64 j ∧ w.grownBy wr none ∧ Hid (∀ l, l < j → xs[l]? = ys[l]?)) (fun i _ => n - (intOf i).toNat)
  case atStart => exact ⟨0, Nat.zero_le _, rfl, grown_refl _ _, hid fun l h => by omega⟩
  case round =>
    obtain ⟨i, hi, rfl, hgr, HE⟩ := hrel
    by_cases hlt : i < n
    · have hiu : i < xs.length := by rw [HL.out]; exact hlt
      have hiv : i < ys.length := by rw [HK.out]; exact hlt
      obtain ⟨b1, o1, rfl, hc1⟩ := h.cel i hiu
      obtain ⟨b2, o2, rfl, hc2⟩ := k.cel i hiv
      have hd1 := hgr.cell hc1 (by simp)
      have hd2 := hgr.cell hc2 (by simp)
      have e1 := hid (show xs[i]? = some xs[i] by simp [hiu])
      have e2 := hid (show ys[i]? = some ys[i] by simp [hiv])
      generalize xs[i] = x at *
      generalize ys[i] = y at *
      clear hc1 hc2
      have hi0 : (0 : Int) ≤ (i : Int) := by omega
      have hil : (i : Int) < (n : Int) := by omega
      by_cases hxy : x = y
      · subst hxy
        go_wp2
        go_quiet (fail)
        go_wp2
        refine ⟨⟨i + 1, by omega, rfl, gdN hgr _, hid fun l hl => ?_⟩, by simp [intOf]; omega⟩
        by_cases e : l = i
        · subst e; rw [e1.out, e2.out]
        · exact HE.out l (by omega)
      · have hb : (((x : Int) != (y : Int)) = true) := by simp; omega
        go_wp2
        go_quiet (fail)
        go_wp2
        go_ret
        exact ⟨rfl, gdN hgr _⟩
    · obtain rfl : i = n := by omega
      exact absurd (List.ext_getElem? fun l => by
        by_cases hl : l < i
        · exact HE.out l hl
        · rw [List.getElem?_eq_none (by have := HL.out; omega), List.getElem?_eq_none (by have := HK.out; omega)]) HN.out

theorem same_d {w : World} {p q : Option Addr} {n c m d N M : Nat} (hA : IsC w p n c N) (hB : IsC w q m d M) :
    Calls Tryz.prog 74 #[.slice p n c, .slice q m d] w fun e w' => e = .returned (.bool (decide (N = M))) ∧ w.grownBy w' none := by
  by_cases e : N = M
  · rw [decide_eq_true e]; exact same_c hA hB e
  rw [decide_eq_false e]
  by_cases hl : n = m
  · subst hl
    refine same_ne p q n c d _ _ w hA hB (fun h => e ?_)
    rw [← V_dg (B := 65536) (by omega) N, h, V_dg (by omega)]
  · have hmax := IRd.max hA
    have hmax2 := IRd.max hB
    have t0 : (((n : Int) != (m : Int)) = true) := by simp; omega
    go_enter Tryz.func74, Tryz.ntmps74
    go_wp2
    go_ret
    exact ⟨rfl, grown_refl _ _⟩

end Go.Proofs.YtknmdmofmcfjhaaGreatDoor

set_option linter.unusedVariables false
set_option linter.unusedSimpArgs false
namespace Go.Proofs.YtknmdmofmcfjhaaGreatDoor
open Go.RowKit Nm

theorem Can_of_top {xs : List Nat} (hx : Dg 65536 xs) {top : Nat} (htl : top < xs.length) (hl : xs.length = top + 1) (h : xs[top] ≠ 0) : Nm.Can 65536 xs := by
  rw [show xs = trimR xs from ?_]
  · exact Can_trimR hx
  · have e : xs = xs.take top ++ [xs[top]] := by
      rw [← List.take_succ_eq_append_getElem htl, List.take_of_length_le (by omega)]
    rw [e, trimR_snoc h]
theorem IsC.of_top {w : World} {p : Option Addr} {c : Nat} {xs : List Nat} {top : Nat} (hA : IRd w .u16 p (top + 1) c xs) (hx : Dg 65536 xs) (htl : top < xs.length) (hl : xs.length = top + 1) (h : xs[top] ≠ 0) : IsC w p (top + 1) c (V 65536 xs) := by
  have := eq_dg (B := 65536) (by omega) (Can_of_top hx htl hl h)
  unfold IsC
  rw [← this]
  exact hA
theorem IsI.of_top {w : World} {g : Bool} {p : Option Addr} {c : Nat} {xs : List Nat} {top : Nat} (hA : IRd w .u16 p (top + 1) c xs) (hx : Dg 65536 xs) (htl : top < xs.length) (hl : xs.length = top + 1) (h : xs[top] ≠ 0) : IsI w g p (top + 1) c (sg g (V 65536 xs)) := by
  have hC := IsC.of_top hA hx htl hl h
  have hp : 0 < V 65536 xs := by
    rcases hC.zero_len with ⟨h1, _⟩ | ⟨_, h1⟩
    · omega
    · exact h1
  refine ⟨by rw [sg_abs]; exact hC, ?_⟩
  rw [sg_neg, decide_eq_true hp]
  simp
theorem IsV.of_cop {w : World} {g : Bool} {p q : Option Addr} {n c m d D : Nat} {N : Int} (h1 : IsI w g p n c N) (h2 : IsC w q m d D) (hD : 0 < D) (hg : Nat.gcd N.natAbs D = 1) : IsV w g p n c q m d (mkRat N D) :=
  ⟨by rw [← rn_q hD, rn_one hg]; exact h1, by rw [← rd_q hD, rd_one hg]; exact h2⟩
set_option maxHeartbeats 2000000 in
theorem right_full {w : World} (g : Bool) {p : Option Addr} {n c : Nat} {xs : List Nat} (hA : IRd w .u16 p n c xs) (hx : Dg 65536 xs) :
    ∃ v : Bool, (∀ W, w.grownBy W none → Calls Tryz.prog 119 #[.agg #[.bool g, .slice p n c]] W fun e w' => e = .returned (.bool v) ∧ W.grownBy w' none) ∧
      (∀ W, w.grownBy W none → Calls Tryz.prog 72 #[.agg #[.bool g, .slice p n c]] W fun e w' => e = .returned (.bool v) ∧ W.grownBy w' none) ∧ (v = true → IsI w g p n c (sg g (V 65536 xs))) := by
  have hmax := hA.max
  have hcap := hA.cap
  by_cases h0 : n = 0
  · subst h0
    have hnil : xs = [] := List.eq_nil_of_length_eq_zero hA.len
    refine ⟨!g, fun W hW => ?_, fun W hW => ?_, fun h => ?_⟩
    rotate_left 2
    · subst hnil
      have hg : g = false := by simpa using h
      subst hg
      exact ⟨hA, by simp [sg]⟩
    · have hgb := World.grownBy_alloc W (.cells #[.bool g, .slice p 0 c] 27) none
      clear hW
      cases g
      all_goals
        go_enter Tryz.func119, Tryz.ntmps119
        go_wp2
        go_ret
        exact ⟨rfl, hgb⟩
    · have hgb := World.grownBy_alloc W (.cells #[.bool g, .slice p 0 c] 27) none
      clear hW
      cases g
      all_goals
        go_enter Tryz.func72, Tryz.ntmps72
        go_wp2
        go_ret
        exact ⟨rfl, hgb⟩
  · obtain ⟨top, rfl⟩ : ∃ top, n = top + 1 := ⟨n - 1, by omega⟩
    have hlen := hA.len
    have htl : top < xs.length := by omega
    have hcan : xs[top] ≠ 0 → IsI w g p (top + 1) c (sg g (V 65536 xs)) := fun h => IsI.of_top hA hx htl hlen h
    obtain ⟨b, o, rfl, hc⟩ := IRd.cel hA top htl
    have hb := World.block_lt_of_cell? _ _ hc
    obtain ⟨t, ht⟩ : ∃ t, t = xs[top] := ⟨_, rfl⟩
    rw [← ht] at hc hcan
    clear ht h0 hlen hA
    by_cases h0 : t = 0
    · subst h0
      refine ⟨false, fun W hW => ?_, fun W hW => ?_, fun h => by cases h⟩
      · have hgb := World.grownBy_alloc W (.cells #[.bool g, .slice (some ⟨b, o, none⟩) (top + 1) c] 27) none
        have hc2 := hgb.cell (hW.cell hc (by simp)) (by simp)
        clear hW hc hb
        go_enter Tryz.func119, Tryz.ntmps119
        go_wp2
        go_ret
        exact ⟨rfl, hgb⟩
      · have hgb := World.grownBy_alloc W (.cells #[.bool g, .slice (some ⟨b, o, none⟩) (top + 1) c] 27) none
        have hc2 := hgb.cell (hW.cell hc (by simp)) (by simp)
        clear hW hc hb
        go_enter Tryz.func72, Tryz.ntmps72
        go_wp2
        go_ret
        exact ⟨rfl, hgb⟩
    · have hne : (((t : Int) != 0) = true) := by simp; omega
      have hcan2 := hid (hcan h0)
      clear h0 hcan
      refine ⟨true, fun W hW => ?_, fun W hW => ?_, fun _ => hcan2.out⟩
      · have hgb := World.grownBy_alloc W (.cells #[.bool g, .slice (some ⟨b, o, none⟩) (top + 1) c] 27) none
        have hc2 := hgb.cell (hW.cell hc (by simp)) (by simp)
        clear hW hc hb
        go_enter Tryz.func119, Tryz.ntmps119
        go_wp2
        go_ret
        exact ⟨rfl, hgb⟩
      · have hgb := World.grownBy_alloc W (.cells #[.bool g, .slice (some ⟨b, o, none⟩) (top + 1) c] 27) none
        have hc2 := hgb.cell (hW.cell hc (by simp)) (by simp)
        clear hW hc hb
        cases g
        all_goals
          go_enter Tryz.func72, Tryz.ntmps72
          go_wp2
          go_ret
          exact ⟨rfl, hgb⟩

set_option maxHeartbeats 2000000 in
theorem valid_full {w : World} {p : Option Addr} {n c : Nat} {xs : List Nat} (hA : IRd w .u16 p n c xs) (hx : Dg 65536 xs) :
    ∃ v : Bool, (∀ W, w.grownBy W none → Calls Tryz.prog 119 #[.agg #[.bool false, .slice p n c]] W fun e w' => e = .returned (.bool v) ∧ W.grownBy w' none) ∧
      (∀ W, w.grownBy W none → Calls Tryz.prog 73 #[.slice p n c] W fun e w' => e = .returned (.bool v) ∧ W.grownBy w' none) ∧ (v = true → IsC w p n c (V 65536 xs)) := by
  have hmax := hA.max
  have hcap := hA.cap
  by_cases h0 : n = 0
  · subst h0
    have hnil : xs = [] := List.eq_nil_of_length_eq_zero hA.len
    refine ⟨true, fun W hW => ?_, fun W hW => ?_, fun _ => by subst hnil; exact hA⟩
    · have hgb := World.grownBy_alloc W (.cells #[.bool false, .slice p 0 c] 27) none
      clear hW
      go_enter Tryz.func119, Tryz.ntmps119
      go_wp2
      go_ret
      exact ⟨rfl, hgb⟩
    · have hgb := grown_refl W none
      clear hW
      go_enter Tryz.func73, Tryz.ntmps73
      go_wp2
      go_ret
      exact ⟨rfl, hgb⟩
  · obtain ⟨top, rfl⟩ : ∃ top, n = top + 1 := ⟨n - 1, by omega⟩
    have hlen := hA.len
    have htl : top < xs.length := by omega
    have hpos : xs[top] ≠ 0 → IsC w p (top + 1) c (V 65536 xs) := fun h => IsC.of_top hA hx htl hlen h
    obtain ⟨b, o, rfl, hc⟩ := IRd.cel hA top htl
    have hb := World.block_lt_of_cell? _ _ hc
    obtain ⟨t, ht⟩ : ∃ t, t = xs[top] := ⟨_, rfl⟩
    rw [← ht] at hc hpos
    clear ht h0 hlen hA
    by_cases h0 : t = 0
    · subst h0
      refine ⟨false, fun W hW => ?_, fun W hW => ?_, fun h => by cases h⟩
      · have hgb := World.grownBy_alloc W (.cells #[.bool false, .slice (some ⟨b, o, none⟩) (top + 1) c] 27) none
        have hc2 := hgb.cell (hW.cell hc (by simp)) (by simp)
        clear hW hc hb
        go_enter Tryz.func119, Tryz.ntmps119
        go_wp2
        go_ret
        exact ⟨rfl, hgb⟩
      · have hgb := grown_refl W none
        have hc2 := hW.cell hc (by simp)
        clear hW hc hb
        go_enter Tryz.func73, Tryz.ntmps73
        go_wp2
        go_ret
        exact ⟨rfl, hgb⟩
    · have hne : (((t : Int) != 0) = true) := by simp; omega
      have hp2 := hid (hpos h0)
      clear hpos
      refine ⟨true, fun W hW => ?_, fun W hW => ?_, fun _ => hp2.out⟩
      · have hgb := World.grownBy_alloc W (.cells #[.bool false, .slice (some ⟨b, o, none⟩) (top + 1) c] 27) none
        have hc2 := hgb.cell (hW.cell hc (by simp)) (by simp)
        clear h0 hW hc hb
        go_enter Tryz.func119, Tryz.ntmps119
        go_wp2
        go_ret
        exact ⟨rfl, hgb⟩
      · have hgb := grown_refl W none
        have hc2 := hW.cell hc (by simp)
        clear h0 hW hc hb
        go_enter Tryz.func73, Tryz.ntmps73
        go_wp2
        go_ret
        exact ⟨rfl, hgb⟩

set_option maxRecDepth 20000 in
set_option maxHeartbeats 4000000 in
theorem ratRight_f1 {w : World} {g1 : Bool} {p1 q1 : Option Addr} {n1 c1 m1 d1 : Nat} (H1 : ∀ W, w.grownBy W none → Calls Tryz.prog 119 #[.agg #[.bool g1, .slice p1 n1 c1]] W fun e w' => e = .returned (.bool false) ∧ W.grownBy w' none) :
    Calls Tryz.prog 62 #[.agg #[.bool g1, .slice p1 n1 c1, .slice q1 m1 d1]] w fun e w' => e = .returned (.bool false) ∧ w.grownBy w' none := by
  have HH1 := hid H1
  clear H1
  have hW := (World.grownBy_alloc w (.cells #[.bool g1, .slice p1 n1 c1, .slice q1 m1 d1] 29) none)
  have bx0 : (w.alloc (.cells #[.bool g1, .slice p1 n1 c1, .slice q1 m1 d1] 29)).heap[w.heap.size]? = some (.cells #[.bool g1, .slice p1 n1 c1, .slice q1 m1 d1] 29 (0, 0)) := by
    have := heap_alloc_new w (.cells #[.bool g1, .slice p1 n1 c1, .slice q1 m1 d1] 29)
    simpa using this
  obtain ⟨x0, x1, x2, _, _, _⟩ := ratbox_facts bx0
  clear bx0
  skip
  go_enter Tryz.func62, Tryz.ntmps62
  go_wp2_with fail
  generalize (w.alloc (.cells #[.bool g1, .slice p1 n1 c1, .slice q1 m1 d1] 29)) = w0 at *
  refine (wholeS_any _ _ _).mono ?_
  rintro ee v1 ⟨rfl, hg⟩
  replace x0 := hg.cell x0 (by simp); replace x1 := hg.cell x1 (by simp); replace x2 := hg.cell x2 (by simp); replace hW := grown_trans hW hg
  clear hg
  have hg := World.grownBy_alloc v1 (.cells #[.bool false, .slice q1 m1 d1] 27) none
  have hb := heap_alloc_new v1 (.cells #[.bool false, .slice q1 m1 d1] 27)
  replace x0 := hg.cell x0 (by simp); replace x1 := hg.cell x1 (by simp); replace x2 := hg.cell x2 (by simp); replace hW := grown_trans hW hg
  obtain ⟨z0, z1, _, _⟩ := intbox_facts hb
  clear hg hb
  go_wp2_with fail
  generalize v1.alloc (.cells #[.bool false, .slice q1 m1 d1] 27) = u1 at *
  generalize v1.heap.size = K1 at *
  refine (HH1.out _ hW).mono ?_
  rintro ee v2 ⟨rfl, hg⟩
  replace x0 := hg.cell x0 (by simp); replace x1 := hg.cell x1 (by simp); replace x2 := hg.cell x2 (by simp); replace z0 := hg.cell z0 (by simp)
  replace z1 := hg.cell z1 (by simp); replace hW := grown_trans hW hg
  clear hg
  go_wp2_with fail
  go_ret
  exact ⟨rfl, hW⟩

set_option maxRecDepth 20000 in
set_option maxHeartbeats 4000000 in
theorem ratRight_f2 {w : World} {g1 : Bool} {p1 q1 : Option Addr} {n1 c1 m1 d1 : Nat} (H1 : ∀ W, w.grownBy W none → Calls Tryz.prog 119 #[.agg #[.bool g1, .slice p1 n1 c1]] W fun e w' => e = .returned (.bool true) ∧ W.grownBy w' none) (H2 : ∀ W, w.grownBy W none → Calls Tryz.prog 119 #[.agg #[.bool false, .slice q1 m1 d1]] W fun e w' => e = .returned (.bool false) ∧ W.grownBy w' none) :
    Calls Tryz.prog 62 #[.agg #[.bool g1, .slice p1 n1 c1, .slice q1 m1 d1]] w fun e w' => e = .returned (.bool false) ∧ w.grownBy w' none := by
  have HH1 := hid H1
  have HH2 := hid H2
  clear H1 H2
  have hW := (World.grownBy_alloc w (.cells #[.bool g1, .slice p1 n1 c1, .slice q1 m1 d1] 29) none)
  have bx0 : (w.alloc (.cells #[.bool g1, .slice p1 n1 c1, .slice q1 m1 d1] 29)).heap[w.heap.size]? = some (.cells #[.bool g1, .slice p1 n1 c1, .slice q1 m1 d1] 29 (0, 0)) := by
    have := heap_alloc_new w (.cells #[.bool g1, .slice p1 n1 c1, .slice q1 m1 d1] 29)
    simpa using this
  obtain ⟨x0, x1, x2, _, _, _⟩ := ratbox_facts bx0
  clear bx0
  skip
  go_enter Tryz.func62, Tryz.ntmps62
  go_wp2_with fail
  generalize (w.alloc (.cells #[.bool g1, .slice p1 n1 c1, .slice q1 m1 d1] 29)) = w0 at *
  refine (wholeS_any _ _ _).mono ?_
  rintro ee v1 ⟨rfl, hg⟩
  replace x0 := hg.cell x0 (by simp); replace x1 := hg.cell x1 (by simp); replace x2 := hg.cell x2 (by simp); replace hW := grown_trans hW hg
  clear hg
  have hg := World.grownBy_alloc v1 (.cells #[.bool false, .slice q1 m1 d1] 27) none
  have hb := heap_alloc_new v1 (.cells #[.bool false, .slice q1 m1 d1] 27)
  replace x0 := hg.cell x0 (by simp); replace x1 := hg.cell x1 (by simp); replace x2 := hg.cell x2 (by simp); replace hW := grown_trans hW hg
  obtain ⟨z0, z1, _, _⟩ := intbox_facts hb
  clear hg hb
  go_wp2_with fail
  generalize v1.alloc (.cells #[.bool false, .slice q1 m1 d1] 27) = u1 at *
  generalize v1.heap.size = K1 at *
  refine (HH1.out _ hW).mono ?_
  rintro ee v2 ⟨rfl, hg⟩
  replace x0 := hg.cell x0 (by simp); replace x1 := hg.cell x1 (by simp); replace x2 := hg.cell x2 (by simp); replace z0 := hg.cell z0 (by simp)
  replace z1 := hg.cell z1 (by simp); replace hW := grown_trans hW hg
  clear hg
  go_wp2_with fail
  refine (HH2.out _ hW).mono ?_
  rintro ee v3 ⟨rfl, hg⟩
  replace x0 := hg.cell x0 (by simp); replace x1 := hg.cell x1 (by simp); replace x2 := hg.cell x2 (by simp); replace z0 := hg.cell z0 (by simp)
  replace z1 := hg.cell z1 (by simp); replace hW := grown_trans hW hg
  clear hg
  go_wp2_with fail
  go_ret
  exact ⟨rfl, hW⟩

set_option maxRecDepth 20000 in
set_option maxHeartbeats 4000000 in
theorem ratRight_f3 {w : World} {g1 : Bool} {p1 q1 : Option Addr} {n1 c1 m1 d1 : Nat} (H1 : ∀ W, w.grownBy W none → Calls Tryz.prog 119 #[.agg #[.bool g1, .slice p1 n1 c1]] W fun e w' => e = .returned (.bool true) ∧ W.grownBy w' none) (H2 : ∀ W, w.grownBy W none → Calls Tryz.prog 119 #[.agg #[.bool false, .slice q1 m1 d1]] W fun e w' => e = .returned (.bool true) ∧ W.grownBy w' none) (hE : IsN w q1 m1 d1 0) (hm1 : m1 ≤ 9000) :
    Calls Tryz.prog 62 #[.agg #[.bool g1, .slice p1 n1 c1, .slice q1 m1 d1]] w fun e w' => e = .returned (.bool false) ∧ w.grownBy w' none := by
  have HH1 := hid H1
  have HH2 := hid H2
  have HS := hid (show cmpI ((0 : Nat) : Int) 0 = 0 by decide)
  clear H1 H2
  have hW := (World.grownBy_alloc w (.cells #[.bool g1, .slice p1 n1 c1, .slice q1 m1 d1] 29) none)
  have bx0 : (w.alloc (.cells #[.bool g1, .slice p1 n1 c1, .slice q1 m1 d1] 29)).heap[w.heap.size]? = some (.cells #[.bool g1, .slice p1 n1 c1, .slice q1 m1 d1] 29 (0, 0)) := by
    have := heap_alloc_new w (.cells #[.bool g1, .slice p1 n1 c1, .slice q1 m1 d1] 29)
    simpa using this
  obtain ⟨x0, x1, x2, _, _, _⟩ := ratbox_facts bx0
  clear bx0
  replace hE := hE.keep hW
  go_enter Tryz.func62, Tryz.ntmps62
  go_wp2_with fail
  generalize (w.alloc (.cells #[.bool g1, .slice p1 n1 c1, .slice q1 m1 d1] 29)) = w0 at *
  refine (wholeS_any _ _ _).mono ?_
  rintro ee v1 ⟨rfl, hg⟩
  replace hE := hE.keep hg; replace x0 := hg.cell x0 (by simp); replace x1 := hg.cell x1 (by simp); replace x2 := hg.cell x2 (by simp)
  replace hW := grown_trans hW hg
  clear hg
  have hg := World.grownBy_alloc v1 (.cells #[.bool false, .slice q1 m1 d1] 27) none
  have hb := heap_alloc_new v1 (.cells #[.bool false, .slice q1 m1 d1] 27)
  replace hE := hE.keep hg; replace x0 := hg.cell x0 (by simp); replace x1 := hg.cell x1 (by simp); replace x2 := hg.cell x2 (by simp)
  replace hW := grown_trans hW hg
  obtain ⟨z0, z1, _, _⟩ := intbox_facts hb
  clear hg hb
  go_wp2_with fail
  generalize v1.alloc (.cells #[.bool false, .slice q1 m1 d1] 27) = u1 at *
  generalize v1.heap.size = K1 at *
  refine (HH1.out _ hW).mono ?_
  rintro ee v2 ⟨rfl, hg⟩
  replace hE := hE.keep hg; replace x0 := hg.cell x0 (by simp); replace x1 := hg.cell x1 (by simp); replace x2 := hg.cell x2 (by simp)
  replace z0 := hg.cell z0 (by simp); replace z1 := hg.cell z1 (by simp); replace hW := grown_trans hW hg
  clear hg
  go_wp2_with fail
  refine (HH2.out _ hW).mono ?_
  rintro ee v3 ⟨rfl, hg⟩
  replace hE := hE.keep hg; replace x0 := hg.cell x0 (by simp); replace x1 := hg.cell x1 (by simp); replace x2 := hg.cell x2 (by simp)
  replace z0 := hg.cell z0 (by simp); replace z1 := hg.cell z1 (by simp); replace hW := grown_trans hW hg
  clear hg
  go_wp2_with fail
  refine (intSign_any (IsZ.of_n hE) (by omega)).mono ?_
  rintro ee v4 ⟨rfl, hg⟩
  rw [HS.out]
  replace hE := hE.keep hg; replace x0 := hg.cell x0 (by simp); replace x1 := hg.cell x1 (by simp); replace x2 := hg.cell x2 (by simp)
  replace z0 := hg.cell z0 (by simp); replace z1 := hg.cell z1 (by simp); replace hW := grown_trans hW hg
  clear hg
  go_wp2_with fail
  go_ret
  exact ⟨rfl, hW⟩

set_option maxRecDepth 20000 in
set_option maxHeartbeats 4000000 in
theorem ratRight_g {w : World} {g1 : Bool} {p1 q1 : Option Addr} {n1 c1 m1 d1 : Nat} {N : Int} {D : Nat} {b : Bool} (T : Tb w) (H1 : ∀ W, w.grownBy W none → Calls Tryz.prog 119 #[.agg #[.bool g1, .slice p1 n1 c1]] W fun e w' => e = .returned (.bool true) ∧ W.grownBy w' none) (H2 : ∀ W, w.grownBy W none → Calls Tryz.prog 119 #[.agg #[.bool false, .slice q1 m1 d1]] W fun e w' => e = .returned (.bool true) ∧ W.grownBy w' none) (hA : IsZ w g1 p1 n1 c1 N) (hE : IsN w q1 m1 d1 D) (hD : 0 < D) (hb : b = decide (Nat.gcd N.natAbs D = 1)) (hn1 : n1 ≤ 9000) (hm1 : m1 ≤ 9000) :
    Calls Tryz.prog 62 #[.agg #[.bool g1, .slice p1 n1 c1, .slice q1 m1 d1]] w fun e w' => e = .returned (.bool b) ∧ w.grownBy w' none := by
  have HH1 := hid H1
  have HH2 := hid H2
  have HT := hid T
  have HB := hid hb
  have HS := hid (show cmpI (D : Int) 0 = 1 by unfold cmpI; rw [if_neg (by omega), if_pos (by omega)])
  clear H1 H2 T hb
  have hW := (World.grownBy_alloc w (.cells #[.bool g1, .slice p1 n1 c1, .slice q1 m1 d1] 29) none)
  have bx0 : (w.alloc (.cells #[.bool g1, .slice p1 n1 c1, .slice q1 m1 d1] 29)).heap[w.heap.size]? = some (.cells #[.bool g1, .slice p1 n1 c1, .slice q1 m1 d1] 29 (0, 0)) := by
    have := heap_alloc_new w (.cells #[.bool g1, .slice p1 n1 c1, .slice q1 m1 d1] 29)
    simpa using this
  obtain ⟨x0, x1, x2, _, _, _⟩ := ratbox_facts bx0
  clear bx0
  replace hA := hA.keep hW; replace hE := hE.keep hW
  go_enter Tryz.func62, Tryz.ntmps62
  go_wp2_with fail
  generalize (w.alloc (.cells #[.bool g1, .slice p1 n1 c1, .slice q1 m1 d1] 29)) = w0 at *
  refine (wholeS_any _ _ _).mono ?_
  rintro ee v1 ⟨rfl, hg⟩
  replace hA := hA.keep hg; replace hE := hE.keep hg; replace x0 := hg.cell x0 (by simp); replace x1 := hg.cell x1 (by simp)
  replace x2 := hg.cell x2 (by simp); replace hW := grown_trans hW hg
  clear hg
  have hg := World.grownBy_alloc v1 (.cells #[.bool false, .slice q1 m1 d1] 27) none
  have hb := heap_alloc_new v1 (.cells #[.bool false, .slice q1 m1 d1] 27)
  replace hA := hA.keep hg; replace hE := hE.keep hg; replace x0 := hg.cell x0 (by simp); replace x1 := hg.cell x1 (by simp)
  replace x2 := hg.cell x2 (by simp); replace hW := grown_trans hW hg
  obtain ⟨z0, z1, _, _⟩ := intbox_facts hb
  clear hg hb
  go_wp2_with fail
  generalize v1.alloc (.cells #[.bool false, .slice q1 m1 d1] 27) = u1 at *
  generalize v1.heap.size = K1 at *
  refine (HH1.out _ hW).mono ?_
  rintro ee v2 ⟨rfl, hg⟩
  replace hA := hA.keep hg; replace hE := hE.keep hg; replace x0 := hg.cell x0 (by simp); replace x1 := hg.cell x1 (by simp)
  replace x2 := hg.cell x2 (by simp); replace z0 := hg.cell z0 (by simp); replace z1 := hg.cell z1 (by simp); replace hW := grown_trans hW hg
  clear hg
  go_wp2_with fail
  refine (HH2.out _ hW).mono ?_
  rintro ee v3 ⟨rfl, hg⟩
  replace hA := hA.keep hg; replace hE := hE.keep hg; replace x0 := hg.cell x0 (by simp); replace x1 := hg.cell x1 (by simp)
  replace x2 := hg.cell x2 (by simp); replace z0 := hg.cell z0 (by simp); replace z1 := hg.cell z1 (by simp); replace hW := grown_trans hW hg
  clear hg
  go_wp2_with fail
  refine (intSign_any (IsZ.of_n hE) (by omega)).mono ?_
  rintro ee v4 ⟨rfl, hg⟩
  rw [HS.out]
  replace hA := hA.keep hg; replace hE := hE.keep hg; replace x0 := hg.cell x0 (by simp); replace x1 := hg.cell x1 (by simp)
  replace x2 := hg.cell x2 (by simp); replace z0 := hg.cell z0 (by simp); replace z1 := hg.cell z1 (by simp); replace hW := grown_trans hW hg
  clear hg
  go_wp2_with fail
  refine (intGcd_any (HT.out.keep hW) hA.1 hE (by omega) (by omega)).mono ?_
  rintro ee v5 ⟨p3, n3, c3, rfl, hX, hn3, hg⟩
  replace hA := hA.keep hg; replace hE := hE.keep hg; replace x0 := hg.cell x0 (by simp); replace x1 := hg.cell x1 (by simp)
  replace x2 := hg.cell x2 (by simp); replace z0 := hg.cell z0 (by simp); replace z1 := hg.cell z1 (by simp); replace hW := grown_trans hW hg
  clear hg
  go_wp2_with fail
  refine (isOne_any hX.isN).mono ?_
  rintro ee v6 ⟨rfl, hg⟩
  rw [← HB.out]
  replace hA := hA.keep hg; replace hE := hE.keep hg; replace hX := hX.keep hg; replace x0 := hg.cell x0 (by simp)
  replace x1 := hg.cell x1 (by simp); replace x2 := hg.cell x2 (by simp); replace z0 := hg.cell z0 (by simp); replace z1 := hg.cell z1 (by simp)
  replace hW := grown_trans hW hg
  clear hg
  go_wp2_with fail
  go_ret
  exact ⟨rfl, hW⟩

set_option maxRecDepth 20000 in
set_option maxHeartbeats 4000000 in
theorem refRight_f1 {w : World} {g1 : Bool} {p1 q1 : Option Addr} {n1 c1 m1 d1 : Nat} (H1 : ∀ W, w.grownBy W none → Calls Tryz.prog 72 #[.agg #[.bool g1, .slice p1 n1 c1]] W fun e w' => e = .returned (.bool false) ∧ W.grownBy w' none) :
    Calls Tryz.prog 19 #[.agg #[.bool g1, .slice p1 n1 c1, .slice q1 m1 d1]] w fun e w' => e = .returned (.bool false) ∧ w.grownBy w' none := by
  have HH1 := hid H1
  clear H1
  have hW := (World.grownBy_alloc w (.cells #[.bool g1, .slice p1 n1 c1, .slice q1 m1 d1] 29) none)
  have bx0 : (w.alloc (.cells #[.bool g1, .slice p1 n1 c1, .slice q1 m1 d1] 29)).heap[w.heap.size]? = some (.cells #[.bool g1, .slice p1 n1 c1, .slice q1 m1 d1] 29 (0, 0)) := by
    have := heap_alloc_new w (.cells #[.bool g1, .slice p1 n1 c1, .slice q1 m1 d1] 29)
    simpa using this
  obtain ⟨x0, x1, x2, _, _, _⟩ := ratbox_facts bx0
  clear bx0
  skip
  go_enter Tryz.func19, Tryz.ntmps19
  go_wp2_with fail
  generalize (w.alloc (.cells #[.bool g1, .slice p1 n1 c1, .slice q1 m1 d1] 29)) = w0 at *
  refine (HH1.out _ hW).mono ?_
  rintro ee v1 ⟨rfl, hg⟩
  replace x0 := hg.cell x0 (by simp); replace x1 := hg.cell x1 (by simp); replace x2 := hg.cell x2 (by simp); replace hW := grown_trans hW hg
  clear hg
  go_wp2_with fail
  go_ret
  exact ⟨rfl, hW⟩

set_option maxRecDepth 20000 in
set_option maxHeartbeats 4000000 in
theorem refRight_f2 {w : World} {g1 : Bool} {p1 q1 : Option Addr} {n1 c1 m1 d1 : Nat} (H1 : ∀ W, w.grownBy W none → Calls Tryz.prog 72 #[.agg #[.bool g1, .slice p1 n1 c1]] W fun e w' => e = .returned (.bool true) ∧ W.grownBy w' none) (H2 : ∀ W, w.grownBy W none → Calls Tryz.prog 73 #[.slice q1 m1 d1] W fun e w' => e = .returned (.bool false) ∧ W.grownBy w' none) :
    Calls Tryz.prog 19 #[.agg #[.bool g1, .slice p1 n1 c1, .slice q1 m1 d1]] w fun e w' => e = .returned (.bool false) ∧ w.grownBy w' none := by
  have HH1 := hid H1
  have HH2 := hid H2
  clear H1 H2
  have hW := (World.grownBy_alloc w (.cells #[.bool g1, .slice p1 n1 c1, .slice q1 m1 d1] 29) none)
  have bx0 : (w.alloc (.cells #[.bool g1, .slice p1 n1 c1, .slice q1 m1 d1] 29)).heap[w.heap.size]? = some (.cells #[.bool g1, .slice p1 n1 c1, .slice q1 m1 d1] 29 (0, 0)) := by
    have := heap_alloc_new w (.cells #[.bool g1, .slice p1 n1 c1, .slice q1 m1 d1] 29)
    simpa using this
  obtain ⟨x0, x1, x2, _, _, _⟩ := ratbox_facts bx0
  clear bx0
  skip
  go_enter Tryz.func19, Tryz.ntmps19
  go_wp2_with fail
  generalize (w.alloc (.cells #[.bool g1, .slice p1 n1 c1, .slice q1 m1 d1] 29)) = w0 at *
  refine (HH1.out _ hW).mono ?_
  rintro ee v1 ⟨rfl, hg⟩
  replace x0 := hg.cell x0 (by simp); replace x1 := hg.cell x1 (by simp); replace x2 := hg.cell x2 (by simp); replace hW := grown_trans hW hg
  clear hg
  go_wp2_with fail
  refine (HH2.out _ hW).mono ?_
  rintro ee v2 ⟨rfl, hg⟩
  replace x0 := hg.cell x0 (by simp); replace x1 := hg.cell x1 (by simp); replace x2 := hg.cell x2 (by simp); replace hW := grown_trans hW hg
  clear hg
  go_wp2_with fail
  go_ret
  exact ⟨rfl, hW⟩

set_option maxRecDepth 20000 in
set_option maxHeartbeats 4000000 in
theorem refRight_f3 {w : World} {g1 : Bool} {p1 q1 : Option Addr} {n1 c1 d1 : Nat} {N : Int} {b : Bool} (H1 : ∀ W, w.grownBy W none → Calls Tryz.prog 72 #[.agg #[.bool g1, .slice p1 n1 c1]] W fun e w' => e = .returned (.bool true) ∧ W.grownBy w' none) (H2 : ∀ W, w.grownBy W none → Calls Tryz.prog 73 #[.slice q1 0 d1] W fun e w' => e = .returned (.bool true) ∧ W.grownBy w' none) (hA : IsZ w g1 p1 n1 c1 N) (hE : IsN w q1 0 d1 0) (hb : decide (Nat.gcd N.natAbs 0 = 1) = b) (hn1 : n1 ≤ 9000) :
    Calls Tryz.prog 19 #[.agg #[.bool g1, .slice p1 n1 c1, .slice q1 0 d1]] w fun e w' => e = .returned (.bool false) ∧ w.grownBy w' none := by
  have HH1 := hid H1
  have HH2 := hid H2
  have HB := hid hb
  clear H1 H2 hb
  cases b
  all_goals
    have hW := (World.grownBy_alloc w (.cells #[.bool g1, .slice p1 n1 c1, .slice q1 0 d1] 29) none)
    have bx0 : (w.alloc (.cells #[.bool g1, .slice p1 n1 c1, .slice q1 0 d1] 29)).heap[w.heap.size]? = some (.cells #[.bool g1, .slice p1 n1 c1, .slice q1 0 d1] 29 (0, 0)) := by
      have := heap_alloc_new w (.cells #[.bool g1, .slice p1 n1 c1, .slice q1 0 d1] 29)
      simpa using this
    obtain ⟨x0, x1, x2, _, _, _⟩ := ratbox_facts bx0
    clear bx0
    replace hA := hA.keep hW; replace hE := hE.keep hW
    go_enter Tryz.func19, Tryz.ntmps19
    go_wp2_with fail
    generalize (w.alloc (.cells #[.bool g1, .slice p1 n1 c1, .slice q1 0 d1] 29)) = w0 at *
    refine (HH1.out _ hW).mono ?_
    rintro ee v1 ⟨rfl, hg⟩
    replace hA := hA.keep hg; replace hE := hE.keep hg; replace x0 := hg.cell x0 (by simp); replace x1 := hg.cell x1 (by simp)
    replace x2 := hg.cell x2 (by simp); replace hW := grown_trans hW hg
    clear hg
    go_wp2_with fail
    refine (HH2.out _ hW).mono ?_
    rintro ee v2 ⟨rfl, hg⟩
    replace hA := hA.keep hg; replace hE := hE.keep hg; replace x0 := hg.cell x0 (by simp); replace x1 := hg.cell x1 (by simp)
    replace x2 := hg.cell x2 (by simp); replace hW := grown_trans hW hg
    clear hg
    go_wp2_with fail
    refine (refGcd_n hA.1 hE (by omega) (by omega)).mono ?_
    rintro ee v3 ⟨p3, n3, c3, rfl, hX, hn3, hg⟩
    replace hA := hA.keep hg; replace hE := hE.keep hg; replace x0 := hg.cell x0 (by simp); replace x1 := hg.cell x1 (by simp)
    replace x2 := hg.cell x2 (by simp); replace hW := grown_trans hW hg
    clear hg
    go_wp2_with fail
    refine (refOf_c 1 (by unfold W64; omega) _).mono ?_
    rintro ee v4 ⟨p4, n4, c4, rfl, hY, hn4, hg⟩
    replace hA := hA.keep hg; replace hE := hE.keep hg; replace hX := hX.keep hg; replace x0 := hg.cell x0 (by simp)
    replace x1 := hg.cell x1 (by simp); replace x2 := hg.cell x2 (by simp); replace hW := grown_trans hW hg
    clear hg
    go_wp2_with fail
    refine (same_d hX hY).mono ?_
    rintro ee v5 ⟨rfl, hg⟩
    rw [HB.out]
    replace hA := hA.keep hg; replace hE := hE.keep hg; replace hX := hX.keep hg; replace hY := hY.keep hg
    replace x0 := hg.cell x0 (by simp); replace x1 := hg.cell x1 (by simp); replace x2 := hg.cell x2 (by simp); replace hW := grown_trans hW hg
    clear hg
    go_wp2_with fail
    go_ret
    exact ⟨rfl, hW⟩

set_option maxRecDepth 20000 in
set_option maxHeartbeats 4000000 in
theorem refRight_g {w : World} {g1 : Bool} {p1 q1 : Option Addr} {n1 c1 m1 d1 : Nat} {N : Int} {D : Nat} {b : Bool} (H1 : ∀ W, w.grownBy W none → Calls Tryz.prog 72 #[.agg #[.bool g1, .slice p1 n1 c1]] W fun e w' => e = .returned (.bool true) ∧ W.grownBy w' none) (H2 : ∀ W, w.grownBy W none → Calls Tryz.prog 73 #[.slice q1 m1 d1] W fun e w' => e = .returned (.bool true) ∧ W.grownBy w' none) (hA : IsZ w g1 p1 n1 c1 N) (hE : IsN w q1 m1 d1 D) (h0 : 0 < m1) (hb : decide (Nat.gcd N.natAbs D = 1) = b) (hn1 : n1 ≤ 9000) (hm1 : m1 ≤ 9000) :
    Calls Tryz.prog 19 #[.agg #[.bool g1, .slice p1 n1 c1, .slice q1 m1 d1]] w fun e w' => e = .returned (.bool b) ∧ w.grownBy w' none := by
  have HH1 := hid H1
  have HH2 := hid H2
  have HB := hid hb
  have h1 : (0 : Int) < (m1 : Int) := by omega
  clear H1 H2 hb
  cases b
  all_goals
    have hW := (World.grownBy_alloc w (.cells #[.bool g1, .slice p1 n1 c1, .slice q1 m1 d1] 29) none)
    have bx0 : (w.alloc (.cells #[.bool g1, .slice p1 n1 c1, .slice q1 m1 d1] 29)).heap[w.heap.size]? = some (.cells #[.bool g1, .slice p1 n1 c1, .slice q1 m1 d1] 29 (0, 0)) := by
      have := heap_alloc_new w (.cells #[.bool g1, .slice p1 n1 c1, .slice q1 m1 d1] 29)
      simpa using this
    obtain ⟨x0, x1, x2, _, _, _⟩ := ratbox_facts bx0
    clear bx0
    replace hA := hA.keep hW; replace hE := hE.keep hW
    go_enter Tryz.func19, Tryz.ntmps19
    go_wp2_with fail
    generalize (w.alloc (.cells #[.bool g1, .slice p1 n1 c1, .slice q1 m1 d1] 29)) = w0 at *
    refine (HH1.out _ hW).mono ?_
    rintro ee v1 ⟨rfl, hg⟩
    replace hA := hA.keep hg; replace hE := hE.keep hg; replace x0 := hg.cell x0 (by simp); replace x1 := hg.cell x1 (by simp)
    replace x2 := hg.cell x2 (by simp); replace hW := grown_trans hW hg
    clear hg
    go_wp2_with fail
    refine (HH2.out _ hW).mono ?_
    rintro ee v2 ⟨rfl, hg⟩
    replace hA := hA.keep hg; replace hE := hE.keep hg; replace x0 := hg.cell x0 (by simp); replace x1 := hg.cell x1 (by simp)
    replace x2 := hg.cell x2 (by simp); replace hW := grown_trans hW hg
    clear hg
    go_wp2_with fail
    refine (refGcd_n hA.1 hE (by omega) (by omega)).mono ?_
    rintro ee v3 ⟨p3, n3, c3, rfl, hX, hn3, hg⟩
    replace hA := hA.keep hg; replace hE := hE.keep hg; replace x0 := hg.cell x0 (by simp); replace x1 := hg.cell x1 (by simp)
    replace x2 := hg.cell x2 (by simp); replace hW := grown_trans hW hg
    clear hg
    go_wp2_with fail
    refine (refOf_c 1 (by unfold W64; omega) _).mono ?_
    rintro ee v4 ⟨p4, n4, c4, rfl, hY, hn4, hg⟩
    replace hA := hA.keep hg; replace hE := hE.keep hg; replace hX := hX.keep hg; replace x0 := hg.cell x0 (by simp)
    replace x1 := hg.cell x1 (by simp); replace x2 := hg.cell x2 (by simp); replace hW := grown_trans hW hg
    clear hg
    go_wp2_with fail
    refine (same_d hX hY).mono ?_
    rintro ee v5 ⟨rfl, hg⟩
    rw [HB.out]
    replace hA := hA.keep hg; replace hE := hE.keep hg; replace hX := hX.keep hg; replace hY := hY.keep hg
    replace x0 := hg.cell x0 (by simp); replace x1 := hg.cell x1 (by simp); replace x2 := hg.cell x2 (by simp); replace hW := grown_trans hW hg
    clear hg
    go_wp2_with fail
    go_ret
    exact ⟨rfl, hW⟩

theorem right3_full {w : World} (T : Tb w) (g : Bool) {a b : Option Addr} {n c m d : Nat} {xs ys : List Nat} (hr0 : IRd w .u16 a n c xs) (hx : Dg 65536 xs) (hr1 : IRd w .u16 b m d ys) (hy : Dg 65536 ys) (hn : n ≤ 9000) (hm : m ≤ 9000) :
    ∃ r : Bool, (∀ W, w.grownBy W none → Calls Tryz.prog 62 #[.agg #[.bool g, .slice a n c, .slice b m d]] W fun e w' => e = .returned (.bool r) ∧ W.grownBy w' none) ∧
      (∀ W, w.grownBy W none → Calls Tryz.prog 19 #[.agg #[.bool g, .slice a n c, .slice b m d]] W fun e w' => e = .returned (.bool r) ∧ W.grownBy w' none) ∧
      (r = true → IsV w g a n c b m d (mkRat (sg g (V 65536 xs)) (V 65536 ys))) := by
  obtain ⟨vN, N1, N2, NP⟩ := right_full g hr0 hx
  obtain ⟨vD, D1, D2, DP⟩ := valid_full hr1 hy
  have hA := IsZ.of g hr0 hx
  have hE := IsN.of hr1 hy
  cases vN
  · exact ⟨false, fun W hW => ratRight_f1 (fun W' h => N1 W' (grown_trans hW h)), fun W hW => refRight_f1 (fun W' h => N2 W' (grown_trans hW h)), fun h => by cases h⟩
  cases vD
  · exact ⟨false, fun W hW => ratRight_f2 (fun W' h => N1 W' (grown_trans hW h)) (fun W' h => D1 W' (grown_trans hW h)), fun W hW => refRight_f2 (fun W' h => N2 W' (grown_trans hW h)) (fun W' h => D2 W' (grown_trans hW h)), fun h => by cases h⟩
  by_cases h0 : m = 0
  · subst h0
    have hz : ys = [] := List.eq_nil_of_length_eq_zero hr1.len
    subst hz
    exact ⟨false, fun W hW => ratRight_f3 (fun W' h => N1 W' (grown_trans hW h)) (fun W' h => D1 W' (grown_trans hW h)) (hE.keep hW) (by omega),
      fun W hW => refRight_f3 (fun W' h => N2 W' (grown_trans hW h)) (fun W' h => D2 W' (grown_trans hW h)) (hA.keep hW) (hE.keep hW) rfl hn, fun h => by cases h⟩
  · have hC := DP rfl
    have hp : 0 < V 65536 ys := by
      rcases hC.zero_len with ⟨h1, _⟩ | ⟨_, h1⟩
      · omega
      · exact h1
    exact ⟨_, fun W hW => ratRight_g (T.keep hW) (fun W' h => N1 W' (grown_trans hW h)) (fun W' h => D1 W' (grown_trans hW h)) (hA.keep hW) (hE.keep hW) hp rfl hn hm,
      fun W hW => refRight_g (fun W' h => N2 W' (grown_trans hW h)) (fun W' h => D2 W' (grown_trans hW h)) (hA.keep hW) (hE.keep hW) (by omega) rfl hn hm,
      fun h => IsV.of_cop (NP rfl) hC hp (of_decide_eq_true h)⟩
end Go.Proofs.YtknmdmofmcfjhaaGreatDoor

set_option linter.unusedVariables false
set_option linter.unusedSimpArgs false
namespace Go.Proofs.YtknmdmofmcfjhaaGreatDoor.RY
open Go.RowKit _root_.Nm Go.Proofs.YtknmdmofmcfjhaaGreatDoor

theorem Can_of_top {xs : List Nat} (hx : Dg 65536 xs) {top : Nat} (htl : top < xs.length) (hl : xs.length = top + 1) (h : xs[top] ≠ 0) : Nm.Can 65536 xs := by
  rw [show xs = trimR xs from ?_]
  · exact Can_trimR hx
  · have e : xs = xs.take top ++ [xs[top]] := by
      rw [← List.take_succ_eq_append_getElem htl, List.take_of_length_le (by omega)]
    rw [e, trimR_snoc h]
theorem IsC.of_top {w : World} {p : Option Addr} {c : Nat} {xs : List Nat} {top : Nat} (hA : IRd w .u16 p (top + 1) c xs) (hx : Dg 65536 xs) (htl : top < xs.length) (hl : xs.length = top + 1) (h : xs[top] ≠ 0) : IsC w p (top + 1) c (V 65536 xs) := by
  have := eq_dg (B := 65536) (by omega) (Can_of_top hx htl hl h)
  unfold IsC
  rw [← this]
  exact hA
theorem IsI.of_top {w : World} {g : Bool} {p : Option Addr} {c : Nat} {xs : List Nat} {top : Nat} (hA : IRd w .u16 p (top + 1) c xs) (hx : Dg 65536 xs) (htl : top < xs.length) (hl : xs.length = top + 1) (h : xs[top] ≠ 0) : IsI w g p (top + 1) c (sg g (V 65536 xs)) := by
  have hC := IsC.of_top hA hx htl hl h
  have hp : 0 < V 65536 xs := by
    rcases hC.zero_len with ⟨h1, _⟩ | ⟨_, h1⟩
    · omega
    · exact h1
  refine ⟨by rw [sg_abs]; exact hC, ?_⟩
  rw [sg_neg, decide_eq_true hp]
  simp
theorem IsV.of_cop {w : World} {g : Bool} {p q : Option Addr} {n c m d D : Nat} {N : Int} (h1 : IsI w g p n c N) (h2 : IsC w q m d D) (hD : 0 < D) (hg : Nat.gcd N.natAbs D = 1) : IsV w g p n c q m d (mkRat N D) :=
  ⟨by rw [← rn_q hD, rn_one hg]; exact h1, by rw [← rd_q hD, rd_one hg]; exact h2⟩
set_option maxHeartbeats 2000000 in
theorem right_ref {w : World} (g : Bool) {p : Option Addr} {n c : Nat} {xs : List Nat} (hA : IRd w .u16 p n c xs) (hx : Dg 65536 xs) :
    ∃ v : Bool, (∀ W, w.grownBy W none → Calls Tryz.prog 72 #[.agg #[.bool g, .slice p n c]] W fun e w' => e = .returned (.bool v) ∧ W.grownBy w' none) ∧ (v = true → IsI w g p n c (sg g (V 65536 xs))) ∧ (v = false → (n = 0 ∧ g = true) ∨ xs.getLast? = some 0) := by
  have hmax := hA.max
  have hcap := hA.cap
  by_cases h0 : n = 0
  · subst h0
    have hnil : xs = [] := List.eq_nil_of_length_eq_zero hA.len
    refine ⟨!g, fun W hW => ?_, fun h => ?_, fun h => .inl ⟨rfl, by simpa using h⟩⟩
    rotate_left 1
    · subst hnil
      have hg : g = false := by simpa using h
      subst hg
      exact ⟨hA, by simp [sg]⟩
    · have hgb := World.grownBy_alloc W (.cells #[.bool g, .slice p 0 c] 27) none
      clear hW
      cases g
      all_goals
        go_enter Tryz.func72, Tryz.ntmps72
        go_wp2
        go_ret
        exact ⟨rfl, hgb⟩
  · obtain ⟨top, rfl⟩ : ∃ top, n = top + 1 := ⟨n - 1, by omega⟩
    have hlen := hA.len
    have htl : top < xs.length := by omega
    have hcan : xs[top] ≠ 0 → IsI w g p (top + 1) c (sg g (V 65536 xs)) := fun h => IsI.of_top hA hx htl hlen h
    obtain ⟨b, o, rfl, hc⟩ := IRd.cel hA top htl
    have hb := World.block_lt_of_cell? _ _ hc
    obtain ⟨t, ht⟩ : ∃ t, t = xs[top] := ⟨_, rfl⟩
    rw [← ht] at hc hcan
    have hlast : xs.getLast? = some t := by
      rw [List.getLast?_eq_getElem?, hlen, ht]
      simp [htl]
    have HL := hid hlast
    clear ht h0 hlen hA hlast
    by_cases h0 : t = 0
    · subst h0
      refine ⟨false, fun W hW => ?_, (fun h => by cases h), fun _ => .inr HL.out⟩
      · have hgb := World.grownBy_alloc W (.cells #[.bool g, .slice (some ⟨b, o, none⟩) (top + 1) c] 27) none
        have hc2 := hgb.cell (hW.cell hc (by simp)) (by simp)
        clear hW hc hb
        go_enter Tryz.func72, Tryz.ntmps72
        go_wp2
        go_ret
        exact ⟨rfl, hgb⟩
    · have hne : (((t : Int) != 0) = true) := by simp; omega
      have hcan2 := hid (hcan h0)
      clear h0 hcan
      refine ⟨true, fun W hW => ?_, fun _ => hcan2.out, fun h => by cases h⟩
      · have hgb := World.grownBy_alloc W (.cells #[.bool g, .slice (some ⟨b, o, none⟩) (top + 1) c] 27) none
        have hc2 := hgb.cell (hW.cell hc (by simp)) (by simp)
        clear hW hc hb
        cases g
        all_goals
          go_enter Tryz.func72, Tryz.ntmps72
          go_wp2
          go_ret
          exact ⟨rfl, hgb⟩

set_option maxHeartbeats 2000000 in
theorem valid_ref {w : World} {p : Option Addr} {n c : Nat} {xs : List Nat} (hA : IRd w .u16 p n c xs) (hx : Dg 65536 xs) :
    ∃ v : Bool, (∀ W, w.grownBy W none → Calls Tryz.prog 73 #[.slice p n c] W fun e w' => e = .returned (.bool v) ∧ W.grownBy w' none) ∧ (v = true → IsC w p n c (V 65536 xs)) ∧ (v = false → xs.getLast? = some 0) := by
  have hmax := hA.max
  have hcap := hA.cap
  by_cases h0 : n = 0
  · subst h0
    have hnil : xs = [] := List.eq_nil_of_length_eq_zero hA.len
    refine ⟨true, fun W hW => ?_, fun _ => by subst hnil; exact hA, fun h => by cases h⟩
    · have hgb := grown_refl W none
      clear hW
      go_enter Tryz.func73, Tryz.ntmps73
      go_wp2
      go_ret
      exact ⟨rfl, hgb⟩
  · obtain ⟨top, rfl⟩ : ∃ top, n = top + 1 := ⟨n - 1, by omega⟩
    have hlen := hA.len
    have htl : top < xs.length := by omega
    have hpos : xs[top] ≠ 0 → IsC w p (top + 1) c (V 65536 xs) := fun h => IsC.of_top hA hx htl hlen h
    obtain ⟨b, o, rfl, hc⟩ := IRd.cel hA top htl
    have hb := World.block_lt_of_cell? _ _ hc
    obtain ⟨t, ht⟩ : ∃ t, t = xs[top] := ⟨_, rfl⟩
    rw [← ht] at hc hpos
    have hlast : xs.getLast? = some t := by
      rw [List.getLast?_eq_getElem?, hlen, ht]
      simp [htl]
    have HL := hid hlast
    clear ht h0 hlen hA hlast
    by_cases h0 : t = 0
    · subst h0
      refine ⟨false, fun W hW => ?_, (fun h => by cases h), fun _ => HL.out⟩
      · have hgb := grown_refl W none
        have hc2 := hW.cell hc (by simp)
        clear hW hc hb
        go_enter Tryz.func73, Tryz.ntmps73
        go_wp2
        go_ret
        exact ⟨rfl, hgb⟩
    · have hne : (((t : Int) != 0) = true) := by simp; omega
      have hp2 := hid (hpos h0)
      clear hpos
      refine ⟨true, fun W hW => ?_, fun _ => hp2.out, fun h => by cases h⟩
      · have hgb := grown_refl W none
        have hc2 := hW.cell hc (by simp)
        clear h0 hW hc hb
        go_enter Tryz.func73, Tryz.ntmps73
        go_wp2
        go_ret
        exact ⟨rfl, hgb⟩

set_option maxRecDepth 20000 in
set_option maxHeartbeats 4000000 in
theorem refRight_f1 {w : World} {g1 : Bool} {p1 q1 : Option Addr} {n1 c1 m1 d1 : Nat} (H1 : ∀ W, w.grownBy W none → Calls Tryz.prog 72 #[.agg #[.bool g1, .slice p1 n1 c1]] W fun e w' => e = .returned (.bool false) ∧ W.grownBy w' none) :
    Calls Tryz.prog 19 #[.agg #[.bool g1, .slice p1 n1 c1, .slice q1 m1 d1]] w fun e w' => e = .returned (.bool false) ∧ w.grownBy w' none := by
  have HH1 := hid H1
  clear H1
  have hW := (World.grownBy_alloc w (.cells #[.bool g1, .slice p1 n1 c1, .slice q1 m1 d1] 29) none)
  have bx0 : (w.alloc (.cells #[.bool g1, .slice p1 n1 c1, .slice q1 m1 d1] 29)).heap[w.heap.size]? = some (.cells #[.bool g1, .slice p1 n1 c1, .slice q1 m1 d1] 29 (0, 0)) := by
    have := heap_alloc_new w (.cells #[.bool g1, .slice p1 n1 c1, .slice q1 m1 d1] 29)
    simpa using this
  obtain ⟨x0, x1, x2, _, _, _⟩ := ratbox_facts bx0
  clear bx0
  skip
  go_enter Tryz.func19, Tryz.ntmps19
  go_wp2_with fail
  generalize (w.alloc (.cells #[.bool g1, .slice p1 n1 c1, .slice q1 m1 d1] 29)) = w0 at *
  refine (HH1.out _ hW).mono ?_
  rintro ee v1 ⟨rfl, hg⟩
  replace x0 := hg.cell x0 (by simp); replace x1 := hg.cell x1 (by simp); replace x2 := hg.cell x2 (by simp); replace hW := grown_trans hW hg
  clear hg
  go_wp2_with fail
  go_ret
  exact ⟨rfl, hW⟩

set_option maxRecDepth 20000 in
set_option maxHeartbeats 4000000 in
theorem refRight_f2 {w : World} {g1 : Bool} {p1 q1 : Option Addr} {n1 c1 m1 d1 : Nat} (H1 : ∀ W, w.grownBy W none → Calls Tryz.prog 72 #[.agg #[.bool g1, .slice p1 n1 c1]] W fun e w' => e = .returned (.bool true) ∧ W.grownBy w' none) (H2 : ∀ W, w.grownBy W none → Calls Tryz.prog 73 #[.slice q1 m1 d1] W fun e w' => e = .returned (.bool false) ∧ W.grownBy w' none) :
    Calls Tryz.prog 19 #[.agg #[.bool g1, .slice p1 n1 c1, .slice q1 m1 d1]] w fun e w' => e = .returned (.bool false) ∧ w.grownBy w' none := by
  have HH1 := hid H1
  have HH2 := hid H2
  clear H1 H2
  have hW := (World.grownBy_alloc w (.cells #[.bool g1, .slice p1 n1 c1, .slice q1 m1 d1] 29) none)
  have bx0 : (w.alloc (.cells #[.bool g1, .slice p1 n1 c1, .slice q1 m1 d1] 29)).heap[w.heap.size]? = some (.cells #[.bool g1, .slice p1 n1 c1, .slice q1 m1 d1] 29 (0, 0)) := by
    have := heap_alloc_new w (.cells #[.bool g1, .slice p1 n1 c1, .slice q1 m1 d1] 29)
    simpa using this
  obtain ⟨x0, x1, x2, _, _, _⟩ := ratbox_facts bx0
  clear bx0
  skip
  go_enter Tryz.func19, Tryz.ntmps19
  go_wp2_with fail
  generalize (w.alloc (.cells #[.bool g1, .slice p1 n1 c1, .slice q1 m1 d1] 29)) = w0 at *
  refine (HH1.out _ hW).mono ?_
  rintro ee v1 ⟨rfl, hg⟩
  replace x0 := hg.cell x0 (by simp); replace x1 := hg.cell x1 (by simp); replace x2 := hg.cell x2 (by simp); replace hW := grown_trans hW hg
  clear hg
  go_wp2_with fail
  refine (HH2.out _ hW).mono ?_
  rintro ee v2 ⟨rfl, hg⟩
  replace x0 := hg.cell x0 (by simp); replace x1 := hg.cell x1 (by simp); replace x2 := hg.cell x2 (by simp); replace hW := grown_trans hW hg
  clear hg
  go_wp2_with fail
  go_ret
  exact ⟨rfl, hW⟩

set_option maxRecDepth 20000 in
set_option maxHeartbeats 4000000 in
theorem refRight_f3 {w : World} {g1 : Bool} {p1 q1 : Option Addr} {n1 c1 d1 : Nat} {N : Int} {b : Bool} (H1 : ∀ W, w.grownBy W none → Calls Tryz.prog 72 #[.agg #[.bool g1, .slice p1 n1 c1]] W fun e w' => e = .returned (.bool true) ∧ W.grownBy w' none) (H2 : ∀ W, w.grownBy W none → Calls Tryz.prog 73 #[.slice q1 0 d1] W fun e w' => e = .returned (.bool true) ∧ W.grownBy w' none) (hA : IsZ w g1 p1 n1 c1 N) (hE : IsN w q1 0 d1 0) (hb : decide (Nat.gcd N.natAbs 0 = 1) = b) (hn1 : n1 ≤ 1100000) :
    Calls Tryz.prog 19 #[.agg #[.bool g1, .slice p1 n1 c1, .slice q1 0 d1]] w fun e w' => e = .returned (.bool false) ∧ w.grownBy w' none := by
  have HH1 := hid H1
  have HH2 := hid H2
  have HB := hid hb
  clear H1 H2 hb
  cases b
  all_goals
    have hW := (World.grownBy_alloc w (.cells #[.bool g1, .slice p1 n1 c1, .slice q1 0 d1] 29) none)
    have bx0 : (w.alloc (.cells #[.bool g1, .slice p1 n1 c1, .slice q1 0 d1] 29)).heap[w.heap.size]? = some (.cells #[.bool g1, .slice p1 n1 c1, .slice q1 0 d1] 29 (0, 0)) := by
      have := heap_alloc_new w (.cells #[.bool g1, .slice p1 n1 c1, .slice q1 0 d1] 29)
      simpa using this
    obtain ⟨x0, x1, x2, _, _, _⟩ := ratbox_facts bx0
    clear bx0
    replace hA := hA.keep hW; replace hE := hE.keep hW
    go_enter Tryz.func19, Tryz.ntmps19
    go_wp2_with fail
    generalize (w.alloc (.cells #[.bool g1, .slice p1 n1 c1, .slice q1 0 d1] 29)) = w0 at *
    refine (HH1.out _ hW).mono ?_
    rintro ee v1 ⟨rfl, hg⟩
    replace hA := hA.keep hg; replace hE := hE.keep hg; replace x0 := hg.cell x0 (by simp); replace x1 := hg.cell x1 (by simp)
    replace x2 := hg.cell x2 (by simp); replace hW := grown_trans hW hg
    clear hg
    go_wp2_with fail
    refine (HH2.out _ hW).mono ?_
    rintro ee v2 ⟨rfl, hg⟩
    replace hA := hA.keep hg; replace hE := hE.keep hg; replace x0 := hg.cell x0 (by simp); replace x1 := hg.cell x1 (by simp)
    replace x2 := hg.cell x2 (by simp); replace hW := grown_trans hW hg
    clear hg
    go_wp2_with fail
    refine (refGcd_n hA.1 hE (by omega) (by omega)).mono ?_
    rintro ee v3 ⟨p3, n3, c3, rfl, hX, hn3, hg⟩
    replace hA := hA.keep hg; replace hE := hE.keep hg; replace x0 := hg.cell x0 (by simp); replace x1 := hg.cell x1 (by simp)
    replace x2 := hg.cell x2 (by simp); replace hW := grown_trans hW hg
    clear hg
    go_wp2_with fail
    refine (refOf_c 1 (by unfold W64; omega) _).mono ?_
    rintro ee v4 ⟨p4, n4, c4, rfl, hY, hn4, hg⟩
    replace hA := hA.keep hg; replace hE := hE.keep hg; replace hX := hX.keep hg; replace x0 := hg.cell x0 (by simp)
    replace x1 := hg.cell x1 (by simp); replace x2 := hg.cell x2 (by simp); replace hW := grown_trans hW hg
    clear hg
    go_wp2_with fail
    refine (same_d hX hY).mono ?_
    rintro ee v5 ⟨rfl, hg⟩
    rw [HB.out]
    replace hA := hA.keep hg; replace hE := hE.keep hg; replace hX := hX.keep hg; replace hY := hY.keep hg
    replace x0 := hg.cell x0 (by simp); replace x1 := hg.cell x1 (by simp); replace x2 := hg.cell x2 (by simp); replace hW := grown_trans hW hg
    clear hg
    go_wp2_with fail
    go_ret
    exact ⟨rfl, hW⟩

set_option maxRecDepth 20000 in
set_option maxHeartbeats 4000000 in
theorem refRight_g {w : World} {g1 : Bool} {p1 q1 : Option Addr} {n1 c1 m1 d1 : Nat} {N : Int} {D : Nat} {b : Bool} (H1 : ∀ W, w.grownBy W none → Calls Tryz.prog 72 #[.agg #[.bool g1, .slice p1 n1 c1]] W fun e w' => e = .returned (.bool true) ∧ W.grownBy w' none) (H2 : ∀ W, w.grownBy W none → Calls Tryz.prog 73 #[.slice q1 m1 d1] W fun e w' => e = .returned (.bool true) ∧ W.grownBy w' none) (hA : IsZ w g1 p1 n1 c1 N) (hE : IsN w q1 m1 d1 D) (h0 : 0 < m1) (hb : decide (Nat.gcd N.natAbs D = 1) = b) (hn1 : n1 ≤ 1100000) (hm1 : m1 ≤ 1100000) :
    Calls Tryz.prog 19 #[.agg #[.bool g1, .slice p1 n1 c1, .slice q1 m1 d1]] w fun e w' => e = .returned (.bool b) ∧ w.grownBy w' none := by
  have HH1 := hid H1
  have HH2 := hid H2
  have HB := hid hb
  have h1 : (0 : Int) < (m1 : Int) := by omega
  clear H1 H2 hb
  cases b
  all_goals
    have hW := (World.grownBy_alloc w (.cells #[.bool g1, .slice p1 n1 c1, .slice q1 m1 d1] 29) none)
    have bx0 : (w.alloc (.cells #[.bool g1, .slice p1 n1 c1, .slice q1 m1 d1] 29)).heap[w.heap.size]? = some (.cells #[.bool g1, .slice p1 n1 c1, .slice q1 m1 d1] 29 (0, 0)) := by
      have := heap_alloc_new w (.cells #[.bool g1, .slice p1 n1 c1, .slice q1 m1 d1] 29)
      simpa using this
    obtain ⟨x0, x1, x2, _, _, _⟩ := ratbox_facts bx0
    clear bx0
    replace hA := hA.keep hW; replace hE := hE.keep hW
    go_enter Tryz.func19, Tryz.ntmps19
    go_wp2_with fail
    generalize (w.alloc (.cells #[.bool g1, .slice p1 n1 c1, .slice q1 m1 d1] 29)) = w0 at *
    refine (HH1.out _ hW).mono ?_
    rintro ee v1 ⟨rfl, hg⟩
    replace hA := hA.keep hg; replace hE := hE.keep hg; replace x0 := hg.cell x0 (by simp); replace x1 := hg.cell x1 (by simp)
    replace x2 := hg.cell x2 (by simp); replace hW := grown_trans hW hg
    clear hg
    go_wp2_with fail
    refine (HH2.out _ hW).mono ?_
    rintro ee v2 ⟨rfl, hg⟩
    replace hA := hA.keep hg; replace hE := hE.keep hg; replace x0 := hg.cell x0 (by simp); replace x1 := hg.cell x1 (by simp)
    replace x2 := hg.cell x2 (by simp); replace hW := grown_trans hW hg
    clear hg
    go_wp2_with fail
    refine (refGcd_n hA.1 hE (by omega) (by omega)).mono ?_
    rintro ee v3 ⟨p3, n3, c3, rfl, hX, hn3, hg⟩
    replace hA := hA.keep hg; replace hE := hE.keep hg; replace x0 := hg.cell x0 (by simp); replace x1 := hg.cell x1 (by simp)
    replace x2 := hg.cell x2 (by simp); replace hW := grown_trans hW hg
    clear hg
    go_wp2_with fail
    refine (refOf_c 1 (by unfold W64; omega) _).mono ?_
    rintro ee v4 ⟨p4, n4, c4, rfl, hY, hn4, hg⟩
    replace hA := hA.keep hg; replace hE := hE.keep hg; replace hX := hX.keep hg; replace x0 := hg.cell x0 (by simp)
    replace x1 := hg.cell x1 (by simp); replace x2 := hg.cell x2 (by simp); replace hW := grown_trans hW hg
    clear hg
    go_wp2_with fail
    refine (same_d hX hY).mono ?_
    rintro ee v5 ⟨rfl, hg⟩
    rw [HB.out]
    replace hA := hA.keep hg; replace hE := hE.keep hg; replace hX := hX.keep hg; replace hY := hY.keep hg
    replace x0 := hg.cell x0 (by simp); replace x1 := hg.cell x1 (by simp); replace x2 := hg.cell x2 (by simp); replace hW := grown_trans hW hg
    clear hg
    go_wp2_with fail
    go_ret
    exact ⟨rfl, hW⟩


/-- a valid number is right -/
theorem right_refv {w : World} {g : Bool} {a b : Option Addr} {n c m d : Nat} {v : Rat} (h : IsV w g a n c b m d v) (hn : n ≤ 1100000) (hm : m ≤ 1100000) :
    Calls Tryz.prog 19 #[.agg #[.bool g, .slice a n c, .slice b m d]] w fun e w' => e = .returned (.bool true) ∧ w.grownBy w' none := by
  have c1 := Can_dg (B := 65536) (by omega) v.num.natAbs
  have c2 := Can_dg (B := 65536) (by omega) v.den
  obtain ⟨vN, N2, -, NF⟩ := right_ref g (show IRd w .u16 a n c (dg 65536 v.num.natAbs) from h.1.1) c1.1
  obtain ⟨vD, D2, -, DF⟩ := valid_ref (show IRd w .u16 b m d (dg 65536 v.den) from h.2) c2.1
  have hp := Rat.den_pos v
  obtain rfl : vN = true := by
    cases vN with
    | true => rfl
    | false =>
      exfalso
      rcases NF rfl with ⟨e1, e2⟩ | e
      · have := h.1.2
        rw [e2] at this
        have hl := h.1.1.len
        rw [e1] at hl
        have hz : v.num.natAbs = 0 := by
          have := V_dg (B := 65536) (by omega) v.num.natAbs
          rw [List.eq_nil_of_length_eq_zero hl] at this
          simpa using this.symm
        have hlt : v.num < 0 := of_decide_eq_true (by assumption : true = decide (v.num < 0)).symm
        omega
      · exact c1.2 e
  obtain rfl : vD = true := by
    cases vD with
    | true => rfl
    | false => exact absurd (DF rfl) c2.2
  have h0 : 0 < m := by
    have hl := h.2.len
    rcases Nat.eq_zero_or_pos m with e | e
    · exfalso
      rw [e] at hl
      have := V_dg (B := 65536) (by omega) v.den
      rw [List.eq_nil_of_length_eq_zero hl] at this
      simp at this
      omega
    · exact e
  exact refRight_g (N2) (D2) h.1.z h.2.isN h0 (decide_eq_true v.reduced) hn hm
end Go.Proofs.YtknmdmofmcfjhaaGreatDoor.RY

set_option linter.unusedVariables false
set_option linter.unusedSimpArgs false
namespace Go.Proofs.YtknmdmofmcfjhaaGreatDoor
open Go.RowKit Nm

theorem over_v (B : Nat) {w : World} {g : Bool} {p q : Option Addr} {n c m d D : Nat} {N : Int} {v : Rat} (hA : IsZ w g p n c N) (hB : IsN w q m d D) (hv : mkRat N D = v) (hn : n ≤ B) (hm : m + 4 ≤ B) (hx : B ≤ 300000) :
    Calls Tryz.prog 112 #[.agg #[.bool g, .slice p n c], .slice q m d] w (VPost w v B) :=
  (over_any hA hB (by omega) (by omega)).mono fun _ _ h => h.v (by rw [rn_q (pd_pos D), pq, hv]) (by rw [rd_q (pd_pos D), pq, hv]) hn hm
theorem norm_v (S : Nat) {w : World} {g1 : Bool} {p1 q1 : Option Addr} {n1 c1 m1 d1 : Nat} {v : Rat} (hA : IsQ w g1 p1 n1 c1 q1 m1 d1 v) (hn1 : n1 ≤ S) (hm1 : m1 ≤ S) (hS : S ≤ 40000) :
    Calls Tryz.prog 125 #[.agg #[.bool g1, .slice p1 n1 c1, .slice q1 m1 d1]] w (VPost w v (S + 4)) := by
  obtain ⟨N, D, h1, h2, rfl⟩ := hA
  exact (norm3_any h1 h2 (by omega) (by omega)).mono fun _ _ h => h.v (by rw [rn_q (pd_pos D), pq]) (by rw [rd_q (pd_pos D), pq]) (by omega) (by omega)
theorem wholeT_any {w : World} (p : Option Addr) (n c : Nat) :
    Calls Tryz.prog 135 #[.slice p n c] w fun e w' => e = .returned (.agg #[.bool false, .slice p n c]) ∧ w.grownBy w' none := by
  go_enter Tryz.func135, Tryz.ntmps135
  go_wp2
  exact bodyPost_ret (v := .agg #[.bool false, .slice p n c]) (by simp [results, Tryz.results135, go_sem]) rfl ⟨rfl, World.grownBy_alloc w _ none⟩


set_option maxRecDepth 20000 in
set_option maxHeartbeats 4000000 in
theorem rMul3_v (S : Nat) {w : World} {g1 g2 : Bool} {p1 q1 p2 q2 : Option Addr} {n1 c1 m1 d1 n2 c2 m2 d2 : Nat} {v u : Rat} (hA : IsQ w g1 p1 n1 c1 q1 m1 d1 v) (hB : IsQ w g2 p2 n2 c2 q2 m2 d2 u) (hn1 : n1 ≤ S) (hm1 : m1 ≤ S) (hn2 : n2 ≤ S) (hm2 : m2 ≤ S) (hS : S ≤ 40000) :
    Calls Tryz.prog 89 #[.agg #[.bool g1, .slice p1 n1 c1, .slice q1 m1 d1], .agg #[.bool g2, .slice p2 n2 c2, .slice q2 m2 d2]] w (VPost w (v * u) (4 * S + 20)) := by
  obtain ⟨N, D, hA, hE, rfl⟩ := hA
  obtain ⟨M, E, hB, hF, rfl⟩ := hB
  have HV := hid (show mkRat (N * M) (D * E) = mkRat N D * mkRat M E from (Rat.mkRat_mul_mkRat N M D E).symm)
  have hW := (grown_trans (grown_trans (World.grownBy_alloc w (.cells #[.bool g1, .slice p1 n1 c1, .slice q1 m1 d1] 29) none) (World.grownBy_alloc _ (.cells #[.bool g2, .slice p2 n2 c2, .slice q2 m2 d2] 29) none)) (World.grownBy_alloc _ (.cells #[.bool false, .slice none 0 0, .slice none 0 0] 29) none))
  have bx0 : (((w.alloc (.cells #[.bool g1, .slice p1 n1 c1, .slice q1 m1 d1] 29)).alloc (.cells #[.bool g2, .slice p2 n2 c2, .slice q2 m2 d2] 29)).alloc (.cells #[.bool false, .slice none 0 0, .slice none 0 0] 29)).heap[w.heap.size]? = some (.cells #[.bool g1, .slice p1 n1 c1, .slice q1 m1 d1] 29 (0, 0)) := by
    have h0 := heap_alloc_new w (.cells #[.bool g1, .slice p1 n1 c1, .slice q1 m1 d1] 29)
    have h1 := (grown_trans (World.grownBy_alloc (w.alloc (.cells #[.bool g1, .slice p1 n1 c1, .slice q1 m1 d1] 29)) (.cells #[.bool g2, .slice p2 n2 c2, .slice q2 m2 d2] 29) none) (World.grownBy_alloc _ (.cells #[.bool false, .slice none 0 0, .slice none 0 0] 29) none)).block _ (lt_of_block h0) (by simp)
    have h2 := h1.trans h0
    simpa using h2
  obtain ⟨x0, x1, x2, _, _, _⟩ := ratbox_facts bx0
  clear bx0
  have bx1 : (((w.alloc (.cells #[.bool g1, .slice p1 n1 c1, .slice q1 m1 d1] 29)).alloc (.cells #[.bool g2, .slice p2 n2 c2, .slice q2 m2 d2] 29)).alloc (.cells #[.bool false, .slice none 0 0, .slice none 0 0] 29)).heap[w.heap.size + 1]? = some (.cells #[.bool g2, .slice p2 n2 c2, .slice q2 m2 d2] 29 (0, 0)) := by
    have h0 := heap_alloc_new (w.alloc (.cells #[.bool g1, .slice p1 n1 c1, .slice q1 m1 d1] 29)) (.cells #[.bool g2, .slice p2 n2 c2, .slice q2 m2 d2] 29)
    have h1 := (World.grownBy_alloc ((w.alloc (.cells #[.bool g1, .slice p1 n1 c1, .slice q1 m1 d1] 29)).alloc (.cells #[.bool g2, .slice p2 n2 c2, .slice q2 m2 d2] 29)) (.cells #[.bool false, .slice none 0 0, .slice none 0 0] 29) none).block _ (lt_of_block h0) (by simp)
    have h2 := h1.trans h0
    simpa using h2
  obtain ⟨y0, y1, y2, _, _, _⟩ := ratbox_facts bx1
  clear bx1
  have bx2 : (((w.alloc (.cells #[.bool g1, .slice p1 n1 c1, .slice q1 m1 d1] 29)).alloc (.cells #[.bool g2, .slice p2 n2 c2, .slice q2 m2 d2] 29)).alloc (.cells #[.bool false, .slice none 0 0, .slice none 0 0] 29)).heap[w.heap.size + 1 + 1]? = some (.cells #[.bool false, .slice none 0 0, .slice none 0 0] 29 (0, 0)) := by
    have := heap_alloc_new ((w.alloc (.cells #[.bool g1, .slice p1 n1 c1, .slice q1 m1 d1] 29)).alloc (.cells #[.bool g2, .slice p2 n2 c2, .slice q2 m2 d2] 29)) (.cells #[.bool false, .slice none 0 0, .slice none 0 0] 29)
    simpa using this
  replace hA := hA.keep hW; replace hE := hE.keep hW; replace hB := hB.keep hW; replace hF := hF.keep hW
  go_enter Tryz.func89, Tryz.ntmps89
  go_wp2_with fail
  generalize (((w.alloc (.cells #[.bool g1, .slice p1 n1 c1, .slice q1 m1 d1] 29)).alloc (.cells #[.bool g2, .slice p2 n2 c2, .slice q2 m2 d2] 29)).alloc (.cells #[.bool false, .slice none 0 0, .slice none 0 0] 29)) = w0 at *
  have hg := grown_drew w0 none
  replace hA := hA.keep hg; replace hE := hE.keep hg; replace hB := hB.keep hg; replace hF := hF.keep hg
  replace x0 := hg.cell x0 (by simp); replace x1 := hg.cell x1 (by simp); replace x2 := hg.cell x2 (by simp); replace y0 := hg.cell y0 (by simp)
  replace y1 := hg.cell y1 (by simp); replace y2 := hg.cell y2 (by simp); replace bx2 := (hg.block _ (lt_of_block bx2) (by simp)).trans bx2; replace hW := grown_trans hW hg
  clear hg
  go_region_held3 (fun w' => w'.cell? ⟨w.heap.size, 0, none⟩ = some (.bool g1) ∧ w'.cell? ⟨w.heap.size, 1, none⟩ = some (.slice p1 n1 c1) ∧ w'.cell? ⟨w.heap.size, 2, none⟩ = some (.slice q1 m1 d1) ∧ w'.cell? ⟨w.heap.size + 1, 0, none⟩ = some (.bool g2) ∧ w'.cell? ⟨w.heap.size + 1, 1, none⟩ = some (.slice p2 n2 c2) ∧ w'.cell? ⟨w.heap.size + 1, 2, none⟩ = some (.slice q2 m2 d2)) ((try go_split_ands) <;> (repeat' apply And.intro) <;> (repeat (first | (with_reducible assumption) | (with_reducible refine (grown_setCell _ _ _).cell ?_ (by first | (simp; omega) | simp)) | (with_reducible refine (World.grownBy_alloc _ _ none).cell ?_ (by simp)) | (with_reducible refine (grown_drew _ none).cell ?_ (by simp)))))
    (first
      | (go_at_call 134; (with_reducible refine (rMul_any hA hB (by omega) (by omega)).mono ?_); rintro ee v1 ⟨g5, p5, n5, c5, rfl, hX, hn5, hg⟩; replace hA := hA.keep hg; replace hE := hE.keep hg; replace hB := hB.keep hg; replace hF := hF.keep hg; replace x0 := hg.cell x0 (by simp); replace x1 := hg.cell x1 (by simp); replace x2 := hg.cell x2 (by simp); replace y0 := hg.cell y0 (by simp); replace y1 := hg.cell y1 (by simp); replace y2 := hg.cell y2 (by simp); replace bx2 := (hg.block _ (lt_of_block bx2) (by simp)).trans bx2; replace hW := grown_trans hW hg; clear hg)
      | (go_at_call 140; (with_reducible refine (refMul_n hE hF (by omega) (by omega)).mono ?_); rintro ee v2 ⟨q7, m7, d7, rfl, hY, hm7, hg⟩; replace hA := hA.keep hg; replace hE := hE.keep hg; replace hB := hB.keep hg; replace hF := hF.keep hg; replace hX := hX.keep hg; replace x0 := hg.cell x0 (by simp); replace x1 := hg.cell x1 (by simp); replace x2 := hg.cell x2 (by simp); replace y0 := hg.cell y0 (by simp); replace y1 := hg.cell y1 (by simp); replace y2 := hg.cell y2 (by simp); replace bx2 := (hg.block _ (lt_of_block bx2) (by simp)).trans bx2; replace hW := grown_trans hW hg; clear hg)
      | (go_at_call 112; (with_reducible refine (over_v (4 * S + 20) hX.z hY.isN HV.out (by omega) (by omega) (by omega)).mono ?_); rintro ee v3 ⟨g6, p6, n6, c6, q6, m6, d6, rfl, hZ, hn6, hm6, hg⟩; replace hA := hA.keep hg; replace hE := hE.keep hg; replace hB := hB.keep hg; replace hF := hF.keep hg; replace hX := hX.keep hg; replace hY := hY.keep hg; replace x0 := hg.cell x0 (by simp); replace x1 := hg.cell x1 (by simp); replace x2 := hg.cell x2 (by simp); replace y0 := hg.cell y0 (by simp); replace y1 := hg.cell y1 (by simp); replace y2 := hg.cell y2 (by simp); replace bx2 := (hg.block _ (lt_of_block bx2) (by simp)).trans bx2; replace hW := grown_trans hW hg; clear hg; have ff := ratbox_facts bx2; obtain ⟨l0, l1, l2, f0, f1, f2⟩ := ff))
  go_wp2_with fail
  exact bodyPost_ret (v := .agg #[.bool g6, .slice p6 n6 c6, .slice q6 m6 d6]) (by simp [results, Tryz.results89, go_sem, l0, l1, l2, f0, f1, f2]) rfl
    (VPost.close bx2 (by omega) hW hZ hn6 hm6)


end Go.Proofs.YtknmdmofmcfjhaaGreatDoor

set_option linter.unusedVariables false
set_option linter.unusedSimpArgs false
namespace Go.Proofs.YtknmdmofmcfjhaaGreatDoor
open Go.RowKit Nm

theorem set3_block {w : World} {G : Nat} {x : Bool} {y z : Option Addr} {a b e f : Nat} {T : TypeId} (hb : w.heap[G]? = some (.cells #[.bool x, .slice y a b, .slice z e f] T (0, 0))) (g : Bool) (p : Option Addr) (n c : Nat) (q : Option Addr) (m d : Nat) :
    (((w.setCell ⟨G, 0, none⟩ (.bool g)).setCell ⟨G, 1, none⟩ (.slice p n c)).setCell ⟨G, 2, none⟩ (.slice q m d)).heap[G]? = some (.cells #[.bool g, .slice p n c, .slice q m d] T (0, 0)) := by
  have h1 := heap_setCell_same w G 0 _ _ (.bool g) hb
  have h2 := heap_setCell_same _ G 1 _ _ (.slice p n c) h1
  have h3 := heap_setCell_same _ G 2 _ _ (.slice q m d) h2
  rw [h3]
  simp
theorem IsV.other3 {w w' : World} {g : Bool} {p q : Option Addr} {n c m d G : Nat} {v : Rat} {x : Bool} {y z : Option Addr} {a b e f : Nat} {T : TypeId} (h : IsV w g p n c q m d v) (hb : w.heap[G]? = some (.cells #[.bool x, .slice y a b, .slice z e f] T (0, 0))) (hg : w.grownBy w' (some G)) : IsV w' g p n c q m d v :=
  ⟨⟨IsC.other3 h.1.1 hb hg, h.1.2⟩, h.2.other3 hb hg⟩

theorem IsV.nm {w : World} {g : Bool} {p q : Option Addr} {n c m d : Nat} {v : Rat} (h : IsV w g p n c q m d v) : IsI w g p n c v.num := h.1
theorem IsV.dn {w : World} {g : Bool} {p q : Option Addr} {n c m d : Nat} {v : Rat} (h : IsV w g p n c q m d v) : IsC w q m d v.den := h.2

/-- both arguments' boxes hold the valid forms -/
def NRel (v u : Rat) (w w1 : World) (b : Nat) (wx : World) : Prop :=
  ∃ (g h : Bool) (p q r s : Option Addr) (n c m d k a l e : Nat), wx.heap[w.heap.size]? = some (.cells #[.bool g, .slice p n c, .slice q m d] 29 (0, 0)) ∧ wx.heap[w.heap.size + 1]? = some (.cells #[.bool h, .slice r k a, .slice s l e] 29 (0, 0)) ∧
    IsV wx g p n c q m d v ∧ IsV wx h r k a s l e u ∧ (n ≤ b ∧ m ≤ b) ∧ (k ≤ b ∧ l ≤ b) ∧ w.grownBy wx none ∧ (∀ j x, w.heap.size + 1 < j → w1.heap[j]? = some x → wx.heap[j]? = some x)
section
variable {v u : Rat} {w w1 w2 : World} {b : Nat} {g h x1 x2 : Bool} {p q r s y1 z1 y2 z2 : Option Addr} {n c m d k a l e a1 b1 e1 f1 a2 b2 e2 f2 : Nat}
theorem nrel_ab (bA : w2.heap[w.heap.size]? = some (.cells #[.bool x1, .slice y1 a1 b1, .slice z1 e1 f1] 29 (0, 0))) (bB : w2.heap[w.heap.size + 1]? = some (.cells #[.bool x2, .slice y2 a2 b2, .slice z2 e2 f2] 29 (0, 0)))
    (hV : IsV w2 g p n c q m d v) (hU : IsV w2 h r k a s l e u) (s1 : n ≤ b ∧ m ≤ b) (s2 : k ≤ b ∧ l ≤ b) (hW : w.grownBy w2 none) (hR : w1.grownBy w2 none) :
    NRel v u w w1 b ((((((w2.setCell ⟨w.heap.size, 0, none⟩ (.bool g)).setCell ⟨w.heap.size, 1, none⟩ (.slice p n c)).setCell ⟨w.heap.size, 2, none⟩ (.slice q m d)).setCell ⟨w.heap.size + 1, 0, none⟩ (.bool h)).setCell ⟨w.heap.size + 1, 1, none⟩ (.slice r k a)).setCell ⟨w.heap.size + 1, 2, none⟩ (.slice s l e)) := by
  have h1 := set3_grown w2 w.heap.size (.bool g) (.slice p n c) (.slice q m d)
  have k1 := set3_block bA g p n c q m d
  have k2 := (h1.block (w.heap.size + 1) (lt_of_block bB) (by simp)).trans bB
  have v1 := hV.other3 bA h1
  have u1 := hU.other3 bA h1
  have g1 := grown_new hW h1 (fun g e => by cases e; omega)
  have r1 : ∀ j x, w.heap.size + 1 < j → w1.heap[j]? = some x → (((w2.setCell ⟨w.heap.size, 0, none⟩ (.bool g)).setCell ⟨w.heap.size, 1, none⟩ (.slice p n c)).setCell ⟨w.heap.size, 2, none⟩ (.slice q m d)).heap[j]? = some x := fun j x hj hx =>
    (h1.block j (lt_of_block ((hR.block j (lt_of_block hx) (by simp)).trans hx)) (by simp; omega)).trans ((hR.block j (lt_of_block hx) (by simp)).trans hx)
  generalize (((w2.setCell ⟨w.heap.size, 0, none⟩ (.bool g)).setCell ⟨w.heap.size, 1, none⟩ (.slice p n c)).setCell ⟨w.heap.size, 2, none⟩ (.slice q m d)) = w3 at *
  have h2 := set3_grown w3 (w.heap.size + 1) (.bool h) (.slice r k a) (.slice s l e)
  exact ⟨g, h, p, q, r, s, n, c, m, d, k, a, l, e, (h2.block _ (lt_of_block k1) (by simp)).trans k1, set3_block k2 h r k a s l e, v1.other3 k2 h2, u1.other3 k2 h2, s1, s2, grown_new g1 h2 (fun g e => by cases e; omega),
    fun j x hj hx => (h2.block j (lt_of_block (r1 j x hj hx)) (by simp; omega)).trans (r1 j x hj hx)⟩
theorem nrel_ba (bA : w2.heap[w.heap.size]? = some (.cells #[.bool x1, .slice y1 a1 b1, .slice z1 e1 f1] 29 (0, 0))) (bB : w2.heap[w.heap.size + 1]? = some (.cells #[.bool x2, .slice y2 a2 b2, .slice z2 e2 f2] 29 (0, 0)))
    (hV : IsV w2 g p n c q m d v) (hU : IsV w2 h r k a s l e u) (s1 : n ≤ b ∧ m ≤ b) (s2 : k ≤ b ∧ l ≤ b) (hW : w.grownBy w2 none) (hR : w1.grownBy w2 none) :
    NRel v u w w1 b ((((((w2.setCell ⟨w.heap.size + 1, 0, none⟩ (.bool h)).setCell ⟨w.heap.size + 1, 1, none⟩ (.slice r k a)).setCell ⟨w.heap.size + 1, 2, none⟩ (.slice s l e)).setCell ⟨w.heap.size, 0, none⟩ (.bool g)).setCell ⟨w.heap.size, 1, none⟩ (.slice p n c)).setCell ⟨w.heap.size, 2, none⟩ (.slice q m d)) := by
  have h1 := set3_grown w2 (w.heap.size + 1) (.bool h) (.slice r k a) (.slice s l e)
  have k1 := set3_block bB h r k a s l e
  have k2 := (h1.block w.heap.size (lt_of_block bA) (by simp)).trans bA
  have v1 := hV.other3 bB h1
  have u1 := hU.other3 bB h1
  have g1 := grown_new hW h1 (fun g e => by cases e; omega)
  have r1 : ∀ j x, w.heap.size + 1 < j → w1.heap[j]? = some x → (((w2.setCell ⟨w.heap.size + 1, 0, none⟩ (.bool h)).setCell ⟨w.heap.size + 1, 1, none⟩ (.slice r k a)).setCell ⟨w.heap.size + 1, 2, none⟩ (.slice s l e)).heap[j]? = some x := fun j x hj hx =>
    (h1.block j (lt_of_block ((hR.block j (lt_of_block hx) (by simp)).trans hx)) (by simp; omega)).trans ((hR.block j (lt_of_block hx) (by simp)).trans hx)
  generalize (((w2.setCell ⟨w.heap.size + 1, 0, none⟩ (.bool h)).setCell ⟨w.heap.size + 1, 1, none⟩ (.slice r k a)).setCell ⟨w.heap.size + 1, 2, none⟩ (.slice s l e)) = w3 at *
  have h2 := set3_grown w3 w.heap.size (.bool g) (.slice p n c) (.slice q m d)
  exact ⟨g, h, p, q, r, s, n, c, m, d, k, a, l, e, set3_block k2 g p n c q m d, (h2.block _ (lt_of_block k1) (by simp)).trans k1, v1.other3 k2 h2, u1.other3 k2 h2, s1, s2, grown_new g1 h2 (fun g e => by cases e; omega),
    fun j x hj hx => (h2.block j (lt_of_block (r1 j x hj hx)) (by simp; omega)).trans (r1 j x hj hx)⟩
end

set_option maxRecDepth 20000 in
set_option maxHeartbeats 4000000 in
theorem rSign3_v (S : Nat) {w : World} {g1 : Bool} {p1 q1 : Option Addr} {n1 c1 m1 d1 : Nat} {v : Rat} (hA : IsQ w g1 p1 n1 c1 q1 m1 d1 v) (hn1 : n1 ≤ S) (hm1 : m1 ≤ S) (hS : S ≤ 40000) :
    Calls Tryz.prog 66 #[.agg #[.bool g1, .slice p1 n1 c1, .slice q1 m1 d1]] w fun e w' => e = .returned (.int .i64 (cmpR v 0)) ∧ w.grownBy w' none := by
  have HV := hid (show cmpI v.num 0 = cmpR v 0 by rw [sign_q v.den_pos, Rat.mkRat_self])
  have hW := (World.grownBy_alloc w (.cells #[.bool g1, .slice p1 n1 c1, .slice q1 m1 d1] 29) none)
  have bx0 : (w.alloc (.cells #[.bool g1, .slice p1 n1 c1, .slice q1 m1 d1] 29)).heap[w.heap.size]? = some (.cells #[.bool g1, .slice p1 n1 c1, .slice q1 m1 d1] 29 (0, 0)) := by
    have := heap_alloc_new w (.cells #[.bool g1, .slice p1 n1 c1, .slice q1 m1 d1] 29)
    simpa using this
  obtain ⟨x0, x1, x2, _, _, _⟩ := ratbox_facts bx0
  clear bx0
  replace hA := hA.keep hW
  go_enter Tryz.func66, Tryz.ntmps66
  have hfd : ∀ (w : World) (g : Bool) (p : Option Addr) (n c : Nat) (q : Option Addr) (m d : Nat), (Instr.field 29 (.agg #[.bool g, .slice p n c, .slice q m d]) 0).run Tryz.prog w = .ok (.agg #[.bool g, .slice p n c]) w := fun _ _ _ _ _ _ _ _ => by kernel_rfl
  go_wp2_with fail
  generalize (w.alloc (.cells #[.bool g1, .slice p1 n1 c1, .slice q1 m1 d1] 29)) = w0 at *
  refine (norm_v S hA hn1 hm1 hS).mono ?_
  rintro ee v1 ⟨g3, p3, n3, c3, q3, m3, d3, rfl, hV, hn3, hm3, hg⟩
  replace hA := hA.keep hg; replace x0 := hg.cell x0 (by simp); replace x1 := hg.cell x1 (by simp); replace x2 := hg.cell x2 (by simp)
  replace hW := grown_trans hW hg
  clear hg
  go_wp2_with fail
  refine (rSign_any hV.nm.z (by omega)).mono ?_
  rintro ee v2 ⟨rfl, hg⟩
  rw [HV.out]
  replace hA := hA.keep hg; replace hV := hV.keep hg; replace x0 := hg.cell x0 (by simp); replace x1 := hg.cell x1 (by simp)
  replace x2 := hg.cell x2 (by simp); replace hW := grown_trans hW hg
  clear hg
  go_wp2_with fail
  go_ret
  exact ⟨rfl, hW⟩

set_option maxRecDepth 20000 in
set_option maxHeartbeats 4000000 in
theorem rCmp3_v (S : Nat) {w : World} {g1 g2 : Bool} {p1 q1 p2 q2 : Option Addr} {n1 c1 m1 d1 n2 c2 m2 d2 : Nat} {v u : Rat} (hA : IsQ w g1 p1 n1 c1 q1 m1 d1 v) (hB : IsQ w g2 p2 n2 c2 q2 m2 d2 u) (hn1 : n1 ≤ S) (hm1 : m1 ≤ S) (hn2 : n2 ≤ S) (hm2 : m2 ≤ S) (hS : S ≤ 40000) :
    Calls Tryz.prog 81 #[.agg #[.bool g1, .slice p1 n1 c1, .slice q1 m1 d1], .agg #[.bool g2, .slice p2 n2 c2, .slice q2 m2 d2]] w fun e w' => e = .returned (.int .i64 (cmpR v u)) ∧ w.grownBy w' none := by
  have HV := hid (show cmpI (v.num * (u.den : Int)) (u.num * (v.den : Int)) = cmpR v u by rw [cmp_q v.den_pos u.den_pos, Rat.mkRat_self, Rat.mkRat_self])
  have hW := (grown_trans (World.grownBy_alloc w (.cells #[.bool g1, .slice p1 n1 c1, .slice q1 m1 d1] 29) none) (World.grownBy_alloc _ (.cells #[.bool g2, .slice p2 n2 c2, .slice q2 m2 d2] 29) none))
  have bx0 : ((w.alloc (.cells #[.bool g1, .slice p1 n1 c1, .slice q1 m1 d1] 29)).alloc (.cells #[.bool g2, .slice p2 n2 c2, .slice q2 m2 d2] 29)).heap[w.heap.size]? = some (.cells #[.bool g1, .slice p1 n1 c1, .slice q1 m1 d1] 29 (0, 0)) := by
    have h0 := heap_alloc_new w (.cells #[.bool g1, .slice p1 n1 c1, .slice q1 m1 d1] 29)
    have h1 := (World.grownBy_alloc (w.alloc (.cells #[.bool g1, .slice p1 n1 c1, .slice q1 m1 d1] 29)) (.cells #[.bool g2, .slice p2 n2 c2, .slice q2 m2 d2] 29) none).block _ (lt_of_block h0) (by simp)
    have h2 := h1.trans h0
    simpa using h2
  have bx1 : ((w.alloc (.cells #[.bool g1, .slice p1 n1 c1, .slice q1 m1 d1] 29)).alloc (.cells #[.bool g2, .slice p2 n2 c2, .slice q2 m2 d2] 29)).heap[w.heap.size + 1]? = some (.cells #[.bool g2, .slice p2 n2 c2, .slice q2 m2 d2] 29 (0, 0)) := by
    have := heap_alloc_new (w.alloc (.cells #[.bool g1, .slice p1 n1 c1, .slice q1 m1 d1] 29)) (.cells #[.bool g2, .slice p2 n2 c2, .slice q2 m2 d2] 29)
    simpa using this
  replace hA := hA.keep hW; replace hB := hB.keep hW
  go_enter Tryz.func81, Tryz.ntmps81
  go_wp2_with fail
  generalize ((w.alloc (.cells #[.bool g1, .slice p1 n1 c1, .slice q1 m1 d1] 29)).alloc (.cells #[.bool g2, .slice p2 n2 c2, .slice q2 m2 d2] 29)) = w0 at *
  have hR := grown_refl w0 none
  have hg := grown_drew w0 none
  go_cut [2] from 5 to 8 (fun s2 wx => s2 = .pointer (some ⟨w.heap.size, 0, none⟩) ∧ NRel v u w w0 (S + 4) wx)
  case first =>
    replace hA := hA.keep hg; replace hB := hB.keep hg; replace bx0 := (hg.block _ (lt_of_block bx0) (by simp)).trans bx0; replace bx1 := (hg.block _ (lt_of_block bx1) (by simp)).trans bx1; replace hW := grown_trans hW hg; replace hR := grown_trans hR hg
    clear hg
    obtain ⟨x0, x1, x2, _, _, _⟩ := ratbox_facts bx0
    obtain ⟨y0, y1, y2, _, _, _⟩ := ratbox_facts bx1
    go_region_with (first
      | (go_at_call 125; (with_reducible refine (norm_v S hA hn1 hm1 hS).mono ?_); intro ee v1 HH; obtain ⟨g3, p3, n3, c3, q3, m3, d3, he, hV, hn3, hm3, hg⟩ := HH; subst he; replace hA := hA.keep hg; replace hB := hB.keep hg; replace x0 := hg.cell x0 (by simp); replace x1 := hg.cell x1 (by simp); replace x2 := hg.cell x2 (by simp); replace y0 := hg.cell y0 (by simp); replace y1 := hg.cell y1 (by simp); replace y2 := hg.cell y2 (by simp); replace bx0 := (hg.block _ (lt_of_block bx0) (by simp)).trans bx0; replace bx1 := (hg.block _ (lt_of_block bx1) (by simp)).trans bx1; replace hW := grown_trans hW hg; replace hR := grown_trans hR hg; clear hg)
      | (go_at_call 125; (with_reducible refine (norm_v S hB hn2 hm2 hS).mono ?_); intro ee v2 HH; obtain ⟨g4, p4, n4, c4, q4, m4, d4, he, hU, hn4, hm4, hg⟩ := HH; subst he; replace hA := hA.keep hg; replace hB := hB.keep hg; replace hV := hV.keep hg; replace x0 := hg.cell x0 (by simp); replace x1 := hg.cell x1 (by simp); replace x2 := hg.cell x2 (by simp); replace y0 := hg.cell y0 (by simp); replace y1 := hg.cell y1 (by simp); replace y2 := hg.cell y2 (by simp); replace bx0 := (hg.block _ (lt_of_block bx0) (by simp)).trans bx0; replace bx1 := (hg.block _ (lt_of_block bx1) (by simp)).trans bx1; replace hW := grown_trans hW hg; replace hR := grown_trans hR hg; clear hg; have ff := ratbox_facts bx0; obtain ⟨_, _, _, fa0, fa1, fa2⟩ := ff; have ff := ratbox_facts bx1; obtain ⟨_, _, _, fb0, fb1, fb2⟩ := ff))
    all_goals
      go_wp2_with fail
      go_meet
      refine ⟨rfl, ?_⟩
      first
        | with_reducible exact nrel_ab bx0 bx1 hV hU ⟨hn3, hm3⟩ ⟨hn4, hm4⟩ hW hR
        | with_reducible exact nrel_ba bx0 bx1 hV hU ⟨hn3, hm3⟩ ⟨hn4, hm4⟩ hW hR
  case rest =>
    obtain ⟨rfl, g3, g4, p3, q3, p4, q4, n3, c3, m3, d3, n4, c4, m4, d4, bA, bB, hV, hU, ⟨hn3, hm3⟩, ⟨hn4, hm4⟩, hW, hR⟩ := hcut
    obtain ⟨x0, x1, x2, _, _, _⟩ := ratbox_facts bA
    obtain ⟨y0, y1, y2, _, _, _⟩ := ratbox_facts bB
    clear hR hg
    clear bA bB bx0 bx1 hA hB
    go_wp2_with fail
    have hg := grown_drew wc none
    replace hV := hV.keep hg; replace hU := hU.keep hg; replace x0 := hg.cell x0 (by simp); replace x1 := hg.cell x1 (by simp)
    replace x2 := hg.cell x2 (by simp); replace y0 := hg.cell y0 (by simp); replace y1 := hg.cell y1 (by simp); replace y2 := hg.cell y2 (by simp)
    replace hW := grown_trans hW hg
    clear hg
    go_region_held3 (fun w' => w'.cell? ⟨w.heap.size, 0, none⟩ = some (.bool g3) ∧ w'.cell? ⟨w.heap.size, 1, none⟩ = some (.slice p3 n3 c3) ∧ w'.cell? ⟨w.heap.size, 2, none⟩ = some (.slice q3 m3 d3) ∧ w'.cell? ⟨w.heap.size + 1, 0, none⟩ = some (.bool g4) ∧ w'.cell? ⟨w.heap.size + 1, 1, none⟩ = some (.slice p4 n4 c4) ∧ w'.cell? ⟨w.heap.size + 1, 2, none⟩ = some (.slice q4 m4 d4)) ((try go_split_ands) <;> (repeat' apply And.intro) <;> (repeat (first | (with_reducible assumption) | (with_reducible refine (grown_setCell _ _ _).cell ?_ (by first | (simp; omega) | simp)) | (with_reducible refine (World.grownBy_alloc _ _ none).cell ?_ (by simp)) | (with_reducible refine (grown_drew _ none).cell ?_ (by simp)))))
      (first
        | (go_at_call 135; (with_reducible refine (wholeT_any _ _ _).mono ?_); rintro ee v5 ⟨rfl, hg⟩; replace hV := hV.keep hg; replace hU := hU.keep hg; replace hX := hX.keep hg; replace x0 := hg.cell x0 (by simp); replace x1 := hg.cell x1 (by simp); replace x2 := hg.cell x2 (by simp); replace y0 := hg.cell y0 (by simp); replace y1 := hg.cell y1 (by simp); replace y2 := hg.cell y2 (by simp); replace hW := grown_trans hW hg; clear hg)
        | (go_at_call 135; (with_reducible refine (wholeT_any _ _ _).mono ?_); rintro ee v5 ⟨rfl, hg⟩; replace hV := hV.keep hg; replace hU := hU.keep hg; replace x0 := hg.cell x0 (by simp); replace x1 := hg.cell x1 (by simp); replace x2 := hg.cell x2 (by simp); replace y0 := hg.cell y0 (by simp); replace y1 := hg.cell y1 (by simp); replace y2 := hg.cell y2 (by simp); replace hW := grown_trans hW hg; clear hg)
        | (go_at_call 134; (with_reducible refine (rMul_any hV.nm.z (IsZ.of_n hU.dn.isN) (by omega) (by omega)).mono ?_); intro ee v6 HH; obtain ⟨g6, p6, n6, c6, he, hX, hn6, hg⟩ := HH; subst he; replace hV := hV.keep hg; replace hU := hU.keep hg; replace x0 := hg.cell x0 (by simp); replace x1 := hg.cell x1 (by simp); replace x2 := hg.cell x2 (by simp); replace y0 := hg.cell y0 (by simp); replace y1 := hg.cell y1 (by simp); replace y2 := hg.cell y2 (by simp); replace hW := grown_trans hW hg; clear hg)
        | (go_at_call 134; (with_reducible refine (rMul_any hU.nm.z (IsZ.of_n hV.dn.isN) (by omega) (by omega)).mono ?_); intro ee v7 HH; obtain ⟨g7, p7, n7, c7, he, hY, hn7, hg⟩ := HH; subst he; replace hV := hV.keep hg; replace hU := hU.keep hg; replace hX := hX.keep hg; replace x0 := hg.cell x0 (by simp); replace x1 := hg.cell x1 (by simp); replace x2 := hg.cell x2 (by simp); replace y0 := hg.cell y0 (by simp); replace y1 := hg.cell y1 (by simp); replace y2 := hg.cell y2 (by simp); replace hW := grown_trans hW hg; clear hg)
        | (go_at_call 133; (with_reducible refine (rCmp_any hX.z hY.z (by omega) (by omega)).mono ?_); rintro ee v8 ⟨rfl, hg⟩; rw [HV.out]; replace hV := hV.keep hg; replace hU := hU.keep hg; replace hX := hX.keep hg; replace hY := hY.keep hg; replace x0 := hg.cell x0 (by simp); replace x1 := hg.cell x1 (by simp); replace x2 := hg.cell x2 (by simp); replace y0 := hg.cell y0 (by simp); replace y1 := hg.cell y1 (by simp); replace y2 := hg.cell y2 (by simp); replace hW := grown_trans hW hg; clear hg))
    go_wp2_with fail
    go_ret
    exact ⟨rfl, hW⟩

set_option maxRecDepth 20000 in
set_option maxHeartbeats 4000000 in
theorem rEqual3_v (S : Nat) {w : World} {g1 g2 : Bool} {p1 q1 p2 q2 : Option Addr} {n1 c1 m1 d1 n2 c2 m2 d2 : Nat} {v u : Rat} (hA : IsQ w g1 p1 n1 c1 q1 m1 d1 v) (hB : IsQ w g2 p2 n2 c2 q2 m2 d2 u) (hn1 : n1 ≤ S) (hm1 : m1 ≤ S) (hn2 : n2 ≤ S) (hm2 : m2 ≤ S) (hS : S ≤ 40000) :
    Calls Tryz.prog 54 #[.agg #[.bool g1, .slice p1 n1 c1, .slice q1 m1 d1], .agg #[.bool g2, .slice p2 n2 c2, .slice q2 m2 d2]] w fun e w' => e = .returned (.bool (decide (v = u))) ∧ w.grownBy w' none := by
  have EQ := hid (show (cmpR v u == 0) = decide (v = u) by
    by_cases h : v = u
    · rw [decide_eq_true h, cmpR_zero.2 h]; rfl
    · rw [decide_eq_false h]; exact beq_eq_false_iff_ne.2 (fun k => h (cmpR_zero.1 k)))
  have hW := (grown_trans (World.grownBy_alloc w (.cells #[.bool g1, .slice p1 n1 c1, .slice q1 m1 d1] 29) none) (World.grownBy_alloc _ (.cells #[.bool g2, .slice p2 n2 c2, .slice q2 m2 d2] 29) none))
  have bx0 : ((w.alloc (.cells #[.bool g1, .slice p1 n1 c1, .slice q1 m1 d1] 29)).alloc (.cells #[.bool g2, .slice p2 n2 c2, .slice q2 m2 d2] 29)).heap[w.heap.size]? = some (.cells #[.bool g1, .slice p1 n1 c1, .slice q1 m1 d1] 29 (0, 0)) := by
    have h0 := heap_alloc_new w (.cells #[.bool g1, .slice p1 n1 c1, .slice q1 m1 d1] 29)
    have h1 := (World.grownBy_alloc (w.alloc (.cells #[.bool g1, .slice p1 n1 c1, .slice q1 m1 d1] 29)) (.cells #[.bool g2, .slice p2 n2 c2, .slice q2 m2 d2] 29) none).block _ (lt_of_block h0) (by simp)
    have h2 := h1.trans h0
    simpa using h2
  obtain ⟨x0, x1, x2, _, _, _⟩ := ratbox_facts bx0
  clear bx0
  have bx1 : ((w.alloc (.cells #[.bool g1, .slice p1 n1 c1, .slice q1 m1 d1] 29)).alloc (.cells #[.bool g2, .slice p2 n2 c2, .slice q2 m2 d2] 29)).heap[w.heap.size + 1]? = some (.cells #[.bool g2, .slice p2 n2 c2, .slice q2 m2 d2] 29 (0, 0)) := by
    have := heap_alloc_new (w.alloc (.cells #[.bool g1, .slice p1 n1 c1, .slice q1 m1 d1] 29)) (.cells #[.bool g2, .slice p2 n2 c2, .slice q2 m2 d2] 29)
    simpa using this
  obtain ⟨y0, y1, y2, _, _, _⟩ := ratbox_facts bx1
  clear bx1
  replace hA := hA.keep hW; replace hB := hB.keep hW
  go_enter Tryz.func54, Tryz.ntmps54
  go_wp2_with fail
  generalize ((w.alloc (.cells #[.bool g1, .slice p1 n1 c1, .slice q1 m1 d1] 29)).alloc (.cells #[.bool g2, .slice p2 n2 c2, .slice q2 m2 d2] 29)) = w0 at *
  refine (rCmp3_v S hA hB hn1 hm1 hn2 hm2 hS).mono ?_
  rintro ee v1 ⟨rfl, hg⟩
  replace hA := hA.keep hg; replace hB := hB.keep hg; replace x0 := hg.cell x0 (by simp); replace x1 := hg.cell x1 (by simp)
  replace x2 := hg.cell x2 (by simp); replace y0 := hg.cell y0 (by simp); replace y1 := hg.cell y1 (by simp); replace y2 := hg.cell y2 (by simp)
  replace hW := grown_trans hW hg
  clear hg
  go_wp2_with fail
  go_ret
  exact ⟨congrArg Ending.returned (congrArg Value.bool EQ.out), hW⟩

set_option maxRecDepth 20000 in
set_option maxHeartbeats 4000000 in
theorem rAdd3_v (S : Nat) {w : World} {g1 g2 : Bool} {p1 q1 p2 q2 : Option Addr} {n1 c1 m1 d1 n2 c2 m2 d2 : Nat} {v u : Rat} (hA : IsQ w g1 p1 n1 c1 q1 m1 d1 v) (hB : IsQ w g2 p2 n2 c2 q2 m2 d2 u) (hn1 : n1 ≤ S) (hm1 : m1 ≤ S) (hn2 : n2 ≤ S) (hm2 : m2 ≤ S) (hS : S ≤ 20000) :
    Calls Tryz.prog 85 #[.agg #[.bool g1, .slice p1 n1 c1, .slice q1 m1 d1], .agg #[.bool g2, .slice p2 n2 c2, .slice q2 m2 d2]] w (VPost w (v + u) (8 * S + 60)) := by
  have HV := hid (show mkRat (v.num * (u.den : Int) + u.num * (v.den : Int)) (v.den * u.den) = v + u by
    have := Rat.mkRat_add_mkRat v.num u.num v.den_nz u.den_nz
    rw [Rat.mkRat_self, Rat.mkRat_self] at this
    exact this.symm)
  have hW := (grown_trans (grown_trans (World.grownBy_alloc w (.cells #[.bool g1, .slice p1 n1 c1, .slice q1 m1 d1] 29) none) (World.grownBy_alloc _ (.cells #[.bool g2, .slice p2 n2 c2, .slice q2 m2 d2] 29) none)) (World.grownBy_alloc _ (.cells #[.bool false, .slice none 0 0, .slice none 0 0] 29) none))
  have bx0 : (((w.alloc (.cells #[.bool g1, .slice p1 n1 c1, .slice q1 m1 d1] 29)).alloc (.cells #[.bool g2, .slice p2 n2 c2, .slice q2 m2 d2] 29)).alloc (.cells #[.bool false, .slice none 0 0, .slice none 0 0] 29)).heap[w.heap.size]? = some (.cells #[.bool g1, .slice p1 n1 c1, .slice q1 m1 d1] 29 (0, 0)) := by
    have h0 := heap_alloc_new w (.cells #[.bool g1, .slice p1 n1 c1, .slice q1 m1 d1] 29)
    have h1 := (grown_trans (World.grownBy_alloc (w.alloc (.cells #[.bool g1, .slice p1 n1 c1, .slice q1 m1 d1] 29)) (.cells #[.bool g2, .slice p2 n2 c2, .slice q2 m2 d2] 29) none) (World.grownBy_alloc _ (.cells #[.bool false, .slice none 0 0, .slice none 0 0] 29) none)).block _ (lt_of_block h0) (by simp)
    have h2 := h1.trans h0
    simpa using h2
  have bx1 : (((w.alloc (.cells #[.bool g1, .slice p1 n1 c1, .slice q1 m1 d1] 29)).alloc (.cells #[.bool g2, .slice p2 n2 c2, .slice q2 m2 d2] 29)).alloc (.cells #[.bool false, .slice none 0 0, .slice none 0 0] 29)).heap[w.heap.size + 1]? = some (.cells #[.bool g2, .slice p2 n2 c2, .slice q2 m2 d2] 29 (0, 0)) := by
    have h0 := heap_alloc_new (w.alloc (.cells #[.bool g1, .slice p1 n1 c1, .slice q1 m1 d1] 29)) (.cells #[.bool g2, .slice p2 n2 c2, .slice q2 m2 d2] 29)
    have h1 := (World.grownBy_alloc ((w.alloc (.cells #[.bool g1, .slice p1 n1 c1, .slice q1 m1 d1] 29)).alloc (.cells #[.bool g2, .slice p2 n2 c2, .slice q2 m2 d2] 29)) (.cells #[.bool false, .slice none 0 0, .slice none 0 0] 29) none).block _ (lt_of_block h0) (by simp)
    have h2 := h1.trans h0
    simpa using h2
  have bx2 : (((w.alloc (.cells #[.bool g1, .slice p1 n1 c1, .slice q1 m1 d1] 29)).alloc (.cells #[.bool g2, .slice p2 n2 c2, .slice q2 m2 d2] 29)).alloc (.cells #[.bool false, .slice none 0 0, .slice none 0 0] 29)).heap[w.heap.size + 1 + 1]? = some (.cells #[.bool false, .slice none 0 0, .slice none 0 0] 29 (0, 0)) := by
    have := heap_alloc_new ((w.alloc (.cells #[.bool g1, .slice p1 n1 c1, .slice q1 m1 d1] 29)).alloc (.cells #[.bool g2, .slice p2 n2 c2, .slice q2 m2 d2] 29)) (.cells #[.bool false, .slice none 0 0, .slice none 0 0] 29)
    simpa using this
  replace hA := hA.keep hW; replace hB := hB.keep hW
  go_enter Tryz.func85, Tryz.ntmps85
  go_wp2_with fail
  generalize (((w.alloc (.cells #[.bool g1, .slice p1 n1 c1, .slice q1 m1 d1] 29)).alloc (.cells #[.bool g2, .slice p2 n2 c2, .slice q2 m2 d2] 29)).alloc (.cells #[.bool false, .slice none 0 0, .slice none 0 0] 29)) = w0 at *
  have hR := grown_refl w0 none
  have hg := grown_drew w0 none
  go_cut [2] from 5 to 8 (fun s2 wx => s2 = .pointer (some ⟨w.heap.size, 0, none⟩) ∧ NRel v u w w0 (S + 4) wx)
  case first =>
    replace hA := hA.keep hg; replace hB := hB.keep hg; replace bx0 := (hg.block _ (lt_of_block bx0) (by simp)).trans bx0; replace bx1 := (hg.block _ (lt_of_block bx1) (by simp)).trans bx1; replace bx2 := (hg.block _ (lt_of_block bx2) (by simp)).trans bx2; replace hW := grown_trans hW hg; replace hR := grown_trans hR hg
    clear hg
    obtain ⟨x0, x1, x2, _, _, _⟩ := ratbox_facts bx0
    obtain ⟨y0, y1, y2, _, _, _⟩ := ratbox_facts bx1
    go_region_with (first
      | (go_at_call 125; (with_reducible refine (norm_v S hA hn1 hm1 (by omega)).mono ?_); intro ee v1 HH; obtain ⟨g3, p3, n3, c3, q3, m3, d3, he, hV, hn3, hm3, hg⟩ := HH; subst he; replace hA := hA.keep hg; replace hB := hB.keep hg; replace x0 := hg.cell x0 (by simp); replace x1 := hg.cell x1 (by simp); replace x2 := hg.cell x2 (by simp); replace y0 := hg.cell y0 (by simp); replace y1 := hg.cell y1 (by simp); replace y2 := hg.cell y2 (by simp); replace bx0 := (hg.block _ (lt_of_block bx0) (by simp)).trans bx0; replace bx1 := (hg.block _ (lt_of_block bx1) (by simp)).trans bx1; replace bx2 := (hg.block _ (lt_of_block bx2) (by simp)).trans bx2; replace hW := grown_trans hW hg; replace hR := grown_trans hR hg; clear hg)
      | (go_at_call 125; (with_reducible refine (norm_v S hB hn2 hm2 (by omega)).mono ?_); intro ee v2 HH; obtain ⟨g4, p4, n4, c4, q4, m4, d4, he, hU, hn4, hm4, hg⟩ := HH; subst he; replace hA := hA.keep hg; replace hB := hB.keep hg; replace hV := hV.keep hg; replace x0 := hg.cell x0 (by simp); replace x1 := hg.cell x1 (by simp); replace x2 := hg.cell x2 (by simp); replace y0 := hg.cell y0 (by simp); replace y1 := hg.cell y1 (by simp); replace y2 := hg.cell y2 (by simp); replace bx0 := (hg.block _ (lt_of_block bx0) (by simp)).trans bx0; replace bx1 := (hg.block _ (lt_of_block bx1) (by simp)).trans bx1; replace bx2 := (hg.block _ (lt_of_block bx2) (by simp)).trans bx2; replace hW := grown_trans hW hg; replace hR := grown_trans hR hg; clear hg; have ff := ratbox_facts bx0; obtain ⟨_, _, _, fa0, fa1, fa2⟩ := ff; have ff := ratbox_facts bx1; obtain ⟨_, _, _, fb0, fb1, fb2⟩ := ff))
    all_goals
      go_wp2_with fail
      go_meet
      refine ⟨rfl, ?_⟩
      first
        | with_reducible exact nrel_ab bx0 bx1 hV hU ⟨hn3, hm3⟩ ⟨hn4, hm4⟩ hW hR
        | with_reducible exact nrel_ba bx0 bx1 hV hU ⟨hn3, hm3⟩ ⟨hn4, hm4⟩ hW hR
  case rest =>
    obtain ⟨rfl, g3, g4, p3, q3, p4, q4, n3, c3, m3, d3, n4, c4, m4, d4, bA, bB, hV, hU, ⟨hn3, hm3⟩, ⟨hn4, hm4⟩, hW, hR⟩ := hcut
    replace bx2 := hR _ _ (by omega) bx2
    obtain ⟨x0, x1, x2, _, _, _⟩ := ratbox_facts bA
    obtain ⟨y0, y1, y2, _, _, _⟩ := ratbox_facts bB
    clear hR hg
    clear bA bB bx0 bx1 hA hB
    go_wp2_with fail
    have hg := grown_drew wc none
    replace hV := hV.keep hg; replace hU := hU.keep hg; replace x0 := hg.cell x0 (by simp); replace x1 := hg.cell x1 (by simp)
    replace x2 := hg.cell x2 (by simp); replace y0 := hg.cell y0 (by simp); replace y1 := hg.cell y1 (by simp); replace y2 := hg.cell y2 (by simp)
    replace bx2 := (hg.block _ (lt_of_block bx2) (by simp)).trans bx2; replace hW := grown_trans hW hg
    clear hg
    go_region_held3 (fun w' => w'.cell? ⟨w.heap.size, 0, none⟩ = some (.bool g3) ∧ w'.cell? ⟨w.heap.size, 1, none⟩ = some (.slice p3 n3 c3) ∧ w'.cell? ⟨w.heap.size, 2, none⟩ = some (.slice q3 m3 d3) ∧ w'.cell? ⟨w.heap.size + 1, 0, none⟩ = some (.bool g4) ∧ w'.cell? ⟨w.heap.size + 1, 1, none⟩ = some (.slice p4 n4 c4) ∧ w'.cell? ⟨w.heap.size + 1, 2, none⟩ = some (.slice q4 m4 d4)) ((try go_split_ands) <;> (repeat' apply And.intro) <;> (repeat (first | (with_reducible assumption) | (with_reducible refine (grown_setCell _ _ _).cell ?_ (by first | (simp; omega) | simp)) | (with_reducible refine (World.grownBy_alloc _ _ none).cell ?_ (by simp)) | (with_reducible refine (grown_drew _ none).cell ?_ (by simp)))))
      (first
        | (go_at_call 135; (with_reducible refine (wholeT_any _ _ _).mono ?_); rintro ee v5 ⟨rfl, hg⟩; replace hV := hV.keep hg; replace hU := hU.keep hg; replace hX := hX.keep hg; replace x0 := hg.cell x0 (by simp); replace x1 := hg.cell x1 (by simp); replace x2 := hg.cell x2 (by simp); replace y0 := hg.cell y0 (by simp); replace y1 := hg.cell y1 (by simp); replace y2 := hg.cell y2 (by simp); replace bx2 := (hg.block _ (lt_of_block bx2) (by simp)).trans bx2; replace hW := grown_trans hW hg; clear hg)
        | (go_at_call 135; (with_reducible refine (wholeT_any _ _ _).mono ?_); rintro ee v5 ⟨rfl, hg⟩; replace hV := hV.keep hg; replace hU := hU.keep hg; replace x0 := hg.cell x0 (by simp); replace x1 := hg.cell x1 (by simp); replace x2 := hg.cell x2 (by simp); replace y0 := hg.cell y0 (by simp); replace y1 := hg.cell y1 (by simp); replace y2 := hg.cell y2 (by simp); replace bx2 := (hg.block _ (lt_of_block bx2) (by simp)).trans bx2; replace hW := grown_trans hW hg; clear hg)
        | (go_at_call 134; (with_reducible refine (rMul_any hV.nm.z (IsZ.of_n hU.dn.isN) (by omega) (by omega)).mono ?_); intro ee v6 HH; obtain ⟨g6, p6, n6, c6, he, hX, hn6, hg⟩ := HH; subst he; replace hV := hV.keep hg; replace hU := hU.keep hg; replace x0 := hg.cell x0 (by simp); replace x1 := hg.cell x1 (by simp); replace x2 := hg.cell x2 (by simp); replace y0 := hg.cell y0 (by simp); replace y1 := hg.cell y1 (by simp); replace y2 := hg.cell y2 (by simp); replace bx2 := (hg.block _ (lt_of_block bx2) (by simp)).trans bx2; replace hW := grown_trans hW hg; clear hg)
        | (go_at_call 134; (with_reducible refine (rMul_any hU.nm.z (IsZ.of_n hV.dn.isN) (by omega) (by omega)).mono ?_); intro ee v7 HH; obtain ⟨g7, p7, n7, c7, he, hY, hn7, hg⟩ := HH; subst he; replace hV := hV.keep hg; replace hU := hU.keep hg; replace hX := hX.keep hg; replace x0 := hg.cell x0 (by simp); replace x1 := hg.cell x1 (by simp); replace x2 := hg.cell x2 (by simp); replace y0 := hg.cell y0 (by simp); replace y1 := hg.cell y1 (by simp); replace y2 := hg.cell y2 (by simp); replace bx2 := (hg.block _ (lt_of_block bx2) (by simp)).trans bx2; replace hW := grown_trans hW hg; clear hg)
        | (go_at_call 139; (with_reducible refine (rAdd_any hX.z hY.z (by omega) (by omega)).mono ?_); intro ee v8 HH; obtain ⟨g8, p8, n8, c8, he, hP, hn8, hg⟩ := HH; subst he; replace hV := hV.keep hg; replace hU := hU.keep hg; replace hX := hX.keep hg; replace hY := hY.keep hg; replace x0 := hg.cell x0 (by simp); replace x1 := hg.cell x1 (by simp); replace x2 := hg.cell x2 (by simp); replace y0 := hg.cell y0 (by simp); replace y1 := hg.cell y1 (by simp); replace y2 := hg.cell y2 (by simp); replace bx2 := (hg.block _ (lt_of_block bx2) (by simp)).trans bx2; replace hW := grown_trans hW hg; clear hg)
        | (go_at_call 140; (with_reducible refine (refMul_n hV.dn.isN hU.dn.isN (by omega) (by omega)).mono ?_); intro ee v9 HH; obtain ⟨q9, m9, d9, he, hQ, hm9, hg⟩ := HH; subst he; replace hV := hV.keep hg; replace hU := hU.keep hg; replace hX := hX.keep hg; replace hY := hY.keep hg; replace hP := hP.keep hg; replace x0 := hg.cell x0 (by simp); replace x1 := hg.cell x1 (by simp); replace x2 := hg.cell x2 (by simp); replace y0 := hg.cell y0 (by simp); replace y1 := hg.cell y1 (by simp); replace y2 := hg.cell y2 (by simp); replace bx2 := (hg.block _ (lt_of_block bx2) (by simp)).trans bx2; replace hW := grown_trans hW hg; clear hg)
        | (go_at_call 112; (with_reducible refine (over_v (8 * S + 60) hP.z hQ.isN HV.out (by omega) (by omega) (by omega)).mono ?_); intro ee v10 HH; obtain ⟨g10, p10, n10, c10, q10, m10, d10, he, hZ, hn10, hm10, hg⟩ := HH; subst he; replace hV := hV.keep hg; replace hU := hU.keep hg; replace hX := hX.keep hg; replace hY := hY.keep hg; replace hP := hP.keep hg; replace hQ := hQ.keep hg; replace x0 := hg.cell x0 (by simp); replace x1 := hg.cell x1 (by simp); replace x2 := hg.cell x2 (by simp); replace y0 := hg.cell y0 (by simp); replace y1 := hg.cell y1 (by simp); replace y2 := hg.cell y2 (by simp); replace bx2 := (hg.block _ (lt_of_block bx2) (by simp)).trans bx2; replace hW := grown_trans hW hg; clear hg; have ff := ratbox_facts bx2; obtain ⟨l0, l1, l2, f0, f1, f2⟩ := ff))
    go_wp2_with fail
    exact bodyPost_ret (v := .agg #[.bool g10, .slice p10 n10 c10, .slice q10 m10 d10]) (by simp [results, Tryz.results85, go_sem, l0, l1, l2, f0, f1, f2]) rfl
      (VPost.close bx2 (by omega) hW hZ hn10 hm10)



end Go.Proofs.YtknmdmofmcfjhaaGreatDoor

set_option linter.unusedVariables false
set_option linter.unusedSimpArgs false
namespace Go.Proofs.YtknmdmofmcfjhaaGreatDoor
open Go.ChangeShapes Go.WideShapes Go.ChangeAt Go.RowKit Nm
open Go

set_option maxRecDepth 20000 in
set_option maxHeartbeats 4000000 in
theorem rOf3_v {w : World} (x : Int) (h1 : -9223372036854775808 ≤ x) (h2 : x ≤ 9223372036854775807) :
    Calls Tryz.prog 55 #[.int .i64 x] w (VPost w (x : Rat) 20) := by
  have HV := hid (show mkRat x 1 = (x : Rat) by
    rw [Rat.mkRat_eq_div]
    have : ((1 : Nat) : Rat) = 1 := rfl
    rw [this]; grind)
  have hW := (World.grownBy_alloc w (.cells #[.bool false, .slice none 0 0, .slice none 0 0] 29) none)
  have bx0 : (w.alloc (.cells #[.bool false, .slice none 0 0, .slice none 0 0] 29)).heap[w.heap.size]? = some (.cells #[.bool false, .slice none 0 0, .slice none 0 0] 29 (0, 0)) := by
    have := heap_alloc_new w (.cells #[.bool false, .slice none 0 0, .slice none 0 0] 29)
    simpa using this
  skip
  go_enter Tryz.func55, Tryz.ntmps55
  go_wp2_with fail
  generalize (w.alloc (.cells #[.bool false, .slice none 0 0, .slice none 0 0] 29)) = w0 at *
  refine (rOfI x _ h1 h2).mono ?_
  rintro ee v1 ⟨g1, p1, n1, c1, rfl, hX, hn1, hg⟩
  replace bx0 := (hg.block _ (lt_of_block bx0) (by simp)).trans bx0; replace hW := grown_trans hW hg
  clear hg
  go_wp2_with fail
  refine (refOf_c 1 (by unfold W64; omega) _).mono ?_
  rintro ee v2 ⟨q2, m2, d2, rfl, hY, hm2, hg⟩
  replace hX := hX.keep hg; replace bx0 := (hg.block _ (lt_of_block bx0) (by simp)).trans bx0; replace hW := grown_trans hW hg
  clear hg
  go_wp2_with fail
  refine (over_v 20 hX.z hY.isN HV.out (by omega) (by omega) (by omega)).mono ?_
  rintro ee v3 ⟨g6, p6, n6, c6, q6, m6, d6, rfl, hZ, hn6, hm6, hg⟩
  replace hX := hX.keep hg; replace hY := hY.keep hg; replace bx0 := (hg.block _ (lt_of_block bx0) (by simp)).trans bx0; replace hW := grown_trans hW hg
  clear hg
  obtain ⟨l0, l1, l2, f0, f1, f2⟩ := ratbox_facts bx0
  go_wp2_with fail
  exact bodyPost_ret (v := .agg #[.bool g6, .slice p6 n6 c6, .slice q6 m6 d6]) (by simp [results, Tryz.results55, go_sem, l0, l1, l2, f0, f1, f2]) rfl
    (VPost.close bx0 (by omega) hW hZ (by omega) (by omega))



end Go.Proofs.YtknmdmofmcfjhaaGreatDoor
