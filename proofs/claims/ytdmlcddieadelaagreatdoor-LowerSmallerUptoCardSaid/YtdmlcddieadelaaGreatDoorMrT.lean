/-
  RatT RatW RatWr, in one text.
-/
import Derived.Test.YtdmlcddieadelaaGreatDoorMrR

set_option linter.unusedVariables false
set_option linter.unusedSimpArgs false
namespace Go.Proofs.YtdmlcddieadelaaGreatDoor
open Go.RowKit Nm


set_option maxHeartbeats 1000000 in
theorem same_ne (a b : Option Addr) (n c d : Nat) (xs ys : List Nat) (w : World) (h : IRd w .u16 a n c xs) (k : IRd w .u16 b n d ys) (hne : xs ≠ ys) :
    Calls Tryz.prog 72 #[.slice a n c, .slice b n d] w fun e w' => e = .returned (.bool false) ∧ w.grownBy w' none := by
  have hmax := h.max
  have hcap := h.cap
  have HL := hid h.len
  have HK := hid k.len
  have HN := hid hne
  clear hne
  go_enter Tryz.func72, Tryz.ntmps72
  go_wp2_with fail
  go_loopw [5] (fun i wr => ∃ j : Nat, j ≤ n ∧ i = .int .i64 j ∧ w.grownBy wr none ∧ Hid (∀ l, l < j → xs[l]? = ys[l]?)) (fun i _ => n - (intOf i).toNat)
  case atStart => exact ⟨0, Nat.zero_le _, rfl, grown_refl _ _, hid fun l h => by omega⟩
  case round =>
    obtain ⟨i, hi, rfl, hgr, HE⟩ := hrel
    by_cases hlt : i < n
    · have hiu : i < xs.length := by rw [HL.out]; exact hlt
      have hiv : i < ys.length := by rw [HK.out]; exact hlt
      obtain ⟨b1, o1, rfl, hc1⟩ := h.cel i hiu
      obtain ⟨b2, o2, rfl, hc2⟩ := k.cel i hiv
      have hd1 := hgr.cell hc1 (by simp)
      have hd2 := hgr.cell hc2 (by simp)
      have e1 := hid (show xs[i]? = some xs[i] by simp [hiu])
      have e2 := hid (show ys[i]? = some ys[i] by simp [hiv])
      generalize xs[i] = x at *
      generalize ys[i] = y at *
      clear hc1 hc2
      have hi0 : (0 : Int) ≤ (i : Int) := by omega
      have hil : (i : Int) < (n : Int) := by omega
      by_cases hxy : x = y
      · subst hxy
        go_wp2
        go_quiet (fail)
        go_wp2
        refine ⟨⟨i + 1, by omega, rfl, gdN hgr _, hid fun l hl => ?_⟩, by simp [intOf]; omega⟩
        by_cases e : l = i
        · subst e; rw [e1.out, e2.out]
        · exact HE.out l (by omega)
      · have hb : (((x : Int) != (y : Int)) = true) := by simp; omega
        go_wp2
        go_quiet (fail)
        go_wp2
        go_ret
        exact ⟨rfl, gdN hgr _⟩
    · obtain rfl : i = n := by omega
      exact absurd (List.ext_getElem? fun l => by
        by_cases hl : l < i
        · exact HE.out l hl
        · rw [List.getElem?_eq_none (by have := HL.out; omega), List.getElem?_eq_none (by have := HK.out; omega)]) HN.out

theorem same_d {w : World} {p q : Option Addr} {n c m d N M : Nat} (hA : IsC w p n c N) (hB : IsC w q m d M) :
    Calls Tryz.prog 72 #[.slice p n c, .slice q m d] w fun e w' => e = .returned (.bool (decide (N = M))) ∧ w.grownBy w' none := by
  by_cases e : N = M
  · rw [decide_eq_true e]; exact same_c hA hB e
  rw [decide_eq_false e]
  by_cases hl : n = m
  · subst hl
    refine same_ne p q n c d _ _ w hA hB (fun h => e ?_)
    rw [← V_dg (B := 65536) (by omega) N, h, V_dg (by omega)]
  · have hmax := IRd.max hA
    have hmax2 := IRd.max hB
    have t0 : (((n : Int) != (m : Int)) = true) := by simp; omega
    go_enter Tryz.func72, Tryz.ntmps72
    go_wp2
    go_ret
    exact ⟨rfl, grown_refl _ _⟩

set_option maxHeartbeats 2000000 in
theorem valid_both {w : World} {p : Option Addr} {n c : Nat} {xs : List Nat} (hA : IRd w .u16 p n c xs) (hx : Dg 65536 xs) :
    ∃ v : Bool, (∀ W, w.grownBy W none → Calls Tryz.prog 100 #[.agg #[.bool false, .slice p n c]] W fun e w' => e = .returned (.bool v) ∧ W.grownBy w' none) ∧
      (∀ W, w.grownBy W none → Calls Tryz.prog 71 #[.slice p n c] W fun e w' => e = .returned (.bool v) ∧ W.grownBy w' none) ∧ (v = true → 0 < n → 0 < V 65536 xs) := by
  have hmax := hA.max
  have hcap := hA.cap
  by_cases h0 : n = 0
  · subst h0
    refine ⟨true, fun W hW => ?_, fun W hW => ?_, fun _ h => by omega⟩
    · have hgb := World.grownBy_alloc W (.cells #[.bool false, .slice p 0 c] 35) none
      clear hW
      go_enter Tryz.func100, Tryz.ntmps100
      go_wp2
      go_ret
      exact ⟨rfl, hgb⟩
    · have hgb := grown_refl W none
      clear hW
      go_enter Tryz.func71, Tryz.ntmps71
      go_wp2
      go_ret
      exact ⟨rfl, hgb⟩
  · obtain ⟨top, rfl⟩ : ∃ top, n = top + 1 := ⟨n - 1, by omega⟩
    have hlen := hA.len
    have htl : top < xs.length := by omega
    have hpos : xs[top] ≠ 0 → 0 < V 65536 xs := fun h => by
      rcases Nat.eq_zero_or_pos (V 65536 xs) with h2 | h2
      · have h3 := dig_get xs hx top htl
        rw [h2] at h3
        simp at h3
        exact absurd h3 h
      · exact h2
    obtain ⟨b, o, rfl, hc⟩ := IRd.cel hA top htl
    have hb := World.block_lt_of_cell? _ _ hc
    obtain ⟨t, ht⟩ : ∃ t, t = xs[top] := ⟨_, rfl⟩
    rw [← ht] at hc hpos
    clear ht h0 hlen hA
    by_cases h0 : t = 0
    · subst h0
      refine ⟨false, fun W hW => ?_, fun W hW => ?_, fun h => by cases h⟩
      · have hgb := World.grownBy_alloc W (.cells #[.bool false, .slice (some ⟨b, o, none⟩) (top + 1) c] 35) none
        have hc2 := hgb.cell (hW.cell hc (by simp)) (by simp)
        clear hW hc hb
        go_enter Tryz.func100, Tryz.ntmps100
        go_wp2
        go_ret
        exact ⟨rfl, hgb⟩
      · have hgb := grown_refl W none
        have hc2 := hW.cell hc (by simp)
        clear hW hc hb
        go_enter Tryz.func71, Tryz.ntmps71
        go_wp2
        go_ret
        exact ⟨rfl, hgb⟩
    · have hne : (((t : Int) != 0) = true) := by simp; omega
      refine ⟨true, fun W hW => ?_, fun W hW => ?_, fun _ _ => hpos h0⟩
      · have hgb := World.grownBy_alloc W (.cells #[.bool false, .slice (some ⟨b, o, none⟩) (top + 1) c] 35) none
        have hc2 := hgb.cell (hW.cell hc (by simp)) (by simp)
        clear hpos h0 hW hc hb
        go_enter Tryz.func100, Tryz.ntmps100
        go_wp2
        go_ret
        exact ⟨rfl, hgb⟩
      · have hgb := grown_refl W none
        have hc2 := hW.cell hc (by simp)
        clear hpos h0 hW hc hb
        go_enter Tryz.func71, Tryz.ntmps71
        go_wp2
        go_ret
        exact ⟨rfl, hgb⟩
end Go.Proofs.YtdmlcddieadelaaGreatDoor

set_option linter.unusedVariables false
set_option linter.unusedSimpArgs false
namespace Go.Proofs.YtdmlcddieadelaaGreatDoor
open Go.RowKit Nm

theorem Can_of_top {xs : List Nat} (hx : Dg 65536 xs) {top : Nat} (htl : top < xs.length) (hl : xs.length = top + 1) (h : xs[top] ≠ 0) : Nm.Can 65536 xs := by
  rw [show xs = trimR xs from ?_]
  · exact Can_trimR hx
  · have e : xs = xs.take top ++ [xs[top]] := by
      rw [← List.take_succ_eq_append_getElem htl, List.take_of_length_le (by omega)]
    rw [e, trimR_snoc h]
theorem IsC.of_top {w : World} {p : Option Addr} {c : Nat} {xs : List Nat} {top : Nat} (hA : IRd w .u16 p (top + 1) c xs) (hx : Dg 65536 xs) (htl : top < xs.length) (hl : xs.length = top + 1) (h : xs[top] ≠ 0) : IsC w p (top + 1) c (V 65536 xs) := by
  have := eq_dg (B := 65536) (by omega) (Can_of_top hx htl hl h)
  unfold IsC
  rw [← this]
  exact hA
theorem IsI.of_top {w : World} {g : Bool} {p : Option Addr} {c : Nat} {xs : List Nat} {top : Nat} (hA : IRd w .u16 p (top + 1) c xs) (hx : Dg 65536 xs) (htl : top < xs.length) (hl : xs.length = top + 1) (h : xs[top] ≠ 0) : IsI w g p (top + 1) c (sg g (V 65536 xs)) := by
  have hC := IsC.of_top hA hx htl hl h
  have hp : 0 < V 65536 xs := by
    rcases hC.zero_len with ⟨h1, _⟩ | ⟨_, h1⟩
    · omega
    · exact h1
  refine ⟨by rw [sg_abs]; exact hC, ?_⟩
  rw [sg_neg, decide_eq_true hp]
  simp
theorem IsV.of_cop {w : World} {g : Bool} {p q : Option Addr} {n c m d D : Nat} {N : Int} (h1 : IsI w g p n c N) (h2 : IsC w q m d D) (hD : 0 < D) (hg : Nat.gcd N.natAbs D = 1) : IsV w g p n c q m d (mkRat N D) :=
  ⟨by rw [← rn_q hD, rn_one hg]; exact h1, by rw [← rd_q hD, rd_one hg]; exact h2⟩
set_option maxHeartbeats 2000000 in
theorem right_full {w : World} (g : Bool) {p : Option Addr} {n c : Nat} {xs : List Nat} (hA : IRd w .u16 p n c xs) (hx : Dg 65536 xs) :
    ∃ v : Bool, (∀ W, w.grownBy W none → Calls Tryz.prog 100 #[.agg #[.bool g, .slice p n c]] W fun e w' => e = .returned (.bool v) ∧ W.grownBy w' none) ∧
      (∀ W, w.grownBy W none → Calls Tryz.prog 70 #[.agg #[.bool g, .slice p n c]] W fun e w' => e = .returned (.bool v) ∧ W.grownBy w' none) ∧ (v = true → IsI w g p n c (sg g (V 65536 xs))) := by
  have hmax := hA.max
  have hcap := hA.cap
  by_cases h0 : n = 0
  · subst h0
    have hnil : xs = [] := List.eq_nil_of_length_eq_zero hA.len
    refine ⟨!g, fun W hW => ?_, fun W hW => ?_, fun h => ?_⟩
    rotate_left 2
    · subst hnil
      have hg : g = false := by simpa using h
      subst hg
      exact ⟨hA, by simp [sg]⟩
    · have hgb := World.grownBy_alloc W (.cells #[.bool g, .slice p 0 c] 35) none
      clear hW
      cases g
      all_goals
        go_enter Tryz.func100, Tryz.ntmps100
        go_wp2
        go_ret
        exact ⟨rfl, hgb⟩
    · have hgb := World.grownBy_alloc W (.cells #[.bool g, .slice p 0 c] 35) none
      clear hW
      cases g
      all_goals
        go_enter Tryz.func70, Tryz.ntmps70
        go_wp2
        go_ret
        exact ⟨rfl, hgb⟩
  · obtain ⟨top, rfl⟩ : ∃ top, n = top + 1 := ⟨n - 1, by omega⟩
    have hlen := hA.len
    have htl : top < xs.length := by omega
    have hcan : xs[top] ≠ 0 → IsI w g p (top + 1) c (sg g (V 65536 xs)) := fun h => IsI.of_top hA hx htl hlen h
    obtain ⟨b, o, rfl, hc⟩ := IRd.cel hA top htl
    have hb := World.block_lt_of_cell? _ _ hc
    obtain ⟨t, ht⟩ : ∃ t, t = xs[top] := ⟨_, rfl⟩
    rw [← ht] at hc hcan
    clear ht h0 hlen hA
    by_cases h0 : t = 0
    · subst h0
      refine ⟨false, fun W hW => ?_, fun W hW => ?_, fun h => by cases h⟩
      · have hgb := World.grownBy_alloc W (.cells #[.bool g, .slice (some ⟨b, o, none⟩) (top + 1) c] 35) none
        have hc2 := hgb.cell (hW.cell hc (by simp)) (by simp)
        clear hW hc hb
        go_enter Tryz.func100, Tryz.ntmps100
        go_wp2
        go_ret
        exact ⟨rfl, hgb⟩
      · have hgb := World.grownBy_alloc W (.cells #[.bool g, .slice (some ⟨b, o, none⟩) (top + 1) c] 35) none
        have hc2 := hgb.cell (hW.cell hc (by simp)) (by simp)
        clear hW hc hb
        go_enter Tryz.func70, Tryz.ntmps70
        go_wp2
        go_ret
        exact ⟨rfl, hgb⟩
    · have hne : (((t : Int) != 0) = true) := by simp; omega
      have hcan2 := hid (hcan h0)
      clear h0 hcan
      refine ⟨true, fun W hW => ?_, fun W hW => ?_, fun _ => hcan2.out⟩
      · have hgb := World.grownBy_alloc W (.cells #[.bool g, .slice (some ⟨b, o, none⟩) (top + 1) c] 35) none
        have hc2 := hgb.cell (hW.cell hc (by simp)) (by simp)
        clear hW hc hb
        go_enter Tryz.func100, Tryz.ntmps100
        go_wp2
        go_ret
        exact ⟨rfl, hgb⟩
      · have hgb := World.grownBy_alloc W (.cells #[.bool g, .slice (some ⟨b, o, none⟩) (top + 1) c] 35) none
        have hc2 := hgb.cell (hW.cell hc (by simp)) (by simp)
        clear hW hc hb
        cases g
        all_goals
          go_enter Tryz.func70, Tryz.ntmps70
          go_wp2
          go_ret
          exact ⟨rfl, hgb⟩

set_option maxHeartbeats 2000000 in
theorem valid_full {w : World} {p : Option Addr} {n c : Nat} {xs : List Nat} (hA : IRd w .u16 p n c xs) (hx : Dg 65536 xs) :
    ∃ v : Bool, (∀ W, w.grownBy W none → Calls Tryz.prog 100 #[.agg #[.bool false, .slice p n c]] W fun e w' => e = .returned (.bool v) ∧ W.grownBy w' none) ∧
      (∀ W, w.grownBy W none → Calls Tryz.prog 71 #[.slice p n c] W fun e w' => e = .returned (.bool v) ∧ W.grownBy w' none) ∧ (v = true → IsC w p n c (V 65536 xs)) := by
  have hmax := hA.max
  have hcap := hA.cap
  by_cases h0 : n = 0
  · subst h0
    have hnil : xs = [] := List.eq_nil_of_length_eq_zero hA.len
    refine ⟨true, fun W hW => ?_, fun W hW => ?_, fun _ => by subst hnil; exact hA⟩
    · have hgb := World.grownBy_alloc W (.cells #[.bool false, .slice p 0 c] 35) none
      clear hW
      go_enter Tryz.func100, Tryz.ntmps100
      go_wp2
      go_ret
      exact ⟨rfl, hgb⟩
    · have hgb := grown_refl W none
      clear hW
      go_enter Tryz.func71, Tryz.ntmps71
      go_wp2
      go_ret
      exact ⟨rfl, hgb⟩
  · obtain ⟨top, rfl⟩ : ∃ top, n = top + 1 := ⟨n - 1, by omega⟩
    have hlen := hA.len
    have htl : top < xs.length := by omega
    have hpos : xs[top] ≠ 0 → IsC w p (top + 1) c (V 65536 xs) := fun h => IsC.of_top hA hx htl hlen h
    obtain ⟨b, o, rfl, hc⟩ := IRd.cel hA top htl
    have hb := World.block_lt_of_cell? _ _ hc
    obtain ⟨t, ht⟩ : ∃ t, t = xs[top] := ⟨_, rfl⟩
    rw [← ht] at hc hpos
    clear ht h0 hlen hA
    by_cases h0 : t = 0
    · subst h0
      refine ⟨false, fun W hW => ?_, fun W hW => ?_, fun h => by cases h⟩
      · have hgb := World.grownBy_alloc W (.cells #[.bool false, .slice (some ⟨b, o, none⟩) (top + 1) c] 35) none
        have hc2 := hgb.cell (hW.cell hc (by simp)) (by simp)
        clear hW hc hb
        go_enter Tryz.func100, Tryz.ntmps100
        go_wp2
        go_ret
        exact ⟨rfl, hgb⟩
      · have hgb := grown_refl W none
        have hc2 := hW.cell hc (by simp)
        clear hW hc hb
        go_enter Tryz.func71, Tryz.ntmps71
        go_wp2
        go_ret
        exact ⟨rfl, hgb⟩
    · have hne : (((t : Int) != 0) = true) := by simp; omega
      have hp2 := hid (hpos h0)
      clear hpos
      refine ⟨true, fun W hW => ?_, fun W hW => ?_, fun _ => hp2.out⟩
      · have hgb := World.grownBy_alloc W (.cells #[.bool false, .slice (some ⟨b, o, none⟩) (top + 1) c] 35) none
        have hc2 := hgb.cell (hW.cell hc (by simp)) (by simp)
        clear h0 hW hc hb
        go_enter Tryz.func100, Tryz.ntmps100
        go_wp2
        go_ret
        exact ⟨rfl, hgb⟩
      · have hgb := grown_refl W none
        have hc2 := hW.cell hc (by simp)
        clear h0 hW hc hb
        go_enter Tryz.func71, Tryz.ntmps71
        go_wp2
        go_ret
        exact ⟨rfl, hgb⟩

set_option maxRecDepth 20000 in
set_option maxHeartbeats 4000000 in
theorem ratRight_f1 {w : World} {g1 : Bool} {p1 q1 : Option Addr} {n1 c1 m1 d1 : Nat} (H1 : ∀ W, w.grownBy W none → Calls Tryz.prog 100 #[.agg #[.bool g1, .slice p1 n1 c1]] W fun e w' => e = .returned (.bool false) ∧ W.grownBy w' none) :
    Calls Tryz.prog 80 #[.agg #[.bool g1, .slice p1 n1 c1, .slice q1 m1 d1]] w fun e w' => e = .returned (.bool false) ∧ w.grownBy w' none := by
  have HH1 := hid H1
  clear H1
  have hW := (World.grownBy_alloc w (.cells #[.bool g1, .slice p1 n1 c1, .slice q1 m1 d1] 37) none)
  have bx0 : (w.alloc (.cells #[.bool g1, .slice p1 n1 c1, .slice q1 m1 d1] 37)).heap[w.heap.size]? = some (.cells #[.bool g1, .slice p1 n1 c1, .slice q1 m1 d1] 37 (0, 0)) := by
    have := heap_alloc_new w (.cells #[.bool g1, .slice p1 n1 c1, .slice q1 m1 d1] 37)
    simpa using this
  obtain ⟨x0, x1, x2, _, _, _⟩ := ratbox_facts bx0
  clear bx0
  skip
  go_enter Tryz.func80, Tryz.ntmps80
  go_wp2_with fail
  generalize (w.alloc (.cells #[.bool g1, .slice p1 n1 c1, .slice q1 m1 d1] 37)) = w0 at *
  refine (wholeS_any _ _ _).mono ?_
  rintro ee v1 ⟨rfl, hg⟩
  replace x0 := hg.cell x0 (by simp); replace x1 := hg.cell x1 (by simp); replace x2 := hg.cell x2 (by simp); replace hW := grown_trans hW hg
  clear hg
  have hg := World.grownBy_alloc v1 (.cells #[.bool false, .slice q1 m1 d1] 35) none
  have hb := heap_alloc_new v1 (.cells #[.bool false, .slice q1 m1 d1] 35)
  replace x0 := hg.cell x0 (by simp); replace x1 := hg.cell x1 (by simp); replace x2 := hg.cell x2 (by simp); replace hW := grown_trans hW hg
  obtain ⟨z0, z1, _, _⟩ := intbox_facts hb
  clear hg hb
  go_wp2_with fail
  generalize v1.alloc (.cells #[.bool false, .slice q1 m1 d1] 35) = u1 at *
  generalize v1.heap.size = K1 at *
  refine (HH1.out _ hW).mono ?_
  rintro ee v2 ⟨rfl, hg⟩
  replace x0 := hg.cell x0 (by simp); replace x1 := hg.cell x1 (by simp); replace x2 := hg.cell x2 (by simp); replace z0 := hg.cell z0 (by simp)
  replace z1 := hg.cell z1 (by simp); replace hW := grown_trans hW hg
  clear hg
  go_wp2_with fail
  go_ret
  exact ⟨rfl, hW⟩

set_option maxRecDepth 20000 in
set_option maxHeartbeats 4000000 in
theorem ratRight_f2 {w : World} {g1 : Bool} {p1 q1 : Option Addr} {n1 c1 m1 d1 : Nat} (H1 : ∀ W, w.grownBy W none → Calls Tryz.prog 100 #[.agg #[.bool g1, .slice p1 n1 c1]] W fun e w' => e = .returned (.bool true) ∧ W.grownBy w' none) (H2 : ∀ W, w.grownBy W none → Calls Tryz.prog 100 #[.agg #[.bool false, .slice q1 m1 d1]] W fun e w' => e = .returned (.bool false) ∧ W.grownBy w' none) :
    Calls Tryz.prog 80 #[.agg #[.bool g1, .slice p1 n1 c1, .slice q1 m1 d1]] w fun e w' => e = .returned (.bool false) ∧ w.grownBy w' none := by
  have HH1 := hid H1
  have HH2 := hid H2
  clear H1 H2
  have hW := (World.grownBy_alloc w (.cells #[.bool g1, .slice p1 n1 c1, .slice q1 m1 d1] 37) none)
  have bx0 : (w.alloc (.cells #[.bool g1, .slice p1 n1 c1, .slice q1 m1 d1] 37)).heap[w.heap.size]? = some (.cells #[.bool g1, .slice p1 n1 c1, .slice q1 m1 d1] 37 (0, 0)) := by
    have := heap_alloc_new w (.cells #[.bool g1, .slice p1 n1 c1, .slice q1 m1 d1] 37)
    simpa using this
  obtain ⟨x0, x1, x2, _, _, _⟩ := ratbox_facts bx0
  clear bx0
  skip
  go_enter Tryz.func80, Tryz.ntmps80
  go_wp2_with fail
  generalize (w.alloc (.cells #[.bool g1, .slice p1 n1 c1, .slice q1 m1 d1] 37)) = w0 at *
  refine (wholeS_any _ _ _).mono ?_
  rintro ee v1 ⟨rfl, hg⟩
  replace x0 := hg.cell x0 (by simp); replace x1 := hg.cell x1 (by simp); replace x2 := hg.cell x2 (by simp); replace hW := grown_trans hW hg
  clear hg
  have hg := World.grownBy_alloc v1 (.cells #[.bool false, .slice q1 m1 d1] 35) none
  have hb := heap_alloc_new v1 (.cells #[.bool false, .slice q1 m1 d1] 35)
  replace x0 := hg.cell x0 (by simp); replace x1 := hg.cell x1 (by simp); replace x2 := hg.cell x2 (by simp); replace hW := grown_trans hW hg
  obtain ⟨z0, z1, _, _⟩ := intbox_facts hb
  clear hg hb
  go_wp2_with fail
  generalize v1.alloc (.cells #[.bool false, .slice q1 m1 d1] 35) = u1 at *
  generalize v1.heap.size = K1 at *
  refine (HH1.out _ hW).mono ?_
  rintro ee v2 ⟨rfl, hg⟩
  replace x0 := hg.cell x0 (by simp); replace x1 := hg.cell x1 (by simp); replace x2 := hg.cell x2 (by simp); replace z0 := hg.cell z0 (by simp)
  replace z1 := hg.cell z1 (by simp); replace hW := grown_trans hW hg
  clear hg
  go_wp2_with fail
  refine (HH2.out _ hW).mono ?_
  rintro ee v3 ⟨rfl, hg⟩
  replace x0 := hg.cell x0 (by simp); replace x1 := hg.cell x1 (by simp); replace x2 := hg.cell x2 (by simp); replace z0 := hg.cell z0 (by simp)
  replace z1 := hg.cell z1 (by simp); replace hW := grown_trans hW hg
  clear hg
  go_wp2_with fail
  go_ret
  exact ⟨rfl, hW⟩

set_option maxRecDepth 20000 in
set_option maxHeartbeats 4000000 in
theorem ratRight_f3 {w : World} {g1 : Bool} {p1 q1 : Option Addr} {n1 c1 m1 d1 : Nat} (H1 : ∀ W, w.grownBy W none → Calls Tryz.prog 100 #[.agg #[.bool g1, .slice p1 n1 c1]] W fun e w' => e = .returned (.bool true) ∧ W.grownBy w' none) (H2 : ∀ W, w.grownBy W none → Calls Tryz.prog 100 #[.agg #[.bool false, .slice q1 m1 d1]] W fun e w' => e = .returned (.bool true) ∧ W.grownBy w' none) (hE : IsN w q1 m1 d1 0) (hm1 : m1 ≤ 9000000) :
    Calls Tryz.prog 80 #[.agg #[.bool g1, .slice p1 n1 c1, .slice q1 m1 d1]] w fun e w' => e = .returned (.bool false) ∧ w.grownBy w' none := by
  have HH1 := hid H1
  have HH2 := hid H2
  have HS := hid (show cmpI ((0 : Nat) : Int) 0 = 0 by decide)
  clear H1 H2
  have hW := (World.grownBy_alloc w (.cells #[.bool g1, .slice p1 n1 c1, .slice q1 m1 d1] 37) none)
  have bx0 : (w.alloc (.cells #[.bool g1, .slice p1 n1 c1, .slice q1 m1 d1] 37)).heap[w.heap.size]? = some (.cells #[.bool g1, .slice p1 n1 c1, .slice q1 m1 d1] 37 (0, 0)) := by
    have := heap_alloc_new w (.cells #[.bool g1, .slice p1 n1 c1, .slice q1 m1 d1] 37)
    simpa using this
  obtain ⟨x0, x1, x2, _, _, _⟩ := ratbox_facts bx0
  clear bx0
  replace hE := hE.keep hW
  go_enter Tryz.func80, Tryz.ntmps80
  go_wp2_with fail
  generalize (w.alloc (.cells #[.bool g1, .slice p1 n1 c1, .slice q1 m1 d1] 37)) = w0 at *
  refine (wholeS_any _ _ _).mono ?_
  rintro ee v1 ⟨rfl, hg⟩
  replace hE := hE.keep hg; replace x0 := hg.cell x0 (by simp); replace x1 := hg.cell x1 (by simp); replace x2 := hg.cell x2 (by simp)
  replace hW := grown_trans hW hg
  clear hg
  have hg := World.grownBy_alloc v1 (.cells #[.bool false, .slice q1 m1 d1] 35) none
  have hb := heap_alloc_new v1 (.cells #[.bool false, .slice q1 m1 d1] 35)
  replace hE := hE.keep hg; replace x0 := hg.cell x0 (by simp); replace x1 := hg.cell x1 (by simp); replace x2 := hg.cell x2 (by simp)
  replace hW := grown_trans hW hg
  obtain ⟨z0, z1, _, _⟩ := intbox_facts hb
  clear hg hb
  go_wp2_with fail
  generalize v1.alloc (.cells #[.bool false, .slice q1 m1 d1] 35) = u1 at *
  generalize v1.heap.size = K1 at *
  refine (HH1.out _ hW).mono ?_
  rintro ee v2 ⟨rfl, hg⟩
  replace hE := hE.keep hg; replace x0 := hg.cell x0 (by simp); replace x1 := hg.cell x1 (by simp); replace x2 := hg.cell x2 (by simp)
  replace z0 := hg.cell z0 (by simp); replace z1 := hg.cell z1 (by simp); replace hW := grown_trans hW hg
  clear hg
  go_wp2_with fail
  refine (HH2.out _ hW).mono ?_
  rintro ee v3 ⟨rfl, hg⟩
  replace hE := hE.keep hg; replace x0 := hg.cell x0 (by simp); replace x1 := hg.cell x1 (by simp); replace x2 := hg.cell x2 (by simp)
  replace z0 := hg.cell z0 (by simp); replace z1 := hg.cell z1 (by simp); replace hW := grown_trans hW hg
  clear hg
  go_wp2_with fail
  refine (intSign_any (IsZ.of_n hE) (by omega)).mono ?_
  rintro ee v4 ⟨rfl, hg⟩
  rw [HS.out]
  replace hE := hE.keep hg; replace x0 := hg.cell x0 (by simp); replace x1 := hg.cell x1 (by simp); replace x2 := hg.cell x2 (by simp)
  replace z0 := hg.cell z0 (by simp); replace z1 := hg.cell z1 (by simp); replace hW := grown_trans hW hg
  clear hg
  go_wp2_with fail
  go_ret
  exact ⟨rfl, hW⟩

set_option maxRecDepth 20000 in
set_option maxHeartbeats 4000000 in
theorem ratRight_g {w : World} {g1 : Bool} {p1 q1 : Option Addr} {n1 c1 m1 d1 : Nat} {N : Int} {D : Nat} {b : Bool} (T : Tb w) (H1 : ∀ W, w.grownBy W none → Calls Tryz.prog 100 #[.agg #[.bool g1, .slice p1 n1 c1]] W fun e w' => e = .returned (.bool true) ∧ W.grownBy w' none) (H2 : ∀ W, w.grownBy W none → Calls Tryz.prog 100 #[.agg #[.bool false, .slice q1 m1 d1]] W fun e w' => e = .returned (.bool true) ∧ W.grownBy w' none) (hA : IsZ w g1 p1 n1 c1 N) (hE : IsN w q1 m1 d1 D) (hD : 0 < D) (hb : b = decide (Nat.gcd N.natAbs D = 1)) (hn1 : n1 ≤ 9000000) (hm1 : m1 ≤ 9000000) :
    Calls Tryz.prog 80 #[.agg #[.bool g1, .slice p1 n1 c1, .slice q1 m1 d1]] w fun e w' => e = .returned (.bool b) ∧ w.grownBy w' none := by
  have HH1 := hid H1
  have HH2 := hid H2
  have HT := hid T
  have HB := hid hb
  have HS := hid (show cmpI (D : Int) 0 = 1 by unfold cmpI; rw [if_neg (by omega), if_pos (by omega)])
  clear H1 H2 T hb
  have hW := (World.grownBy_alloc w (.cells #[.bool g1, .slice p1 n1 c1, .slice q1 m1 d1] 37) none)
  have bx0 : (w.alloc (.cells #[.bool g1, .slice p1 n1 c1, .slice q1 m1 d1] 37)).heap[w.heap.size]? = some (.cells #[.bool g1, .slice p1 n1 c1, .slice q1 m1 d1] 37 (0, 0)) := by
    have := heap_alloc_new w (.cells #[.bool g1, .slice p1 n1 c1, .slice q1 m1 d1] 37)
    simpa using this
  obtain ⟨x0, x1, x2, _, _, _⟩ := ratbox_facts bx0
  clear bx0
  replace hA := hA.keep hW; replace hE := hE.keep hW
  go_enter Tryz.func80, Tryz.ntmps80
  go_wp2_with fail
  generalize (w.alloc (.cells #[.bool g1, .slice p1 n1 c1, .slice q1 m1 d1] 37)) = w0 at *
  refine (wholeS_any _ _ _).mono ?_
  rintro ee v1 ⟨rfl, hg⟩
  replace hA := hA.keep hg; replace hE := hE.keep hg; replace x0 := hg.cell x0 (by simp); replace x1 := hg.cell x1 (by simp)
  replace x2 := hg.cell x2 (by simp); replace hW := grown_trans hW hg
  clear hg
  have hg := World.grownBy_alloc v1 (.cells #[.bool false, .slice q1 m1 d1] 35) none
  have hb := heap_alloc_new v1 (.cells #[.bool false, .slice q1 m1 d1] 35)
  replace hA := hA.keep hg; replace hE := hE.keep hg; replace x0 := hg.cell x0 (by simp); replace x1 := hg.cell x1 (by simp)
  replace x2 := hg.cell x2 (by simp); replace hW := grown_trans hW hg
  obtain ⟨z0, z1, _, _⟩ := intbox_facts hb
  clear hg hb
  go_wp2_with fail
  generalize v1.alloc (.cells #[.bool false, .slice q1 m1 d1] 35) = u1 at *
  generalize v1.heap.size = K1 at *
  refine (HH1.out _ hW).mono ?_
  rintro ee v2 ⟨rfl, hg⟩
  replace hA := hA.keep hg; replace hE := hE.keep hg; replace x0 := hg.cell x0 (by simp); replace x1 := hg.cell x1 (by simp)
  replace x2 := hg.cell x2 (by simp); replace z0 := hg.cell z0 (by simp); replace z1 := hg.cell z1 (by simp); replace hW := grown_trans hW hg
  clear hg
  go_wp2_with fail
  refine (HH2.out _ hW).mono ?_
  rintro ee v3 ⟨rfl, hg⟩
  replace hA := hA.keep hg; replace hE := hE.keep hg; replace x0 := hg.cell x0 (by simp); replace x1 := hg.cell x1 (by simp)
  replace x2 := hg.cell x2 (by simp); replace z0 := hg.cell z0 (by simp); replace z1 := hg.cell z1 (by simp); replace hW := grown_trans hW hg
  clear hg
  go_wp2_with fail
  refine (intSign_any (IsZ.of_n hE) (by omega)).mono ?_
  rintro ee v4 ⟨rfl, hg⟩
  rw [HS.out]
  replace hA := hA.keep hg; replace hE := hE.keep hg; replace x0 := hg.cell x0 (by simp); replace x1 := hg.cell x1 (by simp)
  replace x2 := hg.cell x2 (by simp); replace z0 := hg.cell z0 (by simp); replace z1 := hg.cell z1 (by simp); replace hW := grown_trans hW hg
  clear hg
  go_wp2_with fail
  refine (intGcd_any (HT.out.keep hW) hA.1 hE (by omega) (by omega)).mono ?_
  rintro ee v5 ⟨p3, n3, c3, rfl, hX, hn3, hg⟩
  replace hA := hA.keep hg; replace hE := hE.keep hg; replace x0 := hg.cell x0 (by simp); replace x1 := hg.cell x1 (by simp)
  replace x2 := hg.cell x2 (by simp); replace z0 := hg.cell z0 (by simp); replace z1 := hg.cell z1 (by simp); replace hW := grown_trans hW hg
  clear hg
  go_wp2_with fail
  refine (isOne_any hX.isN).mono ?_
  rintro ee v6 ⟨rfl, hg⟩
  rw [← HB.out]
  replace hA := hA.keep hg; replace hE := hE.keep hg; replace hX := hX.keep hg; replace x0 := hg.cell x0 (by simp)
  replace x1 := hg.cell x1 (by simp); replace x2 := hg.cell x2 (by simp); replace z0 := hg.cell z0 (by simp); replace z1 := hg.cell z1 (by simp)
  replace hW := grown_trans hW hg
  clear hg
  go_wp2_with fail
  go_ret
  exact ⟨rfl, hW⟩

set_option maxRecDepth 20000 in
set_option maxHeartbeats 4000000 in
theorem refRight_f1 {w : World} {g1 : Bool} {p1 q1 : Option Addr} {n1 c1 m1 d1 : Nat} (H1 : ∀ W, w.grownBy W none → Calls Tryz.prog 70 #[.agg #[.bool g1, .slice p1 n1 c1]] W fun e w' => e = .returned (.bool false) ∧ W.grownBy w' none) :
    Calls Tryz.prog 38 #[.agg #[.bool g1, .slice p1 n1 c1, .slice q1 m1 d1]] w fun e w' => e = .returned (.bool false) ∧ w.grownBy w' none := by
  have HH1 := hid H1
  clear H1
  have hW := (World.grownBy_alloc w (.cells #[.bool g1, .slice p1 n1 c1, .slice q1 m1 d1] 37) none)
  have bx0 : (w.alloc (.cells #[.bool g1, .slice p1 n1 c1, .slice q1 m1 d1] 37)).heap[w.heap.size]? = some (.cells #[.bool g1, .slice p1 n1 c1, .slice q1 m1 d1] 37 (0, 0)) := by
    have := heap_alloc_new w (.cells #[.bool g1, .slice p1 n1 c1, .slice q1 m1 d1] 37)
    simpa using this
  obtain ⟨x0, x1, x2, _, _, _⟩ := ratbox_facts bx0
  clear bx0
  skip
  go_enter Tryz.func38, Tryz.ntmps38
  go_wp2_with fail
  generalize (w.alloc (.cells #[.bool g1, .slice p1 n1 c1, .slice q1 m1 d1] 37)) = w0 at *
  refine (HH1.out _ hW).mono ?_
  rintro ee v1 ⟨rfl, hg⟩
  replace x0 := hg.cell x0 (by simp); replace x1 := hg.cell x1 (by simp); replace x2 := hg.cell x2 (by simp); replace hW := grown_trans hW hg
  clear hg
  go_wp2_with fail
  go_ret
  exact ⟨rfl, hW⟩

set_option maxRecDepth 20000 in
set_option maxHeartbeats 4000000 in
theorem refRight_f2 {w : World} {g1 : Bool} {p1 q1 : Option Addr} {n1 c1 m1 d1 : Nat} (H1 : ∀ W, w.grownBy W none → Calls Tryz.prog 70 #[.agg #[.bool g1, .slice p1 n1 c1]] W fun e w' => e = .returned (.bool true) ∧ W.grownBy w' none) (H2 : ∀ W, w.grownBy W none → Calls Tryz.prog 71 #[.slice q1 m1 d1] W fun e w' => e = .returned (.bool false) ∧ W.grownBy w' none) :
    Calls Tryz.prog 38 #[.agg #[.bool g1, .slice p1 n1 c1, .slice q1 m1 d1]] w fun e w' => e = .returned (.bool false) ∧ w.grownBy w' none := by
  have HH1 := hid H1
  have HH2 := hid H2
  clear H1 H2
  have hW := (World.grownBy_alloc w (.cells #[.bool g1, .slice p1 n1 c1, .slice q1 m1 d1] 37) none)
  have bx0 : (w.alloc (.cells #[.bool g1, .slice p1 n1 c1, .slice q1 m1 d1] 37)).heap[w.heap.size]? = some (.cells #[.bool g1, .slice p1 n1 c1, .slice q1 m1 d1] 37 (0, 0)) := by
    have := heap_alloc_new w (.cells #[.bool g1, .slice p1 n1 c1, .slice q1 m1 d1] 37)
    simpa using this
  obtain ⟨x0, x1, x2, _, _, _⟩ := ratbox_facts bx0
  clear bx0
  skip
  go_enter Tryz.func38, Tryz.ntmps38
  go_wp2_with fail
  generalize (w.alloc (.cells #[.bool g1, .slice p1 n1 c1, .slice q1 m1 d1] 37)) = w0 at *
  refine (HH1.out _ hW).mono ?_
  rintro ee v1 ⟨rfl, hg⟩
  replace x0 := hg.cell x0 (by simp); replace x1 := hg.cell x1 (by simp); replace x2 := hg.cell x2 (by simp); replace hW := grown_trans hW hg
  clear hg
  go_wp2_with fail
  refine (HH2.out _ hW).mono ?_
  rintro ee v2 ⟨rfl, hg⟩
  replace x0 := hg.cell x0 (by simp); replace x1 := hg.cell x1 (by simp); replace x2 := hg.cell x2 (by simp); replace hW := grown_trans hW hg
  clear hg
  go_wp2_with fail
  go_ret
  exact ⟨rfl, hW⟩

set_option maxRecDepth 20000 in
set_option maxHeartbeats 4000000 in
theorem refRight_f3 {w : World} {g1 : Bool} {p1 q1 : Option Addr} {n1 c1 d1 : Nat} {N : Int} {b : Bool} (H1 : ∀ W, w.grownBy W none → Calls Tryz.prog 70 #[.agg #[.bool g1, .slice p1 n1 c1]] W fun e w' => e = .returned (.bool true) ∧ W.grownBy w' none) (H2 : ∀ W, w.grownBy W none → Calls Tryz.prog 71 #[.slice q1 0 d1] W fun e w' => e = .returned (.bool true) ∧ W.grownBy w' none) (hA : IsZ w g1 p1 n1 c1 N) (hE : IsN w q1 0 d1 0) (hb : decide (Nat.gcd N.natAbs 0 = 1) = b) (hn1 : n1 ≤ 9000000) :
    Calls Tryz.prog 38 #[.agg #[.bool g1, .slice p1 n1 c1, .slice q1 0 d1]] w fun e w' => e = .returned (.bool false) ∧ w.grownBy w' none := by
  have HH1 := hid H1
  have HH2 := hid H2
  have HB := hid hb
  clear H1 H2 hb
  cases b
  all_goals
    have hW := (World.grownBy_alloc w (.cells #[.bool g1, .slice p1 n1 c1, .slice q1 0 d1] 37) none)
    have bx0 : (w.alloc (.cells #[.bool g1, .slice p1 n1 c1, .slice q1 0 d1] 37)).heap[w.heap.size]? = some (.cells #[.bool g1, .slice p1 n1 c1, .slice q1 0 d1] 37 (0, 0)) := by
      have := heap_alloc_new w (.cells #[.bool g1, .slice p1 n1 c1, .slice q1 0 d1] 37)
      simpa using this
    obtain ⟨x0, x1, x2, _, _, _⟩ := ratbox_facts bx0
    clear bx0
    replace hA := hA.keep hW; replace hE := hE.keep hW
    go_enter Tryz.func38, Tryz.ntmps38
    go_wp2_with fail
    generalize (w.alloc (.cells #[.bool g1, .slice p1 n1 c1, .slice q1 0 d1] 37)) = w0 at *
    refine (HH1.out _ hW).mono ?_
    rintro ee v1 ⟨rfl, hg⟩
    replace hA := hA.keep hg; replace hE := hE.keep hg; replace x0 := hg.cell x0 (by simp); replace x1 := hg.cell x1 (by simp)
    replace x2 := hg.cell x2 (by simp); replace hW := grown_trans hW hg
    clear hg
    go_wp2_with fail
    refine (HH2.out _ hW).mono ?_
    rintro ee v2 ⟨rfl, hg⟩
    replace hA := hA.keep hg; replace hE := hE.keep hg; replace x0 := hg.cell x0 (by simp); replace x1 := hg.cell x1 (by simp)
    replace x2 := hg.cell x2 (by simp); replace hW := grown_trans hW hg
    clear hg
    go_wp2_with fail
    refine (refGcd_n hA.1 hE (by omega) (by omega)).mono ?_
    rintro ee v3 ⟨p3, n3, c3, rfl, hX, hn3, hg⟩
    replace hA := hA.keep hg; replace hE := hE.keep hg; replace x0 := hg.cell x0 (by simp); replace x1 := hg.cell x1 (by simp)
    replace x2 := hg.cell x2 (by simp); replace hW := grown_trans hW hg
    clear hg
    go_wp2_with fail
    refine (refOf_c 1 (by unfold W64; omega) _).mono ?_
    rintro ee v4 ⟨p4, n4, c4, rfl, hY, hn4, hg⟩
    replace hA := hA.keep hg; replace hE := hE.keep hg; replace hX := hX.keep hg; replace x0 := hg.cell x0 (by simp)
    replace x1 := hg.cell x1 (by simp); replace x2 := hg.cell x2 (by simp); replace hW := grown_trans hW hg
    clear hg
    go_wp2_with fail
    refine (same_d hX hY).mono ?_
    rintro ee v5 ⟨rfl, hg⟩
    rw [HB.out]
    replace hA := hA.keep hg; replace hE := hE.keep hg; replace hX := hX.keep hg; replace hY := hY.keep hg
    replace x0 := hg.cell x0 (by simp); replace x1 := hg.cell x1 (by simp); replace x2 := hg.cell x2 (by simp); replace hW := grown_trans hW hg
    clear hg
    go_wp2_with fail
    go_ret
    exact ⟨rfl, hW⟩

set_option maxRecDepth 20000 in
set_option maxHeartbeats 4000000 in
theorem refRight_g {w : World} {g1 : Bool} {p1 q1 : Option Addr} {n1 c1 m1 d1 : Nat} {N : Int} {D : Nat} {b : Bool} (H1 : ∀ W, w.grownBy W none → Calls Tryz.prog 70 #[.agg #[.bool g1, .slice p1 n1 c1]] W fun e w' => e = .returned (.bool true) ∧ W.grownBy w' none) (H2 : ∀ W, w.grownBy W none → Calls Tryz.prog 71 #[.slice q1 m1 d1] W fun e w' => e = .returned (.bool true) ∧ W.grownBy w' none) (hA : IsZ w g1 p1 n1 c1 N) (hE : IsN w q1 m1 d1 D) (h0 : 0 < m1) (hb : decide (Nat.gcd N.natAbs D = 1) = b) (hn1 : n1 ≤ 9000000) (hm1 : m1 ≤ 9000000) :
    Calls Tryz.prog 38 #[.agg #[.bool g1, .slice p1 n1 c1, .slice q1 m1 d1]] w fun e w' => e = .returned (.bool b) ∧ w.grownBy w' none := by
  have HH1 := hid H1
  have HH2 := hid H2
  have HB := hid hb
  have h1 : (0 : Int) < (m1 : Int) := by omega
  clear H1 H2 hb
  cases b
  all_goals
    have hW := (World.grownBy_alloc w (.cells #[.bool g1, .slice p1 n1 c1, .slice q1 m1 d1] 37) none)
    have bx0 : (w.alloc (.cells #[.bool g1, .slice p1 n1 c1, .slice q1 m1 d1] 37)).heap[w.heap.size]? = some (.cells #[.bool g1, .slice p1 n1 c1, .slice q1 m1 d1] 37 (0, 0)) := by
      have := heap_alloc_new w (.cells #[.bool g1, .slice p1 n1 c1, .slice q1 m1 d1] 37)
      simpa using this
    obtain ⟨x0, x1, x2, _, _, _⟩ := ratbox_facts bx0
    clear bx0
    replace hA := hA.keep hW; replace hE := hE.keep hW
    go_enter Tryz.func38, Tryz.ntmps38
    go_wp2_with fail
    generalize (w.alloc (.cells #[.bool g1, .slice p1 n1 c1, .slice q1 m1 d1] 37)) = w0 at *
    refine (HH1.out _ hW).mono ?_
    rintro ee v1 ⟨rfl, hg⟩
    replace hA := hA.keep hg; replace hE := hE.keep hg; replace x0 := hg.cell x0 (by simp); replace x1 := hg.cell x1 (by simp)
    replace x2 := hg.cell x2 (by simp); replace hW := grown_trans hW hg
    clear hg
    go_wp2_with fail
    refine (HH2.out _ hW).mono ?_
    rintro ee v2 ⟨rfl, hg⟩
    replace hA := hA.keep hg; replace hE := hE.keep hg; replace x0 := hg.cell x0 (by simp); replace x1 := hg.cell x1 (by simp)
    replace x2 := hg.cell x2 (by simp); replace hW := grown_trans hW hg
    clear hg
    go_wp2_with fail
    refine (refGcd_n hA.1 hE (by omega) (by omega)).mono ?_
    rintro ee v3 ⟨p3, n3, c3, rfl, hX, hn3, hg⟩
    replace hA := hA.keep hg; replace hE := hE.keep hg; replace x0 := hg.cell x0 (by simp); replace x1 := hg.cell x1 (by simp)
    replace x2 := hg.cell x2 (by simp); replace hW := grown_trans hW hg
    clear hg
    go_wp2_with fail
    refine (refOf_c 1 (by unfold W64; omega) _).mono ?_
    rintro ee v4 ⟨p4, n4, c4, rfl, hY, hn4, hg⟩
    replace hA := hA.keep hg; replace hE := hE.keep hg; replace hX := hX.keep hg; replace x0 := hg.cell x0 (by simp)
    replace x1 := hg.cell x1 (by simp); replace x2 := hg.cell x2 (by simp); replace hW := grown_trans hW hg
    clear hg
    go_wp2_with fail
    refine (same_d hX hY).mono ?_
    rintro ee v5 ⟨rfl, hg⟩
    rw [HB.out]
    replace hA := hA.keep hg; replace hE := hE.keep hg; replace hX := hX.keep hg; replace hY := hY.keep hg
    replace x0 := hg.cell x0 (by simp); replace x1 := hg.cell x1 (by simp); replace x2 := hg.cell x2 (by simp); replace hW := grown_trans hW hg
    clear hg
    go_wp2_with fail
    go_ret
    exact ⟨rfl, hW⟩

theorem right3_full {w : World} (T : Tb w) (g : Bool) {a b : Option Addr} {n c m d : Nat} {xs ys : List Nat} (hr0 : IRd w .u16 a n c xs) (hx : Dg 65536 xs) (hr1 : IRd w .u16 b m d ys) (hy : Dg 65536 ys) (hn : n ≤ 9000000) (hm : m ≤ 9000000) :
    ∃ r : Bool, (∀ W, w.grownBy W none → Calls Tryz.prog 80 #[.agg #[.bool g, .slice a n c, .slice b m d]] W fun e w' => e = .returned (.bool r) ∧ W.grownBy w' none) ∧
      (∀ W, w.grownBy W none → Calls Tryz.prog 38 #[.agg #[.bool g, .slice a n c, .slice b m d]] W fun e w' => e = .returned (.bool r) ∧ W.grownBy w' none) ∧
      (r = true → IsV w g a n c b m d (mkRat (sg g (V 65536 xs)) (V 65536 ys))) := by
  obtain ⟨vN, N1, N2, NP⟩ := right_full g hr0 hx
  obtain ⟨vD, D1, D2, DP⟩ := valid_full hr1 hy
  have hA := IsZ.of g hr0 hx
  have hE := IsN.of hr1 hy
  cases vN
  · exact ⟨false, fun W hW => ratRight_f1 (fun W' h => N1 W' (grown_trans hW h)), fun W hW => refRight_f1 (fun W' h => N2 W' (grown_trans hW h)), fun h => by cases h⟩
  cases vD
  · exact ⟨false, fun W hW => ratRight_f2 (fun W' h => N1 W' (grown_trans hW h)) (fun W' h => D1 W' (grown_trans hW h)), fun W hW => refRight_f2 (fun W' h => N2 W' (grown_trans hW h)) (fun W' h => D2 W' (grown_trans hW h)), fun h => by cases h⟩
  by_cases h0 : m = 0
  · subst h0
    have hz : ys = [] := List.eq_nil_of_length_eq_zero hr1.len
    subst hz
    exact ⟨false, fun W hW => ratRight_f3 (fun W' h => N1 W' (grown_trans hW h)) (fun W' h => D1 W' (grown_trans hW h)) (hE.keep hW) (by omega),
      fun W hW => refRight_f3 (fun W' h => N2 W' (grown_trans hW h)) (fun W' h => D2 W' (grown_trans hW h)) (hA.keep hW) (hE.keep hW) rfl hn, fun h => by cases h⟩
  · have hC := DP rfl
    have hp : 0 < V 65536 ys := by
      rcases hC.zero_len with ⟨h1, _⟩ | ⟨_, h1⟩
      · omega
      · exact h1
    exact ⟨_, fun W hW => ratRight_g (T.keep hW) (fun W' h => N1 W' (grown_trans hW h)) (fun W' h => D1 W' (grown_trans hW h)) (hA.keep hW) (hE.keep hW) hp rfl hn hm,
      fun W hW => refRight_g (fun W' h => N2 W' (grown_trans hW h)) (fun W' h => D2 W' (grown_trans hW h)) (hA.keep hW) (hE.keep hW) (by omega) rfl hn hm,
      fun h => IsV.of_cop (NP rfl) hC hp (of_decide_eq_true h)⟩
end Go.Proofs.YtdmlcddieadelaaGreatDoor

set_option linter.unusedVariables false
set_option linter.unusedSimpArgs false
namespace Go.Proofs.YtdmlcddieadelaaGreatDoor
open Go.RowKit Nm
set_option maxRecDepth 20000 in
set_option maxHeartbeats 4000000 in
theorem right_full_r {w : World} (g : Bool) {p : Option Addr} {n c : Nat} {xs : List Nat} (hA : IRd w .u16 p n c xs) (hx : Dg 65536 xs) :
    ∃ v : Bool, (∀ W, w.grownBy W none → Calls Tryz.prog 70 #[.agg #[.bool g, .slice p n c]] W fun e w' => e = .returned (.bool v) ∧ W.grownBy w' none) ∧
      (v = true → IsI w g p n c (sg g (V 65536 xs))) := by
  have hmax := hA.max
  have hcap := hA.cap
  by_cases h0 : n = 0
  · subst h0
    have hnil : xs = [] := List.eq_nil_of_length_eq_zero hA.len
    refine ⟨!g, fun W hW => ?_, fun h => ?_⟩
    rotate_left 1
    · subst hnil
      have hg : g = false := by simpa using h
      subst hg
      exact ⟨hA, by simp [sg]⟩
    · have hgb := World.grownBy_alloc W (.cells #[.bool g, .slice p 0 c] 35) none
      clear hW
      cases g
      all_goals
        go_enter Tryz.func70, Tryz.ntmps70
        go_wp2
        go_ret
        exact ⟨rfl, hgb⟩
  · obtain ⟨top, rfl⟩ : ∃ top, n = top + 1 := ⟨n - 1, by omega⟩
    have hlen := hA.len
    have htl : top < xs.length := by omega
    have hcan : xs[top] ≠ 0 → IsI w g p (top + 1) c (sg g (V 65536 xs)) := fun h => IsI.of_top hA hx htl hlen h
    obtain ⟨b, o, rfl, hc⟩ := IRd.cel hA top htl
    have hb := World.block_lt_of_cell? _ _ hc
    obtain ⟨t, ht⟩ : ∃ t, t = xs[top] := ⟨_, rfl⟩
    rw [← ht] at hc hcan
    clear ht h0 hlen hA
    by_cases h0 : t = 0
    · subst h0
      refine ⟨false, fun W hW => ?_, fun h => by cases h⟩
      · have hgb := World.grownBy_alloc W (.cells #[.bool g, .slice (some ⟨b, o, none⟩) (top + 1) c] 35) none
        have hc2 := hgb.cell (hW.cell hc (by simp)) (by simp)
        clear hW hc hb
        go_enter Tryz.func70, Tryz.ntmps70
        go_wp2
        go_ret
        exact ⟨rfl, hgb⟩
    · have hne : (((t : Int) != 0) = true) := by simp; omega
      have hcan2 := hid (hcan h0)
      clear h0 hcan
      refine ⟨true, fun W hW => ?_, fun _ => hcan2.out⟩
      · have hgb := World.grownBy_alloc W (.cells #[.bool g, .slice (some ⟨b, o, none⟩) (top + 1) c] 35) none
        have hc2 := hgb.cell (hW.cell hc (by simp)) (by simp)
        clear hW hc hb
        cases g
        all_goals
          go_enter Tryz.func70, Tryz.ntmps70
          go_wp2
          go_ret
          exact ⟨rfl, hgb⟩
set_option maxRecDepth 20000 in
set_option maxHeartbeats 4000000 in
theorem valid_full_r {w : World} {p : Option Addr} {n c : Nat} {xs : List Nat} (hA : IRd w .u16 p n c xs) (hx : Dg 65536 xs) :
    ∃ v : Bool, (∀ W, w.grownBy W none → Calls Tryz.prog 71 #[.slice p n c] W fun e w' => e = .returned (.bool v) ∧ W.grownBy w' none) ∧
      (v = true → IsC w p n c (V 65536 xs)) := by
  have hmax := hA.max
  have hcap := hA.cap
  by_cases h0 : n = 0
  · subst h0
    have hnil : xs = [] := List.eq_nil_of_length_eq_zero hA.len
    refine ⟨true, fun W hW => ?_, fun _ => by subst hnil; exact hA⟩
    · have hgb := grown_refl W none
      clear hW
      go_enter Tryz.func71, Tryz.ntmps71
      go_wp2
      go_ret
      exact ⟨rfl, hgb⟩
  · obtain ⟨top, rfl⟩ : ∃ top, n = top + 1 := ⟨n - 1, by omega⟩
    have hlen := hA.len
    have htl : top < xs.length := by omega
    have hpos : xs[top] ≠ 0 → IsC w p (top + 1) c (V 65536 xs) := fun h => IsC.of_top hA hx htl hlen h
    obtain ⟨b, o, rfl, hc⟩ := IRd.cel hA top htl
    have hb := World.block_lt_of_cell? _ _ hc
    obtain ⟨t, ht⟩ : ∃ t, t = xs[top] := ⟨_, rfl⟩
    rw [← ht] at hc hpos
    clear ht h0 hlen hA
    by_cases h0 : t = 0
    · subst h0
      refine ⟨false, fun W hW => ?_, fun h => by cases h⟩
      · have hgb := grown_refl W none
        have hc2 := hW.cell hc (by simp)
        clear hW hc hb
        go_enter Tryz.func71, Tryz.ntmps71
        go_wp2
        go_ret
        exact ⟨rfl, hgb⟩
    · have hne : (((t : Int) != 0) = true) := by simp; omega
      have hp2 := hid (hpos h0)
      clear hpos
      refine ⟨true, fun W hW => ?_, fun _ => hp2.out⟩
      · have hgb := grown_refl W none
        have hc2 := hW.cell hc (by simp)
        clear h0 hW hc hb
        go_enter Tryz.func71, Tryz.ntmps71
        go_wp2
        go_ret
        exact ⟨rfl, hgb⟩
set_option maxRecDepth 20000 in
set_option maxHeartbeats 4000000 in
theorem right3_full_r {w : World} (g : Bool) {a b : Option Addr} {n c m d : Nat} {xs ys : List Nat} (hr0 : IRd w .u16 a n c xs) (hx : Dg 65536 xs) (hr1 : IRd w .u16 b m d ys) (hy : Dg 65536 ys) (hn : n ≤ 9000000) (hm : m ≤ 9000000) :
    ∃ r : Bool, (∀ W, w.grownBy W none → Calls Tryz.prog 38 #[.agg #[.bool g, .slice a n c, .slice b m d]] W fun e w' => e = .returned (.bool r) ∧ W.grownBy w' none) ∧
      (r = true → IsV w g a n c b m d (mkRat (sg g (V 65536 xs)) (V 65536 ys))) := by
  obtain ⟨vN, N2, NP⟩ := right_full_r g hr0 hx
  obtain ⟨vD, D2, DP⟩ := valid_full_r hr1 hy
  have hA := IsZ.of g hr0 hx
  have hE := IsN.of hr1 hy
  cases vN
  · exact ⟨false, fun W hW => refRight_f1 (fun W' h => N2 W' (grown_trans hW h)), fun h => by cases h⟩
  cases vD
  · exact ⟨false, fun W hW => refRight_f2 (fun W' h => N2 W' (grown_trans hW h)) (fun W' h => D2 W' (grown_trans hW h)), fun h => by cases h⟩
  by_cases h0 : m = 0
  · subst h0
    have hz : ys = [] := List.eq_nil_of_length_eq_zero hr1.len
    subst hz
    exact ⟨false,
      fun W hW => refRight_f3 (fun W' h => N2 W' (grown_trans hW h)) (fun W' h => D2 W' (grown_trans hW h)) (hA.keep hW) (hE.keep hW) rfl hn, fun h => by cases h⟩
  · have hC := DP rfl
    have hp : 0 < V 65536 ys := by
      rcases hC.zero_len with ⟨h1, _⟩ | ⟨_, h1⟩
      · omega
      · exact h1
    exact ⟨_,
      fun W hW => refRight_g (fun W' h => N2 W' (grown_trans hW h)) (fun W' h => D2 W' (grown_trans hW h)) (hA.keep hW) (hE.keep hW) (by omega) rfl hn hm,
      fun h => IsV.of_cop (NP rfl) hC hp (of_decide_eq_true h)⟩
end Go.Proofs.YtdmlcddieadelaaGreatDoor
