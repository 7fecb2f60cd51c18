/-
  Contracts of Right, Norm and what they call, and of the specification of both.
-/
import Derived.Test.YtcmbdnkfihanmaaProg
import Derived.Test.YtcmbdnkfihanmaaMonoB
set_option linter.unusedVariables false
set_option linter.unusedSimpArgs false
namespace Go.Proofs.Ytcmbdnkfihanmaa
open Go.RowKit Nm

def okE (x : Int) : Prop := 0 ≤ x ∧ x ≤ 1048576
instance (x : Int) : Decidable (okE x) := by unfold okE; exact inferInstance
theorem outside_no (x : Int) (w : World) (h : okE x) :
    Calls Try.prog 55 #[.int .i64 x] w fun e w' => e = .returned (.bool false) ∧ w = w' := by
  obtain ⟨h1, h2⟩ := h
  have h3 : ¬ x < 0 := by omega
  have h4 : ¬ 1048576 < x := by omega
  go_enter Try.func55, Try.ntmps55
  go_wp2
  go_ret
  exact ⟨rfl, rfl⟩
theorem outside_yes (x : Int) (w : World) (h : ¬ okE x) :
    Calls Try.prog 55 #[.int .i64 x] w fun e w' => e = .returned (.bool true) ∧ w = w' := by
  by_cases h3 : x < 0
  · go_enter Try.func55, Try.ntmps55
    go_wp2
    go_ret
    exact ⟨rfl, rfl⟩
  · have h4 : 1048576 < x := by unfold okE at h; omega
    go_enter Try.func55, Try.ntmps55
    go_wp2
    go_ret
    exact ⟨rfl, rfl⟩
def idxOk (xs : List Int) (e : Ending) : Prop := ∃ v : Int, e = .returned (.int .i64 v) ∧ (decide (0 ≤ v) = !decide (∀ x ∈ xs, okE x))
theorem index_any (a : Option Addr) (n c : Nat) (xs : List Int) (w : World) (h : ZRd w .i64 a n c xs) :
    Calls Try.prog 79 #[.slice a n c, .func (.func 55) #[] #[]] w fun e w' => idxOk xs e ∧ w = w' := by
  have HL := hid h.len
  have hcap := h.cap
  have hmax := h.max
  go_enter Try.func79, Try.ntmps79
  go_wp2
  go_loop [8] (fun i => ∃ k : Nat, k ≤ n ∧ i = .int .i64 k ∧ Hid (∀ j (hj : j < xs.length), j < k → okE xs[j])) (fun i => n - (intOf i).toNat)
  case atStart => exact ⟨0, Nat.zero_le _, rfl, hid fun j _ h => by omega⟩
  case round =>
    obtain ⟨k, hk, rfl, HK⟩ := hrel
    by_cases hlt : k < n
    · have hi : k < xs.length := by rw [HL.out]; exact hlt
      obtain ⟨b, o, rfl, hci⟩ := h.cel k hi
      obtain ⟨x, hx⟩ : ∃ x, x = xs[k] := ⟨_, rfl⟩
      rw [← hx] at hci
      have HX := hid hx
      clear hx h
      have hki : (k : Int) < (n : Int) := by omega
      by_cases hg : okE x
      · have R := hid (outside_no x w hg)
        have HG := hid hg
        clear hg
        go_wp2_with (go_at_call 55; (with_reducible refine (R.out).mono ?_); rintro e w' ⟨rfl, rfl⟩)
        refine ⟨⟨k + 1, by omega, rfl, hid fun j hj hjk => ?_⟩, by simp [intOf]; omega⟩
        by_cases e : j = k
        · subst e; rw [← HX.out]; exact HG.out
        · exact HK.out j hj (by omega)
      · have R := hid (outside_yes x w hg)
        have HG := hid hg
        clear hg
        go_wp2_with (go_at_call 55; (with_reducible refine (R.out).mono ?_); rintro e w' ⟨rfl, rfl⟩)
        go_ret
        have : ¬ ∀ x ∈ xs, okE x := fun h => HG.out (by have := h _ (List.getElem_mem hi); rwa [← HX.out] at this)
        exact ⟨⟨_, rfl, by rw [decide_eq_false this]; simp⟩, rfl⟩
    · obtain rfl : k = n := by omega
      go_wp2
      go_ret
      have : ∀ x ∈ xs, okE x := fun v hv => by
        obtain ⟨j, hj, rfl⟩ := List.getElem_of_mem hv
        exact HK.out j hj (by rw [← HL.out]; exact hj)
      exact ⟨⟨_, rfl, by rw [decide_eq_true this]; rfl⟩, rfl⟩
theorem contains_any (a : Option Addr) (n c : Nat) (xs : List Int) (w : World) (h : ZRd w .i64 a n c xs) :
    Calls Try.prog 56 #[.slice a n c, .func (.func 55) #[] #[]] w fun e w' => e = .returned (.bool (!decide (∀ x ∈ xs, okE x))) ∧ w = w' := by
  generalize hq : decide (∀ x ∈ xs, okE x) = q
  have HQ := hid hq
  clear hq
  have R := hid (index_any a n c xs w h)
  go_enter Try.func56, Try.ntmps56
  go_wp2_with fail
  refine (R.out).mono ?_
  rintro e w' ⟨⟨v, rfl, hv⟩, rfl⟩
  rw [HQ.out] at hv
  cases q
  · have HV := hid hv
    clear hv
    go_wp2
    go_ret
    exact ⟨ret_eq (congrArg Value.bool HV.out), rfl⟩
  · have HV := hid hv
    clear hv
    go_wp2
    go_ret
    exact ⟨ret_eq (congrArg Value.bool HV.out), rfl⟩
theorem right_iff (xs : List Int) : RightZ 1048576 xs ↔ xs.length ≤ 64 ∧ (trimZ xs).length = xs.length ∧ ∀ x ∈ xs, okE x := by
  refine ⟨fun h => ⟨h.len, by rw [trimZ_id h.last], h.bound⟩, fun h => ⟨h.1, ?_, h.2.2⟩⟩
  have e := trimZ_eq_take xs
  rw [h.2.1, List.take_length] at e
  rw [← e]; exact trimZ_last xs
theorem right_any (a : Option Addr) (n c : Nat) (xs : List Int) (w : World) (h : ZRd w .i64 a n c xs) :
    Calls Try.prog 21 #[.slice a n c] w fun e w' => e = .returned (.bool (decide (RightZ 1048576 xs))) ∧ w = w' := by
  have HL := hid h.len
  have hcap := h.cap
  have hmax := h.max
  have hr := right_iff xs
  rw [HL.out] at hr
  have hle : (trimZ xs).length ≤ n := by rw [← HL.out]; exact trimZ_length_le xs
  have R1 := hid (trimM_any a n c xs w h)
  have R2 := hid (contains_any a n c xs w h)
  generalize (trimZ xs).length = t at *
  by_cases h1 : 64 < n
  · rw [decide_eq_false (fun h => absurd (hr.1 h).1 (by omega))]
    have h1' : (64 : Int) < n := by omega
    clear hr
    go_enter Try.func21, Try.ntmps21
    go_wp2
    go_ret
    exact ⟨rfl, rfl⟩
  · have h1' : ¬ (64 : Int) < n := by omega
    by_cases h2 : t < n
    · rw [decide_eq_false (fun h => absurd (hr.1 h).2.1 (by omega))]
      have h2' : (t : Int) < n := by omega
      clear hr
      go_enter Try.func21, Try.ntmps21
      go_wp2_with (go_at_call 54; (with_reducible refine (R1.out).mono ?_); rintro e w' ⟨rfl, rfl⟩)
      go_ret
      exact ⟨rfl, rfl⟩
    · obtain rfl : t = n := by omega
      have hb : decide (RightZ 1048576 xs) = !(!decide (∀ x ∈ xs, okE x)) := by
        rw [Bool.not_not]
        exact decide_eq_decide.2 (hr.trans ⟨fun h => h.2.2, fun h => ⟨by omega, rfl, h⟩⟩)
      rw [hb]
      clear hb hr
      generalize (!decide (∀ x ∈ xs, okE x)) = q at *
      go_enter Try.func21, Try.ntmps21
      go_wp2_with (first
        | (go_at_call 54; (with_reducible refine (R1.out).mono ?_); rintro e w' ⟨rfl, rfl⟩)
        | (go_at_call 56; (with_reducible refine (R2.out).mono ?_); rintro e w' ⟨rfl, rfl⟩))
      go_ret
      exact ⟨rfl, rfl⟩
theorem rright_any (a : Option Addr) (n c : Nat) (xs : List Int) (w : World) (h : ZRd w .i64 a n c xs) :
    Calls Try.prog 22 #[.slice a n c] w fun e w' => e = .returned (.bool (decide (RightZ 1048576 xs))) ∧ w = w' := by
  have HL := hid h.len
  have hcap := h.cap
  have hmax := h.max
  by_cases h1 : 64 < n
  · rw [decide_eq_false (fun (h : RightZ 1048576 xs) => absurd h.len (by rw [HL.out]; omega))]
    have h1' : (64 : Int) < n := by omega
    go_enter Try.func22, Try.ntmps22
    go_wp2
    go_ret
    exact ⟨rfl, rfl⟩
  have h1' : ¬ (64 : Int) < n := by omega
  rcases Nat.eq_zero_or_pos n with h0 | h0
  · subst h0
    obtain rfl : xs = [] := List.eq_nil_of_length_eq_zero HL.out
    rw [decide_eq_true RightZ.nil]
    go_enter Try.func22, Try.ntmps22
    go_wp2
    go_loop [3] (fun i => i = .int .i64 0) (fun i => 0)
    case atStart => rfl
    case round =>
      obtain rfl := hrel
      go_wp2
      go_ret
      exact ⟨rfl, rfl⟩
  · obtain ⟨b, o, rfl, _, hc⟩ := h.block h0
    have HC := hid hc
    obtain ⟨m, rfl⟩ : ∃ m, n = m + 1 := ⟨n - 1, by omega⟩
    have hcm := hc m (by rw [HL.out]; omega)
    obtain ⟨x, hx⟩ : ∃ x, x = xs[m]'(by rw [HL.out]; omega) := ⟨_, rfl⟩
    rw [← hx] at hcm
    have HX : Hid (xs.getLast? = some x) := hid (by
      rw [List.getLast?_eq_getElem?, List.getElem?_eq_getElem (by rw [HL.out]; omega), hx]
      congr 2
      have := HL.out
      omega)
    clear hx hc h
    have h0' : (0 : Int) < (m : Int) + 1 := by omega
    replace h1' : ¬ (64 : Int) < (m : Int) + 1 := by omega
    by_cases hz : x = 0
    · have HZ := hid hz
      rw [hz] at hcm
      clear hz
      rw [decide_eq_false (fun (h : RightZ 1048576 xs) => h.last (by rw [HX.out, HZ.out]))]
      go_enter Try.func22, Try.ntmps22
      go_wp2
      go_ret
      exact ⟨rfl, rfl⟩
    have HZ : Hid (xs.getLast? ≠ some 0) := hid (by rw [HX.out]; simpa using hz)
    go_enter Try.func22, Try.ntmps22
    go_wp2
    go_loop [3] (fun i => ∃ k : Nat, k ≤ m + 1 ∧ i = .int .i64 k ∧ Hid (∀ j (hj : j < xs.length), j < k → okE xs[j])) (fun i => m + 1 - (intOf i).toNat)
    case atStart => exact ⟨0, Nat.zero_le _, rfl, hid fun j _ h => by omega⟩
    case round =>
      obtain ⟨k, hk, rfl, HK⟩ := hrel
      by_cases hlt : k < m + 1
      · have hi : k < xs.length := by rw [HL.out]; exact hlt
        have hki : (k : Int) < ((m + 1 : Nat) : Int) := by omega
        have hci := HC.out k hi
        obtain ⟨y, hy⟩ : ∃ y, y = xs[k] := ⟨_, rfl⟩
        rw [← hy] at hci
        have HY := hid hy
        clear hy
        by_cases g1 : y < 0
        · go_wp2
          go_ret
          have : ¬ RightZ 1048576 xs := fun h => by
            have := h.bound _ (List.getElem_mem hi)
            rw [← HY.out] at this; omega
          rw [decide_eq_false this]
          exact ⟨rfl, rfl⟩
        · by_cases g2 : 1048576 < y
          · go_wp2
            go_ret
            have : ¬ RightZ 1048576 xs := fun h => by
              have := h.bound _ (List.getElem_mem hi)
              rw [← HY.out] at this; omega
            rw [decide_eq_false this]
            exact ⟨rfl, rfl⟩
          · go_wp2
            refine ⟨⟨k + 1, by omega, rfl, hid fun j hj hjk => ?_⟩, by simp [intOf]; omega⟩
            by_cases e : j = k
            · subst e; rw [← HY.out]; exact ⟨by omega, by omega⟩
            · exact HK.out j hj (by omega)
      · obtain rfl : k = m + 1 := by omega
        go_wp2
        go_ret
        have : RightZ 1048576 xs := ⟨by rw [HL.out]; omega, HZ.out, fun v hv => by
          obtain ⟨j, hj, rfl⟩ := List.getElem_of_mem hv
          exact HK.out j hj (by rw [← HL.out]; exact hj)⟩
        rw [decide_eq_true this]
        exact ⟨rfl, rfl⟩
end Go.Proofs.Ytcmbdnkfihanmaa
