/-
  Contracts of the functions on bytes: kindOf, run; the reference's letter, digit, blank.
-/
import Derived.Test.YtlkajmfpbgipbaaProg
import Derived.Test.YtlkajmfpbgipbaaMem
import Derived.Test.YtlkajmfpbgipbaaLexM
set_option linter.unusedVariables false
set_option linter.unusedSimpArgs false
namespace Go.Proofs.Ytlkajmfpbgipbaa
open Go.RowKit _root_.Nm Lx

theorem gcl {W w1 : World} (hb : W.grownBy w1 none) : ∀ b o, b < W.heap.size → w1.cell? ⟨b, o, none⟩ = W.cell? ⟨b, o, none⟩ := fun b o h => World.cell?_of_block (hb.block b h (by simp))
theorem gfl {W w1 : World} (hb : W.grownBy w1 none) : ∀ b o, b < W.heap.size → w1.frozen? ⟨b, o, none⟩ = W.frozen? ⟨b, o, none⟩ := fun b o h => World.frozen?_of_block (hb.block b h (by simp))
theorem ret_i {a b : Nat} (h : a = b) : Ending.returned (.int .i64 (a : Int)) = .returned (.int .i64 (b : Int)) := by rw [h]
theorem ret_d {b : Bool} {p : Prop} [Decidable p] (h : b = true ↔ p) : Ending.returned (.bool b) = .returned (.bool (decide p)) := by
  rw [show b = decide p from by cases b <;> simp_all]
theorem ret_b {a b : Bool} (h : a = b) : Ending.returned (.bool a) = .returned (.bool b) := by rw [h]

theorem kd_val {m k : Nat} (h : ((65 ≤ m ∧ m ≤ 90 ∨ 97 ≤ m ∧ m ≤ 122) ∧ k = 3) ∨ ((48 ≤ m ∧ m ≤ 57) ∧ k = 4) ∨ ((m = 32 ∨ m = 9 ∨ m = 13 ∨ m = 10) ∧ k = 1) ∨ (m = 35 ∧ k = 2) ∨
    ((m = 40 ∨ m = 41 ∨ m = 44 ∨ m = 59 ∨ m = 47 ∨ m = 45) ∧ k = 5) ∨ (m = 58 ∧ k = 6) ∨
    (¬ (65 ≤ m ∧ m ≤ 90 ∨ 97 ≤ m ∧ m ≤ 122) ∧ ¬ (48 ≤ m ∧ m ≤ 57) ∧ ¬ (m = 32 ∨ m = 9 ∨ m = 13 ∨ m = 10) ∧ m ≠ 35 ∧ ¬ (m = 40 ∨ m = 41 ∨ m = 44 ∨ m = 59 ∨ m = 47 ∨ m = 45) ∧ m ≠ 58 ∧ k = 0)) : k = kd m := by
  unfold kd; (repeat' split) <;> omega

set_option maxHeartbeats 2000000 in
theorem kindOf_any (m : Nat) (hm : m < 256) (w : World) : Calls Try.prog 49 #[.int .u8 (m : Int)] w fun e w' => e = .returned (.int .i64 (kd m : Nat)) ∧ w = w' := by
  go_enter Try.func49, Try.ntmps49
  go_wp2_with fail
  all_goals
    go_ret
    refine ⟨ret_i (kd_val ?_), rfl⟩
    simp_all
    try omega

set_option maxHeartbeats 2000000 in
theorem letter_any (m : Nat) (hm : m < 256) (w : World) : Calls Try.prog 46 #[.int .u8 (m : Int)] w fun e w' => e = .returned (.bool (decide (kd m = 3))) ∧ w = w' := by
  have HK := hid (kd_letter m)
  go_enter Try.func46, Try.ntmps46
  go_wp2_with fail
  all_goals
    go_ret
    refine ⟨ret_d ?_, rfl⟩
    rw [HK.out]
    clear HK
    simp_all
    try omega
set_option maxHeartbeats 2000000 in
theorem digit_any (m : Nat) (hm : m < 256) (w : World) : Calls Try.prog 47 #[.int .u8 (m : Int)] w fun e w' => e = .returned (.bool (decide (kd m = 4))) ∧ w = w' := by
  have HK := hid (kd_digit m)
  go_enter Try.func47, Try.ntmps47
  go_wp2_with fail
  all_goals
    go_ret
    refine ⟨ret_d ?_, rfl⟩
    rw [HK.out]
    clear HK
    simp_all
    try omega
set_option maxHeartbeats 2000000 in
theorem blank_any (m : Nat) (hm : m < 256) (w : World) : Calls Try.prog 68 #[.int .u8 (m : Int)] w fun e w' => e = .returned (.bool (decide (kd m = 1))) ∧ w = w' := by
  have HK := hid (kd_blank m)
  go_enter Try.func68, Try.ntmps68
  go_wp2_with fail
  all_goals
    go_ret
    refine ⟨ret_d ?_, rfl⟩
    rw [HK.out]
    clear HK
    simp_all
    try omega

/-- where a number stands in a list, its length where it doesn't -/
def pos (m : Nat) : List Nat → Nat
  | [] => 0
  | x :: l => if m = x then 0 else pos m l + 1
set_option maxHeartbeats 2000000 in
theorem index_any (p : Option Addr) (n c : Nat) (xs : List Nat) (m : Nat) (w : World) (h : IRd w .i64 p n c xs) :
    Calls Try.prog 81 #[.slice p n c, .int .i64 (m : Int)] w fun e w' => ∃ i : Int, e = .returned (.int .i64 i) ∧ (0 ≤ i ↔ m ∈ xs) ∧ w = w' := by
  have hl := h.len
  have hc := h.cap
  have hm := h.max
  have HR := hid h
  clear h
  go_enter Try.func81, Try.ntmps81
  go_wp2_with fail
  go_loop [8] (fun i => ∃ k : Nat, k ≤ n ∧ i = .int .i64 k ∧ Hid (∀ j (h : j < xs.length), j < k → xs[j] ≠ m)) (fun i => n - (intOf i).toNat)
  case atStart => exact ⟨0, Nat.zero_le _, rfl, hid fun j h hj => by omega⟩
  case round =>
    obtain ⟨k, hk, rfl, HC⟩ := hrel
    by_cases hlt : k < n
    · obtain ⟨b, o, rfl, hcell⟩ := HR.out.cel k (by omega)
      obtain ⟨x, hx⟩ : ∃ x, x = xs[k]'(by omega) := ⟨_, rfl⟩
      rw [← hx] at hcell
      have HX := hid hx
      clear hx
      by_cases hxm : m = x
      · have HM : Hid (m ∈ xs) := hid (by rw [hxm, HX.out]; exact List.getElem_mem _)
        subst hxm
        go_wp2_with fail
        go_ret
        exact ⟨k, rfl, ⟨fun _ => HM.out, fun _ => by omega⟩, rfl⟩
      · have hne : ((m : Int) == (x : Int)) = false := by simpa using (by omega : ¬ (m : Int) = (x : Int))
        have HN : Hid (∀ j (h : j < xs.length), j < k + 1 → xs[j] ≠ m) := hid fun j h hj => by
          by_cases hjk : j = k
          · subst hjk; rw [← HX.out]; exact fun e => hxm e.symm
          · exact HC.out j h (by omega)
        clear hxm
        go_wp2_with fail
        exact ⟨⟨k + 1, by omega, rfl, HN⟩, by simp [intOf]; omega⟩
    · obtain rfl : k = n := by omega
      have HN : Hid (m ∉ xs) := hid fun hmem => by
        obtain ⟨j, hj, e⟩ := List.getElem_of_mem hmem
        exact HC.out j hj (by omega) e
      go_wp2_with fail
      go_ret
      exact ⟨-1, rfl, ⟨fun h => by omega, fun h => absurd h HN.out⟩, rfl⟩
set_option maxHeartbeats 2000000 in
theorem contains_any (p : Option Addr) (n c : Nat) (xs : List Nat) (m : Nat) (w : World) (h : IRd w .i64 p n c xs) :
    Calls Try.prog 69 #[.slice p n c, .int .i64 (m : Int)] w fun e w' => e = .returned (.bool (decide (m ∈ xs))) ∧ w = w' := by
  have HC := hid (index_any p n c xs m w h)
  clear h
  go_enter Try.func69, Try.ntmps69
  go_wp2_with fail
  refine HC.out.mono ?_
  rintro e w' ⟨i, rfl, hi, rfl⟩
  have HI := hid hi
  clear hi
  go_wp2_with fail
  go_ret
  exact ⟨ret_b (decide_eq_decide.2 HI.out), rfl⟩

theorem idx_at (s : ByteArray) (l : List UInt8) (hl : s.data.toList = l) (k : Nat) (hk : k < l.length) (w : World) :
    (Instr.index 9 (.string s) (.int .i64 (k : Int))).run Try.prog w = .ok (.int .u8 (l[k].toNat : Int)) w := by
  subst hl
  have hs : k < s.size := by rw [Lib.size_eq]; exact hk
  rw [run_index_string w 9 s .i64 (k : Int) (by kernel_rfl), dif_pos ⟨by omega, by omega⟩]
  simp only [Int.toNat_natCast]
  rfl

theorem u8_lt (c : UInt8) : c.toNat < 256 := c.toNat_lt
set_option maxHeartbeats 2000000 in
theorem run_any (s : ByteArray) (l : List UInt8) (hl : s.data.toList = l) (hmax : l.length ≤ 9223372036854775807) (i : Nat) (hi : i ≤ l.length) (p : Option Addr) (n c : Nat) (ks : List Nat) (w : World) (h : IRd w .i64 p n c ks) :
    Calls Try.prog 50 #[.string s, .int .i64 (i : Int), .slice p n c] w fun e w' => e = .returned (.int .i64 ((i + span ks (l.drop i) : Nat) : Int)) ∧ w = w' := by
  have hsz : s.size = l.length := by rw [Lib.size_eq, hl]
  have HIX := hid (idx_at s l hl)
  have HR := hid h
  obtain ⟨T, hT⟩ : ∃ T, i + span ks (l.drop i) = T := ⟨_, rfl⟩
  rw [hT]
  have HT := hid hT
  clear hl h hT
  go_enter Try.func50, Try.ntmps50
  go_wp2_with fail
  go_loop [1] (fun x => ∃ k : Nat, k ≤ l.length ∧ x = .int .i64 k ∧ Hid (k + span ks (l.drop k) = T)) (fun x => l.length - (intOf x).toNat)
  case atStart => exact ⟨i, hi, rfl, HT⟩
  case round =>
    obtain ⟨k, hk, rfl, HC⟩ := hrel
    by_cases hlt : k < l.length
    · have hix := HIX.out k hlt
      have hd : l.drop k = l[k] :: l.drop (k + 1) := List.drop_eq_getElem_cons hlt
      obtain ⟨ch, hc⟩ : ∃ ch, ch = l[k] := ⟨_, rfl⟩
      rw [← hc] at hix hd
      have HD := hid hd
      clear hc hd
      have HKO := hid (kindOf_any ch.toNat (u8_lt ch))
      by_cases hin : kd ch.toNat ∈ ks
      · have HS : Hid (k + 1 + span ks (l.drop (k + 1)) = T) := hid (by have := HC.out; rw [HD.out, span_yes hin] at this; omega)
        have HCT := hid fun w (h : IRd w .i64 p n c ks) => (decide_eq_true hin ▸ contains_any p n c ks (kd ch.toNat) w h)
        clear hin
        go_wp2_with (first | (go_at_call 49; refine (HKO.out _).mono ?_; rintro e w' ⟨rfl, rfl⟩) | (go_at_call 69; refine (HCT.out _ HR.out).mono ?_; rintro e w' ⟨rfl, rfl⟩))
        exact ⟨⟨k + 1, by omega, rfl, HS⟩, by simp [intOf]; omega⟩
      · have HS : Hid (k = T) := hid (by have := HC.out; rw [HD.out, span_no hin] at this; omega)
        have HCT := hid fun w (h : IRd w .i64 p n c ks) => (decide_eq_false hin ▸ contains_any p n c ks (kd ch.toNat) w h)
        clear hin
        go_wp2_with (first | (go_at_call 49; refine (HKO.out _).mono ?_; rintro e w' ⟨rfl, rfl⟩) | (go_at_call 69; refine (HCT.out _ HR.out).mono ?_; rintro e w' ⟨rfl, rfl⟩))
        go_ret
        exact ⟨ret_i HS.out, rfl⟩
    · obtain rfl : k = l.length := by omega
      have HS : Hid (l.length = T) := hid (by have := HC.out; rw [List.drop_of_length_le (Nat.le_refl _), span_nil] at this; omega)
      go_wp2_with fail
      go_ret
      exact ⟨ret_i HS.out, rfl⟩
end Go.Proofs.Ytlkajmfpbgipbaa
