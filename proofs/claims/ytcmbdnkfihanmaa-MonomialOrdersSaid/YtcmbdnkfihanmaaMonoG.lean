/-
  Contracts of Norm and Quo, of their specification, and of Cmp with its specification.
-/
import Derived.Test.YtcmbdnkfihanmaaProg
import Derived.Test.YtcmbdnkfihanmaaMonoF
import Derived.Deep.RegionHeld3
import Derived.Deep.AppendLies
import Derived.Lib.SliceRun
set_option linter.unusedVariables false
set_option linter.unusedSimpArgs false
namespace Go.Proofs.Ytcmbdnkfihanmaa
open Go.RowKit Nm

/-- a copy -/
theorem cloneM_any (a : Option Addr) (n c : Nat) (xs : List Int) (w : World) (h : ZRd w .i64 a n c xs) (hn : n ≤ 1000000) :
    Calls Try.prog 57 #[.slice a n c] w (ZRes w xs) := by
  have HL := hid h.len
  have hcap := h.cap
  have hmax := h.max
  cases a with
  | none =>
    have h0 : n = 0 := by
      rcases Nat.eq_zero_or_pos n with h0 | h0
      · exact h0
      · obtain ⟨b, o, e, _⟩ := h.block h0
        cases e
    subst h0
    obtain rfl : xs = [] := List.eq_nil_of_length_eq_zero HL.out
    have hq : ∀ w : World, (binOp .eql 35 (.slice none 0 c) (.slice none 0 0)).run Try.prog w = .ok (.bool true) w := fun w => Lib.run_eql_slice_nil w _ _ _ _ _ _ _ Try.underlying35
    go_enter Try.func57, Try.ntmps57
    go_wp2
    go_ret
    exact ⟨none, 0, rfl, ZRd.nil _ _, grown_refl _ _⟩
  | some q =>
    have hq : ∀ w : World, (binOp .eql 35 (.slice (some q) n c) (.slice none 0 0)).run Try.prog w = .ok (.bool false) w := fun w => Lib.run_eql_slice_nil w _ _ _ _ _ _ _ Try.underlying35
    go_enter Try.func57, Try.ntmps57
    go_wp2_with (refine wz_append _ rfl (.tmp 5) (.tmp 6) 35 rfl 3 .i64 8 Try.underlying35 infoInt w.heap.size _ 0 0 [] rfl (ZOwn.made w w.heap.size 3 .i64 [] (Nat.le_refl _) (by simp)) _ n c xs rfl (h.keep (World.grownBy_alloc _ _ _)) (by omega) (by omega) w (World.grownBy_alloc _ _ _) (Nat.le_refl _) (by simp) ?_; intro p' c2 w1 ho hg)
    go_ret
    have := ho.rd
    simp only [List.nil_append, Nat.zero_add] at this
    exact ⟨p', c2, by rw [HL.out]; simp, by rw [HL.out]; exact this, hg⟩
set_option maxHeartbeats 1000000 in
theorem cut_any (a : Option Addr) (n c : Nat) (xs : List Int) (w : World) (h : ZRd w .i64 a n c xs) (hn : n ≤ 4000000) :
    Calls Try.prog 58 #[.slice a n c] w (ZRes w (trimZ xs)) := by
  have hcap := h.cap
  have hmax := h.max
  have HL := hid h.len
  go_enter Try.func58, Try.ntmps58
  go_wp2
  go_loop [3] (fun t => ∃ k : Nat, k ≤ n ∧ trimZ xs = trimZ (xs.take k) ∧ t = .int .i64 k) (fun t => (intOf t).toNat)
  case atStart => exact ⟨n, Nat.le_refl _, by rw [List.take_of_length_le (by rw [HL.out]; exact Nat.le_refl _)], rfl⟩
  case round =>
    obtain ⟨k, hk, hz, rfl⟩ := hrel
    have HZ := hid hz
    clear hz
    have done : ∀ (k : Nat), k ≤ n → trimZ xs = xs.take k → Hid (trimZ xs = xs.take k ∧ ZRd w .i64 a k c (trimZ xs)) := fun k hk e => hid ⟨e, by rw [e]; exact h.take k hk⟩
    by_cases h0 : 0 < k
    · obtain ⟨i, rfl⟩ : ∃ i, k = i + 1 := ⟨k - 1, by omega⟩
      have hi : i < xs.length := by rw [HL.out]; omega
      obtain ⟨b, o, rfl, hci⟩ := h.cel i hi
      have ht := List.take_succ_eq_append_getElem hi
      obtain ⟨x, hx⟩ : ∃ x, x = xs[i] := ⟨_, rfl⟩
      rw [← hx] at hci ht
      have HT := hid ht
      clear ht hx hi
      by_cases hf : x = 0
      · have HF := hid hf
        rw [hf] at hci
        clear hf done
        go_wp2
        exact ⟨⟨i, by omega, by rw [HZ.out, HT.out, HF.out, trimZ_snoc_zero], rfl⟩, by simp [intOf]⟩
      · have D := done (i + 1) hk (by rw [HZ.out, HT.out, trimZ_snoc hf])
        have HLT : Hid ((trimZ xs).length = i + 1) := hid D.out.2.len
        clear done
        go_wp2_with (refine wz_append _ rfl (.tmp 19) (.tmp 22) 35 rfl 3 .i64 8 Try.underlying35 infoInt w.heap.size none 0 0 [] rfl (ZOwn.nil _ _ _ _) (some ⟨b, o, none⟩) (i + 1) c (trimZ xs) rfl D.out.2 (by omega) (by omega) w (grown_refl _ _) (Nat.le_refl _) (Nat.le_refl _) ?_; intro p' c2 w1 ho hg)
        go_ret
        have := ho.rd
        simp only [List.nil_append, Nat.zero_add] at this
        exact ⟨p', c2, by rw [HLT.out]; simp, by rw [HLT.out]; exact this, hg⟩
    · obtain rfl : k = 0 := by omega
      have D := done 0 hk (by rw [HZ.out]; simp [trimZ])
      have HLT : Hid ((trimZ xs).length = 0) := hid D.out.2.len
      clear done
      go_wp2_with (refine wz_append _ rfl (.tmp 19) (.tmp 22) 35 rfl 3 .i64 8 Try.underlying35 infoInt w.heap.size none 0 0 [] rfl (ZOwn.nil _ _ _ _) a 0 c (trimZ xs) rfl D.out.2 (by omega) (by omega) w (grown_refl _ _) (Nat.le_refl _) (Nat.le_refl _) ?_; intro p' c2 w1 ho hg)
      go_ret
      have := ho.rd
      simp only [List.nil_append, Nat.zero_add] at this
      exact ⟨p', c2, by rw [HLT.out]; simp, by rw [HLT.out]; exact this, hg⟩
/-- the valid list, or the empty one -/
def normZ (xs : List Int) : List Int := if RightZ 1048576 (trimZ xs) then trimZ xs else []
theorem normM_any (a : Option Addr) (n c : Nat) (xs : List Int) (w : World) (h : ZRd w .i64 a n c xs) :
    Calls Try.prog 24 #[.slice a n c] w (ZRes w (normZ xs)) := by
  have hcap := h.cap
  have hmax := h.max
  have R1 := hid (trimM_any a n c xs w h)
  have hT := h.take (trimZ xs).length (by rw [← h.len]; exact trimZ_length_le _)
  rw [← trimZ_eq_take] at hT
  have R2 := hid (right_any _ _ _ _ _ hT)
  by_cases hr : RightZ 1048576 (trimZ xs)
  · have e : normZ xs = trimZ xs := if_pos hr
    rw [e]
    rw [decide_eq_true hr] at R2
    have R3 := hid (cloneM_any _ _ _ _ _ hT (by have := hr.len; omega))
    clear e hr hT h
    generalize trimZ xs = zs at *
    generalize zs.length = t at *
    go_enter Try.func24, Try.ntmps24
    go_wp2_with (first
      | (go_at_call 54; (with_reducible refine (R1.out).mono ?_); rintro e w' ⟨rfl, rfl⟩)
      | (go_at_call 21; (with_reducible refine (R2.out).mono ?_); rintro e w' ⟨rfl, rfl⟩)
      | (go_at_call 57; (with_reducible refine (R3.out).mono ?_); rintro e w' ⟨p, cc, rfl, hr, hg⟩))
    go_ret
    exact ⟨p, cc, rfl, hr, hg⟩
  · have e : normZ xs = [] := if_neg hr
    rw [e]
    rw [decide_eq_false hr] at R2
    clear e hr hT h
    generalize trimZ xs = zs at *
    generalize zs.length = t at *
    go_enter Try.func24, Try.ntmps24
    go_wp2_with (first
      | (go_at_call 54; (with_reducible refine (R1.out).mono ?_); rintro e w' ⟨rfl, rfl⟩)
      | (go_at_call 21; (with_reducible refine (R2.out).mono ?_); rintro e w' ⟨rfl, rfl⟩))
    go_ret
    exact ⟨none, 0, rfl, ZRd.nil _ _, grown_refl _ _⟩
theorem rnormM_any (a : Option Addr) (n c : Nat) (xs : List Int) (w : World) (h : ZRd w .i64 a n c xs) (hn : n ≤ 4000000) :
    Calls Try.prog 25 #[.slice a n c] w (ZRes w (normZ xs)) := by
  have R1 := hid (cut_any a n c xs w h hn)
  by_cases hr : RightZ 1048576 (trimZ xs)
  · have e : normZ xs = trimZ xs := if_pos hr
    rw [e]
    have HR := hid (decide_eq_true hr)
    clear e hr h
    generalize trimZ xs = zs at *
    go_enter Try.func25, Try.ntmps25
    go_wp2_with fail
    refine (R1.out).mono ?_
    rintro e w1 ⟨p, cc, rfl, hr, hg⟩
    have R2 := hid (rright_any _ _ _ _ _ hr)
    rw [HR.out] at R2
    go_wp2_with (go_at_call 22; (with_reducible refine (R2.out).mono ?_); rintro e w' ⟨rfl, rfl⟩)
    go_ret
    exact ⟨p, cc, rfl, hr, hg⟩
  · have e : normZ xs = [] := if_neg hr
    rw [e]
    have HR := hid (decide_eq_false hr)
    clear e hr h
    generalize trimZ xs = zs at *
    go_enter Try.func25, Try.ntmps25
    go_wp2_with fail
    refine (R1.out).mono ?_
    rintro e w1 ⟨p, cc, rfl, hr, hg⟩
    have R2 := hid (rright_any _ _ _ _ _ hr)
    rw [HR.out] at R2
    go_wp2_with (go_at_call 22; (with_reducible refine (R2.out).mono ?_); rintro e w' ⟨rfl, rfl⟩)
    go_ret
    exact ⟨none, 0, rfl, ZRd.nil _ _, hg⟩
/-- a call returns a new slice that reads as xs, and a bool -/
def ZRes2 (w : World) (xs : List Int) (ok : Bool) (e : Ending) (w' : World) : Prop := ∃ p c, e = .returned (.tuple #[.slice p xs.length c, .bool ok]) ∧ ZRd w' .i64 p xs.length c xs ∧ w.grownBy w' none
/-- the quotient, or the empty list -/
def quoZ (xs ys : List Int) : List Int := if dvdB ys xs = true then trimZ (combZ (· - ·) xs ys) else []
theorem quo_any (a b : Option Addr) (n m c d : Nat) (xs ys : List Int) (w : World) (h : ZRd w .i64 a n c xs) (k : ZRd w .i64 b m d ys) {B C : Int} (hx : RightZ B xs) (hy : RightZ C ys) (hB : 0 ≤ B ∧ B ≤ 1099511627776) (hC : 0 ≤ C ∧ C ≤ 1099511627776) :
    Calls Try.prog 32 #[.slice a n c, .slice b m d] w (ZRes2 w (quoZ xs ys) (dvdB ys xs)) := by
  have R := hid (combineSub_any (· - ·) a b n m c d xs ys w h k (by have := hx.len; have := h.len; omega) (by have := hy.len; have := k.len; omega)
    (fun i w => fsub_any _ _ _ ⟨(hx.room hB i).1, (hx.room hB i).2, (hy.room hC i).1, (hy.room hC i).2⟩))
  have R2 := hid (divides_any b a m n d c ys xs w k h)
  unfold quoZ
  generalize dvdB ys xs = q at *
  cases q
  · rw [if_neg (by simp)]
    go_enter Try.func32, Try.ntmps32
    go_wp2_with (go_at_call 38; (with_reducible refine (R2.out).mono ?_); rintro e w' ⟨rfl, rfl⟩)
    go_ret2
    exact ⟨none, 0, rfl, ZRd.nil _ _, grown_refl _ _⟩
  · rw [if_pos rfl]
    go_enter Try.func32, Try.ntmps32
    go_wp2_with (go_at_call 38; (with_reducible refine (R2.out).mono ?_); rintro e w' ⟨rfl, rfl⟩)
    refine (R.out).mono ?_
    rintro e w' ⟨p, cc, rfl, hr, hg⟩
    go_wp2
    go_ret2
    exact ⟨p, cc, rfl, hr, hg⟩
end Go.Proofs.Ytcmbdnkfihanmaa
