/-
  Contracts of the functions of package natural that handle limbs and words: trim, clone, word, pack, unpack.
-/
import Derived.Test.YthkgldpcgmnaiaaDoorProg
import Derived.Test.YthkgldpcgmnaiaaDoorDig
import Derived.Test.YthkgldpcgmnaiaaDoorMem
set_option linter.unusedVariables false
set_option linter.unusedSimpArgs false
namespace Go.Proofs.YthkgldpcgmnaiaaDoor
open Go.RowKit Nm


/-- trim drops the leading zeros -/
theorem trim16 (a : Option Addr) (n c : Nat) (xs : List Nat) (w : World) (h : IRd w .u16 a n c xs) :
    Calls Tryd.prog 61 #[.slice a n c] w fun e w' => e = .returned (.slice a (trimR xs).length c) ∧ w = w' := by
  have hl := h.len
  have hcap := h.cap
  have hmax := h.max
  have HL := hid hl
  clear hl
  go_enter Tryd.func61, Tryd.ntmps61
  go_wp2
  go_loop [0] (fun t => ∃ k : Nat, k ≤ n ∧ trimR xs = trimR (xs.take k) ∧ t = .slice a k c) (fun t => match t with | .slice _ k _ => k | _ => 0)
  case atStart => exact ⟨n, Nat.le_refl _, by rw [List.take_of_length_le (by rw [HL.out]; exact Nat.le_refl _)], rfl⟩
  case round =>
    obtain ⟨k, hk, hz, rfl⟩ := hrel
    have HZ := hid hz
    clear hz
    by_cases h0 : 0 < k
    · obtain ⟨i, rfl⟩ : ∃ i, k = i + 1 := ⟨k - 1, by omega⟩
      have hi : i < xs.length := by rw [HL.out]; omega
      obtain ⟨b, o, rfl, hci⟩ := h.cel i hi
      have ht := List.take_succ_eq_append_getElem hi
      obtain ⟨x, hx⟩ : ∃ x, x = xs[i] := ⟨_, rfl⟩
      rw [← hx] at hci ht
      have HT := hid ht
      clear ht hx h hi
      by_cases hf : x = 0
      · have HF := hid hf
        rw [hf] at hci
        clear hf
        go_wp2
        exact ⟨⟨i, by omega, by rw [HZ.out, HT.out, HF.out, trimR_snoc_zero], rfl⟩, by simp⟩
      · go_wp2
        go_ret
        exact ⟨by rw [HZ.out, HT.out, trimR_snoc hf]; simp; have := HL.out; omega, rfl⟩
    · obtain rfl : k = 0 := by omega
      go_wp2
      go_ret
      exact ⟨by rw [HZ.out]; simp [trimR], rfl⟩

/-- trim drops the leading zeros -/
theorem trim64 (a : Option Addr) (n c : Nat) (xs : List Nat) (w : World) (h : IRd w .u64 a n c xs) :
    Calls Tryd.prog 58 #[.slice a n c] w fun e w' => e = .returned (.slice a (trimR xs).length c) ∧ w = w' := by
  have hl := h.len
  have hcap := h.cap
  have hmax := h.max
  have HL := hid hl
  clear hl
  go_enter Tryd.func58, Tryd.ntmps58
  go_wp2
  go_loop [0] (fun t => ∃ k : Nat, k ≤ n ∧ trimR xs = trimR (xs.take k) ∧ t = .slice a k c) (fun t => match t with | .slice _ k _ => k | _ => 0)
  case atStart => exact ⟨n, Nat.le_refl _, by rw [List.take_of_length_le (by rw [HL.out]; exact Nat.le_refl _)], rfl⟩
  case round =>
    obtain ⟨k, hk, hz, rfl⟩ := hrel
    have HZ := hid hz
    clear hz
    by_cases h0 : 0 < k
    · obtain ⟨i, rfl⟩ : ∃ i, k = i + 1 := ⟨k - 1, by omega⟩
      have hi : i < xs.length := by rw [HL.out]; omega
      obtain ⟨b, o, rfl, hci⟩ := h.cel i hi
      have ht := List.take_succ_eq_append_getElem hi
      obtain ⟨x, hx⟩ : ∃ x, x = xs[i] := ⟨_, rfl⟩
      rw [← hx] at hci ht
      have HT := hid ht
      clear ht hx h hi
      by_cases hf : x = 0
      · have HF := hid hf
        rw [hf] at hci
        clear hf
        go_wp2
        exact ⟨⟨i, by omega, by rw [HZ.out, HT.out, HF.out, trimR_snoc_zero], rfl⟩, by simp⟩
      · go_wp2
        go_ret
        exact ⟨by rw [HZ.out, HT.out, trimR_snoc hf]; simp; have := HL.out; omega, rfl⟩
    · obtain rfl : k = 0 := by omega
      go_wp2
      go_ret
      exact ⟨by rw [HZ.out]; simp [trimR], rfl⟩

theorem or_join (v x : Nat) (hv : v < 281474976710656) (hx : x < 65536) : bits .or .u64 ((v : Int) * 65536) (x : Int) = ((v * 65536 + x : Nat) : Int) := by
  have e : ((v : Int) * 65536) = ((v * 65536 : Nat) : Int) := by simp
  rw [e, bits_or_u64_nat _ _ (by omega) (by omega), nat_join 16 _ _ (by omega) (by omega)]

theorem V_word {xs : List Nat} (h : Dg 65536 xs) (m : Nat) (hm : xs.length ≤ m) : V 65536 xs < 65536 ^ m :=
  Nat.lt_of_lt_of_le h.lt (Nat.pow_le_pow_right (by omega) hm)

theorem word_any (a : Option Addr) (n c : Nat) (xs : List Nat) (w : World) (h : IRd w .u16 a n c xs) (hd : Dg 65536 xs) (hn : n ≤ 4) :
    Calls Tryd.prog 65 #[.slice a n c] w fun e w' => e = .returned (.int .u64 (V 65536 xs : Nat)) ∧ w = w' := by
  have HL := hid h.len
  have hcap := h.cap
  have hmax := h.max
  go_enter Tryd.func65, Tryd.ntmps65
  go_wp2
  go_loop [3, 4] (fun t i => ∃ k : Nat, k ≤ n ∧ i = .int .i64 ((k : Int) - 1) ∧ t = .int .u64 (V 65536 (xs.drop k) : Nat)) (fun _ i => (intOf i + 1).toNat)
  case atStart => exact ⟨n, Nat.le_refl _, rfl, by rw [List.drop_of_length_le (by rw [HL.out]; exact Nat.le_refl _)]; rfl⟩
  case round =>
    obtain ⟨k, hk, rfl, rfl⟩ := hrel
    by_cases h0 : 0 < k
    · obtain ⟨i, rfl⟩ : ∃ i, k = i + 1 := ⟨k - 1, by omega⟩
      have hi : i < xs.length := by rw [HL.out]; omega
      obtain ⟨b, o, rfl, hci⟩ := h.cel i hi
      have ht := V_drop_succ (B := 65536) xs i hi
      have hxb := hd.get i hi
      have hvb := V_word (hd.drop (i + 1)) 3 (by rw [List.length_drop, HL.out]; omega)
      obtain ⟨x, hx⟩ : ∃ x, x = xs[i] := ⟨_, rfl⟩
      rw [← hx] at hci ht hxb
      obtain ⟨v, hv⟩ : ∃ v, v = V 65536 (xs.drop (i + 1)) := ⟨_, rfl⟩
      rw [← hv] at hvb ht ⊢
      have hvb' : v < 281474976710656 := hvb
      have HT := hid ht
      have HO := hid (or_join v x hvb' hxb)
      clear ht hx h hi hd hv hvb
      go_wp2
      exact ⟨⟨i, by omega, rfl, by rw [HO.out, HT.out]; congr 2; omega⟩, by simp [intOf]⟩
    · obtain rfl : k = 0 := by omega
      go_wp2
      go_ret
      exact ⟨by simp, rfl⟩

theorem clone_any (a : Option Addr) (n c : Nat) (xs : List Nat) (w : World) (h : IRd w .u16 a n c xs) (hn : n ≤ 1000000) :
    Calls Tryd.prog 63 #[.slice a n c] w fun e w' => e = .returned (.slice (some ⟨w.heap.size, 0, none⟩) n n) ∧ IRow w' w.heap.size 47 .u16 xs ∧ w.grownBy w' none := by
  go_enter Tryd.func63, Tryd.ntmps63
  go_wp2_with (first
    | (at_make; refine wl_make _ rfl _ _ 23 rfl 47 .u16 2 Tryd.underlying23 (by kernel_rfl) _ _ _ _ rfl rfl n rfl rfl (by omega) (by omega) ?_; intro w1 hr1 hg1)
    | (with_reducible refine wl_copy _ rfl (.tmp 7) (.tmp 8) 23 23 rfl 47 Tryd.underlying23 (by kernel_rfl) .u16 _ _ _ _ _ _ rfl rfl w.heap.size 0 47 _ xs hr1 (fun _ => rfl) (h.keep hg1) (by simp) ?_; intro w2 hr2 hg2))
  go_ret
  refine ⟨rfl, ?_, grown_new hg1 hg2 (fun g e => by cases e; exact Nat.le_refl _)⟩
  have e : splice (List.replicate n 0) 0 (xs.take n) = xs := by
    have := h.len
    rw [List.take_of_length_le (by omega)]
    simp [splice]; omega
  rwa [e] at hr2

end Go.Proofs.YthkgldpcgmnaiaaDoor
