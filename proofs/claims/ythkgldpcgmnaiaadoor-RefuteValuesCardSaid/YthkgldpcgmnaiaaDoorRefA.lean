/-
  Contracts of the reference: Norm, short, limb.
-/
import Derived.Test.YthkgldpcgmnaiaaDoorCmp
import Derived.Test.YthkgldpcgmnaiaaDoorOwn
import Derived.Deep.DeepCutAuto
set_option linter.unusedVariables false
set_option linter.unusedSimpArgs false
namespace Go.Proofs.YthkgldpcgmnaiaaDoor
open Go.RowKit Nm

theorem info16 : (Tryd.prog.info? 47).map (fun i => (i.zero, i.size, i.bytes)) = some (some (.int .u16 0), 1, 2) := by kernel_rfl

set_option maxHeartbeats 1000000 in
theorem refNorm_any (a : Option Addr) (n c : Nat) (xs : List Nat) (w : World) (h : IRd w .u16 a n c xs) (hn : n ≤ 4000000) :
    Calls Tryd.prog 27 #[.slice a n c] w fun e w' => ∃ a' c', e = .returned (.slice a' (trimR xs).length c') ∧ IRd w' .u16 a' (trimR xs).length c' (trimR xs) ∧ w.grownBy w' none := by
  have hcap := h.cap
  have hmax := h.max
  have HL := hid h.len
  go_enter Tryd.func27, Tryd.ntmps27
  go_wp2
  go_loop [3] (fun t => ∃ k : Nat, k ≤ n ∧ trimR xs = trimR (xs.take k) ∧ t = .int .i64 k) (fun t => (intOf t).toNat)
  case atStart => exact ⟨n, Nat.le_refl _, by rw [List.take_of_length_le (by rw [HL.out]; exact Nat.le_refl _)], rfl⟩
  case round =>
    obtain ⟨k, hk, hz, rfl⟩ := hrel
    have HZ := hid hz
    clear hz
    have done : ∀ (k : Nat), k ≤ n → trimR xs = xs.take k → Hid (trimR xs = xs.take k ∧ IRd w .u16 a k c (trimR xs)) := fun k hk e => hid ⟨e, by rw [e]; exact h.take k hk⟩
    by_cases h0 : 0 < k
    · obtain ⟨i, rfl⟩ : ∃ i, k = i + 1 := ⟨k - 1, by omega⟩
      have hi : i < xs.length := by rw [HL.out]; omega
      obtain ⟨b, o, rfl, hci⟩ := h.cel i hi
      have ht := List.take_succ_eq_append_getElem hi
      obtain ⟨x, hx⟩ : ∃ x, x = xs[i] := ⟨_, rfl⟩
      rw [← hx] at hci ht
      have HT := hid ht
      clear ht hx hi
      by_cases hf : x = 0
      · have HF := hid hf
        rw [hf] at hci
        clear hf done
        go_wp2
        exact ⟨⟨i, by omega, by rw [HZ.out, HT.out, HF.out, trimR_snoc_zero], rfl⟩, by simp [intOf]⟩
      · have D := done (i + 1) hk (by rw [HZ.out, HT.out, trimR_snoc hf])
        have HLT : Hid ((trimR xs).length = i + 1) := hid D.out.2.len
        clear done
        go_wp2_with (refine wl_append _ rfl (.tmp 19) (.tmp 22) 23 rfl 47 .u16 2 Tryd.underlying23 info16 w.heap.size none 0 0 [] rfl (IOwn.nil _ _ _ _) (some ⟨b, o, none⟩) (i + 1) c (trimR xs) rfl D.out.2 (by omega) (by omega) w (grown_refl _ _) (Nat.le_refl _) (Nat.le_refl _) ?_; intro p' c2 w1 ho hg)
        go_ret
        rw [HLT.out]
        have := ho.rd
        simp only [List.nil_append, Nat.zero_add] at this
        exact ⟨p', c2, rfl, this, hg⟩
    · obtain rfl : k = 0 := by omega
      have D := done 0 hk (by rw [HZ.out]; simp [trimR])
      have HLT : Hid ((trimR xs).length = 0) := hid D.out.2.len
      clear done
      go_wp2_with (refine wl_append _ rfl (.tmp 19) (.tmp 22) 23 rfl 47 .u16 2 Tryd.underlying23 info16 w.heap.size none 0 0 [] rfl (IOwn.nil _ _ _ _) a 0 c (trimR xs) rfl D.out.2 (by omega) (by omega) w (grown_refl _ _) (Nat.le_refl _) (Nat.le_refl _) ?_; intro p' c2 w1 ho hg)
      go_ret
      rw [HLT.out]
      have := ho.rd
      simp only [List.nil_append, Nat.zero_add] at this
      exact ⟨p', c2, rfl, this, hg⟩

theorem dg_step (r : Nat) (h : 0 < r) : dg 65536 r = r % 65536 :: dg 65536 (r / 65536) := by
  have hv : V 65536 (r % 65536 :: dg 65536 (r / 65536)) = r := by rw [V_cons, V_dg (by omega)]; omega
  have hc := Can_dg (B := 65536) (by omega) (r / 65536)
  have : Nm.Can 65536 (r % 65536 :: dg 65536 (r / 65536)) := by
    refine ⟨Dg.cons (Nat.mod_lt _ (by omega)) hc.1, ?_⟩
    by_cases h0 : r / 65536 = 0
    · rw [h0]; simp [dg_zero]; omega
    · cases e : dg 65536 (r / 65536) with
      | nil => have := V_dg (B := 65536) (by omega) (r / 65536); rw [e] at this; simp at this; omega
      | cons y ys => rw [List.getLast?_cons_cons, ← e]; exact hc.2
  have e := eq_dg (by omega) this
  rw [hv] at e
  exact e.symm

theorem refShort_any (a : Option Addr) (n c : Nat) (xs : List Nat) (w : World) (h : IRd w .u16 a n c xs) (hd : Dg 65536 xs) (hn : n ≤ 4) :
    Calls Tryd.prog 49 #[.slice a n c] w fun e w' => e = .returned (.int .u64 (V 65536 xs : Nat)) ∧ w = w' := by
  have HL := hid h.len
  have hcap := h.cap
  have hmax := h.max
  go_enter Tryd.func49, Tryd.ntmps49
  go_wp2
  go_loop [3, 4] (fun t i => ∃ k : Nat, k ≤ n ∧ i = .int .i64 ((k : Int) - 1) ∧ t = .int .u64 (V 65536 (xs.drop k) : Nat)) (fun _ i => (intOf i + 1).toNat)
  case atStart => exact ⟨n, Nat.le_refl _, rfl, by rw [List.drop_of_length_le (by rw [HL.out]; exact Nat.le_refl _)]; rfl⟩
  case round =>
    obtain ⟨k, hk, rfl, rfl⟩ := hrel
    by_cases h0 : 0 < k
    · obtain ⟨i, rfl⟩ : ∃ i, k = i + 1 := ⟨k - 1, by omega⟩
      have hi : i < xs.length := by rw [HL.out]; omega
      obtain ⟨b, o, rfl, hci⟩ := h.cel i hi
      have ht := V_drop_succ (B := 65536) xs i hi
      have hxb := hd.get i hi
      have hvb := V_word (hd.drop (i + 1)) 3 (by rw [List.length_drop, HL.out]; omega)
      obtain ⟨x, hx⟩ : ∃ x, x = xs[i] := ⟨_, rfl⟩
      rw [← hx] at hci ht hxb
      obtain ⟨v, hv⟩ : ∃ v, v = V 65536 (xs.drop (i + 1)) := ⟨_, rfl⟩
      rw [← hv] at hvb ht ⊢
      have hvb' : v < 281474976710656 := hvb
      have HT := hid ht
      clear ht hx h hi hd hv hvb
      go_wp2
      exact ⟨⟨i, by omega, rfl, by rw [HT.out]; congr 2; omega⟩, by simp [intOf]⟩
    · obtain rfl : k = 0 := by omega
      go_wp2
      go_ret
      exact ⟨by simp, rfl⟩

theorem refLimb_any (a : Option Addr) (n c : Nat) (xs : List Nat) (w : World) (h : IRd w .u16 a n c xs) (hd : Dg 65536 xs) (i : Nat) :
    Calls Tryd.prog 71 #[.slice a n c, .int .i64 i] w fun e w' => ∃ x : Nat, e = .returned (.int .i64 x) ∧ x < 65536 ∧ Hid (x = xs[i]?.getD 0) ∧ w = w' := by
  have HL := hid h.len
  by_cases hlt : i < n
  · have hi : i < xs.length := by rw [HL.out]; exact hlt
    obtain ⟨b, o, rfl, hci⟩ := h.cel i hi
    have hxb := hd.get i hi
    obtain ⟨x, hx⟩ : ∃ x, x = xs[i] := ⟨_, rfl⟩
    rw [← hx] at hci hxb
    have HX : Hid (x = xs[i]?.getD 0) := hid (by rw [List.getElem?_eq_getElem hi, hx]; rfl)
    clear hx
    have hi2 : (i : Int) < n := by omega
    go_enter Tryd.func71, Tryd.ntmps71
    go_wp2
    go_ret
    exact ⟨x, rfl, hxb, HX, rfl⟩
  · have hi2 : ¬ (i : Int) < n := by omega
    go_enter Tryd.func71, Tryd.ntmps71
    go_wp2
    go_ret
    exact ⟨0, rfl, by omega, hid (by rw [List.getElem?_eq_none (by rw [HL.out]; omega)]; rfl), rfl⟩
end Go.Proofs.YthkgldpcgmnaiaaDoor
