/-
  Contracts of integer.Add, Sub and magnitude.
-/
import Derived.Test.YthkgldpcgmnaiaaDoorIntSum
import Derived.Deep.RegionWith
set_option linter.unusedVariables false
set_option linter.unusedSimpArgs false
namespace Go.Proofs.YthkgldpcgmnaiaaDoor
open Go.RowKit Nm

theorem sg_z {w : World} {g : Bool} {p : Option Addr} {n c : Nat} {Z : Int} (h : IsZ w g p n c Z) : sg g Z.natAbs = Z := h.2.symm
theorem sg_not (g : Bool) (N : Nat) : sg (!g) N = -(sg g N) := by cases g <;> simp [sg]



theorem bits_len {N b : Nat} (h : IsBits N b) : (b + 15) / 16 = (dg 65536 N).length := by
  have hp : ∀ m, 0 < 65536 ^ m := fun m => Nat.pow_pos (by omega)
  rcases h with ⟨rfl, rfl⟩ | ⟨h1, h2, h3⟩
  · rfl
  · have e : ∀ k, (65536 : Nat) ^ k = 2 ^ (16 * k) := fun k => by rw [show (65536 : Nat) = 2 ^ 16 from rfl, ← Nat.pow_mul]
    have hN : 0 < N := Nat.lt_of_lt_of_le (Nat.pow_pos (by omega)) h2
    have hne : dg 65536 N ≠ [] := fun h => by have := V_dg (B := 65536) (by omega) N; rw [h] at this; simp at this; omega
    have l1 := (Can_dg (B := 65536) (by omega) N).low (by omega) hne
    have l2 := (Can_dg (B := 65536) (by omega) N).1.lt
    rw [V_dg (by omega), e] at l1 l2
    have hl : (dg 65536 N).length ≠ 0 := by simpa using hne
    generalize (dg 65536 N).length = L at *
    have k1 : 2 ^ (16 * (L - 1)) < 2 ^ b := by omega
    have k2 : 2 ^ (b - 1) < 2 ^ (16 * L) := by omega
    have := (Nat.pow_lt_pow_iff_right (by omega : 1 < 2)).1 k1
    have := (Nat.pow_lt_pow_iff_right (by omega : 1 < 2)).1 k2
    omega

set_option maxHeartbeats 1000000 in
theorem magnitude_any {w : World} {p : Option Addr} {n c : Nat} {g : Bool} {N : Nat} (hA : IsN w p n c N) (hn : n ≤ 400000) :
    Calls Tryd.prog 60 #[.agg #[.bool g, .slice p n c]] w fun e w' => ∃ p' n' c', e = .returned (.slice p' n' c') ∧ IsC w' p' n' c' N ∧ n' ≤ n ∧ w.grownBy w' none := by
  have hg1 := World.grownBy_alloc w (.cells #[.bool g, .slice p n c] 25) none
  have HB := hid (natBits_n (hA.keep hg1) (by omega))
  obtain ⟨xs, hr, hx, hV⟩ := hA
  have HV := hid hV
  have hx1 := hr.keep hg1
  have hcap := hr.cap
  have hmax := hr.max
  clear hV
  have hlen : (dg 65536 N).length ≤ n := dg_length_le (by omega) (by rw [← HV.out, ← hr.len]; exact hx.lt)
  have HLEN := hid hlen
  clear hlen
  go_enter Tryd.func60, Tryd.ntmps60
  go_wp2_with fail
  refine HB.out.mono ?_
  rintro e w' ⟨b, hb, rfl, HI, rfl⟩
  have hq : (b + 15) / 16 ≤ n := by rw [bits_len HI.out]; exact HLEN.out
  have hqi : ((b : Int) + 16 - 1) / 16 = (((b + 15) / 16 : Nat) : Int) := by omega
  have HQI := hid hqi
  have HQL := hid (bits_len HI.out)
  clear hqi
  obtain ⟨L, hL⟩ : ∃ L, L = (b + 15) / 16 := ⟨_, rfl⟩
  rw [← hL] at HQI HQL hq
  have HL := hid hL
  clear hL
  go_wp2_with (first
    | (at_make; refine wl_make _ rfl _ _ 23 rfl 47 .u16 2 Tryd.underlying23 (by kernel_rfl) _ _ _ _ rfl rfl L HQI.out HQI.out (by omega) (by omega) ?_; intro w1 hr1' hg2; have hc2 := gcell hg2; have hr1 : IRow w1 (w.heap.size + 1) 47 .u16 (List.replicate L 0) := (by simpa using hr1'); clear hr1')
    | (with_reducible refine wl_copy _ rfl (.tmp 13) (.tmp 15) 23 23 rfl 47 Tryd.underlying23 (by kernel_rfl) .u16 _ _ _ _ _ _ rfl rfl (w.heap.size + 1) 0 47 _ xs hr1 (fun _ => rfl) (hx1.keep hg2) (by simp) ?_; intro w2 hr2 hg3))
  go_ret
  have hxl := hr.len
  have e : splice (List.replicate L 0) 0 (xs.take L) = dg 65536 N := by
    have h1 : xs.take L = dg 65536 N := by
      rw [HQL.out, ← HV.out, ← trimR_dg (by omega) hx]
      exact (trimR_eq_take xs).symm
    rw [h1]
    have h2 := HQL.out
    simp [splice, h2]
  rw [e] at hr2
  have hrd := hr2.rd0 (by rw [← HQL.out]; omega)
  rw [← HQL.out] at hrd
  exact ⟨_, L, L, rfl, hrd, by omega, grown_new (grown_trans hg1 hg2) hg3 (fun g e => by cases e; omega)⟩


end Go.Proofs.YthkgldpcgmnaiaaDoor
