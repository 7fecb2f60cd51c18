/-
  Contract of natural.divideByWord: the words are replaced by their quotient by a word, and the rest is returned.
-/
import Derived.Test.YtdmlcddieadelaaGreatDoorSubP
import Derived.Test.YtdmlcddieadelaaGreatDoorDiv64
set_option linter.unusedVariables false
set_option linter.unusedSimpArgs false
namespace Go.Proofs.YtdmlcddieadelaaGreatDoor
open Go.RowKit Nm

theorem div_down {W x y v Q : Nat} (hx : 0 < x) (hQ : Q = v / x) : (v % x * W + y) / x + W * Q = (y + W * v) / x ∧ (v % x * W + y) % x = (y + W * v) % x := by
  have h := Nat.div_add_mod v x
  have e : y + W * v = x * (W * Q) + (v % x * W + y) := by
    rw [hQ]
    have h2 := congrArg (W * ·) h
    simp only [Nat.mul_add] at h2
    rw [← h2, Nat.mul_left_comm, Nat.mul_comm (v % x) W]; omega
  rw [e]
  exact ⟨by rw [Nat.mul_add_div hx]; omega, by rw [Nat.mul_add_mod]⟩

set_option maxHeartbeats 1000000 in
theorem divW_any (g m c : Nat) (cur : List Nat) (x : Nat) (w : World) (hrow : IRow w g 116 .u64 cur) (hm : m ≤ cur.length) (hmc : m ≤ c) (hc : c ≤ 9223372036854775807) (hlen : cur.length ≤ 900000000) (hcur : Dg W64 cur) (hx0 : 0 < x) (hx : x < W64) :
    Calls Tryz.prog 144 #[.slice (some ⟨g, 0, none⟩) m c, .int .u64 x] w fun e w' => ∃ cur' : List Nat, e = .returned (.int .u64 (V W64 (cur.take m) % x : Nat)) ∧ IRow w' g 116 .u64 cur' ∧ w.grownBy w' (some g) ∧
      Hid (cur'.length = cur.length ∧ Dg W64 cur' ∧ V W64 (cur'.take m) = V W64 (cur.take m) / x ∧ ∀ j, m ≤ j → cur'[j]? = cur[j]?) := by
  go_enter Tryz.func144, Tryz.ntmps144
  go_wp2_with fail
  go_loopw [5, 6] (fun s5 i wr => ∃ (k : Nat) (cu : List Nat), k ≤ m ∧ i = .int .i64 ((k : Int) - 1) ∧ s5 = .int .u64 (V W64 ((cur.take m).drop k) % x : Nat) ∧ IRow wr g 116 .u64 cu ∧ w.grownBy wr (some g) ∧
      Hid (cu.length = cur.length ∧ Dg W64 cu ∧ V W64 ((cu.take m).drop k) = V W64 ((cur.take m).drop k) / x ∧ ∀ j, j < k ∨ m ≤ j → cu[j]? = cur[j]?)) (fun _ i _ => (intOf i + 1).toNat)
  case atStart =>
    have e0 : (cur.take m).drop m = [] := List.drop_of_length_le (by simp; omega)
    refine ⟨m, cur, Nat.le_refl _, rfl, ?_, hrow, grown_refl _ _, hid ⟨rfl, hcur, ?_, fun _ _ => rfl⟩⟩
    · rw [e0]; simp
    · rw [e0]; simp
  case round =>
    obtain ⟨k, cu, hk, rfl, rfl, hr, hgr, HC⟩ := hrel
    by_cases h0 : 0 < k
    · obtain ⟨i, rfl⟩ : ∃ i, k = i + 1 := ⟨k - 1, by omega⟩
      have hil : i < cu.length := by rw [HC.out.1]; omega
      have hcc := hr.cell i hil
      have hfr := hr.free i
      obtain ⟨y, hy⟩ : ∃ y, y = cu[i] := ⟨_, rfl⟩
      rw [← hy] at hcc
      have hyb : y < W64 := by rw [hy]; exact HC.out.2.1.get _ hil
      have hyc : (cur.take m)[i]'(by simp; omega) = y := by
        have := HC.out.2.2.2 i (.inl (by omega))
        rw [List.getElem?_eq_getElem hil, List.getElem?_eq_getElem (by omega)] at this
        simp only [Option.some.injEq] at this
        rw [hy, this]; simp
      have hv := V_drop_succ (B := W64) (cur.take m) i (by simp; omega)
      rw [hyc] at hv
      obtain ⟨v, hv'⟩ : ∃ v, v = V W64 ((cur.take m).drop (i + 1)) := ⟨_, rfl⟩
      rw [← hv'] at hv ⊢
      have hdd := div_down (W := W64) (x := x) (y := y) (v := v) (Q := v / x) hx0 rfl
      obtain ⟨s, hs⟩ : ∃ s, s = v % x := ⟨_, rfl⟩
      have hsx : s < x := by rw [hs]; exact Nat.mod_lt _ hx0
      rw [← hs] at hdd ⊢
      obtain ⟨q, hq⟩ : ∃ q, q = (s * W64 + y) / x := ⟨_, rfl⟩
      obtain ⟨r, hr'⟩ : ∃ r, r = (s * W64 + y) % x := ⟨_, rfl⟩
      have HD := div64_any s y x hsx hx hyb
      rw [← hq, ← hr'] at hdd HD
      have HD' := hid HD
      have HV := hid hv
      have HV' := hid hv'
      have hqb : q < W64 := by rw [hq]; exact Nat.div_lt_of_lt_mul (by
        have := Nat.mul_le_mul_right W64 (show s + 1 ≤ x from hsx)
        rw [Nat.add_mul, Nat.one_mul] at this; omega)
      have HY := hid hy
      have HDD := hid hdd
      clear hy hyc hv hv' hs hq hr' HD hdd
      have hi1 : (0 : Int) ≤ (i : Int) := by omega
      have hi2 : (i : Int) < (m : Int) := by omega
      go_wp2_with (go_at_call 156; (with_reducible refine (HD'.out _).mono ?_); rintro e w' ⟨rfl, nd, rfl⟩)
      refine ⟨⟨i, cu.set i q, by omega, by congr 1, ?_, (IRow.setv (w := wr.drewN nd) hr i _ q rfl), grown_trans (gdN hgr nd) (grown_setCell _ _ _), hid ⟨by simpa using HC.out.1, HC.out.2.1.set _ _ hqb, ?_, fun j hj => ?_⟩⟩, by simp [intOf]⟩
      · rw [HV.out, HDD.out.2]
      · have e1 : ((cu.set i q).take m).drop i = q :: ((cu.take m).drop (i + 1)) := by
          rw [List.take_set, List.drop_eq_getElem_cons (by simp; omega)]
          congr 1
          · simp
          · rw [List.drop_set_of_lt (by omega)]
        rw [e1, V_cons, HC.out.2.2.1, HV.out, ← HDD.out.1, HV'.out]
      · rw [List.getElem?_set_ne (by omega)]
        exact HC.out.2.2.2 j (by omega)
    · obtain rfl : k = 0 := by omega
      go_wp2
      go_ret
      refine ⟨cu, rfl, hr, hgr, hid ⟨HC.out.1, HC.out.2.1, ?_, fun j hj => HC.out.2.2.2 j (.inr hj)⟩⟩
      have := HC.out.2.2.1
      rwa [List.drop_zero, List.drop_zero] at this
end Go.Proofs.YtdmlcddieadelaaGreatDoor
