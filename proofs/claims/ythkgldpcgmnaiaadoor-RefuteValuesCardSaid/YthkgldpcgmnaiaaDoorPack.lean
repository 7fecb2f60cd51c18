/-
  Contracts of natural.Of and natural.pack.
-/
import Derived.Test.YthkgldpcgmnaiaaDoorUnpack
set_option linter.unusedVariables false
set_option linter.unusedSimpArgs false
namespace Go.Proofs.YthkgldpcgmnaiaaDoor
open Go.RowKit Nm

theorem dg1 (x : Nat) (hx : x < W64) : Dg W64 [x] := fun y hy => by rw [List.mem_singleton.1 hy]; exact hx

theorem of_any (x : Nat) (hx : x < W64) (w : World) :
    Calls Tryd.prog 21 #[.int .u64 x] w fun e w' => ∃ a' c', e = .returned (.slice a' (dg 65536 x).length c') ∧ IRd w' .u16 a' (dg 65536 x).length c' (dg 65536 x) ∧ w.grownBy w' none := by
  have hrow : IRow (w.alloc (.cells #[.int .u64 x] 38)) w.heap.size 38 .u64 [x] := IRow.made w _ _ [x]
  have hrd := hrow.rd0 (by simp)
  have hg := World.grownBy_alloc w (.cells #[.int .u64 x] 38) none
  go_enter Tryd.func21, Tryd.ntmps21
  go_wp2_with (go_at_call 39; refine (unpack_any _ _ _ [x] _ hrd (dg1 x hx) (by simp)).mono ?_; rintro e w' ⟨a', c', rfl, h1, h2⟩)
  go_ret
  simp only [V_cons, V_nil, Nat.mul_zero, Nat.add_zero] at h1 ⊢
  exact ⟨a', c', rfl, h1, grown_trans hg h2⟩

set_option maxHeartbeats 1000000 in
theorem pack_any (a : Option Addr) (n c : Nat) (xs : List Nat) (w : World) (h : IRd w .u16 a n c xs) (hd : Dg 65536 xs) (hn : n ≤ 1000000) :
    Calls Tryd.prog 67 #[.slice a n c] w fun e w' => ∃ m ys, e = .returned (.slice (some ⟨w.heap.size, 0, none⟩) m m) ∧ IRow w' w.heap.size 38 .u64 ys ∧ Hid (m = (n + 3) / 4 ∧ ys.length = m ∧ V W64 ys = V 65536 xs ∧ Dg W64 ys) ∧ w.grownBy w' none := by
  have hmax := h.max
  have hcap := h.cap
  have HL := hid h.len
  obtain ⟨g, hg⟩ : ∃ g, g = w.heap.size := ⟨_, rfl⟩
  obtain ⟨m, hm⟩ : ∃ m, m = (n + 3) / 4 := ⟨_, rfl⟩
  have hmi : ((n : Int) + 4 - 1) / 4 = (m : Int) := by omega
  have hmb : m ≤ 250001 := by omega
  have HM := hid hm
  go_enter Tryd.func67, Tryd.ntmps67
  clear hm
  go_wp2_with (first
      | (at_make; refine wl_make _ rfl _ _ 59 rfl 38 .u64 8 Tryd.underlying59 (by kernel_rfl) _ _ _ _ rfl rfl m (by omega) (by omega) (by omega) (by omega) ?_; intro w1 hr1 hg1))
  rw [← hg] at hr1 ⊢
  have HG := hid hg
  clear hg hmi
  go_loopw [14] (fun i wr => ∃ k : Nat, ∃ cur : List Nat, k ≤ m ∧ i = .int .i64 k ∧ IRow wr g 38 .u64 cur ∧ w1.grownBy wr (some g) ∧ Hid (cur.length = m ∧ ∀ j, j < k → cur[j]? = some (V 65536 ((xs.drop (j * 4)).take 4))))
      (fun i _ => m - (intOf i).toNat)
  case atStart => exact ⟨0, _, Nat.zero_le _, rfl, hr1, grown_refl _ _, hid ⟨by simp, fun j hj => by omega⟩⟩
  case round =>
    obtain ⟨k, cur, hk, rfl, hrow, hgr, HC⟩ := hrel
    by_cases hlt : k < m
    · have hkn : k * 4 < n := by have := HM.out; omega
      obtain ⟨b, o, rfl, hb⟩ := h.cel 0 (by rw [HL.out]; omega)
      have hbl := World.block_lt_of_cell? _ _ hb
      clear hb
      have hrd := (h.keep hg1).kept hgr (.inr (by intro p hp e; cases hp; have := HG.out; simp at e hbl; omega))
      obtain ⟨hi, hhi⟩ : ∃ hi, hi = min (k * 4 + 4) n := ⟨_, rfl⟩
      have hhi1 : (k * 4 : Int) ≤ hi := by omega
      have hhi2 : (hi : Int) ≤ n := by omega
      have hhi3 : min ((k : Int) * 4 + 4) (n : Int) = hi := by omega
      have hsub := hrd.cut (k * 4) hi (c - k * 4) (by omega) (by omega) (by omega) (by omega)
      have hcl : k < cur.length := by rw [HC.out.1]; exact hlt
      have hcc := hrow.cell k hcl
      have hfr := hrow.free k
      obtain ⟨y, hy⟩ : ∃ y, y = cur[k] := ⟨_, rfl⟩
      rw [← hy] at hcc
      have HHI := hid hhi
      clear hy hhi
      have hck : ¬ (c = k * 4) := by omega
      have hseg : (xs.drop (k * 4)).take (hi - k * 4) = (xs.drop (k * 4)).take 4 := by
        have := HHI.out
        rcases Nat.le_total (k * 4 + 4) n with h4 | h4
        · rw [Nat.min_eq_left h4] at this
          rw [this]; congr 1; omega
        · rw [Nat.min_eq_right h4] at this
          rw [List.take_of_length_le (by rw [List.length_drop, HL.out]; omega), List.take_of_length_le (by rw [List.length_drop, HL.out]; omega)]
      rw [hseg] at hsub
      have hdz : Dg 65536 ((xs.drop (k * 4)).take 4) := (hd.drop _).take _
      obtain ⟨zs, hzs⟩ : ∃ zs, zs = (xs.drop (k * 4)).take 4 := ⟨_, rfl⟩
      rw [← hzs] at hsub hdz
      have HZ := hid hzs
      clear hseg hzs
      have hw : ∀ W', Hid (W' = wr) → ∀ ln, Hid (ln = hi - k * 4) → Calls Tryd.prog 65 #[.slice (some ⟨b, o + k * 4, none⟩) ln (c - k * 4)] W' fun e w' => ∃ v : Nat, e = .returned (.int .u64 v) ∧ Hid (v = V 65536 zs) ∧ W' = w' := by
        intro W' hW ln hln
        rw [hW.out, hln.out]
        exact (word_any _ _ _ zs _ hsub hdz (by omega)).mono fun e w' ⟨h1, h2⟩ => ⟨_, h1, hid rfl, h2⟩
      have HW := hid hw
      clear hw
      go_wp2_with (go_at_call 65; refine (HW.out _ (hid rfl) _ (by have := HHI.out; show _ = _; omega)).mono ?_; rintro e w' ⟨v, rfl, HV, rfl⟩)
      all_goals
        refine ⟨⟨k + 1, _, by omega, rfl, hrow.setv k _ v rfl, grown_trans hgr (grown_setCell _ _ _), hid ⟨by simpa using HC.out.1, fun j hj => ?_⟩⟩, by simp [intOf]; omega⟩
        by_cases hjk : j = k
        · subst hjk
          rw [List.getElem?_set_self hcl, HV.out, HZ.out]
        · rw [List.getElem?_set_ne (Ne.symm hjk)]
          exact HC.out.2 j (by omega)
    · obtain rfl : k = m := by omega
      go_wp2
      go_ret
      have e : cur = tab k fun i => V 65536 ((xs.drop (i * 4)).take 4) := by
        apply List.ext_getElem (by simp [HC.out.1])
        intro j h1 h2
        have := HC.out.2 j (by rw [HC.out.1] at h1; exact h1)
        rw [List.getElem?_eq_getElem h1] at this
        simp only [Option.some.injEq] at this
        rw [this, tab_get]
      have hv : V W64 cur = V 65536 xs := by
        rw [e, W64_eq]
        exact V_chunks 4 k xs (by have := HM.out; rw [HL.out]; omega)
      have hdg : Dg W64 cur := by
        rw [e]; intro x hx
        obtain ⟨i, _, rfl⟩ := List.mem_map.1 hx
        rw [W64_eq]
        exact V_word ((hd.drop _).take _) 4 (by rw [List.length_take]; omega)
      exact ⟨k, cur, by rw [HG.out]; rfl, by rw [← HG.out]; exact hrow, hid ⟨HM.out, HC.out.1, hv, hdg⟩, grown_new hg1 hgr (fun g' e' => by cases e'; rw [HG.out]; exact Nat.le_refl _)⟩
end Go.Proofs.YthkgldpcgmnaiaaDoor
