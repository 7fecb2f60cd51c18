/-
  Contract of natural.Read.
-/
import Derived.Test.YtkggoniecmlglaaGreatDoorGroup
import Derived.Test.YtkggoniecmlglaaGreatDoorVal
set_option linter.unusedVariables false
set_option linter.unusedSimpArgs false
namespace Go.Proofs.YtkggoniecmlglaaGreatDoor
open Go.RowKit _root_.Nm

/-- a call returns what reading the numeral l gives -/
def RdPost (w : World) (l : List UInt8) (e : Ending) (w' : World) : Prop :=
  ∃ p n c, e = .returned (.tuple #[.slice p n c, .int .i64 (rdE l : Nat)]) ∧ IsC w' p n c (rdV l) ∧ n ≤ 250 ∧ w.grownBy w' none

theorem rdPost_bad {w w' : World} {l : List UInt8} {k : Nat} (h : rdE l = k) (hk : k ≠ 0) (hg : w.grownBy w' none) : RdPost w l (.returned (.tuple #[.slice none 0 0, .int .i64 (k : Int)])) w' := by
  subst h
  exact ⟨none, 0, 0, rfl, by rw [rdV_bad hk]; exact IsC.nil _, by omega, hg⟩

theorem str_eq {s : ByteArray} {l : List UInt8} (h : s.data.toList = l) : s = ⟨l.toArray⟩ := by subst h; exact (Lib.mk_data s).symm
theorem ne_str {s : ByteArray} (h : s.data.toList ≠ []) : s.toList.isEmpty = false := by
  rw [Lib.toList_data]
  cases e : s.data.toList with
  | nil => exact absurd e h
  | cons c r => rfl

theorem slice_to (s : ByteArray) (k : Nat) (hk : k ≤ s.size) (w : World) :
    (Instr.slice 9 (.string s) none (some (.int .i64 (k : Int))) none).run Tryz.prog w = .ok (.string ⟨(s.data.toList.take k).toArray⟩) w := by
  rw [run_slice_string_to_if w 9 s .i64 (k : Int) (by kernel_rfl), if_pos ⟨by omega, by omega⟩, Int.toNat_natCast, Lib.extract_eq]
  simp
theorem slice_from (s : ByteArray) (k : Nat) (hk : k ≤ s.size) (w : World) :
    (Instr.slice 9 (.string s) (some (.int .i64 (k : Int))) none none).run Tryz.prog w = .ok (.string ⟨(s.data.toList.drop k).toArray⟩) w := by
  rw [run_slice_string_from_if w 9 s .i64 (k : Int) (by kernel_rfl), if_pos ⟨by omega, by omega⟩, Int.toNat_natCast, Lib.extract_eq]
  rw [List.take_of_length_le]
  rw [List.length_drop, Lib.size_eq]; omega

set_option maxHeartbeats 2000000 in
set_option maxRecDepth 100000 in
theorem natRead_any (s : ByteArray) (l : List UInt8) (hl : s.data.toList = l) (hmax : s.size ≤ 9223372036854775807) (w : World) :
    Calls Tryz.prog 23 #[.string s] w (RdPost w l) := by
  have hsz : s.size = l.length := by rw [Lib.size_eq, hl]
  by_cases h0 : l = []
  · have hP : Hid (∀ w', w.grownBy w' none → RdPost w l (.returned (.tuple #[.slice none 0 0, .int .i64 10])) w') := hid fun w' hg => rdPost_bad (k := 10) (by rw [h0]; rfl) (by omega) hg
    have hs := str_eq (hl.trans h0)
    subst hs
    clear hl hmax hsz
    go_enter Tryz.func23, Tryz.ntmps23
    go_wp2_with fail
    go_ret2
    exact hP.out _ (grown_refl _ _)
  have hemp := ne_str (by rw [hl]; exact h0 : s.data.toList ≠ [])
  by_cases h1 : 1000 < l.length
  · have hP : Hid (∀ w', w.grownBy w' none → RdPost w l (.returned (.tuple #[.slice none 0 0, .int .i64 4])) w') := hid fun w' hg => rdPost_bad (k := 4) (rdE_large h1) (by omega) hg
    have h1' : (1000 : Int) < (s.size : Int) := by omega
    clear hl hsz
    go_enter Tryz.func23, Tryz.ntmps23
    go_wp2_with fail
    go_ret2
    exact hP.out _ (grown_refl _ _)
  have h1' : ¬ ((1000 : Int) < (s.size : Int)) := by omega
  have HN := isNum_any s l hl h0 (by omega) w
  by_cases h2 : Numl l
  rotate_left
  · have hP : Hid (∀ w', w.grownBy w' none → RdPost w l (.returned (.tuple #[.slice none 0 0, .int .i64 9])) w') := hid fun w' hg => rdPost_bad (k := 9) (rdE_form h0 (by omega) h2) (by omega) hg
    rw [decide_eq_false h2] at HN
    have HN' := hid HN
    clear hl hsz HN
    go_enter Tryz.func23, Tryz.ntmps23
    go_wp2_with (go_at_call 54; refine (HN'.out).mono ?_; rintro e w' ⟨rfl, rfl⟩)
    go_ret2
    exact hP.out _ (grown_refl _ _)
  rw [decide_eq_true h2] at HN
  have HN' := hid HN
  have hE := rdE_ok h0 (by omega) h2
  have HE := hid hE
  have HD := hid h2.1
  have HL := hid (And.intro hl (show l.length ≤ 1000 by omega))
  clear hl hsz HN hE h2
  go_enter Tryz.func23, Tryz.ntmps23
  go_wp2_with (go_at_call 54; refine (HN'.out).mono ?_; rintro e w' ⟨rfl, rfl⟩)
  clear HN' hemp h1' h1 h0 hmax
  go_loopw [0, 4] (fun x y wr => ∃ (t : ByteArray) (k n c : Nat) (p : Option Addr) (xs : List Nat), x = .string t ∧ y = .slice p n c ∧ k ≤ l.length ∧ n ≤ k ∧ IOwn wr w.heap.size 51 .u64 p n c xs ∧ w.grownBy wr none ∧
      Hid (t.data.toList = l.drop k ∧ Dg W64 xs ∧ V W64 xs = numF 0 (l.take k) ∧ (k ≠ 0 → (l.length - k) % 19 = 0))) (fun x _ _ => match x with | .string t => t.size | _ => 0)
  case atStart => exact ⟨s, 0, 0, 0, none, [], rfl, rfl, Nat.zero_le _, Nat.le_refl _, IOwn.nil _ _ _ _, grown_refl _ _, hid ⟨HL.out.1, Dg.nil, rfl, fun h => absurd rfl h⟩⟩
  case round =>
    obtain ⟨t, k, n, c, p, xs, rfl, rfl, hk, hn, hO, hgw, HI⟩ := hrel
    have hts : t.size = l.length - k := by rw [Lib.size_eq, HI.out.1, List.length_drop]
    by_cases hlt : k < l.length
    · obtain ⟨r, hr⟩ : ∃ r, t.size = r + 1 := ⟨l.length - k - 1, by omega⟩
      obtain ⟨q, hq⟩ : ∃ q, q = r % 19 := ⟨_, rfl⟩
      have hq1 : (r : Int) % 19 = (q : Int) := by omega
      have hq2 : (r : Int).tmod 19 = (q : Int) := by rw [Int.tmod_eq_emod_of_nonneg (by omega)]; omega
      have hr1000 : r ≤ 1000 := by have := HL.out.2; omega
      have hqr : q ≤ r := by rw [hq]; exact Nat.mod_le _ _
      have hq18 : q ≤ 18 := by omega
      have hx1 : t.extract 0 (q + 1) = ⟨(t.data.toList.take (q + 1)).toArray⟩ := by rw [Lib.extract_eq]; simp
      have hx2 : t.extract (q + 1) (r + 1) = ⟨(t.data.toList.drop (q + 1)).toArray⟩ := by rw [Lib.extract_eq, List.take_of_length_le (by rw [List.length_drop, ← Lib.size_eq]; omega)]
      obtain ⟨l1, hl1⟩ : ∃ l1, l1 = t.data.toList.take (q + 1) := ⟨_, rfl⟩
      obtain ⟨l2, hl2⟩ : ∃ l2, l2 = t.data.toList.drop (q + 1) := ⟨_, rfl⟩
      rw [← hl1] at hx1
      rw [← hl2] at hx2
      have hl1n : l1.length = q + 1 := by rw [hl1, List.length_take, ← Lib.size_eq]; omega
      have hd1 : DgS l1 := by rw [hl1, HI.out.1]; exact (HD.out.drop k).take _
      have hl2e : l2 = l.drop (k + (q + 1)) := by rw [hl2, HI.out.1, List.drop_drop]
      have hl2n : l2.length = r - q := by rw [hl2, List.length_drop, ← Lib.size_eq]; omega
      have hpu := fun W => parseU_any ⟨l1.toArray⟩ (by rw [Lib.size_eq]; show l1.length ≠ 0; omega) (by rw [Lib.size_eq]; show l1.length ≤ 19; omega) hd1 W
      have hv1 : numF 0 l1 < 10000000000000000000 := by
        have h3 := numF_lt l1 hd1
        have h4 : 10 ^ l1.length ≤ 10 ^ 19 := Nat.pow_le_pow_right (by omega) (by omega)
        omega
      have hnew : V W64 xs * 10000000000000000000 + numF 0 l1 = numF 0 (l.take (k + (q + 1))) := by
        have e1 : l.take (k + (q + 1)) = l.take k ++ l1 := by rw [hl1, HI.out.1, List.take_add]
        rw [e1, numF_append, numF_eq l1 (numF 0 (l.take k)), ← HI.out.2.2.1, hl1n]
        congr 1
        by_cases hk0 : k = 0
        · have : V W64 xs = 0 := by rw [HI.out.2.2.1, hk0]; rfl
          rw [this, Nat.zero_mul, Nat.zero_mul]
        · have := HI.out.2.2.2 hk0
          have : q = 18 := by omega
          rw [this]
      obtain ⟨v, hv⟩ : ∃ v, v = numF 0 l1 := ⟨_, rfl⟩
      have hpu' : ∀ W, Calls Tryz.prog 55 #[str l1, .int .i64 10, .int .i64 64] W fun e w' => e = .returned (.tuple #[.int .u64 (v : Nat), .nilIface]) ∧ W.grownBy w' none := by rw [hv]; exact hpu
      rw [← hv] at hv1 hnew
      have HPU := hid hpu'
      have hmod : k + (q + 1) ≠ 0 → (l.length - (k + (q + 1))) % 19 = 0 := fun _ => by omega
      have HNEW := hid (And.intro hnew (And.intro hl2e hmod))
      have hkq : k + (q + 1) ≤ l.length := by omega
      have hvw : v < W64 := by unfold W64; omega
      have HDX := hid HI.out.2.1
      have HL1 := HL.out.2
      clear hpu hpu' hv hl1 hl2 hl2e hd1 hnew hmod hq hts HI hl1n hv1 hlt
      have hGR := fun (W : World) (hW : w.grownBy W none) (hO : IOwn W w.heap.size 51 .u64 p n c xs) => appGroup_any w w.heap.size p n c v xs W hO HDX.out (by omega) hvw (Nat.le_refl _) hW.size hW
      have HGR := hid hGR
      clear hGR
      go_wp2_with (first
        | (go_at_call 55; (with_reducible refine (HPU.out _).mono ?_); rintro e w3 ⟨rfl, hg3⟩)
        | (go_at_call 56; (with_reducible refine (HGR.out _ (grown_trans hgw hg3) (hO.kept hg3 (.inl rfl))).mono ?_); rintro e w4 ⟨p', c', ys, rfl, hO4, hg4, HY⟩))
      refine ⟨⟨⟨l2.toArray⟩, k + (q + 1), n + 1, c', p', ys, rfl, rfl, hkq, by omega, hO4, hg4, hid ⟨HNEW.out.2.1, HY.out.1, HY.out.2.trans HNEW.out.1, HNEW.out.2.2⟩⟩, ?_⟩
      show (⟨l2.toArray⟩ : ByteArray).size < t.size
      rw [Lib.size_eq]
      show l2.length < t.size
      omega
    · obtain rfl : k = l.length := by omega
      have hts0 : t.size = 0 := by omega
      have hV := HI.out.2.2.1
      rw [List.take_of_length_le (Nat.le_refl _)] at hV
      have hU := unpack_any p n c xs wr hO.rd HI.out.2.1 (by have := HL.out.2; omega)
      rw [hV] at hU
      have HU := hid hU
      clear hU hV hts HI
      go_wp2_with fail
      refine HU.out.mono ?_
      rintro e w5 ⟨a', c', rfl, h1, h2⟩
      go_wp2_with fail
      go_ret2
      refine ⟨a', _, c', by rw [HE.out]; rfl, ?_, ?_, grown_trans hgw h2⟩
      · rw [rdV_ok HE.out]; exact h1
      · exact dg_length_le (by omega) (num_limbs HD.out HL.out.2)
end Go.Proofs.YtkggoniecmlglaaGreatDoor
