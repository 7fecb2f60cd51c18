/-
  Contract of the reference's word.
-/
import Derived.Test.YtlkajmfpbgipbaaLexF
import Derived.Deep.LoopGhost
set_option linter.unusedVariables false
set_option linter.unusedSimpArgs false
namespace Go.Proofs.Ytlkajmfpbgipbaa
open Go.RowKit _root_.Nm Lx

theorem letter_t {m : Nat} (hm : m < 256) (h : kd m = 3) (w : World) : Calls Try.prog 46 #[.int .u8 (m : Int)] w fun e w' => e = .returned (.bool true) ∧ w = w' :=
  (letter_any m hm w).mono fun _ _ ⟨e, r⟩ => ⟨by rw [e, decide_eq_true h], r⟩
theorem letter_f {m : Nat} (hm : m < 256) (h : kd m ≠ 3) (w : World) : Calls Try.prog 46 #[.int .u8 (m : Int)] w fun e w' => e = .returned (.bool false) ∧ w = w' :=
  (letter_any m hm w).mono fun _ _ ⟨e, r⟩ => ⟨by rw [e, decide_eq_false h], r⟩
theorem digit_t {m : Nat} (hm : m < 256) (h : kd m = 4) (w : World) : Calls Try.prog 47 #[.int .u8 (m : Int)] w fun e w' => e = .returned (.bool true) ∧ w = w' :=
  (digit_any m hm w).mono fun _ _ ⟨e, r⟩ => ⟨by rw [e, decide_eq_true h], r⟩
theorem digit_f {m : Nat} (hm : m < 256) (h : kd m ≠ 4) (w : World) : Calls Try.prog 47 #[.int .u8 (m : Int)] w fun e w' => e = .returned (.bool false) ∧ w = w' :=
  (digit_any m hm w).mono fun _ _ ⟨e, r⟩ => ⟨by rw [e, decide_eq_false h], r⟩

theorem blk01 (w : World) (A B : Obj) : ((w.alloc A).alloc B).heap[w.heap.size + 1]? = some B := by
  have h := blk0 (w.alloc A) B
  rw [show (w.alloc A).heap.size = w.heap.size + 1 by simp] at h
  exact h

/-- the world in the loop of word: the result's box, and the token's -/
structure WdR (w wr : World) (k i q : Nat) : Prop where
  g : w.grownBy wr none
  b0 : wr.heap[w.heap.size]? = some (.cells #[.int .i64 0, .int .i64 0, .int .i64 0, .string ⟨#[]⟩] 31 (0, 0))
  b1 : wr.heap[w.heap.size + 1]? = some (.cells #[.int .i64 (k : Nat), .int .i64 (i : Nat), .int .i64 (q : Nat), .string ⟨#[]⟩] 31 (0, 0))
theorem WdR.step {w wr : World} {k i q : Nat} (h : WdR w wr k i q) (x : Int) (hx : x = ((q + 1 : Nat) : Int)) : WdR w (wr.setCell ⟨w.heap.size + 1, 2, none⟩ (.int .i64 x)) k i (q + 1) := by
  subst hx
  refine ⟨set1_grown h.g _ _ _ (by omega), (heap_setCell_other _ _ _ _ (by simp)).trans h.b0, ?_⟩
  have := heap_setCell_same wr (w.heap.size + 1) 2 _ _ (.int .i64 ((q + 1 : Nat) : Int)) h.b1
  simpa using this

set_option maxHeartbeats 8000000 in
set_option maxRecDepth 100000 in
theorem wordD_any (s : ByteArray) (l : List UInt8) (hl : s.data.toList = l) (hmax : l.length ≤ 9223372036854775000) (i : Nat) (hi : i < l.length) (h4 : kd (l[i]).toNat = 4) (w : World) :
    Calls Try.prog 48 #[.string s, .int .i64 (i : Int)] w (NxP l i (numTk (decide ((l[i]).toNat = 48)) (span [4] (l.drop i))) w) := by
  have hsz : s.size = l.length := by rw [Lib.size_eq, hl]
  have hix := idx_at s l hl i hi
  have HIX := hid (idx_at s l hl)
  have hsp := span_le [4] (l.drop i)
  rw [List.length_drop] at hsp
  have hpos : 0 < span [4] (l.drop i) := by rw [List.drop_eq_getElem_cons hi, span_yes (by simp [h4])]; exact Nat.succ_pos _
  obtain ⟨m, hm⟩ : ∃ m, m = (l[i]).toNat := ⟨_, rfl⟩
  rw [← hm] at hix h4 ⊢
  have HLT := hid fun w => letter_f (m := m) (by rw [hm]; exact u8_lt _) (show kd m ≠ 3 by omega) w
  have HA := hid fun (A B : Obj) => grown_trans (World.grownBy_alloc w A none) (World.grownBy_alloc (w.alloc A) B none)
  have HB0 := hid fun (A B : Obj) => blk1 w A B
  have HB1 := hid fun (A B : Obj) => blk01 w A B
  obtain ⟨n, hn⟩ : ∃ n, n = span [4] (l.drop i) := ⟨_, rfl⟩
  rw [← hn] at hsp hpos ⊢
  have HSL := hid fun q (h : i + n = q) => slice_r s l hl i n (by omega) (q : Int) (by rw [← h])
  have HS := hid hl
  have HN := hid hn
  have hm256 : m < 256 := by rw [hm]; exact u8_lt _
  clear hl hn hm
  go_enter Try.func48, Try.ntmps48
  go_wp2_with (go_at_call 46; (with_reducible refine (HLT.out _).mono ?_); rintro e w' ⟨rfl, rfl⟩)
  clear HLT
  go_loopg [] (l.length - i) (fun g wr => ∃ q : Nat, i ≤ q ∧ q ≤ l.length ∧ g = l.length - q ∧ WdR w wr 2 i q ∧ Hid (q + span [4] (l.drop q) = i + n))
  case atStart => exact ⟨i, Nat.le_refl _, Nat.le_of_lt hi, rfl, ⟨HA.out _ _, HB0.out _ _, HB1.out _ _⟩, hid (by rw [HN.out])⟩
  case round =>
    obtain ⟨q, hiq, hq, hgk, HW, HC⟩ := hrel
    have hG := HW.g.size
    obtain ⟨⟨k0, k1, k2, k3⟩, f0, f1, f2, f3⟩ := box4 HW.b1
    by_cases hlt : q < l.length
    · have hix2 := HIX.out q hlt
      have hd : l.drop q = l[q] :: l.drop (q + 1) := List.drop_eq_getElem_cons hlt
      obtain ⟨c2, hc2⟩ : ∃ c, c = l[q] := ⟨_, rfl⟩
      rw [← hc2] at hix2 hd
      clear hc2
      obtain ⟨m2, hm2⟩ : ∃ m, m = c2.toNat := ⟨_, rfl⟩
      rw [← hm2] at hix2
      have h256 : m2 < 256 := by rw [hm2]; exact u8_lt _
      by_cases hd4 : kd m2 = 4
      · have HD := hid fun w => digit_t (m := m2) h256 hd4 w
        have HS2 : Hid (q + 1 + span [4] (l.drop (q + 1)) = i + n) := hid (by have := HC.out; rw [hd, span_yes (by rw [← hm2]; simp [hd4])] at this; omega)
        clear hd hm2 hd4
        go_wp2_with (go_at_call 47; (with_reducible refine (HD.out _).mono ?_); rintro e w' ⟨rfl, rfl⟩)
        go_roundg (l.length - (q + 1))
        case measure => omega
        case rel => exact ⟨q + 1, by omega, by omega, rfl, HW.step _ (by omega), HS2⟩
      · have HD := hid fun w => digit_f (m := m2) h256 hd4 w
        have HQ : Hid (i + n = q) := hid (by have := HC.out; rw [hd, span_no (by rw [← hm2]; simp [hd4])] at this; omega)
        clear hd hm2 hd4
        have hsl := HSL.out q HQ.out
        by_cases hz : m = 48
        · subst hz
          by_cases h1 : 1 < n
          · have HP := hid fun (w' : World) (hg : w.grownBy w' none) => NxP.bad (l := l) (i := i) (t := numTk (decide (48 = 48)) n) (k := 5) (numTk_zero ⟨by decide, h1⟩) (by omega) hg 2 i q ⟨((l.drop i).take n).toArray⟩
            have hgt : (i : Int) + 1 < (q : Int) := by have := HQ.out; omega
            clear h1 hgk
            obtain ⟨⟨j0, j1, j2, j3⟩, e0, e1, e2, e3⟩ := box4 HW.b0
            go_wp2_with (go_at_call 47; (with_reducible refine (HD.out _).mono ?_); rintro e w' ⟨rfl, rfl⟩)
            exact bodyPost_ret (v := .tuple #[.agg #[.int .i64 2, .int .i64 (i : Int), .int .i64 (q : Int), .string ⟨((l.drop i).take n).toArray⟩], .int .i64 5]) (by simp [results, Try.results48, go_sem, j0, j1, j2, j3, k0, k1, k2, k3]) rfl (HP.out _ (set4_new (set1_grown HW.g _ _ _ (by omega)) _ _ _ _ _ (Nat.le_refl _)))
          · have HP := hid fun (w' : World) (hg : w.grownBy w' none) => NxP.ok (l := l) (i := i) (t := numTk (decide (48 = 48)) n) (numTk_ok (fun h => h1 h.2) (by omega)) hg (a := 2) (b := i) (c := q) (d := ⟨((l.drop i).take n).toArray⟩) (by rw [show q = i + n from HQ.out.symm]; rfl)
            have hgt : ¬ (i : Int) + 1 < (q : Int) := by have := HQ.out; omega
            have hgt2 : ¬ (1000 : Int) < (q : Int) - (i : Int) := by have := HQ.out; omega
            clear h1 hgk
            obtain ⟨⟨j0, j1, j2, j3⟩, e0, e1, e2, e3⟩ := box4 HW.b0
            go_wp2_with (go_at_call 47; (with_reducible refine (HD.out _).mono ?_); rintro e w' ⟨rfl, rfl⟩)
            exact bodyPost_ret (v := .tuple #[.agg #[.int .i64 2, .int .i64 (i : Int), .int .i64 (q : Int), .string ⟨((l.drop i).take n).toArray⟩], .int .i64 0]) (by simp [results, Try.results48, go_sem, j0, j1, j2, j3, k0, k1, k2, k3]) rfl (HP.out _ (set4_new (set1_grown HW.g _ _ _ (by omega)) _ _ _ _ _ (Nat.le_refl _)))
        · have hne : ((m : Int) == 48) = false := by simpa using (by omega : ¬ (m : Int) = 48)
          by_cases h1 : 1000 < n
          · have HP := hid fun (w' : World) (hg : w.grownBy w' none) => NxP.bad (l := l) (i := i) (t := numTk (decide (m = 48)) n) (k := 4) (numTk_big (fun h => hz (of_decide_eq_true h.1)) h1) (by omega) hg 2 i q ⟨((l.drop i).take n).toArray⟩
            have hgt : (1000 : Int) < (q : Int) - (i : Int) := by have := HQ.out; omega
            clear h1 hgk hz
            obtain ⟨⟨j0, j1, j2, j3⟩, e0, e1, e2, e3⟩ := box4 HW.b0
            go_wp2_with (go_at_call 47; (with_reducible refine (HD.out _).mono ?_); rintro e w' ⟨rfl, rfl⟩)
            exact bodyPost_ret (v := .tuple #[.agg #[.int .i64 2, .int .i64 (i : Int), .int .i64 (q : Int), .string ⟨((l.drop i).take n).toArray⟩], .int .i64 4]) (by simp [results, Try.results48, go_sem, j0, j1, j2, j3, k0, k1, k2, k3]) rfl (HP.out _ (set4_new (set1_grown HW.g _ _ _ (by omega)) _ _ _ _ _ (Nat.le_refl _)))
          · have HP := hid fun (w' : World) (hg : w.grownBy w' none) => NxP.ok (l := l) (i := i) (t := numTk (decide (m = 48)) n) (numTk_ok (fun h => hz (of_decide_eq_true h.1)) h1) hg (a := 2) (b := i) (c := q) (d := ⟨((l.drop i).take n).toArray⟩) (by rw [show q = i + n from HQ.out.symm]; rfl)
            have hgt : ¬ (1000 : Int) < (q : Int) - (i : Int) := by have := HQ.out; omega
            clear h1 hgk hz
            obtain ⟨⟨j0, j1, j2, j3⟩, e0, e1, e2, e3⟩ := box4 HW.b0
            go_wp2_with (go_at_call 47; (with_reducible refine (HD.out _).mono ?_); rintro e w' ⟨rfl, rfl⟩)
            exact bodyPost_ret (v := .tuple #[.agg #[.int .i64 2, .int .i64 (i : Int), .int .i64 (q : Int), .string ⟨((l.drop i).take n).toArray⟩], .int .i64 0]) (by simp [results, Try.results48, go_sem, j0, j1, j2, j3, k0, k1, k2, k3]) rfl (HP.out _ (set4_new (set1_grown HW.g _ _ _ (by omega)) _ _ _ _ _ (Nat.le_refl _)))
    · obtain rfl : q = l.length := by omega
      have HQ : Hid (i + n = l.length) := hid (by have := HC.out; rw [List.drop_of_length_le (Nat.le_refl _), span_nil] at this; omega)
      have hsl := HSL.out l.length HQ.out
      by_cases hz : m = 48
      · subst hz
        by_cases h1 : 1 < n
        · have HP := hid fun (w' : World) (hg : w.grownBy w' none) => NxP.bad (l := l) (i := i) (t := numTk (decide (48 = 48)) n) (k := 5) (numTk_zero ⟨by decide, h1⟩) (by omega) hg 2 i l.length ⟨((l.drop i).take n).toArray⟩
          have hgt : (i : Int) + 1 < (l.length : Int) := by have := HQ.out; omega
          clear h1 hgk
          obtain ⟨⟨j0, j1, j2, j3⟩, e0, e1, e2, e3⟩ := box4 HW.b0
          go_wp2_with fail
          exact bodyPost_ret (v := .tuple #[.agg #[.int .i64 2, .int .i64 (i : Int), .int .i64 (l.length : Int), .string ⟨((l.drop i).take n).toArray⟩], .int .i64 5]) (by simp [results, Try.results48, go_sem, j0, j1, j2, j3, k0, k1, k2, k3]) rfl (HP.out _ (set4_new (set1_grown HW.g _ _ _ (by omega)) _ _ _ _ _ (Nat.le_refl _)))
        · have HP := hid fun (w' : World) (hg : w.grownBy w' none) => NxP.ok (l := l) (i := i) (t := numTk (decide (48 = 48)) n) (numTk_ok (fun h => h1 h.2) (by omega)) hg (a := 2) (b := i) (c := l.length) (d := ⟨((l.drop i).take n).toArray⟩) (by rw [show l.length = i + n from HQ.out.symm]; rfl)
          have hgt : ¬ (i : Int) + 1 < (l.length : Int) := by have := HQ.out; omega
          have hgt2 : ¬ (1000 : Int) < (l.length : Int) - (i : Int) := by have := HQ.out; omega
          clear h1 hgk
          obtain ⟨⟨j0, j1, j2, j3⟩, e0, e1, e2, e3⟩ := box4 HW.b0
          go_wp2_with fail
          exact bodyPost_ret (v := .tuple #[.agg #[.int .i64 2, .int .i64 (i : Int), .int .i64 (l.length : Int), .string ⟨((l.drop i).take n).toArray⟩], .int .i64 0]) (by simp [results, Try.results48, go_sem, j0, j1, j2, j3, k0, k1, k2, k3]) rfl (HP.out _ (set4_new (set1_grown HW.g _ _ _ (by omega)) _ _ _ _ _ (Nat.le_refl _)))
      · have hne : ((m : Int) == 48) = false := by simpa using (by omega : ¬ (m : Int) = 48)
        by_cases h1 : 1000 < n
        · have HP := hid fun (w' : World) (hg : w.grownBy w' none) => NxP.bad (l := l) (i := i) (t := numTk (decide (m = 48)) n) (k := 4) (numTk_big (fun h => hz (of_decide_eq_true h.1)) h1) (by omega) hg 2 i l.length ⟨((l.drop i).take n).toArray⟩
          have hgt : (1000 : Int) < (l.length : Int) - (i : Int) := by have := HQ.out; omega
          clear h1 hgk hz
          obtain ⟨⟨j0, j1, j2, j3⟩, e0, e1, e2, e3⟩ := box4 HW.b0
          go_wp2_with fail
          exact bodyPost_ret (v := .tuple #[.agg #[.int .i64 2, .int .i64 (i : Int), .int .i64 (l.length : Int), .string ⟨((l.drop i).take n).toArray⟩], .int .i64 4]) (by simp [results, Try.results48, go_sem, j0, j1, j2, j3, k0, k1, k2, k3]) rfl (HP.out _ (set4_new (set1_grown HW.g _ _ _ (by omega)) _ _ _ _ _ (Nat.le_refl _)))
        · have HP := hid fun (w' : World) (hg : w.grownBy w' none) => NxP.ok (l := l) (i := i) (t := numTk (decide (m = 48)) n) (numTk_ok (fun h => hz (of_decide_eq_true h.1)) h1) hg (a := 2) (b := i) (c := l.length) (d := ⟨((l.drop i).take n).toArray⟩) (by rw [show l.length = i + n from HQ.out.symm]; rfl)
          have hgt : ¬ (1000 : Int) < (l.length : Int) - (i : Int) := by have := HQ.out; omega
          clear h1 hgk hz
          obtain ⟨⟨j0, j1, j2, j3⟩, e0, e1, e2, e3⟩ := box4 HW.b0
          go_wp2_with fail
          exact bodyPost_ret (v := .tuple #[.agg #[.int .i64 2, .int .i64 (i : Int), .int .i64 (l.length : Int), .string ⟨((l.drop i).take n).toArray⟩], .int .i64 0]) (by simp [results, Try.results48, go_sem, j0, j1, j2, j3, k0, k1, k2, k3]) rfl (HP.out _ (set4_new (set1_grown HW.g _ _ _ (by omega)) _ _ _ _ _ (Nat.le_refl _)))

set_option maxHeartbeats 8000000 in
set_option maxRecDepth 100000 in
theorem wordL_any (s : ByteArray) (l : List UInt8) (hl : s.data.toList = l) (hmax : l.length ≤ 9223372036854775000) (i : Nat) (hi : i < l.length) (h3 : kd (l[i]).toNat = 3) (w : World) :
    Calls Try.prog 48 #[.string s, .int .i64 (i : Int)] w (NxP l i (nameTk (span [3, 4] (l.drop i))) w) := by
  have hsz : s.size = l.length := by rw [Lib.size_eq, hl]
  have hix := idx_at s l hl i hi
  have HIX := hid (idx_at s l hl)
  have hsp := span_le [3, 4] (l.drop i)
  rw [List.length_drop] at hsp
  have hpos : 0 < span [3, 4] (l.drop i) := by rw [List.drop_eq_getElem_cons hi, span_yes (by simp [h3])]; exact Nat.succ_pos _
  obtain ⟨m, hm⟩ : ∃ m, m = (l[i]).toNat := ⟨_, rfl⟩
  rw [← hm] at hix h3
  have HLT := hid fun w => letter_t (m := m) (by rw [hm]; exact u8_lt _) h3 w
  have HA := hid fun (A B : Obj) => grown_trans (World.grownBy_alloc w A none) (World.grownBy_alloc (w.alloc A) B none)
  have HB0 := hid fun (A B : Obj) => blk1 w A B
  have HB1 := hid fun (A B : Obj) => blk01 w A B
  obtain ⟨n, hn⟩ : ∃ n, n = span [3, 4] (l.drop i) := ⟨_, rfl⟩
  rw [← hn] at hsp hpos ⊢
  have HSL := hid fun q (h : i + n = q) => slice_r s l hl i n (by omega) (q : Int) (by rw [← h])
  have HS := hid hl
  have HN := hid hn
  have hm256 : m < 256 := by rw [hm]; exact u8_lt _
  clear hl hn hm
  go_enter Try.func48, Try.ntmps48
  go_wp2_with (go_at_call 46; (with_reducible refine (HLT.out _).mono ?_); rintro e w' ⟨rfl, rfl⟩)
  clear HLT
  go_loopg [] (l.length - i) (fun g wr => ∃ q : Nat, i ≤ q ∧ q ≤ l.length ∧ g = l.length - q ∧ WdR w wr 1 i q ∧ Hid (q + span [3, 4] (l.drop q) = i + n))
  case atStart => exact ⟨i, Nat.le_refl _, Nat.le_of_lt hi, rfl, ⟨HA.out _ _, HB0.out _ _, HB1.out _ _⟩, hid (by rw [HN.out])⟩
  case round =>
    obtain ⟨q, hiq, hq, hgk, HW, HC⟩ := hrel
    have hG := HW.g.size
    obtain ⟨⟨k0, k1, k2, k3⟩, f0, f1, f2, f3⟩ := box4 HW.b1
    by_cases hlt : q < l.length
    · have hix2 := HIX.out q hlt
      have hd : l.drop q = l[q] :: l.drop (q + 1) := List.drop_eq_getElem_cons hlt
      obtain ⟨c2, hc2⟩ : ∃ c, c = l[q] := ⟨_, rfl⟩
      rw [← hc2] at hix2 hd
      clear hc2
      obtain ⟨m2, hm2⟩ : ∃ m, m = c2.toNat := ⟨_, rfl⟩
      rw [← hm2] at hix2
      have h256 : m2 < 256 := by rw [hm2]; exact u8_lt _
      by_cases hd4 : kd m2 = 4
      · have HD := hid fun w => digit_t (m := m2) h256 hd4 w
        have HS2 : Hid (q + 1 + span [3, 4] (l.drop (q + 1)) = i + n) := hid (by have := HC.out; rw [hd, span_yes (by rw [← hm2]; simp [hd4])] at this; omega)
        clear hd hm2 hd4
        go_wp2_with (go_at_call 47; (with_reducible refine (HD.out _).mono ?_); rintro e w' ⟨rfl, rfl⟩)
        go_roundg (l.length - (q + 1))
        case measure => omega
        case rel => exact ⟨q + 1, by omega, by omega, rfl, HW.step _ (by omega), HS2⟩
      by_cases hd3 : kd m2 = 3
      · have HD := hid fun w => digit_f (m := m2) h256 hd4 w
        have HL := hid fun w => letter_t (m := m2) h256 hd3 w
        have HS2 : Hid (q + 1 + span [3, 4] (l.drop (q + 1)) = i + n) := hid (by have := HC.out; rw [hd, span_yes (by rw [← hm2]; simp [hd3])] at this; omega)
        clear hd hm2 hd4 hd3
        go_wp2_with (first | (go_at_call 47; (with_reducible refine (HD.out _).mono ?_); rintro e w' ⟨rfl, rfl⟩) | (go_at_call 46; (with_reducible refine (HL.out _).mono ?_); rintro e w' ⟨rfl, rfl⟩))
        go_roundg (l.length - (q + 1))
        case measure => omega
        case rel => exact ⟨q + 1, by omega, by omega, rfl, HW.step _ (by omega), HS2⟩
      · have HD := hid fun w => digit_f (m := m2) h256 hd4 w
        have HL := hid fun w => letter_f (m := m2) h256 hd3 w
        have HQ : Hid (i + n = q) := hid (by have := HC.out; rw [hd, span_no (by rw [← hm2]; simp [hd3, hd4])] at this; omega)
        clear hd hm2 hd4 hd3
        have hsl := HSL.out q HQ.out
        by_cases h20 : 20 < n
        · have HP := hid fun (w' : World) (hg : w.grownBy w' none) => NxP.bad (l := l) (i := i) (t := nameTk n) (k := 4) (if_pos h20) (by omega) hg 1 i q ⟨((l.drop i).take n).toArray⟩
          have hgt : (20 : Int) < (q : Int) - (i : Int) := by have := HQ.out; omega
          clear h20 hgk
          obtain ⟨⟨j0, j1, j2, j3⟩, e0, e1, e2, e3⟩ := box4 HW.b0
          go_wp2_with (first | (go_at_call 47; (with_reducible refine (HD.out _).mono ?_); rintro e w' ⟨rfl, rfl⟩) | (go_at_call 46; (with_reducible refine (HL.out _).mono ?_); rintro e w' ⟨rfl, rfl⟩))
          exact bodyPost_ret (v := .tuple #[.agg #[.int .i64 1, .int .i64 (i : Int), .int .i64 (q : Int), .string ⟨((l.drop i).take n).toArray⟩], .int .i64 4]) (by simp [results, Try.results48, go_sem, j0, j1, j2, j3, k0, k1, k2, k3]) rfl (HP.out _ (set4_new (set1_grown HW.g _ _ _ (by omega)) _ _ _ _ _ (Nat.le_refl _)))
        · have HP := hid fun (w' : World) (hg : w.grownBy w' none) => NxP.ok (l := l) (i := i) (t := nameTk n) (if_neg h20) hg (a := 1) (b := i) (c := q) (d := ⟨((l.drop i).take n).toArray⟩) (by rw [show q = i + n from HQ.out.symm]; rfl)
          have hgt : ¬ (20 : Int) < (q : Int) - (i : Int) := by have := HQ.out; omega
          clear h20 hgk
          obtain ⟨⟨j0, j1, j2, j3⟩, e0, e1, e2, e3⟩ := box4 HW.b0
          go_wp2_with (first | (go_at_call 47; (with_reducible refine (HD.out _).mono ?_); rintro e w' ⟨rfl, rfl⟩) | (go_at_call 46; (with_reducible refine (HL.out _).mono ?_); rintro e w' ⟨rfl, rfl⟩))
          exact bodyPost_ret (v := .tuple #[.agg #[.int .i64 1, .int .i64 (i : Int), .int .i64 (q : Int), .string ⟨((l.drop i).take n).toArray⟩], .int .i64 0]) (by simp [results, Try.results48, go_sem, j0, j1, j2, j3, k0, k1, k2, k3]) rfl (HP.out _ (set4_new (set1_grown HW.g _ _ _ (by omega)) _ _ _ _ _ (Nat.le_refl _)))
    · obtain rfl : q = l.length := by omega
      have HQ : Hid (i + n = l.length) := hid (by have := HC.out; rw [List.drop_of_length_le (Nat.le_refl _), span_nil] at this; omega)
      have hsl := HSL.out l.length HQ.out
      by_cases h20 : 20 < n
      · have HP := hid fun (w' : World) (hg : w.grownBy w' none) => NxP.bad (l := l) (i := i) (t := nameTk n) (k := 4) (if_pos h20) (by omega) hg 1 i l.length ⟨((l.drop i).take n).toArray⟩
        have hgt : (20 : Int) < (l.length : Int) - (i : Int) := by have := HQ.out; omega
        clear h20 hgk
        obtain ⟨⟨j0, j1, j2, j3⟩, e0, e1, e2, e3⟩ := box4 HW.b0
        go_wp2_with fail
        exact bodyPost_ret (v := .tuple #[.agg #[.int .i64 1, .int .i64 (i : Int), .int .i64 (l.length : Int), .string ⟨((l.drop i).take n).toArray⟩], .int .i64 4]) (by simp [results, Try.results48, go_sem, j0, j1, j2, j3, k0, k1, k2, k3]) rfl (HP.out _ (set4_new (set1_grown HW.g _ _ _ (by omega)) _ _ _ _ _ (Nat.le_refl _)))
      · have HP := hid fun (w' : World) (hg : w.grownBy w' none) => NxP.ok (l := l) (i := i) (t := nameTk n) (if_neg h20) hg (a := 1) (b := i) (c := l.length) (d := ⟨((l.drop i).take n).toArray⟩) (by rw [show l.length = i + n from HQ.out.symm]; rfl)
        have hgt : ¬ (20 : Int) < (l.length : Int) - (i : Int) := by have := HQ.out; omega
        clear h20 hgk
        obtain ⟨⟨j0, j1, j2, j3⟩, e0, e1, e2, e3⟩ := box4 HW.b0
        go_wp2_with fail
        exact bodyPost_ret (v := .tuple #[.agg #[.int .i64 1, .int .i64 (i : Int), .int .i64 (l.length : Int), .string ⟨((l.drop i).take n).toArray⟩], .int .i64 0]) (by simp [results, Try.results48, go_sem, j0, j1, j2, j3, k0, k1, k2, k3]) rfl (HP.out _ (set4_new (set1_grown HW.g _ _ _ (by omega)) _ _ _ _ _ (Nat.le_refl _)))
end Go.Proofs.Ytlkajmfpbgipbaa
