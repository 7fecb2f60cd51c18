/-
  Contract of the reference's IsName.
-/
import Derived.Test.YtlkajmfpbgipbaaLexQ
set_option linter.unusedVariables false
set_option linter.unusedSimpArgs false
namespace Go.Proofs.Ytlkajmfpbgipbaa
open Go.RowKit _root_.Nm Lx

theorem span_all {ks : List Nat} : ∀ {l : List UInt8} (k : Nat), k ≤ span ks l → k = l.length → span ks l = l.length := fun {l} k h1 h2 => by have := span_le ks l; omega
theorem span_at {ks : List Nat} : ∀ {l : List UInt8} (i : Nat) (hi : i < l.length), i < span ks l → kd (l[i]).toNat ∈ ks
  | [], i, hi, h => by simp at hi
  | c :: r, 0, hi, h => by
    by_cases hc : kd c.toNat ∈ ks
    · exact hc
    · rw [span_no hc] at h; omega
  | c :: r, i + 1, hi, h => by
    by_cases hc : kd c.toNat ∈ ks
    · rw [span_yes hc] at h
      exact span_at i (by simpa using hi) (by omega)
    · rw [span_no hc] at h; omega
theorem lt_span {ks : List Nat} : ∀ {l : List UInt8} (i : Nat) (hi : i < l.length), i ≤ span ks l → kd (l[i]).toNat ∈ ks → i + 1 ≤ span ks l
  | [], i, hi, h, _ => by simp at hi
  | c :: r, 0, hi, h, hc => by
    rw [span_yes (show kd c.toNat ∈ ks from hc)]; omega
  | c :: r, i + 1, hi, h, hk => by
    by_cases hc : kd c.toNat ∈ ks
    · rw [span_yes hc] at h ⊢
      have := lt_span i (by simpa using hi) (by omega) hk
      omega
    · rw [span_no hc] at h; omega
theorem ascii_of {m : Nat} (h : kd m = 3 ∨ kd m = 4) : m < 128 := by
  rcases h with h | h
  · have := (kd_letter m).1 h; omega
  · have := (kd_digit m).1 h; omega
theorem not_name {l : List UInt8} (i : Nat) (hi : i < l.length) (h : kd (l[i]).toNat ≠ 3) (h' : kd (l[i]).toNat ≠ 4) : isNm l = false := by
  apply isNm_f
  cases l with
  | nil => rfl
  | cons c r =>
    rw [shp_cons]
    have : span [3, 4] (c :: r) ≠ (c :: r).length := fun e => by
      have := span_at (ks := [3, 4]) i hi (by omega)
      simp at this
      omega
    rw [decide_eq_false this]
    simp

set_option maxHeartbeats 4000000 in
set_option maxRecDepth 100000 in
theorem rIsName_any (s : ByteArray) (l : List UInt8) (hl : s.data.toList = l) (w : World) :
    Calls Try.prog 18 #[.string s] w fun e w' => e = .returned (.bool (isNm l)) ∧ w.grownBy w' none := by
  have hsz : s.size = l.length := by rw [Lib.size_eq, hl]
  cases l with
  | nil =>
    obtain rfl : s = ⟨#[]⟩ := by rw [← Lib.mk_data s, hl]
    have HV : Hid (isNm [] = false) := hid rfl
    clear hl hsz
    go_enter Try.func18, Try.ntmps18
    go_wp2_with fail
    go_ret
    exact ⟨ret_b HV.out.symm, grown_refl _ _⟩
  | cons c r =>
    have hemp := ne_empty hl
    have hix := idx_at s (c :: r) hl 0 (by simp)
    have hix0 : ∀ w, (Instr.index 9 (.string s) (.int .i64 0)).run Try.prog w = .ok (.int .u8 (c.toNat : Int)) w := hix
    clear hix
    obtain ⟨V, hV⟩ : ∃ V, V = isNm (c :: r) := ⟨_, rfl⟩
    rw [← hV]
    have HV := hid hV
    clear hV
    by_cases h20 : 20 < (c :: r).length
    · have HF : Hid (V = false) := hid (by rw [HV.out]; exact isNm_f (by rw [shp_cons, decide_eq_false (by omega)]; rfl))
      have hb : (20 : Int) < (((c :: r).length : Nat) : Int) := by omega
      generalize (c :: r).length = len at *
      clear hl h20 HV
      go_enter Try.func18, Try.ntmps18
      go_wp2_with fail
      go_ret
      exact ⟨ret_b HF.out.symm, grown_refl _ _⟩
    have hb : ¬ (20 : Int) < (((c :: r).length : Nat) : Int) := by omega
    by_cases h3 : kd c.toNat = 3
    rotate_left
    · have HF : Hid (V = false) := hid (by rw [HV.out]; exact isNm_f (by rw [shp_cons, decide_eq_false h3]; simp))
      have HK := hid fun w => letter_f (m := c.toNat) (u8_lt c) h3 w
      generalize (c :: r).length = len at *
      clear hl h20 HV h3
      go_enter Try.func18, Try.ntmps18
      go_wp2_with (go_at_call 46; (with_reducible refine (HK.out _).mono ?_); rintro e w' ⟨rfl, rfl⟩)
      go_ret
      exact ⟨ret_b HF.out.symm, grown_refl _ _⟩
    have HK := hid fun w => letter_t (m := c.toNat) (u8_lt c) h3 w
    have HLL := hid hl
    have HIX := hid (idx_at s (c :: r) hl)
    have H20 := hid h20
    have H3 := hid h3
    obtain ⟨l, hll⟩ : ∃ l, l = c :: r := ⟨_, rfl⟩
    have HC := hid hll
    rw [← hll] at HV HLL HIX H20 hsz hb
    have HSZ := hid hsz
    clear hl h20 h3 hll
    go_enter Try.func18, Try.ntmps18
    go_wp2_with (go_at_call 46; (with_reducible refine (HK.out _).mono ?_); rintro e w' ⟨rfl, rfl⟩)
    clear hix0 hemp HK hb hsz
    go_loopw [] (fun w' => ∃ pos : Nat, w' = w.iter s pos ∧ pos ≤ l.length ∧ Hid (pos ≤ span [3, 4] l)) (fun w' => s.size - w'.iterPos w.heap.size)
    case atStart => exact ⟨0, rfl, Nat.zero_le _, hid (Nat.zero_le _)⟩
    case round =>
      obtain ⟨pos, rfl, hpl, HP⟩ := hrel
      by_cases hlt : pos < l.length
      · have hps : pos < s.size := by rw [HSZ.out]; exact hlt
        have hix := HIX.out pos hlt
        have hsx : s[pos]'hps = l[pos] := by
          have := HLL.out
          subst this
          rfl
        obtain ⟨m, hm⟩ : ∃ m, m = (l[pos]).toNat := ⟨_, rfl⟩
        rw [← hm] at hix
        have hms : (s[pos]'hps).toNat = m := by rw [hsx, hm]
        have h256 : m < 256 := by rw [hm]; exact u8_lt _
        have HMM := hid hm
        have HMS := hid hms
        clear hm hms hsx
        by_cases hg : kd m = 3 ∨ kd m = 4
        · have hnx : ∀ ty, (Instr.next (.pointer (some ⟨w.heap.size, 0, none⟩)) true ty).run Try.prog (w.iter s pos) = _ := fun ty => run_next_ascii w s pos ty hps (by rw [HMS.out]; exact ascii_of hg)
          have HP2 : Hid (pos + 1 ≤ span [3, 4] l) := hid (lt_span pos hlt HP.out (by rw [← HMM.out]; rcases hg with h | h <;> simp [h]))
          by_cases hg3 : kd m = 3
          · have HL := hid fun w => letter_t (m := m) h256 hg3 w
            clear hg hg3
            go_wp2_with (go_at_call 46; (with_reducible refine (HL.out _).mono ?_); rintro e w' ⟨rfl, rfl⟩)
            go_roundw
            case rel => exact ⟨pos + 1, rfl, by omega, HP2⟩
            case measure => simp; omega
          · have HL := hid fun w => letter_f (m := m) h256 hg3 w
            have HD := hid fun w => digit_t (m := m) h256 (by omega) w
            clear hg hg3
            go_wp2_with (first | (go_at_call 46; (with_reducible refine (HL.out _).mono ?_); rintro e w' ⟨rfl, rfl⟩) | (go_at_call 47; (with_reducible refine (HD.out _).mono ?_); rintro e w' ⟨rfl, rfl⟩))
            go_roundw
            case rel => exact ⟨pos + 1, rfl, by omega, HP2⟩
            case measure => simp; omega
        · have hnx : ∀ ty, (Instr.next (.pointer (some ⟨w.heap.size, 0, none⟩)) true ty).run Try.prog (w.iter s pos) = _ := fun ty => run_next_any w s pos ty hps
          have HF : Hid (V = false) := hid (by rw [HV.out]; exact not_name pos hlt (fun e => hg (.inl (by rw [HMM.out]; exact e))) (fun e => hg (.inr (by rw [HMM.out]; exact e))))
          have HL := hid fun w => letter_f (m := m) h256 (fun e => hg (.inl e)) w
          have HD := hid fun w => digit_f (m := m) h256 (fun e => hg (.inr e)) w
          clear hg
          generalize Utf8.decode s pos = dc at *
          go_wp2_with (first | (go_at_call 46; (with_reducible refine (HL.out _).mono ?_); rintro e w' ⟨rfl, rfl⟩) | (go_at_call 47; (with_reducible refine (HD.out _).mono ?_); rintro e w' ⟨rfl, rfl⟩))
          go_ret
          exact ⟨ret_b HF.out.symm, World.grownBy_alloc _ _ _⟩
      · obtain rfl : pos = l.length := by omega
        have hnx : ∀ ty, (Instr.next (.pointer (some ⟨w.heap.size, 0, none⟩)) true ty).run Try.prog (w.iter s l.length) = _ := fun ty => run_next_end w s l.length ty (by rw [HSZ.out]; omega)
        have HT : Hid (V = !(kws.contains l)) := hid (by
          rw [HV.out]; refine isNm_t ?_
          have hsp := span_all l.length HP.out rfl
          have h1 := H20.out; have h2 := H3.out; have h3 := HC.out
          subst h3
          rw [shp_cons, hsp, decide_eq_true rfl, decide_eq_true h2, decide_eq_true (by omega)]; rfl)
        have HKW := hid rkeywords_any
        have hgi : w.grownBy (w.iter s l.length) none := World.grownBy_alloc _ _ _
        generalize w.iter s l.length = w1 at *
        go_wp2_with (go_at_call 15; (with_reducible refine (HKW.out _).mono ?_); rintro e w2 ⟨b, rfl, hb1, hcl, hg⟩; have HCL := hid hcl; clear hcl)
        have hG := grown_trans hgi hg
        go_loop [38] (fun x => ∃ k : Nat, k ≤ 29 ∧ x = .int .i64 k ∧ Hid (∀ j, j < k → kwAt j ≠ l)) (fun x => 29 - (intOf x).toNat)
        case atStart => exact ⟨0, Nat.zero_le _, rfl, hid fun j hj => by omega⟩
        case round =>
          obtain ⟨k, hk, rfl, HN⟩ := hrel
          by_cases hk29 : k < 29
          · have hcell := HCL.out k hk29
            by_cases he : kwAt k = l
            · have HF : Hid (V = false) := hid (by rw [HT.out, List.contains_eq_mem, decide_eq_true (kw_mem.2 ⟨k, hk29, he⟩)]; rfl)
              have hse : (⟨(kwAt k).toArray⟩ : ByteArray) = s := by rw [he, ← HLL.out]
              rw [hse] at hcell
              clear he hse
              go_wp2_with fail
              go_ret
              exact ⟨ret_b HF.out.symm, hG⟩
            · have HN2 : Hid (∀ j, j < k + 1 → kwAt j ≠ l) := hid fun j hj => by
                by_cases e : j = k
                · subst e; exact he
                · exact HN.out j (by omega)
              obtain ⟨d, hd⟩ : ∃ d, d = (⟨(kwAt k).toArray⟩ : ByteArray) := ⟨_, rfl⟩
              rw [← hd] at hcell
              have hne : (s.toList == d.toList) = false := by
                cases e : s.toList == d.toList with
                | false => rfl
                | true =>
                  have := eq_of_beq e
                  rw [Lib.toList_data, Lib.toList_data, HLL.out, hd] at this
                  exact absurd this.symm he
              clear he hd
              go_wp2_with fail
              exact ⟨⟨k + 1, by omega, rfl, HN2⟩, by simp [intOf]; omega⟩
          · obtain rfl : k = 29 := by omega
            have HF : Hid (V = true) := hid (by
              rw [HT.out, List.contains_eq_mem, decide_eq_false (fun h => by obtain ⟨j, hj, e⟩ := kw_mem.1 h; exact HN.out j hj e)]; rfl)
            go_wp2_with fail
            go_ret
            exact ⟨ret_b HF.out.symm, hG⟩
end Go.Proofs.Ytlkajmfpbgipbaa
