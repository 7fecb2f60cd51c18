/-
  Contracts of lineEnd, skip and the reference's skip; strings.IndexByte, strings.HasPrefix.
-/
import Derived.Test.YtlkajmfpbgipbaaLexA
import Derived.Lib.Bytealg
import Derived.Lib.Walk
import Derived.Laws.Strings3
import Derived.BigCall
import Derived.WalkSpells
set_option linter.unusedVariables false
set_option linter.unusedSimpArgs false
namespace Go.Proofs.Ytlkajmfpbgipbaa
open Go.RowKit _root_.Nm Lx

set_option maxHeartbeats 1000000 in
theorem idxLite_any (s : ByteArray) (w : World) : Calls Try.prog 84 #[.string s, .int .u8 10] w fun e w' => e = .returned (.int .i64 (Lib.indexByte s.data.toList 10)) ∧ w = w' := by
  go_enter Try.func84, Try.ntmps84
  go_wp2_with fail
  rw [run_callFunc_extern Try.func86 (by kernel_rfl) (by kernel_rfl) (by kernel_rfl) (e := Extern.BytealgIndexByte.indexByte) (by kernel_rfl), Lib.run_indexByteString]
  simp only [Result.andThen]
  rw [Oper.upon_value]
  go_wp2_with fail
  go_ret
  exact ⟨rfl, rfl⟩
set_option maxHeartbeats 1000000 in
theorem idxByte_any (s : ByteArray) (w : World) : Calls Try.prog 79 #[.string s, .int .u8 10] w fun e w' => e = .returned (.int .i64 (Lib.indexByte s.data.toList 10)) ∧ w = w' := by
  have H := hid (idxLite_any s w)
  go_enter Try.func79, Try.ntmps79
  go_wp2_with (go_at_call 84; refine (H.out).mono ?_; rintro e w' ⟨rfl, rfl⟩)
  go_ret
  exact ⟨rfl, rfl⟩

theorem idx_nl : ∀ r : List UInt8, (Lib.indexByte r 10 = -1 ∧ nl r = r.length) ∨ (Lib.indexByte r 10 = (nl r : Nat))
  | [] => .inl ⟨rfl, rfl⟩
  | c :: r => by
    have ih := idx_nl r
    by_cases h : c.toNat = 10
    · have hc : c = 10 := UInt8.toNat_inj.1 h
      right
      have e1 : nl (c :: r) = 0 := if_pos h
      have e2 : Lib.indexByte (c :: r) 10 = 0 := by subst hc; rfl
      rw [e1, e2]; rfl
    · have hc : (c == 10) = false := by
        cases e : c == 10 with
        | false => rfl
        | true => exact absurd (by rw [eq_of_beq e]; rfl) h
      have e1 : nl (c :: r) = nl r + 1 := if_neg h
      have e2 : Lib.indexByte (c :: r) 10 = if Lib.indexByte r 10 == -1 then -1 else Lib.indexByte r 10 + 1 := by
        show (if c == 10 then _ else _) = _
        rw [hc]; rfl
      rcases ih with ⟨i1, i2⟩ | i1
      · left; rw [e1, e2, i1, i2]; exact ⟨rfl, rfl⟩
      · right
        rw [e1, e2, i1]
        have : (((nl r : Nat) : Int) == -1) = false := by
          cases e : (((nl r : Nat) : Int) == -1) with
          | false => rfl
          | true => have := eq_of_beq e; omega
        rw [this]; simp

theorem slice_f (s : ByteArray) (l : List UInt8) (hl : s.data.toList = l) (k : Nat) (hk : k ≤ l.length) (w : World) :
    (Instr.slice 9 (.string s) (some (.int .i64 (k : Int))) none none).run Try.prog w = .ok (.string ⟨(l.drop k).toArray⟩) w := by
  subst hl
  have hk' : k ≤ s.size := by rw [Lib.size_eq]; exact hk
  rw [run_slice_string_from_if w 9 s .i64 (k : Int) (by kernel_rfl), if_pos ⟨by omega, by omega⟩, Int.toNat_natCast, Lib.extract_eq]
  rw [List.take_of_length_le]
  rw [List.length_drop, Lib.size_eq]; omega

set_option maxHeartbeats 2000000 in
theorem lineEnd_any (s : ByteArray) (l : List UInt8) (hl : s.data.toList = l) (hmax : l.length ≤ 9223372036854775807) (i : Nat) (hi : i ≤ l.length) (w : World) :
    Calls Try.prog 64 #[.string s, .int .i64 (i : Int)] w fun e w' => e = .returned (.int .i64 ((i + nl (l.drop i) : Nat) : Int)) ∧ w = w' := by
  have hsz : s.size = l.length := by rw [Lib.size_eq, hl]
  have hsl := slice_f s l hl i hi
  have hx := idx_nl (l.drop i)
  have hnl := nl_le (l.drop i)
  rw [List.length_drop] at hnl hx
  have HB := hid (fun w => idxByte_any ⟨(l.drop i).toArray⟩ w)
  obtain ⟨T, hT⟩ : ∃ T, i + nl (l.drop i) = T := ⟨_, rfl⟩
  rw [hT]
  rcases hx with ⟨h1, h2⟩ | h1
  · have HX := hid h1
    have HT : Hid (l.length = T) := hid (by omega)
    clear hl h1 hT h2 hnl
    go_enter Try.func64, Try.ntmps64
    go_wp2_with (go_at_call 79; refine (HB.out _).mono ?_; rintro e w' ⟨rfl, rfl⟩; rw [show Lib.indexByte (⟨(l.drop i).toArray⟩ : ByteArray).data.toList 10 = -1 from HX.out])
    go_ret
    exact ⟨ret_i HT.out, rfl⟩
  · obtain ⟨d, hd⟩ : ∃ d, d = nl (l.drop i) := ⟨_, rfl⟩
    rw [← hd] at h1 hT hnl
    have HX := hid h1
    have HT : Hid (i + d = T) := hid hT
    clear hl h1 hT hd
    go_enter Try.func64, Try.ntmps64
    go_wp2_with (go_at_call 79; refine (HB.out _).mono ?_; rintro e w' ⟨rfl, rfl⟩; rw [show Lib.indexByte (⟨(l.drop i).toArray⟩ : ByteArray).data.toList 10 = (d : Nat) from HX.out])
    go_ret
    exact ⟨by rw [← HT.out]; rfl, rfl⟩

theorem one_k (w : World) (T : TypeId) (k : Nat) : IRd (w.alloc (.cells #[.int .i64 (k : Int)] T)) .i64 (some ⟨w.heap.size, 0, none⟩) 1 1 [k] := by
  have := (IRow.made w T .i64 [k]).rd0 (by simp)
  simpa using this

set_option maxHeartbeats 2000000 in
set_option maxRecDepth 100000 in
theorem skip_any (s : ByteArray) (l : List UInt8) (hl : s.data.toList = l) (hmax : l.length ≤ 9223372036854775807) (i : Nat) (hi : i ≤ l.length) (w : World) :
    Calls Try.prog 41 #[.string s, .int .i64 (i : Int)] w fun e w' => e = .returned (.int .i64 ((i + sk false (l.drop i) : Nat) : Int)) ∧ w.grownBy w' none := by
  have hsz : s.size = l.length := by rw [Lib.size_eq, hl]
  have HIX := hid (idx_at s l hl)
  have HL := hid hl
  obtain ⟨T, hT⟩ : ∃ T, i + sk false (l.drop i) = T := ⟨_, rfl⟩
  rw [hT]
  have HT := hid hT
  clear hl hT
  go_enter Try.func41, Try.ntmps41
  go_wp2_with fail
  go_loopw [1] (fun x wr => ∃ k : Nat, k ≤ l.length ∧ x = .int .i64 k ∧ w.grownBy wr none ∧ Hid (k + sk false (l.drop k) = T)) (fun x _ => l.length - (intOf x).toNat)
  case atStart => exact ⟨i, hi, rfl, grown_refl _ _, HT⟩
  case round =>
    obtain ⟨k, hk, rfl, hg, HC⟩ := hrel
    obtain ⟨j, hj⟩ : ∃ j, j = k + span [1] (l.drop k) := ⟨_, rfl⟩
    have hsp := span_le [1] (l.drop k)
    rw [List.length_drop] at hsp
    have hjl : j ≤ l.length := by omega
    have hkj : k ≤ j := by omega
    have hC2 : j + sk false (l.drop j) = T := by
      have h1 := HC.out
      rw [sk_span (l.drop k), List.drop_drop] at h1
      rw [hj]; omega
    have HRN := hid fun w' (h : IRd w' .i64 (some ⟨wr.heap.size, 0, none⟩) 1 1 [1]) => hj ▸ run_any s l HL.out hmax k hk _ _ _ [1] w' h
    have HJ := hid hj
    have H1 := hid (one_k wr 3 1)
    have hgw := grown_trans hg (World.grownBy_alloc wr (.cells #[.int .i64 1] 3) none)
    by_cases hlt : j < l.length
    · have hix := HIX.out j hlt
      have hd : l.drop j = l[j] :: l.drop (j + 1) := List.drop_eq_getElem_cons hlt
      have hst : kd (l[j]).toNat ≠ 1 := by
        have := span_stop [1] (l.drop k) (by rw [List.length_drop]; omega)
        rw [List.getElem_drop] at this
        intro e
        refine this ?_
        simp only [← hj]
        simp [e]
      obtain ⟨ch, hc⟩ : ∃ ch, ch = l[j] := ⟨_, rfl⟩
      rw [← hc] at hix hd hst
      have HKO := hid (kindOf_any ch.toNat (u8_lt ch))
      by_cases hh : kd ch.toNat = 2
      · have hn := sk_nl (l.drop j)
        have hnl := nl_le (l.drop j)
        have hpos : 0 < nl (l.drop j) := by
          rw [hd]
          have : ch.toNat ≠ 10 := by have := (kd_hash _).1 hh; omega
          have e : nl (ch :: l.drop (j + 1)) = nl (l.drop (j + 1)) + 1 := if_neg this
          omega
        rw [List.length_drop] at hnl
        obtain ⟨q, hq⟩ : ∃ q, q = j + nl (l.drop j) := ⟨_, rfl⟩
        have hql : q ≤ l.length := by omega
        have hkq : k < q := by omega
        have hC3 : Hid (q + sk false (l.drop q) = T) := hid (by
          rw [hd, sk_hash' hh, ← hd, hn, List.drop_drop] at hC2
          rw [hq]; omega)
        have HLE := hid fun w' => hq ▸ lineEnd_any s l HL.out hmax j hjl w'
        have hne : ((kd ch.toNat : Nat) : Int) = 2 := by omega
        have HK2 := hid fun w => hh ▸ HKO.out w
        clear hd hst hc hn hnl hpos hq hC2 hh hne HKO HIX hsp hj
        go_wp2_with (first | (go_at_call 50; refine (HRN.out _ H1.out).mono ?_; rintro e w' ⟨rfl, rfl⟩) | (go_at_call 49; refine (HK2.out _).mono ?_; rintro e w' ⟨rfl, rfl⟩) | (go_at_call 64; refine (HLE.out _).mono ?_; rintro e w' ⟨rfl, rfl⟩))
        exact ⟨⟨q, hql, rfl, hgw, hC3⟩, by simp [intOf]; omega⟩
      · have hT' : Hid (j = T) := hid (by rw [hd, sk_none hst hh] at hC2; omega)
        have hne : (((kd ch.toNat : Nat) : Int) == 2) = false := by
          cases e : (((kd ch.toNat : Nat) : Int) == 2) with
          | false => rfl
          | true => have := eq_of_beq e; omega
        obtain ⟨kk, hkk⟩ : ∃ kk, kk = kd ch.toNat := ⟨_, rfl⟩
        rw [← hkk] at HKO hne
        have hne2 : ((kk : Int) != 2) = true := by simp [bne, hne]
        clear hd hst hc hC2 hh HIX hsp hj hkk
        go_wp2_with (first | (go_at_call 50; refine (HRN.out _ H1.out).mono ?_; rintro e w' ⟨rfl, rfl⟩) | (go_at_call 49; refine (HKO.out _).mono ?_; rintro e w' ⟨rfl, rfl⟩))
        go_ret
        exact ⟨ret_i hT'.out, hgw⟩
    · obtain rfl : j = l.length := by omega
      have hT' : Hid (l.length = T) := hid (by rw [List.drop_of_length_le (Nat.le_refl _), sk_nil] at hC2; omega)
      clear hC2 hj HIX hsp
      go_wp2_with (first | (go_at_call 50; refine (HRN.out _ H1.out).mono ?_; rintro e w' ⟨rfl, rfl⟩))
      go_ret
      exact ⟨ret_i hT'.out, hgw⟩
end Go.Proofs.Ytlkajmfpbgipbaa
