/-
  Contracts of number and next.
-/
import Derived.Test.YtlkajmfpbgipbaaLexD
import Derived.Test.YtlkajmfpbgipbaaLexSh
set_option linter.unusedVariables false
set_option linter.unusedSimpArgs false
namespace Go.Proofs.Ytlkajmfpbgipbaa
open Go.RowKit _root_.Nm Lx

theorem numTk_ok {z : Bool} {n : Nat} (h1 : ¬ (z = true ∧ 1 < n)) (h2 : ¬ 1000 < n) : (numTk z n).e = 0 := by
  unfold numTk; dsimp only; rw [if_neg h1, if_neg h2]
theorem numTk_big {z : Bool} {n : Nat} (h1 : ¬ (z = true ∧ 1 < n)) (h2 : 1000 < n) : (numTk z n).e = 4 := by
  unfold numTk; dsimp only; rw [if_neg h1, if_pos h2]
theorem numTk_zero {z : Bool} {n : Nat} (h1 : z = true ∧ 1 < n) : (numTk z n).e = 5 := by
  unfold numTk; dsimp only; rw [if_pos h1]

set_option maxHeartbeats 4000000 in
set_option maxRecDepth 100000 in
theorem number_any (s : ByteArray) (l : List UInt8) (hl : s.data.toList = l) (hmax : l.length ≤ 9223372036854775807) (i : Nat) (hi : i < l.length) (w : World) :
    Calls Try.prog 66 #[.string s, .int .i64 (i : Int)] w (NxP l i (numTk (decide ((l[i]).toNat = 48)) (span [4] (l.drop i))) w) := by
  have hsp := span_le [4] (l.drop i)
  rw [List.length_drop] at hsp
  obtain ⟨n, hn⟩ : ∃ n, n = span [4] (l.drop i) := ⟨_, rfl⟩
  rw [← hn] at hsp ⊢
  obtain ⟨j, hj⟩ : ∃ j, j = i + n := ⟨_, rfl⟩
  have hix := idx_at s l hl i hi
  obtain ⟨m, hm⟩ : ∃ m, m = (l[i]).toNat := ⟨_, rfl⟩
  rw [← hm] at hix ⊢
  have HRN := hid fun W w' (h : IRd w' .i64 (some ⟨W, 0, none⟩) 1 1 [4]) => run_j s l hl hmax i (by omega) (some ⟨W, 0, none⟩) 1 1 [4] j (by omega) w' h
  have HTK := hid fun w' => token_any s l hl 2 i n (by omega) (j : Int) (by rw [hj]) w'
  have hij : i ≤ j := by omega
  have hjl : j ≤ l.length := by omega
  have hG0 : ∀ (A B : Obj), w.grownBy ((w.alloc A).alloc B) none := fun A B => grown_trans (World.grownBy_alloc _ _ _) (World.grownBy_alloc _ _ _)
  have HG0 := hid hG0
  clear hG0
  by_cases h48 : m = 48
  · subst h48
    by_cases h1 : 1 < n
    · have HP := hid fun (w' : World) (hg : w.grownBy w' none) => NxP.bad (l := l) (i := i) (t := numTk (decide (48 = 48)) n) (k := 5) (numTk_zero ⟨by decide, h1⟩) (by omega) hg 0 0 0 ⟨#[]⟩
      have hgt : (1 : Int) < (j : Int) - (i : Int) := by omega
      clear hl hn hj h1 hm
      go_enter Try.func66, Try.ntmps66
      go_wp2_with (go_at_call 50; (with_reducible refine (HRN.out _ _ (kinds1 _ _ _ (by simp))).mono ?_); rintro e w' ⟨rfl, rfl⟩)
      exact bodyPost_ret (v := .tuple #[.agg #[.int .i64 0, .int .i64 0, .int .i64 0, .string ⟨#[]⟩], .int .i64 5]) (by simp [results, Try.results66, go_sem]) rfl (HP.out _ (HG0.out _ _))
    · have HP := hid fun (w' : World) (hg : w.grownBy w' none) => NxP.ok (l := l) (i := i) (t := numTk (decide (48 = 48)) n) (numTk_ok (fun h => h1 h.2) (by omega)) hg (a := 2) (b := i) (c := j) (d := ⟨((l.drop i).take n).toArray⟩) (by rw [hj]; rfl)
      have hgt : ¬ (1 : Int) < (j : Int) - (i : Int) := by omega
      have hgt2 : ¬ (1000 : Int) < (j : Int) - (i : Int) := by omega
      clear hl hn hj h1 hm
      go_enter Try.func66, Try.ntmps66
      go_wp2_with (first | (go_at_call 50; (with_reducible refine (HRN.out _ _ (kinds1 _ _ _ (by simp))).mono ?_); rintro e w' ⟨rfl, rfl⟩) | (go_at_call 43; (with_reducible refine (HTK.out _).mono ?_); rintro e w' ⟨rfl, hg⟩; have bx := keepB (blk1 _ _ _) hg; have hG := grown_trans (HG0.out _ _) hg; obtain ⟨⟨k0, k1, k2, k3⟩, f0, f1, f2, f3⟩ := box4 bx))
      exact bodyPost_ret (v := .tuple #[.agg #[.int .i64 2, .int .i64 (i : Int), .int .i64 (j : Int), .string ⟨((l.drop i).take n).toArray⟩], .int .i64 0]) (by simp [results, Try.results66, go_sem, k0, k1, k2, k3]) rfl (HP.out _ (set4_new hG _ _ _ _ _ (Nat.le_refl _)))
  · have hne : ((m : Int) == 48) = false := by simpa using (by omega : ¬ (m : Int) = 48)
    by_cases h1 : 1000 < n
    · have HP := hid fun (w' : World) (hg : w.grownBy w' none) => NxP.bad (l := l) (i := i) (t := numTk (decide (m = 48)) n) (k := 4) (numTk_big (fun h => h48 (of_decide_eq_true h.1)) h1) (by omega) hg 0 0 0 ⟨#[]⟩
      have hgt : (1000 : Int) < (j : Int) - (i : Int) := by omega
      clear hl hn hj h1 hm h48
      go_enter Try.func66, Try.ntmps66
      go_wp2_with (go_at_call 50; (with_reducible refine (HRN.out _ _ (kinds1 _ _ _ (by simp))).mono ?_); rintro e w' ⟨rfl, rfl⟩)
      exact bodyPost_ret (v := .tuple #[.agg #[.int .i64 0, .int .i64 0, .int .i64 0, .string ⟨#[]⟩], .int .i64 4]) (by simp [results, Try.results66, go_sem]) rfl (HP.out _ (HG0.out _ _))
    · have HP := hid fun (w' : World) (hg : w.grownBy w' none) => NxP.ok (l := l) (i := i) (t := numTk (decide (m = 48)) n) (numTk_ok (fun h => h48 (of_decide_eq_true h.1)) h1) hg (a := 2) (b := i) (c := j) (d := ⟨((l.drop i).take n).toArray⟩) (by rw [hj]; rfl)
      have hgt : ¬ (1000 : Int) < (j : Int) - (i : Int) := by omega
      clear hl hn hj h1 hm h48
      go_enter Try.func66, Try.ntmps66
      go_wp2_with (first | (go_at_call 50; (with_reducible refine (HRN.out _ _ (kinds1 _ _ _ (by simp))).mono ?_); rintro e w' ⟨rfl, rfl⟩) | (go_at_call 43; (with_reducible refine (HTK.out _).mono ?_); rintro e w' ⟨rfl, hg⟩; have bx := keepB (blk1 _ _ _) hg; have hG := grown_trans (HG0.out _ _) hg; obtain ⟨⟨k0, k1, k2, k3⟩, f0, f1, f2, f3⟩ := box4 bx))
      exact bodyPost_ret (v := .tuple #[.agg #[.int .i64 2, .int .i64 (i : Int), .int .i64 (j : Int), .string ⟨((l.drop i).take n).toArray⟩], .int .i64 0]) (by simp [results, Try.results66, go_sem, k0, k1, k2, k3]) rfl (HP.out _ (set4_new hG _ _ _ _ _ (Nat.le_refl _)))

/-- the world of next is the result's box and what its calls make -/
theorem NxP.box {l : List UInt8} {i : Nat} {t : Tk} {w w1 w' : World} {e : Ending} (h : NxP l i t w1 e w') (hg : w.grownBy w1 none) : NxP l i t w e w' :=
  ⟨h.1, grown_trans hg h.2⟩

set_option maxHeartbeats 4000000 in
set_option maxRecDepth 100000 in
theorem next_any (s : ByteArray) (l : List UInt8) (hl : s.data.toList = l) (hmax : l.length ≤ 9223372036854775807) (i : Nat) (hi : i < l.length) (w : World) :
    Calls Try.prog 42 #[.string s, .int .i64 (i : Int)] w (NxP l i (tokAt (l.drop i)) w) := by
  have hsz : s.size = l.length := by rw [Lib.size_eq, hl]
  have hd : l.drop i = l[i] :: l.drop (i + 1) := List.drop_eq_getElem_cons hi
  have hix := idx_at s l hl i hi
  have HNM := hid fun w' => name_any s l hl hmax i (Nat.le_of_lt hi) w'
  have HNB := hid fun w' => number_any s l hl hmax i hi w'
  obtain ⟨c, hc⟩ : ∃ c, c = l[i] := ⟨_, rfl⟩
  rw [← hc] at hix hd HNB
  have HKO := hid fun w => kindOf_any c.toNat (u8_lt c) w
  by_cases h3 : kd c.toNat = 3
  · have HK3 := hid fun w => h3 ▸ HKO.out w
    have hT : tokAt (l.drop i) = nameTk (span [3, 4] (l.drop i)) := by rw [hd, tok_name h3]
    rw [hT]
    have HA := hid (World.grownBy_alloc w (.cells #[.int .i64 0, .int .i64 0, .int .i64 0, .string ⟨#[]⟩] 31) none)
    clear HKO h3 hd hc hT hl
    go_enter Try.func42, Try.ntmps42
    go_wp2_with (first | (go_at_call 49; (with_reducible refine (HK3.out _).mono ?_); rintro e w' ⟨rfl, rfl⟩) | (go_at_call 65; (with_reducible refine (HNM.out _).mono ?_); rintro e w' ⟨⟨a, b, cc, d, rfl, hrow⟩, hg⟩; have bx := keepB (blk0 _ _) hg; have hG := grown_trans HA.out hg; obtain ⟨⟨k0, k1, k2, k3⟩, f0, f1, f2, f3⟩ := box4 bx; have HROW := hid hrow; clear hrow))
    exact bodyPost_ret (v := .tuple #[.agg #[.int .i64 a, .int .i64 b, .int .i64 cc, .string d], .int .i64 ((nameTk (span [3, 4] (l.drop i))).e : Nat)]) (by simp [results, Try.results42, go_sem, k0, k1, k2, k3]) rfl ⟨⟨a, b, cc, d, rfl, HROW.out⟩, set4_new hG _ _ _ _ _ (Nat.le_refl _)⟩
  by_cases h4 : kd c.toNat = 4
  · have HK4 := hid fun w => h4 ▸ HKO.out w
    have hT : tokAt (l.drop i) = numTk (decide (c.toNat = 48)) (span [4] (l.drop i)) := by rw [hd, tok_num h4]
    rw [hT]
    obtain ⟨tk, htk⟩ : ∃ tk, tk = numTk (decide (c.toNat = 48)) (span [4] (l.drop i)) := ⟨_, rfl⟩
    rw [← htk] at HNB ⊢
    have HA := hid (World.grownBy_alloc w (.cells #[.int .i64 0, .int .i64 0, .int .i64 0, .string ⟨#[]⟩] 31) none)
    clear HKO h4 h3 hd hc hT hl htk
    go_enter Try.func42, Try.ntmps42
    go_wp2_with (first | (go_at_call 49; (with_reducible refine (HK4.out _).mono ?_); rintro e w' ⟨rfl, rfl⟩) | (go_at_call 66; (with_reducible refine (HNB.out _).mono ?_); rintro e w' ⟨⟨a, b, cc, d, rfl, hrow⟩, hg⟩; have bx := keepB (blk0 _ _) hg; have hG := grown_trans HA.out hg; obtain ⟨⟨k0, k1, k2, k3⟩, f0, f1, f2, f3⟩ := box4 bx; have HROW := hid hrow; clear hrow))
    exact bodyPost_ret (v := .tuple #[.agg #[.int .i64 a, .int .i64 b, .int .i64 cc, .string d], .int .i64 (tk.e : Nat)]) (by simp [results, Try.results42, go_sem, k0, k1, k2, k3]) rfl ⟨⟨a, b, cc, d, rfl, HROW.out⟩, set4_new hG _ _ _ _ _ (Nat.le_refl _)⟩
  by_cases h5 : kd c.toNat = 5
  · have HK5 := hid fun w => h5 ▸ HKO.out w
    have hT : tokAt (l.drop i) = ⟨3, 1, 0⟩ := by rw [hd, tok_sign h5]
    rw [hT]
    have HTK := hid fun w' => token_any s l hl 3 i 1 (by omega) ((i : Int) + 1) (by omega) w'
    have HA := hid (World.grownBy_alloc w (.cells #[.int .i64 0, .int .i64 0, .int .i64 0, .string ⟨#[]⟩] 31) none)
    have HP := hid fun (w' : World) (hg : w.grownBy w' none) => NxP.ok (l := l) (i := i) (t := ⟨3, 1, 0⟩) rfl hg (a := 3) (b := i) (c := (i : Int) + 1) (d := ⟨((l.drop i).take 1).toArray⟩) rfl
    clear HKO h5 h4 h3 hd hc hT hl
    go_enter Try.func42, Try.ntmps42
    go_wp2_with (first | (go_at_call 49; (with_reducible refine (HK5.out _).mono ?_); rintro e w' ⟨rfl, rfl⟩) | (go_at_call 43; (with_reducible refine (HTK.out _).mono ?_); rintro e w' ⟨rfl, hg⟩; have bx := keepB (blk0 _ _) hg; have hG := grown_trans HA.out hg; obtain ⟨⟨k0, k1, k2, k3⟩, f0, f1, f2, f3⟩ := box4 bx))
    exact bodyPost_ret (v := .tuple #[.agg #[.int .i64 3, .int .i64 (i : Int), .int .i64 ((i : Int) + 1), .string ⟨((l.drop i).take 1).toArray⟩], .int .i64 0]) (by simp [results, Try.results42, go_sem, k0, k1, k2, k3]) rfl (HP.out _ (set4_new hG _ _ _ _ _ (Nat.le_refl _)))
  by_cases h6 : kd c.toNat = 6
  · have HK6 := hid fun w => h6 ▸ HKO.out w
    have hsl := slice_f s l hl i (Nat.le_of_lt hi)
    have HHP := hid fun w => hasPrefix_any ⟨(l.drop i).toArray⟩ ⟨#[58, 61]⟩ w
    have hc58 : c = 58 := UInt8.toNat_inj.1 ((kd_colon _).1 h6)
    have HA := hid (World.grownBy_alloc w (.cells #[.int .i64 0, .int .i64 0, .int .i64 0, .string ⟨#[]⟩] 31) none)
    by_cases he : (l.drop (i + 1)).head? = some 61
    · have hlen : i + 1 < l.length := by
        rcases Nat.lt_or_ge (i + 1) l.length with h | h
        · exact h
        · rw [List.drop_of_length_le h] at he; cases he
      have hT : tokAt (l.drop i) = ⟨3, 2, 0⟩ := by rw [hd, tok_colon h6 he]
      rw [hT]
      have hpre : Lib.hasPrefix (⟨(l.drop i).toArray⟩ : ByteArray).data.toList (⟨#[58, 61]⟩ : ByteArray).data.toList = true := by
        show Lib.hasPrefix (l.drop i) [58, 61] = true
        rw [hd, hc58]
        cases hr : l.drop (i + 1) with
        | nil => rw [hr] at he; cases he
        | cons d r => rw [hr] at he; simp at he; subst he; simp [Lib.hasPrefix]
      have HH := hid fun w => hpre ▸ HHP.out w
      have HTK := hid fun w' => token_any s l hl 3 i 2 (by omega) ((i : Int) + 2) (by omega) w'
      have HP := hid fun (w' : World) (hg : w.grownBy w' none) => NxP.ok (l := l) (i := i) (t := ⟨3, 2, 0⟩) rfl hg (a := 3) (b := i) (c := (i : Int) + 2) (d := ⟨((l.drop i).take 2).toArray⟩) rfl
      clear HKO h6 h5 h4 h3 hd hc hT hl HHP hpre he hc58
      go_enter Try.func42, Try.ntmps42
      go_wp2_with (first | (go_at_call 49; (with_reducible refine (HK6.out _).mono ?_); rintro e w' ⟨rfl, rfl⟩) | (go_at_call 67; (with_reducible refine (HH.out _).mono ?_); rintro e w' ⟨rfl, rfl⟩) | (go_at_call 43; (with_reducible refine (HTK.out _).mono ?_); rintro e w' ⟨rfl, hg⟩; have bx := keepB (blk0 _ _) hg; have hG := grown_trans HA.out hg; obtain ⟨⟨k0, k1, k2, k3⟩, f0, f1, f2, f3⟩ := box4 bx))
      exact bodyPost_ret (v := .tuple #[.agg #[.int .i64 3, .int .i64 (i : Int), .int .i64 ((i : Int) + 2), .string ⟨((l.drop i).take 2).toArray⟩], .int .i64 0]) (by simp [results, Try.results42, go_sem, k0, k1, k2, k3]) rfl (HP.out _ (set4_new hG _ _ _ _ _ (Nat.le_refl _)))
    · have hT : tokAt (l.drop i) = ⟨3, 1, 5⟩ := by rw [hd, tok_bad h3 h4 h5 (fun _ => he)]
      rw [hT]
      have hpre : Lib.hasPrefix (⟨(l.drop i).toArray⟩ : ByteArray).data.toList (⟨#[58, 61]⟩ : ByteArray).data.toList = false := by
        show Lib.hasPrefix (l.drop i) [58, 61] = false
        rw [hd, hc58]
        cases hr : l.drop (i + 1) with
        | nil => rfl
        | cons d r =>
          rw [hr] at he; simp at he
          have hb : ((61 : UInt8) == d) = false := by
            cases e : (61 : UInt8) == d with
            | false => rfl
            | true => exact absurd (eq_of_beq e).symm he
          simp [Lib.hasPrefix, List.isPrefixOf, hb]
      have HH := hid fun w => hpre ▸ HHP.out w
      have HP := hid fun (w' : World) (hg : w.grownBy w' none) => NxP.bad (l := l) (i := i) (t := ⟨3, 1, 5⟩) (k := 5) rfl (by omega) hg 0 0 0 ⟨#[]⟩
      clear HKO h6 h5 h4 h3 hd hc hT hl HHP hpre he hc58
      go_enter Try.func42, Try.ntmps42
      go_wp2_with (first | (go_at_call 49; (with_reducible refine (HK6.out _).mono ?_); rintro e w' ⟨rfl, rfl⟩) | (go_at_call 67; (with_reducible refine (HH.out _).mono ?_); rintro e w' ⟨rfl, rfl⟩))
      exact bodyPost_ret (v := .tuple #[.agg #[.int .i64 0, .int .i64 0, .int .i64 0, .string ⟨#[]⟩], .int .i64 5]) (by simp [results, Try.results42, go_sem]) rfl (HP.out _ HA.out)
  · have hT : tokAt (l.drop i) = ⟨3, 1, 5⟩ := by rw [hd, tok_bad h3 h4 h5 (fun h => absurd h h6)]
    rw [hT]
    have HA := hid (World.grownBy_alloc w (.cells #[.int .i64 0, .int .i64 0, .int .i64 0, .string ⟨#[]⟩] 31) none)
    have HP := hid fun (w' : World) (hg : w.grownBy w' none) => NxP.bad (l := l) (i := i) (t := ⟨3, 1, 5⟩) (k := 5) rfl (by omega) hg 0 0 0 ⟨#[]⟩
    obtain ⟨kk, hk⟩ : ∃ kk, kk = kd c.toNat := ⟨_, rfl⟩
    rw [← hk] at h3 h4 h5 h6 HKO
    have e3 : ((kk : Int) == 3) = false := by simpa using (by omega : ¬ (kk : Int) = 3)
    have e4 : ((kk : Int) == 4) = false := by simpa using (by omega : ¬ (kk : Int) = 4)
    have e5 : ((kk : Int) == 5) = false := by simpa using (by omega : ¬ (kk : Int) = 5)
    have e6 : ((kk : Int) == 6) = false := by simpa using (by omega : ¬ (kk : Int) = 6)
    clear h6 h5 h4 h3 hd hc hT hl hk
    go_enter Try.func42, Try.ntmps42
    go_wp2_with (first | (go_at_call 49; (with_reducible refine (HKO.out _).mono ?_); rintro e w' ⟨rfl, rfl⟩))
    exact bodyPost_ret (v := .tuple #[.agg #[.int .i64 0, .int .i64 0, .int .i64 0, .string ⟨#[]⟩], .int .i64 5]) (by simp [results, Try.results42, go_sem]) rfl (HP.out _ HA.out)
end Go.Proofs.Ytlkajmfpbgipbaa
