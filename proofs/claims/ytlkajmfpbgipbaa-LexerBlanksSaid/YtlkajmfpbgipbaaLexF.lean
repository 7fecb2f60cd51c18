/-
  Contract of the reference's sign.
-/
import Derived.Test.YtlkajmfpbgipbaaLexE
set_option linter.unusedVariables false
set_option linter.unusedSimpArgs false
namespace Go.Proofs.Ytlkajmfpbgipbaa
open Go.RowKit _root_.Nm Lx

/-- the token that begins with a byte that is neither a letter nor a digit -/
def sgn : List UInt8 → Tk
  | [] => ⟨3, 1, 5⟩
  | c :: r => if kd c.toNat = 5 then ⟨3, 1, 0⟩ else if kd c.toNat = 6 ∧ r.head? = some 61 then ⟨3, 2, 0⟩ else ⟨3, 1, 5⟩
theorem sgn_tok {c : UInt8} {r : List UInt8} (h3 : kd c.toNat ≠ 3) (h4 : kd c.toNat ≠ 4) : sgn (c :: r) = tokAt (c :: r) := by
  show (if _ then _ else if _ then _ else _) = (if _ then _ else if _ then _ else if _ then _ else if _ then _ else _)
  rw [if_neg h3, if_neg h4]

set_option maxHeartbeats 4000000 in
set_option maxRecDepth 100000 in
theorem sign_any (s : ByteArray) (l : List UInt8) (hl : s.data.toList = l) (hmax : l.length ≤ 9223372036854775000) (i : Nat) (hi : i < l.length) (w : World) :
    Calls Try.prog 45 #[.string s, .int .i64 (i : Int)] w (NxP l i (sgn (l.drop i)) w) := by
  have hsz : s.size = l.length := by rw [Lib.size_eq, hl]
  have hd : l.drop i = l[i] :: l.drop (i + 1) := List.drop_eq_getElem_cons hi
  have hix := idx_at s l hl i hi
  have HG := hid fun (A B : Obj) => grown_trans (World.grownBy_alloc w A none) (World.grownBy_alloc (w.alloc A) B none)
  obtain ⟨c, hc⟩ : ∃ c, c = l[i] := ⟨_, rfl⟩
  rw [← hc] at hix hd
  obtain ⟨m, hm⟩ : ∃ m, m = c.toNat := ⟨_, rfl⟩
  rw [← hm] at hix
  by_cases h5 : kd m = 5
  · have hT : sgn (l.drop i) = ⟨3, 1, 0⟩ := by rw [hd]; show (if _ then _ else _) = _; rw [← hm, if_pos h5]
    rw [hT]
    have hsl := slice_r s l hl i 1 (by omega) ((i : Int) + 1) (by omega)
    have HP := hid fun (w' : World) (hg : w.grownBy w' none) => NxP.ok (l := l) (i := i) (t := ⟨3, 1, 0⟩) rfl hg (a := 3) (b := i) (c := (i : Int) + 1) (d := ⟨((l.drop i).take 1).toArray⟩) rfl
    have h5' := (kd_sign m).1 h5
    clear hd hc hT hl h5 hm
    rcases h5' with rfl | rfl | rfl | rfl | rfl | rfl
    all_goals
      go_enter Try.func45, Try.ntmps45
      go_wp2_with fail
      exact bodyPost_ret (v := .tuple #[.agg #[.int .i64 3, .int .i64 (i : Int), .int .i64 ((i : Int) + 1), .string ⟨((l.drop i).take 1).toArray⟩], .int .i64 0]) (by simp [results, Try.results45, go_sem]) rfl (HP.out _ (HG.out _ _))
  by_cases h6 : m = 58
  · subst h6
    have h6 : kd c.toNat = 6 := by rw [← hm]; decide
    by_cases he : (l.drop (i + 1)).head? = some 61
    · have hlen : i + 1 < l.length := by
        rcases Nat.lt_or_ge (i + 1) l.length with h | h
        · exact h
        · rw [List.drop_of_length_le h] at he; cases he
      have hT : sgn (l.drop i) = ⟨3, 2, 0⟩ := by rw [hd]; show (if _ then _ else if _ then _ else _) = _; rw [← hm, if_neg (by decide), if_pos ⟨by decide, he⟩]
      rw [hT]
      have hix2 := idx_at s l hl (i + 1) hlen
      have h61 : (l[i + 1]).toNat = 61 := by
        have he' := he
        rw [List.head?_drop, List.getElem?_eq_getElem hlen, Option.some.injEq] at he'
        rw [he']; rfl
      rw [h61] at hix2
      have hix3 : ∀ w, (Instr.index 9 (.string s) (.int .i64 ((i : Int) + 1))).run Try.prog w = .ok (.int .u8 61) w := hix2
      have hsl := slice_r s l hl i 2 (by omega) ((i : Int) + 2) (by omega)
      have HP := hid fun (w' : World) (hg : w.grownBy w' none) => NxP.ok (l := l) (i := i) (t := ⟨3, 2, 0⟩) rfl hg (a := 3) (b := i) (c := (i : Int) + 2) (d := ⟨((l.drop i).take 2).toArray⟩) rfl
      have hb : ¬ (l.length : Int) < (i : Int) + 2 := by omega
      clear hd hc hT hl h5 hm hix2 h61 h6 he
      go_enter Try.func45, Try.ntmps45
      go_wp2_with fail
      exact bodyPost_ret (v := .tuple #[.agg #[.int .i64 3, .int .i64 (i : Int), .int .i64 ((i : Int) + 2), .string ⟨((l.drop i).take 2).toArray⟩], .int .i64 0]) (by simp [results, Try.results45, go_sem]) rfl (HP.out _ (HG.out _ _))
    · have hT : sgn (l.drop i) = ⟨3, 1, 5⟩ := by rw [hd]; show (if _ then _ else if _ then _ else _) = _; rw [← hm, if_neg (by decide), if_neg (fun h => he h.2)]
      rw [hT]
      have HP := hid fun (w' : World) (hg : w.grownBy w' none) => NxP.bad (l := l) (i := i) (t := ⟨3, 1, 5⟩) (k := 5) rfl (by omega) hg 3 i ((i : Int) + 2) ⟨#[]⟩
      by_cases hlen : i + 1 < l.length
      · have hix2 := idx_at s l hl (i + 1) hlen
        have h61 : (l[i + 1]).toNat ≠ 61 := fun e => he (by
          rw [List.head?_drop, List.getElem?_eq_getElem hlen, Option.some.injEq]
          exact UInt8.toNat_inj.1 e)
        obtain ⟨m2, hm2⟩ : ∃ m, m = (l[i + 1]).toNat := ⟨_, rfl⟩
        rw [← hm2] at hix2 h61
        have hix3 : ∀ w, (Instr.index 9 (.string s) (.int .i64 ((i : Int) + 1))).run Try.prog w = .ok (.int .u8 (m2 : Int)) w := hix2
        have hne : ((m2 : Int) != 61) = true := by
          have : ((m2 : Int) == 61) = false := by simpa using (by omega : ¬ (m2 : Int) = 61)
          simp [bne, this]
        have hb : ¬ (l.length : Int) < (i : Int) + 2 := by omega
        clear hd hc hT hl h5 hm hix2 h61 h6 he hm2
        go_enter Try.func45, Try.ntmps45
        go_wp2_with fail
        exact bodyPost_ret (v := .tuple #[.agg #[.int .i64 3, .int .i64 (i : Int), .int .i64 ((i : Int) + 2), .string ⟨#[]⟩], .int .i64 5]) (by simp [results, Try.results45, go_sem]) rfl (HP.out _ (HG.out _ _))
      · have hb : (l.length : Int) < (i : Int) + 2 := by omega
        clear hd hc hT hl h5 hm h6 he
        go_enter Try.func45, Try.ntmps45
        go_wp2_with fail
        exact bodyPost_ret (v := .tuple #[.agg #[.int .i64 3, .int .i64 (i : Int), .int .i64 ((i : Int) + 2), .string ⟨#[]⟩], .int .i64 5]) (by simp [results, Try.results45, go_sem]) rfl (HP.out _ (HG.out _ _))
  · have hT : sgn (l.drop i) = ⟨3, 1, 5⟩ := by rw [hd]; show (if _ then _ else if _ then _ else _) = _; rw [← hm, if_neg h5, if_neg (fun h => h6 ((kd_colon m).1 h.1))]
    rw [hT]
    have HP := hid fun (w' : World) (hg : w.grownBy w' none) => NxP.bad (l := l) (i := i) (t := ⟨3, 1, 5⟩) (k := 5) rfl (by omega) hg 3 i ((i : Int) + 1) ⟨#[]⟩
    have h5' : ¬ (m = 40 ∨ m = 41 ∨ m = 44 ∨ m = 59 ∨ m = 47 ∨ m = 45) := fun h => h5 ((kd_sign m).2 h)
    have e1 : ((m : Int) == 40) = false := by simpa using (by omega : ¬ (m : Int) = 40)
    have e2 : ((m : Int) == 41) = false := by simpa using (by omega : ¬ (m : Int) = 41)
    have e3 : ((m : Int) == 44) = false := by simpa using (by omega : ¬ (m : Int) = 44)
    have e4 : ((m : Int) == 59) = false := by simpa using (by omega : ¬ (m : Int) = 59)
    have e5 : ((m : Int) == 47) = false := by simpa using (by omega : ¬ (m : Int) = 47)
    have e6 : ((m : Int) == 45) = false := by simpa using (by omega : ¬ (m : Int) = 45)
    have e7 : ((m : Int) == 58) = false := by simpa using (by omega : ¬ (m : Int) = 58)
    clear hd hc hT hl h5 hm h6 h5'
    go_enter Try.func45, Try.ntmps45
    go_wp2_with fail
    exact bodyPost_ret (v := .tuple #[.agg #[.int .i64 3, .int .i64 (i : Int), .int .i64 ((i : Int) + 1), .string ⟨#[]⟩], .int .i64 5]) (by simp [results, Try.results45, go_sem]) rfl (HP.out _ (HG.out _ _))
end Go.Proofs.Ytlkajmfpbgipbaa
