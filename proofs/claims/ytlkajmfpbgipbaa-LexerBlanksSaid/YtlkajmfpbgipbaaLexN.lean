/-
  Plain facts on tokens: what stands before an error; tokens cover a source. No program is mentioned here.
-/
import Derived.Test.YtlkajmfpbgipbaaLexM
set_option linter.unusedVariables false
set_option linter.unusedSimpArgs false
namespace Lx

theorem span_take (ks : List Nat) : ∀ (r : List UInt8) (m : Nat), span ks (r.take m) = min (span ks r) m
  | [], m => by simp [span]
  | c :: r, 0 => by simp [span]
  | c :: r, m + 1 => by
    rw [List.take_succ_cons]
    by_cases h : kd c.toNat ∈ ks
    · rw [span_yes h, span_yes h, span_take ks r m]; omega
    · rw [span_no h, span_no h]; simp
theorem sk_take : ∀ (b : Bool) (r : List UInt8) (m : Nat), sk b (r.take m) = min (sk b r) m
  | b, [], m => by simp [sk_nil]
  | b, c :: r, 0 => by simp [sk_nil]
  | true, c :: r, m + 1 => by
    rw [List.take_succ_cons]
    by_cases h : c.toNat = 10
    · rw [sk_feed h, sk_feed h, sk_blank ((kd_blank _).2 (by omega)), sk_blank ((kd_blank _).2 (by omega)), sk_take false r m]; omega
    · rw [sk_in h, sk_in h, sk_take true r m]; omega
  | false, c :: r, m + 1 => by
    rw [List.take_succ_cons]
    by_cases h1 : kd c.toNat = 1
    · rw [sk_blank h1, sk_blank h1, sk_take false r m]; omega
    by_cases h2 : kd c.toNat = 2
    · rw [sk_hash h2, sk_hash h2, sk_take true r m]; omega
    · rw [sk_none h1 h2, sk_none h1 h2]; simp
theorem tok_take : ∀ (r : List UInt8) (m : Nat), (tokAt r).e = 0 → (tokAt r).n ≤ m → tokAt (r.take m) = tokAt r
  | [], m, h, _ => by simp [tokAt] at h
  | c :: r, 0, h, hn => by have := tok_pos (c :: r); omega
  | c :: r, m + 1, h, hn => by
    have ht : (c :: r).take (m + 1) = c :: r.take m := rfl
    by_cases h3 : kd c.toNat = 3
    · have e := tok_name h3 r
      rw [e] at hn
      have hn' : span [3, 4] (c :: r) ≤ m + 1 := hn
      rw [ht, tok_name h3, e, ← ht, span_take, Nat.min_eq_left hn']
    by_cases h4 : kd c.toNat = 4
    · have e := tok_num h4 r
      rw [e] at hn
      have hn' : span [4] (c :: r) ≤ m + 1 := hn
      rw [ht, tok_num h4, e, ← ht, span_take, Nat.min_eq_left hn']
    by_cases h5 : kd c.toNat = 5
    · rw [ht, tok_sign h5, tok_sign h5]
    by_cases h6 : kd c.toNat = 6 ∧ r.head? = some 61
    · have e := tok_colon h6.1 h6.2
      rw [e] at hn
      have hn' : 2 ≤ m + 1 := hn
      rw [ht, e]
      refine tok_colon h6.1 ?_
      cases r with
      | nil => simp at h6
      | cons d r =>
        obtain ⟨m', rfl⟩ : ∃ m', m = m' + 1 := ⟨m - 1, by omega⟩
        simpa using h6.2
    · rw [tok_bad h3 h4 h5 (fun h h' => h6 ⟨h, h'⟩)] at h; simp at h

theorem glue_snd (t : Nat × Nat × Nat) (r : Res) : (glue t r).2 = r.2 := rfl
theorem next_le {l : List UInt8} {i : Nat} (h : i < l.length) : i + (tokAt (l.drop i)).n ≤ l.length := by
  have := tok_len (l.drop i) (by intro e; have := congrArg List.length e; rw [List.length_drop] at this; simp at this; omega)
  rw [List.length_drop] at this
  omega
theorem skip_le {l : List UInt8} {i : Nat} (h : i ≤ l.length) (b : Bool) : i + sk b (l.drop i) ≤ l.length := by
  have := sk_le b (l.drop i)
  rw [List.length_drop] at this
  omega
/-- what stands before the first error has none -/
theorem lexW_prefix (l : List UInt8) : ∀ (k i : Nat), l.length - i ≤ k → (lexW l i).2.2 ≠ 0 → i ≤ (lexW l i).2.1 ∧ (lexW l i).2.1 < l.length ∧ (lexW (l.take (lexW l i).2.1) i).2.2 = 0 := by
  intro k
  induction k with
  | zero => intro i hk he; rw [lexW_end (by omega)] at he; exact absurd rfl he
  | succ k ih =>
    intro i hk he
    by_cases hlt : i < l.length
    · by_cases h0 : (tokAt (l.drop i)).e = 0
      · have hpos := tok_pos (l.drop i)
        have hnl := next_le hlt
        have e := lexW_ok hlt h0
        rw [e, glue_snd] at he ⊢
        obtain ⟨h1, h2, h3⟩ := ih _ (by omega) he
        generalize ha : (lexW l (i + (tokAt (l.drop i)).n + sk false (l.drop (i + (tokAt (l.drop i)).n)))).2.1 = a at h1 h2 h3 ⊢
        have hil : i < (l.take a).length := by rw [List.length_take]; omega
        have hd : (l.take a).drop i = (l.drop i).take (a - i) := by rw [List.drop_take]
        have ht : tokAt ((l.take a).drop i) = tokAt (l.drop i) := by rw [hd]; exact tok_take _ _ h0 (by omega)
        refine ⟨by omega, h2, ?_⟩
        rw [lexW_ok hil (by rw [ht]; exact h0), glue_snd, ht]
        have hd2 : (l.take a).drop (i + (tokAt (l.drop i)).n) = (l.drop (i + (tokAt (l.drop i)).n)).take (a - (i + (tokAt (l.drop i)).n)) := by rw [List.drop_take]
        rw [hd2, sk_take, Nat.min_eq_left (by omega)]
        exact h3
      · rw [lexW_bad hlt h0]
        refine ⟨Nat.le_refl _, hlt, ?_⟩
        show (lexW (l.take i) i).2.2 = 0
        rw [lexW_end (by rw [List.length_take]; omega)]
    · rw [lexW_end (by omega)] at he; exact absurd rfl he
theorem lexW_zero (l : List UInt8) : ∀ (k i : Nat), l.length - i ≤ k → (lexW l i).2.2 = 0 → (lexW l i).2.1 = 0 := by
  intro k
  induction k with
  | zero => intro i hk he; rw [lexW_end (by omega)]
  | succ k ih =>
    intro i hk he
    by_cases hlt : i < l.length
    · by_cases h0 : (tokAt (l.drop i)).e = 0
      · have hpos := tok_pos (l.drop i)
        have e := lexW_ok hlt h0
        rw [e, glue_snd] at he ⊢
        exact ih _ (by omega) he
      · rw [lexW_bad hlt h0] at he; exact absurd he h0
    · rw [lexW_end (by omega)]
theorem fin_snd (acc : List (Nat × Nat × Nat)) (r : Res) : (fin acc r).2 = r.2 := rfl
theorem lexAll_zero {l : List UInt8} (h : (lexAll l).2.2 = 0) : (lexAll l).2.1 = 0 := by
  unfold lexAll at h ⊢
  split at h
  · cases h
  · rw [if_neg (by assumption)]
    rw [fin_snd] at h ⊢
    exact lexW_zero l _ _ (Nat.le_refl _) h
theorem lexAll_prefix {l : List UInt8} (h : (lexAll l).2.2 ≠ 0) (ha : (lexAll l).2.1 ≠ 0) : (lexAll l).2.1 < l.length ∧ (lexAll (l.take (lexAll l).2.1)).2.2 = 0 := by
  by_cases hb : 20000 < l.length
  · have e : lexAll l = ([], 0, 4) := if_pos hb
    rw [e] at ha; exact absurd rfl ha
  · have e : lexAll l = fin [] (lexW l (sk false l)) := if_neg hb
    rw [e, fin_snd] at h ha ⊢
    obtain ⟨h1, h2, h3⟩ := lexW_prefix l _ _ (Nat.le_refl _) h
    refine ⟨h2, ?_⟩
    have e2 : lexAll (l.take (lexW l (sk false l)).2.1) = fin [] (lexW (l.take (lexW l (sk false l)).2.1) (sk false (l.take (lexW l (sk false l)).2.1))) := if_neg (by rw [List.length_take]; omega)
    rw [e2, fin_snd, sk_take, Nat.min_eq_left h1]
    exact h3

/-- in a comment or not, behind blanks and comments; none if there is something else -/
def br : Bool → List UInt8 → Option Bool
  | b, [] => some b
  | b, c :: r => if c.toNat = 10 then br false r else if b = true ∨ c.toNat = 32 ∨ c.toNat = 9 ∨ c.toNat = 13 then br b r else if c.toNat = 35 then br true r else none
theorem br_feed {b : Bool} {c : UInt8} (h : c.toNat = 10) (r : List UInt8) : br b (c :: r) = br false r := if_pos h
theorem br_same {b : Bool} {c : UInt8} (h : c.toNat ≠ 10) (h2 : b = true ∨ c.toNat = 32 ∨ c.toNat = 9 ∨ c.toNat = 13) (r : List UInt8) : br b (c :: r) = br b r := by
  show (if _ then _ else if _ then _ else _) = _
  rw [if_neg h, if_pos h2]
theorem br_hash {c : UInt8} (h : c.toNat = 35) (r : List UInt8) : br false (c :: r) = br true r := by
  show (if _ then _ else if _ then _ else if _ then _ else _) = _
  rw [if_neg (by omega), if_neg (fun h' => by rcases h' with h' | h' | h' | h' <;> first | (cases h'; done) | omega), if_pos h]
theorem br_none {b : Bool} {c : UInt8} (h : c.toNat ≠ 10) (h2 : ¬ (b = true ∨ c.toNat = 32 ∨ c.toNat = 9 ∨ c.toNat = 13)) (h3 : c.toNat ≠ 35) (r : List UInt8) : br b (c :: r) = none := by
  show (if _ then _ else if _ then _ else if _ then _ else _) = _
  rw [if_neg h, if_neg h2, if_neg h3]
theorem br_sk : ∀ (b : Bool) (r : List UInt8), ∃ b', br b (r.take (sk b r)) = some b' ∧ (sk b r < r.length → b' = false)
  | b, [] => ⟨b, by rw [sk_nil]; rfl, by simp⟩
  | true, c :: r => by
    by_cases h : c.toNat = 10
    · obtain ⟨b', h1, h2⟩ := br_sk false r
      rw [sk_feed h, sk_blank ((kd_blank _).2 (by omega)), List.take_succ_cons, br_feed h]
      exact ⟨b', h1, fun hl => h2 (by simpa using hl)⟩
    · obtain ⟨b', h1, h2⟩ := br_sk true r
      rw [sk_in h, List.take_succ_cons, br_same h (.inl rfl)]
      exact ⟨b', h1, fun hl => h2 (by simpa using hl)⟩
  | false, c :: r => by
    by_cases h1 : kd c.toNat = 1
    · have hb := (kd_blank _).1 h1
      obtain ⟨b', g1, g2⟩ := br_sk false r
      rw [sk_blank h1, List.take_succ_cons]
      by_cases h : c.toNat = 10
      · rw [br_feed h]; exact ⟨b', g1, fun hl => g2 (by simpa using hl)⟩
      · rw [br_same h (.inr (by omega))]; exact ⟨b', g1, fun hl => g2 (by simpa using hl)⟩
    by_cases h2 : kd c.toNat = 2
    · obtain ⟨b', g1, g2⟩ := br_sk true r
      rw [sk_hash h2, List.take_succ_cons, br_hash ((kd_hash _).1 h2)]
      exact ⟨b', g1, fun hl => g2 (by simpa using hl)⟩
    · rw [sk_none h1 h2]
      exact ⟨false, rfl, fun _ => rfl⟩

/-- tokens ascend, and leave out blanks and comments alone -/
def Cov (l : List UInt8) : Nat → List (Nat × Nat × Nat) → Prop
  | _, [] => False
  | f, [(k, i, n)] => k = 0 ∧ n = 0 ∧ i = l.length ∧ f ≤ i ∧ ∃ b, br false ((l.drop f).take (i - f)) = some b
  | f, (k, i, n) :: t :: r => k ≠ 0 ∧ 0 < n ∧ f ≤ i ∧ i + n ≤ l.length ∧ br false ((l.drop f).take (i - f)) = some false ∧ Cov l (i + n) (t :: r)
theorem tok_kind : ∀ r : List UInt8, (tokAt r).k ≠ 0
  | [] => by decide
  | c :: r => by
    by_cases h3 : kd c.toNat = 3
    · rw [tok_name h3]; show 1 ≠ 0; decide
    by_cases h4 : kd c.toNat = 4
    · rw [tok_num h4]; show 2 ≠ 0; decide
    by_cases h5 : kd c.toNat = 5
    · rw [tok_sign h5]; decide
    by_cases h6 : kd c.toNat = 6 ∧ r.head? = some 61
    · rw [tok_colon h6.1 h6.2]; decide
    rw [tok_bad h3 h4 h5 (fun h h' => h6 ⟨h, h'⟩)]; decide
theorem cov_W (l : List UInt8) : ∀ (k f : Nat), l.length - f ≤ k → f ≤ l.length → (lexW l (f + sk false (l.drop f))).2.2 = 0 → Cov l f (lexW l (f + sk false (l.drop f))).1 := by
  intro k
  induction k with
  | zero =>
    intro f hk hf he
    obtain rfl : f = l.length := by omega
    rw [lexW_end (by omega)]
    refine ⟨rfl, rfl, rfl, Nat.le_refl _, ?_⟩
    rw [List.drop_of_length_le (Nat.le_refl _)]
    exact ⟨false, by simp [br]⟩
  | succ k ih =>
    intro f hk hf he
    obtain ⟨b', hb1, hb2⟩ := br_sk false (l.drop f)
    rw [List.length_drop] at hb2
    have hsl := skip_le hf false
    obtain ⟨i, hi⟩ : ∃ i, i = f + sk false (l.drop f) := ⟨_, rfl⟩
    have hb3 : br false ((l.drop f).take (i - f)) = some b' := by rw [show i - f = sk false (l.drop f) by omega]; exact hb1
    rw [← hi] at he hsl ⊢
    by_cases hlt : i < l.length
    · have hbf := hb2 (by omega)
      subst hbf
      by_cases h0 : (tokAt (l.drop i)).e = 0
      · have hpos := tok_pos (l.drop i)
        have hnl := next_le hlt
        have e := lexW_ok hlt h0
        rw [e, glue_snd] at he
        have hc := ih (i + (tokAt (l.drop i)).n) (by omega) hnl he
        rw [e]
        unfold glue
        rw [if_pos he]
        show Cov l f (_ :: (lexW l _).1)
        generalize (lexW l (i + (tokAt (l.drop i)).n + sk false (l.drop (i + (tokAt (l.drop i)).n)))).1 = L at hc ⊢
        cases L with
        | nil => exact hc.elim
        | cons t r => exact ⟨tok_kind _, hpos, by omega, hnl, hb3, hc⟩
      · rw [lexW_bad hlt h0] at he; exact absurd he h0
    · obtain rfl : i = l.length := by omega
      rw [lexW_end (Nat.le_refl _)]
      exact ⟨rfl, rfl, rfl, by omega, b', hb3⟩
theorem cov_all {l : List UInt8} (h : (lexAll l).2.2 = 0) : Cov l 0 (lexAll l).1 := by
  by_cases hb : 20000 < l.length
  · have e : lexAll l = ([], 0, 4) := if_pos hb
    rw [e] at h; cases h
  · have e : lexAll l = fin [] (lexW l (sk false l)) := if_neg hb
    rw [e, fin_snd] at h
    have := cov_W l _ 0 (Nat.le_refl _) (Nat.zero_le _) (by simpa using h)
    rw [e]
    unfold fin
    rw [if_pos h]
    simpa using this
theorem lexAll_none {l : List UInt8} (h : (lexAll l).2.2 ≠ 0) : (lexAll l).1 = [] := by
  by_cases hb : 20000 < l.length
  · have e : lexAll l = ([], 0, 4) := if_pos hb
    rw [e]
  · have e : lexAll l = fin [] (lexW l (sk false l)) := if_neg hb
    rw [e, fin_snd] at h
    rw [e]
    unfold fin
    rw [if_neg h]

/-- points A; # all, and a line feed -/
def smp : List UInt8 := [112, 111, 105, 110, 116, 115, 32, 65, 59, 32, 35, 32, 97, 108, 108, 10]
theorem lex_smp : lexAll smp = ([(1, 0, 6), (1, 7, 1), (3, 8, 1), (0, 16, 0)], 0, 0) := by
  have e0 : lexW smp 16 = ([(0, 16, 0)], 0, 0) := lexW_end (by decide)
  have e1 : lexW smp 8 = ([(3, 8, 1), (0, 16, 0)], 0, 0) := by rw [lexW_ok (by decide) (by decide)]; exact congrArg (glue (3, 8, 1)) e0
  have e2 : lexW smp 7 = ([(1, 7, 1), (3, 8, 1), (0, 16, 0)], 0, 0) := by rw [lexW_ok (by decide) (by decide)]; exact congrArg (glue (1, 7, 1)) e1
  have e3 : lexW smp 0 = ([(1, 0, 6), (1, 7, 1), (3, 8, 1), (0, 16, 0)], 0, 0) := by rw [lexW_ok (by decide) (by decide)]; exact congrArg (glue (1, 0, 6)) e2
  have e4 : lexAll smp = fin [] (lexW smp (sk false smp)) := if_neg (by decide)
  have e5 : sk false smp = 0 := by decide
  rw [e4, e5, e3]; rfl
end Lx
