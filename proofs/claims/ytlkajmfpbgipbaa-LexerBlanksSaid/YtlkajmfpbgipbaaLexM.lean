/-
  The tokens of a source as plain functions on lists of bytes. No program is mentioned here.
-/
import Derived.Lib.Strings
set_option linter.unusedVariables false
namespace Lx

/-- the kind of a byte -/
def kd (m : Nat) : Nat :=
  if (65 ≤ m ∧ m ≤ 90) ∨ (97 ≤ m ∧ m ≤ 122) then 3
  else if 48 ≤ m ∧ m ≤ 57 then 4
  else if m = 32 ∨ m = 9 ∨ m = 13 ∨ m = 10 then 1
  else if m = 35 then 2
  else if m = 40 ∨ m = 41 ∨ m = 44 ∨ m = 59 ∨ m = 47 ∨ m = 45 then 5
  else if m = 58 then 6 else 0
theorem kd_letter (m : Nat) : kd m = 3 ↔ ((65 ≤ m ∧ m ≤ 90) ∨ (97 ≤ m ∧ m ≤ 122)) := by
  unfold kd; (repeat' split) <;> omega
theorem kd_digit (m : Nat) : kd m = 4 ↔ (48 ≤ m ∧ m ≤ 57) := by
  unfold kd; (repeat' split) <;> omega
theorem kd_blank (m : Nat) : kd m = 1 ↔ (m = 32 ∨ m = 9 ∨ m = 13 ∨ m = 10) := by
  unfold kd; (repeat' split) <;> omega
theorem kd_hash (m : Nat) : kd m = 2 ↔ m = 35 := by
  unfold kd; (repeat' split) <;> omega
theorem kd_sign (m : Nat) : kd m = 5 ↔ (m = 40 ∨ m = 41 ∨ m = 44 ∨ m = 59 ∨ m = 47 ∨ m = 45) := by
  unfold kd; (repeat' split) <;> omega
theorem kd_colon (m : Nat) : kd m = 6 ↔ m = 58 := by
  unfold kd; (repeat' split) <;> omega
theorem kd_le (m : Nat) : kd m ≤ 6 := by
  unfold kd; (repeat' split) <;> omega

/-- how many leading bytes are of these kinds -/
def span (ks : List Nat) : List UInt8 → Nat
  | [] => 0
  | c :: r => if kd c.toNat ∈ ks then span ks r + 1 else 0
theorem span_nil (ks : List Nat) : span ks [] = 0 := rfl
theorem span_yes {ks : List Nat} {c : UInt8} (h : kd c.toNat ∈ ks) (r : List UInt8) : span ks (c :: r) = span ks r + 1 := if_pos h
theorem span_no {ks : List Nat} {c : UInt8} (h : kd c.toNat ∉ ks) (r : List UInt8) : span ks (c :: r) = 0 := if_neg h
theorem span_le (ks : List Nat) : ∀ r, span ks r ≤ r.length
  | [] => Nat.le_refl _
  | c :: r => by
    have := span_le ks r
    by_cases h : kd c.toNat ∈ ks
    · rw [span_yes h]; simpa using this
    · rw [span_no h]; exact Nat.zero_le _
theorem span_stop (ks : List Nat) : ∀ (r : List UInt8) (h : span ks r < r.length), kd (r[span ks r]'h).toNat ∉ ks
  | [], h => by simp [span] at h
  | c :: r, h => by
    by_cases hc : kd c.toNat ∈ ks
    · have e := span_yes hc r
      have h' : span ks r < r.length := by rw [e] at h; simpa using h
      have := span_stop ks r h'
      simp only [e, List.getElem_cons_succ]
      exact this
    · have e := span_no hc r
      simp only [e, List.getElem_cons_zero]
      exact hc

/-- how many leading bytes are no line feed -/
def nl : List UInt8 → Nat
  | [] => 0
  | c :: r => if c.toNat = 10 then 0 else nl r + 1
theorem nl_le : ∀ r, nl r ≤ r.length
  | [] => Nat.le_refl _
  | c :: r => by
    have := nl_le r
    unfold nl
    split <;> simp <;> omega
/-- how many leading bytes are blanks and comments, first in a comment or not -/
def sk : Bool → List UInt8 → Nat
  | _, [] => 0
  | true, c :: r => (if c.toNat = 10 then sk false r else sk true r) + 1
  | false, c :: r => if kd c.toNat = 1 then sk false r + 1 else if kd c.toNat = 2 then sk true r + 1 else 0
theorem sk_nil (b : Bool) : sk b [] = 0 := by cases b <;> rfl
theorem sk_le : ∀ (b : Bool) r, sk b r ≤ r.length
  | b, [] => by rw [sk_nil]; exact Nat.zero_le _
  | true, c :: r => by
    have h1 := sk_le false r
    have h2 := sk_le true r
    unfold sk
    split <;> simp <;> omega
  | false, c :: r => by
    have h1 := sk_le false r
    have h2 := sk_le true r
    unfold sk
    split
    · simp; omega
    · split <;> simp; omega
theorem sk_blank {c : UInt8} (h : kd c.toNat = 1) (r : List UInt8) : sk false (c :: r) = sk false r + 1 := if_pos h
theorem sk_hash {c : UInt8} (h : kd c.toNat = 2) (r : List UInt8) : sk false (c :: r) = sk true r + 1 := by
  show (if _ then _ else _) = _
  rw [if_neg (by omega), if_pos h]
theorem sk_none {c : UInt8} (h1 : kd c.toNat ≠ 1) (h2 : kd c.toNat ≠ 2) (r : List UInt8) : sk false (c :: r) = 0 := by
  show (if _ then _ else _) = _
  rw [if_neg h1, if_neg h2]
theorem sk_in {c : UInt8} (h : c.toNat ≠ 10) (r : List UInt8) : sk true (c :: r) = sk true r + 1 := by
  show (if _ then _ else _) + 1 = _
  rw [if_neg h]
theorem sk_feed {c : UInt8} (h : c.toNat = 10) (r : List UInt8) : sk true (c :: r) = sk false (c :: r) := by
  show (if _ then _ else _) + 1 = _
  rw [if_pos h, sk_blank ((kd_blank _).2 (by omega))]
theorem sk_hash' {c : UInt8} (h : kd c.toNat = 2) (r : List UInt8) : sk false (c :: r) = sk true (c :: r) := by
  have : c.toNat ≠ 10 := by have := (kd_hash _).1 h; omega
  rw [sk_hash h, sk_in this]
theorem sk_span : ∀ r : List UInt8, sk false r = span [1] r + sk false (r.drop (span [1] r))
  | [] => rfl
  | c :: r => by
    by_cases h : kd c.toNat = 1
    · rw [sk_blank h, span_yes (by simp [h]), List.drop_succ_cons]
      have := sk_span r
      omega
    · rw [span_no (by simp [h])]; simp
theorem sk_nl : ∀ r : List UInt8, sk true r = nl r + sk false (r.drop (nl r))
  | [] => rfl
  | c :: r => by
    by_cases h : c.toNat = 10
    · have : nl (c :: r) = 0 := if_pos h
      rw [this, sk_feed h]; simp
    · have : nl (c :: r) = nl r + 1 := if_neg h
      rw [this, sk_in h, List.drop_succ_cons]
      have := sk_nl r
      omega
/-- what follows is neither a blank nor a comment -/
theorem sk_end : ∀ (b : Bool) (r : List UInt8) (h : sk b r < r.length), kd (r[sk b r]'h).toNat ≠ 1 ∧ kd (r[sk b r]'h).toNat ≠ 2
  | b, [], h => by simp at h
  | true, c :: r, h => by
    by_cases hc : c.toNat = 10
    · have e : sk true (c :: r) = sk false r + 1 := by rw [sk_feed hc, sk_blank ((kd_blank _).2 (by omega))]
      have h' : sk false r < r.length := by rw [e] at h; simpa using h
      simp only [e, List.getElem_cons_succ]
      exact sk_end false r h'
    · have e := sk_in hc r
      have h' : sk true r < r.length := by rw [e] at h; simpa using h
      simp only [e, List.getElem_cons_succ]
      exact sk_end true r h'
  | false, c :: r, h => by
    by_cases h1 : kd c.toNat = 1
    · have e := sk_blank h1 r
      have h' : sk false r < r.length := by rw [e] at h; simpa using h
      simp only [e, List.getElem_cons_succ]
      exact sk_end false r h'
    · by_cases h2 : kd c.toNat = 2
      · have e := sk_hash h2 r
        have h' : sk true r < r.length := by rw [e] at h; simpa using h
        simp only [e, List.getElem_cons_succ]
        exact sk_end true r h'
      · have e := sk_none h1 h2 r
        simp only [e, List.getElem_cons_zero]
        exact ⟨h1, h2⟩

/-- a token: kind, length, error -/
structure Tk where
  k : Nat
  n : Nat
  e : Nat
def nameTk (n : Nat) : Tk := ⟨1, n, if 20 < n then 4 else 0⟩
def numTk (z : Bool) (n : Nat) : Tk := ⟨2, n, if z = true ∧ 1 < n then 5 else if 1000 < n then 4 else 0⟩
def tokAt : List UInt8 → Tk
  | [] => ⟨3, 1, 5⟩
  | c :: r =>
    if kd c.toNat = 3 then nameTk (span [3, 4] (c :: r))
    else if kd c.toNat = 4 then numTk (decide (c.toNat = 48)) (span [4] (c :: r))
    else if kd c.toNat = 5 then ⟨3, 1, 0⟩
    else if kd c.toNat = 6 ∧ r.head? = some 61 then ⟨3, 2, 0⟩
    else ⟨3, 1, 5⟩
theorem tok_name {c : UInt8} (h : kd c.toNat = 3) (r : List UInt8) : tokAt (c :: r) = nameTk (span [3, 4] (c :: r)) := if_pos h
theorem tok_num {c : UInt8} (h : kd c.toNat = 4) (r : List UInt8) : tokAt (c :: r) = numTk (decide (c.toNat = 48)) (span [4] (c :: r)) := by
  show (if _ then _ else _) = _; rw [if_neg (by omega), if_pos h]
theorem tok_sign {c : UInt8} (h : kd c.toNat = 5) (r : List UInt8) : tokAt (c :: r) = ⟨3, 1, 0⟩ := by
  show (if _ then _ else _) = _; rw [if_neg (by omega), if_neg (by omega), if_pos h]
theorem tok_colon {c : UInt8} (h : kd c.toNat = 6) {r : List UInt8} (h2 : r.head? = some 61) : tokAt (c :: r) = ⟨3, 2, 0⟩ := by
  show (if _ then _ else _) = _; rw [if_neg (by omega), if_neg (by omega), if_neg (by omega), if_pos ⟨h, h2⟩]
theorem tok_bad {c : UInt8} {r : List UInt8} (h3 : kd c.toNat ≠ 3) (h4 : kd c.toNat ≠ 4) (h5 : kd c.toNat ≠ 5) (h6 : kd c.toNat = 6 → r.head? ≠ some 61) : tokAt (c :: r) = ⟨3, 1, 5⟩ := by
  show (if _ then _ else _) = _; rw [if_neg h3, if_neg h4, if_neg h5, if_neg (fun h => h6 h.1 h.2)]
theorem tok_pos : ∀ r : List UInt8, 0 < (tokAt r).n
  | [] => by decide
  | c :: r => by
    by_cases h3 : kd c.toNat = 3
    · rw [tok_name h3, span_yes (by simp [h3])]; exact Nat.succ_pos _
    by_cases h4 : kd c.toNat = 4
    · rw [tok_num h4, span_yes (by simp [h4])]; exact Nat.succ_pos _
    by_cases h5 : kd c.toNat = 5
    · rw [tok_sign h5]; decide
    by_cases h6 : kd c.toNat = 6 ∧ r.head? = some 61
    · rw [tok_colon h6.1 h6.2]; decide
    rw [tok_bad h3 h4 h5 (fun h h' => h6 ⟨h, h'⟩)]; decide
theorem tok_len : ∀ r : List UInt8, r ≠ [] → (tokAt r).n ≤ r.length
  | [], h => absurd rfl h
  | c :: r, _ => by
    by_cases h3 : kd c.toNat = 3
    · rw [tok_name h3]; exact span_le _ _
    by_cases h4 : kd c.toNat = 4
    · rw [tok_num h4]; exact span_le _ _
    by_cases h5 : kd c.toNat = 5
    · rw [tok_sign h5]; simp
    by_cases h6 : kd c.toNat = 6 ∧ r.head? = some 61
    · rw [tok_colon h6.1 h6.2]
      cases r with
      | nil => simp at h6
      | cons d r => simp
    rw [tok_bad h3 h4 h5 (fun h h' => h6 ⟨h, h'⟩)]; simp

/-- tokens from i on: kind, offset and length of each; or the offset of the first error, and the error -/
abbrev Res := List (Nat × Nat × Nat) × Nat × Nat
def glue (t : Nat × Nat × Nat) (r : Res) : Res := (if r.2.2 = 0 then t :: r.1 else [], r.2)
def lexW (l : List UInt8) (i : Nat) : Res :=
  if h : i < l.length then
    if (tokAt (l.drop i)).e = 0 then
      glue ((tokAt (l.drop i)).k, i, (tokAt (l.drop i)).n) (lexW l (i + (tokAt (l.drop i)).n + sk false (l.drop (i + (tokAt (l.drop i)).n))))
    else ([], i, (tokAt (l.drop i)).e)
  else ([(0, l.length, 0)], 0, 0)
termination_by l.length - i
decreasing_by have := tok_pos (l.drop i); omega
theorem lexW_end {l : List UInt8} {i : Nat} (h : l.length ≤ i) : lexW l i = ([(0, l.length, 0)], 0, 0) := by
  rw [lexW, dif_neg (by omega)]
theorem lexW_bad {l : List UInt8} {i : Nat} (h : i < l.length) (h2 : (tokAt (l.drop i)).e ≠ 0) : lexW l i = ([], i, (tokAt (l.drop i)).e) := by
  rw [lexW, dif_pos h, if_neg h2]
theorem lexW_ok {l : List UInt8} {i : Nat} (h : i < l.length) (h2 : (tokAt (l.drop i)).e = 0) :
    lexW l i = glue ((tokAt (l.drop i)).k, i, (tokAt (l.drop i)).n) (lexW l (i + (tokAt (l.drop i)).n + sk false (l.drop (i + (tokAt (l.drop i)).n)))) := by
  rw [lexW, dif_pos h, if_pos h2]
/-- what is returned, where these tokens have been met -/
def fin (acc : List (Nat × Nat × Nat)) (r : Res) : Res := (if r.2.2 = 0 then acc ++ r.1 else [], r.2)
theorem fin_glue (acc : List (Nat × Nat × Nat)) (t : Nat × Nat × Nat) (r : Res) : fin acc (glue t r) = fin (acc ++ [t]) r := by
  unfold fin glue
  split <;> simp_all
theorem fin_end (acc : List (Nat × Nat × Nat)) (n : Nat) : fin acc ([(0, n, 0)], 0, 0) = (acc ++ [(0, n, 0)], 0, 0) := rfl
theorem fin_bad (acc : List (Nat × Nat × Nat)) (i e : Nat) (h : e ≠ 0) : fin acc ([], i, e) = ([], i, e) := by
  unfold fin
  rw [if_neg h]
/-- all tokens -/
def lexAll (l : List UInt8) : Res := if 20000 < l.length then ([], 0, 4) else fin [] (lexW l (sk false l))

/-- the cells of a token -/
def cells (l : List UInt8) (t : Nat × Nat × Nat) : List Go.Value := [.int .i64 (t.1 : Nat), .int .i64 (t.2.1 : Nat), .int .i64 ((t.2.1 + t.2.2 : Nat)), .string ⟨((l.drop t.2.1).take t.2.2).toArray⟩]
theorem cells_len (l : List UInt8) (t : Nat × Nat × Nat) : (cells l t).length = 4 := rfl
end Lx
