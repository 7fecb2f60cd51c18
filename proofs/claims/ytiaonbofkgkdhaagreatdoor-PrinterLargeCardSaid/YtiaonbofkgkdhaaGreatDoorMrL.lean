/-
  LexM LexA LexB LexC LexD LexSh LexE LexF LexG LexN LexP LexQ LexR, in one text.
-/
import Derived.Lib.Strings
import Derived.Test.YtiaonbofkgkdhaaGreatDoorProg
import Derived.Test.YtiaonbofkgkdhaaGreatDoorMem
import Derived.Lib.Bytealg
import Derived.Lib.Walk
import Derived.Laws.Strings3
import Derived.BigCall
import Derived.WalkSpells
import Derived.Test.YtiaonbofkgkdhaaGreatDoorMrA
import Derived.Laws.DeepStrings4
import Derived.Shelf.Strings.Prefix
import Derived.Shelf.Spec.SearchS
import Derived.Deep.LoopGhost
import Derived.KernelRfl
import Derived.Laws.RangeAny

set_option linter.unusedVariables false
namespace Lx

/-- the kind of a byte -/
def kd (m : Nat) : Nat :=
  if (65 ≤ m ∧ m ≤ 90) ∨ (97 ≤ m ∧ m ≤ 122) then 3
  else if 48 ≤ m ∧ m ≤ 57 then 4
  else if m = 32 ∨ m = 9 ∨ m = 13 ∨ m = 10 then 1
  else if m = 35 then 2
  else if m = 40 ∨ m = 41 ∨ m = 44 ∨ m = 59 ∨ m = 47 ∨ m = 45 then 5
  else if m = 58 then 6 else 0
theorem kd_letter (m : Nat) : kd m = 3 ↔ ((65 ≤ m ∧ m ≤ 90) ∨ (97 ≤ m ∧ m ≤ 122)) := by
  unfold kd; (repeat' split) <;> omega
theorem kd_digit (m : Nat) : kd m = 4 ↔ (48 ≤ m ∧ m ≤ 57) := by
  unfold kd; (repeat' split) <;> omega
theorem kd_blank (m : Nat) : kd m = 1 ↔ (m = 32 ∨ m = 9 ∨ m = 13 ∨ m = 10) := by
  unfold kd; (repeat' split) <;> omega
theorem kd_hash (m : Nat) : kd m = 2 ↔ m = 35 := by
  unfold kd; (repeat' split) <;> omega
theorem kd_sign (m : Nat) : kd m = 5 ↔ (m = 40 ∨ m = 41 ∨ m = 44 ∨ m = 59 ∨ m = 47 ∨ m = 45) := by
  unfold kd; (repeat' split) <;> omega
theorem kd_colon (m : Nat) : kd m = 6 ↔ m = 58 := by
  unfold kd; (repeat' split) <;> omega
theorem kd_le (m : Nat) : kd m ≤ 6 := by
  unfold kd; (repeat' split) <;> omega

/-- how many leading bytes are of these kinds -/
def span (ks : List Nat) : List UInt8 → Nat
  | [] => 0
  | c :: r => if kd c.toNat ∈ ks then span ks r + 1 else 0
theorem span_nil (ks : List Nat) : span ks [] = 0 := rfl
theorem span_yes {ks : List Nat} {c : UInt8} (h : kd c.toNat ∈ ks) (r : List UInt8) : span ks (c :: r) = span ks r + 1 := if_pos h
theorem span_no {ks : List Nat} {c : UInt8} (h : kd c.toNat ∉ ks) (r : List UInt8) : span ks (c :: r) = 0 := if_neg h
theorem span_le (ks : List Nat) : ∀ r, span ks r ≤ r.length
  | [] => Nat.le_refl _
  | c :: r => by
    have := span_le ks r
    by_cases h : kd c.toNat ∈ ks
    · rw [span_yes h]; simpa using this
    · rw [span_no h]; exact Nat.zero_le _
theorem span_stop (ks : List Nat) : ∀ (r : List UInt8) (h : span ks r < r.length), kd (r[span ks r]'h).toNat ∉ ks
  | [], h => by simp [span] at h
  | c :: r, h => by
    by_cases hc : kd c.toNat ∈ ks
    · have e := span_yes hc r
      have h' : span ks r < r.length := by rw [e] at h; simpa using h
      have := span_stop ks r h'
      simp only [e, List.getElem_cons_succ]
      exact this
    · have e := span_no hc r
      simp only [e, List.getElem_cons_zero]
      exact hc

/-- how many leading bytes are no line feed -/
def nl : List UInt8 → Nat
  | [] => 0
  | c :: r => if c.toNat = 10 then 0 else nl r + 1
theorem nl_le : ∀ r, nl r ≤ r.length
  | [] => Nat.le_refl _
  | c :: r => by
    have := nl_le r
    unfold nl
    split <;> simp <;> omega
/-- how many leading bytes are blanks and comments, first in a comment or not -/
def sk : Bool → List UInt8 → Nat
  | _, [] => 0
  | true, c :: r => (if c.toNat = 10 then sk false r else sk true r) + 1
  | false, c :: r => if kd c.toNat = 1 then sk false r + 1 else if kd c.toNat = 2 then sk true r + 1 else 0
theorem sk_nil (b : Bool) : sk b [] = 0 := by cases b <;> rfl
theorem sk_le : ∀ (b : Bool) r, sk b r ≤ r.length
  | b, [] => by rw [sk_nil]; exact Nat.zero_le _
  | true, c :: r => by
    have h1 := sk_le false r
    have h2 := sk_le true r
    unfold sk
    split <;> simp <;> omega
  | false, c :: r => by
    have h1 := sk_le false r
    have h2 := sk_le true r
    unfold sk
    split
    · simp; omega
    · split <;> simp; omega
theorem sk_blank {c : UInt8} (h : kd c.toNat = 1) (r : List UInt8) : sk false (c :: r) = sk false r + 1 := if_pos h
theorem sk_hash {c : UInt8} (h : kd c.toNat = 2) (r : List UInt8) : sk false (c :: r) = sk true r + 1 := by
  show (if _ then _ else _) = _
  rw [if_neg (by omega), if_pos h]
theorem sk_none {c : UInt8} (h1 : kd c.toNat ≠ 1) (h2 : kd c.toNat ≠ 2) (r : List UInt8) : sk false (c :: r) = 0 := by
  show (if _ then _ else _) = _
  rw [if_neg h1, if_neg h2]
theorem sk_in {c : UInt8} (h : c.toNat ≠ 10) (r : List UInt8) : sk true (c :: r) = sk true r + 1 := by
  show (if _ then _ else _) + 1 = _
  rw [if_neg h]
theorem sk_feed {c : UInt8} (h : c.toNat = 10) (r : List UInt8) : sk true (c :: r) = sk false (c :: r) := by
  show (if _ then _ else _) + 1 = _
  rw [if_pos h, sk_blank ((kd_blank _).2 (by omega))]
theorem sk_hash' {c : UInt8} (h : kd c.toNat = 2) (r : List UInt8) : sk false (c :: r) = sk true (c :: r) := by
  have : c.toNat ≠ 10 := by have := (kd_hash _).1 h; omega
  rw [sk_hash h, sk_in this]
theorem sk_span : ∀ r : List UInt8, sk false r = span [1] r + sk false (r.drop (span [1] r))
  | [] => rfl
  | c :: r => by
    by_cases h : kd c.toNat = 1
    · rw [sk_blank h, span_yes (by simp [h]), List.drop_succ_cons]
      have := sk_span r
      omega
    · rw [span_no (by simp [h])]; simp
theorem sk_nl : ∀ r : List UInt8, sk true r = nl r + sk false (r.drop (nl r))
  | [] => rfl
  | c :: r => by
    by_cases h : c.toNat = 10
    · have : nl (c :: r) = 0 := if_pos h
      rw [this, sk_feed h]; simp
    · have : nl (c :: r) = nl r + 1 := if_neg h
      rw [this, sk_in h, List.drop_succ_cons]
      have := sk_nl r
      omega
/-- what follows is neither a blank nor a comment -/
theorem sk_end : ∀ (b : Bool) (r : List UInt8) (h : sk b r < r.length), kd (r[sk b r]'h).toNat ≠ 1 ∧ kd (r[sk b r]'h).toNat ≠ 2
  | b, [], h => by simp at h
  | true, c :: r, h => by
    by_cases hc : c.toNat = 10
    · have e : sk true (c :: r) = sk false r + 1 := by rw [sk_feed hc, sk_blank ((kd_blank _).2 (by omega))]
      have h' : sk false r < r.length := by rw [e] at h; simpa using h
      simp only [e, List.getElem_cons_succ]
      exact sk_end false r h'
    · have e := sk_in hc r
      have h' : sk true r < r.length := by rw [e] at h; simpa using h
      simp only [e, List.getElem_cons_succ]
      exact sk_end true r h'
  | false, c :: r, h => by
    by_cases h1 : kd c.toNat = 1
    · have e := sk_blank h1 r
      have h' : sk false r < r.length := by rw [e] at h; simpa using h
      simp only [e, List.getElem_cons_succ]
      exact sk_end false r h'
    · by_cases h2 : kd c.toNat = 2
      · have e := sk_hash h2 r
        have h' : sk true r < r.length := by rw [e] at h; simpa using h
        simp only [e, List.getElem_cons_succ]
        exact sk_end true r h'
      · have e := sk_none h1 h2 r
        simp only [e, List.getElem_cons_zero]
        exact ⟨h1, h2⟩

/-- a token: kind, length, error -/
structure Tk where
  k : Nat
  n : Nat
  e : Nat
def nameTk (n : Nat) : Tk := ⟨1, n, if 20 < n then 4 else 0⟩
def numTk (z : Bool) (n : Nat) : Tk := ⟨2, n, if z = true ∧ 1 < n then 5 else if 1000 < n then 4 else 0⟩
def tokAt : List UInt8 → Tk
  | [] => ⟨3, 1, 5⟩
  | c :: r =>
    if kd c.toNat = 3 then nameTk (span [3, 4] (c :: r))
    else if kd c.toNat = 4 then numTk (decide (c.toNat = 48)) (span [4] (c :: r))
    else if kd c.toNat = 5 then ⟨3, 1, 0⟩
    else if kd c.toNat = 6 ∧ r.head? = some 61 then ⟨3, 2, 0⟩
    else ⟨3, 1, 5⟩
theorem tok_name {c : UInt8} (h : kd c.toNat = 3) (r : List UInt8) : tokAt (c :: r) = nameTk (span [3, 4] (c :: r)) := if_pos h
theorem tok_num {c : UInt8} (h : kd c.toNat = 4) (r : List UInt8) : tokAt (c :: r) = numTk (decide (c.toNat = 48)) (span [4] (c :: r)) := by
  show (if _ then _ else _) = _; rw [if_neg (by omega), if_pos h]
theorem tok_sign {c : UInt8} (h : kd c.toNat = 5) (r : List UInt8) : tokAt (c :: r) = ⟨3, 1, 0⟩ := by
  show (if _ then _ else _) = _; rw [if_neg (by omega), if_neg (by omega), if_pos h]
theorem tok_colon {c : UInt8} (h : kd c.toNat = 6) {r : List UInt8} (h2 : r.head? = some 61) : tokAt (c :: r) = ⟨3, 2, 0⟩ := by
  show (if _ then _ else _) = _; rw [if_neg (by omega), if_neg (by omega), if_neg (by omega), if_pos ⟨h, h2⟩]
theorem tok_bad {c : UInt8} {r : List UInt8} (h3 : kd c.toNat ≠ 3) (h4 : kd c.toNat ≠ 4) (h5 : kd c.toNat ≠ 5) (h6 : kd c.toNat = 6 → r.head? ≠ some 61) : tokAt (c :: r) = ⟨3, 1, 5⟩ := by
  show (if _ then _ else _) = _; rw [if_neg h3, if_neg h4, if_neg h5, if_neg (fun h => h6 h.1 h.2)]
theorem tok_pos : ∀ r : List UInt8, 0 < (tokAt r).n
  | [] => by decide
  | c :: r => by
    by_cases h3 : kd c.toNat = 3
    · rw [tok_name h3, span_yes (by simp [h3])]; exact Nat.succ_pos _
    by_cases h4 : kd c.toNat = 4
    · rw [tok_num h4, span_yes (by simp [h4])]; exact Nat.succ_pos _
    by_cases h5 : kd c.toNat = 5
    · rw [tok_sign h5]; decide
    by_cases h6 : kd c.toNat = 6 ∧ r.head? = some 61
    · rw [tok_colon h6.1 h6.2]; decide
    rw [tok_bad h3 h4 h5 (fun h h' => h6 ⟨h, h'⟩)]; decide
theorem tok_len : ∀ r : List UInt8, r ≠ [] → (tokAt r).n ≤ r.length
  | [], h => absurd rfl h
  | c :: r, _ => by
    by_cases h3 : kd c.toNat = 3
    · rw [tok_name h3]; exact span_le _ _
    by_cases h4 : kd c.toNat = 4
    · rw [tok_num h4]; exact span_le _ _
    by_cases h5 : kd c.toNat = 5
    · rw [tok_sign h5]; simp
    by_cases h6 : kd c.toNat = 6 ∧ r.head? = some 61
    · rw [tok_colon h6.1 h6.2]
      cases r with
      | nil => simp at h6
      | cons d r => simp
    rw [tok_bad h3 h4 h5 (fun h h' => h6 ⟨h, h'⟩)]; simp

/-- tokens from i on: kind, offset and length of each; or the offset of the first error, and the error -/
abbrev Res := List (Nat × Nat × Nat) × Nat × Nat
def glue (t : Nat × Nat × Nat) (r : Res) : Res := (if r.2.2 = 0 then t :: r.1 else [], r.2)
def lexW (l : List UInt8) (i : Nat) : Res :=
  if h : i < l.length then
    if (tokAt (l.drop i)).e = 0 then
      glue ((tokAt (l.drop i)).k, i, (tokAt (l.drop i)).n) (lexW l (i + (tokAt (l.drop i)).n + sk false (l.drop (i + (tokAt (l.drop i)).n))))
    else ([], i, (tokAt (l.drop i)).e)
  else ([(0, l.length, 0)], 0, 0)
termination_by l.length - i
decreasing_by have := tok_pos (l.drop i); omega
theorem lexW_end {l : List UInt8} {i : Nat} (h : l.length ≤ i) : lexW l i = ([(0, l.length, 0)], 0, 0) := by
  rw [lexW, dif_neg (by omega)]
theorem lexW_bad {l : List UInt8} {i : Nat} (h : i < l.length) (h2 : (tokAt (l.drop i)).e ≠ 0) : lexW l i = ([], i, (tokAt (l.drop i)).e) := by
  rw [lexW, dif_pos h, if_neg h2]
theorem lexW_ok {l : List UInt8} {i : Nat} (h : i < l.length) (h2 : (tokAt (l.drop i)).e = 0) :
    lexW l i = glue ((tokAt (l.drop i)).k, i, (tokAt (l.drop i)).n) (lexW l (i + (tokAt (l.drop i)).n + sk false (l.drop (i + (tokAt (l.drop i)).n)))) := by
  rw [lexW, dif_pos h, if_pos h2]
/-- what is returned, where these tokens have been met -/
def fin (acc : List (Nat × Nat × Nat)) (r : Res) : Res := (if r.2.2 = 0 then acc ++ r.1 else [], r.2)
theorem fin_glue (acc : List (Nat × Nat × Nat)) (t : Nat × Nat × Nat) (r : Res) : fin acc (glue t r) = fin (acc ++ [t]) r := by
  unfold fin glue
  split <;> simp_all
theorem fin_end (acc : List (Nat × Nat × Nat)) (n : Nat) : fin acc ([(0, n, 0)], 0, 0) = (acc ++ [(0, n, 0)], 0, 0) := rfl
theorem fin_bad (acc : List (Nat × Nat × Nat)) (i e : Nat) (h : e ≠ 0) : fin acc ([], i, e) = ([], i, e) := by
  unfold fin
  rw [if_neg h]
/-- all tokens -/
def lexAll (l : List UInt8) : Res := if 20000 < l.length then ([], 0, 4) else fin [] (lexW l (sk false l))

/-- the cells of a token -/
def cells (l : List UInt8) (t : Nat × Nat × Nat) : List Go.Value := [.int .i64 (t.1 : Nat), .int .i64 (t.2.1 : Nat), .int .i64 ((t.2.1 + t.2.2 : Nat)), .string ⟨((l.drop t.2.1).take t.2.2).toArray⟩]
theorem cells_len (l : List UInt8) (t : Nat × Nat × Nat) : (cells l t).length = 4 := rfl
end Lx

set_option linter.unusedVariables false
set_option linter.unusedSimpArgs false
namespace Go.Proofs.YtiaonbofkgkdhaaGreatDoor
open Go.RowKit _root_.Nm Lx

theorem gcl {W w1 : World} (hb : W.grownBy w1 none) : ∀ b o, b < W.heap.size → w1.cell? ⟨b, o, none⟩ = W.cell? ⟨b, o, none⟩ := fun b o h => World.cell?_of_block (hb.block b h (by simp))
theorem gfl {W w1 : World} (hb : W.grownBy w1 none) : ∀ b o, b < W.heap.size → w1.frozen? ⟨b, o, none⟩ = W.frozen? ⟨b, o, none⟩ := fun b o h => World.frozen?_of_block (hb.block b h (by simp))
theorem ret_i {a b : Nat} (h : a = b) : Ending.returned (.int .i64 (a : Int)) = .returned (.int .i64 (b : Int)) := by rw [h]
theorem ret_d {b : Bool} {p : Prop} [Decidable p] (h : b = true ↔ p) : Ending.returned (.bool b) = .returned (.bool (decide p)) := by
  rw [show b = decide p from by cases b <;> simp_all]
theorem ret_b {a b : Bool} (h : a = b) : Ending.returned (.bool a) = .returned (.bool b) := by rw [h]

theorem kd_val {m k : Nat} (h : ((65 ≤ m ∧ m ≤ 90 ∨ 97 ≤ m ∧ m ≤ 122) ∧ k = 3) ∨ ((48 ≤ m ∧ m ≤ 57) ∧ k = 4) ∨ ((m = 32 ∨ m = 9 ∨ m = 13 ∨ m = 10) ∧ k = 1) ∨ (m = 35 ∧ k = 2) ∨
    ((m = 40 ∨ m = 41 ∨ m = 44 ∨ m = 59 ∨ m = 47 ∨ m = 45) ∧ k = 5) ∨ (m = 58 ∧ k = 6) ∨
    (¬ (65 ≤ m ∧ m ≤ 90 ∨ 97 ≤ m ∧ m ≤ 122) ∧ ¬ (48 ≤ m ∧ m ≤ 57) ∧ ¬ (m = 32 ∨ m = 9 ∨ m = 13 ∨ m = 10) ∧ m ≠ 35 ∧ ¬ (m = 40 ∨ m = 41 ∨ m = 44 ∨ m = 59 ∨ m = 47 ∨ m = 45) ∧ m ≠ 58 ∧ k = 0)) : k = kd m := by
  unfold kd; (repeat' split) <;> omega

set_option maxHeartbeats 2000000 in
theorem kindOf_any (m : Nat) (hm : m < 256) (w : World) : Calls Tryz.prog 167 #[.int .u8 (m : Int)] w fun e w' => e = .returned (.int .i64 (kd m : Nat)) ∧ w = w' := by
  go_enter Tryz.func167, Tryz.ntmps167
  go_wp2_with fail
  all_goals
    go_ret
    refine ⟨ret_i (kd_val ?_), rfl⟩
    simp_all
    try omega

set_option maxHeartbeats 2000000 in
theorem letter_any (m : Nat) (hm : m < 256) (w : World) : Calls Tryz.prog 141 #[.int .u8 (m : Int)] w fun e w' => e = .returned (.bool (decide (kd m = 3))) ∧ w = w' := by
  have HK := hid (kd_letter m)
  go_enter Tryz.func141, Tryz.ntmps141
  go_wp2_with fail
  all_goals
    go_ret
    refine ⟨ret_d ?_, rfl⟩
    rw [HK.out]
    clear HK
    simp_all
    try omega
set_option maxHeartbeats 2000000 in
theorem lxDigit_any (m : Nat) (hm : m < 256) (w : World) : Calls Tryz.prog 142 #[.int .u8 (m : Int)] w fun e w' => e = .returned (.bool (decide (kd m = 4))) ∧ w = w' := by
  have HK := hid (kd_digit m)
  go_enter Tryz.func142, Tryz.ntmps142
  go_wp2_with fail
  all_goals
    go_ret
    refine ⟨ret_d ?_, rfl⟩
    rw [HK.out]
    clear HK
    simp_all
    try omega

/-- where a number stands in a list, its length where it doesn't -/
def pos (m : Nat) : List Nat → Nat
  | [] => 0
  | x :: l => if m = x then 0 else pos m l + 1
set_option maxHeartbeats 2000000 in
theorem index_any (p : Option Addr) (n c : Nat) (xs : List Nat) (m : Nat) (w : World) (h : IRd w .i64 p n c xs) :
    Calls Tryz.prog 191 #[.slice p n c, .int .i64 (m : Int)] w fun e w' => ∃ i : Int, e = .returned (.int .i64 i) ∧ (0 ≤ i ↔ m ∈ xs) ∧ w = w' := by
  have hl := h.len
  have hc := h.cap
  have hm := h.max
  have HR := hid h
  clear h
  go_enter Tryz.func191, Tryz.ntmps191
  go_wp2_with fail
  go_loop [8] (fun i => ∃ k : Nat, k ≤ n ∧ i = .int .i64 k ∧ Hid (∀ j (h : j < xs.length), j < k → xs[j] ≠ m)) (fun i => n - (intOf i).toNat)
  case atStart => exact ⟨0, Nat.zero_le _, rfl, hid fun j h hj => by omega⟩
  case round =>
    obtain ⟨k, hk, rfl, HC⟩ := hrel
    by_cases hlt : k < n
    · obtain ⟨b, o, rfl, hcell⟩ := HR.out.cel k (by omega)
      obtain ⟨x, hx⟩ : ∃ x, x = xs[k]'(by omega) := ⟨_, rfl⟩
      rw [← hx] at hcell
      have HX := hid hx
      clear hx
      by_cases hxm : m = x
      · have HM : Hid (m ∈ xs) := hid (by rw [hxm, HX.out]; exact List.getElem_mem _)
        subst hxm
        go_wp2_with fail
        go_ret
        exact ⟨k, rfl, ⟨fun _ => HM.out, fun _ => by omega⟩, rfl⟩
      · have hne : ((m : Int) == (x : Int)) = false := by simpa using (by omega : ¬ (m : Int) = (x : Int))
        have HN : Hid (∀ j (h : j < xs.length), j < k + 1 → xs[j] ≠ m) := hid fun j h hj => by
          by_cases hjk : j = k
          · subst hjk; rw [← HX.out]; exact fun e => hxm e.symm
          · exact HC.out j h (by omega)
        clear hxm
        go_wp2_with fail
        exact ⟨⟨k + 1, by omega, rfl, HN⟩, by simp [intOf]; omega⟩
    · obtain rfl : k = n := by omega
      have HN : Hid (m ∉ xs) := hid fun hmem => by
        obtain ⟨j, hj, e⟩ := List.getElem_of_mem hmem
        exact HC.out j hj (by omega) e
      go_wp2_with fail
      go_ret
      exact ⟨-1, rfl, ⟨fun h => by omega, fun h => absurd h HN.out⟩, rfl⟩
set_option maxHeartbeats 2000000 in
theorem contains_any (p : Option Addr) (n c : Nat) (xs : List Nat) (m : Nat) (w : World) (h : IRd w .i64 p n c xs) :
    Calls Tryz.prog 185 #[.slice p n c, .int .i64 (m : Int)] w fun e w' => e = .returned (.bool (decide (m ∈ xs))) ∧ w = w' := by
  have HC := hid (index_any p n c xs m w h)
  clear h
  go_enter Tryz.func185, Tryz.ntmps185
  go_wp2_with fail
  refine HC.out.mono ?_
  rintro e w' ⟨i, rfl, hi, rfl⟩
  have HI := hid hi
  clear hi
  go_wp2_with fail
  go_ret
  exact ⟨ret_b (decide_eq_decide.2 HI.out), rfl⟩

theorem idx_at (s : ByteArray) (l : List UInt8) (hl : s.data.toList = l) (k : Nat) (hk : k < l.length) (w : World) :
    (Instr.index 9 (.string s) (.int .i64 (k : Int))).run Tryz.prog w = .ok (.int .u8 (l[k].toNat : Int)) w := by
  subst hl
  have hs : k < s.size := by rw [Lib.size_eq]; exact hk
  rw [run_index_string w 9 s .i64 (k : Int) (by kernel_rfl), dif_pos ⟨by omega, by omega⟩]
  simp only [Int.toNat_natCast]
  rfl

theorem u8_lt (c : UInt8) : c.toNat < 256 := c.toNat_lt
set_option maxHeartbeats 2000000 in
theorem run_any (s : ByteArray) (l : List UInt8) (hl : s.data.toList = l) (hmax : l.length ≤ 9223372036854775807) (i : Nat) (hi : i ≤ l.length) (p : Option Addr) (n c : Nat) (ks : List Nat) (w : World) (h : IRd w .i64 p n c ks) :
    Calls Tryz.prog 168 #[.string s, .int .i64 (i : Int), .slice p n c] w fun e w' => e = .returned (.int .i64 ((i + span ks (l.drop i) : Nat) : Int)) ∧ w = w' := by
  have hsz : s.size = l.length := by rw [Lib.size_eq, hl]
  have HIX := hid (idx_at s l hl)
  have HR := hid h
  obtain ⟨T, hT⟩ : ∃ T, i + span ks (l.drop i) = T := ⟨_, rfl⟩
  rw [hT]
  have HT := hid hT
  clear hl h hT
  go_enter Tryz.func168, Tryz.ntmps168
  go_wp2_with fail
  go_loop [1] (fun x => ∃ k : Nat, k ≤ l.length ∧ x = .int .i64 k ∧ Hid (k + span ks (l.drop k) = T)) (fun x => l.length - (intOf x).toNat)
  case atStart => exact ⟨i, hi, rfl, HT⟩
  case round =>
    obtain ⟨k, hk, rfl, HC⟩ := hrel
    by_cases hlt : k < l.length
    · have hix := HIX.out k hlt
      have hd : l.drop k = l[k] :: l.drop (k + 1) := List.drop_eq_getElem_cons hlt
      obtain ⟨ch, hc⟩ : ∃ ch, ch = l[k] := ⟨_, rfl⟩
      rw [← hc] at hix hd
      have HD := hid hd
      clear hc hd
      have HKO := hid (kindOf_any ch.toNat (u8_lt ch))
      by_cases hin : kd ch.toNat ∈ ks
      · have HS : Hid (k + 1 + span ks (l.drop (k + 1)) = T) := hid (by have := HC.out; rw [HD.out, span_yes hin] at this; omega)
        have HCT := hid fun w (h : IRd w .i64 p n c ks) => (decide_eq_true hin ▸ contains_any p n c ks (kd ch.toNat) w h)
        clear hin
        go_wp2_with (first | (go_at_call 167; refine (HKO.out _).mono ?_; rintro e w' ⟨rfl, rfl⟩) | (go_at_call 185; refine (HCT.out _ HR.out).mono ?_; rintro e w' ⟨rfl, rfl⟩))
        exact ⟨⟨k + 1, by omega, rfl, HS⟩, by simp [intOf]; omega⟩
      · have HS : Hid (k = T) := hid (by have := HC.out; rw [HD.out, span_no hin] at this; omega)
        have HCT := hid fun w (h : IRd w .i64 p n c ks) => (decide_eq_false hin ▸ contains_any p n c ks (kd ch.toNat) w h)
        clear hin
        go_wp2_with (first | (go_at_call 167; refine (HKO.out _).mono ?_; rintro e w' ⟨rfl, rfl⟩) | (go_at_call 185; refine (HCT.out _ HR.out).mono ?_; rintro e w' ⟨rfl, rfl⟩))
        go_ret
        exact ⟨ret_i HS.out, rfl⟩
    · obtain rfl : k = l.length := by omega
      have HS : Hid (l.length = T) := hid (by have := HC.out; rw [List.drop_of_length_le (Nat.le_refl _), span_nil] at this; omega)
      go_wp2_with fail
      go_ret
      exact ⟨ret_i HS.out, rfl⟩
end Go.Proofs.YtiaonbofkgkdhaaGreatDoor

set_option linter.unusedVariables false
set_option linter.unusedSimpArgs false
namespace Go.Proofs.YtiaonbofkgkdhaaGreatDoor
open Go.RowKit _root_.Nm Lx


theorem idx_nl : ∀ r : List UInt8, (Lib.indexByte r 10 = -1 ∧ nl r = r.length) ∨ (Lib.indexByte r 10 = (nl r : Nat))
  | [] => .inl ⟨rfl, rfl⟩
  | c :: r => by
    have ih := idx_nl r
    by_cases h : c.toNat = 10
    · have hc : c = 10 := UInt8.toNat_inj.1 h
      right
      have e1 : nl (c :: r) = 0 := if_pos h
      have e2 : Lib.indexByte (c :: r) 10 = 0 := by subst hc; rfl
      rw [e1, e2]; rfl
    · have hc : (c == 10) = false := by
        cases e : c == 10 with
        | false => rfl
        | true => exact absurd (by rw [eq_of_beq e]; rfl) h
      have e1 : nl (c :: r) = nl r + 1 := if_neg h
      have e2 : Lib.indexByte (c :: r) 10 = if Lib.indexByte r 10 == -1 then -1 else Lib.indexByte r 10 + 1 := by
        show (if c == 10 then _ else _) = _
        rw [hc]; rfl
      rcases ih with ⟨i1, i2⟩ | i1
      · left; rw [e1, e2, i1, i2]; exact ⟨rfl, rfl⟩
      · right
        rw [e1, e2, i1]
        have : (((nl r : Nat) : Int) == -1) = false := by
          cases e : (((nl r : Nat) : Int) == -1) with
          | false => rfl
          | true => have := eq_of_beq e; omega
        rw [this]; simp

theorem slice_f (s : ByteArray) (l : List UInt8) (hl : s.data.toList = l) (k : Nat) (hk : k ≤ l.length) (w : World) :
    (Instr.slice 9 (.string s) (some (.int .i64 (k : Int))) none none).run Tryz.prog w = .ok (.string ⟨(l.drop k).toArray⟩) w := by
  subst hl
  have hk' : k ≤ s.size := by rw [Lib.size_eq]; exact hk
  rw [run_slice_string_from_if w 9 s .i64 (k : Int) (by kernel_rfl), if_pos ⟨by omega, by omega⟩, Int.toNat_natCast, Lib.extract_eq]
  rw [List.take_of_length_le]
  rw [List.length_drop, Lib.size_eq]; omega


theorem one_k (w : World) (T : TypeId) (k : Nat) : IRd (w.alloc (.cells #[.int .i64 (k : Int)] T)) .i64 (some ⟨w.heap.size, 0, none⟩) 1 1 [k] := by
  have := (IRow.made w T .i64 [k]).rd0 (by simp)
  simpa using this

end Go.Proofs.YtiaonbofkgkdhaaGreatDoor

set_option linter.unusedVariables false
set_option linter.unusedSimpArgs false
namespace Go.Proofs.YtiaonbofkgkdhaaGreatDoor
open Go.RowKit _root_.Nm Lx

end Go.Proofs.YtiaonbofkgkdhaaGreatDoor

set_option linter.unusedVariables false
set_option linter.unusedSimpArgs false
namespace Go.Proofs.YtiaonbofkgkdhaaGreatDoor
open Go.RowKit _root_.Nm Lx

theorem slice_r (s : ByteArray) (l : List UInt8) (hl : s.data.toList = l) (i n : Nat) (hk : i + n ≤ l.length) (x : Int) (hx : x = ((i + n : Nat) : Int)) (w : World) :
    (Instr.slice 9 (.string s) (some (.int .i64 (i : Int))) (some (.int .i64 x)) none).run Tryz.prog w = .ok (.string ⟨((l.drop i).take n).toArray⟩) w := by
  subst hl hx
  have hk' : i + n ≤ s.size := by rw [Lib.size_eq]; exact hk
  rw [run_slice_string w 9 s .i64 .i64 (i : Int) ((i + n : Nat) : Int) (by kernel_rfl) (by omega) (by omega) (by omega), Int.toNat_natCast, Int.toNat_natCast, Lib.extract_eq, show i + n - i = n by omega]

/-- a token, or an error -/
def NxP (l : List UInt8) (i : Nat) (t : Tk) (w : World) (e : Ending) (w' : World) : Prop :=
  (∃ (a b c : Int) (d : ByteArray), e = .returned (.tuple #[.agg #[.int .i64 a, .int .i64 b, .int .i64 c, .string d], .int .i64 (t.e : Nat)]) ∧ (t.e = 0 → [Value.int .i64 a, .int .i64 b, .int .i64 c, .string d] = cells l (t.k, i, t.n))) ∧ w.grownBy w' none
theorem NxP.bad {l : List UInt8} {i : Nat} {t : Tk} {w w' : World} {k : Nat} (h : t.e = k) (hk : k ≠ 0) (hg : w.grownBy w' none) (a b c : Int) (d : ByteArray) : NxP l i t w (.returned (.tuple #[.agg #[.int .i64 a, .int .i64 b, .int .i64 c, .string d], .int .i64 (k : Int)])) w' := by
  subst h
  exact ⟨⟨a, b, c, d, rfl, fun e => absurd e hk⟩, hg⟩
theorem NxP.ok {l : List UInt8} {i : Nat} {t : Tk} {w w' : World} (h : t.e = 0) (hg : w.grownBy w' none) {a b c : Int} {d : ByteArray} (hc : [Value.int .i64 a, .int .i64 b, .int .i64 c, .string d] = cells l (t.k, i, t.n)) : NxP l i t w (.returned (.tuple #[.agg #[.int .i64 a, .int .i64 b, .int .i64 c, .string d], .int .i64 0])) w' :=
  ⟨⟨a, b, c, d, by rw [h]; rfl, fun _ => hc⟩, hg⟩


theorem kinds2 (w : World) (T : TypeId) (b : Nat) (hb : b = w.heap.size) : IRd (w.alloc (.cells #[.int .i64 3, .int .i64 4] T)) .i64 (some ⟨b, 0, none⟩) 2 2 [3, 4] := by
  subst hb
  exact (IRow.made w T .i64 [3, 4]).rd0 (by simp)
theorem kinds1 (w : World) (T : TypeId) (b : Nat) (hb : b = w.heap.size) : IRd (w.alloc (.cells #[.int .i64 4] T)) .i64 (some ⟨b, 0, none⟩) 1 1 [4] := by
  subst hb
  exact (IRow.made w T .i64 [4]).rd0 (by simp)
theorem run_j (s : ByteArray) (l : List UInt8) (hl : s.data.toList = l) (hmax : l.length ≤ 9223372036854775807) (i : Nat) (hi : i ≤ l.length) (p : Option Addr) (n c : Nat) (ks : List Nat) (j : Nat) (hj : j = i + span ks (l.drop i)) (w : World) (h : IRd w .i64 p n c ks) :
    Calls Tryz.prog 168 #[.string s, .int .i64 (i : Int), .slice p n c] w fun e w' => e = .returned (.int .i64 (j : Int)) ∧ w = w' := by
  subst hj
  exact run_any s l hl hmax i hi p n c ks w h

end Go.Proofs.YtiaonbofkgkdhaaGreatDoor

set_option linter.unusedVariables false
namespace Go.Proofs.YtiaonbofkgkdhaaGreatDoor
open Go.Shelf Go.RowKit _root_.Nm
set_option maxRecDepth 100000
def lxRen2 : Ren := ⟨fun n => match n with
    | 26 => 169
    | 33 => 186
    | 34 => 187
    | 38 => 192
    | n => n,
  fun n => match n with
    | 0 => 0
    | 3 => 3
    | 4 => 4
    | 9 => 9
    | 24 => 31
    | 40 => 146
    | n => n,
  fun n => n⟩
theorem lx26 : Lays2.n26 Tryz.prog lxRen2 where
  mixed := by kernel_rfl
  f26 := by kernel_rfl
  f33 := by kernel_rfl
  f34 := by kernel_rfl
  f38 := by kernel_rfl
  t0 := by kernel_rfl
  a0 := fun _ => by kernel_rfl
  z0 := fun _ => by kernel_rfl
  v0 := fun _ => by kernel_rfl
  t3 := by kernel_rfl
  a3 := fun _ => by kernel_rfl
  z3 := fun _ => by kernel_rfl
  v3 := fun _ => by kernel_rfl
  t4 := by kernel_rfl
  a4 := fun _ => by kernel_rfl
  z4 := fun _ => by kernel_rfl
  v4 := fun _ => by kernel_rfl
  t9 := by kernel_rfl
  a9 := fun _ => by kernel_rfl
  z9 := fun _ => by kernel_rfl
  v9 := fun _ => by kernel_rfl
  t24 := by kernel_rfl
  a24 := fun _ => by kernel_rfl
  z24 := fun _ => by kernel_rfl
  v24 := fun _ => by kernel_rfl
  t40 := by kernel_rfl
  a40 := fun _ => by kernel_rfl
  z40 := fun _ => by kernel_rfl
  v40 := fun _ => by kernel_rfl
theorem binSearch_any (b off n c : Nat) (Sx : Nat → ByteArray) (x : ByteArray) (w : World) (hbig : n < 4611686018427387904) (hc : ∀ j, j < n → w.cell? ⟨b, off + j, none⟩ = some (.string (Sx j))) :
    Calls Tryz.prog 169 #[.slice (some ⟨b, off, none⟩) n c, .string x] w fun e w' =>
      e = .returned (.tuple #[.int .i64 (Lib.bsGo (fun t => Op.bytesLess (Sx t).toList x.toList) n 0 n : Nat), .bool (decide (Lib.bsGo (fun t => Op.bytesLess (Sx t).toList x.toList) n 0 n < n ∧ Sx (Lib.bsGo (fun t => Op.bytesLess (Sx t).toList x.toList) n 0 n) = x))]) ∧ ∃ q, w' = w.drewN q :=
  Any2.slices_BinarySearch_string lx26 b off n c Sx x w hbig hc
end Go.Proofs.YtiaonbofkgkdhaaGreatDoor

set_option linter.unusedVariables false
set_option linter.unusedSimpArgs false
namespace Go.Proofs.YtiaonbofkgkdhaaGreatDoor
open Go.RowKit _root_.Nm Lx

theorem numTk_ok {z : Bool} {n : Nat} (h1 : ¬ (z = true ∧ 1 < n)) (h2 : ¬ 1000 < n) : (numTk z n).e = 0 := by
  unfold numTk; dsimp only; rw [if_neg h1, if_neg h2]
theorem numTk_big {z : Bool} {n : Nat} (h1 : ¬ (z = true ∧ 1 < n)) (h2 : 1000 < n) : (numTk z n).e = 4 := by
  unfold numTk; dsimp only; rw [if_neg h1, if_pos h2]
theorem numTk_zero {z : Bool} {n : Nat} (h1 : z = true ∧ 1 < n) : (numTk z n).e = 5 := by
  unfold numTk; dsimp only; rw [if_pos h1]


/-- the world of next is the result's box and what its calls make -/
theorem NxP.box {l : List UInt8} {i : Nat} {t : Tk} {w w1 w' : World} {e : Ending} (h : NxP l i t w1 e w') (hg : w.grownBy w1 none) : NxP l i t w e w' :=
  ⟨h.1, grown_trans hg h.2⟩

end Go.Proofs.YtiaonbofkgkdhaaGreatDoor

set_option linter.unusedVariables false
set_option linter.unusedSimpArgs false
namespace Go.Proofs.YtiaonbofkgkdhaaGreatDoor
open Go.RowKit _root_.Nm Lx

/-- the token that begins with a byte that is neither a letter nor a digit -/
def sgn : List UInt8 → Tk
  | [] => ⟨3, 1, 5⟩
  | c :: r => if kd c.toNat = 5 then ⟨3, 1, 0⟩ else if kd c.toNat = 6 ∧ r.head? = some 61 then ⟨3, 2, 0⟩ else ⟨3, 1, 5⟩
theorem sgn_tok {c : UInt8} {r : List UInt8} (h3 : kd c.toNat ≠ 3) (h4 : kd c.toNat ≠ 4) : sgn (c :: r) = tokAt (c :: r) := by
  show (if _ then _ else if _ then _ else _) = (if _ then _ else if _ then _ else if _ then _ else if _ then _ else _)
  rw [if_neg h3, if_neg h4]

end Go.Proofs.YtiaonbofkgkdhaaGreatDoor

set_option linter.unusedVariables false
set_option linter.unusedSimpArgs false
namespace Go.Proofs.YtiaonbofkgkdhaaGreatDoor
open Go.RowKit _root_.Nm Lx

theorem letter_t {m : Nat} (hm : m < 256) (h : kd m = 3) (w : World) : Calls Tryz.prog 141 #[.int .u8 (m : Int)] w fun e w' => e = .returned (.bool true) ∧ w = w' :=
  (letter_any m hm w).mono fun _ _ ⟨e, r⟩ => ⟨by rw [e, decide_eq_true h], r⟩
theorem letter_f {m : Nat} (hm : m < 256) (h : kd m ≠ 3) (w : World) : Calls Tryz.prog 141 #[.int .u8 (m : Int)] w fun e w' => e = .returned (.bool false) ∧ w = w' :=
  (letter_any m hm w).mono fun _ _ ⟨e, r⟩ => ⟨by rw [e, decide_eq_false h], r⟩
theorem digit_t {m : Nat} (hm : m < 256) (h : kd m = 4) (w : World) : Calls Tryz.prog 142 #[.int .u8 (m : Int)] w fun e w' => e = .returned (.bool true) ∧ w = w' :=
  (lxDigit_any m hm w).mono fun _ _ ⟨e, r⟩ => ⟨by rw [e, decide_eq_true h], r⟩
theorem digit_f {m : Nat} (hm : m < 256) (h : kd m ≠ 4) (w : World) : Calls Tryz.prog 142 #[.int .u8 (m : Int)] w fun e w' => e = .returned (.bool false) ∧ w = w' :=
  (lxDigit_any m hm w).mono fun _ _ ⟨e, r⟩ => ⟨by rw [e, decide_eq_false h], r⟩

theorem blk01 (w : World) (A B : Obj) : ((w.alloc A).alloc B).heap[w.heap.size + 1]? = some B := by
  have h := blk0 (w.alloc A) B
  rw [show (w.alloc A).heap.size = w.heap.size + 1 by simp] at h
  exact h

/-- the world in the loop of word: the result's box, and the token's -/
structure WdR (w wr : World) (k i q : Nat) : Prop where
  g : w.grownBy wr none


end Go.Proofs.YtiaonbofkgkdhaaGreatDoor

set_option linter.unusedVariables false
set_option linter.unusedSimpArgs false
namespace Lx

theorem span_take (ks : List Nat) : ∀ (r : List UInt8) (m : Nat), span ks (r.take m) = min (span ks r) m
  | [], m => by simp [span]
  | c :: r, 0 => by simp [span]
  | c :: r, m + 1 => by
    rw [List.take_succ_cons]
    by_cases h : kd c.toNat ∈ ks
    · rw [span_yes h, span_yes h, span_take ks r m]; omega
    · rw [span_no h, span_no h]; simp
theorem sk_take : ∀ (b : Bool) (r : List UInt8) (m : Nat), sk b (r.take m) = min (sk b r) m
  | b, [], m => by simp [sk_nil]
  | b, c :: r, 0 => by simp [sk_nil]
  | true, c :: r, m + 1 => by
    rw [List.take_succ_cons]
    by_cases h : c.toNat = 10
    · rw [sk_feed h, sk_feed h, sk_blank ((kd_blank _).2 (by omega)), sk_blank ((kd_blank _).2 (by omega)), sk_take false r m]; omega
    · rw [sk_in h, sk_in h, sk_take true r m]; omega
  | false, c :: r, m + 1 => by
    rw [List.take_succ_cons]
    by_cases h1 : kd c.toNat = 1
    · rw [sk_blank h1, sk_blank h1, sk_take false r m]; omega
    by_cases h2 : kd c.toNat = 2
    · rw [sk_hash h2, sk_hash h2, sk_take true r m]; omega
    · rw [sk_none h1 h2, sk_none h1 h2]; simp
theorem tok_take : ∀ (r : List UInt8) (m : Nat), (tokAt r).e = 0 → (tokAt r).n ≤ m → tokAt (r.take m) = tokAt r
  | [], m, h, _ => by simp [tokAt] at h
  | c :: r, 0, h, hn => by have := tok_pos (c :: r); omega
  | c :: r, m + 1, h, hn => by
    have ht : (c :: r).take (m + 1) = c :: r.take m := rfl
    by_cases h3 : kd c.toNat = 3
    · have e := tok_name h3 r
      rw [e] at hn
      have hn' : span [3, 4] (c :: r) ≤ m + 1 := hn
      rw [ht, tok_name h3, e, ← ht, span_take, Nat.min_eq_left hn']
    by_cases h4 : kd c.toNat = 4
    · have e := tok_num h4 r
      rw [e] at hn
      have hn' : span [4] (c :: r) ≤ m + 1 := hn
      rw [ht, tok_num h4, e, ← ht, span_take, Nat.min_eq_left hn']
    by_cases h5 : kd c.toNat = 5
    · rw [ht, tok_sign h5, tok_sign h5]
    by_cases h6 : kd c.toNat = 6 ∧ r.head? = some 61
    · have e := tok_colon h6.1 h6.2
      rw [e] at hn
      have hn' : 2 ≤ m + 1 := hn
      rw [ht, e]
      refine tok_colon h6.1 ?_
      cases r with
      | nil => simp at h6
      | cons d r =>
        obtain ⟨m', rfl⟩ : ∃ m', m = m' + 1 := ⟨m - 1, by omega⟩
        simpa using h6.2
    · rw [tok_bad h3 h4 h5 (fun h h' => h6 ⟨h, h'⟩)] at h; simp at h

theorem glue_snd (t : Nat × Nat × Nat) (r : Res) : (glue t r).2 = r.2 := rfl
theorem next_le {l : List UInt8} {i : Nat} (h : i < l.length) : i + (tokAt (l.drop i)).n ≤ l.length := by
  have := tok_len (l.drop i) (by intro e; have := congrArg List.length e; rw [List.length_drop] at this; simp at this; omega)
  rw [List.length_drop] at this
  omega
theorem skip_le {l : List UInt8} {i : Nat} (h : i ≤ l.length) (b : Bool) : i + sk b (l.drop i) ≤ l.length := by
  have := sk_le b (l.drop i)
  rw [List.length_drop] at this
  omega
/-- what stands before the first error has none -/
theorem lexW_prefix (l : List UInt8) : ∀ (k i : Nat), l.length - i ≤ k → (lexW l i).2.2 ≠ 0 → i ≤ (lexW l i).2.1 ∧ (lexW l i).2.1 < l.length ∧ (lexW (l.take (lexW l i).2.1) i).2.2 = 0 := by
  intro k
  induction k with
  | zero => intro i hk he; rw [lexW_end (by omega)] at he; exact absurd rfl he
  | succ k ih =>
    intro i hk he
    by_cases hlt : i < l.length
    · by_cases h0 : (tokAt (l.drop i)).e = 0
      · have hpos := tok_pos (l.drop i)
        have hnl := next_le hlt
        have e := lexW_ok hlt h0
        rw [e, glue_snd] at he ⊢
        obtain ⟨h1, h2, h3⟩ := ih _ (by omega) he
        generalize ha : (lexW l (i + (tokAt (l.drop i)).n + sk false (l.drop (i + (tokAt (l.drop i)).n)))).2.1 = a at h1 h2 h3 ⊢
        have hil : i < (l.take a).length := by rw [List.length_take]; omega
        have hd : (l.take a).drop i = (l.drop i).take (a - i) := by rw [List.drop_take]
        have ht : tokAt ((l.take a).drop i) = tokAt (l.drop i) := by rw [hd]; exact tok_take _ _ h0 (by omega)
        refine ⟨by omega, h2, ?_⟩
        rw [lexW_ok hil (by rw [ht]; exact h0), glue_snd, ht]
        have hd2 : (l.take a).drop (i + (tokAt (l.drop i)).n) = (l.drop (i + (tokAt (l.drop i)).n)).take (a - (i + (tokAt (l.drop i)).n)) := by rw [List.drop_take]
        rw [hd2, sk_take, Nat.min_eq_left (by omega)]
        exact h3
      · rw [lexW_bad hlt h0]
        refine ⟨Nat.le_refl _, hlt, ?_⟩
        show (lexW (l.take i) i).2.2 = 0
        rw [lexW_end (by rw [List.length_take]; omega)]
    · rw [lexW_end (by omega)] at he; exact absurd rfl he
theorem lexW_zero (l : List UInt8) : ∀ (k i : Nat), l.length - i ≤ k → (lexW l i).2.2 = 0 → (lexW l i).2.1 = 0 := by
  intro k
  induction k with
  | zero => intro i hk he; rw [lexW_end (by omega)]
  | succ k ih =>
    intro i hk he
    by_cases hlt : i < l.length
    · by_cases h0 : (tokAt (l.drop i)).e = 0
      · have hpos := tok_pos (l.drop i)
        have e := lexW_ok hlt h0
        rw [e, glue_snd] at he ⊢
        exact ih _ (by omega) he
      · rw [lexW_bad hlt h0] at he; exact absurd he h0
    · rw [lexW_end (by omega)]
theorem fin_snd (acc : List (Nat × Nat × Nat)) (r : Res) : (fin acc r).2 = r.2 := rfl
theorem lexAll_zero {l : List UInt8} (h : (lexAll l).2.2 = 0) : (lexAll l).2.1 = 0 := by
  unfold lexAll at h ⊢
  split at h
  · cases h
  · rw [if_neg (by assumption)]
    rw [fin_snd] at h ⊢
    exact lexW_zero l _ _ (Nat.le_refl _) h
theorem lexAll_prefix {l : List UInt8} (h : (lexAll l).2.2 ≠ 0) (ha : (lexAll l).2.1 ≠ 0) : (lexAll l).2.1 < l.length ∧ (lexAll (l.take (lexAll l).2.1)).2.2 = 0 := by
  by_cases hb : 20000 < l.length
  · have e : lexAll l = ([], 0, 4) := if_pos hb
    rw [e] at ha; exact absurd rfl ha
  · have e : lexAll l = fin [] (lexW l (sk false l)) := if_neg hb
    rw [e, fin_snd] at h ha ⊢
    obtain ⟨h1, h2, h3⟩ := lexW_prefix l _ _ (Nat.le_refl _) h
    refine ⟨h2, ?_⟩
    have e2 : lexAll (l.take (lexW l (sk false l)).2.1) = fin [] (lexW (l.take (lexW l (sk false l)).2.1) (sk false (l.take (lexW l (sk false l)).2.1))) := if_neg (by rw [List.length_take]; omega)
    rw [e2, fin_snd, sk_take, Nat.min_eq_left h1]
    exact h3

/-- in a comment or not, behind blanks and comments; none if there is something else -/
def br : Bool → List UInt8 → Option Bool
  | b, [] => some b
  | b, c :: r => if c.toNat = 10 then br false r else if b = true ∨ c.toNat = 32 ∨ c.toNat = 9 ∨ c.toNat = 13 then br b r else if c.toNat = 35 then br true r else none
theorem br_feed {b : Bool} {c : UInt8} (h : c.toNat = 10) (r : List UInt8) : br b (c :: r) = br false r := if_pos h
theorem br_same {b : Bool} {c : UInt8} (h : c.toNat ≠ 10) (h2 : b = true ∨ c.toNat = 32 ∨ c.toNat = 9 ∨ c.toNat = 13) (r : List UInt8) : br b (c :: r) = br b r := by
  show (if _ then _ else if _ then _ else _) = _
  rw [if_neg h, if_pos h2]
theorem br_hash {c : UInt8} (h : c.toNat = 35) (r : List UInt8) : br false (c :: r) = br true r := by
  show (if _ then _ else if _ then _ else if _ then _ else _) = _
  rw [if_neg (by omega), if_neg (fun h' => by rcases h' with h' | h' | h' | h' <;> first | (cases h'; done) | omega), if_pos h]
theorem br_none {b : Bool} {c : UInt8} (h : c.toNat ≠ 10) (h2 : ¬ (b = true ∨ c.toNat = 32 ∨ c.toNat = 9 ∨ c.toNat = 13)) (h3 : c.toNat ≠ 35) (r : List UInt8) : br b (c :: r) = none := by
  show (if _ then _ else if _ then _ else if _ then _ else _) = _
  rw [if_neg h, if_neg h2, if_neg h3]
theorem br_sk : ∀ (b : Bool) (r : List UInt8), ∃ b', br b (r.take (sk b r)) = some b' ∧ (sk b r < r.length → b' = false)
  | b, [] => ⟨b, by rw [sk_nil]; rfl, by simp⟩
  | true, c :: r => by
    by_cases h : c.toNat = 10
    · obtain ⟨b', h1, h2⟩ := br_sk false r
      rw [sk_feed h, sk_blank ((kd_blank _).2 (by omega)), List.take_succ_cons, br_feed h]
      exact ⟨b', h1, fun hl => h2 (by simpa using hl)⟩
    · obtain ⟨b', h1, h2⟩ := br_sk true r
      rw [sk_in h, List.take_succ_cons, br_same h (.inl rfl)]
      exact ⟨b', h1, fun hl => h2 (by simpa using hl)⟩
  | false, c :: r => by
    by_cases h1 : kd c.toNat = 1
    · have hb := (kd_blank _).1 h1
      obtain ⟨b', g1, g2⟩ := br_sk false r
      rw [sk_blank h1, List.take_succ_cons]
      by_cases h : c.toNat = 10
      · rw [br_feed h]; exact ⟨b', g1, fun hl => g2 (by simpa using hl)⟩
      · rw [br_same h (.inr (by omega))]; exact ⟨b', g1, fun hl => g2 (by simpa using hl)⟩
    by_cases h2 : kd c.toNat = 2
    · obtain ⟨b', g1, g2⟩ := br_sk true r
      rw [sk_hash h2, List.take_succ_cons, br_hash ((kd_hash _).1 h2)]
      exact ⟨b', g1, fun hl => g2 (by simpa using hl)⟩
    · rw [sk_none h1 h2]
      exact ⟨false, rfl, fun _ => rfl⟩

/-- tokens ascend, and leave out blanks and comments alone -/
def Cov (l : List UInt8) : Nat → List (Nat × Nat × Nat) → Prop
  | _, [] => False
  | f, [(k, i, n)] => k = 0 ∧ n = 0 ∧ i = l.length ∧ f ≤ i ∧ ∃ b, br false ((l.drop f).take (i - f)) = some b
  | f, (k, i, n) :: t :: r => k ≠ 0 ∧ 0 < n ∧ f ≤ i ∧ i + n ≤ l.length ∧ br false ((l.drop f).take (i - f)) = some false ∧ Cov l (i + n) (t :: r)
theorem tok_kind : ∀ r : List UInt8, (tokAt r).k ≠ 0
  | [] => by decide
  | c :: r => by
    by_cases h3 : kd c.toNat = 3
    · rw [tok_name h3]; show 1 ≠ 0; decide
    by_cases h4 : kd c.toNat = 4
    · rw [tok_num h4]; show 2 ≠ 0; decide
    by_cases h5 : kd c.toNat = 5
    · rw [tok_sign h5]; decide
    by_cases h6 : kd c.toNat = 6 ∧ r.head? = some 61
    · rw [tok_colon h6.1 h6.2]; decide
    rw [tok_bad h3 h4 h5 (fun h h' => h6 ⟨h, h'⟩)]; decide
theorem cov_W (l : List UInt8) : ∀ (k f : Nat), l.length - f ≤ k → f ≤ l.length → (lexW l (f + sk false (l.drop f))).2.2 = 0 → Cov l f (lexW l (f + sk false (l.drop f))).1 := by
  intro k
  induction k with
  | zero =>
    intro f hk hf he
    obtain rfl : f = l.length := by omega
    rw [lexW_end (by omega)]
    refine ⟨rfl, rfl, rfl, Nat.le_refl _, ?_⟩
    rw [List.drop_of_length_le (Nat.le_refl _)]
    exact ⟨false, by simp [br]⟩
  | succ k ih =>
    intro f hk hf he
    obtain ⟨b', hb1, hb2⟩ := br_sk false (l.drop f)
    rw [List.length_drop] at hb2
    have hsl := skip_le hf false
    obtain ⟨i, hi⟩ : ∃ i, i = f + sk false (l.drop f) := ⟨_, rfl⟩
    have hb3 : br false ((l.drop f).take (i - f)) = some b' := by rw [show i - f = sk false (l.drop f) by omega]; exact hb1
    rw [← hi] at he hsl ⊢
    by_cases hlt : i < l.length
    · have hbf := hb2 (by omega)
      subst hbf
      by_cases h0 : (tokAt (l.drop i)).e = 0
      · have hpos := tok_pos (l.drop i)
        have hnl := next_le hlt
        have e := lexW_ok hlt h0
        rw [e, glue_snd] at he
        have hc := ih (i + (tokAt (l.drop i)).n) (by omega) hnl he
        rw [e]
        unfold glue
        rw [if_pos he]
        show Cov l f (_ :: (lexW l _).1)
        generalize (lexW l (i + (tokAt (l.drop i)).n + sk false (l.drop (i + (tokAt (l.drop i)).n)))).1 = L at hc ⊢
        cases L with
        | nil => exact hc.elim
        | cons t r => exact ⟨tok_kind _, hpos, by omega, hnl, hb3, hc⟩
      · rw [lexW_bad hlt h0] at he; exact absurd he h0
    · obtain rfl : i = l.length := by omega
      rw [lexW_end (Nat.le_refl _)]
      exact ⟨rfl, rfl, rfl, by omega, b', hb3⟩
theorem cov_all {l : List UInt8} (h : (lexAll l).2.2 = 0) : Cov l 0 (lexAll l).1 := by
  by_cases hb : 20000 < l.length
  · have e : lexAll l = ([], 0, 4) := if_pos hb
    rw [e] at h; cases h
  · have e : lexAll l = fin [] (lexW l (sk false l)) := if_neg hb
    rw [e, fin_snd] at h
    have := cov_W l _ 0 (Nat.le_refl _) (Nat.zero_le _) (by simpa using h)
    rw [e]
    unfold fin
    rw [if_pos h]
    simpa using this
theorem lexAll_none {l : List UInt8} (h : (lexAll l).2.2 ≠ 0) : (lexAll l).1 = [] := by
  by_cases hb : 20000 < l.length
  · have e : lexAll l = ([], 0, 4) := if_pos hb
    rw [e]
  · have e : lexAll l = fin [] (lexW l (sk false l)) := if_neg hb
    rw [e, fin_snd] at h
    rw [e]
    unfold fin
    rw [if_neg h]

/-- points A; # all, and a line feed -/
def smp : List UInt8 := [112, 111, 105, 110, 116, 115, 32, 65, 59, 32, 35, 32, 97, 108, 108, 10]
theorem lex_smp : lexAll smp = ([(1, 0, 6), (1, 7, 1), (3, 8, 1), (0, 16, 0)], 0, 0) := by
  have e0 : lexW smp 16 = ([(0, 16, 0)], 0, 0) := lexW_end (by decide)
  have e1 : lexW smp 8 = ([(3, 8, 1), (0, 16, 0)], 0, 0) := by rw [lexW_ok (by decide) (by decide)]; exact congrArg (glue (3, 8, 1)) e0
  have e2 : lexW smp 7 = ([(1, 7, 1), (3, 8, 1), (0, 16, 0)], 0, 0) := by rw [lexW_ok (by decide) (by decide)]; exact congrArg (glue (1, 7, 1)) e1
  have e3 : lexW smp 0 = ([(1, 0, 6), (1, 7, 1), (3, 8, 1), (0, 16, 0)], 0, 0) := by rw [lexW_ok (by decide) (by decide)]; exact congrArg (glue (1, 0, 6)) e2
  have e4 : lexAll smp = fin [] (lexW smp (sk false smp)) := if_neg (by decide)
  have e5 : sk false smp = 0 := by decide
  rw [e4, e5, e3]; rfl
end Lx

set_option linter.unusedVariables false
set_option linter.unusedSimpArgs false
namespace Lx

/-- the keywords, ascending -/
def kws : List (List UInt8) := [
  [97, 110, 103, 108, 101],
  [97, 112, 101, 120],
  [98, 105, 115, 101, 99, 116, 111, 114],
  [99, 101, 110, 116, 101, 114],
  [99, 105, 114, 99, 108, 101],
  [99, 105, 114, 99, 117, 109],
  [99, 111, 108, 108, 105, 110, 101, 97, 114],
  [99, 111, 109, 109, 111, 110],
  [99, 111, 110, 99, 121, 99, 108, 105, 99],
  [99, 111, 110, 103, 114, 117, 101, 110, 116],
  [99, 114, 111, 115, 115],
  [99, 117, 116],
  [100, 105, 118, 105, 100, 101],
  [102, 111, 111, 116],
  [108, 105, 110, 101],
  [109, 101, 101, 116],
  [109, 105, 100, 112, 111, 105, 110, 116],
  [109, 105, 114, 114, 111, 114],
  [111, 110],
  [111, 116, 104, 101, 114],
  [112, 97, 114, 97, 108, 108, 101, 108],
  [112, 101, 114, 112, 101, 110, 100, 105, 99, 117, 108, 97, 114],
  [112, 111, 105, 110, 116, 115],
  [112, 114, 111, 118, 101],
  [114, 97, 116, 105, 111],
  [114, 101, 102, 108, 101, 99, 116],
  [115, 97, 109, 101],
  [115, 104, 105, 102, 116],
  [116, 117, 114, 110]]
/-- the shape of a name -/
def shp : List UInt8 → Bool
  | [] => false
  | c :: r => decide ((c :: r).length ≤ 20) && (decide (kd c.toNat = 3) && decide (span [3, 4] (c :: r) = (c :: r).length))
/-- is it a name -/
def isNm (l : List UInt8) : Bool := shp l && !(kws.contains l)
def kwAt (t : Nat) : List UInt8 := kws.getD t []
theorem kws_len : kws.length = 29 := rfl

def allB (p : Nat → Bool) : Nat → Bool
  | 0 => true
  | n + 1 => allB p n && p n
theorem allB_spec {p : Nat → Bool} : ∀ {n : Nat}, allB p n = true → ∀ i, i < n → p i = true
  | 0, _, i, h => absurd h (Nat.not_lt_zero i)
  | n + 1, h, i, hi => by
    simp only [allB, Bool.and_eq_true] at h
    by_cases e : i = n
    · subst e; exact h.2
    · exact allB_spec h.1 i (by omega)
theorem kw_find : ∀ j, j < 29 → (Go.Lib.bsGo (fun t => Go.Op.bytesLess (kwAt t) (kwAt j)) 29 0 29 == j) = true :=
  allB_spec (p := fun j => Go.Lib.bsGo (fun t => Go.Op.bytesLess (kwAt t) (kwAt j)) 29 0 29 == j) (by kernel_rfl)
theorem kw_names : ∀ j, j < 29 → isNm (kwAt j) = false := fun j h => by
  have := allB_spec (p := fun j => !(isNm (kwAt j))) (n := 29) (by kernel_rfl) j h
  simpa using this
theorem kw_more : ∀ j, j < 29 → isNm (kwAt j ++ [49]) = true := fun j h =>
  allB_spec (p := fun j => isNm (kwAt j ++ [49])) (n := 29) (by kernel_rfl) j h
theorem kw_mem {l : List UInt8} : l ∈ kws ↔ ∃ j, j < 29 ∧ kwAt j = l := by
  constructor
  · intro h
    obtain ⟨j, hj, e⟩ := List.getElem_of_mem h
    exact ⟨j, hj, by unfold kwAt; rw [List.getD_eq_getElem?_getD, List.getElem?_eq_getElem hj]; exact e⟩
  · rintro ⟨j, hj, rfl⟩
    unfold kwAt
    rw [List.getD_eq_getElem?_getD, List.getElem?_eq_getElem (show j < kws.length from hj)]
    exact List.getElem_mem _
/-- what a search by halves tells -/
theorem kw_search (l : List UInt8) : decide (Go.Lib.bsGo (fun t => Go.Op.bytesLess (kwAt t) l) 29 0 29 < 29 ∧ kwAt (Go.Lib.bsGo (fun t => Go.Op.bytesLess (kwAt t) l) 29 0 29) = l) = kws.contains l := by
  rw [List.contains_eq_mem]
  refine decide_eq_decide.2 ⟨fun h => kw_mem.2 ⟨_, h.1, h.2⟩, fun h => ?_⟩
  obtain ⟨j, hj, rfl⟩ := kw_mem.1 h
  have := eq_of_beq (kw_find j hj)
  rw [this]
  exact ⟨hj, rfl⟩
theorem shp_nil : shp [] = false := rfl
theorem shp_cons (c : UInt8) (r : List UInt8) : shp (c :: r) = (decide ((c :: r).length ≤ 20) && (decide (kd c.toNat = 3) && decide (span [3, 4] (c :: r) = (c :: r).length))) := rfl
theorem isNm_f {l : List UInt8} (h : shp l = false) : isNm l = false := by unfold isNm; rw [h]; rfl
theorem isNm_t {l : List UInt8} (h : shp l = true) : isNm l = !(kws.contains l) := by unfold isNm; rw [h]; rfl
end Lx

set_option linter.unusedVariables false
set_option linter.unusedSimpArgs false
namespace Go.Proofs.YtiaonbofkgkdhaaGreatDoor
open Go.RowKit _root_.Nm Lx

/-- a new slice of the keywords is returned -/
def KwP (w : World) (e : Ending) (w' : World) : Prop :=
  ∃ b : Nat, e = .returned (.slice (some ⟨b, 0, none⟩) 29 29) ∧ w.heap.size ≤ b ∧ (∀ j, j < 29 → w'.cell? ⟨b, j, none⟩ = some (.string ⟨(kwAt j).toArray⟩)) ∧ w.grownBy w' none
theorem KwP.mk (w : World) (T : TypeId) (A : Array Value) (hA : A.toList = kws.map fun k => .string ⟨k.toArray⟩) : KwP w (.returned (.slice (some ⟨w.heap.size, 0, none⟩) 29 29)) (w.alloc (.cells A T)) := by
  refine ⟨w.heap.size, rfl, Nat.le_refl _, fun j hj => ?_, World.grownBy_alloc _ _ _⟩
  rw [cell_of_row _ w.heap.size j A T (0, 0) (heap_alloc_new w _), ← Array.getElem?_toList, hA, List.getElem?_map]
  unfold kwAt
  rw [List.getD_eq_getElem?_getD, List.getElem?_eq_getElem (show j < kws.length from hj)]
  rfl
set_option maxHeartbeats 2000000 in
set_option maxRecDepth 100000 in
theorem keywords_any (w : World) : Calls Tryz.prog 170 #[] w (KwP w) := by
  go_enter Tryz.func170, Tryz.ntmps170
  go_wp2_with fail
  go_ret
  exact KwP.mk w _ _ rfl
set_option maxHeartbeats 2000000 in
set_option maxRecDepth 100000 in
theorem rkeywords_any (w : World) : Calls Tryz.prog 143 #[] w (KwP w) := by
  go_enter Tryz.func143, Tryz.ntmps143
  go_wp2_with fail
  go_ret
  exact KwP.mk w _ _ rfl

theorem kinds2' (w : World) (T : TypeId) (b : Nat) (hb : b = w.heap.size) : IRd (w.alloc (.cells #[.int .i64 3, .int .i64 4] T)) .i64 (some ⟨b, 0, none⟩) 2 2 [3, 4] := kinds2 w T b hb
theorem kindOf_k (m k : Nat) (hm : m < 256) (hk : kd m = k) (w : World) : Calls Tryz.prog 167 #[.int .u8 (m : Int)] w fun e w' => e = .returned (.int .i64 (k : Nat)) ∧ w = w' := by
  subst hk
  exact kindOf_any m hm w
theorem run_0 (s : ByteArray) (l : List UInt8) (hl : s.data.toList = l) (hmax : l.length ≤ 9223372036854775807) (p : Option Addr) (n c : Nat) (ks : List Nat) (j : Nat) (hj : j = span ks l) (w : World) (h : IRd w .i64 p n c ks) :
    Calls Tryz.prog 168 #[.string s, .int .i64 0, .slice p n c] w fun e w' => e = .returned (.int .i64 (j : Int)) ∧ w = w' := by
  have := run_j s l hl hmax 0 (Nat.zero_le _) p n c ks j (by rw [hj]; simp) w h
  exact this
theorem binKw (s : ByteArray) (l : List UInt8) (hl : s.data.toList = l) (F : Bool) (hF : F = kws.contains l) (b : Nat) (w : World) (h : ∀ j, j < 29 → w.cell? ⟨b, j, none⟩ = some (.string ⟨(kwAt j).toArray⟩)) :
    Calls Tryz.prog 169 #[.slice (some ⟨b, 0, none⟩) 29 29, .string s] w fun e w' => ∃ I : Nat, e = .returned (.tuple #[.int .i64 (I : Nat), .bool F]) ∧ w.grownBy w' none := by
  refine (binSearch_any b 0 29 29 (fun t => ⟨(kwAt t).toArray⟩) s w (by omega) (fun j hj => by rw [Nat.zero_add]; exact h j hj)).mono ?_
  rintro e w' ⟨rfl, q, rfl⟩
  have e1 : (fun t => Op.bytesLess (⟨(kwAt t).toArray⟩ : ByteArray).toList s.toList) = fun t => Op.bytesLess (kwAt t) l := by
    funext t
    rw [Lib.toList_data, Lib.toList_data, hl]
  simp only [e1]
  refine ⟨Lib.bsGo (fun t => Op.bytesLess (kwAt t) l) 29 0 29, ?_, grown_drewN _ _ _⟩
  have e2 : F = decide (Lib.bsGo (fun t => Op.bytesLess (kwAt t) l) 29 0 29 < 29 ∧ (⟨(kwAt (Lib.bsGo (fun t => Op.bytesLess (kwAt t) l) 29 0 29)).toArray⟩ : ByteArray) = s) := by
    rw [hF, ← kw_search l]
    refine decide_eq_decide.2 ⟨fun h => ⟨h.1, ?_⟩, fun h => ⟨h.1, ?_⟩⟩
    · rw [h.2, ← hl]
    · have := congrArg (fun x : ByteArray => x.data.toList) h.2
      exact (show kwAt _ = s.data.toList from this).trans hl
  rw [e2]
theorem ne_empty {s : ByteArray} {c : UInt8} {r : List UInt8} (h : s.data.toList = c :: r) : s.toList.isEmpty = false := by
  rw [Lib.toList_data, h]; rfl

set_option maxHeartbeats 4000000 in
set_option maxRecDepth 100000 in
theorem isName_any (s : ByteArray) (l : List UInt8) (hl : s.data.toList = l) (hmax : l.length ≤ 9223372036854775807) (w : World) :
    Calls Tryz.prog 139 #[.string s] w fun e w' => e = .returned (.bool (isNm l)) ∧ w.grownBy w' none := by
  have hsz : s.size = l.length := by rw [Lib.size_eq, hl]
  cases l with
  | nil =>
    obtain rfl : s = ⟨#[]⟩ := by rw [← Lib.mk_data s, hl]
    have HV : Hid (isNm [] = false) := hid rfl
    clear hl hsz
    go_enter Tryz.func139, Tryz.ntmps139
    go_wp2_with fail
    go_ret
    exact ⟨ret_b HV.out.symm, grown_refl _ _⟩
  | cons c r =>
    have hemp := ne_empty hl
    have hix := idx_at s (c :: r) hl 0 (by simp)
    have hix0 : ∀ w, (Instr.index 9 (.string s) (.int .i64 0)).run Tryz.prog w = .ok (.int .u8 (c.toNat : Int)) w := hix
    clear hix
    obtain ⟨V, hV⟩ : ∃ V, V = isNm (c :: r) := ⟨_, rfl⟩
    rw [← hV]
    have HV := hid hV
    clear hV
    by_cases h20 : 20 < (c :: r).length
    · have HF : Hid (V = false) := hid (by rw [HV.out]; exact isNm_f (by rw [shp_cons, decide_eq_false (by omega)]; rfl))
      have hb : (20 : Int) < (((c :: r).length : Nat) : Int) := by omega
      generalize (c :: r).length = len at *
      clear hl h20 HV
      go_enter Tryz.func139, Tryz.ntmps139
      go_wp2_with fail
      go_ret
      exact ⟨ret_b HF.out.symm, grown_refl _ _⟩
    have hb : ¬ (20 : Int) < (((c :: r).length : Nat) : Int) := by omega
    by_cases h3 : kd c.toNat = 3
    rotate_left
    · have HF : Hid (V = false) := hid (by rw [HV.out]; exact isNm_f (by rw [shp_cons, decide_eq_false h3]; simp))
      obtain ⟨k, hk⟩ : ∃ k, k = kd c.toNat := ⟨_, rfl⟩
      have HK := hid fun w => kindOf_k c.toNat k (u8_lt c) hk.symm w
      have hne : ((k : Int) != 3) = true := by
        have : ((k : Int) == 3) = false := by simpa using (by omega : ¬ (k : Int) = 3)
        simp [bne, this]
      generalize (c :: r).length = len at *
      clear hl h20 HV h3 hk
      go_enter Tryz.func139, Tryz.ntmps139
      go_wp2_with (go_at_call 167; (with_reducible refine (HK.out _).mono ?_); rintro e w' ⟨rfl, rfl⟩)
      go_ret
      exact ⟨ret_b HF.out.symm, grown_refl _ _⟩
    have HK := hid fun w => kindOf_k c.toNat 3 (u8_lt c) h3 w
    obtain ⟨j, hj⟩ : ∃ j, j = span [3, 4] (c :: r) := ⟨_, rfl⟩
    have HRN := hid fun W w' (h : IRd w' .i64 (some ⟨W, 0, none⟩) 2 2 [3, 4]) => run_0 s (c :: r) hl hmax (some ⟨W, 0, none⟩) 2 2 [3, 4] j hj w' h
    have hjl := span_le [3, 4] (c :: r)
    rw [← hj] at hjl
    by_cases hs : j = (c :: r).length
    rotate_left
    · have HF : Hid (V = false) := hid (by rw [HV.out]; exact isNm_f (by rw [shp_cons, ← hj, decide_eq_false hs]; simp))
      have hlt : (j : Int) < (((c :: r).length : Nat) : Int) := by omega
      generalize (c :: r).length = len at *
      clear hl h20 HV h3 hj hs
      go_enter Tryz.func139, Tryz.ntmps139
      go_wp2_with (first | (go_at_call 167; (with_reducible refine (HK.out _).mono ?_); rintro e w' ⟨rfl, rfl⟩) | (go_at_call 168; (with_reducible refine (HRN.out _ _ (kinds2' _ _ _ (by simp))).mono ?_); rintro e w' ⟨rfl, rfl⟩))
      go_ret
      exact ⟨ret_b HF.out.symm, World.grownBy_alloc _ _ _⟩
    · have HT : Hid (V = !(kws.contains (c :: r))) := hid (by rw [HV.out]; exact isNm_t (by rw [shp_cons, ← hj, decide_eq_true hs, decide_eq_true h3, decide_eq_true (by omega)]; rfl))
      have hlt : ¬ (j : Int) < (((c :: r).length : Nat) : Int) := by omega
      have HKW := hid keywords_any
      obtain ⟨F, hF⟩ : ∃ F, F = kws.contains (c :: r) := ⟨_, rfl⟩
      have HBS := hid fun (b : Nat) (w : World) h => binKw s (c :: r) hl F hF b w h
      rw [← hF] at HT
      generalize (c :: r).length = len at *
      clear hl h20 HV h3 hj hs hF
      go_enter Tryz.func139, Tryz.ntmps139
      go_wp2_with (first | (go_at_call 167; (with_reducible refine (HK.out _).mono ?_); rintro e w' ⟨rfl, rfl⟩) | (go_at_call 168; (with_reducible refine (HRN.out _ _ (kinds2' _ _ _ (by simp))).mono ?_); rintro e w' ⟨rfl, rfl⟩) | (go_at_call 170; (with_reducible refine (HKW.out _).mono ?_); rintro e w1 ⟨b, rfl, hb1, hcl, hg⟩; have HCL := hid hcl; clear hcl) | (go_at_call 169; (with_reducible refine (HBS.out b _ HCL.out).mono ?_); rintro e w2 ⟨I, rfl, hg2⟩))
      go_ret
      exact ⟨ret_b HT.out.symm, grown_trans (World.grownBy_alloc _ _ none) (grown_trans hg hg2)⟩
end Go.Proofs.YtiaonbofkgkdhaaGreatDoor

set_option linter.unusedVariables false
set_option linter.unusedSimpArgs false
namespace Go.Proofs.YtiaonbofkgkdhaaGreatDoor
open Go.RowKit _root_.Nm Lx

theorem span_all {ks : List Nat} : ∀ {l : List UInt8} (k : Nat), k ≤ span ks l → k = l.length → span ks l = l.length := fun {l} k h1 h2 => by have := span_le ks l; omega
theorem span_at {ks : List Nat} : ∀ {l : List UInt8} (i : Nat) (hi : i < l.length), i < span ks l → kd (l[i]).toNat ∈ ks
  | [], i, hi, h => by simp at hi
  | c :: r, 0, hi, h => by
    by_cases hc : kd c.toNat ∈ ks
    · exact hc
    · rw [span_no hc] at h; omega
  | c :: r, i + 1, hi, h => by
    by_cases hc : kd c.toNat ∈ ks
    · rw [span_yes hc] at h
      exact span_at i (by simpa using hi) (by omega)
    · rw [span_no hc] at h; omega
theorem lt_span {ks : List Nat} : ∀ {l : List UInt8} (i : Nat) (hi : i < l.length), i ≤ span ks l → kd (l[i]).toNat ∈ ks → i + 1 ≤ span ks l
  | [], i, hi, h, _ => by simp at hi
  | c :: r, 0, hi, h, hc => by
    rw [span_yes (show kd c.toNat ∈ ks from hc)]; omega
  | c :: r, i + 1, hi, h, hk => by
    by_cases hc : kd c.toNat ∈ ks
    · rw [span_yes hc] at h ⊢
      have := lt_span i (by simpa using hi) (by omega) hk
      omega
    · rw [span_no hc] at h; omega
theorem ascii_of {m : Nat} (h : kd m = 3 ∨ kd m = 4) : m < 128 := by
  rcases h with h | h
  · have := (kd_letter m).1 h; omega
  · have := (kd_digit m).1 h; omega
theorem not_name {l : List UInt8} (i : Nat) (hi : i < l.length) (h : kd (l[i]).toNat ≠ 3) (h' : kd (l[i]).toNat ≠ 4) : isNm l = false := by
  apply isNm_f
  cases l with
  | nil => rfl
  | cons c r =>
    rw [shp_cons]
    have : span [3, 4] (c :: r) ≠ (c :: r).length := fun e => by
      have := span_at (ks := [3, 4]) i hi (by omega)
      simp at this
      omega
    rw [decide_eq_false this]
    simp

set_option maxHeartbeats 4000000 in
set_option maxRecDepth 100000 in
theorem rIsName_any (s : ByteArray) (l : List UInt8) (hl : s.data.toList = l) (w : World) :
    Calls Tryz.prog 105 #[.string s] w fun e w' => e = .returned (.bool (isNm l)) ∧ w.grownBy w' none := by
  have hsz : s.size = l.length := by rw [Lib.size_eq, hl]
  cases l with
  | nil =>
    obtain rfl : s = ⟨#[]⟩ := by rw [← Lib.mk_data s, hl]
    have HV : Hid (isNm [] = false) := hid rfl
    clear hl hsz
    go_enter Tryz.func105, Tryz.ntmps105
    go_wp2_with fail
    go_ret
    exact ⟨ret_b HV.out.symm, grown_refl _ _⟩
  | cons c r =>
    have hemp := ne_empty hl
    have hix := idx_at s (c :: r) hl 0 (by simp)
    have hix0 : ∀ w, (Instr.index 9 (.string s) (.int .i64 0)).run Tryz.prog w = .ok (.int .u8 (c.toNat : Int)) w := hix
    clear hix
    obtain ⟨V, hV⟩ : ∃ V, V = isNm (c :: r) := ⟨_, rfl⟩
    rw [← hV]
    have HV := hid hV
    clear hV
    by_cases h20 : 20 < (c :: r).length
    · have HF : Hid (V = false) := hid (by rw [HV.out]; exact isNm_f (by rw [shp_cons, decide_eq_false (by omega)]; rfl))
      have hb : (20 : Int) < (((c :: r).length : Nat) : Int) := by omega
      generalize (c :: r).length = len at *
      clear hl h20 HV
      go_enter Tryz.func105, Tryz.ntmps105
      go_wp2_with fail
      go_ret
      exact ⟨ret_b HF.out.symm, grown_refl _ _⟩
    have hb : ¬ (20 : Int) < (((c :: r).length : Nat) : Int) := by omega
    by_cases h3 : kd c.toNat = 3
    rotate_left
    · have HF : Hid (V = false) := hid (by rw [HV.out]; exact isNm_f (by rw [shp_cons, decide_eq_false h3]; simp))
      have HK := hid fun w => letter_f (m := c.toNat) (u8_lt c) h3 w
      generalize (c :: r).length = len at *
      clear hl h20 HV h3
      go_enter Tryz.func105, Tryz.ntmps105
      go_wp2_with (go_at_call 141; (with_reducible refine (HK.out _).mono ?_); rintro e w' ⟨rfl, rfl⟩)
      go_ret
      exact ⟨ret_b HF.out.symm, grown_refl _ _⟩
    have HK := hid fun w => letter_t (m := c.toNat) (u8_lt c) h3 w
    have HLL := hid hl
    have HIX := hid (idx_at s (c :: r) hl)
    have H20 := hid h20
    have H3 := hid h3
    obtain ⟨l, hll⟩ : ∃ l, l = c :: r := ⟨_, rfl⟩
    have HC := hid hll
    rw [← hll] at HV HLL HIX H20 hsz hb
    have HSZ := hid hsz
    clear hl h20 h3 hll
    go_enter Tryz.func105, Tryz.ntmps105
    go_wp2_with (go_at_call 141; (with_reducible refine (HK.out _).mono ?_); rintro e w' ⟨rfl, rfl⟩)
    clear hix0 hemp HK hb hsz
    go_loopw [] (fun w' => ∃ pos : Nat, w' = w.iter s pos ∧ pos ≤ l.length ∧ Hid (pos ≤ span [3, 4] l)) (fun w' => s.size - w'.iterPos w.heap.size)
    case atStart => exact ⟨0, rfl, Nat.zero_le _, hid (Nat.zero_le _)⟩
    case round =>
      obtain ⟨pos, rfl, hpl, HP⟩ := hrel
      by_cases hlt : pos < l.length
      · have hps : pos < s.size := by rw [HSZ.out]; exact hlt
        have hix := HIX.out pos hlt
        have hsx : s[pos]'hps = l[pos] := by
          have := HLL.out
          subst this
          rfl
        obtain ⟨m, hm⟩ : ∃ m, m = (l[pos]).toNat := ⟨_, rfl⟩
        rw [← hm] at hix
        have hms : (s[pos]'hps).toNat = m := by rw [hsx, hm]
        have h256 : m < 256 := by rw [hm]; exact u8_lt _
        have HMM := hid hm
        have HMS := hid hms
        clear hm hms hsx
        by_cases hg : kd m = 3 ∨ kd m = 4
        · have hnx : ∀ ty, (Instr.next (.pointer (some ⟨w.heap.size, 0, none⟩)) true ty).run Tryz.prog (w.iter s pos) = _ := fun ty => run_next_ascii w s pos ty hps (by rw [HMS.out]; exact ascii_of hg)
          have HP2 : Hid (pos + 1 ≤ span [3, 4] l) := hid (lt_span pos hlt HP.out (by rw [← HMM.out]; rcases hg with h | h <;> simp [h]))
          by_cases hg3 : kd m = 3
          · have HL := hid fun w => letter_t (m := m) h256 hg3 w
            clear hg hg3
            go_wp2_with (go_at_call 141; (with_reducible refine (HL.out _).mono ?_); rintro e w' ⟨rfl, rfl⟩)
            go_roundw
            case rel => exact ⟨pos + 1, rfl, by omega, HP2⟩
            case measure => simp; omega
          · have HL := hid fun w => letter_f (m := m) h256 hg3 w
            have HD := hid fun w => digit_t (m := m) h256 (by omega) w
            clear hg hg3
            go_wp2_with (first | (go_at_call 141; (with_reducible refine (HL.out _).mono ?_); rintro e w' ⟨rfl, rfl⟩) | (go_at_call 142; (with_reducible refine (HD.out _).mono ?_); rintro e w' ⟨rfl, rfl⟩))
            go_roundw
            case rel => exact ⟨pos + 1, rfl, by omega, HP2⟩
            case measure => simp; omega
        · have hnx : ∀ ty, (Instr.next (.pointer (some ⟨w.heap.size, 0, none⟩)) true ty).run Tryz.prog (w.iter s pos) = _ := fun ty => run_next_any w s pos ty hps
          have HF : Hid (V = false) := hid (by rw [HV.out]; exact not_name pos hlt (fun e => hg (.inl (by rw [HMM.out]; exact e))) (fun e => hg (.inr (by rw [HMM.out]; exact e))))
          have HL := hid fun w => letter_f (m := m) h256 (fun e => hg (.inl e)) w
          have HD := hid fun w => digit_f (m := m) h256 (fun e => hg (.inr e)) w
          clear hg
          generalize Utf8.decode s pos = dc at *
          go_wp2_with (first | (go_at_call 141; (with_reducible refine (HL.out _).mono ?_); rintro e w' ⟨rfl, rfl⟩) | (go_at_call 142; (with_reducible refine (HD.out _).mono ?_); rintro e w' ⟨rfl, rfl⟩))
          go_ret
          exact ⟨ret_b HF.out.symm, World.grownBy_alloc _ _ _⟩
      · obtain rfl : pos = l.length := by omega
        have hnx : ∀ ty, (Instr.next (.pointer (some ⟨w.heap.size, 0, none⟩)) true ty).run Tryz.prog (w.iter s l.length) = _ := fun ty => run_next_end w s l.length ty (by rw [HSZ.out]; omega)
        have HT : Hid (V = !(kws.contains l)) := hid (by
          rw [HV.out]; refine isNm_t ?_
          have hsp := span_all l.length HP.out rfl
          have h1 := H20.out; have h2 := H3.out; have h3 := HC.out
          subst h3
          rw [shp_cons, hsp, decide_eq_true rfl, decide_eq_true h2, decide_eq_true (by omega)]; rfl)
        have HKW := hid rkeywords_any
        have hgi : w.grownBy (w.iter s l.length) none := World.grownBy_alloc _ _ _
        generalize w.iter s l.length = w1 at *
        go_wp2_with (go_at_call 143; (with_reducible refine (HKW.out _).mono ?_); rintro e w2 ⟨b, rfl, hb1, hcl, hg⟩; have HCL := hid hcl; clear hcl)
        have hG := grown_trans hgi hg
        go_loop [38] (fun x => ∃ k : Nat, k ≤ 29 ∧ x = .int .i64 k ∧ Hid (∀ j, j < k → kwAt j ≠ l)) (fun x => 29 - (intOf x).toNat)
        case atStart => exact ⟨0, Nat.zero_le _, rfl, hid fun j hj => by omega⟩
        case round =>
          obtain ⟨k, hk, rfl, HN⟩ := hrel
          by_cases hk29 : k < 29
          · have hcell := HCL.out k hk29
            by_cases he : kwAt k = l
            · have HF : Hid (V = false) := hid (by rw [HT.out, List.contains_eq_mem, decide_eq_true (kw_mem.2 ⟨k, hk29, he⟩)]; rfl)
              have hse : (⟨(kwAt k).toArray⟩ : ByteArray) = s := by rw [he, ← HLL.out]
              rw [hse] at hcell
              clear he hse
              go_wp2_with fail
              go_ret
              exact ⟨ret_b HF.out.symm, hG⟩
            · have HN2 : Hid (∀ j, j < k + 1 → kwAt j ≠ l) := hid fun j hj => by
                by_cases e : j = k
                · subst e; exact he
                · exact HN.out j (by omega)
              obtain ⟨d, hd⟩ : ∃ d, d = (⟨(kwAt k).toArray⟩ : ByteArray) := ⟨_, rfl⟩
              rw [← hd] at hcell
              have hne : (s.toList == d.toList) = false := by
                cases e : s.toList == d.toList with
                | false => rfl
                | true =>
                  have := eq_of_beq e
                  rw [Lib.toList_data, Lib.toList_data, HLL.out, hd] at this
                  exact absurd this.symm he
              clear he hd
              go_wp2_with fail
              exact ⟨⟨k + 1, by omega, rfl, HN2⟩, by simp [intOf]; omega⟩
          · obtain rfl : k = 29 := by omega
            have HF : Hid (V = true) := hid (by
              rw [HT.out, List.contains_eq_mem, decide_eq_false (fun h => by obtain ⟨j, hj, e⟩ := kw_mem.1 h; exact HN.out j hj e)]; rfl)
            go_wp2_with fail
            go_ret
            exact ⟨ret_b HF.out.symm, hG⟩
end Go.Proofs.YtiaonbofkgkdhaaGreatDoor
