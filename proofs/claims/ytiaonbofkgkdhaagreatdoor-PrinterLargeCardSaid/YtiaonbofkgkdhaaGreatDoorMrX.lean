/-
  TxA Txt Shelf Fmt Ntext Rtext TiedK Itext TiedR Qtext Rtl, in one text.
-/
import Derived.Lib.Join
import Derived.Lib.ItoaNum
import Derived.Lib.AtoiAll
import Derived.Lib.Strings
import Derived.Test.YtiaonbofkgkdhaaGreatDoorProg
import Derived.Test.YtiaonbofkgkdhaaGreatDoorMem
import Derived.Shelf.Strconv.Itoa2
import Derived.Shelf.Strconv.Itoa1
import Derived.Shelf.Pu.ParseUint10b64
import Derived.Shelf.Small.Wraps
import Derived.Lib.ItoaMem
import Derived.WalkKit
import Derived.BigCall
import Derived.BigGuard
import Derived.Test.YtiaonbofkgkdhaaGreatDoorVal
import Derived.Test.YtiaonbofkgkdhaaGreatDoorDivW
import Derived.Test.YtiaonbofkgkdhaaGreatDoorPack
import Derived.Deep.LoopGhost
import Derived.Test.YtiaonbofkgkdhaaGreatDoorRefDiv
import Derived.Laws.IdiomStrings
import Derived.Test.YtiaonbofkgkdhaaGreatDoorMrR
import Derived.Test.YtiaonbofkgkdhaaGreatDoorTie
import Derived.Test.YtiaonbofkgkdhaaGreatDoorCards
import Derived.LaidMore
import Derived.Lib.LaidTab
import Derived.Stop.Joined
import Derived.Stop.LaidErr
import Derived.SevenTiedAt
import Derived.Test.YtiaonbofkgkdhaaGreatDoorIntR
import Derived.Test.YtiaonbofkgkdhaaGreatDoorMrQ
import Derived.Deep.RegionHeld3

set_option linter.unusedVariables false
set_option linter.unusedSimpArgs false
namespace Nm
open Go
/-- comma and space -/
def cms : List UInt8 := [44, 32]
def jn (P : List (List UInt8)) : List UInt8 := Lib.join P cms
theorem jn_nil : jn [] = [] := rfl
theorem jn_one (x : List UInt8) : jn [x] = x := Lib.join_one x cms
theorem jn_snoc : ∀ (P : List (List UInt8)) (y : List UInt8), P ≠ [] → jn (P ++ [y]) = jn P ++ cms ++ y
  | [], _, h => absurd rfl h
  | x :: r, y, _ => by
    unfold jn
    rw [List.cons_append, Lib.join_cons, Lib.join_cons]
    simp [Lib.joinTail, List.append_assoc]
theorem jn_take {P : List (List UInt8)} {k : Nat} (hk : k < P.length) : jn (P.take (k + 1)) = if k = 0 then P[k] else jn (P.take k) ++ cms ++ P[k] := by
  rw [List.take_succ_eq_append_getElem hk]
  by_cases h : k = 0
  · subst h
    rw [if_pos rfl, List.take_zero, List.nil_append, jn_one]
  · rw [if_neg h, jn_snoc _ _ (by intro h1; have := congrArg List.length h1; rw [List.length_take] at this; simp only [List.length_nil] at this; omega)]
theorem jn_step {P : List (List UInt8)} {k : Nat} (hk : k < P.length) : jn (P.take (k + 1)) = jn (P.take k) ++ (if k = 0 then [] else cms) ++ P[k] := by
  rw [jn_take hk]
  by_cases h : k = 0
  · subst h; simp [jn_nil]
  · rw [if_neg h, if_neg h]
theorem jn_len (P : List (List UInt8)) : (jn P).length ≤ Lib.lens P + 2 * P.length := by
  cases P with
  | nil => simp [jn_nil]
  | cons x r =>
    unfold jn
    rw [Lib.join_length]
    simp [cms]
    omega
theorem lens_le {P : List (List UInt8)} {B : Nat} (h : ∀ x ∈ P, x.length ≤ B) : Lib.lens P ≤ B * P.length := by
  unfold Lib.lens
  induction P with
  | nil => simp
  | cons x r ih =>
    have h1 := h x (by simp)
    have h2 := ih fun y hy => h y (by simp [hy])
    simp only [List.map_cons, List.sum_cons, List.length_cons]
    rw [Nat.mul_succ]
    omega
/-- what a writer holds, and whether it is too long, behind what it held and a text -/
def PW (bs : List UInt8) (lg : Bool) (l : List UInt8) (bs' : List UInt8) (lg' : Bool) : Prop :=
  (lg' = true ↔ lg = true ∨ 20000 < bs.length + l.length) ∧ (lg' = false → bs' = bs ++ l) ∧ bs'.length ≤ bs.length + l.length
theorem PW.nil (bs : List UInt8) (lg : Bool) (h : lg = true ∨ bs.length ≤ 20000) : PW bs lg [] bs lg :=
  ⟨⟨fun h1 => .inl h1, fun h1 => h1.elim id fun h2 => h.elim id fun h3 => by simp only [List.length_nil] at h2; omega⟩, fun _ => by simp, by simp⟩
theorem PW.skip (bs l : List UInt8) : PW bs true l bs true := ⟨by simp, by simp, by omega⟩
theorem PW.trans {bs l1 bs1 l2 bs2 : List UInt8} {lg lg1 lg2 : Bool} (h : PW bs lg l1 bs1 lg1) (k : PW bs1 lg1 l2 bs2 lg2) : PW bs lg (l1 ++ l2) bs2 lg2 := by
  obtain ⟨h1, h2, h3⟩ := h
  obtain ⟨k1, k2, k3⟩ := k
  refine ⟨?_, ?_, ?_⟩
  · rw [k1]
    cases lg1 with
    | false =>
      have := h2 rfl
      subst this
      have h4 : ¬ (lg = true ∨ 20000 < bs.length + l1.length) := fun h => by simpa using h1.2 h
      simp only [List.length_append] at *
      constructor
      · intro h; rcases h with h | h
        · cases h
        · exact .inr (by omega)
      · intro h; rcases h with h | h
        · exact absurd (.inl h) h4
        · exact .inr (by omega)
    | true =>
      have := h1.1 rfl
      simp only [List.length_append]
      constructor
      · intro _; rcases this with h | h
        · exact .inl h
        · exact .inr (by omega)
      · intro _; exact .inl (by trivial)
  · intro h
    have hn : ¬ (lg1 = true ∨ 20000 < bs1.length + l2.length) := fun h4 => by have := k1.2 h4; rw [h] at this; cases this
    have h5 : lg1 = false := by
      cases lg1 with
      | false => rfl
      | true => exact absurd (.inl rfl) hn
    rw [k2 h, h2 h5, List.append_assoc]
  · simp only [List.length_append]; omega
theorem PW.ok {bs l bs' : List UInt8} {lg lg' : Bool} (h : PW bs lg l bs' lg') : lg' = true ∨ bs'.length ≤ 20000 := by
  cases lg' with
  | true => exact .inl rfl
  | false =>
    right
    have h2 := h.2.1 rfl
    have hn : ¬ (lg = true ∨ 20000 < bs.length + l.length) := fun h4 => by have := h.1.2 h4; cases this
    rw [h2, List.length_append]
    omega
end Nm

set_option linter.unusedVariables false
set_option linter.unusedSimpArgs false
namespace Nm
open Go.Lib (decDigits parseUint10)

/-- the digit d as a byte -/
def dgc (d : Nat) : UInt8 := UInt8.ofNat (48 + d)
theorem dgc_toNat {d : Nat} (h : d < 10) : (dgc d).toNat = 48 + d := by
  unfold dgc
  rw [UInt8.toNat_ofNat']
  omega

/-- the numeral of n, nothing for 0 -/
def dd (n : Nat) : List UInt8 := if n = 0 then [] else decDigits n
theorem dd_zero : dd 0 = [] := rfl
theorem dd_pos {n : Nat} (h : 0 < n) : dd n = decDigits n := by unfold dd; rw [if_neg (by omega)]
theorem dec_one {n : Nat} (h : n < 10) : decDigits n = [dgc n] := by rw [decDigits, dif_pos h]; rfl
theorem dec_more {n : Nat} (h : ¬ n < 10) : decDigits n = decDigits (n / 10) ++ [dgc (n % 10)] := by rw [decDigits, dif_neg h]; rfl
theorem dd_step {n : Nat} (h : 0 < n) : dd n = dd (n / 10) ++ [dgc (n % 10)] := by
  rw [dd_pos h]
  by_cases h10 : n < 10
  · rw [dec_one h10, show n / 10 = 0 by omega, dd_zero, Nat.mod_eq_of_lt h10]; rfl
  · rw [dec_more h10, dd_pos (by omega)]
theorem dd_length_le : ∀ (k n : Nat), n < 10 ^ k → (dd n).length ≤ k := by
  intro k
  induction k with
  | zero => intro n h; have : n = 0 := by simpa using h
            subst this; simp [dd_zero]
  | succ k ih =>
    intro n h
    by_cases h0 : n = 0
    · subst h0; simp [dd_zero]
    · rw [dd_step (by omega), List.length_append]
      have := ih (n / 10) (by rw [Nat.pow_succ] at h; omega)
      simp; omega

theorem dd_limbs {N n : Nat} (h : N < 65536 ^ n) : (dd N).length ≤ 5 * n := by
  refine dd_length_le _ _ (Nat.lt_of_lt_of_le h ?_)
  rw [Nat.pow_mul]
  exact Nat.pow_le_pow_left (by decide) _

/-- digits only -/
def DgS (l : List UInt8) : Prop := ∀ c ∈ l, 48 ≤ c.toNat ∧ c.toNat ≤ 57
theorem DgS.nil : DgS [] := fun _ h => by simp at h
theorem DgS.append {l m : List UInt8} (h : DgS l) (k : DgS m) : DgS (l ++ m) := fun c hc => (List.mem_append.1 hc).elim (h c) (k c)
theorem DgS.one {d : Nat} (h : d < 10) : DgS [dgc d] := fun c hc => by
  rw [List.mem_singleton.1 hc, dgc_toNat h]; omega
theorem DgS.take {l : List UInt8} (h : DgS l) (n : Nat) : DgS (l.take n) := fun c hc => h c (List.mem_of_mem_take hc)
theorem DgS.drop {l : List UInt8} (h : DgS l) (n : Nat) : DgS (l.drop n) := fun c hc => h c (List.mem_of_mem_drop hc)

/-- what digits add to the number a -/
def dv (c : UInt8) : Nat := c.toNat - 48
theorem dv_eq (c : UInt8) : dv c = c.toNat - 48 := rfl
def numS (a d : Nat) : Nat := a * 10 + d
theorem numS_eq (a d : Nat) : numS a d = a * 10 + d := rfl
def numF : Nat → List UInt8 → Nat
  | a, [] => a
  | a, c :: l => numF (numS a (dv c)) l
theorem numF_nil (a : Nat) : numF a [] = a := rfl
theorem numF_cons (a : Nat) (c : UInt8) (l : List UInt8) : numF a (c :: l) = numF (a * 10 + (c.toNat - 48)) l := by rw [← dv_eq, ← numS_eq]; rfl
theorem numF_append : ∀ (l : List UInt8) (a : Nat) (m : List UInt8), numF a (l ++ m) = numF (numF a l) m := by
  intro l
  induction l with
  | nil => intro a m; rw [numF_nil]; rfl
  | cons c l ih => intro a m; rw [List.cons_append, numF_cons, numF_cons, ih]
theorem numF_eq : ∀ (l : List UInt8) (a : Nat), numF a l = a * 10 ^ l.length + numF 0 l := by
  intro l
  induction l with
  | nil => intro a; rw [numF_nil, numF_nil]; simp
  | cons c l ih =>
    intro a
    rw [numF_cons, numF_cons]
    generalize c.toNat - 48 = d
    rw [ih (a * 10 + d), ih (0 * 10 + d), List.length_cons, Nat.pow_succ, Nat.add_mul, Nat.zero_mul, Nat.zero_add, Nat.mul_assoc, Nat.mul_comm 10]
    omega
theorem numF_ge : ∀ (l : List UInt8) (a : Nat), a ≤ numF a l := by
  intro l
  induction l with
  | nil => intro a; exact Nat.le_refl _
  | cons c l ih => intro a; rw [numF_cons]; have := ih (a * 10 + (c.toNat - 48)); omega
theorem numF_lt : ∀ (l : List UInt8), DgS l → numF 0 l < 10 ^ l.length := by
  intro l
  induction l with
  | nil => intro _; rw [numF_nil]; simp
  | cons c l ih =>
    intro h
    have h1 := h c (by simp)
    have h2 := ih (fun x hx => h x (by simp [hx]))
    rw [numF_cons, numF_eq, List.length_cons, Nat.pow_succ]
    have h3 : (0 * 10 + (c.toNat - 48)) * 10 ^ l.length ≤ 9 * 10 ^ l.length := Nat.mul_le_mul_right _ (by omega)
    omega

theorem dec_spec : ∀ n : Nat, DgS (decDigits n) ∧ numF 0 (decDigits n) = n ∧ (∃ c r, decDigits n = c :: r ∧ (r = [] ∨ c.toNat ≠ 48)) := by
  intro n
  induction n using Nat.strongRecOn with
  | _ n ih =>
    by_cases h : n < 10
    · rw [dec_one h]
      refine ⟨DgS.one h, ?_, _, _, rfl, .inl rfl⟩
      rw [numF_cons, numF_nil, dgc_toNat h]; omega
    · have hm : n % 10 < 10 := Nat.mod_lt _ (by omega)
      obtain ⟨h1, h2, c, r, h3, h4⟩ := ih (n / 10) (by omega)
      rw [dec_more h]
      refine ⟨h1.append (DgS.one hm), ?_, c, r ++ [dgc (n % 10)], by rw [h3]; rfl, ?_⟩
      · rw [numF_append, h2, numF_cons, numF_nil, dgc_toNat hm]; omega
      · right
        rcases h4 with h4 | h4
        · subst h4
          by_cases h10 : n / 10 < 10
          · rw [dec_one h10] at h3
            simp only [List.cons.injEq, and_true] at h3
            rw [← h3, dgc_toNat h10]; omega
          · exfalso
            have e := congrArg List.length h3
            rw [dec_more h10, List.length_append] at e
            have : (decDigits (n / 10 / 10)).length ≠ 0 := by
              obtain ⟨_, _, c', r', e', _⟩ := ih (n / 10 / 10) (by omega)
              rw [e']; simp
            simp only [List.length_cons, List.length_nil] at e; omega
        · exact h4
theorem dec_dgs (n : Nat) : DgS (decDigits n) := (dec_spec n).1
theorem dec_num (n : Nat) : numF 0 (decDigits n) = n := (dec_spec n).2.1

/-- digits that fit are parsed -/
theorem parse_ok : ∀ (l : List UInt8) (a : Nat), DgS l → numF a l < 18446744073709551616 → parseUint10 a l = .ok (numF a l) := by
  intro l
  induction l with
  | nil => intro a _ _; rfl
  | cons c l ih =>
    intro a h hb
    have h1 := h c (by simp)
    rw [numF_cons] at hb ⊢
    have h2 := numF_ge l (a * 10 + (c.toNat - 48))
    rw [parseUint10, if_pos h1, if_neg (by omega), if_neg (by omega)]
    exact ih _ (fun x hx => h x (by simp [hx])) hb

/-- a numeral: digits, and 0 does not come first of several -/
def Numl (l : List UInt8) : Prop := DgS l ∧ (l.length = 1 ∨ l.head? ≠ some 48)
instance (l : List UInt8) : Decidable (DgS l) := by unfold DgS; infer_instance
instance (l : List UInt8) : Decidable (Numl l) := by unfold Numl; infer_instance
theorem dec_numl (n : Nat) : Numl (decDigits n) := by
  obtain ⟨h1, _, c, r, h3, h4⟩ := dec_spec n
  refine ⟨h1, ?_⟩
  rw [h3]
  rcases h4 with h4 | h4
  · subst h4; exact .inl rfl
  · refine .inr fun e => h4 ?_
    simp only [List.head?_cons, Option.some.injEq] at e
    rw [e]; rfl

/-- the error of reading a numeral, 0 for none -/
def rdE (l : List UInt8) : Nat := if l = [] then 10 else if 1000 < l.length then 4 else if Numl l then 0 else 9
/-- the number that is read -/
def rdV (l : List UInt8) : Nat := if rdE l = 0 then numF 0 l else 0
theorem rdE_nil : rdE [] = 10 := rfl
theorem rdE_large {l : List UInt8} (h : 1000 < l.length) : rdE l = 4 := by
  unfold rdE
  rw [if_neg (by intro e; subst e; simp at h), if_pos h]
theorem rdE_form {l : List UInt8} (h0 : l ≠ []) (h : l.length ≤ 1000) (hn : ¬ Numl l) : rdE l = 9 := by
  unfold rdE
  rw [if_neg h0, if_neg (by omega), if_neg hn]
theorem rdE_ok {l : List UInt8} (h0 : l ≠ []) (h : l.length ≤ 1000) (hn : Numl l) : rdE l = 0 := by
  unfold rdE
  rw [if_neg h0, if_neg (by omega), if_pos hn]
theorem rdV_ok {l : List UInt8} (h : rdE l = 0) : rdV l = numF 0 l := if_pos h
theorem rdV_bad {l : List UInt8} (h : rdE l ≠ 0) : rdV l = 0 := if_neg h
theorem num_limbs {l : List UInt8} (h : DgS l) (hl : l.length ≤ 1000) : numF 0 l < 65536 ^ 250 := by
  refine Nat.lt_of_lt_of_le (numF_lt l h) (Nat.le_trans (Nat.pow_le_pow_right (n := 10) (by omega) hl) ?_)
  obtain ⟨k, hk⟩ : ∃ k, k = 250 := ⟨_, rfl⟩
  rw [← hk, show 1000 = 4 * k by omega, Nat.pow_mul]
  exact Nat.pow_le_pow_left (by decide) _

/-- a string of these bytes -/
abbrev str (l : List UInt8) : Go.Value := .string ⟨l.toArray⟩
end Nm

set_option linter.unusedVariables false
namespace Go.Proofs.YtiaonbofkgkdhaaGreatDoor
open Go.Shelf Go.RowKit Go.Sort _root_.Nm
set_option maxRecDepth 100000
def shRen : Ren := ⟨fun n => match n with
    | 129 => 147
    | 283 => 161
    | 284 => 162
    | 285 => 163
    | 317 => 181
    | 318 => 182
    | n => n,
  fun n => match n with
    | 0 => 0
    | 3 => 3
    | 4 => 4
    | 5 => 5
    | 9 => 9
    | 37 => 61
    | 46 => 146
    | 51 => 189
    | 53 => 91
    | 212 => 188
    | n => n,
  fun n => match n with
    | 17 => 4
    | n => n⟩
theorem sh283 : Lays.n283 Tryz.prog shRen where
  mixed := by kernel_rfl
  f283 := by kernel_rfl
  t3 := by kernel_rfl
  a3 := fun _ => by kernel_rfl
  z3 := fun _ => by kernel_rfl
  v3 := fun _ => by kernel_rfl
  t4 := by kernel_rfl
  a4 := fun _ => by kernel_rfl
  z4 := fun _ => by kernel_rfl
  v4 := fun _ => by kernel_rfl
  t9 := by kernel_rfl
  a9 := fun _ => by kernel_rfl
  z9 := fun _ => by kernel_rfl
  v9 := fun _ => by kernel_rfl
theorem sh284 : LaysM.n284 Tryz.prog shRen where
  mixed := by kernel_rfl
  f129 := by kernel_rfl
  f284 := by kernel_rfl
  f317 := by kernel_rfl
  f318 := by kernel_rfl
  t0 := by kernel_rfl
  a0 := fun _ => by kernel_rfl
  z0 := fun _ => by kernel_rfl
  v0 := fun _ => by kernel_rfl
  t3 := by kernel_rfl
  a3 := fun _ => by kernel_rfl
  z3 := fun _ => by kernel_rfl
  v3 := fun _ => by kernel_rfl
  t4 := by kernel_rfl
  a4 := fun _ => by kernel_rfl
  z4 := fun _ => by kernel_rfl
  v4 := fun _ => by kernel_rfl
  t5 := by kernel_rfl
  a5 := fun _ => by kernel_rfl
  z5 := fun _ => by kernel_rfl
  v5 := fun _ => by kernel_rfl
  t9 := by kernel_rfl
  a9 := fun _ => by kernel_rfl
  z9 := fun _ => by kernel_rfl
  v9 := fun _ => by kernel_rfl
  t46 := by kernel_rfl
  a46 := fun _ => by kernel_rfl
  z46 := fun _ => by kernel_rfl
  v46 := fun _ => by kernel_rfl
  t53 := by kernel_rfl
  a53 := fun _ => by kernel_rfl
  z53 := fun _ => by kernel_rfl
  v53 := fun _ => by kernel_rfl
  t212 := by kernel_rfl
  a212 := fun _ => by kernel_rfl
  z212 := fun _ => by kernel_rfl
  v212 := fun _ => by kernel_rfl
  g17 := by kernel_rfl
  i0 := by kernel_rfl
  i3 := by kernel_rfl
  i4 := by kernel_rfl
  i5 := by kernel_rfl
  i9 := by kernel_rfl
  i46 := by kernel_rfl
  i53 := by kernel_rfl
  i212 := by kernel_rfl
  m17 := by kernel_rfl
theorem sh285 : Lays.n285 Tryz.prog shRen where
  mixed := by kernel_rfl
  f285 := by kernel_rfl
  t0 := by kernel_rfl
  a0 := fun _ => by kernel_rfl
  z0 := fun _ => by kernel_rfl
  v0 := fun _ => by kernel_rfl
  t3 := by kernel_rfl
  a3 := fun _ => by kernel_rfl
  z3 := fun _ => by kernel_rfl
  v3 := fun _ => by kernel_rfl
  t4 := by kernel_rfl
  a4 := fun _ => by kernel_rfl
  z4 := fun _ => by kernel_rfl
  v4 := fun _ => by kernel_rfl
  t5 := by kernel_rfl
  a5 := fun _ => by kernel_rfl
  z5 := fun _ => by kernel_rfl
  v5 := fun _ => by kernel_rfl
  t9 := by kernel_rfl
  a9 := fun _ => by kernel_rfl
  z9 := fun _ => by kernel_rfl
  v9 := fun _ => by kernel_rfl
  t37 := by kernel_rfl
  a37 := fun _ => by kernel_rfl
  z37 := fun _ => by kernel_rfl
  v37 := fun _ => by kernel_rfl
  t51 := by kernel_rfl
  a51 := fun _ => by kernel_rfl
  z51 := fun _ => by kernel_rfl
  v51 := fun _ => by kernel_rfl
  t53 := by kernel_rfl
  a53 := fun _ => by kernel_rfl
  z53 := fun _ => by kernel_rfl
  v53 := fun _ => by kernel_rfl

/-- the table of powers of ten -/
abbrev Tp (w : World) : Prop := Lib.TabIs Tryz.prog w "internal/strconv.uint64pow10" .u64 Lib.pow10Tab

theorem small_sh (i : Nat) (h : i < 100) (w : World) :
    Calls Tryz.prog 161 #[.int .i64 i] w fun e w' => e = .returned (str (Lib.decDigits i)) ∧ w' = w := Any.internal_strconv_small sh283 i h w
theorem numDigits_sh (u : Nat) (h1 : 1 ≤ u) (h2 : u < 18446744073709551616) (w : World) (T : Tp w) :
    Calls Tryz.prog 162 #[.int .u64 u] w fun e w' => e = .returned (.int .i64 (Lib.nDigits u)) ∧ w' = w := Any.internal_strconv_numDigits sh284 u h1 h2 w T
theorem format10_sh (blk off cap u : Nat) (d : Array UInt8) (w : World) (hH : Holds (fun (b : UInt8) => Value.int .u8 (b.toNat : Int)) w blk off d) (hu : u < 10 ^ d.size) (hu64 : u < 18446744073709551616) (hsz : d.size < 4611686018427387904) :
    Calls Tryz.prog 163 #[.slice (some ⟨blk, off, none⟩) d.size cap, .int .u64 u] w fun e w' =>
      e = .returned (.tuple #[]) ∧ ∃ (n v' : Nat) (dk : Array UInt8), w' = (putRow (fun (b : UInt8) => Value.int .u8 (b.toNat : Int)) w blk off dk).drewN n ∧ Lib.FmtInv d.size u 0 v' dk := Any.internal_strconv_formatBase10 sh285 blk off cap u d w hH hu hu64 hsz
end Go.Proofs.YtiaonbofkgkdhaaGreatDoor

set_option linter.unusedVariables false
set_option linter.unusedSimpArgs false
namespace Go.Proofs.YtiaonbofkgkdhaaGreatDoor
open Go.RowKit Go.Sort _root_.Nm

theorem zero_row (w : World) (T : TypeId) (nd : Nat) (hs : nd ≤ 24) : Holds (fun (b : UInt8) => Value.int .u8 (b.toNat : Int)) (w.alloc (.cells Lib.zeros24 T)) w.heap.size 0 (Array.replicate nd (0 : UInt8)) := fun j hj => by
  have hj' : j < nd := by simpa using hj
  refine ⟨?_, World.frozen?_alloc_new _ _ _ _⟩
  rw [World.cell?_alloc_new, Lib.zeros24_at _ (by omega), getElem!_pos _ j hj]
  simp

theorem fin_fmt (w : World) (o : Obj) (dk : Array UInt8) (k : Nat) : w.grownBy ((putRow (fun (b : UInt8) => Value.int .u8 (b.toNat : Int)) (w.alloc o) w.heap.size 0 dk).drewN k) none := by
  rw [alloc_eq_grow]
  obtain ⟨os', _, e⟩ := putRow_grow_new (fun (b : UInt8) => Value.int .u8 (b.toNat : Int)) w #[o] w.heap.size 0 dk (Nat.le_refl _)
  rw [e]
  exact ⟨rfl, rfl, rfl, by show _ ≤ ((grow w os').heap).size; simp, fun i hi _ => heap_grow_old w os' hi⟩

set_option maxHeartbeats 6400000 in
set_option maxRecDepth 100000 in
theorem fmtIn_any (u : Nat) (hu64 : u < 18446744073709551616) (w : World) (T : Tp w) :
    Calls Tryz.prog 131 #[.int .u64 u, .int .i64 10] w fun e w' => e = .returned (str (Lib.decDigits u)) ∧ w.grownBy w' none := by
  by_cases hs : u < 100
  · go_enter Tryz.func131, Tryz.ntmps131
    go_wp2_with (go_at_call 161; refine (small_sh u hs _).mono ?_; rintro e w' ⟨rfl, rfl⟩)
    go_ret
    exact ⟨rfl, grown_refl _ _⟩
  · have hu1 : 1 ≤ u := by omega
    have hnd20 : Lib.nDigits u ≤ 20 := by have := Lib.numDigits_eq u hu1 hu64; split at this <;> omega
    have hb3 : Lib.nDigits u ≤ 24 := by omega
    have hal : Tryz.prog.arrayLen 172 = 24 := by kernel_rfl
    have hsl1 : ∀ W, (Instr.sliceAt 172 (.pointer (some ⟨w.heap.size, 0, none⟩)) none (some (.int .i64 (Lib.nDigits u : Int))) none).run Tryz.prog W = .ok (.slice (some ⟨w.heap.size, 0, none⟩) (Lib.nDigits u) 24) W := fun W => by
      rw [run_sliceAt_array_h W 172 ⟨w.heap.size, 0, none⟩ (by kernel_rfl) .i64 (Lib.nDigits u : Int) (by omega) (by rw [hal]; omega)]
      go_simp
    have hH0 := zero_row w 172 (Lib.nDigits u) (by omega)
    have hfmt := format10_sh w.heap.size 0 24 u (Array.replicate (Lib.nDigits u) 0) (w.alloc (.cells Lib.zeros24 172)) hH0 (by rw [Array.size_replicate]; exact Lib.lt_pow_nDigits u) hu64 (by rw [Array.size_replicate]; omega)
    rw [Array.size_replicate] at hfmt
    have HH0 := Lib.hid hH0
    have T1 := Lib.tabIs_alloc T (.cells Lib.zeros24 172)
    clear hH0 hal
    go_enter Tryz.func131, Tryz.ntmps131
    go_wp2_with (first
      | (go_at_call 162; refine (numDigits_sh u hu1 hu64 _ T1).mono ?_; rintro e w' ⟨rfl, rfl⟩))
    go_at_call 163
    refine hfmt.mono ?_
    rintro e w' ⟨rfl, k, v', dk, rfl, hF⟩
    have hcv : (convert 61 9 (.slice (some ⟨w.heap.size, 0, none⟩) (Lib.nDigits u) 24)).run Tryz.prog ((putRow (fun (b : UInt8) => Value.int .u8 (b.toNat : Int)) (w.alloc (.cells Lib.zeros24 172)) w.heap.size 0 dk).drewN k) = .ok (.string ⟨(Lib.decDigits u).toArray⟩) ((putRow (fun (b : UInt8) => Value.int .u8 (b.toNat : Int)) (w.alloc (.cells Lib.zeros24 172)) w.heap.size 0 dk).drewN k) := by
      have h := run_convert_bytes_back (P := Tryz.prog) ((putRow (fun (b : UInt8) => Value.int .u8 (b.toNat : Int)) (w.alloc (.cells Lib.zeros24 172)) w.heap.size 0 dk).drewN k) 61 9 5 ⟨w.heap.size, 0, none⟩ 24 (Lib.decDigits u) (by kernel_rfl) (by kernel_rfl) (by kernel_rfl) (fun j hj => by
        rw [Lib.row_is_numeral hF j hj, Lib.add_plain, World.cell?_drewN]
        exact cell?_putRow (fun (b : UInt8) => Value.int .u8 (b.toNat : Int)) _ w.heap.size 0 _ dk HH0.out (by rw [hF.size, Array.size_replicate]) j (by rw [hF.size]; rw [Lib.decDigits_length] at hj; exact hj))
      rw [Lib.decDigits_length] at h
      exact h
    have hfin := fin_fmt w (.cells Lib.zeros24 172) dk k
    go_wp2
    go_ret
    exact ⟨rfl, hfin⟩

theorem fmtU_any (u : Nat) (hu64 : u < 18446744073709551616) (w : World) (T : Tp w) :
    Calls Tryz.prog 80 #[.int .u64 u, .int .i64 10] w fun e w' => e = .returned (str (Lib.decDigits u)) ∧ w.grownBy w' none := by
  have H := Lib.hid (fmtIn_any u hu64 w T)
  go_enter Tryz.func80, Tryz.ntmps80
  go_wp2_with (go_at_call 131; refine H.out.mono ?_; rintro e w' ⟨rfl, hg⟩)
  go_ret
  exact ⟨rfl, hg⟩

theorem bytesWorld_grown (w : World) (e : TypeId) (s : ByteArray) : w.grownBy (Lib.bytesWorld w e s) none := by
  exact ⟨rfl, rfl, rfl, by rw [Lib.bytesWorld_size]; omega, fun i hi _ => Lib.bytesWorld_at_old w e s i hi⟩

end Go.Proofs.YtiaonbofkgkdhaaGreatDoor

set_option linter.unusedVariables false
set_option linter.unusedSimpArgs false
namespace Go.Proofs.YtiaonbofkgkdhaaGreatDoor
open Go.RowKit _root_.Nm

/-- one digit more: what is left of a group -/
theorem group_step {W g k : Nat} (hk : k < 19) (hR : 0 < W * 10 ^ (19 - k) + g) : (W * 10 ^ (19 - k) + g) / 10 = W * 10 ^ (19 - (k + 1)) + g / 10 ∧ (W * 10 ^ (19 - k) + g) % 10 = g % 10 := by
  have e : 10 ^ (19 - k) = 10 ^ (19 - (k + 1)) * 10 := by rw [← Nat.pow_succ]; congr 1; omega
  rw [e, ← Nat.mul_assoc]
  generalize W * 10 ^ (19 - (k + 1)) = A
  omega
theorem group_lt {g k : Nat} (hk : k < 19) (h : g < 10 ^ (19 - k)) : g / 10 < 10 ^ (19 - (k + 1)) := by
  have e : 10 ^ (19 - k) = 10 ^ (19 - (k + 1)) * 10 := by rw [← Nat.pow_succ]; congr 1; omega
  rw [e] at h
  omega
theorem drop_set_pred (row : List Nat) (p y : Nat) (hp : p < row.length) : (row.set p y).drop p = y :: row.drop (p + 1) := by
  rw [List.drop_eq_getElem_cons (by simpa using hp), List.getElem_set_self, List.drop_set_of_lt (by omega)]

set_option maxHeartbeats 4000000 in
set_option maxRecDepth 100000 in
theorem natText_n {w : World} {a : Option Addr} {n c N : Nat} (hA : IsN w a n c N) (hn : n ≤ 40000) (T : Tp w) :
    Calls Tryz.prog 42 #[.slice a n c] w fun e w' => e = .returned (str (Lib.decDigits N)) ∧ w.grownBy w' none := by
  obtain ⟨xs, h, hd, rfl⟩ := hA
  have hl : (trimR xs).length ≤ n := by rw [← h.len]; exact trimR_length_le xs
  have ht := h.take (trimR xs).length hl
  rw [← trimR_eq_take] at ht
  have R1 := hid (trim16 a n c xs w h)
  have hcx := Can_trimR hd
  have hv := V_trimR (B := 65536) xs
  rw [← hv]
  clear hv
  generalize trimR xs = us at *
  clear h
  by_cases h4 : us.length ≤ 4
  · have hb : V 65536 us < 18446744073709551616 := V_word hcx.1 4 h4
    have HW := hid (word_any a us.length c us w ht hcx.1 h4)
    generalize V 65536 us = N at *
    have HF := hid (fmtU_any N hb w T)
    have h4' : (us.length : Int) ≤ 4 := by omega
    clear hb
    go_enter Tryz.func42, Tryz.ntmps42
    go_wp2_with (first
      | (go_at_call 79; (with_reducible refine (R1.out).mono ?_); rintro e w' ⟨rfl, rfl⟩)
      | (go_at_call 81; (with_reducible refine (HW.out).mono ?_); rintro e w' ⟨rfl, rfl⟩)
      | (go_at_call 80; (with_reducible refine (HF.out).mono ?_); rintro e w' ⟨rfl, hg⟩))
    go_ret
    exact ⟨rfl, hg⟩
  · have hpos : 0 < V 65536 us := hcx.pos (by omega) (by intro e; rw [e] at h4; simp at h4)
    have hlen : V 65536 us < 10 ^ (20 * ((us.length + 3) / 4)) := by
      refine Nat.lt_of_lt_of_le hcx.1.lt ?_
      refine Nat.le_trans (Nat.pow_le_pow_right (n := 65536) (by omega) (show us.length ≤ 4 * ((us.length + 3) / 4) by omega)) ?_
      rw [Nat.pow_mul, Nat.pow_mul]
      exact Nat.pow_le_pow_left (by decide) _
    have h5 : ¬ ((us.length : Int) ≤ 4) := by omega
    have HP := hid (pack_any a us.length c us w ht hcx.1 (by omega))
    have hul : us.length ≤ 40000 := by omega
    generalize V 65536 us = N at *
    have HLEN := hid hlen
    have HPOS := hid hpos
    clear hlen hpos
    go_enter Tryz.func42, Tryz.ntmps42
    go_wp2_with (first
      | (go_at_call 79; (with_reducible refine (R1.out).mono ?_); rintro e w' ⟨rfl, rfl⟩))
    refine HP.out.mono ?_
    rintro e w1 ⟨M, ys, rfl, hr1, HZ, hg1⟩
    have hM : M ≤ 10001 := by have := HZ.out.1; omega
    obtain ⟨t, ht20⟩ : ∃ t, t = 20 * M := ⟨_, rfl⟩
    have hLM : (20 : Int) * (M : Int) = (t : Int) := by omega
    have htb : t ≤ 200020 := by omega
    have HT := hid ht20
    clear ht20
    go_wp2_with (first
      | (at_make; refine wl_make _ rfl _ _ 61 rfl 5 .u8 1 Tryz.underlying61 (by kernel_rfl) _ _ _ _ rfl rfl t (by first | rfl | exact hLM) (by first | rfl | exact hLM) (by omega) (by omega) ?_; intro w2 hr2 hg2))
    obtain ⟨g1, hg1e⟩ : ∃ g1, g1 = w.heap.size := ⟨_, rfl⟩
    obtain ⟨g2, hg2e⟩ : ∃ g2, g2 = w1.heap.size := ⟨_, rfl⟩
    have hg12 : g1 < g2 := by rw [hg1e, hg2e]; exact hr1.lt
    rw [← hg1e] at hr1 ⊢
    rw [← hg2e] at hr2 ⊢
    have hcur0 := hr1.kept hg2 (by simp)
    have hgw0 := grown_trans hg1 hg2
    have HG := hid (And.intro hg1e hg2e)
    have HG1 := hid hg1.size
    clear hg1e hg2e hr1 hg1 hg2 HP
    go_loopg [3, 5] N (fun j x y wr => ∃ (m p : Nat) (cur row : List Nat) (ds : List UInt8), x = .slice (some ⟨g1, 0, none⟩) m M ∧ y = .int .i64 p ∧ m ≤ M ∧ p ≤ t ∧ IRow wr g1 91 .u64 cur ∧ IRow wr g2 5 .u8 row ∧ w.grownBy wr none ∧
       Hid (j = V W64 (cur.take m) ∧ cur.length = M ∧ Dg W64 cur ∧ (m ≠ 0 → 0 < j) ∧ row.length = t ∧ row.drop p = ds.map UInt8.toNat ∧ dd N = dd j ++ ds))
    case atStart =>
      refine ⟨M, t, ys, _, [], rfl, by simp, Nat.le_refl _, Nat.le_refl _, hcur0, hr2, hgw0, hid ⟨?_, HZ.out.2.1, HZ.out.2.2.2, fun _ => HPOS.out, by simp, ?_, by simp⟩⟩
      · rw [List.take_of_length_le (by rw [HZ.out.2.1]; exact Nat.le_refl _)]; exact HZ.out.2.2.1.symm
      · rw [List.drop_of_length_le (by simp)]; rfl
    case round =>
      clear hcur0 hr2 hgw0
      obtain ⟨m, p, cur, row, ds, rfl, rfl, hm, hp, hcur, hrow, hgw, HI⟩ := hrel
      by_cases h0 : 0 < m
      · have hD := hid (divW_any g1 m M cur 10000000000000000000 wr hcur (by rw [HI.out.2.1]; exact hm) hm (by omega) (by rw [HI.out.2.1]; omega) HI.out.2.2.1 (by decide) (by decide))
        have h0' : (0 : Int) < (m : Int) := by omega
        go_wp2_with fail
        refine hD.out.mono ?_
        rintro e w3 ⟨cur', rfl, hcur3, hgr, HD⟩
        have hrow3 := hrow.kept hgr (by intro e; cases e; omega)
        have hgw3 : w.grownBy w3 none := grown_new hgw hgr (fun g e => by cases e; rw [HG.out.1]; exact Nat.le_refl _)
        have hrd : IRd w3 .u64 (some ⟨g1, 0, none⟩) m M (cur'.take m) := by
          have := hcur3.rd 0 m M (by rw [HD.out.1, HI.out.2.1]; omega) hm (by omega)
          simpa using this
        have htr := trim64 _ m M (cur'.take m) w3 hrd
        have hm'm : (trimR (cur'.take m)).length ≤ m := by have := trimR_length_le (cur'.take m); rw [List.length_take] at this; omega
        have htk : trimR (cur'.take m) = cur'.take (trimR (cur'.take m)).length := by
          have := trimR_eq_take (cur'.take m)
          rwa [List.take_take, Nat.min_eq_left hm'm] at this
        have hcan := Can_trimR (HD.out.2.1.take m)
        have hVt := V_trimR (B := W64) (cur'.take m)
        rw [HD.out.2.2.1, ← HI.out.1] at hVt
        obtain ⟨G, hG⟩ : ∃ G, G = V W64 (cur.take m) % 10000000000000000000 := ⟨_, rfl⟩
        rw [← hG]
        rw [← HI.out.1] at hG
        obtain ⟨m', hm'⟩ : ∃ m', m' = (trimR (cur'.take m)).length := ⟨_, rfl⟩
        rw [← hm'] at htr hm'm htk
        obtain ⟨W, hW⟩ : ∃ W, W = V W64 (cur'.take m') := ⟨_, rfl⟩
        rw [htk, ← hW] at hVt
        have hW0 : m' ≠ 0 → 0 < W := fun h => by rw [hW, ← htk]; exact hcan.pos (by decide) (by intro e; rw [e] at hm'; exact h hm')
        have hW1 : m' = 0 → W = 0 := fun h => by rw [hW, h]; rfl
        have hGlt : G < 10 ^ 19 := by rw [hG]; exact Nat.mod_lt _ (by decide)
        have hsum : gk = W * 10 ^ (19 - 0) + G := by rw [hVt, hG]; have := Nat.div_add_mod gk 10000000000000000000; omega
        have hWlt : W < gk := by rw [hVt]; exact Nat.div_lt_self (HI.out.2.2.2.1 (by omega)) (by decide)
        have hlen : (dd N).length ≤ t := by rw [HT.out, HZ.out.1]; exact dd_length_le _ _ HLEN.out
        have hrw : row.drop p = ds.map UInt8.toNat := HI.out.2.2.2.2.2.1
        have hdd := HI.out.2.2.2.2.2.2
        rw [hsum] at hdd
        have HTR := hid htr
        have HWW := hid (And.intro hW (And.intro hW0 (And.intro hW1 hWlt)))
        have HC := hid (And.intro HD.out.2.1 (HD.out.1.trans HI.out.2.1))
        have HIN := hid (And.intro hGlt (And.intro HI.out.2.2.2.2.1 (And.intro hrw hdd)))
        have HLN := hid hlen
        clear htr hW hW0 hW1 hWlt hGlt hrw hdd hlen hsum hVt hcan htk hm' hG hrd hD hgr hgw hcur hrow HI HD
        go_wp2_with fail
        refine HTR.out.mono ?_
        rintro e w4 ⟨rfl, rfl⟩
        go_wp2_with fail
        go_loopw [5, 6] (fun x y wr => ∃ (k p' g : Nat) (row : List Nat) (ds : List UInt8), x = .int .i64 p' ∧ y = .int .u64 g ∧ k ≤ 19 ∧ p' + k = p ∧ IRow wr g1 91 .u64 cur' ∧ IRow wr g2 5 .u8 row ∧ w.grownBy wr none ∧
          Hid (g < 10 ^ (19 - k) ∧ row.length = t ∧ row.drop p' = ds.map UInt8.toNat ∧ dd N = dd (W * 10 ^ (19 - k) + g) ++ ds)) (fun x _ _ => (intOf x).toNat)
        case atStart => exact ⟨0, p, G, row, ds, rfl, rfl, by omega, rfl, hcur3, hrow3, hgw3, hid HIN.out⟩
        case round =>
          clear hcur3 hrow3 hgw3 HIN
          obtain ⟨k, p', g, row, ds, rfl, rfl, hk, hpk, hc, hr, hg, HI⟩ := hrel
          have hfin : ∀ q v, w.grownBy (wr.setCell ⟨g2, q, none⟩ v) none := fun q v => grown_new hg (grown_setCell wr ⟨g2, q, none⟩ v) (fun g e => by cases e; rw [HG.out.2]; exact HG1.out)
          have hckeep : ∀ q v, IRow (wr.setCell ⟨g2, q, none⟩ v) g1 91 .u64 cur' := fun q v => hc.kept (grown_setCell wr ⟨g2, q, none⟩ v) (by intro e; simp at e; omega)
          have HFIN := hid (And.intro hfin hckeep)
          clear hfin hckeep
          by_cases hgo : 0 < g ∨ (0 < m' ∧ k < 19)
          · have hk19 : k < 19 := by
              rcases hgo with h | h
              · rcases Nat.lt_or_ge k 19 with h' | h'
                · exact h'
                · have := HI.out.1
                  rw [show 19 - k = 0 by omega] at this
                  simp at this; omega
              · exact h.2
            have hR : 0 < W * 10 ^ (19 - k) + g := by
              rcases hgo with h | h
              · omega
              · have := Nat.mul_pos (HWW.out.2.1 (by omega)) (Nat.pow_pos (n := 19 - k) (show 0 < 10 by omega)); omega
            have e := group_step hk19 hR
            have hdl : (dd (W * 10 ^ (19 - k) + g)).length + ds.length = (dd N).length := by rw [HI.out.2.2.2, List.length_append]
            have hd1 : 1 ≤ (dd (W * 10 ^ (19 - k) + g)).length := by rw [dd_step hR, List.length_append]; simp
            have hds : ds.length = t - p' := by have := congrArg List.length HI.out.2.2.1; rw [List.length_drop, HI.out.2.1, List.length_map] at this; omega
            have hp1 : 1 ≤ p' := by have := HLN.out; omega
            obtain ⟨q, rfl⟩ : ∃ q, p' = q + 1 := ⟨p' - 1, by omega⟩
            have hql : q < row.length := by rw [HI.out.2.1]; omega
            have hcc := hr.cell q hql
            have hfr := hr.free q
            obtain ⟨y, hy⟩ : ∃ y, y = row[q] := ⟨_, rfl⟩
            rw [← hy] at hcc
            obtain ⟨d, hd'⟩ : ∃ d, d = g % 10 := ⟨_, rfl⟩
            obtain ⟨g', hg'⟩ : ∃ g', g' = g / 10 := ⟨_, rfl⟩
            have hd10 : d < 10 := by rw [hd']; exact Nat.mod_lt _ (by omega)
            have hnew : Hid (g' < 10 ^ (19 - (k + 1)) ∧ (row.set q (48 + d)).length = t ∧ (row.set q (48 + d)).drop q = (dgc d :: ds).map UInt8.toNat ∧ dd N = dd (W * 10 ^ (19 - (k + 1)) + g') ++ (dgc d :: ds)) := hid (by
              refine ⟨by rw [hg']; exact group_lt hk19 HI.out.1, by rw [List.length_set]; exact HI.out.2.1, ?_, ?_⟩
              · rw [drop_set_pred _ _ _ hql, List.map_cons, dgc_toNat hd10, HI.out.2.2.1]
              · rw [HI.out.2.2.2, dd_step hR, e.1, e.2, ← hd', ← hg', List.append_assoc]; rfl)
            have hE1 : (g : Int) % 10 = (d : Int) := by omega
            have hE2 : (g : Int) / 10 = (g' : Int) := by omega
            have hE3 : IntKind.u64.wrap (g' : Int) = (g' : Int) := by
              have h1 := HI.out.1
              have h2 : 10 ^ (19 - k) ≤ 10 ^ 19 := Nat.pow_le_pow_right (by omega) (by omega)
              rw [IntKind.wrap_u64]; omega
            have hq1 : (0 : Int) ≤ (q : Int) := by omega
            have hq2 : (q : Int) < (t : Int) := by rw [← HI.out.2.1]; omega
            have hsplit : (0 : Int) < (g : Int) ∨ (¬ ((0 : Int) < (g : Int)) ∧ (0 : Int) < (m' : Int) ∧ (p : Int) - 19 < (q : Int) + 1) := by
              rcases Nat.eq_zero_or_pos g with h0 | h0
              · rcases hgo with h | h
                · omega
                · exact .inr ⟨by omega, by omega, by omega⟩
              · exact .inl (by omega)
            clear hy hd' hg' hdl hd1 hds e hR hgo hp1 HI
            rcases hsplit with h1 | ⟨h0', h1, h2⟩
            · go_wp2
              exact ⟨⟨k + 1, q, g', _, _, by first | rfl | (simp; done) | (simp; omega), by first | rfl | (simp; done) | (simp; omega), by omega, by omega, HFIN.out.2 _ _, hr.setv q _ (48 + d) (by first | omega | (rw [IntKind.wrap_u8]; omega)), HFIN.out.1 _ _, hnew⟩, by simp [intOf]⟩
            · go_wp2
              exact ⟨⟨k + 1, q, g', _, _, by first | rfl | (simp; done) | (simp; omega), by first | rfl | (simp; done) | (simp; omega), by omega, by omega, HFIN.out.2 _ _, hr.setv q _ (48 + d) (by first | omega | (rw [IntKind.wrap_u8]; omega)), HFIN.out.1 _ _, hnew⟩, by simp [intOf]⟩
          · have hg0 : g = 0 := by omega
            have hmk : m' = 0 ∨ (0 < m' ∧ k = 19) := by omega
            have hdd : dd N = dd W ++ ds := by
              have := HI.out.2.2.2
              rcases hmk with h | h
              · rw [HWW.out.2.2.1 h] at this ⊢
                rw [hg0] at this
                simpa using this
              · rw [h.2, hg0] at this
                simpa using this
            have HR := hid (And.intro HI.out.2.1 (And.intro HI.out.2.2.1 hdd))
            have hng : ¬ ((0 : Int) < (g : Int)) := by omega
            have hsplit : (¬ ((0 : Int) < (m' : Int))) ∨ ((0 : Int) < (m' : Int) ∧ ¬ ((p : Int) - 19 < (p' : Int))) := by
              rcases hmk with h | h
              · exact .inl (by omega)
              · exact .inr ⟨by omega, by omega⟩
            clear hgo hg0 hmk hdd HI
            rcases hsplit with h1 | ⟨h1, h2⟩
            all_goals
              go_wp2
              go_roundg W
              case measure => exact HWW.out.2.2.2
              case rel => exact ⟨m', p', cur', row, ds, rfl, rfl, by omega, by omega, hc, hr, hg, hid ⟨HWW.out.1, HC.out.2, HC.out.1, HWW.out.2.1, HR.out.1, HR.out.2.1, HR.out.2.2⟩⟩
      · have hm0 : m = 0 := by omega
        subst hm0
        have hj0 : gk = 0 := by rw [HI.out.1]; rfl
        have hdd : Lib.decDigits N = ds := by
          have := HI.out.2.2.2.2.2.2
          rw [hj0, dd_zero, List.nil_append, dd_pos HPOS.out] at this
          exact this
        have hds : ds.length = t - p := by have := congrArg List.length HI.out.2.2.2.2.2.1; rw [List.length_drop, HI.out.2.2.2.2.1, List.length_map] at this; omega
        have hne : ds ≠ [] := by
          rw [← hdd]
          obtain ⟨_, _, c, r, e, _⟩ := dec_spec N
          rw [e]; simp
        have hlt : p < t := by
          have : ds.length ≠ 0 := fun e => hne (List.eq_nil_of_length_eq_zero e)
          omega
        have hcv : (convert 61 9 (.slice (some ⟨g2, p, none⟩) (t - p) (t - p))).run Tryz.prog wr = .ok (.string ⟨ds.toArray⟩) wr := by
          have h := run_convert_bytes_back (P := Tryz.prog) wr 61 9 5 ⟨g2, p, none⟩ (t - p) ds (by kernel_rfl) (by kernel_rfl) (by kernel_rfl) (fun j hj => by
            have hjl : p + j < row.length := by rw [HI.out.2.2.2.2.1]; omega
            rw [Lib.add_plain, hrow.cell (p + j) hjl]
            have e : row[p + j] = (row.drop p)[j]'(by rw [List.length_drop]; omega) := by simp
            rw [e]
            congr 2
            simp only [HI.out.2.2.2.2.2.1, List.getElem_map])
          rw [hds] at h
          exact h
        have hpt : (p : Int) ≤ (t : Int) := by omega
        have htp : ((t : Int) - (p : Int)).toNat = t - p := by omega
        have HDD := hid hdd
        clear hdd hds hne hj0 HI
        go_wp2
        go_ret
        exact ⟨by rw [HDD.out]; rfl, hgw⟩
end Go.Proofs.YtiaonbofkgkdhaaGreatDoor

set_option linter.unusedVariables false
set_option linter.unusedSimpArgs false
namespace Go.Proofs.YtiaonbofkgkdhaaGreatDoor
open Go.RowKit _root_.Nm

theorem IsC.zlen {w : World} {p : Option Addr} {n c N : Nat} (h : IsC w p n c N) : (n = 0 ∧ N = 0) ∨ (0 < n ∧ 0 < N) := by
  have hl := h.len
  rcases Nat.eq_zero_or_pos N with h0 | h0
  · subst h0
    rw [dg_zero] at hl
    exact .inl ⟨by simpa using hl.symm, rfl⟩
  · refine .inr ⟨?_, h0⟩
    rcases Nat.eq_zero_or_pos n with h1 | h1
    · have e := V_dg (B := 65536) (by omega) N
      rw [List.eq_nil_of_length_eq_zero (hl.trans h1)] at e
      simp at e; omega
    · exact h1

theorem conv_one (w : World) (d : Nat) (hd : d < 10) : (convert 61 9 (.slice (some ⟨w.heap.size, 0, none⟩) 1 1)).run Tryz.prog (w.alloc (.cells #[.int .u8 (48 + (d : Int))] 5)) = .ok (str [dgc d]) (w.alloc (.cells #[.int .u8 (48 + (d : Int))] 5)) := by
  have h := run_convert_bytes_back (P := Tryz.prog) (w.alloc (.cells #[.int .u8 (48 + (d : Int))] 5)) 61 9 5 ⟨w.heap.size, 0, none⟩ 1 [dgc d] (by kernel_rfl) (by kernel_rfl) (by kernel_rfl) (fun j hj => by
    have : j = 0 := by simpa using hj
    subst this
    rw [show (⟨w.heap.size, 0, none⟩ : Addr).add 0 = ⟨w.heap.size, 0, none⟩ from rfl, World.cell?_alloc_new]
    simp [dgc_toNat hd])
  exact h

set_option maxHeartbeats 4000000 in
set_option maxRecDepth 100000 in
theorem refText_n {w : World} {a : Option Addr} {n c N : Nat} (hA : IsN w a n c N) (hn : n ≤ 40000) :
    Calls Tryz.prog 53 #[.slice a n c] w fun e w' => e = .returned (str (Lib.decDigits N)) ∧ w.grownBy w' none := by
  have hlen : (dd N).length ≤ 200000 := Nat.le_trans (dd_limbs hA.lt) (by omega)
  have HLEN := hid hlen
  clear hlen
  go_enter Tryz.func53, Tryz.ntmps53
  go_wp2_with fail
  refine (refNorm_n hA (by omega)).mono ?_
  rintro e w1 ⟨p1, n1, c1, rfl, hA1, hn1, hg1⟩
  rcases hA1.zlen with ⟨rfl, rfl⟩ | ⟨h1, h2⟩
  · clear hA1
    go_wp2_with fail
    go_ret
    exact ⟨by rw [dec_one (by omega)]; rfl, hg1⟩
  · have h1' : ((n1 : Int) == 0) = false := beq_eq_false_iff_ne.2 (by omega)
    have HPOS := hid h2
    clear h2
    go_wp2_with fail
    go_loopg [0, 3] N (fun j x y wr => ∃ (p : Option Addr) (n c : Nat) (ds : List UInt8), x = .slice p n c ∧ y = str ds ∧ IsC wr p n c j ∧ n ≤ 40000 ∧ w.grownBy wr none ∧ Hid (dd N = dd j ++ ds))
    case atStart => exact ⟨p1, n1, c1, [], rfl, rfl, hA1, by omega, hg1, hid (by simp)⟩
    case round =>
      clear hA1 hg1 h1 h1' hn1
      obtain ⟨p, n, c, ds, rfl, rfl, hC, hn, hW, HI⟩ := hrel
      rcases hC.zlen with ⟨rfl, rfl⟩ | ⟨h1, h2⟩
      · clear hC
        go_wp2_with fail
        go_ret
        have := HI.out
        rw [dd_zero, List.nil_append, dd_pos HPOS.out] at this
        exact ⟨by rw [this]; rfl, hW⟩
      · have h1' : (0 : Int) < (n : Int) := by omega
        have H2 := hid h2
        clear h2
        go_wp2_with fail
        refine (refOf_c 10 (by decide) _).mono ?_
        rintro e w2 ⟨p2, n2, c2, rfl, hT, hn2, hg2⟩
        go_wp2_with fail
        refine (refDivMod_n (hC.keep hg2).isN hT.isN (by omega) (by omega) (by omega)).mono ?_
        rintro e w3 ⟨p3, n3, c3, p4, n4, c4, rfl, hQ, hR, hn3, hn4, hg3⟩
        obtain ⟨d, hd⟩ : ∃ d, d = gk % 10 := ⟨_, rfl⟩
        rw [← hd] at hR
        have hd10 : d < 10 := by omega
        have hW3 := grown_trans hW (grown_trans hg2 hg3)
        have hS := refShort_any p4 n4 c4 _ w3 hR (Can_dg (by omega) d).1 (by
          have := hR.len
          have := dg_length_le (B := 65536) (n := d) (k := 1) (by omega) (by omega)
          omega)
        rw [V_dg (by omega)] at hS
        have HS := hid hS
        have HD := hid hd
        have hcv := conv_one w3 d hd10
        have hdl : ds.length ≤ 200000 := by
          have h1 := congrArg List.length HI.out
          have h2 := HLEN.out
          rw [List.length_append] at h1; omega
        have hcat : ∀ w, (Op.stringOp .add ⟨[dgc d].toArray⟩ ⟨ds.toArray⟩).run Tryz.prog w = .ok (str (dgc d :: ds)) w := fun w => run_string_add_lists w [dgc d] ds (by simp) (by omega)
        have hnew : Hid (dd N = dd (gk / 10) ++ (dgc d :: ds)) := hid (by rw [HI.out, dd_step H2.out, ← hd, List.append_assoc]; rfl)
        clear hS hd hC hT hW hg2 hg3 HI
        go_wp2_with fail
        refine HS.out.mono ?_
        rintro e w4 ⟨rfl, rfl⟩
        have hg4 := World.grownBy_alloc w3 (.cells #[.int .u8 (48 + (d : Int))] 5) none
        have hQ4 := hQ.keep hg4
        have hW4 := grown_trans hW3 hg4
        have HQ := hid (And.intro hQ4 hW4)
        clear hQ4 hW4 hQ hg4 hR hW3 HS
        go_wp2_with fail
        go_roundg (gk / 10)
        case measure => have := H2.out; omega
        case rel => exact ⟨p3, n3, c3, dgc d :: ds, rfl, by first | rfl | simp, HQ.out.1, by omega, HQ.out.2, hnew⟩
end Go.Proofs.YtiaonbofkgkdhaaGreatDoor

set_option linter.unusedVariables false
set_option linter.unusedSimpArgs false
namespace Go.Proofs.YtiaonbofkgkdhaaGreatDoor
open Go.ChangeShapes Go.WideShapes Go.ChangeAt Go.RowKit _root_.Nm

theorem tp_keep {w w' : World} (h : Tp w) (hg : w.grownBy w' none) : Tp w' := by
  unfold Tp Lib.TabIs World.var? at *
  cases hn : Tryz.prog.globalNamed "internal/strconv.uint64pow10" with
  | none => simp [hn] at h
  | some g =>
    simp only [hn, Option.bind_some] at h ⊢
    have hlt : g < w.heap.size := by
      rcases Nat.lt_or_ge g w.heap.size with h' | h'
      · exact h'
      · rw [Array.getElem?_eq_none h'] at h; simp at h
    rw [hg.block g hlt (by simp)]
    exact h

theorem gP10 : Tryz.prog.globalNamed "internal/strconv.uint64pow10" = some 4 := by kernel_rfl
theorem tP10 : (Tryz.prog.globals[4]?).map (·.type) = some 188 := by kernel_rfl
theorem p10_data : (Rows.laid_internal_strconv_uint64pow10 : DataW Unit) = Lib.tabData .u64 Lib.pow10Tab := by rfl
theorem tp_of_laid {W : World} (h : laidMetH Tryz.prog [("math/bits.deBruijn32tab", Rows.laid_math_bits_deBruijn32tab), ("math/bits.deBruijn64tab", Rows.laid_math_bits_deBruijn64tab), ("internal/strconv.uint64pow10", Rows.laid_internal_strconv_uint64pow10)] W) : Tp W := by
  rw [MakeChecks.laidMetH_plain _ _ _ (by kernel_rfl), p10_data] at h
  exact Lib.tabIs_of_head gP10 tP10 Tryz.underlying188 Tryz.underlying91 (by kernel_rfl) (by kernel_rfl) h.tail.tail
end Go.Proofs.YtiaonbofkgkdhaaGreatDoor

set_option linter.unusedVariables false
set_option linter.unusedSimpArgs false
namespace Go.Proofs.YtiaonbofkgkdhaaGreatDoor
open Go.RowKit _root_.Nm

/-- the numeral of an integer -/
def itx (Z : Int) : List UInt8 := if Z < 0 then 45 :: Lib.decDigits Z.natAbs else Lib.decDigits Z.natAbs
theorem itx_neg {Z : Int} (h : Z < 0) : itx Z = 45 :: Lib.decDigits Z.natAbs := if_pos h
theorem itx_pos {Z : Int} (h : ¬ Z < 0) : itx Z = Lib.decDigits Z.natAbs := if_neg h
theorem dec_limbs {N n : Nat} (h : N < 65536 ^ n) : (Lib.decDigits N).length ≤ 5 * n + 1 := by
  rcases Nat.eq_zero_or_pos N with h0 | h0
  · subst h0; rw [dec_one (by omega)]; simp
  · have := dd_limbs h
    rw [dd_pos h0] at this; omega
theorem cat_minus (w : World) (l : List UInt8) (h : l.length ≤ 200001) : (Op.stringOp .add ⟨#[45]⟩ ⟨l.toArray⟩).run Tryz.prog w = .ok (str (45 :: l)) w :=
  run_string_add_lists w [45] l (by simp) (by omega)

set_option maxHeartbeats 1000000 in
theorem intText_n {w : World} {g : Bool} {p : Option Addr} {n c : Nat} {Z : Int} (hA : IsZ w g p n c Z) (hn : n ≤ 40000) (T : Tp w) :
    Calls Tryz.prog 40 #[.agg #[.bool g, .slice p n c]] w fun e w' => e = .returned (str (itx Z)) ∧ w.grownBy w' none := by
  have hg1 := World.grownBy_alloc w (.cells #[.bool g, .slice p n c] 26) none
  have hA1 := hA.keep hg1
  have HT := hid (natText_n hA1.1 hn (tp_keep T hg1))
  have hl := dec_limbs hA.1.lt
  obtain ⟨l, hl'⟩ : ∃ l, l = Lib.decDigits Z.natAbs := ⟨_, rfl⟩
  rw [← hl'] at HT hl
  have hl2 : l.length ≤ 200001 := by omega
  have HI := hid (intSign_any hA1 (by omega))
  have HS := hid (fun W (h : (w.alloc (.cells #[.bool g, .slice p n c] 26)).grownBy W none) => intSign_any (hA1.keep h) (by omega))
  clear hl
  by_cases hz : Z < 0
  · have HC : Hid (cmpI Z 0 = -1) := hid (if_pos hz)
    rw [HC.out] at HS
    have hX : Hid (itx Z = 45 :: l) := hid (by rw [itx_neg hz, hl'])
    have hcat := fun W => cat_minus W l hl2
    clear hz hl'
    go_enter Tryz.func40, Tryz.ntmps40
    go_wp2_with fail
    refine HT.out.mono ?_
    rintro e w1 ⟨rfl, hg⟩
    have hc := gcell hg
    have hf := gfree hg
    have hz := hg.size
    simp at hz
    go_wp2_with fail
    refine (HS.out _ hg).mono ?_
    rintro e w2 ⟨rfl, hg2⟩
    go_wp2_with fail
    go_ret
    exact ⟨by rw [hX.out]; rfl, grown_trans hg1 (grown_trans hg hg2)⟩
  · have hX : Hid (itx Z = l) := hid (by rw [itx_pos hz, hl'])
    have HC : Hid (¬ cmpI Z 0 < 0) := hid (by
      unfold cmpI
      rw [if_neg hz]
      split <;> omega)
    generalize cmpI Z 0 = s at *
    have hs := HC.out
    clear hz hl'
    go_enter Tryz.func40, Tryz.ntmps40
    go_wp2_with fail
    refine HT.out.mono ?_
    rintro e w1 ⟨rfl, hg⟩
    have hc := gcell hg
    have hf := gfree hg
    have hz := hg.size
    simp at hz
    go_wp2_with fail
    refine (HS.out _ hg).mono ?_
    rintro e w2 ⟨rfl, hg2⟩
    go_wp2_with fail
    go_ret
    exact ⟨by rw [hX.out]; rfl, grown_trans hg1 (grown_trans hg hg2)⟩

set_option maxHeartbeats 1000000 in
theorem rText_n {w : World} {g : Bool} {p : Option Addr} {n c : Nat} {Z : Int} (hA : IsZ w g p n c Z) (hn : n ≤ 40000) :
    Calls Tryz.prog 52 #[.agg #[.bool g, .slice p n c]] w fun e w' => e = .returned (str (itx Z)) ∧ w.grownBy w' none := by
  have hg1 := World.grownBy_alloc w (.cells #[.bool g, .slice p n c] 26) none
  have HN := hid (rNorm_any (hA.keep hg1) (by omega))
  have hl := dec_limbs hA.1.lt
  obtain ⟨l, hl'⟩ : ∃ l, l = Lib.decDigits Z.natAbs := ⟨_, rfl⟩
  rw [← hl'] at hl
  have hl2 : l.length ≤ 200001 := by omega
  have hcat := fun W => cat_minus W l hl2
  have HL := hid hl'
  clear hl hl'
  go_enter Tryz.func52, Tryz.ntmps52
  go_wp2_with fail
  refine HN.out.mono ?_
  rintro e w1 ⟨g1, p1, n1, c1, rfl, h1, hn1, hg⟩
  have hbx : w1.heap[w.heap.size]? = some (.cells #[.bool g, .slice p n c] 26 (0, 0)) := (hg.block _ (by simp) (by simp)).trans (heap_alloc_new w _)
  have hc := gcell hg
  have hf := gfree hg
  have hz := hg.size
  simp at hz
  have hgs : (w1.grownBy ((w1.setCell ⟨w.heap.size, 0, none⟩ (.bool g1)).setCell ⟨w.heap.size, 1, none⟩ (.slice p1 n1 c1)) (some w.heap.size)) := grown_trans (grown_setCell w1 ⟨w.heap.size, 0, none⟩ _) (grown_setCell _ ⟨w.heap.size, 1, none⟩ _)
  have h2 : IsI ((w1.setCell ⟨w.heap.size, 0, none⟩ (.bool g1)).setCell ⟨w.heap.size, 1, none⟩ (.slice p1 n1 c1)) g1 p1 n1 c1 Z := ⟨IRd.other h1.1 hbx (fun j z => two_cells _ _ _ _ j _ z) hgs, h1.2⟩
  have hgw := grown_new (grown_trans hg1 hg) hgs (fun g e => by cases e; exact Nat.le_refl _)
  have HT := hid (refText_n h2.z.1 (by omega))
  rw [← HL.out] at HT
  have hdec := h1.2
  by_cases hZ : Z < 0
  · have hX : Hid (itx Z = 45 :: l) := hid (by rw [itx_neg hZ, HL.out])
    rw [decide_eq_true hZ] at hdec
    subst hdec
    clear h1 h2 hbx hZ hgs
    go_wp2_with fail
    refine HT.out.mono ?_
    rintro e w2 ⟨rfl, hg2⟩
    go_wp2_with fail
    go_ret
    exact ⟨by rw [hX.out]; rfl, grown_trans hgw hg2⟩
  · have hX : Hid (itx Z = l) := hid (by rw [itx_pos hZ, HL.out])
    rw [decide_eq_false hZ] at hdec
    subst hdec
    clear h1 h2 hbx hZ hgs
    go_wp2_with fail
    refine HT.out.mono ?_
    rintro e w2 ⟨rfl, hg2⟩
    go_wp2_with fail
    go_ret
    exact ⟨by rw [hX.out]; rfl, grown_trans hgw hg2⟩
end Go.Proofs.YtiaonbofkgkdhaaGreatDoor

set_option linter.unusedVariables false
set_option linter.unusedSimpArgs false
namespace Go.Proofs.YtiaonbofkgkdhaaGreatDoor
open Go.ChangeShapes Go.WideShapes Go.ChangeAt Go.RowKit _root_.Nm

theorem tb_of_laid5 {W : World} (h : laidMetH Tryz.prog [("math/bits.deBruijn32tab", Rows.laid_math_bits_deBruijn32tab), ("math/bits.deBruijn64tab", Rows.laid_math_bits_deBruijn64tab), ("internal/strconv.uint64pow10", Rows.laid_internal_strconv_uint64pow10)] W) : Tb W := by
  rw [MakeChecks.laidMetH_plain _ _ _ (by kernel_rfl), tab_data] at h
  exact tb_of_tab (Lib.tabIs_of_head gTab tTab Tryz.underlying185 Tryz.underlying5 (by kernel_rfl) (by kernel_rfl) h.tail)
end Go.Proofs.YtiaonbofkgkdhaaGreatDoor

set_option linter.unusedVariables false
set_option linter.unusedSimpArgs false
namespace Go.Proofs.YtiaonbofkgkdhaaGreatDoor
open Go.RowKit _root_.Nm

/-- the numeral of a rational number -/
def rtx (v : Rat) : List UInt8 := if v.den = 1 then itx v.num else itx v.num ++ [47] ++ Lib.decDigits v.den
theorem itx_limbs {Z : Int} {n : Nat} (h : Z.natAbs < 65536 ^ n) : (itx Z).length ≤ 5 * n + 2 := by
  have := dec_limbs h
  by_cases hz : Z < 0
  · rw [itx_neg hz]; simp; omega
  · rw [itx_pos hz]; omega

theorem set3_block {w : World} {G : Nat} {x y z : Value} {T : TypeId} (hb : w.heap[G]? = some (.cells #[x, y, z] T (0, 0))) (A B C : Value) :
    (((w.setCell ⟨G, 0, none⟩ A).setCell ⟨G, 1, none⟩ B).setCell ⟨G, 2, none⟩ C).heap[G]? = some (.cells #[A, B, C] T (0, 0)) := by
  have h1 := heap_setCell_same w G 0 _ _ A hb
  have h2 := heap_setCell_same _ G 1 _ _ B h1
  have h3 := heap_setCell_same _ G 2 _ _ C h2
  simpa using h3

set_option maxHeartbeats 2000000 in
theorem ratText_v {w : World} {g : Bool} {p q : Option Addr} {n c m d : Nat} {v : Rat} (T : Tb w) (TP : Tp w) (hA : IsQ w g p n c q m d v) (hn : n ≤ 1000) (hm : m ≤ 1000) :
    Calls Tryz.prog 18 #[.agg #[.bool g, .slice p n c, .slice q m d]] w fun e w' => e = .returned (str (rtx v)) ∧ w.grownBy w' none := by
  have hg1 := World.grownBy_alloc w (.cells #[.bool g, .slice p n c, .slice q m d] 28) none
  obtain ⟨N, D, h1, h2, hv⟩ := hA
  have HPt := hid (parts_any (h1.keep hg1) (h2.keep hg1) (by omega) (by omega))
  go_enter Tryz.func18, Tryz.ntmps18
  go_wp2_with fail
  refine HPt.out.mono ?_
  rintro e w1 ⟨ga, pa, na, ca, qa, ma, da, rfl, k1, k2, hna, hma, hg⟩
  go_wp2_with fail
  refine (lowest_any (T.keep (grown_trans hg1 hg)) k1 k2 (pd_pos D) (by omega) (by omega)).mono ?_
  rintro e w2 ⟨g2, p2, n2, c2, q2, m2, d2, rfl, i1, i2, hn2, hm2, hg2⟩
  rw [rn_q (pd_pos D), pq, ← hv] at i1
  rw [rd_q (pd_pos D), pq, ← hv] at i2
  have hbx : w2.heap[w.heap.size]? = some (.cells #[.bool g, .slice p n c, .slice q m d] 28 (0, 0)) := ((grown_trans hg hg2).block _ (by simp) (by simp)).trans (heap_alloc_new w _)
  obtain ⟨x0, x1, x2, f0, f1, f2⟩ := ratbox_facts hbx
  have hgs := set3_grown w2 w.heap.size (.bool g2) (.slice p2 n2 c2) (.slice q2 m2 d2)
  have hb3 := set3_block hbx (.bool g2) (.slice p2 n2 c2) (.slice q2 m2 d2)
  replace i1 : IsI _ g2 p2 n2 c2 v.num := ⟨IsC.other3 i1.1 hbx hgs, i1.2⟩
  replace i2 := i2.other3 hbx hgs
  have hW := grown_new (grown_trans hg1 (grown_trans hg hg2)) hgs (fun g e => by cases e; exact Nat.le_refl _)
  obtain ⟨y0, y1, y2, _, _, _⟩ := ratbox_facts hb3
  have hl1 : (itx v.num).length ≤ 200002 := by have := itx_limbs i1.1.isN.lt; omega
  have hl2 : (Lib.decDigits v.den).length ≤ 200001 := by have := dec_limbs i2.isN.lt; omega
  obtain ⟨l1, hl1e⟩ : ∃ l1, l1 = itx v.num := ⟨_, rfl⟩
  obtain ⟨l2, hl2e⟩ : ∃ l2, l2 = Lib.decDigits v.den := ⟨_, rfl⟩
  rw [← hl1e] at hl1
  rw [← hl2e] at hl2
  have hcat1 : ∀ w, (Op.stringOp .add ⟨l1.toArray⟩ ⟨#[47]⟩).run Tryz.prog w = .ok (str (l1 ++ [47])) w := fun w => run_string_add_lists w l1 [47] (by omega) (by simp)
  have hcat2 : ∀ w, (Op.stringOp .add ⟨(l1 ++ [47]).toArray⟩ ⟨l2.toArray⟩).run Tryz.prog w = .ok (str (l1 ++ [47] ++ l2)) w := fun w => run_string_add_lists w (l1 ++ [47]) l2 (by simp; omega) (by omega)
  have HL := hid (And.intro hl1e hl2e)
  clear hl1e hl2e hgs hb3 hbx h1 h2 hv HPt k1 k2 hg hg2 hg1
  go_wp2_with fail
  generalize ((w2.setCell ⟨w.heap.size, 0, none⟩ (.bool g2)).setCell ⟨w.heap.size, 1, none⟩ (.slice p2 n2 c2)).setCell ⟨w.heap.size, 2, none⟩ (.slice q2 m2 d2) = w3 at *
  have hT1 := intText_n i1.z (by omega) (tp_keep TP hW)
  rw [← HL.out.1] at hT1
  refine hT1.mono ?_
  rintro e w4 ⟨rfl, hg⟩
  replace i2 := i2.keep hg; replace y0 := hg.cell y0 (by simp); replace y1 := hg.cell y1 (by simp); replace y2 := hg.cell y2 (by simp); replace hW := grown_trans hW hg; clear hg hT1
  go_wp2_with fail
  refine (isOne_any i2.isN).mono ?_
  rintro e w5 ⟨rfl, hg⟩
  replace i2 := i2.keep hg; replace y0 := hg.cell y0 (by simp); replace y1 := hg.cell y1 (by simp); replace y2 := hg.cell y2 (by simp); replace hW := grown_trans hW hg; clear hg
  by_cases hd : v.den = 1
  · have HR : Hid (rtx v = l1) := hid (by unfold rtx; rw [if_pos hd, HL.out.1])
    rw [decide_eq_true hd]
    clear hd
    go_wp2_with fail
    go_ret
    exact ⟨by rw [HR.out]; rfl, hW⟩
  · have HR : Hid (rtx v = l1 ++ [47] ++ l2) := hid (by unfold rtx; rw [if_neg hd, HL.out.1, HL.out.2])
    rw [decide_eq_false hd]
    clear hd
    have hT2 := natText_n i2.isN (by omega) (tp_keep TP hW)
    rw [← HL.out.2] at hT2
    have HT2 := hid hT2
    clear hT2
    go_wp2_with fail
    refine HT2.out.mono ?_
    rintro e w6 ⟨rfl, hg⟩
    go_wp2_with fail
    go_ret
    exact ⟨by rw [HR.out, List.append_assoc]; rfl, grown_trans hW hg⟩

theorem refOneL (w : World) : Calls Tryz.prog 51 #[.int .u64 1] w fun e w' => ∃ p n c, e = .returned (.slice p n c) ∧ IsC w' p n c 1 ∧ n ≤ 4 ∧ w.grownBy w' none := refOf_c 1 (by decide) w

set_option maxHeartbeats 4000000 in
set_option maxRecDepth 100000 in
theorem rRatText_v {w : World} {g : Bool} {p q : Option Addr} {n c m d : Nat} {v : Rat} (hA : IsQ w g p n c q m d v) (hn : n ≤ 1000) (hm : m ≤ 1000) :
    Calls Tryz.prog 23 #[.agg #[.bool g, .slice p n c, .slice q m d]] w fun e w' => e = .returned (str (rtx v)) ∧ w.grownBy w' none := by
  have hg1 := World.grownBy_alloc w (.cells #[.bool g, .slice p n c, .slice q m d] 28) none
  have HN := hid (norm_v 1000 (hA.keep hg1) hn hm (by omega))
  go_enter Tryz.func23, Tryz.ntmps23
  go_wp2_with fail
  refine HN.out.mono ?_
  rintro e w2 ⟨g2, p2, n2, c2, q2, m2, d2, rfl, ⟨i1, i2⟩, hn2, hm2, hg⟩
  have hbx : w2.heap[w.heap.size]? = some (.cells #[.bool g, .slice p n c, .slice q m d] 28 (0, 0)) := (hg.block _ (by simp) (by simp)).trans (heap_alloc_new w _)
  obtain ⟨x0, x1, x2, f0, f1, f2⟩ := ratbox_facts hbx
  have hgs := set3_grown w2 w.heap.size (.bool g2) (.slice p2 n2 c2) (.slice q2 m2 d2)
  have hb3 := set3_block hbx (.bool g2) (.slice p2 n2 c2) (.slice q2 m2 d2)
  replace i1 : IsI _ g2 p2 n2 c2 v.num := ⟨IsC.other3 i1.1 hbx hgs, i1.2⟩
  replace i2 := i2.other3 hbx hgs
  have hW := grown_new (grown_trans hg1 hg) hgs (fun g e => by cases e; exact Nat.le_refl _)
  obtain ⟨y0, y1, y2, _, _, _⟩ := ratbox_facts hb3
  have hl1 : (itx v.num).length ≤ 200002 := by have := itx_limbs i1.1.isN.lt; omega
  have hl2 : (Lib.decDigits v.den).length ≤ 200001 := by have := dec_limbs i2.isN.lt; omega
  obtain ⟨l1, hl1e⟩ : ∃ l1, l1 = itx v.num := ⟨_, rfl⟩
  obtain ⟨l2, hl2e⟩ : ∃ l2, l2 = Lib.decDigits v.den := ⟨_, rfl⟩
  rw [← hl1e] at hl1
  rw [← hl2e] at hl2
  have hcat1 : ∀ w, (Op.stringOp .add ⟨l1.toArray⟩ ⟨#[47]⟩).run Tryz.prog w = .ok (str (l1 ++ [47])) w := fun w => run_string_add_lists w l1 [47] (by omega) (by simp)
  have hcat2 : ∀ w, (Op.stringOp .add ⟨(l1 ++ [47]).toArray⟩ ⟨l2.toArray⟩).run Tryz.prog w = .ok (str (l1 ++ [47] ++ l2)) w := fun w => run_string_add_lists w (l1 ++ [47]) l2 (by simp; omega) (by omega)
  have HL := hid (And.intro hl1e hl2e)
  have HT1 := hid (fun W (h : IsI W g2 p2 n2 c2 v.num) => rText_n h.z (by omega))
  rw [← HL.out.1] at HT1
  have HT2 := hid (fun W (h : IsC W q2 m2 d2 v.den) => refText_n h.isN (by omega))
  rw [← HL.out.2] at HT2
  clear hl1e hl2e hgs hb3 hbx hA HN hg hg1
  go_upto_region 2 with fail
  generalize ((w2.setCell ⟨w.heap.size, 0, none⟩ (.bool g2)).setCell ⟨w.heap.size, 1, none⟩ (.slice p2 n2 c2)).setCell ⟨w.heap.size, 2, none⟩ (.slice q2 m2 d2) = w3 at *
  generalize w.heap.size = K at *
  have hg := grown_drew w3 none
  replace i1 := i1.keep hg; replace i2 := i2.keep hg; replace y0 := hg.cell y0 (by simp); replace y1 := hg.cell y1 (by simp); replace y2 := hg.cell y2 (by simp); replace hW := grown_trans hW hg; clear hg
  go_region_held3 (fun w' => w'.cell? ⟨K, 0, none⟩ = some (.bool g2) ∧ w'.cell? ⟨K, 1, none⟩ = some (.slice p2 n2 c2) ∧ w'.cell? ⟨K, 2, none⟩ = some (.slice q2 m2 d2)) ((try go_split_ands) <;> (repeat' apply And.intro) <;> (repeat (first | (with_reducible assumption) | (with_reducible refine (grown_setCell _ _ _).cell ?_ (by simp; omega)) | (with_reducible refine (World.grownBy_alloc _ _ none).cell ?_ (by simp)) | (with_reducible refine (grown_drew _ none).cell ?_ (by simp)))))
    (first
      | (go_at_call 51; (with_reducible refine (refOneL _).mono ?_); rintro e w4 ⟨p4, n4, c4, rfl, hO, hn4, hg⟩; replace i1 := i1.keep hg; replace i2 := i2.keep hg; replace y0 := hg.cell y0 (by simp); replace y1 := hg.cell y1 (by simp); replace y2 := hg.cell y2 (by simp); replace hW := grown_trans hW hg; clear hg)
      | (go_at_call 50; (with_reducible refine (same_d i2 hO).mono ?_); rintro e w5 ⟨rfl, hg⟩; replace i1 := i1.keep hg; replace i2 := i2.keep hg; replace y0 := hg.cell y0 (by simp); replace y1 := hg.cell y1 (by simp); replace y2 := hg.cell y2 (by simp); replace hW := grown_trans hW hg; clear hg))
  by_cases hd : v.den = 1
  · have HR : Hid (rtx v = l1) := hid (by unfold rtx; rw [if_pos hd, HL.out.1])
    rw [decide_eq_true hd]
    clear hd
    go_wp2_with fail
    refine (HT1.out _ i1).mono ?_
    rintro e w6 ⟨rfl, hg⟩
    go_wp2_with fail
    go_ret
    exact ⟨by rw [HR.out]; rfl, grown_trans hW hg⟩
  · have HR : Hid (rtx v = l1 ++ [47] ++ l2) := hid (by unfold rtx; rw [if_neg hd, HL.out.1, HL.out.2])
    rw [decide_eq_false hd]
    clear hd
    go_upto_region 4 with fail
    have hg := grown_drew w5 none
    replace i1 := i1.keep hg; replace i2 := i2.keep hg; replace y0 := hg.cell y0 (by simp); replace y1 := hg.cell y1 (by simp); replace y2 := hg.cell y2 (by simp); replace hW := grown_trans hW hg; clear hg
    go_region_held3 (fun w' => w'.cell? ⟨K, 0, none⟩ = some (.bool g2) ∧ w'.cell? ⟨K, 1, none⟩ = some (.slice p2 n2 c2) ∧ w'.cell? ⟨K, 2, none⟩ = some (.slice q2 m2 d2)) ((try go_split_ands) <;> (repeat' apply And.intro) <;> (repeat (first | (with_reducible assumption) | (with_reducible refine (grown_setCell _ _ _).cell ?_ (by simp; omega)) | (with_reducible refine (World.grownBy_alloc _ _ none).cell ?_ (by simp)) | (with_reducible refine (grown_drew _ none).cell ?_ (by simp)))))
      (first
        | (go_at_call 52; (with_reducible refine (HT1.out _ i1).mono ?_); rintro e w6 ⟨rfl, hg⟩; replace i1 := i1.keep hg; replace i2 := i2.keep hg; replace y0 := hg.cell y0 (by simp); replace y1 := hg.cell y1 (by simp); replace y2 := hg.cell y2 (by simp); replace hW := grown_trans hW hg; clear hg)
        | (go_at_call 53; (with_reducible refine (HT2.out _ i2).mono ?_); rintro e w7 ⟨rfl, hg⟩; replace i1 := i1.keep hg; replace i2 := i2.keep hg; replace y0 := hg.cell y0 (by simp); replace y1 := hg.cell y1 (by simp); replace y2 := hg.cell y2 (by simp); replace hW := grown_trans hW hg; clear hg))
    all_goals
      go_wp2_with fail
      go_ret
      exact ⟨by rw [HR.out, List.append_assoc]; rfl, hW⟩
end Go.Proofs.YtiaonbofkgkdhaaGreatDoor

set_option linter.unusedVariables false
set_option linter.unusedSimpArgs false
namespace Go.Proofs.YtiaonbofkgkdhaaGreatDoor
open Go.RowKit _root_.Nm
theorem mk_num_le (N : Int) (D : Nat) : (mkRat N D).num.natAbs ≤ N.natAbs := by
  rw [Rat.num_mkRat]
  split
  · simp
  · exact Int.natAbs_ediv_le_natAbs _ _
theorem mk_den_le (N : Int) (D : Nat) : (mkRat N D).den ≤ D + 1 := by
  rw [Rat.den_mkRat]
  split
  · omega
  · exact Nat.le_trans (Nat.div_le_self _ _) (by omega)
theorem rtx_len {w : World} {g : Bool} {p q : Option Addr} {n c m d : Nat} {v : Rat} (h : IsQ w g p n c q m d v) : (rtx v).length ≤ 5 * n + 5 * m + 20 := by
  obtain ⟨N, D, h1, h2, rfl⟩ := h
  have hN : (mkRat N D).num.natAbs < 65536 ^ n := Nat.lt_of_le_of_lt (mk_num_le N D) h1.1.lt
  have hD : (mkRat N D).den < 65536 ^ (m + 1) := by
    have a := mk_den_le N D
    have b := h2.lt
    have c : 65536 ^ m * 1 < 65536 ^ m * 65536 := Nat.mul_lt_mul_of_pos_left (by decide) (Nat.pow_pos (by decide))
    rw [Nat.pow_succ]
    omega
  have l1 := itx_limbs hN
  have l2 := dec_limbs hD
  unfold rtx
  split
  · omega
  · simp only [List.length_append, List.length_cons, List.length_nil]
    omega
end Go.Proofs.YtiaonbofkgkdhaaGreatDoor
