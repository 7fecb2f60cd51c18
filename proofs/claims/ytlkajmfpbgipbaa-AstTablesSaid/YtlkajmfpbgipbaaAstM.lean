/-
  The kinds of expressions as a table. No program is mentioned here.
-/
import Derived.Lib.Strings
import Derived.KernelRfl
set_option linter.unusedVariables false
set_option linter.unusedSimpArgs false
namespace Ax

structure Ent where
  k : Nat
  s : Nat
  w : List UInt8
  p : List Nat
/-- kind, sort, word, parameters -/
def tab : List Ent := [
  ⟨10, 1, [109, 105, 100, 112, 111, 105, 110, 116], [1, 1]⟩,
  ⟨11, 1, [100, 105, 118, 105, 100, 101], [1, 1]⟩,
  ⟨12, 1, [114, 101, 102, 108, 101, 99, 116], [1, 1]⟩,
  ⟨13, 1, [109, 105, 114, 114, 111, 114], [1, 2]⟩,
  ⟨14, 1, [102, 111, 111, 116], [1, 2]⟩,
  ⟨15, 1, [109, 101, 101, 116], [2, 2]⟩,
  ⟨16, 1, [111, 110], [0]⟩,
  ⟨17, 1, [111, 116, 104, 101, 114], [1, 1, 1]⟩,
  ⟨18, 1, [99, 111, 109, 109, 111, 110], [1, 1, 1]⟩,
  ⟨19, 1, [99, 101, 110, 116, 101, 114], [1, 1, 1]⟩,
  ⟨20, 1, [115, 104, 105, 102, 116], [1, 1, 1]⟩,
  ⟨21, 1, [116, 117, 114, 110], [1, 1]⟩,
  ⟨22, 1, [99, 117, 116], [2, 3]⟩,
  ⟨23, 1, [99, 114, 111, 115, 115], [3, 3]⟩,
  ⟨24, 1, [97, 112, 101, 120], [1, 1]⟩,
  ⟨40, 2, [108, 105, 110, 101], [1, 1]⟩,
  ⟨41, 2, [112, 97, 114, 97, 108, 108, 101, 108], [1, 2]⟩,
  ⟨42, 2, [112, 101, 114, 112, 101, 110, 100, 105, 99, 117, 108, 97, 114], [1, 2]⟩,
  ⟨43, 2, [98, 105, 115, 101, 99, 116, 111, 114], [1, 1]⟩,
  ⟨50, 3, [99, 105, 114, 99, 108, 101], [1, 1]⟩,
  ⟨51, 3, [99, 105, 114, 99, 117, 109], [1, 1, 1]⟩,
  ⟨60, 4, [99, 111, 108, 108, 105, 110, 101, 97, 114], [1, 1, 1]⟩,
  ⟨61, 4, [112, 97, 114, 97, 108, 108, 101, 108], [2, 2]⟩,
  ⟨62, 4, [112, 101, 114, 112, 101, 110, 100, 105, 99, 117, 108, 97, 114], [2, 2]⟩,
  ⟨63, 4, [99, 111, 110, 103, 114, 117, 101, 110, 116], [1, 1, 1, 1]⟩,
  ⟨64, 4, [109, 105, 100, 112, 111, 105, 110, 116], [1, 1, 1]⟩,
  ⟨65, 4, [99, 111, 110, 99, 121, 99, 108, 105, 99], [1, 1, 1, 1]⟩,
  ⟨66, 4, [97, 110, 103, 108, 101], [1, 1, 1, 1, 1, 1]⟩,
  ⟨67, 4, [115, 97, 109, 101], [1, 1]⟩,
  ⟨68, 4, [114, 97, 116, 105, 111], [1, 1, 1, 1]⟩]
def ent (k : Int) : Option Ent := tab.find? fun e => decide ((e.k : Int) = k)
def srt (k : Int) : Nat := match ent k with | some e => e.s | none => 0
def wrd (k : Int) : List UInt8 := match ent k with | some e => e.w | none => []
def prm (k : Int) : List Nat := match ent k with | some e => e.p | none => []
/-- word and parameters, if the kind is of the sort -/
def pS (s : Nat) (k : Int) : List UInt8 × List Nat := match ent k with | some e => if e.s = s then (e.w, e.p) else ([], []) | none => ([], [])
def knd (w : List UInt8) : Nat := match tab.find? fun e => decide (e.w = w) with | some e => e.k | none => 0

theorem ent_mem {k : Int} {e : Ent} (h : ent k = some e) : e ∈ tab ∧ (e.k : Int) = k := by
  unfold ent at h
  have h2 := List.find?_some h
  exact ⟨List.mem_of_find?_eq_some h, of_decide_eq_true h2⟩
theorem tab_good : ∀ e ∈ tab, (e.s = 1 ∨ e.s = 2 ∨ e.s = 3 ∨ e.s = 4) ∧ e.w ≠ [] ∧ 10 ≤ e.k ∧ e.k ≤ 68 := by decide
theorem pS_none {s : Nat} {k : Int} {ks : List Nat} (h : ∀ e ∈ tab, e.s = s → e.k ∈ ks) (hk : ∀ j ∈ ks, k ≠ (j : Int)) : pS s k = ([], []) := by
  unfold pS
  cases he : ent k with
  | none => rfl
  | some e =>
    obtain ⟨h1, h2⟩ := ent_mem he
    dsimp only
    rw [if_neg (fun hs => hk _ (h e h1 hs) h2.symm)]
theorem kinds_cases (k : Int) : (srt k = 0 ∧ wrd k = [] ∧ prm k = [] ∧ ∀ s, pS s k = ([], [])) ∨ (wrd k ≠ [] ∧ (srt k = 1 ∨ srt k = 2 ∨ srt k = 3 ∨ srt k = 4) ∧ ∀ s, pS s k = if srt k = s then (wrd k, prm k) else ([], [])) := by
  unfold srt wrd prm pS
  cases he : ent k with
  | none => exact .inl ⟨rfl, rfl, rfl, fun _ => rfl⟩
  | some e =>
    obtain ⟨h1, h2, h3⟩ := tab_good e (ent_mem he).1
    exact .inr ⟨h2, h1, fun _ => rfl⟩
def allB (p : Nat → Bool) : Nat → Bool
  | 0 => true
  | n + 1 => allB p n && p n
theorem allB_spec {p : Nat → Bool} : ∀ {n : Nat}, allB p n = true → ∀ i, i < n → p i = true
  | 0, _, i, h => absurd h (Nat.not_lt_zero i)
  | n + 1, h, i, hi => by
    simp only [allB, Bool.and_eq_true] at h
    by_cases e : i = n
    · subst e; exact h.2
    · exact allB_spec h.1 i (by omega)
/-- a kind whose word no lesser one has is the one of its word -/
theorem knd_first {k : Nat} (h1 : 10 ≤ k) (h2 : k ≤ 68) (hw : wrd k ≠ []) (h : ∀ j, 10 ≤ j → j < k → wrd (j : Nat) ≠ wrd k) : knd (wrd k) = k := by
  have hb := allB_spec (p := fun k => decide (k < 10) || (decide (wrd (k : Nat) = []) || (decide (knd (wrd (k : Nat)) = k) || !(allB (fun j => decide (j < 10) || !(decide (wrd (j : Nat) = wrd (k : Nat)))) k)))) (n := 69) (by kernel_rfl) k (by omega)
  simp only [Bool.or_eq_true, decide_eq_true_eq, Bool.not_eq_true'] at hb
  rcases hb with hb | hb | hb | hb
  · omega
  · exact absurd hb hw
  · exact hb
  · have : allB (fun j => decide (j < 10) || !(decide (wrd (j : Nat) = wrd (k : Nat)))) k = true := by
      have gen : ∀ n, n ≤ k → allB (fun j => decide (j < 10) || !(decide (wrd (j : Nat) = wrd (k : Nat)))) n = true := by
        intro n
        induction n with
        | zero => intro _; rfl
        | succ n ih =>
          intro hn
          simp only [allB, Bool.and_eq_true]
          refine ⟨ih (by omega), ?_⟩
          by_cases h10 : n < 10
          · simp [h10]
          · have := h n (by omega) (by omega)
            simp [this]
      exact gen k (Nat.le_refl _)
    rw [this] at hb; cases hb
theorem ent_self : ∀ e ∈ tab, ent e.k = some e := by
  have h : ∀ i, i < 30 → (match tab[i]? with | some e => (match ent e.k with | some f => decide (e.k = f.k) && (decide (e.s = f.s) && (decide (e.w = f.w) && decide (e.p = f.p))) | none => false) | none => true) = true :=
    allB_spec (p := fun i => match tab[i]? with | some e => (match ent e.k with | some f => decide (e.k = f.k) && (decide (e.s = f.s) && (decide (e.w = f.w) && decide (e.p = f.p))) | none => false) | none => true) (by kernel_rfl)
  intro e he
  obtain ⟨i, hi, rfl⟩ := List.getElem_of_mem he
  have := h i hi
  rw [List.getElem?_eq_getElem hi] at this
  dsimp only at this
  cases hf : ent (tab[i]).k with
  | none => rw [hf] at this; cases this
  | some f =>
    rw [hf] at this
    simp only [Bool.and_eq_true, decide_eq_true_eq] at this
    generalize tab[i] = e at this ⊢
    obtain ⟨a, b, c, d⟩ := e
    obtain ⟨a', b', c', d'⟩ := f
    obtain ⟨rfl, rfl, rfl, rfl⟩ := this
    rfl
theorem knd_none {w : List UInt8} (h : ∀ j, 10 ≤ j → j ≤ 68 → wrd (j : Nat) ≠ w) : knd w = 0 := by
  unfold knd
  cases hf : tab.find? fun e => decide (e.w = w) with
  | none => rfl
  | some e =>
    have hm := List.mem_of_find?_eq_some hf
    have h2 := List.find?_some hf
    have hw : e.w = w := of_decide_eq_true h2
    obtain ⟨_, _, h3, h4⟩ := tab_good e hm
    refine absurd ?_ (h e.k h3 h4)
    unfold wrd
    rw [ent_self e hm]
    exact hw
theorem knd_nil : knd [] = 0 := by kernel_rfl
theorem wrd_low (k : Int) (h : ¬ (10 ≤ k ∧ k ≤ 68)) : wrd k = [] := by
  unfold wrd
  cases he : ent k with
  | none => rfl
  | some e =>
    obtain ⟨h1, h2⟩ := ent_mem he
    obtain ⟨_, _, h3, h4⟩ := tab_good e h1
    omega
/-- what is told of the table's words -/
theorem knd_wrd (k : Int) (h : wrd k ≠ []) : (knd (wrd k) : Int) ≤ k ∧ wrd (knd (wrd k)) = wrd k := by
  have hk : 10 ≤ k ∧ k ≤ 68 := Decidable.byContradiction fun hn => h (wrd_low k hn)
  obtain ⟨n, rfl⟩ : ∃ n : Nat, k = n := ⟨k.toNat, by omega⟩
  have hb := allB_spec (p := fun k => decide (wrd (k : Nat) = []) || (decide (knd (wrd (k : Nat)) ≤ k) && decide (wrd (knd (wrd (k : Nat)) : Nat) = wrd (k : Nat)))) (n := 69) (by kernel_rfl) n (by omega)
  simp only [Bool.or_eq_true, Bool.and_eq_true, decide_eq_true_eq] at hb
  rcases hb with hb | hb
  · exact absurd hb h
  · exact ⟨by omega, hb.2⟩
theorem wrd_sorts (a b : Int) (hab : a ≠ b) (ha : wrd a ≠ []) (h : wrd a = wrd b) : srt a ≠ srt b := by
  have hka : 10 ≤ a ∧ a ≤ 68 := Decidable.byContradiction fun hn => ha (wrd_low a hn)
  have hkb : 10 ≤ b ∧ b ≤ 68 := Decidable.byContradiction fun hn => ha (by rw [h]; exact wrd_low b hn)
  obtain ⟨n, rfl⟩ : ∃ n : Nat, a = n := ⟨a.toNat, by omega⟩
  obtain ⟨m, rfl⟩ : ∃ m : Nat, b = m := ⟨b.toNat, by omega⟩
  have hb := allB_spec (p := fun a => allB (fun b => decide (a = b) || (decide (wrd (a : Nat) = []) || (!(decide (wrd (a : Nat) = wrd (b : Nat))) || !(decide (srt (a : Nat) = srt (b : Nat)))))) 69) (n := 69) (by kernel_rfl) n (by omega)
  have hc := allB_spec hb m (by omega)
  simp only [Bool.or_eq_true, decide_eq_true_eq, Bool.not_eq_true', decide_eq_false_iff_not] at hc
  rcases hc with hc | hc | hc | hc
  · exact absurd (congrArg Nat.cast hc) hab
  · exact absurd hc ha
  · exact absurd h hc
  · exact hc
end Ax
