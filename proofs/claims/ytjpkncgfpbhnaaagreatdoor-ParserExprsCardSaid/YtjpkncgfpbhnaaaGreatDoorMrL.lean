/-
  TkH LexM LexA LexB LexC Box4 LexD LexSh LexE LexF LexG LexN LexP LexQ SRow SOwn SStep HOwn LexH LexI, in one text.
-/
import Derived.OrdersHeld
import Derived.Deep.RegionHeld
import Derived.KernelRfl
import Derived.Lib.Strings
import Derived.Test.YtjpkncgfpbhnaaaGreatDoorProg
import Derived.Test.YtjpkncgfpbhnaaaGreatDoorMrN
import Derived.Lib.Bytealg
import Derived.Lib.Walk
import Derived.Laws.Strings3
import Derived.BigCall
import Derived.WalkSpells
import Derived.Laws.DeepStrings4
import Derived.Shelf.Strings.Prefix
import Derived.Shelf.Spec.SearchS
import Derived.Deep.LoopGhost
import Derived.Laws.RangeAny
import Derived.Maps.AppendAt
import Derived.Laws.AppendOwn
import Derived.Laws.MakeOwn
set_option linter.unusedVariables false
set_option linter.unusedSimpArgs false
set_option maxRecDepth 100000
namespace Nm
open Go
theorem pu1 {α : Type} (l : List α) (i : Nat) (a : α) : l.toArray.setIfInBounds i a = (l.set i a).toArray := List.setIfInBounds_toArray ..
theorem pu2 {α : Type} (x : α) (l : List α) (a : α) : (x :: l).set 0 a = a :: l := List.set_cons_zero ..
theorem pu3 {α : Type} (x : α) (l : List α) (n : Nat) (a : α) : (x :: l).set (n + 1) a = x :: l.set n a := List.set_cons_succ ..
theorem tkH {P : Program} {ops : Array Oper} {Q : Exit → Act → World → Prop} {md : Region.Mode} {S : World → Prop} {d op ty ps af gd} {v : Value} {fuel : Nat} {listed : Array Bool} {a : Act} {w : World} (i : Nat) (hi : ops[i]? = some (Oper.mk d op ty ps af gd)) (hS : S w)
    (hy : ∀ W, S W → (execOp a.eval (Oper.mk d op ty ps af gd)).run P W = .ok (.value v) W) (h : wpAnyH P md ops Q S fuel (listed.setIfInBounds i true) (a.put d v) w)
    (hs : Region.noSelect ops = true := by kernel_rfl) (hf : Region.free md ops listed i = true := by kernel_rfl) (hr : (Region.ready md ops listed).contains i = true := by kernel_rfl)
    (hQ : ∀ c a w, Q (.panic c) (a.put d v) w → Q (.panic c) a w := by exact fun _ _ _ h => h) (hg : Region.wanted (Oper.mk d op ty ps af gd) (yielded ops a.tmps) = true := by kernel_rfl) : wpAnyH P md ops Q S (fuel + 1) listed a w :=
  wpAnyH_take hi hs hf hr hQ (Or.inl ⟨hg, hy⟩) hS h
theorem aR1 {P : Program} {ops : Array Oper} {Q : Exit → Act → World → Prop} {md : Region.Mode} {S : World → Prop} {fuel : Nat} {listed : Array Bool} {a : Act} {w : World} {i : Nat} {d op ty ps af gd} (ho : ops[i]? = some (Oper.mk d op ty ps af gd))
    (h : ∀ K' : Act → World → Prop, Shut (∀ a w, S w → (S w → wpAnyH P md ops Q S fuel (listed.setIfInBounds i true) a w) → K' a w) → if Region.wanted (Oper.mk d op ty ps af gd) (yielded ops a.tmps) = true then Oper.wp P (Oper.mk d op ty ps af gd) a w K' Q else K' (a.put d undef) w) : AllReadyH P md ops Q S fuel listed a w [i] :=
  AllReadyH.cons ho h AllReadyH.nil
end Nm
namespace Lx
def kd (m : Nat) : Nat :=
  if (65 ≤ m ∧ m ≤ 90) ∨ (97 ≤ m ∧ m ≤ 122) then 3
  else if 48 ≤ m ∧ m ≤ 57 then 4
  else if m = 32 ∨ m = 9 ∨ m = 13 ∨ m = 10 then 1
  else if m = 35 then 2
  else if m = 40 ∨ m = 41 ∨ m = 44 ∨ m = 59 ∨ m = 47 ∨ m = 45 then 5
  else if m = 58 then 6 else 0
theorem kd_letter (m : Nat) : kd m = 3 ↔ ((65 ≤ m ∧ m ≤ 90) ∨ (97 ≤ m ∧ m ≤ 122)) := by
  unfold kd; (repeat' split) <;> omega
theorem kd_digit (m : Nat) : kd m = 4 ↔ (48 ≤ m ∧ m ≤ 57) := by
  unfold kd; (repeat' split) <;> omega
theorem kd_blank (m : Nat) : kd m = 1 ↔ (m = 32 ∨ m = 9 ∨ m = 13 ∨ m = 10) := by
  unfold kd; (repeat' split) <;> omega
theorem kd_hash (m : Nat) : kd m = 2 ↔ m = 35 := by
  unfold kd; (repeat' split) <;> omega
theorem kd_sign (m : Nat) : kd m = 5 ↔ (m = 40 ∨ m = 41 ∨ m = 44 ∨ m = 59 ∨ m = 47 ∨ m = 45) := by
  unfold kd; (repeat' split) <;> omega
theorem kd_colon (m : Nat) : kd m = 6 ↔ m = 58 := by
  unfold kd; (repeat' split) <;> omega
def span (ks : List Nat) : List UInt8 → Nat
  | [] => 0
  | c :: r => if kd c.toNat ∈ ks then span ks r + 1 else 0
theorem span_nil (ks : List Nat) : span ks [] = 0 := rfl
theorem span_yes {ks : List Nat} {c : UInt8} (h : kd c.toNat ∈ ks) (r : List UInt8) : span ks (c :: r) = span ks r + 1 := if_pos h
theorem span_no {ks : List Nat} {c : UInt8} (h : kd c.toNat ∉ ks) (r : List UInt8) : span ks (c :: r) = 0 := if_neg h
theorem span_le (ks : List Nat) : ∀ r, span ks r ≤ r.length
  | [] => Nat.le_refl _
  | c :: r => by
    have := span_le ks r
    by_cases h : kd c.toNat ∈ ks
    · rw [span_yes h]; simpa using this
    · rw [span_no h]; exact Nat.zero_le _
theorem span_stop (ks : List Nat) : ∀ (r : List UInt8) (h : span ks r < r.length), kd (r[span ks r]'h).toNat ∉ ks
  | [], h => by simp [span] at h
  | c :: r, h => by
    by_cases hc : kd c.toNat ∈ ks
    · have e := span_yes hc r
      have h' : span ks r < r.length := by rw [e] at h; simpa using h
      have := span_stop ks r h'
      simp only [e, List.getElem_cons_succ]
      exact this
    · have e := span_no hc r
      simp only [e, List.getElem_cons_zero]
      exact hc
def nl : List UInt8 → Nat
  | [] => 0
  | c :: r => if c.toNat = 10 then 0 else nl r + 1
theorem nl_le : ∀ r, nl r ≤ r.length
  | [] => Nat.le_refl _
  | c :: r => by
    have := nl_le r
    unfold nl
    split <;> simp <;> omega
def sk : Bool → List UInt8 → Nat
  | _, [] => 0
  | true, c :: r => (if c.toNat = 10 then sk false r else sk true r) + 1
  | false, c :: r => if kd c.toNat = 1 then sk false r + 1 else if kd c.toNat = 2 then sk true r + 1 else 0
theorem sk_nil (b : Bool) : sk b [] = 0 := by cases b <;> rfl
theorem sk_le : ∀ (b : Bool) r, sk b r ≤ r.length
  | b, [] => by rw [sk_nil]; exact Nat.zero_le _
  | true, c :: r => by
    have h1 := sk_le false r
    have h2 := sk_le true r
    unfold sk
    split <;> simp <;> omega
  | false, c :: r => by
    have h1 := sk_le false r
    have h2 := sk_le true r
    unfold sk
    split
    · simp; omega
    · split <;> simp; omega
theorem sk_blank {c : UInt8} (h : kd c.toNat = 1) (r : List UInt8) : sk false (c :: r) = sk false r + 1 := if_pos h
theorem sk_hash {c : UInt8} (h : kd c.toNat = 2) (r : List UInt8) : sk false (c :: r) = sk true r + 1 := by
  show (if _ then _ else _) = _
  rw [if_neg (by omega), if_pos h]
theorem sk_none {c : UInt8} (h1 : kd c.toNat ≠ 1) (h2 : kd c.toNat ≠ 2) (r : List UInt8) : sk false (c :: r) = 0 := by
  show (if _ then _ else _) = _
  rw [if_neg h1, if_neg h2]
theorem sk_in {c : UInt8} (h : c.toNat ≠ 10) (r : List UInt8) : sk true (c :: r) = sk true r + 1 := by
  show (if _ then _ else _) + 1 = _
  rw [if_neg h]
theorem sk_feed {c : UInt8} (h : c.toNat = 10) (r : List UInt8) : sk true (c :: r) = sk false (c :: r) := by
  show (if _ then _ else _) + 1 = _
  rw [if_pos h, sk_blank ((kd_blank _).2 (by omega))]
theorem sk_hash' {c : UInt8} (h : kd c.toNat = 2) (r : List UInt8) : sk false (c :: r) = sk true (c :: r) := by
  have : c.toNat ≠ 10 := by have := (kd_hash _).1 h; omega
  rw [sk_hash h, sk_in this]
theorem sk_span : ∀ r : List UInt8, sk false r = span [1] r + sk false (r.drop (span [1] r))
  | [] => rfl
  | c :: r => by
    by_cases h : kd c.toNat = 1
    · rw [sk_blank h, span_yes (by simp [h]), List.drop_succ_cons]
      have := sk_span r
      omega
    · rw [span_no (by simp [h])]; simp
theorem sk_nl : ∀ r : List UInt8, sk true r = nl r + sk false (r.drop (nl r))
  | [] => rfl
  | c :: r => by
    by_cases h : c.toNat = 10
    · have : nl (c :: r) = 0 := if_pos h
      rw [this, sk_feed h]; simp
    · have : nl (c :: r) = nl r + 1 := if_neg h
      rw [this, sk_in h, List.drop_succ_cons]
      have := sk_nl r
      omega
structure Tk where
  k : Nat
  n : Nat
  e : Nat
def nameTk (n : Nat) : Tk := ⟨1, n, if 20 < n then 4 else 0⟩
def numTk (z : Bool) (n : Nat) : Tk := ⟨2, n, if z = true ∧ 1 < n then 5 else if 1000 < n then 4 else 0⟩
def tokAt : List UInt8 → Tk
  | [] => ⟨3, 1, 5⟩
  | c :: r =>
    if kd c.toNat = 3 then nameTk (span [3, 4] (c :: r))
    else if kd c.toNat = 4 then numTk (decide (c.toNat = 48)) (span [4] (c :: r))
    else if kd c.toNat = 5 then ⟨3, 1, 0⟩
    else if kd c.toNat = 6 ∧ r.head? = some 61 then ⟨3, 2, 0⟩
    else ⟨3, 1, 5⟩
theorem tok_name {c : UInt8} (h : kd c.toNat = 3) (r : List UInt8) : tokAt (c :: r) = nameTk (span [3, 4] (c :: r)) := if_pos h
theorem tok_num {c : UInt8} (h : kd c.toNat = 4) (r : List UInt8) : tokAt (c :: r) = numTk (decide (c.toNat = 48)) (span [4] (c :: r)) := by
  show (if _ then _ else _) = _; rw [if_neg (by omega), if_pos h]
theorem tok_sign {c : UInt8} (h : kd c.toNat = 5) (r : List UInt8) : tokAt (c :: r) = ⟨3, 1, 0⟩ := by
  show (if _ then _ else _) = _; rw [if_neg (by omega), if_neg (by omega), if_pos h]
theorem tok_colon {c : UInt8} (h : kd c.toNat = 6) {r : List UInt8} (h2 : r.head? = some 61) : tokAt (c :: r) = ⟨3, 2, 0⟩ := by
  show (if _ then _ else _) = _; rw [if_neg (by omega), if_neg (by omega), if_neg (by omega), if_pos ⟨h, h2⟩]
theorem tok_bad {c : UInt8} {r : List UInt8} (h3 : kd c.toNat ≠ 3) (h4 : kd c.toNat ≠ 4) (h5 : kd c.toNat ≠ 5) (h6 : kd c.toNat = 6 → r.head? ≠ some 61) : tokAt (c :: r) = ⟨3, 1, 5⟩ := by
  show (if _ then _ else _) = _; rw [if_neg h3, if_neg h4, if_neg h5, if_neg (fun h => h6 h.1 h.2)]
theorem tok_pos : ∀ r : List UInt8, 0 < (tokAt r).n
  | [] => by decide
  | c :: r => by
    by_cases h3 : kd c.toNat = 3
    · rw [tok_name h3, span_yes (by simp [h3])]; exact Nat.succ_pos _
    by_cases h4 : kd c.toNat = 4
    · rw [tok_num h4, span_yes (by simp [h4])]; exact Nat.succ_pos _
    by_cases h5 : kd c.toNat = 5
    · rw [tok_sign h5]; decide
    by_cases h6 : kd c.toNat = 6 ∧ r.head? = some 61
    · rw [tok_colon h6.1 h6.2]; decide
    rw [tok_bad h3 h4 h5 (fun h h' => h6 ⟨h, h'⟩)]; decide
theorem tok_len : ∀ r : List UInt8, r ≠ [] → (tokAt r).n ≤ r.length
  | [], h => absurd rfl h
  | c :: r, _ => by
    by_cases h3 : kd c.toNat = 3
    · rw [tok_name h3]; exact span_le _ _
    by_cases h4 : kd c.toNat = 4
    · rw [tok_num h4]; exact span_le _ _
    by_cases h5 : kd c.toNat = 5
    · rw [tok_sign h5]; simp
    by_cases h6 : kd c.toNat = 6 ∧ r.head? = some 61
    · rw [tok_colon h6.1 h6.2]
      cases r with
      | nil => simp at h6
      | cons d r => simp
    rw [tok_bad h3 h4 h5 (fun h h' => h6 ⟨h, h'⟩)]; simp
abbrev Res := List (Nat × Nat × Nat) × Nat × Nat
def glue (t : Nat × Nat × Nat) (r : Res) : Res := (if r.2.2 = 0 then t :: r.1 else [], r.2)
def lexW (l : List UInt8) (i : Nat) : Res :=
  if h : i < l.length then
    if (tokAt (l.drop i)).e = 0 then
      glue ((tokAt (l.drop i)).k, i, (tokAt (l.drop i)).n) (lexW l (i + (tokAt (l.drop i)).n + sk false (l.drop (i + (tokAt (l.drop i)).n))))
    else ([], i, (tokAt (l.drop i)).e)
  else ([(0, l.length, 0)], 0, 0)
termination_by l.length - i
decreasing_by have := tok_pos (l.drop i); omega
theorem lexW_end {l : List UInt8} {i : Nat} (h : l.length ≤ i) : lexW l i = ([(0, l.length, 0)], 0, 0) := by
  rw [lexW, dif_neg (by omega)]
theorem lexW_bad {l : List UInt8} {i : Nat} (h : i < l.length) (h2 : (tokAt (l.drop i)).e ≠ 0) : lexW l i = ([], i, (tokAt (l.drop i)).e) := by
  rw [lexW, dif_pos h, if_neg h2]
theorem lexW_ok {l : List UInt8} {i : Nat} (h : i < l.length) (h2 : (tokAt (l.drop i)).e = 0) :
    lexW l i = glue ((tokAt (l.drop i)).k, i, (tokAt (l.drop i)).n) (lexW l (i + (tokAt (l.drop i)).n + sk false (l.drop (i + (tokAt (l.drop i)).n)))) := by
  rw [lexW, dif_pos h, if_pos h2]
def fin (acc : List (Nat × Nat × Nat)) (r : Res) : Res := (if r.2.2 = 0 then acc ++ r.1 else [], r.2)
theorem fin_glue (acc : List (Nat × Nat × Nat)) (t : Nat × Nat × Nat) (r : Res) : fin acc (glue t r) = fin (acc ++ [t]) r := by
  unfold fin glue
  split <;> simp_all
theorem fin_end (acc : List (Nat × Nat × Nat)) (n : Nat) : fin acc ([(0, n, 0)], 0, 0) = (acc ++ [(0, n, 0)], 0, 0) := rfl
theorem fin_bad (acc : List (Nat × Nat × Nat)) (i e : Nat) (h : e ≠ 0) : fin acc ([], i, e) = ([], i, e) := by
  unfold fin
  rw [if_neg h]
def lexAll (l : List UInt8) : Res := if 20000 < l.length then ([], 0, 4) else fin [] (lexW l (sk false l))
def cells (l : List UInt8) (t : Nat × Nat × Nat) : List Go.Value := [.int .i64 (t.1 : Nat), .int .i64 (t.2.1 : Nat), .int .i64 ((t.2.1 + t.2.2 : Nat)), .string ⟨((l.drop t.2.1).take t.2.2).toArray⟩]
end Lx
namespace Go.Proofs.YtjpkncgfpbhnaaaGreatDoor
open Go.RowKit _root_.Nm Lx
theorem ret_i {a b : Nat} (h : a = b) : Ending.returned (.int .i64 (a : Int)) = .returned (.int .i64 (b : Int)) := by rw [h]
theorem ret_d {b : Bool} {p : Prop} [Decidable p] (h : b = true ↔ p) : Ending.returned (.bool b) = .returned (.bool (decide p)) := by
  rw [show b = decide p from by cases b <;> simp_all]
theorem ret_b {a b : Bool} (h : a = b) : Ending.returned (.bool a) = .returned (.bool b) := by rw [h]
theorem kd_val {m k : Nat} (h : ((65 ≤ m ∧ m ≤ 90 ∨ 97 ≤ m ∧ m ≤ 122) ∧ k = 3) ∨ ((48 ≤ m ∧ m ≤ 57) ∧ k = 4) ∨ ((m = 32 ∨ m = 9 ∨ m = 13 ∨ m = 10) ∧ k = 1) ∨ (m = 35 ∧ k = 2) ∨
    ((m = 40 ∨ m = 41 ∨ m = 44 ∨ m = 59 ∨ m = 47 ∨ m = 45) ∧ k = 5) ∨ (m = 58 ∧ k = 6) ∨
    (¬ (65 ≤ m ∧ m ≤ 90 ∨ 97 ≤ m ∧ m ≤ 122) ∧ ¬ (48 ≤ m ∧ m ≤ 57) ∧ ¬ (m = 32 ∨ m = 9 ∨ m = 13 ∨ m = 10) ∧ m ≠ 35 ∧ ¬ (m = 40 ∨ m = 41 ∨ m = 44 ∨ m = 59 ∨ m = 47 ∨ m = 45) ∧ m ≠ 58 ∧ k = 0)) : k = kd m := by
  unfold kd; (repeat' split) <;> omega
set_option maxHeartbeats 2000000 in
theorem kindOf_any (m : Nat) (hm : m < 256) (w : World) : Calls Tryz.prog 101 #[.int .u8 (m : Int)] w fun e w' => e = .returned (.int .i64 (kd m : Nat)) ∧ w = w' := by
  go_enter Tryz.func101, Tryz.ntmps101
  go_wp2_with fail
  all_goals
    go_ret
    refine ⟨ret_i (kd_val ?_), rfl⟩
    simp_all
    try omega
set_option maxHeartbeats 2000000 in
theorem letter_any (m : Nat) (hm : m < 256) (w : World) : Calls Tryz.prog 61 #[.int .u8 (m : Int)] w fun e w' => e = .returned (.bool (decide (kd m = 3))) ∧ w = w' := by
  have HK := hid (kd_letter m)
  go_enter Tryz.func61, Tryz.ntmps61
  go_wp2_with fail
  all_goals
    go_ret
    refine ⟨ret_d ?_, rfl⟩
    rw [HK.out]
    clear HK
    simp_all
    try omega
set_option maxHeartbeats 2000000 in
theorem lxDigit_any (m : Nat) (hm : m < 256) (w : World) : Calls Tryz.prog 62 #[.int .u8 (m : Int)] w fun e w' => e = .returned (.bool (decide (kd m = 4))) ∧ w = w' := by
  have HK := hid (kd_digit m)
  go_enter Tryz.func62, Tryz.ntmps62
  go_wp2_with fail
  all_goals
    go_ret
    refine ⟨ret_d ?_, rfl⟩
    rw [HK.out]
    clear HK
    simp_all
    try omega
set_option maxHeartbeats 2000000 in
theorem blank_any (m : Nat) (hm : m < 256) (w : World) : Calls Tryz.prog 110 #[.int .u8 (m : Int)] w fun e w' => e = .returned (.bool (decide (kd m = 1))) ∧ w = w' := by
  have HK := hid (kd_blank m)
  go_enter Tryz.func110, Tryz.ntmps110
  go_wp2_with fail
  all_goals
    go_ret
    refine ⟨ret_d ?_, rfl⟩
    rw [HK.out]
    clear HK
    simp_all
    try omega
def pos (m : Nat) : List Nat → Nat
  | [] => 0
  | x :: l => if m = x then 0 else pos m l + 1
set_option maxHeartbeats 2000000 in
theorem index_any (p : Option Addr) (n c : Nat) (xs : List Nat) (m : Nat) (w : World) (h : IRd w .i64 p n c xs) :
    Calls Tryz.prog 159 #[.slice p n c, .int .i64 (m : Int)] w fun e w' => ∃ i : Int, e = .returned (.int .i64 i) ∧ (0 ≤ i ↔ m ∈ xs) ∧ w = w' := by
  have hl := h.len
  have hc := h.cap
  have hm := h.max
  have HR := hid h
  clear h
  go_enter Tryz.func159, Tryz.ntmps159
  go_wp2_with fail
  go_loop [8] (fun i => ∃ k : Nat, k ≤ n ∧ i = .int .i64 k ∧ Hid (∀ j (h : j < xs.length), j < k → xs[j] ≠ m)) (fun i => n - (intOf i).toNat)
  case atStart => exact ⟨0, Nat.zero_le _, rfl, hid fun j h hj => by omega⟩
  case round =>
    obtain ⟨k, hk, rfl, HC⟩ := hrel
    by_cases hlt : k < n
    · obtain ⟨b, o, rfl, hcell⟩ := HR.out.cel k (by omega)
      obtain ⟨x, hx⟩ : ∃ x, x = xs[k]'(by omega) := ⟨_, rfl⟩
      rw [← hx] at hcell
      have HX := hid hx
      clear hx
      by_cases hxm : m = x
      · have HM : Hid (m ∈ xs) := hid (by rw [hxm, HX.out]; exact List.getElem_mem _)
        subst hxm
        go_wp2_with fail
        go_ret
        exact ⟨k, rfl, ⟨fun _ => HM.out, fun _ => by omega⟩, rfl⟩
      · have hne : ((m : Int) == (x : Int)) = false := by simpa using (by omega : ¬ (m : Int) = (x : Int))
        have HN : Hid (∀ j (h : j < xs.length), j < k + 1 → xs[j] ≠ m) := hid fun j h hj => by
          by_cases hjk : j = k
          · subst hjk; rw [← HX.out]; exact fun e => hxm e.symm
          · exact HC.out j h (by omega)
        clear hxm
        go_wp2_with fail
        exact ⟨⟨k + 1, by omega, rfl, HN⟩, by simp [intOf]; omega⟩
    · obtain rfl : k = n := by omega
      have HN : Hid (m ∉ xs) := hid fun hmem => by
        obtain ⟨j, hj, e⟩ := List.getElem_of_mem hmem
        exact HC.out j hj (by omega) e
      go_wp2_with fail
      go_ret
      exact ⟨-1, rfl, ⟨fun h => by omega, fun h => absurd h HN.out⟩, rfl⟩
set_option maxHeartbeats 2000000 in
theorem contains_any (p : Option Addr) (n c : Nat) (xs : List Nat) (m : Nat) (w : World) (h : IRd w .i64 p n c xs) :
    Calls Tryz.prog 115 #[.slice p n c, .int .i64 (m : Int)] w fun e w' => e = .returned (.bool (decide (m ∈ xs))) ∧ w = w' := by
  have HC := hid (index_any p n c xs m w h)
  clear h
  go_enter Tryz.func115, Tryz.ntmps115
  go_wp2_with fail
  refine HC.out.mono ?_
  rintro e w' ⟨i, rfl, hi, rfl⟩
  have HI := hid hi
  clear hi
  go_wp2_with fail
  go_ret
  exact ⟨ret_b (decide_eq_decide.2 HI.out), rfl⟩
theorem idx_at (s : ByteArray) (l : List UInt8) (hl : s.data.toList = l) (k : Nat) (hk : k < l.length) (w : World) :
    (Instr.index 9 (.string s) (.int .i64 (k : Int))).run Tryz.prog w = .ok (.int .u8 (l[k].toNat : Int)) w := by
  subst hl
  have hs : k < s.size := by rw [Lib.size_eq]; exact hk
  rw [run_index_string w 9 s .i64 (k : Int) (by kernel_rfl), dif_pos ⟨by omega, by omega⟩]
  simp only [Int.toNat_natCast]
  rfl
theorem u8_lt (c : UInt8) : c.toNat < 256 := c.toNat_lt
set_option maxHeartbeats 2000000 in
theorem run_any (s : ByteArray) (l : List UInt8) (hl : s.data.toList = l) (hmax : l.length ≤ 9223372036854775807) (i : Nat) (hi : i ≤ l.length) (p : Option Addr) (n c : Nat) (ks : List Nat) (w : World) (h : IRd w .i64 p n c ks) :
    Calls Tryz.prog 100 #[.string s, .int .i64 (i : Int), .slice p n c] w fun e w' => e = .returned (.int .i64 ((i + span ks (l.drop i) : Nat) : Int)) ∧ w = w' := by
  have hsz : s.size = l.length := by rw [Lib.size_eq, hl]
  have HIX := hid (idx_at s l hl)
  have HR := hid h
  obtain ⟨T, hT⟩ : ∃ T, i + span ks (l.drop i) = T := ⟨_, rfl⟩
  rw [hT]
  have HT := hid hT
  clear hl h hT
  go_enter Tryz.func100, Tryz.ntmps100
  go_wp2_with fail
  go_loop [1] (fun x => ∃ k : Nat, k ≤ l.length ∧ x = .int .i64 k ∧ Hid (k + span ks (l.drop k) = T)) (fun x => l.length - (intOf x).toNat)
  case atStart => exact ⟨i, hi, rfl, HT⟩
  case round =>
    obtain ⟨k, hk, rfl, HC⟩ := hrel
    by_cases hlt : k < l.length
    · have hix := HIX.out k hlt
      have hd : l.drop k = l[k] :: l.drop (k + 1) := List.drop_eq_getElem_cons hlt
      obtain ⟨ch, hc⟩ : ∃ ch, ch = l[k] := ⟨_, rfl⟩
      rw [← hc] at hix hd
      have HD := hid hd
      clear hc hd
      have HKO := hid (kindOf_any ch.toNat (u8_lt ch))
      by_cases hin : kd ch.toNat ∈ ks
      · have HS : Hid (k + 1 + span ks (l.drop (k + 1)) = T) := hid (by have := HC.out; rw [HD.out, span_yes hin] at this; omega)
        have HCT := hid fun w (h : IRd w .i64 p n c ks) => (decide_eq_true hin ▸ contains_any p n c ks (kd ch.toNat) w h)
        clear hin
        go_wp2_with (first | (go_at_call 101; refine (HKO.out _).mono ?_; rintro e w' ⟨rfl, rfl⟩) | (go_at_call 115; refine (HCT.out _ HR.out).mono ?_; rintro e w' ⟨rfl, rfl⟩))
        exact ⟨⟨k + 1, by omega, rfl, HS⟩, by simp [intOf]; omega⟩
      · have HS : Hid (k = T) := hid (by have := HC.out; rw [HD.out, span_no hin] at this; omega)
        have HCT := hid fun w (h : IRd w .i64 p n c ks) => (decide_eq_false hin ▸ contains_any p n c ks (kd ch.toNat) w h)
        clear hin
        go_wp2_with (first | (go_at_call 101; refine (HKO.out _).mono ?_; rintro e w' ⟨rfl, rfl⟩) | (go_at_call 115; refine (HCT.out _ HR.out).mono ?_; rintro e w' ⟨rfl, rfl⟩))
        go_ret
        exact ⟨ret_i HS.out, rfl⟩
    · obtain rfl : k = l.length := by omega
      have HS : Hid (l.length = T) := hid (by have := HC.out; rw [List.drop_of_length_le (Nat.le_refl _), span_nil] at this; omega)
      go_wp2_with fail
      go_ret
      exact ⟨ret_i HS.out, rfl⟩
set_option maxHeartbeats 1000000 in
theorem idxLite_any (s : ByteArray) (w : World) : Calls Tryz.prog 200 #[.string s, .int .u8 10] w fun e w' => e = .returned (.int .i64 (Lib.indexByte s.data.toList 10)) ∧ w = w' := by
  go_enter Tryz.func200, Tryz.ntmps200
  go_wp2_with fail
  rw [run_callFunc_extern Tryz.func237 (by kernel_rfl) (by kernel_rfl) (by kernel_rfl) (e := Extern.BytealgIndexByte.indexByte) (by kernel_rfl), Lib.run_indexByteString]
  simp only [Result.andThen]
  rw [Oper.upon_value]
  go_wp2_with fail
  go_ret
  exact ⟨rfl, rfl⟩
set_option maxHeartbeats 1000000 in
theorem idxByte_any (s : ByteArray) (w : World) : Calls Tryz.prog 153 #[.string s, .int .u8 10] w fun e w' => e = .returned (.int .i64 (Lib.indexByte s.data.toList 10)) ∧ w = w' := by
  have H := hid (idxLite_any s w)
  go_enter Tryz.func153, Tryz.ntmps153
  go_wp2_with (go_at_call 200; refine (H.out).mono ?_; rintro e w' ⟨rfl, rfl⟩)
  go_ret
  exact ⟨rfl, rfl⟩
theorem idx_nl : ∀ r : List UInt8, (Lib.indexByte r 10 = -1 ∧ nl r = r.length) ∨ (Lib.indexByte r 10 = (nl r : Nat))
  | [] => .inl ⟨rfl, rfl⟩
  | c :: r => by
    have ih := idx_nl r
    by_cases h : c.toNat = 10
    · have hc : c = 10 := UInt8.toNat_inj.1 h
      right
      have e1 : nl (c :: r) = 0 := if_pos h
      have e2 : Lib.indexByte (c :: r) 10 = 0 := by subst hc; rfl
      rw [e1, e2]; rfl
    · have hc : (c == 10) = false := by
        cases e : c == 10 with
        | false => rfl
        | true => exact absurd (by rw [eq_of_beq e]; rfl) h
      have e1 : nl (c :: r) = nl r + 1 := if_neg h
      have e2 : Lib.indexByte (c :: r) 10 = if Lib.indexByte r 10 == -1 then -1 else Lib.indexByte r 10 + 1 := by
        show (if c == 10 then _ else _) = _
        rw [hc]; rfl
      rcases ih with ⟨i1, i2⟩ | i1
      · left; rw [e1, e2, i1, i2]; exact ⟨rfl, rfl⟩
      · right
        rw [e1, e2, i1]
        have : (((nl r : Nat) : Int) == -1) = false := by
          cases e : (((nl r : Nat) : Int) == -1) with
          | false => rfl
          | true => have := eq_of_beq e; omega
        rw [this]; simp
theorem slice_f (s : ByteArray) (l : List UInt8) (hl : s.data.toList = l) (k : Nat) (hk : k ≤ l.length) (w : World) :
    (Instr.slice 9 (.string s) (some (.int .i64 (k : Int))) none none).run Tryz.prog w = .ok (.string ⟨(l.drop k).toArray⟩) w := by
  subst hl
  have hk' : k ≤ s.size := by rw [Lib.size_eq]; exact hk
  rw [run_slice_string_from_if w 9 s .i64 (k : Int) (by kernel_rfl), if_pos ⟨by omega, by omega⟩, Int.toNat_natCast, Lib.extract_eq]
  rw [List.take_of_length_le]
  rw [List.length_drop, Lib.size_eq]; omega
set_option maxHeartbeats 2000000 in
theorem lineEnd_any (s : ByteArray) (l : List UInt8) (hl : s.data.toList = l) (hmax : l.length ≤ 9223372036854775807) (i : Nat) (hi : i ≤ l.length) (w : World) :
    Calls Tryz.prog 102 #[.string s, .int .i64 (i : Int)] w fun e w' => e = .returned (.int .i64 ((i + nl (l.drop i) : Nat) : Int)) ∧ w = w' := by
  have hsz : s.size = l.length := by rw [Lib.size_eq, hl]
  have hsl := slice_f s l hl i hi
  have hx := idx_nl (l.drop i)
  have hnl := nl_le (l.drop i)
  rw [List.length_drop] at hnl hx
  have HB := hid (fun w => idxByte_any ⟨(l.drop i).toArray⟩ w)
  obtain ⟨T, hT⟩ : ∃ T, i + nl (l.drop i) = T := ⟨_, rfl⟩
  rw [hT]
  rcases hx with ⟨h1, h2⟩ | h1
  · have HX := hid h1
    have HT : Hid (l.length = T) := hid (by omega)
    clear hl h1 hT h2 hnl
    go_enter Tryz.func102, Tryz.ntmps102
    go_wp2_with (go_at_call 153; refine (HB.out _).mono ?_; rintro e w' ⟨rfl, rfl⟩; rw [show Lib.indexByte (⟨(l.drop i).toArray⟩ : ByteArray).data.toList 10 = -1 from HX.out])
    go_ret
    exact ⟨ret_i HT.out, rfl⟩
  · obtain ⟨d, hd⟩ : ∃ d, d = nl (l.drop i) := ⟨_, rfl⟩
    rw [← hd] at h1 hT hnl
    have HX := hid h1
    have HT : Hid (i + d = T) := hid hT
    clear hl h1 hT hd
    go_enter Tryz.func102, Tryz.ntmps102
    go_wp2_with (go_at_call 153; refine (HB.out _).mono ?_; rintro e w' ⟨rfl, rfl⟩; rw [show Lib.indexByte (⟨(l.drop i).toArray⟩ : ByteArray).data.toList 10 = (d : Nat) from HX.out])
    go_ret
    exact ⟨by rw [← HT.out]; rfl, rfl⟩
theorem one_k (w : World) (T : TypeId) (k : Nat) : IRd (w.alloc (.cells #[.int .i64 (k : Int)] T)) .i64 (some ⟨w.heap.size, 0, none⟩) 1 1 [k] := by
  have := (IRow.made w T .i64 [k]).rd0 (by simp)
  simpa using this
set_option maxHeartbeats 2000000 in
set_option maxRecDepth 100000 in
theorem skip_any (s : ByteArray) (l : List UInt8) (hl : s.data.toList = l) (hmax : l.length ≤ 9223372036854775807) (i : Nat) (hi : i ≤ l.length) (w : World) :
    Calls Tryz.prog 54 #[.string s, .int .i64 (i : Int)] w fun e w' => e = .returned (.int .i64 ((i + sk false (l.drop i) : Nat) : Int)) ∧ w.grownBy w' none := by
  have hsz : s.size = l.length := by rw [Lib.size_eq, hl]
  have HIX := hid (idx_at s l hl)
  have HL := hid hl
  obtain ⟨T, hT⟩ : ∃ T, i + sk false (l.drop i) = T := ⟨_, rfl⟩
  rw [hT]
  have HT := hid hT
  clear hl hT
  go_enter Tryz.func54, Tryz.ntmps54
  go_wp2_with fail
  go_loopw [1] (fun x wr => ∃ k : Nat, k ≤ l.length ∧ x = .int .i64 k ∧ w.grownBy wr none ∧ Hid (k + sk false (l.drop k) = T)) (fun x _ => l.length - (intOf x).toNat)
  case atStart => exact ⟨i, hi, rfl, grown_refl _ _, HT⟩
  case round =>
    obtain ⟨k, hk, rfl, hg, HC⟩ := hrel
    obtain ⟨j, hj⟩ : ∃ j, j = k + span [1] (l.drop k) := ⟨_, rfl⟩
    have hsp := span_le [1] (l.drop k)
    rw [List.length_drop] at hsp
    have hjl : j ≤ l.length := by omega
    have hkj : k ≤ j := by omega
    have hC2 : j + sk false (l.drop j) = T := by
      have h1 := HC.out
      rw [sk_span (l.drop k), List.drop_drop] at h1
      rw [hj]; omega
    have HRN := hid fun w' (h : IRd w' .i64 (some ⟨wr.heap.size, 0, none⟩) 1 1 [1]) => hj ▸ run_any s l HL.out hmax k hk _ _ _ [1] w' h
    have HJ := hid hj
    have H1 := hid (one_k wr 3 1)
    have hgw := grown_trans hg (World.grownBy_alloc wr (.cells #[.int .i64 1] 3) none)
    by_cases hlt : j < l.length
    · have hix := HIX.out j hlt
      have hd : l.drop j = l[j] :: l.drop (j + 1) := List.drop_eq_getElem_cons hlt
      have hst : kd (l[j]).toNat ≠ 1 := by
        have := span_stop [1] (l.drop k) (by rw [List.length_drop]; omega)
        rw [List.getElem_drop] at this
        intro e
        refine this ?_
        simp only [← hj]
        simp [e]
      obtain ⟨ch, hc⟩ : ∃ ch, ch = l[j] := ⟨_, rfl⟩
      rw [← hc] at hix hd hst
      have HKO := hid (kindOf_any ch.toNat (u8_lt ch))
      by_cases hh : kd ch.toNat = 2
      · have hn := sk_nl (l.drop j)
        have hnl := nl_le (l.drop j)
        have hpos : 0 < nl (l.drop j) := by
          rw [hd]
          have : ch.toNat ≠ 10 := by have := (kd_hash _).1 hh; omega
          have e : nl (ch :: l.drop (j + 1)) = nl (l.drop (j + 1)) + 1 := if_neg this
          omega
        rw [List.length_drop] at hnl
        obtain ⟨q, hq⟩ : ∃ q, q = j + nl (l.drop j) := ⟨_, rfl⟩
        have hql : q ≤ l.length := by omega
        have hkq : k < q := by omega
        have hC3 : Hid (q + sk false (l.drop q) = T) := hid (by
          rw [hd, sk_hash' hh, ← hd, hn, List.drop_drop] at hC2
          rw [hq]; omega)
        have HLE := hid fun w' => hq ▸ lineEnd_any s l HL.out hmax j hjl w'
        have hne : ((kd ch.toNat : Nat) : Int) = 2 := by omega
        have HK2 := hid fun w => hh ▸ HKO.out w
        clear hd hst hc hn hnl hpos hq hC2 hh hne HKO HIX hsp hj
        go_wp2_with (first | (go_at_call 100; refine (HRN.out _ H1.out).mono ?_; rintro e w' ⟨rfl, rfl⟩) | (go_at_call 101; refine (HK2.out _).mono ?_; rintro e w' ⟨rfl, rfl⟩) | (go_at_call 102; refine (HLE.out _).mono ?_; rintro e w' ⟨rfl, rfl⟩))
        exact ⟨⟨q, hql, rfl, hgw, hC3⟩, by simp [intOf]; omega⟩
      · have hT' : Hid (j = T) := hid (by rw [hd, sk_none hst hh] at hC2; omega)
        have hne : (((kd ch.toNat : Nat) : Int) == 2) = false := by
          cases e : (((kd ch.toNat : Nat) : Int) == 2) with
          | false => rfl
          | true => have := eq_of_beq e; omega
        obtain ⟨kk, hkk⟩ : ∃ kk, kk = kd ch.toNat := ⟨_, rfl⟩
        rw [← hkk] at HKO hne
        have hne2 : ((kk : Int) != 2) = true := by simp [bne, hne]
        clear hd hst hc hC2 hh HIX hsp hj hkk
        go_wp2_with (first | (go_at_call 100; refine (HRN.out _ H1.out).mono ?_; rintro e w' ⟨rfl, rfl⟩) | (go_at_call 101; refine (HKO.out _).mono ?_; rintro e w' ⟨rfl, rfl⟩))
        go_ret
        exact ⟨ret_i hT'.out, hgw⟩
    · obtain rfl : j = l.length := by omega
      have hT' : Hid (l.length = T) := hid (by rw [List.drop_of_length_le (Nat.le_refl _), sk_nil] at hC2; omega)
      clear hC2 hj HIX hsp
      go_wp2_with (first | (go_at_call 100; refine (HRN.out _ H1.out).mono ?_; rintro e w' ⟨rfl, rfl⟩))
      go_ret
      exact ⟨ret_i hT'.out, hgw⟩
set_option maxHeartbeats 2000000 in
set_option maxRecDepth 100000 in
theorem rskip_any (s : ByteArray) (l : List UInt8) (hl : s.data.toList = l) (hmax : l.length ≤ 9223372036854775807) (i : Nat) (hi : i ≤ l.length) (w : World) :
    Calls Tryz.prog 59 #[.string s, .int .i64 (i : Int)] w fun e w' => e = .returned (.int .i64 ((i + sk false (l.drop i) : Nat) : Int)) ∧ w = w' := by
  have hsz : s.size = l.length := by rw [Lib.size_eq, hl]
  have HIX := hid (idx_at s l hl)
  obtain ⟨T, hT⟩ : ∃ T, i + sk false (l.drop i) = T := ⟨_, rfl⟩
  rw [hT]
  have HT := hid hT
  clear hl hT
  go_enter Tryz.func59, Tryz.ntmps59
  go_wp2_with fail
  go_loop [1] (fun x => ∃ k : Nat, k ≤ l.length ∧ x = .int .i64 k ∧ Hid (k + sk false (l.drop k) = T)) (fun x => l.length - (intOf x).toNat)
  case atStart => exact ⟨i, hi, rfl, HT⟩
  case round =>
    obtain ⟨k, hk, rfl, HC⟩ := hrel
    by_cases hlt : k < l.length
    · have hix := HIX.out k hlt
      have hd : l.drop k = l[k] :: l.drop (k + 1) := List.drop_eq_getElem_cons hlt
      obtain ⟨ch, hc⟩ : ∃ ch, ch = l[k] := ⟨_, rfl⟩
      have HCH := hid hc
      rw [← hc] at hix hd
      clear hc
      obtain ⟨m, hm⟩ : ∃ m, m = ch.toNat := ⟨_, rfl⟩
      rw [← hm] at hix
      have HB := hid (fun w => hm ▸ blank_any ch.toNat (u8_lt ch) w)
      have HM := hid hm
      by_cases hb : kd m = 1
      · have HB1 := hid fun w => decide_eq_true hb ▸ HB.out w
        have HS : Hid (k + 1 + sk false (l.drop (k + 1)) = T) := hid (by have := HC.out; rw [hd, sk_blank (by rw [← hm]; exact hb)] at this; omega)
        have hne : ¬ (m : Int) = 35 := by have := (kd_blank m).1 hb; omega
        have hne2 : ((m : Int) == 35) = false := by simpa using hne
        clear hd hb hm HB hne
        go_wp2_with (go_at_call 110; refine (HB1.out _).mono ?_; rintro e w' ⟨rfl, rfl⟩)
        exact ⟨⟨k + 1, by omega, rfl, HS⟩, by simp [intOf]; omega⟩
      · have HB1 := hid fun w => decide_eq_false hb ▸ HB.out w
        by_cases hh : kd m = 2
        · obtain rfl : m = 35 := (kd_hash m).1 hh
          have HS : Hid (k + sk true (l.drop k) = T) := hid (by have := HC.out; rw [hd, sk_hash' (by rw [← hm]; exact hh), ← hd] at this; exact this)
          clear hd hb hm HB hh
          go_wp2_with (go_at_call 110; refine (HB1.out _).mono ?_; rintro e w' ⟨rfl, rfl⟩)
          go_loop [1] (fun x => ∃ q : Nat, k ≤ q ∧ q ≤ l.length ∧ x = .int .i64 q ∧ Hid (q + sk true (l.drop q) = T)) (fun x => l.length - (intOf x).toNat)
          case atStart => exact ⟨k, Nat.le_refl _, hk, rfl, HS⟩
          case round =>
            obtain ⟨q, hkq, hq, rfl, HC2⟩ := hrel
            by_cases hlt2 : q < l.length
            · have hix2 := HIX.out q hlt2
              have hd : l.drop q = l[q] :: l.drop (q + 1) := List.drop_eq_getElem_cons hlt2
              have hkq' : q = k → (l[q]).toNat = 35 := fun e => by subst e; rw [← HCH.out]; exact HM.out.symm
              obtain ⟨c2, hc2⟩ : ∃ c, c = l[q] := ⟨_, rfl⟩
              rw [← hc2] at hix2 hd hkq'
              clear hc2
              obtain ⟨m2, hm2⟩ : ∃ m, m = c2.toNat := ⟨_, rfl⟩
              rw [← hm2] at hix2 hkq'
              by_cases h10 : m2 = 10
              · subst h10
                have hlt3 : k < q := by omega
                have HS2 : Hid (q + sk false (l.drop q) = T) := hid (by have := HC2.out; rw [hd, sk_feed hm2.symm, ← hd] at this; exact this)
                clear hd hm2 hkq'
                go_wp2_with fail
                exact ⟨⟨q, hq, rfl, HS2⟩, by simp [intOf]; omega⟩
              · have HS2 : Hid (q + 1 + sk true (l.drop (q + 1)) = T) := hid (by have := HC2.out; rw [hd, sk_in (by rw [← hm2]; exact h10)] at this; omega)
                have hne : ((m2 : Int) != 10) = true := by
                  have : ((m2 : Int) == 10) = false := by simpa using (by omega : ¬ (m2 : Int) = 10)
                  simp [bne, this]
                clear hd hm2 hkq' h10
                go_wp2_with fail
                exact ⟨⟨q + 1, by omega, by omega, rfl, HS2⟩, by simp [intOf]; omega⟩
            · obtain rfl : q = l.length := by omega
              have HS2 : Hid (l.length + sk false (l.drop l.length) = T) := hid (by have := HC2.out; rw [List.drop_of_length_le (Nat.le_refl _), sk_nil] at this ⊢; exact this)
              go_wp2_with fail
              exact ⟨⟨l.length, Nat.le_refl _, rfl, HS2⟩, by simp [intOf]; omega⟩
        · have HS : Hid (k = T) := hid (by have := HC.out; rw [hd, sk_none (by rw [← hm]; exact hb) (by rw [← hm]; exact hh)] at this; omega)
          have hne : ((m : Int) == 35) = false := by
            have : m ≠ 35 := fun e => hh ((kd_hash m).2 e)
            simpa using (by omega : ¬ (m : Int) = 35)
          clear hd hb hm HB hh
          go_wp2_with (go_at_call 110; refine (HB1.out _).mono ?_; rintro e w' ⟨rfl, rfl⟩)
          go_ret
          exact ⟨ret_i HS.out, rfl⟩
    · obtain rfl : k = l.length := by omega
      have HS : Hid (l.length = T) := hid (by have := HC.out; rw [List.drop_of_length_le (Nat.le_refl _), sk_nil] at this; omega)
      go_wp2_with fail
      go_ret
      exact ⟨ret_i HS.out, rfl⟩
end Go.Proofs.YtjpkncgfpbhnaaaGreatDoor
namespace Nm
open Go Go.RowKit
theorem blk0 (w : World) (A : Obj) : (w.alloc A).heap[w.heap.size]? = some A := heap_alloc_new w A
theorem blk1 (w : World) (A B : Obj) : ((w.alloc A).alloc B).heap[w.heap.size]? = some A := (heap_alloc_old _ _ (by simp)).trans (heap_alloc_new w A)
section
variable {w : World} {G : Nat} {x y z u : Value} {T : TypeId}
theorem box4 (hb : w.heap[G]? = some (.cells #[x, y, z, u] T (0, 0))) :
    (w.cell? ⟨G, 0, none⟩ = some x ∧ w.cell? ⟨G, 1, none⟩ = some y ∧ w.cell? ⟨G, 2, none⟩ = some z ∧ w.cell? ⟨G, 3, none⟩ = some u) ∧ w.frozen? ⟨G, 0, none⟩ = false ∧ w.frozen? ⟨G, 1, none⟩ = false ∧ w.frozen? ⟨G, 2, none⟩ = false ∧ w.frozen? ⟨G, 3, none⟩ = false := by
  have k0 := cell_of_row w G 0 _ _ _ hb
  have k1 := cell_of_row w G 1 _ _ _ hb
  have k2 := cell_of_row w G 2 _ _ _ hb
  have k3 := cell_of_row w G 3 _ _ _ hb
  simp at k0 k1 k2 k3
  exact ⟨⟨k0, k1, k2, k3⟩, frozen_of_row w G 0 _ _ hb, frozen_of_row w G 1 _ _ hb, frozen_of_row w G 2 _ _ hb, frozen_of_row w G 3 _ _ hb⟩
theorem set4 (hb : w.heap[G]? = some (.cells #[x, y, z, u] T (0, 0))) (A B C D : Value) :
    ((((w.setCell ⟨G, 0, none⟩ A).setCell ⟨G, 1, none⟩ B).setCell ⟨G, 2, none⟩ C).setCell ⟨G, 3, none⟩ D).heap[G]? = some (.cells #[A, B, C, D] T (0, 0)) := by
  have h1 := heap_setCell_same w G 0 _ _ A hb
  have h2 := heap_setCell_same _ G 1 _ _ B h1
  have h3 := heap_setCell_same _ G 2 _ _ C h2
  have h4 := heap_setCell_same _ G 3 _ _ D h3
  simpa using h4
theorem set4_grown (w : World) (G : Nat) (A B C D : Value) : w.grownBy ((((w.setCell ⟨G, 0, none⟩ A).setCell ⟨G, 1, none⟩ B).setCell ⟨G, 2, none⟩ C).setCell ⟨G, 3, none⟩ D) (some G) :=
  grown_trans (grown_setCell w ⟨G, 0, none⟩ A) (grown_trans (grown_setCell _ ⟨G, 1, none⟩ B) (grown_trans (grown_setCell _ ⟨G, 2, none⟩ C) (grown_setCell _ ⟨G, 3, none⟩ D)))
theorem set1_grown {w0 w : World} (h : w0.grownBy w none) (G o : Nat) (A : Value) (hG : w0.heap.size ≤ G) : w0.grownBy (w.setCell ⟨G, o, none⟩ A) none :=
  grown_new h (grown_setCell w ⟨G, o, none⟩ A) fun g e => by cases e; exact hG
theorem set4_new {w0 w : World} (h : w0.grownBy w none) (G : Nat) (A B C D : Value) (hG : w0.heap.size ≤ G) : w0.grownBy ((((w.setCell ⟨G, 0, none⟩ A).setCell ⟨G, 1, none⟩ B).setCell ⟨G, 2, none⟩ C).setCell ⟨G, 3, none⟩ D) none :=
  grown_new h (set4_grown w G A B C D) fun g e => by cases e; exact hG
theorem keepB {w' : World} {O : Obj} (hb : w.heap[G]? = some O) (hg : w.grownBy w' none) : w'.heap[G]? = some O := (hg.block G (lt_of_block hb) (by simp)).trans hb
end
end Nm
namespace Go.Proofs.YtjpkncgfpbhnaaaGreatDoor
open Go.RowKit _root_.Nm Lx
theorem slice_r (s : ByteArray) (l : List UInt8) (hl : s.data.toList = l) (i n : Nat) (hk : i + n ≤ l.length) (x : Int) (hx : x = ((i + n : Nat) : Int)) (w : World) :
    (Instr.slice 9 (.string s) (some (.int .i64 (i : Int))) (some (.int .i64 x)) none).run Tryz.prog w = .ok (.string ⟨((l.drop i).take n).toArray⟩) w := by
  subst hl hx
  have hk' : i + n ≤ s.size := by rw [Lib.size_eq]; exact hk
  rw [run_slice_string w 9 s .i64 .i64 (i : Int) ((i + n : Nat) : Int) (by kernel_rfl) (by omega) (by omega) (by omega), Int.toNat_natCast, Int.toNat_natCast, Lib.extract_eq, show i + n - i = n by omega]
def NxP (l : List UInt8) (i : Nat) (t : Tk) (w : World) (e : Ending) (w' : World) : Prop :=
  (∃ (a b c : Int) (d : ByteArray), e = .returned (.tuple #[.agg #[.int .i64 a, .int .i64 b, .int .i64 c, .string d], .int .i64 (t.e : Nat)]) ∧ (t.e = 0 → [Value.int .i64 a, .int .i64 b, .int .i64 c, .string d] = cells l (t.k, i, t.n))) ∧ w.grownBy w' none
theorem NxP.bad {l : List UInt8} {i : Nat} {t : Tk} {w w' : World} {k : Nat} (h : t.e = k) (hk : k ≠ 0) (hg : w.grownBy w' none) (a b c : Int) (d : ByteArray) : NxP l i t w (.returned (.tuple #[.agg #[.int .i64 a, .int .i64 b, .int .i64 c, .string d], .int .i64 (k : Int)])) w' := by
  subst h
  exact ⟨⟨a, b, c, d, rfl, fun e => absurd e hk⟩, hg⟩
theorem NxP.ok {l : List UInt8} {i : Nat} {t : Tk} {w w' : World} (h : t.e = 0) (hg : w.grownBy w' none) {a b c : Int} {d : ByteArray} (hc : [Value.int .i64 a, .int .i64 b, .int .i64 c, .string d] = cells l (t.k, i, t.n)) : NxP l i t w (.returned (.tuple #[.agg #[.int .i64 a, .int .i64 b, .int .i64 c, .string d], .int .i64 0])) w' :=
  ⟨⟨a, b, c, d, by rw [h]; rfl, fun _ => hc⟩, hg⟩
set_option maxHeartbeats 2000000 in
theorem token_any (s : ByteArray) (l : List UInt8) (hl : s.data.toList = l) (k : Int) (i n : Nat) (hi : i + n ≤ l.length) (x : Int) (hx : x = ((i + n : Nat) : Int)) (w : World) :
    Calls Tryz.prog 56 #[.int .i64 k, .string s, .int .i64 (i : Int), .int .i64 x] w fun e w' => e = .returned (.agg #[.int .i64 k, .int .i64 (i : Int), .int .i64 x, .string ⟨((l.drop i).take n).toArray⟩]) ∧ w.grownBy w' none := by
  have hsl := slice_r s l hl i n hi x hx
  obtain ⟨d, hd⟩ : ∃ d, d = (⟨((l.drop i).take n).toArray⟩ : ByteArray) := ⟨_, rfl⟩
  rw [← hd] at hsl ⊢
  clear hl hd hx
  go_enter Tryz.func56, Tryz.ntmps56
  go_wp2_with fail
  exact bodyPost_ret (v := .agg #[.int .i64 k, .int .i64 (i : Int), .int .i64 x, .string d]) (by simp [results, Tryz.results56, go_sem]) rfl ⟨rfl, World.grownBy_alloc _ _ none⟩
theorem kinds2 (w : World) (T : TypeId) (b : Nat) (hb : b = w.heap.size) : IRd (w.alloc (.cells #[.int .i64 3, .int .i64 4] T)) .i64 (some ⟨b, 0, none⟩) 2 2 [3, 4] := by
  subst hb
  exact (IRow.made w T .i64 [3, 4]).rd0 (by simp)
theorem kinds1 (w : World) (T : TypeId) (b : Nat) (hb : b = w.heap.size) : IRd (w.alloc (.cells #[.int .i64 4] T)) .i64 (some ⟨b, 0, none⟩) 1 1 [4] := by
  subst hb
  exact (IRow.made w T .i64 [4]).rd0 (by simp)
theorem run_j (s : ByteArray) (l : List UInt8) (hl : s.data.toList = l) (hmax : l.length ≤ 9223372036854775807) (i : Nat) (hi : i ≤ l.length) (p : Option Addr) (n c : Nat) (ks : List Nat) (j : Nat) (hj : j = i + span ks (l.drop i)) (w : World) (h : IRd w .i64 p n c ks) :
    Calls Tryz.prog 100 #[.string s, .int .i64 (i : Int), .slice p n c] w fun e w' => e = .returned (.int .i64 (j : Int)) ∧ w = w' := by
  subst hj
  exact run_any s l hl hmax i hi p n c ks w h
set_option maxHeartbeats 2000000 in
set_option maxRecDepth 100000 in
theorem name_any (s : ByteArray) (l : List UInt8) (hl : s.data.toList = l) (hmax : l.length ≤ 9223372036854775807) (i : Nat) (hi : i ≤ l.length) (w : World) :
    Calls Tryz.prog 103 #[.string s, .int .i64 (i : Int)] w (NxP l i (nameTk (span [3, 4] (l.drop i))) w) := by
  have hsp := span_le [3, 4] (l.drop i)
  rw [List.length_drop] at hsp
  obtain ⟨n, hn⟩ : ∃ n, n = span [3, 4] (l.drop i) := ⟨_, rfl⟩
  rw [← hn] at hsp ⊢
  obtain ⟨j, hj⟩ : ∃ j, j = i + n := ⟨_, rfl⟩
  have HRN := hid fun W w' (h : IRd w' .i64 (some ⟨W, 0, none⟩) 2 2 [3, 4]) => run_j s l hl hmax i hi (some ⟨W, 0, none⟩) 2 2 [3, 4] j (by omega) w' h
  have HTK := hid fun w' => token_any s l hl 1 i n (by omega) (j : Int) (by rw [hj]) w'
  by_cases h20 : 20 < n
  · have HP := hid fun (w' : World) (hg : w.grownBy w' none) => NxP.bad (l := l) (i := i) (t := nameTk n) (k := 4) (if_pos h20) (by omega) hg 0 0 0 ⟨#[]⟩
    have hgt : (20 : Int) < (j : Int) - (i : Int) := by omega
    have hij : i ≤ j := by omega
    have hjl : j ≤ l.length := by omega
    clear hl hn hj h20
    go_enter Tryz.func103, Tryz.ntmps103
    go_wp2_with (go_at_call 100; (with_reducible refine (HRN.out _ _ (kinds2 _ _ _ (by simp))).mono ?_); rintro e w' ⟨rfl, rfl⟩)
    exact bodyPost_ret (v := .tuple #[.agg #[.int .i64 0, .int .i64 0, .int .i64 0, .string ⟨#[]⟩], .int .i64 4]) (by simp [results, Tryz.results103, go_sem]) rfl (HP.out _ (grown_trans (World.grownBy_alloc _ _ _) (World.grownBy_alloc _ _ _)))
  · have HP := hid fun (w' : World) (hg : w.grownBy w' none) => NxP.ok (l := l) (i := i) (t := nameTk n) (if_neg h20) hg (a := 1) (b := i) (c := j) (d := ⟨((l.drop i).take n).toArray⟩) (by rw [hj]; rfl)
    have hgt : ¬ (20 : Int) < (j : Int) - (i : Int) := by omega
    have hij : i ≤ j := by omega
    have hjl : j ≤ l.length := by omega
    clear hl hn hj h20
    go_enter Tryz.func103, Tryz.ntmps103
    go_wp2_with (first | (go_at_call 100; (with_reducible refine (HRN.out _ _ (kinds2 _ _ _ (by simp))).mono ?_); rintro e w' ⟨rfl, rfl⟩) | (go_at_call 56; (with_reducible refine (HTK.out _).mono ?_); rintro e w' ⟨rfl, hg⟩; have bx := keepB (blk1 _ _ _) hg; have hG := grown_trans (grown_trans (World.grownBy_alloc w _ none) (World.grownBy_alloc _ _ _)) hg; obtain ⟨⟨k0, k1, k2, k3⟩, f0, f1, f2, f3⟩ := box4 bx))
    exact bodyPost_ret (v := .tuple #[.agg #[.int .i64 1, .int .i64 (i : Int), .int .i64 (j : Int), .string ⟨((l.drop i).take n).toArray⟩], .int .i64 0]) (by simp [results, Tryz.results103, go_sem, k0, k1, k2, k3]) rfl (HP.out _ (set4_new hG _ _ _ _ _ (Nat.le_refl _)))
end Go.Proofs.YtjpkncgfpbhnaaaGreatDoor
namespace Go.Proofs.YtjpkncgfpbhnaaaGreatDoor
open Go.Shelf Go.RowKit _root_.Nm
def lxRen : Ren := ⟨fun n => match n with
    | 99 => 105
    | 206 => 154
    | n => n,
  fun n => match n with
    | 0 => 0
    | 3 => 3
    | 4 => 4
    | 9 => 9
    | n => n,
  fun n => n⟩
def lxRen2 : Ren := ⟨fun n => match n with
    | 26 => 112
    | 33 => 157
    | 34 => 158
    | 38 => 201
    | n => n,
  fun n => match n with
    | 0 => 0
    | 3 => 3
    | 4 => 4
    | 9 => 9
    | 24 => 42
    | 40 => 192
    | n => n,
  fun n => n⟩
theorem lx99 : Lays.n99 Tryz.prog lxRen where
  mixed := by kernel_rfl
  f99 := by kernel_rfl
  f206 := by kernel_rfl
  t3 := by kernel_rfl
  a3 := fun _ => by kernel_rfl
  z3 := fun _ => by kernel_rfl
  v3 := fun _ => by kernel_rfl
  t4 := by kernel_rfl
  a4 := fun _ => by kernel_rfl
  z4 := fun _ => by kernel_rfl
  v4 := fun _ => by kernel_rfl
  t9 := by kernel_rfl
  a9 := fun _ => by kernel_rfl
  z9 := fun _ => by kernel_rfl
  v9 := fun _ => by kernel_rfl
theorem lx26 : Lays2.n26 Tryz.prog lxRen2 where
  mixed := by kernel_rfl
  f26 := by kernel_rfl
  f33 := by kernel_rfl
  f34 := by kernel_rfl
  f38 := by kernel_rfl
  t0 := by kernel_rfl
  a0 := fun _ => by kernel_rfl
  z0 := fun _ => by kernel_rfl
  v0 := fun _ => by kernel_rfl
  t3 := by kernel_rfl
  a3 := fun _ => by kernel_rfl
  z3 := fun _ => by kernel_rfl
  v3 := fun _ => by kernel_rfl
  t4 := by kernel_rfl
  a4 := fun _ => by kernel_rfl
  z4 := fun _ => by kernel_rfl
  v4 := fun _ => by kernel_rfl
  t9 := by kernel_rfl
  a9 := fun _ => by kernel_rfl
  z9 := fun _ => by kernel_rfl
  v9 := fun _ => by kernel_rfl
  t24 := by kernel_rfl
  a24 := fun _ => by kernel_rfl
  z24 := fun _ => by kernel_rfl
  v24 := fun _ => by kernel_rfl
  t40 := by kernel_rfl
  a40 := fun _ => by kernel_rfl
  z40 := fun _ => by kernel_rfl
  v40 := fun _ => by kernel_rfl
theorem hasPrefix_any (s p : ByteArray) (w : World) : Calls Tryz.prog 105 #[.string s, .string p] w fun e w' => e = .returned (.bool (Lib.hasPrefix s.data.toList p.data.toList)) ∧ w = w' :=
  (Any.strings_HasPrefix lx99 s p w).mono fun _ _ ⟨h, h2⟩ => ⟨h, h2.symm⟩
theorem binSearch_any (b off n c : Nat) (Sx : Nat → ByteArray) (x : ByteArray) (w : World) (hbig : n < 4611686018427387904) (hc : ∀ j, j < n → w.cell? ⟨b, off + j, none⟩ = some (.string (Sx j))) :
    Calls Tryz.prog 112 #[.slice (some ⟨b, off, none⟩) n c, .string x] w fun e w' =>
      e = .returned (.tuple #[.int .i64 (Lib.bsGo (fun t => Op.bytesLess (Sx t).toList x.toList) n 0 n : Nat), .bool (decide (Lib.bsGo (fun t => Op.bytesLess (Sx t).toList x.toList) n 0 n < n ∧ Sx (Lib.bsGo (fun t => Op.bytesLess (Sx t).toList x.toList) n 0 n) = x))]) ∧ ∃ q, w' = w.drewN q :=
  Any2.slices_BinarySearch_string lx26 b off n c Sx x w hbig hc
end Go.Proofs.YtjpkncgfpbhnaaaGreatDoor
namespace Go.Proofs.YtjpkncgfpbhnaaaGreatDoor
open Go.RowKit _root_.Nm Lx
theorem numTk_ok {z : Bool} {n : Nat} (h1 : ¬ (z = true ∧ 1 < n)) (h2 : ¬ 1000 < n) : (numTk z n).e = 0 := by
  unfold numTk; dsimp only; rw [if_neg h1, if_neg h2]
theorem numTk_big {z : Bool} {n : Nat} (h1 : ¬ (z = true ∧ 1 < n)) (h2 : 1000 < n) : (numTk z n).e = 4 := by
  unfold numTk; dsimp only; rw [if_neg h1, if_pos h2]
theorem numTk_zero {z : Bool} {n : Nat} (h1 : z = true ∧ 1 < n) : (numTk z n).e = 5 := by
  unfold numTk; dsimp only; rw [if_pos h1]
set_option maxHeartbeats 4000000 in
set_option maxRecDepth 100000 in
theorem number_any (s : ByteArray) (l : List UInt8) (hl : s.data.toList = l) (hmax : l.length ≤ 9223372036854775807) (i : Nat) (hi : i < l.length) (w : World) :
    Calls Tryz.prog 104 #[.string s, .int .i64 (i : Int)] w (NxP l i (numTk (decide ((l[i]).toNat = 48)) (span [4] (l.drop i))) w) := by
  have hsp := span_le [4] (l.drop i)
  rw [List.length_drop] at hsp
  obtain ⟨n, hn⟩ : ∃ n, n = span [4] (l.drop i) := ⟨_, rfl⟩
  rw [← hn] at hsp ⊢
  obtain ⟨j, hj⟩ : ∃ j, j = i + n := ⟨_, rfl⟩
  have hix := idx_at s l hl i hi
  obtain ⟨m, hm⟩ : ∃ m, m = (l[i]).toNat := ⟨_, rfl⟩
  rw [← hm] at hix ⊢
  have HRN := hid fun W w' (h : IRd w' .i64 (some ⟨W, 0, none⟩) 1 1 [4]) => run_j s l hl hmax i (by omega) (some ⟨W, 0, none⟩) 1 1 [4] j (by omega) w' h
  have HTK := hid fun w' => token_any s l hl 2 i n (by omega) (j : Int) (by rw [hj]) w'
  have hij : i ≤ j := by omega
  have hjl : j ≤ l.length := by omega
  have hG0 : ∀ (A B : Obj), w.grownBy ((w.alloc A).alloc B) none := fun A B => grown_trans (World.grownBy_alloc _ _ _) (World.grownBy_alloc _ _ _)
  have HG0 := hid hG0
  clear hG0
  by_cases h48 : m = 48
  · subst h48
    by_cases h1 : 1 < n
    · have HP := hid fun (w' : World) (hg : w.grownBy w' none) => NxP.bad (l := l) (i := i) (t := numTk (decide (48 = 48)) n) (k := 5) (numTk_zero ⟨by decide, h1⟩) (by omega) hg 0 0 0 ⟨#[]⟩
      have hgt : (1 : Int) < (j : Int) - (i : Int) := by omega
      clear hl hn hj h1 hm
      go_enter Tryz.func104, Tryz.ntmps104
      go_wp2_with (go_at_call 100; (with_reducible refine (HRN.out _ _ (kinds1 _ _ _ (by simp))).mono ?_); rintro e w' ⟨rfl, rfl⟩)
      exact bodyPost_ret (v := .tuple #[.agg #[.int .i64 0, .int .i64 0, .int .i64 0, .string ⟨#[]⟩], .int .i64 5]) (by simp [results, Tryz.results104, go_sem]) rfl (HP.out _ (HG0.out _ _))
    · have HP := hid fun (w' : World) (hg : w.grownBy w' none) => NxP.ok (l := l) (i := i) (t := numTk (decide (48 = 48)) n) (numTk_ok (fun h => h1 h.2) (by omega)) hg (a := 2) (b := i) (c := j) (d := ⟨((l.drop i).take n).toArray⟩) (by rw [hj]; rfl)
      have hgt : ¬ (1 : Int) < (j : Int) - (i : Int) := by omega
      have hgt2 : ¬ (1000 : Int) < (j : Int) - (i : Int) := by omega
      clear hl hn hj h1 hm
      go_enter Tryz.func104, Tryz.ntmps104
      go_wp2_with (first | (go_at_call 100; (with_reducible refine (HRN.out _ _ (kinds1 _ _ _ (by simp))).mono ?_); rintro e w' ⟨rfl, rfl⟩) | (go_at_call 56; (with_reducible refine (HTK.out _).mono ?_); rintro e w' ⟨rfl, hg⟩; have bx := keepB (blk1 _ _ _) hg; have hG := grown_trans (HG0.out _ _) hg; obtain ⟨⟨k0, k1, k2, k3⟩, f0, f1, f2, f3⟩ := box4 bx))
      exact bodyPost_ret (v := .tuple #[.agg #[.int .i64 2, .int .i64 (i : Int), .int .i64 (j : Int), .string ⟨((l.drop i).take n).toArray⟩], .int .i64 0]) (by simp [results, Tryz.results104, go_sem, k0, k1, k2, k3]) rfl (HP.out _ (set4_new hG _ _ _ _ _ (Nat.le_refl _)))
  · have hne : ((m : Int) == 48) = false := by simpa using (by omega : ¬ (m : Int) = 48)
    by_cases h1 : 1000 < n
    · have HP := hid fun (w' : World) (hg : w.grownBy w' none) => NxP.bad (l := l) (i := i) (t := numTk (decide (m = 48)) n) (k := 4) (numTk_big (fun h => h48 (of_decide_eq_true h.1)) h1) (by omega) hg 0 0 0 ⟨#[]⟩
      have hgt : (1000 : Int) < (j : Int) - (i : Int) := by omega
      clear hl hn hj h1 hm h48
      go_enter Tryz.func104, Tryz.ntmps104
      go_wp2_with (go_at_call 100; (with_reducible refine (HRN.out _ _ (kinds1 _ _ _ (by simp))).mono ?_); rintro e w' ⟨rfl, rfl⟩)
      exact bodyPost_ret (v := .tuple #[.agg #[.int .i64 0, .int .i64 0, .int .i64 0, .string ⟨#[]⟩], .int .i64 4]) (by simp [results, Tryz.results104, go_sem]) rfl (HP.out _ (HG0.out _ _))
    · have HP := hid fun (w' : World) (hg : w.grownBy w' none) => NxP.ok (l := l) (i := i) (t := numTk (decide (m = 48)) n) (numTk_ok (fun h => h48 (of_decide_eq_true h.1)) h1) hg (a := 2) (b := i) (c := j) (d := ⟨((l.drop i).take n).toArray⟩) (by rw [hj]; rfl)
      have hgt : ¬ (1000 : Int) < (j : Int) - (i : Int) := by omega
      clear hl hn hj h1 hm h48
      go_enter Tryz.func104, Tryz.ntmps104
      go_wp2_with (first | (go_at_call 100; (with_reducible refine (HRN.out _ _ (kinds1 _ _ _ (by simp))).mono ?_); rintro e w' ⟨rfl, rfl⟩) | (go_at_call 56; (with_reducible refine (HTK.out _).mono ?_); rintro e w' ⟨rfl, hg⟩; have bx := keepB (blk1 _ _ _) hg; have hG := grown_trans (HG0.out _ _) hg; obtain ⟨⟨k0, k1, k2, k3⟩, f0, f1, f2, f3⟩ := box4 bx))
      exact bodyPost_ret (v := .tuple #[.agg #[.int .i64 2, .int .i64 (i : Int), .int .i64 (j : Int), .string ⟨((l.drop i).take n).toArray⟩], .int .i64 0]) (by simp [results, Tryz.results104, go_sem, k0, k1, k2, k3]) rfl (HP.out _ (set4_new hG _ _ _ _ _ (Nat.le_refl _)))
theorem NxP.box {l : List UInt8} {i : Nat} {t : Tk} {w w1 w' : World} {e : Ending} (h : NxP l i t w1 e w') (hg : w.grownBy w1 none) : NxP l i t w e w' :=
  ⟨h.1, grown_trans hg h.2⟩
set_option maxHeartbeats 4000000 in
set_option maxRecDepth 100000 in
theorem next_any (s : ByteArray) (l : List UInt8) (hl : s.data.toList = l) (hmax : l.length ≤ 9223372036854775807) (i : Nat) (hi : i < l.length) (w : World) :
    Calls Tryz.prog 55 #[.string s, .int .i64 (i : Int)] w (NxP l i (tokAt (l.drop i)) w) := by
  have hsz : s.size = l.length := by rw [Lib.size_eq, hl]
  have hd : l.drop i = l[i] :: l.drop (i + 1) := List.drop_eq_getElem_cons hi
  have hix := idx_at s l hl i hi
  have HNM := hid fun w' => name_any s l hl hmax i (Nat.le_of_lt hi) w'
  have HNB := hid fun w' => number_any s l hl hmax i hi w'
  obtain ⟨c, hc⟩ : ∃ c, c = l[i] := ⟨_, rfl⟩
  rw [← hc] at hix hd HNB
  have HKO := hid fun w => kindOf_any c.toNat (u8_lt c) w
  by_cases h3 : kd c.toNat = 3
  · have HK3 := hid fun w => h3 ▸ HKO.out w
    have hT : tokAt (l.drop i) = nameTk (span [3, 4] (l.drop i)) := by rw [hd, tok_name h3]
    rw [hT]
    have HA := hid (World.grownBy_alloc w (.cells #[.int .i64 0, .int .i64 0, .int .i64 0, .string ⟨#[]⟩] 76) none)
    clear HKO h3 hd hc hT hl
    go_enter Tryz.func55, Tryz.ntmps55
    go_wp2_with (first | (go_at_call 101; (with_reducible refine (HK3.out _).mono ?_); rintro e w' ⟨rfl, rfl⟩) | (go_at_call 103; (with_reducible refine (HNM.out _).mono ?_); rintro e w' ⟨⟨a, b, cc, d, rfl, hrow⟩, hg⟩; have bx := keepB (blk0 _ _) hg; have hG := grown_trans HA.out hg; obtain ⟨⟨k0, k1, k2, k3⟩, f0, f1, f2, f3⟩ := box4 bx; have HROW := hid hrow; clear hrow))
    exact bodyPost_ret (v := .tuple #[.agg #[.int .i64 a, .int .i64 b, .int .i64 cc, .string d], .int .i64 ((nameTk (span [3, 4] (l.drop i))).e : Nat)]) (by simp [results, Tryz.results55, go_sem, k0, k1, k2, k3]) rfl ⟨⟨a, b, cc, d, rfl, HROW.out⟩, set4_new hG _ _ _ _ _ (Nat.le_refl _)⟩
  by_cases h4 : kd c.toNat = 4
  · have HK4 := hid fun w => h4 ▸ HKO.out w
    have hT : tokAt (l.drop i) = numTk (decide (c.toNat = 48)) (span [4] (l.drop i)) := by rw [hd, tok_num h4]
    rw [hT]
    obtain ⟨tk, htk⟩ : ∃ tk, tk = numTk (decide (c.toNat = 48)) (span [4] (l.drop i)) := ⟨_, rfl⟩
    rw [← htk] at HNB ⊢
    have HA := hid (World.grownBy_alloc w (.cells #[.int .i64 0, .int .i64 0, .int .i64 0, .string ⟨#[]⟩] 76) none)
    clear HKO h4 h3 hd hc hT hl htk
    go_enter Tryz.func55, Tryz.ntmps55
    go_wp2_with (first | (go_at_call 101; (with_reducible refine (HK4.out _).mono ?_); rintro e w' ⟨rfl, rfl⟩) | (go_at_call 104; (with_reducible refine (HNB.out _).mono ?_); rintro e w' ⟨⟨a, b, cc, d, rfl, hrow⟩, hg⟩; have bx := keepB (blk0 _ _) hg; have hG := grown_trans HA.out hg; obtain ⟨⟨k0, k1, k2, k3⟩, f0, f1, f2, f3⟩ := box4 bx; have HROW := hid hrow; clear hrow))
    exact bodyPost_ret (v := .tuple #[.agg #[.int .i64 a, .int .i64 b, .int .i64 cc, .string d], .int .i64 (tk.e : Nat)]) (by simp [results, Tryz.results55, go_sem, k0, k1, k2, k3]) rfl ⟨⟨a, b, cc, d, rfl, HROW.out⟩, set4_new hG _ _ _ _ _ (Nat.le_refl _)⟩
  by_cases h5 : kd c.toNat = 5
  · have HK5 := hid fun w => h5 ▸ HKO.out w
    have hT : tokAt (l.drop i) = ⟨3, 1, 0⟩ := by rw [hd, tok_sign h5]
    rw [hT]
    have HTK := hid fun w' => token_any s l hl 3 i 1 (by omega) ((i : Int) + 1) (by omega) w'
    have HA := hid (World.grownBy_alloc w (.cells #[.int .i64 0, .int .i64 0, .int .i64 0, .string ⟨#[]⟩] 76) none)
    have HP := hid fun (w' : World) (hg : w.grownBy w' none) => NxP.ok (l := l) (i := i) (t := ⟨3, 1, 0⟩) rfl hg (a := 3) (b := i) (c := (i : Int) + 1) (d := ⟨((l.drop i).take 1).toArray⟩) rfl
    clear HKO h5 h4 h3 hd hc hT hl
    go_enter Tryz.func55, Tryz.ntmps55
    go_wp2_with (first | (go_at_call 101; (with_reducible refine (HK5.out _).mono ?_); rintro e w' ⟨rfl, rfl⟩) | (go_at_call 56; (with_reducible refine (HTK.out _).mono ?_); rintro e w' ⟨rfl, hg⟩; have bx := keepB (blk0 _ _) hg; have hG := grown_trans HA.out hg; obtain ⟨⟨k0, k1, k2, k3⟩, f0, f1, f2, f3⟩ := box4 bx))
    exact bodyPost_ret (v := .tuple #[.agg #[.int .i64 3, .int .i64 (i : Int), .int .i64 ((i : Int) + 1), .string ⟨((l.drop i).take 1).toArray⟩], .int .i64 0]) (by simp [results, Tryz.results55, go_sem, k0, k1, k2, k3]) rfl (HP.out _ (set4_new hG _ _ _ _ _ (Nat.le_refl _)))
  by_cases h6 : kd c.toNat = 6
  · have HK6 := hid fun w => h6 ▸ HKO.out w
    have hsl := slice_f s l hl i (Nat.le_of_lt hi)
    have HHP := hid fun w => hasPrefix_any ⟨(l.drop i).toArray⟩ ⟨#[58, 61]⟩ w
    have hc58 : c = 58 := UInt8.toNat_inj.1 ((kd_colon _).1 h6)
    have HA := hid (World.grownBy_alloc w (.cells #[.int .i64 0, .int .i64 0, .int .i64 0, .string ⟨#[]⟩] 76) none)
    by_cases he : (l.drop (i + 1)).head? = some 61
    · have hlen : i + 1 < l.length := by
        rcases Nat.lt_or_ge (i + 1) l.length with h | h
        · exact h
        · rw [List.drop_of_length_le h] at he; cases he
      have hT : tokAt (l.drop i) = ⟨3, 2, 0⟩ := by rw [hd, tok_colon h6 he]
      rw [hT]
      have hpre : Lib.hasPrefix (⟨(l.drop i).toArray⟩ : ByteArray).data.toList (⟨#[58, 61]⟩ : ByteArray).data.toList = true := by
        show Lib.hasPrefix (l.drop i) [58, 61] = true
        rw [hd, hc58]
        cases hr : l.drop (i + 1) with
        | nil => rw [hr] at he; cases he
        | cons d r => rw [hr] at he; simp at he; subst he; simp [Lib.hasPrefix]
      have HH := hid fun w => hpre ▸ HHP.out w
      have HTK := hid fun w' => token_any s l hl 3 i 2 (by omega) ((i : Int) + 2) (by omega) w'
      have HP := hid fun (w' : World) (hg : w.grownBy w' none) => NxP.ok (l := l) (i := i) (t := ⟨3, 2, 0⟩) rfl hg (a := 3) (b := i) (c := (i : Int) + 2) (d := ⟨((l.drop i).take 2).toArray⟩) rfl
      clear HKO h6 h5 h4 h3 hd hc hT hl HHP hpre he hc58
      go_enter Tryz.func55, Tryz.ntmps55
      go_wp2_with (first | (go_at_call 101; (with_reducible refine (HK6.out _).mono ?_); rintro e w' ⟨rfl, rfl⟩) | (go_at_call 105; (with_reducible refine (HH.out _).mono ?_); rintro e w' ⟨rfl, rfl⟩) | (go_at_call 56; (with_reducible refine (HTK.out _).mono ?_); rintro e w' ⟨rfl, hg⟩; have bx := keepB (blk0 _ _) hg; have hG := grown_trans HA.out hg; obtain ⟨⟨k0, k1, k2, k3⟩, f0, f1, f2, f3⟩ := box4 bx))
      exact bodyPost_ret (v := .tuple #[.agg #[.int .i64 3, .int .i64 (i : Int), .int .i64 ((i : Int) + 2), .string ⟨((l.drop i).take 2).toArray⟩], .int .i64 0]) (by simp [results, Tryz.results55, go_sem, k0, k1, k2, k3]) rfl (HP.out _ (set4_new hG _ _ _ _ _ (Nat.le_refl _)))
    · have hT : tokAt (l.drop i) = ⟨3, 1, 5⟩ := by rw [hd, tok_bad h3 h4 h5 (fun _ => he)]
      rw [hT]
      have hpre : Lib.hasPrefix (⟨(l.drop i).toArray⟩ : ByteArray).data.toList (⟨#[58, 61]⟩ : ByteArray).data.toList = false := by
        show Lib.hasPrefix (l.drop i) [58, 61] = false
        rw [hd, hc58]
        cases hr : l.drop (i + 1) with
        | nil => rfl
        | cons d r =>
          rw [hr] at he; simp at he
          have hb : ((61 : UInt8) == d) = false := by
            cases e : (61 : UInt8) == d with
            | false => rfl
            | true => exact absurd (eq_of_beq e).symm he
          simp [Lib.hasPrefix, List.isPrefixOf, hb]
      have HH := hid fun w => hpre ▸ HHP.out w
      have HP := hid fun (w' : World) (hg : w.grownBy w' none) => NxP.bad (l := l) (i := i) (t := ⟨3, 1, 5⟩) (k := 5) rfl (by omega) hg 0 0 0 ⟨#[]⟩
      clear HKO h6 h5 h4 h3 hd hc hT hl HHP hpre he hc58
      go_enter Tryz.func55, Tryz.ntmps55
      go_wp2_with (first | (go_at_call 101; (with_reducible refine (HK6.out _).mono ?_); rintro e w' ⟨rfl, rfl⟩) | (go_at_call 105; (with_reducible refine (HH.out _).mono ?_); rintro e w' ⟨rfl, rfl⟩))
      exact bodyPost_ret (v := .tuple #[.agg #[.int .i64 0, .int .i64 0, .int .i64 0, .string ⟨#[]⟩], .int .i64 5]) (by simp [results, Tryz.results55, go_sem]) rfl (HP.out _ HA.out)
  · have hT : tokAt (l.drop i) = ⟨3, 1, 5⟩ := by rw [hd, tok_bad h3 h4 h5 (fun h => absurd h h6)]
    rw [hT]
    have HA := hid (World.grownBy_alloc w (.cells #[.int .i64 0, .int .i64 0, .int .i64 0, .string ⟨#[]⟩] 76) none)
    have HP := hid fun (w' : World) (hg : w.grownBy w' none) => NxP.bad (l := l) (i := i) (t := ⟨3, 1, 5⟩) (k := 5) rfl (by omega) hg 0 0 0 ⟨#[]⟩
    obtain ⟨kk, hk⟩ : ∃ kk, kk = kd c.toNat := ⟨_, rfl⟩
    rw [← hk] at h3 h4 h5 h6 HKO
    have e3 : ((kk : Int) == 3) = false := by simpa using (by omega : ¬ (kk : Int) = 3)
    have e4 : ((kk : Int) == 4) = false := by simpa using (by omega : ¬ (kk : Int) = 4)
    have e5 : ((kk : Int) == 5) = false := by simpa using (by omega : ¬ (kk : Int) = 5)
    have e6 : ((kk : Int) == 6) = false := by simpa using (by omega : ¬ (kk : Int) = 6)
    clear h6 h5 h4 h3 hd hc hT hl hk
    go_enter Tryz.func55, Tryz.ntmps55
    go_wp2_with (first | (go_at_call 101; (with_reducible refine (HKO.out _).mono ?_); rintro e w' ⟨rfl, rfl⟩))
    exact bodyPost_ret (v := .tuple #[.agg #[.int .i64 0, .int .i64 0, .int .i64 0, .string ⟨#[]⟩], .int .i64 5]) (by simp [results, Tryz.results55, go_sem]) rfl (HP.out _ HA.out)
def sgn : List UInt8 → Tk
  | [] => ⟨3, 1, 5⟩
  | c :: r => if kd c.toNat = 5 then ⟨3, 1, 0⟩ else if kd c.toNat = 6 ∧ r.head? = some 61 then ⟨3, 2, 0⟩ else ⟨3, 1, 5⟩
theorem sgn_tok {c : UInt8} {r : List UInt8} (h3 : kd c.toNat ≠ 3) (h4 : kd c.toNat ≠ 4) : sgn (c :: r) = tokAt (c :: r) := by
  show (if _ then _ else if _ then _ else _) = (if _ then _ else if _ then _ else if _ then _ else if _ then _ else _)
  rw [if_neg h3, if_neg h4]
set_option maxHeartbeats 4000000 in
set_option maxRecDepth 100000 in
theorem sign_any (s : ByteArray) (l : List UInt8) (hl : s.data.toList = l) (hmax : l.length ≤ 9223372036854775000) (i : Nat) (hi : i < l.length) (w : World) :
    Calls Tryz.prog 60 #[.string s, .int .i64 (i : Int)] w (NxP l i (sgn (l.drop i)) w) := by
  have hsz : s.size = l.length := by rw [Lib.size_eq, hl]
  have hd : l.drop i = l[i] :: l.drop (i + 1) := List.drop_eq_getElem_cons hi
  have hix := idx_at s l hl i hi
  have HG := hid fun (A B : Obj) => grown_trans (World.grownBy_alloc w A none) (World.grownBy_alloc (w.alloc A) B none)
  obtain ⟨c, hc⟩ : ∃ c, c = l[i] := ⟨_, rfl⟩
  rw [← hc] at hix hd
  obtain ⟨m, hm⟩ : ∃ m, m = c.toNat := ⟨_, rfl⟩
  rw [← hm] at hix
  by_cases h5 : kd m = 5
  · have hT : sgn (l.drop i) = ⟨3, 1, 0⟩ := by rw [hd]; show (if _ then _ else _) = _; rw [← hm, if_pos h5]
    rw [hT]
    have hsl := slice_r s l hl i 1 (by omega) ((i : Int) + 1) (by omega)
    have HP := hid fun (w' : World) (hg : w.grownBy w' none) => NxP.ok (l := l) (i := i) (t := ⟨3, 1, 0⟩) rfl hg (a := 3) (b := i) (c := (i : Int) + 1) (d := ⟨((l.drop i).take 1).toArray⟩) rfl
    have h5' := (kd_sign m).1 h5
    clear hd hc hT hl h5 hm
    rcases h5' with rfl | rfl | rfl | rfl | rfl | rfl
    all_goals
      go_enter Tryz.func60, Tryz.ntmps60
      go_wp2_with fail
      exact bodyPost_ret (v := .tuple #[.agg #[.int .i64 3, .int .i64 (i : Int), .int .i64 ((i : Int) + 1), .string ⟨((l.drop i).take 1).toArray⟩], .int .i64 0]) (by simp [results, Tryz.results60, go_sem]) rfl (HP.out _ (HG.out _ _))
  by_cases h6 : m = 58
  · subst h6
    have h6 : kd c.toNat = 6 := by rw [← hm]; decide
    by_cases he : (l.drop (i + 1)).head? = some 61
    · have hlen : i + 1 < l.length := by
        rcases Nat.lt_or_ge (i + 1) l.length with h | h
        · exact h
        · rw [List.drop_of_length_le h] at he; cases he
      have hT : sgn (l.drop i) = ⟨3, 2, 0⟩ := by rw [hd]; show (if _ then _ else if _ then _ else _) = _; rw [← hm, if_neg (by decide), if_pos ⟨by decide, he⟩]
      rw [hT]
      have hix2 := idx_at s l hl (i + 1) hlen
      have h61 : (l[i + 1]).toNat = 61 := by
        have he' := he
        rw [List.head?_drop, List.getElem?_eq_getElem hlen, Option.some.injEq] at he'
        rw [he']; rfl
      rw [h61] at hix2
      have hix3 : ∀ w, (Instr.index 9 (.string s) (.int .i64 ((i : Int) + 1))).run Tryz.prog w = .ok (.int .u8 61) w := hix2
      have hsl := slice_r s l hl i 2 (by omega) ((i : Int) + 2) (by omega)
      have HP := hid fun (w' : World) (hg : w.grownBy w' none) => NxP.ok (l := l) (i := i) (t := ⟨3, 2, 0⟩) rfl hg (a := 3) (b := i) (c := (i : Int) + 2) (d := ⟨((l.drop i).take 2).toArray⟩) rfl
      have hb : ¬ (l.length : Int) < (i : Int) + 2 := by omega
      clear hd hc hT hl h5 hm hix2 h61 h6 he
      go_enter Tryz.func60, Tryz.ntmps60
      go_wp2_with fail
      exact bodyPost_ret (v := .tuple #[.agg #[.int .i64 3, .int .i64 (i : Int), .int .i64 ((i : Int) + 2), .string ⟨((l.drop i).take 2).toArray⟩], .int .i64 0]) (by simp [results, Tryz.results60, go_sem]) rfl (HP.out _ (HG.out _ _))
    · have hT : sgn (l.drop i) = ⟨3, 1, 5⟩ := by rw [hd]; show (if _ then _ else if _ then _ else _) = _; rw [← hm, if_neg (by decide), if_neg (fun h => he h.2)]
      rw [hT]
      have HP := hid fun (w' : World) (hg : w.grownBy w' none) => NxP.bad (l := l) (i := i) (t := ⟨3, 1, 5⟩) (k := 5) rfl (by omega) hg 3 i ((i : Int) + 2) ⟨#[]⟩
      by_cases hlen : i + 1 < l.length
      · have hix2 := idx_at s l hl (i + 1) hlen
        have h61 : (l[i + 1]).toNat ≠ 61 := fun e => he (by
          rw [List.head?_drop, List.getElem?_eq_getElem hlen, Option.some.injEq]
          exact UInt8.toNat_inj.1 e)
        obtain ⟨m2, hm2⟩ : ∃ m, m = (l[i + 1]).toNat := ⟨_, rfl⟩
        rw [← hm2] at hix2 h61
        have hix3 : ∀ w, (Instr.index 9 (.string s) (.int .i64 ((i : Int) + 1))).run Tryz.prog w = .ok (.int .u8 (m2 : Int)) w := hix2
        have hne : ((m2 : Int) != 61) = true := by
          have : ((m2 : Int) == 61) = false := by simpa using (by omega : ¬ (m2 : Int) = 61)
          simp [bne, this]
        have hb : ¬ (l.length : Int) < (i : Int) + 2 := by omega
        clear hd hc hT hl h5 hm hix2 h61 h6 he hm2
        go_enter Tryz.func60, Tryz.ntmps60
        go_wp2_with fail
        exact bodyPost_ret (v := .tuple #[.agg #[.int .i64 3, .int .i64 (i : Int), .int .i64 ((i : Int) + 2), .string ⟨#[]⟩], .int .i64 5]) (by simp [results, Tryz.results60, go_sem]) rfl (HP.out _ (HG.out _ _))
      · have hb : (l.length : Int) < (i : Int) + 2 := by omega
        clear hd hc hT hl h5 hm h6 he
        go_enter Tryz.func60, Tryz.ntmps60
        go_wp2_with fail
        exact bodyPost_ret (v := .tuple #[.agg #[.int .i64 3, .int .i64 (i : Int), .int .i64 ((i : Int) + 2), .string ⟨#[]⟩], .int .i64 5]) (by simp [results, Tryz.results60, go_sem]) rfl (HP.out _ (HG.out _ _))
  · have hT : sgn (l.drop i) = ⟨3, 1, 5⟩ := by rw [hd]; show (if _ then _ else if _ then _ else _) = _; rw [← hm, if_neg h5, if_neg (fun h => h6 ((kd_colon m).1 h.1))]
    rw [hT]
    have HP := hid fun (w' : World) (hg : w.grownBy w' none) => NxP.bad (l := l) (i := i) (t := ⟨3, 1, 5⟩) (k := 5) rfl (by omega) hg 3 i ((i : Int) + 1) ⟨#[]⟩
    have h5' : ¬ (m = 40 ∨ m = 41 ∨ m = 44 ∨ m = 59 ∨ m = 47 ∨ m = 45) := fun h => h5 ((kd_sign m).2 h)
    have e1 : ((m : Int) == 40) = false := by simpa using (by omega : ¬ (m : Int) = 40)
    have e2 : ((m : Int) == 41) = false := by simpa using (by omega : ¬ (m : Int) = 41)
    have e3 : ((m : Int) == 44) = false := by simpa using (by omega : ¬ (m : Int) = 44)
    have e4 : ((m : Int) == 59) = false := by simpa using (by omega : ¬ (m : Int) = 59)
    have e5 : ((m : Int) == 47) = false := by simpa using (by omega : ¬ (m : Int) = 47)
    have e6 : ((m : Int) == 45) = false := by simpa using (by omega : ¬ (m : Int) = 45)
    have e7 : ((m : Int) == 58) = false := by simpa using (by omega : ¬ (m : Int) = 58)
    clear hd hc hT hl h5 hm h6 h5'
    go_enter Tryz.func60, Tryz.ntmps60
    go_wp2_with fail
    exact bodyPost_ret (v := .tuple #[.agg #[.int .i64 3, .int .i64 (i : Int), .int .i64 ((i : Int) + 1), .string ⟨#[]⟩], .int .i64 5]) (by simp [results, Tryz.results60, go_sem]) rfl (HP.out _ (HG.out _ _))
theorem letter_t {m : Nat} (hm : m < 256) (h : kd m = 3) (w : World) : Calls Tryz.prog 61 #[.int .u8 (m : Int)] w fun e w' => e = .returned (.bool true) ∧ w = w' :=
 (letter_any m hm w).mono fun _ _ ⟨e, r⟩ => ⟨by rw [e, decide_eq_true h], r⟩
theorem letter_f {m : Nat} (hm : m < 256) (h : kd m ≠ 3) (w : World) : Calls Tryz.prog 61 #[.int .u8 (m : Int)] w fun e w' => e = .returned (.bool false) ∧ w = w' :=
 (letter_any m hm w).mono fun _ _ ⟨e, r⟩ => ⟨by rw [e, decide_eq_false h], r⟩
theorem digit_t {m : Nat} (hm : m < 256) (h : kd m = 4) (w : World) : Calls Tryz.prog 62 #[.int .u8 (m : Int)] w fun e w' => e = .returned (.bool true) ∧ w = w' :=
 (lxDigit_any m hm w).mono fun _ _ ⟨e, r⟩ => ⟨by rw [e, decide_eq_true h], r⟩
theorem digit_f {m : Nat} (hm : m < 256) (h : kd m ≠ 4) (w : World) : Calls Tryz.prog 62 #[.int .u8 (m : Int)] w fun e w' => e = .returned (.bool false) ∧ w = w' :=
 (lxDigit_any m hm w).mono fun _ _ ⟨e, r⟩ => ⟨by rw [e, decide_eq_false h], r⟩
theorem blk01 (w : World) (A B : Obj) : ((w.alloc A).alloc B).heap[w.heap.size + 1]? = some B := by
 have h := blk0 (w.alloc A) B
 rw [show (w.alloc A).heap.size = w.heap.size + 1 by simp] at h
 exact h
structure WdR (w wr : World) (k i q : Nat) : Prop where
 g : w.grownBy wr none
 b0 : wr.heap[w.heap.size]? = some (.cells #[.int .i64 0, .int .i64 0, .int .i64 0, .string ⟨#[]⟩] 76 (0, 0))
 b1 : wr.heap[w.heap.size + 1]? = some (.cells #[.int .i64 (k : Nat), .int .i64 (i : Nat), .int .i64 (q : Nat), .string ⟨#[]⟩] 76 (0, 0))
theorem WdR.step {w wr : World} {k i q : Nat} (h : WdR w wr k i q) (x : Int) (hx : x = ((q + 1 : Nat) : Int)) : WdR w (wr.setCell ⟨w.heap.size + 1, 2, none⟩ (.int .i64 x)) k i (q + 1) := by
 subst hx
 refine ⟨set1_grown h.g _ _ _ (by omega), (heap_setCell_other _ _ _ _ (by simp)).trans h.b0, ?_⟩
 have := heap_setCell_same wr (w.heap.size + 1) 2 _ _ (.int .i64 ((q + 1 : Nat) : Int)) h.b1
 simpa using this
set_option maxHeartbeats 8000000 in
set_option maxRecDepth 100000 in
theorem wordD_any (s : ByteArray) (l : List UInt8) (hl : s.data.toList = l) (hmax : l.length ≤ 9223372036854775000) (i : Nat) (hi : i < l.length) (h4 : kd (l[i]).toNat = 4) (w : World) :
  Calls Tryz.prog 63 #[.string s, .int .i64 (i : Int)] w (NxP l i (numTk (decide ((l[i]).toNat = 48)) (span [4] (l.drop i))) w) := by
 have hsz : s.size = l.length := by rw [Lib.size_eq, hl]
 have hix := idx_at s l hl i hi
 have HIX := hid (idx_at s l hl)
 have hsp := span_le [4] (l.drop i)
 rw [List.length_drop] at hsp
 have hpos : 0 < span [4] (l.drop i) := by rw [List.drop_eq_getElem_cons hi, span_yes (by simp [h4])]; exact Nat.succ_pos _
 obtain ⟨m, hm⟩ : ∃ m, m = (l[i]).toNat := ⟨_, rfl⟩
 rw [← hm] at hix h4 ⊢
 have HLT := hid fun w => letter_f (m := m) (by rw [hm]; exact u8_lt _) (show kd m ≠ 3 by omega) w
 have HA := hid fun (A B : Obj) => grown_trans (World.grownBy_alloc w A none) (World.grownBy_alloc (w.alloc A) B none)
 have HB0 := hid fun (A B : Obj) => blk1 w A B
 have HB1 := hid fun (A B : Obj) => blk01 w A B
 obtain ⟨n, hn⟩ : ∃ n, n = span [4] (l.drop i) := ⟨_, rfl⟩
 rw [← hn] at hsp hpos ⊢
 have HSL := hid fun q (h : i + n = q) => slice_r s l hl i n (by omega) (q : Int) (by rw [← h])
 have HS := hid hl
 have HN := hid hn
 have hm256 : m < 256 := by rw [hm]; exact u8_lt _
 clear hl hn hm
 go_enter Tryz.func63, Tryz.ntmps63
 go_wp2_with (go_at_call 61; (with_reducible refine (HLT.out _).mono ?_); rintro e w' ⟨rfl, rfl⟩)
 clear HLT
 go_loopg [] (l.length - i) (fun g wr => ∃ q : Nat, i ≤ q ∧ q ≤ l.length ∧ g = l.length - q ∧ WdR w wr 2 i q ∧ Hid (q + span [4] (l.drop q) = i + n))
 case atStart => exact ⟨i, Nat.le_refl _, Nat.le_of_lt hi, rfl, ⟨HA.out _ _, HB0.out _ _, HB1.out _ _⟩, hid (by rw [HN.out])⟩
 case round =>
  obtain ⟨q, hiq, hq, hgk, HW, HC⟩ := hrel
  have hG := HW.g.size
  obtain ⟨⟨k0, k1, k2, k3⟩, f0, f1, f2, f3⟩ := box4 HW.b1
  by_cases hlt : q < l.length
  ·have hix2 := HIX.out q hlt
   have hd : l.drop q = l[q] :: l.drop (q + 1) := List.drop_eq_getElem_cons hlt
   obtain ⟨c2, hc2⟩ : ∃ c, c = l[q] := ⟨_, rfl⟩
   rw [← hc2] at hix2 hd
   clear hc2
   obtain ⟨m2, hm2⟩ : ∃ m, m = c2.toNat := ⟨_, rfl⟩
   rw [← hm2] at hix2
   have h256 : m2 < 256 := by rw [hm2]; exact u8_lt _
   by_cases hd4 : kd m2 = 4
   ·have HD := hid fun w => digit_t (m := m2) h256 hd4 w
    have HS2 : Hid (q + 1 + span [4] (l.drop (q + 1)) = i + n) := hid (by have := HC.out; rw [hd, span_yes (by rw [← hm2]; simp [hd4])] at this; omega)
    clear hd hm2 hd4
    go_wp2_with (go_at_call 62; (with_reducible refine (HD.out _).mono ?_); rintro e w' ⟨rfl, rfl⟩)
    go_roundg (l.length - (q + 1))
    case measure => omega
    case rel => exact ⟨q + 1, by omega, by omega, rfl, HW.step _ (by omega), HS2⟩
   ·have HD := hid fun w => digit_f (m := m2) h256 hd4 w
    have HQ : Hid (i + n = q) := hid (by have := HC.out; rw [hd, span_no (by rw [← hm2]; simp [hd4])] at this; omega)
    clear hd hm2 hd4
    have hsl := HSL.out q HQ.out
    by_cases hz : m = 48
    ·subst hz
     by_cases h1 : 1 < n
     ·have HP := hid fun (w' : World) (hg : w.grownBy w' none) => NxP.bad (l := l) (i := i) (t := numTk (decide (48 = 48)) n) (k := 5) (numTk_zero ⟨by decide, h1⟩) (by omega) hg 2 i q ⟨((l.drop i).take n).toArray⟩
      have hgt : (i : Int) + 1 < (q : Int) := by have := HQ.out; omega
      clear h1 hgk
      obtain ⟨⟨j0, j1, j2, j3⟩, e0, e1, e2, e3⟩ := box4 HW.b0
      go_wp2_with (go_at_call 62; (with_reducible refine (HD.out _).mono ?_); rintro e w' ⟨rfl, rfl⟩)
      exact bodyPost_ret (v := .tuple #[.agg #[.int .i64 2, .int .i64 (i : Int), .int .i64 (q : Int), .string ⟨((l.drop i).take n).toArray⟩], .int .i64 5]) (by simp [results, Tryz.results63, go_sem, j0, j1, j2, j3, k0, k1, k2, k3]) rfl (HP.out _ (set4_new (set1_grown HW.g _ _ _ (by omega)) _ _ _ _ _ (Nat.le_refl _)))
     ·have HP := hid fun (w' : World) (hg : w.grownBy w' none) => NxP.ok (l := l) (i := i) (t := numTk (decide (48 = 48)) n) (numTk_ok (fun h => h1 h.2) (by omega)) hg (a := 2) (b := i) (c := q) (d := ⟨((l.drop i).take n).toArray⟩) (by rw [show q = i + n from HQ.out.symm]; rfl)
      have hgt : ¬ (i : Int) + 1 < (q : Int) := by have := HQ.out; omega
      have hgt2 : ¬ (1000 : Int) < (q : Int) - (i : Int) := by have := HQ.out; omega
      clear h1 hgk
      obtain ⟨⟨j0, j1, j2, j3⟩, e0, e1, e2, e3⟩ := box4 HW.b0
      go_wp2_with (go_at_call 62; (with_reducible refine (HD.out _).mono ?_); rintro e w' ⟨rfl, rfl⟩)
      exact bodyPost_ret (v := .tuple #[.agg #[.int .i64 2, .int .i64 (i : Int), .int .i64 (q : Int), .string ⟨((l.drop i).take n).toArray⟩], .int .i64 0]) (by simp [results, Tryz.results63, go_sem, j0, j1, j2, j3, k0, k1, k2, k3]) rfl (HP.out _ (set4_new (set1_grown HW.g _ _ _ (by omega)) _ _ _ _ _ (Nat.le_refl _)))
    ·have hne : ((m : Int) == 48) = false := by simpa using (by omega : ¬ (m : Int) = 48)
     by_cases h1 : 1000 < n
     ·have HP := hid fun (w' : World) (hg : w.grownBy w' none) => NxP.bad (l := l) (i := i) (t := numTk (decide (m = 48)) n) (k := 4) (numTk_big (fun h => hz (of_decide_eq_true h.1)) h1) (by omega) hg 2 i q ⟨((l.drop i).take n).toArray⟩
      have hgt : (1000 : Int) < (q : Int) - (i : Int) := by have := HQ.out; omega
      clear h1 hgk hz
      obtain ⟨⟨j0, j1, j2, j3⟩, e0, e1, e2, e3⟩ := box4 HW.b0
      go_wp2_with (go_at_call 62; (with_reducible refine (HD.out _).mono ?_); rintro e w' ⟨rfl, rfl⟩)
      exact bodyPost_ret (v := .tuple #[.agg #[.int .i64 2, .int .i64 (i : Int), .int .i64 (q : Int), .string ⟨((l.drop i).take n).toArray⟩], .int .i64 4]) (by simp [results, Tryz.results63, go_sem, j0, j1, j2, j3, k0, k1, k2, k3]) rfl (HP.out _ (set4_new (set1_grown HW.g _ _ _ (by omega)) _ _ _ _ _ (Nat.le_refl _)))
     ·have HP := hid fun (w' : World) (hg : w.grownBy w' none) => NxP.ok (l := l) (i := i) (t := numTk (decide (m = 48)) n) (numTk_ok (fun h => hz (of_decide_eq_true h.1)) h1) hg (a := 2) (b := i) (c := q) (d := ⟨((l.drop i).take n).toArray⟩) (by rw [show q = i + n from HQ.out.symm]; rfl)
      have hgt : ¬ (1000 : Int) < (q : Int) - (i : Int) := by have := HQ.out; omega
      clear h1 hgk hz
      obtain ⟨⟨j0, j1, j2, j3⟩, e0, e1, e2, e3⟩ := box4 HW.b0
      go_wp2_with (go_at_call 62; (with_reducible refine (HD.out _).mono ?_); rintro e w' ⟨rfl, rfl⟩)
      exact bodyPost_ret (v := .tuple #[.agg #[.int .i64 2, .int .i64 (i : Int), .int .i64 (q : Int), .string ⟨((l.drop i).take n).toArray⟩], .int .i64 0]) (by simp [results, Tryz.results63, go_sem, j0, j1, j2, j3, k0, k1, k2, k3]) rfl (HP.out _ (set4_new (set1_grown HW.g _ _ _ (by omega)) _ _ _ _ _ (Nat.le_refl _)))
  ·obtain rfl : q = l.length := by omega
   have HQ : Hid (i + n = l.length) := hid (by have := HC.out; rw [List.drop_of_length_le (Nat.le_refl _), span_nil] at this; omega)
   have hsl := HSL.out l.length HQ.out
   by_cases hz : m = 48
   ·subst hz
    by_cases h1 : 1 < n
    ·have HP := hid fun (w' : World) (hg : w.grownBy w' none) => NxP.bad (l := l) (i := i) (t := numTk (decide (48 = 48)) n) (k := 5) (numTk_zero ⟨by decide, h1⟩) (by omega) hg 2 i l.length ⟨((l.drop i).take n).toArray⟩
     have hgt : (i : Int) + 1 < (l.length : Int) := by have := HQ.out; omega
     clear h1 hgk
     obtain ⟨⟨j0, j1, j2, j3⟩, e0, e1, e2, e3⟩ := box4 HW.b0
     go_wp2_with fail
     exact bodyPost_ret (v := .tuple #[.agg #[.int .i64 2, .int .i64 (i : Int), .int .i64 (l.length : Int), .string ⟨((l.drop i).take n).toArray⟩], .int .i64 5]) (by simp [results, Tryz.results63, go_sem, j0, j1, j2, j3, k0, k1, k2, k3]) rfl (HP.out _ (set4_new (set1_grown HW.g _ _ _ (by omega)) _ _ _ _ _ (Nat.le_refl _)))
    ·have HP := hid fun (w' : World) (hg : w.grownBy w' none) => NxP.ok (l := l) (i := i) (t := numTk (decide (48 = 48)) n) (numTk_ok (fun h => h1 h.2) (by omega)) hg (a := 2) (b := i) (c := l.length) (d := ⟨((l.drop i).take n).toArray⟩) (by rw [show l.length = i + n from HQ.out.symm]; rfl)
     have hgt : ¬ (i : Int) + 1 < (l.length : Int) := by have := HQ.out; omega
     have hgt2 : ¬ (1000 : Int) < (l.length : Int) - (i : Int) := by have := HQ.out; omega
     clear h1 hgk
     obtain ⟨⟨j0, j1, j2, j3⟩, e0, e1, e2, e3⟩ := box4 HW.b0
     go_wp2_with fail
     exact bodyPost_ret (v := .tuple #[.agg #[.int .i64 2, .int .i64 (i : Int), .int .i64 (l.length : Int), .string ⟨((l.drop i).take n).toArray⟩], .int .i64 0]) (by simp [results, Tryz.results63, go_sem, j0, j1, j2, j3, k0, k1, k2, k3]) rfl (HP.out _ (set4_new (set1_grown HW.g _ _ _ (by omega)) _ _ _ _ _ (Nat.le_refl _)))
   ·have hne : ((m : Int) == 48) = false := by simpa using (by omega : ¬ (m : Int) = 48)
    by_cases h1 : 1000 < n
    ·have HP := hid fun (w' : World) (hg : w.grownBy w' none) => NxP.bad (l := l) (i := i) (t := numTk (decide (m = 48)) n) (k := 4) (numTk_big (fun h => hz (of_decide_eq_true h.1)) h1) (by omega) hg 2 i l.length ⟨((l.drop i).take n).toArray⟩
     have hgt : (1000 : Int) < (l.length : Int) - (i : Int) := by have := HQ.out; omega
     clear h1 hgk hz
     obtain ⟨⟨j0, j1, j2, j3⟩, e0, e1, e2, e3⟩ := box4 HW.b0
     go_wp2_with fail
     exact bodyPost_ret (v := .tuple #[.agg #[.int .i64 2, .int .i64 (i : Int), .int .i64 (l.length : Int), .string ⟨((l.drop i).take n).toArray⟩], .int .i64 4]) (by simp [results, Tryz.results63, go_sem, j0, j1, j2, j3, k0, k1, k2, k3]) rfl (HP.out _ (set4_new (set1_grown HW.g _ _ _ (by omega)) _ _ _ _ _ (Nat.le_refl _)))
    ·have HP := hid fun (w' : World) (hg : w.grownBy w' none) => NxP.ok (l := l) (i := i) (t := numTk (decide (m = 48)) n) (numTk_ok (fun h => hz (of_decide_eq_true h.1)) h1) hg (a := 2) (b := i) (c := l.length) (d := ⟨((l.drop i).take n).toArray⟩) (by rw [show l.length = i + n from HQ.out.symm]; rfl)
     have hgt : ¬ (1000 : Int) < (l.length : Int) - (i : Int) := by have := HQ.out; omega
     clear h1 hgk hz
     obtain ⟨⟨j0, j1, j2, j3⟩, e0, e1, e2, e3⟩ := box4 HW.b0
     go_wp2_with fail
     exact bodyPost_ret (v := .tuple #[.agg #[.int .i64 2, .int .i64 (i : Int), .int .i64 (l.length : Int), .string ⟨((l.drop i).take n).toArray⟩], .int .i64 0]) (by simp [results, Tryz.results63, go_sem, j0, j1, j2, j3, k0, k1, k2, k3]) rfl (HP.out _ (set4_new (set1_grown HW.g _ _ _ (by omega)) _ _ _ _ _ (Nat.le_refl _)))
set_option maxHeartbeats 8000000 in
set_option maxRecDepth 100000 in
theorem wordL_any (s : ByteArray) (l : List UInt8) (hl : s.data.toList = l) (hmax : l.length ≤ 9223372036854775000) (i : Nat) (hi : i < l.length) (h3 : kd (l[i]).toNat = 3) (w : World) :
  Calls Tryz.prog 63 #[.string s, .int .i64 (i : Int)] w (NxP l i (nameTk (span [3, 4] (l.drop i))) w) := by
 have hsz : s.size = l.length := by rw [Lib.size_eq, hl]
 have hix := idx_at s l hl i hi
 have HIX := hid (idx_at s l hl)
 have hsp := span_le [3, 4] (l.drop i)
 rw [List.length_drop] at hsp
 have hpos : 0 < span [3, 4] (l.drop i) := by rw [List.drop_eq_getElem_cons hi, span_yes (by simp [h3])]; exact Nat.succ_pos _
 obtain ⟨m, hm⟩ : ∃ m, m = (l[i]).toNat := ⟨_, rfl⟩
 rw [← hm] at hix h3
 have HLT := hid fun w => letter_t (m := m) (by rw [hm]; exact u8_lt _) h3 w
 have HA := hid fun (A B : Obj) => grown_trans (World.grownBy_alloc w A none) (World.grownBy_alloc (w.alloc A) B none)
 have HB0 := hid fun (A B : Obj) => blk1 w A B
 have HB1 := hid fun (A B : Obj) => blk01 w A B
 obtain ⟨n, hn⟩ : ∃ n, n = span [3, 4] (l.drop i) := ⟨_, rfl⟩
 rw [← hn] at hsp hpos ⊢
 have HSL := hid fun q (h : i + n = q) => slice_r s l hl i n (by omega) (q : Int) (by rw [← h])
 have HS := hid hl
 have HN := hid hn
 have hm256 : m < 256 := by rw [hm]; exact u8_lt _
 clear hl hn hm
 go_enter Tryz.func63, Tryz.ntmps63
 go_wp2_with (go_at_call 61; (with_reducible refine (HLT.out _).mono ?_); rintro e w' ⟨rfl, rfl⟩)
 clear HLT
 go_loopg [] (l.length - i) (fun g wr => ∃ q : Nat, i ≤ q ∧ q ≤ l.length ∧ g = l.length - q ∧ WdR w wr 1 i q ∧ Hid (q + span [3, 4] (l.drop q) = i + n))
 case atStart => exact ⟨i, Nat.le_refl _, Nat.le_of_lt hi, rfl, ⟨HA.out _ _, HB0.out _ _, HB1.out _ _⟩, hid (by rw [HN.out])⟩
 case round =>
  obtain ⟨q, hiq, hq, hgk, HW, HC⟩ := hrel
  have hG := HW.g.size
  obtain ⟨⟨k0, k1, k2, k3⟩, f0, f1, f2, f3⟩ := box4 HW.b1
  by_cases hlt : q < l.length
  ·have hix2 := HIX.out q hlt
   have hd : l.drop q = l[q] :: l.drop (q + 1) := List.drop_eq_getElem_cons hlt
   obtain ⟨c2, hc2⟩ : ∃ c, c = l[q] := ⟨_, rfl⟩
   rw [← hc2] at hix2 hd
   clear hc2
   obtain ⟨m2, hm2⟩ : ∃ m, m = c2.toNat := ⟨_, rfl⟩
   rw [← hm2] at hix2
   have h256 : m2 < 256 := by rw [hm2]; exact u8_lt _
   by_cases hd4 : kd m2 = 4
   ·have HD := hid fun w => digit_t (m := m2) h256 hd4 w
    have HS2 : Hid (q + 1 + span [3, 4] (l.drop (q + 1)) = i + n) := hid (by have := HC.out; rw [hd, span_yes (by rw [← hm2]; simp [hd4])] at this; omega)
    clear hd hm2 hd4
    go_wp2_with (go_at_call 62; (with_reducible refine (HD.out _).mono ?_); rintro e w' ⟨rfl, rfl⟩)
    go_roundg (l.length - (q + 1))
    case measure => omega
    case rel => exact ⟨q + 1, by omega, by omega, rfl, HW.step _ (by omega), HS2⟩
   by_cases hd3 : kd m2 = 3
   ·have HD := hid fun w => digit_f (m := m2) h256 hd4 w
    have HL := hid fun w => letter_t (m := m2) h256 hd3 w
    have HS2 : Hid (q + 1 + span [3, 4] (l.drop (q + 1)) = i + n) := hid (by have := HC.out; rw [hd, span_yes (by rw [← hm2]; simp [hd3])] at this; omega)
    clear hd hm2 hd4 hd3
    go_wp2_with (first | (go_at_call 62; (with_reducible refine (HD.out _).mono ?_); rintro e w' ⟨rfl, rfl⟩) | (go_at_call 61; (with_reducible refine (HL.out _).mono ?_); rintro e w' ⟨rfl, rfl⟩))
    go_roundg (l.length - (q + 1))
    case measure => omega
    case rel => exact ⟨q + 1, by omega, by omega, rfl, HW.step _ (by omega), HS2⟩
   ·have HD := hid fun w => digit_f (m := m2) h256 hd4 w
    have HL := hid fun w => letter_f (m := m2) h256 hd3 w
    have HQ : Hid (i + n = q) := hid (by have := HC.out; rw [hd, span_no (by rw [← hm2]; simp [hd3, hd4])] at this; omega)
    clear hd hm2 hd4 hd3
    have hsl := HSL.out q HQ.out
    by_cases h20 : 20 < n
    ·have HP := hid fun (w' : World) (hg : w.grownBy w' none) => NxP.bad (l := l) (i := i) (t := nameTk n) (k := 4) (if_pos h20) (by omega) hg 1 i q ⟨((l.drop i).take n).toArray⟩
     have hgt : (20 : Int) < (q : Int) - (i : Int) := by have := HQ.out; omega
     clear h20 hgk
     obtain ⟨⟨j0, j1, j2, j3⟩, e0, e1, e2, e3⟩ := box4 HW.b0
     go_wp2_with (first | (go_at_call 62; (with_reducible refine (HD.out _).mono ?_); rintro e w' ⟨rfl, rfl⟩) | (go_at_call 61; (with_reducible refine (HL.out _).mono ?_); rintro e w' ⟨rfl, rfl⟩))
     exact bodyPost_ret (v := .tuple #[.agg #[.int .i64 1, .int .i64 (i : Int), .int .i64 (q : Int), .string ⟨((l.drop i).take n).toArray⟩], .int .i64 4]) (by simp [results, Tryz.results63, go_sem, j0, j1, j2, j3, k0, k1, k2, k3]) rfl (HP.out _ (set4_new (set1_grown HW.g _ _ _ (by omega)) _ _ _ _ _ (Nat.le_refl _)))
    ·have HP := hid fun (w' : World) (hg : w.grownBy w' none) => NxP.ok (l := l) (i := i) (t := nameTk n) (if_neg h20) hg (a := 1) (b := i) (c := q) (d := ⟨((l.drop i).take n).toArray⟩) (by rw [show q = i + n from HQ.out.symm]; rfl)
     have hgt : ¬ (20 : Int) < (q : Int) - (i : Int) := by have := HQ.out; omega
     clear h20 hgk
     obtain ⟨⟨j0, j1, j2, j3⟩, e0, e1, e2, e3⟩ := box4 HW.b0
     go_wp2_with (first | (go_at_call 62; (with_reducible refine (HD.out _).mono ?_); rintro e w' ⟨rfl, rfl⟩) | (go_at_call 61; (with_reducible refine (HL.out _).mono ?_); rintro e w' ⟨rfl, rfl⟩))
     exact bodyPost_ret (v := .tuple #[.agg #[.int .i64 1, .int .i64 (i : Int), .int .i64 (q : Int), .string ⟨((l.drop i).take n).toArray⟩], .int .i64 0]) (by simp [results, Tryz.results63, go_sem, j0, j1, j2, j3, k0, k1, k2, k3]) rfl (HP.out _ (set4_new (set1_grown HW.g _ _ _ (by omega)) _ _ _ _ _ (Nat.le_refl _)))
  ·obtain rfl : q = l.length := by omega
   have HQ : Hid (i + n = l.length) := hid (by have := HC.out; rw [List.drop_of_length_le (Nat.le_refl _), span_nil] at this; omega)
   have hsl := HSL.out l.length HQ.out
   by_cases h20 : 20 < n
   ·have HP := hid fun (w' : World) (hg : w.grownBy w' none) => NxP.bad (l := l) (i := i) (t := nameTk n) (k := 4) (if_pos h20) (by omega) hg 1 i l.length ⟨((l.drop i).take n).toArray⟩
    have hgt : (20 : Int) < (l.length : Int) - (i : Int) := by have := HQ.out; omega
    clear h20 hgk
    obtain ⟨⟨j0, j1, j2, j3⟩, e0, e1, e2, e3⟩ := box4 HW.b0
    go_wp2_with fail
    exact bodyPost_ret (v := .tuple #[.agg #[.int .i64 1, .int .i64 (i : Int), .int .i64 (l.length : Int), .string ⟨((l.drop i).take n).toArray⟩], .int .i64 4]) (by simp [results, Tryz.results63, go_sem, j0, j1, j2, j3, k0, k1, k2, k3]) rfl (HP.out _ (set4_new (set1_grown HW.g _ _ _ (by omega)) _ _ _ _ _ (Nat.le_refl _)))
   ·have HP := hid fun (w' : World) (hg : w.grownBy w' none) => NxP.ok (l := l) (i := i) (t := nameTk n) (if_neg h20) hg (a := 1) (b := i) (c := l.length) (d := ⟨((l.drop i).take n).toArray⟩) (by rw [show l.length = i + n from HQ.out.symm]; rfl)
    have hgt : ¬ (20 : Int) < (l.length : Int) - (i : Int) := by have := HQ.out; omega
    clear h20 hgk
    obtain ⟨⟨j0, j1, j2, j3⟩, e0, e1, e2, e3⟩ := box4 HW.b0
    go_wp2_with fail
    exact bodyPost_ret (v := .tuple #[.agg #[.int .i64 1, .int .i64 (i : Int), .int .i64 (l.length : Int), .string ⟨((l.drop i).take n).toArray⟩], .int .i64 0]) (by simp [results, Tryz.results63, go_sem, j0, j1, j2, j3, k0, k1, k2, k3]) rfl (HP.out _ (set4_new (set1_grown HW.g _ _ _ (by omega)) _ _ _ _ _ (Nat.le_refl _)))
end Go.Proofs.YtjpkncgfpbhnaaaGreatDoor
namespace Lx
theorem span_take (ks : List Nat) : ∀ (r : List UInt8) (m : Nat), span ks (r.take m) = min (span ks r) m
  | [], m => by simp [span]
  | c :: r, 0 => by simp [span]
  | c :: r, m + 1 => by
    rw [List.take_succ_cons]
    by_cases h : kd c.toNat ∈ ks
    · rw [span_yes h, span_yes h, span_take ks r m]; omega
    · rw [span_no h, span_no h]; simp
def kws : List (List UInt8) := [
  [97, 110, 103, 108, 101],
  [97, 112, 101, 120],
  [98, 105, 115, 101, 99, 116, 111, 114],
  [99, 101, 110, 116, 101, 114],
  [99, 105, 114, 99, 108, 101],
  [99, 105, 114, 99, 117, 109],
  [99, 111, 108, 108, 105, 110, 101, 97, 114],
  [99, 111, 109, 109, 111, 110],
  [99, 111, 110, 99, 121, 99, 108, 105, 99],
  [99, 111, 110, 103, 114, 117, 101, 110, 116],
  [99, 114, 111, 115, 115],
  [99, 117, 116],
  [100, 105, 118, 105, 100, 101],
  [102, 111, 111, 116],
  [108, 105, 110, 101],
  [109, 101, 101, 116],
  [109, 105, 100, 112, 111, 105, 110, 116],
  [109, 105, 114, 114, 111, 114],
  [111, 110],
  [111, 116, 104, 101, 114],
  [112, 97, 114, 97, 108, 108, 101, 108],
  [112, 101, 114, 112, 101, 110, 100, 105, 99, 117, 108, 97, 114],
  [112, 111, 105, 110, 116, 115],
  [112, 114, 111, 118, 101],
  [114, 97, 116, 105, 111],
  [114, 101, 102, 108, 101, 99, 116],
  [115, 97, 109, 101],
  [115, 104, 105, 102, 116],
  [116, 117, 114, 110]]
def shp : List UInt8 → Bool
  | [] => false
  | c :: r => decide ((c :: r).length ≤ 20) && (decide (kd c.toNat = 3) && decide (span [3, 4] (c :: r) = (c :: r).length))
def isNm (l : List UInt8) : Bool := shp l && !(kws.contains l)
def kwAt (t : Nat) : List UInt8 := kws.getD t []
def allB (p : Nat → Bool) : Nat → Bool
  | 0 => true
  | n + 1 => allB p n && p n
theorem allB_spec {p : Nat → Bool} : ∀ {n : Nat}, allB p n = true → ∀ i, i < n → p i = true
  | 0, _, i, h => absurd h (Nat.not_lt_zero i)
  | n + 1, h, i, hi => by
    simp only [allB, Bool.and_eq_true] at h
    by_cases e : i = n
    · subst e; exact h.2
    · exact allB_spec h.1 i (by omega)
theorem kw_find : ∀ j, j < 29 → (Go.Lib.bsGo (fun t => Go.Op.bytesLess (kwAt t) (kwAt j)) 29 0 29 == j) = true :=
  allB_spec (p := fun j => Go.Lib.bsGo (fun t => Go.Op.bytesLess (kwAt t) (kwAt j)) 29 0 29 == j) (by kernel_rfl)
theorem kw_mem {l : List UInt8} : l ∈ kws ↔ ∃ j, j < 29 ∧ kwAt j = l := by
  constructor
  · intro h
    obtain ⟨j, hj, e⟩ := List.getElem_of_mem h
    exact ⟨j, hj, by unfold kwAt; rw [List.getD_eq_getElem?_getD, List.getElem?_eq_getElem hj]; exact e⟩
  · rintro ⟨j, hj, rfl⟩
    unfold kwAt
    rw [List.getD_eq_getElem?_getD, List.getElem?_eq_getElem (show j < kws.length from hj)]
    exact List.getElem_mem _
theorem kw_search (l : List UInt8) : decide (Go.Lib.bsGo (fun t => Go.Op.bytesLess (kwAt t) l) 29 0 29 < 29 ∧ kwAt (Go.Lib.bsGo (fun t => Go.Op.bytesLess (kwAt t) l) 29 0 29) = l) = kws.contains l := by
  rw [List.contains_eq_mem]
  refine decide_eq_decide.2 ⟨fun h => kw_mem.2 ⟨_, h.1, h.2⟩, fun h => ?_⟩
  obtain ⟨j, hj, rfl⟩ := kw_mem.1 h
  have := eq_of_beq (kw_find j hj)
  rw [this]
  exact ⟨hj, rfl⟩
theorem shp_cons (c : UInt8) (r : List UInt8) : shp (c :: r) = (decide ((c :: r).length ≤ 20) && (decide (kd c.toNat = 3) && decide (span [3, 4] (c :: r) = (c :: r).length))) := rfl
theorem isNm_f {l : List UInt8} (h : shp l = false) : isNm l = false := by unfold isNm; rw [h]; rfl
theorem isNm_t {l : List UInt8} (h : shp l = true) : isNm l = !(kws.contains l) := by unfold isNm; rw [h]; rfl
end Lx
namespace Go.Proofs.YtjpkncgfpbhnaaaGreatDoor
open Go.RowKit _root_.Nm Lx
def KwP (w : World) (e : Ending) (w' : World) : Prop :=
  ∃ b : Nat, e = .returned (.slice (some ⟨b, 0, none⟩) 29 29) ∧ w.heap.size ≤ b ∧ (∀ j, j < 29 → w'.cell? ⟨b, j, none⟩ = some (.string ⟨(kwAt j).toArray⟩)) ∧ w.grownBy w' none
theorem KwP.mk (w : World) (T : TypeId) (A : Array Value) (hA : A.toList = kws.map fun k => .string ⟨k.toArray⟩) : KwP w (.returned (.slice (some ⟨w.heap.size, 0, none⟩) 29 29)) (w.alloc (.cells A T)) := by
  refine ⟨w.heap.size, rfl, Nat.le_refl _, fun j hj => ?_, World.grownBy_alloc _ _ _⟩
  rw [cell_of_row _ w.heap.size j A T (0, 0) (heap_alloc_new w _), ← Array.getElem?_toList, hA, List.getElem?_map]
  unfold kwAt
  rw [List.getD_eq_getElem?_getD, List.getElem?_eq_getElem (show j < kws.length from hj)]
  rfl
set_option maxHeartbeats 2000000 in
set_option maxRecDepth 100000 in
theorem keywords_any (w : World) : Calls Tryz.prog 113 #[] w (KwP w) := by
  go_enter Tryz.func113, Tryz.ntmps113
  go_wp2_with fail
  go_ret
  exact KwP.mk w _ _ rfl
set_option maxHeartbeats 2000000 in
set_option maxRecDepth 100000 in
theorem rkeywords_any (w : World) : Calls Tryz.prog 120 #[] w (KwP w) := by
  go_enter Tryz.func120, Tryz.ntmps120
  go_wp2_with fail
  go_ret
  exact KwP.mk w _ _ rfl
theorem kinds2' (w : World) (T : TypeId) (b : Nat) (hb : b = w.heap.size) : IRd (w.alloc (.cells #[.int .i64 3, .int .i64 4] T)) .i64 (some ⟨b, 0, none⟩) 2 2 [3, 4] := kinds2 w T b hb
theorem kindOf_k (m k : Nat) (hm : m < 256) (hk : kd m = k) (w : World) : Calls Tryz.prog 101 #[.int .u8 (m : Int)] w fun e w' => e = .returned (.int .i64 (k : Nat)) ∧ w = w' := by
  subst hk
  exact kindOf_any m hm w
theorem run_0 (s : ByteArray) (l : List UInt8) (hl : s.data.toList = l) (hmax : l.length ≤ 9223372036854775807) (p : Option Addr) (n c : Nat) (ks : List Nat) (j : Nat) (hj : j = span ks l) (w : World) (h : IRd w .i64 p n c ks) :
    Calls Tryz.prog 100 #[.string s, .int .i64 0, .slice p n c] w fun e w' => e = .returned (.int .i64 (j : Int)) ∧ w = w' := by
  have := run_j s l hl hmax 0 (Nat.zero_le _) p n c ks j (by rw [hj]; simp) w h
  exact this
theorem binKw (s : ByteArray) (l : List UInt8) (hl : s.data.toList = l) (F : Bool) (hF : F = kws.contains l) (b : Nat) (w : World) (h : ∀ j, j < 29 → w.cell? ⟨b, j, none⟩ = some (.string ⟨(kwAt j).toArray⟩)) :
    Calls Tryz.prog 112 #[.slice (some ⟨b, 0, none⟩) 29 29, .string s] w fun e w' => ∃ I : Nat, e = .returned (.tuple #[.int .i64 (I : Nat), .bool F]) ∧ w.grownBy w' none := by
  refine (binSearch_any b 0 29 29 (fun t => ⟨(kwAt t).toArray⟩) s w (by omega) (fun j hj => by rw [Nat.zero_add]; exact h j hj)).mono ?_
  rintro e w' ⟨rfl, q, rfl⟩
  have e1 : (fun t => Op.bytesLess (⟨(kwAt t).toArray⟩ : ByteArray).toList s.toList) = fun t => Op.bytesLess (kwAt t) l := by
    funext t
    rw [Lib.toList_data, Lib.toList_data, hl]
  simp only [e1]
  refine ⟨Lib.bsGo (fun t => Op.bytesLess (kwAt t) l) 29 0 29, ?_, grown_drewN _ _ _⟩
  have e2 : F = decide (Lib.bsGo (fun t => Op.bytesLess (kwAt t) l) 29 0 29 < 29 ∧ (⟨(kwAt (Lib.bsGo (fun t => Op.bytesLess (kwAt t) l) 29 0 29)).toArray⟩ : ByteArray) = s) := by
    rw [hF, ← kw_search l]
    refine decide_eq_decide.2 ⟨fun h => ⟨h.1, ?_⟩, fun h => ⟨h.1, ?_⟩⟩
    · rw [h.2, ← hl]
    · have := congrArg (fun x : ByteArray => x.data.toList) h.2
      exact (show kwAt _ = s.data.toList from this).trans hl
  rw [e2]
theorem ne_empty {s : ByteArray} {c : UInt8} {r : List UInt8} (h : s.data.toList = c :: r) : s.toList.isEmpty = false := by
  rw [Lib.toList_data, h]; rfl
set_option maxHeartbeats 4000000 in
set_option maxRecDepth 100000 in
theorem isName_any (s : ByteArray) (l : List UInt8) (hl : s.data.toList = l) (hmax : l.length ≤ 9223372036854775807) (w : World) :
    Calls Tryz.prog 67 #[.string s] w fun e w' => e = .returned (.bool (isNm l)) ∧ w.grownBy w' none := by
  have hsz : s.size = l.length := by rw [Lib.size_eq, hl]
  cases l with
  | nil =>
    obtain rfl : s = ⟨#[]⟩ := by rw [← Lib.mk_data s, hl]
    have HV : Hid (isNm [] = false) := hid rfl
    clear hl hsz
    go_enter Tryz.func67, Tryz.ntmps67
    go_wp2_with fail
    go_ret
    exact ⟨ret_b HV.out.symm, grown_refl _ _⟩
  | cons c r =>
    have hemp := ne_empty hl
    have hix := idx_at s (c :: r) hl 0 (by simp)
    have hix0 : ∀ w, (Instr.index 9 (.string s) (.int .i64 0)).run Tryz.prog w = .ok (.int .u8 (c.toNat : Int)) w := hix
    clear hix
    obtain ⟨V, hV⟩ : ∃ V, V = isNm (c :: r) := ⟨_, rfl⟩
    rw [← hV]
    have HV := hid hV
    clear hV
    by_cases h20 : 20 < (c :: r).length
    · have HF : Hid (V = false) := hid (by rw [HV.out]; exact isNm_f (by rw [shp_cons, decide_eq_false (by omega)]; rfl))
      have hb : (20 : Int) < (((c :: r).length : Nat) : Int) := by omega
      generalize (c :: r).length = len at *
      clear hl h20 HV
      go_enter Tryz.func67, Tryz.ntmps67
      go_wp2_with fail
      go_ret
      exact ⟨ret_b HF.out.symm, grown_refl _ _⟩
    have hb : ¬ (20 : Int) < (((c :: r).length : Nat) : Int) := by omega
    by_cases h3 : kd c.toNat = 3
    rotate_left
    · have HF : Hid (V = false) := hid (by rw [HV.out]; exact isNm_f (by rw [shp_cons, decide_eq_false h3]; simp))
      obtain ⟨k, hk⟩ : ∃ k, k = kd c.toNat := ⟨_, rfl⟩
      have HK := hid fun w => kindOf_k c.toNat k (u8_lt c) hk.symm w
      have hne : ((k : Int) != 3) = true := by
        have : ((k : Int) == 3) = false := by simpa using (by omega : ¬ (k : Int) = 3)
        simp [bne, this]
      generalize (c :: r).length = len at *
      clear hl h20 HV h3 hk
      go_enter Tryz.func67, Tryz.ntmps67
      go_wp2_with (go_at_call 101; (with_reducible refine (HK.out _).mono ?_); rintro e w' ⟨rfl, rfl⟩)
      go_ret
      exact ⟨ret_b HF.out.symm, grown_refl _ _⟩
    have HK := hid fun w => kindOf_k c.toNat 3 (u8_lt c) h3 w
    obtain ⟨j, hj⟩ : ∃ j, j = span [3, 4] (c :: r) := ⟨_, rfl⟩
    have HRN := hid fun W w' (h : IRd w' .i64 (some ⟨W, 0, none⟩) 2 2 [3, 4]) => run_0 s (c :: r) hl hmax (some ⟨W, 0, none⟩) 2 2 [3, 4] j hj w' h
    have hjl := span_le [3, 4] (c :: r)
    rw [← hj] at hjl
    by_cases hs : j = (c :: r).length
    rotate_left
    · have HF : Hid (V = false) := hid (by rw [HV.out]; exact isNm_f (by rw [shp_cons, ← hj, decide_eq_false hs]; simp))
      have hlt : (j : Int) < (((c :: r).length : Nat) : Int) := by omega
      generalize (c :: r).length = len at *
      clear hl h20 HV h3 hj hs
      go_enter Tryz.func67, Tryz.ntmps67
      go_wp2_with (first | (go_at_call 101; (with_reducible refine (HK.out _).mono ?_); rintro e w' ⟨rfl, rfl⟩) | (go_at_call 100; (with_reducible refine (HRN.out _ _ (kinds2' _ _ _ (by simp))).mono ?_); rintro e w' ⟨rfl, rfl⟩))
      go_ret
      exact ⟨ret_b HF.out.symm, World.grownBy_alloc _ _ _⟩
    · have HT : Hid (V = !(kws.contains (c :: r))) := hid (by rw [HV.out]; exact isNm_t (by rw [shp_cons, ← hj, decide_eq_true hs, decide_eq_true h3, decide_eq_true (by omega)]; rfl))
      have hlt : ¬ (j : Int) < (((c :: r).length : Nat) : Int) := by omega
      have HKW := hid keywords_any
      obtain ⟨F, hF⟩ : ∃ F, F = kws.contains (c :: r) := ⟨_, rfl⟩
      have HBS := hid fun (b : Nat) (w : World) h => binKw s (c :: r) hl F hF b w h
      rw [← hF] at HT
      generalize (c :: r).length = len at *
      clear hl h20 HV h3 hj hs hF
      go_enter Tryz.func67, Tryz.ntmps67
      go_wp2_with (first | (go_at_call 101; (with_reducible refine (HK.out _).mono ?_); rintro e w' ⟨rfl, rfl⟩) | (go_at_call 100; (with_reducible refine (HRN.out _ _ (kinds2' _ _ _ (by simp))).mono ?_); rintro e w' ⟨rfl, rfl⟩) | (go_at_call 113; (with_reducible refine (HKW.out _).mono ?_); rintro e w1 ⟨b, rfl, hb1, hcl, hg⟩; have HCL := hid hcl; clear hcl) | (go_at_call 112; (with_reducible refine (HBS.out b _ HCL.out).mono ?_); rintro e w2 ⟨I, rfl, hg2⟩))
      go_ret
      exact ⟨ret_b HT.out.symm, grown_trans (World.grownBy_alloc _ _ none) (grown_trans hg hg2)⟩
end Go.Proofs.YtjpkncgfpbhnaaaGreatDoor
namespace Nm
open Go Go.RowKit
def SCel (w : World) (k : Nat) (a : Option Addr) (l : List (List Value)) : Prop :=
  ∀ i (h : i < l.length) j (hj : j < (l[i]).length), ∃ b o, a = some ⟨b, o, none⟩ ∧ w.cell? ⟨b, o + i * k + j, none⟩ = some (l[i])[j]
structure SRd (w : World) (k : Nat) (a : Option Addr) (n c : Nat) (l : List (List Value)) : Prop where
  len : l.length = n
  each : ∀ r ∈ l, r.length = k
  cap : n ≤ c
  max : c ≤ 9223372036854775807
  cel : SCel w k a l
section
variable {w w' : World} {k : Nat} {a : Option Addr} {n c : Nat} {l : List (List Value)}
theorem SRd.kept (h : SRd w k a n c l) {row : Option Nat} (hg : w.grownBy w' row) (hne : row = none ∨ ∀ p, a = some p → some p.block ≠ row) : SRd w' k a n c l := by
  refine ⟨h.len, h.each, h.cap, h.max, fun i hi j hj => ?_⟩
  obtain ⟨b, o, rfl, hc⟩ := h.cel i hi j hj
  refine ⟨b, o, rfl, hg.cell hc ?_⟩
  rcases hne with rfl | hne
  · simp
  · exact hne ⟨b, o, none⟩ rfl
theorem SRd.keep (h : SRd w k a n c l) (hg : w.grownBy w' none) : SRd w' k a n c l := h.kept hg (.inl rfl)
theorem SRd.nil (w : World) (k : Nat) : SRd w k none 0 0 [] := ⟨rfl, by simp, Nat.le_refl _, by omega, fun i h => by simp at h⟩
theorem SRd.at (h : SRd w k a n c l) (hk : 0 < k) {i : Nat} (hi : i < l.length) : ∃ b o, a = some ⟨b, o, none⟩ ∧ ∀ j (hj : j < (l[i]).length), w.cell? ⟨b, o + i * k + j, none⟩ = some (l[i])[j] := by
  have hl := h.each l[i] (List.getElem_mem hi)
  obtain ⟨b, o, rfl, _⟩ := h.cel i hi 0 (by omega)
  refine ⟨b, o, rfl, fun j hj => ?_⟩
  obtain ⟨b', o', e, hc⟩ := h.cel i hi j hj
  cases e
  exact hc
end
def SOwn (w : World) (base : Nat) (e : TypeId) (k : Nat) (a : Option Addr) (n c : Nat) (l : List (List Value)) : Prop :=
  l.length = n ∧ (∀ r ∈ l, r.length = k) ∧ w.ownsRow base e k (.slice a n c) n l.flatten
theorem flatten_get {k : Nat} : ∀ {l : List (List Value)} (h : ∀ r ∈ l, r.length = k) (i : Nat) (hi : i < l.length) (j : Nat) (hj : j < (l[i]).length), l.flatten[i * k + j]? = some (l[i])[j]
  | r :: l, h, 0, hi, j, hj => by
    simp only [List.getElem_cons_zero] at hj ⊢
    rw [List.flatten_cons, Nat.zero_mul, Nat.zero_add, List.getElem?_append_left hj]
    simp
  | r :: l, h, i + 1, hi, j, hj => by
    simp only [List.getElem_cons_succ] at hj ⊢
    have hr := h r (by simp)
    rw [List.flatten_cons, List.getElem?_append_right (by rw [hr, Nat.add_mul]; omega), hr]
    have ih := flatten_get (fun r hr => h r (by simp [hr])) i (by simpa using hi) j hj
    rw [show (i + 1) * k + j - k = i * k + j by rw [Nat.add_mul]; omega]
    exact ih
section
variable {w w' : World} {base : Nat} {e : TypeId} {k : Nat} {a : Option Addr} {n c : Nat} {l : List (List Value)}
theorem SOwn.nil (w : World) (base : Nat) (e : TypeId) (k : Nat) : SOwn w base e k none 0 0 [] := ⟨rfl, by simp, World.ownsRow_nil w base e k⟩
theorem SOwn.rd (h : SOwn w base e k a n c l) : SRd w k a n c l := by
  obtain ⟨hl, he, h1, h2 | ⟨g, cap, cur, hv, hb, hg, hn, hm, hs, ht⟩⟩ := h
  · obtain ⟨hv, rfl⟩ := h2
    simp only [Value.slice.injEq, true_and] at hv
    obtain ⟨rfl, rfl⟩ := hv
    obtain rfl : l = [] := List.eq_nil_of_length_eq_zero hl
    exact SRd.nil w k
  · simp only [Value.slice.injEq, true_and] at hv
    obtain ⟨rfl, rfl⟩ := hv
    refine ⟨hl, he, hn, by unfold maxLen at hm; omega, fun i hi j hj => ⟨g, 0, rfl, ?_⟩⟩
    have h3 := World.ownsRow.cells (w := w) (base := base) (e := e) (size := k) (v := .slice (some ⟨g, 0, none⟩) n c) (n := n) (xs := l.flatten) ⟨h1, .inr ⟨g, c, cur, rfl, hb, hg, hn, hm, hs, ht⟩⟩ (g := g) rfl (i * k + j) _ (flatten_get he i hi j hj)
    rw [add_addr] at h3
    rw [Nat.zero_add] at h3
    rw [Nat.zero_add]
    exact h3
theorem SOwn.lt (h : SOwn w base e k a n c l) : ∀ p, a = some p → base ≤ p.block ∧ p.block < w.heap.size := fun p hp => by
  subst hp
  exact h.2.2.lt p.block rfl
theorem SOwn.kept (h : SOwn w base e k a n c l) {row : Option Nat} (hg : w.grownBy w' row) (hne : row = none ∨ ∀ p, a = some p → some p.block ≠ row) : SOwn w' base e k a n c l := by
  refine ⟨h.1, h.2.1, h.2.2.kept hg ?_⟩
  cases a with
  | none => exact .inl rfl
  | some p =>
    rcases hne with rfl | hne
    · exact .inr (by simp [Value.ownBlock])
    · exact .inr (hne p rfl)
theorem SOwn.keep (h : SOwn w base e k a n c l) (hg : w.grownBy w' none) : SOwn w' base e k a n c l := h.kept hg (.inl rfl)
theorem SOwn.alloc (h : SOwn w base e k a n c l) (o : Obj) : SOwn (w.alloc o) base e k a n c l := ⟨h.1, h.2.1, h.2.2.alloc o⟩
end
theorem one_srd (w : World) (e : TypeId) (k : Nat) (r : List Value) (hr : r.length = k) (b : Nat) (hb : b = w.heap.size) : SRd (w.alloc (.cells r.toArray e)) k (some ⟨b, 0, none⟩) 1 1 [r] := by
  subst hb
  refine ⟨rfl, by simpa using hr, Nat.le_refl _, by omega, fun i hi j hj => ⟨w.heap.size, 0, rfl, ?_⟩⟩
  simp only [List.length_cons, List.length_nil, Nat.zero_add, Nat.lt_one_iff] at hi
  subst hi
  simp only [List.getElem_cons_zero] at hj ⊢
  rw [cell_of_row _ w.heap.size (0 + 0 * k + j) _ _ _ (heap_alloc_new w _)]
  simp [hj]
section
variable {P : Program} {ops : Array Oper} {rest : List Oper} {o : Oper} {a : Act} {Q : Exit → Act → World → Prop}
theorem wls_append (w : World) (hgd : o.guard = none) (s x : Operand) (t : TypeId)
    (ho : o.op = .call { callee := .builtin .append, args := #[s, x], argTypes := #[t, t] })
    (e : TypeId) (k : Nat) (z : Value) (bytes : Nat) (h1 : P.underlying t = some (.slice e)) (h2 : (P.info? e).map (fun i => (i.zero, i.size, i.bytes)) = some (some z, k, bytes)) (hz : z.cells.size = k) (hk : 0 < k)
    (base : Nat) (p : Option Addr) (n c : Nat) (l : List (List Value)) (hs : a.eval s = .slice p n c) (hown : SOwn w base e k p n c l)
    (sp : Option Addr) (c' : Nat) (r : List Value) (hx : a.eval x = .slice sp 1 c') (hrd : SRd w k sp 1 c' [r]) (h1c : ∀ u ∈ r, u.oneCell' = true)
    (b1 : n + 1 ≤ 9223372036854775807) (b2 : (n + 1) * bytes ≤ 140737488355328) (w0 : World) (hg0 : w0.grownBy w none) (hb0 : w0.heap.size ≤ base) (hbase : base ≤ w.heap.size)
    (hK : ∀ p' c2 w', SOwn w' base e k p' (n + 1) c2 (l ++ [r]) → w0.grownBy w' none → (∀ G O, w.heap[G]? = some O → (∀ q, p = some q → q.block ≠ G) → w'.heap[G]? = some O) → wpList P ops Q rest (a.put o.dst (.slice p' (n + 1) c2)) w') : wpList P ops Q (o :: rest) a w := by
  obtain ⟨i, hi, hz0, hz1, hz2⟩ := info_parts h2
  subst hz2
  have hrk : r.length = k := hrd.each r (by simp)
  obtain ⟨b, o', rfl, hc⟩ := hrd.at hk (i := 0) (by simp)
  refine wpList_append_own w hgd s x t ho base e i z k i.bytes h1 hi hz0 hz1 rfl hz hk _ n l.flatten hs hown.2.2 ⟨b, o', none⟩ 1 c' r hx (by simpa using hrk) ?_ h1c (by unfold maxLen; omega) b2 hbase ?_
  · intro j u hu
    obtain ⟨hj, rfl⟩ := List.getElem?_eq_some_iff.1 hu
    have := hc j (by simpa using hj)
    rw [add_addr]
    simpa using this
  · intro v' w' hown' hgr _
    obtain ⟨hl, h3⟩ := hown'
    have hv' : ∃ p' c2, v' = .slice p' (n + 1) c2 := by
      rcases h3 with ⟨rfl, h4⟩ | ⟨g, cap, cur, rfl, _⟩
      · exact ⟨none, 0, by rw [h4]⟩
      · exact ⟨_, _, rfl⟩
    obtain ⟨p', c2, rfl⟩ := hv'
    refine hK p' c2 w' ⟨by simp [hown.1], ?_, by simpa using ⟨hl, h3⟩⟩ (grown_new hg0 hgr fun g hg => ?_) (fun G O hG hne => (hgr.block G (lt_of_block hG) ?_).trans hG)
    · intro q hq
      rcases List.mem_append.1 hq with h | h
      · exact hown.2.1 q h
      · rw [List.mem_singleton.1 h]; exact hrk
    · cases p with
      | none => simp [Value.ownBlock] at hg
      | some q =>
        simp [Value.ownBlock] at hg
        have := (hown.lt q rfl).1
        omega
    · cases p with
      | none => simp [Value.ownBlock]
      | some q =>
        simp only [Value.ownBlock, ne_eq, Option.some.injEq]
        exact fun e => hne q rfl e.symm
end
section
variable {P : Program} {ops : Array Oper} {o : Oper} {a : Act}
end
def NoU (v : Value) : Prop := ∀ x, v ≠ .int .u16 x
theorem NoU.int (x : Int) : NoU (.int .i64 x) := fun y h => by cases h
theorem NoU.str (d : ByteArray) : NoU (.string d) := fun y h => by cases h
theorem NoU.bool (b : Bool) : NoU (.bool b) := fun y h => by cases h
theorem NoU.slice (p : Option Addr) (n c : Nat) : NoU (.slice p n c) := fun y h => by cases h
theorem flatten_lenH {k : Nat} : ∀ {l : List (List Value)}, (∀ r ∈ l, r.length = k) → l.flatten.length = l.length * k
 | [], _ => by simp
 | r :: l, h => by
  rw [List.flatten_cons, List.length_append, flatten_lenH (fun r hr => h r (by simp [hr])), h r (by simp), List.length_cons, Nat.add_mul]
  omega
structure HOwn (w : World) (base : Nat) (e : TypeId) (k : Nat) (p : Option Addr) (n c : Nat) (l : List (List Value)) : Prop where
 len : l.length = n
 each : ∀ r ∈ l, r.length = k
 cap : n ≤ c
 own : (p = none ∧ c = 0) ∨ ∃ (g : Nat) (cur : Array Value), p = some ⟨g, 0, none⟩ ∧ base ≤ g ∧ w.heap[g]? = some (.cells cur e (0, 0)) ∧ c ≤ maxLen ∧ cur.size = c * k ∧ cur.toList.take (n * k) = l.flatten ∧ ∀ v ∈ cur, NoU v
section
variable {w w' : World} {base : Nat} {e : TypeId} {k : Nat} {p : Option Addr} {n c : Nat} {l : List (List Value)}
theorem HOwn.nil (w : World) (base : Nat) (e : TypeId) (k : Nat) : HOwn w base e k none 0 0 [] := ⟨rfl, by simp, Nat.le_refl _, .inl ⟨rfl, rfl⟩⟩
theorem HOwn.lt (h : HOwn w base e k p n c l) : ∀ a, p = some a → base ≤ a.block ∧ a.block < w.heap.size := fun a ha => by
 rcases h.own with ⟨h1, _⟩ | ⟨g, cur, h1, h2, h3, _⟩
 ·rw [h1] at ha; cases ha
 ·rw [h1] at ha
  cases ha
  exact ⟨h2, lt_of_block h3⟩
theorem HOwn.kept (h : HOwn w base e k p n c l) {row : Option Nat} (hg : w.grownBy w' row) (hne : row = none ∨ ∀ a, p = some a → some a.block ≠ row) : HOwn w' base e k p n c l := by
 refine ⟨h.len, h.each, h.cap, ?_⟩
 rcases h.own with h1 | ⟨g, cur, rfl, h2, h3, h4⟩
 ·exact .inl h1
 ·refine .inr ⟨g, cur, rfl, h2, (hg.block g (lt_of_block h3) ?_).trans h3, h4⟩
  rcases hne with rfl | hne
  ·simp
  ·exact hne _ rfl
theorem HOwn.keep (h : HOwn w base e k p n c l) (hg : w.grownBy w' none) : HOwn w' base e k p n c l := h.kept hg (.inl rfl)
theorem HOwn.max (h : HOwn w base e k p n c l) : c ≤ 9223372036854775807 := by
 rcases h.own with ⟨_, h1⟩ | ⟨g, cur, _, _, _, h4, _⟩
 ·omega
 ·unfold maxLen at h4; omega
theorem HOwn.flat (h : HOwn w base e k p n c l) : l.flatten.length = n * k := by rw [flatten_lenH h.each, h.len]
theorem HOwn.cells (h : HOwn w base e k p n c l) {g : Nat} (hp : p = some ⟨g, 0, none⟩) (j : Nat) (u : Value) (hu : l.flatten[j]? = some u) : w.cell? ⟨g, j, none⟩ = some u := by
 rcases h.own with ⟨h1, _⟩ | ⟨g', cur, h1, h2, h3, h4, h5, h6, _⟩
 ·rw [h1] at hp; cases hp
 ·rw [h1] at hp
  cases hp
  rw [cell_of_row w g j cur e (0, 0) h3]
  rw [← h6, List.getElem?_take] at hu
  split at hu
  ·simpa using hu
  ·cases hu
theorem HOwn.rd (h : HOwn w base e k p n c l) : SRd w k p n c l := by
 refine ⟨h.len, h.each, h.cap, h.max, fun i hi j hj => ?_⟩
 rcases h.own with ⟨h1, h2⟩ | ⟨g, cur, h1, _⟩
 ·have := h.len; have := h.cap; omega
 ·refine ⟨g, 0, h1, ?_⟩
  rw [Nat.zero_add]
  exact h.cells h1 _ _ (flatten_get h.each i hi j hj)
theorem HOwn.noInt (h : HOwn w base e k p n c l) {g : Nat} (hp : p.map (·.block) = some g) : ∃ cur : Array Value, w.heap[g]? = some (.cells cur e (0, 0)) ∧ ∀ v ∈ cur, NoU v := by
 rcases h.own with ⟨h1, _⟩ | ⟨g', cur, h1, _, h3, _, _, _, h7⟩
 ·rw [h1] at hp; simp at hp
 ·rw [h1] at hp
  simp at hp
  subst hp
  exact ⟨cur, h3, h7⟩
theorem HOwn.nu (h : HOwn w base e k p n c l) {g : Nat} (hp : p.map (·.block) = some g) (o : Nat) (x : Int) : w.cell? ⟨g, o, none⟩ ≠ some (.int .u16 x) := fun hc => by
 obtain ⟨cur, h1, h2⟩ := h.noInt hp
 rw [cell_of_row w g o _ _ _ h1] at hc
 exact h2 _ (Array.mem_of_getElem? hc) x rfl
end
theorem SRd.flatH {w : World} {k : Nat} {b o m c : Nat} {rs : List (List Value)} (h : SRd w k (some ⟨b, o, none⟩) m c rs) (hk : 0 < k) (j : Nat) (u : Value) (hu : rs.flatten[j]? = some u) : w.cell? ⟨b, o + j, none⟩ = some u := by
 obtain ⟨hj, _⟩ := List.getElem?_eq_some_iff.1 hu
 rw [flatten_lenH h.each] at hj
 have hi : j / k < rs.length := Nat.div_lt_of_lt_mul (by rw [Nat.mul_comm]; exact hj)
 have hr : j % k < (rs[j / k]).length := by rw [h.each _ (List.getElem_mem hi)]; exact Nat.mod_lt _ hk
 have hd : j / k * k + j % k = j := Nat.div_add_mod' j k
 have h1 := flatten_get h.each (j / k) hi (j % k) hr
 rw [hd, hu] at h1
 obtain ⟨b', o', e, hc⟩ := h.cel (j / k) hi (j % k) hr
 cases e
 rw [Nat.add_assoc, hd] at hc
 rw [hc]
 exact h1.symm
theorem mem_madeH {z : Array Value} (hz : ∀ v ∈ z, NoU v) (m : Nat) : ∀ v ∈ Builtin.zeroCells z m, NoU v := fun v hv => by
 unfold Builtin.zeroCells at hv
 obtain ⟨i, hi, rfl⟩ := Array.mem_map.1 hv
 have h0 : i < m * z.size := by simpa using hi
 have h1 : 0 < z.size := by
  rcases Nat.eq_zero_or_pos z.size with h | h
  ·rw [h] at h0; simp at h0
  ·exact h
 have h2 : i % z.size < z.size := Nat.mod_lt _ h1
 have h3 := hz _ (Array.getElem_mem h2)
 simpa [h2] using h3
section
variable {P : Program}
theorem run_append_h (w : World) (t ty e : TypeId) (i : TypeInfo) (z : Value) (k bytes : Nat) (ht : P.underlying t = some (.slice e)) (hi : P.info? e = some i) (hz : i.zero = some z)
  (hsize : i.size = k) (hby : i.bytes = bytes) (hzs : z.cells.size = k) (hk : 0 < k) (hzn : ∀ v ∈ z.cells, NoU v)
  {base : Nat} {p : Option Addr} {n c : Nat} {l : List (List Value)} (hq : HOwn w base e k p n c l)
  {sp : Option Addr} {m c' : Nat} {rs : List (List Value)} (hrd : SRd w k sp m c' rs) (hno : ∀ r ∈ rs, ∀ v ∈ r, NoU v) (h1c : ∀ r ∈ rs, ∀ v ∈ r, v.oneCell' = true)
  (h63 : n + m ≤ maxLen) (hbytes : (n + m) * bytes ≤ 140737488355328) (hbase : base ≤ w.heap.size) :
  ∃ p' c2 w', (Builtin.append_ #[t, t] ty #[.slice p n c, .slice sp m c']).run P w = .ok (.slice p' (n + m) c2) w' ∧ HOwn w' base e k p' (n + m) c2 (l ++ rs) ∧ w.grownBy w' (p.map (·.block)) ∧
   (p'.map (·.block) = p.map (·.block) ∨ p'.map (·.block) = some w.heap.size) := by
 subst hsize
 subst hby
 have hrl := hrd.len
 rcases Nat.eq_zero_or_pos m with rfl | hm
 ·have : rs = [] := List.eq_nil_of_length_eq_zero hrl
  subst this
  refine ⟨p, c, w, run_append_zero w t ty e i ht hi p sp n c c' hq.cap, by simpa using hq, ⟨rfl, rfl, rfl, Nat.le_refl _, fun _ _ _ => rfl⟩, .inl rfl⟩
 ·obtain ⟨b, o, rfl, _⟩ := hrd.at hk (i := 0) (by omega)
  have hnl : rs.flatten.length = m * i.size := by rw [flatten_lenH hrd.each, hrl]
  have hnews : ∀ j u, rs.flatten[j]? = some u → w.cell? ((⟨b, o, none⟩ : Addr).add j) = some u := fun j u hu => by
   rw [add_addr]
   exact hrd.flatH hk j u hu
  have h1 : ∀ u ∈ rs.flatten, u.oneCell' = true := fun u hu => by
   obtain ⟨r, hr, hv⟩ := List.mem_flatten.1 hu
   exact h1c r hr u hv
  have hn1 : ∀ u ∈ rs.flatten, NoU u := fun u hu => by
   obtain ⟨r, hr, hv⟩ := List.mem_flatten.1 hu
   exact hno r hr u hv
  have heach : ∀ r ∈ l ++ rs, r.length = i.size := fun r hr => (List.mem_append.1 hr).elim (hq.each r) (hrd.each r)
  have hll : (l ++ rs).length = n + m := by rw [List.length_append, hq.len, hrl]
  rcases hq.own with ⟨rfl, rfl⟩ | ⟨g, cur, rfl, hbg, hg, hcm, hcs, htake, hnoc⟩
  ·obtain rfl : n = 0 := by have := hq.cap; omega
   have : l = [] := List.eq_nil_of_length_eq_zero hq.len
   subst this
   have hr := run_append_nil (P := P) w t ty e i z ht hi hz ⟨b, o, none⟩ m c' rs.flatten hnl hnews hm (by unfold maxLen at h63; omega) (by have hb := hbytes; simp only [Nat.zero_add] at hb; omega)
   have hge := grownCap_ge w m 0 e
   have hcm := grownCap_le_maxLen w m 0 e (by omega)
   refine ⟨_, _, _, by rw [Nat.zero_add]; exact hr, ⟨by simpa using hll, heach, by omega, .inr ⟨w.heap.size, _, rfl, hbase, heap_alloc_new w.drew _, hcm, ?_, ?_, ?_⟩⟩, ⟨rfl, rfl, rfl, by simp, fun k' hk' _ => heap_alloc_old w.drew _ hk'⟩, .inr rfl⟩
   ·simp only [Array.size_append, List.size_toArray, size_zeroCells, hzs, hnl, ← Nat.add_mul]
    congr 1
    omega
   ·simp only [Nat.zero_add, Array.toList_append, List.nil_append]
    rw [← hnl]
    exact List.take_left
   ·intro v hv
    rcases Array.mem_append.1 hv with h | h
    ·exact hn1 v (by simpa using h)
    ·exact mem_madeH hzn _ v h
  ·by_cases hroom : n + m ≤ c
   ·have hfit : n * i.size + rs.flatten.length ≤ cur.size := by rw [hnl, hcs, ← Nat.add_mul]; exact Nat.mul_le_mul_right _ hroom
    have hr := run_append_room (P := P) w t ty e i ht hi g n c cur hg ⟨b, o, none⟩ m c' rs.flatten hnl hnews h1 hroom hfit
    refine ⟨_, _, _, hr, ⟨hll, heach, hroom, .inr ⟨g, _, rfl, hbg, setRow_heap w g cur _ e _ hg, hcm, ?_, ?_, ?_⟩⟩, ⟨rfl, rfl, rfl, by simp, fun k' _ hk' => setRow_other w g k' _ (fun e => hk' (by simp [e]))⟩, .inl rfl⟩
    ·simp only [List.size_toArray, List.length_append, List.length_take, List.length_drop, Array.length_toList]
     omega
    ·rw [htake, List.flatten_append]
     have hfl : (l.flatten ++ rs.flatten).length = (n + m) * i.size := by rw [List.length_append, hq.flat, hnl, Nat.add_mul]
     rw [← hfl]
     exact List.take_left
    ·intro v hv
     have hv' : v ∈ cur.toList.take (n * i.size) ++ rs.flatten ++ cur.toList.drop (n * i.size + rs.flatten.length) := by simpa using hv
     rcases List.mem_append.1 hv' with h | h
     ·rcases List.mem_append.1 h with h | h
      ·exact hnoc v (by simpa using List.mem_of_mem_take h)
      ·exact hn1 v h
     ·exact hnoc v (by simpa using List.mem_of_mem_drop h)
   ·have holds : ∀ j u, l.flatten[j]? = some u → w.cell? ((⟨g, 0, none⟩ : Addr).add j) = some u := fun j u hu => by
     rw [add_addr, Nat.zero_add]
     exact hq.cells rfl j u hu
    have hr := run_append_grow (P := P) w t ty e i z ht hi hz ⟨g, 0, none⟩ n c l.flatten hq.flat holds ⟨b, o, none⟩ m c' rs.flatten hnl hnews (by omega) (by unfold maxLen at h63; omega) (growslice_fits (by omega) hbytes)
    have hge := grownCap_ge w (n + m) c e
    have hcm2 := grownCap_le_maxLen w (n + m) c e h63
    refine ⟨_, _, _, hr, ⟨hll, heach, hge, .inr ⟨w.heap.size, _, rfl, hbase, heap_alloc_new w.drew _, hcm2, ?_, ?_, ?_⟩⟩, ⟨rfl, rfl, rfl, by simp, fun k' hk' _ => heap_alloc_old w.drew _ hk'⟩, .inr rfl⟩
    ·simp only [Array.size_append, List.size_toArray, size_zeroCells, hzs, hnl, hq.flat, ← Nat.add_mul]
     congr 1
     omega
    ·simp only [Array.toList_append, List.flatten_append]
     have hfl : (l.flatten ++ rs.flatten).length = (n + m) * i.size := by rw [List.length_append, hq.flat, hnl, Nat.add_mul]
     rw [← hfl]
     exact List.take_left
    ·intro v hv
     rcases Array.mem_append.1 hv with h | h
     ·rcases Array.mem_append.1 h with h | h
      ·have h' : v ∈ l.flatten := by simpa using h
       rw [← htake] at h'
       exact hnoc v (by simpa using List.mem_of_mem_take h')
      ·exact hn1 v (by simpa using h)
     ·exact mem_madeH hzn _ v h
variable {ops : Array Oper} {o : Oper} {a : Act}
theorem wlh_append {rest : List Oper} {Q : Exit → Act → World → Prop} (w : World) (hgd : o.guard = none) (s x : Operand) (t : TypeId)
  (ho : o.op = .call { callee := .builtin .append, args := #[s, x], argTypes := #[t, t] })
  (e : TypeId) (k : Nat) (z : Value) (bytes : Nat) (h1 : P.underlying t = some (.slice e)) (h2 : (P.info? e).map (fun i => (i.zero, i.size, i.bytes)) = some (some z, k, bytes)) (hz : z.cells.size = k) (hk : 0 < k) (hzn : ∀ v ∈ z.cells, NoU v)
  (base : Nat) (p : Option Addr) (n c : Nat) (l : List (List Value)) (hs : a.eval s = .slice p n c) (hq : HOwn w base e k p n c l)
  (sp : Option Addr) (m c' : Nat) (rs : List (List Value)) (hx : a.eval x = .slice sp m c') (hrd : SRd w k sp m c' rs) (hno : ∀ r ∈ rs, ∀ v ∈ r, NoU v) (h1c : ∀ r ∈ rs, ∀ v ∈ r, v.oneCell' = true)
  (b1 : n + m ≤ 9223372036854775807) (b2 : (n + m) * bytes ≤ 140737488355328) (hbase : base ≤ w.heap.size)
  (hK : ∀ p' c2 w', HOwn w' base e k p' (n + m) c2 (l ++ rs) → w.grownBy w' (p.map (·.block)) → (p'.map (·.block) = p.map (·.block) ∨ p'.map (·.block) = some w.heap.size) → wpList P ops Q rest (a.put o.dst (.slice p' (n + m) c2)) w') : wpList P ops Q (o :: rest) a w := by
 refine wpList_plain hgd fun K hK' => ?_
 obtain ⟨i, hi, hz0, hz1, hz2⟩ := info_parts h2
 obtain ⟨p', c2, w', hrun, hq', hg, hat⟩ := run_append_h (P := P) w t o.type e i z k bytes h1 hi hz0 hz1 hz2 hz hk hzn hq hrd hno h1c (by unfold maxLen; omega) b2 hbase
 have hfin := hK p' c2 w' hq' hg hat
 unfold Oper.wp
 simp [execOp, ho, resolve, invoke, builtin, hs, hx, hrun, Result.andThen]
 exact hK' _ _ hfin
end
end Nm
namespace Go.Proofs.YtjpkncgfpbhnaaaGreatDoor
open Go.RowKit _root_.Nm Lx
theorem infoTok : (Tryz.prog.info? 76).map (fun i => (i.zero, i.size, i.bytes)) = some (some (.agg #[.int .i64 0, .int .i64 0, .int .i64 0, .string ⟨#[]⟩]), 4, 40) := by kernel_rfl
theorem tokZ : (Value.agg #[.int .i64 0, .int .i64 0, .int .i64 0, .string ⟨#[]⟩]).cells.size = 4 := rfl
theorem four_pos : 0 < 4 := by decide
theorem one_srd4 (w : World) (e : TypeId) (x y z u : Value) (b : Nat) (hb : b = w.heap.size) : SRd (w.alloc (.cells #[x, y, z, u] e)) 4 (some ⟨b, 0, none⟩) 1 1 [[x, y, z, u]] := one_srd w e 4 [x, y, z, u] rfl b hb
theorem next_ok (s : ByteArray) (l : List UInt8) (hl : s.data.toList = l) (hmax : l.length ≤ 9223372036854775807) (i : Nat) (hi : i < l.length) (k j : Nat) (d : ByteArray) (he : (tokAt (l.drop i)).e = 0)
    (hk : k = (tokAt (l.drop i)).k) (hj : j = i + (tokAt (l.drop i)).n) (hd : d = ⟨((l.drop i).take (tokAt (l.drop i)).n).toArray⟩) (w : World) :
    Calls Tryz.prog 55 #[.string s, .int .i64 (i : Int)] w fun e w' => e = .returned (.tuple #[.agg #[.int .i64 (k : Int), .int .i64 (i : Int), .int .i64 (j : Int), .string d], .int .i64 0]) ∧ w.grownBy w' none := by
  refine (next_any s l hl hmax i hi w).mono ?_
  rintro e w' ⟨⟨a, b, c, dd, rfl, hr⟩, hg⟩
  have hr := hr he
  simp only [cells, List.cons.injEq, Value.int.injEq, true_and, Value.string.injEq, and_true] at hr
  obtain ⟨rfl, rfl, rfl, rfl⟩ := hr
  subst hk hj hd
  exact ⟨by rw [he]; rfl, hg⟩
theorem next_bad (s : ByteArray) (l : List UInt8) (hl : s.data.toList = l) (hmax : l.length ≤ 9223372036854775807) (i : Nat) (hi : i < l.length) (k : Nat) (hk : k = (tokAt (l.drop i)).e) (w : World) :
    Calls Tryz.prog 55 #[.string s, .int .i64 (i : Int)] w fun e w' => ∃ (a b c : Int) (d : ByteArray), e = .returned (.tuple #[.agg #[.int .i64 a, .int .i64 b, .int .i64 c, .string d], .int .i64 (k : Int)]) ∧ w.grownBy w' none := by
  subst hk
  refine (next_any s l hl hmax i hi w).mono ?_
  rintro e w' ⟨⟨a, b, c, dd, rfl, hr⟩, hg⟩
  exact ⟨a, b, c, dd, rfl, hg⟩
theorem skip_j (s : ByteArray) (l : List UInt8) (hl : s.data.toList = l) (hmax : l.length ≤ 9223372036854775807) (i : Nat) (hi : i ≤ l.length) (x : Int) (hx : x = (i : Int)) (q : Nat) (hq : q = i + sk false (l.drop i)) (w : World) :
    Calls Tryz.prog 54 #[.string s, .int .i64 x] w fun e w' => e = .returned (.int .i64 (q : Int)) ∧ w.grownBy w' none := by
  subst hx hq
  exact skip_any s l hl hmax i hi w
def AllP (l : List UInt8) (w : World) (e : Ending) (w' : World) : Prop :=
  ∃ (p : Option Addr) (n c : Nat), e = .returned (.tuple #[.slice p n c, .int .i64 ((lexAll l).2.1 : Nat), .int .i64 ((lexAll l).2.2 : Nat)]) ∧ SRd w' 4 p n c ((lexAll l).1.map (cells l)) ∧ w.grownBy w' none
theorem AllP.bad {l : List UInt8} {w w' : World} {a e : Nat} (h : lexAll l = ([], a, e)) (hg : w.grownBy w' none) : AllP l w (.returned (.tuple #[.slice none 0 0, .int .i64 (a : Int), .int .i64 (e : Int)])) w' :=
  ⟨none, 0, 0, by rw [h], by rw [h]; exact SRd.nil _ _, hg⟩
theorem AllP.ok {l : List UInt8} {w w' : World} {p : Option Addr} {n c : Nat} {ts : List (Nat × Nat × Nat)} (h : lexAll l = (ts, 0, 0)) (hr : SRd w' 4 p n c (ts.map (cells l))) (hg : w.grownBy w' none) : AllP l w (.returned (.tuple #[.slice p n c, .int .i64 0, .int .i64 0])) w' :=
  ⟨p, n, c, by rw [h]; rfl, by rw [h]; exact hr, hg⟩
theorem cells_one (l : List UInt8) (t : Nat × Nat × Nat) : ∀ u ∈ cells l t, u.oneCell' = true := by
  intro u hu
  simp only [cells, List.mem_cons, List.not_mem_nil, or_false] at hu
  rcases hu with rfl | rfl | rfl | rfl <;> rfl
set_option maxHeartbeats 8000000 in
set_option maxRecDepth 100000 in
theorem lexAll_any (s : ByteArray) (l : List UInt8) (hl : s.data.toList = l) (w : World) :
    Calls Tryz.prog 32 #[.string s] w (AllP l w) := by
  have hsz : s.size = l.length := by rw [Lib.size_eq, hl]
  by_cases hbig : 20000 < l.length
  · have HP := hid fun (w' : World) (hg : w.grownBy w' none) => AllP.bad (l := l) (a := 0) (e := 4) (if_pos hbig) hg
    have hb : (20000 : Int) < (l.length : Int) := by omega
    clear hl hbig
    go_enter Tryz.func32, Tryz.ntmps32
    go_wp2_with fail
    go_ret3
    exact HP.out _ (grown_refl _ _)
  have hmax : l.length ≤ 9223372036854775000 := by omega
  have hR : lexAll l = fin [] (lexW l (sk false l)) := if_neg hbig
  have hb : ¬ (20000 : Int) < (l.length : Int) := by omega
  have hskl := sk_le false l
  obtain ⟨i0, hi0⟩ : ∃ i0, i0 = sk false l := ⟨_, rfl⟩
  have HSK := hid fun w => skip_j s l hl (by omega) 0 (Nat.zero_le _) 0 rfl i0 (by rw [hi0]; simp) w
  rw [← hi0] at hR hskl
  have HR := hid hR
  have HL := hid hl
  clear hl hR hi0
  go_enter Tryz.func32, Tryz.ntmps32
  go_wp2_with (go_at_call 54; (with_reducible refine (HSK.out _).mono ?_); rintro e w0 ⟨rfl, hg0⟩)
  clear HSK
  go_loopw [2, 3] (fun x y wr => ∃ (i n c : Nat) (p : Option Addr) (acc : List (Nat × Nat × Nat)), x = .slice p n c ∧ y = .int .i64 i ∧ i ≤ l.length ∧ n ≤ i ∧ SOwn wr w.heap.size 76 4 p n c (acc.map (cells l)) ∧ w.grownBy wr none ∧ Hid (fin acc (lexW l i) = lexAll l)) (fun _ y _ => l.length - (intOf y).toNat)
  case atStart => exact ⟨i0, 0, 0, none, [], rfl, rfl, hskl, Nat.zero_le _, SOwn.nil _ _ _ _, hg0, hid HR.out.symm⟩
  case round =>
    clear HR hg0
    obtain ⟨i, n, c, p, acc, rfl, rfl, hi, hn, hO, hW, HC⟩ := hrel
    by_cases hlt : i < l.length
    · by_cases he : (tokAt (l.drop i)).e = 0
      · obtain ⟨d, hd⟩ : ∃ d, d = (⟨((l.drop i).take (tokAt (l.drop i)).n).toArray⟩ : ByteArray) := ⟨_, rfl⟩
        obtain ⟨k, hk⟩ : ∃ k, k = (tokAt (l.drop i)).k := ⟨_, rfl⟩
        obtain ⟨j, hj⟩ : ∃ j, j = i + (tokAt (l.drop i)).n := ⟨_, rfl⟩
        have hpos := tok_pos (l.drop i)
        have hlen := tok_len (l.drop i) (by intro e; have := congrArg List.length e; rw [List.length_drop] at this; simp at this; omega)
        rw [List.length_drop] at hlen
        have hjl : j ≤ l.length := by omega
        have hij : i < j := by omega
        have HNX := hid fun w => next_ok s l HL.out (by omega) i hlt k j d he hk hj hd w
        obtain ⟨q, hq⟩ : ∃ q, q = j + sk false (l.drop j) := ⟨_, rfl⟩
        have HSK := hid fun w => skip_j s l HL.out (by omega) j hjl (j : Int) rfl q hq w
        have hskl2 := sk_le false (l.drop j)
        rw [List.length_drop] at hskl2
        have hql : q ≤ l.length := by omega
        have hjq : j ≤ q := by omega
        have hrow : cells l (k, i, (tokAt (l.drop i)).n) = [.int .i64 (k : Nat), .int .i64 (i : Nat), .int .i64 (j : Nat), .string d] := by rw [hd, hj]; rfl
        have HF : Hid (fin (acc ++ [(k, i, (tokAt (l.drop i)).n)]) (lexW l q) = lexAll l ∧ (acc ++ [(k, i, (tokAt (l.drop i)).n)]).map (cells l) = acc.map (cells l) ++ [[.int .i64 (k : Nat), .int .i64 (i : Nat), .int .i64 (j : Nat), .string d]]) := hid ⟨by
          have h1 := HC.out
          rw [lexW_ok hlt he, fin_glue] at h1
          rw [hk, hq, hj]; exact h1, by rw [List.map_append, List.map_cons, List.map_nil, hrow]⟩
        have hone : ∀ u ∈ [Value.int .i64 (k : Nat), .int .i64 (i : Nat), .int .i64 (j : Nat), .string d], u.oneCell' = true := hrow ▸ cells_one l _
        have HONE := hid hone
        have HNE : Hid (∀ q, p = some q → q.block < wr.heap.size) := hid fun q hq => (hO.lt q hq).2
        clear HC he hd hk hj hpos hlen hq hskl2 hrow hone hskl
        go_wp2_with (first | (go_at_call 55; (with_reducible refine (HNX.out _).mono ?_); rintro e w1 ⟨rfl, hg1⟩; replace hO := hO.keep hg1; replace hW := grown_trans hW hg1; have hs1 := hg1.size; have hs2 := hW.size) | (with_reducible refine wls_append _ rfl (.tmp 26) (.tmp 28) 65 rfl 76 4 (.agg #[.int .i64 0, .int .i64 0, .int .i64 0, .string ⟨#[]⟩]) 40 Tryz.underlying65 infoTok tokZ four_pos w.heap.size _ _ _ (acc.map (cells l)) rfl ((hO.alloc _).alloc _) _ 1 [.int .i64 (k : Nat), .int .i64 (i : Nat), .int .i64 (j : Nat), .string d] rfl (one_srd4 _ _ _ _ _ _ _ (by simp)) HONE.out (by omega) (by omega) w (grown_trans (grown_trans hW (World.grownBy_alloc _ _ _)) (World.grownBy_alloc _ _ _)) (Nat.le_refl _) (by simp; omega) ?_; intro p' c2 w2 ho2 hg2 hbx; have bx := hbx _ _ (blk1 w1 _ _) (fun q hq => by have := HNE.out q hq; omega); obtain ⟨⟨k0, k1, k2, k3⟩, f0, f1, f2, f3⟩ := box4 bx; clear hbx bx) | (go_at_call 54; (with_reducible refine (HSK.out _).mono ?_); rintro e w3 ⟨rfl, hg3⟩))
        exact ⟨⟨q, n + 1, c2, p', acc ++ [(k, i, (tokAt (l.drop i)).n)], rfl, rfl, hql, by omega, (HF.out.2 ▸ ho2).keep hg3, grown_trans hg2 hg3, hid HF.out.1⟩, by simp [intOf]; omega⟩
      · have hne : ((tokAt (l.drop i)).e : Int) ≠ 0 := by omega
        obtain ⟨k, hk⟩ : ∃ k, k = (tokAt (l.drop i)).e := ⟨_, rfl⟩
        have HNX := hid fun w => next_bad s l HL.out (by omega) i hlt k hk w
        have HP : Hid (∀ w', w.grownBy w' none → AllP l w (.returned (.tuple #[.slice none 0 0, .int .i64 (i : Int), .int .i64 (k : Int)])) w') := hid fun w' hg => AllP.bad (by
          have h1 := HC.out
          rw [lexW_bad hlt he, fin_bad _ _ _ he, ← hk] at h1
          exact h1.symm) hg
        have hk0 : ((k : Int) != 0) = true := by
          have : ((k : Int) == 0) = false := by simpa using (by omega : ¬ (k : Int) = 0)
          simp [bne, this]
        clear HC he hk hne hskl
        go_wp2_with (go_at_call 55; (with_reducible refine (HNX.out _).mono ?_); rintro e w1 ⟨a, b, cc, d, rfl, hg1⟩; replace hW := grown_trans hW hg1; have hs1 := hg1.size; have hs2 := hW.size)
        go_ret3
        exact HP.out _ (grown_trans hW (World.grownBy_alloc _ _ _))
    · obtain rfl : i = l.length := by omega
      have HTK : Hid (∀ w, Calls Tryz.prog 56 #[.int .i64 0, .string s, .int .i64 (l.length : Int), .int .i64 (l.length : Int)] w fun e w' => e = .returned (.agg #[.int .i64 0, .int .i64 (l.length : Int), .int .i64 (l.length : Int), .string ⟨#[]⟩]) ∧ w.grownBy w' none) := hid fun w => token_any s l HL.out 0 l.length 0 (by omega) (l.length : Int) (by omega) w
      have HONE : Hid (∀ u ∈ [Value.int .i64 0, .int .i64 (l.length : Nat), .int .i64 (l.length : Nat), .string ⟨#[]⟩], u.oneCell' = true) := hid (cells_one l (0, l.length, 0))
      have HF : Hid (lexAll l = (acc ++ [(0, l.length, 0)], 0, 0)) := hid (by have := HC.out; rw [lexW_end (Nat.le_refl _), fin_end] at this; exact this.symm)
      have HF2 : Hid ((acc ++ [(0, l.length, 0)]).map (cells l) = acc.map (cells l) ++ [[.int .i64 0, .int .i64 (l.length : Nat), .int .i64 (l.length : Nat), .string ⟨#[]⟩]]) := hid (by rw [List.map_append, List.map_cons, List.map_nil]; rfl)
      clear HC hlt
      go_wp2_with (first | (go_at_call 56; (with_reducible refine (HTK.out _).mono ?_); rintro e w1 ⟨rfl, hg1⟩; replace hO := hO.keep hg1; replace hW := grown_trans hW hg1; have hs1 := hg1.size; have hs2 := hW.size) | (with_reducible refine wls_append _ rfl (.tmp 34) (.tmp 39) 65 rfl 76 4 (.agg #[.int .i64 0, .int .i64 0, .int .i64 0, .string ⟨#[]⟩]) 40 Tryz.underlying65 infoTok tokZ four_pos w.heap.size _ _ _ (acc.map (cells l)) rfl (hO.alloc _) _ 1 [.int .i64 0, .int .i64 (l.length : Nat), .int .i64 (l.length : Nat), .string ⟨#[]⟩] rfl (one_srd4 _ _ _ _ _ _ _ (by simp)) HONE.out (by omega) (by omega) w (grown_trans hW (World.grownBy_alloc _ _ _)) (Nat.le_refl _) (by simp; omega) ?_; intro p' c2 w2 ho2 hg2 hbx))
      go_ret3
      exact AllP.ok HF.out (HF2.out ▸ ho2.rd) hg2
theorem NxP.toOk {l : List UInt8} {i k j : Nat} {t : Tk} {d : ByteArray} {w w' : World} {e : Ending} (h : NxP l i t w e w') (he : t.e = 0) (hk : k = t.k) (hj : j = i + t.n) (hd : d = ⟨((l.drop i).take t.n).toArray⟩) :
  e = .returned (.tuple #[.agg #[.int .i64 (k : Int), .int .i64 (i : Int), .int .i64 (j : Int), .string d], .int .i64 0]) ∧ w.grownBy w' none := by
 obtain ⟨⟨a, b, c, dd, rfl, hr⟩, hg⟩ := h
 have hr := hr he
 simp only [cells, List.cons.injEq, Value.int.injEq, true_and, Value.string.injEq, and_true] at hr
 obtain ⟨rfl, rfl, rfl, rfl⟩ := hr
 subst hk hj hd
 exact ⟨by rw [he]; rfl, hg⟩
theorem NxP.toBad {l : List UInt8} {i k : Nat} {t : Tk} {w w' : World} {e : Ending} (h : NxP l i t w e w') (hk : k = t.e) :
  ∃ (a b c : Int) (d : ByteArray), e = .returned (.tuple #[.agg #[.int .i64 a, .int .i64 b, .int .i64 c, .string d], .int .i64 (k : Int)]) ∧ w.grownBy w' none := by
 subst hk
 obtain ⟨⟨a, b, c, dd, rfl, hr⟩, hg⟩ := h
 exact ⟨a, b, c, dd, rfl, hg⟩
theorem rword_any (s : ByteArray) (l : List UInt8) (hl : s.data.toList = l) (hmax : l.length ≤ 9223372036854775000) (i : Nat) (hi : i < l.length) (h : kd (l[i]).toNat = 3 ∨ kd (l[i]).toNat = 4) (w : World) :
  Calls Tryz.prog 63 #[.string s, .int .i64 (i : Int)] w (NxP l i (tokAt (l.drop i)) w) := by
 have hd : l.drop i = l[i] :: l.drop (i + 1) := List.drop_eq_getElem_cons hi
 rcases h with h | h
 ·have := wordL_any s l hl hmax i hi h w
  rw [show tokAt (l.drop i) = nameTk (span [3, 4] (l.drop i)) by rw [hd, tok_name h]]
  exact this
 ·have := wordD_any s l hl hmax i hi h w
  rw [show tokAt (l.drop i) = numTk (decide ((l[i]).toNat = 48)) (span [4] (l.drop i)) by rw [hd, tok_num h]]
  exact this
theorem rsign_any (s : ByteArray) (l : List UInt8) (hl : s.data.toList = l) (hmax : l.length ≤ 9223372036854775000) (i : Nat) (hi : i < l.length) (h3 : kd (l[i]).toNat ≠ 3) (h4 : kd (l[i]).toNat ≠ 4) (w : World) :
  Calls Tryz.prog 60 #[.string s, .int .i64 (i : Int)] w (NxP l i (tokAt (l.drop i)) w) := by
 have hd : l.drop i = l[i] :: l.drop (i + 1) := List.drop_eq_getElem_cons hi
 have := sign_any s l hl hmax i hi w
 rw [show tokAt (l.drop i) = sgn (l.drop i) by rw [hd, sgn_tok h3 h4]]
 exact this
theorem rskip_j (s : ByteArray) (l : List UInt8) (hl : s.data.toList = l) (hmax : l.length ≤ 9223372036854775807) (i : Nat) (hi : i ≤ l.length) (x : Int) (hx : x = (i : Int)) (q : Nat) (hq : q = i + sk false (l.drop i)) (w : World) :
  Calls Tryz.prog 59 #[.string s, .int .i64 x] w fun e w' => e = .returned (.int .i64 (q : Int)) ∧ w = w' := by
 subst hx hq
 exact rskip_any s l hl hmax i hi w
theorem SOwn.set4 {w : World} {base : Nat} {e : TypeId} {k : Nat} {a : Option Addr} {n c G : Nat} {l : List (List Value)} (h : SOwn w base e k a n c l) (hne : ∀ p, a = some p → p.block ≠ G) (A B C D : Value) :
  SOwn ((((w.setCell ⟨G, 0, none⟩ A).setCell ⟨G, 1, none⟩ B).setCell ⟨G, 2, none⟩ C).setCell ⟨G, 3, none⟩ D) base e k a n c l :=
 h.kept (set4_grown w G A B C D) (.inr fun p hp => by simpa using hne p hp)
set_option maxHeartbeats 16000000 in
set_option maxRecDepth 100000 in
theorem rAll_any (s : ByteArray) (l : List UInt8) (hl : s.data.toList = l) (w : World) :
  Calls Tryz.prog 34 #[.string s] w (AllP l w) := by
 have hsz : s.size = l.length := by rw [Lib.size_eq, hl]
 by_cases hbig : 20000 < l.length
 ·have HP := hid fun (w' : World) (hg : w.grownBy w' none) => AllP.bad (l := l) (a := 0) (e := 4) (if_pos hbig) hg
  have hb : (20000 : Int) < (l.length : Int) := by omega
  clear hl hbig
  go_enter Tryz.func34, Tryz.ntmps34
  go_wp2_with fail
  go_ret3
  exact HP.out _ (grown_refl _ _)
 have hmax : l.length ≤ 9223372036854775000 := by omega
 have hR : lexAll l = fin [] (lexW l (sk false l)) := if_neg hbig
 have hb : ¬ (20000 : Int) < (l.length : Int) := by omega
 have hskl := sk_le false l
 obtain ⟨i0, hi0⟩ : ∃ i0, i0 = sk false l := ⟨_, rfl⟩
 have HSK := hid fun w => rskip_j s l hl (by omega) 0 (Nat.zero_le _) 0 rfl i0 (by rw [hi0]; simp) w
 rw [← hi0] at hR hskl
 have HR := hid hR
 have HL := hid hl
 have HIX := hid (idx_at s l hl)
 clear hl hR hi0
 go_enter Tryz.func34, Tryz.ntmps34
 go_wp2_with (go_at_call 59; (with_reducible refine (HSK.out _).mono ?_); rintro e w0 ⟨rfl, rfl⟩)
 clear HSK
 go_loopw [2, 5] (fun x y wr => ∃ (i n c : Nat) (p : Option Addr) (acc : List (Nat × Nat × Nat)), x = .slice p n c ∧ y = .int .i64 i ∧ i ≤ l.length ∧ n ≤ i ∧ SOwn wr w.heap.size 76 4 p n c (acc.map (cells l)) ∧ w.grownBy wr none ∧ Hid (fin acc (lexW l i) = lexAll l)) (fun _ y _ => l.length - (intOf y).toNat)
 case atStart => exact ⟨i0, 0, 0, none, [], rfl, rfl, hskl, Nat.zero_le _, SOwn.nil _ _ _ _, grown_refl _ _, hid HR.out.symm⟩
 case round =>
  clear HR
  obtain ⟨i, n, c, p, acc, rfl, rfl, hi, hn, hO, hW, HC⟩ := hrel
  by_cases hlt : i < l.length
  ·have hix := HIX.out i hlt
   obtain ⟨m, hm⟩ : ∃ m, m = (l[i]).toNat := ⟨_, rfl⟩
   have h256 : m < 256 := by rw [hm]; exact u8_lt _
   rw [← hm] at hix
   have HM := hid hm
   by_cases he : (tokAt (l.drop i)).e = 0
   ·obtain ⟨d, hd⟩ : ∃ d, d = (⟨((l.drop i).take (tokAt (l.drop i)).n).toArray⟩ : ByteArray) := ⟨_, rfl⟩
    obtain ⟨k, hk⟩ : ∃ k, k = (tokAt (l.drop i)).k := ⟨_, rfl⟩
    obtain ⟨j, hj⟩ : ∃ j, j = i + (tokAt (l.drop i)).n := ⟨_, rfl⟩
    have hpos := tok_pos (l.drop i)
    have hlen := tok_len (l.drop i) (by intro e; have := congrArg List.length e; rw [List.length_drop] at this; simp at this; omega)
    rw [List.length_drop] at hlen
    have hjl : j ≤ l.length := by omega
    have hij : i < j := by omega
    have HOK := hid fun (w : World) (e : Ending) (w' : World) (h : NxP l i (tokAt (l.drop i)) w e w') => h.toOk he hk hj hd
    obtain ⟨q, hq⟩ : ∃ q, q = j + sk false (l.drop j) := ⟨_, rfl⟩
    have HSK := hid fun w => rskip_j s l HL.out (by omega) j hjl (j : Int) rfl q hq w
    have hskl2 := sk_le false (l.drop j)
    rw [List.length_drop] at hskl2
    have hql : q ≤ l.length := by omega
    have hjq : j ≤ q := by omega
    have hrow : cells l (k, i, (tokAt (l.drop i)).n) = [.int .i64 (k : Nat), .int .i64 (i : Nat), .int .i64 (j : Nat), .string d] := by rw [hd, hj]; rfl
    have HF : Hid (fin (acc ++ [(k, i, (tokAt (l.drop i)).n)]) (lexW l q) = lexAll l ∧ (acc ++ [(k, i, (tokAt (l.drop i)).n)]).map (cells l) = acc.map (cells l) ++ [[.int .i64 (k : Nat), .int .i64 (i : Nat), .int .i64 (j : Nat), .string d]]) := hid ⟨by
     have h1 := HC.out
     rw [lexW_ok hlt he, fin_glue] at h1
     rw [hk, hq, hj]; exact h1, by rw [List.map_append, List.map_cons, List.map_nil, hrow]⟩
    have hone : ∀ u ∈ [Value.int .i64 (k : Nat), .int .i64 (i : Nat), .int .i64 (j : Nat), .string d], u.oneCell' = true := hrow ▸ cells_one l _
    have HONE := hid hone
    have HNE : Hid (∀ q, p = some q → q.block < wr.heap.size) := hid fun q hq => (hO.lt q hq).2
    clear HC he hd hk hj hpos hlen hq hskl2 hrow hone hskl
    by_cases hB : kd m ≠ 3 ∧ kd m ≠ 4
    ·have HSG := hid fun w => rsign_any s l HL.out hmax i hlt (by rw [← HM.out]; exact hB.1) (by rw [← HM.out]; exact hB.2) w
     have HLT := hid fun w => letter_f (m := m) h256 hB.1 w
     have HDG := hid fun w => digit_f (m := m) h256 hB.2 w
     clear hm hB
     go_wp2_with (first | (go_at_call 60; (with_reducible refine (HSG.out _).mono ?_); rintro e w1 hN; obtain ⟨rfl, hg1⟩ := HOK.out _ _ _ hN; clear hN; replace hO := hO.keep hg1; replace hW := grown_trans hW hg1; have hs1 := hg1.size; have hs2 := hW.size) | (go_at_call 61; (with_reducible refine (HLT.out _).mono ?_); rintro e w' ⟨rfl, rfl⟩) | (go_at_call 62; (with_reducible refine (HDG.out _).mono ?_); rintro e w' ⟨rfl, rfl⟩) | (with_reducible refine wls_append _ rfl (.tmp 43) (.tmp 45) 65 rfl 76 4 (.agg #[.int .i64 0, .int .i64 0, .int .i64 0, .string ⟨#[]⟩]) 40 Tryz.underlying65 infoTok tokZ four_pos w.heap.size _ _ _ (acc.map (cells l)) rfl ((hO.alloc _).alloc _) _ 1 [.int .i64 (k : Nat), .int .i64 (i : Nat), .int .i64 (j : Nat), .string d] rfl (one_srd4 _ _ _ _ _ _ _ (by simp)) HONE.out (by omega) (by omega) w (grown_trans (grown_trans hW (World.grownBy_alloc _ _ _)) (World.grownBy_alloc _ _ _)) (Nat.le_refl _) (by simp; omega) ?_; intro p' c2 w2 ho2 hg2 hbx; have bx := hbx _ _ (blk1 w1 _ _) (fun q hq => by have := HNE.out q hq; omega); obtain ⟨⟨k0, k1, k2, k3⟩, f0, f1, f2, f3⟩ := box4 bx; clear hbx bx) | (go_at_call 59; (with_reducible refine (HSK.out _).mono ?_); rintro e w' ⟨rfl, rfl⟩))
     exact ⟨⟨q, n + 1, c2, p', acc ++ [(k, i, (tokAt (l.drop i)).n)], rfl, rfl, hql, by omega, HF.out.2 ▸ ho2, hg2, hid HF.out.1⟩, by simp [intOf]; omega⟩
    ·have hw : kd m = 3 ∨ kd m = 4 := by omega
     have HSG := hid fun w => sign_any s l HL.out hmax i hlt w
     have HWD := hid fun w => rword_any s l HL.out hmax i hlt (by rw [← HM.out]; exact hw) w
     clear hm hB
     by_cases h3 : kd m = 3
     ·have HLT := hid fun w => letter_t (m := m) h256 h3 w
      clear hw h3
      go_wp2_with (first | (go_at_call 60; (with_reducible refine (HSG.out _).mono ?_); rintro e w1 ⟨⟨a1, b1, c1, d1, rfl, hrow1⟩, hg1⟩; clear hrow1; replace hO := hO.keep hg1; replace hW := grown_trans hW hg1; have hs1 := hg1.size; have hs2 := hW.size) | (go_at_call 61; (with_reducible refine (HLT.out _).mono ?_); rintro e w' ⟨rfl, rfl⟩) | (go_at_call 63; (with_reducible refine (HWD.out _).mono ?_); rintro e w3 hN; obtain ⟨rfl, hg3⟩ := HOK.out _ _ _ hN; clear hN; have hbw := keepB (blk0 w1 _) hg3; have hs3 := hg3.size; simp at hs3; replace hO := (hO.alloc _).keep hg3; replace hW := grown_trans (grown_trans hW (World.grownBy_alloc _ _ _)) hg3; obtain ⟨⟨k0, k1, k2, k3⟩, f0, f1, f2, f3⟩ := box4 hbw) | (with_reducible refine wls_append _ rfl (.tmp 43) (.tmp 45) 65 rfl 76 4 (.agg #[.int .i64 0, .int .i64 0, .int .i64 0, .string ⟨#[]⟩]) 40 Tryz.underlying65 infoTok tokZ four_pos w.heap.size _ _ _ (acc.map (cells l)) rfl ((SOwn.set4 hO (fun q hq => by have := HNE.out q hq; omega) _ _ _ _).alloc _) _ 1 [.int .i64 (k : Nat), .int .i64 (i : Nat), .int .i64 (j : Nat), .string d] rfl (one_srd4 _ _ _ _ _ _ _ (by simp)) HONE.out (by omega) (by omega) w (grown_trans (set4_new hW _ _ _ _ _ (by omega)) (World.grownBy_alloc _ _ _)) (Nat.le_refl _) (by simp; omega) ?_; intro p' c2 w2 ho2 hg2 hbx; clear k0 k1 k2 k3 f0 f1 f2 f3; have bx := hbx _ _ (keepB (set4 hbw _ _ _ _) (World.grownBy_alloc _ _ _)) (fun q hq => by have := HNE.out q hq; omega); clear hbw; obtain ⟨⟨k0, k1, k2, k3⟩, f0, f1, f2, f3⟩ := box4 bx; clear hbx bx) | (go_at_call 59; (with_reducible refine (HSK.out _).mono ?_); rintro e w' ⟨rfl, rfl⟩))
      exact ⟨⟨q, n + 1, c2, p', acc ++ [(k, i, (tokAt (l.drop i)).n)], rfl, rfl, hql, by omega, HF.out.2 ▸ ho2, hg2, hid HF.out.1⟩, by simp [intOf]; omega⟩
     ·have HLT := hid fun w => letter_f (m := m) h256 h3 w
      have HDG := hid fun w => digit_t (m := m) h256 (by omega) w
      clear hw h3
      go_wp2_with (first | (go_at_call 60; (with_reducible refine (HSG.out _).mono ?_); rintro e w1 ⟨⟨a1, b1, c1, d1, rfl, hrow1⟩, hg1⟩; clear hrow1; replace hO := hO.keep hg1; replace hW := grown_trans hW hg1; have hs1 := hg1.size; have hs2 := hW.size) | (go_at_call 61; (with_reducible refine (HLT.out _).mono ?_); rintro e w' ⟨rfl, rfl⟩) | (go_at_call 62; (with_reducible refine (HDG.out _).mono ?_); rintro e w' ⟨rfl, rfl⟩) | (go_at_call 63; (with_reducible refine (HWD.out _).mono ?_); rintro e w3 hN; obtain ⟨rfl, hg3⟩ := HOK.out _ _ _ hN; clear hN; have hbw := keepB (blk0 w1 _) hg3; have hs3 := hg3.size; simp at hs3; replace hO := (hO.alloc _).keep hg3; replace hW := grown_trans (grown_trans hW (World.grownBy_alloc _ _ _)) hg3; obtain ⟨⟨k0, k1, k2, k3⟩, f0, f1, f2, f3⟩ := box4 hbw) | (with_reducible refine wls_append _ rfl (.tmp 43) (.tmp 45) 65 rfl 76 4 (.agg #[.int .i64 0, .int .i64 0, .int .i64 0, .string ⟨#[]⟩]) 40 Tryz.underlying65 infoTok tokZ four_pos w.heap.size _ _ _ (acc.map (cells l)) rfl ((SOwn.set4 hO (fun q hq => by have := HNE.out q hq; omega) _ _ _ _).alloc _) _ 1 [.int .i64 (k : Nat), .int .i64 (i : Nat), .int .i64 (j : Nat), .string d] rfl (one_srd4 _ _ _ _ _ _ _ (by simp)) HONE.out (by omega) (by omega) w (grown_trans (set4_new hW _ _ _ _ _ (by omega)) (World.grownBy_alloc _ _ _)) (Nat.le_refl _) (by simp; omega) ?_; intro p' c2 w2 ho2 hg2 hbx; clear k0 k1 k2 k3 f0 f1 f2 f3; have bx := hbx _ _ (keepB (set4 hbw _ _ _ _) (World.grownBy_alloc _ _ _)) (fun q hq => by have := HNE.out q hq; omega); clear hbw; obtain ⟨⟨k0, k1, k2, k3⟩, f0, f1, f2, f3⟩ := box4 bx; clear hbx bx) | (go_at_call 59; (with_reducible refine (HSK.out _).mono ?_); rintro e w' ⟨rfl, rfl⟩))
      exact ⟨⟨q, n + 1, c2, p', acc ++ [(k, i, (tokAt (l.drop i)).n)], rfl, rfl, hql, by omega, HF.out.2 ▸ ho2, hg2, hid HF.out.1⟩, by simp [intOf]; omega⟩
   ·obtain ⟨k, hk⟩ : ∃ k, k = (tokAt (l.drop i)).e := ⟨_, rfl⟩
    have HBAD := hid fun (w : World) (e : Ending) (w' : World) (h : NxP l i (tokAt (l.drop i)) w e w') => h.toBad hk
    have HP : Hid (∀ w', w.grownBy w' none → AllP l w (.returned (.tuple #[.slice none 0 0, .int .i64 (i : Int), .int .i64 (k : Int)])) w') := hid fun w' hg => AllP.bad (by
     have h1 := HC.out
     rw [lexW_bad hlt he, fin_bad _ _ _ he, ← hk] at h1
     exact h1.symm) hg
    have hk0 : ((k : Int) != 0) = true := by
     have : ((k : Int) == 0) = false := by simpa using (by omega : ¬ (k : Int) = 0)
     simp [bne, this]
    clear HC he hk hskl
    by_cases hB : kd m ≠ 3 ∧ kd m ≠ 4
    ·have HSG := hid fun w => rsign_any s l HL.out hmax i hlt (by rw [← HM.out]; exact hB.1) (by rw [← HM.out]; exact hB.2) w
     have HLT := hid fun w => letter_f (m := m) h256 hB.1 w
     have HDG := hid fun w => digit_f (m := m) h256 hB.2 w
     clear hm hB
     go_wp2_with (first | (go_at_call 60; (with_reducible refine (HSG.out _).mono ?_); rintro e w1 hN; obtain ⟨a1, b1, c1, d1, rfl, hg1⟩ := HBAD.out _ _ _ hN; clear hN; replace hW := grown_trans hW hg1; have hs1 := hg1.size; have hs2 := hW.size) | (go_at_call 61; (with_reducible refine (HLT.out _).mono ?_); rintro e w' ⟨rfl, rfl⟩) | (go_at_call 62; (with_reducible refine (HDG.out _).mono ?_); rintro e w' ⟨rfl, rfl⟩))
     go_ret3
     exact HP.out _ (grown_trans hW (World.grownBy_alloc _ _ _))
    ·have hw : kd m = 3 ∨ kd m = 4 := by omega
     have HSG := hid fun w => sign_any s l HL.out hmax i hlt w
     have HWD := hid fun w => rword_any s l HL.out hmax i hlt (by rw [← HM.out]; exact hw) w
     clear hm hB
     by_cases h3 : kd m = 3
     ·have HLT := hid fun w => letter_t (m := m) h256 h3 w
      clear hw h3
      go_wp2_with (first | (go_at_call 60; (with_reducible refine (HSG.out _).mono ?_); rintro e w1 ⟨⟨a1, b1, c1, d1, rfl, hrow1⟩, hg1⟩; clear hrow1; replace hO := hO.keep hg1; replace hW := grown_trans hW hg1; have hs1 := hg1.size; have hs2 := hW.size) | (go_at_call 61; (with_reducible refine (HLT.out _).mono ?_); rintro e w' ⟨rfl, rfl⟩) | (go_at_call 63; (with_reducible refine (HWD.out _).mono ?_); rintro e w3 hN; obtain ⟨a2, b2, c2, d2, rfl, hg3⟩ := HBAD.out _ _ _ hN; clear hN; have hbw := keepB (blk0 w1 _) hg3; have hs3 := hg3.size; simp at hs3; replace hW := grown_trans (grown_trans hW (World.grownBy_alloc _ _ _)) hg3; obtain ⟨⟨k0, k1, k2, k3⟩, f0, f1, f2, f3⟩ := box4 hbw))
      go_ret3
      exact HP.out _ (set4_new hW _ _ _ _ _ (by omega))
     ·have HLT := hid fun w => letter_f (m := m) h256 h3 w
      have HDG := hid fun w => digit_t (m := m) h256 (by omega) w
      clear hw h3
      go_wp2_with (first | (go_at_call 60; (with_reducible refine (HSG.out _).mono ?_); rintro e w1 ⟨⟨a1, b1, c1, d1, rfl, hrow1⟩, hg1⟩; clear hrow1; replace hO := hO.keep hg1; replace hW := grown_trans hW hg1; have hs1 := hg1.size; have hs2 := hW.size) | (go_at_call 61; (with_reducible refine (HLT.out _).mono ?_); rintro e w' ⟨rfl, rfl⟩) | (go_at_call 62; (with_reducible refine (HDG.out _).mono ?_); rintro e w' ⟨rfl, rfl⟩) | (go_at_call 63; (with_reducible refine (HWD.out _).mono ?_); rintro e w3 hN; obtain ⟨a2, b2, c2, d2, rfl, hg3⟩ := HBAD.out _ _ _ hN; clear hN; have hbw := keepB (blk0 w1 _) hg3; have hs3 := hg3.size; simp at hs3; replace hW := grown_trans (grown_trans hW (World.grownBy_alloc _ _ _)) hg3; obtain ⟨⟨k0, k1, k2, k3⟩, f0, f1, f2, f3⟩ := box4 hbw))
      go_ret3
      exact HP.out _ (set4_new hW _ _ _ _ _ (by omega))
  ·obtain rfl : i = l.length := by omega
   have HONE : Hid (∀ u ∈ [Value.int .i64 0, .int .i64 (l.length : Nat), .int .i64 (l.length : Nat), .string ⟨#[]⟩], u.oneCell' = true) := hid (cells_one l (0, l.length, 0))
   have HF : Hid (lexAll l = (acc ++ [(0, l.length, 0)], 0, 0)) := hid (by have := HC.out; rw [lexW_end (Nat.le_refl _), fin_end] at this; exact this.symm)
   have HF2 : Hid ((acc ++ [(0, l.length, 0)]).map (cells l) = acc.map (cells l) ++ [[.int .i64 0, .int .i64 (l.length : Nat), .int .i64 (l.length : Nat), .string ⟨#[]⟩]]) := hid (by rw [List.map_append, List.map_cons, List.map_nil]; rfl)
   have hs2 := hW.size
   clear HC hlt
   go_wp2_with (first | (with_reducible refine wls_append _ rfl (.tmp 51) (.tmp 57) 65 rfl 76 4 (.agg #[.int .i64 0, .int .i64 0, .int .i64 0, .string ⟨#[]⟩]) 40 Tryz.underlying65 infoTok tokZ four_pos w.heap.size _ _ _ (acc.map (cells l)) rfl (hO.alloc _) _ 1 [.int .i64 0, .int .i64 (l.length : Nat), .int .i64 (l.length : Nat), .string ⟨#[]⟩] rfl (one_srd4 _ _ _ _ _ _ _ (by simp)) HONE.out (by omega) (by omega) w (grown_trans hW (World.grownBy_alloc _ _ _)) (Nat.le_refl _) (by simp; omega) ?_; intro p' c2 w2 ho2 hg2 hbx))
   go_ret3
   exact AllP.ok HF.out (HF2.out ▸ ho2.rd) hg2
end Go.Proofs.YtjpkncgfpbhnaaaGreatDoor
