/-
  Memory: rows of numbers that a call owns, slices of numbers that it reads, and the laws of make, copy and append on them. No program is mentioned here.
-/
import Derived.WalkKit
import Derived.Laws.CopyOwn
import Derived.Laws.AppendOwnNone
import Derived.BigQuiet
import Derived.Deep.QuietTactic
import Derived.Deep.LoopGhost
import Derived.Outline
set_option linter.unusedVariables false
set_option linter.unusedSimpArgs false
namespace Nm
open Go Go.RowKit

theorem hid {p : Prop} (h : p) : Hid p := h
theorem ret_eq {a b : Value} (h : a = b) : Ending.returned a = .returned b := by rw [h]

/-- a number of kind k as a value -/
abbrev iv (k : IntKind) (n : Nat) : Value := .int k (n : Int)

/-- block g of w is an unfrozen row of numbers of kind k, of the element type e -/
def IRow (w : World) (g : Nat) (e : TypeId) (k : IntKind) (xs : List Nat) : Prop :=
  w.heap[g]? = some (.cells (xs.map (iv k)).toArray e (0, 0))

section
variable {w w' : World} {g : Nat} {e : TypeId} {k : IntKind} {xs : List Nat}
theorem IRow.lt (h : IRow w g e k xs) : g < w.heap.size := lt_of_block h
theorem IRow.cell (h : IRow w g e k xs) (j : Nat) (hj : j < xs.length) : w.cell? ⟨g, j, none⟩ = some (.int k (xs[j] : Nat)) := by
  rw [cell_of_row w g j _ _ _ h]; simp [hj]
theorem IRow.free (h : IRow w g e k xs) (j : Nat) : w.frozen? ⟨g, j, none⟩ = false := frozen_of_row w g j _ _ h
theorem IRow.set (h : IRow w g e k xs) (j : Nat) (y : Nat) : IRow (w.setCell ⟨g, j, none⟩ (.int k y)) g e k (xs.set j y) := by
  unfold IRow at h ⊢
  rw [heap_setCell_same w g j _ _ _ h]
  simp
theorem IRow.setv (h : IRow w g e k xs) (j : Nat) (v : Int) (y : Nat) (hv : v = (y : Int)) : IRow (w.setCell ⟨g, j, none⟩ (.int k v)) g e k (xs.set j y) := by
  subst hv; exact h.set j y
theorem IRow.kept (h : IRow w g e k xs) {row : Option Nat} (hg : w.grownBy w' row) (hne : some g ≠ row) : IRow w' g e k xs :=
  (hg.block g h.lt hne).trans h
theorem IRow.made (w : World) (e : TypeId) (k : IntKind) (xs : List Nat) : IRow (w.alloc (.cells (xs.map (iv k)).toArray e)) w.heap.size e k xs := heap_alloc_new w _
theorem IRow.drew (h : IRow w g e k xs) : IRow w.drew g e k xs := h
end

theorem grown_refl (w : World) (row : Option Nat) : w.grownBy w row := ⟨rfl, rfl, rfl, Nat.le_refl _, fun _ _ _ => rfl⟩
theorem grown_setCell (w : World) (p : Addr) (u : Value) : w.grownBy (w.setCell p u) (some p.block) :=
  ⟨rfl, rfl, rfl, by simp, fun k _ hne => heap_setCell_other w p k u (fun e => hne (by rw [e]))⟩
theorem grown_drew (w : World) (row : Option Nat) : w.grownBy w.drew row := ⟨rfl, rfl, rfl, Nat.le_refl _, fun _ _ _ => rfl⟩
theorem grown_trans {a b c : World} {row : Option Nat} (h : a.grownBy b row) (k : b.grownBy c row) : a.grownBy c row :=
  ⟨k.os.trans h.os, k.tape.trans h.tape, k.output.trans h.output, Nat.le_trans h.size k.size, fun i hi hne => (k.block i (Nat.lt_of_lt_of_le hi h.size) hne).trans (h.block i hi hne)⟩
theorem grown_drewN (w : World) (n : Nat) (row : Option Nat) : w.grownBy (w.drewN n) row := ⟨rfl, rfl, rfl, Nat.le_refl _, fun _ _ _ => rfl⟩
theorem gdN {a w : World} {row : Option Nat} (h : a.grownBy w row) (n : Nat) : a.grownBy (w.drewN n) row := ⟨h.os, h.tape, h.output, h.size, h.block⟩
/-- a call that leaves the world alone is quiet, before and after other draws -/
theorem quiet_same {P : Program} {f : FuncId} {args : Array Value} {w : World} {n : Nat} {v : Value}
    (h : Calls P f args (w.drewN n) fun e w' => e = .returned v ∧ w.drewN n = w') : Calls P f args (w.drewN n) fun e w'' => e = .returned v ∧ ∃ m, w'' = w.drewN m :=
  h.mono fun _ _ ⟨he, hw⟩ => ⟨he, n, hw.symm⟩
theorem quiet_more {P : Program} {f : FuncId} {args : Array Value} {w : World} {a n : Nat} {v : Value}
    (h : Calls P f args (w.drewN (a + n)) fun e w' => e = .returned v ∧ w.drewN (a + n) = w') :
    Calls P f args (w.drewN (a + n)) fun e w'' => e = .returned v ∧ ∃ m, w'' = w.drewN (a + m) :=
  h.mono fun _ _ ⟨he, hw⟩ => ⟨he, n, hw.symm⟩
/-- a block that was made since may be written -/
theorem grown_new {a b c : World} {row : Option Nat} (h : a.grownBy b none) (k : b.grownBy c row) (hg : ∀ g, row = some g → a.heap.size ≤ g) : a.grownBy c none :=
  ⟨k.os.trans h.os, k.tape.trans h.tape, k.output.trans h.output, Nat.le_trans h.size k.size, fun i hi _ => (k.block i (Nat.lt_of_lt_of_le hi h.size) (by intro e; have := hg i e.symm; omega)).trans (h.block i hi (by simp))⟩
theorem grown_any {a b : World} (h : a.grownBy b none) (row : Option Nat) : a.grownBy b row :=
  ⟨h.os, h.tape, h.output, h.size, fun i hi _ => h.block i hi (by simp)⟩
theorem below_grown {a b : World} (h : Below a.heap.size a b) : a.grownBy b none := ⟨h.os, h.tape, h.output, h.size, fun i hi _ => h.block i hi⟩
theorem grown_below {a b : World} (h : a.grownBy b none) : Below a.heap.size a b := ⟨h.os, h.tape, h.output, h.size, fun i hi => h.block i hi (by simp)⟩

/-- the address a is the head of cells that read as xs -/
def Cel (w : World) (k : IntKind) (a : Option Addr) (xs : List Nat) : Prop :=
  ∀ j (h : j < xs.length), ∃ b o, a = some ⟨b, o, none⟩ ∧ w.cell? ⟨b, o + j, none⟩ = some (.int k (xs[j] : Nat))

/-- .slice a n c is a slice of numbers of kind k that reads as xs -/
structure IRd (w : World) (k : IntKind) (a : Option Addr) (n c : Nat) (xs : List Nat) : Prop where
  len : xs.length = n
  cap : n ≤ c
  max : c ≤ 9223372036854775807
  cel : Cel w k a xs

section
variable {w w' : World} {k : IntKind} {a : Option Addr} {n c : Nat} {xs : List Nat}
theorem IRd.kept (h : IRd w k a n c xs) {row : Option Nat} (hg : w.grownBy w' row) (hne : row = none ∨ ∀ p, a = some p → some p.block ≠ row) : IRd w' k a n c xs := by
  refine ⟨h.len, h.cap, h.max, fun j hj => ?_⟩
  obtain ⟨b, o, rfl, hc⟩ := h.cel j hj
  refine ⟨b, o, rfl, hg.cell hc ?_⟩
  rcases hne with rfl | hne
  · simp
  · exact hne ⟨b, o, none⟩ rfl
theorem IRd.keep (h : IRd w k a n c xs) (hg : w.grownBy w' none) : IRd w' k a n c xs := h.kept hg (.inl rfl)
theorem IRd.drew (h : IRd w k a n c xs) : IRd w.drew k a n c xs := ⟨h.len, h.cap, h.max, h.cel⟩
theorem IRd.nil (w : World) (k : IntKind) : IRd w k none 0 0 [] := ⟨rfl, Nat.le_refl _, by omega, fun j h => by simp at h⟩
theorem IRd.block (h : IRd w k a n c xs) (hn : 0 < n) : ∃ b o, a = some ⟨b, o, none⟩ ∧ b < w.heap.size ∧ ∀ j (h : j < xs.length), w.cell? ⟨b, o + j, none⟩ = some (.int k (xs[j] : Nat)) := by
  obtain ⟨b, o, rfl, hc⟩ := h.cel 0 (by rw [h.len]; exact hn)
  refine ⟨b, o, rfl, World.block_lt_of_cell? _ _ hc, fun j hj => ?_⟩
  obtain ⟨b', o', e, hc'⟩ := h.cel j hj
  cases e; exact hc'
/-- the first m cells -/
theorem IRd.take (h : IRd w k a n c xs) (m : Nat) (hm : m ≤ n) : IRd w k a m c (xs.take m) := by
  refine ⟨by rw [List.length_take, h.len]; omega, Nat.le_trans hm h.cap, h.max, fun j hj => ?_⟩
  have hj' : j < xs.length := by rw [List.length_take] at hj; omega
  obtain ⟨b, o, e, hc⟩ := h.cel j hj'
  exact ⟨b, o, e, by rw [hc]; simp⟩
/-- cells lo to hi -/
theorem IRd.sub (h : IRd w k a n c xs) (lo hi c' : Nat) (h1 : lo ≤ hi) (h2 : hi ≤ n) (hc' : hi - lo ≤ c') (hm : c' ≤ 9223372036854775807) (a' : Option Addr) (ha : lo < hi → a' = a.map (·.add lo)) :
    IRd w k a' (hi - lo) c' ((xs.drop lo).take (hi - lo)) := by
  refine ⟨by rw [List.length_take, List.length_drop, h.len]; omega, hc', hm, fun j hj => ?_⟩
  rw [List.length_take, List.length_drop, h.len] at hj
  obtain ⟨b, o, e, hc⟩ := h.cel (lo + j) (by rw [h.len]; omega)
  have ha' := ha (by omega)
  subst e
  refine ⟨b, o + lo, ?_, ?_⟩
  · rw [ha']; simp only [Option.map_some, Option.some.injEq]; unfold Addr.add; split
    · rename_i h0; subst h0; rfl
    · rfl
  · rw [show o + lo + j = o + (lo + j) by omega, hc]; simp
end

theorem add_addr (b o j : Nat) : (⟨b, o, none⟩ : Addr).add j = ⟨b, o + j, none⟩ := by unfold Addr.add; split <;> simp_all
theorem IRd.cut {w : World} {k : IntKind} {b o n c : Nat} {xs : List Nat} (h : IRd w k (some ⟨b, o, none⟩) n c xs) (lo hi c' : Nat) (h1 : lo ≤ hi) (h2 : hi ≤ n) (hc' : hi - lo ≤ c') (hm : c' ≤ 9223372036854775807) :
    IRd w k (some ⟨b, o + lo, none⟩) (hi - lo) c' ((xs.drop lo).take (hi - lo)) :=
  h.sub lo hi c' h1 h2 hc' hm _ fun _ => by rw [Option.map_some, add_addr]

/-- a row of one's own reads as its content, from any place on -/
theorem IRow.rd {w : World} {g : Nat} {e : TypeId} {k : IntKind} {xs : List Nat} (h : IRow w g e k xs) (o n c : Nat) (hn : o + n ≤ xs.length) (hc : n ≤ c) (hm : c ≤ 9223372036854775807) :
    IRd w k (some ⟨g, o, none⟩) n c ((xs.drop o).take n) := by
  have hl : ((xs.drop o).take n).length = n := by simp; omega
  refine ⟨hl, hc, hm, fun j hj => ⟨g, o, rfl, ?_⟩⟩
  rw [hl] at hj
  rw [h.cell (o + j) (by omega)]
  simp
theorem IRow.rd0 {w : World} {g : Nat} {e : TypeId} {k : IntKind} {xs : List Nat} (h : IRow w g e k xs) (hm : xs.length ≤ 9223372036854775807) :
    IRd w k (some ⟨g, 0, none⟩) xs.length xs.length xs := by
  have := h.rd 0 xs.length xs.length (by omega) (Nat.le_refl _) hm
  simpa using this

/-! ### make, copy, append on rows of numbers -/
section
variable {P : Program} {ops : Array Oper} {rest : List Oper} {o : Oper} {a : Act} {Q : Exit → Act → World → Prop}

theorem wl_make (w : World) (hg : o.guard = none) (l c : Operand) (t : TypeId) (hop : o.op = Op.makeSlice t l c)
    (e : TypeId) (k : IntKind) (bytes : Nat) (h1 : P.underlying t = some (.slice e)) (h2 : (P.info? e).map (fun i => (i.zero, i.size, i.bytes)) = some (some (.int k 0), 1, bytes))
    (kl kc : IntKind) (L C : Int) (hl : a.eval l = .int kl L) (hc : a.eval c = .int kc C) (n : Nat) (hL : L = (n : Int)) (hC : C = (n : Int)) (b2 : bytes * n ≤ 281474976710656) (b3 : n ≤ 9223372036854775807)
    (hK : ∀ w', IRow w' w.heap.size e k (List.replicate n 0) → w.grownBy w' none → wpList P ops Q rest (a.put o.dst (.slice (some ⟨w.heap.size, 0, none⟩) n n)) w') :
    wpList P ops Q (o :: rest) a w := by
  obtain ⟨i, hi, hz0, hz1, hz2⟩ := info_parts h2
  subst hz2
  refine wpList_make_full w hg l c t hop w.heap.size e i (.int k 0) 1 h1 hi hz0 hz1 kl kc L C n hl hc hL hC b2 (by unfold maxLen; omega) (Nat.le_refl _) fun w' ho hgr => hK w' ?_ hgr
  obtain ⟨_, h | ⟨g, cap, cur, hv, _, hh, _, _, hs, ht⟩⟩ := ho
  · simp at h
  · simp only [Value.slice.injEq, Option.some.injEq, Addr.mk.injEq, and_true, true_and] at hv
    obtain ⟨rfl, rfl⟩ := hv
    unfold IRow
    rw [hh]
    have e1 : cur.toList = List.replicate n (.int k 0) := by
      rw [Nat.mul_one] at hs ht
      rw [List.take_of_length_le (by simp [hs])] at ht
      rw [ht]; exact toList_madeCells_one _ _
    have e2 : cur = (List.replicate n (Value.int k 0)).toArray := by rw [← e1]
    rw [e2]; simp

theorem wl_copy (w : World) (hgd : o.guard = none) (d s : Operand) (dT sT : TypeId)
    (ho : o.op = .call { callee := .builtin .copy, args := #[d, s], argTypes := #[dT, sT] }) (e : TypeId) (hu : P.underlying dT = some (.slice e)) (hsz : (P.info? e).map (·.size) = some 1)
    (k : IntKind) (dp sp : Option Addr) (dLen dCap sLen sCap : Nat) (hd : a.eval d = .slice dp dLen dCap) (hs : a.eval s = .slice sp sLen sCap)
    (g off : Nat) (t : TypeId) (cur xs : List Nat) (hg : IRow w g t k cur) (hdp : 0 < dLen → dp = some ⟨g, off, none⟩) (hx : IRd w k sp sLen sCap xs) (hfit : off + dLen ≤ cur.length)
    (h : ∀ w', IRow w' g t k (splice cur off (xs.take dLen)) → w.grownBy w' (some g) → wpList P ops Q rest (a.put o.dst (.int .i64 ((min sLen dLen : Nat) : Int))) w') :
    wpList P ops Q (o :: rest) a w := by
  have hlen : ((xs.take dLen).map (iv k)).length = Nat.min sLen dLen := by
    rw [List.length_map, List.length_take, hx.len, Nat.min_comm]
  by_cases h0 : Nat.min sLen dLen = 0
  · refine wpList_copy_nothing hgd d s dT sT ho e hu hsz dp sp dLen dCap sLen sCap hd hs h0 ?_
    have hm : min sLen dLen = 0 := h0
    have := h w ?_ (grown_refl _ _)
    · rw [hm] at this; exact this
    · have e1 : xs.take dLen = [] := List.eq_nil_of_length_eq_zero (by rw [List.length_take, hx.len, Nat.min_comm]; exact h0)
      rw [e1]; simpa [splice] using hg
  · have hd0 : 0 < dLen := by
      rcases Nat.eq_zero_or_pos dLen with h1 | h1
      · subst h1; exact absurd (Nat.min_zero _) h0
      · exact h1
    have hs0 : 0 < sLen := by
      rcases Nat.eq_zero_or_pos sLen with h1 | h1
      · subst h1; exact absurd (Nat.zero_min _) h0
      · exact h1
    obtain rfl := hdp hd0
    obtain ⟨b, o', rfl, _, hc⟩ := hx.block hs0
    have hcl : ((xs.take dLen).map (iv k)).length ≤ dLen := by simp; omega
    refine wpList_copy_own hgd d s dT sT ho e hu hsz g off dLen dCap ⟨b, o', none⟩ sLen sCap hd hs (cur.map (iv k)).toArray t hg ((xs.take dLen).map (iv k)) hlen ?_ (by simp at hcl ⊢; omega) ?_ ?_
    · intro j v hv
      obtain ⟨hj, rfl⟩ := List.getElem?_eq_some_iff.1 hv
      have hj' : j < xs.length := by simp at hj; omega
      have hadd : (⟨b, o', none⟩ : Addr).add j = ⟨b, o' + j, none⟩ := by unfold Addr.add; split <;> simp_all
      rw [hadd, hc j hj']; simp
    · intro v hv
      obtain ⟨n, _, rfl⟩ := List.mem_map.1 hv
      rfl
    · rw [hlen]
      refine h _ ?_ ⟨rfl, rfl, rfl, by simp [World.setRow], fun i _ hne => setRow_other w g i _ (fun e => hne (by rw [e]))⟩
      unfold IRow
      rw [setRow_heap w g _ _ t _ hg]
      congr 2
      have := hx.len
      have e : sLen.min dLen = min sLen dLen := rfl
      simp [splice, e]; omega

theorem wl_shr (w : World) (hg : o.guard = none) (T T2 : TypeId) (px py : Operand) (hop : o.op = .binOp .shr T px py T2)
    (k yk : IntKind) (x c : Nat) (Y : Int) (hx : a.eval px = .int k x) (hy : a.eval py = .int yk Y) (hY : Y = (c : Int)) (hc : c ≤ k.bits)
    (hK : ∀ z : Nat, Hid (z = x / 2 ^ c) → z ≤ x → wpList P ops Q rest (a.put o.dst (.int k z)) w) : wpList P ops Q (o :: rest) a w := by
  refine wpList_plain hg fun K hK' => ?_
  subst hY
  have e : ((x : Int) / 2 ^ min ((c : Int).toNat) k.bits) = ((x / 2 ^ c : Nat) : Int) := by
    rw [Int.toNat_natCast, Nat.min_eq_left hc]; simp
  have e2 := hK _ (hid rfl) (Nat.div_le_self x (2 ^ c))
  rw [← e] at e2
  unfold Oper.wp
  simp only [execOp, hop, hx, hy, binOp, shift_shr_any _ _ _ _ (Int.natCast_nonneg c)]
  simp
  exact hK' _ _ (by simpa using e2)

theorem wl_shl (w : World) (hg : o.guard = none) (T T2 : TypeId) (px py : Operand) (hop : o.op = .binOp .shl T px py T2)
    (k yk : IntKind) (x c : Nat) (Y : Int) (hx : a.eval px = .int k x) (hy : a.eval py = .int yk Y) (hY : Y = (c : Int)) (hc : c ≤ k.bits)
    (hw : k.wrap ((x * 2 ^ c : Nat) : Int) = ((x * 2 ^ c % 2 ^ k.bits : Nat) : Int))
    (hK : ∀ z : Nat, Hid (z = x * 2 ^ c % 2 ^ k.bits) → z < 2 ^ k.bits → wpList P ops Q rest (a.put o.dst (.int k z)) w) : wpList P ops Q (o :: rest) a w := by
  refine wpList_plain hg fun K hK' => ?_
  subst hY
  have e : k.wrap ((x : Int) * 2 ^ min ((c : Int).toNat) k.bits) = ((x * 2 ^ c % 2 ^ k.bits : Nat) : Int) := by
    rw [Int.toNat_natCast, Nat.min_eq_left hc, ← hw]; simp
  have e2 := hK _ (hid rfl) (Nat.mod_lt _ (Nat.pow_pos (by omega)))
  rw [← e] at e2
  unfold Oper.wp
  simp only [execOp, hop, hx, hy, binOp, shift_shl_any _ _ _ _ (Int.natCast_nonneg c)]
  simp
  exact hK' _ _ (by simpa using e2)
end
end Nm
