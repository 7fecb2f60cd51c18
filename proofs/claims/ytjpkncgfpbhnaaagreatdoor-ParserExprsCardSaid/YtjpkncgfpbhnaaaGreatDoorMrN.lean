/-
  Mem Own Dig Bits Lens Arith DivA Div64 GcdA GcdW Words Unpack Pack Cmp Add Sub Mul RefA RefB Forms DivS Val RefAdd RefSub RefMul SubP ShW Digit DivW DivB Divide DivN RefDiv, in one text.
-/
import Derived.WalkKit
import Derived.Laws.CopyOwn
import Derived.Laws.AppendOwnNone
import Derived.BigQuiet
import Derived.Deep.QuietTactic
import Derived.Deep.LoopGhost
import Derived.Outline
import Derived.Test.YtjpkncgfpbhnaaaGreatDoorProg
import Derived.Lib.Mul64
import Derived.Lib.BitFns
import Derived.Laws.Bits64b
import Derived.Laws.Externs
import Derived.Lib.Tables
import Derived.Lib.ItoaNum
import Derived.Deep.CutBlock
import Derived.Deep.DeepCutAuto
import Derived.Lib.TrailingZeros
import Derived.Deep.RegionWith
import Derived.RegionTactic
import Derived.ChangeAlike
set_option linter.unusedVariables false
set_option linter.unusedSimpArgs false
set_option maxRecDepth 100000
namespace Nm
open Go Go.RowKit
theorem hid {p : Prop} (h : p) : Hid p := h
theorem ret_eq {a b : Value} (h : a = b) : Ending.returned a = .returned b := by rw [h]
abbrev iv (k : IntKind) (n : Nat) : Value := .int k (n : Int)
def IRow (w : World) (g : Nat) (e : TypeId) (k : IntKind) (xs : List Nat) : Prop :=
  w.heap[g]? = some (.cells (xs.map (iv k)).toArray e (0, 0))
section
variable {w w' : World} {g : Nat} {e : TypeId} {k : IntKind} {xs : List Nat}
theorem IRow.lt (h : IRow w g e k xs) : g < w.heap.size := lt_of_block h
theorem IRow.cell (h : IRow w g e k xs) (j : Nat) (hj : j < xs.length) : w.cell? ⟨g, j, none⟩ = some (.int k (xs[j] : Nat)) := by
  rw [cell_of_row w g j _ _ _ h]; simp [hj]
theorem IRow.free (h : IRow w g e k xs) (j : Nat) : w.frozen? ⟨g, j, none⟩ = false := frozen_of_row w g j _ _ h
theorem IRow.set (h : IRow w g e k xs) (j : Nat) (y : Nat) : IRow (w.setCell ⟨g, j, none⟩ (.int k y)) g e k (xs.set j y) := by
  unfold IRow at h ⊢
  rw [heap_setCell_same w g j _ _ _ h]
  simp
theorem IRow.setv (h : IRow w g e k xs) (j : Nat) (v : Int) (y : Nat) (hv : v = (y : Int)) : IRow (w.setCell ⟨g, j, none⟩ (.int k v)) g e k (xs.set j y) := by
  subst hv; exact h.set j y
theorem IRow.kept (h : IRow w g e k xs) {row : Option Nat} (hg : w.grownBy w' row) (hne : some g ≠ row) : IRow w' g e k xs :=
  (hg.block g h.lt hne).trans h
theorem IRow.made (w : World) (e : TypeId) (k : IntKind) (xs : List Nat) : IRow (w.alloc (.cells (xs.map (iv k)).toArray e)) w.heap.size e k xs := heap_alloc_new w _
theorem IRow.drew (h : IRow w g e k xs) : IRow w.drew g e k xs := h
end
theorem grown_refl (w : World) (row : Option Nat) : w.grownBy w row := ⟨rfl, rfl, rfl, Nat.le_refl _, fun _ _ _ => rfl⟩
theorem grown_setCell (w : World) (p : Addr) (u : Value) : w.grownBy (w.setCell p u) (some p.block) :=
  ⟨rfl, rfl, rfl, by simp, fun k _ hne => heap_setCell_other w p k u (fun e => hne (by rw [e]))⟩
theorem grown_drew (w : World) (row : Option Nat) : w.grownBy w.drew row := ⟨rfl, rfl, rfl, Nat.le_refl _, fun _ _ _ => rfl⟩
theorem grown_trans {a b c : World} {row : Option Nat} (h : a.grownBy b row) (k : b.grownBy c row) : a.grownBy c row :=
  ⟨k.os.trans h.os, k.tape.trans h.tape, k.output.trans h.output, Nat.le_trans h.size k.size, fun i hi hne => (k.block i (Nat.lt_of_lt_of_le hi h.size) hne).trans (h.block i hi hne)⟩
theorem grown_drewN (w : World) (n : Nat) (row : Option Nat) : w.grownBy (w.drewN n) row := ⟨rfl, rfl, rfl, Nat.le_refl _, fun _ _ _ => rfl⟩
theorem gdN {a w : World} {row : Option Nat} (h : a.grownBy w row) (n : Nat) : a.grownBy (w.drewN n) row := ⟨h.os, h.tape, h.output, h.size, h.block⟩
theorem quiet_same {P : Program} {f : FuncId} {args : Array Value} {w : World} {n : Nat} {v : Value}
    (h : Calls P f args (w.drewN n) fun e w' => e = .returned v ∧ w.drewN n = w') : Calls P f args (w.drewN n) fun e w'' => e = .returned v ∧ ∃ m, w'' = w.drewN m :=
  h.mono fun _ _ ⟨he, hw⟩ => ⟨he, n, hw.symm⟩
theorem quiet_more {P : Program} {f : FuncId} {args : Array Value} {w : World} {a n : Nat} {v : Value}
    (h : Calls P f args (w.drewN (a + n)) fun e w' => e = .returned v ∧ w.drewN (a + n) = w') :
    Calls P f args (w.drewN (a + n)) fun e w'' => e = .returned v ∧ ∃ m, w'' = w.drewN (a + m) :=
  h.mono fun _ _ ⟨he, hw⟩ => ⟨he, n, hw.symm⟩
theorem grown_new {a b c : World} {row : Option Nat} (h : a.grownBy b none) (k : b.grownBy c row) (hg : ∀ g, row = some g → a.heap.size ≤ g) : a.grownBy c none :=
  ⟨k.os.trans h.os, k.tape.trans h.tape, k.output.trans h.output, Nat.le_trans h.size k.size, fun i hi _ => (k.block i (Nat.lt_of_lt_of_le hi h.size) (by intro e; have := hg i e.symm; omega)).trans (h.block i hi (by simp))⟩
theorem grown_any {a b : World} (h : a.grownBy b none) (row : Option Nat) : a.grownBy b row :=
  ⟨h.os, h.tape, h.output, h.size, fun i hi _ => h.block i hi (by simp)⟩
theorem below_grown {a b : World} (h : Below a.heap.size a b) : a.grownBy b none := ⟨h.os, h.tape, h.output, h.size, fun i hi _ => h.block i hi⟩
theorem grown_below {a b : World} (h : a.grownBy b none) : Below a.heap.size a b := ⟨h.os, h.tape, h.output, h.size, fun i hi => h.block i hi (by simp)⟩
def Cel (w : World) (k : IntKind) (a : Option Addr) (xs : List Nat) : Prop :=
  ∀ j (h : j < xs.length), ∃ b o, a = some ⟨b, o, none⟩ ∧ w.cell? ⟨b, o + j, none⟩ = some (.int k (xs[j] : Nat))
structure IRd (w : World) (k : IntKind) (a : Option Addr) (n c : Nat) (xs : List Nat) : Prop where
  len : xs.length = n
  cap : n ≤ c
  max : c ≤ 9223372036854775807
  cel : Cel w k a xs
section
variable {w w' : World} {k : IntKind} {a : Option Addr} {n c : Nat} {xs : List Nat}
theorem IRd.kept (h : IRd w k a n c xs) {row : Option Nat} (hg : w.grownBy w' row) (hne : row = none ∨ ∀ p, a = some p → some p.block ≠ row) : IRd w' k a n c xs := by
  refine ⟨h.len, h.cap, h.max, fun j hj => ?_⟩
  obtain ⟨b, o, rfl, hc⟩ := h.cel j hj
  refine ⟨b, o, rfl, hg.cell hc ?_⟩
  rcases hne with rfl | hne
  · simp
  · exact hne ⟨b, o, none⟩ rfl
theorem IRd.keep (h : IRd w k a n c xs) (hg : w.grownBy w' none) : IRd w' k a n c xs := h.kept hg (.inl rfl)
theorem IRd.drew (h : IRd w k a n c xs) : IRd w.drew k a n c xs := ⟨h.len, h.cap, h.max, h.cel⟩
theorem IRd.nil (w : World) (k : IntKind) : IRd w k none 0 0 [] := ⟨rfl, Nat.le_refl _, by omega, fun j h => by simp at h⟩
theorem IRd.block (h : IRd w k a n c xs) (hn : 0 < n) : ∃ b o, a = some ⟨b, o, none⟩ ∧ b < w.heap.size ∧ ∀ j (h : j < xs.length), w.cell? ⟨b, o + j, none⟩ = some (.int k (xs[j] : Nat)) := by
  obtain ⟨b, o, rfl, hc⟩ := h.cel 0 (by rw [h.len]; exact hn)
  refine ⟨b, o, rfl, World.block_lt_of_cell? _ _ hc, fun j hj => ?_⟩
  obtain ⟨b', o', e, hc'⟩ := h.cel j hj
  cases e; exact hc'
theorem IRd.take (h : IRd w k a n c xs) (m : Nat) (hm : m ≤ n) : IRd w k a m c (xs.take m) := by
  refine ⟨by rw [List.length_take, h.len]; omega, Nat.le_trans hm h.cap, h.max, fun j hj => ?_⟩
  have hj' : j < xs.length := by rw [List.length_take] at hj; omega
  obtain ⟨b, o, e, hc⟩ := h.cel j hj'
  exact ⟨b, o, e, by rw [hc]; simp⟩
theorem IRd.sub (h : IRd w k a n c xs) (lo hi c' : Nat) (h1 : lo ≤ hi) (h2 : hi ≤ n) (hc' : hi - lo ≤ c') (hm : c' ≤ 9223372036854775807) (a' : Option Addr) (ha : lo < hi → a' = a.map (·.add lo)) :
    IRd w k a' (hi - lo) c' ((xs.drop lo).take (hi - lo)) := by
  refine ⟨by rw [List.length_take, List.length_drop, h.len]; omega, hc', hm, fun j hj => ?_⟩
  rw [List.length_take, List.length_drop, h.len] at hj
  obtain ⟨b, o, e, hc⟩ := h.cel (lo + j) (by rw [h.len]; omega)
  have ha' := ha (by omega)
  subst e
  refine ⟨b, o + lo, ?_, ?_⟩
  · rw [ha']; simp only [Option.map_some, Option.some.injEq]; unfold Addr.add; split
    · rename_i h0; subst h0; rfl
    · rfl
  · rw [show o + lo + j = o + (lo + j) by omega, hc]; simp
end
theorem add_addr (b o j : Nat) : (⟨b, o, none⟩ : Addr).add j = ⟨b, o + j, none⟩ := by unfold Addr.add; split <;> simp_all
theorem IRd.cut {w : World} {k : IntKind} {b o n c : Nat} {xs : List Nat} (h : IRd w k (some ⟨b, o, none⟩) n c xs) (lo hi c' : Nat) (h1 : lo ≤ hi) (h2 : hi ≤ n) (hc' : hi - lo ≤ c') (hm : c' ≤ 9223372036854775807) :
    IRd w k (some ⟨b, o + lo, none⟩) (hi - lo) c' ((xs.drop lo).take (hi - lo)) :=
  h.sub lo hi c' h1 h2 hc' hm _ fun _ => by rw [Option.map_some, add_addr]
theorem IRow.rd {w : World} {g : Nat} {e : TypeId} {k : IntKind} {xs : List Nat} (h : IRow w g e k xs) (o n c : Nat) (hn : o + n ≤ xs.length) (hc : n ≤ c) (hm : c ≤ 9223372036854775807) :
    IRd w k (some ⟨g, o, none⟩) n c ((xs.drop o).take n) := by
  have hl : ((xs.drop o).take n).length = n := by simp; omega
  refine ⟨hl, hc, hm, fun j hj => ⟨g, o, rfl, ?_⟩⟩
  rw [hl] at hj
  rw [h.cell (o + j) (by omega)]
  simp
theorem IRow.rd0 {w : World} {g : Nat} {e : TypeId} {k : IntKind} {xs : List Nat} (h : IRow w g e k xs) (hm : xs.length ≤ 9223372036854775807) :
    IRd w k (some ⟨g, 0, none⟩) xs.length xs.length xs := by
  have := h.rd 0 xs.length xs.length (by omega) (Nat.le_refl _) hm
  simpa using this
/-! ### make, copy, append on rows of numbers -/
section
variable {P : Program} {ops : Array Oper} {rest : List Oper} {o : Oper} {a : Act} {Q : Exit → Act → World → Prop}
theorem wl_make (w : World) (hg : o.guard = none) (l c : Operand) (t : TypeId) (hop : o.op = Op.makeSlice t l c)
    (e : TypeId) (k : IntKind) (bytes : Nat) (h1 : P.underlying t = some (.slice e)) (h2 : (P.info? e).map (fun i => (i.zero, i.size, i.bytes)) = some (some (.int k 0), 1, bytes))
    (kl kc : IntKind) (L C : Int) (hl : a.eval l = .int kl L) (hc : a.eval c = .int kc C) (n : Nat) (hL : L = (n : Int)) (hC : C = (n : Int)) (b2 : bytes * n ≤ 281474976710656) (b3 : n ≤ 9223372036854775807)
    (hK : ∀ w', IRow w' w.heap.size e k (List.replicate n 0) → w.grownBy w' none → wpList P ops Q rest (a.put o.dst (.slice (some ⟨w.heap.size, 0, none⟩) n n)) w') :
    wpList P ops Q (o :: rest) a w := by
  obtain ⟨i, hi, hz0, hz1, hz2⟩ := info_parts h2
  subst hz2
  refine wpList_make_full w hg l c t hop w.heap.size e i (.int k 0) 1 h1 hi hz0 hz1 kl kc L C n hl hc hL hC b2 (by unfold maxLen; omega) (Nat.le_refl _) fun w' ho hgr => hK w' ?_ hgr
  obtain ⟨_, h | ⟨g, cap, cur, hv, _, hh, _, _, hs, ht⟩⟩ := ho
  · simp at h
  · simp only [Value.slice.injEq, Option.some.injEq, Addr.mk.injEq, and_true, true_and] at hv
    obtain ⟨rfl, rfl⟩ := hv
    unfold IRow
    rw [hh]
    have e1 : cur.toList = List.replicate n (.int k 0) := by
      rw [Nat.mul_one] at hs ht
      rw [List.take_of_length_le (by simp [hs])] at ht
      rw [ht]; exact toList_madeCells_one _ _
    have e2 : cur = (List.replicate n (Value.int k 0)).toArray := by rw [← e1]
    rw [e2]; simp
theorem wl_copy (w : World) (hgd : o.guard = none) (d s : Operand) (dT sT : TypeId)
    (ho : o.op = .call { callee := .builtin .copy, args := #[d, s], argTypes := #[dT, sT] }) (e : TypeId) (hu : P.underlying dT = some (.slice e)) (hsz : (P.info? e).map (·.size) = some 1)
    (k : IntKind) (dp sp : Option Addr) (dLen dCap sLen sCap : Nat) (hd : a.eval d = .slice dp dLen dCap) (hs : a.eval s = .slice sp sLen sCap)
    (g off : Nat) (t : TypeId) (cur xs : List Nat) (hg : IRow w g t k cur) (hdp : 0 < dLen → dp = some ⟨g, off, none⟩) (hx : IRd w k sp sLen sCap xs) (hfit : off + dLen ≤ cur.length)
    (h : ∀ w', IRow w' g t k (splice cur off (xs.take dLen)) → w.grownBy w' (some g) → wpList P ops Q rest (a.put o.dst (.int .i64 ((min sLen dLen : Nat) : Int))) w') :
    wpList P ops Q (o :: rest) a w := by
  have hlen : ((xs.take dLen).map (iv k)).length = Nat.min sLen dLen := by
    rw [List.length_map, List.length_take, hx.len, Nat.min_comm]
  by_cases h0 : Nat.min sLen dLen = 0
  · refine wpList_copy_nothing hgd d s dT sT ho e hu hsz dp sp dLen dCap sLen sCap hd hs h0 ?_
    have hm : min sLen dLen = 0 := h0
    have := h w ?_ (grown_refl _ _)
    · rw [hm] at this; exact this
    · have e1 : xs.take dLen = [] := List.eq_nil_of_length_eq_zero (by rw [List.length_take, hx.len, Nat.min_comm]; exact h0)
      rw [e1]; simpa [splice] using hg
  · have hd0 : 0 < dLen := by
      rcases Nat.eq_zero_or_pos dLen with h1 | h1
      · subst h1; exact absurd (Nat.min_zero _) h0
      · exact h1
    have hs0 : 0 < sLen := by
      rcases Nat.eq_zero_or_pos sLen with h1 | h1
      · subst h1; exact absurd (Nat.zero_min _) h0
      · exact h1
    obtain rfl := hdp hd0
    obtain ⟨b, o', rfl, _, hc⟩ := hx.block hs0
    have hcl : ((xs.take dLen).map (iv k)).length ≤ dLen := by simp; omega
    refine wpList_copy_own hgd d s dT sT ho e hu hsz g off dLen dCap ⟨b, o', none⟩ sLen sCap hd hs (cur.map (iv k)).toArray t hg ((xs.take dLen).map (iv k)) hlen ?_ (by simp at hcl ⊢; omega) ?_ ?_
    · intro j v hv
      obtain ⟨hj, rfl⟩ := List.getElem?_eq_some_iff.1 hv
      have hj' : j < xs.length := by simp at hj; omega
      have hadd : (⟨b, o', none⟩ : Addr).add j = ⟨b, o' + j, none⟩ := by unfold Addr.add; split <;> simp_all
      rw [hadd, hc j hj']; simp
    · intro v hv
      obtain ⟨n, _, rfl⟩ := List.mem_map.1 hv
      rfl
    · rw [hlen]
      refine h _ ?_ ⟨rfl, rfl, rfl, by simp [World.setRow], fun i _ hne => setRow_other w g i _ (fun e => hne (by rw [e]))⟩
      unfold IRow
      rw [setRow_heap w g _ _ t _ hg]
      congr 2
      have := hx.len
      have e : sLen.min dLen = min sLen dLen := rfl
      simp [splice, e]; omega
theorem wl_shr (w : World) (hg : o.guard = none) (T T2 : TypeId) (px py : Operand) (hop : o.op = .binOp .shr T px py T2)
    (k yk : IntKind) (x c : Nat) (Y : Int) (hx : a.eval px = .int k x) (hy : a.eval py = .int yk Y) (hY : Y = (c : Int)) (hc : c ≤ k.bits)
    (hK : ∀ z : Nat, Hid (z = x / 2 ^ c) → z ≤ x → wpList P ops Q rest (a.put o.dst (.int k z)) w) : wpList P ops Q (o :: rest) a w := by
  refine wpList_plain hg fun K hK' => ?_
  subst hY
  have e : ((x : Int) / 2 ^ min ((c : Int).toNat) k.bits) = ((x / 2 ^ c : Nat) : Int) := by
    rw [Int.toNat_natCast, Nat.min_eq_left hc]; simp
  have e2 := hK _ (hid rfl) (Nat.div_le_self x (2 ^ c))
  rw [← e] at e2
  unfold Oper.wp
  simp only [execOp, hop, hx, hy, binOp, shift_shr_any _ _ _ _ (Int.natCast_nonneg c)]
  simp
  exact hK' _ _ (by simpa using e2)
end
def IOwn (w : World) (base : Nat) (e : TypeId) (k : IntKind) (a : Option Addr) (n c : Nat) (xs : List Nat) : Prop :=
  xs.length = n ∧ w.ownsRow base e 1 (.slice a n c) n (xs.map (iv k))
section
variable {w w' : World} {base : Nat} {e : TypeId} {k : IntKind} {a : Option Addr} {n c : Nat} {xs : List Nat}
theorem IOwn.nil (w : World) (base : Nat) (e : TypeId) (k : IntKind) : IOwn w base e k none 0 0 [] := ⟨rfl, World.ownsRow_nil w base e 1⟩
theorem IOwn.rd (h : IOwn w base e k a n c xs) : IRd w k a n c xs := by
  obtain ⟨hl, h1, h2 | ⟨g, cap, cur, hv, hb, hg, hn, hm, hs, ht⟩⟩ := h
  · obtain ⟨hv, rfl⟩ := h2
    simp only [Value.slice.injEq, true_and] at hv
    obtain ⟨rfl, rfl⟩ := hv
    obtain rfl : xs = [] := List.eq_nil_of_length_eq_zero hl
    exact IRd.nil w k
  · simp only [Value.slice.injEq, true_and] at hv
    obtain ⟨rfl, rfl⟩ := hv
    refine ⟨hl, hn, by unfold maxLen at hm; omega, fun j hj => ⟨g, 0, rfl, ?_⟩⟩
    have h3 := World.ownsRow.cells (w := w) (base := base) (e := e) (size := 1) (v := .slice (some ⟨g, 0, none⟩) n c) (n := n) (xs := xs.map (iv k)) ⟨h1, .inr ⟨g, c, cur, rfl, hb, hg, hn, hm, hs, ht⟩⟩ (g := g) rfl j (iv k xs[j]) (by simp [hj])
    rw [add_addr] at h3
    exact h3
theorem IOwn.lt (h : IOwn w base e k a n c xs) : ∀ p, a = some p → base ≤ p.block ∧ p.block < w.heap.size := fun p hp => by
  subst hp
  exact h.2.lt p.block rfl
theorem IOwn.kept (h : IOwn w base e k a n c xs) {row : Option Nat} (hg : w.grownBy w' row) (hne : row = none ∨ ∀ p, a = some p → some p.block ≠ row) : IOwn w' base e k a n c xs := by
  refine ⟨h.1, h.2.kept hg ?_⟩
  cases a with
  | none => exact .inl rfl
  | some p =>
    rcases hne with rfl | hne
    · exact .inr (by simp [Value.ownBlock])
    · exact .inr (hne p rfl)
theorem IOwn.alloc (h : IOwn w base e k a n c xs) (o : Obj) : IOwn (w.alloc o) base e k a n c xs := ⟨h.1, h.2.alloc o⟩
theorem IOwn.made (w : World) (base : Nat) (e : TypeId) (k : IntKind) (xs : List Nat) (hb : base ≤ w.heap.size) (hm : xs.length ≤ 9223372036854775807) :
    IOwn (w.alloc (.cells (xs.map (iv k)).toArray e)) base e k (some ⟨w.heap.size, 0, none⟩) xs.length xs.length xs :=
  ⟨rfl, by simpa using World.ownsRow_lit (base := base) (e := e) (size := 1) w (xs.map (iv k)).toArray xs.length hb (by unfold maxLen; omega) (by simp)⟩
end
theorem one_rd (w : World) (e : TypeId) (k : IntKind) (v : Int) (y : Nat) (hv : v = (y : Int)) : IRd (w.alloc (.cells #[.int k v] e)) k (some ⟨w.heap.size, 0, none⟩) 1 1 [y] := by
  subst hv
  exact (IRow.made w e k [y]).rd0 (by simp)
theorem run_append_zero {P : Program} (w : World) (t ty e : TypeId) (i : TypeInfo) (ht : P.underlying t = some (.slice e)) (hi : P.info? e = some i) (p sp : Option Addr) (n c c' : Nat) (hle : n ≤ c) :
    (Builtin.append_ #[t, t] ty #[.slice p n c, .slice sp 0 c']).run P w = .ok (.slice p n c) w := by
  cases p <;> cases sp <;> simp [Builtin.append_, run_underlying ht, Go.sizeOf, typeInfo, hi, Builtin.lenOf, Builtin.firstCells, storeCells, hle, loadCells, loadCellsFrom]
section
variable {P : Program} {ops : Array Oper} {rest : List Oper} {o : Oper} {a : Act} {Q : Exit → Act → World → Prop}
theorem wl_append (w : World) (hgd : o.guard = none) (s x : Operand) (t : TypeId)
    (ho : o.op = .call { callee := .builtin .append, args := #[s, x], argTypes := #[t, t] })
    (e : TypeId) (k : IntKind) (bytes : Nat) (h1 : P.underlying t = some (.slice e)) (h2 : (P.info? e).map (fun i => (i.zero, i.size, i.bytes)) = some (some (.int k 0), 1, bytes))
    (base : Nat) (p : Option Addr) (n c : Nat) (xs : List Nat) (hs : a.eval s = .slice p n c) (hown : IOwn w base e k p n c xs)
    (sp : Option Addr) (m c' : Nat) (ys : List Nat) (hx : a.eval x = .slice sp m c') (hrd : IRd w k sp m c' ys)
    (b1 : n + m ≤ 9223372036854775807) (b2 : (n + m) * bytes ≤ 140737488355328) (w0 : World) (hg0 : w0.grownBy w none) (hb0 : w0.heap.size ≤ base) (hbase : base ≤ w.heap.size)
    (hK : ∀ p' c2 w', IOwn w' base e k p' (n + m) c2 (xs ++ ys) → w0.grownBy w' none → wpList P ops Q rest (a.put o.dst (.slice p' (n + m) c2)) w') : wpList P ops Q (o :: rest) a w := by
  obtain ⟨i, hi, hz0, hz1, hz2⟩ := info_parts h2
  subst hz2
  rcases Nat.eq_zero_or_pos m with hm0 | hpos
  rotate_left
  · obtain ⟨b, o', rfl, _, hc⟩ := hrd.block hpos
    refine wpList_append_own w hgd s x t ho base e i (.int k 0) 1 i.bytes h1 hi hz0 hz1 rfl (by rfl) (by decide) _ n (xs.map (iv k)) hs hown.2 ⟨b, o', none⟩ m c' (ys.map (iv k)) hx (by simp [hrd.len]) ?_ ?_ (by unfold maxLen; omega) b2 hbase ?_
    · intro j u hu
      obtain ⟨hj, rfl⟩ := List.getElem?_eq_some_iff.1 hu
      have hj' : j < ys.length := by simpa using hj
      rw [add_addr, hc j hj']; simp
    · intro u hu
      obtain ⟨z, _, rfl⟩ := List.mem_map.1 hu
      rfl
    · intro v' w' hown' hgr _
      obtain ⟨hl, h3⟩ := hown'
      have hv' : ∃ p' c2, v' = .slice p' (n + m) c2 := by
        rcases h3 with ⟨rfl, h4⟩ | ⟨g, cap, cur, rfl, _⟩
        · exact ⟨none, 0, by rw [h4]⟩
        · exact ⟨_, _, rfl⟩
      obtain ⟨p', c2, rfl⟩ := hv'
      refine hK p' c2 w' ⟨by rw [List.length_append, hown.1, hrd.len], by simpa using ⟨hl, h3⟩⟩ (grown_new hg0 hgr fun g hg => ?_)
      cases p with
      | none => simp [Value.ownBlock] at hg
      | some q =>
        simp [Value.ownBlock] at hg
        have := (hown.lt q rfl).1
        omega
  · subst hm0
    have hm : ys = [] := List.eq_nil_of_length_eq_zero hrd.len
    subst hm
    refine wpList_plain hgd fun K hK' => ?_
    have hrun := run_append_zero (P := P) w t o.type e i h1 hi p sp n c c' hown.rd.cap
    unfold Oper.wp
    simp [execOp, ho, resolve, invoke, builtin, hs, hx, hrun]
    have := hK p c w (by simpa using hown) hg0
    exact hK' _ _ (by simpa using this)
end
end Nm
namespace Nm
def V (B : Nat) : List Nat → Nat
  | [] => 0
  | x :: xs => x + B * V B xs
variable {B : Nat}
@[simp] theorem V_nil : V B [] = 0 := rfl
@[simp] theorem V_cons (x : Nat) (xs : List Nat) : V B (x :: xs) = x + B * V B xs := rfl
theorem V_append (xs ys : List Nat) : V B (xs ++ ys) = V B xs + B ^ xs.length * V B ys := by
  induction xs with
  | nil => simp
  | cons x xs ih => simp [ih, Nat.pow_succ, Nat.mul_add, Nat.add_assoc, Nat.mul_assoc, Nat.mul_comm]
theorem V_zeros (n : Nat) : V B (List.replicate n 0) = 0 := by
  induction n with
  | zero => rfl
  | succ n ih => simp [List.replicate_succ, ih]
theorem V_lt {xs : List Nat} (h : ∀ x ∈ xs, x < B) : V B xs < B ^ xs.length := by
  induction xs with
  | nil => simp
  | cons x xs ih =>
    have h1 : x < B := h x (by simp)
    have h2 := ih (fun y hy => h y (by simp [hy]))
    have h3 : V B xs + 1 ≤ B ^ xs.length := h2
    have h4 := Nat.mul_le_mul_left B h3
    simp only [V_cons, List.length_cons, Nat.pow_succ]
    rw [Nat.mul_add, Nat.mul_one] at h4
    rw [Nat.mul_comm (B ^ xs.length) B]
    omega
theorem V_set (xs : List Nat) (i y : Nat) (h : i < xs.length) : V B (xs.set i y) + B ^ i * xs[i] = V B xs + B ^ i * y := by
  induction xs generalizing i with
  | nil => simp at h
  | cons x xs ih =>
    cases i with
    | zero => simp; omega
    | succ i =>
      have h' : i < xs.length := by simpa using h
      have := ih i h'
      have e := congrArg (B * ·) this
      simp only [Nat.mul_add] at e
      simp only [List.set_cons_succ, V_cons, List.getElem_cons_succ, Nat.pow_succ]
      rw [Nat.mul_comm (B ^ i) B, Nat.mul_assoc, Nat.mul_assoc]
      omega
theorem V_take_succ (xs : List Nat) (i : Nat) (h : i < xs.length) : V B (xs.take (i + 1)) = V B (xs.take i) + B ^ i * xs[i] := by
  rw [List.take_succ_eq_append_getElem h, V_append]
  simp [List.length_take, Nat.min_eq_left (Nat.le_of_lt h)]
theorem V_drop_succ (xs : List Nat) (i : Nat) (h : i < xs.length) : V B (xs.drop i) = xs[i] + B * V B (xs.drop (i + 1)) := by
  rw [List.drop_eq_getElem_cons h]; rfl
theorem V_take_drop (xs : List Nat) (i : Nat) (h : i ≤ xs.length) : V B xs = V B (xs.take i) + B ^ i * V B (xs.drop i) := by
  have := V_append (B := B) (xs.take i) (xs.drop i)
  rw [List.take_append_drop, List.length_take, Nat.min_eq_left h] at this
  exact this
def Dg (B : Nat) (xs : List Nat) : Prop := ∀ x ∈ xs, x < B
theorem Dg.nil : Dg B [] := fun _ h => by simp at h
theorem Dg.get {xs : List Nat} (h : Dg B xs) (i : Nat) (hi : i < xs.length) : xs[i] < B := h _ (List.getElem_mem hi)
theorem Dg.take {xs : List Nat} (h : Dg B xs) (i : Nat) : Dg B (xs.take i) := fun x hx => h x (List.mem_of_mem_take hx)
theorem Dg.drop {xs : List Nat} (h : Dg B xs) (i : Nat) : Dg B (xs.drop i) := fun x hx => h x (List.mem_of_mem_drop hx)
theorem Dg.append {xs ys : List Nat} (h : Dg B xs) (k : Dg B ys) : Dg B (xs ++ ys) := fun x hx => (List.mem_append.1 hx).elim (h x) (k x)
theorem Dg.cons {x : Nat} {xs : List Nat} (h : x < B) (k : Dg B xs) : Dg B (x :: xs) := fun y hy => by
  rcases List.mem_cons.1 hy with rfl | hy
  · exact h
  · exact k y hy
theorem Dg.set {xs : List Nat} (h : Dg B xs) (i y : Nat) (hy : y < B) : Dg B (xs.set i y) := fun x hx => by
  rcases List.mem_or_eq_of_mem_set hx with h1 | rfl
  · exact h x h1
  · exact hy
theorem Dg.zeros (hB : 0 < B) (n : Nat) : Dg B (List.replicate n 0) := fun x hx => by
  rw [List.eq_of_mem_replicate hx]; exact hB
theorem Dg.lt {xs : List Nat} (h : Dg B xs) : V B xs < B ^ xs.length := V_lt h
def Can (B : Nat) (xs : List Nat) : Prop := Dg B xs ∧ xs.getLast? ≠ some 0
theorem Can.nil : Can B [] := ⟨Dg.nil, by simp⟩
theorem Can.tail {x : Nat} {xs : List Nat} (h : Can B (x :: xs)) : Can B xs := by
  refine ⟨fun y hy => h.1 y (by simp [hy]), ?_⟩
  cases xs with
  | nil => simp
  | cons y ys => simpa [List.getLast?_cons_cons] using h.2
theorem Can.pos {xs : List Nat} (hB : 0 < B) (h : Can B xs) (hne : xs ≠ []) : 0 < V B xs := by
  induction xs with
  | nil => exact (hne rfl).elim
  | cons x xs ih =>
    by_cases hx : xs = []
    · subst hx
      have : x ≠ 0 := fun e => h.2 (by simp [e])
      simp; omega
    · have := ih h.tail hx
      have := Nat.mul_pos hB this
      simp only [V_cons]; omega
theorem Can.unique {xs ys : List Nat} (hx : Can B xs) (hy : Can B ys) (h : V B xs = V B ys) : xs = ys := by
  induction xs generalizing ys with
  | nil =>
    cases ys with
    | nil => rfl
    | cons y ys =>
      have hB : 0 < B := Nat.lt_of_le_of_lt (Nat.zero_le _) (hy.1 y (by simp))
      have := hy.pos hB (by simp)
      simp only [V_nil] at h; omega
  | cons x xs ih =>
    have hB : 0 < B := Nat.lt_of_le_of_lt (Nat.zero_le _) (hx.1 x (by simp))
    cases ys with
    | nil =>
      have := hx.pos hB (by simp)
      simp only [V_nil] at h; omega
    | cons y ys =>
      have h1 : x < B := hx.1 x (by simp)
      have h2 : y < B := hy.1 y (by simp)
      simp only [V_cons] at h
      have e1 : x = y := by
        have := congrArg (· % B) h
        simp only [Nat.add_mul_mod_self_left, Nat.mod_eq_of_lt h1, Nat.mod_eq_of_lt h2] at this
        exact this
      subst e1
      have e2 : V B xs = V B ys := Nat.eq_of_mul_eq_mul_left hB (by omega)
      rw [ih hx.tail hy.tail e2]
theorem Can.low {xs : List Nat} (_hB : 0 < B) (h : Can B xs) (hne : xs ≠ []) : B ^ (xs.length - 1) ≤ V B xs := by
  induction xs with
  | nil => exact (hne rfl).elim
  | cons x xs ih =>
    by_cases hx : xs = []
    · subst hx
      have : x ≠ 0 := fun e => h.2 (by simp [e])
      simp; omega
    · have h1 := ih h.tail hx
      have hl : xs.length ≠ 0 := by simpa using hx
      have h2 := Nat.mul_le_mul_left B h1
      have e : B ^ ((x :: xs).length - 1) = B * B ^ (xs.length - 1) := by
        rw [← Nat.pow_succ']; congr 1; simp; omega
      rw [e]; simp only [V_cons]; omega
theorem Can.lt_of_length {xs ys : List Nat} (hB : 1 < B) (hx : Dg B xs) (hy : Can B ys) (h : xs.length < ys.length) : V B xs < V B ys := by
  have h1 := hx.lt
  have h2 := hy.low (by omega) (by intro e; subst e; simp at h)
  have h3 : B ^ xs.length ≤ B ^ (ys.length - 1) := Nat.pow_le_pow_right (by omega) (by omega)
  omega
def dgF (B : Nat) : Nat → Nat → List Nat
  | 0, _ => []
  | f + 1, n => if n = 0 then [] else n % B :: dgF B f (n / B)
theorem dgF_spec (hB : 1 < B) : ∀ f n, n ≤ f → V B (dgF B f n) = n ∧ Can B (dgF B f n) := by
  intro f
  induction f with
  | zero => intro n hn; have : n = 0 := by omega
            subst this; exact ⟨rfl, Can.nil⟩
  | succ f ih =>
    intro n hn
    simp only [dgF]
    by_cases h0 : n = 0
    · rw [if_pos h0]; exact ⟨by simp [h0], Can.nil⟩
    · rw [if_neg h0]
      have hlt : n / B < n := Nat.div_lt_self (by omega) hB
      obtain ⟨h1, h2⟩ := ih (n / B) (by omega)
      have hm : n % B < B := Nat.mod_lt _ (by omega)
      refine ⟨by rw [V_cons, h1]; exact Nat.mod_add_div n B, Dg.cons hm h2.1, ?_⟩
      by_cases hz : n / B = 0
      · have e : dgF B f (n / B) = [] := by
          rw [hz]; cases f <;> simp [dgF]
        rw [e]
        have : n % B = n := Nat.mod_eq_of_lt ((Nat.div_eq_zero_iff_lt (by omega)).1 hz)
        simp [this, h0]
      · have hne : dgF B f (n / B) ≠ [] := by
          intro e; rw [e] at h1; simp at h1; omega
        obtain ⟨y, ys, e⟩ := List.exists_cons_of_ne_nil hne
        rw [e, List.getLast?_cons_cons, ← e]
        exact h2.2
def dg (B n : Nat) : List Nat := dgF B n n
theorem V_dg (hB : 1 < B) (n : Nat) : V B (dg B n) = n := (dgF_spec hB n n (Nat.le_refl _)).1
theorem Can_dg (hB : 1 < B) (n : Nat) : Can B (dg B n) := (dgF_spec hB n n (Nat.le_refl _)).2
theorem eq_dg (hB : 1 < B) {xs : List Nat} (h : Can B xs) : xs = dg B (V B xs) := h.unique (Can_dg hB _) (V_dg hB _).symm
theorem dg_zero : dg B 0 = [] := rfl
theorem dg_length_le (hB : 1 < B) {n k : Nat} (h : n < B ^ k) : (dg B n).length ≤ k := by
  by_cases hne : dg B n = []
  · simp [hne]
  · have := (Can_dg hB n).low (by omega) hne
    rw [V_dg hB] at this
    have h3 : B ^ ((dg B n).length - 1) < B ^ k := by omega
    have := (Nat.pow_lt_pow_iff_right hB).1 h3
    omega
def trimR : List Nat → List Nat
  | [] => []
  | x :: xs => if trimR xs = [] ∧ x = 0 then [] else x :: trimR xs
theorem V_trimR (xs : List Nat) : V B (trimR xs) = V B xs := by
  induction xs with
  | nil => rfl
  | cons x xs ih =>
    simp only [trimR]
    split
    · rename_i h; rw [h.1] at ih; simp [h.2, ← ih]
    · simp [ih]
theorem Can_trimR {xs : List Nat} (h : Dg B xs) : Can B (trimR xs) := by
  induction xs with
  | nil => exact Can.nil
  | cons x xs ih =>
    have := ih (fun y hy => h y (by simp [hy]))
    simp only [trimR]
    split
    · exact Can.nil
    · rename_i hn
      refine ⟨Dg.cons (h x (by simp)) this.1, ?_⟩
      by_cases he : trimR xs = []
      · rw [he]; simp; intro hx; exact hn ⟨he, hx⟩
      · obtain ⟨y, ys, e⟩ := List.exists_cons_of_ne_nil he
        rw [e, List.getLast?_cons_cons, ← e]; exact this.2
theorem trimR_eq_take (xs : List Nat) : trimR xs = xs.take (trimR xs).length := by
  induction xs with
  | nil => rfl
  | cons x xs ih =>
    simp only [trimR]
    split
    · simp
    · simp [← ih]
theorem trimR_length_le (xs : List Nat) : (trimR xs).length ≤ xs.length := by
  rw [trimR_eq_take]; simp; omega
theorem trimR_snoc_zero (xs : List Nat) : trimR (xs ++ [0]) = trimR xs := by
  induction xs with
  | nil => simp [trimR]
  | cons x xs ih => simp [trimR, ih]
theorem trimR_snoc {xs : List Nat} {x : Nat} (hx : x ≠ 0) : trimR (xs ++ [x]) = xs ++ [x] := by
  induction xs with
  | nil => simp [trimR, hx]
  | cons y xs ih => simp [trimR, ih]
theorem trimR_dg (hB : 1 < B) {xs : List Nat} (h : Dg B xs) : trimR xs = dg B (V B xs) := by
  rw [eq_dg hB (Can_trimR h), V_trimR]
variable {B : Nat}
theorem step_add (cur : List Nat) (i y c d : Nat) (h : i < cur.length) (e : cur[i] + d = y + B * c) :
    V B (cur.set i y) + B ^ (i + 1) * c = V B cur + B ^ i * d := by
  have h1 := V_set (B := B) cur i y h
  have h2 : B ^ i * (cur[i] + d) = B ^ i * (y + B * c) := by rw [e]
  rw [Nat.mul_add, Nat.mul_add] at h2
  rw [Nat.pow_succ, Nat.mul_assoc]
  omega
theorem step_sub (cur : List Nat) (i y c d : Nat) (h : i < cur.length) (e : y + d = cur[i] + B * c) :
    V B (cur.set i y) + B ^ i * d = V B cur + B ^ (i + 1) * c := by
  have h1 := V_set (B := B) cur i y h
  have h2 : B ^ i * (y + d) = B ^ i * (cur[i] + B * c) := by rw [e]
  rw [Nat.mul_add, Nat.mul_add] at h2
  rw [Nat.pow_succ, Nat.mul_assoc]
  omega
theorem cmp_of_top {xs ys : List Nat} (i : Nat) (hx : Dg B xs) (hl : xs.length = ys.length) (hi : i < xs.length)
    (ht : xs.drop (i + 1) = ys.drop (i + 1)) (hlt : xs[i] < ys[i]) : V B xs < V B ys := by
  have e1 := V_take_drop (B := B) xs i (by omega)
  have e2 := V_take_drop (B := B) ys i (by omega)
  rw [V_drop_succ xs i hi] at e1
  rw [V_drop_succ ys i (by omega), ← ht] at e2
  have h1 := (hx.take i).lt
  rw [List.length_take, Nat.min_eq_left (by omega)] at h1
  generalize V B (xs.drop (i + 1)) = t at *
  have h3 : B ^ i * (xs[i] + 1 + B * t) ≤ B ^ i * (ys[i] + B * t) := Nat.mul_le_mul_left _ (by omega)
  rw [Nat.mul_add, Nat.mul_add, Nat.mul_one] at h3
  rw [Nat.mul_add] at e1
  omega
variable {B : Nat}
def tab (n : Nat) (f : Nat → Nat) : List Nat := (List.range n).map f
@[simp] theorem tab_length (n : Nat) (f : Nat → Nat) : (tab n f).length = n := by simp [tab]
@[simp] theorem tab_get (n : Nat) (f : Nat → Nat) (i : Nat) (h : i < (tab n f).length) : (tab n f)[i] = f i := by simp [tab]
theorem tab_succ (n : Nat) (f : Nat → Nat) : tab (n + 1) f = tab n f ++ [f n] := by simp [tab, List.range_succ]
theorem V_tab_digits (N n : Nat) : V B (tab n fun i => N / B ^ i % B) = N % B ^ n := by
  induction n with
  | zero => simp [tab, Nat.mod_one]
  | succ n ih =>
    rw [tab_succ, V_append, ih, tab_length]
    simp only [V_cons, V_nil, Nat.mul_zero, Nat.add_zero]
    rw [Nat.pow_succ, Nat.mod_mul]
theorem dig_get (xs : List Nat) (h : Dg B xs) (i : Nat) (hi : i < xs.length) : xs[i] = V B xs / B ^ i % B := by
  have hB : 0 < B := Nat.lt_of_le_of_lt (Nat.zero_le _) (h.get i hi)
  have e := V_take_drop (B := B) xs i (by omega)
  rw [V_drop_succ xs i hi] at e
  have h1 := (h.take i).lt
  rw [List.length_take, Nat.min_eq_left (by omega)] at h1
  rw [e, Nat.add_mul_div_left _ _ (Nat.pow_pos hB), Nat.div_eq_of_lt h1, Nat.zero_add, Nat.add_mul_mod_self_left, Nat.mod_eq_of_lt (h.get i hi)]
theorem V_drop_eq (xs : List Nat) (h : Dg B xs) (i : Nat) (hi : i ≤ xs.length) : V B (xs.drop i) = V B xs / B ^ i := by
  by_cases hB : B = 0
  · subst hB
    have : xs = [] := by
      cases xs with
      | nil => rfl
      | cons x xs => exact absurd (h x (by simp)) (by omega)
    subst this; simp
  have e := V_take_drop (B := B) xs i hi
  have h1 := (h.take i).lt
  rw [List.length_take, Nat.min_eq_left hi] at h1
  rw [e, Nat.add_mul_div_left _ _ (Nat.pow_pos (by omega)), Nat.div_eq_of_lt h1, Nat.zero_add]
theorem V_take_eq (xs : List Nat) (h : Dg B xs) (i : Nat) (hi : i ≤ xs.length) : V B (xs.take i) = V B xs % B ^ i := by
  have e := V_take_drop (B := B) xs i hi
  have h1 := (h.take i).lt
  rw [List.length_take, Nat.min_eq_left hi] at h1
  rw [e, Nat.add_mul_mod_self_left, Nat.mod_eq_of_lt h1]
theorem V_chunks (k : Nat) : ∀ (n : Nat) (xs : List Nat), xs.length ≤ n * k → V (B ^ k) (tab n fun i => V B ((xs.drop (i * k)).take k)) = V B xs := by
  intro n
  induction n with
  | zero => intro xs h; have : xs = [] := by simpa using h
            subst this; simp [tab]
  | succ n ih =>
    intro xs h
    have e : tab (n + 1) (fun i => V B ((xs.drop (i * k)).take k)) = V B (xs.take k) :: tab n (fun i => V B (((xs.drop k).drop (i * k)).take k)) := by
      apply List.ext_getElem (by simp)
      intro i h1 h2
      cases i with
      | zero => simp
      | succ i => simp [List.drop_drop, Nat.succ_mul, Nat.add_comm]
    rw [e, V_cons, ih (xs.drop k) (by simp; rw [Nat.succ_mul] at h; omega)]
    by_cases hl : k ≤ xs.length
    · exact (V_take_drop xs k hl).symm
    · rw [List.take_of_length_le (by omega), List.drop_of_length_le (by omega)]; simp
theorem eq_tab (hB : 1 < B) (N n : Nat) (h : N < B ^ n) (h2 : n = 0 ∨ B ^ (n - 1) ≤ N) : tab n (fun i => N / B ^ i % B) = dg B N := by
  have hd : Dg B (tab n fun i => N / B ^ i % B) := by
    intro x hx
    obtain ⟨i, _, rfl⟩ := List.mem_map.1 hx
    exact Nat.mod_lt _ (by omega)
  have hv := V_tab_digits (B := B) N n
  rw [Nat.mod_eq_of_lt h] at hv
  have hc : Can B (tab n fun i => N / B ^ i % B) := by
    refine ⟨hd, ?_⟩
    rcases h2 with rfl | h2
    · simp [tab]
    · by_cases hn : n = 0
      · subst hn; simp [tab]
      obtain ⟨m, rfl⟩ : ∃ m, n = m + 1 := ⟨n - 1, by omega⟩
      rw [tab_succ]
      simp only [List.getLast?_append, List.getLast?_singleton, Option.some_or, ne_eq, Option.some.injEq]
      have h3 : B ^ m ≤ N := h2
      have h4 : 1 ≤ N / B ^ m := (Nat.le_div_iff_mul_le (Nat.pow_pos (by omega))).2 (by omega)
      have h5 : N / B ^ m < B := Nat.div_lt_of_lt_mul (by rw [← Nat.pow_succ]; exact h)
      rw [Nat.mod_eq_of_lt h5]; omega
  have := eq_dg hB hc
  rw [hv] at this
  exact this
end Nm
namespace Go.Proofs.YtjpkncgfpbhnaaaGreatDoor
open Go.RowKit Nm
def W64 : Nat := 18446744073709551616
theorem and_low (a : Nat) (ha : a < 18446744073709551616) : bits .and .u64 (a : Int) 4294967295 = ((a % 4294967296 : Nat) : Int) :=
  (bits_and_u64_nat a 4294967295 ha (by omega)).trans (by rw [Nat.and_two_pow_sub_one_eq_mod a 32])
theorem cast_div (a : Nat) : (a : Int) / 4294967296 = ((a / 4294967296 : Nat) : Int) := by omega
theorem cast_mul (a b : Nat) : (a : Int) * (b : Int) = ((a * b : Nat) : Int) := by simp
theorem cast_add (a b : Nat) : (a : Int) + (b : Int) = ((a + b : Nat) : Int) := by simp
theorem wrap_in (a : Nat) (ha : a < 18446744073709551616) : IntKind.u64.wrap (a : Int) = (a : Int) := by rw [IntKind.wrap_u64]; omega
theorem wrap_mod (a : Nat) : IntKind.u64.wrap (a : Int) = ((a % 18446744073709551616 : Nat) : Int) := by rw [IntKind.wrap_u64]; omega
theorem mul64_any (x y : Nat) (hx : x < 18446744073709551616) (hy : y < 18446744073709551616) (w : World) :
    Calls Tryz.prog 255 #[.int .u64 x, .int .u64 y] w fun e w' => ∃ hi lo : Nat, e = .returned (.tuple #[.int .u64 hi, .int .u64 lo]) ∧ hi < W64 ∧ lo < W64 ∧ Hid (x * y = lo + W64 * hi) ∧ w = w' := by
  obtain ⟨bd, bt, bw, hhi⟩ := Lib.mul64_hi x y hx hy
  have p1 := Lib.half_mul_le (a := x / 4294967296) (b := y / 4294967296) (by omega) (by omega)
  have p2 := Lib.half_mul_le (a := x / 4294967296) (b := y % 4294967296) (by omega) (by omega)
  have p3 := Lib.half_mul_le (a := x % 4294967296) (b := y / 4294967296) (by omega) (by omega)
  have q1 : x / 4294967296 * (y / 4294967296) < 18446744073709551616 := by omega
  have q2 : x / 4294967296 * (y % 4294967296) < 18446744073709551616 := by omega
  have q3 : x % 4294967296 * (y / 4294967296) < 18446744073709551616 := by omega
  have s1 : x / 4294967296 * (y / 4294967296) + (x / 4294967296 * (y % 4294967296) + x % 4294967296 * (y % 4294967296) / 4294967296) / 4294967296 < 18446744073709551616 := by omega
  have s2 : x / 4294967296 * (y / 4294967296) + (x / 4294967296 * (y % 4294967296) + x % 4294967296 * (y % 4294967296) / 4294967296) / 4294967296 + ((x / 4294967296 * (y % 4294967296) + x % 4294967296 * (y % 4294967296) / 4294967296) % 4294967296 + x % 4294967296 * (y / 4294967296)) / 4294967296 < 18446744073709551616 := by omega
  go_enter Tryz.func255, Tryz.ntmps255
  go_wp2
  simp only [and_low x hx, and_low y hy, cast_div, cast_mul, cast_add, wrap_in _ bd, wrap_in _ q2, wrap_in _ bt, and_low _ bt, wrap_in _ q3, wrap_in _ bw, wrap_in _ q1, wrap_in _ s1, wrap_in _ s2, wrap_mod (x * y)]
  rw [hhi]
  go_ret2
  have hlt : x * y < 18446744073709551616 * 18446744073709551616 := Nat.mul_lt_mul'' hx hy
  refine ⟨_, _, rfl, ?_, Nat.mod_lt _ (by decide), ?_, rfl⟩
  · exact Nat.div_lt_of_lt_mul hlt
  · exact (Nat.mod_add_div (x * y) 18446744073709551616).symm
theorem run_add (x y c : Nat) (hc : c ≤ 1) (w : World) :
    (callFunc 256 #[.int .u64 x, .int .u64 y, .int .u64 c]).run Tryz.prog w =
      .ok (.value (.tuple #[.int .u64 ((x + y + c) % 18446744073709551616 : Nat), .int .u64 ((x + y + c) / 18446744073709551616 : Nat)])) w := by
  have : c = 0 ∨ c = 1 := by omega
  rw [run_callFunc_extern Tryz.func256 (by kernel_rfl) (by kernel_rfl) (by kernel_rfl) (by kernel_rfl), run_add64 x y c (by omega) (by omega) (by omega) (by omega)]
  simp only [Result.andThen]
  congr 5 <;> omega
theorem run_sub (x y b : Nat) (hb : b ≤ 1) (hx : x < 18446744073709551616) (hy : y < 18446744073709551616) (w : World) :
    ∃ d c : Nat, (callFunc 291 #[.int .u64 x, .int .u64 y, .int .u64 b]).run Tryz.prog w = .ok (.value (.tuple #[.int .u64 d, .int .u64 c])) w ∧ d < W64 ∧ c ≤ 1 ∧ Hid (d + (y + b) = x + W64 * c) := by
  refine ⟨(x + 18446744073709551616 - y - b) % 18446744073709551616, if x < y + b then 1 else 0, ?_, Nat.mod_lt _ (by decide), by split <;> omega, ?_⟩
  · have : b = 0 ∨ b = 1 := by omega
    rw [run_callFunc_extern Tryz.func291 (by kernel_rfl) (by kernel_rfl) (by kernel_rfl) (e := fun args => do
      let (x, y, b) ← Extern.MathBitsCarry.three "Sub64" args
      pure (Extern.MathBitsCarry.pair ((x + Extern.MathBitsCarry.m64 - y - b) % Extern.MathBitsCarry.m64) (if x < y + b then 1 else 0))) (by kernel_rfl)]
    rcases this with rfl | rfl <;> rfl
  · show _ = _
    unfold W64
    split <;> omega
section
variable {ops : Array Oper} {rest : List Oper} {o : Oper} {a : Act} {Q : Exit → Act → World → Prop}
theorem wl_add64 (w : World) (hg : o.guard = none) (px py pc : Operand) (T : Array TypeId) (hop : o.op = .call { callee := .value (.func 256), args := #[px, py, pc], argTypes := T })
    (x y c : Nat) (hx : a.eval px = .int .u64 x) (hy : a.eval py = .int .u64 y) (hc : a.eval pc = .int .u64 c) (bx : x < W64) (by' : y < W64) (bc : c ≤ 1)
    (hK : ∀ s co : Nat, s < W64 → co ≤ 1 → Hid (x + y + c = s + W64 * co) → wpList Tryz.prog ops Q rest (a.put o.dst (.tuple #[.int .u64 s, .int .u64 co])) w) :
    wpList Tryz.prog ops Q (o :: rest) a w := by
  refine wpList_plain hg fun K hK' => ?_
  have hrun := run_add x y c bc w
  have hm := Nat.mod_add_div (x + y + c) 18446744073709551616
  have hl := Nat.mod_lt (x + y + c) (show 0 < 18446744073709551616 by decide)
  unfold W64 at *
  generalize (x + y + c) % 18446744073709551616 = s at *
  generalize (x + y + c) / 18446744073709551616 = co at *
  unfold Oper.wp
  have he : a.eval (.func 256) = .func (.func 256) #[] #[] := rfl
  simp [execOp, hop, resolve, invoke, Deferred.ofValue, he, hx, hy, hc, hrun]
  exact hK' _ _ (hK s co hl (by omega) hm.symm)
theorem wl_sub64 (w : World) (hg : o.guard = none) (px py pc : Operand) (T : Array TypeId) (hop : o.op = .call { callee := .value (.func 291), args := #[px, py, pc], argTypes := T })
    (x y c : Nat) (hx : a.eval px = .int .u64 x) (hy : a.eval py = .int .u64 y) (hc : a.eval pc = .int .u64 c) (bx : x < W64) (by' : y < W64) (bc : c ≤ 1)
    (hK : ∀ s co : Nat, s < W64 → co ≤ 1 → Hid (s + (y + c) = x + W64 * co) → wpList Tryz.prog ops Q rest (a.put o.dst (.tuple #[.int .u64 s, .int .u64 co])) w) :
    wpList Tryz.prog ops Q (o :: rest) a w := by
  refine wpList_plain hg fun K hK' => ?_
  obtain ⟨s, co, hrun, h1, h2, h3⟩ := run_sub x y c bc bx by' w
  unfold Oper.wp
  have he : a.eval (.func 291) = .func (.func 291) #[] #[] := rfl
  simp [execOp, hop, resolve, invoke, Deferred.ofValue, he, hx, hy, hc, hrun]
  exact hK' _ _ (hK s co h1 h2 h3)
end
theorem wl_len8 {P : Program} {ops : Array Oper} {rest : List Oper} {o : Oper} {a : Act} {Q : Exit → Act → World → Prop} (w : World) (hg : o.guard = none) (T : TypeId) (S : ByteArray) (px : Operand) (hop : o.op = .index T (.const (.string S)) px)
    (hu : P.underlying T = some .string) (hS : S = Lib.len8tab) (k : IntKind) (i : Int) (hx : a.eval px = .int k i) (h0 : 0 ≤ i) (h1 : i ≤ 255)
    (hK : ∀ L : Nat, L ≤ 8 → Hid (L = Lib.bitLen i.toNat) → wpList P ops Q rest (a.put o.dst (.int .u8 L)) w) : wpList P ops Q (o :: rest) a w := by
  refine wpList_plain hg fun K hK' => ?_
  have hrun := Lib.run_index_len8tab (P := P) w T k i hu h0 h1
  rw [Lib.len8_of i h0 h1] at hrun
  subst hS
  have he : a.eval (.const (.string Lib.len8tab)) = .string Lib.len8tab := rfl
  unfold Oper.wp
  simp [execOp, hop, he, hx, hrun]
  exact hK' _ _ (hK _ (Lib.bitLen_le8' i h0 h1) (hid rfl))
set_option maxHeartbeats 1000000 in
theorem len64_int (x : Int) (h0 : 0 ≤ x) (h1 : x ≤ 18446744073709551615) (w : World) :
    Calls Tryz.prog 252 #[.int .u64 x] w fun e w' => e = .returned (.int .i64 (Lib.bitLen x.toNat : Nat)) ∧ w = w' := by
  go_enter Tryz.func252, Tryz.ntmps252
  go_wp2_with (refine wl_len8 _ rfl 9 _ (.tmp 21) rfl Tryz.underlying9 (by kernel_rfl) .u8 _ rfl (by omega) (by omega) ?_; intro L hL HL)
  all_goals
    go_ret
    have HL' := HL.out
    refine ⟨congrArg Ending.returned (congrArg (Value.int IntKind.i64) ?_), rfl⟩
  · have e : (x / 4294967296 / 65536 / 256).toNat = x.toNat / 72057594037927936 := by omega
    rw [Lib.bitLen_shift56 x.toNat (by omega) (by omega), ← e, ← HL']; omega
  · have e : (x / 4294967296 / 65536).toNat = x.toNat / 281474976710656 := by omega
    rw [Lib.bitLen_shift48 x.toNat (by omega) (by omega), ← e, ← HL']; omega
  · have e : (x / 4294967296 / 256).toNat = x.toNat / 1099511627776 := by omega
    rw [Lib.bitLen_shift40 x.toNat (by omega) (by omega), ← e, ← HL']; omega
  · have e : (x / 4294967296).toNat = x.toNat / 4294967296 := by omega
    rw [Lib.bitLen_shift32 x.toNat (by omega) (by omega), ← e, ← HL']; omega
  · have e : (x / 65536 / 256).toNat = x.toNat / 16777216 := by omega
    rw [Lib.bitLen_shift24 x.toNat (by omega) (by omega), ← e, ← HL']; omega
  · have e : (x / 65536).toNat = x.toNat / 65536 := by omega
    rw [Lib.bitLen_shift16 x.toNat (by omega) (by omega), ← e, ← HL']; omega
  · have e : (x / 256).toNat = x.toNat / 256 := by omega
    rw [Lib.bitLen_shift8 x.toNat (by omega) (by omega), ← e, ← HL']; omega
  · rw [← HL']
theorem len16_int (x : Int) (h0 : 0 ≤ x) (h1 : x ≤ 65535) (w : World) :
    Calls Tryz.prog 225 #[.int .u16 x] w fun e w' => e = .returned (.int .i64 (Lib.bitLen x.toNat : Nat)) ∧ w = w' := by
  go_enter Tryz.func225, Tryz.ntmps225
  go_wp2_with (refine wl_len8 _ rfl 9 _ (.tmp 9) rfl Tryz.underlying9 (by kernel_rfl) .u8 _ rfl (by omega) (by omega) ?_; intro L hL HL)
  all_goals
    go_ret
    have HL' := HL.out
    refine ⟨congrArg Ending.returned (congrArg (Value.int IntKind.i64) ?_), rfl⟩
  · have e : (x / 256).toNat = x.toNat / 256 := by omega
    rw [Lib.bitLen_shift8 x.toNat (by omega) (by omega), ← e, ← HL']; omega
  · rw [← HL']
theorem bitLen_spec (x : Nat) (hx : x < W64) : (x = 0 ∧ Lib.bitLen x = 0) ∨ (1 ≤ Lib.bitLen x ∧ 2 ^ (Lib.bitLen x - 1) ≤ x ∧ x < 2 ^ Lib.bitLen x) := by
  by_cases h : x = 0
  · exact .inl ⟨h, by rw [h]; rfl⟩
  · exact .inr (Lib.bitLenAux_bounds 64 x hx h)
theorem bitLen_le64 (x : Nat) (hx : x < W64) : Lib.bitLen x ≤ 64 := Lib.bitLen_le x 64 (Nat.le_refl _) hx
theorem len64_any (x : Nat) (hx : x < W64) (w : World) :
    Calls Tryz.prog 252 #[.int .u64 x] w fun e w' => ∃ l : Nat, l ≤ 64 ∧ Hid (l = Lib.bitLen x) ∧ e = .returned (.int .i64 l) ∧ w = w' := by
  have h1 : x < 18446744073709551616 := hx
  refine (len64_int x (by omega) (by omega) w).mono fun e w' ⟨h, k⟩ => ⟨Lib.bitLen x, bitLen_le64 x hx, hid rfl, h, k⟩
theorem len16_any (x : Nat) (hx : x < 65536) (w : World) :
    Calls Tryz.prog 225 #[.int .u16 x] w fun e w' => ∃ l : Nat, l ≤ 16 ∧ Hid (l = Lib.bitLen x) ∧ e = .returned (.int .i64 l) ∧ w = w' := by
  refine (len16_int x (by omega) (by omega) w).mono fun e w' ⟨h, k⟩ => ⟨Lib.bitLen x, Lib.bitLen_le x 16 (by omega) hx, hid rfl, h, k⟩
end Go.Proofs.YtjpkncgfpbhnaaaGreatDoor
namespace Nm
theorem est (W first second high mid low n r v d Vlow Rlow : Nat) (hf : W ≤ 2 * first) (hd : d < W)
    (hv : v = (first * W + second) * n + Vlow) (hV : Vlow < n) (hr : r = (high * W * W + mid * W + low) * n + Rlow) (hR : Rlow < n)
    (h1 : d * (first * W + second) ≤ high * W * W + mid * W + low) (h2 : high * W * W + mid * W + low < (d + 1) * (first * W + second)) :
    r < (d + 1) * v ∧ d * v < r + v := by
  have hW : 0 < W := by omega
  have hfp : 0 < first := by omega
  generalize hN : high * W * W + mid * W + low = N at *
  generalize hD : first * W + second = D at *
  subst hv; subst hr
  constructor
  · have a : N + 1 ≤ (d + 1) * D := h2
    have b : (N + 1) * n ≤ (d + 1) * D * n := Nat.mul_le_mul_right n a
    have c : (d + 1) * (D * n + Vlow) = (d + 1) * D * n + (d + 1) * Vlow := by rw [Nat.mul_add, Nat.mul_assoc]
    rw [Nat.add_mul, Nat.one_mul] at b
    omega
  · have a : d * D * n ≤ N * n := Nat.mul_le_mul_right n h1
    have b : d * Vlow ≤ d * n := Nat.mul_le_mul_left d (by omega)
    have c : d * (D * n + Vlow) = d * D * n + d * Vlow := by rw [Nat.mul_add, Nat.mul_assoc]
    have e : W ≤ D := by
      have : 1 * W ≤ first * W := Nat.mul_le_mul_right W hfp
      omega
    have f : d * n ≤ D * n := Nat.mul_le_mul_right n (by omega)
    have g : 0 < n := by omega
    have i : (d + 1) * n ≤ D * n := Nat.mul_le_mul_right n (by omega)
    rw [Nat.add_mul, Nat.one_mul] at i
    omega
theorem est_top (W first n r v high mid Vlow Rlow : Nat) (hf : W ≤ 2 * first) (hW : 2 ≤ W)
    (hv : v = first * n + Vlow) (hV : Vlow < n) (hr : r = high * (n * W) + mid * n + Rlow) (hh : first ≤ high) (hlt : r < W * v) :
    r < (W - 1 + 1) * v ∧ (W - 1) * v < r + v := by
  constructor
  · rw [Nat.sub_add_cancel (by omega)]; exact hlt
  · have a : first * (n * W) ≤ high * (n * W) := Nat.mul_le_mul_right _ hh
    obtain ⟨k, rfl⟩ : ∃ k, W = k + 2 := ⟨W - 2, by omega⟩
    have e : (k + 2 - 1) * v = k * v + v := by rw [show k + 2 - 1 = k + 1 by omega, Nat.add_mul, Nat.one_mul]
    rw [e]
    have b : k * v < r := by
      subst hv
      have c : k * Vlow ≤ k * n := Nat.mul_le_mul_left k (by omega)
      have d : k * (first * n + Vlow) = k * first * n + k * Vlow := by rw [Nat.mul_add, Nat.mul_assoc]
      have f : first * (n * (k + 2)) = k * first * n + 2 * first * n := by
        rw [Nat.mul_add, Nat.mul_add, Nat.mul_comm n k, ← Nat.mul_assoc, Nat.mul_comm first k, Nat.mul_comm n 2, ← Nat.mul_assoc, Nat.mul_comm first 2]
      have g : (k + 2) * n ≤ 2 * first * n := Nat.mul_le_mul_right n hf
      rw [Nat.add_mul] at g
      omega
    omega
theorem newton (a t m m1 p : Nat) (hp : p = 2 ^ t) (ht : 1 ≤ t) (h1 : (a - 1) * (a - 1) < m1) (h2 : m1 < (a + 1) * (a + 1)) (ha : 1 ≤ a) (hm : m1 = m / (p * p)) (hap : p ≤ 2 * a)
    (b : Nat) (hb : b = a * 2 ^ (t - 1) + m / (2 * p) / a) :
    (b - 1) * (b - 1) < m ∧ m < (b + 1) * (b + 1) ∧ 1 ≤ b := by
  obtain ⟨h, hh⟩ : ∃ h, h = 2 ^ (t - 1) := ⟨_, rfl⟩
  have hp2 : p = 2 * h := by rw [hp, hh, ← Nat.pow_succ']; congr 1; omega
  have hhp : 0 < h := by rw [hh]; exact Nat.pow_pos (by omega)
  have hpp : 0 < p := by omega
  rw [← hh, Nat.div_div_eq_div_mul] at hb
  -- x = p a
  obtain ⟨x, hx⟩ : ∃ x, x = p * a := ⟨_, rfl⟩
  have hxp : 0 < x := by rw [hx]; exact Nat.mul_pos hpp (by omega)
  have hx2 : x = 2 * (a * h) := by rw [hx, hp2, Nat.mul_assoc, Nat.mul_comm h a]
  have hq : 2 * p * a = 2 * x := by rw [hx, Nat.mul_assoc]
  rw [hq] at hb
  have hdm := Nat.div_add_mod m (2 * x)
  have hml := Nat.mod_lt m (show 0 < 2 * x by omega)
  generalize m / (2 * x) = q at *
  generalize m % (2 * x) = r at *
  -- 2 x b = x^2 + 2 x q
  have e1 : 2 * x * b = x * x + 2 * x * q := by
    rw [hb, Nat.mul_add]; congr 1
    have : 2 * x * (a * h) = x * (2 * (a * h)) := by rw [Nat.mul_comm 2 x, Nat.mul_assoc]
    rw [this, ← hx2]
  have lo : 2 * x * b ≤ x * x + m := by omega
  have hi : x * x + m < 2 * x * b + 2 * x := by omega
  have hbx : 1 ≤ b := by
    rw [hb]
    have : 0 < a * h := Nat.mul_pos (by omega) hhp
    omega
  -- bounds of m
  have hdm2 := Nat.div_add_mod m (p * p)
  have hml2 := Nat.mod_lt m (Nat.mul_pos hpp hpp)
  rw [← hm] at hdm2
  generalize m % (p * p) = s at *
  refine ⟨?_, ?_, hbx⟩
  · -- (b-1)^2 < m
    refine Nat.lt_of_not_le fun hge => ?_
    obtain ⟨c, rfl⟩ : ∃ c, b = c + 1 := ⟨b - 1, by omega⟩
    have hc' : m ≤ c * c := by simpa using hge
    obtain ⟨d, rfl⟩ : ∃ d, a = d + 1 := ⟨a - 1, by omega⟩
    have h1' : d * d + 1 ≤ m1 := h1
    have h2' : m1 + 1 ≤ (d + 1 + 1) * (d + 1 + 1) := h2
    have k1 : p * p * (d * d + 1) ≤ p * p * m1 := Nat.mul_le_mul_left _ h1'
    have k2 : p * p * (m1 + 1) ≤ p * p * ((d + 1 + 1) * (d + 1 + 1)) := Nat.mul_le_mul_left _ h2'
    have k3 : p * p * ((d + 1 + 1) * (d + 1 + 1)) = (x + p) * (x + p) := by
      have : x + p = p * (d + 1 + 1) := by rw [hx, Nat.mul_add p (d + 1) 1, Nat.mul_one]
      rw [this, Nat.mul_assoc, Nat.mul_assoc, ← Nat.mul_assoc p (d + 1 + 1), ← Nat.mul_assoc (d+1+1) p, Nat.mul_comm p (d + 1 + 1)]
    have hpx : p * p ≤ 2 * x := by
      rw [hx]
      have : p * p ≤ p * (2 * (d + 1)) := Nat.mul_le_mul_left p hap
      have e : p * (2 * (d + 1)) = 2 * (p * (d + 1)) := by rw [← Nat.mul_assoc, Nat.mul_comm p 2, Nat.mul_assoc]
      omega
    rw [Nat.mul_add, Nat.mul_one] at k2
    have e2 : (x + p) * (x + p) = x * x + 2 * (x * p) + p * p := by
      rw [Nat.add_mul, Nat.mul_add, Nat.mul_add, Nat.mul_comm p x]; omega
    have e3 : 2 * x * (c + 1) = 2 * (x * c) + 2 * x := by rw [Nat.mul_add, Nat.mul_one, Nat.mul_assoc]
    rcases Nat.lt_or_ge c (x + p) with hlt | hge2
    · -- x - p < c < x + p is impossible; c ≤ x - p too
      rcases Nat.lt_or_ge x (c + p) with hlt2 | hge3
      · -- |x - c| < p
        have : 2 * (x * c) + 2 * x ≤ x * x + c * c := by omega
        rcases Nat.le_total c x with hcx | hcx
        · obtain ⟨y, rfl⟩ : ∃ y, x = c + y := ⟨x - c, by omega⟩
          have hy : y * y < p * p := by
            have : y < p := by omega
            exact Nat.mul_lt_mul'' this this
          have : (c + y) * (c + y) = c * c + 2 * (c * y) + y * y := by
            rw [Nat.add_mul, Nat.mul_add, Nat.mul_add, Nat.mul_comm y c]; omega
          have : (c + y) * c = c * c + c * y := by rw [Nat.add_mul, Nat.mul_comm y c]
          omega
        · obtain ⟨y, rfl⟩ : ∃ y, c = x + y := ⟨c - x, by omega⟩
          have hy : y * y < p * p := by
            have : y < p := by omega
            exact Nat.mul_lt_mul'' this this
          have : (x + y) * (x + y) = x * x + 2 * (x * y) + y * y := by
            rw [Nat.add_mul, Nat.mul_add, Nat.mul_add, Nat.mul_comm y x]; omega
          have : x * (x + y) = x * x + x * y := by rw [Nat.mul_add]
          omega
      · -- c ≤ x - p, so m ≤ c^2 ≤ (p d)^2
        have hxd : x = p * d + p := by rw [hx, Nat.mul_add, Nat.mul_one]
        have hcd : c ≤ p * d := by omega
        have := Nat.mul_le_mul hcd hcd
        have e4 : p * d * (p * d) = p * p * (d * d) := by
          rw [Nat.mul_assoc, Nat.mul_assoc, ← Nat.mul_assoc d p, Nat.mul_comm d p, Nat.mul_assoc]
        have : 0 < p * p := Nat.mul_pos hpp hpp
        rw [Nat.mul_add, Nat.mul_one] at k1
        omega
    · -- x + p ≤ c
      have : x * (x + p) ≤ x * c := Nat.mul_le_mul_left x hge2
      rw [Nat.mul_add] at this
      omega
  · -- m < (b+1)^2
    have e3 : 2 * x * b + 2 * x = 2 * (x * (b + 1)) := by rw [Nat.mul_add, Nat.mul_one, Nat.mul_add, Nat.mul_assoc]
    rcases Nat.le_total x (b + 1) with hle | hle
    · obtain ⟨y, hy⟩ : ∃ y, b + 1 = x + y := ⟨b + 1 - x, by omega⟩
      rw [hy]
      rw [hy] at e3
      have : (x + y) * (x + y) = x * x + 2 * (x * y) + y * y := by
        rw [Nat.add_mul, Nat.mul_add, Nat.mul_add, Nat.mul_comm y x]; omega
      rw [Nat.mul_add] at e3
      omega
    · obtain ⟨y, hy⟩ : ∃ y, x = (b + 1) + y := ⟨x - (b + 1), by omega⟩
      generalize b + 1 = z at *
      subst hy
      have : (z + y) * (z + y) = z * z + 2 * (z * y) + y * y := by
        rw [Nat.add_mul, Nat.mul_add, Nat.mul_add, Nat.mul_comm y z]; omega
      have : (z + y) * z = z * z + z * y := by rw [Nat.add_mul, Nat.mul_comm y z]
      omega
structure Eu (A C p r s t h o : Nat) : Prop where
  e1 : h + r * C = p * A
  e2 : o + s * A = t * C
  e3 : p * t = 1 + r * s
theorem Eu.start (A C : Nat) : Eu A C 1 0 0 1 A C := ⟨by simp, by simp, by simp⟩
theorem Eu.step {A C p r s t h o : Nat} (e : Eu A C p r s t h o) (q rest : Nat) (hq : h = q * o + rest) : Eu C A t s (r + q * t) (p + q * s) o rest := by
  obtain ⟨e1, e2, e3⟩ := e
  refine ⟨e2, ?_, ?_⟩
  · have k := congrArg (q * ·) e2
    simp only [Nat.mul_add] at k
    rw [Nat.add_mul, Nat.add_mul, Nat.mul_assoc, Nat.mul_assoc]
    omega
  · rw [Nat.mul_add, Nat.mul_add, Nat.mul_comm t p, Nat.mul_comm s r, e3, Nat.mul_left_comm t q s, Nat.mul_left_comm s q t, Nat.mul_comm t s]
    omega
theorem Eu.back {A C p r s t h o : Nat} (e : Eu A C p r s t h o) : A = t * h + r * o ∧ C = s * h + p * o := by
  obtain ⟨e1, e2, e3⟩ := e
  have a1 : t * h + t * (r * C) = t * (p * A) := by rw [← Nat.mul_add, e1]
  have a2 : r * o + r * (s * A) = r * (t * C) := by rw [← Nat.mul_add, e2]
  have a3 : s * h + s * (r * C) = s * (p * A) := by rw [← Nat.mul_add, e1]
  have a4 : p * o + p * (s * A) = p * (t * C) := by rw [← Nat.mul_add, e2]
  have b1 : t * (p * A) = A + r * (s * A) := by rw [← Nat.mul_assoc, Nat.mul_comm t p, e3, Nat.add_mul, Nat.one_mul, Nat.mul_assoc]
  have b2 : p * (t * C) = C + s * (r * C) := by rw [← Nat.mul_assoc, e3, Nat.add_mul, Nat.one_mul, Nat.mul_comm r s, Nat.mul_assoc]
  have b3 : t * (r * C) = r * (t * C) := Nat.mul_left_comm _ _ _
  have b4 : p * (s * A) = s * (p * A) := Nat.mul_left_comm _ _ _
  omega
theorem Eu.lift {A C p r s t h o : Nat} (e : Eu A C p r s t h o) {K a' c' a c M0 M1 : Nat} (ha : a' < K) (hc : c' < K) (ea : a = A * K + a') (ec : c = C * K + c')
    (hr : r ≤ M0) (hs : s ≤ M1) (ht : t ≤ M1) (hM : 1 ≤ M1) (h1 : M1 ≤ o) (h2 : o + M0 + M1 ≤ h) :
    r * c ≤ p * a ∧ s * a ≤ t * c ∧ t * c - s * a < p * a - r * c ∧ Eu a c p r s t (p * a - r * c) (t * c - s * a) := by
  obtain ⟨e1, e2, e3⟩ := e
  have f1 : h * K + r * (C * K) = p * (A * K) := by rw [← Nat.mul_assoc, ← Nat.mul_assoc, ← Nat.add_mul, e1]
  have f2 : o * K + s * (A * K) = t * (C * K) := by rw [← Nat.mul_assoc, ← Nat.mul_assoc, ← Nat.add_mul, e2]
  have g1 : p * a = p * (A * K) + p * a' := by rw [ea, Nat.mul_add]
  have g2 : r * c = r * (C * K) + r * c' := by rw [ec, Nat.mul_add]
  have g3 : s * a = s * (A * K) + s * a' := by rw [ea, Nat.mul_add]
  have g4 : t * c = t * (C * K) + t * c' := by rw [ec, Nat.mul_add]
  have k1 : r * c' ≤ M0 * c' := Nat.mul_le_mul_right _ hr
  have k2 : s * a' ≤ M1 * a' := Nat.mul_le_mul_right _ hs
  have k3 : t * c' ≤ M1 * c' := Nat.mul_le_mul_right _ ht
  have k4 : M1 * a' ≤ M1 * K := Nat.mul_le_mul_left _ (by omega)
  have k5 : M1 * K ≤ o * K := Nat.mul_le_mul_right _ h1
  have k6 : (o + M0 + M1) * K ≤ h * K := Nat.mul_le_mul_right _ h2
  rw [Nat.add_mul, Nat.add_mul] at k6
  have k7 : M0 * c' ≤ M0 * K := Nat.mul_le_mul_left _ (by omega)
  have k8 : M1 * (c' + 1) ≤ M1 * K := Nat.mul_le_mul_left _ (by omega)
  rw [Nat.mul_add, Nat.mul_one] at k8
  have c1 : r * c ≤ p * a := by omega
  have c2 : s * a ≤ t * c := by omega
  exact ⟨c1, c2, by omega, ⟨by omega, by omega, e3⟩⟩
theorem Eu.gcd {A C p r s t h o : Nat} (e : Eu A C p r s t h o) : Nat.gcd h o = Nat.gcd A C := by
  obtain ⟨b1, b2⟩ := e.back
  obtain ⟨e1, e2, e3⟩ := e
  apply Nat.dvd_antisymm
  · apply Nat.dvd_gcd
    · rw [b1]; exact Nat.dvd_add (Nat.dvd_mul_left_of_dvd (Nat.gcd_dvd_left h o) _) (Nat.dvd_mul_left_of_dvd (Nat.gcd_dvd_right h o) _)
    · rw [b2]; exact Nat.dvd_add (Nat.dvd_mul_left_of_dvd (Nat.gcd_dvd_left h o) _) (Nat.dvd_mul_left_of_dvd (Nat.gcd_dvd_right h o) _)
  · apply Nat.dvd_gcd
    · have : Nat.gcd A C ∣ h + r * C := by rw [e1]; exact Nat.dvd_mul_left_of_dvd (Nat.gcd_dvd_left A C) _
      exact (Nat.dvd_add_left (Nat.dvd_mul_left_of_dvd (Nat.gcd_dvd_right A C) _)).1 this
    · have : Nat.gcd A C ∣ o + s * A := by rw [e2]; exact Nat.dvd_mul_left_of_dvd (Nat.gcd_dvd_right A C) _
      exact (Nat.dvd_add_left (Nat.dvd_mul_left_of_dvd (Nat.gcd_dvd_left A C) _)).1 this
structure Dq (B y1 y0 n u q r : Nat) : Prop where
  e : q * y1 + r = n
  hi : n * B + u < (q + 1) * (y1 * B + y0)
theorem Dq.start {B y1 y0 n u : Nat} (hy : 0 < y1) (hu : u < B) : Dq B y1 y0 n u (n / y1) (n % y1) := by
  refine ⟨by rw [Nat.mul_comm]; exact Nat.div_add_mod n y1, ?_⟩
  have h := Nat.div_add_mod n y1
  have hl := Nat.mod_lt n hy
  have h1 : n + 1 ≤ (n / y1 + 1) * y1 := by rw [Nat.add_mul, Nat.one_mul, Nat.mul_comm]; omega
  have h2 := Nat.mul_le_mul_right B h1
  rw [Nat.add_mul, Nat.one_mul] at h2
  rw [Nat.mul_add, ← Nat.mul_assoc]
  omega
theorem Dq.step {B y1 y0 n u q r : Nat} (h : Dq B y1 y0 n u q r) (hn : n < y1 * B + y0) (hu : u < B) (hc : B ≤ q ∨ B * r + u < q * y0) :
    1 ≤ q ∧ Dq B y1 y0 n u (q - 1) (r + y1) := by
  have hq : 1 ≤ q := by
    rcases Nat.eq_zero_or_pos q with h0 | h0
    · subst h0; rcases hc with hc | hc
      · omega
      · simp at hc
    · exact h0
  obtain ⟨p, rfl⟩ : ∃ p, q = p + 1 := ⟨q - 1, by omega⟩
  refine ⟨hq, ⟨by have := h.e; rw [Nat.add_mul, Nat.one_mul] at this; simp only [Nat.add_sub_cancel]; omega, ?_⟩⟩
  simp only [Nat.add_sub_cancel]
  rcases hc with hc | hc
  · have h1 : (n + 1) * B ≤ (y1 * B + y0) * B := Nat.mul_le_mul_right B hn
    have h2 : (y1 * B + y0) * B ≤ (y1 * B + y0) * (p + 1) := Nat.mul_le_mul_left _ hc
    rw [Nat.add_mul, Nat.one_mul] at h1
    rw [Nat.mul_comm (p + 1)]
    omega
  · have := h.e
    have e2 : n * B = (p + 1) * y1 * B + r * B := by rw [← this, Nat.add_mul]
    rw [Nat.mul_add, ← Nat.mul_assoc, Nat.mul_comm r B] at *
    omega
theorem Dq.done {B y1 y0 n u q r : Nat} (h : Dq B y1 y0 n u q r) (hc : q * y0 ≤ B * r + u) : q = (n * B + u) / (y1 * B + y0) := by
  have e2 : n * B = q * y1 * B + r * B := by rw [← h.e, Nat.add_mul]
  have hi := h.hi
  have lo : q * (y1 * B + y0) ≤ n * B + u := by
    rw [Nat.mul_add, ← Nat.mul_assoc]; rw [Nat.mul_comm r B] at e2; omega
  symm
  rw [Nat.div_eq_iff (by
    rcases Nat.eq_zero_or_pos (y1 * B + y0) with h0 | h0
    · rw [h0] at hi; omega
    · exact h0)]
  refine ⟨lo, ?_⟩
  rw [Nat.add_mul, Nat.one_mul] at hi; omega
theorem Dq.done2 {B y1 y0 n u q r : Nat} (h : Dq B y1 y0 n u q r) (hn : n < y1 * B + y0) (hy0 : y0 < B) (hr : B ≤ r) : q < B ∧ q = (n * B + u) / (y1 * B + y0) := by
  have he := h.e
  have hq : q < B := by
    refine Nat.lt_of_not_le fun hge => ?_
    have := Nat.mul_le_mul_right y1 hge
    rw [Nat.mul_comm B y1] at this
    omega
  refine ⟨hq, h.done ?_⟩
  have h1 : q * y0 ≤ B * B := Nat.mul_le_mul (by omega) (by omega)
  have h2 : B * B ≤ B * r := Nat.mul_le_mul_left _ hr
  omega
theorem div_two {B n u1 u0 y : Nat} (hy : 0 < y) :
    ((n * B + u1) / y * B + ((n * B + u1) % y * B + u0) / y = (n * B * B + u1 * B + u0) / y) ∧ ((n * B + u1) % y * B + u0) % y = (n * B * B + u1 * B + u0) % y := by
  have h1 := Nat.div_add_mod (n * B + u1) y
  generalize (n * B + u1) / y = q1 at *
  generalize (n * B + u1) % y = r1 at *
  have h2 := Nat.div_add_mod (r1 * B + u0) y
  have hl := Nat.mod_lt (r1 * B + u0) hy
  generalize (r1 * B + u0) / y = q0 at *
  generalize (r1 * B + u0) % y = r0 at *
  have e : n * B * B + u1 * B + u0 = y * (q1 * B + q0) + r0 := by
    rw [← Nat.add_mul, ← h1, Nat.add_mul, Nat.mul_add, Nat.mul_assoc]; omega
  rw [e]
  constructor
  · rw [Nat.mul_add_div hy, Nat.div_eq_of_lt hl]; rfl
  · rw [Nat.mul_add_mod, Nat.mod_eq_of_lt hl]
theorem div_shift (N y s : Nat) (hs : 0 < s) : N * s / (y * s) = N / y ∧ N * s % (y * s) / s = N % y := by
  refine ⟨Nat.mul_div_mul_right _ _ hs, ?_⟩
  rw [Nat.mul_mod_mul_right, Nat.mul_div_cancel _ hs]
theorem shift_two {W S T hi lo : Nat} (hST : S * T = W) (hS : 0 < S) : (hi * S + lo / T) * W + lo * S % W = (hi * W + lo) * S := by
  have e1 : lo / T = lo * S / W := by
    rw [← hST, Nat.mul_comm S T]
    exact (Nat.mul_div_mul_right lo T hS).symm
  rw [e1]
  have := Nat.div_add_mod (lo * S) W
  rw [Nat.add_mul, Nat.add_mul, Nat.mul_right_comm hi S W, Nat.mul_comm (lo * S / W) W]
  omega
theorem shift_lt {S T hi lo y W : Nat} (hST : S * T = W) (hT : 0 < T) (hlo : lo < W) (hy : hi < y) : hi * S + lo / T < y * S := by
  have h1 : lo / T < S := Nat.div_lt_of_lt_mul (by rw [Nat.mul_comm, hST]; exact hlo)
  have h2 : (hi + 1) * S ≤ y * S := Nat.mul_le_mul_right _ hy
  rw [Nat.add_mul, Nat.one_mul] at h2
  omega
theorem div_words {B W S T hi lo y un1 un0 q1 q0 : Nat} (hW : W = B * B) (hST : S * T = W) (hS : 0 < S) (hT : 0 < T) (hlo : lo < W) (hy : hi < y)
    (h1 : lo * S % W = un1 * B + un0)
    (e1 : q1 = ((hi * S + lo / T) * B + un1) / (y * S)) (e0 : q0 = (((hi * S + lo / T) * B + un1) % (y * S) * B + un0) / (y * S)) :
    q1 * B + q0 = (hi * W + lo) / y ∧ (((hi * S + lo / T) * B + un1) % (y * S) * B + un0) % (y * S) / S = (hi * W + lo) % y := by
  have hyS : 0 < y * S := Nat.mul_pos (by omega) hS
  have hd := div_two (B := B) (n := hi * S + lo / T) (u1 := un1) (u0 := un0) hyS
  have hs := shift_two (hi := hi) (lo := lo) hST hS
  have e : (hi * S + lo / T) * B * B + un1 * B + un0 = (hi * W + lo) * S := by
    rw [← hs, h1, hW, Nat.mul_assoc]; omega
  rw [e] at hd
  have hz := div_shift (hi * W + lo) y S hS
  rw [hz.1] at hd
  rw [e1, e0, hd.2]
  exact ⟨hd.1, hz.2⟩
theorem digit_right {N v r d top bor p : Nat} (e : p + d * v + N * top = r + N * bor) (hle : bor ≤ top) (hlt : r < (d + 1) * v) (hv : v ≤ N) : p + d * v = r ∧ p < v := by
  obtain ⟨t, rfl⟩ : ∃ t, top = bor + t := ⟨top - bor, by omega⟩
  rw [Nat.add_mul, Nat.one_mul] at hlt
  rw [Nat.mul_add] at e
  rcases Nat.eq_zero_or_pos t with h0 | h0
  · subst h0; simp at e; omega
  · have : N * 1 ≤ N * t := Nat.mul_le_mul_left _ h0
    omega
theorem digit_less {N v r d top bor p p2 c : Nat} (e : p + d * v + N * top = r + N * bor) (hlt : top < bor) (hp : p < N) (hd : d * v < r + v) (e2 : p2 + N * c = p + v) (hp2 : p2 < N) (hv : v ≤ N) :
    1 ≤ d ∧ p2 + (d - 1) * v = r ∧ p2 < v := by
  obtain ⟨t, rfl⟩ : ∃ t, bor = top + 1 + t := ⟨bor - top - 1, by omega⟩
  rw [Nat.mul_add, Nat.mul_add, Nat.mul_one] at e
  have hN : N * t = 0 ∨ N ≤ N * t := by
    rcases Nat.eq_zero_or_pos t with h0 | h0
    · left; rw [h0, Nat.mul_zero]
    · right; have := Nat.mul_le_mul_left N h0; omega
  have hd1 : 1 ≤ d := by
    rcases Nat.eq_zero_or_pos d with h0 | h0
    · subst h0; simp at e; omega
    · exact h0
  obtain ⟨f, rfl⟩ : ∃ f, d = f + 1 := ⟨d - 1, by omega⟩
  rw [Nat.add_mul, Nat.one_mul] at e hd
  simp only [Nat.add_sub_cancel]
  have hc : c = 0 ∨ c = 1 ∨ 2 ≤ c := by omega
  refine ⟨hd1, ?_⟩
  rcases hc with rfl | rfl | hc
  · simp at e2; omega
  · simp at e2; omega
  · have := Nat.mul_le_mul_left N hc; omega
theorem digit_est {W first second N2 v Vlow r Rlow high mid low d : Nat} (hf : W ≤ 2 * first) (hW : 2 ≤ W) (hv : v = (first * W + second) * N2 + Vlow) (hV : Vlow < N2)
    (hr : r = (high * W * W + mid * W + low) * N2 + Rlow) (hR : Rlow < N2) (hs : second < W) (hmid : mid < W) (hlow : low < W) (hlt : r < W * v)
    (hd : d = if first ≤ high then W - 1 else (high * W * W + mid * W + low) / (first * W + second)) : d < W ∧ r < (d + 1) * v ∧ d * v < r + v := by
  have hfW : 0 < first * W := Nat.mul_pos (by omega) (by omega)
  by_cases h : first ≤ high
  · rw [if_pos h] at hd
    subst hd
    refine ⟨by omega, ?_⟩
    have sN : second * N2 + N2 ≤ W * N2 := by
      have := Nat.mul_le_mul_right N2 (show second + 1 ≤ W from hs)
      rwa [Nat.add_mul, Nat.one_mul] at this
    have lN : low * N2 + N2 ≤ W * N2 := by
      have := Nat.mul_le_mul_right N2 (show low + 1 ≤ W from hlow)
      rwa [Nat.add_mul, Nat.one_mul] at this
    refine est_top W first (W * N2) r v high mid (second * N2 + Vlow) (low * N2 + Rlow) hf hW ?_ (by omega) ?_ h hlt
    · rw [hv, Nat.add_mul, Nat.mul_assoc]; omega
    · rw [hr, Nat.add_mul, Nat.add_mul]
      have e1 : high * W * W * N2 = high * (W * N2 * W) := by rw [Nat.mul_assoc, Nat.mul_assoc, Nat.mul_right_comm W N2 W, ← Nat.mul_assoc W W N2]
      have e2 : mid * W * N2 = mid * (W * N2) := Nat.mul_assoc _ _ _
      rw [e1, e2]; omega
  · rw [if_neg h] at hd
    have hD : 0 < first * W + second := by omega
    have a1 := Nat.div_add_mod (high * W * W + mid * W + low) (first * W + second)
    have a2 := Nat.mod_lt (high * W * W + mid * W + low) hD
    rw [← hd] at a1
    generalize (high * W * W + mid * W + low) % (first * W + second) = z at *
    rw [Nat.mul_comm] at a1
    have h1 : d * (first * W + second) ≤ high * W * W + mid * W + low := by omega
    have h2 : high * W * W + mid * W + low < (d + 1) * (first * W + second) := by rw [Nat.add_mul, Nat.one_mul]; omega
    have hdW : d < W := by
      refine Nat.lt_of_not_le fun hge => ?_
      have b1 : W * (first * W + second) ≤ d * (first * W + second) := Nat.mul_le_mul_right _ hge
      have b2 : (high + 1) * W * W ≤ first * W * W := Nat.mul_le_mul_right _ (Nat.mul_le_mul_right _ (by omega))
      have b3 : (mid + 1) * W ≤ W * W := Nat.mul_le_mul_right _ hmid
      rw [Nat.add_mul, Nat.add_mul, Nat.one_mul] at b2
      rw [Nat.add_mul, Nat.one_mul] at b3
      rw [Nat.mul_add, Nat.mul_comm W (first * W)] at b1
      omega
    exact ⟨hdW, est W first second high mid low N2 r v d Vlow Rlow hf hdW hv hV hr hR h1 h2⟩
theorem three_words {W : Nat} (hW : 1 < W) (cur : List Nat) (hc : Dg W cur) (i m : Nat) (hi : i + m + 2 < cur.length) (v : Nat) (hv : v ≤ W ^ (m + 2)) (hlt : V W (cur.drop (i + 1)) < v)
    (hi0 : i + m + 2 < cur.length) :
    ∃ Rlow, Rlow < W ^ m ∧ V W (cur.drop i) = (cur[i + m + 2] * W * W + cur[i + m + 1] * W + cur[i + m]) * W ^ m + Rlow ∧ V W (cur.drop i) < W * v := by
  have hd := hc.drop i
  have e0 := V_drop_succ (B := W) cur i (by omega)
  have hx := hc.get i (by omega)
  have hr : V W (cur.drop i) < W * v := by
    rw [e0]
    have := Nat.mul_le_mul_left W (show V W (cur.drop (i + 1)) + 1 ≤ v from hlt)
    rw [Nat.mul_add, Nat.mul_one] at this
    omega
  have g0 : cur[i + m] = V W (cur.drop i) / W ^ m % W := by
    rw [← dig_get (cur.drop i) hd m (by simp; omega)]; simp
  have g1 : cur[i + m + 1] = V W (cur.drop i) / W ^ (m + 1) % W := by
    rw [← dig_get (cur.drop i) hd (m + 1) (by simp; omega)]; simp [Nat.add_assoc]
  have g2 : cur[i + m + 2] = V W (cur.drop i) / W ^ (m + 2) % W := by
    rw [← dig_get (cur.drop i) hd (m + 2) (by simp; omega)]; simp [Nat.add_assoc]
  generalize V W (cur.drop i) = r at *
  refine ⟨r % W ^ m, Nat.mod_lt _ (Nat.pow_pos (by omega)), ?_, hr⟩
  have p1 : W ^ (m + 1) = W ^ m * W := Nat.pow_succ ..
  have p2 : W ^ (m + 2) = W ^ m * (W * W) := by rw [Nat.pow_succ, Nat.pow_succ, Nat.mul_assoc]
  have hb : r / W ^ m < W * (W * W) := by
    refine Nat.div_lt_of_lt_mul (Nat.lt_of_lt_of_le hr ?_)
    rw [Nat.mul_left_comm]; exact Nat.mul_le_mul_left W (p2 ▸ hv)
  rw [p1, ← Nat.div_div_eq_div_mul] at g1
  rw [p2, ← Nat.div_div_eq_div_mul] at g2
  have hq := Nat.div_add_mod r (W ^ m)
  rw [g0, g1, g2]
  generalize r / W ^ m = q at *
  have c1 : q / (W * W) % W = q / (W * W) := Nat.mod_eq_of_lt (Nat.div_lt_of_lt_mul (by rw [Nat.mul_comm]; exact hb))
  have c2 := Nat.div_add_mod q W
  have c3 := Nat.div_add_mod (q / W) W
  rw [Nat.div_div_eq_div_mul] at c3
  have e : q / (W * W) % W * W * W + q / W % W * W + q % W = q := by
    rw [c1, ← Nat.add_mul, Nat.mul_comm (q / (W * W)) W, c3, Nat.mul_comm (q / W) W, c2]
  rw [e, Nat.mul_comm q]; omega
theorem shl_parts {W S T x : Nat} (hST : S * T = W) (hS : 0 < S) : x * S % W + W * (x / T) = x * S := by
  have e1 : x / T = x * S / W := by
    rw [← hST, Nat.mul_comm S T]; exact (Nat.mul_div_mul_right x T hS).symm
  rw [e1]; exact Nat.mod_add_div _ _
theorem shl_low {W S T x : Nat} (hST : S * T = W) : x * S % W = x % T * S := by
  rw [← hST, Nat.mul_comm S T, Nat.mul_mod_mul_right]
theorem up_step {W S T : Nat} (hW : 1 < W) (hST : S * T = W) (hS : 0 < S) (hT : 0 < T) (cu : List Nat) (k x v : Nat) (hk : k + 1 < cu.length) (hx : x < W) (h0 : cu[k + 1] = 0) (hv : V W cu = v * S) :
    V W ((cu.set k (cu[k] + x * S % W)).set (k + 1) (x / T)) = (v + W ^ k * x) * S ∧ x / T < S := by
  refine ⟨?_, Nat.div_lt_of_lt_mul (by rw [Nat.mul_comm, hST]; exact hx)⟩
  have h1 := V_set (B := W) cu k (cu[k] + x * S % W) (by omega)
  have hl : (k + 1) < (cu.set k (cu[k] + x * S % W)).length := by simpa using hk
  have h2 := V_set (B := W) (cu.set k (cu[k] + x * S % W)) (k + 1) (x / T) hl
  have e0 : (cu.set k (cu[k] + x * S % W))[k + 1] = 0 := by
    rw [List.getElem_set_ne (by omega)]; exact h0
  rw [e0, Nat.mul_zero, Nat.add_zero] at h2
  have h3 := shl_parts (x := x) hST hS
  have h4 := congrArg (W ^ k * ·) h3
  simp only [Nat.mul_add] at h4
  rw [Nat.mul_add] at h1
  rw [h2, Nat.add_mul, Nat.pow_succ]
  rw [← Nat.mul_assoc] at h4
  rw [hv] at h1
  rw [Nat.mul_assoc (W ^ k) x S]
  omega
theorem down_step {W S T : Nat} (hW : 1 < W) (hST : S * T = W) (hS : 0 < S) (hT : 0 < T) (cu : List Nat) (k x v : Nat) (hk : k + 1 < cu.length) (hx : x < W) (h0 : cu[k + 1] = 0) (hv : V W cu = v / S) :
    V W ((cu.set (k + 1) (x / S)).set k (cu[k] + x * T % W)) = (v + W ^ (k + 1) * x) / S ∧ x / S < T := by
  refine ⟨?_, Nat.div_lt_of_lt_mul (by rw [hST]; exact hx)⟩
  have h1 := V_set (B := W) cu (k + 1) (x / S) hk
  have hl : k < (cu.set (k + 1) (x / S)).length := by simp; omega
  have h2 := V_set (B := W) (cu.set (k + 1) (x / S)) k (cu[k] + x * T % W) hl
  have e0 : (cu.set (k + 1) (x / S))[k] = cu[k] := by
    rw [List.getElem_set_ne (by omega)]
  rw [e0, Nat.mul_add] at h2
  rw [h0, Nat.mul_zero, Nat.add_zero] at h1
  have h3 := shl_parts (x := x) (S := T) (T := S) (W := W) (by rw [Nat.mul_comm]; exact hST) hT
  have h4 := congrArg (W ^ k * ·) h3
  simp only [Nat.mul_add] at h4
  have e5 : (v + W ^ (k + 1) * x) / S = v / S + W ^ k * (x * T) := by
    have : W ^ (k + 1) * x = S * (W ^ k * (x * T)) := by
      have e6 : W * x = S * (x * T) := by rw [← hST, Nat.mul_assoc, Nat.mul_comm T x]
      rw [Nat.pow_succ, Nat.mul_assoc, e6, Nat.mul_left_comm]
    rw [this, Nat.add_mul_div_left _ _ hS]
  rw [e5, ← hv]
  rw [Nat.pow_succ, Nat.mul_assoc] at h1
  omega
theorem down_first {W S : Nat} (cu : List Nat) (x : Nat) (hk : 0 < cu.length) (h0 : cu[0] = 0) (hv : V W cu = 0) : V W (cu.set 0 (x / S)) = x / S := by
  have h1 := V_set (B := W) cu 0 (x / S) hk
  rw [h0, hv] at h1; simpa using h1
structure KInv (W n Lq v U k : Nat) (cu cq : List Nat) : Prop where
  lu : cu.length = n + 1
  du : Dg W cu
  lq : cq.length = Lq
  dq : Dg W cq
  zq : ∀ j, j < k → cq[j]? = some 0
  eq : V W cu + v * V W cq = U
  lt : V W (cu.drop k) < v
theorem same_parts {cu cu1 : List Nat} {i m : Nat} (h : ∀ j, j < i ∨ i + m ≤ j → cu1[j]? = cu[j]?) : cu1.take i = cu.take i ∧ cu1.drop (i + m) = cu.drop (i + m) := by
  constructor
  · apply List.ext_getElem?
    intro j
    rw [List.getElem?_take, List.getElem?_take]
    by_cases hj : j < i
    · rw [if_pos hj, if_pos hj]; exact h j (.inl hj)
    · rw [if_neg hj, if_neg hj]
  · apply List.ext_getElem?
    intro j
    rw [List.getElem?_drop, List.getElem?_drop]
    exact h _ (.inr (by omega))
theorem drop_level {W : Nat} (hW : 0 < W) {cu cu1 : List Nat} {i m A b : Nat} (hi : i ≤ cu.length) (hl : cu1.length = cu.length) (ht : cu1.take i = cu.take i) (e : V W cu1 + W ^ i * A = V W cu + W ^ (i + m) * b) :
    V W (cu1.drop i) + A = V W (cu.drop i) + W ^ m * b := by
  have h1 := V_take_drop (B := W) cu i hi
  have h2 := V_take_drop (B := W) cu1 i (by omega)
  rw [ht] at h2
  have hp : 0 < W ^ i := Nat.pow_pos hW
  apply Nat.eq_of_mul_eq_mul_left hp
  rw [Nat.mul_add, Nat.mul_add, ← Nat.mul_assoc, ← Nat.pow_add]
  omega
theorem V_zero_of {W : Nat} {xs : List Nat} {i m v : Nat} (hW : 0 < W) (hi : i + m ≤ xs.length) (hlt : V W (xs.drop i) < v) (hv : v ≤ W ^ m) : V W (xs.drop (i + m)) = 0 := by
  have h := V_take_drop (B := W) (xs.drop i) m (by simp; omega)
  rw [List.drop_drop] at h
  rcases Nat.eq_zero_or_pos (V W (xs.drop (i + m))) with h0 | h0
  · exact h0
  · have := Nat.mul_le_mul_left (W ^ m) h0
    omega
theorem knuth_sub {W n Lq v U i m A bor : Nat} {cu cq cu1 : List Nat} (hW : 1 < W) (h : KInv W n Lq v U (i + 1) cu cq) (hv : v ≤ W ^ m) (him : i + m ≤ n) (hl : cu1.length = cu.length) (hd : Dg W cu1)
    (e : V W cu1 + W ^ i * A = V W cu + W ^ (i + m) * bor) (hs : ∀ j, j < i ∨ i + m ≤ j → cu1[j]? = cu[j]?) (him2 : i + m < cu.length) :
    V W ((cu1.drop i).take m) + A + W ^ m * cu[i + m] = V W (cu.drop i) + W ^ m * bor ∧ V W ((cu1.drop i).take m) < W ^ m := by
  have hlu := h.lu
  obtain ⟨h1, h2⟩ := same_parts hs
  have h3 := drop_level (by omega) (by omega) hl h1 e
  have h4 := V_take_drop (B := W) (cu1.drop i) m (by simp; omega)
  rw [List.drop_drop, h2] at h4
  have h5 := V_drop_succ (B := W) cu (i + m) him2
  have h6 := V_zero_of (xs := cu) (i := i + 1) (m := m) (by omega) (by omega) h.lt hv
  rw [show i + 1 + m = i + m + 1 by omega] at h6
  rw [h6, Nat.mul_zero, Nat.add_zero] at h5
  rw [h5] at h4
  have h7 := ((hd.drop i).take m).lt
  have h8 : W ^ ((cu1.drop i).take m).length ≤ W ^ m := Nat.pow_le_pow_right (by omega) (List.length_take_le _ _)
  exact ⟨by omega, by omega⟩
theorem clear_top {W n Lq v U i m : Nat} {cu cq cu1 : List Nat} (hW : 1 < W) (h : KInv W n Lq v U (i + 1) cu cq) (hv : v ≤ W ^ m) (him : i + m ≤ n) (hl : cu1.length = cu.length)
    (hs : ∀ j, j < i ∨ i + m ≤ j → cu1[j]? = cu[j]?) :
    V W ((cu1.set (i + m) 0).drop i) = V W ((cu1.drop i).take m) ∧ (cu1.set (i + m) 0).take i = cu.take i := by
  have hlu := h.lu
  obtain ⟨h1, h2⟩ := same_parts hs
  have him1 : i + m < cu1.length := by omega
  have h4 := V_take_drop (B := W) ((cu1.set (i + m) 0).drop i) m (by simp; omega)
  rw [List.drop_drop] at h4
  have e1 : ((cu1.set (i + m) 0).drop i).take m = (cu1.drop i).take m := by
    apply List.ext_getElem?
    intro j
    rw [List.getElem?_take, List.getElem?_take]
    by_cases hj : j < m
    · rw [if_pos hj, if_pos hj, List.getElem?_drop, List.getElem?_drop, List.getElem?_set_ne (by omega)]
    · rw [if_neg hj, if_neg hj]
  have e2 : V W ((cu1.set (i + m) 0).drop (i + m)) = 0 := by
    have h5 := V_drop_succ (B := W) (cu1.set (i + m) 0) (i + m) (by simpa using him1)
    have h6 : (cu1.set (i + m) 0).drop (i + m + 1) = cu.drop (i + m + 1) := by
      apply List.ext_getElem?
      intro j
      rw [List.getElem?_drop, List.getElem?_drop, List.getElem?_set_ne (by omega)]
      exact hs _ (.inr (by omega))
    have h7 := V_zero_of (xs := cu) (i := i + 1) (m := m) (by omega) (by omega) h.lt hv
    rw [show i + 1 + m = i + m + 1 by omega] at h7
    rw [h6, h7] at h5
    rw [h5]; simp
  rw [e1, e2, Nat.mul_zero, Nat.add_zero] at h4
  refine ⟨h4, ?_⟩
  apply List.ext_getElem?
  intro j
  rw [List.getElem?_take, List.getElem?_take]
  by_cases hj : j < i
  · rw [if_pos hj, if_pos hj, List.getElem?_set_ne (by omega)]; exact hs j (.inl hj)
  · rw [if_neg hj, if_neg hj]
theorem KInv.next {W n Lq v U i d : Nat} {cu cq cu2 : List Nat} (hW : 0 < W) (h : KInv W n Lq v U (i + 1) cu cq) (hi : i < n) (hiq : i < Lq) (hl : cu2.length = cu.length) (hd2 : Dg W cu2) (ht : cu2.take i = cu.take i)
    (hd : d < W) (e : V W (cu2.drop i) + d * v = V W (cu.drop i)) (hlt : V W (cu2.drop i) < v) : KInv W n Lq v U i cu2 (cq.set i d) := by
  have hlu := h.lu
  have hlq := h.lq
  refine ⟨by omega, hd2, by simpa using hlq, h.dq.set _ _ hd, fun j hj => ?_, ?_, hlt⟩
  · rw [List.getElem?_set_ne (by omega)]; exact h.zq j (by omega)
  · have h1 := V_take_drop (B := W) cu i (by omega)
    have h2 := V_take_drop (B := W) cu2 i (by omega)
    rw [ht] at h2
    have h3 := V_set (B := W) cq i d (by omega)
    have h0 : cq[i]'(by omega) = 0 := by
      have := h.zq i (by omega)
      rw [List.getElem?_eq_getElem (by omega)] at this
      simpa using this
    rw [h0, Nat.mul_zero, Nat.add_zero] at h3
    rw [← h.eq, h3, h1, h2, ← e, Nat.mul_add, Nat.mul_add]
    have : v * (W ^ i * d) = W ^ i * (d * v) := by rw [Nat.mul_left_comm, Nat.mul_comm v d]
    omega
theorem KInv.done {W n Lq v U : Nat} {cu cq : List Nat} (h : KInv W n Lq v U 0 cu cq) : V W cq = U / v ∧ V W cu = U % v := by
  have h1 := h.lt
  rw [List.drop_zero] at h1
  have h2 := h.eq
  rw [Nat.add_comm] at h2
  constructor
  · rw [← h2, Nat.mul_add_div (by omega), Nat.div_eq_of_lt h1, Nat.add_zero]
  · rw [← h2, Nat.mul_add_mod, Nat.mod_eq_of_lt h1]
theorem KInv.start {W n m v U S : Nat} {cu : List Nat} (hW : 1 < W) (hm : 1 ≤ m) (hmn : m ≤ n) (lu : cu.length = n + 1) (du : Dg W cu) (eu : V W cu = U * S) (hU : U < W ^ n) (hv : W ^ (m - 1) * S ≤ v) (hS : 0 < S) :
    KInv W n (n + 1 - m) v (U * S) (n + 1 - m) cu (List.replicate (n + 1 - m) 0) := by
  refine ⟨lu, du, by simp, Dg.zeros (by omega) _, fun j hj => by simp [hj], by rw [V_zeros, eu]; simp, ?_⟩
  rw [V_drop_eq cu du _ (by omega), eu]
  refine Nat.div_lt_of_lt_mul ?_
  have h1 : U * S < W ^ n * S := Nat.mul_lt_mul_of_pos_right hU hS
  have h2 : W ^ (n + 1 - m) * (W ^ (m - 1) * S) ≤ W ^ (n + 1 - m) * v := Nat.mul_le_mul_left _ hv
  rw [← Nat.mul_assoc, ← Nat.pow_add, show n + 1 - m + (m - 1) = n by omega] at h2
  omega
theorem two_top {W : Nat} (hW : 1 < W) (vs : List Nat) (hd : Dg W vs) (m : Nat) (hl : vs.length = m + 2) : ∃ Vlow, Vlow < W ^ m ∧ V W vs = (vs[m + 1] * W + vs[m]) * W ^ m + Vlow := by
  have h1 := V_take_drop (B := W) vs m (by omega)
  have h2 := V_drop_succ (B := W) vs m (by omega)
  have h3 := V_drop_succ (B := W) vs (m + 1) (by omega)
  rw [show vs.drop (m + 1 + 1) = [] from List.drop_of_length_le (by omega)] at h3
  rw [h3] at h2
  rw [h2] at h1
  refine ⟨V W (vs.take m), ?_, ?_⟩
  · have := (hd.take m).lt
    rw [List.length_take, Nat.min_eq_left (by omega)] at this
    exact this
  · rw [h1, Nat.mul_comm (W ^ m)]; simp
    rw [Nat.mul_comm W, Nat.add_comm vs[m], Nat.add_comm]
theorem norm_top {W S T : Nat} (hW : 1 < W) (hST : S * T = W) (vs zs : List Nat) (hv : Dg W vs) (hz : Dg W zs) (m t : Nat) (lv : vs.length = m + 2) (lz : zs.length = m + 2 + 1) (ht : t = vs[m + 1])
    (e : V W zs = V W vs * S) (h1 : W ≤ 2 * (t * S)) (h2 : t * S < W) (hS : 0 < S) :
    V W zs < W ^ (m + 2) ∧ W ≤ 2 * zs[m + 1] ∧ V W (zs.take (m + 2)) = V W zs ∧ W ^ (m + 1) * S ≤ V W zs := by
  have a1 := V_take_drop (B := W) vs (m + 1) (by omega)
  have a2 := V_drop_succ (B := W) vs (m + 1) (by omega)
  rw [show vs.drop (m + 1 + 1) = [] from List.drop_of_length_le (by omega), ← ht] at a2
  simp only [V_nil, Nat.mul_zero, Nat.add_zero] at a2
  rw [a2] at a1
  have a3 := (hv.take (m + 1)).lt
  rw [List.length_take, Nat.min_eq_left (by omega)] at a3
  generalize V W (vs.take (m + 1)) = lo at *
  have hp : 0 < W ^ (m + 1) := Nat.pow_pos (by omega)
  have hT : t < T := by
    refine Nat.lt_of_not_le fun hge => ?_
    have := Nat.mul_le_mul_left S hge
    rw [hST, Nat.mul_comm] at this; omega
  have b1 : (t + 1) * S ≤ W := by rw [← hST, Nat.mul_comm S]; exact Nat.mul_le_mul_right _ hT
  have b2 : (lo + 1) * S ≤ W ^ (m + 1) * S := Nat.mul_le_mul_right _ a3
  have b3 : W ^ (m + 1) * ((t + 1) * S) ≤ W ^ (m + 1) * W := Nat.mul_le_mul_left _ b1
  have c0 : V W zs = lo * S + W ^ (m + 1) * (t * S) := by rw [e, a1, Nat.add_mul, Nat.mul_assoc]
  rw [Nat.add_mul, Nat.one_mul] at b2
  rw [Nat.add_mul, Nat.one_mul, Nat.mul_add] at b3
  have p2 : W ^ (m + 2) = W ^ (m + 1) * W := Nat.pow_succ ..
  have lt : V W zs < W ^ (m + 2) := by rw [p2]; omega
  have d1 := V_take_drop (B := W) zs (m + 2) (by omega)
  have d0 : V W (zs.drop (m + 2)) = 0 := by rw [V_drop_eq zs hz _ (by omega)]; exact Nat.div_eq_of_lt lt
  rw [d0, Nat.mul_zero, Nat.add_zero] at d1
  refine ⟨lt, ?_, d1.symm, ?_⟩
  · rw [dig_get zs hz (m + 1) (by omega), c0, Nat.add_mul_div_left _ _ hp]
    have f1 : lo * S / W ^ (m + 1) + t * S < W := by
      rw [← Nat.add_mul_div_left _ _ hp, ← c0]
      refine Nat.div_lt_of_lt_mul ?_
      rw [← p2]; exact lt
    rw [Nat.mod_eq_of_lt f1]
    generalize lo * S / W ^ (m + 1) = q at *
    omega
  · have t1 : 1 ≤ t := by
      rcases Nat.eq_zero_or_pos t with h0 | h0
      · subst h0; simp at h1; omega
      · exact h0
    have : W ^ (m + 1) * (1 * S) ≤ W ^ (m + 1) * (t * S) := Nat.mul_le_mul_left _ (Nat.mul_le_mul_right _ t1)
    rw [Nat.one_mul] at this; omega
end Nm
namespace Go.Proofs.YtjpkncgfpbhnaaaGreatDoor
open Go.RowKit Nm
def IsLz (x s : Nat) : Prop := s ≤ 63 ∧ 9223372036854775808 ≤ x * 2 ^ s ∧ x * 2 ^ s < 18446744073709551616
theorem isLz_of (x l : Nat) (h : 1 ≤ l ∧ 2 ^ (l - 1) ≤ x ∧ x < 2 ^ l) (hl : l ≤ 64) : IsLz x (64 - l) := by
  obtain ⟨h1, h2, h3⟩ := h
  have p : 0 < 2 ^ (64 - l) := Nat.pow_pos (by omega)
  refine ⟨by omega, ?_, ?_⟩
  · have := Nat.mul_le_mul_right (2 ^ (64 - l)) h2
    rw [← Nat.pow_add, show l - 1 + (64 - l) = 63 by omega] at this
    exact this
  · have := Nat.mul_lt_mul_of_pos_right h3 p
    rw [← Nat.pow_add, show l + (64 - l) = 64 by omega] at this
    exact this
theorem lz_any (x : Nat) (h0 : 0 < x) (hx : x < W64) (w : World) :
    Calls Tryz.prog 264 #[.int .u64 x] w fun e w' => ∃ s : Nat, s ≤ 63 ∧ e = .returned (.int .i64 s) ∧ Hid (IsLz x s) ∧ w = w' := by
  have hb := bitLen_spec x hx
  have hb' : 1 ≤ Lib.bitLen x ∧ 2 ^ (Lib.bitLen x - 1) ≤ x ∧ x < 2 ^ Lib.bitLen x := by
    rcases hb with ⟨h, _⟩ | h
    · omega
    · exact h
  have HB := hid hb'
  clear hb hb'
  go_enter Tryz.func264, Tryz.ntmps264
  go_wp2_with (go_at_call 252; refine (len64_any x hx _).mono ?_; rintro e w' ⟨l, hl, HL, rfl, rfl⟩)
  go_ret
  have hz := HB.out
  rw [← HL.out] at hz
  have h1 := isLz_of x l hz hl
  exact ⟨64 - l, h1.1, ret_eq (congrArg (Value.int IntKind.i64) (by omega)), hid h1, rfl⟩
theorem two_pow_cut (s : Nat) (hs : s ≤ 63) : 2 ^ s * 2 ^ (64 - s) = W64 := by rw [← Nat.pow_add, show s + (64 - s) = 64 by omega]; decide
theorem Dq_qlt {B y1 y0 n u q r : Nat} (h : Dq B y1 y0 n u q r) (hy : 0 < y1) : q ≤ n := by
  have := h.e
  have := Nat.le_mul_of_pos_right q hy
  omega
set_option maxHeartbeats 1000000 in
theorem div64_any (hi lo y : Nat) (hlt : hi < y) (hy : y < W64) (hlo : lo < W64) (w : World) :
    Calls Tryz.prog 236 #[.int .u64 hi, .int .u64 lo, .int .u64 y] w fun e w' => e = .returned (.tuple #[.int .u64 ((hi * W64 + lo) / y : Nat), .int .u64 ((hi * W64 + lo) % y : Nat)]) ∧ ∃ n, w' = w.drewN n := by
  have hy1 : (1 : Int) ≤ (y : Int) := by omega
  have hlt' : ¬ ((y : Int) ≤ (hi : Int)) := by omega
  have hy0 : (((y : Int) == 0) = false) := beq_eq_false_iff_ne.2 (by omega)
  have L1 := hid (lz_any y (by omega) hy w)
  by_cases h0 : hi = 0
  · subst h0
    have e1 : IntKind.u64.wrap ((lo : Int) / (y : Int)) = ((lo / y : Nat) : Int) := by rw [← Int.natCast_ediv]; exact wrap_in _ (Nat.lt_of_le_of_lt (Nat.div_le_self _ _) hlo)
    have e2 : (lo : Int).tmod (y : Int) = ((lo % y : Nat) : Int) := rfl
    have hz : (((0 : Nat) : Int) == 0) = true := rfl
    rw [Nat.zero_mul, Nat.zero_add]
    go_enter Tryz.func236, Tryz.ntmps236
    go_wp2
    go_quiet (fail)
    go_wp2
    go_ret2
    exact ⟨rfl, _, rfl⟩
  · have hi0 : (((hi : Int) == 0) = false) := beq_eq_false_iff_ne.2 (by omega)
    go_enter Tryz.func236, Tryz.ntmps236
    go_upto_region 8 with (first
      | (go_at_call 264; (with_reducible refine (L1.out).mono ?_); rintro e w' ⟨s, hs, rfl, HL, rfl⟩))
    have hz := HL.out
    obtain ⟨hs1, hs2, hs3⟩ := hz
    obtain ⟨Y, hY⟩ : ∃ Y, Y = y * 2 ^ s := ⟨_, rfl⟩
    obtain ⟨H, hH⟩ : ∃ H, H = hi * 2 ^ s := ⟨_, rfl⟩
    obtain ⟨L, hL⟩ : ∃ L, L = lo / 2 ^ (64 - s) := ⟨_, rfl⟩
    obtain ⟨X, hX⟩ : ∃ X, X = lo * 2 ^ s % W64 := ⟨_, rfl⟩
    have hXb : X < W64 := by rw [hX]; exact Nat.mod_lt _ (by decide)
    have hHb : H < Y := by rw [hH, hY]; exact Nat.mul_lt_mul_of_pos_right hlt (Nat.pow_pos (by omega))
    have hYb : Y < W64 := by rw [hY]; exact hs3
    have hYl : 9223372036854775808 ≤ Y := by rw [hY]; exact hs2
    have hNY : H + L < Y := by rw [hH, hL, hY]; exact shift_lt (two_pow_cut s hs) (Nat.pow_pos (by omega)) hlo hlt
    have hLs : L < 2 ^ s := by
      rw [hL]; exact Nat.div_lt_of_lt_mul (by rw [Nat.mul_comm, two_pow_cut s hs]; exact hlo)
    have eY : IntKind.u64.wrap ((y : Int) * 2 ^ s) = (Y : Int) := by
      rw [hY, show ((y : Int) * 2 ^ s) = ((y * 2 ^ s : Nat) : Int) by simp, wrap_in _ hs3]
    have eH : IntKind.u64.wrap ((hi : Int) * 2 ^ s) = (H : Int) := by
      rw [show ((hi : Int) * 2 ^ s) = ((hi * 2 ^ s : Nat) : Int) by simp, ← hH, wrap_in _ (Nat.lt_trans hHb hYb)]
    have eL : (lo : Int) / 2 ^ (64 - s) = (L : Int) := by rw [hL]; simp
    have eX : IntKind.u64.wrap ((lo : Int) * 2 ^ s) = (X : Int) := by
      rw [show ((lo : Int) * 2 ^ s) = ((lo * 2 ^ s : Nat) : Int) by simp, wrap_mod, hX]; rfl
    have eO : bits .or .u64 (H : Int) (L : Int) = ((H + L : Nat) : Int) := by
      rw [bits_or_u64_nat _ _ (Nat.lt_trans hHb hYb) (by have := Nat.lt_trans hNY hYb; unfold W64 at this; omega), nat_join s _ _ (by rw [hH]; exact Nat.mul_mod_left _ _) hLs]
    obtain ⟨y1, hy1'⟩ : ∃ y1, y1 = Y / 4294967296 := ⟨_, rfl⟩
    obtain ⟨y0, hy0'⟩ : ∃ y0, y0 = Y % 4294967296 := ⟨_, rfl⟩
    obtain ⟨x1, hx1'⟩ : ∃ x1, x1 = X / 4294967296 := ⟨_, rfl⟩
    obtain ⟨x0, hx0'⟩ : ∃ x0, x0 = X % 4294967296 := ⟨_, rfl⟩
    have d1 : (Y : Int) / 4294967296 = (y1 : Int) := by omega
    have d0 : bits .and .u64 (Y : Int) 4294967295 = (y0 : Int) := by rw [and_low _ hYb, hy0']
    have c1 : (X : Int) / 4294967296 = (x1 : Int) := by omega
    have c0 : bits .and .u64 (X : Int) 4294967295 = (x0 : Int) := by rw [and_low _ hXb, hx0']
    obtain ⟨N, hN⟩ : ∃ N, N = H + L := ⟨_, rfl⟩
    rw [← hN] at eO hNY
    have HH := hid (And.intro hH (And.intro hL (And.intro hX (And.intro hY (And.intro hN hs3)))))
    have HYd : Hid (Y = y1 * 4294967296 + y0 ∧ y0 < 4294967296 ∧ y1 < 4294967296 ∧ 2147483648 ≤ y1 ∧ N < y1 * 4294967296 + y0) := hid (by unfold W64 at hYb; omega)
    have HXd : Hid (X = x1 * 4294967296 + x0 ∧ x0 < 4294967296 ∧ x1 < 4294967296) := hid (by unfold W64 at hXb; omega)
    have hy1p : (1 : Int) ≤ (y1 : Int) := by have := HYd.out; omega
    have hN0 : (0 : Int) ≤ (N : Int) := by omega
    have HXYb := hid (And.intro hXb (And.intro hYb hYl))
    clear hH hL hX hY hN hs1 hs2 hs3 hy1' hy0' hx1' hx0' hXb hHb hYb hYl hNY hLs HL
    obtain ⟨q, hq⟩ : ∃ q, q = N / y1 := ⟨_, rfl⟩
    obtain ⟨r, hr⟩ : ∃ r, r = N % y1 := ⟨_, rfl⟩
    obtain ⟨m, hm⟩ : ∃ m, m = q * y1 := ⟨_, rfl⟩
    have hqr : m + r = N := by rw [hm, hq, hr, Nat.mul_comm]; exact Nat.div_add_mod N y1
    have hq64 : N < W64 := by have := HXYb.out.2.1; have := HYd.out; omega
    unfold W64 at hq64
    have f1 : IntKind.u64.wrap ((N : Int) / (y1 : Int)) = (q : Int) := by
      rw [hq, ← Int.natCast_ediv]; exact wrap_in _ (Nat.lt_of_le_of_lt (Nat.div_le_self _ _) hq64)
    have f2 : IntKind.u64.wrap ((q : Int) * (y1 : Int)) = (m : Int) := by rw [cast_mul, ← hm]; exact wrap_in _ (by omega)
    have f3 : IntKind.u64.wrap ((N : Int) - (m : Int)) = (r : Int) := by rw [IntKind.wrap_u64]; omega
    have hy10 : 0 < y1 := by omega
    have HQ : Hid (r < 4294967296 ∧ Dq 4294967296 y1 y0 N x1 q r) := hid (by
      rw [hq, hr]
      refine ⟨by have := Nat.mod_lt N hy10; have := HYd.out; omega, Dq.start hy10 HXd.out.2.2⟩)
    have HN := hid hq64
    clear hq hr hm hqr hq64 hy10
    go_upto_block 0 with fail
    clear eY eH eL eX eO d1 d0 c1 c0 f1 f2 f3
    go_cut [15] (fun s15 wx => w = wx ∧ ∃ q : Nat, s15 = .int .u64 q ∧ Hid (q < 4294967296 ∧ q = (N * 4294967296 + x1) / (y1 * 4294967296 + y0)))
    case first =>
      go_wp2_with fail
      go_loop [15, 16] (fun s15 s16 => ∃ q r : Nat, s15 = .int .u64 q ∧ s16 = .int .u64 r ∧ Hid (r < 4294967296 ∧ Dq 4294967296 y1 y0 N x1 q r)) (fun s15 _ => (intOf s15).toNat)
      case atStart => exact ⟨q, r, rfl, rfl, HQ⟩
      case round =>
        clear HQ
        obtain ⟨q, r, rfl, rfl, HQ⟩ := hrel
        have step : (4294967296 ≤ q ∨ 4294967296 * r + x1 < q * y0) → ∃ p r2 : Nat, IntKind.u64.wrap ((q : Int) - 1) = (p : Int) ∧ IntKind.u64.wrap ((r : Int) + (y1 : Int)) = (r2 : Int) ∧ p < q ∧ Hid (Dq 4294967296 y1 y0 N x1 p r2) := fun hc => by
          obtain ⟨h1, h2⟩ := HQ.out.2.step HYd.out.2.2.2.2 HXd.out.2.2 hc
          refine ⟨q - 1, r + y1, ?_, ?_, by omega, hid h2⟩
          · rw [IntKind.wrap_u64]; have := Dq_qlt HQ.out.2 (by have := HYd.out.2.2.2.1; omega); have := HN.out; omega
          · rw [IntKind.wrap_u64]; have := HQ.out.1; have := HYd.out.2.2.1; omega
        have fin : ∀ q r : Nat, Dq 4294967296 y1 y0 N x1 q r → q < 4294967296 ∧ q * y0 ≤ 4294967296 * r + x1 → Hid (q < 4294967296 ∧ q = (N * 4294967296 + x1) / (y1 * 4294967296 + y0)) := fun q r h1 h2 => hid ⟨h2.1, h1.done h2.2⟩
        have FIN := hid fin
        clear fin
        by_cases hge : 4294967296 ≤ q
        · obtain ⟨p, r2, e1, e2, hpq, H2⟩ := step (.inl hge)
          have hge' : (4294967296 : Int) ≤ (q : Int) := by omega
          clear step
          by_cases hr2 : 4294967296 ≤ r2
          · have hr2' : (4294967296 : Int) ≤ (r2 : Int) := by omega
            have Hd := hid (H2.out.done2 HYd.out.2.2.2.2 HYd.out.2.1 hr2)
            go_wp2
            go_meet
            exact ⟨rfl, p, rfl, Hd⟩
          · have hr2' : ¬ (4294967296 : Int) ≤ (r2 : Int) := by omega
            go_wp2
            exact ⟨⟨p, r2, rfl, rfl, hid ⟨by omega, H2.out⟩⟩, by simp [intOf]; omega⟩
        · obtain ⟨m, hm⟩ : ∃ m, m = q * y0 := ⟨_, rfl⟩
          obtain ⟨z, hz⟩ : ∃ z, z = 4294967296 * r := ⟨_, rfl⟩
          obtain ⟨t, ht⟩ : ∃ t, t = 4294967296 * r + x1 := ⟨_, rfl⟩
          rw [← hm, ← ht] at step
          have hge' : ¬ (4294967296 : Int) ≤ (q : Int) := by omega
          have hmb : m < 18446744073709551616 := by
            have h1 : q * y0 ≤ 4294967295 * 4294967295 := Nat.mul_le_mul (by omega) (by have := HYd.out.2.1; omega)
            omega
          have g1 : IntKind.u64.wrap ((q : Int) * (y0 : Int)) = (m : Int) := by rw [cast_mul, ← hm]; exact wrap_in _ hmb
          have g2 : IntKind.u64.wrap (4294967296 * (r : Int)) = (z : Int) := by rw [IntKind.wrap_u64]; have := HQ.out.1; omega
          have g3 : IntKind.u64.wrap ((z : Int) + (x1 : Int)) = (t : Int) := by rw [IntKind.wrap_u64]; have := HQ.out.1; have := HXd.out.2.2; omega
          have HM := hid hm
          have HT := hid ht
          clear hm ht hmb hz
          by_cases hgt : t < m
          · obtain ⟨p, r2, e1, e2, hpq, H2⟩ := step (.inr hgt)
            have hgt' : (t : Int) < (m : Int) := by omega
            clear step
            by_cases hr2 : 4294967296 ≤ r2
            · have hr2' : (4294967296 : Int) ≤ (r2 : Int) := by omega
              have Hd := hid (H2.out.done2 HYd.out.2.2.2.2 HYd.out.2.1 hr2)
              go_wp2
              go_meet
              exact ⟨rfl, p, rfl, Hd⟩
            · have hr2' : ¬ (4294967296 : Int) ≤ (r2 : Int) := by omega
              go_wp2
              exact ⟨⟨p, r2, rfl, rfl, hid ⟨by omega, H2.out⟩⟩, by simp [intOf]; omega⟩
          · have hgt' : ¬ (t : Int) < (m : Int) := by omega
            have Hd := FIN.out q r HQ.out.2 ⟨by omega, by rw [← HM.out, ← HT.out]; omega⟩
            clear step
            go_wp2
            go_meet
            exact ⟨rfl, q, rfl, Hd⟩
    case rest =>
      obtain ⟨rfl, q1, rfl, HQ1⟩ := hcut
      have hYe := HYd.out.1
      have hYb := HXYb.out.2.1
      unfold W64 at hYb
      have hYp : 0 < Y := by omega
      obtain ⟨R, hR⟩ : ∃ R, R = (N * 4294967296 + x1) % Y := ⟨_, rfl⟩
      have hRY : R < Y := by rw [hR]; exact Nat.mod_lt _ hYp
      obtain ⟨C, hC⟩ : ∃ C, C = q1 * Y := ⟨_, rfl⟩
      have hCR : C + R = N * 4294967296 + x1 := by
        rw [hC, hR, HQ1.out.2, ← hYe, Nat.mul_comm]; exact Nat.div_add_mod _ _
      obtain ⟨A, hA⟩ : ∃ A, A = N * 4294967296 % 18446744073709551616 := ⟨_, rfl⟩
      obtain ⟨D, hD⟩ : ∃ D, D = C % 18446744073709551616 := ⟨_, rfl⟩
      obtain ⟨E, hE⟩ : ∃ E, E = (A + x1) % 18446744073709551616 := ⟨_, rfl⟩
      have f1 : IntKind.u64.wrap ((N : Int) * 4294967296) = (A : Int) := by rw [IntKind.wrap_u64]; omega
      have f2 : IntKind.u64.wrap ((A : Int) + (x1 : Int)) = (E : Int) := by rw [IntKind.wrap_u64]; omega
      have f3 : IntKind.u64.wrap ((q1 : Int) * (Y : Int)) = (D : Int) := by rw [cast_mul, ← hC, wrap_mod, hD]
      have f4 : IntKind.u64.wrap ((E : Int) - (D : Int)) = (R : Int) := by rw [IntKind.wrap_u64]; omega
      obtain ⟨q, hq⟩ : ∃ q, q = R / y1 := ⟨_, rfl⟩
      obtain ⟨r, hr⟩ : ∃ r, r = R % y1 := ⟨_, rfl⟩
      obtain ⟨m, hm⟩ : ∃ m, m = q * y1 := ⟨_, rfl⟩
      have hqr : m + r = R := by rw [hm, hq, hr, Nat.mul_comm]; exact Nat.div_add_mod R y1
      have hq64 : R < 18446744073709551616 := by omega
      have f5 : IntKind.u64.wrap ((R : Int) / (y1 : Int)) = (q : Int) := by
        rw [hq, ← Int.natCast_ediv]; exact wrap_in _ (Nat.lt_of_le_of_lt (Nat.div_le_self _ _) hq64)
      have f6 : IntKind.u64.wrap ((q : Int) * (y1 : Int)) = (m : Int) := by rw [cast_mul, ← hm]; exact wrap_in _ (by omega)
      have f7 : IntKind.u64.wrap ((R : Int) - (m : Int)) = (r : Int) := by rw [IntKind.wrap_u64]; omega
      have hy10 : 0 < y1 := by omega
      have HQ : Hid (r < 4294967296 ∧ Dq 4294967296 y1 y0 R x0 q r) := hid (by
        rw [hq, hr]
        refine ⟨by have := Nat.mod_lt R hy10; have := HYd.out; omega, Dq.start hy10 HXd.out.2.1⟩)
      have HR := hid hq64
      have HRY : Hid (R < y1 * 4294967296 + y0) := hid (by rw [← hYe]; exact hRY)
      have HRe := hid hR
      have hR0 : (0 : Int) ≤ (R : Int) := by omega
      clear hYe hYb hYp hR hRY hC hCR hA hD hE hq hr hm hqr hq64 hy10
      go_upto_block 2 with fail
      clear f1 f2 f3 f4 f5 f6 f7
      go_cut [18] (fun s15 wx => w = wx ∧ ∃ q : Nat, s15 = .int .u64 q ∧ Hid (q < 4294967296 ∧ q = (R * 4294967296 + x0) / (y1 * 4294967296 + y0)))
      case first =>
        go_wp2_with fail
        go_loop [18, 16] (fun s15 s16 => ∃ q r : Nat, s15 = .int .u64 q ∧ s16 = .int .u64 r ∧ Hid (r < 4294967296 ∧ Dq 4294967296 y1 y0 R x0 q r)) (fun s15 _ => (intOf s15).toNat)
        case atStart => exact ⟨q, r, rfl, rfl, HQ⟩
        case round =>
          clear HQ
          obtain ⟨q, r, rfl, rfl, HQ⟩ := hrel
          have step : (4294967296 ≤ q ∨ 4294967296 * r + x0 < q * y0) → ∃ p r2 : Nat, IntKind.u64.wrap ((q : Int) - 1) = (p : Int) ∧ IntKind.u64.wrap ((r : Int) + (y1 : Int)) = (r2 : Int) ∧ p < q ∧ Hid (Dq 4294967296 y1 y0 R x0 p r2) := fun hc => by
            obtain ⟨h1, h2⟩ := HQ.out.2.step HRY.out HXd.out.2.1 hc
            refine ⟨q - 1, r + y1, ?_, ?_, by omega, hid h2⟩
            · rw [IntKind.wrap_u64]; have := Dq_qlt HQ.out.2 (by have := HYd.out.2.2.2.1; omega); have := HR.out; omega
            · rw [IntKind.wrap_u64]; have := HQ.out.1; have := HYd.out.2.2.1; omega
          have fin : ∀ q r : Nat, Dq 4294967296 y1 y0 R x0 q r → q < 4294967296 ∧ q * y0 ≤ 4294967296 * r + x0 → Hid (q < 4294967296 ∧ q = (R * 4294967296 + x0) / (y1 * 4294967296 + y0)) := fun q r h1 h2 => hid ⟨h2.1, h1.done h2.2⟩
          have FIN := hid fin
          clear fin
          by_cases hge : 4294967296 ≤ q
          · obtain ⟨p, r2, e1, e2, hpq, H2⟩ := step (.inl hge)
            have hge' : (4294967296 : Int) ≤ (q : Int) := by omega
            clear step
            by_cases hr2 : 4294967296 ≤ r2
            · have hr2' : (4294967296 : Int) ≤ (r2 : Int) := by omega
              have Hd := hid (H2.out.done2 HRY.out HYd.out.2.1 hr2)
              go_wp2
              go_meet
              exact ⟨rfl, p, rfl, Hd⟩
            · have hr2' : ¬ (4294967296 : Int) ≤ (r2 : Int) := by omega
              go_wp2
              exact ⟨⟨p, r2, rfl, rfl, hid ⟨by omega, H2.out⟩⟩, by simp [intOf]; omega⟩
          · obtain ⟨m, hm⟩ : ∃ m, m = q * y0 := ⟨_, rfl⟩
            obtain ⟨z, hz⟩ : ∃ z, z = 4294967296 * r := ⟨_, rfl⟩
            obtain ⟨t, ht⟩ : ∃ t, t = 4294967296 * r + x0 := ⟨_, rfl⟩
            rw [← hm, ← ht] at step
            have hge' : ¬ (4294967296 : Int) ≤ (q : Int) := by omega
            have hmb : m < 18446744073709551616 := by
              have h1 : q * y0 ≤ 4294967295 * 4294967295 := Nat.mul_le_mul (by omega) (by have := HYd.out.2.1; omega)
              omega
            have g1 : IntKind.u64.wrap ((q : Int) * (y0 : Int)) = (m : Int) := by rw [cast_mul, ← hm]; exact wrap_in _ hmb
            have g2 : IntKind.u64.wrap (4294967296 * (r : Int)) = (z : Int) := by rw [IntKind.wrap_u64]; have := HQ.out.1; omega
            have g3 : IntKind.u64.wrap ((z : Int) + (x0 : Int)) = (t : Int) := by rw [IntKind.wrap_u64]; have := HQ.out.1; have := HXd.out.2.1; omega
            have HM := hid hm
            have HT := hid ht
            clear hm ht hmb hz
            by_cases hgt : t < m
            · obtain ⟨p, r2, e1, e2, hpq, H2⟩ := step (.inr hgt)
              have hgt' : (t : Int) < (m : Int) := by omega
              clear step
              by_cases hr2 : 4294967296 ≤ r2
              · have hr2' : (4294967296 : Int) ≤ (r2 : Int) := by omega
                have Hd := hid (H2.out.done2 HRY.out HYd.out.2.1 hr2)
                go_wp2
                go_meet
                exact ⟨rfl, p, rfl, Hd⟩
              · have hr2' : ¬ (4294967296 : Int) ≤ (r2 : Int) := by omega
                go_wp2
                exact ⟨⟨p, r2, rfl, rfl, hid ⟨by omega, H2.out⟩⟩, by simp [intOf]; omega⟩
            · have hgt' : ¬ (t : Int) < (m : Int) := by omega
              have Hd := FIN.out q r HQ.out.2 ⟨by omega, by rw [← HM.out, ← HT.out]; omega⟩
              clear step
              go_wp2
              go_meet
              exact ⟨rfl, q, rfl, Hd⟩
      case rest =>
        obtain ⟨rfl, q0, rfl, HQ0⟩ := hcut
        have hYe := HYd.out.1
        have hYb := HXYb.out.2.1
        unfold W64 at hYb
        have hYp : 0 < Y := by omega
        have hq1 := HQ1.out.1
        have hq0 := HQ0.out.1
        have hx0 := HXd.out.2.1
        obtain ⟨Z, hZ⟩ : ∃ Z, Z = (R * 4294967296 + x0) % Y := ⟨_, rfl⟩
        have hZY : Z < Y := by rw [hZ]; exact Nat.mod_lt _ hYp
        obtain ⟨C, hC⟩ : ∃ C, C = q0 * Y := ⟨_, rfl⟩
        have hCR : C + Z = R * 4294967296 + x0 := by
          rw [hC, hZ, HQ0.out.2, ← hYe, Nat.mul_comm]; exact Nat.div_add_mod _ _
        obtain ⟨A, hA⟩ : ∃ A, A = R * 4294967296 % 18446744073709551616 := ⟨_, rfl⟩
        obtain ⟨D, hD⟩ : ∃ D, D = C % 18446744073709551616 := ⟨_, rfl⟩
        obtain ⟨E, hE⟩ : ∃ E, E = (A + x0) % 18446744073709551616 := ⟨_, rfl⟩
        obtain ⟨F, hF⟩ : ∃ F, F = q1 * 4294967296 := ⟨_, rfl⟩
        obtain ⟨G, hG⟩ : ∃ G, G = F + q0 := ⟨_, rfl⟩
        have f0 : IntKind.u64.wrap ((q1 : Int) * 4294967296) = (F : Int) := by rw [IntKind.wrap_u64]; omega
        have f00 : IntKind.u64.wrap ((F : Int) + (q0 : Int)) = (G : Int) := by rw [IntKind.wrap_u64]; omega
        have f1 : IntKind.u64.wrap ((R : Int) * 4294967296) = (A : Int) := by rw [IntKind.wrap_u64]; omega
        have f2 : IntKind.u64.wrap ((A : Int) + (x0 : Int)) = (E : Int) := by rw [IntKind.wrap_u64]; omega
        have f3 : IntKind.u64.wrap ((q0 : Int) * (Y : Int)) = (D : Int) := by rw [cast_mul, ← hC, wrap_mod, hD]
        have f4 : IntKind.u64.wrap ((E : Int) - (D : Int)) = (Z : Int) := by rw [IntKind.wrap_u64]; omega
        have HG := hid (And.intro hG hF)
        have HZ := hid hZ
        have HYP := hid hYe
        clear hYe hYb hYp hq1 hq0 hx0 hZY hC hCR hA hD hE hZ hF hG
        go_wp2
        go_ret2
        obtain ⟨hH, hL, hX, hY, hN, hs3⟩ := HH.out
        have hS : 0 < 2 ^ s := Nat.pow_pos (by omega)
        have hT : 0 < 2 ^ (64 - s) := Nat.pow_pos (by omega)
        rw [← HYP.out] at HQ1 HQ0
        have hfin := div_words (B := 4294967296) (W := W64) (S := 2 ^ s) (T := 2 ^ (64 - s)) (hi := hi) (lo := lo) (y := y) (un1 := x1) (un0 := x0) (q1 := q1) (q0 := q0) (by decide) (two_pow_cut s hs) hS hT hlo hlt
          (by rw [← hX]; exact HXd.out.1) (by rw [← hH, ← hL, ← hN, ← hY]; exact HQ1.out.2) (by rw [← hH, ← hL, ← hN, ← hY, ← HRe.out]; exact HQ0.out.2)
        rw [← hH, ← hL, ← hN, ← hY, ← HRe.out, ← HZ.out] at hfin
        have k1 : (G : Int) = (((hi * W64 + lo) / y : Nat) : Int) := by rw [HG.out.1, HG.out.2, hfin.1]
        have k2 : (Z : Int) / 2 ^ s = (((hi * W64 + lo) % y : Nat) : Int) := by rw [← hfin.2]; simp
        rw [← k1, ← k2]
        exact ⟨rfl, 0, rfl⟩
end Go.Proofs.YtjpkncgfpbhnaaaGreatDoor
namespace Nm
theorem gcd_pow_right {x y k : Nat} (hx : x % 2 = 1) : Nat.gcd x (2 ^ k * y) = Nat.gcd x y := by
  have hc : Nat.Coprime x (2 ^ k) := by
    apply Nat.Coprime.pow_right
    have h1 : Nat.gcd x 2 ∣ 2 := Nat.gcd_dvd_right _ _
    have h2 : Nat.gcd x 2 ∣ x := Nat.gcd_dvd_left _ _
    have h3 : Nat.gcd x 2 ≤ 2 := Nat.le_of_dvd (by omega) h1
    have h4 : 0 < Nat.gcd x 2 := Nat.gcd_pos_of_pos_right _ (by omega)
    have : Nat.gcd x 2 ≠ 2 := fun e => by rw [e] at h2; omega
    show Nat.gcd x 2 = 1
    omega
  rw [Nat.gcd_comm, Nat.gcd_comm x y]
  exact Nat.Coprime.gcd_mul_left_cancel y hc.symm
theorem gcd_split {X Y t a p : Nat} (hX : X = 2 ^ a * p) (hp : p % 2 = 1) (h1 : X % 2 ^ t = 0) (h2 : Y % 2 ^ t = 0) (h3 : X / 2 ^ t % 2 = 1 ∨ Y / 2 ^ t % 2 = 1) : Nat.gcd X Y = 2 ^ t * Nat.gcd p Y := by
  have e1 : X = 2 ^ t * (X / 2 ^ t) := (Nat.mul_div_cancel' (Nat.dvd_of_mod_eq_zero h1)).symm
  have e2 : Y = 2 ^ t * (Y / 2 ^ t) := (Nat.mul_div_cancel' (Nat.dvd_of_mod_eq_zero h2)).symm
  have hpt : 0 < 2 ^ t := Nat.pow_pos (by omega)
  generalize X / 2 ^ t = x at *
  generalize Y / 2 ^ t = y at *
  have gY : Nat.gcd p Y = Nat.gcd p y := by rw [e2, gcd_pow_right hp]
  rw [gY, e1, e2, Nat.gcd_mul_left]
  congr 1
  -- a is at least t
  have hta : t ≤ a := by
    refine Nat.le_of_not_lt fun hlt => ?_
    obtain ⟨d, rfl⟩ : ∃ d, t = a + (d + 1) := ⟨t - a - 1, by omega⟩
    rw [hX, Nat.pow_add, Nat.mul_assoc] at e1
    have := Nat.eq_of_mul_eq_mul_left (Nat.pow_pos (by omega)) e1
    rw [Nat.pow_succ, Nat.mul_assoc, Nat.mul_left_comm, Nat.mul_comm] at this
    omega
  obtain ⟨d, rfl⟩ : ∃ d, a = t + d := ⟨a - t, by omega⟩
  rw [hX, Nat.pow_add, Nat.mul_assoc] at e1
  have ex : 2 ^ d * p = x := Nat.eq_of_mul_eq_mul_left hpt e1
  rcases h3 with h3 | h3
  · rcases Nat.eq_zero_or_pos d with h0 | h0
    · subst h0; rw [← ex]; simp
    · obtain ⟨f, rfl⟩ : ∃ f, d = f + 1 := ⟨d - 1, by omega⟩
      rw [← ex, Nat.pow_succ, Nat.mul_comm (2 ^ f), Nat.mul_assoc] at h3
      omega
  · rw [← ex, Nat.gcd_comm, gcd_pow_right h3, Nat.gcd_comm]
theorem or_zeros {X Y t m : Nat} (h : X ||| Y = 2 ^ t * (2 * m + 1)) : X % 2 ^ t = 0 ∧ Y % 2 ^ t = 0 ∧ (X / 2 ^ t % 2 = 1 ∨ Y / 2 ^ t % 2 = 1) := by
  have h1 : (X ||| Y) % 2 ^ t = 0 := by rw [h]; exact Nat.mul_mod_right _ _
  have h2 : (X ||| Y) / 2 ^ t = 2 * m + 1 := by rw [h]; exact Nat.mul_div_cancel_left _ (Nat.pow_pos (by omega))
  rw [Nat.or_mod_two_pow] at h1
  have hz : ∀ a b : Nat, a ||| b = 0 → a = 0 ∧ b = 0 := fun a b e => by
    have hl : a ≤ a ||| b := Nat.left_le_or
    have hr : b ≤ a ||| b := Nat.right_le_or
    omega
  obtain ⟨k1, k2⟩ := hz _ _ h1
  refine ⟨k1, k2, ?_⟩
  have h3 : ((X ||| Y) / 2 ^ t) % 2 = 1 := by omega
  have h4 : (X ||| Y).testBit t = true := by rw [Nat.testBit_eq_decide_div_mod_eq]; simpa using h3
  rw [Nat.testBit_or] at h4
  rcases Bool.or_eq_true_iff.1 h4 with h5 | h5
  · left; rw [Nat.testBit_eq_decide_div_mod_eq] at h5; simpa using h5
  · right; rw [Nat.testBit_eq_decide_div_mod_eq] at h5; simpa using h5
theorem gcd_round {x y G k z : Nat} (hx : x % 2 = 1) (hG : Nat.gcd x y = G) (hy : y = 2 ^ k * z) (hz : z % 2 = 1) :
    (x ≤ z → Nat.gcd x (z - x) = G) ∧ (z < x → Nat.gcd z (x - z) = G) := by
  have h1 : Nat.gcd x z = G := by rw [← hG, hy, gcd_pow_right hx]
  constructor
  · intro h; rw [Nat.gcd_sub_self_right h]; exact h1
  · intro h; rw [Nat.gcd_sub_self_right (by omega), Nat.gcd_comm]; exact h1
end Nm
namespace Go.Proofs.YtjpkncgfpbhnaaaGreatDoor
open Go.RowKit Nm
def Tb (w : World) : Prop := ∀ j, j < 64 → w.cell? ⟨5, j, none⟩ = some (.int .u8 (Lib.deBruijn64tab.getD j 0 : Nat))
theorem Tb.keep {w w' : World} (h : Tb w) (hg : w.grownBy w' none) : Tb w' := fun j hj => hg.cell (h j hj) (by simp)
theorem tz_key (x a : Nat) (hx : x < 18446744073709551616) (hx0 : x ≠ 0) (hlow : x &&& (18446744073709551616 - x) = a) :
    IntKind.u64.wrap (bits BinOp.and IntKind.u64 (x : Int) (IntKind.u64.wrap (-(x : Int))) * 285870213051353865) / 288230376151711744 = ((a * 285870213051353865 % 18446744073709551616 / 288230376151711744 : Nat) : Int) := by
  have e1 : IntKind.u64.wrap (-(x : Int)) = ((18446744073709551616 - x : Nat) : Int) := by rw [IntKind.wrap_u64]; omega
  rw [e1, bits_and_u64_nat x _ hx (by omega), hlow, IntKind.wrap_u64]
  omega
theorem tz64_core (x k idx : Nat) (w : World) (hx0 : ((x : Int) == 0) = false)
    (key : IntKind.u64.wrap (bits BinOp.and IntKind.u64 (x : Int) (IntKind.u64.wrap (-(x : Int))) * 285870213051353865) / 288230376151711744 = (idx : Int))
    (hi : idx < 64) (hk : k < 64) (hcell : w.cell? ⟨5, idx, none⟩ = some (.int .u8 k)) :
    Calls Tryz.prog 259 #[.int .u64 x] w fun e w' => e = .returned (.int .i64 k) ∧ w = w' := by
  go_enter Tryz.func259, Tryz.ntmps259
  go_wp2_with (simp only [key])
  go_ret
  exact ⟨rfl, rfl⟩
theorem tz64_any (x : Nat) (h0 : 0 < x) (hx : x < W64) (w : World) (hT : Tb w) :
    Calls Tryz.prog 259 #[.int .u64 x] w fun e w' => ∃ k : Nat, k < 64 ∧ e = .returned (.int .i64 k) ∧ Hid (∃ m, x = 2 ^ k * (2 * m + 1)) ∧ w = w' := by
  have hx' : x < 18446744073709551616 := hx
  obtain ⟨hlow, hk⟩ := Lib.lowest_bit 64 x (by omega) hx'
  obtain ⟨hi, htab⟩ := Lib.deBruijn64_at _ hk
  have hcell := hT _ hi
  rw [htab] at hcell
  have hc := tz64_core x _ _ w (beq_eq_false_iff_ne.2 (by omega)) (tz_key x _ hx' (by omega) hlow) hi hk hcell
  refine hc.mono fun e w' ⟨he, hw⟩ => ⟨_, hk, he, hid ?_, hw⟩
  unfold Lib.ctz
  rw [if_neg (by omega)]
  obtain ⟨m, hm, _⟩ := Lib.ctzFrom_spec 64 x h0 hx'
  exact ⟨m, hm⟩
set_option maxHeartbeats 1000000 in
theorem wordGcd_any (x y : Nat) (hx : x < W64) (hy : y < W64) (w : World) (hT : Tb w) :
    Calls Tryz.prog 229 #[.int .u64 x, .int .u64 y] w fun e w' => e = .returned (.int .u64 (Nat.gcd x y : Nat)) ∧ w = w' := by
  have hor : bits .or .u64 (x : Int) (y : Int) = ((x ||| y : Nat) : Int) := bits_or_u64_nat x y hx hy
  by_cases h0 : x = 0
  · subst h0
    have e0 : (((0 : Nat) : Int) == 0) = true := rfl
    rw [Nat.zero_or] at hor
    have hor' : bits .or .u64 (0 : Int) (y : Int) = (y : Int) := hor
    rw [Nat.gcd_zero_left]
    go_enter Tryz.func229, Tryz.ntmps229
    go_wp2
    go_ret
    exact ⟨rfl, rfl⟩
  · have e0 : (((x : Nat) : Int) == 0) = false := beq_eq_false_iff_ne.2 (by omega)
    by_cases h1 : y = 0
    · subst h1
      have e1 : (((0 : Nat) : Int) == 0) = true := rfl
      rw [Nat.or_zero] at hor
      have hor' : bits .or .u64 (x : Int) (0 : Int) = (x : Int) := hor
      rw [Nat.gcd_zero_right]
      go_enter Tryz.func229, Tryz.ntmps229
      go_wp2
      go_ret
      exact ⟨rfl, rfl⟩
    · have e1 : (((y : Nat) : Int) == 0) = false := beq_eq_false_iff_ne.2 (by omega)
      have hob : x ||| y < W64 := Nat.or_lt_two_pow (n := 64) hx hy
      have ho0 : 0 < x ||| y := Nat.lt_of_lt_of_le (by omega) (Nat.left_le_or (n := x) (m := y))
      obtain ⟨z, hz⟩ : ∃ z, z = x ||| y := ⟨_, rfl⟩
      rw [← hz] at hor hob ho0
      have HZ := hid hz
      have HOR := hid hor
      have HG := hid (rfl : Nat.gcd x y = Nat.gcd x y)
      have H1 := hid (tz64_any z ho0 hob w hT)
      have H2 := hid (tz64_any x (by omega) hx w hT)
      clear hz
      go_enter Tryz.func229, Tryz.ntmps229
      go_wp2_with fail
      refine H1.out.mono ?_
      rintro e w' ⟨t, ht, rfl, HT, rfl⟩
      go_wp2_with fail
      refine H2.out.mono ?_
      rintro e w' ⟨a, ha, rfl, HA, rfl⟩
      obtain ⟨m, hm⟩ := HT.out
      obtain ⟨p', hp⟩ := HA.out
      obtain ⟨c1, c2, c3⟩ := or_zeros (HZ.out.symm.trans hm)
      obtain ⟨P, hP⟩ : ∃ P, P = 2 * p' + 1 := ⟨_, rfl⟩
      rw [← hP] at hp
      have hP2 : P % 2 = 1 := by omega
      have hsplit := hid (gcd_split hp hP2 c1 c2 c3)
      have hxa : x / 2 ^ a = P := by rw [hp]; exact Nat.mul_div_cancel_left _ (Nat.pow_pos (by omega))
      have exa : (x : Int) / 2 ^ a = (P : Int) := by rw [← hxa]; simp
      have hPb : P < W64 := by rw [← hxa]; exact Nat.lt_of_le_of_lt (Nat.div_le_self _ _) hx
      have HP2 := hid hP2
      clear hm hp c1 c2 c3 hP hxa HT HA H1 H2 hor hP2 HOR
      go_wp2_with fail
      clear exa
      go_loop [0, 1] (fun s0 s1 => ∃ u v : Nat, s0 = .int .u64 u ∧ s1 = .int .u64 v ∧ u < W64 ∧ v < W64 ∧ Hid (u % 2 = 1 ∧ Nat.gcd u v = Nat.gcd P y)) (fun s0 s1 => (intOf s0 + intOf s1).toNat)
      case atStart => exact ⟨P, y, rfl, rfl, hPb, hy, hid ⟨HP2.out, rfl⟩⟩
      case round =>
        obtain ⟨u, v, rfl, rfl, hu, hv, HC⟩ := hrel
        by_cases hv0 : v = 0
        · subst hv0
          have ev : (((0 : Nat) : Int) != 0) = false := rfl
          have hg := HC.out.2
          rw [Nat.gcd_zero_right] at hg
          have hgb : u * 2 ^ t = Nat.gcd x y := by rw [hsplit.out, hg, Nat.mul_comm]
          have hlt : Nat.gcd x y < 18446744073709551616 := Nat.lt_of_le_of_lt (Nat.gcd_le_left y (by omega)) hx
          have esh : IntKind.u64.wrap ((u : Int) * 2 ^ t) = ((Nat.gcd x y : Nat) : Int) := by
            rw [show ((u : Int) * 2 ^ t) = ((u * 2 ^ t : Nat) : Int) by simp, hgb]; exact wrap_in _ hlt
          clear hg hgb hlt
          go_wp2_with fail
          go_ret
          exact ⟨rfl, rfl⟩
        · have ev : (((v : Nat) : Int) != 0) = true := by rw [bne_iff_ne]; omega
          go_wp2_with fail
          refine (tz64_any v (by omega) hv w hT).mono ?_
          rintro e w' ⟨k, hk, rfl, HK, rfl⟩
          obtain ⟨q', hq⟩ := HK.out
          obtain ⟨q, hq'⟩ : ∃ q, q = 2 * q' + 1 := ⟨_, rfl⟩
          rw [← hq'] at hq
          have hvk : v / 2 ^ k = q := by rw [hq]; exact Nat.mul_div_cancel_left _ (Nat.pow_pos (by omega))
          have evk : (v : Int) / 2 ^ k = (q : Int) := by rw [← hvk]; simp
          have hqv : q ≤ v := by rw [← hvk]; exact Nat.div_le_self _ _
          have hrd := hid (gcd_round HC.out.1 HC.out.2 hq (by omega))
          have HQ2 := hid (show q % 2 = 1 by omega)
          have hu1 : 1 ≤ u := by have := HC.out.1; omega
          have hq1 : 1 ≤ q := by omega
          clear hq hq' hvk HK ev
          by_cases hlt : q < u
          · have hlt' : (q : Int) < (u : Int) := by omega
            have esub : IntKind.u64.wrap ((u : Int) - (q : Int)) = ((u - q : Nat) : Int) := by rw [IntKind.wrap_u64]; unfold W64 at hu; omega
            obtain ⟨dd, hdd⟩ : ∃ dd, dd = u - q := ⟨_, rfl⟩
            rw [← hdd] at esub
            have hr := hid (hrd.out.2 hlt)
            rw [← hdd] at hr
            have HDD := hid hdd
            clear hdd
            go_wp2_with fail
            exact ⟨⟨q, dd, rfl, rfl, Nat.lt_of_le_of_lt hqv hv, by have := HDD.out; omega, hid ⟨HQ2.out, hr.out⟩⟩, by have := HDD.out; simp [intOf]; omega⟩
          · have hlt' : ¬ (q : Int) < (u : Int) := by omega
            have esub : IntKind.u64.wrap ((q : Int) - (u : Int)) = ((q - u : Nat) : Int) := by rw [IntKind.wrap_u64]; unfold W64 at hv; omega
            obtain ⟨dd, hdd⟩ : ∃ dd, dd = q - u := ⟨_, rfl⟩
            rw [← hdd] at esub
            have hr := hid (hrd.out.1 (by omega))
            rw [← hdd] at hr
            have HDD := hid hdd
            clear hdd
            go_wp2_with fail
            exact ⟨⟨u, dd, rfl, rfl, hu, by have := HDD.out; omega, hid ⟨HC.out.1, hr.out⟩⟩, by have := HDD.out; simp [intOf]; omega⟩
theorem trim16 (a : Option Addr) (n c : Nat) (xs : List Nat) (w : World) (h : IRd w .u16 a n c xs) :
    Calls Tryz.prog 194 #[.slice a n c] w fun e w' => e = .returned (.slice a (trimR xs).length c) ∧ w = w' := by
  have hl := h.len
  have hcap := h.cap
  have hmax := h.max
  have HL := hid hl
  clear hl
  go_enter Tryz.func194, Tryz.ntmps194
  go_wp2
  go_loop [0] (fun t => ∃ k : Nat, k ≤ n ∧ trimR xs = trimR (xs.take k) ∧ t = .slice a k c) (fun t => match t with | .slice _ k _ => k | _ => 0)
  case atStart => exact ⟨n, Nat.le_refl _, by rw [List.take_of_length_le (by rw [HL.out]; exact Nat.le_refl _)], rfl⟩
  case round =>
    obtain ⟨k, hk, hz, rfl⟩ := hrel
    have HZ := hid hz
    clear hz
    by_cases h0 : 0 < k
    · obtain ⟨i, rfl⟩ : ∃ i, k = i + 1 := ⟨k - 1, by omega⟩
      have hi : i < xs.length := by rw [HL.out]; omega
      obtain ⟨b, o, rfl, hci⟩ := h.cel i hi
      have ht := List.take_succ_eq_append_getElem hi
      obtain ⟨x, hx⟩ : ∃ x, x = xs[i] := ⟨_, rfl⟩
      rw [← hx] at hci ht
      have HT := hid ht
      clear ht hx h hi
      by_cases hf : x = 0
      · have HF := hid hf
        rw [hf] at hci
        clear hf
        go_wp2
        exact ⟨⟨i, by omega, by rw [HZ.out, HT.out, HF.out, trimR_snoc_zero], rfl⟩, by simp⟩
      · go_wp2
        go_ret
        exact ⟨by rw [HZ.out, HT.out, trimR_snoc hf]; simp; have := HL.out; omega, rfl⟩
    · obtain rfl : k = 0 := by omega
      go_wp2
      go_ret
      exact ⟨by rw [HZ.out]; simp [trimR], rfl⟩
theorem trim64 (a : Option Addr) (n c : Nat) (xs : List Nat) (w : World) (h : IRd w .u64 a n c xs) :
    Calls Tryz.prog 199 #[.slice a n c] w fun e w' => e = .returned (.slice a (trimR xs).length c) ∧ w = w' := by
  have hl := h.len
  have hcap := h.cap
  have hmax := h.max
  have HL := hid hl
  clear hl
  go_enter Tryz.func199, Tryz.ntmps199
  go_wp2
  go_loop [0] (fun t => ∃ k : Nat, k ≤ n ∧ trimR xs = trimR (xs.take k) ∧ t = .slice a k c) (fun t => match t with | .slice _ k _ => k | _ => 0)
  case atStart => exact ⟨n, Nat.le_refl _, by rw [List.take_of_length_le (by rw [HL.out]; exact Nat.le_refl _)], rfl⟩
  case round =>
    obtain ⟨k, hk, hz, rfl⟩ := hrel
    have HZ := hid hz
    clear hz
    by_cases h0 : 0 < k
    · obtain ⟨i, rfl⟩ : ∃ i, k = i + 1 := ⟨k - 1, by omega⟩
      have hi : i < xs.length := by rw [HL.out]; omega
      obtain ⟨b, o, rfl, hci⟩ := h.cel i hi
      have ht := List.take_succ_eq_append_getElem hi
      obtain ⟨x, hx⟩ : ∃ x, x = xs[i] := ⟨_, rfl⟩
      rw [← hx] at hci ht
      have HT := hid ht
      clear ht hx h hi
      by_cases hf : x = 0
      · have HF := hid hf
        rw [hf] at hci
        clear hf
        go_wp2
        exact ⟨⟨i, by omega, by rw [HZ.out, HT.out, HF.out, trimR_snoc_zero], rfl⟩, by simp⟩
      · go_wp2
        go_ret
        exact ⟨by rw [HZ.out, HT.out, trimR_snoc hf]; simp; have := HL.out; omega, rfl⟩
    · obtain rfl : k = 0 := by omega
      go_wp2
      go_ret
      exact ⟨by rw [HZ.out]; simp [trimR], rfl⟩
theorem or_join (v x : Nat) (hv : v < 281474976710656) (hx : x < 65536) : bits .or .u64 ((v : Int) * 65536) (x : Int) = ((v * 65536 + x : Nat) : Int) := by
  have e : ((v : Int) * 65536) = ((v * 65536 : Nat) : Int) := by simp
  rw [e, bits_or_u64_nat _ _ (by omega) (by omega), nat_join 16 _ _ (by omega) (by omega)]
theorem V_word {xs : List Nat} (h : Dg 65536 xs) (m : Nat) (hm : xs.length ≤ m) : V 65536 xs < 65536 ^ m :=
  Nat.lt_of_lt_of_le h.lt (Nat.pow_le_pow_right (by omega) hm)
theorem word_any (a : Option Addr) (n c : Nat) (xs : List Nat) (w : World) (h : IRd w .u16 a n c xs) (hd : Dg 65536 xs) (hn : n ≤ 4) :
    Calls Tryz.prog 196 #[.slice a n c] w fun e w' => e = .returned (.int .u64 (V 65536 xs : Nat)) ∧ w = w' := by
  have HL := hid h.len
  have hcap := h.cap
  have hmax := h.max
  go_enter Tryz.func196, Tryz.ntmps196
  go_wp2
  go_loop [3, 4] (fun t i => ∃ k : Nat, k ≤ n ∧ i = .int .i64 ((k : Int) - 1) ∧ t = .int .u64 (V 65536 (xs.drop k) : Nat)) (fun _ i => (intOf i + 1).toNat)
  case atStart => exact ⟨n, Nat.le_refl _, rfl, by rw [List.drop_of_length_le (by rw [HL.out]; exact Nat.le_refl _)]; rfl⟩
  case round =>
    obtain ⟨k, hk, rfl, rfl⟩ := hrel
    by_cases h0 : 0 < k
    · obtain ⟨i, rfl⟩ : ∃ i, k = i + 1 := ⟨k - 1, by omega⟩
      have hi : i < xs.length := by rw [HL.out]; omega
      obtain ⟨b, o, rfl, hci⟩ := h.cel i hi
      have ht := V_drop_succ (B := 65536) xs i hi
      have hxb := hd.get i hi
      have hvb := V_word (hd.drop (i + 1)) 3 (by rw [List.length_drop, HL.out]; omega)
      obtain ⟨x, hx⟩ : ∃ x, x = xs[i] := ⟨_, rfl⟩
      rw [← hx] at hci ht hxb
      obtain ⟨v, hv⟩ : ∃ v, v = V 65536 (xs.drop (i + 1)) := ⟨_, rfl⟩
      rw [← hv] at hvb ht ⊢
      have hvb' : v < 281474976710656 := hvb
      have HT := hid ht
      have HO := hid (or_join v x hvb' hxb)
      clear ht hx h hi hd hv hvb
      go_wp2
      exact ⟨⟨i, by omega, rfl, by rw [HO.out, HT.out]; congr 2; omega⟩, by simp [intOf]⟩
    · obtain rfl : k = 0 := by omega
      go_wp2
      go_ret
      exact ⟨by simp, rfl⟩
theorem clone_any (a : Option Addr) (n c : Nat) (xs : List Nat) (w : World) (h : IRd w .u16 a n c xs) (hn : n ≤ 1000000) :
    Calls Tryz.prog 228 #[.slice a n c] w fun e w' => e = .returned (.slice (some ⟨w.heap.size, 0, none⟩) n n) ∧ IRow w' w.heap.size 187 .u16 xs ∧ w.grownBy w' none := by
  go_enter Tryz.func228, Tryz.ntmps228
  go_wp2_with (first
    | (at_make; refine wl_make _ rfl _ _ 31 rfl 187 .u16 2 Tryz.underlying31 (by kernel_rfl) _ _ _ _ rfl rfl n rfl rfl (by omega) (by omega) ?_; intro w1 hr1 hg1)
    | (with_reducible refine wl_copy _ rfl (.tmp 7) (.tmp 8) 31 31 rfl 187 Tryz.underlying31 (by kernel_rfl) .u16 _ _ _ _ _ _ rfl rfl w.heap.size 0 187 _ xs hr1 (fun _ => rfl) (h.keep hg1) (by simp) ?_; intro w2 hr2 hg2))
  go_ret
  refine ⟨rfl, ?_, grown_new hg1 hg2 (fun g e => by cases e; exact Nat.le_refl _)⟩
  have e : splice (List.replicate n 0) 0 (xs.take n) = xs := by
    have := h.len
    rw [List.take_of_length_le (by omega)]
    simp [splice]; omega
  rwa [e] at hr2
theorem W64_eq : W64 = 65536 ^ 4 := by decide
theorem limb_of_word (N i : Nat) : N / W64 ^ (i / 4) % W64 / 2 ^ (i % 4 * 16) % 65536 = N / 65536 ^ i % 65536 := by
  have hj : i % 4 < 4 := Nat.mod_lt _ (by decide)
  have e2 : 2 ^ (i % 4 * 16) = 65536 ^ (i % 4) := by rw [Nat.mul_comm, Nat.pow_mul]
  have e3 : 65536 ^ i = W64 ^ (i / 4) * 65536 ^ (i % 4) := by
    rw [W64_eq, ← Nat.pow_mul, ← Nat.pow_add, Nat.div_add_mod]
  have e4 : W64 = 65536 ^ (i % 4) * 65536 ^ (4 - i % 4) := by rw [W64_eq, ← Nat.pow_add]; congr 1; omega
  rw [e2, e3, ← Nat.div_div_eq_div_mul]
  generalize N / W64 ^ (i / 4) = M
  rw [e4, Nat.mod_mul_right_div_self]
  exact Nat.mod_mod_of_dvd _ ⟨65536 ^ (3 - i % 4), by rw [← Nat.pow_succ']; congr 1; omega⟩
theorem unpack_size (xs : List Nat) (hd : Dg W64 xs) (top l : Nat) (ht : xs.length = top + 1) (t : Nat) (hg : xs[top]? = some t) (h0 : t ≠ 0) (hl : l = Lib.bitLen t) :
    V W64 xs < 65536 ^ (top * 4 + (l + 15) / 16) ∧ 65536 ^ (top * 4 + (l + 15) / 16 - 1) ≤ V W64 xs ∧ 1 ≤ l := by
  obtain ⟨htl, rfl⟩ := List.getElem?_eq_some_iff.1 hg
  have e := V_take_drop (B := W64) xs top (by omega)
  rw [V_drop_succ xs top htl, List.drop_of_length_le (by omega)] at e
  simp only [V_nil, Nat.mul_zero, Nat.add_zero] at e
  have h1 := (hd.take top).lt
  rw [List.length_take, Nat.min_eq_left (by omega)] at h1
  rcases bitLen_spec xs[top] (hd.get top htl) with ⟨h, _⟩ | ⟨b1, b2, b3⟩
  · exact absurd h h0
  rw [← hl] at b1 b2 b3
  generalize xs[top] = t at *
  have w4 : W64 ^ top = 65536 ^ (top * 4) := by rw [W64_eq, ← Nat.pow_mul, Nat.mul_comm]
  rw [w4] at e h1
  refine ⟨?_, ?_, b1⟩
  · have c1 : t < 65536 ^ ((l + 15) / 16) := by
      refine Nat.lt_of_lt_of_le b3 ?_
      rw [show (65536 : Nat) = 2 ^ 16 from rfl, ← Nat.pow_mul]
      exact Nat.pow_le_pow_right (by omega) (by omega)
    rw [Nat.pow_add]
    have c2 : 65536 ^ (top * 4) * (t + 1) ≤ 65536 ^ (top * 4) * 65536 ^ ((l + 15) / 16) := Nat.mul_le_mul_left _ c1
    rw [Nat.mul_add, Nat.mul_one] at c2
    omega
  · have c1 : 65536 ^ ((l + 15) / 16 - 1) ≤ t := by
      refine Nat.le_trans ?_ b2
      rw [show (65536 : Nat) = 2 ^ 16 from rfl, ← Nat.pow_mul]
      exact Nat.pow_le_pow_right (by omega) (by omega)
    rw [show top * 4 + (l + 15) / 16 - 1 = top * 4 + ((l + 15) / 16 - 1) by omega, Nat.pow_add, e]
    exact Nat.le_trans (Nat.mul_le_mul_left _ c1) (Nat.le_add_left _ _)
set_option maxHeartbeats 1000000 in
theorem unpack_any (a : Option Addr) (n c : Nat) (xs : List Nat) (w : World) (h : IRd w .u64 a n c xs) (hd : Dg W64 xs) (hn : n ≤ 1000000) :
    Calls Tryz.prog 220 #[.slice a n c] w fun e w' => ∃ a' c', e = .returned (.slice a' (dg 65536 (V W64 xs)).length c') ∧ IRd w' .u16 a' (dg 65536 (V W64 xs)).length c' (dg 65536 (V W64 xs)) ∧ w.grownBy w' none := by
  have hmax := h.max
  have hcap := h.cap
  have ht := h.take (trimR xs).length (by rw [← h.len]; exact trimR_length_le xs)
  rw [← trimR_eq_take] at ht
  have hv := V_trimR (B := W64) xs
  have hcan := Can_trimR hd
  have hm : (trimR xs).length ≤ n := by rw [← h.len]; exact trimR_length_le xs
  obtain ⟨ys, hys⟩ : ∃ ys, ys = trimR xs := ⟨_, rfl⟩
  obtain ⟨m, hm'⟩ : ∃ m, m = ys.length := ⟨_, rfl⟩
  rw [← hys] at ht hv hcan hm
  rw [← hm'] at ht hm
  have HM := hid hm'
  have HV := hid hv
  have HY := hid hys
  clear hm' hv hys
  by_cases h0 : m = 0
  · subst h0
    go_enter Tryz.func220, Tryz.ntmps220
    go_wp2_with (go_at_call 199; refine (trim64 a n c xs _ h).mono ?_; rw [← HY.out, ← HM.out]; rintro e w' ⟨rfl, rfl⟩)
    go_ret
    have : ys = [] := List.eq_nil_of_length_eq_zero HM.out.symm
    have e : dg 65536 (V W64 xs) = [] := by rw [← HV.out, this]; rfl
    rw [e]
    exact ⟨none, 0, rfl, IRd.nil _ _, grown_refl _ _⟩
  · obtain ⟨top, rfl⟩ : ∃ top, m = top + 1 := ⟨m - 1, by omega⟩
    obtain ⟨b, o, rfl, hcell⟩ := ht.cel top (by rw [← HM.out]; omega)
    have htl : top < ys.length := by rw [← HM.out]; omega
    obtain ⟨t, htt⟩ : ∃ t, t = ys[top] := ⟨_, rfl⟩
    rw [← htt] at hcell
    have htb : t < W64 := by rw [htt]; exact hcan.1.get top htl
    have HT := hid htt
    clear htt
    go_enter Tryz.func220, Tryz.ntmps220
    go_wp2_with (first
      | (go_at_call 199; refine (trim64 _ n c xs _ h).mono ?_; rw [← HY.out, ← HM.out]; rintro e w' ⟨rfl, rfl⟩)
      | (go_at_call 252; refine (len64_any t htb _).mono ?_; rintro e w' ⟨l, hl, HL, rfl, rfl⟩)
      | (at_make; refine wl_make _ rfl _ _ 31 rfl 187 .u16 2 Tryz.underlying31 (by kernel_rfl) _ _ _ _ rfl rfl (top * 4 + (l + 15) / 16) (by omega) (by omega) (by omega) (by omega) ?_; intro w1 hr1 hg1))
    have hsz := unpack_size ys hcan.1 top l (by rw [← HM.out]) t (by rw [HT.out]; exact List.getElem?_eq_getElem htl) (by
      rw [HT.out]; intro hz; apply hcan.2
      rw [List.getLast?_eq_getElem?, show ys.length - 1 = top by rw [← HM.out]; omega, List.getElem?_eq_getElem htl, hz]) HL.out
    have hl1 := hsz.2.2
    have HS := hid hsz
    obtain ⟨g, hg⟩ : ∃ g, g = w.heap.size := ⟨_, rfl⟩
    rw [← hg] at hr1 ⊢
    have HG := hid hg
    clear hsz hg
    obtain ⟨q, hq⟩ : ∃ q, q = top * 4 + (l + 15) / 16 := ⟨_, rfl⟩
    have hqi : (top : Int) * 4 + ((l : Int) + 15) / 16 = (q : Int) := by omega
    rw [hqi, ← hq]
    rw [← hq] at hr1
    have hqb : q ≤ 4000004 := by omega
    have HQ := hid hq
    clear hq hqi
    go_loopw [30] (fun i wr => ∃ k : Nat, ∃ cur : List Nat, k ≤ q ∧ i = .int .i64 k ∧ IRow wr g 187 .u16 cur ∧ w1.grownBy wr (some g) ∧ Hid (cur.length = q ∧ ∀ j, j < k → cur[j]? = some (V W64 ys / 65536 ^ j % 65536)))
      (fun i _ => q - (intOf i).toNat)
    case atStart => exact ⟨0, _, Nat.zero_le _, rfl, hr1, grown_refl _ _, hid ⟨by simp, fun j hj => by omega⟩⟩
    case round =>
      obtain ⟨k, cur, hk, rfl, hrow, hgr, HC⟩ := hrel
      by_cases hlt : k < q
      · have hk4 : k / 4 < ys.length := by rw [← HM.out]; have := HQ.out; omega
        obtain ⟨b', o', hbo, hc4⟩ := ht.cel (k / 4) hk4
        cases hbo
        have hc4' := (hg1.cell hc4 (by simp))
        have hc4'' := hgr.cell hc4' (by
          intro e
          have := World.block_lt_of_cell? _ _ hc4
          have h2 := HG.out
          simp at e this; omega)
        obtain ⟨x, hx⟩ : ∃ x, x = ys[k / 4] := ⟨_, rfl⟩
        rw [← hx] at hc4''
        have hxb : x < W64 := by rw [hx]; exact hcan.1.get _ hk4
        have HX := hid hx
        have hcl : k < cur.length := by rw [HC.out.1]; exact hlt
        have hcc := hrow.cell k hcl
        have hfr := hrow.free k
        obtain ⟨y, hy⟩ : ∃ y, y = cur[k] := ⟨_, rfl⟩
        rw [← hy] at hcc
        clear hc4 hc4' hx hy hcell
        have hk0 : (0 : Int) ≤ (k : Int) / 4 := by omega
        have hk1 : (k : Int) / 4 < (top : Int) + 1 := by have := HQ.out; omega
        go_wp2_with (refine wl_shr _ rfl _ _ (.tmp 39) (.tmp 42) rfl .u64 .i64 x (k % 4 * 16) _ rfl rfl (by omega) (by have : k % 4 < 4 := Nat.mod_lt _ (by decide); show _ ≤ 64; omega) ?_; intro z HZ hz)
        refine ⟨⟨k + 1, _, by omega, rfl, hrow.setv k _ (z % 65536) (by rw [IntKind.wrap_u16]; omega), grown_trans hgr (grown_setCell _ _ _), hid ⟨by simpa using HC.out.1, fun j hj => ?_⟩⟩, by simp [intOf]; omega⟩
        by_cases hjk : j = k
        · subst hjk
          rw [List.getElem?_set_self hcl, HZ.out, HX.out, dig_get (B := W64) ys hcan.1 _ hk4, limb_of_word]
        · rw [List.getElem?_set_ne (Ne.symm hjk)]
          exact HC.out.2 j (by omega)
      · obtain rfl : k = q := by omega
        clear hcell
        go_wp2
        go_ret
        have hS := HS.out
        rw [← HQ.out] at hS
        have e : cur = dg 65536 (V W64 xs) := by
          rw [← HV.out, ← eq_tab (by omega) _ k hS.1 (.inr hS.2.1)]
          apply List.ext_getElem (by simp [HC.out.1])
          intro j h1 h2
          have := HC.out.2 j (by rw [HC.out.1] at h1; exact h1)
          rw [List.getElem?_eq_getElem h1] at this
          simp only [Option.some.injEq] at this
          rw [this, tab_get]
        have hlen : k = (dg 65536 (V W64 xs)).length := by rw [← e, HC.out.1]
        rw [← hlen, ← e]
        have hrd := hrow.rd0 (by rw [HC.out.1]; omega)
        rw [HC.out.1] at hrd
        exact ⟨_, _, rfl, hrd, grown_new hg1 hgr (fun g' e' => by cases e'; rw [HG.out]; exact Nat.le_refl _)⟩
theorem dg1 (x : Nat) (hx : x < W64) : Dg W64 [x] := fun y hy => by rw [List.mem_singleton.1 hy]; exact hx
theorem of_any (x : Nat) (hx : x < W64) (w : World) :
    Calls Tryz.prog 182 #[.int .u64 x] w fun e w' => ∃ a' c', e = .returned (.slice a' (dg 65536 x).length c') ∧ IRd w' .u16 a' (dg 65536 x).length c' (dg 65536 x) ∧ w.grownBy w' none := by
  have hrow : IRow (w.alloc (.cells #[.int .u64 x] 213)) w.heap.size 213 .u64 [x] := IRow.made w _ _ [x]
  have hrd := hrow.rd0 (by simp)
  have hg := World.grownBy_alloc w (.cells #[.int .u64 x] 213) none
  go_enter Tryz.func182, Tryz.ntmps182
  go_wp2_with (go_at_call 220; refine (unpack_any _ _ _ [x] _ hrd (dg1 x hx) (by simp)).mono ?_; rintro e w' ⟨a', c', rfl, h1, h2⟩)
  go_ret
  simp only [V_cons, V_nil, Nat.mul_zero, Nat.add_zero] at h1 ⊢
  exact ⟨a', c', rfl, h1, grown_trans hg h2⟩
set_option maxHeartbeats 1000000 in
theorem pack_any (a : Option Addr) (n c : Nat) (xs : List Nat) (w : World) (h : IRd w .u16 a n c xs) (hd : Dg 65536 xs) (hn : n ≤ 1000000) :
    Calls Tryz.prog 197 #[.slice a n c] w fun e w' => ∃ m ys, e = .returned (.slice (some ⟨w.heap.size, 0, none⟩) m m) ∧ IRow w' w.heap.size 213 .u64 ys ∧ Hid (m = (n + 3) / 4 ∧ ys.length = m ∧ V W64 ys = V 65536 xs ∧ Dg W64 ys) ∧ w.grownBy w' none := by
  have hmax := h.max
  have hcap := h.cap
  have HL := hid h.len
  obtain ⟨g, hg⟩ : ∃ g, g = w.heap.size := ⟨_, rfl⟩
  obtain ⟨m, hm⟩ : ∃ m, m = (n + 3) / 4 := ⟨_, rfl⟩
  have hmi : ((n : Int) + 4 - 1) / 4 = (m : Int) := by omega
  have hmb : m ≤ 250001 := by omega
  have HM := hid hm
  go_enter Tryz.func197, Tryz.ntmps197
  clear hm
  go_wp2_with (first
      | (at_make; refine wl_make _ rfl _ _ 229 rfl 213 .u64 8 Tryz.underlying229 (by kernel_rfl) _ _ _ _ rfl rfl m (by omega) (by omega) (by omega) (by omega) ?_; intro w1 hr1 hg1))
  rw [← hg] at hr1 ⊢
  have HG := hid hg
  clear hg hmi
  go_loopw [14] (fun i wr => ∃ k : Nat, ∃ cur : List Nat, k ≤ m ∧ i = .int .i64 k ∧ IRow wr g 213 .u64 cur ∧ w1.grownBy wr (some g) ∧ Hid (cur.length = m ∧ ∀ j, j < k → cur[j]? = some (V 65536 ((xs.drop (j * 4)).take 4))))
      (fun i _ => m - (intOf i).toNat)
  case atStart => exact ⟨0, _, Nat.zero_le _, rfl, hr1, grown_refl _ _, hid ⟨by simp, fun j hj => by omega⟩⟩
  case round =>
    obtain ⟨k, cur, hk, rfl, hrow, hgr, HC⟩ := hrel
    by_cases hlt : k < m
    · have hkn : k * 4 < n := by have := HM.out; omega
      obtain ⟨b, o, rfl, hb⟩ := h.cel 0 (by rw [HL.out]; omega)
      have hbl := World.block_lt_of_cell? _ _ hb
      clear hb
      have hrd := (h.keep hg1).kept hgr (.inr (by intro p hp e; cases hp; have := HG.out; simp at e hbl; omega))
      obtain ⟨hi, hhi⟩ : ∃ hi, hi = min (k * 4 + 4) n := ⟨_, rfl⟩
      have hhi1 : (k * 4 : Int) ≤ hi := by omega
      have hhi2 : (hi : Int) ≤ n := by omega
      have hhi3 : min ((k : Int) * 4 + 4) (n : Int) = hi := by omega
      have hsub := hrd.cut (k * 4) hi (c - k * 4) (by omega) (by omega) (by omega) (by omega)
      have hcl : k < cur.length := by rw [HC.out.1]; exact hlt
      have hcc := hrow.cell k hcl
      have hfr := hrow.free k
      obtain ⟨y, hy⟩ : ∃ y, y = cur[k] := ⟨_, rfl⟩
      rw [← hy] at hcc
      have HHI := hid hhi
      clear hy hhi
      have hck : ¬ (c = k * 4) := by omega
      have hseg : (xs.drop (k * 4)).take (hi - k * 4) = (xs.drop (k * 4)).take 4 := by
        have := HHI.out
        rcases Nat.le_total (k * 4 + 4) n with h4 | h4
        · rw [Nat.min_eq_left h4] at this
          rw [this]; congr 1; omega
        · rw [Nat.min_eq_right h4] at this
          rw [List.take_of_length_le (by rw [List.length_drop, HL.out]; omega), List.take_of_length_le (by rw [List.length_drop, HL.out]; omega)]
      rw [hseg] at hsub
      have hdz : Dg 65536 ((xs.drop (k * 4)).take 4) := (hd.drop _).take _
      obtain ⟨zs, hzs⟩ : ∃ zs, zs = (xs.drop (k * 4)).take 4 := ⟨_, rfl⟩
      rw [← hzs] at hsub hdz
      have HZ := hid hzs
      clear hseg hzs
      have hw : ∀ W', Hid (W' = wr) → ∀ ln, Hid (ln = hi - k * 4) → Calls Tryz.prog 196 #[.slice (some ⟨b, o + k * 4, none⟩) ln (c - k * 4)] W' fun e w' => ∃ v : Nat, e = .returned (.int .u64 v) ∧ Hid (v = V 65536 zs) ∧ W' = w' := by
        intro W' hW ln hln
        rw [hW.out, hln.out]
        exact (word_any _ _ _ zs _ hsub hdz (by omega)).mono fun e w' ⟨h1, h2⟩ => ⟨_, h1, hid rfl, h2⟩
      have HW := hid hw
      clear hw
      go_wp2_with (go_at_call 196; refine (HW.out _ (hid rfl) _ (by have := HHI.out; show _ = _; omega)).mono ?_; rintro e w' ⟨v, rfl, HV, rfl⟩)
      all_goals
        refine ⟨⟨k + 1, _, by omega, rfl, hrow.setv k _ v rfl, grown_trans hgr (grown_setCell _ _ _), hid ⟨by simpa using HC.out.1, fun j hj => ?_⟩⟩, by simp [intOf]; omega⟩
        by_cases hjk : j = k
        · subst hjk
          rw [List.getElem?_set_self hcl, HV.out, HZ.out]
        · rw [List.getElem?_set_ne (Ne.symm hjk)]
          exact HC.out.2 j (by omega)
    · obtain rfl : k = m := by omega
      go_wp2
      go_ret
      have e : cur = tab k fun i => V 65536 ((xs.drop (i * 4)).take 4) := by
        apply List.ext_getElem (by simp [HC.out.1])
        intro j h1 h2
        have := HC.out.2 j (by rw [HC.out.1] at h1; exact h1)
        rw [List.getElem?_eq_getElem h1] at this
        simp only [Option.some.injEq] at this
        rw [this, tab_get]
      have hv : V W64 cur = V 65536 xs := by
        rw [e, W64_eq]
        exact V_chunks 4 k xs (by have := HM.out; rw [HL.out]; omega)
      have hdg : Dg W64 cur := by
        rw [e]; intro x hx
        obtain ⟨i, _, rfl⟩ := List.mem_map.1 hx
        rw [W64_eq]
        exact V_word ((hd.drop _).take _) 4 (by rw [List.length_take]; omega)
      exact ⟨k, cur, by rw [HG.out]; rfl, by rw [← HG.out]; exact hrow, hid ⟨HM.out, HC.out.1, hv, hdg⟩, grown_new hg1 hgr (fun g' e' => by cases e'; rw [HG.out]; exact Nat.le_refl _)⟩
def cmpI (x y : Int) : Int := if x < y then -1 else if y < x then 1 else 0
theorem cmpInt_any (x y : Int) (w : World) :
    Calls Tryz.prog 257 #[.int .i64 x, .int .i64 y] w fun e w' => e = .returned (.int .i64 (cmpI x y)) ∧ w = w' := by
  by_cases h : x < y
  · have e : cmpI x y = -1 := if_pos h
    rw [e]
    go_enter Tryz.func257, Tryz.ntmps257
    go_wp2
    go_ret
    exact ⟨rfl, rfl⟩
  · by_cases h2 : y < x
    · have e : cmpI x y = 1 := by unfold cmpI; rw [if_neg h, if_pos h2]
      rw [e]
      go_enter Tryz.func257, Tryz.ntmps257
      go_wp2
      go_ret
      exact ⟨rfl, rfl⟩
    · have e : cmpI x y = 0 := by unfold cmpI; rw [if_neg h, if_neg h2]
      rw [e]
      go_enter Tryz.func257, Tryz.ntmps257
      go_wp2
      go_ret
      exact ⟨rfl, rfl⟩
theorem cmp16_any (x y : Int) (w : World) :
    Calls Tryz.prog 258 #[.int .u16 x, .int .u16 y] w fun e w' => e = .returned (.int .i64 (cmpI x y)) ∧ w = w' := by
  by_cases h : x < y
  · have e : cmpI x y = -1 := if_pos h
    rw [e]
    go_enter Tryz.func258, Tryz.ntmps258
    go_wp2
    go_ret
    exact ⟨rfl, rfl⟩
  · by_cases h2 : y < x
    · have e : cmpI x y = 1 := by unfold cmpI; rw [if_neg h, if_pos h2]
      rw [e]
      go_enter Tryz.func258, Tryz.ntmps258
      go_wp2
      go_ret
      exact ⟨rfl, rfl⟩
    · have e : cmpI x y = 0 := by unfold cmpI; rw [if_neg h, if_neg h2]
      rw [e]
      go_enter Tryz.func258, Tryz.ntmps258
      go_wp2
      go_ret
      exact ⟨rfl, rfl⟩
theorem cmpI_lt {x y : Nat} (h : x < y) : cmpI x y = -1 := if_pos (by omega)
theorem cmpI_gt {x y : Nat} (h : y < x) : cmpI x y = 1 := by unfold cmpI; rw [if_neg (by omega), if_pos (by omega)]
theorem cmpI_eq (x : Int) : cmpI x x = 0 := by unfold cmpI; rw [if_neg (by omega), if_neg (by omega)]
theorem cmpI_congr {x y x' y' : Nat} (h1 : x < y → x' < y') (h2 : y < x → y' < x') (h3 : x = y → x' = y') : cmpI x y = cmpI x' y' := by
  rcases Nat.lt_trichotomy x y with h | h | h
  · rw [cmpI_lt h, cmpI_lt (h1 h)]
  · have := h3 h; subst h; subst this; rw [cmpI_eq, cmpI_eq]
  · rw [cmpI_gt h, cmpI_gt (h2 h)]
set_option maxHeartbeats 1000000 in
theorem natCmp_any (a b : Option Addr) (n m c d : Nat) (xs ys : List Nat) (w : World) (h : IRd w .u16 a n c xs) (k : IRd w .u16 b m d ys) (hx : Dg 65536 xs) (hy : Dg 65536 ys) :
    Calls Tryz.prog 227 #[.slice a n c, .slice b m d] w fun e w' => e = .returned (.int .i64 (cmpI (V 65536 xs : Nat) (V 65536 ys : Nat))) ∧ w.grownBy w' none := by
  have hmax := h.max
  have hcap := h.cap
  have kmax := k.max
  have kcap := k.cap
  have ht := h.take (trimR xs).length (by rw [← h.len]; exact trimR_length_le xs)
  have kt := k.take (trimR ys).length (by rw [← k.len]; exact trimR_length_le ys)
  rw [← trimR_eq_take] at ht kt
  have hcx := Can_trimR hx
  have hcy := Can_trimR hy
  have hvx := V_trimR (B := 65536) xs
  have hvy := V_trimR (B := 65536) ys
  rw [← hvx, ← hvy]
  have T1 := fun W (H : IRd W .u16 a n c xs) => trim16 a n c xs W H
  have T2 := fun W (H : IRd W .u16 b m d ys) => trim16 b m d ys W H
  have hnl : (trimR xs).length ≤ n := by rw [← h.len]; exact trimR_length_le xs
  have hml : (trimR ys).length ≤ m := by rw [← k.len]; exact trimR_length_le ys
  clear hvx hvy
  generalize trimR xs = us at *
  generalize trimR ys = vs at *
  have t1 := T1 w h
  have t2 := T2 w k
  have R1 := hid t1
  have R2 := hid t2
  clear t1 t2 T1 T2 h k
  by_cases hl : us.length = vs.length
  · obtain ⟨l, hl1⟩ : ∃ l, l = us.length := ⟨_, rfl⟩
    rw [← hl, ← hl1] at kt
    rw [← hl1] at ht hnl
    rw [← hl, ← hl1] at hml
    rw [← hl1] at R1
    rw [← hl, ← hl1] at R2
    have HL := hid hl
    have HL1 := hid hl1
    clear hl hl1
    go_enter Tryz.func227, Tryz.ntmps227
    go_wp2_with (first
      | (go_at_call 194; (with_reducible refine (R1.out).mono ?_); rintro e w' ⟨rfl, rfl⟩)
      | (go_at_call 194; (with_reducible refine (R2.out).mono ?_); rintro e w' ⟨rfl, rfl⟩))
    go_loopw [5] (fun i wr => ∃ k : Nat, k ≤ l ∧ i = .int .i64 ((k : Int) - 1) ∧ w.grownBy wr none ∧ Hid (us.drop k = vs.drop k)) (fun i _ => (intOf i + 1).toNat)
    case atStart => exact ⟨l, Nat.le_refl _, rfl, grown_refl _ _, hid (by rw [List.drop_of_length_le (by rw [HL1.out]; exact Nat.le_refl _), List.drop_of_length_le (by rw [← HL.out, HL1.out]; exact Nat.le_refl _)])⟩
    case round =>
      obtain ⟨k, hk, rfl, hgr, HD⟩ := hrel
      by_cases h0 : 0 < k
      · obtain ⟨i, rfl⟩ : ∃ i, k = i + 1 := ⟨k - 1, by omega⟩
        have hiu : i < us.length := by rw [← HL1.out]; omega
        have hiv : i < vs.length := by rw [← HL.out, ← HL1.out]; omega
        obtain ⟨b1, o1, rfl, hc1⟩ := ht.cel i hiu
        obtain ⟨b2, o2, rfl, hc2⟩ := kt.cel i hiv
        have hd1 := hgr.cell hc1 (by simp)
        have hd2 := hgr.cell hc2 (by simp)
        obtain ⟨x, hx'⟩ : ∃ x, x = us[i] := ⟨_, rfl⟩
        obtain ⟨y, hy'⟩ : ∃ y, y = vs[i] := ⟨_, rfl⟩
        rw [← hx'] at hd1
        rw [← hy'] at hd2
        have HX := hid hx'
        have HY := hid hy'
        clear hc1 hc2 hx' hy'
        have hi0 : (0 : Int) ≤ (i : Int) := by omega
        have hil : (i : Int) < (l : Int) := by omega
        by_cases hxy : x = y
        · subst hxy
          have hd3 : us.drop i = vs.drop i := by
            rw [List.drop_eq_getElem_cons hiu, List.drop_eq_getElem_cons hiv, HD.out, ← HX.out, ← HY.out]
          have HD3 := hid hd3
          clear hd3
          have hne : (((x : Int) != (x : Int)) = false) := by simp
          go_wp2
          go_quiet (fail)
          go_wp2
          exact ⟨⟨i, by omega, rfl, grown_trans hgr (grown_drewN _ _ _), HD3⟩, by simp [intOf]⟩
        · have hne : (((x : Int) != (y : Int)) = true) := by simp; omega
          go_wp2
          go_quiet (fail)
          go_wp2
          go_quiet ((go_at_call 258; exact quiet_more (cmp16_any _ _ _)))
          go_wp2
          go_ret
          refine ⟨ret_eq (congrArg _ (cmpI_congr ?_ ?_ ?_)), gdN (gdN hgr _) _⟩
          · intro hlt
            exact cmp_of_top i hcx.1 (by rw [HL.out]) hiu HD.out (by rw [← HX.out, ← HY.out]; exact hlt)
          · intro hlt
            exact cmp_of_top i hcy.1 (by rw [HL.out]) hiv HD.out.symm (by rw [← HX.out, ← HY.out]; exact hlt)
          · intro h; exact absurd h hxy
      · obtain rfl : k = 0 := by omega
        go_wp2
        go_ret
        have : us = vs := by simpa using HD.out
        rw [this, cmpI_eq]
        exact ⟨rfl, hgr⟩
  · have hne : (((us.length : Int) != (vs.length : Int)) = true) := by simp; omega
    go_enter Tryz.func227, Tryz.ntmps227
    go_wp2_with (first
      | (go_at_call 194; (with_reducible refine (R1.out).mono ?_); rintro e w' ⟨rfl, rfl⟩)
      | (go_at_call 194; (with_reducible refine (R2.out).mono ?_); rintro e w' ⟨rfl, rfl⟩)
      | (go_at_call 257; refine (cmpInt_any _ _ _).mono ?_; rintro e w' ⟨rfl, rfl⟩))
    go_ret
    refine ⟨ret_eq (congrArg _ (cmpI_congr ?_ ?_ ?_)), grown_refl _ _⟩
    · exact fun hlt => Can.lt_of_length (by omega) hcx.1 hcy hlt
    · exact fun hlt => Can.lt_of_length (by omega) hcy.1 hcx hlt
    · intro h; exact absurd h hl
theorem carry_place {B v k c N l : Nat} (e : v + B ^ k * c = N) (hN : N < B ^ l) (hc : c ≠ 0) (hB : 1 < B) : k < l := by
  refine Nat.lt_of_not_le fun h => ?_
  have h1 : B ^ l ≤ B ^ k := Nat.pow_le_pow_right (by omega) h
  have h2 : B ^ k * 1 ≤ B ^ k * c := Nat.mul_le_mul_left _ (by omega)
  omega
theorem borrow_place {B v k c M N l : Nat} (e : v + N = M + B ^ k * c) (hN : N ≤ M) (hv : v < B ^ l) (hc : c ≠ 0) (hB : 1 < B) : k < l := by
  refine Nat.lt_of_not_le fun h => ?_
  have h1 : B ^ l ≤ B ^ k := Nat.pow_le_pow_right (by omega) h
  have h2 : B ^ k * 1 ≤ B ^ k * c := Nat.mul_le_mul_left _ (by omega)
  omega
theorem mul_step (x y lo hi p s1 c1 cy s2 c2 : Nat) (hx : x < W64) (hy : y < W64) (hp : p < W64) (hcy : cy < W64) (h1 : x * y = lo + W64 * hi) (h2 : lo + p + 0 = s1 + W64 * c1) (h3 : s1 + cy + 0 = s2 + W64 * c2) :
    p + (x * y + cy) = s2 + W64 * (hi + c1 + c2) ∧ hi + c1 + c2 < W64 := by
  have e : p + (x * y + cy) = s2 + W64 * (hi + c1 + c2) := by rw [Nat.mul_add, Nat.mul_add]; omega
  refine ⟨e, Nat.lt_of_not_le fun h => ?_⟩
  have k1 : W64 * W64 ≤ W64 * (hi + c1 + c2) := Nat.mul_le_mul_left _ h
  have k2 : x * y ≤ (W64 - 1) * (W64 - 1) := Nat.mul_le_mul (by omega) (by omega)
  have k3 : (W64 - 1) * (W64 - 1) + 2 * (W64 - 1) + 1 = W64 * W64 := by decide
  omega
set_option maxHeartbeats 2000000 in
theorem addProduct_any (g off pc : Nat) (cur ys : List Nat) (q : Option Addr) (m d x : Nat) (w : World) (hrow : IRow w g 213 .u64 cur) (hq : IRd w .u64 q m d ys) (hne : ∀ p, q = some p → some p.block ≠ some g)
    (hoff : off + m ≤ cur.length) (hlen : cur.length ≤ 900000) (hcur : Dg W64 cur) (hys : Dg W64 ys) (hx : x < W64) :
    Calls Tryz.prog 296 #[.slice (some ⟨g, off, none⟩) m pc, .slice q m d, .int .u64 x] w fun e w' => ∃ (cy : Nat) (cur' : List Nat), e = .returned (.int .u64 cy) ∧ cy < W64 ∧ IRow w' g 213 .u64 cur' ∧ w.grownBy w' (some g) ∧
      Hid (cur'.length = cur.length ∧ Dg W64 cur' ∧ V W64 cur' + W64 ^ (off + m) * cy = V W64 cur + W64 ^ off * (x * V W64 ys) ∧ ∀ j, off + m ≤ j → cur'[j]? = cur[j]?) := by
  have HL := hid hq.len
  have hqm := hq.max
  have hqc := hq.cap
  go_enter Tryz.func296, Tryz.ntmps296
  go_wp2_with fail
  go_loopw [7, 15] (fun s7 i wr => ∃ (k cy : Nat) (cu : List Nat), k ≤ m ∧ i = .int .i64 k ∧ s7 = .int .u64 cy ∧ cy < W64 ∧ IRow wr g 213 .u64 cu ∧ w.grownBy wr (some g) ∧
      Hid (cu.length = cur.length ∧ Dg W64 cu ∧ V W64 cu + W64 ^ (off + k) * cy = V W64 cur + W64 ^ off * (x * V W64 (ys.take k)) ∧ ∀ j, off + k ≤ j → cu[j]? = cur[j]?)) (fun _ i _ => m - (intOf i).toNat)
  case atStart => exact ⟨0, 0, cur, Nat.zero_le _, rfl, rfl, by decide, hrow, grown_refl _ _, hid ⟨rfl, hcur, by simp, fun _ _ => rfl⟩⟩
  case round =>
    obtain ⟨k, cy, cu, hk, rfl, rfl, hcy, hr, hgr, HC⟩ := hrel
    by_cases hlt : k < m
    · obtain ⟨b', o', rfl, hc1⟩ := hq.cel k (by rw [HL.out]; exact hlt)
      have hc2 := hgr.cell hc1 (hne ⟨b', o', none⟩ rfl)
      obtain ⟨y, hy⟩ : ∃ y, y = ys[k]'(by rw [HL.out]; exact hlt) := ⟨_, rfl⟩
      rw [← hy] at hc2
      have hyb : y < W64 := by rw [hy]; exact hys.get k _
      have hcl : off + k < cu.length := by rw [HC.out.1]; omega
      have hcc := hr.cell (off + k) hcl
      have hfr := hr.free (off + k)
      obtain ⟨p, hp⟩ : ∃ p, p = cu[off + k] := ⟨_, rfl⟩
      rw [← hp] at hcc
      have hpb : p < W64 := by rw [hp]; exact HC.out.2.1.get _ hcl
      have HP := hid hp
      have HY := hid hy
      clear hp hy hc1
      go_wp2_with (first
        | (go_at_call 255; refine (mul64_any x y hx hyb _).mono ?_; rintro e w' ⟨hi, lo, rfl, hhi, hlo, HM, rfl⟩)
        | (with_reducible refine wl_add64 _ rfl (.tmp 27) (.tmp 31) _ _ rfl _ _ 0 rfl rfl rfl hlo hpb (by omega) ?_; intro s1 c1 hs1 hc1 H1)
        | (with_reducible refine wl_add64 _ rfl (.tmp 41) (.tmp 42) _ _ rfl _ _ 0 rfl rfl rfl hs1 hcy (by omega) ?_; intro s2 c2 hs2 hc2 H2))
      have hm := mul_step x y lo hi p s1 c1 cy s2 c2 hx hyb hpb hcy HM.out H1.out H2.out
      have hw : IntKind.u64.wrap (IntKind.u64.wrap ((hi : Int) + c1) + c2) = ((hi + c1 + c2 : Nat) : Int) := by
        have h2 : hi + c1 + c2 < 18446744073709551616 := hm.2
        rw [IntKind.wrap_u64, IntKind.wrap_u64]; omega
      have hs := step_add (B := W64) cu (off + k) s2 (hi + c1 + c2) (x * y + cy) hcl (by rw [← HP.out]; exact hm.1)
      have hv := V_take_succ (B := W64) ys k (by rw [HL.out]; exact hlt)
      rw [← HY.out] at hv
      refine ⟨⟨k + 1, hi + c1 + c2, _, by omega, rfl, by rw [hw], hm.2, hr.setv _ _ s2 rfl, grown_trans hgr (grown_setCell _ _ _),
        hid ⟨by simpa using HC.out.1, HC.out.2.1.set _ _ hs2, ?_, fun j hj => ?_⟩⟩, by simp [intOf]; omega⟩
      · rw [hv, Nat.mul_add x, Nat.mul_add (W64 ^ off)]
        have h0 := HC.out.2.2.1
        rw [Nat.mul_add (W64 ^ (off + k)) (x * y) cy] at hs
        have e1 : W64 ^ off * (x * (W64 ^ k * y)) = W64 ^ (off + k) * (x * y) := by
          rw [Nat.pow_add, Nat.mul_assoc, Nat.mul_left_comm x]
        rw [e1]
        have e2 : off + (k + 1) = off + k + 1 := by omega
        rw [e2]
        omega
      · rw [List.getElem?_set_ne (by omega)]
        exact HC.out.2.2.2 j (by omega)
    · obtain rfl : k = m := by omega
      go_wp2
      go_ret
      refine ⟨cy, cu, rfl, hcy, hr, hgr, hid ⟨HC.out.1, HC.out.2.1, ?_, HC.out.2.2.2⟩⟩
      have := HC.out.2.2.1
      rwa [List.take_of_length_le (by rw [HL.out]; exact Nat.le_refl _)] at this
theorem two_words (hi lo : Nat) (h1 : hi < W64) (h2 : lo < W64) : Dg W64 [lo, hi] := fun y hy => by
  simp only [List.mem_cons, List.not_mem_nil, or_false] at hy
  rcases hy with rfl | rfl
  · exact h2
  · exact h1
set_option maxHeartbeats 2000000 in
theorem natMul_any (a b : Option Addr) (n m c d : Nat) (xs ys : List Nat) (w : World) (h : IRd w .u16 a n c xs) (k : IRd w .u16 b m d ys) (hx : Dg 65536 xs) (hy : Dg 65536 ys) (hn : n ≤ 400000) (hm : m ≤ 400000) :
    Calls Tryz.prog 274 #[.slice a n c, .slice b m d] w fun e w' => ∃ a' c', e = .returned (.slice a' (dg 65536 (V 65536 xs * V 65536 ys)).length c') ∧
      IRd w' .u16 a' (dg 65536 (V 65536 xs * V 65536 ys)).length c' (dg 65536 (V 65536 xs * V 65536 ys)) ∧ w.grownBy w' none := by
  have hmax := h.max
  have hcap := h.cap
  have kmax := k.max
  have kcap := k.cap
  have ht := h.take (trimR xs).length (by rw [← h.len]; exact trimR_length_le xs)
  have kt := k.take (trimR ys).length (by rw [← k.len]; exact trimR_length_le ys)
  rw [← trimR_eq_take] at ht kt
  have hcx := Can_trimR hx
  have hcy := Can_trimR hy
  have hvx := V_trimR (B := 65536) xs
  have hvy := V_trimR (B := 65536) ys
  have R1 := hid (trim16 a n c xs w h)
  have R2 := hid (trim16 b m d ys w k)
  have hnl : (trimR xs).length ≤ n := by rw [← h.len]; exact trimR_length_le xs
  have hml : (trimR ys).length ≤ m := by rw [← k.len]; exact trimR_length_le ys
  obtain ⟨N, hN⟩ : ∃ N, N = V 65536 xs * V 65536 ys := ⟨_, rfl⟩
  rw [← hN]
  rw [← hvx, ← hvy] at hN
  generalize trimR xs = us at *
  generalize trimR ys = vs at *
  have HN := hid hN
  clear hvx hvy h k hN
  by_cases h4 : us.length ≤ 4 ∧ vs.length ≤ 4
  · obtain ⟨h4a, h4b⟩ := h4
    have hxb : V 65536 us < W64 := by rw [W64_eq]; exact V_word hcx.1 4 h4a
    have hyb : V 65536 vs < W64 := by rw [W64_eq]; exact V_word hcy.1 4 h4b
    have W1 := hid (word_any a us.length c us w ht hcx.1 h4a)
    have W2 := hid (word_any b vs.length d vs w kt hcy.1 h4b)
    generalize V 65536 us = x at *
    generalize V 65536 vs = y at *
    have h4a' : (us.length : Int) ≤ 4 := by omega
    have h4b' : (vs.length : Int) ≤ 4 := by omega
    go_enter Tryz.func274, Tryz.ntmps274
    go_wp2_with (first
      | (go_at_call 194; (with_reducible refine (R1.out).mono ?_); rintro e w' ⟨rfl, rfl⟩)
      | (go_at_call 194; (with_reducible refine (R2.out).mono ?_); rintro e w' ⟨rfl, rfl⟩)
      | (go_at_call 196; (with_reducible refine (W1.out).mono ?_); rintro e w' ⟨rfl, rfl⟩)
      | (go_at_call 196; (with_reducible refine (W2.out).mono ?_); rintro e w' ⟨rfl, rfl⟩)
      | (go_at_call 255; refine (mul64_any x y hxb hyb _).mono ?_; rintro e w' ⟨hi, lo, rfl, hhi, hlo, HM, rfl⟩)
      | (go_at_call 220; refine (unpack_any _ _ _ [lo, hi] _ (IRow.rd0 (IRow.made w 213 .u64 [lo, hi]) (by simp)) (two_words hi lo hhi hlo) (by simp)).mono ?_; rintro e w' ⟨a', c', rfl, h1, h2⟩))
    go_ret
    have e : lo + W64 * hi = N := by rw [HN.out, HM.out]
    simp only [V_cons, V_nil, Nat.mul_zero, Nat.add_zero, e] at h1 ⊢
    exact ⟨a', c', rfl, h1, grown_trans (World.grownBy_alloc w _ none) h2⟩
  · have P1 := hid (pack_any a us.length c us w ht hcx.1 (by omega))
    have hbig : ((4 : Int) < (us.length : Int)) ∨ (((us.length : Int) ≤ 4) ∧ ((4 : Int) < (vs.length : Int))) := by omega
    clear h4
    rcases hbig with h5 | ⟨h5, h6⟩
    all_goals
      go_enter Tryz.func274, Tryz.ntmps274
      go_wp2_with (first
        | (go_at_call 194; (with_reducible refine (R1.out).mono ?_); rintro e w' ⟨rfl, rfl⟩)
        | (go_at_call 194; (with_reducible refine (R2.out).mono ?_); rintro e w' ⟨rfl, rfl⟩)
        | (go_at_call 197; (with_reducible refine (P1.out).mono ?_); rintro e w1 ⟨mx, ps, rfl, hr1, HP1, hg1⟩; have hmx : mx ≤ 100001 := by (have := HP1.out.1; omega))
        | (go_at_call 197; refine (pack_any b vs.length d vs w1 (kt.keep hg1) hcy.1 (by omega)).mono ?_; rintro e w2 ⟨my, qs, rfl, hr2, HP2, hg2⟩; have hmy : my ≤ 100001 := by (have := HP2.out.1; omega))
        | (at_make; refine wl_make _ rfl _ _ 229 rfl 213 .u64 8 Tryz.underlying229 (by kernel_rfl) _ _ _ _ rfl rfl (mx + my) (by omega) (by omega) (by omega) (by omega) ?_; intro w3 hr3 hg3))
      have hx3 : IRow w3 w.heap.size 213 .u64 ps := (hr1.kept hg2 (by simp)).kept hg3 (by simp)
      have hy3 : IRow w3 w1.heap.size 213 .u64 qs := hr2.kept hg3 (by simp)
      have hw13 : w.grownBy w3 none := grown_trans (grown_trans hg1 hg2) hg3
      have s1 := hr1.lt
      have s2 := hr2.lt
      have z1 : w.heap.size ≤ w2.heap.size := Nat.le_trans hg1.size hg2.size
      obtain ⟨g1, hg1'⟩ : ∃ g, g = w.heap.size := ⟨_, rfl⟩
      obtain ⟨g2, hg2'⟩ : ∃ g, g = w1.heap.size := ⟨_, rfl⟩
      obtain ⟨g3, hg3'⟩ : ∃ g, g = w2.heap.size := ⟨_, rfl⟩
      have d1 : g1 < g3 := by omega
      have d2 : g2 < g3 := by omega
      have d3 : w.heap.size ≤ g3 := by omega
      rw [← hg1'] at hx3 ⊢
      rw [← hg2'] at hy3 ⊢
      rw [← hg3'] at hr3 ⊢
      clear hg1' hg2' hg3' hr1 hr2 s1 s2
      have hl1 := HP1.out.2.1
      have hl2 := HP2.out.2.1
      have HL1 := hid hl1
      have HL2 := hid hl2
      have hq3 := hy3.rd0 (by omega)
      rw [hl2] at hq3
      clear hl1 hl2
      go_loopw [48] (fun i wr => ∃ (k : Nat) (cur : List Nat), k ≤ mx ∧ i = .int .i64 k ∧ IRow wr g3 213 .u64 cur ∧ w3.grownBy wr (some g3) ∧
          Hid (cur.length = mx + my ∧ Dg W64 cur ∧ V W64 cur = V W64 (ps.take k) * V W64 qs ∧ ∀ j, k + my ≤ j → j < mx + my → cur[j]? = some 0)) (fun i _ => mx - (intOf i).toNat)
      case atStart => exact ⟨0, _, Nat.zero_le _, rfl, hr3, grown_refl _ _, hid ⟨by simp, Dg.zeros (by decide) _, by simp [V_zeros], fun j h1 h2 => by simp [h2]⟩⟩
      case round =>
        obtain ⟨k, cur, hk, rfl, hrow, hgr, HC⟩ := hrel
        by_cases hlt : k < mx
        · have hkp : k < ps.length := by rw [HL1.out]; exact hlt
          have hcx3 := (hx3.kept hgr (by intro e; simp at e; omega)).cell k hkp
          obtain ⟨x, hx'⟩ : ∃ x, x = ps[k] := ⟨_, rfl⟩
          rw [← hx'] at hcx3
          have hxb : x < W64 := by rw [hx']; exact HP1.out.2.2.2.get k hkp
          have HX := hid hx'
          clear hx'
          have hk1 : (k : Int) < (mx : Int) + (my : Int) := by omega
          have hck : ¬ (mx + my = k) := by omega
          have HA := hid (addProduct_any g3 k (mx + my - k) cur qs (some ⟨g2, 0, none⟩) my my x wr hrow (hq3.kept hgr (.inr (by intro p hp; cases hp; simp; omega))) (by intro p hp; cases hp; simp; omega) (by rw [HC.out.1]; omega) (by rw [HC.out.1]; omega) HC.out.2.1 HP2.out.2.2.2 hxb)
          go_wp2_with (go_at_call 296; refine HA.out.mono ?_; rintro e w4 ⟨cy, cur', rfl, hcy', hr4, hg4, HB⟩; have hcl4 : k + my < cur'.length := (by rw [HB.out.1, HC.out.1]; omega); have hc4 := hr4.cell (k + my) hcl4; have hf4 := hr4.free (k + my); obtain ⟨z, hz⟩ : ∃ z, z = cur'[k + my] := ⟨_, rfl⟩; rw [← hz] at hc4; have HZ := hid hz; clear hz)
          have hz0 : z = 0 := by
            have h1 := HB.out.2.2.2 (k + my) (Nat.le_refl _)
            rw [HC.out.2.2.2 (k + my) (Nat.le_refl _) (by omega), List.getElem?_eq_getElem hcl4, ← HZ.out] at h1
            simpa using h1
          have hs := V_set (B := W64) cur' (k + my) cy hcl4
          rw [← HZ.out, hz0, Nat.mul_zero, Nat.add_zero] at hs
          have hv := V_take_succ (B := W64) ps k hkp
          rw [← HX.out] at hv
          refine ⟨⟨k + 1, _, by omega, rfl, hr4.setv _ _ cy rfl, grown_trans (grown_trans hgr hg4) (grown_setCell _ _ _), hid ⟨by rw [List.length_set, HB.out.1, HC.out.1], HB.out.2.1.set _ _ hcy', ?_, fun j h1 h2 => ?_⟩⟩, by simp [intOf]; omega⟩
          · rw [hs, HB.out.2.2.1, HC.out.2.2.1, hv, Nat.add_mul, Nat.mul_assoc]
          · rw [List.getElem?_set_ne (by omega), HB.out.2.2.2 j (by omega)]
            exact HC.out.2.2.2 j (by omega) h2
        · obtain rfl : k = mx := by omega
          have hrd := hrow.rd0 (by rw [HC.out.1]; omega)
          rw [HC.out.1] at hrd
          have hv : V W64 cur = N := by
            rw [HC.out.2.2.1, List.take_of_length_le (by rw [HL1.out]; exact Nat.le_refl _), HP1.out.2.2.1, HP2.out.2.2.1, HN.out]
          have HU := hid (unpack_any _ _ _ cur _ hrd HC.out.2.1 (by omega))
          rw [hv] at HU
          clear hv hrd
          go_wp2_with (go_at_call 220; refine HU.out.mono ?_; rintro e w' ⟨a', c', rfl, h1, h2⟩)
          go_ret
          exact ⟨a', c', rfl, h1, grown_trans (grown_new hw13 hgr (fun g' e' => by cases e'; exact d3)) h2⟩
theorem info16 : (Tryz.prog.info? 187).map (fun i => (i.zero, i.size, i.bytes)) = some (some (.int .u16 0), 1, 2) := by kernel_rfl
set_option maxHeartbeats 1000000 in
theorem refNorm_any (a : Option Addr) (n c : Nat) (xs : List Nat) (w : World) (h : IRd w .u16 a n c xs) (hn : n ≤ 4000000) :
    Calls Tryz.prog 242 #[.slice a n c] w fun e w' => ∃ a' c', e = .returned (.slice a' (trimR xs).length c') ∧ IRd w' .u16 a' (trimR xs).length c' (trimR xs) ∧ w.grownBy w' none := by
  have hcap := h.cap
  have hmax := h.max
  have HL := hid h.len
  go_enter Tryz.func242, Tryz.ntmps242
  go_wp2
  go_loop [3] (fun t => ∃ k : Nat, k ≤ n ∧ trimR xs = trimR (xs.take k) ∧ t = .int .i64 k) (fun t => (intOf t).toNat)
  case atStart => exact ⟨n, Nat.le_refl _, by rw [List.take_of_length_le (by rw [HL.out]; exact Nat.le_refl _)], rfl⟩
  case round =>
    obtain ⟨k, hk, hz, rfl⟩ := hrel
    have HZ := hid hz
    clear hz
    have done : ∀ (k : Nat), k ≤ n → trimR xs = xs.take k → Hid (trimR xs = xs.take k ∧ IRd w .u16 a k c (trimR xs)) := fun k hk e => hid ⟨e, by rw [e]; exact h.take k hk⟩
    by_cases h0 : 0 < k
    · obtain ⟨i, rfl⟩ : ∃ i, k = i + 1 := ⟨k - 1, by omega⟩
      have hi : i < xs.length := by rw [HL.out]; omega
      obtain ⟨b, o, rfl, hci⟩ := h.cel i hi
      have ht := List.take_succ_eq_append_getElem hi
      obtain ⟨x, hx⟩ : ∃ x, x = xs[i] := ⟨_, rfl⟩
      rw [← hx] at hci ht
      have HT := hid ht
      clear ht hx hi
      by_cases hf : x = 0
      · have HF := hid hf
        rw [hf] at hci
        clear hf done
        go_wp2
        exact ⟨⟨i, by omega, by rw [HZ.out, HT.out, HF.out, trimR_snoc_zero], rfl⟩, by simp [intOf]⟩
      · have D := done (i + 1) hk (by rw [HZ.out, HT.out, trimR_snoc hf])
        have HLT : Hid ((trimR xs).length = i + 1) := hid D.out.2.len
        clear done
        go_wp2_with (refine wl_append _ rfl (.tmp 19) (.tmp 22) 31 rfl 187 .u16 2 Tryz.underlying31 info16 w.heap.size none 0 0 [] rfl (IOwn.nil _ _ _ _) (some ⟨b, o, none⟩) (i + 1) c (trimR xs) rfl D.out.2 (by omega) (by omega) w (grown_refl _ _) (Nat.le_refl _) (Nat.le_refl _) ?_; intro p' c2 w1 ho hg)
        go_ret
        rw [HLT.out]
        have := ho.rd
        simp only [List.nil_append, Nat.zero_add] at this
        exact ⟨p', c2, rfl, this, hg⟩
    · obtain rfl : k = 0 := by omega
      have D := done 0 hk (by rw [HZ.out]; simp [trimR])
      have HLT : Hid ((trimR xs).length = 0) := hid D.out.2.len
      clear done
      go_wp2_with (refine wl_append _ rfl (.tmp 19) (.tmp 22) 31 rfl 187 .u16 2 Tryz.underlying31 info16 w.heap.size none 0 0 [] rfl (IOwn.nil _ _ _ _) a 0 c (trimR xs) rfl D.out.2 (by omega) (by omega) w (grown_refl _ _) (Nat.le_refl _) (Nat.le_refl _) ?_; intro p' c2 w1 ho hg)
      go_ret
      rw [HLT.out]
      have := ho.rd
      simp only [List.nil_append, Nat.zero_add] at this
      exact ⟨p', c2, rfl, this, hg⟩
theorem dg_step (r : Nat) (h : 0 < r) : dg 65536 r = r % 65536 :: dg 65536 (r / 65536) := by
  have hv : V 65536 (r % 65536 :: dg 65536 (r / 65536)) = r := by rw [V_cons, V_dg (by omega)]; omega
  have hc := Can_dg (B := 65536) (by omega) (r / 65536)
  have : Nm.Can 65536 (r % 65536 :: dg 65536 (r / 65536)) := by
    refine ⟨Dg.cons (Nat.mod_lt _ (by omega)) hc.1, ?_⟩
    by_cases h0 : r / 65536 = 0
    · rw [h0]; simp [dg_zero]; omega
    · cases e : dg 65536 (r / 65536) with
      | nil => have := V_dg (B := 65536) (by omega) (r / 65536); rw [e] at this; simp at this; omega
      | cons y ys => rw [List.getLast?_cons_cons, ← e]; exact hc.2
  have e := eq_dg (by omega) this
  rw [hv] at e
  exact e.symm
theorem refShort_any (a : Option Addr) (n c : Nat) (xs : List Nat) (w : World) (h : IRd w .u16 a n c xs) (hd : Dg 65536 xs) (hn : n ≤ 4) :
    Calls Tryz.prog 276 #[.slice a n c] w fun e w' => e = .returned (.int .u64 (V 65536 xs : Nat)) ∧ w = w' := by
  have HL := hid h.len
  have hcap := h.cap
  have hmax := h.max
  go_enter Tryz.func276, Tryz.ntmps276
  go_wp2
  go_loop [3, 4] (fun t i => ∃ k : Nat, k ≤ n ∧ i = .int .i64 ((k : Int) - 1) ∧ t = .int .u64 (V 65536 (xs.drop k) : Nat)) (fun _ i => (intOf i + 1).toNat)
  case atStart => exact ⟨n, Nat.le_refl _, rfl, by rw [List.drop_of_length_le (by rw [HL.out]; exact Nat.le_refl _)]; rfl⟩
  case round =>
    obtain ⟨k, hk, rfl, rfl⟩ := hrel
    by_cases h0 : 0 < k
    · obtain ⟨i, rfl⟩ : ∃ i, k = i + 1 := ⟨k - 1, by omega⟩
      have hi : i < xs.length := by rw [HL.out]; omega
      obtain ⟨b, o, rfl, hci⟩ := h.cel i hi
      have ht := V_drop_succ (B := 65536) xs i hi
      have hxb := hd.get i hi
      have hvb := V_word (hd.drop (i + 1)) 3 (by rw [List.length_drop, HL.out]; omega)
      obtain ⟨x, hx⟩ : ∃ x, x = xs[i] := ⟨_, rfl⟩
      rw [← hx] at hci ht hxb
      obtain ⟨v, hv⟩ : ∃ v, v = V 65536 (xs.drop (i + 1)) := ⟨_, rfl⟩
      rw [← hv] at hvb ht ⊢
      have hvb' : v < 281474976710656 := hvb
      have HT := hid ht
      clear ht hx h hi hd hv hvb
      go_wp2
      exact ⟨⟨i, by omega, rfl, by rw [HT.out]; congr 2; omega⟩, by simp [intOf]⟩
    · obtain rfl : k = 0 := by omega
      go_wp2
      go_ret
      exact ⟨by simp, rfl⟩
theorem refLimb_any (a : Option Addr) (n c : Nat) (xs : List Nat) (w : World) (h : IRd w .u16 a n c xs) (hd : Dg 65536 xs) (i : Nat) :
    Calls Tryz.prog 279 #[.slice a n c, .int .i64 i] w fun e w' => ∃ x : Nat, e = .returned (.int .i64 x) ∧ x < 65536 ∧ Hid (x = xs[i]?.getD 0) ∧ w = w' := by
  have HL := hid h.len
  by_cases hlt : i < n
  · have hi : i < xs.length := by rw [HL.out]; exact hlt
    obtain ⟨b, o, rfl, hci⟩ := h.cel i hi
    have hxb := hd.get i hi
    obtain ⟨x, hx⟩ : ∃ x, x = xs[i] := ⟨_, rfl⟩
    rw [← hx] at hci hxb
    have HX : Hid (x = xs[i]?.getD 0) := hid (by rw [List.getElem?_eq_getElem hi, hx]; rfl)
    clear hx
    have hi2 : (i : Int) < n := by omega
    go_enter Tryz.func279, Tryz.ntmps279
    go_wp2
    go_ret
    exact ⟨x, rfl, hxb, HX, rfl⟩
  · have hi2 : ¬ (i : Int) < n := by omega
    go_enter Tryz.func279, Tryz.ntmps279
    go_wp2
    go_ret
    exact ⟨0, rfl, by omega, hid (by rw [List.getElem?_eq_none (by rw [HL.out]; omega)]; rfl), rfl⟩
def lb (xs : List Nat) (i : Nat) : Nat := xs[i]?.getD 0
theorem lb_lt {xs : List Nat} (h : Dg 65536 xs) (i : Nat) : lb xs i < 65536 := by
  unfold lb
  by_cases hi : i < xs.length
  · rw [List.getElem?_eq_getElem hi]; exact h.get i hi
  · rw [List.getElem?_eq_none (by omega)]; decide
theorem refLimb_val (a : Option Addr) (n c : Nat) (xs : List Nat) (w : World) (h : IRd w .u16 a n c xs) (hd : Dg 65536 xs) (i : Nat) :
    Calls Tryz.prog 279 #[.slice a n c, .int .i64 i] w fun e w' => e = .returned (.int .i64 (lb xs i : Nat)) ∧ w = w' :=
  (refLimb_any a n c xs w h hd i).mono fun e w' ⟨x, h1, _, h3, h4⟩ => ⟨by rw [h1, h3.out]; rfl, h4⟩
theorem lb_pad (xs : List Nat) (L i : Nat) (h : i < L) (hl : xs.length ≤ L) : (xs ++ List.replicate (L - xs.length) 0)[i]? = some (lb xs i) := by
  unfold lb
  by_cases hi : i < xs.length
  · rw [List.getElem?_append_left hi, List.getElem?_eq_getElem hi]; rfl
  · rw [List.getElem?_append_right (by omega), List.getElem?_replicate, if_pos (by omega), List.getElem?_eq_none (by omega)]; rfl
theorem cmp_limbs {xs ys : List Nat} (hx : Dg 65536 xs) (hy : Dg 65536 ys) (L i : Nat) (h1 : xs.length ≤ L) (h2 : ys.length ≤ L) (hi : i < L)
    (ht : ∀ j, i < j → j < L → lb xs j = lb ys j) (hlt : lb xs i < lb ys i) : V 65536 xs < V 65536 ys := by
  have e : ∀ zs : List Nat, V 65536 (zs ++ List.replicate (L - zs.length) 0) = V 65536 zs := fun zs => by simp [V_append, V_zeros]
  have l : ∀ zs : List Nat, zs.length ≤ L → (zs ++ List.replicate (L - zs.length) 0).length = L := fun zs h => by simp; omega
  rw [← e xs, ← e ys]
  have p1 := lb_pad xs L i hi h1
  have p2 := lb_pad ys L i hi h2
  refine cmp_of_top i (hx.append (Dg.zeros (by omega) _)) (by rw [l xs h1, l ys h2]) (by rw [l xs h1]; exact hi) ?_ ?_
  · apply List.ext_getElem?
    intro j
    rw [List.getElem?_drop, List.getElem?_drop]
    by_cases hj : i + 1 + j < L
    · rw [lb_pad xs L _ hj h1, lb_pad ys L _ hj h2, ht _ (by omega) hj]
    · rw [List.getElem?_eq_none (by rw [l xs h1]; omega), List.getElem?_eq_none (by rw [l ys h2]; omega)]
  · rw [List.getElem?_eq_getElem (by rw [l xs h1]; exact hi)] at p1
    rw [List.getElem?_eq_getElem (by rw [l ys h2]; exact hi)] at p2
    simp only [Option.some.injEq] at p1 p2
    rw [p1, p2]; exact hlt
theorem eq_limbs {xs ys : List Nat} (L : Nat) (h1 : xs.length ≤ L) (h2 : ys.length ≤ L) (ht : ∀ j, j < L → lb xs j = lb ys j) : V 65536 xs = V 65536 ys := by
  have e : ∀ zs : List Nat, V 65536 (zs ++ List.replicate (L - zs.length) 0) = V 65536 zs := fun zs => by simp [V_append, V_zeros]
  rw [← e xs, ← e ys]
  congr 1
  apply List.ext_getElem?
  intro j
  by_cases hj : j < L
  · rw [lb_pad xs L _ hj h1, lb_pad ys L _ hj h2, ht _ hj]
  · rw [List.getElem?_eq_none (by simp; omega), List.getElem?_eq_none (by simp; omega)]
set_option maxHeartbeats 1000000 in
theorem refCmp_any (a b : Option Addr) (n m c d : Nat) (xs ys : List Nat) (w : World) (hX : IRd w .u16 a n c xs) (kX : IRd w .u16 b m d ys) (hx : Dg 65536 xs) (hy : Dg 65536 ys) :
    Calls Tryz.prog 297 #[.slice a n c, .slice b m d] w fun e w' => e = .returned (.int .i64 (cmpI (V 65536 xs : Nat) (V 65536 ys : Nat))) ∧ w = w' := by
  have hmax := hX.max
  have hcap := hX.cap
  have kmax := kX.max
  have kcap := kX.cap
  obtain ⟨L, hL⟩ : ∃ L, L = max n m := ⟨_, rfl⟩
  have hLb : L ≤ 9223372036854775807 := by omega
  have hLx : xs.length ≤ L := by rw [hX.len]; omega
  have hLy : ys.length ≤ L := by rw [kX.len]; omega
  go_enter Tryz.func297, Tryz.ntmps297
  have HL := hid hL
  clear hL
  go_wp2_with fail
  all_goals
    go_loop [5] (fun i => ∃ k : Nat, k ≤ L ∧ i = .int .i64 ((k : Int) - 1) ∧ Hid (∀ j, k ≤ j → j < L → lb xs j = lb ys j)) (fun i => (intOf i + 1).toNat)
    case atStart => exact ⟨L, Nat.le_refl _, by have := HL.out; congr 1; omega, hid fun j h1 h2 => by omega⟩
    case round =>
      obtain ⟨k, hk, rfl, HD⟩ := hrel
      by_cases h0 : 0 < k
      · obtain ⟨i, rfl⟩ : ∃ i, k = i + 1 := ⟨k - 1, by omega⟩
        have L1 := refLimb_val a n c xs w hX hx i
        have L2 := refLimb_val b m d ys w kX hy i
        have b1 := lb_lt hx i
        have b2 := lb_lt hy i
        obtain ⟨x, hx'⟩ : ∃ x, x = lb xs i := ⟨_, rfl⟩
        obtain ⟨y, hy'⟩ : ∃ y, y = lb ys i := ⟨_, rfl⟩
        rw [← hx'] at L1 b1
        rw [← hy'] at L2 b2
        have HX := hid hx'
        have HY := hid hy'
        have H1 := hid L1
        have H2 := hid L2
        clear hx' hy' L1 L2
        rcases Nat.lt_trichotomy x y with hlt | heq | hgt
        · have hlt' : (x : Int) < (y : Int) := by omega
          go_wp2_with (first
            | (go_at_call 279; (with_reducible refine (H1.out).mono ?_); rintro e w' ⟨rfl, rfl⟩)
            | (go_at_call 279; (with_reducible refine (H2.out).mono ?_); rintro e w' ⟨rfl, rfl⟩))
          go_ret
          have := cmp_limbs hx hy L i hLx hLy (by omega) (fun j h1 h2 => HD.out j (by omega) h2) (by rw [← HX.out, ← HY.out]; exact hlt)
          rw [cmpI_lt this]
          exact ⟨rfl, rfl⟩
        · subst heq
          go_wp2_with (first
            | (go_at_call 279; (with_reducible refine (H1.out).mono ?_); rintro e w' ⟨rfl, rfl⟩)
            | (go_at_call 279; (with_reducible refine (H2.out).mono ?_); rintro e w' ⟨rfl, rfl⟩))
          refine ⟨⟨i, by omega, rfl, hid fun j h1 h2 => ?_⟩, by simp [intOf]⟩
          by_cases hji : j = i
          · subst hji; rw [← HX.out, ← HY.out]
          · exact HD.out j (by omega) h2
        · have hgt' : (y : Int) < (x : Int) := by omega
          go_wp2_with (first
            | (go_at_call 279; (with_reducible refine (H1.out).mono ?_); rintro e w' ⟨rfl, rfl⟩)
            | (go_at_call 279; (with_reducible refine (H2.out).mono ?_); rintro e w' ⟨rfl, rfl⟩))
          go_ret
          have := cmp_limbs hy hx L i hLy hLx (by omega) (fun j h1 h2 => (HD.out j (by omega) h2).symm) (by rw [← HX.out, ← HY.out]; exact hgt)
          rw [cmpI_gt this]
          exact ⟨rfl, rfl⟩
      · obtain rfl : k = 0 := by omega
        go_wp2
        go_ret
        rw [eq_limbs L hLx hLy (fun j hj => HD.out j (Nat.zero_le _) hj), cmpI_eq]
        exact ⟨rfl, rfl⟩
set_option maxHeartbeats 1000000 in
theorem refOf_any (x : Nat) (hx : x < W64) (w : World) :
    Calls Tryz.prog 240 #[.int .u64 x] w fun e w' => ∃ a' c', e = .returned (.slice a' (dg 65536 x).length c') ∧ IRd w' .u16 a' (dg 65536 x).length c' (dg 65536 x) ∧ w.grownBy w' none := by
  have hlen : ∀ r ≤ x, (dg 65536 r).length ≤ 4 := fun r hr => dg_length_le (by omega) (by rw [← W64_eq]; omega)
  have HLEN := hid hlen
  clear hlen
  go_enter Tryz.func240, Tryz.ntmps240
  go_wp2
  go_loopw [0, 3] (fun t s wr => ∃ (r : Nat) (p : Option Addr) (m c : Nat) (zs : List Nat), t = .int .u64 r ∧ s = .slice p m c ∧ r ≤ x ∧ m ≤ 4 ∧ IOwn wr w.heap.size 187 .u16 p m c zs ∧ w.grownBy wr none ∧ Hid (zs ++ dg 65536 r = dg 65536 x)) (fun t _ _ => (intOf t).toNat)
  case atStart => exact ⟨x, none, 0, 0, [], rfl, rfl, Nat.le_refl _, by omega, IOwn.nil _ _ _ _, grown_refl _ _, hid (by simp)⟩
  case round =>
    obtain ⟨r, p, m, c, zs, rfl, rfl, hr, hm, ho, hgr, HD⟩ := hrel
    by_cases h0 : 0 < r
    · have h0' : (0 : Int) < (r : Int) := by omega
      have hm3 : m ≤ 3 := by
        have h1 := congrArg List.length HD.out
        rw [dg_step r h0] at h1
        have h2 := HLEN.out x (Nat.le_refl _)
        have := ho.1
        simp at h1; omega
      have hmi : r % 65536 < 65536 := Nat.mod_lt _ (by omega)
      have hrb : (r : Int) ≤ 18446744073709551615 := by have : x < 18446744073709551616 := hx; omega
      go_wp2_with (with_reducible refine wl_append _ rfl (.tmp 6) (.tmp 10) 31 rfl 187 .u16 2 Tryz.underlying31 info16 w.heap.size _ _ _ zs rfl (ho.alloc _) _ 1 1 [r % 65536] rfl (one_rd _ _ _ _ _ (by first | rfl | (rw [IntKind.wrap_u16]; omega) | omega)) (by omega) (by omega) w (grown_trans hgr (World.grownBy_alloc _ _ _)) (Nat.le_refl _) (by have := hgr.size; simp; omega) ?_; intro p' c2 w2 ho2 hg2)
      refine ⟨⟨r / 65536, _, _, _, _, by congr 1, rfl, by omega, by omega, ho2, hg2, hid ?_⟩, by simp [intOf]; omega⟩
      rw [List.append_assoc, List.singleton_append, ← dg_step r h0]
      exact HD.out
    · obtain rfl : r = 0 := by omega
      go_wp2
      go_ret
      have e : zs = dg 65536 x := by have := HD.out; rw [dg_zero, List.append_nil] at this; exact this
      have hl := ho.1
      subst hl
      rw [← e]
      exact ⟨p, c, rfl, ho.rd, hgr⟩
theorem natNorm_any (a : Option Addr) (n c : Nat) (xs : List Nat) (w : World) (h : IRd w .u16 a n c xs) (hn : n ≤ 1000000) :
    Calls Tryz.prog 191 #[.slice a n c] w fun e w' => ∃ a' c', e = .returned (.slice a' (trimR xs).length c') ∧ IRd w' .u16 a' (trimR xs).length c' (trimR xs) ∧ w.grownBy w' none := by
  have hl : (trimR xs).length ≤ n := by rw [← h.len]; exact trimR_length_le xs
  have ht := h.take (trimR xs).length hl
  rw [← trimR_eq_take] at ht
  go_enter Tryz.func191, Tryz.ntmps191
  go_wp2_with (first
    | (go_at_call 194; refine (trim16 a n c xs _ h).mono ?_; rintro e w' ⟨rfl, rfl⟩)
    | (go_at_call 228; refine (clone_any _ _ _ (trimR xs) _ ht (by omega)).mono ?_; rintro e w1 ⟨rfl, hr, hg⟩))
  go_ret
  have := hr.rd0 (by omega)
  exact ⟨_, _, rfl, this, hg⟩
def IsBits (N b : Nat) : Prop := (N = 0 ∧ b = 0) ∨ (1 ≤ b ∧ 2 ^ (b - 1) ≤ N ∧ N < 2 ^ b)
theorem IsBits.unique {N b c : Nat} (h : IsBits N b) (k : IsBits N c) : b = c := by
  have hp : ∀ m, 0 < 2 ^ m := fun m => Nat.pow_pos (by omega)
  rcases h with ⟨h1, h2⟩ | ⟨h1, h2, h3⟩ <;> rcases k with ⟨k1, k2⟩ | ⟨k1, k2, k3⟩
  · omega
  · have := hp (c - 1); omega
  · have := hp (b - 1); omega
  · have e1 : 2 ^ (b - 1) < 2 ^ c := by omega
    have e2 : 2 ^ (c - 1) < 2 ^ b := by omega
    have := (Nat.pow_lt_pow_iff_right (by omega : 1 < 2)).1 e1
    have := (Nat.pow_lt_pow_iff_right (by omega : 1 < 2)).1 e2
    omega
theorem isBits_top (xs : List Nat) (hd : Dg 65536 xs) (top l : Nat) (ht : xs.length = top + 1) (t : Nat) (hg : xs[top]? = some t) (h0 : t ≠ 0) (hl : 1 ≤ l ∧ 2 ^ (l - 1) ≤ t ∧ t < 2 ^ l) :
    IsBits (V 65536 xs) (top * 16 + l) := by
  obtain ⟨htl, rfl⟩ := List.getElem?_eq_some_iff.1 hg
  have e := V_take_drop (B := 65536) xs top (by omega)
  rw [V_drop_succ xs top htl, List.drop_of_length_le (by omega)] at e
  simp only [V_nil, Nat.mul_zero, Nat.add_zero] at e
  have h1 := (hd.take top).lt
  rw [List.length_take, Nat.min_eq_left (by omega)] at h1
  generalize xs[top] = t at *
  have w4 : (65536 : Nat) ^ top = 2 ^ (top * 16) := by rw [show (65536 : Nat) = 2 ^ 16 from rfl, ← Nat.pow_mul, Nat.mul_comm]
  rw [w4] at e h1
  obtain ⟨b1, b2, b3⟩ := hl
  refine .inr ⟨by omega, ?_, ?_⟩
  · rw [show top * 16 + l - 1 = top * 16 + (l - 1) by omega, Nat.pow_add, e]
    exact Nat.le_trans (Nat.mul_le_mul_left _ b2) (Nat.le_add_left _ _)
  · rw [Nat.pow_add]
    have c2 : 2 ^ (top * 16) * (t + 1) ≤ 2 ^ (top * 16) * 2 ^ l := Nat.mul_le_mul_left _ b3
    rw [Nat.mul_add, Nat.mul_one] at c2
    omega
theorem can_top {xs : List Nat} (h : Nm.Can 65536 xs) (top : Nat) (ht : xs.length = top + 1) (htl : top < xs.length) : xs[top] ≠ 0 := by
  intro hz; apply h.2
  rw [List.getLast?_eq_getElem?, show xs.length - 1 = top by omega, List.getElem?_eq_getElem htl, hz]
set_option maxHeartbeats 1000000 in
theorem natBits_any (a : Option Addr) (n c : Nat) (xs : List Nat) (w : World) (h : IRd w .u16 a n c xs) (hd : Dg 65536 xs) (hn : n ≤ 1000000) :
    Calls Tryz.prog 185 #[.slice a n c] w fun e w' => ∃ b : Nat, b ≤ 16 * n ∧ e = .returned (.int .i64 b) ∧ Hid (IsBits (V 65536 xs) b) ∧ w = w' := by
  have hl : (trimR xs).length ≤ n := by rw [← h.len]; exact trimR_length_le xs
  have ht := h.take (trimR xs).length hl
  rw [← trimR_eq_take] at ht
  have hcap := h.cap
  have hmax := h.max
  have R1 := hid (trim16 a n c xs w h)
  have hcx := Can_trimR hd
  have HV := hid (V_trimR (B := 65536) xs)
  generalize trimR xs = us at *
  clear h
  by_cases h0 : us.length = 0
  · have hus : us = [] := List.eq_nil_of_length_eq_zero h0
    rw [h0] at R1
    have HU := hid hus
    clear h0 hus
    go_enter Tryz.func185, Tryz.ntmps185
    go_wp2_with (go_at_call 194; refine R1.out.mono ?_; rintro e w' ⟨rfl, rfl⟩)
    go_ret
    exact ⟨0, by omega, rfl, hid (.inl ⟨by rw [← HV.out, HU.out]; rfl, rfl⟩), rfl⟩
  · obtain ⟨top, htop⟩ : ∃ top, us.length = top + 1 := ⟨us.length - 1, by omega⟩
    have htl : top < us.length := by omega
    rw [htop] at R1
    obtain ⟨b, o, rfl, hc⟩ := ht.cel top htl
    obtain ⟨t, ht'⟩ : ∃ t, t = us[top] := ⟨_, rfl⟩
    rw [← ht'] at hc
    have htb : t < 65536 := by rw [ht']; exact hcx.1.get _ htl
    have ht0 : t ≠ 0 := by rw [ht']; exact can_top hcx top htop htl
    have HT := hid ht'
    have HTOP := hid htop
    have htn : top + 1 ≤ n := by omega
    have ht0' := hid ht0
    clear ht' htop h0 ht0
    go_enter Tryz.func185, Tryz.ntmps185
    go_wp2_with (first
      | (go_at_call 194; refine R1.out.mono ?_; rintro e w' ⟨rfl, rfl⟩)
      | (go_at_call 225; refine (len16_any t htb _).mono ?_; rintro e w' ⟨l, hl', HL, rfl, rfl⟩))
    go_ret
    refine ⟨top * 16 + l, by omega, rfl, hid ?_, rfl⟩
    rw [← HV.out]
    refine isBits_top us hcx.1 top l HTOP.out t (by rw [HT.out]; exact List.getElem?_eq_getElem htl) ht0'.out ?_
    rcases bitLen_spec t (by show t < 18446744073709551616; omega) with ⟨h1, _⟩ | h1
    · exact absurd h1 ht0'.out
    · rw [HL.out]; exact h1
theorem of_at (z : Int) (x : Nat) (hz : z = (x : Int)) (hx : x < W64) (w : World) :
    Calls Tryz.prog 182 #[.int .u64 z] w fun e w' => ∃ a' c', e = .returned (.slice a' (dg 65536 x).length c') ∧ IRd w' .u16 a' (dg 65536 x).length c' (dg 65536 x) ∧ w.grownBy w' none := by
  subst hz; exact of_any x hx w
def DmPost (w : World) (X Y : Nat) (e : Ending) (w' : World) : Prop :=
  ∃ (a1 a2 : Option Addr) (c1 c2 : Nat), e = .returned (.tuple #[.slice a1 (dg 65536 (X / Y)).length c1, .slice a2 (dg 65536 (X % Y)).length c2, .int .i64 0]) ∧
    IRd w' .u16 a1 (dg 65536 (X / Y)).length c1 (dg 65536 (X / Y)) ∧ IRd w' .u16 a2 (dg 65536 (X % Y)).length c2 (dg 65536 (X % Y)) ∧ w.grownBy w' none
set_option maxHeartbeats 1000000 in
theorem natDivMod_small (a b : Option Addr) (n m c d : Nat) (xs ys : List Nat) (w : World) (h : IRd w .u16 a n c xs) (k : IRd w .u16 b m d ys) (hx : Dg 65536 xs) (hy : Dg 65536 ys)
    (h4 : (trimR xs).length ≤ 4) (hle : (trimR ys).length ≤ (trimR xs).length) (hpos : 0 < V 65536 ys) :
    Calls Tryz.prog 192 #[.slice a n c, .slice b m d] w (DmPost w (V 65536 xs) (V 65536 ys)) := by
  have ht := h.take (trimR xs).length (by rw [← h.len]; exact trimR_length_le xs)
  have kt := k.take (trimR ys).length (by rw [← k.len]; exact trimR_length_le ys)
  rw [← trimR_eq_take] at ht kt
  have hcx := Can_trimR hx
  have hcy := Can_trimR hy
  have hvx := V_trimR (B := 65536) xs
  have hvy := V_trimR (B := 65536) ys
  have R1 := hid (trim16 a n c xs w h)
  have R2 := hid (trim16 b m d ys w k)
  rw [← hvy] at hpos ⊢
  rw [← hvx]
  generalize trimR xs = us at *
  generalize trimR ys = vs at *
  clear hvx hvy h k
  have hxb : V 65536 us < W64 := by rw [W64_eq]; exact V_word hcx.1 4 h4
  have hyb : V 65536 vs < W64 := by rw [W64_eq]; exact V_word hcy.1 4 (by omega)
  have W1 := hid (word_any a us.length c us w ht hcx.1 h4)
  have W2 := hid (word_any b vs.length d vs w kt hcy.1 (by omega))
  have hv0 : 0 < vs.length := by
    rcases Nat.eq_zero_or_pos vs.length with h0 | h0
    · rw [List.eq_nil_of_length_eq_zero h0] at hpos; simp at hpos
    · exact h0
  generalize V 65536 us = x at *
  generalize V 65536 vs = y at *
  have e1 : (((vs.length : Int) == 0) = false) := beq_eq_false_iff_ne.2 (by omega)
  have e2 : ¬ ((us.length : Int) < (vs.length : Int)) := by omega
  have e3 : ((us.length : Int) ≤ 4) := by omega
  have hq : x / y < W64 := Nat.lt_of_le_of_lt (Nat.div_le_self _ _) hxb
  have hr : x % y < W64 := Nat.lt_of_le_of_lt (Nat.mod_le _ _) hxb
  have hy1 : (1 : Int) ≤ (y : Int) := by omega
  have hx0 : (0 : Int) ≤ (x : Int) := by omega
  have HZQ : Hid (IntKind.u64.wrap ((x : Int) / (y : Int)) = ((x / y : Nat) : Int)) := hid (by rw [← Int.natCast_ediv]; exact wrap_in _ hq)
  have HZ2 : Hid ((x : Int) % (y : Int) = ((x % y : Nat) : Int)) := hid (by simp)
  have HZR : Hid ((x : Int).tmod (y : Int) = ((x % y : Nat) : Int)) := hid rfl
  go_enter Tryz.func192, Tryz.ntmps192
  go_wp2_with (first
    | (go_at_call 194; (with_reducible refine (R1.out).mono ?_); rintro e w' ⟨rfl, rfl⟩)
    | (go_at_call 194; (with_reducible refine (R2.out).mono ?_); rintro e w' ⟨rfl, rfl⟩)
    | (go_at_call 196; (with_reducible refine (W1.out).mono ?_); rintro e w' ⟨rfl, rfl⟩)
    | (go_at_call 196; (with_reducible refine (W2.out).mono ?_); rintro e w' ⟨rfl, rfl⟩))
  go_region_with (first
    | ((with_reducible refine (of_at _ (x / y) HZQ.out hq _).mono ?_); rintro e w1 ⟨p1, c1, rfl, hr1, hg1⟩)
    | ((with_reducible refine (of_at _ (x % y) HZR.out hr _).mono ?_); rintro e w2 ⟨p2, c2, rfl, hr2, hg2⟩)
    | ((with_reducible refine (of_at _ (x % y) HZ2.out hr _).mono ?_); rintro e w2 ⟨p2, c2, rfl, hr2, hg2⟩))
  all_goals go_wp2
  all_goals go_ret3
  all_goals first
    | exact ⟨p1, p2, c1, c2, rfl, hr1.keep hg2, hr2, grown_trans (grown_drew w none) (grown_trans hg1 hg2)⟩
    | exact ⟨p1, p2, c1, c2, rfl, hr1, hr2.keep hg1, grown_trans (grown_drew w none) (grown_trans hg2 hg1)⟩
def IsN (w : World) (p : Option Addr) (n c N : Nat) : Prop := ∃ L, IRd w .u16 p n c L ∧ Dg 65536 L ∧ V 65536 L = N
def IsC (w : World) (p : Option Addr) (n c N : Nat) : Prop := IRd w .u16 p n c (dg 65536 N)
section
variable {w w' : World} {p q : Option Addr} {n c m d N M : Nat}
theorem IsC.isN (h : IsC w p n c N) : IsN w p n c N := ⟨_, h, (Can_dg (by omega) N).1, V_dg (by omega) N⟩
theorem IsC.len (h : IsC w p n c N) : (dg 65536 N).length = n := IRd.len h
theorem IsN.keep (h : IsN w p n c N) (hg : w.grownBy w' none) : IsN w' p n c N := let ⟨L, h1, h2⟩ := h; ⟨L, h1.keep hg, h2⟩
theorem IsC.keep (h : IsC w p n c N) (hg : w.grownBy w' none) : IsC w' p n c N := IRd.keep h hg
theorem IsN.of {xs : List Nat} (h : IRd w .u16 p n c xs) (hx : Dg 65536 xs) : IsN w p n c (V 65536 xs) := ⟨xs, h, hx, rfl⟩
theorem IsC.congr (h : IsC w p n c N) (e : N = M) : IsC w p n c M := e ▸ h
theorem IsN.lt (h : IsN w p n c N) : N < 65536 ^ n := by
  obtain ⟨L, h1, h2, rfl⟩ := h
  have := h2.lt
  rwa [h1.len] at this
theorem IsC.nil (w : World) : IsC w none 0 0 0 := IRd.nil w _
theorem natMul_n (hA : IsN w p n c N) (hB : IsN w q m d M) (hn : n ≤ 400000) (hm : m ≤ 400000) :
    Calls Tryz.prog 274 #[.slice p n c, .slice q m d] w fun e w' => ∃ p' n' c', e = .returned (.slice p' n' c') ∧ IsC w' p' n' c' (N * M) ∧ n' ≤ n + m ∧ w.grownBy w' none := by
  obtain ⟨L, h1, h2, rfl⟩ := hA
  obtain ⟨K, k1, k2, rfl⟩ := hB
  refine (natMul_any p q n m c d L K w h1 k1 h2 k2 hn hm).mono fun e w' ⟨p', c', h, hr, hg⟩ => ⟨p', _, c', h, hr, ?_, hg⟩
  refine dg_length_le (by omega) ?_
  have e1 := h2.lt
  have e2 := k2.lt
  rw [h1.len] at e1
  rw [k1.len] at e2
  rw [Nat.pow_add]
  exact Nat.mul_lt_mul'' e1 e2
theorem natNorm_n (hA : IsN w p n c N) (hn : n ≤ 900000) :
    Calls Tryz.prog 191 #[.slice p n c] w fun e w' => ∃ p' n' c', e = .returned (.slice p' n' c') ∧ IsC w' p' n' c' N ∧ n' ≤ n ∧ w.grownBy w' none := by
  obtain ⟨L, h1, h2, rfl⟩ := hA
  refine (natNorm_any p n c L w h1 (by omega)).mono fun e w' ⟨p', c', h, hr, hg⟩ => ⟨p', _, c', h, ?_, ?_, hg⟩
  · unfold IsC; rw [← trimR_dg (by omega) h2]; exact hr
  · rw [← h1.len]; exact trimR_length_le L
theorem natBits_n (hA : IsN w p n c N) (hn : n ≤ 900000) :
    Calls Tryz.prog 185 #[.slice p n c] w fun e w' => ∃ b : Nat, b ≤ 16 * n ∧ e = .returned (.int .i64 b) ∧ Hid (IsBits N b) ∧ w = w' := by
  obtain ⟨L, h1, h2, rfl⟩ := hA
  exact natBits_any p n c L w h1 h2 (by omega)
end
def vk (xs : List Nat) (k : Nat) : Nat := V 65536 (xs.take k)
theorem vk_succ (xs : List Nat) (k : Nat) : vk xs (k + 1) = vk xs k + 65536 ^ k * lb xs k := by
  unfold vk lb
  by_cases h : k < xs.length
  · rw [V_take_succ xs k h, List.getElem?_eq_getElem h]; rfl
  · rw [List.take_of_length_le (by omega), List.take_of_length_le (by omega), List.getElem?_eq_none (by omega)]; simp
theorem vk_all (xs : List Nat) (k : Nat) (h : xs.length ≤ k) : vk xs k = V 65536 xs := by unfold vk; rw [List.take_of_length_le h]
theorem V_snoc (zs : List Nat) (y : Nat) : V 65536 (zs ++ [y]) = V 65536 zs + 65536 ^ zs.length * y := by simp [V_append]
theorem refNorm_n {w : World} {p : Option Addr} {n c N : Nat} (h : IsN w p n c N) (hn : n ≤ 4000000) :
    Calls Tryz.prog 242 #[.slice p n c] w fun e w' => ∃ p' n' c', e = .returned (.slice p' n' c') ∧ IsC w' p' n' c' N ∧ n' ≤ n ∧ w.grownBy w' none := by
  obtain ⟨L, h1, h2, rfl⟩ := h
  refine (refNorm_any p n c L w h1 hn).mono fun e w' ⟨p', c', h, hr, hg⟩ => ⟨p', _, c', h, ?_, ?_, hg⟩
  · unfold IsC; rw [← trimR_dg (by omega) h2]; exact hr
  · rw [← h1.len]; exact trimR_length_le L
set_option maxHeartbeats 2000000 in
theorem refAdd_n {p q : Option Addr} {n c m d N M : Nat} {w : World} (hA : IsN w p n c N) (hB : IsN w q m d M) (hn : n ≤ 900000) (hm : m ≤ 900000) :
    Calls Tryz.prog 275 #[.slice p n c, .slice q m d] w fun e w' => ∃ p' n' c', e = .returned (.slice p' n' c') ∧ IsC w' p' n' c' (N + M) ∧ n' ≤ n + m + 1 ∧ w.grownBy w' none := by
  obtain ⟨xs, h1, hx, rfl⟩ := hA
  obtain ⟨ys, k1, hy, rfl⟩ := hB
  have hmax := h1.max
  have hcap := h1.cap
  have kmax := k1.max
  have kcap := k1.cap
  have HLX := hid h1.len
  have HLY := hid k1.len
  obtain ⟨L, hL⟩ : ∃ L, L = max n m := ⟨_, rfl⟩
  have hL1 : n ≤ L := by omega
  have hL2 : m ≤ L := by omega
  have hL3 : L ≤ 900000 := by omega
  have hL4 : L ≤ n + m := by omega
  have HL := hid hL
  have htot : V 65536 xs + V 65536 ys < 65536 ^ (L + 1) := by
    have e1 := hx.lt
    have e2 := hy.lt
    rw [HLX.out] at e1
    rw [HLY.out] at e2
    have e3 : 65536 ^ n ≤ 65536 ^ L := Nat.pow_le_pow_right (by omega) (by omega)
    have e4 : 65536 ^ m ≤ 65536 ^ L := Nat.pow_le_pow_right (by omega) (by omega)
    rw [Nat.pow_succ]; omega
  have HT := hid htot
  have R1 := hid (fun W (h : IRd W .u16 p n c xs) i => refLimb_val p n c xs W h hx i)
  have R2 := hid (fun W (h : IRd W .u16 q m d ys) i => refLimb_val q m d ys W h hy i)
  clear hL htot
  go_enter Tryz.func275, Tryz.ntmps275
  go_wp2_with fail
  go_loopw [5, 6, 7] (fun s cy i wr => ∃ (k y : Nat) (p' : Option Addr) (c' : Nat) (zs : List Nat), k ≤ L + 1 ∧ i = .int .i64 k ∧ cy = .int .i64 y ∧ y ≤ 1 ∧ s = .slice p' k c' ∧ IOwn wr w.heap.size 187 .u16 p' k c' zs ∧ w.grownBy wr none ∧
      Hid (Dg 65536 zs ∧ V 65536 zs + 65536 ^ k * y = vk xs k + vk ys k)) (fun _ _ i _ => L + 1 - (intOf i).toNat)
  case atStart => exact ⟨0, 0, none, 0, [], by omega, rfl, rfl, by omega, rfl, IOwn.nil _ _ _ _, grown_refl _ _, hid ⟨Dg.nil, by simp [vk]⟩⟩
  case round =>
    obtain ⟨k, y, p', c', zs, hk, rfl, rfl, hy1, rfl, ho, hgr, HC⟩ := hrel
    by_cases hend : L ≤ k ∧ y = 0
    · obtain ⟨he1, rfl⟩ := hend
      have t1 : ¬ ((k : Int) < (n : Int)) := by omega
      have t2 : ¬ ((k : Int) < (m : Int)) := by omega
      have HN : Hid (IsN wr p' k c' (V 65536 xs + V 65536 ys)) := hid ⟨zs, ho.rd, HC.out.1, by
        have := HC.out.2
        rw [vk_all xs k (by rw [HLX.out]; omega), vk_all ys k (by rw [HLY.out]; omega)] at this
        simpa using this⟩
      go_wp2_with fail
      refine (refNorm_n HN.out (by omega)).mono ?_
      rintro e w' ⟨p2, n2, c2, rfl, hc, hn2, hg⟩
      go_wp2_with fail
      go_ret
      exact ⟨p2, n2, c2, rfl, hc, by omega, grown_trans hgr hg⟩
    · have hkL : k < L + 1 := by
        rcases Nat.lt_or_ge k (L + 1) with h | h
        · exact h
        · obtain rfl : k = L + 1 := by omega
          have hyp : y ≠ 0 := fun e => hend ⟨by omega, e⟩
          have := HC.out.2
          rw [vk_all xs _ (by rw [HLX.out]; omega), vk_all ys _ (by rw [HLY.out]; omega)] at this
          have := carry_place this HT.out hyp (by omega)
          omega
      have hx' := h1.keep hgr
      have hy' := k1.keep hgr
      have b1 := lb_lt hx k
      have b2 := lb_lt hy k
      have L1 := R1.out wr hx' k
      have L2 := R2.out wr hy' k
      have v1 := vk_succ xs k
      have v2 := vk_succ ys k
      generalize lb xs k = x at *
      generalize lb ys k = z at *
      have H1 := hid L1
      have H2 := hid L2
      have HV := hid (And.intro v1 v2)
      clear L1 L2 v1 v2
      have hcase : ((k : Int) < (n : Int)) ∨ (¬ ((k : Int) < (n : Int)) ∧ (k : Int) < (m : Int)) ∨ (¬ ((k : Int) < (n : Int)) ∧ ¬ ((k : Int) < (m : Int)) ∧ (0 : Int) < (y : Int)) := by
        have := HL.out
        have : L ≤ k → ¬ y = 0 := fun h e => hend ⟨h, e⟩
        omega
      clear hend
      have hmi : (x + z + y) % 65536 < 65536 := Nat.mod_lt _ (by omega)
      have hok : w.heap.size ≤ wr.heap.size := hgr.size
      have fin : ∀ zs', zs' = zs ++ [(x + z + y) % 65536] → Hid (Dg 65536 zs' ∧ V 65536 zs' + 65536 ^ (k + 1) * ((x + z + y) / 65536) = vk xs (k + 1) + vk ys (k + 1)) := by
        intro zs' e
        subst e
        refine hid ⟨HC.out.1.append (Dg.cons hmi Dg.nil), ?_⟩
        rw [V_snoc, HV.out.1, HV.out.2, ho.1, Nat.pow_succ, Nat.mul_assoc]
        have h2 := HC.out.2
        have h3 : 65536 ^ k * ((x + z + y) % 65536) + 65536 ^ k * (65536 * ((x + z + y) / 65536)) = 65536 ^ k * x + 65536 ^ k * z + 65536 ^ k * y := by
          rw [← Nat.mul_add, Nat.mod_add_div, Nat.mul_add, Nat.mul_add]
        omega
      have FIN := hid fin
      clear fin
      rcases hcase with t1 | ⟨t1, t2⟩ | ⟨t1, t2, t3⟩
      all_goals
        go_wp2_with (first
          | (go_at_call 279; (with_reducible refine (H1.out).mono ?_); rintro e w' ⟨rfl, rfl⟩)
          | (go_at_call 279; (with_reducible refine (H2.out).mono ?_); rintro e w' ⟨rfl, rfl⟩)
          | (with_reducible refine wl_append _ rfl (.tmp 34) (.tmp 38) 31 rfl 187 .u16 2 Tryz.underlying31 info16 w.heap.size _ _ _ zs rfl (ho.alloc _) _ 1 1 [(x + z + y) % 65536] rfl (one_rd _ _ _ _ _ (by first | rfl | (rw [IntKind.wrap_u16]; omega) | omega)) (by omega) (by omega) w (grown_trans hgr (World.grownBy_alloc _ _ _)) (Nat.le_refl _) (by simp; omega) ?_; intro p2 c2 w2 ho2 hg2))
        exact ⟨⟨k + 1, (x + z + y) / 65536, _, _, _, by omega, rfl, by congr 1, by omega, rfl, ho2, hg2, FIN.out _ rfl⟩, by simp [intOf]; omega⟩
theorem refCmp_n {p q : Option Addr} {n c m d N M : Nat} {w : World} (hA : IsN w p n c N) (hB : IsN w q m d M) :
    Calls Tryz.prog 297 #[.slice p n c, .slice q m d] w fun e w' => e = .returned (.int .i64 (cmpI (N : Nat) (M : Nat))) ∧ w = w' := by
  obtain ⟨L, h1, h2, rfl⟩ := hA
  obtain ⟨K, k1, k2, rfl⟩ := hB
  exact refCmp_any p q n m c d L K w h1 k1 h2 k2
set_option maxHeartbeats 2000000 in
theorem refSub_n {p q : Option Addr} {n c m d N M : Nat} {w : World} (hA : IsN w p n c N) (hB : IsN w q m d M) (hn : n ≤ 3000000) (hle : M ≤ N) :
    Calls Tryz.prog 278 #[.slice p n c, .slice q m d] w fun e w' => ∃ p' n' c', e = .returned (.tuple #[.slice p' n' c', .int .i64 0]) ∧ IsC w' p' n' c' (N - M) ∧ n' ≤ n ∧ w.grownBy w' none := by
  have hc0 : 0 ≤ cmpI (N : Nat) (M : Nat) := by
    rcases Nat.lt_or_ge M N with h1 | h1
    · rw [cmpI_gt h1]; decide
    · rw [show N = M by omega, cmpI_eq]; decide
  have HC0 := hid (refCmp_n hA hB)
  generalize cmpI (N : Nat) (M : Nat) = s at *
  obtain ⟨xs, h1, hx, rfl⟩ := hA
  obtain ⟨ys, k1, hy, rfl⟩ := hB
  have hmax := h1.max
  have hcap := h1.cap
  have HLX := hid h1.len
  have HLY := hid k1.len
  have hxl := hx.lt
  rw [HLX.out] at hxl
  have hyt : vk ys n = V 65536 ys := by
    by_cases hm : ys.length ≤ n
    · exact vk_all ys n hm
    · unfold vk; rw [V_take_eq ys hy n (by omega), Nat.mod_eq_of_lt (by omega)]
  have HYT := hid hyt
  have HXL := hid hxl
  have HLE := hid hle
  have R1 := hid (fun W (h : IRd W .u16 p n c xs) i => refLimb_val p n c xs W h hx i)
  have R2 := hid (fun W (h : IRd W .u16 q m d ys) i => refLimb_val q m d ys W h hy i)
  clear hyt hxl hle
  go_enter Tryz.func278, Tryz.ntmps278
  go_wp2_with fail
  refine HC0.out.mono ?_
  rintro e w' ⟨rfl, rfl⟩
  go_wp2_with fail
  go_loopw [6, 7, 8] (fun s cy i wr => ∃ (k y : Nat) (p' : Option Addr) (c' : Nat) (zs : List Nat), k ≤ n ∧ i = .int .i64 k ∧ cy = .int .i64 y ∧ y ≤ 1 ∧ s = .slice p' k c' ∧ IOwn wr w.heap.size 187 .u16 p' k c' zs ∧ w.grownBy wr none ∧
      Hid (Dg 65536 zs ∧ V 65536 zs + vk ys k = vk xs k + 65536 ^ k * y)) (fun _ _ i _ => n - (intOf i).toNat)
  case atStart => exact ⟨0, 0, none, 0, [], by omega, rfl, rfl, by omega, rfl, IOwn.nil _ _ _ _, grown_refl _ _, hid ⟨Dg.nil, by simp [vk]⟩⟩
  case round =>
    obtain ⟨k, y, p', c', zs, hk, rfl, rfl, hy1, rfl, ho, hgr, HC⟩ := hrel
    by_cases hlt : k < n
    · have hx' := h1.keep hgr
      have hy' := k1.keep hgr
      have b1 := lb_lt hx k
      have b2 := lb_lt hy k
      have L1 := R1.out wr hx' k
      have L2 := R2.out wr hy' k
      have v1 := vk_succ xs k
      have v2 := vk_succ ys k
      generalize lb xs k = x at *
      generalize lb ys k = z at *
      have H1 := hid L1
      have H2 := hid L2
      have HV := hid (And.intro v1 v2)
      clear L1 L2 v1 v2
      have hok : w.heap.size ≤ wr.heap.size := hgr.size
      have t1 : (k : Int) < (n : Int) := by omega
      have fin : ∀ r b, r + (z + y) = x + 65536 * b → r < 65536 → Hid (Dg 65536 (zs ++ [r]) ∧ V 65536 (zs ++ [r]) + vk ys (k + 1) = vk xs (k + 1) + 65536 ^ (k + 1) * b) := by
        intro r b e hr
        refine hid ⟨HC.out.1.append (Dg.cons hr Dg.nil), ?_⟩
        rw [V_snoc, HV.out.1, HV.out.2, ho.1, Nat.pow_succ, Nat.mul_assoc]
        have h2 := HC.out.2
        have h3 : 65536 ^ k * (r + (z + y)) = 65536 ^ k * (x + 65536 * b) := by rw [e]
        rw [Nat.mul_add, Nat.mul_add, Nat.mul_add] at h3
        omega
      have FIN := hid fin
      clear fin
      by_cases hb : x < z + y
      · have t2 : (x : Int) - z - y < 0 := by omega
        go_wp2_with (first
          | (go_at_call 279; (with_reducible refine (H1.out).mono ?_); rintro e w' ⟨rfl, rfl⟩)
          | (go_at_call 279; (with_reducible refine (H2.out).mono ?_); rintro e w' ⟨rfl, rfl⟩)
          | (with_reducible refine wl_append _ rfl (.tmp 33) (.tmp 36) 31 rfl 187 .u16 2 Tryz.underlying31 info16 w.heap.size _ _ _ zs rfl (ho.alloc _) _ 1 1 [x + 65536 - z - y] rfl (one_rd _ _ _ _ _ (by first | rfl | (rw [IntKind.wrap_u16]; omega) | omega)) (by omega) (by omega) w (grown_trans hgr (World.grownBy_alloc _ _ _)) (Nat.le_refl _) (by simp; omega) ?_; intro p2 c2 w2 ho2 hg2))
        exact ⟨⟨k + 1, 1, _, _, _, by omega, rfl, rfl, by omega, rfl, ho2, hg2, FIN.out _ _ (by omega) (by omega)⟩, by simp [intOf]; omega⟩
      · have t2 : ¬ ((x : Int) - z - y < 0) := by omega
        go_wp2_with (first
          | (go_at_call 279; (with_reducible refine (H1.out).mono ?_); rintro e w' ⟨rfl, rfl⟩)
          | (go_at_call 279; (with_reducible refine (H2.out).mono ?_); rintro e w' ⟨rfl, rfl⟩)
          | (with_reducible refine wl_append _ rfl (.tmp 33) (.tmp 36) 31 rfl 187 .u16 2 Tryz.underlying31 info16 w.heap.size _ _ _ zs rfl (ho.alloc _) _ 1 1 [x - z - y] rfl (one_rd _ _ _ _ _ (by first | rfl | (rw [IntKind.wrap_u16]; omega) | omega)) (by omega) (by omega) w (grown_trans hgr (World.grownBy_alloc _ _ _)) (Nat.le_refl _) (by simp; omega) ?_; intro p2 c2 w2 ho2 hg2))
        exact ⟨⟨k + 1, 0, _, _, _, by omega, rfl, rfl, by omega, rfl, ho2, hg2, FIN.out _ _ (by omega) (by omega)⟩, by simp [intOf]; omega⟩
    · obtain rfl : k = n := by omega
      have HN : Hid (IsN wr p' k c' (V 65536 xs - V 65536 ys)) := hid ⟨zs, ho.rd, HC.out.1, by
        have h2 := HC.out.2
        rw [vk_all xs k (by rw [HLX.out]; omega), HYT.out] at h2
        have h3 := HC.out.1.lt
        rw [ho.1] at h3
        have h4 := HLE.out
        have h5 := HXL.out
        have : y = 0 := by
          rcases Nat.eq_zero_or_pos y with h | h
          · exact h
          · have := borrow_place h2 h4 h3 (by omega) (by omega); omega
        subst this
        simp at h2; omega⟩
      go_wp2_with fail
      refine (refNorm_n HN.out (by omega)).mono ?_
      rintro e w' ⟨p2, n2, c2, rfl, hc, hn2, hg⟩
      go_wp2_with fail
      go_ret2
      exact ⟨p2, n2, c2, rfl, hc, by omega, grown_trans hgr hg⟩
theorem mul_small (x z : Nat) (hx : x < 65536) (hz : z < 65536) : x * z ≤ 4294836225 := Nat.mul_le_mul (show x ≤ 65535 by omega) (show z ≤ 65535 by omega)
theorem vk_mul_lt (xs ys : List Nat) (hx : Dg 65536 xs) (hy : Dg 65536 ys) (i m : Nat) (hm : ys.length = m) : vk xs i * V 65536 ys < 65536 ^ (i + m) := by
  have h1 : vk xs i < 65536 ^ i := by
    unfold vk
    exact Nat.lt_of_lt_of_le (hx.take i).lt (Nat.pow_le_pow_right (by omega) (by rw [List.length_take]; omega))
  have h2 := hy.lt
  rw [hm] at h2
  rw [Nat.pow_add]
  exact Nat.mul_lt_mul'' h1 h2
set_option maxHeartbeats 4000000 in
theorem refMul_n {p q : Option Addr} {n c m d N M : Nat} {w : World} (hA : IsN w p n c N) (hB : IsN w q m d M) (hn : n ≤ 1200000) (hm : m ≤ 1200000) :
    Calls Tryz.prog 248 #[.slice p n c, .slice q m d] w fun e w' => ∃ p' n' c', e = .returned (.slice p' n' c') ∧ IsC w' p' n' c' (N * M) ∧ n' ≤ n + m + 1 ∧ w.grownBy w' none := by
  obtain ⟨xs, h1, hx, rfl⟩ := hA
  obtain ⟨ys, k1, hy, rfl⟩ := hB
  have hmax := h1.max
  have hcap := h1.cap
  have HLX := hid h1.len
  have HLY := hid k1.len
  have R2 := hid (fun W (h : IRd W .u16 q m d ys) i => refLimb_val q m d ys W h hy i)
  have HVL := hid (fun i => vk_mul_lt xs ys hx hy i m HLY.out)
  obtain ⟨Y, hY⟩ : ∃ Y, Y = V 65536 ys := ⟨_, rfl⟩
  have HY := hid hY
  clear hY
  obtain ⟨g, hg⟩ : ∃ g, g = w.heap.size := ⟨_, rfl⟩
  go_enter Tryz.func248, Tryz.ntmps248
  go_wp2_with (at_make; refine wl_make _ rfl _ _ 31 rfl 187 .u16 2 Tryz.underlying31 (by kernel_rfl) _ _ _ _ rfl rfl (n + m + 1) (by omega) (by omega) (by omega) (by omega) ?_; intro w1 hr1 hg1)
  rw [← hg] at hr1 ⊢
  have HG := hid hg
  clear hg
  go_loopw [6] (fun i wr => ∃ (k : Nat) (cur : List Nat), k ≤ n ∧ i = .int .i64 k ∧ IRow wr g 187 .u16 cur ∧ w1.grownBy wr (some g) ∧ Hid (cur.length = n + m + 1 ∧ Dg 65536 cur ∧ V 65536 cur = vk xs k * Y)) (fun i _ => n - (intOf i).toNat)
  case atStart => exact ⟨0, _, Nat.zero_le _, rfl, hr1, grown_refl _ _, hid ⟨by simp, Dg.zeros (by omega) _, by simp [V_zeros, vk]⟩⟩
  case round =>
    obtain ⟨i, cur, hi, rfl, hrow, hgr, HC⟩ := hrel
    by_cases hlt : i < n
    · have hiu : i < xs.length := by rw [HLX.out]; exact hlt
      obtain ⟨b, o, rfl, hc1⟩ := h1.cel i hiu
      have hbl := World.block_lt_of_cell? _ _ hc1
      obtain ⟨x, hx'⟩ : ∃ x, x = xs[i] := ⟨_, rfl⟩
      rw [← hx'] at hc1
      have hxb : x < 65536 := by rw [hx']; exact hx.get i hiu
      have HX : Hid (vk xs (i + 1) = vk xs i + 65536 ^ i * x) := hid (by rw [vk_succ, hx']; unfold lb; rw [List.getElem?_eq_getElem hiu]; rfl)
      clear hx'
      have ti : (i : Int) < (n : Int) := by omega
      go_wp2_with fail
      go_loopw [7, 8] (fun cy s wq => ∃ (k y : Nat) (cu : List Nat), k ≤ m + 1 ∧ s = .int .i64 k ∧ cy = .int .u64 y ∧ y < 65536 ∧ IRow wq g 187 .u16 cu ∧ w1.grownBy wq (some g) ∧
          Hid (cu.length = n + m + 1 ∧ Dg 65536 cu ∧ V 65536 cu + 65536 ^ (i + k) * y = vk xs i * Y + 65536 ^ i * (x * vk ys k))) (fun _ s _ => m + 1 - (intOf s).toNat)
      case atStart => exact ⟨0, 0, cur, by omega, rfl, rfl, by omega, hrow, hgr, hid ⟨HC.out.1, HC.out.2.1, by rw [HC.out.2.2]; simp [vk]⟩⟩
      case round =>
        obtain ⟨k, y, cu, hk, rfl, rfl, hyb, hrow, hgr, HC⟩ := hrel
        by_cases hend : m ≤ k ∧ y = 0
        · obtain ⟨he1, rfl⟩ := hend
          have t1 : ¬ ((k : Int) < (m : Int)) := by omega
          go_wp2
          refine ⟨⟨i + 1, cu, by omega, rfl, hrow, hgr, hid ⟨HC.out.1, HC.out.2.1, ?_⟩⟩, by simp [intOf]; omega⟩
          have h2 := HC.out.2.2
          rw [vk_all ys k (by rw [HLY.out]; exact he1), ← HY.out, Nat.mul_zero, Nat.add_zero] at h2
          rw [h2, HX.out, Nat.add_mul, Nat.mul_assoc]
        · have hkm : k < m + 1 := by
            rcases Nat.lt_or_ge k (m + 1) with h | h
            · exact h
            · obtain rfl : k = m + 1 := by omega
              have hyp : y ≠ 0 := fun e => hend ⟨by omega, e⟩
              have h2 := HC.out.2.2
              rw [vk_all ys _ (by rw [HLY.out]; omega), ← HY.out, ← Nat.mul_assoc, ← Nat.add_mul, ← HX.out] at h2
              have h3 := HVL.out (i + 1)
              rw [← HY.out] at h3
              have := carry_place h2 h3 hyp (by omega)
              omega
          have hcl : i + k < cu.length := by rw [HC.out.1]; omega
          have hcc := hrow.cell (i + k) hcl
          have hfr := hrow.free (i + k)
          obtain ⟨t, ht⟩ : ∃ t, t = cu[i + k] := ⟨_, rfl⟩
          rw [← ht] at hcc
          have htb : t < 65536 := by rw [ht]; exact HC.out.2.1.get _ hcl
          have HTT := hid ht
          have hgw : w.grownBy wr none := grown_new hg1 hgr (fun g' e' => by cases e'; rw [HG.out]; exact Nat.le_refl _)
          have hca := hgw.cell hc1 (by simp)
          have b2 := lb_lt hy k
          have L2 := fun W h => R2.out W h k
          have v2 := vk_succ ys k
          generalize lb ys k = z at *
          have hyw := k1.keep hgw
          have H2 := hid L2
          have HV2 := hid v2
          clear ht L2 v2
          have hm1 := mul_small x z hxb b2
          have hm2 : (x : Int) * (z : Int) ≤ 4294836225 := by rw [← Int.natCast_mul]; omega
          have hm3 : (0 : Int) ≤ (x : Int) * (z : Int) := by rw [← Int.natCast_mul]; omega
          have hcase : ((k : Int) < (m : Int)) ∨ (¬ ((k : Int) < (m : Int)) ∧ (0 : Int) < (y : Int)) := by
            have : m ≤ k → ¬ y = 0 := fun h e => hend ⟨h, e⟩
            omega
          have hik : (0 : Int) ≤ (i : Int) + k := by omega
          have hik2 : (i : Int) + k < (n : Int) + m + 1 := by omega
          clear hend
          rcases hcase with t1 | ⟨t1, t2⟩
          all_goals
            go_wp2
            go_quiet ((go_at_call 279; exact quiet_same (H2.out _ (hyw.keep (grown_drewN _ _ _)))))
            go_wp2
            have e0 : (t : Int) + (x : Int) * z + y = ((t + x * z + y : Nat) : Int) := by simp
            have hs := step_add (B := 65536) cu (i + k) ((t + x * z + y) % 65536) ((t + x * z + y) / 65536) (x * z + y) hcl (by rw [← HTT.out]; omega)
            refine ⟨⟨k + 1, (t + x * z + y) / 65536, _, by omega, rfl, ?_, by omega, hrow.setv _ _ ((t + x * z + y) % 65536) ?_, grown_trans (gdN hgr _) (grown_setCell _ _ _), hid ⟨by simpa using HC.out.1, HC.out.2.1.set _ _ (Nat.mod_lt _ (by omega)), ?_⟩⟩, by simp [intOf]; omega⟩
            · congr 1
            · omega
            · have h2 := HC.out.2.2
              have e1 : 65536 ^ i * (65536 ^ k * (x * z)) = 65536 ^ (i + k) * (x * z) := by rw [← Nat.mul_assoc, ← Nat.pow_add]
              rw [HV2.out, Nat.mul_add x, Nat.mul_add (65536 ^ i), Nat.mul_left_comm x, e1]
              rw [Nat.mul_add (65536 ^ (i + k)) (x * z) y] at hs
              rw [show i + (k + 1) = i + k + 1 by omega]
              omega
    · obtain rfl : i = n := by omega
      have HN : Hid (IsN wr (some ⟨g, 0, none⟩) (i + m + 1) (i + m + 1) (V 65536 xs * V 65536 ys)) := hid ⟨cur, by have := hrow.rd0 (by rw [HC.out.1]; omega); rwa [HC.out.1] at this, HC.out.2.1, by
        rw [HC.out.2.2, vk_all xs i (by rw [HLX.out]; exact Nat.le_refl _), HY.out]⟩
      go_wp2_with fail
      refine (refNorm_n HN.out (by omega)).mono ?_
      rintro e w' ⟨p2, n2, c2, rfl, hc, hn2, hg⟩
      go_wp2_with fail
      go_ret
      exact ⟨p2, n2, c2, rfl, hc, by omega, grown_trans (grown_new hg1 hgr (fun g' e' => by cases e'; rw [HG.out]; exact Nat.le_refl _)) hg⟩
theorem sub_step (x y lo hi p s1 c1 cy s2 c2 : Nat) (hx : x < W64) (hy : y < W64) (hp : p < W64) (hcy : cy < W64) (hs2 : s2 < W64) (h1 : x * y = lo + W64 * hi) (h2 : lo + cy + 0 = s1 + W64 * c1) (h3 : s2 + (s1 + 0) = p + W64 * c2) :
    s2 + (x * y + cy) = p + W64 * (hi + c1 + c2) ∧ hi + c1 + c2 < W64 := by
  have e : s2 + (x * y + cy) = p + W64 * (hi + c1 + c2) := by rw [Nat.mul_add, Nat.mul_add]; omega
  refine ⟨e, Nat.lt_of_not_le fun h => ?_⟩
  have k1 : W64 * W64 ≤ W64 * (hi + c1 + c2) := Nat.mul_le_mul_left _ h
  have k2 : x * y ≤ (W64 - 1) * (W64 - 1) := Nat.mul_le_mul (by omega) (by omega)
  have k3 : (W64 - 1) * (W64 - 1) + 2 * (W64 - 1) + 1 = W64 * W64 := by decide
  omega
set_option maxHeartbeats 2000000 in
theorem subProduct_any (g off pc : Nat) (cur ys : List Nat) (q : Option Addr) (m d x : Nat) (w : World) (hrow : IRow w g 213 .u64 cur) (hq : IRd w .u64 q m d ys) (hne : ∀ p, q = some p → some p.block ≠ some g)
    (hoff : off + m ≤ cur.length) (hlen : cur.length ≤ 900000) (hcur : Dg W64 cur) (hys : Dg W64 ys) (hx : x < W64) :
    Calls Tryz.prog 267 #[.slice (some ⟨g, off, none⟩) m pc, .slice q m d, .int .u64 x] w fun e w' => ∃ (cy : Nat) (cur' : List Nat), e = .returned (.int .u64 cy) ∧ cy < W64 ∧ IRow w' g 213 .u64 cur' ∧ w.grownBy w' (some g) ∧
      Hid (cur'.length = cur.length ∧ Dg W64 cur' ∧ V W64 cur' + W64 ^ off * (x * V W64 ys) = V W64 cur + W64 ^ (off + m) * cy ∧ ∀ j, j < off ∨ off + m ≤ j → cur'[j]? = cur[j]?) := by
  have HL := hid hq.len
  have hqm := hq.max
  have hqc := hq.cap
  go_enter Tryz.func267, Tryz.ntmps267
  go_wp2_with fail
  go_loopw [7, 15] (fun s7 i wr => ∃ (k cy : Nat) (cu : List Nat), k ≤ m ∧ i = .int .i64 k ∧ s7 = .int .u64 cy ∧ cy < W64 ∧ IRow wr g 213 .u64 cu ∧ w.grownBy wr (some g) ∧
      Hid (cu.length = cur.length ∧ Dg W64 cu ∧ V W64 cu + W64 ^ off * (x * V W64 (ys.take k)) = V W64 cur + W64 ^ (off + k) * cy ∧ ∀ j, j < off ∨ off + k ≤ j → cu[j]? = cur[j]?)) (fun _ i _ => m - (intOf i).toNat)
  case atStart => exact ⟨0, 0, cur, Nat.zero_le _, rfl, rfl, by decide, hrow, grown_refl _ _, hid ⟨rfl, hcur, by simp, fun _ _ => rfl⟩⟩
  case round =>
    obtain ⟨k, cy, cu, hk, rfl, rfl, hcy, hr, hgr, HC⟩ := hrel
    by_cases hlt : k < m
    · obtain ⟨b', o', rfl, hc1⟩ := hq.cel k (by rw [HL.out]; exact hlt)
      have hc2 := hgr.cell hc1 (hne ⟨b', o', none⟩ rfl)
      obtain ⟨y, hy⟩ : ∃ y, y = ys[k]'(by rw [HL.out]; exact hlt) := ⟨_, rfl⟩
      rw [← hy] at hc2
      have hyb : y < W64 := by rw [hy]; exact hys.get k _
      have hcl : off + k < cu.length := by rw [HC.out.1]; omega
      have hcc := hr.cell (off + k) hcl
      have hfr := hr.free (off + k)
      obtain ⟨p, hp⟩ : ∃ p, p = cu[off + k] := ⟨_, rfl⟩
      rw [← hp] at hcc
      have hpb : p < W64 := by rw [hp]; exact HC.out.2.1.get _ hcl
      have HP := hid hp
      have HY := hid hy
      clear hp hy hc1
      go_wp2_with (first
        | (go_at_call 255; refine (mul64_any x y hx hyb _).mono ?_; rintro e w' ⟨hi, lo, rfl, hhi, hlo, HM, rfl⟩)
        | (with_reducible refine wl_add64 _ rfl (.tmp 27) (.tmp 28) _ _ rfl _ _ 0 rfl rfl rfl hlo hcy (by omega) ?_; intro s1 c1 hs1 hc1 H1)
        | (with_reducible refine wl_sub64 _ rfl (.tmp 41) (.tmp 42) _ _ rfl _ _ 0 rfl rfl rfl hpb hs1 (by omega) ?_; intro s2 c2 hs2 hc2 H2))
      have hm := sub_step x y lo hi p s1 c1 cy s2 c2 hx hyb hpb hcy hs2 HM.out H1.out H2.out
      have hw : IntKind.u64.wrap (IntKind.u64.wrap ((hi : Int) + c1) + c2) = ((hi + c1 + c2 : Nat) : Int) := by
        have h2 : hi + c1 + c2 < 18446744073709551616 := hm.2
        rw [IntKind.wrap_u64, IntKind.wrap_u64]; omega
      have hs := step_sub (B := W64) cu (off + k) s2 (hi + c1 + c2) (x * y + cy) hcl (by rw [← HP.out]; exact hm.1)
      have hv := V_take_succ (B := W64) ys k (by rw [HL.out]; exact hlt)
      rw [← HY.out] at hv
      refine ⟨⟨k + 1, hi + c1 + c2, _, by omega, rfl, by rw [hw], hm.2, hr.setv _ _ s2 rfl, grown_trans hgr (grown_setCell _ _ _),
        hid ⟨by simpa using HC.out.1, HC.out.2.1.set _ _ hs2, ?_, fun j hj => ?_⟩⟩, by simp [intOf]; omega⟩
      · rw [hv, Nat.mul_add x, Nat.mul_add (W64 ^ off)]
        have h0 := HC.out.2.2.1
        rw [Nat.mul_add (W64 ^ (off + k)) (x * y) cy] at hs
        have e1 : W64 ^ off * (x * (W64 ^ k * y)) = W64 ^ (off + k) * (x * y) := by
          rw [Nat.pow_add, Nat.mul_assoc, Nat.mul_left_comm x]
        rw [e1]
        have e2 : off + (k + 1) = off + k + 1 := by omega
        rw [e2]
        omega
      · rw [List.getElem?_set_ne (by omega)]
        exact HC.out.2.2.2 j (by omega)
    · obtain rfl : k = m := by omega
      go_wp2
      go_ret
      refine ⟨cy, cu, rfl, hcy, hr, hgr, hid ⟨HC.out.1, HC.out.2.1, ?_, HC.out.2.2.2⟩⟩
      have := HC.out.2.2.1
      rwa [List.take_of_length_le (by rw [HL.out]; exact Nat.le_refl _)] at this
set_option maxHeartbeats 2000000 in
theorem addWords_any (g off pc : Nat) (cur ys : List Nat) (q : Option Addr) (m d : Nat) (w : World) (hrow : IRow w g 213 .u64 cur) (hq : IRd w .u64 q m d ys) (hne : ∀ p, q = some p → some p.block ≠ some g)
    (hoff : off + m ≤ cur.length) (hlen : cur.length ≤ 900000) (hcur : Dg W64 cur) (hys : Dg W64 ys) :
    Calls Tryz.prog 268 #[.slice (some ⟨g, off, none⟩) m pc, .slice q m d] w fun e w' => ∃ (cy : Nat) (cur' : List Nat), e = .returned (.int .u64 cy) ∧ IRow w' g 213 .u64 cur' ∧ w.grownBy w' (some g) ∧
      Hid (cur'.length = cur.length ∧ Dg W64 cur' ∧ V W64 cur' + W64 ^ (off + m) * cy = V W64 cur + W64 ^ off * V W64 ys ∧ ∀ j, j < off ∨ off + m ≤ j → cur'[j]? = cur[j]?) := by
  have HL := hid hq.len
  have hqm := hq.max
  have hqc := hq.cap
  go_enter Tryz.func268, Tryz.ntmps268
  go_wp2_with fail
  go_loopw [5, 10] (fun s7 i wr => ∃ (k cy : Nat) (cu : List Nat), k ≤ m ∧ i = .int .i64 k ∧ s7 = .int .u64 cy ∧ cy ≤ 1 ∧ IRow wr g 213 .u64 cu ∧ w.grownBy wr (some g) ∧
      Hid (cu.length = cur.length ∧ Dg W64 cu ∧ V W64 cu + W64 ^ (off + k) * cy = V W64 cur + W64 ^ off * V W64 (ys.take k) ∧ ∀ j, j < off ∨ off + k ≤ j → cu[j]? = cur[j]?)) (fun _ i _ => m - (intOf i).toNat)
  case atStart => exact ⟨0, 0, cur, Nat.zero_le _, rfl, rfl, by omega, hrow, grown_refl _ _, hid ⟨rfl, hcur, by simp, fun _ _ => rfl⟩⟩
  case round =>
    obtain ⟨k, cy, cu, hk, rfl, rfl, hcy, hr, hgr, HC⟩ := hrel
    by_cases hlt : k < m
    · obtain ⟨b', o', rfl, hc1⟩ := hq.cel k (by rw [HL.out]; exact hlt)
      have hc2 := hgr.cell hc1 (hne ⟨b', o', none⟩ rfl)
      obtain ⟨y, hy⟩ : ∃ y, y = ys[k]'(by rw [HL.out]; exact hlt) := ⟨_, rfl⟩
      rw [← hy] at hc2
      have hyb : y < W64 := by rw [hy]; exact hys.get k _
      have hcl : off + k < cu.length := by rw [HC.out.1]; omega
      have hcc := hr.cell (off + k) hcl
      have hfr := hr.free (off + k)
      obtain ⟨p, hp⟩ : ∃ p, p = cu[off + k] := ⟨_, rfl⟩
      rw [← hp] at hcc
      have hpb : p < W64 := by rw [hp]; exact HC.out.2.1.get _ hcl
      have HP := hid hp
      have HY := hid hy
      clear hp hy hc1
      go_wp2_with (with_reducible refine wl_add64 _ rfl (.tmp 21) (.tmp 22) (.tmp 23) _ rfl _ _ cy rfl rfl rfl hpb hyb hcy ?_; intro s1 c1 hs1 hc1 H1)
      have hs := step_add (B := W64) cu (off + k) s1 c1 (y + cy) hcl (by rw [← HP.out]; have := H1.out; omega)
      have hv := V_take_succ (B := W64) ys k (by rw [HL.out]; exact hlt)
      rw [← HY.out] at hv
      refine ⟨⟨k + 1, c1, _, by omega, rfl, rfl, hc1, hr.setv _ _ s1 rfl, grown_trans hgr (grown_setCell _ _ _),
        hid ⟨by simpa using HC.out.1, HC.out.2.1.set _ _ hs1, ?_, fun j hj => ?_⟩⟩, by simp [intOf]; omega⟩
      · rw [hv, Nat.mul_add (W64 ^ off)]
        have h0 := HC.out.2.2.1
        rw [Nat.mul_add (W64 ^ (off + k)) y cy] at hs
        have e1 : W64 ^ off * (W64 ^ k * y) = W64 ^ (off + k) * y := by rw [Nat.pow_add, Nat.mul_assoc]
        rw [e1]
        have e2 : off + (k + 1) = off + k + 1 := by omega
        rw [e2]
        omega
      · rw [List.getElem?_set_ne (by omega)]
        exact HC.out.2.2.2 j (by omega)
    · obtain rfl : k = m := by omega
      go_wp2
      go_ret
      refine ⟨cy, cu, rfl, hr, hgr, hid ⟨HC.out.1, HC.out.2.1, ?_, HC.out.2.2.2⟩⟩
      have := HC.out.2.2.1
      rwa [List.take_of_length_le (by rw [HL.out]; exact Nat.le_refl _)] at this
theorem or_shift (a x n : Nat) (hn : n ≤ 63) (ha : a < 2 ^ n) : bits .or .u64 (a : Int) ((x * 2 ^ n % W64 : Nat) : Int) = ((a + x * 2 ^ n % W64 : Nat) : Int) ∧ a + x * 2 ^ n % W64 < W64 := by
  have hlow := shl_low (x := x) (two_pow_cut n hn)
  have hX : x * 2 ^ n % W64 < W64 := Nat.mod_lt _ (by decide)
  have hj := nat_join n (x * 2 ^ n % W64) a (by rw [hlow]; exact Nat.mul_mod_left _ _) ha
  have hb : a + x * 2 ^ n % W64 < W64 := by
    have h1 : x % 2 ^ (64 - n) < 2 ^ (64 - n) := Nat.mod_lt _ (Nat.pow_pos (by omega))
    have h2 := Nat.mul_le_mul_right (2 ^ n) (show x % 2 ^ (64 - n) + 1 ≤ 2 ^ (64 - n) from h1)
    rw [Nat.add_mul, Nat.one_mul, Nat.mul_comm (2 ^ (64 - n)), two_pow_cut n hn, ← hlow] at h2
    omega
  have ha2 : a < W64 := Nat.lt_of_le_of_lt (Nat.le_add_right _ _) hb
  refine ⟨?_, hb⟩
  rw [bits_or_u64_nat _ _ ha2 hX, Nat.or_comm, hj, Nat.add_comm]
set_option maxHeartbeats 1000000 in
theorem shiftUp_any (a : Option Addr) (L c n : Nat) (ws : List Nat) (w : World) (h : IRd w .u64 a L c ws) (hd : Dg W64 ws) (hn : n ≤ 63) (hL : L ≤ 900000) :
    Calls Tryz.prog 265 #[.slice a L c, .int .i64 n] w fun e w' => ∃ ys, e = .returned (.slice (some ⟨w.heap.size, 0, none⟩) (L + 1 : Nat) (L + 1 : Nat)) ∧ IRow w' w.heap.size 213 .u64 ys ∧
      Hid (ys.length = L + 1 ∧ V W64 ys = V W64 ws * 2 ^ n ∧ Dg W64 ys) ∧ w.grownBy w' none := by
  have hmax := h.max
  have hcap := h.cap
  have HL := hid h.len
  obtain ⟨g, hg⟩ : ∃ g, g = w.heap.size := ⟨_, rfl⟩
  go_enter Tryz.func265, Tryz.ntmps265
  go_wp2_with (first
      | (at_make; refine wl_make _ rfl _ _ 229 rfl 213 .u64 8 Tryz.underlying229 (by kernel_rfl) _ _ _ _ rfl rfl (L + 1) (by omega) (by omega) (by omega) (by omega) ?_; intro w1 hr1 hg1))
  rw [← hg] at hr1 ⊢
  have HG := hid hg
  clear hg
  go_loopw [14] (fun i wr => ∃ k : Nat, ∃ cu : List Nat, k ≤ L ∧ i = .int .i64 k ∧ IRow wr g 213 .u64 cu ∧ w1.grownBy wr (some g) ∧
      Hid (cu.length = L + 1 ∧ Dg W64 cu ∧ V W64 cu = V W64 (ws.take k) * 2 ^ n ∧ (∀ j, k < j → j < L + 1 → cu[j]? = some 0) ∧ ∀ t, cu[k]? = some t → t < 2 ^ n)) (fun i _ => L - (intOf i).toNat)
  case atStart => exact ⟨0, _, Nat.zero_le _, rfl, hr1, grown_refl _ _, hid ⟨by simp, Dg.zeros (by decide) _, by rw [V_zeros]; simp, fun j h1 h2 => by simp [h2], fun t ht => by
    have : t = 0 := by simpa using ht.symm
    rw [this]; exact Nat.pow_pos (by omega)⟩⟩
  case round =>
    obtain ⟨k, cu, hk, rfl, hr, hgr, HC⟩ := hrel
    by_cases hlt : k < L
    · have hku : k < ws.length := by rw [HL.out]; exact hlt
      obtain ⟨b', o', rfl, hc1⟩ := h.cel k hku
      have hbl := World.block_lt_of_cell? _ _ hc1
      have hc2 := hgr.cell (hg1.cell hc1 (by simp)) (by intro e; have := HG.out; simp at e hbl; omega)
      obtain ⟨x, hx⟩ : ∃ x, x = ws[k] := ⟨_, rfl⟩
      rw [← hx] at hc2
      have hxb : x < W64 := by rw [hx]; exact hd.get _ hku
      have hv := V_take_succ (B := W64) ws k hku
      rw [← hx] at hv
      have hcl : k < cu.length := by rw [HC.out.1]; omega
      have hcl1 : k + 1 < cu.length := by rw [HC.out.1]; omega
      have hcc := hr.cell k hcl
      have hfr := hr.free k
      have hcc1 := hr.cell (k + 1) hcl1
      have hfr1 := hr.free (k + 1)
      obtain ⟨t, ht⟩ : ∃ t, t = cu[k] := ⟨_, rfl⟩
      rw [← ht] at hcc
      have htb : t < 2 ^ n := HC.out.2.2.2.2 t (by rw [List.getElem?_eq_getElem hcl, ht])
      have h0 : cu[k + 1] = 0 := by
        have := HC.out.2.2.2.1 (k + 1) (by omega) (by omega)
        rw [List.getElem?_eq_getElem hcl1] at this
        simpa using this
      rw [h0] at hcc1
      have hup := up_step (W := W64) (S := 2 ^ n) (T := 2 ^ (64 - n)) (by decide) (two_pow_cut n hn) (Nat.pow_pos (by omega)) (Nat.pow_pos (by omega)) cu k x _ hcl1 hxb h0 HC.out.2.2.1
      have hos := or_shift t x n hn htb
      rw [← ht, ← hv] at hup
      obtain ⟨X, hX⟩ : ∃ X, X = x * 2 ^ n % W64 := ⟨_, rfl⟩
      obtain ⟨Z, hZ⟩ : ∃ Z, Z = x / 2 ^ (64 - n) := ⟨_, rfl⟩
      obtain ⟨U, hU⟩ : ∃ U, U = t + X := ⟨_, rfl⟩
      have hZb : Z < W64 := by rw [hZ]; exact Nat.lt_of_le_of_lt (Nat.div_le_self _ _) hxb
      rw [← hX, ← hU] at hos
      rw [← hX, ← hU, ← hZ] at hup
      have eX : IntKind.u64.wrap ((x : Int) * 2 ^ n) = (X : Int) := by
        rw [show ((x : Int) * 2 ^ n) = ((x * 2 ^ n : Nat) : Int) by simp, wrap_mod, hX]; rfl
      have eO := hos.1
      have eZ : (x : Int) / 2 ^ (64 - n) = (Z : Int) := by rw [hZ]; simp
      have HUP := hid hup
      have HUb := hid hos.2
      have HZb := hid hZb
      have hn0 : (0 : Int) ≤ (n : Int) := by omega
      have hn1 : (n : Int) ≤ 64 := by omega
      have hkk : (k : Int) + 1 < (L : Int) + 1 := by omega
      have hkk0 : (0 : Int) ≤ (k : Int) := by omega
      have hkk1 : (k : Int) < (L : Int) + 1 := by omega
      clear hx hv ht htb h0 hup hos hX hZ hU hZb hc1
      go_wp2
      go_region
      all_goals
        go_wp2
        refine ⟨⟨k + 1, (cu.set k U).set (k + 1) Z, by omega, rfl, ?_, ?_, hid ⟨by simpa using HC.out.1, (HC.out.2.1.set _ _ HUb.out).set _ _ HZb.out, HUP.out.1, fun j h1 h2 => ?_, fun t ht => ?_⟩⟩, by simp [intOf]; omega⟩
        · exact IRow.setv (IRow.setv (w := wr.drew) hr k _ U rfl) (k + 1) _ Z rfl
        · exact grown_trans (grown_trans (grown_trans hgr (grown_setCell _ _ _)) (grown_setCell _ _ _)) (grown_drew _ _)
        · rw [List.getElem?_set_ne (by omega), List.getElem?_set_ne (by omega)]
          exact HC.out.2.2.2.1 j (by omega) h2
        · rw [List.getElem?_set_self (by simpa using hcl1)] at ht
          rw [← Option.some.inj ht]; exact HUP.out.2
    · obtain rfl : k = L := by omega
      go_wp2
      go_ret
      have e1 := HC.out.2.2.1
      rw [List.take_of_length_le (by rw [HL.out]; exact Nat.le_refl _)] at e1
      exact ⟨cu, by rw [← HG.out]; rfl, by rw [← HG.out]; exact hr, hid ⟨HC.out.1, e1, HC.out.2.1⟩, grown_new hg1 hgr (fun g' e' => by cases e'; rw [HG.out]; exact Nat.le_refl _)⟩
set_option maxHeartbeats 1000000 in
theorem shiftDown_any (a : Option Addr) (L c n : Nat) (ws : List Nat) (w : World) (h : IRd w .u64 a L c ws) (hd : Dg W64 ws) (hn : n ≤ 63) (hL : L ≤ 900000) :
    Calls Tryz.prog 269 #[.slice a L c, .int .i64 n] w fun e w' => ∃ ys, e = .returned (.slice (some ⟨w.heap.size, 0, none⟩) L L) ∧ IRow w' w.heap.size 213 .u64 ys ∧
      Hid (ys.length = L ∧ V W64 ys = V W64 ws / 2 ^ n ∧ Dg W64 ys) ∧ w.grownBy w' none := by
  have hmax := h.max
  have hcap := h.cap
  have HL := hid h.len
  obtain ⟨g, hg⟩ : ∃ g, g = w.heap.size := ⟨_, rfl⟩
  go_enter Tryz.func269, Tryz.ntmps269
  go_wp2_with (first
      | (at_make; refine wl_make _ rfl _ _ 229 rfl 213 .u64 8 Tryz.underlying229 (by kernel_rfl) _ _ _ _ rfl rfl L (by omega) (by omega) (by omega) (by omega) ?_; intro w1 hr1 hg1))
  rw [← hg] at hr1 ⊢
  have HG := hid hg
  clear hg
  go_loopw [13] (fun i wr => ∃ k : Nat, ∃ cu : List Nat, k ≤ L ∧ i = .int .i64 k ∧ IRow wr g 213 .u64 cu ∧ w1.grownBy wr (some g) ∧
      Hid (cu.length = L ∧ Dg W64 cu ∧ V W64 cu = V W64 (ws.take k) / 2 ^ n ∧ (∀ j, k ≤ j → j < L → cu[j]? = some 0) ∧ ∀ j t, j + 1 = k → cu[j]? = some t → t < 2 ^ (64 - n))) (fun i _ => L - (intOf i).toNat)
  case atStart => exact ⟨0, _, Nat.zero_le _, rfl, hr1, grown_refl _ _, hid ⟨by simp, Dg.zeros (by decide) _, by rw [V_zeros]; simp, fun j h1 h2 => by simp [h2], fun j t hj ht => by omega⟩⟩
  case round =>
    obtain ⟨k, cu, hk, rfl, hr, hgr, HC⟩ := hrel
    by_cases hlt : k < L
    · have hku : k < ws.length := by rw [HL.out]; exact hlt
      obtain ⟨b', o', rfl, hc1⟩ := h.cel k hku
      have hbl := World.block_lt_of_cell? _ _ hc1
      have hc2 := hgr.cell (hg1.cell hc1 (by simp)) (by intro e; have := HG.out; simp at e hbl; omega)
      obtain ⟨x, hx⟩ : ∃ x, x = ws[k] := ⟨_, rfl⟩
      rw [← hx] at hc2
      have hxb : x < W64 := by rw [hx]; exact hd.get _ hku
      have hv := V_take_succ (B := W64) ws k hku
      rw [← hx] at hv
      have hcl : k < cu.length := by rw [HC.out.1]; omega
      have h0 : cu[k] = 0 := by
        have := HC.out.2.2.2.1 k (by omega) (by omega)
        rw [List.getElem?_eq_getElem hcl] at this
        simpa using this
      have hcc := hr.cell k hcl
      have hfr := hr.free k
      rw [h0] at hcc
      obtain ⟨Z, hZ⟩ : ∃ Z, Z = x / 2 ^ n := ⟨_, rfl⟩
      have hZb : Z < W64 := by rw [hZ]; exact Nat.lt_of_le_of_lt (Nat.div_le_self _ _) hxb
      have eZ : (x : Int) / 2 ^ n = (Z : Int) := by rw [hZ]; simp
      have hn0 : (0 : Int) ≤ (n : Int) := by omega
      have hn1 : (n : Int) ≤ 64 := by omega
      have hkk0 : (0 : Int) ≤ (k : Int) := by omega
      have hkk1 : (k : Int) < (L : Int) := by omega
      have hZt : Z < 2 ^ (64 - n) := by rw [hZ]; exact Nat.div_lt_of_lt_mul (by rw [two_pow_cut n hn]; exact hxb)
      by_cases hk0 : 0 < k
      · obtain ⟨j, rfl⟩ : ∃ j, k = j + 1 := ⟨k - 1, by omega⟩
        have hclj : j < cu.length := by omega
        have hccj := hr.cell j hclj
        have hfrj := hr.free j
        obtain ⟨t, ht⟩ : ∃ t, t = cu[j] := ⟨_, rfl⟩
        rw [← ht] at hccj
        have htb : t < 2 ^ (64 - n) := HC.out.2.2.2.2 j t rfl (by rw [List.getElem?_eq_getElem hclj, ht])
        have hds := down_step (W := W64) (S := 2 ^ n) (T := 2 ^ (64 - n)) (by decide) (two_pow_cut n hn) (Nat.pow_pos (by omega)) (Nat.pow_pos (by omega)) cu j x _ hcl hxb h0 HC.out.2.2.1
        have hos : bits .or .u64 (t : Int) ((x * 2 ^ (64 - n) % W64 : Nat) : Int) = ((t + x * 2 ^ (64 - n) % W64 : Nat) : Int) ∧ t + x * 2 ^ (64 - n) % W64 < W64 := by
          rcases Nat.eq_zero_or_pos n with hn0 | hn0
          · have e64 : x * 2 ^ (64 - n) % W64 = 0 := by rw [hn0]; exact Nat.mul_mod_left x W64
            rw [e64]
            have : t < W64 := by rw [hn0] at htb; exact htb
            exact ⟨by rw [bits_or_u64_nat _ _ this (by decide)]; simp, by simpa using this⟩
          · exact or_shift t x (64 - n) (by omega) htb
        rw [← ht, ← hv] at hds
        obtain ⟨X, hX⟩ : ∃ X, X = x * 2 ^ (64 - n) % W64 := ⟨_, rfl⟩
        obtain ⟨U, hU⟩ : ∃ U, U = t + X := ⟨_, rfl⟩
        rw [← hX, ← hU] at hos
        rw [← hX, ← hU, ← hZ] at hds
        have eX : IntKind.u64.wrap ((x : Int) * 2 ^ (64 - n)) = (X : Int) := by
          rw [show ((x : Int) * 2 ^ (64 - n)) = ((x * 2 ^ (64 - n) : Nat) : Int) by simp, wrap_mod, hX]; rfl
        have eO := hos.1
        have HUP := hid hds
        have HUb := hid hos.2
        have HZb := hid hZb
        have HZt := hid hZt
        have hj1 : (j : Int) < (L : Int) := by omega
        have hj0 : (0 : Int) ≤ (j : Int) := by omega
        clear hx hv ht htb h0 hds hos hX hZ hU hZb hc1 hZt
        go_wp2
        go_region
        all_goals
          go_wp2
          refine ⟨⟨j + 1 + 1, (cu.set (j + 1) Z).set j U, by omega, rfl, ?_, ?_, hid ⟨by simpa using HC.out.1, (HC.out.2.1.set _ _ HZb.out).set _ _ HUb.out, HUP.out.1, fun j' h1 h2 => ?_, fun j' t hj ht => ?_⟩⟩, by simp [intOf]; omega⟩
          · exact IRow.setv (IRow.setv (w := wr) hr (j + 1) _ Z rfl) j _ U rfl
          · exact grown_trans (grown_trans (grown_trans hgr (grown_setCell _ _ _)) (grown_setCell _ _ _)) (grown_drew _ _)
          · rw [List.getElem?_set_ne (by omega), List.getElem?_set_ne (by omega)]
            exact HC.out.2.2.2.1 j' (by omega) h2
          · obtain rfl : j' = j + 1 := by omega
            rw [List.getElem?_set_ne (by omega), List.getElem?_set_self hcl] at ht
            rw [← Option.some.inj ht]; exact HZt.out
      · obtain rfl : k = 0 := by omega
        have hdf := down_first (W := W64) (S := 2 ^ n) cu x hcl h0 (by rw [HC.out.2.2.1]; simp)
        rw [← hZ] at hdf
        have e2 : V W64 (cu.set 0 Z) = V W64 (ws.take 1) / 2 ^ n := by rw [hdf, hv, hZ]; simp
        have HUP := hid e2
        have HZb := hid hZb
        have HZt := hid hZt
        clear hx hv h0 hZ hZb hc1 hZt hdf e2
        rw [Nat.add_zero] at hc2
        go_wp2
        refine ⟨⟨1, cu.set 0 Z, by omega, rfl, IRow.setv (w := wr) hr 0 _ Z rfl, grown_trans hgr (grown_setCell _ _ _), hid ⟨by simpa using HC.out.1, HC.out.2.1.set _ _ HZb.out, HUP.out, fun j' h1 h2 => ?_, fun j' t hj ht => ?_⟩⟩, by simp [intOf]; omega⟩
        · rw [List.getElem?_set_ne (by omega)]
          exact HC.out.2.2.2.1 j' (by omega) h2
        · obtain rfl : j' = 0 := by omega
          rw [List.getElem?_set_self hcl] at ht
          rw [← Option.some.inj ht]; exact HZt.out
    · obtain rfl : k = L := by omega
      go_wp2
      go_ret
      have e1 := HC.out.2.2.1
      rw [List.take_of_length_le (by rw [HL.out]; exact Nat.le_refl _)] at e1
      exact ⟨cu, by rw [← HG.out]; rfl, by rw [← HG.out]; exact hr, hid ⟨HC.out.1, e1, HC.out.2.1⟩, grown_new hg1 hgr (fun g' e' => by cases e'; rw [HG.out]; exact Nat.le_refl _)⟩
set_option maxHeartbeats 1000000 in
theorem digit_any (high mid low first second : Nat) (hb : high < W64) (mb : mid < W64) (lb : low < W64) (fb : first < W64) (sb : second < W64) (fa sa : Addr) (w : World)
    (hf : w.cell? fa = some (.int .u64 first)) (hs : w.cell? sa = some (.int .u64 second)) :
    Calls Tryz.prog 266 #[.int .u64 high, .int .u64 mid, .int .u64 low, .pointer (some fa), .pointer (some sa)] w fun e w' => ∃ d : Nat, e = .returned (.int .u64 d) ∧
      Hid (d = if first ≤ high then W64 - 1 else (high * W64 * W64 + mid * W64 + low) / (first * W64 + second)) ∧ ∃ n, w' = w.drewN n := by
  by_cases hh : first ≤ high
  · have hh' : (first : Int) ≤ (high : Int) := by omega
    have HH := hid hh
    rw [if_pos hh]
    clear hh
    go_enter Tryz.func266, Tryz.ntmps266
    go_wp2
    go_ret
    exact ⟨18446744073709551615, rfl, hid rfl, 0, rfl⟩
  · have hlt : high < first := by omega
    have hh' : ¬ (first : Int) ≤ (high : Int) := by omega
    have hD := hid (div64_any high mid first hlt fb mb w)
    have hq : (high * W64 + mid) / first < W64 := Nat.div_lt_of_lt_mul (by
      have := Nat.mul_le_mul_right W64 (show high + 1 ≤ first from hlt)
      rw [Nat.add_mul, Nat.one_mul] at this; omega)
    have hr : (high * W64 + mid) % first < first := Nat.mod_lt _ (by omega)
    have HDQ := hid (Dq.start (B := W64) (y1 := first) (y0 := second) (n := high * W64 + mid) (u := low) (by omega) lb)
    have HN : Hid (high * W64 + mid < first * W64 + second) := hid (by
      have := Nat.mul_le_mul_right W64 (show high + 1 ≤ first from hlt)
      rw [Nat.add_mul, Nat.one_mul] at this; omega)
    have HE : Hid ((high * W64 + mid) * W64 + low = high * W64 * W64 + mid * W64 + low) := hid (by rw [Nat.add_mul])
    rw [if_neg hh]
    rw [← HE.out]
    obtain ⟨N, hN⟩ : ∃ N, N = high * W64 + mid := ⟨_, rfl⟩
    rw [← hN] at hD hq hr HDQ HN ⊢
    obtain ⟨q, hq'⟩ : ∃ q, q = N / first := ⟨_, rfl⟩
    obtain ⟨r, hr'⟩ : ∃ r, r = N % first := ⟨_, rfl⟩
    rw [← hq', ← hr'] at HDQ hD
    rw [← hq'] at hq
    rw [← hr'] at hr
    have hrW : r < W64 := Nat.lt_trans hr fb
    clear hN hq' hr' HE hh hr
    go_enter Tryz.func266, Tryz.ntmps266
    go_wp2_with (go_at_call 236; (with_reducible refine (hD.out).mono ?_); rintro e w' ⟨rfl, nd, rfl⟩)
    go_loopw [9, 10] (fun s9 s10 wr => ∃ q r n : Nat, s9 = .int .u64 q ∧ s10 = .int .u64 r ∧ q < W64 ∧ r < W64 ∧ wr = w.drewN n ∧ Hid (Dq W64 first second N low q r)) (fun s9 _ _ => (intOf s9).toNat)
    case atStart => exact ⟨q, r, nd, rfl, rfl, hq, hrW, rfl, HDQ⟩
    case round =>
      clear hq hrW HDQ
      obtain ⟨q, r, n, rfl, rfl, hq, hrW, rfl, HDQ⟩ := hrel
      have step : W64 * r + low < q * second → ∃ p r2 : Nat, IntKind.u64.wrap ((q : Int) - 1) = (p : Int) ∧ IntKind.u64.wrap ((r : Int) + (first : Int)) = (r2 : Int) ∧ p < q ∧ r2 < W64 ∧
          ((r2 < first ∧ Hid (p = (N * W64 + low) / (first * W64 + second))) ∨ (first ≤ r2 ∧ Hid (Dq W64 first second N low p r2))) := fun hc => by
        obtain ⟨h1, h2⟩ := HDQ.out.step HN.out lb (.inr hc)
        refine ⟨q - 1, (r + first) % 18446744073709551616, ?_, ?_, by omega, Nat.mod_lt _ (by decide), ?_⟩
        · rw [IntKind.wrap_u64]; unfold W64 at hq; omega
        · rw [IntKind.wrap_u64]; omega
        · unfold W64 at hrW fb
          by_cases ho : r + first < 18446744073709551616
          · right
            rw [Nat.mod_eq_of_lt ho]
            exact ⟨by omega, hid h2⟩
          · left
            refine ⟨by omega, hid (h2.done2 HN.out sb (by unfold W64; omega)).2⟩
      have STEP := hid step
      clear step
      have FIN := hid (fun h => HDQ.out.done h)
      go_wp2_with fail
      refine (mul64_any q second hq sb _).mono ?_
      rintro e w' ⟨hi, lo, rfl, hhi, hlo, HM, rfl⟩
      have back : ∀ c : Prop, (¬ c → W64 * r + low < q * second) → (c → q * second ≤ W64 * r + low) → (c ∧ Hid (q = (N * W64 + low) / (first * W64 + second))) ∨ (¬ c ∧ ∃ p r2 : Nat, IntKind.u64.wrap ((q : Int) - 1) = (p : Int) ∧ IntKind.u64.wrap ((r : Int) + (first : Int)) = (r2 : Int) ∧ p < q ∧ r2 < W64 ∧
          ((r2 < first ∧ Hid (p = (N * W64 + low) / (first * W64 + second))) ∨ (first ≤ r2 ∧ Hid (Dq W64 first second N low p r2)))) := fun c h1 h2 => by
        by_cases hc : c
        · exact .inl ⟨hc, hid (FIN.out (h2 hc))⟩
        · exact .inr ⟨hc, STEP.out (h1 hc)⟩
      rcases Nat.lt_trichotomy hi r with h1 | h1 | h1
      · have h1' : (hi : Int) < (r : Int) := by omega
        have hle : q * second ≤ W64 * r + low := by
          have := Nat.mul_le_mul_left W64 (show hi + 1 ≤ r from h1)
          rw [HM.out]; rw [Nat.mul_add] at this; omega
        have hfin := hid (FIN.out hle)
        clear back STEP FIN
        go_wp2
        go_ret
        exact ⟨q, rfl, hfin, n, rfl⟩
      · subst h1
        have h1' : ¬ (hi : Int) < (hi : Int) := by omega
        have h1e : (((hi : Int) == (hi : Int)) = true) := by simp
        by_cases h2 : lo ≤ low
        · have h2' : (lo : Int) ≤ (low : Int) := by omega
          have hfin := hid (FIN.out (by rw [HM.out]; omega))
          clear back STEP FIN
          go_wp2
          go_ret
          exact ⟨q, rfl, hfin, n, rfl⟩
        · have h2' : ¬ (lo : Int) ≤ (low : Int) := by omega
          obtain ⟨p, r2, e1, e2, hpq, hr2, h3⟩ := STEP.out (by rw [HM.out]; omega)
          clear back STEP FIN
          rcases h3 with ⟨h3, h4⟩ | ⟨h3, h4⟩
          · have h3' : (r2 : Int) < (first : Int) := by omega
            go_wp2
            go_ret
            exact ⟨p, rfl, h4, n, rfl⟩
          · have h3' : ¬ (r2 : Int) < (first : Int) := by omega
            go_wp2
            exact ⟨⟨p, r2, n, rfl, rfl, Nat.lt_trans hpq hq, hr2, rfl, h4⟩, by simp [intOf]; omega⟩
      · have h1' : ¬ (hi : Int) < (r : Int) := by omega
        have h1e : (((hi : Int) == (r : Int)) = false) := beq_eq_false_iff_ne.2 (by omega)
        obtain ⟨p, r2, e1, e2, hpq, hr2, h3⟩ := STEP.out (by
          have := Nat.mul_le_mul_left W64 (show r + 1 ≤ hi from h1)
          rw [HM.out]; rw [Nat.mul_add] at this; omega)
        clear back STEP FIN
        rcases h3 with ⟨h3, h4⟩ | ⟨h3, h4⟩
        · have h3' : (r2 : Int) < (first : Int) := by omega
          go_wp2
          go_ret
          exact ⟨p, rfl, h4, n, rfl⟩
        · have h3' : ¬ (r2 : Int) < (first : Int) := by omega
          go_wp2
          exact ⟨⟨p, r2, n, rfl, rfl, Nat.lt_trans hpq hq, hr2, rfl, h4⟩, by simp [intOf]; omega⟩
def dgt (first second high mid low : Nat) : Nat := if first ≤ high then W64 - 1 else (high * W64 * W64 + mid * W64 + low) / (first * W64 + second)
theorem digit_q (high mid low first second : Nat) (hb : high < W64) (mb : mid < W64) (lb : low < W64) (fb : first < W64) (sb : second < W64) (fa sa : Addr) (w : World)
    (hf : w.cell? fa = some (.int .u64 first)) (hs : w.cell? sa = some (.int .u64 second)) :
    Calls Tryz.prog 266 #[.int .u64 high, .int .u64 mid, .int .u64 low, .pointer (some fa), .pointer (some sa)] w fun e w' => e = .returned (.int .u64 (dgt first second high mid low : Nat)) ∧ ∃ n, w' = w.drewN n :=
  (digit_any high mid low first second hb mb lb fb sb fa sa w hf hs).mono fun e w' ⟨d, he, hd, hw⟩ => ⟨by rw [he, hd.out]; rfl, hw⟩
theorem div_down {W x y v Q : Nat} (hx : 0 < x) (hQ : Q = v / x) : (v % x * W + y) / x + W * Q = (y + W * v) / x ∧ (v % x * W + y) % x = (y + W * v) % x := by
  have h := Nat.div_add_mod v x
  have e : y + W * v = x * (W * Q) + (v % x * W + y) := by
    rw [hQ]
    have h2 := congrArg (W * ·) h
    simp only [Nat.mul_add] at h2
    rw [← h2, Nat.mul_left_comm, Nat.mul_comm (v % x) W]; omega
  rw [e]
  exact ⟨by rw [Nat.mul_add_div hx]; omega, by rw [Nat.mul_add_mod]⟩
set_option maxHeartbeats 1000000 in
theorem divW_any (g m c : Nat) (cur : List Nat) (x : Nat) (w : World) (hrow : IRow w g 213 .u64 cur) (hm : m ≤ cur.length) (hmc : m ≤ c) (hc : c ≤ 9223372036854775807) (hlen : cur.length ≤ 900000) (hcur : Dg W64 cur) (hx0 : 0 < x) (hx : x < W64) :
    Calls Tryz.prog 198 #[.slice (some ⟨g, 0, none⟩) m c, .int .u64 x] w fun e w' => ∃ cur' : List Nat, e = .returned (.int .u64 (V W64 (cur.take m) % x : Nat)) ∧ IRow w' g 213 .u64 cur' ∧ w.grownBy w' (some g) ∧
      Hid (cur'.length = cur.length ∧ Dg W64 cur' ∧ V W64 (cur'.take m) = V W64 (cur.take m) / x ∧ ∀ j, m ≤ j → cur'[j]? = cur[j]?) := by
  go_enter Tryz.func198, Tryz.ntmps198
  go_wp2_with fail
  go_loopw [5, 6] (fun s5 i wr => ∃ (k : Nat) (cu : List Nat), k ≤ m ∧ i = .int .i64 ((k : Int) - 1) ∧ s5 = .int .u64 (V W64 ((cur.take m).drop k) % x : Nat) ∧ IRow wr g 213 .u64 cu ∧ w.grownBy wr (some g) ∧
      Hid (cu.length = cur.length ∧ Dg W64 cu ∧ V W64 ((cu.take m).drop k) = V W64 ((cur.take m).drop k) / x ∧ ∀ j, j < k ∨ m ≤ j → cu[j]? = cur[j]?)) (fun _ i _ => (intOf i + 1).toNat)
  case atStart =>
    have e0 : (cur.take m).drop m = [] := List.drop_of_length_le (by simp; omega)
    refine ⟨m, cur, Nat.le_refl _, rfl, ?_, hrow, grown_refl _ _, hid ⟨rfl, hcur, ?_, fun _ _ => rfl⟩⟩
    · rw [e0]; simp
    · rw [e0]; simp
  case round =>
    obtain ⟨k, cu, hk, rfl, rfl, hr, hgr, HC⟩ := hrel
    by_cases h0 : 0 < k
    · obtain ⟨i, rfl⟩ : ∃ i, k = i + 1 := ⟨k - 1, by omega⟩
      have hil : i < cu.length := by rw [HC.out.1]; omega
      have hcc := hr.cell i hil
      have hfr := hr.free i
      obtain ⟨y, hy⟩ : ∃ y, y = cu[i] := ⟨_, rfl⟩
      rw [← hy] at hcc
      have hyb : y < W64 := by rw [hy]; exact HC.out.2.1.get _ hil
      have hyc : (cur.take m)[i]'(by simp; omega) = y := by
        have := HC.out.2.2.2 i (.inl (by omega))
        rw [List.getElem?_eq_getElem hil, List.getElem?_eq_getElem (by omega)] at this
        simp only [Option.some.injEq] at this
        rw [hy, this]; simp
      have hv := V_drop_succ (B := W64) (cur.take m) i (by simp; omega)
      rw [hyc] at hv
      obtain ⟨v, hv'⟩ : ∃ v, v = V W64 ((cur.take m).drop (i + 1)) := ⟨_, rfl⟩
      rw [← hv'] at hv ⊢
      have hdd := div_down (W := W64) (x := x) (y := y) (v := v) (Q := v / x) hx0 rfl
      obtain ⟨s, hs⟩ : ∃ s, s = v % x := ⟨_, rfl⟩
      have hsx : s < x := by rw [hs]; exact Nat.mod_lt _ hx0
      rw [← hs] at hdd ⊢
      obtain ⟨q, hq⟩ : ∃ q, q = (s * W64 + y) / x := ⟨_, rfl⟩
      obtain ⟨r, hr'⟩ : ∃ r, r = (s * W64 + y) % x := ⟨_, rfl⟩
      have HD := div64_any s y x hsx hx hyb
      rw [← hq, ← hr'] at hdd HD
      have HD' := hid HD
      have HV := hid hv
      have HV' := hid hv'
      have hqb : q < W64 := by rw [hq]; exact Nat.div_lt_of_lt_mul (by
        have := Nat.mul_le_mul_right W64 (show s + 1 ≤ x from hsx)
        rw [Nat.add_mul, Nat.one_mul] at this; omega)
      have HY := hid hy
      have HDD := hid hdd
      clear hy hyc hv hv' hs hq hr' HD hdd
      have hi1 : (0 : Int) ≤ (i : Int) := by omega
      have hi2 : (i : Int) < (m : Int) := by omega
      go_wp2_with (go_at_call 236; (with_reducible refine (HD'.out _).mono ?_); rintro e w' ⟨rfl, nd, rfl⟩)
      refine ⟨⟨i, cu.set i q, by omega, by congr 1, ?_, (IRow.setv (w := wr.drewN nd) hr i _ q rfl), grown_trans (gdN hgr nd) (grown_setCell _ _ _), hid ⟨by simpa using HC.out.1, HC.out.2.1.set _ _ hqb, ?_, fun j hj => ?_⟩⟩, by simp [intOf]⟩
      · rw [HV.out, HDD.out.2]
      · have e1 : ((cu.set i q).take m).drop i = q :: ((cu.take m).drop (i + 1)) := by
          rw [List.take_set, List.drop_eq_getElem_cons (by simp; omega)]
          congr 1
          · simp
          · rw [List.drop_set_of_lt (by omega)]
        rw [e1, V_cons, HC.out.2.2.1, HV.out, ← HDD.out.1, HV'.out]
      · rw [List.getElem?_set_ne (by omega)]
        exact HC.out.2.2.2 j (by omega)
    · obtain rfl : k = 0 := by omega
      go_wp2
      go_ret
      refine ⟨cu, rfl, hr, hgr, hid ⟨HC.out.1, HC.out.2.1, ?_, fun j hj => HC.out.2.2.2 j (.inr hj)⟩⟩
      have := HC.out.2.2.1
      rwa [List.drop_zero, List.drop_zero] at this
end Go.Proofs.YtjpkncgfpbhnaaaGreatDoor
namespace Nm
theorem KInv.right {W n Lq v U i m d bor : Nat} {cu cq cu1 : List Nat} (hW : 1 < W) (h : KInv W n Lq v U (i + 1) cu cq) (hv : v ≤ W ^ m) (him : i + m ≤ n) (hm : 0 < m) (hiq : i < Lq) (hl : cu1.length = cu.length) (hd : Dg W cu1)
    (e : V W cu1 + W ^ i * (d * v) = V W cu + W ^ (i + m) * bor) (hs : ∀ j, j < i ∨ i + m ≤ j → cu1[j]? = cu[j]?) (him2 : i + m < cu.length)
    (hle : bor ≤ cu[i + m]) (hdW : d < W) (hlt : V W (cu.drop i) < (d + 1) * v) : KInv W n Lq v U i (cu1.set (i + m) 0) (cq.set i d) := by
  have h1 := knuth_sub hW h hv him hl hd e hs him2
  have h2 := clear_top hW h hv him hl hs
  have h3 := digit_right h1.1 hle hlt hv
  refine KInv.next (by omega) h (by omega) hiq (by simpa using hl) (hd.set _ _ (by omega)) h2.2 hdW ?_ ?_
  · rw [h2.1]; exact h3.1
  · rw [h2.1]; exact h3.2
theorem KInv.less {W n Lq v U i m d bor c : Nat} {cu cq cu1 cu2 : List Nat} (hW : 1 < W) (h : KInv W n Lq v U (i + 1) cu cq) (hv : v ≤ W ^ m) (him : i + m ≤ n) (hm : 0 < m) (hiq : i < Lq) (hl : cu1.length = cu.length) (hd : Dg W cu1)
    (e : V W cu1 + W ^ i * (d * v) = V W cu + W ^ (i + m) * bor) (hs : ∀ j, j < i ∨ i + m ≤ j → cu1[j]? = cu[j]?) (him2 : i + m < cu.length)
    (hlt : cu[i + m] < bor) (hdW : d < W) (hdv : d * v < V W (cu.drop i) + v) (hl2 : cu2.length = cu1.length) (hd2 : Dg W cu2) (e2 : V W cu2 + W ^ (i + m) * c = V W cu1 + W ^ i * v)
    (hs2 : ∀ j, j < i ∨ i + m ≤ j → cu2[j]? = cu1[j]?) : 1 ≤ d ∧ KInv W n Lq v U i (cu2.set (i + m) 0) (cq.set i (d - 1)) := by
  have hlu := h.lu
  have h1 := knuth_sub hW h hv him hl hd e hs him2
  have hs' : ∀ j, j < i ∨ i + m ≤ j → cu2[j]? = cu[j]? := fun j hj => (hs2 j hj).trans (hs j hj)
  have h2 := clear_top hW h hv him (hl2.trans hl) hs'
  obtain ⟨t1, t2⟩ := same_parts hs2
  have h4 := drop_level (W := W) (by omega) (by omega) hl2.symm t1.symm e2.symm
  have f1 := V_take_drop (B := W) (cu1.drop i) m (by simp; omega)
  have f2 := V_take_drop (B := W) (cu2.drop i) m (by simp; omega)
  rw [List.drop_drop] at f1 f2
  rw [t2] at f2
  have h5 : V W ((cu2.drop i).take m) + W ^ m * c = V W ((cu1.drop i).take m) + v := by omega
  have h6 : V W ((cu2.drop i).take m) < W ^ m := by
    have h7 := ((hd2.drop i).take m).lt
    have h8 : W ^ ((cu2.drop i).take m).length ≤ W ^ m := Nat.pow_le_pow_right (by omega) (List.length_take_le _ _)
    omega
  have h3 := digit_less h1.1 hlt h1.2 hdv h5 h6 hv
  refine ⟨h3.1, KInv.next (by omega) h (by omega) hiq (by simpa using hl2.trans hl) (hd2.set _ _ (by omega)) h2.2 (by omega) ?_ ?_⟩
  · rw [h2.1]; exact h3.2.1
  · rw [h2.1]; exact h3.2.2
theorem KInv.digit {W n Lq v U i m first second d : Nat} {cu cq zs : List Nat} (hW : 1 < W) (h : KInv W n Lq v U (i + 1) cu cq) (hv : v < W ^ (m + 2)) (hz : Dg W zs) (lz : zs.length = m + 2 + 1) (hvz : V W zs = v) (hvt : V W (zs.take (m + 2)) = v)
    (h1 : first = zs[m + 1]) (h0 : second = zs[m]) (hf : W ≤ 2 * first) (hi : i + (m + 2) < cu.length)
    (hd : d = if first ≤ cu[i + (m + 2)] then W - 1 else (cu[i + (m + 2)] * W * W + cu[i + (m + 1)] * W + cu[i + m]) / (first * W + second)) :
    d < W ∧ V W (cu.drop i) < (d + 1) * v ∧ d * v < V W (cu.drop i) + v := by
  have hlu := h.lu
  obtain ⟨Rlow, r1, r2, r3⟩ := three_words hW cu h.du i m (by omega) v (Nat.le_of_lt hv) h.lt (by omega)
  obtain ⟨Vlow, v1, v2⟩ := two_top hW (zs.take (m + 2)) (hz.take _) m (by simp; omega)
  rw [hvt] at v2
  have g1 : (zs.take (m + 2))[m + 1]'(by simp; omega) = first := by rw [h1]; simp
  have g0 : (zs.take (m + 2))[m]'(by simp; omega) = second := by rw [h0]; simp
  rw [g1, g0] at v2
  exact digit_est hf (by omega) v2 v1 r2 r1 (by rw [h0]; exact hz.get _ _) (h.du.get _ _) (h.du.get _ _) r3 hd
end Nm
namespace Go.Proofs.YtjpkncgfpbhnaaaGreatDoor
open Go.RowKit Nm
theorem boxes2 (w : World) (x y : Nat) (T : TypeId) :
    ((w.alloc (.cells #[.int .u64 x] T)).alloc (.cells #[.int .u64 y] T)).drew.cell? ⟨w.heap.size, 0, none⟩ = some (.int .u64 x) ∧
    ((w.alloc (.cells #[.int .u64 x] T)).alloc (.cells #[.int .u64 y] T)).drew.cell? ⟨w.heap.size + 1, 0, none⟩ = some (.int .u64 y) ∧
    w.grownBy ((w.alloc (.cells #[.int .u64 x] T)).alloc (.cells #[.int .u64 y] T)).drew none := by
  refine ⟨?_, ?_, ?_⟩
  · refine (grown_drew _ none).cell ((World.grownBy_alloc _ _ none).cell ?_ (by simp)) (by simp)
    exact (by simp [go_sem])
  · refine (grown_drew _ none).cell ?_ (by simp)
    exact (by simp [go_sem])
  · exact grown_trans (grown_trans (World.grownBy_alloc _ _ none) (World.grownBy_alloc _ _ none)) (grown_drew _ none)
set_option maxRecDepth 100000 in
set_option maxHeartbeats 2000000 in
theorem divide_len (a b : Option Addr) (n m c d : Nat) (us vs : List Nat) (w : World) (h : IRd w .u64 a n c us) (k : IRd w .u64 b (m + 2) d vs) (hu : Dg W64 us) (hv : Dg W64 vs) (hmn : m + 2 ≤ n) (hn : n ≤ 800000) (hm : m + 2 ≤ 800000)
    (htop : ∀ t, vs[m + 1]? = some t → 0 < t) :
    Calls Tryz.prog 234 #[.slice a n c, .slice b (m + 2 : Nat) d] w fun e w' => ∃ (a1 a2 : Option Addr) (n1 n2 : Nat) (qs rs : List Nat), e = .returned (.tuple #[.slice a1 n1 n1, .slice a2 n2 n2]) ∧
      IRd w' .u64 a1 n1 n1 qs ∧ IRd w' .u64 a2 n2 n2 rs ∧ n1 ≤ 900000 ∧ n2 ≤ 900000 ∧ Hid (Dg W64 qs ∧ Dg W64 rs ∧ V W64 qs = V W64 us / V W64 vs ∧ V W64 rs = V W64 us % V W64 vs ∧ rs.length = n + 1) ∧ w.grownBy w' none := by
  have hmax := h.max
  have hcap := h.cap
  have kmax := k.max
  have kcap := k.cap
  have hvl : m + 1 < vs.length := by rw [k.len]; omega
  obtain ⟨bv, ov, rfl, hcv⟩ := k.cel (m + 1) hvl
  obtain ⟨t, ht⟩ : ∃ t, t = vs[m + 1] := ⟨_, rfl⟩
  rw [← ht] at hcv
  have htb : t < W64 := by rw [ht]; exact hv.get _ hvl
  have ht0 : 0 < t := htop t (by rw [List.getElem?_eq_getElem hvl, ht])
  have L1 := hid (lz_any t ht0 htb w)
  have HT := hid ht
  clear ht htop
  have hm1 : (0 : Int) ≤ (m : Int) + 2 - 1 := by omega
  go_enter Tryz.func234, Tryz.ntmps234
  go_upto_region 2 with (go_at_call 264; (with_reducible refine (L1.out).mono ?_); rintro e w' ⟨s, hs, rfl, HLZ, rfl⟩)
  clear hcv L1
  go_upto_region 3 with (first
    | (go_at_call 265; (with_reducible refine (shiftUp_any _ n c s us _ h hu hs (by omega)).mono ?_); rintro e w1 ⟨ys, rfl, hr1, HY, hg1⟩)
    | (go_at_call 265; (with_reducible refine (shiftUp_any _ (m + 2) d s vs _ (k.keep hg1) hv hs (by omega)).mono ?_); rintro e w2 ⟨zs, rfl, hr2, HZ, hg2⟩))
  obtain ⟨g0, hg0⟩ : ∃ g, g = w.heap.size := ⟨_, rfl⟩
  obtain ⟨g1, hg1'⟩ : ∃ g, g = w1.heap.size := ⟨_, rfl⟩
  rw [← hg0] at hr1 ⊢
  rw [← hg1'] at hr2 ⊢
  have h01 : g0 < g1 := by rw [hg1']; exact hr1.lt
  have h12 : g1 < w2.heap.size := hr2.lt
  have hr1 := hr1.kept hg2 (by simp)
  have hW := grown_trans hg1 hg2
  have HG0 := hid hg0
  have h0w : w.heap.size ≤ g0 := by omega
  clear hg0 hg1' hg1 hg2
  have hS : 0 < 2 ^ s := Nat.pow_pos (by omega)
  have hnt := norm_top (W := W64) (S := 2 ^ s) (T := 2 ^ (64 - s)) (by decide) (two_pow_cut s hs) vs zs hv HZ.out.2.2 m t (by rw [k.len]) HZ.out.1 HT.out HZ.out.2.1 (by have := HLZ.out.2.1; unfold W64; omega) (by have := HLZ.out.2.2; unfold W64; omega) hS
  have hzl1 : m + 1 < zs.length := by rw [HZ.out.1]; omega
  have hzl0 : m < zs.length := by rw [HZ.out.1]; omega
  have hc1 := hr2.cell (m + 1) hzl1
  have hc0 := hr2.cell m hzl0
  obtain ⟨first, hfst⟩ : ∃ f, f = zs[m + 1] := ⟨_, rfl⟩
  obtain ⟨second, hsnd⟩ : ∃ f, f = zs[m] := ⟨_, rfl⟩
  rw [← hfst] at hc1 hnt
  rw [← hsnd] at hc0
  have hfb : first < W64 := by rw [hfst]; exact HZ.out.2.2.get _ hzl1
  have hsb : second < W64 := by rw [hsnd]; exact HZ.out.2.2.get _ hzl0
  have HF := hid hfst
  have HS := hid hsnd
  have HNT := hid hnt
  clear hfst hsnd hnt
  have hm2 : (0 : Int) ≤ (m : Int) + 2 - 2 := by omega
  go_upto_region 5 with fail
  go_cut [8, 9] (fun s8 s9 wx => ∃ G1 G2 : Nat, s8 = .pointer (some ⟨G1, 0, none⟩) ∧ s9 = .pointer (some ⟨G2, 0, none⟩) ∧ wx.cell? ⟨G1, 0, none⟩ = some (.int .u64 first) ∧ wx.cell? ⟨G2, 0, none⟩ = some (.int .u64 second) ∧ g1 < G1 ∧ g1 < G2 ∧ w2.grownBy wx none)
  case first =>
    go_region
    · go_wp2_with fail
      go_meet
      have hx := boxes2 w2 first second 213
      exact ⟨_, _, rfl, rfl, hx.1, hx.2.1, h12, by omega, hx.2.2⟩
    · go_wp2_with fail
      go_meet
      have hx := boxes2 w2 second first 213
      exact ⟨_, _, rfl, rfl, hx.2.1, hx.1, by omega, h12, hx.2.2⟩
  case rest =>
    obtain ⟨G1, G2, rfl, rfl, hG1, hG2, h1G, h2G, hg3⟩ := hcut
    replace hr1 := hr1.kept hg3 (by simp)
    replace hr2 := hr2.kept hg3 (by simp)
    replace hW := grown_trans hW hg3
    clear hc1 hc0 hg3 h12
    obtain ⟨Lq, hLq⟩ : ∃ Lq, Lq = n + 1 - (m + 2) := ⟨_, rfl⟩
    have hLqi : (n : Int) + 1 - ((m : Int) + 2) = (Lq : Int) := by omega
    have HLQ := hid hLq
    have hLq1 : Lq + (m + 2) = n + 1 := by omega
    clear hLq
    go_upto_region 8 with (at_make; refine wl_make _ rfl _ _ 229 rfl 213 .u64 8 Tryz.underlying229 (by kernel_rfl) _ _ _ _ rfl rfl Lq (by omega) (by omega) (by omega) (by omega) ?_; intro w3 hr3 hg3)
    clear hLqi
    obtain ⟨gq, hgq⟩ : ∃ g, g = wc.heap.size := ⟨_, rfl⟩
    rw [← hgq] at hr3 ⊢
    have h1q : g1 < gq := by rw [hgq]; exact hr2.lt
    have hG1q : G1 < gq := by rw [hgq]; exact World.block_lt_of_cell? _ _ hG1
    have hG2q : G2 < gq := by rw [hgq]; exact World.block_lt_of_cell? _ _ hG2
    replace hr1 := hr1.kept hg3 (by simp)
    replace hr2 := hr2.kept hg3 (by simp)
    replace hG1 := hg3.cell hG1 (by simp)
    replace hG2 := hg3.cell hG2 (by simp)
    replace hW := grown_trans hW hg3
    have hgw : w.heap.size ≤ gq := by omega
    have HK : Hid (KInv W64 n Lq (V W64 zs) (V W64 us * 2 ^ s) Lq ys (List.replicate Lq 0)) := hid (by
      have hk := KInv.start (W := W64) (n := n) (m := m + 2) (v := V W64 zs) (U := V W64 us) (S := 2 ^ s) (cu := ys) (by decide) (by omega) hmn HY.out.1 HY.out.2.2 HY.out.2.1 (by rw [← h.len]; exact hu.lt) HNT.out.2.2.2 (Nat.pow_pos (by omega))
      rw [← HLQ.out] at hk
      exact hk)
    clear hgq hg3
    go_wp2_with fail
    go_loopw [11] (fun i wr => ∃ (k : Nat) (cu cq : List Nat), k ≤ Lq ∧ i = .int .i64 ((k : Int) - 1) ∧ IRow wr g0 213 .u64 cu ∧ IRow wr gq 213 .u64 cq ∧ IRow wr g1 213 .u64 zs ∧ wr.cell? ⟨G1, 0, none⟩ = some (.int .u64 first) ∧ wr.cell? ⟨G2, 0, none⟩ = some (.int .u64 second) ∧
        w.grownBy wr none ∧ Hid (KInv W64 n Lq (V W64 zs) (V W64 us * 2 ^ s) k cu cq)) (fun i _ => (intOf i + 1).toNat)
    case atStart => exact ⟨Lq, ys, _, Nat.le_refl _, rfl, hr1, hr3, hr2, hG1, hG2, hW, HK⟩
    case round =>
      clear hr1 hr2 hr3 hG1 hG2 hW HK
      obtain ⟨k', cu, cq, hk', rfl, hr1, hrq, hr2, hG1, hG2, hW, HK⟩ := hrel
      by_cases h0 : 0 < k'
      · obtain ⟨i, rfl⟩ : ∃ i, k' = i + 1 := ⟨k' - 1, by omega⟩
        have hlu := HK.out.lu
        have hlq := HK.out.lq
        have hit : i + (m + 2) < cu.length := by omega
        have him : i + (m + 1) < cu.length := by omega
        have hil : i + m < cu.length := by omega
        have hct := hr1.cell _ hit
        have hcm := hr1.cell _ him
        have hcl := hr1.cell _ hil
        obtain ⟨top, ht⟩ : ∃ x, x = cu[i + (m + 2)] := ⟨_, rfl⟩
        obtain ⟨mid, hmd⟩ : ∃ x, x = cu[i + (m + 1)] := ⟨_, rfl⟩
        obtain ⟨low, hlw⟩ : ∃ x, x = cu[i + m] := ⟨_, rfl⟩
        rw [← ht] at hct
        rw [← hmd] at hcm
        rw [← hlw] at hcl
        have hdu := HK.out.du
        have htb' : top < W64 := by rw [ht]; exact hdu.get _ hit
        have hmb : mid < W64 := by rw [hmd]; exact hdu.get _ him
        have hlb : low < W64 := by rw [hlw]; exact hdu.get _ hil
        have hi0 : (0 : Int) ≤ (i : Int) := by omega
        have hi1 : (i : Int) + ((m : Int) + 2) < (n : Int) + 1 := by omega
        have hck : ¬ (n + 1 = i) := by omega
        have HTT := hid (And.intro ht (And.intro hmd hlw))
        clear ht hmd hlw hdu hlu hlq
        have HD : ∀ q, Hid (Calls Tryz.prog 266 #[.int .u64 top, .int .u64 mid, .int .u64 low, .pointer (some ⟨G1, 0, none⟩), .pointer (some ⟨G2, 0, none⟩)] (wr.drewN q) fun e w' => e = .returned (.int .u64 (dgt first second top mid low : Nat)) ∧ ∃ n, w' = (wr.drewN q).drewN n) := fun q =>
          hid (digit_q top mid low first second htb' hmb hlb hfb hsb ⟨G1, 0, none⟩ ⟨G2, 0, none⟩ (wr.drewN q) hG1 hG2)
        have HDD := hid HD
        clear HD
        have hlen : i + (m + 2) - i = m + 2 := by omega
        go_wp2_with fail
        go_quiet ((go_at_call 266; exact Calls.quiet_of (HDD.out _).out))
        clear HDD hct hcm hcl
        obtain ⟨dd, hdd⟩ : ∃ x, x = dgt first second top mid low := ⟨_, rfl⟩
        rw [← hdd]
        have hest := HK.out.digit (by decide) HNT.out.1 HZ.out.2.2 HZ.out.1 rfl HNT.out.2.2.1 HF.out HS.out HNT.out.2.1 hit (d := dd) (by rw [hdd, ← HTT.out.1, ← HTT.out.2.1, ← HTT.out.2.2]; rfl)
        have hdb : dd < W64 := hest.1
        have HEST := hid hest
        clear hdd hest
        have hzd : Dg W64 (zs.take (m + 2)) := HZ.out.2.2.take _
        have hrd := IRow.rd (w := wr.drewN nq) hr2 0 (m + 2) (m + 2 + 1) (by rw [HZ.out.1]; omega) (by omega) (by omega)
        rw [List.drop_zero] at hrd
        have hiq : i < Lq := by omega
        have hcuL : cu.length = n + 1 := HK.out.lu
        have HCU := hid hcuL
        go_wp2_with fail
        refine (subProduct_any g0 i _ cu (zs.take (m + 2)) _ (m + 2) _ dd (wr.drewN nq) hr1 hrd (by intro p hp; cases hp; simp; omega) (by omega) (by omega) HK.out.du hzd hdb).mono ?_
        clear hcuL
        rintro e w4 ⟨bor, cu1, rfl, hbor, hr1a, hg4, HC1⟩
        have hW4 : w.grownBy w4 none := grown_new (gdN hW nq) hg4 (fun g' e' => by cases e'; exact h0w)
        have hrq4 := IRow.kept (w := wr.drewN nq) hrq hg4 (by simp; omega)
        have hr24 := IRow.kept (w := wr.drewN nq) hr2 hg4 (by simp; omega)
        have hG14 := hg4.cell (a := ⟨G1, 0, none⟩) hG1 (by simp; omega)
        have hG24 := hg4.cell (a := ⟨G2, 0, none⟩) hG2 (by simp; omega)
        clear hr1 hrq hr2 hG1 hG2 hW hg4 hrd
        by_cases hlt : top < bor
        · have hlt' : (top : Int) < (bor : Int) := by omega
          have hrd := hr24.rd 0 (m + 2) (m + 2 + 1) (by rw [HZ.out.1]; omega) (by omega) (by omega)
          rw [List.drop_zero] at hrd
          have hcu1 : cu1.length = n + 1 := by rw [HC1.out.1]; exact HCU.out
          go_wp2_with fail
          refine (addWords_any g0 i _ cu1 (zs.take (m + 2)) _ (m + 2) _ w4 hr1a hrd (by intro p hp; cases hp; simp; omega) (by omega) (by omega) HC1.out.2.1 hzd).mono ?_
          rintro e w5 ⟨cy, cu2, rfl, hr1b, hg5, HC2⟩
          have hW5 : w.grownBy w5 none := grown_new hW4 hg5 (fun g' e' => by cases e'; exact h0w)
          have hrq5 := hrq4.kept hg5 (by simp; omega)
          have hr25 := hr24.kept hg5 (by simp; omega)
          have hG15 := hg5.cell hG14 (by simp; omega)
          have hG25 := hg5.cell hG24 (by simp; omega)
          clear hr1a hrq4 hr24 hG14 hG24 hW4 hg5 hrd
          have hless := hid (HK.out.less (by decide) (Nat.le_of_lt HNT.out.1) (by omega) (by omega) hiq HC1.out.1 HC1.out.2.1 (by have := HC1.out.2.2.1; rw [HNT.out.2.2.1] at this; exact this) HC1.out.2.2.2 hit (by rw [← HTT.out.1]; exact hlt) hdb HEST.out.2.2
            HC2.out.1 HC2.out.2.1 (by have := HC2.out.2.2.1; rw [HNT.out.2.2.1] at this; exact this) HC2.out.2.2.2)
          have hcu2 : cu2.length = n + 1 := by rw [HC2.out.1]; exact hcu1
          have hi2 : i + (m + 2) < cu2.length := by omega
          have hcc := hr1b.cell _ hi2
          have hff := hr1b.free (i + (m + 2))
          have hlq := HK.out.lq
          have hcq := hrq5.cell i (by omega)
          have hfq := hrq5.free i
          obtain ⟨x1, hx1⟩ : ∃ x, x = cu2[i + (m + 2)] := ⟨_, rfl⟩
          obtain ⟨x2, hx2⟩ : ∃ x, x = cq[i]'(by omega) := ⟨_, rfl⟩
          rw [← hx1] at hcc
          rw [← hx2] at hcq
          obtain ⟨d2, hd2⟩ : ∃ x, x = dd - 1 := ⟨_, rfl⟩
          have hde : IntKind.u64.wrap ((dd : Int) - 1) = (d2 : Int) := by rw [IntKind.wrap_u64]; have := hless.out.1; unfold W64 at hdb; omega
          rw [← hd2] at hless
          have hqi : (i : Int) < (Lq : Int) := by omega
          have hne : gq ≠ g0 := by omega
          clear hx1 hx2 hd2 hlq hcu2 hcu1
          go_wp2
          have s1 := IRow.setv hr1b (i + (m + 2)) 0 0 rfl
          have s2 := IRow.kept hrq5 (grown_setCell w5 ⟨g0, i + (m + 2), none⟩ (.int .u64 0)) (by simp; omega)
          have s3 := IRow.setv s2 i (d2 : Int) d2 rfl
          refine ⟨⟨i, cu2.set (i + (m + 2)) 0, cq.set i d2, by omega, by congr 1, s1.kept (grown_setCell _ _ _) (by simp; omega), s3, ?_, ?_, ?_, ?_, hid hless.out.2⟩, by simp [intOf]⟩
          · exact (hr25.kept (grown_setCell _ _ _) (by simp; omega)).kept (grown_setCell _ _ _) (by simp; omega)
          · exact (grown_setCell _ _ _).cell ((grown_setCell _ _ _).cell hG15 (by simp; omega)) (by simp; omega)
          · exact (grown_setCell _ _ _).cell ((grown_setCell _ _ _).cell hG25 (by simp; omega)) (by simp; omega)
          · exact grown_new (grown_new hW5 (grown_setCell _ _ _) (fun g' e' => by cases e'; exact h0w)) (grown_setCell _ _ _) (fun g' e' => by cases e'; exact hgw)
        · have hlt' : ¬ (top : Int) < (bor : Int) := by omega
          have hcu1 : cu1.length = n + 1 := by rw [HC1.out.1]; exact HCU.out
          have hright := hid (HK.out.right (by decide) (Nat.le_of_lt HNT.out.1) (by omega) (by omega) hiq HC1.out.1 HC1.out.2.1 (by have := HC1.out.2.2.1; rw [HNT.out.2.2.1] at this; exact this) HC1.out.2.2.2 hit (by rw [← HTT.out.1]; omega) hdb HEST.out.2.1)
          have hi2 : i + (m + 2) < cu1.length := by omega
          have hcc := hr1a.cell _ hi2
          have hff := hr1a.free (i + (m + 2))
          have hlq := HK.out.lq
          have hcq := hrq4.cell i (by omega)
          have hfq := hrq4.free i
          obtain ⟨x1, hx1⟩ : ∃ x, x = cu1[i + (m + 2)] := ⟨_, rfl⟩
          obtain ⟨x2, hx2⟩ : ∃ x, x = cq[i]'(by omega) := ⟨_, rfl⟩
          rw [← hx1] at hcc
          rw [← hx2] at hcq
          have hqi : (i : Int) < (Lq : Int) := by omega
          have hne : gq ≠ g0 := by omega
          clear hx1 hx2 hlq hcu1
          go_wp2
          have s1 := IRow.setv hr1a (i + (m + 2)) 0 0 rfl
          have s2 := IRow.kept hrq4 (grown_setCell w4 ⟨g0, i + (m + 2), none⟩ (.int .u64 0)) (by simp; omega)
          have s3 := IRow.setv s2 i (dd : Int) dd rfl
          refine ⟨⟨i, cu1.set (i + (m + 2)) 0, cq.set i dd, by omega, by congr 1, s1.kept (grown_setCell _ _ _) (by simp; omega), s3, ?_, ?_, ?_, ?_, hid hright.out⟩, by simp [intOf]⟩
          · exact (hr24.kept (grown_setCell _ _ _) (by simp; omega)).kept (grown_setCell _ _ _) (by simp; omega)
          · exact (grown_setCell _ _ _).cell ((grown_setCell _ _ _).cell hG14 (by simp; omega)) (by simp; omega)
          · exact (grown_setCell _ _ _).cell ((grown_setCell _ _ _).cell hG24 (by simp; omega)) (by simp; omega)
          · exact grown_new (grown_new hW4 (grown_setCell _ _ _) (fun g' e' => by cases e'; exact h0w)) (grown_setCell _ _ _) (fun g' e' => by cases e'; exact hgw)
      · obtain rfl : k' = 0 := by omega
        have hcuL : cu.length = n + 1 := HK.out.lu
        have hrd := hr1.rd0 (by omega)
        rw [hcuL] at hrd
        have hcqL : cq.length = Lq := HK.out.lq
        have hrdq := hrq.rd0 (by omega)
        rw [hcqL] at hrdq
        have HDU := hid HK.out.du
        go_wp2_with fail
        refine (shiftDown_any _ (n + 1) (n + 1) s cu _ hrd HDU.out hs (by omega)).mono ?_
        clear hcuL hcqL
        rintro e w4 ⟨rs, rfl, hr4, HR, hg4⟩
        have hres := HK.out.done
        have hqd := HK.out.dq
        have hfin := div_shift (V W64 us) (V W64 vs) (2 ^ s) (Nat.pow_pos (by omega))
        rw [HZ.out.2.1, hfin.1] at hres
        have e2 : V W64 rs = V W64 us % V W64 vs := by rw [HR.out.2.1, hres.2, hfin.2]
        have hrd4 := hr4.rd0 (by rw [HR.out.1]; omega)
        rw [HR.out.1] at hrd4
        have HFIN := hid (And.intro hqd (And.intro HR.out.2.2 (And.intro hres.1 (And.intro e2 HR.out.1))))
        clear hres hqd hfin e2
        go_wp2
        go_ret2
        exact ⟨_, _, Lq, n + 1, cq, rs, rfl, hrdq.keep hg4, hrd4, by omega, by omega, HFIN, grown_trans hW hg4⟩
theorem divide_any (a b : Option Addr) (n m c d : Nat) (us vs : List Nat) (w : World) (h : IRd w .u64 a n c us) (k : IRd w .u64 b (m + 2) d vs) (hu : Dg W64 us) (hv : Dg W64 vs) (hmn : m + 2 ≤ n) (hn : n ≤ 800000) (hm : m + 2 ≤ 800000)
    (htop : ∀ t, vs[m + 1]? = some t → 0 < t) :
    Calls Tryz.prog 234 #[.slice a n c, .slice b (m + 2 : Nat) d] w fun e w' => ∃ (a1 a2 : Option Addr) (n1 n2 : Nat) (qs rs : List Nat), e = .returned (.tuple #[.slice a1 n1 n1, .slice a2 n2 n2]) ∧
      IRd w' .u64 a1 n1 n1 qs ∧ IRd w' .u64 a2 n2 n2 rs ∧ n1 ≤ 900000 ∧ n2 ≤ 900000 ∧ Hid (Dg W64 qs ∧ Dg W64 rs ∧ V W64 qs = V W64 us / V W64 vs ∧ V W64 rs = V W64 us % V W64 vs) ∧ w.grownBy w' none :=
  (divide_len a b n m c d us vs w h k hu hv hmn hn hm htop).mono fun _ _ ⟨a1, a2, n1, n2, qs, rs, h1, h2, h3, h4, h5, h6, h7⟩ => ⟨a1, a2, n1, n2, qs, rs, h1, h2, h3, h4, h5, hid ⟨h6.out.1, h6.out.2.1, h6.out.2.2.1, h6.out.2.2.2.1⟩, h7⟩
theorem IsC.len_le {w : World} {p : Option Addr} {n c N k : Nat} (h : IsC w p n c N) (hN : N < 65536 ^ k) : n ≤ k := by rw [← h.len]; exact dg_length_le (by omega) hN
theorem len_words {ys : List Nat} (h : Nm.Can 65536 ys) (hl : 4 < ys.length) (vs : List Nat) (hv : Dg W64 vs) (m : Nat) (hm : m + 2 = (ys.length + 3) / 4) (lv : vs.length = m + 2) (e : V W64 vs = V 65536 ys) :
    ∀ t, vs[m + 1]? = some t → 0 < t := by
  intro t ht
  rcases Nat.eq_zero_or_pos t with h0 | h0
  · exfalso
    subst h0
    have hvl : m + 1 < vs.length := by omega
    rw [List.getElem?_eq_getElem hvl] at ht
    have a1 := V_take_drop (B := W64) vs (m + 1) (by omega)
    have a2 := V_drop_succ (B := W64) vs (m + 1) hvl
    rw [show vs.drop (m + 1 + 1) = [] from List.drop_of_length_le (by omega), Option.some.inj ht] at a2
    simp only [V_nil, Nat.mul_zero, Nat.add_zero] at a2
    rw [a2, Nat.mul_zero, Nat.add_zero] at a1
    have a3 := (hv.take (m + 1)).lt
    rw [List.length_take, Nat.min_eq_left (by omega), ← a1, e, W64_eq, ← Nat.pow_mul] at a3
    have a4 := h.low (by omega) (by intro e; subst e; simp at hl)
    have a5 : 65536 ^ (4 * (m + 1)) ≤ 65536 ^ (ys.length - 1) := Nat.pow_le_pow_right (by omega) (by omega)
    omega
  · exact h0
set_option maxHeartbeats 2000000 in
theorem natDivMod_any (a b : Option Addr) (n m c d : Nat) (xs ys : List Nat) (w : World) (h : IRd w .u16 a n c xs) (k : IRd w .u16 b m d ys) (hx : Dg 65536 xs) (hy : Dg 65536 ys) (hn : n ≤ 800000) (hm : m ≤ 800000) (hpos : 0 < V 65536 ys) :
    Calls Tryz.prog 192 #[.slice a n c, .slice b m d] w (DmPost w (V 65536 xs) (V 65536 ys)) := by
  by_cases hsm : (trimR xs).length ≤ 4 ∧ (trimR ys).length ≤ (trimR xs).length
  · exact natDivMod_small a b n m c d xs ys w h k hx hy hsm.1 hsm.2 hpos
  have ht := h.take (trimR xs).length (by rw [← h.len]; exact trimR_length_le xs)
  have kt := k.take (trimR ys).length (by rw [← k.len]; exact trimR_length_le ys)
  rw [← trimR_eq_take] at ht kt
  have hcx := Can_trimR hx
  have hcy := Can_trimR hy
  have hvx := V_trimR (B := 65536) xs
  have hvy := V_trimR (B := 65536) ys
  have hnl : (trimR xs).length ≤ n := by rw [← h.len]; exact trimR_length_le xs
  have hml : (trimR ys).length ≤ m := by rw [← k.len]; exact trimR_length_le ys
  have R1 := hid (trim16 a n c xs w h)
  have R2 := hid (trim16 b m d ys w k)
  have hcap := ht.cap
  have kcap := kt.cap
  have hmax := ht.max
  have kmax := kt.max
  rw [← hvy] at hpos ⊢
  rw [← hvx]
  generalize trimR xs = us at *
  generalize trimR ys = vs at *
  clear hvx hvy h k
  have hv0 : 0 < vs.length := by
    rcases Nat.eq_zero_or_pos vs.length with h0 | h0
    · rw [List.eq_nil_of_length_eq_zero h0] at hpos; simp at hpos
    · exact h0
  have e1 : (((vs.length : Int) == 0) = false) := beq_eq_false_iff_ne.2 (by omega)
  by_cases hlt : us.length < vs.length
  · have e2 : ((us.length : Int) < (vs.length : Int)) := by omega
    have hval := Nm.Can.lt_of_length (B := 65536) (by omega) hcx.1 hcy hlt
    have hq : V 65536 us / V 65536 vs = 0 := Nat.div_eq_of_lt hval
    have hr : V 65536 us % V 65536 vs = V 65536 us := Nat.mod_eq_of_lt hval
    have HU := hid (eq_dg (by omega) hcx)
    have HPOST : Hid (∀ p cc W, IRd W .u16 p us.length cc us → w.grownBy W none → DmPost w (V 65536 us) (V 65536 vs) (.returned (.tuple #[.slice none 0 0, .slice p us.length cc, .int .i64 0])) W) := hid (fun p cc W h1 h2 => by
      have hl : (dg 65536 (V 65536 us)).length = us.length := by rw [← HU.out]
      refine ⟨none, p, 0, cc, ?_, ?_, ?_, h2⟩
      · rw [hq, hr, hl]; rfl
      · rw [hq]; exact IRd.nil _ _
      · rw [hr, ← HU.out]; exact h1)
    clear hval hq hr
    go_enter Tryz.func192, Tryz.ntmps192
    go_wp2_with (first
      | (go_at_call 194; (with_reducible refine (R1.out).mono ?_); rintro e w' ⟨rfl, rfl⟩)
      | (go_at_call 194; (with_reducible refine (R2.out).mono ?_); rintro e w' ⟨rfl, rfl⟩)
      | (go_at_call 228; refine (clone_any _ _ _ us _ ht (by omega)).mono ?_; rintro e w2 ⟨rfl, hr2, hg2⟩))
    go_ret3
    exact HPOST.out _ _ _ (hr2.rd0 (by omega)) hg2
  · have e2 : ¬ ((us.length : Int) < (vs.length : Int)) := by omega
    have e3 : ¬ ((us.length : Int) ≤ 4) := by omega
    by_cases h4 : vs.length ≤ 4
    · have e4 : ((vs.length : Int) ≤ 4) := by omega
      have hyb : V 65536 vs < W64 := by rw [W64_eq]; exact V_word hcy.1 4 h4
      have HP := hid (pack_any a us.length c us w ht hcx.1 (by omega))
      go_enter Tryz.func192, Tryz.ntmps192
      go_wp2_with (first
        | (go_at_call 194; (with_reducible refine (R1.out).mono ?_); rintro e w' ⟨rfl, rfl⟩)
        | (go_at_call 194; (with_reducible refine (R2.out).mono ?_); rintro e w' ⟨rfl, rfl⟩))
      refine HP.out.mono ?_
      rintro e w1 ⟨L, zs, rfl, hr1, HZ, hg1⟩
      have HW := hid (word_any b vs.length d vs w1 (kt.keep hg1) hcy.1 h4)
      have hLz : zs.length = L := HZ.out.2.1
      have hLb : L ≤ 200001 := by have := HZ.out.1; omega
      have HD := hid (divW_any w.heap.size L L zs (V 65536 vs) w1 hr1 (by omega) (Nat.le_refl _) (by omega) (by omega) HZ.out.2.2.2 hpos hyb)
      have HLz := hid hLz
      clear hLz
      generalize hyv : V 65536 vs = Y at *
      have HY := hid hyv
      clear hyv
      go_wp2_with (first
        | (go_at_call 196; (with_reducible refine (HW.out).mono ?_); rintro e w' ⟨rfl, rfl⟩)
        | (go_at_call 198; (with_reducible refine (HD.out).mono ?_); rintro e w2 ⟨cu, rfl, hr2, hg2, HC⟩))
      have hcl : cu.length = L := by rw [HC.out.1, HLz.out]
      have hrd := hr2.rd0 (by omega)
      rw [hcl] at hrd
      have hq0 : V W64 cu = V 65536 us / Y := by
        have h1 := HC.out.2.2.1
        rw [List.take_of_length_le (by omega), List.take_of_length_le (by rw [HLz.out]; exact Nat.le_refl _), HZ.out.2.2.1] at h1
        exact h1
      have hr0 : V W64 (List.take L zs) = V 65536 us := by rw [List.take_of_length_le (by rw [HLz.out]; exact Nat.le_refl _), HZ.out.2.2.1]
      have hrb : V 65536 us % Y < W64 := Nat.lt_trans (Nat.mod_lt _ hpos) hyb
      have HU := hid (unpack_any _ L L cu _ hrd HC.out.2.1 (by omega))
      rw [hq0] at HU
      rw [hr0]
      have hgw : w.grownBy w2 none := grown_new hg1 hg2 (fun g' e' => by cases e'; exact Nat.le_refl _)
      clear hcl hrd hq0 hr0 hg1 hg2 hr1 hr2 HD HW HP
      generalize hqq : V 65536 us / Y = QQ at *
      generalize hrr : V 65536 us % Y = RR at *
      have HQQ := hid hqq
      have HRR := hid hrr
      clear hqq hrr
      have HPOST : Hid (∀ p1 c1 p2 c2 W, IRd W .u16 p1 (dg 65536 QQ).length c1 (dg 65536 QQ) → IRd W .u16 p2 (dg 65536 RR).length c2 (dg 65536 RR) → w.grownBy W none → DmPost w (V 65536 us) Y (.returned (.tuple #[.slice p1 (dg 65536 QQ).length c1, .slice p2 (dg 65536 RR).length c2, .int .i64 0])) W) := hid (fun p1 c1 p2 c2 W g1 g2 g3 => by
        refine ⟨p1, p2, c1, c2, ?_, ?_, ?_, g3⟩
        · rw [HQQ.out, HRR.out]
        · rw [HQQ.out]; exact g1
        · rw [HRR.out]; exact g2)
      refine HU.out.mono ?_
      rintro e w3 ⟨p1, c1, rfl, hr3, hg3⟩
      have HZI : Hid (((V 65536 us : Nat) : Int) % (Y : Int) = (RR : Int)) := hid (by rw [← HRR.out]; simp)
      go_wp2_with fail
      first
        | with_reducible refine (of_at _ RR HZI.out hrb _).mono ?_
        | with_reducible refine (of_at _ RR rfl hrb _).mono ?_
      rintro e w4 ⟨p2, c2, rfl, hr4, hg4⟩
      go_wp2_with fail
      go_ret3
      exact HPOST.out _ _ _ _ _ (hr3.keep hg4) hr4 (grown_trans hgw (grown_trans hg3 hg4))
    · have e4 : ¬ ((vs.length : Int) ≤ 4) := by omega
      have HP := hid (pack_any a us.length c us w ht hcx.1 (by omega))
      go_enter Tryz.func192, Tryz.ntmps192
      go_wp2_with (first
        | (go_at_call 194; (with_reducible refine (R1.out).mono ?_); rintro e w' ⟨rfl, rfl⟩)
        | (go_at_call 194; (with_reducible refine (R2.out).mono ?_); rintro e w' ⟨rfl, rfl⟩))
      refine HP.out.mono ?_
      rintro e w1 ⟨L, zs, rfl, hr1, HZ, hg1⟩
      go_wp2_with fail
      refine (pack_any b vs.length d vs w1 (kt.keep hg1) hcy.1 (by omega)).mono ?_
      rintro e w2 ⟨M', ws, rfl, hr2, HWS, hg2⟩
      obtain ⟨M, hM⟩ : ∃ M, M' = M + 2 := ⟨M' - 2, by have := HWS.out.1; omega⟩
      subst hM
      have hlz := HZ.out.2.1
      have hlw := HWS.out.2.1
      have hrd1 := (hr1.kept hg2 (by simp)).rd0 (by have := HZ.out.1; omega)
      have hrd2 := hr2.rd0 (by have := HWS.out.1; omega)
      rw [hlz] at hrd1
      rw [hlw] at hrd2
      have HDV := hid (divide_any _ _ L M L (M + 2) zs ws w2 hrd1 hrd2 HZ.out.2.2.2 HWS.out.2.2.2 (by have := HZ.out.1; have := HWS.out.1; omega) (by have := HZ.out.1; omega) (by have := HWS.out.1; omega)
        (len_words hcy (by omega) ws HWS.out.2.2.2 M HWS.out.1 hlw HWS.out.2.2.1))
      have hgw := grown_trans hg1 hg2
      have hVz := HZ.out.2.2.1
      have hVw := HWS.out.2.2.1
      rw [hVz, hVw] at HDV
      clear hlz hlw hrd1 hrd2 hr1 hr2 hg1 hg2 hVz hVw HP
      go_wp2_with fail
      refine HDV.out.mono ?_
      rintro e w3 ⟨a1, a2, n1, n2, qs, rs, rfl, hq3, hr3, hn1, hn2, HF, hg3⟩
      generalize hqq : V 65536 us / V 65536 vs = QQ at *
      generalize hrr : V 65536 us % V 65536 vs = RR at *
      have HQQ := hid hqq
      have HRR := hid hrr
      clear hqq hrr
      have HPOST : Hid (∀ p1 c1 p2 c2 W, IRd W .u16 p1 (dg 65536 QQ).length c1 (dg 65536 QQ) → IRd W .u16 p2 (dg 65536 RR).length c2 (dg 65536 RR) → w.grownBy W none → DmPost w (V 65536 us) (V 65536 vs) (.returned (.tuple #[.slice p1 (dg 65536 QQ).length c1, .slice p2 (dg 65536 RR).length c2, .int .i64 0])) W) := hid (fun p1 c1 p2 c2 W g1 g2 g3 => by
        refine ⟨p1, p2, c1, c2, ?_, ?_, ?_, g3⟩
        · rw [HQQ.out, HRR.out]
        · rw [HQQ.out]; exact g1
        · rw [HRR.out]; exact g2)
      have hU1 := unpack_any _ n1 n1 qs _ hq3 HF.out.1 (by omega)
      rw [HF.out.2.2.1] at hU1
      have HU1 := hid hU1
      have hU2 := fun w4 (hg4 : w3.grownBy w4 none) => unpack_any _ n2 n2 rs _ (hr3.keep hg4) HF.out.2.1 (by omega)
      rw [HF.out.2.2.2] at hU2
      have HU2 := hid hU2
      clear hU1 hU2 HDV
      go_wp2_with fail
      refine HU1.out.mono ?_
      rintro e w4 ⟨p1, c1, rfl, hr4, hg4⟩
      go_wp2_with fail
      refine (HU2.out _ hg4).mono ?_
      rintro e w5 ⟨p2, c2, rfl, hr5, hg5⟩
      go_wp2_with fail
      go_ret3
      exact HPOST.out _ _ _ _ _ (hr4.keep hg5) hr5 (grown_trans hgw (grown_trans hg3 (grown_trans hg4 hg5)))
section
variable {w w' : World} {p q : Option Addr} {n c m d N M : Nat}
theorem natDivMod_n (hA : IsN w p n c N) (hB : IsN w q m d M) (hn : n ≤ 800000) (hm : m ≤ 800000) (hpos : 0 < M) :
    Calls Tryz.prog 192 #[.slice p n c, .slice q m d] w fun e w' => ∃ (p1 : Option Addr) (n1 c1 : Nat) (p2 : Option Addr) (n2 c2 : Nat), e = .returned (.tuple #[.slice p1 n1 c1, .slice p2 n2 c2, .int .i64 0]) ∧
      IsC w' p1 n1 c1 (N / M) ∧ IsC w' p2 n2 c2 (N % M) ∧ n1 ≤ n ∧ n2 ≤ n ∧ n2 ≤ m ∧ w.grownBy w' none := by
  have lA := hA.lt
  have lB := hB.lt
  obtain ⟨L, h1, h2, rfl⟩ := hA
  obtain ⟨K, k1, k2, rfl⟩ := hB
  refine (natDivMod_any p q n m c d L K w h1 k1 h2 k2 hn hm hpos).mono fun e w' ⟨a1, a2, c1, c2, he, g1, g2, hg⟩ => ⟨a1, _, c1, a2, _, c2, he, g1, g2, ?_, ?_, ?_, hg⟩
  · exact dg_length_le (by omega) (Nat.lt_of_le_of_lt (Nat.div_le_self _ _) lA)
  · exact dg_length_le (by omega) (Nat.lt_of_le_of_lt (Nat.mod_le _ _) lA)
  · exact dg_length_le (by omega) (Nat.lt_trans (Nat.mod_lt _ hpos) lB)
end
theorem refOf_c (x : Nat) (hx : x < W64) (w : World) : Calls Tryz.prog 240 #[.int .u64 x] w fun e w' => ∃ p n c, e = .returned (.slice p n c) ∧ IsC w' p n c x ∧ n ≤ 4 ∧ w.grownBy w' none :=
  (refOf_any x hx w).mono fun e w' ⟨p, c, he, hr, hg⟩ => ⟨p, _, c, he, hr, dg_length_le (by omega) (by rw [← W64_eq]; exact hx), hg⟩
set_option maxHeartbeats 1000000 in
theorem refDigit_n {w : World} {p q : Option Addr} {n c m d R B : Nat} (hR : IsN w p n c R) (hB : IsN w q m d B) (hm : m ≤ 1100000) (hpos : 0 < B) (hlt : R < 65536 * B) :
    Calls Tryz.prog 277 #[.slice p n c, .slice q m d] w fun e w' => e = .returned (.int .u64 (R / B : Nat)) ∧ w.grownBy w' none := by
  have hq : R / B ≤ 65535 := by
    have := Nat.div_lt_of_lt_mul (by rw [Nat.mul_comm] at hlt; exact hlt)
    omega
  obtain ⟨Q, hQ⟩ : ∃ Q, Q = R / B := ⟨_, rfl⟩
  have hcmp : ∀ k, k ≤ Q ↔ B * k ≤ R := fun k => by rw [hQ, Nat.le_div_iff_mul_le hpos, Nat.mul_comm]
  have HC := hid hcmp
  rw [← hQ] at hq ⊢
  clear hcmp hQ hlt
  go_enter Tryz.func277, Tryz.ntmps277
  go_wp2_with fail
  go_loopw [5, 6] (fun s5 s6 wr => ∃ lo hi : Nat, s5 = .int .u64 lo ∧ s6 = .int .u64 hi ∧ lo ≤ Q ∧ Q ≤ hi ∧ hi ≤ 65535 ∧ w.grownBy wr none) (fun s5 s6 _ => (intOf s6 - intOf s5).toNat)
  case atStart => exact ⟨0, 65535, rfl, rfl, by omega, hq, by omega, grown_refl _ _⟩
  case round =>
    obtain ⟨lo, hi, rfl, rfl, h1, h2, h3, hgr⟩ := hrel
    by_cases hlt : lo < hi
    · have hlt' : (lo : Int) < (hi : Int) := by omega
      obtain ⟨mid, hmid⟩ : ∃ mid, mid = (lo + hi + 1) / 2 := ⟨_, rfl⟩
      have e1 : ((lo : Int) + (hi : Int) + 1) / 2 = (mid : Int) := by omega
      have hm1 : lo < mid := by omega
      have hm2 : mid ≤ hi := by omega
      obtain ⟨mid1, hmid1⟩ : ∃ mid1, mid1 = mid - 1 := ⟨_, rfl⟩
      have e2 : (mid : Int) - 1 = (mid1 : Int) := by omega
      have hB' := hB.keep hgr
      have hR' := hR.keep hgr
      have HMM := hid (And.intro hmid hmid1)
      clear hmid hmid1
      go_wp2_with fail
      refine (refOf_c mid (by unfold W64; omega) _).mono ?_
      rintro e w1 ⟨p1, n1, c1, rfl, hO, hn1, hg1⟩
      go_wp2_with fail
      refine (refMul_n (hB'.keep hg1) hO.isN (by omega) (by omega)).mono ?_
      rintro e w2 ⟨p2, n2, c2, rfl, hM, hn2, hg2⟩
      go_wp2_with fail
      refine (refCmp_n hM.isN ((hR'.keep hg1).keep hg2)).mono ?_
      have hgw := grown_trans hgr (grown_trans hg1 hg2)
      by_cases hle : B * mid ≤ R
      · have hc : cmpI ((B * mid : Nat) : Int) (R : Int) = -1 ∨ cmpI ((B * mid : Nat) : Int) (R : Int) = 0 := by
          rcases Nat.lt_or_ge (B * mid) R with h | h
          · exact .inl (cmpI_lt h)
          · right; rw [show B * mid = R by omega, cmpI_eq]
        have hmq := (HC.out mid).2 hle
        rcases hc with hc | hc <;> rw [hc] <;> clear hc hle
        all_goals
          rintro e w3 ⟨rfl, rfl⟩
          go_wp2_with fail
          exact ⟨⟨mid, hi, rfl, rfl, hmq, h2, h3, hgw⟩, by simp [intOf]; omega⟩
      · have hc : cmpI ((B * mid : Nat) : Int) (R : Int) = 1 := cmpI_gt (by omega)
        have hmq : ¬ mid ≤ Q := fun h => hle ((HC.out mid).1 h)
        rw [hc]
        clear hc hle
        rintro e w3 ⟨rfl, rfl⟩
        go_wp2_with fail
        exact ⟨⟨lo, mid1, rfl, rfl, h1, by have := HMM.out.2; omega, by omega, hgw⟩, by simp [intOf]; omega⟩
    · obtain rfl : lo = Q := by omega
      go_wp2_with fail
      go_ret
      exact ⟨rfl, hgr⟩
theorem one_own (w : World) (base : Nat) (e : TypeId) (k : IntKind) (v : Int) (y : Nat) (hv : v = (y : Int)) (hb : base ≤ w.heap.size) : IOwn (w.alloc (.cells #[.int k v] e)) base e k (some ⟨w.heap.size, 0, none⟩) 1 1 [y] := by
  subst hv
  exact IOwn.made w base e k [y] hb (by simp)
theorem cons_isN {w : World} {p : Option Addr} {n c x : Nat} {xs : List Nat} (h : IRd w .u16 p (1 + n) c ([x] ++ xs)) (hx : x < 65536) (hd : Dg 65536 xs) : IsN w p (1 + n) c (x + 65536 * V 65536 xs) :=
  ⟨_, h, Dg.cons hx hd, rfl⟩
set_option maxHeartbeats 2000000 in
theorem refDivMod_n {w : World} {p q : Option Addr} {n c m d N M : Nat} (hA : IsN w p n c N) (hB : IsN w q m d M) (hn : n ≤ 1100000) (hm : m ≤ 1100000) (hpos : 0 < M) :
    Calls Tryz.prog 244 #[.slice p n c, .slice q m d] w fun e w' => ∃ (p1 : Option Addr) (n1 c1 : Nat) (p2 : Option Addr) (n2 c2 : Nat), e = .returned (.tuple #[.slice p1 n1 c1, .slice p2 n2 c2, .int .i64 0]) ∧
      IsC w' p1 n1 c1 (N / M) ∧ IsC w' p2 n2 c2 (N % M) ∧ n1 ≤ n ∧ n2 ≤ n ∧ w.grownBy w' none := by
  have HNL := hid hA.lt
  have HML := hid hB.lt
  go_enter Tryz.func244, Tryz.ntmps244
  go_wp2_with fail
  refine (refNorm_n hA (by omega)).mono ?_
  rintro e w1 ⟨p1, n1, c1, rfl, hA1, hn1, hg1⟩
  go_wp2_with fail
  refine (refNorm_n (hB.keep hg1) (by omega)).mono ?_
  rintro e w2 ⟨p2, n2, c2, rfl, hB2, hn2, hg2⟩
  replace hA1 := hA1.keep hg2
  have hgw := grown_trans hg1 hg2
  have hn20 : n2 ≠ 0 := by
    intro h0
    have := hB2.isN.lt
    rw [h0] at this; simp at this; omega
  have e0 : (((n2 : Int) == 0) = false) := beq_eq_false_iff_ne.2 (by omega)
  clear hg1 hg2 hA hB
  by_cases h4 : n1 ≤ 4 ∧ n2 ≤ 4
  · obtain ⟨h41, h42⟩ := h4
    have h41' : (n1 : Int) ≤ 4 := by omega
    have h42' : (n2 : Int) ≤ 4 := by omega
    have hNb : N < W64 := by rw [W64_eq]; exact Nat.lt_of_lt_of_le hA1.isN.lt (Nat.pow_le_pow_right (by omega) h41)
    have hMb : M < W64 := by rw [W64_eq]; exact Nat.lt_of_lt_of_le hB2.isN.lt (Nat.pow_le_pow_right (by omega) h42)
    have HS1 := fun W (h : IsC W p1 n1 c1 N) => refShort_any p1 n1 c1 _ W h (Can_dg (by omega) N).1 h41
    have HS2 := fun W (h : IsC W p2 n2 c2 M) => refShort_any p2 n2 c2 _ W h (Can_dg (by omega) M).1 h42
    simp only [V_dg (show 1 < 65536 by omega)] at HS1 HS2
    have HS1' := hid HS1
    have HS2' := hid HS2
    have hqb : N / M < W64 := Nat.lt_of_le_of_lt (Nat.div_le_self _ _) hNb
    have hrb : N % M < W64 := Nat.lt_of_le_of_lt (Nat.mod_le _ _) hNb
    obtain ⟨Q, hQ⟩ : ∃ Q, Q = N / M := ⟨_, rfl⟩
    obtain ⟨R, hR⟩ : ∃ R, R = N % M := ⟨_, rfl⟩
    have eq1 : IntKind.u64.wrap ((N : Int) / (M : Int)) = (Q : Int) := by rw [hQ, ← Int.natCast_ediv]; exact wrap_in _ hqb
    have eq2 : (N : Int) / (M : Int) = (Q : Int) := by rw [hQ]; simp
    have eq3 : (N : Int) % (M : Int) = (R : Int) := by rw [hR]; simp
    have eq4 : (N : Int).tmod (M : Int) = (R : Int) := by rw [hR]; rfl
    rw [← hQ] at hqb
    rw [← hR] at hrb
    have HQR := hid (And.intro hQ hR)
    have eq5 : IntKind.u64.wrap (Q : Int) = (Q : Int) := wrap_in _ hqb
    have eq6 : IntKind.u64.wrap (R : Int) = (R : Int) := wrap_in _ hrb
    have hQN : Q ≤ N := by rw [hQ]; exact Nat.div_le_self _ _
    have hRN : R ≤ N := by rw [hR]; exact Nat.mod_le _ _
    have HQN := hid (And.intro hQN hRN)
    have hM1 : (1 : Int) ≤ (M : Int) := by omega
    have hN0 : (0 : Int) ≤ (N : Int) := by omega
    clear hQ hR HS1 HS2 hQN hRN
    go_wp2_with fail
    refine (HS1'.out _ hA1).mono ?_
    rintro e w' ⟨rfl, rfl⟩
    go_wp2_with fail
    refine (HS2'.out _ hB2).mono ?_
    rintro e w' ⟨rfl, rfl⟩
    go_wp2_with fail
    refine (refOf_c Q hqb _).mono ?_
    rintro e w3 ⟨p3, n3, c3, rfl, hq3, hn3, hg3⟩
    replace hA1 := hA1.keep hg3
    replace hB2 := hB2.keep hg3
    go_wp2_with fail
    refine (HS1'.out _ hA1).mono ?_
    rintro e w' ⟨rfl, rfl⟩
    go_wp2_with fail
    refine (HS2'.out _ hB2).mono ?_
    rintro e w' ⟨rfl, rfl⟩
    go_wp2_with fail
    refine (refOf_c R hrb _).mono ?_
    rintro e w4 ⟨p4, n4, c4, rfl, hq4, hn4, hg4⟩
    go_wp2_with fail
    go_ret3
    exact ⟨p3, n3, c3, p4, n4, c4, rfl, (hq3.keep hg4).congr HQR.out.1, hq4.congr HQR.out.2, hq3.len_le (Nat.lt_of_le_of_lt HQN.out.1 HNL.out), hq4.len_le (Nat.lt_of_le_of_lt HQN.out.2 HNL.out), grown_trans hgw (grown_trans hg3 hg4)⟩
  · have hguard : (¬ ((n1 : Int) ≤ 4)) ∨ ((n1 : Int) ≤ 4 ∧ ¬ ((n2 : Int) ≤ 4)) := by omega
    clear h4
    have hAc := hA1
    obtain ⟨us, hus⟩ : ∃ us, us = dg 65536 N := ⟨_, rfl⟩
    have hcx : Nm.Can 65536 us := by rw [hus]; exact Can_dg (by omega) N
    have hVu : V 65536 us = N := by rw [hus]; exact V_dg (by omega) N
    have ht : IRd w2 .u16 p1 n1 c1 us := by rw [hus]; exact hA1
    have hul : us.length = n1 := ht.len
    have hcap := ht.cap
    have hmax := ht.max
    have HVU := hid hVu
    have HUL := hid hul
    clear hus hAc hVu hul
    have Hstart : Hid (V 65536 (us.drop n1) = 0) := hid (by rw [List.drop_of_length_le (by rw [HUL.out]; exact Nat.le_refl _)]; rfl)
    rcases hguard with hg | ⟨hg, hg'⟩
    all_goals
      go_wp2_with fail
      go_loopw [7, 8, 9] (fun s7 s8 s9 wr => ∃ (k : Nat) (pq : Option Addr) (nq cq : Nat) (qs : List Nat) (pr : Option Addr) (nr cr : Nat), k ≤ n1 ∧ s9 = .int .i64 ((k : Int) - 1) ∧ s7 = .slice pq nq cq ∧ s8 = .slice pr nr cr ∧ nq + k = n1 ∧ IRd wr .u16 pq nq cq qs ∧
          IsC wr pr nr cr (V 65536 (us.drop k) % M) ∧ w2.grownBy wr none ∧ Hid (Dg 65536 qs ∧ V 65536 qs = V 65536 (us.drop k) / M)) (fun _ _ s9 _ => (intOf s9 + 1).toNat)
      case atStart => exact ⟨n1, none, 0, 0, [], none, 0, 0, Nat.le_refl _, rfl, rfl, rfl, by omega, IRd.nil _ _, (IsC.nil _).congr (by rw [Hstart.out]; simp), grown_refl _ _, hid ⟨Dg.nil, by rw [Hstart.out]; simp⟩⟩
      case round =>
        obtain ⟨k, pq, nq, cq, qs, pr, nr, cr, hk, rfl, rfl, rfl, hnk, hq, hr, hgr, HC⟩ := hrel
        by_cases h0 : 0 < k
        · obtain ⟨i, rfl⟩ : ∃ i, k = i + 1 := ⟨k - 1, by omega⟩
          have hil : i < us.length := by rw [HUL.out]; omega
          obtain ⟨b, o, rfl, hc1⟩ := ht.cel i hil
          have hc2 := hgr.cell hc1 (by simp)
          obtain ⟨x, hx⟩ : ∃ x, x = us[i] := ⟨_, rfl⟩
          rw [← hx] at hc2
          have hxb : x < 65536 := by rw [hx]; exact hcx.1.get i hil
          have hdk := V_drop_succ (B := 65536) us i hil
          rw [← hx] at hdk
          have hdd := div_down (W := 65536) (x := M) (y := x) (v := V 65536 (us.drop (i + 1))) (Q := V 65536 (us.drop (i + 1)) / M) hpos rfl
          have hrM : V 65536 (us.drop (i + 1)) % M < M := Nat.mod_lt _ hpos
          obtain ⟨rr, hrr⟩ : ∃ rr, rr = V 65536 (us.drop (i + 1)) % M := ⟨_, rfl⟩
          rw [← hrr] at hr hdd hrM
          have hnr : nr ≤ m := hr.len_le (Nat.lt_trans hrM HML.out)
          have hR' : x + 65536 * rr < 65536 * M := by
            have := Nat.mul_le_mul_left 65536 (show rr + 1 ≤ M from hrM)
            omega
          have HDD := hid (And.intro hdd hdk)
          have HRR := hid hrr
          have HR' := hid hR'
          have hBr := hB2.keep hgr
          have hi0 : (0 : Int) ≤ (i : Int) := by omega
          have hi1 : (i : Int) < (n1 : Int) := by omega
          have hrd : IRd wr .u16 pr nr cr (dg 65536 rr) := hr
          have hnrb : nr ≤ 1100000 := by omega
          have hnqb : nq ≤ 1100000 := by omega
          clear hc1 hx hdk hdd hrM hrr hR'
          go_wp2_with (with_reducible refine wl_append _ rfl (.tmp 49) (.tmp 50) 31 rfl 187 .u16 2 Tryz.underlying31 info16 wr.heap.size _ _ _ [x] rfl (one_own wr wr.heap.size _ _ _ x rfl (Nat.le_refl _)) _ nr cr _ rfl (IRd.keep hrd (World.grownBy_alloc _ _ none)) (by omega) (by omega) wr (World.grownBy_alloc _ _ none) (Nat.le_refl _) (by simp) ?_; intro p3 c3 w3 ho3 hg3)
          have hN3 : IsN w3 p3 (1 + nr) c3 (x + 65536 * rr) := by
            have := cons_isN ho3.rd hxb (Can_dg (by omega) rr).1
            rwa [V_dg (by omega)] at this
          refine (refNorm_n hN3 (by omega)).mono ?_
          rintro e w4 ⟨p4, n4, c4, rfl, hR4, hn4, hg4⟩
          have hg34 := grown_trans hg3 hg4
          replace hBr := hBr.keep hg34
          replace hq := hq.keep hg34
          replace hgr := grown_trans hgr hg34
          clear hN3 ho3 hg3 hg4 hg34 hr hrd hc2
          obtain ⟨R4, hR4'⟩ : ∃ R4, R4 = x + 65536 * rr := ⟨_, rfl⟩
          obtain ⟨dd, hdd⟩ : ∃ dd, dd = R4 / M := ⟨_, rfl⟩
          have hRlt := HR'.out
          rw [← hR4'] at hR4 hRlt
          have HDG := hid (refDigit_n hR4.isN hBr.isN (by omega) hpos hRlt)
          rw [← hdd] at HDG
          have hddb : dd < 65536 := by rw [hdd]; exact Nat.div_lt_of_lt_mul (by rw [Nat.mul_comm]; exact hRlt)
          have eD : IntKind.u16.wrap (dd : Int) = (dd : Int) := by rw [IntKind.wrap_u16]; omega
          have hsub : M * dd ≤ R4 := by rw [hdd]; exact Nat.mul_div_le _ _
          have hmod : R4 - M * dd = R4 % M := by
            have := Nat.div_add_mod R4 M
            rw [← hdd] at this; omega
          have HX := hid (And.intro hR4' (And.intro hdd (And.intro hsub hmod)))
          clear hR4' hdd hsub hmod hRlt
          go_wp2_with fail
          refine HDG.out.mono ?_
          rintro e w5 ⟨rfl, hg5⟩
          replace hBr := hBr.keep hg5
          replace hq := hq.keep hg5
          replace hR4 := hR4.keep hg5
          replace hgr := grown_trans hgr hg5
          clear HDG hg5
          go_wp2_with (with_reducible refine wl_append _ rfl (.tmp 58) (.tmp 59) 31 rfl 187 .u16 2 Tryz.underlying31 info16 w5.heap.size _ _ _ [dd] rfl (one_own w5 w5.heap.size _ _ _ dd (by first | rfl | exact eD) (Nat.le_refl _)) _ nq cq _ rfl (IRd.keep hq (World.grownBy_alloc _ _ none)) (by omega) (by omega) w5 (World.grownBy_alloc _ _ none) (Nat.le_refl _) (by simp) ?_; intro p6 c6 w6 ho6 hg6)
          replace hBr := hBr.keep hg6
          replace hR4 := hR4.keep hg6
          replace hgr := grown_trans hgr hg6
          have hq6 := ho6.rd
          clear ho6 hg6 hq
          refine (refOf_c dd (by unfold W64; omega) _).mono ?_
          rintro e w7 ⟨p7, n7, c7, rfl, hO, hn7, hg7⟩
          go_wp2_with fail
          refine (refMul_n (hBr.keep hg7).isN hO.isN (by omega) (by omega)).mono ?_
          rintro e w8 ⟨p8, n8, c8, rfl, hM8, hn8, hg8⟩
          have hg78 := grown_trans hg7 hg8
          replace hR4 := hR4.keep hg78
          replace hq6 := hq6.keep hg78
          replace hgr := grown_trans hgr hg78
          go_wp2_with fail
          refine (refSub_n hR4.isN hM8.isN (by omega) HX.out.2.2.1).mono ?_
          rintro e w9 ⟨p9, n9, c9, rfl, hS9, hn9, hg9⟩
          replace hq6 := hq6.keep hg9
          replace hgr := grown_trans hgr hg9
          go_wp2_with fail
          have hx1 := HX.out
          have hx2 := HDD.out
          have e5 : rr * 65536 + x = R4 := by rw [hx1.1]; omega
          rw [e5] at hx2
          refine ⟨⟨i, p6, 1 + nq, c6, [dd] ++ qs, p9, n9, c9, by omega, by congr 1, rfl, rfl, by omega, hq6, hS9.congr ?_, hgr, hid ⟨Dg.cons hddb HC.out.1, ?_⟩⟩, by simp [intOf]⟩
          · rw [hx1.2.2.2, hx2.1.2, hx2.2]
          · rw [List.singleton_append, V_cons, HC.out.2, hx1.2.1, hx2.1.1, hx2.2]
        · obtain rfl : k = 0 := by omega
          have hr' := hr
          rw [List.drop_zero, HVU.out] at hr'
          have hqv := HC.out.2
          rw [List.drop_zero, HVU.out] at hqv
          have hqN : IsN wr pq nq cq (N / M) := ⟨qs, hq, HC.out.1, hqv⟩
          have hrn : nr ≤ n := hr'.len_le (Nat.lt_of_le_of_lt (Nat.mod_le _ _) HNL.out)
          clear hqv hr
          go_wp2_with fail
          refine (refNorm_n hqN (by omega)).mono ?_
          rintro e w4 ⟨p4, n4, c4, rfl, hq4, hn4, hg4⟩
          go_wp2_with fail
          go_ret3
          exact ⟨p4, n4, c4, pr, nr, cr, rfl, hq4, hr'.keep hg4, by omega, hrn, grown_trans hgw (grown_trans hgr hg4)⟩
end Go.Proofs.YtjpkncgfpbhnaaaGreatDoor
