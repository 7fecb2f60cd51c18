/-
  What the loop of natural.wordsGcd keeps: four rows of words of one length, of which the first two hold the numbers.
-/
import Derived.Test.YtdgcmbpmjcfhpaaGreatDoorRests
import Derived.Test.YtdgcmbpmjcfhpaaGreatDoorGcdW
import Derived.Test.YtdgcmbpmjcfhpaaGreatDoorDivW
import Derived.Test.YtdgcmbpmjcfhpaaGreatDoorDivide
import Derived.Test.YtdgcmbpmjcfhpaaGreatDoorOwn
import Derived.Deep.DeepCutAuto
import Derived.Deep.RegionHeld3
set_option linter.unusedVariables false
set_option linter.unusedSimpArgs false
namespace Go.Proofs.YtdgcmbpmjcfhpaaGreatDoor
open Go.RowKit Nm

theorem W64_pos : 0 < W64 := by decide
/-- the value of the first n words, if those behind them hold nothing -/
theorem V_take_le {xs : List Nat} {n m : Nat} (hm : m ≤ n) (hn : n ≤ xs.length) (h : V W64 (xs.take n) < W64 ^ m) : V W64 (xs.take m) = V W64 (xs.take n) := by
  have hl : (xs.take n).length = n := by simp; omega
  have e := V_take_drop (B := W64) (xs.take n) m (by omega)
  rw [List.take_take, Nat.min_eq_left hm] at e
  rcases Nat.eq_zero_or_pos (V W64 ((xs.take n).drop m)) with h0 | h0
  · rw [h0] at e; omega
  · have : W64 ^ m * 1 ≤ W64 ^ m * V W64 ((xs.take n).drop m) := Nat.mul_le_mul_left _ h0
    omega
theorem V_take_lt {xs : List Nat} (hd : Dg W64 xs) (n : Nat) (hn : n ≤ xs.length) : V W64 (xs.take n) < W64 ^ n := by
  have := (hd.take n).lt
  rw [List.length_take, Nat.min_eq_left hn] at this
  exact this
/-- the words that trim keeps -/
theorem trim_take (xs : List Nat) (n : Nat) : trimR (xs.take n) = xs.take (trimR (xs.take n)).length := by
  have h := trimR_eq_take (xs.take n)
  have hl := trimR_length_le (xs.take n)
  have hl2 : (xs.take n).length ≤ n := by rw [List.length_take]; omega
  rw [List.take_take, Nat.min_eq_left (by omega)] at h
  exact h
theorem IRow.rdn {w : World} {g : Nat} {e : TypeId} {k : IntKind} {xs : List Nat} (h : IRow w g e k xs) (n c : Nat) (hn : n ≤ xs.length) (hc : n ≤ c) (hm : c ≤ 9223372036854775807) :
    IRd w k (some ⟨g, 0, none⟩) n c (xs.take n) := by
  have := h.rd 0 n c (by omega) hc hm
  simpa using this
theorem grown_sub {a b c : World} {g p : Nat} (h : a.grownBy b (some g)) (k : b.grownBy c (some p)) (hp : p = g ∨ a.heap.size ≤ p) : a.grownBy c (some g) :=
  ⟨k.os.trans h.os, k.tape.trans h.tape, k.output.trans h.output, Nat.le_trans h.size k.size, fun i hi hne =>
    (k.block i (Nat.lt_of_lt_of_le hi h.size) (fun e => by
      cases e
      rcases hp with rfl | hp
      · exact hne rfl
      · omega)).trans (h.block i hi hne)⟩
theorem grown_none {a b c : World} {g : Nat} (h : a.grownBy b (some g)) (k : b.grownBy c none) : a.grownBy c (some g) :=
  grown_trans h (grown_any k _)

theorem tb_kept {w w' : World} {g : Nat} (h : Tb w) (hg : w.grownBy w' (some g)) (hne : g ≠ 0) : Tb w' := fun j hj => hg.cell (h j hj) (by simp; exact fun e => hne e.symm)

/-- the four rows -/
structure G4 (w wr : World) (gx N G n p q r s : Nat) (xs ys rs ss : List Nat) : Prop where
  rx : IRow wr p 53 .u64 xs
  ry : IRow wr q 53 .u64 ys
  rz : IRow wr r 53 .u64 rs
  rv : IRow wr s 53 .u64 ss
  lx : xs.length = N
  ly : ys.length = N
  lr : rs.length = N
  ls : ss.length = N
  dx : Dg W64 xs
  dy : Dg W64 ys
  dr : Dg W64 rs
  ds : Dg W64 ss
  pq : p ≠ q
  pr : p ≠ r
  ps : p ≠ s
  qr : q ≠ r
  qs : q ≠ s
  rs' : r ≠ s
  op : p = gx ∨ w.heap.size ≤ p
  oq : q = gx ∨ w.heap.size ≤ q
  or' : r = gx ∨ w.heap.size ≤ r
  os : s = gx ∨ w.heap.size ≤ s
  grow : w.grownBy wr (some gx)
  nN : n ≤ N
  le : V W64 (ys.take n) ≤ V W64 (xs.take n)
  gcd : Nat.gcd (V W64 (xs.take n)) (V W64 (ys.take n)) = G

section
variable {w wr wr' : World} {gx N G n p q r s : Nat} {xs ys rs ss : List Nat}
theorem G4.keep (h : G4 w wr gx N G n p q r s xs ys rs ss) (hg : wr.grownBy wr' none) : G4 w wr' gx N G n p q r s xs ys rs ss :=
  { h with rx := h.rx.kept hg (by simp), ry := h.ry.kept hg (by simp), rz := h.rz.kept hg (by simp), rv := h.rv.kept hg (by simp), grow := grown_none h.grow hg }
/-- only the words that x has -/
theorem G4.cut (h : G4 w wr gx N G n p q r s xs ys rs ss) : G4 w wr gx N G (trimR (xs.take n)).length p q r s xs ys rs ss ∧ V W64 (xs.take (trimR (xs.take n)).length) = V W64 (xs.take n) ∧ V W64 (ys.take (trimR (xs.take n)).length) = V W64 (ys.take n) := by
  have hl := trimR_length_le (xs.take n)
  have hl2 : (xs.take n).length = n := by rw [List.length_take]; have := h.nN; have := h.lx; omega
  have e1 : V W64 (xs.take (trimR (xs.take n)).length) = V W64 (xs.take n) := by rw [← trim_take, V_trimR]
  have hlt := V_take_lt h.dx (trimR (xs.take n)).length (by have := h.lx; have := h.nN; omega)
  have e2 : V W64 (ys.take (trimR (xs.take n)).length) = V W64 (ys.take n) :=
    V_take_le (by omega) (by have := h.ly; have := h.nN; omega) (by have := h.le; omega)
  exact ⟨{ h with nN := by have := h.nN; omega, le := by rw [e1, e2]; exact h.le, gcd := by rw [e1, e2]; exact h.gcd }, e1, e2⟩
/-- the rest, copied over x -/
theorem copied_rest {xs rs : List Nat} {k N : Nat} (hx : xs.length = N) (hk : k ≤ N) (dx : Dg W64 xs) (dr : Dg W64 rs) (hl : rs.length = k + 1) (hv : V W64 rs < W64 ^ k) :
    (splice xs 0 (rs.take k)).length = N ∧ Dg W64 (splice xs 0 (rs.take k)) ∧ V W64 ((splice xs 0 (rs.take k)).take k) = V W64 rs := by
  have e : splice xs 0 (rs.take k) = rs.take k ++ xs.drop k := by simp [splice, hl]
  have hl2 : (rs.take k).length = k := by rw [List.length_take, hl]; omega
  rw [e]
  refine ⟨by rw [List.length_append, hl2, List.length_drop]; omega, (dr.take k).append (dx.drop k), ?_⟩
  rw [List.take_append_of_le_length (by omega), List.take_take, Nat.min_self]
  have := V_take_le (xs := rs) (n := rs.length) (m := k) (by omega) (Nat.le_refl _) (by rw [List.take_length]; exact hv)
  rw [List.take_length] at this
  exact this
/-- a step of Euclid's algorithm: x is replaced by the rest, and the two change places -/
theorem G4.swap (h : G4 w wr gx N G n p q r s xs ys rs ss) {zs : List Nat} (hz : IRow wr' p 53 .u64 zs) (hg : wr.grownBy wr' (some p)) (hl : zs.length = N) (hd : Dg W64 zs)
    (hv : V W64 (zs.take n) = V W64 (xs.take n) % V W64 (ys.take n)) (hy : 0 < V W64 (ys.take n)) : G4 w wr' gx N G n q p r s ys zs rs ss :=
  { rx := h.ry.kept hg (by simp; exact h.pq.symm), ry := hz, rz := h.rz.kept hg (by simp; exact h.pr.symm), rv := h.rv.kept hg (by simp; exact h.ps.symm),
    lx := h.ly, ly := hl, lr := h.lr, ls := h.ls, dx := h.dy, dy := hd, dr := h.dr, ds := h.ds, pq := h.pq.symm, pr := h.qr, ps := h.qs, qr := h.pr, qs := h.ps, rs' := h.rs',
    op := h.oq, oq := h.op, or' := h.or', os := h.os, grow := grown_sub h.grow hg h.op, nN := h.nN,
    le := by rw [hv]; exact Nat.le_of_lt (Nat.mod_lt _ hy), gcd := by rw [hv, Nat.gcd_comm, ← Nat.gcd_rec, Nat.gcd_comm]; exact h.gcd }
/-- Lehmer's steps: the other two rows take the numbers -/
theorem G4.leh (h : G4 w wr gx N G n p q r s xs ys rs ss) {wa wb : World} {d3 d4 : List Nat} (h3 : IRow wr' r 53 .u64 d3) (h4 : IRow wr' s 53 .u64 d4) (ga : wr.grownBy wa none) (gb : wa.grownBy wb (some r)) (gc : wb.grownBy wr' (some s))
    (l3 : d3.length = rs.length) (l4 : d4.length = ss.length) (e3 : Dg W64 d3) (e4 : Dg W64 d4) (hL : Leh (V W64 (xs.take n)) (V W64 (ys.take n)) (V W64 (d3.take n)) (V W64 (d4.take n))) : G4 w wr' gx N G n r s p q d3 d4 xs ys :=
  { rx := h3, ry := h4, rz := ((h.rx.kept ga (by simp)).kept gb (by simp; exact h.pr)).kept gc (by simp; exact h.ps), rv := ((h.ry.kept ga (by simp)).kept gb (by simp; exact h.qr)).kept gc (by simp; exact h.qs),
    lx := by rw [l3]; exact h.lr, ly := by rw [l4]; exact h.ls, lr := h.lx, ls := h.ly, dx := e3, dy := e4, dr := h.dx, ds := h.dy, pq := h.rs', pr := h.pr.symm, ps := h.qr.symm, qr := h.ps.symm, qs := h.qs.symm, rs' := h.pq,
    op := h.or', oq := h.os, or' := h.op, os := h.oq, grow := grown_sub (grown_sub (grown_none h.grow ga) gb h.or') gc h.os, nN := h.nN,
    le := Nat.le_of_lt hL.1, gcd := hL.2.1.trans h.gcd }
end
theorem IRow.rep (w : World) (e : TypeId) (n : Nat) : IRow (w.alloc (.cells (Array.replicate n (.int .u64 0)) e)) w.heap.size e .u64 (List.replicate n 0) := by
  unfold IRow
  rw [heap_alloc_new]
  simp
theorem rep2 (w : World) (e : TypeId) (n : Nat) : IRow ((w.alloc (.cells (Array.replicate n (.int .u64 0)) e)).alloc (.cells (Array.replicate n (.int .u64 0)) e)).drew w.heap.size e .u64 (List.replicate n 0) ∧
    IRow ((w.alloc (.cells (Array.replicate n (.int .u64 0)) e)).alloc (.cells (Array.replicate n (.int .u64 0)) e)).drew (w.heap.size + 1) e .u64 (List.replicate n 0) ∧
    w.grownBy ((w.alloc (.cells (Array.replicate n (.int .u64 0)) e)).alloc (.cells (Array.replicate n (.int .u64 0)) e)).drew none := by
  have h1 := IRow.rep w e n
  have g1 := World.grownBy_alloc w (.cells (Array.replicate n (.int .u64 0)) e) none
  have h2 := IRow.rep (w.alloc (.cells (Array.replicate n (.int .u64 0)) e)) e n
  have g2 := World.grownBy_alloc (w.alloc (.cells (Array.replicate n (.int .u64 0)) e)) (.cells (Array.replicate n (.int .u64 0)) e) none
  refine ⟨(h1.kept g2 (by simp)).drew, ?_, grown_trans (grown_trans g1 g2) (grown_drew _ none)⟩
  have h3 := h2.drew
  simpa using h3
/-- make of words, where the walk runs it -/
theorem run_make_words {P : Program} (t e : TypeId) (h1 : P.underlying t = some (.slice e)) (h2 : (P.info? e).map (fun i => (i.zero, i.size, i.bytes)) = some (some (.int .u64 0), 1, 8)) (n : Nat) (hn : n ≤ 1000000) (w : World) :
    (Instr.makeSlice t (.int .i64 (n : Int)) (.int .i64 (n : Int))).run P w = .ok (.slice (some ⟨w.heap.size, 0, none⟩) n n) (w.alloc (.cells (Array.replicate n (.int .u64 0)) e)) := by
  obtain ⟨i, hi, hz0, hz1, hz2⟩ := info_parts h2
  have hb : (i.bytes : Int) * (n : Int) ≤ 281474976710656 := by rw [hz2]; omega
  have hr := run_make (P := P) w t e i (.int .u64 0) h1 hi hz0 .i64 .i64 n n (by omega) (by omega) hb (by omega)
  simp only [Int.toNat_natCast] at hr
  rw [hr, hz1]
  have e1 : madeCells (Value.int .u64 0).cells (n * 1) = Array.replicate n (.int .u64 0) := by
    rw [Nat.mul_one, ← Array.toList_inj]
    have := toList_madeCells_one (.int .u64 0) n
    simp at this ⊢
    exact this
  rw [e1]
end Go.Proofs.YtdgcmbpmjcfhpaaGreatDoor
