/-
  WgA Wg Gcd GcdR IntE FormsV RatA RatB RatC RatE RatV RatL RatM RatO IntRB RatD RatK Open IntOpen RatOpen Tied RatP RatT RatW RatWr, in one text.
-/
import Derived.Test.YtdmlcddieadelaaRests
import Derived.Test.YtdmlcddieadelaaGcdW
import Derived.Test.YtdmlcddieadelaaDivW
import Derived.Test.YtdmlcddieadelaaDivide
import Derived.Test.YtdmlcddieadelaaOwn
import Derived.Deep.DeepCutAuto
import Derived.Deep.RegionHeld3
import Derived.Test.YtdmlcddieadelaaDivN
import Derived.Test.YtdmlcddieadelaaRefDiv
import Derived.Deep.LoopGhost
import Derived.Test.YtdmlcddieadelaaIntD
import Derived.Test.YtdmlcddieadelaaIntR
import Derived.Test.YtdmlcddieadelaaForms
import Derived.Test.YtdmlcddieadelaaIntN
import Derived.Test.YtdmlcddieadelaaIntOf
import Derived.Test.YtdmlcddieadelaaIntC
import Derived.Test.YtdmlcddieadelaaIntA
import Derived.Test.YtdmlcddieadelaaRows
import Derived.Test.YtdmlcddieadelaaMem
import Derived.Test.YtdmlcddieadelaaDig
import Derived.WalkKit
import Derived.ProofKit
import Derived.OpenShut
import Derived.LaidMore
import Derived.Lib.LaidTab
import Derived.Stop.Joined
import Derived.SevenTiedAt

set_option linter.unusedVariables false
set_option linter.unusedSimpArgs false
namespace Go.Proofs.Ytdmlcddieadelaa
open Go.RowKit Nm

theorem W64_pos : 0 < W64 := by decide
/-- the value of the first n words, if those behind them hold nothing -/
theorem V_take_le {xs : List Nat} {n m : Nat} (hm : m ≤ n) (hn : n ≤ xs.length) (h : V W64 (xs.take n) < W64 ^ m) : V W64 (xs.take m) = V W64 (xs.take n) := by
  have hl : (xs.take n).length = n := by simp; omega
  have e := V_take_drop (B := W64) (xs.take n) m (by omega)
  rw [List.take_take, Nat.min_eq_left hm] at e
  rcases Nat.eq_zero_or_pos (V W64 ((xs.take n).drop m)) with h0 | h0
  · rw [h0] at e; omega
  · have : W64 ^ m * 1 ≤ W64 ^ m * V W64 ((xs.take n).drop m) := Nat.mul_le_mul_left _ h0
    omega
theorem V_take_lt {xs : List Nat} (hd : Dg W64 xs) (n : Nat) (hn : n ≤ xs.length) : V W64 (xs.take n) < W64 ^ n := by
  have := (hd.take n).lt
  rw [List.length_take, Nat.min_eq_left hn] at this
  exact this
/-- the words that trim keeps -/
theorem trim_take (xs : List Nat) (n : Nat) : trimR (xs.take n) = xs.take (trimR (xs.take n)).length := by
  have h := trimR_eq_take (xs.take n)
  have hl := trimR_length_le (xs.take n)
  have hl2 : (xs.take n).length ≤ n := by rw [List.length_take]; omega
  rw [List.take_take, Nat.min_eq_left (by omega)] at h
  exact h
theorem IRow.rdn {w : World} {g : Nat} {e : TypeId} {k : IntKind} {xs : List Nat} (h : IRow w g e k xs) (n c : Nat) (hn : n ≤ xs.length) (hc : n ≤ c) (hm : c ≤ 9223372036854775807) :
    IRd w k (some ⟨g, 0, none⟩) n c (xs.take n) := by
  have := h.rd 0 n c (by omega) hc hm
  simpa using this
theorem grown_sub {a b c : World} {g p : Nat} (h : a.grownBy b (some g)) (k : b.grownBy c (some p)) (hp : p = g ∨ a.heap.size ≤ p) : a.grownBy c (some g) :=
  ⟨k.os.trans h.os, k.tape.trans h.tape, k.output.trans h.output, Nat.le_trans h.size k.size, fun i hi hne =>
    (k.block i (Nat.lt_of_lt_of_le hi h.size) (fun e => by
      cases e
      rcases hp with rfl | hp
      · exact hne rfl
      · omega)).trans (h.block i hi hne)⟩
theorem grown_none {a b c : World} {g : Nat} (h : a.grownBy b (some g)) (k : b.grownBy c none) : a.grownBy c (some g) :=
  grown_trans h (grown_any k _)

/-- the four rows -/
structure G4 (w wr : World) (gx N G n p q r s : Nat) (xs ys rs ss : List Nat) : Prop where
  rx : IRow wr p 124 .u64 xs
  ry : IRow wr q 124 .u64 ys
  rz : IRow wr r 124 .u64 rs
  rv : IRow wr s 124 .u64 ss
  lx : xs.length = N
  ly : ys.length = N
  lr : rs.length = N
  ls : ss.length = N
  dx : Dg W64 xs
  dy : Dg W64 ys
  dr : Dg W64 rs
  ds : Dg W64 ss
  pq : p ≠ q
  pr : p ≠ r
  ps : p ≠ s
  qr : q ≠ r
  qs : q ≠ s
  rs' : r ≠ s
  op : p = gx ∨ w.heap.size ≤ p
  oq : q = gx ∨ w.heap.size ≤ q
  or' : r = gx ∨ w.heap.size ≤ r
  os : s = gx ∨ w.heap.size ≤ s
  grow : w.grownBy wr (some gx)
  nN : n ≤ N
  le : V W64 (ys.take n) ≤ V W64 (xs.take n)
  gcd : Nat.gcd (V W64 (xs.take n)) (V W64 (ys.take n)) = G

section
variable {w wr wr' : World} {gx N G n p q r s : Nat} {xs ys rs ss : List Nat}
theorem G4.keep (h : G4 w wr gx N G n p q r s xs ys rs ss) (hg : wr.grownBy wr' none) : G4 w wr' gx N G n p q r s xs ys rs ss :=
  { h with rx := h.rx.kept hg (by simp), ry := h.ry.kept hg (by simp), rz := h.rz.kept hg (by simp), rv := h.rv.kept hg (by simp), grow := grown_none h.grow hg }
/-- only the words that x has -/
theorem G4.cut (h : G4 w wr gx N G n p q r s xs ys rs ss) : G4 w wr gx N G (trimR (xs.take n)).length p q r s xs ys rs ss ∧ V W64 (xs.take (trimR (xs.take n)).length) = V W64 (xs.take n) ∧ V W64 (ys.take (trimR (xs.take n)).length) = V W64 (ys.take n) := by
  have hl := trimR_length_le (xs.take n)
  have hl2 : (xs.take n).length = n := by rw [List.length_take]; have := h.nN; have := h.lx; omega
  have e1 : V W64 (xs.take (trimR (xs.take n)).length) = V W64 (xs.take n) := by rw [← trim_take, V_trimR]
  have hlt := V_take_lt h.dx (trimR (xs.take n)).length (by have := h.lx; have := h.nN; omega)
  have e2 : V W64 (ys.take (trimR (xs.take n)).length) = V W64 (ys.take n) :=
    V_take_le (by omega) (by have := h.ly; have := h.nN; omega) (by have := h.le; omega)
  exact ⟨{ h with nN := by have := h.nN; omega, le := by rw [e1, e2]; exact h.le, gcd := by rw [e1, e2]; exact h.gcd }, e1, e2⟩
/-- the rest, copied over x -/
theorem copied_rest {xs rs : List Nat} {k N : Nat} (hx : xs.length = N) (hk : k ≤ N) (dx : Dg W64 xs) (dr : Dg W64 rs) (hl : rs.length = k + 1) (hv : V W64 rs < W64 ^ k) :
    (splice xs 0 (rs.take k)).length = N ∧ Dg W64 (splice xs 0 (rs.take k)) ∧ V W64 ((splice xs 0 (rs.take k)).take k) = V W64 rs := by
  have e : splice xs 0 (rs.take k) = rs.take k ++ xs.drop k := by simp [splice, hl]
  have hl2 : (rs.take k).length = k := by rw [List.length_take, hl]; omega
  rw [e]
  refine ⟨by rw [List.length_append, hl2, List.length_drop]; omega, (dr.take k).append (dx.drop k), ?_⟩
  rw [List.take_append_of_le_length (by omega), List.take_take, Nat.min_self]
  have := V_take_le (xs := rs) (n := rs.length) (m := k) (by omega) (Nat.le_refl _) (by rw [List.take_length]; exact hv)
  rw [List.take_length] at this
  exact this
/-- a step of Euclid's algorithm: x is replaced by the rest, and the two change places -/
theorem G4.swap (h : G4 w wr gx N G n p q r s xs ys rs ss) {zs : List Nat} (hz : IRow wr' p 124 .u64 zs) (hg : wr.grownBy wr' (some p)) (hl : zs.length = N) (hd : Dg W64 zs)
    (hv : V W64 (zs.take n) = V W64 (xs.take n) % V W64 (ys.take n)) (hy : 0 < V W64 (ys.take n)) : G4 w wr' gx N G n q p r s ys zs rs ss :=
  { rx := h.ry.kept hg (by simp; exact h.pq.symm), ry := hz, rz := h.rz.kept hg (by simp; exact h.pr.symm), rv := h.rv.kept hg (by simp; exact h.ps.symm),
    lx := h.ly, ly := hl, lr := h.lr, ls := h.ls, dx := h.dy, dy := hd, dr := h.dr, ds := h.ds, pq := h.pq.symm, pr := h.qr, ps := h.qs, qr := h.pr, qs := h.ps, rs' := h.rs',
    op := h.oq, oq := h.op, or' := h.or', os := h.os, grow := grown_sub h.grow hg h.op, nN := h.nN,
    le := by rw [hv]; exact Nat.le_of_lt (Nat.mod_lt _ hy), gcd := by rw [hv, Nat.gcd_comm, ← Nat.gcd_rec, Nat.gcd_comm]; exact h.gcd }
/-- Lehmer's steps: the other two rows take the numbers -/
theorem G4.leh (h : G4 w wr gx N G n p q r s xs ys rs ss) {wa wb : World} {d3 d4 : List Nat} (h3 : IRow wr' r 124 .u64 d3) (h4 : IRow wr' s 124 .u64 d4) (ga : wr.grownBy wa none) (gb : wa.grownBy wb (some r)) (gc : wb.grownBy wr' (some s))
    (l3 : d3.length = rs.length) (l4 : d4.length = ss.length) (e3 : Dg W64 d3) (e4 : Dg W64 d4) (hL : Leh (V W64 (xs.take n)) (V W64 (ys.take n)) (V W64 (d3.take n)) (V W64 (d4.take n))) : G4 w wr' gx N G n r s p q d3 d4 xs ys :=
  { rx := h3, ry := h4, rz := ((h.rx.kept ga (by simp)).kept gb (by simp; exact h.pr)).kept gc (by simp; exact h.ps), rv := ((h.ry.kept ga (by simp)).kept gb (by simp; exact h.qr)).kept gc (by simp; exact h.qs),
    lx := by rw [l3]; exact h.lr, ly := by rw [l4]; exact h.ls, lr := h.lx, ls := h.ly, dx := e3, dy := e4, dr := h.dx, ds := h.dy, pq := h.rs', pr := h.pr.symm, ps := h.qr.symm, qr := h.ps.symm, qs := h.qs.symm, rs' := h.pq,
    op := h.or', oq := h.os, or' := h.op, os := h.oq, grow := grown_sub (grown_sub (grown_none h.grow ga) gb h.or') gc h.os, nN := h.nN,
    le := Nat.le_of_lt hL.1, gcd := hL.2.1.trans h.gcd }
end
theorem IRow.rep (w : World) (e : TypeId) (n : Nat) : IRow (w.alloc (.cells (Array.replicate n (.int .u64 0)) e)) w.heap.size e .u64 (List.replicate n 0) := by
  unfold IRow
  rw [heap_alloc_new]
  simp
theorem rep2 (w : World) (e : TypeId) (n : Nat) : IRow ((w.alloc (.cells (Array.replicate n (.int .u64 0)) e)).alloc (.cells (Array.replicate n (.int .u64 0)) e)).drew w.heap.size e .u64 (List.replicate n 0) ∧
    IRow ((w.alloc (.cells (Array.replicate n (.int .u64 0)) e)).alloc (.cells (Array.replicate n (.int .u64 0)) e)).drew (w.heap.size + 1) e .u64 (List.replicate n 0) ∧
    w.grownBy ((w.alloc (.cells (Array.replicate n (.int .u64 0)) e)).alloc (.cells (Array.replicate n (.int .u64 0)) e)).drew none := by
  have h1 := IRow.rep w e n
  have g1 := World.grownBy_alloc w (.cells (Array.replicate n (.int .u64 0)) e) none
  have h2 := IRow.rep (w.alloc (.cells (Array.replicate n (.int .u64 0)) e)) e n
  have g2 := World.grownBy_alloc (w.alloc (.cells (Array.replicate n (.int .u64 0)) e)) (.cells (Array.replicate n (.int .u64 0)) e) none
  refine ⟨(h1.kept g2 (by simp)).drew, ?_, grown_trans (grown_trans g1 g2) (grown_drew _ none)⟩
  have h3 := h2.drew
  simpa using h3
/-- make of words, where the walk runs it -/
theorem run_make_words {P : Program} (t e : TypeId) (h1 : P.underlying t = some (.slice e)) (h2 : (P.info? e).map (fun i => (i.zero, i.size, i.bytes)) = some (some (.int .u64 0), 1, 8)) (n : Nat) (hn : n ≤ 1000000000) (w : World) :
    (Instr.makeSlice t (.int .i64 (n : Int)) (.int .i64 (n : Int))).run P w = .ok (.slice (some ⟨w.heap.size, 0, none⟩) n n) (w.alloc (.cells (Array.replicate n (.int .u64 0)) e)) := by
  obtain ⟨i, hi, hz0, hz1, hz2⟩ := info_parts h2
  have hb : (i.bytes : Int) * (n : Int) ≤ 281474976710656 := by rw [hz2]; omega
  have hr := run_make (P := P) w t e i (.int .u64 0) h1 hi hz0 .i64 .i64 n n (by omega) (by omega) hb (by omega)
  simp only [Int.toNat_natCast] at hr
  rw [hr, hz1]
  have e1 : madeCells (Value.int .u64 0).cells (n * 1) = Array.replicate n (.int .u64 0) := by
    rw [Nat.mul_one, ← Array.toList_inj]
    have := toList_madeCells_one (.int .u64 0) n
    simp at this ⊢
    exact this
  rw [e1]
end Go.Proofs.Ytdmlcddieadelaa

set_option linter.unusedVariables false
set_option linter.unusedSimpArgs false
namespace Go.Proofs.Ytdmlcddieadelaa
open Go.RowKit Nm

theorem infoW : (Try.prog.info? 124).map (fun i => (i.zero, i.size, i.bytes)) = some (some (.int .u64 0), 1, 8) := by kernel_rfl
/-- what wordsGcd returns: words of the number G -/
def WG (w : World) (gx G : Nat) (e : Ending) (w' : World) : Prop := ∃ p n c zs, e = .returned (.slice p n c) ∧ IRd w' .u64 p n c zs ∧ n ≤ 900000000 ∧ Hid (Dg W64 zs ∧ V W64 zs = G) ∧ w.grownBy w' (some gx)

end Go.Proofs.Ytdmlcddieadelaa

set_option linter.unusedVariables false
set_option linter.unusedSimpArgs false
namespace Go.Proofs.Ytdmlcddieadelaa
open Go.RowKit Nm

/-- a call returns the valid Nat of G -/
def NPost (w : World) (G : Nat) (e : Ending) (w' : World) : Prop := ∃ p c, e = .returned (.slice p (dg 65536 G).length c) ∧ IRd w' .u16 p (dg 65536 G).length c (dg 65536 G) ∧ w.grownBy w' none

/-- the two numbers in their order -/
structure Gs (w : World) (p q : Option Addr) (n c m d : Nat) (us vs : List Nat) (G : Nat) : Prop where
  rx : IRd w .u16 p n c us
  ry : IRd w .u16 q m d vs
  cx : Nm.Can 65536 us
  cy : Nm.Can 65536 vs
  le : V 65536 vs ≤ V 65536 us
  gcd : Nat.gcd (V 65536 us) (V 65536 vs) = G
  hn : n ≤ 800000000

section
variable {w w' : World} {p q : Option Addr} {n c m d N M : Nat}
end
end Go.Proofs.Ytdmlcddieadelaa

set_option linter.unusedVariables false
set_option linter.unusedSimpArgs false
namespace Go.Proofs.Ytdmlcddieadelaa
open Go.RowKit Nm

theorem IsC.zero_len {w : World} {p : Option Addr} {n c N : Nat} (h : IsC w p n c N) : (n = 0 ∧ N = 0) ∨ (0 < n ∧ 0 < N) := by
  have hl := h.len
  rcases Nat.eq_zero_or_pos N with h0 | h0
  · subst h0
    rw [dg_zero] at hl
    exact .inl ⟨by simpa using hl.symm, rfl⟩
  · refine .inr ⟨?_, h0⟩
    rcases Nat.eq_zero_or_pos n with h1 | h1
    · have e := V_dg (B := 65536) (by omega) N
      rw [List.eq_nil_of_length_eq_zero (hl.trans h1)] at e
      simp at e; omega
    · exact h1

/-- a call returns the valid Nat of G, of at most k limbs -/
def RPost (w : World) (k G : Nat) (e : Ending) (w' : World) : Prop := ∃ p n c, e = .returned (.slice p n c) ∧ IsC w' p n c G ∧ n ≤ k ∧ w.grownBy w' none

set_option maxHeartbeats 2000000 in
theorem refGcd_n {w : World} {p q : Option Addr} {n c m d N M : Nat} (hA : IsN w p n c N) (hB : IsN w q m d M) (hn : n ≤ 1100000000) (hm : m ≤ 1100000000) :
    Calls Try.prog 88 #[.slice p n c, .slice q m d] w (RPost w (max n m) (Nat.gcd N M)) := by
  obtain ⟨k, hk⟩ : ∃ k, k = max n m := ⟨_, rfl⟩
  obtain ⟨G, hG⟩ : ∃ G, G = Nat.gcd N M := ⟨_, rfl⟩
  rw [← hk, ← hG]
  have hk1 : n ≤ k := by omega
  have hk2 : m ≤ k := by omega
  have hk3 : k ≤ 1100000000 := by omega
  have HG := hid hG
  clear hk hG
  go_enter Try.func88, Try.ntmps88
  go_wp2_with fail
  refine (refNorm_n hA (by omega)).mono ?_
  rintro e w1 ⟨p1, n1, c1, rfl, hA1, hn1, hg1⟩
  go_wp2_with fail
  refine (refNorm_n (hB.keep hg1) (by omega)).mono ?_
  rintro e w2 ⟨p2, n2, c2, rfl, hB2, hn2, hg2⟩
  have hA2 := hA1.keep hg2
  have hW := grown_trans hg1 hg2
  clear hA hB hA1 hg1 hg2
  go_wp2_with fail
  go_loopg [0, 1] M (fun j x y wr => ∃ (p q : Option Addr) (n c m d A : Nat), x = .slice p n c ∧ y = .slice q m d ∧ IsC wr p n c A ∧ IsC wr q m d j ∧ n ≤ k ∧ m ≤ k ∧ w.grownBy wr none ∧ Hid (Nat.gcd A j = G))
  case atStart => exact ⟨_, _, _, _, _, _, N, rfl, rfl, hA2, hB2, by omega, by omega, hW, hid HG.out.symm⟩
  case round =>
    clear hA2 hB2 hW HG
    obtain ⟨p, q, n, c, m, d, A, rfl, rfl, hA, hB, hn, hm, hW, HG⟩ := hrel
    rcases hB.zero_len with ⟨rfl, rfl⟩ | ⟨h1, h2⟩
    · have hF : IsC wr p n c G := by have := HG.out; rw [Nat.gcd_zero_right] at this; exact this ▸ hA
      go_wp2
      go_ret
      exact ⟨p, n, c, rfl, hF, hn, hW⟩
    · have hlt := Nat.mod_lt A h2
      have hi : (0 : Int) < (m : Int) := by omega
      go_wp2_with fail
      refine (refDivMod_n hA.isN hB.isN (by omega) (by omega) h2).mono ?_
      rintro e w3 ⟨p3, n3, c3, p4, n4, c4, rfl, hQ, hR, hn3, hn4, hg3⟩
      have hB3 := hB.keep hg3
      have hW3 := grown_trans hW hg3
      clear hA hB hQ hW hg3
      have HR := hid (And.intro hR hB3)
      clear hR hB3
      go_wp2_with fail
      go_roundg (A % gk)
      case measure => exact hlt
      case rel => exact ⟨_, _, _, _, _, _, gk, rfl, rfl, HR.out.2, HR.out.1, hm, by omega, hW3, hid (by rw [Nat.gcd_comm, ← Nat.gcd_rec, Nat.gcd_comm]; exact HG.out)⟩
end Go.Proofs.Ytdmlcddieadelaa

set_option linter.unusedVariables false
set_option linter.unusedSimpArgs false
namespace Go.Proofs.Ytdmlcddieadelaa
open Go.RowKit Nm


/-- what a division by 0 returns -/
def DmIE (w : World) (e : Ending) (w' : World) : Prop := e = .returned (.tuple #[.agg #[.bool false, .slice none 0 0], .agg #[.bool false, .slice none 0 0], .int .i64 3]) ∧ w.grownBy w' none
theorem DmIE.close {w W w5 : World} {G G2 : Nat} (hg3 : w.grownBy W none) (hG : w.heap.size ≤ G) (hG2 : w.heap.size ≤ G2) (hg35 : W.grownBy w5 none) (a b c d : Value) :
    DmIE w (.returned (.tuple #[.agg #[.bool false, .slice none 0 0], .agg #[.bool false, .slice none 0 0], .int .i64 3])) ((((w5.setCell ⟨G, 0, none⟩ a).setCell ⟨G, 1, none⟩ b).setCell ⟨G2, 0, none⟩ c).setCell ⟨G2, 1, none⟩ d) := by
  have h := grown_trans hg3 hg35
  have h1 : w.grownBy ((w5.setCell ⟨G, 0, none⟩ a).setCell ⟨G, 1, none⟩ b) none := grown_new h (grown_trans (grown_setCell w5 ⟨G, 0, none⟩ a) (grown_setCell _ ⟨G, 1, none⟩ b)) (fun g e => by cases e; exact hG)
  exact ⟨rfl, grown_new h1 (grown_trans (grown_setCell _ ⟨G2, 0, none⟩ c) (grown_setCell _ ⟨G2, 1, none⟩ d)) (fun g e => by cases e; exact hG2)⟩
end Go.Proofs.Ytdmlcddieadelaa

set_option linter.unusedVariables false
set_option linter.unusedSimpArgs false
namespace Go.Proofs.Ytdmlcddieadelaa
open Go.RowKit Nm



end Go.Proofs.Ytdmlcddieadelaa

set_option linter.unusedVariables false
set_option linter.unusedSimpArgs false
namespace Go.Proofs.Ytdmlcddieadelaa
open Go.RowKit Nm

/-- numerator and denominator in lowest terms of N / D -/
def rn (N : Int) (D : Nat) : Int := sg (decide (N < 0)) (N.natAbs / Nat.gcd N.natAbs D)
def rd (N : Int) (D : Nat) : Nat := D / Nat.gcd N.natAbs D

theorem one_word {xs : List Nat} (hd : Dg 65536 xs) (h : V 65536 xs = 1) : (trimR xs).length = 1 := by
  rw [trimR_dg (by omega) hd, h, dg_step 1 (by omega)]
  simp [dg_zero]

end Go.Proofs.Ytdmlcddieadelaa

set_option linter.unusedVariables false
set_option linter.unusedSimpArgs false
namespace Go.Proofs.Ytdmlcddieadelaa
open Go.RowKit Nm

theorem three_cells (x : Bool) (y z : Option Addr) (a b c d j : Nat) (k : IntKind) (t : Int) : (#[Value.bool x, Value.slice y a b, Value.slice z c d])[j]? ≠ some (.int k t) := by
  match j with
  | 0 => simp
  | 1 => simp
  | 2 => simp
  | j + 3 => simp
theorem set3_grown (w : World) (G : Nat) (a b c : Value) : w.grownBy (((w.setCell ⟨G, 0, none⟩ a).setCell ⟨G, 1, none⟩ b).setCell ⟨G, 2, none⟩ c) (some G) :=
  grown_trans (grown_trans (grown_setCell w ⟨G, 0, none⟩ a) (grown_setCell _ ⟨G, 1, none⟩ b)) (grown_setCell _ ⟨G, 2, none⟩ c)
theorem IsC.other3 {w w' : World} {p : Option Addr} {n c N G : Nat} {x : Bool} {y z : Option Addr} {a b e f : Nat} {T : TypeId} (h : IsC w p n c N) (hb : w.heap[G]? = some (.cells #[.bool x, .slice y a b, .slice z e f] T (0, 0))) (hg : w.grownBy w' (some G)) : IsC w' p n c N :=
  IRd.other h hb (fun j t => three_cells x y z a b e f j _ t) hg
theorem IsN.other2 {w w' : World} {p : Option Addr} {n c N G : Nat} {x : Bool} {y : Option Addr} {a b : Nat} {T : TypeId} (h : IsN w p n c N) (hb : w.heap[G]? = some (.cells #[.bool x, .slice y a b] T (0, 0))) (hg : w.grownBy w' (some G)) : IsN w' p n c N :=
  let ⟨L, h1, h2⟩ := h; ⟨L, IRd.other h1 hb (fun j t => two_cells x y a b j _ t) hg, h2⟩
theorem IsC.other2 {w w' : World} {p : Option Addr} {n c N G : Nat} {x : Bool} {y : Option Addr} {a b : Nat} {T : TypeId} (h : IsC w p n c N) (hb : w.heap[G]? = some (.cells #[.bool x, .slice y a b] T (0, 0))) (hg : w.grownBy w' (some G)) : IsC w' p n c N :=
  IRd.other h hb (fun j t => two_cells x y a b j _ t) hg
theorem IsZ.other2 {w w' : World} {g : Bool} {p : Option Addr} {n c G : Nat} {Z : Int} {x : Bool} {y : Option Addr} {a b : Nat} {T : TypeId} (h : IsZ w g p n c Z) (hb : w.heap[G]? = some (.cells #[.bool x, .slice y a b] T (0, 0))) (hg : w.grownBy w' (some G)) : IsZ w' g p n c Z :=
  ⟨h.1.other2 hb hg, h.2⟩

theorem ratbox_facts {w : World} {G : Nat} {x : Bool} {y z : Option Addr} {a b e f : Nat} {T : TypeId} (hb : w.heap[G]? = some (.cells #[.bool x, .slice y a b, .slice z e f] T (0, 0))) :
    w.cell? ⟨G, 0, none⟩ = some (.bool x) ∧ w.cell? ⟨G, 1, none⟩ = some (.slice y a b) ∧ w.cell? ⟨G, 2, none⟩ = some (.slice z e f) ∧ w.frozen? ⟨G, 0, none⟩ = false ∧ w.frozen? ⟨G, 1, none⟩ = false ∧ w.frozen? ⟨G, 2, none⟩ = false := by
  have k0 := cell_of_row w G 0 _ _ _ hb
  have k1 := cell_of_row w G 1 _ _ _ hb
  have k2 := cell_of_row w G 2 _ _ _ hb
  simp at k0 k1 k2
  exact ⟨k0, k1, k2, frozen_of_row w G 0 _ _ hb, frozen_of_row w G 1 _ _ hb, frozen_of_row w G 2 _ _ hb⟩

/-- a valid Rat of N / D is returned -/
def LPost (w : World) (X : Int) (Y : Nat) (n m : Nat) (e : Ending) (w' : World) : Prop :=
  ∃ (g : Bool) (p : Option Addr) (n' c : Nat) (q : Option Addr) (m' d : Nat), e = .returned (.agg #[.bool g, .slice p n' c, .slice q m' d]) ∧ IsI w' g p n' c X ∧ IsC w' q m' d Y ∧ n' ≤ n ∧ m' ≤ m ∧ w.grownBy w' none

theorem LPost.close {w w5 : World} {G : Nat} {x : Bool} {y z : Option Addr} {a b e f : Nat} {T : TypeId} {g : Bool} {p q : Option Addr} {n' c m' d n m : Nat} {X : Int} {Y : Nat}
    (hW : w5.heap[G]? = some (.cells #[.bool x, .slice y a b, .slice z e f] T (0, 0))) (hG : w.heap.size ≤ G) (hg : w.grownBy w5 none) (h1 : IsI w5 g p n' c X) (h2 : IsC w5 q m' d Y) (hn : n' ≤ n) (hm : m' ≤ m) :
    LPost w X Y n m (.returned (.agg #[.bool g, .slice p n' c, .slice q m' d])) (((w5.setCell ⟨G, 0, none⟩ (.bool g)).setCell ⟨G, 1, none⟩ (.slice p n' c)).setCell ⟨G, 2, none⟩ (.slice q m' d)) := by
  have hs := set3_grown w5 G (.bool g) (.slice p n' c) (.slice q m' d)
  exact ⟨g, p, n', c, q, m', d, rfl, ⟨IsC.other3 h1.1 hW hs, h1.2⟩, h2.other3 hW hs, hn, hm, grown_new hg hs (fun g e => by cases e; exact hG)⟩

def pn (N : Int) (D : Nat) : Int := if D = 0 then 0 else N
def pd (D : Nat) : Nat := if D = 0 then 1 else D
theorem pd_pos (D : Nat) : 0 < pd D := by unfold pd; split <;> omega

/-- the parts of a rational number -/
def PtPost (w : World) (N : Int) (D n m : Nat) (e : Ending) (w' : World) : Prop :=
  ∃ (g : Bool) (p : Option Addr) (n' c : Nat) (q : Option Addr) (m' d : Nat), e = .returned (.tuple #[.agg #[.bool g, .slice p n' c], .slice q m' d]) ∧ IsZ w' g p n' c (pn N D) ∧ IsN w' q m' d (pd D) ∧ n' ≤ n + 4 ∧ m' ≤ m + 4 ∧ w.grownBy w' none

theorem bits_zero {N b : Nat} (hb : IsBits N b) : b = 0 ↔ N = 0 := by
  rcases hb with ⟨h1, h2⟩ | ⟨h1, h2, h3⟩
  · omega
  · have := Nat.pow_pos (n := b - 1) (show 0 < 2 by omega); omega

theorem PtPost.close {w w5 : World} {G : Nat} {x : Bool} {y : Option Addr} {a b : Nat} {T : TypeId} {g : Bool} {p q : Option Addr} {n' c m' d n m D : Nat} {N : Int}
    (hW : w5.heap[G]? = some (.cells #[.bool x, .slice y a b] T (0, 0))) (hG : w.heap.size ≤ G) (hg : w.grownBy w5 none) (h1 : IsZ w5 g p n' c (pn N D)) (h2 : IsN w5 q m' d (pd D)) (hn : n' ≤ n + 4) (hm : m' ≤ m + 4) :
    PtPost w N D n m (.returned (.tuple #[.agg #[.bool g, .slice p n' c], .slice q m' d])) ((w5.setCell ⟨G, 0, none⟩ (.bool g)).setCell ⟨G, 1, none⟩ (.slice p n' c)) := by
  have hs : w5.grownBy ((w5.setCell ⟨G, 0, none⟩ (.bool g)).setCell ⟨G, 1, none⟩ (.slice p n' c)) (some G) := grown_trans (grown_setCell w5 ⟨G, 0, none⟩ _) (grown_setCell _ ⟨G, 1, none⟩ _)
  exact ⟨g, p, n', c, q, m', d, rfl, h1.other2 hW hs, h2.other2 hW hs, hn, hm, grown_new hg hs (fun g e => by cases e; exact hG)⟩

end Go.Proofs.Ytdmlcddieadelaa

set_option linter.unusedVariables false
set_option linter.unusedSimpArgs false
namespace Go.Proofs.Ytdmlcddieadelaa
open Go.RowKit Nm

theorem IsZ.mk {w : World} {p : Option Addr} {n c M : Nat} (g : Bool) (h : IsN w p n c M) : IsZ w g p n c (sg g M) := ⟨by rw [sg_abs]; exact h, by rw [sg_abs]⟩
theorem sg_flag {w : World} {g : Bool} {p : Option Addr} {n c : Nat} {N : Int} (h : IsZ w g p n c N) (k : Nat) : sg g (N.natAbs / k) = sg (decide (N < 0)) (N.natAbs / k) := by
  have e := h.2
  by_cases h0 : N.natAbs = 0
  · rw [h0]; simp [sg_zero]
  · cases g
    · rw [sg_false] at e
      rw [decide_eq_false (by omega)]
    · rw [sg_true] at e
      rw [decide_eq_true (by omega)]
theorem sg_self (N : Int) : sg (decide (N < 0)) N.natAbs = N := by
  by_cases h : N < 0
  · rw [decide_eq_true h, sg_true]; omega
  · rw [decide_eq_false h, sg_false]; omega
theorem rn_one {N : Int} {D : Nat} (h : Nat.gcd N.natAbs D = 1) : rn N D = N := by unfold rn; rw [h, Nat.div_one, sg_self]
theorem rd_one {N : Int} {D : Nat} (h : Nat.gcd N.natAbs D = 1) : rd N D = D := by unfold rd; rw [h, Nat.div_one]
theorem first_of (w : World) (A B : Obj) : ((w.alloc A).alloc B).heap[w.heap.size]? = some A := (Below.heap_alloc (w.alloc A) B w.heap.size (by simp)).trans (heap_alloc_new w A)

end Go.Proofs.Ytdmlcddieadelaa

set_option linter.unusedVariables false
set_option linter.unusedSimpArgs false
namespace Go.Proofs.Ytdmlcddieadelaa
open Go.RowKit Nm

/-- the numerator over a positive denominator -/
def qn (N M : Int) : Int := if M < 0 then -N else N
theorem qn_sg {w : World} {g h : Bool} {p q : Option Addr} {n c m d : Nat} {N M : Int} (hA : IsZ w g p n c N) (hB : IsZ w h q m d M) (h0 : M ≠ 0) : sg (g != h) N.natAbs = qn N M := by
  have e1 := hA.2
  have e2 := hB.2
  unfold qn
  cases h
  · rw [sg_false] at e2
    rw [if_neg (by omega)]
    simpa using e1.symm
  · rw [sg_true] at e2
    rw [if_pos (by omega)]
    have : (g != true) = !g := by cases g <;> rfl
    rw [this, sg_not, ← e1]


theorem cmpI_zero_iff (M : Int) : cmpI M 0 = 0 ↔ M = 0 := by
  unfold cmpI
  split
  · omega
  · split <;> omega

/-- a Rat and no error -/
def MkPost (w : World) (X : Int) (Y : Nat) (n m : Nat) (e : Ending) (w' : World) : Prop :=
  ∃ (g : Bool) (p : Option Addr) (n' c : Nat) (q : Option Addr) (m' d : Nat), e = .returned (.tuple #[.agg #[.bool g, .slice p n' c, .slice q m' d], .int .i64 0]) ∧ IsI w' g p n' c X ∧ IsC w' q m' d Y ∧ n' ≤ n ∧ m' ≤ m ∧ w.grownBy w' none
theorem MkPost.of {w w' : World} {X : Int} {Y n m : Nat} {g : Bool} {p q : Option Addr} {n' c m' d : Nat} (h : LPost w X Y n m (.returned (.agg #[.bool g, .slice p n' c, .slice q m' d])) w') :
    MkPost w X Y n m (.returned (.tuple #[.agg #[.bool g, .slice p n' c, .slice q m' d], .int .i64 0])) w' := by
  obtain ⟨g1, p1, n1, c1, q1, m1, d1, e, h⟩ := h
  simp at e
  obtain ⟨rfl, ⟨rfl, rfl, rfl⟩, rfl, rfl, rfl⟩ := e
  exact ⟨g, p, n', c, q, m', d, rfl, h⟩


end Go.Proofs.Ytdmlcddieadelaa

set_option linter.unusedVariables false
set_option linter.unusedSimpArgs false
namespace Go.Proofs.Ytdmlcddieadelaa
open Go.RowKit Nm

theorem rn_q {N : Int} {D : Nat} (h : 0 < D) : rn N D = (mkRat N D).num := by
  rw [Rat.num_mkRat, if_neg (by omega), Nat.gcd_comm]
  unfold rn
  by_cases h0 : N < 0
  · rw [decide_eq_true h0]
    show -((N.natAbs / Nat.gcd N.natAbs D : Nat) : Int) = _
    have e : N = -(N.natAbs : Int) := by omega
    have hd : ((Nat.gcd N.natAbs D : Nat) : Int) ∣ (N.natAbs : Int) := Int.natCast_dvd_natCast.2 (Nat.gcd_dvd_left _ _)
    rw [Int.natCast_ediv, ← Int.neg_ediv_of_dvd hd, ← e]
  · rw [decide_eq_false h0]
    show ((N.natAbs / Nat.gcd N.natAbs D : Nat) : Int) = _
    have e : N = (N.natAbs : Int) := by omega
    rw [Int.natCast_ediv, ← e]
theorem rd_q {N : Int} {D : Nat} (h : 0 < D) : rd N D = (mkRat N D).den := by
  rw [Rat.den_mkRat, if_neg (by omega), Nat.gcd_comm]
  rfl
theorem pq (N : Int) (D : Nat) : mkRat (pn N D) (pd D) = mkRat N D := by
  unfold pn pd
  split
  · next h => subst h; simp
  · rfl
theorem mk_lt {A B : Int} {D E : Nat} (hD : 0 < D) (hE : 0 < E) : mkRat A D < mkRat B E ↔ A * E < B * D := by
  have hD' : (0 : Rat) < (D : Rat) := Rat.natCast_pos.2 hD
  have hE' : (0 : Rat) < (E : Rat) := Rat.natCast_pos.2 hE
  have e1 : (A : Rat) = mkRat A D * D := by rw [Rat.mkRat_eq_div]; grind
  have e2 : (B : Rat) = mkRat B E * E := by rw [Rat.mkRat_eq_div]; grind
  rw [← Rat.intCast_lt_intCast]
  simp only [Rat.intCast_mul, Rat.intCast_natCast]
  rw [e1, e2]
  generalize mkRat A D = x
  generalize mkRat B E = y
  have : x * D * E = x * (D * E) := by grind
  rw [this]
  have : y * E * D = y * (D * E) := by grind
  rw [this]
  exact (Rat.mul_lt_mul_right (Rat.mul_pos hD' hE')).symm
theorem qn_q {N M : Int} (h0 : M ≠ 0) : mkRat (qn N M) M.natAbs = (N : Rat) / (M : Rat) := by
  rw [Rat.mkRat_eq_div]
  unfold qn
  by_cases h : M < 0
  · rw [if_pos h]
    have e : M = -(M.natAbs : Int) := by omega
    generalize hk : M.natAbs = k at *
    subst e
    have : ((-(k : Int) : Int) : Rat) = -(k : Rat) := by rw [Rat.intCast_neg, Rat.intCast_natCast]
    rw [this, Rat.intCast_neg]
    grind
  · rw [if_neg h]
    have e : M = (M.natAbs : Int) := by omega
    generalize hk : M.natAbs = k at *
    subst e
    rw [Rat.intCast_natCast]
theorem mk_div {A B : Int} {D E : Nat} (hD : 0 < D) (hE : 0 < E) (hB : B ≠ 0) : ((A * E : Int) : Rat) / ((B * D : Int) : Rat) = mkRat A D / mkRat B E := by
  have hD' : (D : Rat) ≠ 0 := fun h => by have := Rat.natCast_pos.2 hD; grind
  have hE' : (E : Rat) ≠ 0 := fun h => by have := Rat.natCast_pos.2 hE; grind
  have hB' : (B : Rat) ≠ 0 := fun h => hB (by exact_mod_cast h)
  rw [Rat.mkRat_eq_div, Rat.mkRat_eq_div]
  simp only [Rat.intCast_mul, Rat.intCast_natCast]
  grind
/-- less, equal or greater -/
def cmpR (v u : Rat) : Int := if v < u then -1 else if v = u then 0 else 1
theorem cmp_q {A B : Int} {D E : Nat} (hD : 0 < D) (hE : 0 < E) : cmpI (A * E) (B * D) = cmpR (mkRat A D) (mkRat B E) := by
  unfold cmpI cmpR
  have h1 := mk_lt (A := A) (B := B) hD hE
  have h2 := Rat.mkRat_eq_iff (n₁ := A) (n₂ := B) (d₁ := D) (d₂ := E) (by omega) (by omega)
  simp only [h1, h2]
  generalize A * (E : Int) = x
  generalize B * (D : Int) = y
  repeat' split
  all_goals first | rfl | (exfalso; omega)
theorem sign_q {A : Int} {D : Nat} (hD : 0 < D) : cmpI A 0 = cmpR (mkRat A D) 0 := by
  have := cmp_q (A := A) (B := 0) (E := 1) hD (by omega)
  simpa using this

theorem cmpR_bound (v u : Rat) : cmpR v u = -1 ∨ cmpR v u = 0 ∨ cmpR v u = 1 := by unfold cmpR; split <;> (try split) <;> simp
theorem cmpR_neg (v u : Rat) : cmpR u v = -cmpR v u := by
  unfold cmpR
  by_cases h : v < u
  · have : ¬ u < v := by grind
    have : ¬ u = v := by grind
    simp [*]
  · by_cases h2 : v = u
    · subst h2; simp [h]
    · have : u < v := by grind
      simp [*]
theorem cmpR_congr {v u v' u' : Rat} (h1 : v < u ↔ v' < u') (h2 : v = u ↔ v' = u') : cmpR v u = cmpR v' u' := by unfold cmpR; simp only [h1, h2]
theorem cmpR_sub (v u : Rat) : cmpR (v - u) 0 = cmpR v u := cmpR_congr (by grind) (by grind)
theorem cmpR_add (v u t : Rat) : cmpR (v + t) (u + t) = cmpR v u := cmpR_congr (by grind) (by grind)
theorem cmpR_lt {v u : Rat} (h : v < u) : cmpR v u = -1 := by unfold cmpR; rw [if_pos h]
theorem cmpR_gt {v u : Rat} (h : u < v) : cmpR v u = 1 := by rw [cmpR_neg u v, cmpR_lt h]; rfl
theorem cmpR_eq (v : Rat) : cmpR v v = 0 := by unfold cmpR; rw [if_neg (by grind), if_pos rfl]
theorem cmpR_zero {v u : Rat} : cmpR v u = 0 ↔ v = u := by
  constructor
  · intro h
    unfold cmpR at h
    split at h
    · omega
    · split at h
      · assumption
      · omega
  · rintro rfl; exact cmpR_eq _
theorem cmpR_mul (v u t : Rat) : cmpR (v * t) (u * t) = cmpR v u * cmpR t 0 := by
  have hc : t < 0 ∨ t = 0 ∨ 0 < t := by grind
  have hd : v < u ∨ v = u ∨ u < v := by grind
  rcases hc with h | h | h
  · rw [cmpR_lt h]
    rcases hd with k | k | k
    · rw [cmpR_lt k]
      exact cmpR_gt (by have := Rat.mul_lt_mul_of_pos_right k (show 0 < -t by grind); grind)
    · subst k; rw [cmpR_eq, cmpR_eq]; rfl
    · rw [cmpR_gt k]
      exact cmpR_lt (by have := Rat.mul_lt_mul_of_pos_right k (show 0 < -t by grind); grind)
  · subst h; simp [cmpR_eq]
  · rw [cmpR_gt h]
    rcases hd with k | k | k
    · rw [cmpR_lt k]
      exact cmpR_lt (by have := Rat.mul_lt_mul_of_pos_right k h; grind)
    · subst k; rw [cmpR_eq, cmpR_eq]; rfl
    · rw [cmpR_gt k]
      exact cmpR_gt (by have := Rat.mul_lt_mul_of_pos_right k h; grind)
theorem fl_le (v : Rat) : ((v.num / (v.den : Int) : Int) : Rat) ≤ v := by
  have := Rat.floor_le v
  rwa [Rat.floor_def] at this
theorem fl_lt (v : Rat) : v < ((v.num / (v.den : Int) : Int) : Rat) + 1 := by
  have := Rat.lt_floor (x := v)
  rw [Rat.floor_def] at this
  grind

/-- the struct stands for the rational number v, perhaps not in its valid form -/
def IsQ (w : World) (g : Bool) (p : Option Addr) (n c : Nat) (q : Option Addr) (m d : Nat) (v : Rat) : Prop := ∃ (N : Int) (D : Nat), IsZ w g p n c N ∧ IsN w q m d D ∧ v = mkRat N D
theorem IsQ.keep {w w' : World} {g : Bool} {p q : Option Addr} {n c m d : Nat} {v : Rat} (h : IsQ w g p n c q m d v) (hg : w.grownBy w' none) : IsQ w' g p n c q m d v :=
  let ⟨N, D, h1, h2, h3⟩ := h; ⟨N, D, h1.keep hg, h2.keep hg, h3⟩
/-- it is the valid Rat of v -/
def IsV (w : World) (g : Bool) (p : Option Addr) (n c : Nat) (q : Option Addr) (m d : Nat) (v : Rat) : Prop := IsI w g p n c v.num ∧ IsC w q m d v.den
theorem IsV.keep {w w' : World} {g : Bool} {p q : Option Addr} {n c m d : Nat} {v : Rat} (h : IsV w g p n c q m d v) (hg : w.grownBy w' none) : IsV w' g p n c q m d v := ⟨h.1.keep hg, h.2.keep hg⟩
theorem IsV.q {w : World} {g : Bool} {p q : Option Addr} {n c m d : Nat} {v : Rat} (h : IsV w g p n c q m d v) : IsQ w g p n c q m d v := ⟨_, _, h.1.z, h.2.isN, (Rat.mkRat_self v).symm⟩
theorem IsV.congr {w : World} {g : Bool} {p q : Option Addr} {n c m d : Nat} {v u : Rat} (h : IsV w g p n c q m d v) (e : v = u) : IsV w g p n c q m d u := e ▸ h

/-- a valid Rat of v is returned -/
def VPost (w : World) (v : Rat) (B : Nat) (e : Ending) (w' : World) : Prop :=
  ∃ (g : Bool) (p : Option Addr) (n c : Nat) (q : Option Addr) (m d : Nat), e = .returned (.agg #[.bool g, .slice p n c, .slice q m d]) ∧ IsV w' g p n c q m d v ∧ n ≤ B ∧ m ≤ B ∧ w.grownBy w' none
theorem LPost.v {w w' : World} {X : Int} {Y n m B : Nat} {e : Ending} {v : Rat} (h : LPost w X Y n m e w') (e1 : X = v.num) (e2 : Y = v.den) (hn : n ≤ B) (hm : m ≤ B) : VPost w v B e w' := by
  obtain ⟨g, p, n', c, q, m', d, he, h1, h2, h3, h4, h5⟩ := h
  subst e1 e2
  exact ⟨g, p, n', c, q, m', d, he, ⟨h1, h2⟩, by omega, by omega, h5⟩

end Go.Proofs.Ytdmlcddieadelaa

set_option linter.unusedVariables false
set_option linter.unusedSimpArgs false
namespace Go.Proofs.Ytdmlcddieadelaa
open Go.RowKit Nm

theorem intbox_facts {w : World} {G : Nat} {x : Bool} {y : Option Addr} {a b : Nat} {T : TypeId} (hb : w.heap[G]? = some (.cells #[.bool x, .slice y a b] T (0, 0))) :
    w.cell? ⟨G, 0, none⟩ = some (.bool x) ∧ w.cell? ⟨G, 1, none⟩ = some (.slice y a b) ∧ w.frozen? ⟨G, 0, none⟩ = false ∧ w.frozen? ⟨G, 1, none⟩ = false := by
  have k0 := cell_of_row w G 0 _ _ _ hb
  have k1 := cell_of_row w G 1 _ _ _ hb
  simp at k0 k1
  exact ⟨k0, k1, frozen_of_row w G 0 _ _ hb, frozen_of_row w G 1 _ _ hb⟩

theorem VPost.close {w w5 : World} {G : Nat} {x : Bool} {y z : Option Addr} {a b e f : Nat} {T : TypeId} {g : Bool} {p q : Option Addr} {n c m d B : Nat} {v : Rat}
    (hW : w5.heap[G]? = some (.cells #[.bool x, .slice y a b, .slice z e f] T (0, 0))) (hG : w.heap.size ≤ G) (hg : w.grownBy w5 none) (h1 : IsV w5 g p n c q m d v) (hn : n ≤ B) (hm : m ≤ B) :
    VPost w v B (.returned (.agg #[.bool g, .slice p n c, .slice q m d])) (((w5.setCell ⟨G, 0, none⟩ (.bool g)).setCell ⟨G, 1, none⟩ (.slice p n c)).setCell ⟨G, 2, none⟩ (.slice q m d)) := by
  have hs := set3_grown w5 G (.bool g) (.slice p n c) (.slice q m d)
  exact ⟨g, p, n, c, q, m, d, rfl, ⟨⟨IsC.other3 h1.1.1 hW hs, h1.1.2⟩, h1.2.other3 hW hs⟩, hn, hm, grown_new hg hs (fun g e => by cases e; exact hG)⟩

theorem IsQ.opp {w : World} {g : Bool} {p q : Option Addr} {n c m d : Nat} {v : Rat} (h : IsQ w g p n c q m d v) : IsQ w (!g) p n c q m d (-v) := by
  obtain ⟨N, D, h1, h2, rfl⟩ := h
  refine ⟨-N, D, ⟨?_, ?_⟩, h2, Rat.neg_mkRat N D⟩
  · rw [Int.natAbs_neg]; exact h1.1
  · have := h1.2
    rw [Int.natAbs_neg, sg_not]
    omega



end Go.Proofs.Ytdmlcddieadelaa

set_option linter.unusedVariables false
set_option linter.unusedSimpArgs false
namespace Go.Proofs.Ytdmlcddieadelaa
open Go.RowKit Nm

/-- a struct of a bool and a slice, written -/
theorem set2_block {w : World} {G : Nat} {x : Bool} {y : Option Addr} {a b : Nat} {T : TypeId} (hb : w.heap[G]? = some (.cells #[.bool x, .slice y a b] T (0, 0))) (g : Bool) (p : Option Addr) (n c : Nat) :
    ((w.setCell ⟨G, 0, none⟩ (.bool g)).setCell ⟨G, 1, none⟩ (.slice p n c)).heap[G]? = some (.cells #[.bool g, .slice p n c] T (0, 0)) := by
  have h1 := heap_setCell_same w G 0 _ _ (.bool g) hb
  have h2 := heap_setCell_same _ G 1 _ _ (.slice p n c) h1
  rw [h2]
  simp
theorem set2_grown (w : World) (G : Nat) (a b : Value) : w.grownBy ((w.setCell ⟨G, 0, none⟩ a).setCell ⟨G, 1, none⟩ b) (some G) :=
  grown_trans (grown_setCell w ⟨G, 0, none⟩ a) (grown_setCell _ ⟨G, 1, none⟩ b)
theorem IsZ.of_n {w : World} {q : Option Addr} {m d D : Nat} (h : IsN w q m d D) : IsZ w false q m d (D : Int) := IsZ.mk false h

theorem sum_val {X N M : Int} {Y D E : Nat} (hY : 0 < Y) (h : mkRat X Y = mkRat N D) : mkRat (X * (pd E : Int) + pn M E * (Y : Int)) (Y * pd E) = mkRat N D + mkRat M E := by
  rw [← h, ← pq M E, Rat.mkRat_add_mkRat _ _ (by omega) (by have := pd_pos E; omega)]

end Go.Proofs.Ytdmlcddieadelaa

set_option linter.unusedVariables false
set_option linter.unusedSimpArgs false
namespace Go.Proofs.Ytdmlcddieadelaa
open Go.RowKit Nm

/-- a valid Rat of v and no error are returned -/
def MPost (w : World) (v : Rat) (B : Nat) (e : Ending) (w' : World) : Prop :=
  ∃ (g : Bool) (p : Option Addr) (n c : Nat) (q : Option Addr) (m d : Nat), e = .returned (.tuple #[.agg #[.bool g, .slice p n c, .slice q m d], .int .i64 0]) ∧ IsV w' g p n c q m d v ∧ n ≤ B ∧ m ≤ B ∧ w.grownBy w' none
/-- the zero Rat and an error are returned -/
def EPost (w : World) (x : Int) (e : Ending) (w' : World) : Prop := e = .returned (.tuple #[.agg #[.bool false, .slice none 0 0, .slice none 0 0], .int .i64 x]) ∧ w.grownBy w' none
theorem MPost.close {w w5 : World} {G : Nat} {x : Bool} {y z : Option Addr} {a b e f : Nat} {T : TypeId} {g : Bool} {p q : Option Addr} {n c m d B : Nat} {v : Rat}
    (hW : w5.heap[G]? = some (.cells #[.bool x, .slice y a b, .slice z e f] T (0, 0))) (hG : w.heap.size ≤ G) (hg : w.grownBy w5 none) (h1 : IsV w5 g p n c q m d v) (hn : n ≤ B) (hm : m ≤ B) :
    MPost w v B (.returned (.tuple #[.agg #[.bool g, .slice p n c, .slice q m d], .int .i64 0])) (((w5.setCell ⟨G, 0, none⟩ (.bool g)).setCell ⟨G, 1, none⟩ (.slice p n c)).setCell ⟨G, 2, none⟩ (.slice q m d)) := by
  have hs := set3_grown w5 G (.bool g) (.slice p n c) (.slice q m d)
  exact ⟨g, p, n, c, q, m, d, rfl, ⟨⟨IsC.other3 h1.1.1 hW hs, h1.1.2⟩, h1.2.other3 hW hs⟩, hn, hm, grown_new hg hs (fun g e => by cases e; exact hG)⟩
theorem EPost.close {w w5 : World} {G : Nat} (hG : w.heap.size ≤ G) (hg : w.grownBy w5 none) (x : Int) (a b c : Value) :
    EPost w x (.returned (.tuple #[.agg #[.bool false, .slice none 0 0, .slice none 0 0], .int .i64 x])) (((w5.setCell ⟨G, 0, none⟩ a).setCell ⟨G, 1, none⟩ b).setCell ⟨G, 2, none⟩ c) :=
  ⟨rfl, grown_new hg (set3_grown w5 G a b c) (fun g e => by cases e; exact hG)⟩


theorem IsQ.mk' {w : World} {g : Bool} {p q : Option Addr} {n c m d D : Nat} {N : Int} (h1 : IsZ w g p n c N) (h2 : IsN w q m d D) : IsQ w g p n c q m d (mkRat N D) := ⟨N, D, h1, h2, rfl⟩








end Go.Proofs.Ytdmlcddieadelaa

set_option linter.unusedVariables false
set_option linter.unusedSimpArgs false
namespace Go.Proofs.Ytdmlcddieadelaa
open Go.RowKit Nm


theorem IsI.sort {w : World} {g : Bool} {p : Option Addr} {n c : Nat} {Z : Int} (h : IsI w g p n c Z) :
    (n = 0 ∧ g = false ∧ cmpI Z 0 = 0) ∨ (0 < n ∧ g = true ∧ cmpI Z 0 = -1) ∨ (0 < n ∧ g = false ∧ cmpI Z 0 = 1) := by
  have hp := h.1.pos_len
  have hg := h.2
  rcases Int.lt_trichotomy Z 0 with h1 | h1 | h1
  · refine .inr (.inl ⟨?_, by rw [hg]; simpa using h1, by unfold cmpI; simp [h1]⟩)
    have : decide (0 < Z.natAbs) = true := by simp; omega
    rw [this] at hp; simpa using hp
  · subst h1
    refine .inl ⟨?_, by rw [hg]; rfl, rfl⟩
    simp at hp; omega
  · refine .inr (.inr ⟨?_, by rw [hg]; simp; omega, by unfold cmpI; simp [h1]; omega⟩)
    have : decide (0 < Z.natAbs) = true := by simp; omega
    rw [this] at hp; simpa using hp

theorem IsI.sgn {w : World} {g : Bool} {p : Option Addr} {n c : Nat} {Z : Int} (h : IsI w g p n c Z) : (g = true ∧ Z < 0) ∨ (g = false ∧ 0 ≤ Z) := by
  have hg := h.2
  by_cases h1 : Z < 0
  · exact .inl ⟨by rw [hg]; simpa using h1, h1⟩
  · exact .inr ⟨by rw [hg]; simpa using h1, by omega⟩

theorem boxed {w w1 : World} {G : Nat} {u v : Value} (hg : w.grownBy w1 none) (hG : w.heap.size ≤ G) : w.grownBy ((w1.setCell ⟨G, 0, none⟩ u).setCell ⟨G, 1, none⟩ v) none :=
  grown_new hg (grown_trans (grown_setCell w1 ⟨G, 0, none⟩ u) (grown_setCell _ ⟨G, 1, none⟩ v)) (fun g e => by cases e; exact hG)


/-- two integers are stored into two boxes, one after the other -/
theorem two_set {w w5 : World} {G G2 : Nat} {x x2 : Bool} {y y2 : Option Addr} {a b a2 b2 : Nat} {T T2 : TypeId} {g h : Bool} {p q : Option Addr} {n c m d : Nat} {Q R : Int}
    (hb : w5.heap[G]? = some (.cells #[.bool x, .slice y a b] T (0, 0))) (hb2 : w5.heap[G2]? = some (.cells #[.bool x2, .slice y2 a2 b2] T2 (0, 0))) (hG : w.heap.size ≤ G) (hG2 : w.heap.size ≤ G2) (hne : G2 ≠ G)
    (hg : w.grownBy w5 none) (h5 : IsI w5 g p n c Q) (h6 : IsI w5 h q m d R) :
    ∃ W, ((((w5.setCell ⟨G, 0, none⟩ (.bool g)).setCell ⟨G, 1, none⟩ (.slice p n c)).setCell ⟨G2, 0, none⟩ (.bool h)).setCell ⟨G2, 1, none⟩ (.slice q m d)) = W ∧
      IsI W g p n c Q ∧ IsI W h q m d R ∧ w.grownBy W none ∧ W.cell? ⟨G, 0, none⟩ = some (.bool g) ∧ W.cell? ⟨G, 1, none⟩ = some (.slice p n c) ∧ W.cell? ⟨G2, 0, none⟩ = some (.bool h) ∧ W.cell? ⟨G2, 1, none⟩ = some (.slice q m d) := by
  have k0 := cell_of_row w5 G 0 _ _ _ hb
  have k1 := cell_of_row w5 G 1 _ _ _ hb
  have k2 := cell_of_row w5 G2 0 _ _ _ hb2
  have k3 := cell_of_row w5 G2 1 _ _ _ hb2
  simp at k0 k1 k2 k3
  have hne2 : G ≠ G2 := fun e => hne e.symm
  have h56 : w5.grownBy ((w5.setCell ⟨G, 0, none⟩ (.bool g)).setCell ⟨G, 1, none⟩ (.slice p n c)) (some G) := grown_trans (grown_setCell _ _ _) (grown_setCell _ ⟨G, 1, none⟩ _)
  have hb3 := (h56.block G2 (lt_of_block hb2) (by simpa using hne)).trans hb2
  have h67 : ((w5.setCell ⟨G, 0, none⟩ (.bool g)).setCell ⟨G, 1, none⟩ (.slice p n c)).grownBy ((((w5.setCell ⟨G, 0, none⟩ (.bool g)).setCell ⟨G, 1, none⟩ (.slice p n c)).setCell ⟨G2, 0, none⟩ (.bool h)).setCell ⟨G2, 1, none⟩ (.slice q m d)) (some G2) := grown_trans (grown_setCell _ _ _) (grown_setCell _ ⟨G2, 1, none⟩ _)
  refine ⟨_, rfl, (h5.other hb h56).other hb3 h67, (h6.other hb h56).other hb3 h67, grown_new (grown_new hg h56 (fun g e => by cases e; exact hG)) h67 (fun g e => by cases e; exact hG2), ?_, ?_, ?_, ?_⟩
  all_goals simp [go_sem, *]

theorem rofat (x : Int) (N : Nat) (hx : x = (N : Int)) (hb : N < W64) (w : World) :
    Calls Try.prog 89 #[.int .u64 x] w fun e w' => ∃ p' n' c', e = .returned (.slice p' n' c') ∧ IsC w' p' n' c' N ∧ n' ≤ 4 ∧ w.grownBy w' none := by
  subst hx
  exact (refOf_any N hb w).mono fun e w' ⟨a, c, h1, h2, h3⟩ => ⟨a, _, c, h1, h2, dg_len4 hb, h3⟩



end Go.Proofs.Ytdmlcddieadelaa

set_option linter.unusedVariables false
set_option linter.unusedSimpArgs false
namespace Go.Proofs.Ytdmlcddieadelaa
open Go.RowKit Nm

theorem IsI.zero (w : World) : IsI w false none 0 0 0 := ⟨IsC.nil w, by simp⟩
theorem rn_zero : rn 0 1 = 0 := by unfold rn; simp [sg_zero]
theorem rd_zero : rd 0 1 = 1 := by unfold rd; simp


end Go.Proofs.Ytdmlcddieadelaa

set_option linter.unusedVariables false
set_option linter.unusedSimpArgs false
namespace Go.Proofs.Ytdmlcddieadelaa
open Go.RowKit Nm


end Go.Proofs.Ytdmlcddieadelaa

set_option linter.unusedVariables false
set_option linter.unusedSimpArgs false
namespace Go.Proofs.Ytdmlcddieadelaa
open Go.ChangeShapes Go.WideShapes Go.ChangeAt Go.RowKit Nm

theorem own1 : ownKnob Try.prog.godebug = none := by kernel_rfl
theorem laidOut1 : laidOutB Try.prog = true := by kernel_rfl
theorem cells16 : Try.prog.cellsOf 99 = 1 := by kernel_rfl
theorem readNat : Try.prog.readableRec 52 = true := by kernel_rfl
theorem rowNat : 52 < Try.prog.types.size := of_decide_eq_true (by kernel_rfl)

section
variable {H : Type} {enc : TypeId × Value → H} {W : World} {v : Value} {d : DataW H} {ps : List MemPlace}
set_option maxRecDepth 100000 in
theorem open_nat (hval : Value.okWide Try.prog W .any 0 52 v) (h0 : DataW.Trod enc Try.prog W 0 (fun _ => true) true 52 v d ps) :
    ∃ a n c xs, v = .slice a n c ∧ IRd W .u16 a n c xs ∧ Dg 65536 xs := by
  obtain ⟨a0, len, cap, rfl⟩ := okWide_slice Try.underlying52 hval
  obtain ⟨fuel, hf⟩ := h0
  refine ⟨a0, len, cap, ?_⟩
  rcases open_ints Try.underlying52 Try.underlying99 cells16 hf with ⟨hcs, hx⟩ | ⟨a, len', cap', zs, hcs, _, hl, hm, hz, hx, hcell, hwz⟩
  · simp [Value.cells] at hcs
    obtain ⟨rfl, rfl, rfl⟩ := hcs
    exact ⟨[], rfl, IRd.nil W _, Dg.nil⟩
  · simp [Value.cells] at hcs
    obtain ⟨rfl, rfl, rfl⟩ := hcs
    simp only [if_true] at hz
    have hb : ∀ z ∈ zs, 0 ≤ z ∧ z ≤ 65535 := fun z hzm => bounds_u16 (hwz z hzm)
    refine ⟨(zs.take len).map Int.toNat, rfl, ⟨by simp; omega, hl, by unfold maxLen at hm; omega, fun j hj => ?_⟩, fun x hx' => ?_⟩
    · have hj' : j < len := by simp at hj; omega
      have hc := hcell j (by omega)
      have hg : zs.getD j 0 = zs[j]'(by omega) := by simp [List.getD, List.getElem?_eq_getElem (show j < zs.length by omega)]
      have hsp := World.cell?_spot (hcell 0 (by omega))
      have ha : ∃ b o, a = ⟨b, o, none⟩ := ⟨a.block, a.off, by
        cases a with
        | mk b o s => simp [Addr.add] at hsp; simp [hsp]⟩
      obtain ⟨b, o, rfl⟩ := ha
      refine ⟨b, o, rfl, ?_⟩
      rw [add_addr] at hc
      rw [hc, hg]
      have := hb _ (List.getElem_mem (show j < zs.length by omega))
      simp only [List.getElem_map, List.getElem_take]
      congr 2; omega
    · obtain ⟨z, hz1, rfl⟩ := List.mem_map.1 hx'
      have := hb z (List.mem_of_mem_take hz1)
      omega
end
end Go.Proofs.Ytdmlcddieadelaa

set_option linter.unusedVariables false
set_option linter.unusedSimpArgs false
namespace Go.Proofs.Ytdmlcddieadelaa
open Go.ChangeShapes Go.WideShapes Go.ChangeAt Go.RowKit Nm

theorem readInt : Try.prog.readableRec 54 = true := by kernel_rfl
theorem rowInt : 54 < Try.prog.types.size := of_decide_eq_true (by kernel_rfl)
theorem cellsInt : Try.prog.cellsOf 54 = 2 := by kernel_rfl
theorem cellsNat : Try.prog.cellsOf 52 = 1 := by kernel_rfl
theorem cellsBool : Try.prog.cellsOf 4 = 1 := by kernel_rfl

section
variable {H : Type} {enc : TypeId × Value → H} {W : World} {v : Value} {d : DataW H} {ps : List MemPlace}
set_option maxRecDepth 100000 in
theorem open_natcs {fuel : Nat} {cs : List Value} {x : DataW H × List MemPlace} (hf : DataW.trod enc Try.prog W 0 (fun _ => true) true fuel 52 cs = some x) :
    ∃ a n c xs, cs = [.slice a n c] ∧ IRd W .u16 a n c xs ∧ Dg 65536 xs := by
  rcases open_ints Try.underlying52 Try.underlying99 cells16 hf with ⟨hcs, hx⟩ | ⟨a, len', cap', zs, hcs, _, hl, hm, hz, hx, hcell, hwz⟩
  · exact ⟨none, 0, 0, [], hcs, IRd.nil W _, Dg.nil⟩
  · simp only [if_true] at hz
    have hb : ∀ z ∈ zs, 0 ≤ z ∧ z ≤ 65535 := fun z hzm => bounds_u16 (hwz z hzm)
    refine ⟨some a, len', cap', (zs.take len').map Int.toNat, hcs, ⟨by simp; omega, hl, by unfold maxLen at hm; omega, fun j hj => ?_⟩, fun x hx' => ?_⟩
    · have hj' : j < len' := by simp at hj; omega
      have hc := hcell j (by omega)
      have hg : zs.getD j 0 = zs[j]'(by omega) := by simp [List.getD, List.getElem?_eq_getElem (show j < zs.length by omega)]
      have hsp := World.cell?_spot (hcell 0 (by omega))
      have ha : ∃ b o, a = ⟨b, o, none⟩ := ⟨a.block, a.off, by
        cases a with
        | mk b o s => simp [Addr.add] at hsp; simp [hsp]⟩
      obtain ⟨b, o, rfl⟩ := ha
      refine ⟨b, o, rfl, ?_⟩
      rw [add_addr] at hc
      rw [hc, hg]
      have := hb _ (List.getElem_mem (show j < zs.length by omega))
      simp only [List.getElem_map, List.getElem_take]
      congr 2; omega
    · obtain ⟨z, hz1, rfl⟩ := List.mem_map.1 hx'
      have := hb z (List.mem_of_mem_take hz1)
      omega

set_option maxRecDepth 100000 in
theorem open_Int (hval : Value.okWide Try.prog W .any 0 54 v) (h0 : DataW.Trod enc Try.prog W 0 (fun _ => true) true 54 v d ps) :
    ∃ g a n c xs, v = .agg #[.bool g, .slice a n c] ∧ IRd W .u16 a n c xs ∧ Dg 65536 xs := by
  obtain ⟨cs, rfl, hsz⟩ := okWide_struct Try.underlying54 hval
  obtain ⟨fuel, hf⟩ := h0
  obtain ⟨y0, y1, k, hx, hl, h0, h1⟩ := trod_struct2 Try.underlying54 hf
  rw [cellsInt] at hl
  obtain ⟨b, hb, _⟩ := DataW.trod_bool Try.underlying4 h0
  obtain ⟨a, n, c, xs, hs, hr, hd⟩ := open_natcs h1
  rw [cellsBool] at hb
  rw [cellsNat] at hs
  refine ⟨b, a, n, c, xs, ?_, hr, hd⟩
  simp only [Value.cells] at hl hb hs
  obtain ⟨l⟩ := cs
  match l, hl with
  | [u, v], _ =>
    simp at hb hs
    rw [hb, hs]
end
end Go.Proofs.Ytdmlcddieadelaa

set_option linter.unusedVariables false
set_option linter.unusedSimpArgs false
namespace Go.Proofs.Ytdmlcddieadelaa
open Go.ChangeShapes Go.WideShapes Go.ChangeAt Go.RowKit Nm

theorem readRat : Try.prog.readableRec 56 = true := by kernel_rfl
theorem rowRat : 56 < Try.prog.types.size := of_decide_eq_true (by kernel_rfl)
theorem cellsRat : Try.prog.cellsOf 56 = 3 := by kernel_rfl

section
variable {H : Type} {enc : TypeId × Value → H} {W : World} {v : Value} {d : DataW H} {ps : List MemPlace}
set_option maxRecDepth 100000 in
theorem open_Intcs {fuel : Nat} {cs : List Value} {x : DataW H × List MemPlace} (hf : DataW.trod enc Try.prog W 0 (fun _ => true) true fuel 54 cs = some x) (hl : cs.length = 2) :
    ∃ g a n c xs, cs = [.bool g, .slice a n c] ∧ IRd W .u16 a n c xs ∧ Dg 65536 xs := by
  obtain ⟨y0, y1, k, hx, _, h0, h1⟩ := trod_struct2 Try.underlying54 hf
  obtain ⟨b, hb, _⟩ := DataW.trod_bool Try.underlying4 h0
  obtain ⟨a, n, c, xs, hs, hr, hd⟩ := open_natcs h1
  rw [cellsBool] at hb
  rw [cellsNat] at hs
  refine ⟨b, a, n, c, xs, ?_, hr, hd⟩
  match cs, hl with
  | [u, v], _ =>
    simp at hb hs
    rw [hb, hs]

set_option maxRecDepth 100000 in
theorem open_Rat (hval : Value.okWide Try.prog W .any 0 56 v) (h0 : DataW.Trod enc Try.prog W 0 (fun _ => true) true 56 v d ps) :
    ∃ g a n c xs b m e ys, v = .agg #[.bool g, .slice a n c, .slice b m e] ∧ IRd W .u16 a n c xs ∧ Dg 65536 xs ∧ IRd W .u16 b m e ys ∧ Dg 65536 ys := by
  obtain ⟨cs, rfl, hsz⟩ := okWide_struct Try.underlying56 hval
  obtain ⟨fuel, hf⟩ := h0
  obtain ⟨y0, y1, k, hx, hl, h0, h1⟩ := trod_struct2 Try.underlying56 hf
  rw [cellsRat] at hl
  rw [cellsInt] at h0
  simp only [Value.cells] at hl h0 h1
  obtain ⟨l⟩ := cs
  match l, hl with
  | [u, v, t], _ =>
    obtain ⟨g, a, n, c, xs, hs, hr, hd⟩ := open_Intcs h0 (by simp)
    obtain ⟨b, m, e, ys, hs1, hr1, hd1⟩ := open_natcs h1
    rw [cellsNat] at hs1
    simp at hs hs1
    refine ⟨g, a, n, c, xs, b, m, e, ys, ?_, hr, hd, hr1, hd1⟩
    obtain ⟨rfl, rfl⟩ := hs
    rw [hs1]
end
end Go.Proofs.Ytdmlcddieadelaa

set_option linter.unusedVariables false
set_option linter.unusedSimpArgs false
namespace Go.Proofs.Ytdmlcddieadelaa
open Go.ChangeShapes Go.WideShapes Go.ChangeAt Go.RowKit Nm

end Go.Proofs.Ytdmlcddieadelaa

set_option linter.unusedVariables false
set_option linter.unusedSimpArgs false
namespace Go.Proofs.Ytdmlcddieadelaa
open Go.RowKit Nm

theorem floor_q {N : Int} {D : Nat} (hD : 0 < D) : N / (D : Int) = (mkRat N D).floor := by
  have hD' : (0 : Rat) < (D : Rat) := Rat.natCast_pos.2 hD
  have key : ∀ z : Int, z ≤ N / (D : Int) ↔ z ≤ (mkRat N D).floor := by
    intro z
    rw [Int.le_ediv_iff_mul_le (by omega), Rat.le_floor_iff, Rat.mkRat_eq_div, ← Rat.not_lt (a := (N : Rat) / (D : Rat)), Rat.div_lt_iff hD', Rat.not_lt, ← Rat.intCast_le_intCast, Rat.intCast_mul, Rat.intCast_natCast]
  have h1 := (key (N / (D : Int))).1 (Int.le_refl _)
  have h2 := (key (mkRat N D).floor).2 (Int.le_refl _)
  omega

theorem IsQ.of {w : World} {a b : Option Addr} {n c m d : Nat} {xs ys : List Nat} (g : Bool) (h : IRd w .u16 a n c xs) (hx : Dg 65536 xs) (k : IRd w .u16 b m d ys) (hy : Dg 65536 ys) : IsQ w g a n c b m d (mkRat (sg g (V 65536 xs)) (V 65536 ys)) :=
  ⟨_, _, IsZ.of g h hx, IsN.of k hy, rfl⟩
theorem IsV.of_int {w : World} {g : Bool} {p q : Option Addr} {n c m d : Nat} {Z : Int} (h : IsI w g p n c Z) (k : IsC w q m d 1) : IsV w g p n c q m d (Z : Rat) := ⟨by rw [Rat.num_intCast]; exact h, by rw [Rat.den_intCast]; exact k⟩
theorem cmpR_bd (v u : Rat) : -1 ≤ cmpR v u ∧ cmpR v u ≤ 1 := by rcases cmpR_bound v u with h | h | h <;> omega
theorem wrap_sg1 {x : Int} (hx : -1 ≤ x ∧ x ≤ 1) : IntKind.i64.wrap x = x := by
  obtain rfl | rfl | rfl : x = -1 ∨ x = 0 ∨ x = 1 := by omega
  all_goals decide
theorem wrap_sg2 {x y : Int} (hx : -1 ≤ x ∧ x ≤ 1) (hy : -1 ≤ y ∧ y ≤ 1) : IntKind.i64.wrap (x * y) = x * y := by
  obtain rfl | rfl | rfl : x = -1 ∨ x = 0 ∨ x = 1 := by omega
  all_goals obtain rfl | rfl | rfl : y = -1 ∨ y = 0 ∨ y = 1 := by omega
  all_goals decide
theorem eq_cmpR (v u : Rat) : decide (v = u) = (cmpR v u == 0) := by
  by_cases h : v = u
  · rw [decide_eq_true h, cmpR_zero.2 h]; rfl
  · rw [decide_eq_false h]; exact (beq_eq_false_iff_ne.2 (fun k => h (cmpR_zero.1 k))).symm

end Go.Proofs.Ytdmlcddieadelaa

set_option linter.unusedVariables false
set_option linter.unusedSimpArgs false
namespace Go.Proofs.Ytdmlcddieadelaa
open Go.RowKit Nm


set_option maxHeartbeats 1000000 in
theorem same_ne (a b : Option Addr) (n c d : Nat) (xs ys : List Nat) (w : World) (h : IRd w .u16 a n c xs) (k : IRd w .u16 b n d ys) (hne : xs ≠ ys) :
    Calls Try.prog 87 #[.slice a n c, .slice b n d] w fun e w' => e = .returned (.bool false) ∧ w.grownBy w' none := by
  have hmax := h.max
  have hcap := h.cap
  have HL := hid h.len
  have HK := hid k.len
  have HN := hid hne
  clear hne
  go_enter Try.func87, Try.ntmps87
  go_wp2_with fail
  go_loopw [5] (fun i wr => ∃ j : Nat, j ≤ n ∧ i = .int .i64 j ∧ w.grownBy wr none ∧ Hid (∀ l, l < j → xs[l]? = ys[l]?)) (fun i _ => n - (intOf i).toNat)
  case atStart => exact ⟨0, Nat.zero_le _, rfl, grown_refl _ _, hid fun l h => by omega⟩
  case round =>
    obtain ⟨i, hi, rfl, hgr, HE⟩ := hrel
    by_cases hlt : i < n
    · have hiu : i < xs.length := by rw [HL.out]; exact hlt
      have hiv : i < ys.length := by rw [HK.out]; exact hlt
      obtain ⟨b1, o1, rfl, hc1⟩ := h.cel i hiu
      obtain ⟨b2, o2, rfl, hc2⟩ := k.cel i hiv
      have hd1 := hgr.cell hc1 (by simp)
      have hd2 := hgr.cell hc2 (by simp)
      have e1 := hid (show xs[i]? = some xs[i] by simp [hiu])
      have e2 := hid (show ys[i]? = some ys[i] by simp [hiv])
      generalize xs[i] = x at *
      generalize ys[i] = y at *
      clear hc1 hc2
      have hi0 : (0 : Int) ≤ (i : Int) := by omega
      have hil : (i : Int) < (n : Int) := by omega
      by_cases hxy : x = y
      · subst hxy
        go_wp2
        go_quiet (fail)
        go_wp2
        refine ⟨⟨i + 1, by omega, rfl, gdN hgr _, hid fun l hl => ?_⟩, by simp [intOf]; omega⟩
        by_cases e : l = i
        · subst e; rw [e1.out, e2.out]
        · exact HE.out l (by omega)
      · have hb : (((x : Int) != (y : Int)) = true) := by simp; omega
        go_wp2
        go_quiet (fail)
        go_wp2
        go_ret
        exact ⟨rfl, gdN hgr _⟩
    · obtain rfl : i = n := by omega
      exact absurd (List.ext_getElem? fun l => by
        by_cases hl : l < i
        · exact HE.out l hl
        · rw [List.getElem?_eq_none (by have := HL.out; omega), List.getElem?_eq_none (by have := HK.out; omega)]) HN.out

theorem same_d {w : World} {p q : Option Addr} {n c m d N M : Nat} (hA : IsC w p n c N) (hB : IsC w q m d M) :
    Calls Try.prog 87 #[.slice p n c, .slice q m d] w fun e w' => e = .returned (.bool (decide (N = M))) ∧ w.grownBy w' none := by
  by_cases e : N = M
  · rw [decide_eq_true e]; exact same_c hA hB e
  rw [decide_eq_false e]
  by_cases hl : n = m
  · subst hl
    refine same_ne p q n c d _ _ w hA hB (fun h => e ?_)
    rw [← V_dg (B := 65536) (by omega) N, h, V_dg (by omega)]
  · have hmax := IRd.max hA
    have hmax2 := IRd.max hB
    have t0 : (((n : Int) != (m : Int)) = true) := by simp; omega
    go_enter Try.func87, Try.ntmps87
    go_wp2
    go_ret
    exact ⟨rfl, grown_refl _ _⟩

end Go.Proofs.Ytdmlcddieadelaa

set_option linter.unusedVariables false
set_option linter.unusedSimpArgs false
namespace Go.Proofs.Ytdmlcddieadelaa
open Go.RowKit Nm

theorem Can_of_top {xs : List Nat} (hx : Dg 65536 xs) {top : Nat} (htl : top < xs.length) (hl : xs.length = top + 1) (h : xs[top] ≠ 0) : Nm.Can 65536 xs := by
  rw [show xs = trimR xs from ?_]
  · exact Can_trimR hx
  · have e : xs = xs.take top ++ [xs[top]] := by
      rw [← List.take_succ_eq_append_getElem htl, List.take_of_length_le (by omega)]
    rw [e, trimR_snoc h]
theorem IsC.of_top {w : World} {p : Option Addr} {c : Nat} {xs : List Nat} {top : Nat} (hA : IRd w .u16 p (top + 1) c xs) (hx : Dg 65536 xs) (htl : top < xs.length) (hl : xs.length = top + 1) (h : xs[top] ≠ 0) : IsC w p (top + 1) c (V 65536 xs) := by
  have := eq_dg (B := 65536) (by omega) (Can_of_top hx htl hl h)
  unfold IsC
  rw [← this]
  exact hA
theorem IsI.of_top {w : World} {g : Bool} {p : Option Addr} {c : Nat} {xs : List Nat} {top : Nat} (hA : IRd w .u16 p (top + 1) c xs) (hx : Dg 65536 xs) (htl : top < xs.length) (hl : xs.length = top + 1) (h : xs[top] ≠ 0) : IsI w g p (top + 1) c (sg g (V 65536 xs)) := by
  have hC := IsC.of_top hA hx htl hl h
  have hp : 0 < V 65536 xs := by
    rcases hC.zero_len with ⟨h1, _⟩ | ⟨_, h1⟩
    · omega
    · exact h1
  refine ⟨by rw [sg_abs]; exact hC, ?_⟩
  rw [sg_neg, decide_eq_true hp]
  simp
theorem IsV.of_cop {w : World} {g : Bool} {p q : Option Addr} {n c m d D : Nat} {N : Int} (h1 : IsI w g p n c N) (h2 : IsC w q m d D) (hD : 0 < D) (hg : Nat.gcd N.natAbs D = 1) : IsV w g p n c q m d (mkRat N D) :=
  ⟨by rw [← rn_q hD, rn_one hg]; exact h1, by rw [← rd_q hD, rd_one hg]; exact h2⟩
set_option maxRecDepth 20000 in
set_option maxHeartbeats 4000000 in
theorem refRight_f1 {w : World} {g1 : Bool} {p1 q1 : Option Addr} {n1 c1 m1 d1 : Nat} (H1 : ∀ W, w.grownBy W none → Calls Try.prog 85 #[.agg #[.bool g1, .slice p1 n1 c1]] W fun e w' => e = .returned (.bool false) ∧ W.grownBy w' none) :
    Calls Try.prog 55 #[.agg #[.bool g1, .slice p1 n1 c1, .slice q1 m1 d1]] w fun e w' => e = .returned (.bool false) ∧ w.grownBy w' none := by
  have HH1 := hid H1
  clear H1
  have hW := (World.grownBy_alloc w (.cells #[.bool g1, .slice p1 n1 c1, .slice q1 m1 d1] 56) none)
  have bx0 : (w.alloc (.cells #[.bool g1, .slice p1 n1 c1, .slice q1 m1 d1] 56)).heap[w.heap.size]? = some (.cells #[.bool g1, .slice p1 n1 c1, .slice q1 m1 d1] 56 (0, 0)) := by
    have := heap_alloc_new w (.cells #[.bool g1, .slice p1 n1 c1, .slice q1 m1 d1] 56)
    simpa using this
  obtain ⟨x0, x1, x2, _, _, _⟩ := ratbox_facts bx0
  clear bx0
  skip
  go_enter Try.func55, Try.ntmps55
  go_wp2_with fail
  generalize (w.alloc (.cells #[.bool g1, .slice p1 n1 c1, .slice q1 m1 d1] 56)) = w0 at *
  refine (HH1.out _ hW).mono ?_
  rintro ee v1 ⟨rfl, hg⟩
  replace x0 := hg.cell x0 (by simp); replace x1 := hg.cell x1 (by simp); replace x2 := hg.cell x2 (by simp); replace hW := grown_trans hW hg
  clear hg
  go_wp2_with fail
  go_ret
  exact ⟨rfl, hW⟩

set_option maxRecDepth 20000 in
set_option maxHeartbeats 4000000 in
theorem refRight_f2 {w : World} {g1 : Bool} {p1 q1 : Option Addr} {n1 c1 m1 d1 : Nat} (H1 : ∀ W, w.grownBy W none → Calls Try.prog 85 #[.agg #[.bool g1, .slice p1 n1 c1]] W fun e w' => e = .returned (.bool true) ∧ W.grownBy w' none) (H2 : ∀ W, w.grownBy W none → Calls Try.prog 86 #[.slice q1 m1 d1] W fun e w' => e = .returned (.bool false) ∧ W.grownBy w' none) :
    Calls Try.prog 55 #[.agg #[.bool g1, .slice p1 n1 c1, .slice q1 m1 d1]] w fun e w' => e = .returned (.bool false) ∧ w.grownBy w' none := by
  have HH1 := hid H1
  have HH2 := hid H2
  clear H1 H2
  have hW := (World.grownBy_alloc w (.cells #[.bool g1, .slice p1 n1 c1, .slice q1 m1 d1] 56) none)
  have bx0 : (w.alloc (.cells #[.bool g1, .slice p1 n1 c1, .slice q1 m1 d1] 56)).heap[w.heap.size]? = some (.cells #[.bool g1, .slice p1 n1 c1, .slice q1 m1 d1] 56 (0, 0)) := by
    have := heap_alloc_new w (.cells #[.bool g1, .slice p1 n1 c1, .slice q1 m1 d1] 56)
    simpa using this
  obtain ⟨x0, x1, x2, _, _, _⟩ := ratbox_facts bx0
  clear bx0
  skip
  go_enter Try.func55, Try.ntmps55
  go_wp2_with fail
  generalize (w.alloc (.cells #[.bool g1, .slice p1 n1 c1, .slice q1 m1 d1] 56)) = w0 at *
  refine (HH1.out _ hW).mono ?_
  rintro ee v1 ⟨rfl, hg⟩
  replace x0 := hg.cell x0 (by simp); replace x1 := hg.cell x1 (by simp); replace x2 := hg.cell x2 (by simp); replace hW := grown_trans hW hg
  clear hg
  go_wp2_with fail
  refine (HH2.out _ hW).mono ?_
  rintro ee v2 ⟨rfl, hg⟩
  replace x0 := hg.cell x0 (by simp); replace x1 := hg.cell x1 (by simp); replace x2 := hg.cell x2 (by simp); replace hW := grown_trans hW hg
  clear hg
  go_wp2_with fail
  go_ret
  exact ⟨rfl, hW⟩

set_option maxRecDepth 20000 in
set_option maxHeartbeats 4000000 in
theorem refRight_f3 {w : World} {g1 : Bool} {p1 q1 : Option Addr} {n1 c1 d1 : Nat} {N : Int} {b : Bool} (H1 : ∀ W, w.grownBy W none → Calls Try.prog 85 #[.agg #[.bool g1, .slice p1 n1 c1]] W fun e w' => e = .returned (.bool true) ∧ W.grownBy w' none) (H2 : ∀ W, w.grownBy W none → Calls Try.prog 86 #[.slice q1 0 d1] W fun e w' => e = .returned (.bool true) ∧ W.grownBy w' none) (hA : IsZ w g1 p1 n1 c1 N) (hE : IsN w q1 0 d1 0) (hb : decide (Nat.gcd N.natAbs 0 = 1) = b) (hn1 : n1 ≤ 9000000) :
    Calls Try.prog 55 #[.agg #[.bool g1, .slice p1 n1 c1, .slice q1 0 d1]] w fun e w' => e = .returned (.bool false) ∧ w.grownBy w' none := by
  have HH1 := hid H1
  have HH2 := hid H2
  have HB := hid hb
  clear H1 H2 hb
  cases b
  all_goals
    have hW := (World.grownBy_alloc w (.cells #[.bool g1, .slice p1 n1 c1, .slice q1 0 d1] 56) none)
    have bx0 : (w.alloc (.cells #[.bool g1, .slice p1 n1 c1, .slice q1 0 d1] 56)).heap[w.heap.size]? = some (.cells #[.bool g1, .slice p1 n1 c1, .slice q1 0 d1] 56 (0, 0)) := by
      have := heap_alloc_new w (.cells #[.bool g1, .slice p1 n1 c1, .slice q1 0 d1] 56)
      simpa using this
    obtain ⟨x0, x1, x2, _, _, _⟩ := ratbox_facts bx0
    clear bx0
    replace hA := hA.keep hW; replace hE := hE.keep hW
    go_enter Try.func55, Try.ntmps55
    go_wp2_with fail
    generalize (w.alloc (.cells #[.bool g1, .slice p1 n1 c1, .slice q1 0 d1] 56)) = w0 at *
    refine (HH1.out _ hW).mono ?_
    rintro ee v1 ⟨rfl, hg⟩
    replace hA := hA.keep hg; replace hE := hE.keep hg; replace x0 := hg.cell x0 (by simp); replace x1 := hg.cell x1 (by simp)
    replace x2 := hg.cell x2 (by simp); replace hW := grown_trans hW hg
    clear hg
    go_wp2_with fail
    refine (HH2.out _ hW).mono ?_
    rintro ee v2 ⟨rfl, hg⟩
    replace hA := hA.keep hg; replace hE := hE.keep hg; replace x0 := hg.cell x0 (by simp); replace x1 := hg.cell x1 (by simp)
    replace x2 := hg.cell x2 (by simp); replace hW := grown_trans hW hg
    clear hg
    go_wp2_with fail
    refine (refGcd_n hA.1 hE (by omega) (by omega)).mono ?_
    rintro ee v3 ⟨p3, n3, c3, rfl, hX, hn3, hg⟩
    replace hA := hA.keep hg; replace hE := hE.keep hg; replace x0 := hg.cell x0 (by simp); replace x1 := hg.cell x1 (by simp)
    replace x2 := hg.cell x2 (by simp); replace hW := grown_trans hW hg
    clear hg
    go_wp2_with fail
    refine (refOf_c 1 (by unfold W64; omega) _).mono ?_
    rintro ee v4 ⟨p4, n4, c4, rfl, hY, hn4, hg⟩
    replace hA := hA.keep hg; replace hE := hE.keep hg; replace hX := hX.keep hg; replace x0 := hg.cell x0 (by simp)
    replace x1 := hg.cell x1 (by simp); replace x2 := hg.cell x2 (by simp); replace hW := grown_trans hW hg
    clear hg
    go_wp2_with fail
    refine (same_d hX hY).mono ?_
    rintro ee v5 ⟨rfl, hg⟩
    rw [HB.out]
    replace hA := hA.keep hg; replace hE := hE.keep hg; replace hX := hX.keep hg; replace hY := hY.keep hg
    replace x0 := hg.cell x0 (by simp); replace x1 := hg.cell x1 (by simp); replace x2 := hg.cell x2 (by simp); replace hW := grown_trans hW hg
    clear hg
    go_wp2_with fail
    go_ret
    exact ⟨rfl, hW⟩

set_option maxRecDepth 20000 in
set_option maxHeartbeats 4000000 in
theorem refRight_g {w : World} {g1 : Bool} {p1 q1 : Option Addr} {n1 c1 m1 d1 : Nat} {N : Int} {D : Nat} {b : Bool} (H1 : ∀ W, w.grownBy W none → Calls Try.prog 85 #[.agg #[.bool g1, .slice p1 n1 c1]] W fun e w' => e = .returned (.bool true) ∧ W.grownBy w' none) (H2 : ∀ W, w.grownBy W none → Calls Try.prog 86 #[.slice q1 m1 d1] W fun e w' => e = .returned (.bool true) ∧ W.grownBy w' none) (hA : IsZ w g1 p1 n1 c1 N) (hE : IsN w q1 m1 d1 D) (h0 : 0 < m1) (hb : decide (Nat.gcd N.natAbs D = 1) = b) (hn1 : n1 ≤ 9000000) (hm1 : m1 ≤ 9000000) :
    Calls Try.prog 55 #[.agg #[.bool g1, .slice p1 n1 c1, .slice q1 m1 d1]] w fun e w' => e = .returned (.bool b) ∧ w.grownBy w' none := by
  have HH1 := hid H1
  have HH2 := hid H2
  have HB := hid hb
  have h1 : (0 : Int) < (m1 : Int) := by omega
  clear H1 H2 hb
  cases b
  all_goals
    have hW := (World.grownBy_alloc w (.cells #[.bool g1, .slice p1 n1 c1, .slice q1 m1 d1] 56) none)
    have bx0 : (w.alloc (.cells #[.bool g1, .slice p1 n1 c1, .slice q1 m1 d1] 56)).heap[w.heap.size]? = some (.cells #[.bool g1, .slice p1 n1 c1, .slice q1 m1 d1] 56 (0, 0)) := by
      have := heap_alloc_new w (.cells #[.bool g1, .slice p1 n1 c1, .slice q1 m1 d1] 56)
      simpa using this
    obtain ⟨x0, x1, x2, _, _, _⟩ := ratbox_facts bx0
    clear bx0
    replace hA := hA.keep hW; replace hE := hE.keep hW
    go_enter Try.func55, Try.ntmps55
    go_wp2_with fail
    generalize (w.alloc (.cells #[.bool g1, .slice p1 n1 c1, .slice q1 m1 d1] 56)) = w0 at *
    refine (HH1.out _ hW).mono ?_
    rintro ee v1 ⟨rfl, hg⟩
    replace hA := hA.keep hg; replace hE := hE.keep hg; replace x0 := hg.cell x0 (by simp); replace x1 := hg.cell x1 (by simp)
    replace x2 := hg.cell x2 (by simp); replace hW := grown_trans hW hg
    clear hg
    go_wp2_with fail
    refine (HH2.out _ hW).mono ?_
    rintro ee v2 ⟨rfl, hg⟩
    replace hA := hA.keep hg; replace hE := hE.keep hg; replace x0 := hg.cell x0 (by simp); replace x1 := hg.cell x1 (by simp)
    replace x2 := hg.cell x2 (by simp); replace hW := grown_trans hW hg
    clear hg
    go_wp2_with fail
    refine (refGcd_n hA.1 hE (by omega) (by omega)).mono ?_
    rintro ee v3 ⟨p3, n3, c3, rfl, hX, hn3, hg⟩
    replace hA := hA.keep hg; replace hE := hE.keep hg; replace x0 := hg.cell x0 (by simp); replace x1 := hg.cell x1 (by simp)
    replace x2 := hg.cell x2 (by simp); replace hW := grown_trans hW hg
    clear hg
    go_wp2_with fail
    refine (refOf_c 1 (by unfold W64; omega) _).mono ?_
    rintro ee v4 ⟨p4, n4, c4, rfl, hY, hn4, hg⟩
    replace hA := hA.keep hg; replace hE := hE.keep hg; replace hX := hX.keep hg; replace x0 := hg.cell x0 (by simp)
    replace x1 := hg.cell x1 (by simp); replace x2 := hg.cell x2 (by simp); replace hW := grown_trans hW hg
    clear hg
    go_wp2_with fail
    refine (same_d hX hY).mono ?_
    rintro ee v5 ⟨rfl, hg⟩
    rw [HB.out]
    replace hA := hA.keep hg; replace hE := hE.keep hg; replace hX := hX.keep hg; replace hY := hY.keep hg
    replace x0 := hg.cell x0 (by simp); replace x1 := hg.cell x1 (by simp); replace x2 := hg.cell x2 (by simp); replace hW := grown_trans hW hg
    clear hg
    go_wp2_with fail
    go_ret
    exact ⟨rfl, hW⟩

end Go.Proofs.Ytdmlcddieadelaa

set_option linter.unusedVariables false
set_option linter.unusedSimpArgs false
namespace Go.Proofs.Ytdmlcddieadelaa
open Go.RowKit Nm
set_option maxRecDepth 20000 in
set_option maxHeartbeats 4000000 in
theorem right_full_r {w : World} (g : Bool) {p : Option Addr} {n c : Nat} {xs : List Nat} (hA : IRd w .u16 p n c xs) (hx : Dg 65536 xs) :
    ∃ v : Bool, (∀ W, w.grownBy W none → Calls Try.prog 85 #[.agg #[.bool g, .slice p n c]] W fun e w' => e = .returned (.bool v) ∧ W.grownBy w' none) ∧
      (v = true → IsI w g p n c (sg g (V 65536 xs))) := by
  have hmax := hA.max
  have hcap := hA.cap
  by_cases h0 : n = 0
  · subst h0
    have hnil : xs = [] := List.eq_nil_of_length_eq_zero hA.len
    refine ⟨!g, fun W hW => ?_, fun h => ?_⟩
    rotate_left 1
    · subst hnil
      have hg : g = false := by simpa using h
      subst hg
      exact ⟨hA, by simp [sg]⟩
    · have hgb := World.grownBy_alloc W (.cells #[.bool g, .slice p 0 c] 54) none
      clear hW
      cases g
      all_goals
        go_enter Try.func85, Try.ntmps85
        go_wp2
        go_ret
        exact ⟨rfl, hgb⟩
  · obtain ⟨top, rfl⟩ : ∃ top, n = top + 1 := ⟨n - 1, by omega⟩
    have hlen := hA.len
    have htl : top < xs.length := by omega
    have hcan : xs[top] ≠ 0 → IsI w g p (top + 1) c (sg g (V 65536 xs)) := fun h => IsI.of_top hA hx htl hlen h
    obtain ⟨b, o, rfl, hc⟩ := IRd.cel hA top htl
    have hb := World.block_lt_of_cell? _ _ hc
    obtain ⟨t, ht⟩ : ∃ t, t = xs[top] := ⟨_, rfl⟩
    rw [← ht] at hc hcan
    clear ht h0 hlen hA
    by_cases h0 : t = 0
    · subst h0
      refine ⟨false, fun W hW => ?_, fun h => by cases h⟩
      · have hgb := World.grownBy_alloc W (.cells #[.bool g, .slice (some ⟨b, o, none⟩) (top + 1) c] 54) none
        have hc2 := hgb.cell (hW.cell hc (by simp)) (by simp)
        clear hW hc hb
        go_enter Try.func85, Try.ntmps85
        go_wp2
        go_ret
        exact ⟨rfl, hgb⟩
    · have hne : (((t : Int) != 0) = true) := by simp; omega
      have hcan2 := hid (hcan h0)
      clear h0 hcan
      refine ⟨true, fun W hW => ?_, fun _ => hcan2.out⟩
      · have hgb := World.grownBy_alloc W (.cells #[.bool g, .slice (some ⟨b, o, none⟩) (top + 1) c] 54) none
        have hc2 := hgb.cell (hW.cell hc (by simp)) (by simp)
        clear hW hc hb
        cases g
        all_goals
          go_enter Try.func85, Try.ntmps85
          go_wp2
          go_ret
          exact ⟨rfl, hgb⟩
set_option maxRecDepth 20000 in
set_option maxHeartbeats 4000000 in
theorem valid_full_r {w : World} {p : Option Addr} {n c : Nat} {xs : List Nat} (hA : IRd w .u16 p n c xs) (hx : Dg 65536 xs) :
    ∃ v : Bool, (∀ W, w.grownBy W none → Calls Try.prog 86 #[.slice p n c] W fun e w' => e = .returned (.bool v) ∧ W.grownBy w' none) ∧
      (v = true → IsC w p n c (V 65536 xs)) := by
  have hmax := hA.max
  have hcap := hA.cap
  by_cases h0 : n = 0
  · subst h0
    have hnil : xs = [] := List.eq_nil_of_length_eq_zero hA.len
    refine ⟨true, fun W hW => ?_, fun _ => by subst hnil; exact hA⟩
    · have hgb := grown_refl W none
      clear hW
      go_enter Try.func86, Try.ntmps86
      go_wp2
      go_ret
      exact ⟨rfl, hgb⟩
  · obtain ⟨top, rfl⟩ : ∃ top, n = top + 1 := ⟨n - 1, by omega⟩
    have hlen := hA.len
    have htl : top < xs.length := by omega
    have hpos : xs[top] ≠ 0 → IsC w p (top + 1) c (V 65536 xs) := fun h => IsC.of_top hA hx htl hlen h
    obtain ⟨b, o, rfl, hc⟩ := IRd.cel hA top htl
    have hb := World.block_lt_of_cell? _ _ hc
    obtain ⟨t, ht⟩ : ∃ t, t = xs[top] := ⟨_, rfl⟩
    rw [← ht] at hc hpos
    clear ht h0 hlen hA
    by_cases h0 : t = 0
    · subst h0
      refine ⟨false, fun W hW => ?_, fun h => by cases h⟩
      · have hgb := grown_refl W none
        have hc2 := hW.cell hc (by simp)
        clear hW hc hb
        go_enter Try.func86, Try.ntmps86
        go_wp2
        go_ret
        exact ⟨rfl, hgb⟩
    · have hne : (((t : Int) != 0) = true) := by simp; omega
      have hp2 := hid (hpos h0)
      clear hpos
      refine ⟨true, fun W hW => ?_, fun _ => hp2.out⟩
      · have hgb := grown_refl W none
        have hc2 := hW.cell hc (by simp)
        clear h0 hW hc hb
        go_enter Try.func86, Try.ntmps86
        go_wp2
        go_ret
        exact ⟨rfl, hgb⟩
set_option maxRecDepth 20000 in
set_option maxHeartbeats 4000000 in
theorem right3_full_r {w : World} (g : Bool) {a b : Option Addr} {n c m d : Nat} {xs ys : List Nat} (hr0 : IRd w .u16 a n c xs) (hx : Dg 65536 xs) (hr1 : IRd w .u16 b m d ys) (hy : Dg 65536 ys) (hn : n ≤ 9000000) (hm : m ≤ 9000000) :
    ∃ r : Bool, (∀ W, w.grownBy W none → Calls Try.prog 55 #[.agg #[.bool g, .slice a n c, .slice b m d]] W fun e w' => e = .returned (.bool r) ∧ W.grownBy w' none) ∧
      (r = true → IsV w g a n c b m d (mkRat (sg g (V 65536 xs)) (V 65536 ys))) := by
  obtain ⟨vN, N2, NP⟩ := right_full_r g hr0 hx
  obtain ⟨vD, D2, DP⟩ := valid_full_r hr1 hy
  have hA := IsZ.of g hr0 hx
  have hE := IsN.of hr1 hy
  cases vN
  · exact ⟨false, fun W hW => refRight_f1 (fun W' h => N2 W' (grown_trans hW h)), fun h => by cases h⟩
  cases vD
  · exact ⟨false, fun W hW => refRight_f2 (fun W' h => N2 W' (grown_trans hW h)) (fun W' h => D2 W' (grown_trans hW h)), fun h => by cases h⟩
  by_cases h0 : m = 0
  · subst h0
    have hz : ys = [] := List.eq_nil_of_length_eq_zero hr1.len
    subst hz
    exact ⟨false,
      fun W hW => refRight_f3 (fun W' h => N2 W' (grown_trans hW h)) (fun W' h => D2 W' (grown_trans hW h)) (hA.keep hW) (hE.keep hW) rfl hn, fun h => by cases h⟩
  · have hC := DP rfl
    have hp : 0 < V 65536 ys := by
      rcases hC.zero_len with ⟨h1, _⟩ | ⟨_, h1⟩
      · omega
      · exact h1
    exact ⟨_,
      fun W hW => refRight_g (fun W' h => N2 W' (grown_trans hW h)) (fun W' h => D2 W' (grown_trans hW h)) (hA.keep hW) (hE.keep hW) (by omega) rfl hn hm,
      fun h => IsV.of_cop (NP rfl) hC hp (of_decide_eq_true h)⟩
end Go.Proofs.Ytdmlcddieadelaa
