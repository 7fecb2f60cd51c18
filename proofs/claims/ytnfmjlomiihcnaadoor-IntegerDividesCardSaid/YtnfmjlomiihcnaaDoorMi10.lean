/-
  Contracts of functions of the program, part 10: WgA, Wg, Gcd, GcdR, IntE, Open, IntOpen, Small2, AliveA, Alive2, Tied.
-/
import Derived.Test.YtnfmjlomiihcnaaDoorMi9
import Derived.Deep.DeepCutAuto
import Derived.Deep.RegionHeld3
import Derived.Deep.LoopGhost
import Derived.Test.YtnfmjlomiihcnaaDoorRows
import Derived.WalkKit
import Derived.ProofKit
import Derived.OpenShut
import Derived.Test.YtnfmjlomiihcnaaDoorTie
import Derived.Test.YtnfmjlomiihcnaaDoorCards
import Derived.LaidMore
import Derived.Lib.LaidTab
import Derived.Stop.Joined
import Derived.SevenTiedAt
/-
  What the loop of natural.wordsGcd keeps: four rows of words of one length, of which the first two hold the numbers.
-/
set_option linter.unusedVariables false
set_option linter.unusedSimpArgs false
namespace Go.Proofs.YtnfmjlomiihcnaaDoor
open Go.RowKit Nm

theorem W64_pos : 0 < W64 := by decide
/-- the value of the first n words, if those behind them hold nothing -/
theorem V_take_le {xs : List Nat} {n m : Nat} (hm : m ≤ n) (hn : n ≤ xs.length) (h : V W64 (xs.take n) < W64 ^ m) : V W64 (xs.take m) = V W64 (xs.take n) := by
  have hl : (xs.take n).length = n := by simp; omega
  have e := V_take_drop (B := W64) (xs.take n) m (by omega)
  rw [List.take_take, Nat.min_eq_left hm] at e
  rcases Nat.eq_zero_or_pos (V W64 ((xs.take n).drop m)) with h0 | h0
  · rw [h0] at e; omega
  · have : W64 ^ m * 1 ≤ W64 ^ m * V W64 ((xs.take n).drop m) := Nat.mul_le_mul_left _ h0
    omega
theorem V_take_lt {xs : List Nat} (hd : Dg W64 xs) (n : Nat) (hn : n ≤ xs.length) : V W64 (xs.take n) < W64 ^ n := by
  have := (hd.take n).lt
  rw [List.length_take, Nat.min_eq_left hn] at this
  exact this
/-- the words that trim keeps -/
theorem trim_take (xs : List Nat) (n : Nat) : trimR (xs.take n) = xs.take (trimR (xs.take n)).length := by
  have h := trimR_eq_take (xs.take n)
  have hl := trimR_length_le (xs.take n)
  have hl2 : (xs.take n).length ≤ n := by rw [List.length_take]; omega
  rw [List.take_take, Nat.min_eq_left (by omega)] at h
  exact h
theorem IRow.rdn {w : World} {g : Nat} {e : TypeId} {k : IntKind} {xs : List Nat} (h : IRow w g e k xs) (n c : Nat) (hn : n ≤ xs.length) (hc : n ≤ c) (hm : c ≤ 9223372036854775807) :
    IRd w k (some ⟨g, 0, none⟩) n c (xs.take n) := by
  have := h.rd 0 n c (by omega) hc hm
  simpa using this
theorem grown_sub {a b c : World} {g p : Nat} (h : a.grownBy b (some g)) (k : b.grownBy c (some p)) (hp : p = g ∨ a.heap.size ≤ p) : a.grownBy c (some g) :=
  ⟨k.os.trans h.os, k.tape.trans h.tape, k.output.trans h.output, Nat.le_trans h.size k.size, fun i hi hne =>
    (k.block i (Nat.lt_of_lt_of_le hi h.size) (fun e => by
      cases e
      rcases hp with rfl | hp
      · exact hne rfl
      · omega)).trans (h.block i hi hne)⟩
theorem grown_none {a b c : World} {g : Nat} (h : a.grownBy b (some g)) (k : b.grownBy c none) : a.grownBy c (some g) :=
  grown_trans h (grown_any k _)

theorem tb_kept {w w' : World} {g : Nat} (h : Tb w) (hg : w.grownBy w' (some g)) (hne : g ≠ 2) : Tb w' := fun j hj => hg.cell (h j hj) (by simp; exact fun e => hne e.symm)

/-- the four rows -/
structure G4 (w wr : World) (gx N G n p q r s : Nat) (xs ys rs ss : List Nat) : Prop where
  rx : IRow wr p 59 .u64 xs
  ry : IRow wr q 59 .u64 ys
  rz : IRow wr r 59 .u64 rs
  rv : IRow wr s 59 .u64 ss
  lx : xs.length = N
  ly : ys.length = N
  lr : rs.length = N
  ls : ss.length = N
  dx : Dg W64 xs
  dy : Dg W64 ys
  dr : Dg W64 rs
  ds : Dg W64 ss
  pq : p ≠ q
  pr : p ≠ r
  ps : p ≠ s
  qr : q ≠ r
  qs : q ≠ s
  rs' : r ≠ s
  op : p = gx ∨ w.heap.size ≤ p
  oq : q = gx ∨ w.heap.size ≤ q
  or' : r = gx ∨ w.heap.size ≤ r
  os : s = gx ∨ w.heap.size ≤ s
  grow : w.grownBy wr (some gx)
  nN : n ≤ N
  le : V W64 (ys.take n) ≤ V W64 (xs.take n)
  gcd : Nat.gcd (V W64 (xs.take n)) (V W64 (ys.take n)) = G

section
variable {w wr wr' : World} {gx N G n p q r s : Nat} {xs ys rs ss : List Nat}
theorem G4.keep (h : G4 w wr gx N G n p q r s xs ys rs ss) (hg : wr.grownBy wr' none) : G4 w wr' gx N G n p q r s xs ys rs ss :=
  { h with rx := h.rx.kept hg (by simp), ry := h.ry.kept hg (by simp), rz := h.rz.kept hg (by simp), rv := h.rv.kept hg (by simp), grow := grown_none h.grow hg }
/-- only the words that x has -/
theorem G4.cut (h : G4 w wr gx N G n p q r s xs ys rs ss) : G4 w wr gx N G (trimR (xs.take n)).length p q r s xs ys rs ss ∧ V W64 (xs.take (trimR (xs.take n)).length) = V W64 (xs.take n) ∧ V W64 (ys.take (trimR (xs.take n)).length) = V W64 (ys.take n) := by
  have hl := trimR_length_le (xs.take n)
  have hl2 : (xs.take n).length = n := by rw [List.length_take]; have := h.nN; have := h.lx; omega
  have e1 : V W64 (xs.take (trimR (xs.take n)).length) = V W64 (xs.take n) := by rw [← trim_take, V_trimR]
  have hlt := V_take_lt h.dx (trimR (xs.take n)).length (by have := h.lx; have := h.nN; omega)
  have e2 : V W64 (ys.take (trimR (xs.take n)).length) = V W64 (ys.take n) :=
    V_take_le (by omega) (by have := h.ly; have := h.nN; omega) (by have := h.le; omega)
  exact ⟨{ h with nN := by have := h.nN; omega, le := by rw [e1, e2]; exact h.le, gcd := by rw [e1, e2]; exact h.gcd }, e1, e2⟩
/-- the rest, copied over x -/
theorem copied_rest {xs rs : List Nat} {k N : Nat} (hx : xs.length = N) (hk : k ≤ N) (dx : Dg W64 xs) (dr : Dg W64 rs) (hl : rs.length = k + 1) (hv : V W64 rs < W64 ^ k) :
    (splice xs 0 (rs.take k)).length = N ∧ Dg W64 (splice xs 0 (rs.take k)) ∧ V W64 ((splice xs 0 (rs.take k)).take k) = V W64 rs := by
  have e : splice xs 0 (rs.take k) = rs.take k ++ xs.drop k := by simp [splice, hl]
  have hl2 : (rs.take k).length = k := by rw [List.length_take, hl]; omega
  rw [e]
  refine ⟨by rw [List.length_append, hl2, List.length_drop]; omega, (dr.take k).append (dx.drop k), ?_⟩
  rw [List.take_append_of_le_length (by omega), List.take_take, Nat.min_self]
  have := V_take_le (xs := rs) (n := rs.length) (m := k) (by omega) (Nat.le_refl _) (by rw [List.take_length]; exact hv)
  rw [List.take_length] at this
  exact this
/-- a step of Euclid's algorithm: x is replaced by the rest, and the two change places -/
theorem G4.swap (h : G4 w wr gx N G n p q r s xs ys rs ss) {zs : List Nat} (hz : IRow wr' p 59 .u64 zs) (hg : wr.grownBy wr' (some p)) (hl : zs.length = N) (hd : Dg W64 zs)
    (hv : V W64 (zs.take n) = V W64 (xs.take n) % V W64 (ys.take n)) (hy : 0 < V W64 (ys.take n)) : G4 w wr' gx N G n q p r s ys zs rs ss :=
  { rx := h.ry.kept hg (by simp; exact h.pq.symm), ry := hz, rz := h.rz.kept hg (by simp; exact h.pr.symm), rv := h.rv.kept hg (by simp; exact h.ps.symm),
    lx := h.ly, ly := hl, lr := h.lr, ls := h.ls, dx := h.dy, dy := hd, dr := h.dr, ds := h.ds, pq := h.pq.symm, pr := h.qr, ps := h.qs, qr := h.pr, qs := h.ps, rs' := h.rs',
    op := h.oq, oq := h.op, or' := h.or', os := h.os, grow := grown_sub h.grow hg h.op, nN := h.nN,
    le := by rw [hv]; exact Nat.le_of_lt (Nat.mod_lt _ hy), gcd := by rw [hv, Nat.gcd_comm, ← Nat.gcd_rec, Nat.gcd_comm]; exact h.gcd }
/-- Lehmer's steps: the other two rows take the numbers -/
theorem G4.leh (h : G4 w wr gx N G n p q r s xs ys rs ss) {wa wb : World} {d3 d4 : List Nat} (h3 : IRow wr' r 59 .u64 d3) (h4 : IRow wr' s 59 .u64 d4) (ga : wr.grownBy wa none) (gb : wa.grownBy wb (some r)) (gc : wb.grownBy wr' (some s))
    (l3 : d3.length = rs.length) (l4 : d4.length = ss.length) (e3 : Dg W64 d3) (e4 : Dg W64 d4) (hL : Leh (V W64 (xs.take n)) (V W64 (ys.take n)) (V W64 (d3.take n)) (V W64 (d4.take n))) : G4 w wr' gx N G n r s p q d3 d4 xs ys :=
  { rx := h3, ry := h4, rz := ((h.rx.kept ga (by simp)).kept gb (by simp; exact h.pr)).kept gc (by simp; exact h.ps), rv := ((h.ry.kept ga (by simp)).kept gb (by simp; exact h.qr)).kept gc (by simp; exact h.qs),
    lx := by rw [l3]; exact h.lr, ly := by rw [l4]; exact h.ls, lr := h.lx, ls := h.ly, dx := e3, dy := e4, dr := h.dx, ds := h.dy, pq := h.rs', pr := h.pr.symm, ps := h.qr.symm, qr := h.ps.symm, qs := h.qs.symm, rs' := h.pq,
    op := h.or', oq := h.os, or' := h.op, os := h.oq, grow := grown_sub (grown_sub (grown_none h.grow ga) gb h.or') gc h.os, nN := h.nN,
    le := Nat.le_of_lt hL.1, gcd := hL.2.1.trans h.gcd }
end
theorem IRow.rep (w : World) (e : TypeId) (n : Nat) : IRow (w.alloc (.cells (Array.replicate n (.int .u64 0)) e)) w.heap.size e .u64 (List.replicate n 0) := by
  unfold IRow
  rw [heap_alloc_new]
  simp
theorem rep2 (w : World) (e : TypeId) (n : Nat) : IRow ((w.alloc (.cells (Array.replicate n (.int .u64 0)) e)).alloc (.cells (Array.replicate n (.int .u64 0)) e)).drew w.heap.size e .u64 (List.replicate n 0) ∧
    IRow ((w.alloc (.cells (Array.replicate n (.int .u64 0)) e)).alloc (.cells (Array.replicate n (.int .u64 0)) e)).drew (w.heap.size + 1) e .u64 (List.replicate n 0) ∧
    w.grownBy ((w.alloc (.cells (Array.replicate n (.int .u64 0)) e)).alloc (.cells (Array.replicate n (.int .u64 0)) e)).drew none := by
  have h1 := IRow.rep w e n
  have g1 := World.grownBy_alloc w (.cells (Array.replicate n (.int .u64 0)) e) none
  have h2 := IRow.rep (w.alloc (.cells (Array.replicate n (.int .u64 0)) e)) e n
  have g2 := World.grownBy_alloc (w.alloc (.cells (Array.replicate n (.int .u64 0)) e)) (.cells (Array.replicate n (.int .u64 0)) e) none
  refine ⟨(h1.kept g2 (by simp)).drew, ?_, grown_trans (grown_trans g1 g2) (grown_drew _ none)⟩
  have h3 := h2.drew
  simpa using h3
/-- make of words, where the walk runs it -/
theorem run_make_words {P : Program} (t e : TypeId) (h1 : P.underlying t = some (.slice e)) (h2 : (P.info? e).map (fun i => (i.zero, i.size, i.bytes)) = some (some (.int .u64 0), 1, 8)) (n : Nat) (hn : n ≤ 1000000) (w : World) :
    (Instr.makeSlice t (.int .i64 (n : Int)) (.int .i64 (n : Int))).run P w = .ok (.slice (some ⟨w.heap.size, 0, none⟩) n n) (w.alloc (.cells (Array.replicate n (.int .u64 0)) e)) := by
  obtain ⟨i, hi, hz0, hz1, hz2⟩ := info_parts h2
  have hb : (i.bytes : Int) * (n : Int) ≤ 281474976710656 := by rw [hz2]; omega
  have hr := run_make (P := P) w t e i (.int .u64 0) h1 hi hz0 .i64 .i64 n n (by omega) (by omega) hb (by omega)
  simp only [Int.toNat_natCast] at hr
  rw [hr, hz1]
  have e1 : madeCells (Value.int .u64 0).cells (n * 1) = Array.replicate n (.int .u64 0) := by
    rw [Nat.mul_one, ← Array.toList_inj]
    have := toList_madeCells_one (.int .u64 0) n
    simp at this ⊢
    exact this
  rw [e1]
end Go.Proofs.YtnfmjlomiihcnaaDoor

/-
  Contract of natural.wordsGcd: the greatest common divisor of two numbers of words, by Lehmer's steps.
-/
set_option linter.unusedVariables false
set_option linter.unusedSimpArgs false
namespace Go.Proofs.YtnfmjlomiihcnaaDoor
open Go.RowKit Nm

theorem infoW : (Tryd.prog.info? 59).map (fun i => (i.zero, i.size, i.bytes)) = some (some (.int .u64 0), 1, 8) := by kernel_rfl
/-- what wordsGcd returns: words of the number G -/
def WG (w : World) (gx G : Nat) (e : Ending) (w' : World) : Prop := ∃ p n c zs, e = .returned (.slice p n c) ∧ IRd w' .u64 p n c zs ∧ n ≤ 900000 ∧ Hid (Dg W64 zs ∧ V W64 zs = G) ∧ w.grownBy w' (some gx)

set_option maxRecDepth 100000 in
set_option maxHeartbeats 4000000 in
theorem wordsGcd_any (gx N M Mc : Nat) (bp : Option Addr) (us vs : List Nat) (w : World) (hT : Tb w) (hgT : gx ≠ 2) (hx : IRow w gx 59 .u64 us) (hu : us.length = N) (hy : IRd w .u64 bp M Mc vs) (hM : M ≤ N) (hN : N ≤ 250000)
    (hdu : Dg W64 us) (hdv : Dg W64 vs) (hle : V W64 vs ≤ V W64 us) :
    Calls Tryd.prog 58 #[.slice (some ⟨gx, 0, none⟩) N N, .slice bp M Mc] w (WG w gx (Nat.gcd (V W64 us) (V W64 vs))) := by
  have hmk := run_make_words (P := Tryd.prog) 61 59 Tryd.underlying61 infoW N (by omega)
  go_enter Tryd.func58, Tryd.ntmps58
  go_upto_region 1 with fail
  go_cut [5, 6] from 14 to 17 (fun x y wc => x = .slice (some ⟨gx, 0, none⟩) N N ∧ y = .slice (some ⟨w.heap.size, 0, none⟩) N N ∧ IRow wc w.heap.size 59 .u64 (List.replicate N 0) ∧ w.grownBy wc none)
  case first =>
    go_region
    all_goals
      go_wp2_with fail
      go_meet
      exact ⟨rfl, rfl, IRow.rep w _ N, grown_trans (World.grownBy_alloc w _ none) (grown_drew _ none)⟩
  case rest =>
    obtain ⟨rfl, rfl, hr1, hg1⟩ := hcut
    obtain ⟨g1, hg1e⟩ : ∃ g, g = w.heap.size := ⟨_, rfl⟩
    rw [← hg1e] at hr1 ⊢
    have HG1 := hid hg1e
    clear hg1e
    go_upto_region 3 with (refine wl_copy _ rfl (.tmp 18) (.tmp 19) 61 61 rfl 59 Tryd.underlying61 (by kernel_rfl) .u64 _ _ _ _ _ _ rfl rfl g1 0 59 (List.replicate N 0) vs hr1 (fun _ => rfl) (hy.keep hg1) (by simp) ?_; intro w2 hr2 hg2)
    have hw2 : w.grownBy w2 none := grown_new hg1 hg2 (fun g e => by cases e; rw [HG1.out]; exact Nat.le_refl _)
    go_simp
    go_cut [7, 8] from 21 to 26 (fun x y wc => ∃ g2 g3 : Nat, x = .slice (some ⟨g2, 0, none⟩) N N ∧ y = .slice (some ⟨g3, 0, none⟩) N N ∧ IRow wc g2 59 .u64 (List.replicate N 0) ∧ IRow wc g3 59 .u64 (List.replicate N 0) ∧ g2 ≠ g3 ∧ w2.heap.size ≤ g2 ∧ w2.heap.size ≤ g3 ∧ w2.grownBy wc none)
    case first =>
      go_region
      all_goals
        go_wp2_with fail
        go_meet
        have hx2 := rep2 w2 59 N
        first
          | exact ⟨_, _, rfl, rfl, hx2.1, hx2.2.1, by omega, by omega, by omega, hx2.2.2⟩
          | exact ⟨_, _, rfl, rfl, hx2.2.1, hx2.1, by omega, by omega, by omega, hx2.2.2⟩
    case rest =>
      obtain ⟨g2, g3, rfl, rfl, hr3, hr4, h23, h2, h3, hg3⟩ := hcut
      have hsp : splice (List.replicate N 0) 0 (vs.take N) = vs ++ List.replicate (N - M) 0 := by
        have := hy.len
        rw [List.take_of_length_le (by omega)]
        simp [splice, this]
      rw [hsp] at hr2
      have hgxw := hx.lt
      have hy0 : V W64 ((vs ++ List.replicate (N - M) 0).take N) = V W64 vs := by
        have := hy.len
        rw [List.take_of_length_le (by simp; omega), V_append, V_zeros]; simp
      have hx0 : V W64 (us.take N) = V W64 us := by rw [List.take_of_length_le (by omega)]
      have hz0 : Dg W64 (List.replicate N 0) := Dg.zeros W64_pos N
      have H0 : G4 w wc gx N (Nat.gcd (V W64 us) (V W64 vs)) N gx g1 g2 g3 us (vs ++ List.replicate (N - M) 0) (List.replicate N 0) (List.replicate N 0) :=
        { rx := hx.kept (grown_trans hw2 hg3) (by simp), ry := hr2.kept hg3 (by simp), rz := hr3, rv := hr4, lx := hu, ly := by have := hy.len; simp; omega, lr := by simp, ls := by simp,
          dx := hdu, dy := hdv.append (Dg.zeros W64_pos _), dr := hz0, ds := hz0, pq := by have := HG1.out; omega, pr := by have := hw2.size; omega, ps := by have := hw2.size; omega, qr := by have := hr2.lt; omega, qs := by have := hr2.lt; omega, rs' := h23,
          op := .inl rfl, oq := .inr (by rw [HG1.out]; exact Nat.le_refl _), or' := .inr (by have := hw2.size; omega), os := .inr (by have := hw2.size; omega), grow := grown_any (grown_trans hw2 hg3) _, nN := Nat.le_refl _,
          le := by rw [hx0, hy0]; exact hle, gcd := by rw [hx0, hy0] }
      have HH0 := hid H0
      generalize Nat.gcd (V W64 us) (V W64 vs) = G at *
      clear H0 hmk hsp hy0 hx0 hz0 hr1 hg1 hr2 hg2 hw2 hr3 hr4 h23 h2 h3 hg3 HG1 hy hx hu hdu hdv hle hM hgxw
      generalize vs ++ List.replicate (N - M) 0 = vs2 at *
      go_wp2_with fail
      go_loopg [5, 6, 7, 8] (V W64 (us.take N) + V W64 (vs2.take N)) (fun k x y z v wr => ∃ (n p q r s : Nat) (xs ys rs ss : List Nat), x = .slice (some ⟨p, 0, none⟩) n N ∧ y = .slice (some ⟨q, 0, none⟩) n N ∧ z = .slice (some ⟨r, 0, none⟩) n N ∧ v = .slice (some ⟨s, 0, none⟩) n N ∧
        Hid (G4 w wr gx N G n p q r s xs ys rs ss ∧ k = V W64 (xs.take n) + V W64 (ys.take n)))
      case atStart => exact ⟨N, gx, g1, g2, g3, us, vs2, _, _, rfl, rfl, rfl, rfl, hid ⟨HH0.out, rfl⟩⟩
      case round =>
        clear HH0
        obtain ⟨n, p, q, r, s, xs, ys, rs, ss, rfl, rfl, rfl, rfl, HR⟩ := hrel
        have hnN : n ≤ N := HR.out.1.nN
        have T1 := hid (trim64 (some ⟨p, 0, none⟩) n N (xs.take n) wr (IRow.rdn HR.out.1.rx n N (by rw [HR.out.1.lx]; exact hnN) hnN (by omega)))
        obtain ⟨hc1, hc2, hc3⟩ := HR.out.1.cut
        have hk : gk = V W64 (xs.take (trimR (xs.take n)).length) + V W64 (ys.take (trimR (xs.take n)).length) := by rw [hc2, hc3]; exact HR.out.2
        have hcan := Can_trimR (HR.out.1.dx.take n)
        rw [trim_take] at hcan
        generalize (trimR (xs.take n)).length = nn at *
        have H1 := hid hc1
        have HK := hid hk
        have HCAN := hid hcan
        have hnn : nn ≤ N := hc1.nN
        have hn0 : (0 : Int) ≤ (nn : Int) := by omega
        have hn1 : (nn : Int) ≤ (N : Int) := by omega
        clear hc1 hc2 hc3 hk hcan HR
        go_upto_region 5 with (go_at_call 64; (with_reducible refine (T1.out).mono ?_); rintro e w' ⟨rfl, rfl⟩)
        go_quiet (fail)
        have H2 := hid (H1.out.keep (grown_drewN wr nq none))
        clear H1 T1
        generalize wr.drewN nq = wz at *
        have T2 := hid (trim64 (some ⟨q, 0, none⟩) nn N (ys.take nn) wz (IRow.rdn H2.out.ry nn N (by rw [H2.out.ly]; exact hnn) hnn (by omega)))
        have hyv : V W64 (ys.take (trimR (ys.take nn)).length) = V W64 (ys.take nn) := by rw [← trim_take, V_trimR]
        have hcan := Can_trimR (H2.out.dy.take nn)
        rw [trim_take] at hcan
        have hmn : (trimR (ys.take nn)).length ≤ nn := by
          have := trimR_length_le (ys.take nn)
          have h2 : (ys.take nn).length ≤ nn := by rw [List.length_take]; omega
          omega
        generalize (trimR (ys.take nn)).length = m at *
        have HY := hid hyv
        have HCY := hid hcan
        clear hyv hcan
        rcases Nat.eq_zero_or_pos m with hm0 | hm0
        · subst hm0
          have hfin : V W64 (xs.take nn) = G := by
            have := H2.out.gcd
            rw [← HY.out] at this
            simpa using this
          have HF := hid hfin
          clear hfin
          go_wp2_with (go_at_call 64; (with_reducible refine (T2.out).mono ?_); rintro e w' ⟨rfl, rfl⟩)
          go_ret
          exact ⟨_, nn, N, xs.take nn, rfl, IRow.rdn H2.out.rx nn N (by rw [H2.out.lx]; exact hnn) hnn (by omega), by omega, hid ⟨H2.out.dx.take nn, HF.out⟩, H2.out.grow⟩
        rcases Nat.lt_or_ge 1 m with hm1 | hm1
        rotate_left
        · obtain rfl : m = 1 := by omega
          have hyl : 0 < ys.length := by rw [H2.out.ly]; omega
          have hcell := H2.out.ry.cell 0 hyl
          have hd : ys[0] < W64 := H2.out.dy.get 0 hyl
          have hvy : V W64 (ys.take 1) = ys[0] := by
            have := V_take_succ (B := W64) ys 0 hyl
            simpa using this
          have hd0 : 0 < ys[0] := by
            refine Nat.pos_of_ne_zero fun e => HCY.out.2 ?_
            rw [List.take_succ_eq_append_getElem hyl, e]; simp
          generalize ys[0] = d at *
          have D1 := divW_any p nn N xs d wz.drew H2.out.rx.drew (by rw [H2.out.lx]; exact hnn) hnn (by omega) (by rw [H2.out.lx]; omega) H2.out.dx hd0 hd
          have hx5 : V W64 (xs.take nn) % d < d := Nat.mod_lt _ hd0
          have hgg : Nat.gcd d (V W64 (xs.take nn) % d) = G := by
            rw [Nat.gcd_comm, ← Nat.gcd_rec, Nat.gcd_comm, ← hvy, HY.out]; exact H2.out.gcd
          have hGd : G ≤ d := by rw [← hgg]; exact Nat.gcd_le_left _ hd0
          generalize V W64 (xs.take nn) % d = x5 at *
          have hx5W : x5 < W64 := Nat.lt_trans hx5 hd
          have D2 : ∀ w5, wz.drew.grownBy w5 (some p) → Calls Tryd.prog 57 #[.int .u64 d, .int .u64 x5] w5 fun e w' => e = .returned (.int .u64 G) ∧ w5 = w' := fun w5 hg5 => by
            have := wordGcd_any d x5 hd hx5W w5 (tb_kept hT (grown_sub (grown_none H2.out.grow (grown_drew _ none)) hg5 H2.out.op) hgT)
            rwa [hgg] at this
          have HD1 := hid D1
          have HD2 := hid D2
          have HGW : Hid (G < W64) := hid (by omega)
          have HPQ := hid H2.out.pq
          have hcd : wz.drew.cell? ⟨q, 0, none⟩ = some (.int .u64 d) := hcell
          clear D1 D2 hx5 hgg hGd hx5W hvy hyl hd hd0 HY HCY
          go_upto_region 11 with (go_at_call 64; (with_reducible refine (T2.out).mono ?_); rintro e w' ⟨rfl, rfl⟩)
          go_region_held3 (fun w' => w'.cell? ⟨q, 0, none⟩ = some (.int .u64 d)) (first | assumption | (exact hg5.cell hcd (by simp; exact fun e => HPQ.out e.symm)) | (refine (World.grownBy_alloc _ _ none).cell ?_ (by simp); exact hg5.cell hcd (by simp; exact fun e => HPQ.out e.symm)))
            (first
              | (go_at_call 48; (with_reducible refine (HD1.out).mono ?_); rintro e w5 ⟨cur5, rfl, hr5, hg5, HC5⟩)
              | (go_at_call 57; (with_reducible refine (HD2.out _ hg5).mono ?_); rintro e w' ⟨rfl, rfl⟩))
          go_wp2
          go_ret
          exact ⟨_, 1, 1, [G], rfl, one_rd w5 _ _ _ G rfl, by omega, hid ⟨Dg.cons HGW.out Dg.nil, by simp⟩, grown_none (grown_sub (grown_none H2.out.grow (grown_drew _ none)) hg5 H2.out.op) (World.grownBy_alloc _ _ _)⟩
        · obtain ⟨mm, rfl⟩ : ∃ mm, m = mm + 2 := ⟨m - 2, by omega⟩
          obtain ⟨k, rfl⟩ : ∃ k, nn = k + 2 := ⟨nn - 2, by omega⟩
          have hxr := IRow.rdn H2.out.rx (k + 2) N (by rw [H2.out.lx]; exact hnn) hnn (by omega)
          have hyr := IRow.rdn H2.out.ry (k + 2) N (by rw [H2.out.ly]; exact hnn) hnn (by omega)
          have htop : ∀ t, (xs.take (k + 2))[k + 1]? = some t → 0 < t := fun t ht => by
            refine Nat.pos_of_ne_zero fun e => HCAN.out.2 ?_
            rw [List.getLast?_eq_getElem?, hxr.len, ← e]; exact ht
          have L1 := hid (leading_any (some ⟨p, 0, none⟩) (some ⟨q, 0, none⟩) k N N (xs.take (k + 2)) (ys.take (k + 2)) wz hxr hyr (H2.out.dx.take _) (H2.out.dy.take _) (by omega) htop H2.out.le)
          have HXR := hid hxr
          have HYR := hid hyr
          clear hxr hyr htop
          have c0 : (((mm : Int) + 2) == 0) = false := by simp; omega
          have c1 : (((mm : Int) + 2) == 1) = false := by simp; omega
          go_upto_region 13 with (first
            | (go_at_call 64; (with_reducible refine (T2.out).mono ?_); rintro e w' ⟨rfl, rfl⟩)
            | (go_at_call 94; (with_reducible refine (L1.out).mono ?_); rintro e w' ⟨A, C, rfl, hA, hC, HLD, nq, rfl⟩)
            | (go_at_call 93; (with_reducible refine (euclid_any A C hA hC _).mono ?_); rintro e w3 ⟨x0, y0, x1, y1, t, rfl, b0, b1, b2, b3, ht, HE, hg3⟩))
          have hb : Rst (w3.alloc (.cells #[.int .u64 x0, .int .u64 y0, .int .u64 x1, .int .u64 y1, .int .i64 t] 103)) w3.heap.size x0 y0 x1 y1 t := heap_alloc_new w3 _
          have H3 := hid (((H2.out.keep (grown_drewN wz nq none)).keep hg3).keep (World.grownBy_alloc w3 (.cells #[.int .u64 x0, .int .u64 y0, .int .u64 x1, .int .u64 y1, .int .i64 t] 103) none))
          clear H2 L1 T2 HXR HYR hg3
          generalize hwb : w3.alloc (.cells #[.int .u64 x0, .int .u64 y0, .int .u64 x1, .int .u64 y1, .int .i64 t] 103) = wb at *
          clear hwb
          generalize w3.heap.size = gb at *
          obtain ⟨f0, f1, f2, f3, f4, _⟩ := hb.facts
          clear hb
          have hxr := IRow.rdn H3.out.rx (k + 2) N (by rw [H3.out.lx]; exact hnn) hnn (by omega)
          have hyr := IRow.rdn H3.out.ry (k + 2) N (by rw [H3.out.ly]; exact hnn) hnn (by omega)
          have ht0 : (0 : Int) ≤ (t : Int) := by omega
          by_cases ht1 : t = 0
          · have hte : (((t : Int) == 0)) = true := by simp; omega
            have hyr2 := IRow.rdn H3.out.ry (mm + 2) N (by rw [H3.out.ly]; omega) (by omega) (by omega)
            have htop : ∀ t, (ys.take (mm + 2))[mm + 1]? = some t → 0 < t := fun t ht => by
              refine Nat.pos_of_ne_zero fun e => HCY.out.2 ?_
              rw [List.getLast?_eq_getElem?, hyr2.len, ← e]; exact ht
            have hypos : 0 < V W64 (ys.take (mm + 2)) := HCY.out.pos W64_pos (fun e => by
              have := congrArg List.length e
              rw [hyr2.len] at this; simp at this)
            have DV := hid (divide_len (some ⟨p, 0, none⟩) (some ⟨q, 0, none⟩) (k + 2) mm N N (xs.take (k + 2)) (ys.take (mm + 2)) wb hxr hyr2 (H3.out.dx.take _) (H3.out.dy.take _) hmn (by omega) (by omega) htop)
            have HYP := hid hypos
            clear ht1 hxr hyr hyr2 htop hypos
            go_wp2_with (first
              | (go_at_call 50; (with_reducible refine (DV.out).mono ?_); rintro e w5 ⟨a1, a2, n1, n2, qs, rs', rfl, hq5, hr5, hn15, hn25, HDV, hg5⟩)
              | (refine wl_copy _ rfl (.tmp 76) (.tmp 77) 61 61 rfl 59 Tryd.underlying61 (by kernel_rfl) .u64 _ _ _ _ _ _ rfl rfl p 0 59 xs rs' (H3.out.rx.kept hg5 (by simp)) (fun _ => rfl) hr5 (by rw [H3.out.lx]; omega) ?_; intro w6 hr6 hg6))
            obtain ⟨_, v1, _, v2, v3⟩ := HDV.out
            have v4 : V W64 rs' < V W64 (ys.take (mm + 2)) := by rw [v2]; exact Nat.mod_lt _ HYP.out
            rw [HY.out] at v2 v4
            have v5 := V_take_lt H3.out.dy (k + 2) (by rw [H3.out.ly]; exact hnn)
            obtain ⟨c1, c2, c3⟩ := copied_rest H3.out.lx hnn H3.out.dx v1 v3 (Nat.lt_trans v4 v5)
            have v6 := H3.out.le
            have v7 := HK.out
            have v8 : 0 < V W64 (ys.take (k + 2)) := by rw [← HY.out]; exact HYP.out
            have HS := hid ((H3.out.keep hg5).swap hr6 hg6 c1 c2 (by rw [c3, v2]) v8)
            have HC3 := hid c3
            go_roundg (V W64 (ys.take (k + 2)) + V W64 rs')
            case measure => omega
            case rel => exact ⟨k + 2, q, p, r, s, ys, _, rs, ss, rfl, rfl, rfl, rfl, hid ⟨HS.out, by rw [HC3.out]⟩⟩
          · have hte : (((t : Int) == 0)) = false := by simp; omega
            obtain ⟨h, o, hE⟩ := HE.out
            have RO := hid (restsOf_any r s (k + 2) N N rs ss (xs.take (k + 2)) (ys.take (k + 2)) (some ⟨p, 0, none⟩) (some ⟨q, 0, none⟩) N N x0 y0 x1 y1 t wb H3.out.rz H3.out.rv H3.out.rs' hxr hyr (fun a e => by cases e; exact H3.out.pr) (fun a e => by cases e; exact H3.out.ps) (fun a e => by cases e; exact H3.out.qr) (fun a e => by cases e; exact H3.out.qs)
              (by rw [H3.out.lr]; exact hnn) (by rw [H3.out.ls]; exact hnn) (by rw [H3.out.lr]; omega) (by rw [H3.out.ls]; omega) hnn hnn (by omega) (by omega) H3.out.dr H3.out.ds (H3.out.dx.take _) (H3.out.dy.take _) b0 b1 b2 b3 ht (by omega) A C h o hE HLD.out)
            clear ht1 hxr hyr hE
            go_wp2_with (go_at_call 95; (with_reducible refine (RO.out).mono ?_); rintro e w5 ⟨d3, d4, wa, wc5, rfl, hr5, hr6, hga, hgb5, hgc, HD⟩)
            obtain ⟨l3, l4, e3, e4, hL⟩ := HD.out
            have HS := hid (H3.out.leh hr5 hr6 hga hgb5 hgc l3 l4 e3 e4 hL)
            have v1 := hL.2.2.1
            have v7 := HK.out
            go_roundg (V W64 (d3.take (k + 2)) + V W64 (d4.take (k + 2)))
            case measure => omega
            case rel => exact ⟨k + 2, r, s, p, q, d3, d4, xs, ys, rfl, rfl, rfl, rfl, hid ⟨HS.out, rfl⟩⟩
end Go.Proofs.YtnfmjlomiihcnaaDoor

/-
  Contract of natural.Gcd: the greatest common divisor of any numbers, where the table of package math/bits holds what its initialiser lays.
-/
set_option linter.unusedVariables false
set_option linter.unusedSimpArgs false
namespace Go.Proofs.YtnfmjlomiihcnaaDoor
open Go.RowKit Nm

/-- a call returns the valid Nat of G -/
def NPost (w : World) (G : Nat) (e : Ending) (w' : World) : Prop := ∃ p c, e = .returned (.slice p (dg 65536 G).length c) ∧ IRd w' .u16 p (dg 65536 G).length c (dg 65536 G) ∧ w.grownBy w' none

theorem Tb.lt {w : World} (h : Tb w) : 2 < w.heap.size := World.block_lt_of_cell? _ _ (h 0 (by omega))
/-- the two numbers in their order -/
structure Gs (w : World) (p q : Option Addr) (n c m d : Nat) (us vs : List Nat) (G : Nat) : Prop where
  rx : IRd w .u16 p n c us
  ry : IRd w .u16 q m d vs
  cx : Nm.Can 65536 us
  cy : Nm.Can 65536 vs
  le : V 65536 vs ≤ V 65536 us
  gcd : Nat.gcd (V 65536 us) (V 65536 vs) = G
  hn : n ≤ 800000

set_option maxHeartbeats 4000000 in
theorem natGcd_any (a b : Option Addr) (n m c d : Nat) (xs ys : List Nat) (w : World) (hT : Tb w) (h : IRd w .u16 a n c xs) (k : IRd w .u16 b m d ys) (hx : Dg 65536 xs) (hy : Dg 65536 ys) (hn : n ≤ 800000) (hm : m ≤ 800000) :
    Calls Tryd.prog 15 #[.slice a n c, .slice b m d] w (NPost w (Nat.gcd (V 65536 xs) (V 65536 ys))) := by
  have ht := h.take (trimR xs).length (by rw [← h.len]; exact trimR_length_le xs)
  have kt := k.take (trimR ys).length (by rw [← k.len]; exact trimR_length_le ys)
  rw [← trimR_eq_take] at ht kt
  have hcx := Can_trimR hx
  have hcy := Can_trimR hy
  have hvx := V_trimR (B := 65536) xs
  have hvy := V_trimR (B := 65536) ys
  have hnl : (trimR xs).length ≤ n := by rw [← h.len]; exact trimR_length_le xs
  have hml : (trimR ys).length ≤ m := by rw [← k.len]; exact trimR_length_le ys
  have R1 := hid (trim16 a n c xs w h)
  have R2 := hid (trim16 b m d ys w k)
  rw [← hvx, ← hvy]
  generalize trimR xs = us at *
  generalize trimR ys = vs at *
  have hnl8 : us.length ≤ 800000 := by omega
  have hml8 : vs.length ≤ 800000 := by omega
  clear hvx hvy h k hnl hml hx hy
  have R3 := natCmp_any a b us.length vs.length c d us vs w ht kt hcx.1 hcy.1
  have A1 : ∀ wc, w.grownBy wc none → V 65536 vs ≤ V 65536 us → Gs wc a b us.length c vs.length d us vs (Nat.gcd (V 65536 us) (V 65536 vs)) := fun wc hg hle => ⟨ht.keep hg, kt.keep hg, hcx, hcy, hle, rfl, hnl8⟩
  have A2 : ∀ wc, w.grownBy wc none → V 65536 us ≤ V 65536 vs → Gs wc b a vs.length d us.length c vs us (Nat.gcd (V 65536 us) (V 65536 vs)) := fun wc hg hle => ⟨kt.keep hg, ht.keep hg, hcy, hcx, hle, Nat.gcd_comm _ _, hml8⟩
  generalize Nat.gcd (V 65536 us) (V 65536 vs) = G at *
  have HA1 := hid A1
  have HA2 := hid A2
  clear A1 A2 hcx hcy ht kt
  generalize us.length = lx at *
  generalize vs.length = ly at *
  have cut1 : Hid (∃ z : Int, cmpI (V 65536 us : Nat) (V 65536 vs : Nat) = z ∧ ((z < 0 ∧ V 65536 us ≤ V 65536 vs) ∨ (¬ z < 0 ∧ V 65536 vs ≤ V 65536 us))) := hid (by
    rcases Nat.lt_or_ge (V 65536 us) (V 65536 vs) with hl | hl
    · exact ⟨-1, cmpI_lt hl, .inl ⟨by omega, by omega⟩⟩
    · rcases Nat.eq_or_lt_of_le hl with he | hl2
      · exact ⟨0, by rw [he]; exact cmpI_eq _, .inr ⟨by omega, hl⟩⟩
      · exact ⟨1, cmpI_gt hl2, .inr ⟨by omega, hl⟩⟩)
  obtain ⟨z, hz, hcase⟩ := cut1.out
  rw [hz] at R3
  have HR3 := hid R3
  clear R3 hz cut1
  go_enter Tryd.func15, Tryd.ntmps15
  go_upto_if 13 with (first
    | (go_at_call 44; (with_reducible refine (R1.out).mono ?_); rintro e w' ⟨rfl, rfl⟩)
    | (go_at_call 44; (with_reducible refine (R2.out).mono ?_); rintro e w' ⟨rfl, rfl⟩)
    | (go_at_call 25; (with_reducible refine (HR3.out).mono ?_); rintro e w1 ⟨rfl, hg1⟩))
  go_cut [0, 1] from 14 to 15 (fun x y wc => ∃ (p q : Option Addr) (n c m d : Nat) (us vs : List Nat), x = .slice p n c ∧ y = .slice q m d ∧ Hid (Gs wc p q n c m d us vs G) ∧ w.grownBy wc none)
  case first =>
    rcases hcase with ⟨hz, hle⟩ | ⟨hz, hle⟩
    · have H := hid (HA2.out w1 hg1 hle)
      clear hle
      go_wp2_with fail
      go_meet
      exact ⟨_, _, _, _, _, _, _, _, rfl, rfl, H, hg1⟩
    · have H := hid (HA1.out w1 hg1 hle)
      clear hle
      go_wp2_with fail
      go_meet
      exact ⟨_, _, _, _, _, _, _, _, rfl, rfl, H, hg1⟩
  case rest =>
    obtain ⟨p, q, n, c, m, d, us, vs, rfl, rfl, HG, hgw⟩ := hcut
    clear HA1 HA2 HR3 R1 R2 hcase
    have hTc := hT.keep hgw
    have hn8 := HG.out.hn
    have hlu := HG.out.rx.len
    have hlv := HG.out.ry.len
    have hmn : m ≤ n := by
      rw [← hlu, ← hlv]
      refine Nat.le_of_not_lt fun hlt => ?_
      have := Nm.Can.lt_of_length (B := 65536) (by omega) HG.out.cx.1 HG.out.cy hlt
      have := HG.out.le
      omega
    have hcap := HG.out.rx.cap
    have hmax := HG.out.rx.max
    have kcap := HG.out.ry.cap
    have kmax := HG.out.ry.max
    have HLU := hid hlu
    have HLV := hid hlv
    clear hlu hlv
    rcases Nat.eq_zero_or_pos m with h0 | h0
    · subst h0
      have hv : vs = [] := List.eq_nil_of_length_eq_zero HLV.out
      have hG : V 65536 us = G := by have := HG.out.gcd; rw [hv] at this; simpa using this
      have e := eq_dg (by omega) HG.out.cx
      rw [hG] at e
      have HE := hid e
      clear e hG hv
      go_wp2_with (go_at_call 45; refine (clone_any _ _ _ us _ HG.out.rx (by omega)).mono ?_; rintro e w2 ⟨rfl, hr2, hg2⟩)
      go_ret
      have hrd := hr2.rd0 (by rw [HLU.out]; omega)
      have hl : (dg 65536 G).length = n := by rw [← HE.out]; exact HLU.out
      exact ⟨_, n, by rw [hl]; rfl, by rw [hl, ← HE.out]; rwa [HLU.out] at hrd, grown_trans hgw hg2⟩
    have m0 : ((m : Int) == 0) = false := by simp; omega
    have hvpos : 0 < V 65536 vs := HG.out.cy.pos (by omega) (fun e => by have := HLV.out; rw [e] at this; simp at this; omega)
    by_cases h4 : n ≤ 4
    · have n4 : (n : Int) ≤ 4 := by omega
      have hxb : V 65536 us < W64 := by rw [W64_eq]; exact V_word HG.out.cx.1 4 (by rw [HLU.out]; exact h4)
      have hyb : V 65536 vs < W64 := by rw [W64_eq]; exact V_word HG.out.cy.1 4 (by rw [HLV.out]; omega)
      have W1 := word_any p n c us wc HG.out.rx HG.out.cx.1 h4
      have W2 := word_any q m d vs wc HG.out.ry HG.out.cy.1 (by omega)
      have W3 := wordGcd_any (V 65536 us) (V 65536 vs) hxb hyb wc hTc
      have hgg := HG.out.gcd
      rw [hgg] at W3
      have hGb : G < W64 := by rw [← hgg]; exact Nat.lt_of_le_of_lt (Nat.gcd_le_right _ hvpos) hyb
      generalize V 65536 us = X at *
      generalize V 65536 vs = Y at *
      have K1 := hid W1
      have K2 := hid W2
      have K3 := hid W3
      clear W1 W2 W3 hgg hxb hyb hvpos
      have HGB := hid hGb
      clear hGb
      go_wp2_with (first
        | (go_at_call 46; (with_reducible refine (K1.out).mono ?_); rintro e w' ⟨rfl, rfl⟩)
        | (go_at_call 46; (with_reducible refine (K2.out).mono ?_); rintro e w' ⟨rfl, rfl⟩)
        | (go_at_call 57; (with_reducible refine (K3.out).mono ?_); rintro e w' ⟨rfl, rfl⟩)
        | (go_at_call 43; (with_reducible refine (of_at _ G rfl HGB.out _).mono ?_); rintro e w4 ⟨p2, c2, rfl, hr4, hg4⟩))
      go_ret
      exact ⟨p2, c2, rfl, hr4, grown_trans hgw hg4⟩
    · have n4 : ¬ (n : Int) ≤ 4 := by omega
      by_cases h5 : m ≤ 4
      · have m4 : (m : Int) ≤ 4 := by omega
        have hyb : V 65536 vs < W64 := by rw [W64_eq]; exact V_word HG.out.cy.1 4 (by rw [HLV.out]; omega)
        have K1 := hid (word_any q m d vs wc HG.out.ry HG.out.cy.1 h5)
        have K2 := hid (pack_any p n c us wc HG.out.rx HG.out.cx.1 (by omega))
        generalize hyv : V 65536 vs = Y at *
        have HY := hid hyv
        clear hyv
        go_wp2_with (first
          | (go_at_call 46; (with_reducible refine (K1.out).mono ?_); rintro e w' ⟨rfl, rfl⟩)
          | (go_at_call 47; (with_reducible refine (K2.out).mono ?_); rintro e w1 ⟨L, zs, rfl, hr1, HZ, hg1⟩))
        have hLz := HZ.out.2.1
        have hLb : L ≤ 250000 := by have := HZ.out.1; omega
        have hVz : V W64 (zs.take L) = V 65536 us := by rw [List.take_of_length_le (by rw [hLz]; exact Nat.le_refl _)]; exact HZ.out.2.2.1
        have D1 := divW_any wc.heap.size L L zs Y w1 hr1 (by omega) (Nat.le_refl _) (by omega) (by omega) HZ.out.2.2.2 hvpos hyb
        rw [hVz] at D1
        have hrb : V 65536 us % Y < W64 := Nat.lt_trans (Nat.mod_lt _ hvpos) hyb
        have hgg : Nat.gcd Y (V 65536 us % Y) = G := by
          rw [Nat.gcd_comm, ← Nat.gcd_rec, Nat.gcd_comm, ← HY.out]; exact HG.out.gcd
        have hGb : G < W64 := by rw [← hgg]; exact Nat.lt_of_le_of_lt (Nat.gcd_le_left _ hvpos) hyb
        have G1 : ∀ w2, w1.grownBy w2 (some wc.heap.size) → wc.grownBy w2 none := fun w2 hg2 => grown_new hg1 hg2 (fun g' e' => by cases e'; exact Nat.le_refl _)
        have W3 : ∀ w2, wc.grownBy w2 none → Calls Tryd.prog 57 #[.int .u64 Y, .int .u64 (V 65536 us % Y : Nat)] w2 fun e w' => e = .returned (.int .u64 G) ∧ w2 = w' := fun w2 hg2 => by
          have := wordGcd_any Y (V 65536 us % Y) hyb hrb w2 (hTc.keep hg2)
          rwa [hgg] at this
        generalize V 65536 us % Y = R at *
        have HD1 := hid D1
        have HG1 := hid G1
        have HW3 := hid W3
        have HGB := hid hGb
        clear D1 G1 W3 hGb hgg hrb hVz hLz hyb hvpos hr1
        go_wp2_with fail
        refine HD1.out.mono ?_
        rintro e w2 ⟨cu, rfl, _, hg2, _⟩
        have hg2' := HG1.out w2 hg2
        have HW4 := hid (HW3.out w2 hg2')
        clear HW3 HD1 HG1
        go_wp2_with fail
        refine HW4.out.mono ?_
        rintro e w' ⟨rfl, rfl⟩
        go_wp2_with fail
        refine (of_at _ G rfl HGB.out _).mono ?_
        rintro e w4 ⟨p2, c2, rfl, hr4, hg4⟩
        go_wp2_with fail
        go_ret
        exact ⟨p2, c2, rfl, hr4, grown_trans hgw (grown_trans hg2' hg4)⟩
      · have m4 : ¬ (m : Int) ≤ 4 := by omega
        have K1 := hid (pack_any p n c us wc HG.out.rx HG.out.cx.1 (by omega))
        have K2 := hid (fun w1 (hg1 : wc.grownBy w1 none) => pack_any q m d vs w1 (HG.out.ry.keep hg1) HG.out.cy.1 (by omega))
        go_wp2_with fail
        refine K1.out.mono ?_
        rintro e w1 ⟨L, zs, rfl, hr1, HZ, hg1⟩
        go_wp2_with fail
        refine (K2.out w1 hg1).mono ?_
        rintro e w2 ⟨M, ws, rfl, hr2, HWS, hg2⟩
        have hTl := hTc.lt
        have hrd2 := hr2.rd0 (by have := HWS.out.1; have := HWS.out.2.1; omega)
        rw [HWS.out.2.1] at hrd2
        have WGC := wordsGcd_any wc.heap.size L M M (some ⟨w1.heap.size, 0, none⟩) zs ws w2 ((hTc.keep hg1).keep hg2) (by omega) (hr1.kept hg2 (by simp)) HZ.out.2.1 hrd2 (by have := HZ.out.1; have := HWS.out.1; omega) (by have := HZ.out.1; omega) HZ.out.2.2.2 HWS.out.2.2.2
          (by rw [HZ.out.2.2.1, HWS.out.2.2.1]; exact HG.out.le)
        rw [HZ.out.2.2.1, HWS.out.2.2.1, HG.out.gcd] at WGC
        have HWG := hid WGC
        have hg12 := grown_trans hg1 hg2
        clear WGC hrd2 hr1 hr2 hvpos hTl K1 K2
        go_wp2_with fail
        refine HWG.out.mono ?_
        rintro e w3 ⟨p3, n3, c3, ls, rfl, hr3, hn3, HL, hg3⟩
        have hg3' : wc.grownBy w3 none := grown_new hg12 hg3 (fun g' e' => by cases e'; exact Nat.le_refl _)
        have U := unpack_any p3 n3 c3 ls w3 hr3 HL.out.1 (by omega)
        rw [HL.out.2] at U
        have HU := hid U
        clear U hr3
        go_wp2_with fail
        refine HU.out.mono ?_
        rintro e w4 ⟨p4, c4, rfl, hr4, hg4⟩
        go_wp2_with fail
        go_ret
        exact ⟨p4, c4, rfl, hr4, grown_trans hgw (grown_trans hg3' hg4)⟩

section
variable {w w' : World} {p q : Option Addr} {n c m d N M : Nat}
theorem natGcd_n (hT : Tb w) (hA : IsN w p n c N) (hB : IsN w q m d M) (hn : n ≤ 800000) (hm : m ≤ 800000) :
    Calls Tryd.prog 15 #[.slice p n c, .slice q m d] w fun e w' => ∃ p' n' c', e = .returned (.slice p' n' c') ∧ IsC w' p' n' c' (Nat.gcd N M) ∧ n' ≤ max n m ∧ w.grownBy w' none := by
  have lA := hA.lt
  have lB := hB.lt
  obtain ⟨L, h1, h2, rfl⟩ := hA
  obtain ⟨K, k1, k2, rfl⟩ := hB
  refine (natGcd_any p q n m c d L K w hT h1 k1 h2 k2 hn hm).mono fun e w' ⟨p', c', he, g1, hg⟩ => ⟨p', _, c', he, g1, ?_, hg⟩
  refine dg_length_le (by omega) ?_
  rcases Nat.eq_zero_or_pos (V 65536 L) with h0 | h0
  · rw [h0, Nat.gcd_zero_left]; exact Nat.lt_of_lt_of_le lB (Nat.pow_le_pow_right (by omega) (by omega))
  · exact Nat.lt_of_le_of_lt (Nat.gcd_le_left _ h0) (Nat.lt_of_lt_of_le lA (Nat.pow_le_pow_right (by omega) (by omega)))
end
end Go.Proofs.YtnfmjlomiihcnaaDoor

/-
  Contract of the reference Gcd.
-/
set_option linter.unusedVariables false
set_option linter.unusedSimpArgs false
namespace Go.Proofs.YtnfmjlomiihcnaaDoor
open Go.RowKit Nm

theorem IsC.zero_len {w : World} {p : Option Addr} {n c N : Nat} (h : IsC w p n c N) : (n = 0 ∧ N = 0) ∨ (0 < n ∧ 0 < N) := by
  have hl := h.len
  rcases Nat.eq_zero_or_pos N with h0 | h0
  · subst h0
    rw [dg_zero] at hl
    exact .inl ⟨by simpa using hl.symm, rfl⟩
  · refine .inr ⟨?_, h0⟩
    rcases Nat.eq_zero_or_pos n with h1 | h1
    · have e := V_dg (B := 65536) (by omega) N
      rw [List.eq_nil_of_length_eq_zero (hl.trans h1)] at e
      simp at e; omega
    · exact h1

/-- a call returns the valid Nat of G, of at most k limbs -/
def RPost (w : World) (k G : Nat) (e : Ending) (w' : World) : Prop := ∃ p n c, e = .returned (.slice p n c) ∧ IsC w' p n c G ∧ n ≤ k ∧ w.grownBy w' none

set_option maxHeartbeats 2000000 in
theorem refGcd_n {w : World} {p q : Option Addr} {n c m d N M : Nat} (hA : IsN w p n c N) (hB : IsN w q m d M) (hn : n ≤ 300000) (hm : m ≤ 300000) :
    Calls Tryd.prog 16 #[.slice p n c, .slice q m d] w (RPost w (max n m) (Nat.gcd N M)) := by
  obtain ⟨k, hk⟩ : ∃ k, k = max n m := ⟨_, rfl⟩
  obtain ⟨G, hG⟩ : ∃ G, G = Nat.gcd N M := ⟨_, rfl⟩
  rw [← hk, ← hG]
  have hk1 : n ≤ k := by omega
  have hk2 : m ≤ k := by omega
  have hk3 : k ≤ 300000 := by omega
  have HG := hid hG
  clear hk hG
  go_enter Tryd.func16, Tryd.ntmps16
  go_wp2_with fail
  refine (refNorm_n hA (by omega)).mono ?_
  rintro e w1 ⟨p1, n1, c1, rfl, hA1, hn1, hg1⟩
  go_wp2_with fail
  refine (refNorm_n (hB.keep hg1) (by omega)).mono ?_
  rintro e w2 ⟨p2, n2, c2, rfl, hB2, hn2, hg2⟩
  have hA2 := hA1.keep hg2
  have hW := grown_trans hg1 hg2
  clear hA hB hA1 hg1 hg2
  go_wp2_with fail
  go_loopg [0, 1] M (fun j x y wr => ∃ (p q : Option Addr) (n c m d A : Nat), x = .slice p n c ∧ y = .slice q m d ∧ IsC wr p n c A ∧ IsC wr q m d j ∧ n ≤ k ∧ m ≤ k ∧ w.grownBy wr none ∧ Hid (Nat.gcd A j = G))
  case atStart => exact ⟨_, _, _, _, _, _, N, rfl, rfl, hA2, hB2, by omega, by omega, hW, hid HG.out.symm⟩
  case round =>
    clear hA2 hB2 hW HG
    obtain ⟨p, q, n, c, m, d, A, rfl, rfl, hA, hB, hn, hm, hW, HG⟩ := hrel
    rcases hB.zero_len with ⟨rfl, rfl⟩ | ⟨h1, h2⟩
    · have hF : IsC wr p n c G := by have := HG.out; rw [Nat.gcd_zero_right] at this; exact this ▸ hA
      go_wp2
      go_ret
      exact ⟨p, n, c, rfl, hF, hn, hW⟩
    · have hlt := Nat.mod_lt A h2
      have hi : (0 : Int) < (m : Int) := by omega
      go_wp2_with fail
      refine (refDivMod_n hA.isN hB.isN (by omega) (by omega) h2).mono ?_
      rintro e w3 ⟨p3, n3, c3, p4, n4, c4, rfl, hQ, hR, hn3, hn4, hg3⟩
      have hB3 := hB.keep hg3
      have hW3 := grown_trans hW hg3
      clear hA hB hQ hW hg3
      have HR := hid (And.intro hR hB3)
      clear hR hB3
      go_wp2_with fail
      go_roundg (A % gk)
      case measure => exact hlt
      case rel => exact ⟨_, _, _, _, _, _, gk, rfl, rfl, HR.out.2, HR.out.1, hm, by omega, hW3, hid (by rw [Nat.gcd_comm, ← Nat.gcd_rec, Nat.gcd_comm]; exact HG.out)⟩
end Go.Proofs.YtnfmjlomiihcnaaDoor

/-
  Contracts of the specification's DivMod and Gcd over integers, of integer.Gcd, and of both DivMods by 0.
-/
set_option linter.unusedVariables false
set_option linter.unusedSimpArgs false
namespace Go.Proofs.YtnfmjlomiihcnaaDoor
open Go.RowKit Nm

set_option maxHeartbeats 4000000 in
theorem rDivMod_any {w : World} {ga gb : Bool} {p q : Option Addr} {n m c d N M : Nat} (hA : IsN w p n c N) (hB : IsN w q m d M) (hM : 0 < M) (hn : n ≤ 300000) (hm : m ≤ 300000) :
    Calls Tryd.prog 30 #[.agg #[.bool ga, .slice p n c], .agg #[.bool gb, .slice q m d]] w (DmI w (qZ ga gb N M) (rZ ga N M) (n + 6) (n + m + 6)) := by
  have hg4 := grown_trans (grown_trans (grown_trans (World.grownBy_alloc w (.cells #[.bool ga, .slice p n c] 43) none) (World.grownBy_alloc _ (.cells #[.bool gb, .slice q m d] 43) none)) (World.grownBy_alloc _ (.cells #[.bool false, .slice none 0 0] 43) none)) (World.grownBy_alloc _ (.cells #[.bool false, .slice none 0 0] 43) none)
  have HD := hid (refDivMod_n (hA.keep hg4) (hB.keep hg4) (by omega) (by omega) hM)
  have HLE : Hid (N % M ≤ M) := hid (Nat.le_of_lt (Nat.mod_lt _ hM))
  cases ga
  · have e1 : qZ false gb N M = sg gb (N / M) := by unfold qZ; rw [if_neg (fun h => absurd h.1 (by simp))]; cases gb <;> rfl
    have e2 : rZ false N M = N % M := by unfold rZ; rw [if_neg (fun h => absurd h.1 (by simp))]
    rw [e1, e2]
    clear e1 e2
    go_enter Tryd.func30, Tryd.ntmps30
    go_wp2_with fail
    refine HD.out.mono ?_
    rintro e w1 ⟨p1, n1, c1, p2, n2, c2, rfl, h1, h2, hn1, hn2, hg⟩
    have hc := gcell hg
    have hf := gfree hg
    have hz := hg.size
    simp at hz
    go_wp2_with fail
    refine (rOf_any gb h1.isN (by omega)).mono ?_
    rintro e v1 ⟨g5, p5, n5, c5, rfl, h5, hn5, kg⟩
    replace h2 := h2.keep kg; replace hg := grown_trans hg kg; clear kg
    clear hc hf hz
    have hc := gcell hg
    have hf := gfree hg
    have hz := hg.size
    simp at hz
    go_wp2_with fail
    refine (rOf_any false h2.isN (by omega)).mono ?_
    rintro e v2 ⟨g6, p6, n6, c6, rfl, h6, hn6, kg⟩
    replace h5 := h5.keep kg; replace hg := grown_trans hg kg; clear kg
    clear hc hf hz
    have hc := gcell hg
    have hf := gfree hg
    have hz := hg.size
    simp at hz
    go_wp2_with fail
    exact bodyPost_ret (v := .tuple #[.agg #[.bool g5, .slice p5 n5 c5], .agg #[.bool g6, .slice p6 n6 c6], .int .i64 0]) (by simp [results, Tryd.results30, go_sem, hc]) rfl
      (DmI.close hg4 (four_third _ _ _ _ _) (four_fourth _ _ _ _ _) (by omega) (by omega) (by omega) hg h5 h6 (by omega) (by omega))
  · go_enter Tryd.func30, Tryd.ntmps30
    go_wp2_with fail
    refine HD.out.mono ?_
    rintro e w1 ⟨p1, n1, c1, p2, n2, c2, rfl, h1, h2, hn1, hn2, hg⟩
    have hc := gcell hg
    have hf := gfree hg
    have hz := hg.size
    simp at hz
    rcases h2.zero_len with ⟨z1, z2⟩ | ⟨z1, z2⟩
    · have e1 : qZ true gb N M = sg (!gb) (N / M) := by unfold qZ; rw [if_neg (fun h => absurd h.2 (by omega))]; cases gb <;> rfl
      have e2 : rZ true N M = N % M := by unfold rZ; rw [if_neg (fun h => absurd h.2 (by omega))]
      have E1 := hid e1
      have E2 := hid e2
      clear e1 e2 z2
      subst z1
      go_wp2_with fail
      refine (rOf_any (!gb) h1.isN (by omega)).mono ?_
      rintro e v1 ⟨g5, p5, n5, c5, rfl, h5, hn5, kg⟩
      replace h2 := h2.keep kg; replace hg := grown_trans hg kg; clear kg
      clear hc hf hz
      have hc := gcell hg
      have hf := gfree hg
      have hz := hg.size
      simp at hz
      go_wp2_with fail
      refine (rOf_any false h2.isN (by omega)).mono ?_
      rintro e v2 ⟨g6, p6, n6, c6, rfl, h6, hn6, kg⟩
      replace h5 := h5.keep kg; replace hg := grown_trans hg kg; clear kg
      clear hc hf hz
      have hc := gcell hg
      have hf := gfree hg
      have hz := hg.size
      simp at hz
      go_wp2_with fail
      exact bodyPost_ret (v := .tuple #[.agg #[.bool g5, .slice p5 n5 c5], .agg #[.bool g6, .slice p6 n6 c6], .int .i64 0]) (by simp [results, Tryd.results30, go_sem, hc]) rfl
        (by rw [E1.out, E2.out]; exact DmI.close hg4 (four_third _ _ _ _ _) (four_fourth _ _ _ _ _) (by omega) (by omega) (by omega) hg h5 h6 (by omega) (by omega))
    · have e1 : qZ true gb N M = sg (!gb) (N / M + 1) := by unfold qZ; rw [if_pos ⟨rfl, z2⟩]; cases gb <;> rfl
      have e2 : rZ true N M = M - N % M := by unfold rZ; rw [if_pos ⟨rfl, z2⟩]
      have E1 := hid e1
      have E2 := hid e2
      clear e1 e2 z2
      have hB1 := (hB.keep hg4).keep hg
      have hlpi : (0 : Int) < (n2 : Int) := by omega
      go_wp2_with fail
      refine (refOf_c 1 (by decide) _).mono ?_
      rintro e w2 ⟨p3, n3, c3, rfl, h3, hn3, kg⟩
      replace h1 := h1.keep kg; replace h2 := h2.keep kg; replace hB1 := hB1.keep kg; replace hg := grown_trans hg kg; clear kg
      clear hc hf hz
      have hc := gcell hg
      have hf := gfree hg
      have hz := hg.size
      simp at hz
      go_wp2_with fail
      refine (refAdd_n h1.isN h3.isN (by omega) (by omega)).mono ?_
      rintro e w3 ⟨p4, n4, c4, rfl, h4, hn4, kg⟩
      replace h2 := h2.keep kg; replace hB1 := hB1.keep kg; replace hg := grown_trans hg kg; clear kg
      clear hc hf hz
      have hc := gcell hg
      have hf := gfree hg
      have hz := hg.size
      simp at hz
      go_wp2_with fail
      refine (refSub_n hB1 h2.isN (by omega) HLE.out).mono ?_
      rintro e w4 ⟨p7, n7, c7, rfl, h7, hn7, kg⟩
      replace h4 := h4.keep kg; replace hg := grown_trans hg kg; clear kg
      clear hc hf hz
      have hc := gcell hg
      have hf := gfree hg
      have hz := hg.size
      simp at hz
      go_wp2_with fail
      refine (rOf_any (!gb) h4.isN (by omega)).mono ?_
      rintro e v1 ⟨g5, p5, n5, c5, rfl, h5, hn5, kg⟩
      replace h7 := h7.keep kg; replace hg := grown_trans hg kg; clear kg
      clear hc hf hz
      have hc := gcell hg
      have hf := gfree hg
      have hz := hg.size
      simp at hz
      go_wp2_with fail
      refine (rOf_any false h7.isN (by omega)).mono ?_
      rintro e v2 ⟨g6, p6, n6, c6, rfl, h6, hn6, kg⟩
      replace h5 := h5.keep kg; replace hg := grown_trans hg kg; clear kg
      clear hc hf hz
      have hc := gcell hg
      have hf := gfree hg
      have hz := hg.size
      simp at hz
      go_wp2_with fail
      exact bodyPost_ret (v := .tuple #[.agg #[.bool g5, .slice p5 n5 c5], .agg #[.bool g6, .slice p6 n6 c6], .int .i64 0]) (by simp [results, Tryd.results30, go_sem, hc]) rfl
        (by rw [E1.out, E2.out]; exact DmI.close hg4 (four_third _ _ _ _ _) (four_fourth _ _ _ _ _) (by omega) (by omega) (by omega) hg h5 h6 (by omega) (by omega))

/-- what a division by 0 returns -/
def DmIE (w : World) (e : Ending) (w' : World) : Prop := e = .returned (.tuple #[.agg #[.bool false, .slice none 0 0], .agg #[.bool false, .slice none 0 0], .int .i64 3]) ∧ w.grownBy w' none
theorem DmIE.close {w W w5 : World} {G G2 : Nat} (hg3 : w.grownBy W none) (hG : w.heap.size ≤ G) (hG2 : w.heap.size ≤ G2) (hg35 : W.grownBy w5 none) (a b c d : Value) :
    DmIE w (.returned (.tuple #[.agg #[.bool false, .slice none 0 0], .agg #[.bool false, .slice none 0 0], .int .i64 3])) ((((w5.setCell ⟨G, 0, none⟩ a).setCell ⟨G, 1, none⟩ b).setCell ⟨G2, 0, none⟩ c).setCell ⟨G2, 1, none⟩ d) := by
  have h := grown_trans hg3 hg35
  have h1 : w.grownBy ((w5.setCell ⟨G, 0, none⟩ a).setCell ⟨G, 1, none⟩ b) none := grown_new h (grown_trans (grown_setCell w5 ⟨G, 0, none⟩ a) (grown_setCell _ ⟨G, 1, none⟩ b)) (fun g e => by cases e; exact hG)
  exact ⟨rfl, grown_new h1 (grown_trans (grown_setCell _ ⟨G2, 0, none⟩ c) (grown_setCell _ ⟨G2, 1, none⟩ d)) (fun g e => by cases e; exact hG2)⟩
theorem intDivMod_e {w : World} {ga gb : Bool} {p q : Option Addr} {n m c d N : Nat} (hA : IsN w p n c N) (hB : IsN w q m d 0) (hn : n ≤ 300000) (hm : m ≤ 300000) :
    Calls Tryd.prog 29 #[.agg #[.bool ga, .slice p n c], .agg #[.bool gb, .slice q m d]] w (DmIE w) := by
  have hg4 := grown_trans (grown_trans (grown_trans (World.grownBy_alloc w (.cells #[.bool ga, .slice p n c] 43) none) (World.grownBy_alloc _ (.cells #[.bool gb, .slice q m d] 43) none)) (World.grownBy_alloc _ (.cells #[.bool false, .slice none 0 0] 43) none)) (World.grownBy_alloc _ (.cells #[.bool false, .slice none 0 0] 43) none)
  have HD := hid (natDivMod_e (hA.keep hg4) (hB.keep hg4))
  go_enter Tryd.func29, Tryd.ntmps29
  go_wp2_with fail
  refine HD.out.mono ?_
  rintro e w1 ⟨rfl, hg⟩
  have hc := gcell hg
  have hf := gfree hg
  have hz := hg.size
  simp at hz
  go_wp2_with fail
  exact bodyPost_ret (v := .tuple #[.agg #[.bool false, .slice none 0 0], .agg #[.bool false, .slice none 0 0], .int .i64 3]) (by simp [results, Tryd.results29, go_sem, hc]) rfl
    (DmIE.close hg4 (by omega) (by omega) hg _ _ _ _)
theorem rDivMod_e {w : World} {ga gb : Bool} {p q : Option Addr} {n m c d N : Nat} (hA : IsN w p n c N) (hB : IsN w q m d 0) (hn : n ≤ 300000) (hm : m ≤ 300000) :
    Calls Tryd.prog 30 #[.agg #[.bool ga, .slice p n c], .agg #[.bool gb, .slice q m d]] w (DmIE w) := by
  have hg4 := grown_trans (grown_trans (grown_trans (World.grownBy_alloc w (.cells #[.bool ga, .slice p n c] 43) none) (World.grownBy_alloc _ (.cells #[.bool gb, .slice q m d] 43) none)) (World.grownBy_alloc _ (.cells #[.bool false, .slice none 0 0] 43) none)) (World.grownBy_alloc _ (.cells #[.bool false, .slice none 0 0] 43) none)
  have HD := hid (refDivMod_e (hA.keep hg4) (hB.keep hg4) (by omega) (by omega))
  go_enter Tryd.func30, Tryd.ntmps30
  go_wp2_with fail
  refine HD.out.mono ?_
  rintro e w1 ⟨rfl, hg⟩
  have hc := gcell hg
  have hf := gfree hg
  have hz := hg.size
  simp at hz
  go_wp2_with fail
  exact bodyPost_ret (v := .tuple #[.agg #[.bool false, .slice none 0 0], .agg #[.bool false, .slice none 0 0], .int .i64 3]) (by simp [results, Tryd.results30, go_sem, hc]) rfl
    (DmIE.close hg4 (by omega) (by omega) hg _ _ _ _)
theorem intGcd_any {w : World} (T : Tb w) {ga gb : Bool} {p q : Option Addr} {n m c d N M : Nat} (hA : IsN w p n c N) (hB : IsN w q m d M) (hn : n ≤ 300000) (hm : m ≤ 300000) :
    Calls Tryd.prog 32 #[.agg #[.bool ga, .slice p n c], .agg #[.bool gb, .slice q m d]] w (fun e w' => ∃ p' n' c', e = .returned (.slice p' n' c') ∧ IsC w' p' n' c' (Nat.gcd N M) ∧ n' ≤ max n m ∧ w.grownBy w' none) := by
  have hg2 := grown_trans (World.grownBy_alloc w (.cells #[.bool ga, .slice p n c] 43) none) (World.grownBy_alloc _ (.cells #[.bool gb, .slice q m d] 43) none)
  have HD := hid (natGcd_n (T.keep hg2) (hA.keep hg2) (hB.keep hg2) (by omega) (by omega))
  go_enter Tryd.func32, Tryd.ntmps32
  go_wp2_with fail
  refine HD.out.mono ?_
  rintro e w1 ⟨p1, n1, c1, rfl, h1, hn1, hg⟩
  go_wp2_with fail
  go_ret
  exact ⟨p1, n1, c1, rfl, h1, hn1, grown_trans hg2 hg⟩
theorem rGcdI_any {w : World} (T : Tb w) {ga gb : Bool} {p q : Option Addr} {n m c d N M : Nat} (hA : IsN w p n c N) (hB : IsN w q m d M) (hn : n ≤ 300000) (hm : m ≤ 300000) :
    Calls Tryd.prog 33 #[.agg #[.bool ga, .slice p n c], .agg #[.bool gb, .slice q m d]] w ((RPost w (max n m) (Nat.gcd N M))) := by
  have hg2 := grown_trans (World.grownBy_alloc w (.cells #[.bool ga, .slice p n c] 43) none) (World.grownBy_alloc _ (.cells #[.bool gb, .slice q m d] 43) none)
  have HD := hid (refGcd_n (hA.keep hg2) (hB.keep hg2) (by omega) (by omega))
  go_enter Tryd.func33, Tryd.ntmps33
  go_wp2_with fail
  refine HD.out.mono ?_
  rintro e w1 ⟨p1, n1, c1, rfl, h1, hn1, hg⟩
  go_wp2_with fail
  go_ret
  exact ⟨p1, n1, c1, rfl, h1, hn1, grown_trans hg2 hg⟩
end Go.Proofs.YtnfmjlomiihcnaaDoor

/-
  Arguments that are slices of limbs, opened; the frame of a law's row.
-/
set_option linter.unusedVariables false
set_option linter.unusedSimpArgs false
namespace Go.Proofs.YtnfmjlomiihcnaaDoor
open Go.ChangeShapes Go.WideShapes Go.ChangeAt Go.RowKit Nm

theorem own1 : ownKnob Tryd.prog.godebug = none := by kernel_rfl
theorem laidOut1 : laidOutB Tryd.prog = true := by kernel_rfl
theorem cells16 : Tryd.prog.cellsOf 37 = 1 := by kernel_rfl
theorem readNat : Tryd.prog.readableRec 23 = true := by kernel_rfl
theorem rowNat : 23 < Tryd.prog.types.size := of_decide_eq_true (by kernel_rfl)

section
variable {H : Type} {enc : TypeId × Value → H} {W : World} {v : Value} {d : DataW H} {ps : List MemPlace}
set_option maxRecDepth 100000 in
theorem open_nat (hval : Value.okWide Tryd.prog W .any 0 23 v) (h0 : DataW.Trod enc Tryd.prog W 0 (fun _ => true) true 23 v d ps) :
    ∃ a n c xs, v = .slice a n c ∧ IRd W .u16 a n c xs ∧ Dg 65536 xs := by
  obtain ⟨a0, len, cap, rfl⟩ := okWide_slice Tryd.underlying23 hval
  obtain ⟨fuel, hf⟩ := h0
  refine ⟨a0, len, cap, ?_⟩
  rcases open_ints Tryd.underlying23 Tryd.underlying37 cells16 hf with ⟨hcs, hx⟩ | ⟨a, len', cap', zs, hcs, _, hl, hm, hz, hx, hcell, hwz⟩
  · simp [Value.cells] at hcs
    obtain ⟨rfl, rfl, rfl⟩ := hcs
    exact ⟨[], rfl, IRd.nil W _, Dg.nil⟩
  · simp [Value.cells] at hcs
    obtain ⟨rfl, rfl, rfl⟩ := hcs
    simp only [if_true] at hz
    have hb : ∀ z ∈ zs, 0 ≤ z ∧ z ≤ 65535 := fun z hzm => bounds_u16 (hwz z hzm)
    refine ⟨(zs.take len).map Int.toNat, rfl, ⟨by simp; omega, hl, by unfold maxLen at hm; omega, fun j hj => ?_⟩, fun x hx' => ?_⟩
    · have hj' : j < len := by simp at hj; omega
      have hc := hcell j (by omega)
      have hg : zs.getD j 0 = zs[j]'(by omega) := by simp [List.getD, List.getElem?_eq_getElem (show j < zs.length by omega)]
      have hsp := World.cell?_spot (hcell 0 (by omega))
      have ha : ∃ b o, a = ⟨b, o, none⟩ := ⟨a.block, a.off, by
        cases a with
        | mk b o s => simp [Addr.add] at hsp; simp [hsp]⟩
      obtain ⟨b, o, rfl⟩ := ha
      refine ⟨b, o, rfl, ?_⟩
      rw [add_addr] at hc
      rw [hc, hg]
      have := hb _ (List.getElem_mem (show j < zs.length by omega))
      simp only [List.getElem_map, List.getElem_take]
      congr 2; omega
    · obtain ⟨z, hz1, rfl⟩ := List.mem_map.1 hx'
      have := hb z (List.mem_of_mem_take hz1)
      omega
end
end Go.Proofs.YtnfmjlomiihcnaaDoor

/-
  Arguments that are integers (a sign and a slice of limbs), opened.
-/
set_option linter.unusedVariables false
set_option linter.unusedSimpArgs false
namespace Go.Proofs.YtnfmjlomiihcnaaDoor
open Go.ChangeShapes Go.WideShapes Go.ChangeAt Go.RowKit Nm

theorem readInt : Tryd.prog.readableRec 43 = true := by kernel_rfl
theorem rowInt : 43 < Tryd.prog.types.size := of_decide_eq_true (by kernel_rfl)
theorem cellsInt : Tryd.prog.cellsOf 43 = 2 := by kernel_rfl
theorem cellsNat : Tryd.prog.cellsOf 23 = 1 := by kernel_rfl
theorem cellsBool : Tryd.prog.cellsOf 4 = 1 := by kernel_rfl

section
variable {H : Type} {enc : TypeId × Value → H} {W : World} {v : Value} {d : DataW H} {ps : List MemPlace}
set_option maxRecDepth 100000 in
theorem open_natcs {fuel : Nat} {cs : List Value} {x : DataW H × List MemPlace} (hf : DataW.trod enc Tryd.prog W 0 (fun _ => true) true fuel 23 cs = some x) :
    ∃ a n c xs, cs = [.slice a n c] ∧ IRd W .u16 a n c xs ∧ Dg 65536 xs := by
  rcases open_ints Tryd.underlying23 Tryd.underlying37 cells16 hf with ⟨hcs, hx⟩ | ⟨a, len', cap', zs, hcs, _, hl, hm, hz, hx, hcell, hwz⟩
  · exact ⟨none, 0, 0, [], hcs, IRd.nil W _, Dg.nil⟩
  · simp only [if_true] at hz
    have hb : ∀ z ∈ zs, 0 ≤ z ∧ z ≤ 65535 := fun z hzm => bounds_u16 (hwz z hzm)
    refine ⟨some a, len', cap', (zs.take len').map Int.toNat, hcs, ⟨by simp; omega, hl, by unfold maxLen at hm; omega, fun j hj => ?_⟩, fun x hx' => ?_⟩
    · have hj' : j < len' := by simp at hj; omega
      have hc := hcell j (by omega)
      have hg : zs.getD j 0 = zs[j]'(by omega) := by simp [List.getD, List.getElem?_eq_getElem (show j < zs.length by omega)]
      have hsp := World.cell?_spot (hcell 0 (by omega))
      have ha : ∃ b o, a = ⟨b, o, none⟩ := ⟨a.block, a.off, by
        cases a with
        | mk b o s => simp [Addr.add] at hsp; simp [hsp]⟩
      obtain ⟨b, o, rfl⟩ := ha
      refine ⟨b, o, rfl, ?_⟩
      rw [add_addr] at hc
      rw [hc, hg]
      have := hb _ (List.getElem_mem (show j < zs.length by omega))
      simp only [List.getElem_map, List.getElem_take]
      congr 2; omega
    · obtain ⟨z, hz1, rfl⟩ := List.mem_map.1 hx'
      have := hb z (List.mem_of_mem_take hz1)
      omega

set_option maxRecDepth 100000 in
theorem open_Int (hval : Value.okWide Tryd.prog W .any 0 43 v) (h0 : DataW.Trod enc Tryd.prog W 0 (fun _ => true) true 43 v d ps) :
    ∃ g a n c xs, v = .agg #[.bool g, .slice a n c] ∧ IRd W .u16 a n c xs ∧ Dg 65536 xs := by
  obtain ⟨cs, rfl, hsz⟩ := okWide_struct Tryd.underlying43 hval
  obtain ⟨fuel, hf⟩ := h0
  obtain ⟨y0, y1, k, hx, hl, h0, h1⟩ := trod_struct2 Tryd.underlying43 hf
  rw [cellsInt] at hl
  obtain ⟨b, hb, _⟩ := DataW.trod_bool Tryd.underlying4 h0
  obtain ⟨a, n, c, xs, hs, hr, hd⟩ := open_natcs h1
  rw [cellsBool] at hb
  rw [cellsNat] at hs
  refine ⟨b, a, n, c, xs, ?_, hr, hd⟩
  simp only [Value.cells] at hl hb hs
  obtain ⟨l⟩ := cs
  match l, hl with
  | [u, v], _ =>
    simp at hb hs
    rw [hb, hs]
end
end Go.Proofs.YtnfmjlomiihcnaaDoor

set_option linter.unusedVariables false
set_option linter.unusedSimpArgs false
namespace Go.Proofs.YtnfmjlomiihcnaaDoor
open Go.RowKit Nm

set_option maxHeartbeats 1000000 in
theorem small2_any (g c : Nat) (vs : List (Option Addr × Nat × Nat)) (w : World) (hn : vs.length ≤ 1000) (h : ∀ j (hj : j < vs.length), w.cell? ⟨g, j * 2 + 1, none⟩ = some (.slice vs[j].1 vs[j].2.1 vs[j].2.2)) :
    Calls Tryd.prog 27 #[.slice (some ⟨g, 0, none⟩) vs.length c] w fun e w' => e = .returned (.bool (decide (∀ v ∈ vs, v.2.1 ≤ 24))) ∧ w = w' := by
  obtain ⟨n, hnn⟩ : ∃ n, n = vs.length := ⟨_, rfl⟩
  rw [← hnn] at hn ⊢
  have H := hid h
  have HN := hid hnn
  clear h hnn
  go_enter Tryd.func27, Tryd.ntmps27
  go_wp2_with fail
  go_loop [3] (fun i => ∃ k : Nat, k ≤ n ∧ i = .int .i64 k ∧ Hid (∀ j (hj : j < vs.length), j < k → vs[j].2.1 ≤ 24)) (fun i => n - (intOf i).toNat)
  case atStart => exact ⟨0, Nat.zero_le _, rfl, hid fun j _ h => by omega⟩
  case round =>
    obtain ⟨k, hk, rfl, HK⟩ := hrel
    by_cases hlt : k < n
    · have hkv : k < vs.length := by rw [← HN.out]; exact hlt
      have hc := H.out k hkv
      obtain ⟨v, hv⟩ : ∃ v, v = vs[k] := ⟨_, rfl⟩
      rw [← hv] at hc
      obtain ⟨p, m, d⟩ := v
      simp only [] at hc
      have HV := hid hv
      clear hv
      have hki : (k : Int) < (n : Int) := by omega
      by_cases h24 : m ≤ 24
      · have h24' : ¬ ((24 : Int) < (m : Int)) := by omega
        go_wp2
        refine ⟨⟨k + 1, by omega, rfl, hid fun j hj hjk => ?_⟩, by simp [intOf]; omega⟩
        by_cases e : j = k
        · subst e; rw [← HV.out]; exact h24
        · exact HK.out j hj (by omega)
      · have h24' : ((24 : Int) < (m : Int)) := by omega
        go_wp2
        go_ret
        have : ¬ ∀ v ∈ vs, v.2.1 ≤ 24 := fun h => by
          have := h vs[k] (List.getElem_mem hkv)
          rw [← HV.out] at this; exact h24 this
        rw [decide_eq_false this]
        exact ⟨rfl, rfl⟩
    · obtain rfl : k = n := by omega
      go_wp2
      go_ret
      have : ∀ v ∈ vs, v.2.1 ≤ 24 := fun v hv => by
        obtain ⟨j, hj, rfl⟩ := List.getElem_of_mem hv
        exact HK.out j hj (by rw [HN.out]; exact hj)
      rw [decide_eq_true this]
      exact ⟨rfl, rfl⟩

end Go.Proofs.YtnfmjlomiihcnaaDoor

/-
  The first examples of package natural hold.
-/
set_option linter.unusedVariables false
set_option linter.unusedSimpArgs false
namespace Go.Proofs.YtnfmjlomiihcnaaDoor
open Go.RowKit Nm

theorem trimR_one (x : Nat) (h : x ≠ 0) : trimR [x] = [x] := by simp [trimR, h]

theorem dg_small (x : Nat) (h : 0 < x) (hb : x < 65536) : dg 65536 x = [x] := by
  rw [dg_step x h, Nat.mod_eq_of_lt hb, Nat.div_eq_of_lt hb, dg_zero]

set_option maxHeartbeats 2000000 in
theorem alive1 (w : World) : Calls Tryd.prog 11 #[] w fun e w' => e = .returned (.bool true) ∧ w.grownBy w' none := by
  have d100 : Dg 65536 [100] := Dg.cons (by omega) Dg.nil
  have d7 : Dg 65536 [7] := Dg.cons (by omega) Dg.nil
  have v100 : V 65536 [100] / V 65536 [7] = 14 := rfl
  have v7 : V 65536 [100] % V 65536 [7] = 2 := rfl
  have e14 : dg 65536 14 = [14] := dg_small 14 (by omega) (by omega)
  have e2 : dg 65536 2 = [2] := dg_small 2 (by omega) (by omega)
  have e3 : dg 65536 65537 = [1, 1] := by rw [dg_step 65537 (by omega)]; rw [show 65537 / 65536 = 1 from rfl, dg_small 1 (by omega) (by omega)]
  have HD := fun W (h : IRd W .u16 (some ⟨w.heap.size, 0, none⟩) 1 1 [100]) (k : IRd W .u16 (some ⟨w.heap.size + 1, 0, none⟩) 1 1 [7]) =>
    natDivMod_small _ _ 1 1 1 1 [100] [7] W h k d100 d7 (by rw [trimR_one _ (by omega)]; decide) (by rw [trimR_one _ (by omega), trimR_one _ (by omega)]; decide) (by decide)
  unfold DmPost at HD
  rw [v100, v7, e14, e2] at HD
  have HO := fun W => of_any 65537 (by decide) W
  rw [e3] at HO
  simp only [List.length_cons, List.length_nil, Nat.zero_add, Nat.reduceAdd] at HD HO
  have J14 := hid (show (14 : Int) = ((14 : Nat) : Int) from rfl)
  have J2 := hid (show (2 : Int) = ((2 : Nat) : Int) from rfl)
  have J11 := hid (show ∀ w : World, IRd (w.alloc (.cells #[.int .u16 1, .int .u16 1] 37)) .u16 (some ⟨w.heap.size, 0, none⟩) 2 2 [1, 1] from fun w => IRow.rd0 (IRow.made w 37 .u16 [1, 1]) (by simp))
  have HDD := hid HD
  have HOO := hid HO
  clear HD HO v100 v7 e14 e2 e3
  go_enter Tryd.func11, Tryd.ntmps11
  go_wp2_with (first
    | (go_at_call 12; refine (HDD.out _ ((one_rd w 37 .u16 100 100 rfl).keep (World.grownBy_alloc _ _ _)) (by have := one_rd (w.alloc (.cells #[.int .u16 100] 37)) 37 .u16 7 7 rfl; simpa using this)).mono ?_; rintro e w1 ⟨a1, a2, c1, c2, rfl, hr1, hr2, hg1⟩; have hh1 := hg1.size; simp at hh1)
    | (go_at_call 14; (with_reducible refine (same_any a1 _ 1 c1 1 [14] _ (hr1.keep (World.grownBy_alloc _ _ _)) (one_rd _ _ _ _ 14 J14.out)).mono ?_); rintro e w2 ⟨rfl, hg2⟩)
    | (go_at_call 14; (with_reducible refine (same_any a2 _ 1 c2 1 [2] _ (((hr2.keep (World.grownBy_alloc _ _ _)).keep hg2).keep (World.grownBy_alloc _ _ _)) (one_rd _ _ _ _ 2 J2.out)).mono ?_); rintro e w3 ⟨rfl, hg3⟩)
    | (go_at_call 43; refine (HOO.out _).mono ?_; rintro e w4 ⟨a5, c5, rfl, hr5, hg4⟩)
    | (go_at_call 14; (with_reducible refine (same_any a5 _ 2 c5 2 [1, 1] _ (hr5.keep (World.grownBy_alloc _ _ _)) (J11.out _)).mono ?_); rintro e w5 ⟨rfl, hg5⟩))
  go_ret
  exact ⟨rfl, by
    refine grown_trans ?_ hg5
    refine grown_trans ?_ (World.grownBy_alloc _ _ _)
    refine grown_trans ?_ hg4
    refine grown_trans ?_ hg3
    refine grown_trans ?_ (World.grownBy_alloc _ _ _)
    refine grown_trans ?_ hg2
    refine grown_trans ?_ (World.grownBy_alloc _ _ _)
    refine grown_trans ?_ hg1
    exact grown_trans (World.grownBy_alloc _ _ _) (World.grownBy_alloc _ _ _)⟩
end Go.Proofs.YtnfmjlomiihcnaaDoor

set_option linter.unusedVariables false
set_option linter.unusedSimpArgs false
namespace Go.Proofs.YtnfmjlomiihcnaaDoor
open Go.RowKit Nm

theorem natDivMod_smallv {w : World} {p q : Option Addr} {n m c d N M : Nat} (hA : IsC w p n c N) (hB : IsC w q m d M) (hN : N < W64) (hle : M ≤ N) (hM : 0 < M) :
    Calls Tryd.prog 12 #[.slice p n c, .slice q m d] w (DmPost w N M) := by
  have hcn := Can_dg (B := 65536) (by omega) N
  have hcm := Can_dg (B := 65536) (by omega) M
  have t1 : ∀ K, trimR (dg 65536 K) = dg 65536 K := fun K => by rw [trimR_dg (by omega) (Can_dg (by omega) K).1, V_dg (by omega)]
  have := natDivMod_small p q n m c d _ _ w hA hB hcn.1 hcm.1 (by rw [t1]; exact dg_len4 hN) (by
    rw [t1, t1]
    refine Nat.le_of_not_lt fun h => ?_
    have := Can.lt_of_length (by omega) hcn.1 hcm h
    rw [V_dg (by omega), V_dg (by omega)] at this; omega) (by rw [V_dg (by omega)]; exact hM)
  rwa [V_dg (by omega), V_dg (by omega)] at this

theorem lit_IsI (w : World) (g : Bool) (x : Nat) (h0 : 0 < x) (hx : x < 65536) (v : Int) (hv : v = (x : Int)) : IsI (w.alloc (.cells #[.int .u16 v] 37)) g (some ⟨w.heap.size, 0, none⟩) 1 1 (sg g x) := by
  refine ⟨?_, ?_⟩
  · rw [sg_abs]
    have := one_rd w 37 .u16 v x hv
    unfold IsC; rw [dg_small x h0 hx]; exact this
  · have := sg_neg g x
    rw [decide_eq_true h0] at this
    simpa using this.symm

set_option maxHeartbeats 4000000 in
theorem alive2 (w : World) : Calls Tryd.prog 28 #[] w fun e w' => e = .returned (.bool true) ∧ w.grownBy w' none := by
  have O7 := hid (fun W => intOf_neg (z := -7) (N := 7) rfl (by omega) (by decide) W)
  have O2 := hid (fun W => intOf_pos (z := 2) (N := 2) rfl (by decide) W)
  have O3 := hid (fun W => intOf_neg (z := -3) (N := 3) rfl (by omega) (by decide) W)
  have O4 := hid (fun W => intOf_neg (z := -2) (N := 2) rfl (by omega) (by decide) W)
  unfold IPost at O7 O2 O3 O4
  go_enter Tryd.func28, Tryd.ntmps28
  go_wp2_with fail
  refine (O7.out _).mono ?_
  rintro e w1 ⟨g1, p1, n1, c1, rfl, h1, l1, hW⟩
  go_wp2_with fail
  refine (O2.out _).mono ?_
  rintro e w2 ⟨g2, p2, n2, c2, rfl, h2, l2, hg⟩
  replace h1 := h1.keep hg; replace hW := grown_trans hW hg; clear hg
  have hgb1 : g1 = true := by rw [h1.2]; rfl
  have hgb2 : g2 = false := by rw [h2.2]; rfl
  subst hgb1; subst hgb2
  have e1 : qZ true false 7 2 = -4 := by decide
  have e2 : ((rZ true 7 2 : Nat) : Int) = 1 := by decide
  have HD := hid (intDivMod_any (ga := true) (gb := false) (N := 7) (M := 2) h1.z.1 h2.z.1 (by omega) (by omega) (by omega) (fun W hgW => natDivMod_smallv (h1.keep hgW).1 (h2.keep hgW).1 (by decide) (by decide) (by decide)))
  unfold DmI at HD
  rw [e1, e2] at HD
  clear e1 e2
  go_wp2_with fail
  refine HD.out.mono ?_
  rintro e w3 ⟨g3, p3, n3, c3, g4, p4, n4, c4, rfl, h3, h4, l3, l4, hg⟩
  replace hW := grown_trans hW hg; clear hg HD
  have hz := hW.size
  have L1 := lit_IsI ((w3.alloc (.cells #[.bool g3, .slice p3 n3 c3] 43)).alloc (.cells #[.bool g4, .slice p4 n4 c4] 43)) true 4 (by decide) (by decide) 4 rfl
  rw [show ((w3.alloc (.cells #[.bool g3, .slice p3 n3 c3] 43)).alloc (.cells #[.bool g4, .slice p4 n4 c4] 43)).heap.size = w3.heap.size + 1 + 1 from by simp] at L1
  have hgA := grown_trans (grown_trans (World.grownBy_alloc w3 (.cells #[.bool g3, .slice p3 n3 c3] 43) none) (World.grownBy_alloc _ (.cells #[.bool g4, .slice p4 n4 c4] 43) none)) (World.grownBy_alloc _ (.cells #[.int .u16 4] 37) none)
  go_wp2_with fail
  refine (same2_any (h3.keep hgA) L1 (by decide)).mono ?_
  rintro e w5 ⟨rfl, hg⟩
  have hc0 : w5.cell? ⟨w3.heap.size + 1, 0, none⟩ = some (.bool g4) := by
    rw [gcell hg (w3.heap.size + 1) 0 (by simp)]; simp [go_sem, World.cell?_alloc_past]
  have hc1 : w5.cell? ⟨w3.heap.size + 1, 1, none⟩ = some (.slice p4 n4 c4) := by
    rw [gcell hg (w3.heap.size + 1) 1 (by simp)]; simp [go_sem, World.cell?_alloc_past]
  replace hg := grown_trans hgA hg
  have hz5 := hg.size
  replace h4 := h4.keep hg
  replace hW := grown_trans hW hg
  clear hg L1 hgA h3
  go_wp2_with fail
  have L2 := lit_IsI w5 false 1 (by decide) (by decide) 1 rfl
  have hgA := World.grownBy_alloc w5 (.cells #[.int .u16 1] 37) none
  refine (same2_any (h4.keep hgA) L2 (by decide)).mono ?_
  rintro e w6 ⟨rfl, hg⟩
  replace hW := grown_trans hW (grown_trans hgA hg)
  clear hg hgA L2
  go_wp2_with fail
  refine (O3.out _).mono ?_
  rintro e w7 ⟨g5, p5, n5, c5, rfl, h5, l5, hg⟩
  replace hW := grown_trans hW hg; clear hg
  go_wp2_with fail
  refine (O4.out _).mono ?_
  rintro e w8 ⟨g6, p6, n6, c6, rfl, h6, l6, hg⟩
  replace hW := grown_trans hW hg
  replace h5 := h5.keep hg
  clear hg
  go_wp2_with fail
  refine (intCmp_any h5.z h6.z (by omega) (by omega)).mono ?_
  rintro e w9 ⟨rfl, hg⟩
  replace hW := grown_trans hW hg
  rw [show cmpI (-3) (-2) = -1 from by decide]
  go_wp2_with fail
  go_ret
  exact ⟨rfl, hW⟩
end Go.Proofs.YtnfmjlomiihcnaaDoor

/-
  What a tied row's condition gives the walks: the table of package math/bits.
-/
set_option linter.unusedVariables false
set_option linter.unusedSimpArgs false
namespace Go.Proofs.YtnfmjlomiihcnaaDoor
open Go.ChangeShapes Go.WideShapes Go.ChangeAt Go.RowKit Nm

theorem gTab : Tryd.prog.globalNamed "math/bits.deBruijn64tab" = some 2 := by kernel_rfl
theorem tTab : (Tryd.prog.globals[2]?).map (·.type) = some 112 := by kernel_rfl
theorem tab_data : (Rows.laid_math_bits_deBruijn64tab : DataW Unit) = Lib.tabData .u8 (Lib.deBruijn64tab.map Int.ofNat) := by rfl
theorem tb_of_tab {W : World} (h : Lib.TabIs Tryd.prog W "math/bits.deBruijn64tab" .u8 (Lib.deBruijn64tab.map Int.ofNat)) : Tb W := by
  intro j hj
  have hl : (Lib.deBruijn64tab.map Int.ofNat).length = 64 := by rfl
  have := h.cell gTab j (by omega)
  rw [this]
  congr 2
  have hl2 : Lib.deBruijn64tab.length = 64 := by rfl
  simp [List.getD, hl2, hj]
theorem tb_of_laid {W : World} (h : laidMetH Tryd.prog [("math/bits.deBruijn64tab", Rows.laid_math_bits_deBruijn64tab)] W) : Tb W := by
  rw [MakeChecks.laidMetH_plain _ _ _ (by kernel_rfl), tab_data] at h
  exact tb_of_tab (Lib.tabIs_of_head gTab tTab Tryd.underlying112 Tryd.underlying5 (by kernel_rfl) (by kernel_rfl) h)
end Go.Proofs.YtnfmjlomiihcnaaDoor
