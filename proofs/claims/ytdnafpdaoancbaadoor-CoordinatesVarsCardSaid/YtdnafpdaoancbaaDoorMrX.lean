/-
  Rit Dgh RatU SRow SOwn Box4 ZMem CvA CvB CvC, in one text.
-/
import Derived.Test.YtdnafpdaoancbaaDoorRtext
import Derived.Test.YtdnafpdaoancbaaDoorIntR
import Derived.Test.YtdnafpdaoancbaaDoorIntRB
import Derived.Test.YtdnafpdaoancbaaDoorMrR
import Derived.Deep.RegionHeld3
import Derived.Lib.Strings
import Derived.Laws.Strings2
import Derived.Laws.IdiomStrings
import Derived.Laws.Concat
import Derived.Lib.SmallJoins
import Derived.Test.YtdnafpdaoancbaaDoorMem
import Derived.Test.YtdnafpdaoancbaaDoorOwn
import Derived.Laws.MakeOwn
import Derived.BigQuiet

set_option linter.unusedVariables false
set_option linter.unusedSimpArgs false
namespace Go.Proofs.YtdnafpdaoancbaaDoor
open Go.RowKit _root_.Nm

/-- the numeral of an integer -/
def itx (Z : Int) : List UInt8 := if Z < 0 then 45 :: Lib.decDigits Z.natAbs else Lib.decDigits Z.natAbs
theorem itx_neg {Z : Int} (h : Z < 0) : itx Z = 45 :: Lib.decDigits Z.natAbs := if_pos h
theorem itx_pos {Z : Int} (h : ¬ Z < 0) : itx Z = Lib.decDigits Z.natAbs := if_neg h
theorem dec_limbs {N n : Nat} (h : N < 65536 ^ n) : (Lib.decDigits N).length ≤ 5 * n + 1 := by
  rcases Nat.eq_zero_or_pos N with h0 | h0
  · subst h0; rw [dec_one (by omega)]; simp
  · have := dd_limbs h
    rw [dd_pos h0] at this; omega
theorem cat_minus (w : World) (l : List UInt8) (h : l.length ≤ 200001) : (Op.stringOp .add ⟨#[45]⟩ ⟨l.toArray⟩).run Tryd.prog w = .ok (str (45 :: l)) w :=
  run_string_add_lists w [45] l (by simp) (by omega)

set_option maxHeartbeats 1000000 in
theorem rText_n {w : World} {g : Bool} {p : Option Addr} {n c : Nat} {Z : Int} (hA : IsZ w g p n c Z) (hn : n ≤ 40000) :
    Calls Tryd.prog 17 #[.agg #[.bool g, .slice p n c]] w fun e w' => e = .returned (str (itx Z)) ∧ w.grownBy w' none := by
  have hg1 := World.grownBy_alloc w (.cells #[.bool g, .slice p n c] 44) none
  have HN := hid (rNorm_any (hA.keep hg1) (by omega))
  have hl := dec_limbs hA.1.lt
  obtain ⟨l, hl'⟩ : ∃ l, l = Lib.decDigits Z.natAbs := ⟨_, rfl⟩
  rw [← hl'] at hl
  have hl2 : l.length ≤ 200001 := by omega
  have hcat := fun W => cat_minus W l hl2
  have HL := hid hl'
  clear hl hl'
  go_enter Tryd.func17, Tryd.ntmps17
  go_wp2_with fail
  refine HN.out.mono ?_
  rintro e w1 ⟨g1, p1, n1, c1, rfl, h1, hn1, hg⟩
  have hbx : w1.heap[w.heap.size]? = some (.cells #[.bool g, .slice p n c] 44 (0, 0)) := (hg.block _ (by simp) (by simp)).trans (heap_alloc_new w _)
  have hc := gcell hg
  have hf := gfree hg
  have hz := hg.size
  simp at hz
  have hgs : (w1.grownBy ((w1.setCell ⟨w.heap.size, 0, none⟩ (.bool g1)).setCell ⟨w.heap.size, 1, none⟩ (.slice p1 n1 c1)) (some w.heap.size)) := grown_trans (grown_setCell w1 ⟨w.heap.size, 0, none⟩ _) (grown_setCell _ ⟨w.heap.size, 1, none⟩ _)
  have h2 : IsI ((w1.setCell ⟨w.heap.size, 0, none⟩ (.bool g1)).setCell ⟨w.heap.size, 1, none⟩ (.slice p1 n1 c1)) g1 p1 n1 c1 Z := ⟨IRd.other h1.1 hbx (fun j z => two_cells _ _ _ _ j _ z) hgs, h1.2⟩
  have hgw := grown_new (grown_trans hg1 hg) hgs (fun g e => by cases e; exact Nat.le_refl _)
  have HT := hid (refText_n h2.z.1 (by omega))
  rw [← HL.out] at HT
  have hdec := h1.2
  by_cases hZ : Z < 0
  · have hX : Hid (itx Z = 45 :: l) := hid (by rw [itx_neg hZ, HL.out])
    rw [decide_eq_true hZ] at hdec
    subst hdec
    clear h1 h2 hbx hZ hgs
    go_wp2_with fail
    refine HT.out.mono ?_
    rintro e w2 ⟨rfl, hg2⟩
    go_wp2_with fail
    go_ret
    exact ⟨by rw [hX.out]; rfl, grown_trans hgw hg2⟩
  · have hX : Hid (itx Z = l) := hid (by rw [itx_pos hZ, HL.out])
    rw [decide_eq_false hZ] at hdec
    subst hdec
    clear h1 h2 hbx hZ hgs
    go_wp2_with fail
    refine HT.out.mono ?_
    rintro e w2 ⟨rfl, hg2⟩
    go_wp2_with fail
    go_ret
    exact ⟨by rw [hX.out]; rfl, grown_trans hgw hg2⟩


/-- the numeral of a rational number -/
def rtx (v : Rat) : List UInt8 := if v.den = 1 then itx v.num else itx v.num ++ [47] ++ Lib.decDigits v.den
theorem itx_limbs {Z : Int} {n : Nat} (h : Z.natAbs < 65536 ^ n) : (itx Z).length ≤ 5 * n + 2 := by
  have := dec_limbs h
  by_cases hz : Z < 0
  · rw [itx_neg hz]; simp; omega
  · rw [itx_pos hz]; omega

theorem set3_block {w : World} {G : Nat} {x y z : Value} {T : TypeId} (hb : w.heap[G]? = some (.cells #[x, y, z] T (0, 0))) (A B C : Value) :
    (((w.setCell ⟨G, 0, none⟩ A).setCell ⟨G, 1, none⟩ B).setCell ⟨G, 2, none⟩ C).heap[G]? = some (.cells #[A, B, C] T (0, 0)) := by
  have h1 := heap_setCell_same w G 0 _ _ A hb
  have h2 := heap_setCell_same _ G 1 _ _ B h1
  have h3 := heap_setCell_same _ G 2 _ _ C h2
  simpa using h3

theorem refOneL (w : World) : Calls Tryd.prog 16 #[.int .u64 1] w fun e w' => ∃ p n c, e = .returned (.slice p n c) ∧ IsC w' p n c 1 ∧ n ≤ 4 ∧ w.grownBy w' none := refOf_c 1 (by decide) w

set_option maxHeartbeats 4000000 in
set_option maxRecDepth 100000 in
theorem rRatText_v {w : World} {g : Bool} {p q : Option Addr} {n c m d : Nat} {v : Rat} (hA : IsQ w g p n c q m d v) (hn : n ≤ 1000) (hm : m ≤ 1000) :
    Calls Tryd.prog 11 #[.agg #[.bool g, .slice p n c, .slice q m d]] w fun e w' => e = .returned (str (rtx v)) ∧ w.grownBy w' none := by
  have hg1 := World.grownBy_alloc w (.cells #[.bool g, .slice p n c, .slice q m d] 46) none
  have HN := hid (norm_v 1000 (hA.keep hg1) hn hm (by omega))
  go_enter Tryd.func11, Tryd.ntmps11
  go_wp2_with fail
  refine HN.out.mono ?_
  rintro e w2 ⟨g2, p2, n2, c2, q2, m2, d2, rfl, ⟨i1, i2⟩, hn2, hm2, hg⟩
  have hbx : w2.heap[w.heap.size]? = some (.cells #[.bool g, .slice p n c, .slice q m d] 46 (0, 0)) := (hg.block _ (by simp) (by simp)).trans (heap_alloc_new w _)
  obtain ⟨x0, x1, x2, f0, f1, f2⟩ := ratbox_facts hbx
  have hgs := set3_grown w2 w.heap.size (.bool g2) (.slice p2 n2 c2) (.slice q2 m2 d2)
  have hb3 := set3_block hbx (.bool g2) (.slice p2 n2 c2) (.slice q2 m2 d2)
  replace i1 : IsI _ g2 p2 n2 c2 v.num := ⟨IsC.other3 i1.1 hbx hgs, i1.2⟩
  replace i2 := i2.other3 hbx hgs
  have hW := grown_new (grown_trans hg1 hg) hgs (fun g e => by cases e; exact Nat.le_refl _)
  obtain ⟨y0, y1, y2, _, _, _⟩ := ratbox_facts hb3
  have hl1 : (itx v.num).length ≤ 200002 := by have := itx_limbs i1.1.isN.lt; omega
  have hl2 : (Lib.decDigits v.den).length ≤ 200001 := by have := dec_limbs i2.isN.lt; omega
  obtain ⟨l1, hl1e⟩ : ∃ l1, l1 = itx v.num := ⟨_, rfl⟩
  obtain ⟨l2, hl2e⟩ : ∃ l2, l2 = Lib.decDigits v.den := ⟨_, rfl⟩
  rw [← hl1e] at hl1
  rw [← hl2e] at hl2
  have hcat1 : ∀ w, (Op.stringOp .add ⟨l1.toArray⟩ ⟨#[47]⟩).run Tryd.prog w = .ok (str (l1 ++ [47])) w := fun w => run_string_add_lists w l1 [47] (by omega) (by simp)
  have hcat2 : ∀ w, (Op.stringOp .add ⟨(l1 ++ [47]).toArray⟩ ⟨l2.toArray⟩).run Tryd.prog w = .ok (str (l1 ++ [47] ++ l2)) w := fun w => run_string_add_lists w (l1 ++ [47]) l2 (by simp; omega) (by omega)
  have HL := hid (And.intro hl1e hl2e)
  have HT1 := hid (fun W (h : IsI W g2 p2 n2 c2 v.num) => rText_n h.z (by omega))
  rw [← HL.out.1] at HT1
  have HT2 := hid (fun W (h : IsC W q2 m2 d2 v.den) => refText_n h.isN (by omega))
  rw [← HL.out.2] at HT2
  clear hl1e hl2e hgs hb3 hbx hA HN hg hg1
  go_upto_region 2 with fail
  generalize ((w2.setCell ⟨w.heap.size, 0, none⟩ (.bool g2)).setCell ⟨w.heap.size, 1, none⟩ (.slice p2 n2 c2)).setCell ⟨w.heap.size, 2, none⟩ (.slice q2 m2 d2) = w3 at *
  generalize w.heap.size = K at *
  have hg := grown_drew w3 none
  replace i1 := i1.keep hg; replace i2 := i2.keep hg; replace y0 := hg.cell y0 (by simp); replace y1 := hg.cell y1 (by simp); replace y2 := hg.cell y2 (by simp); replace hW := grown_trans hW hg; clear hg
  go_region_held3 (fun w' => w'.cell? ⟨K, 0, none⟩ = some (.bool g2) ∧ w'.cell? ⟨K, 1, none⟩ = some (.slice p2 n2 c2) ∧ w'.cell? ⟨K, 2, none⟩ = some (.slice q2 m2 d2)) ((try go_split_ands) <;> (repeat' apply And.intro) <;> (repeat (first | (with_reducible assumption) | (with_reducible refine (grown_setCell _ _ _).cell ?_ (by simp; omega)) | (with_reducible refine (World.grownBy_alloc _ _ none).cell ?_ (by simp)) | (with_reducible refine (grown_drew _ none).cell ?_ (by simp)))))
    (first
      | (go_at_call 16; (with_reducible refine (refOneL _).mono ?_); rintro e w4 ⟨p4, n4, c4, rfl, hO, hn4, hg⟩; replace i1 := i1.keep hg; replace i2 := i2.keep hg; replace y0 := hg.cell y0 (by simp); replace y1 := hg.cell y1 (by simp); replace y2 := hg.cell y2 (by simp); replace hW := grown_trans hW hg; clear hg)
      | (go_at_call 15; (with_reducible refine (same_d i2 hO).mono ?_); rintro e w5 ⟨rfl, hg⟩; replace i1 := i1.keep hg; replace i2 := i2.keep hg; replace y0 := hg.cell y0 (by simp); replace y1 := hg.cell y1 (by simp); replace y2 := hg.cell y2 (by simp); replace hW := grown_trans hW hg; clear hg))
  by_cases hd : v.den = 1
  · have HR : Hid (rtx v = l1) := hid (by unfold rtx; rw [if_pos hd, HL.out.1])
    rw [decide_eq_true hd]
    clear hd
    go_wp2_with fail
    refine (HT1.out _ i1).mono ?_
    rintro e w6 ⟨rfl, hg⟩
    go_wp2_with fail
    go_ret
    exact ⟨by rw [HR.out]; rfl, grown_trans hW hg⟩
  · have HR : Hid (rtx v = l1 ++ [47] ++ l2) := hid (by unfold rtx; rw [if_neg hd, HL.out.1, HL.out.2])
    rw [decide_eq_false hd]
    clear hd
    go_upto_region 4 with fail
    have hg := grown_drew w5 none
    replace i1 := i1.keep hg; replace i2 := i2.keep hg; replace y0 := hg.cell y0 (by simp); replace y1 := hg.cell y1 (by simp); replace y2 := hg.cell y2 (by simp); replace hW := grown_trans hW hg; clear hg
    go_region_held3 (fun w' => w'.cell? ⟨K, 0, none⟩ = some (.bool g2) ∧ w'.cell? ⟨K, 1, none⟩ = some (.slice p2 n2 c2) ∧ w'.cell? ⟨K, 2, none⟩ = some (.slice q2 m2 d2)) ((try go_split_ands) <;> (repeat' apply And.intro) <;> (repeat (first | (with_reducible assumption) | (with_reducible refine (grown_setCell _ _ _).cell ?_ (by simp; omega)) | (with_reducible refine (World.grownBy_alloc _ _ none).cell ?_ (by simp)) | (with_reducible refine (grown_drew _ none).cell ?_ (by simp)))))
      (first
        | (go_at_call 17; (with_reducible refine (HT1.out _ i1).mono ?_); rintro e w6 ⟨rfl, hg⟩; replace i1 := i1.keep hg; replace i2 := i2.keep hg; replace y0 := hg.cell y0 (by simp); replace y1 := hg.cell y1 (by simp); replace y2 := hg.cell y2 (by simp); replace hW := grown_trans hW hg; clear hg)
        | (go_at_call 18; (with_reducible refine (HT2.out _ i2).mono ?_); rintro e w7 ⟨rfl, hg⟩; replace i1 := i1.keep hg; replace i2 := i2.keep hg; replace y0 := hg.cell y0 (by simp); replace y1 := hg.cell y1 (by simp); replace y2 := hg.cell y2 (by simp); replace hW := grown_trans hW hg; clear hg))
    all_goals
      go_wp2_with fail
      go_ret
      exact ⟨by rw [HR.out, List.append_assoc]; rfl, hW⟩
end Go.Proofs.YtdnafpdaoancbaaDoor

set_option linter.unusedVariables false
set_option linter.unusedSimpArgs false
namespace Go.Proofs.YtdnafpdaoancbaaDoor
open Go.RowKit _root_.Nm
/-- a number below 100 in decimal -/
def dgH (n : Nat) : ByteArray := if n < 10 then ⟨#[UInt8.ofNat (48 + n)]⟩ else ⟨#[UInt8.ofNat (48 + n / 10), UInt8.ofNat (48 + n % 10)]⟩
theorem dgH_size (n : Nat) : (dgH n).size ≤ 2 := by
  unfold dgH
  split
  · exact (by decide : 1 ≤ 2)
  · exact (by decide : 2 ≤ 2)
theorem sliceH (s : ByteArray) (lo hi : Nat) (h1 : lo ≤ hi) (h2 : hi ≤ s.size) (wx : World) : (Instr.slice 9 (.string s) (some (.int .i64 (lo : Int))) (some (.int .i64 (hi : Int))) none).run Tryd.prog wx = .ok (.string (s.extract lo hi)) wx := by
  rw [run_slice_string wx 9 s .i64 .i64 (lo : Int) (hi : Int) (by kernel_rfl) (by omega) (by omega) (by omega), Int.toNat_natCast, Int.toNat_natCast]
def lowH : ByteArray := ⟨#[48, 49, 50, 51, 52, 53, 54, 55, 56, 57, 97, 98, 99, 100, 101, 102, 103, 104, 105, 106, 107, 108, 109, 110, 111, 112, 113, 114, 115, 116, 117, 118, 119, 120, 121, 122]⟩
theorem low_tabH : ∀ n : Fin 10, lowH.extract n (n + 1) = dgH n := by decide +kernel
set_option maxHeartbeats 8000000 in
set_option maxRecDepth 100000 in
theorem smallH_low (n : Nat) (h : n < 10) (w : World) : Calls Tryd.prog 29 #[.int .i64 n] w fun e w' => e = .returned (.string (dgH n)) ∧ w.grownBy w' none := by
  have h1 : (n : Int) < 10 := by omega
  have hsl : ∀ wx, (Instr.slice 9 (.string ⟨#[48, 49, 50, 51, 52, 53, 54, 55, 56, 57, 97, 98, 99, 100, 101, 102, 103, 104, 105, 106, 107, 108, 109, 110, 111, 112, 113, 114, 115, 116, 117, 118, 119, 120, 121, 122]⟩) (some (.int .i64 (n : Int))) (some (.int .i64 ((n : Int) + 1))) none).run Tryd.prog wx = .ok (.string (dgH n)) wx := fun wx => by
    have := sliceH lowH n (n + 1) (by omega) (by have : lowH.size = 36 := by decide
                                                 omega) wx
    rw [low_tabH ⟨n, h⟩] at this
    exact this
  generalize dgH n = d at *
  go_enter Tryd.func29, Tryd.ntmps29
  go_wp2_with fail
  go_ret
  exact ⟨rfl, grown_refl _ _⟩
def highH : ByteArray := ⟨#[48, 48, 48, 49, 48, 50, 48, 51, 48, 52, 48, 53, 48, 54, 48, 55, 48, 56, 48, 57, 49, 48, 49, 49, 49, 50, 49, 51, 49, 52, 49, 53, 49, 54, 49, 55, 49, 56, 49, 57, 50, 48, 50, 49, 50, 50, 50, 51, 50, 52, 50, 53, 50, 54, 50, 55, 50, 56, 50, 57, 51, 48, 51, 49, 51, 50, 51, 51, 51, 52, 51, 53, 51, 54, 51, 55, 51, 56, 51, 57, 52, 48, 52, 49, 52, 50, 52, 51, 52, 52, 52, 53, 52, 54, 52, 55, 52, 56, 52, 57, 53, 48, 53, 49, 53, 50, 53, 51, 53, 52, 53, 53, 53, 54, 53, 55, 53, 56, 53, 57, 54, 48, 54, 49, 54, 50, 54, 51, 54, 52, 54, 53, 54, 54, 54, 55, 54, 56, 54, 57, 55, 48, 55, 49, 55, 50, 55, 51, 55, 52, 55, 53, 55, 54, 55, 55, 55, 56, 55, 57, 56, 48, 56, 49, 56, 50, 56, 51, 56, 52, 56, 53, 56, 54, 56, 55, 56, 56, 56, 57, 57, 48, 57, 49, 57, 50, 57, 51, 57, 52, 57, 53, 57, 54, 57, 55, 57, 56, 57, 57]⟩
theorem high_tabH : ∀ n : Fin 100, 10 ≤ n.val → highH.extract (n * 2) (n * 2 + 2) = dgH n := by decide +kernel
theorem high_sizeH : highH.size = 200 := by decide +kernel
set_option maxHeartbeats 8000000 in
set_option maxRecDepth 100000 in
theorem smallH_high (n : Nat) (h : 10 ≤ n) (h6 : n < 100) (w : World) : Calls Tryd.prog 29 #[.int .i64 n] w fun e w' => e = .returned (.string (dgH n)) ∧ w.grownBy w' none := by
  have h1 : ¬ (n : Int) < 10 := by omega
  have hsl : ∀ wx, (Instr.slice 9 (.string ⟨#[48, 48, 48, 49, 48, 50, 48, 51, 48, 52, 48, 53, 48, 54, 48, 55, 48, 56, 48, 57, 49, 48, 49, 49, 49, 50, 49, 51, 49, 52, 49, 53, 49, 54, 49, 55, 49, 56, 49, 57, 50, 48, 50, 49, 50, 50, 50, 51, 50, 52, 50, 53, 50, 54, 50, 55, 50, 56, 50, 57, 51, 48, 51, 49, 51, 50, 51, 51, 51, 52, 51, 53, 51, 54, 51, 55, 51, 56, 51, 57, 52, 48, 52, 49, 52, 50, 52, 51, 52, 52, 52, 53, 52, 54, 52, 55, 52, 56, 52, 57, 53, 48, 53, 49, 53, 50, 53, 51, 53, 52, 53, 53, 53, 54, 53, 55, 53, 56, 53, 57, 54, 48, 54, 49, 54, 50, 54, 51, 54, 52, 54, 53, 54, 54, 54, 55, 54, 56, 54, 57, 55, 48, 55, 49, 55, 50, 55, 51, 55, 52, 55, 53, 55, 54, 55, 55, 55, 56, 55, 57, 56, 48, 56, 49, 56, 50, 56, 51, 56, 52, 56, 53, 56, 54, 56, 55, 56, 56, 56, 57, 57, 48, 57, 49, 57, 50, 57, 51, 57, 52, 57, 53, 57, 54, 57, 55, 57, 56, 57, 57]⟩) (some (.int .i64 ((n : Int) * 2))) (some (.int .i64 ((n : Int) * 2 + 2))) none).run Tryd.prog wx = .ok (.string (dgH n)) wx := fun wx => by
    have := sliceH highH (n * 2) (n * 2 + 2) (by omega) (by rw [high_sizeH]; omega) wx
    rw [high_tabH ⟨n, h6⟩ h] at this
    exact this
  generalize dgH n = d at *
  go_enter Tryd.func29, Tryd.ntmps29
  go_wp2_with fail
  go_ret
  exact ⟨rfl, grown_refl _ _⟩
theorem smallH_any (n : Nat) (hn : n < 100) (w : World) : Calls Tryd.prog 29 #[.int .i64 n] w fun e w' => e = .returned (.string (dgH n)) ∧ w.grownBy w' none := by
  by_cases h : n < 10
  · exact smallH_low n h w
  · exact smallH_high n (by omega) hn w
set_option maxHeartbeats 8000000 in
set_option maxRecDepth 100000 in
theorem itoaH_any (n : Nat) (hn : n < 100) (w : World) : Calls Tryd.prog 10 #[.int .i64 n] w fun e w' => e = .returned (.string (dgH n)) ∧ w.grownBy w' none := by
  have HS := hid fun w => smallH_any n hn w
  have h0 : (0 : Int) ≤ (n : Int) := by omega
  have h1 : (n : Int) < 100 := by omega
  generalize dgH n = d at *
  have HF : Hid (∀ w, Calls Tryd.prog 21 #[.int .i64 n, .int .i64 10] w fun e w' => e = .returned (.string d) ∧ w.grownBy w' none) := hid fun w => by
    go_enter Tryd.func21, Tryd.ntmps21
    go_wp2_with (go_at_call 29; refine (HS.out _).mono ?_; rintro e w1 ⟨rfl, hg⟩)
    go_ret
    exact ⟨rfl, hg⟩
  have HI : Hid (∀ w, Calls Tryd.prog 13 #[.int .i64 n] w fun e w' => e = .returned (.string d) ∧ w.grownBy w' none) := hid fun w => by
    go_enter Tryd.func13, Tryd.ntmps13
    go_wp2_with (go_at_call 21; refine (HF.out _).mono ?_; rintro e w1 ⟨rfl, hg⟩)
    go_ret
    exact ⟨rfl, hg⟩
  go_enter Tryd.func10, Tryd.ntmps10
  go_wp2_with (go_at_call 13; refine (HI.out _).mono ?_; rintro e w1 ⟨rfl, hg⟩)
  go_ret
  exact ⟨rfl, hg⟩
end Go.Proofs.YtdnafpdaoancbaaDoor

set_option linter.unusedVariables false
set_option linter.unusedSimpArgs false
namespace Go.Proofs.YtdnafpdaoancbaaDoor
open Go.ChangeShapes Go.WideShapes Go.ChangeAt Go.RowKit Nm
open Go

theorem two_facts {w : World} {G : Nat} {x y : Int} {T : TypeId} (hb : w.heap[G]? = some (.cells #[.int .i64 x, .int .i64 y] T (0, 0))) :
    w.cell? ⟨G, 0, none⟩ = some (.int .i64 x) ∧ w.cell? ⟨G, 1, none⟩ = some (.int .i64 y) := by
  have k0 := cell_of_row w G 0 _ _ _ hb
  have k1 := cell_of_row w G 1 _ _ _ hb
  simp at k0 k1
  exact ⟨k0, k1⟩




set_option maxRecDepth 20000 in
set_option maxHeartbeats 4000000 in
theorem rOf3_v {w : World} (x : Int) (h1 : -9223372036854775808 ≤ x) (h2 : x ≤ 9223372036854775807) :
    Calls Tryd.prog 12 #[.int .i64 x] w (VPost w (x : Rat) 20) := by
  have HV := hid (show mkRat x 1 = (x : Rat) by
    rw [Rat.mkRat_eq_div]
    have : ((1 : Nat) : Rat) = 1 := rfl
    rw [this]; grind)
  have hW := (World.grownBy_alloc w (.cells #[.bool false, .slice none 0 0, .slice none 0 0] 46) none)
  have bx0 : (w.alloc (.cells #[.bool false, .slice none 0 0, .slice none 0 0] 46)).heap[w.heap.size]? = some (.cells #[.bool false, .slice none 0 0, .slice none 0 0] 46 (0, 0)) := by
    have := heap_alloc_new w (.cells #[.bool false, .slice none 0 0, .slice none 0 0] 46)
    simpa using this
  skip
  go_enter Tryd.func12, Tryd.ntmps12
  go_wp2_with fail
  generalize (w.alloc (.cells #[.bool false, .slice none 0 0, .slice none 0 0] 46)) = w0 at *
  refine (rOfI x _ h1 h2).mono ?_
  rintro ee v1 ⟨g1, p1, n1, c1, rfl, hX, hn1, hg⟩
  replace bx0 := (hg.block _ (lt_of_block bx0) (by simp)).trans bx0; replace hW := grown_trans hW hg
  clear hg
  go_wp2_with fail
  refine (refOf_c 1 (by unfold W64; omega) _).mono ?_
  rintro ee v2 ⟨q2, m2, d2, rfl, hY, hm2, hg⟩
  replace hX := hX.keep hg; replace bx0 := (hg.block _ (lt_of_block bx0) (by simp)).trans bx0; replace hW := grown_trans hW hg
  clear hg
  go_wp2_with fail
  refine (over_v 20 hX.z hY.isN HV.out (by omega) (by omega) (by omega)).mono ?_
  rintro ee v3 ⟨g6, p6, n6, c6, q6, m6, d6, rfl, hZ, hn6, hm6, hg⟩
  replace hX := hX.keep hg; replace hY := hY.keep hg; replace bx0 := (hg.block _ (lt_of_block bx0) (by simp)).trans bx0; replace hW := grown_trans hW hg
  clear hg
  obtain ⟨l0, l1, l2, f0, f1, f2⟩ := ratbox_facts bx0
  go_wp2_with fail
  exact bodyPost_ret (v := .agg #[.bool g6, .slice p6 n6 c6, .slice q6 m6 d6]) (by simp [results, Tryd.results12, go_sem, l0, l1, l2, f0, f1, f2]) rfl
    (VPost.close bx0 (by omega) hW hZ (by omega) (by omega))



end Go.Proofs.YtdnafpdaoancbaaDoor

set_option linter.unusedVariables false
set_option linter.unusedSimpArgs false
namespace Nm
open Go Go.RowKit

/-- the address a is the head of elements of k cells that read as l -/
def SCel (w : World) (k : Nat) (a : Option Addr) (l : List (List Value)) : Prop :=
  ∀ i (h : i < l.length) j (hj : j < (l[i]).length), ∃ b o, a = some ⟨b, o, none⟩ ∧ w.cell? ⟨b, o + i * k + j, none⟩ = some (l[i])[j]
/-- .slice a n c is a slice of structs of k cells that reads as l -/
structure SRd (w : World) (k : Nat) (a : Option Addr) (n c : Nat) (l : List (List Value)) : Prop where
  len : l.length = n
  each : ∀ r ∈ l, r.length = k
  cap : n ≤ c
  max : c ≤ 9223372036854775807
  cel : SCel w k a l
section
variable {w w' : World} {k : Nat} {a : Option Addr} {n c : Nat} {l : List (List Value)}
theorem SRd.kept (h : SRd w k a n c l) {row : Option Nat} (hg : w.grownBy w' row) (hne : row = none ∨ ∀ p, a = some p → some p.block ≠ row) : SRd w' k a n c l := by
  refine ⟨h.len, h.each, h.cap, h.max, fun i hi j hj => ?_⟩
  obtain ⟨b, o, rfl, hc⟩ := h.cel i hi j hj
  refine ⟨b, o, rfl, hg.cell hc ?_⟩
  rcases hne with rfl | hne
  · simp
  · exact hne ⟨b, o, none⟩ rfl
theorem SRd.keep (h : SRd w k a n c l) (hg : w.grownBy w' none) : SRd w' k a n c l := h.kept hg (.inl rfl)
theorem SRd.nil (w : World) (k : Nat) : SRd w k none 0 0 [] := ⟨rfl, by simp, Nat.le_refl _, by omega, fun i h => by simp at h⟩
/-- the cells of one element -/
theorem SRd.at (h : SRd w k a n c l) (hk : 0 < k) {i : Nat} (hi : i < l.length) : ∃ b o, a = some ⟨b, o, none⟩ ∧ ∀ j (hj : j < (l[i]).length), w.cell? ⟨b, o + i * k + j, none⟩ = some (l[i])[j] := by
  have hl := h.each l[i] (List.getElem_mem hi)
  obtain ⟨b, o, rfl, _⟩ := h.cel i hi 0 (by omega)
  refine ⟨b, o, rfl, fun j hj => ?_⟩
  obtain ⟨b', o', e, hc⟩ := h.cel i hi j hj
  cases e
  exact hc
end
end Nm

set_option linter.unusedVariables false
set_option linter.unusedSimpArgs false
namespace Nm
open Go Go.RowKit

/-- .slice a n c is nil, or the head of a row of the call's own, from block base on, whose first n elements of k cells are l -/
def SOwn (w : World) (base : Nat) (e : TypeId) (k : Nat) (a : Option Addr) (n c : Nat) (l : List (List Value)) : Prop :=
  l.length = n ∧ (∀ r ∈ l, r.length = k) ∧ w.ownsRow base e k (.slice a n c) n l.flatten

theorem flatten_get {k : Nat} : ∀ {l : List (List Value)} (h : ∀ r ∈ l, r.length = k) (i : Nat) (hi : i < l.length) (j : Nat) (hj : j < (l[i]).length), l.flatten[i * k + j]? = some (l[i])[j]
  | r :: l, h, 0, hi, j, hj => by
    simp only [List.getElem_cons_zero] at hj ⊢
    rw [List.flatten_cons, Nat.zero_mul, Nat.zero_add, List.getElem?_append_left hj]
    simp
  | r :: l, h, i + 1, hi, j, hj => by
    simp only [List.getElem_cons_succ] at hj ⊢
    have hr := h r (by simp)
    rw [List.flatten_cons, List.getElem?_append_right (by rw [hr, Nat.add_mul]; omega), hr]
    have ih := flatten_get (fun r hr => h r (by simp [hr])) i (by simpa using hi) j hj
    rw [show (i + 1) * k + j - k = i * k + j by rw [Nat.add_mul]; omega]
    exact ih

section
variable {w w' : World} {base : Nat} {e : TypeId} {k : Nat} {a : Option Addr} {n c : Nat} {l : List (List Value)}
theorem SOwn.nil (w : World) (base : Nat) (e : TypeId) (k : Nat) : SOwn w base e k none 0 0 [] := ⟨rfl, by simp, World.ownsRow_nil w base e k⟩
theorem SOwn.rd (h : SOwn w base e k a n c l) : SRd w k a n c l := by
  obtain ⟨hl, he, h1, h2 | ⟨g, cap, cur, hv, hb, hg, hn, hm, hs, ht⟩⟩ := h
  · obtain ⟨hv, rfl⟩ := h2
    simp only [Value.slice.injEq, true_and] at hv
    obtain ⟨rfl, rfl⟩ := hv
    obtain rfl : l = [] := List.eq_nil_of_length_eq_zero hl
    exact SRd.nil w k
  · simp only [Value.slice.injEq, true_and] at hv
    obtain ⟨rfl, rfl⟩ := hv
    refine ⟨hl, he, hn, by unfold maxLen at hm; omega, fun i hi j hj => ⟨g, 0, rfl, ?_⟩⟩
    have h3 := World.ownsRow.cells (w := w) (base := base) (e := e) (size := k) (v := .slice (some ⟨g, 0, none⟩) n c) (n := n) (xs := l.flatten) ⟨h1, .inr ⟨g, c, cur, rfl, hb, hg, hn, hm, hs, ht⟩⟩ (g := g) rfl (i * k + j) _ (flatten_get he i hi j hj)
    rw [add_addr] at h3
    rw [Nat.zero_add] at h3
    rw [Nat.zero_add]
    exact h3
theorem SOwn.lt (h : SOwn w base e k a n c l) : ∀ p, a = some p → base ≤ p.block ∧ p.block < w.heap.size := fun p hp => by
  subst hp
  exact h.2.2.lt p.block rfl
theorem SOwn.kept (h : SOwn w base e k a n c l) {row : Option Nat} (hg : w.grownBy w' row) (hne : row = none ∨ ∀ p, a = some p → some p.block ≠ row) : SOwn w' base e k a n c l := by
  refine ⟨h.1, h.2.1, h.2.2.kept hg ?_⟩
  cases a with
  | none => exact .inl rfl
  | some p =>
    rcases hne with rfl | hne
    · exact .inr (by simp [Value.ownBlock])
    · exact .inr (hne p rfl)
theorem SOwn.keep (h : SOwn w base e k a n c l) (hg : w.grownBy w' none) : SOwn w' base e k a n c l := h.kept hg (.inl rfl)
theorem SOwn.alloc (h : SOwn w base e k a n c l) (o : Obj) : SOwn (w.alloc o) base e k a n c l := ⟨h.1, h.2.1, h.2.2.alloc o⟩
end

/-- a new slice of one struct -/
theorem one_srd (w : World) (e : TypeId) (k : Nat) (r : List Value) (hr : r.length = k) (b : Nat) (hb : b = w.heap.size) : SRd (w.alloc (.cells r.toArray e)) k (some ⟨b, 0, none⟩) 1 1 [r] := by
  subst hb
  refine ⟨rfl, by simpa using hr, Nat.le_refl _, by omega, fun i hi j hj => ⟨w.heap.size, 0, rfl, ?_⟩⟩
  simp only [List.length_cons, List.length_nil, Nat.zero_add, Nat.lt_one_iff] at hi
  subst hi
  simp only [List.getElem_cons_zero] at hj ⊢
  rw [cell_of_row _ w.heap.size (0 + 0 * k + j) _ _ _ (heap_alloc_new w _)]
  simp [hj]

section
variable {P : Program} {ops : Array Oper} {rest : List Oper} {o : Oper} {a : Act} {Q : Exit → Act → World → Prop}
/-- append of one struct, a new slice .slice sp 1 c', to a slice of the call's own -/
theorem wls_append (w : World) (hgd : o.guard = none) (s x : Operand) (t : TypeId)
    (ho : o.op = .call { callee := .builtin .append, args := #[s, x], argTypes := #[t, t] })
    (e : TypeId) (k : Nat) (z : Value) (bytes : Nat) (h1 : P.underlying t = some (.slice e)) (h2 : (P.info? e).map (fun i => (i.zero, i.size, i.bytes)) = some (some z, k, bytes)) (hz : z.cells.size = k) (hk : 0 < k)
    (base : Nat) (p : Option Addr) (n c : Nat) (l : List (List Value)) (hs : a.eval s = .slice p n c) (hown : SOwn w base e k p n c l)
    (sp : Option Addr) (c' : Nat) (r : List Value) (hx : a.eval x = .slice sp 1 c') (hrd : SRd w k sp 1 c' [r]) (h1c : ∀ u ∈ r, u.oneCell' = true)
    (b1 : n + 1 ≤ 9223372036854775807) (b2 : (n + 1) * bytes ≤ 140737488355328) (w0 : World) (hg0 : w0.grownBy w none) (hb0 : w0.heap.size ≤ base) (hbase : base ≤ w.heap.size)
    (hK : ∀ p' c2 w', SOwn w' base e k p' (n + 1) c2 (l ++ [r]) → w0.grownBy w' none → (∀ G O, w.heap[G]? = some O → (∀ q, p = some q → q.block ≠ G) → w'.heap[G]? = some O) → wpList P ops Q rest (a.put o.dst (.slice p' (n + 1) c2)) w') : wpList P ops Q (o :: rest) a w := by
  obtain ⟨i, hi, hz0, hz1, hz2⟩ := info_parts h2
  subst hz2
  have hrk : r.length = k := hrd.each r (by simp)
  obtain ⟨b, o', rfl, hc⟩ := hrd.at hk (i := 0) (by simp)
  refine wpList_append_own w hgd s x t ho base e i z k i.bytes h1 hi hz0 hz1 rfl hz hk _ n l.flatten hs hown.2.2 ⟨b, o', none⟩ 1 c' r hx (by simpa using hrk) ?_ h1c (by unfold maxLen; omega) b2 hbase ?_
  · intro j u hu
    obtain ⟨hj, rfl⟩ := List.getElem?_eq_some_iff.1 hu
    have := hc j (by simpa using hj)
    rw [add_addr]
    simpa using this
  · intro v' w' hown' hgr _
    obtain ⟨hl, h3⟩ := hown'
    have hv' : ∃ p' c2, v' = .slice p' (n + 1) c2 := by
      rcases h3 with ⟨rfl, h4⟩ | ⟨g, cap, cur, rfl, _⟩
      · exact ⟨none, 0, by rw [h4]⟩
      · exact ⟨_, _, rfl⟩
    obtain ⟨p', c2, rfl⟩ := hv'
    refine hK p' c2 w' ⟨by simp [hown.1], ?_, by simpa using ⟨hl, h3⟩⟩ (grown_new hg0 hgr fun g hg => ?_) (fun G O hG hne => (hgr.block G (lt_of_block hG) ?_).trans hG)
    · intro q hq
      rcases List.mem_append.1 hq with h | h
      · exact hown.2.1 q h
      · rw [List.mem_singleton.1 h]; exact hrk
    · cases p with
      | none => simp [Value.ownBlock] at hg
      | some q =>
        simp [Value.ownBlock] at hg
        have := (hown.lt q rfl).1
        omega
    · cases p with
      | none => simp [Value.ownBlock]
      | some q =>
        simp only [Value.ownBlock, ne_eq, Option.some.injEq]
        exact fun e => hne q rfl e.symm
end
end Nm

set_option linter.unusedVariables false
set_option linter.unusedSimpArgs false
namespace Nm
open Go Go.RowKit

theorem blk0 (w : World) (A : Obj) : (w.alloc A).heap[w.heap.size]? = some A := heap_alloc_new w A
theorem blk1 (w : World) (A B : Obj) : ((w.alloc A).alloc B).heap[w.heap.size]? = some A := (heap_alloc_old _ _ (by simp)).trans (heap_alloc_new w A)
theorem blk2 (w : World) (A B C : Obj) : (((w.alloc A).alloc B).alloc C).heap[w.heap.size]? = some A := (heap_alloc_old _ _ (by simp; omega)).trans (blk1 w A B)

section
variable {w : World} {G : Nat} {x y z u : Value} {T : TypeId}
theorem box4 (hb : w.heap[G]? = some (.cells #[x, y, z, u] T (0, 0))) :
    (w.cell? ⟨G, 0, none⟩ = some x ∧ w.cell? ⟨G, 1, none⟩ = some y ∧ w.cell? ⟨G, 2, none⟩ = some z ∧ w.cell? ⟨G, 3, none⟩ = some u) ∧ w.frozen? ⟨G, 0, none⟩ = false ∧ w.frozen? ⟨G, 1, none⟩ = false ∧ w.frozen? ⟨G, 2, none⟩ = false ∧ w.frozen? ⟨G, 3, none⟩ = false := by
  have k0 := cell_of_row w G 0 _ _ _ hb
  have k1 := cell_of_row w G 1 _ _ _ hb
  have k2 := cell_of_row w G 2 _ _ _ hb
  have k3 := cell_of_row w G 3 _ _ _ hb
  simp at k0 k1 k2 k3
  exact ⟨⟨k0, k1, k2, k3⟩, frozen_of_row w G 0 _ _ hb, frozen_of_row w G 1 _ _ hb, frozen_of_row w G 2 _ _ hb, frozen_of_row w G 3 _ _ hb⟩
theorem set4 (hb : w.heap[G]? = some (.cells #[x, y, z, u] T (0, 0))) (A B C D : Value) :
    ((((w.setCell ⟨G, 0, none⟩ A).setCell ⟨G, 1, none⟩ B).setCell ⟨G, 2, none⟩ C).setCell ⟨G, 3, none⟩ D).heap[G]? = some (.cells #[A, B, C, D] T (0, 0)) := by
  have h1 := heap_setCell_same w G 0 _ _ A hb
  have h2 := heap_setCell_same _ G 1 _ _ B h1
  have h3 := heap_setCell_same _ G 2 _ _ C h2
  have h4 := heap_setCell_same _ G 3 _ _ D h3
  simpa using h4
theorem set4_grown (w : World) (G : Nat) (A B C D : Value) : w.grownBy ((((w.setCell ⟨G, 0, none⟩ A).setCell ⟨G, 1, none⟩ B).setCell ⟨G, 2, none⟩ C).setCell ⟨G, 3, none⟩ D) (some G) :=
  grown_trans (grown_setCell w ⟨G, 0, none⟩ A) (grown_trans (grown_setCell _ ⟨G, 1, none⟩ B) (grown_trans (grown_setCell _ ⟨G, 2, none⟩ C) (grown_setCell _ ⟨G, 3, none⟩ D)))
theorem set1_grown {w0 w : World} (h : w0.grownBy w none) (G o : Nat) (A : Value) (hG : w0.heap.size ≤ G) : w0.grownBy (w.setCell ⟨G, o, none⟩ A) none :=
  grown_new h (grown_setCell w ⟨G, o, none⟩ A) fun g e => by cases e; exact hG
theorem set4_new {w0 w : World} (h : w0.grownBy w none) (G : Nat) (A B C D : Value) (hG : w0.heap.size ≤ G) : w0.grownBy ((((w.setCell ⟨G, 0, none⟩ A).setCell ⟨G, 1, none⟩ B).setCell ⟨G, 2, none⟩ C).setCell ⟨G, 3, none⟩ D) none :=
  grown_new h (set4_grown w G A B C D) fun g e => by cases e; exact hG
theorem keepB {w' : World} {O : Obj} (hb : w.heap[G]? = some O) (hg : w.grownBy w' none) : w'.heap[G]? = some O := (hg.block G (lt_of_block hb) (by simp)).trans hb
end
end Nm

set_option linter.unusedVariables false
set_option linter.unusedSimpArgs false
namespace Nm
open Go Go.RowKit

/-- a number of kind k as a value -/
abbrev zv (k : IntKind) (n : Int) : Value := .int k n

/-- block g of w is an unfrozen row of numbers of kind k, of the element type e -/
def ZRow (w : World) (g : Nat) (e : TypeId) (k : IntKind) (xs : List Int) : Prop :=
  w.heap[g]? = some (.cells (xs.map (zv k)).toArray e (0, 0))

section
variable {w w' : World} {g : Nat} {e : TypeId} {k : IntKind} {xs : List Int}
theorem ZRow.lt (h : ZRow w g e k xs) : g < w.heap.size := lt_of_block h
theorem ZRow.cell (h : ZRow w g e k xs) (j : Nat) (hj : j < xs.length) : w.cell? ⟨g, j, none⟩ = some (.int k xs[j]) := by
  rw [cell_of_row w g j _ _ _ h]; simp [hj]
theorem ZRow.free (h : ZRow w g e k xs) (j : Nat) : w.frozen? ⟨g, j, none⟩ = false := frozen_of_row w g j _ _ h
theorem ZRow.set (h : ZRow w g e k xs) (j : Nat) (y : Int) : ZRow (w.setCell ⟨g, j, none⟩ (.int k y)) g e k (xs.set j y) := by
  unfold ZRow at h ⊢
  rw [heap_setCell_same w g j _ _ _ h]
  simp
theorem ZRow.setv (h : ZRow w g e k xs) (j : Nat) (v : Int) (y : Int) (hv : v = y) : ZRow (w.setCell ⟨g, j, none⟩ (.int k v)) g e k (xs.set j y) := by
  subst hv; exact h.set j _
theorem ZRow.kept (h : ZRow w g e k xs) {row : Option Nat} (hg : w.grownBy w' row) (hne : some g ≠ row) : ZRow w' g e k xs :=
  (hg.block g h.lt hne).trans h
theorem ZRow.made (w : World) (e : TypeId) (k : IntKind) (xs : List Int) : ZRow (w.alloc (.cells (xs.map (zv k)).toArray e)) w.heap.size e k xs := heap_alloc_new w _
theorem ZRow.drew (h : ZRow w g e k xs) : ZRow w.drew g e k xs := h
end

/-- the address a is the head of cells that read as xs -/
def ZCel (w : World) (k : IntKind) (a : Option Addr) (xs : List Int) : Prop :=
  ∀ j (h : j < xs.length), ∃ b o, a = some ⟨b, o, none⟩ ∧ w.cell? ⟨b, o + j, none⟩ = some (.int k xs[j])

/-- .slice a n c is a slice of numbers of kind k that reads as xs -/
structure ZRd (w : World) (k : IntKind) (a : Option Addr) (n c : Nat) (xs : List Int) : Prop where
  len : xs.length = n
  cap : n ≤ c
  max : c ≤ 9223372036854775807
  cel : ZCel w k a xs

section
variable {w w' : World} {k : IntKind} {a : Option Addr} {n c : Nat} {xs : List Int}
theorem ZRd.kept (h : ZRd w k a n c xs) {row : Option Nat} (hg : w.grownBy w' row) (hne : row = none ∨ ∀ p, a = some p → some p.block ≠ row) : ZRd w' k a n c xs := by
  refine ⟨h.len, h.cap, h.max, fun j hj => ?_⟩
  obtain ⟨b, o, rfl, hc⟩ := h.cel j hj
  refine ⟨b, o, rfl, hg.cell hc ?_⟩
  rcases hne with rfl | hne
  · simp
  · exact hne ⟨b, o, none⟩ rfl
theorem ZRd.keep (h : ZRd w k a n c xs) (hg : w.grownBy w' none) : ZRd w' k a n c xs := h.kept hg (.inl rfl)
theorem ZRd.drew (h : ZRd w k a n c xs) : ZRd w.drew k a n c xs := ⟨h.len, h.cap, h.max, h.cel⟩
theorem ZRd.nil (w : World) (k : IntKind) : ZRd w k none 0 0 [] := ⟨rfl, Nat.le_refl _, by omega, fun j h => by simp at h⟩
theorem ZRd.block (h : ZRd w k a n c xs) (hn : 0 < n) : ∃ b o, a = some ⟨b, o, none⟩ ∧ b < w.heap.size ∧ ∀ j (h : j < xs.length), w.cell? ⟨b, o + j, none⟩ = some (.int k xs[j]) := by
  obtain ⟨b, o, rfl, hc⟩ := h.cel 0 (by rw [h.len]; exact hn)
  refine ⟨b, o, rfl, World.block_lt_of_cell? _ _ hc, fun j hj => ?_⟩
  obtain ⟨b', o', e, hc'⟩ := h.cel j hj
  cases e; exact hc'
/-- the first m cells -/
theorem ZRd.take (h : ZRd w k a n c xs) (m : Nat) (hm : m ≤ n) : ZRd w k a m c (xs.take m) := by
  refine ⟨by rw [List.length_take, h.len]; omega, Nat.le_trans hm h.cap, h.max, fun j hj => ?_⟩
  have hj' : j < xs.length := by rw [List.length_take] at hj; omega
  obtain ⟨b, o, e, hc⟩ := h.cel j hj'
  exact ⟨b, o, e, by rw [hc]; simp⟩
/-- cells lo to hi -/
theorem ZRd.sub (h : ZRd w k a n c xs) (lo hi c' : Nat) (h1 : lo ≤ hi) (h2 : hi ≤ n) (hc' : hi - lo ≤ c') (hm : c' ≤ 9223372036854775807) (a' : Option Addr) (ha : lo < hi → a' = a.map (·.add lo)) :
    ZRd w k a' (hi - lo) c' ((xs.drop lo).take (hi - lo)) := by
  refine ⟨by rw [List.length_take, List.length_drop, h.len]; omega, hc', hm, fun j hj => ?_⟩
  rw [List.length_take, List.length_drop, h.len] at hj
  obtain ⟨b, o, e, hc⟩ := h.cel (lo + j) (by rw [h.len]; omega)
  have ha' := ha (by omega)
  subst e
  refine ⟨b, o + lo, ?_, ?_⟩
  · rw [ha']; simp only [Option.map_some, Option.some.injEq]; unfold Addr.add; split
    · rename_i h0; subst h0; rfl
    · rfl
  · rw [show o + lo + j = o + (lo + j) by omega, hc]; simp
end

theorem ZRd.cut {w : World} {k : IntKind} {b o n c : Nat} {xs : List Int} (h : ZRd w k (some ⟨b, o, none⟩) n c xs) (lo hi c' : Nat) (h1 : lo ≤ hi) (h2 : hi ≤ n) (hc' : hi - lo ≤ c') (hm : c' ≤ 9223372036854775807) :
    ZRd w k (some ⟨b, o + lo, none⟩) (hi - lo) c' ((xs.drop lo).take (hi - lo)) :=
  h.sub lo hi c' h1 h2 hc' hm _ fun _ => by rw [Option.map_some, add_addr]

/-- a row of one's own reads as its content, from any place on -/
theorem ZRow.rd {w : World} {g : Nat} {e : TypeId} {k : IntKind} {xs : List Int} (h : ZRow w g e k xs) (o n c : Nat) (hn : o + n ≤ xs.length) (hc : n ≤ c) (hm : c ≤ 9223372036854775807) :
    ZRd w k (some ⟨g, o, none⟩) n c ((xs.drop o).take n) := by
  have hl : ((xs.drop o).take n).length = n := by simp; omega
  refine ⟨hl, hc, hm, fun j hj => ⟨g, o, rfl, ?_⟩⟩
  rw [hl] at hj
  rw [h.cell (o + j) (by omega)]
  simp
theorem ZRow.rd0 {w : World} {g : Nat} {e : TypeId} {k : IntKind} {xs : List Int} (h : ZRow w g e k xs) (hm : xs.length ≤ 9223372036854775807) :
    ZRd w k (some ⟨g, 0, none⟩) xs.length xs.length xs := by
  have := h.rd 0 xs.length xs.length (by omega) (Nat.le_refl _) hm
  simpa using this

/-! ### make, copy, append on rows of numbers -/
section
variable {P : Program} {ops : Array Oper} {rest : List Oper} {o : Oper} {a : Act} {Q : Exit → Act → World → Prop}

theorem wz_make (w : World) (hg : o.guard = none) (l c : Operand) (t : TypeId) (hop : o.op = Op.makeSlice t l c)
    (e : TypeId) (k : IntKind) (bytes : Nat) (h1 : P.underlying t = some (.slice e)) (h2 : (P.info? e).map (fun i => (i.zero, i.size, i.bytes)) = some (some (.int k 0), 1, bytes))
    (kl kc : IntKind) (L C : Int) (hl : a.eval l = .int kl L) (hc : a.eval c = .int kc C) (n : Nat) (hL : L = (n : Int)) (hC : C = (n : Int)) (b2 : bytes * n ≤ 281474976710656) (b3 : n ≤ 9223372036854775807)
    (hK : ∀ w', ZRow w' w.heap.size e k (List.replicate n 0) → w.grownBy w' none → wpList P ops Q rest (a.put o.dst (.slice (some ⟨w.heap.size, 0, none⟩) n n)) w') :
    wpList P ops Q (o :: rest) a w := by
  obtain ⟨i, hi, hz0, hz1, hz2⟩ := info_parts h2
  subst hz2
  refine wpList_make_full w hg l c t hop w.heap.size e i (.int k 0) 1 h1 hi hz0 hz1 kl kc L C n hl hc hL hC b2 (by unfold maxLen; omega) (Nat.le_refl _) fun w' ho hgr => hK w' ?_ hgr
  obtain ⟨_, h | ⟨g, cap, cur, hv, _, hh, _, _, hs, ht⟩⟩ := ho
  · simp at h
  · simp only [Value.slice.injEq, Option.some.injEq, Addr.mk.injEq, and_true, true_and] at hv
    obtain ⟨rfl, rfl⟩ := hv
    unfold ZRow
    rw [hh]
    have e1 : cur.toList = List.replicate n (.int k 0) := by
      rw [Nat.mul_one] at hs ht
      rw [List.take_of_length_le (by simp [hs])] at ht
      rw [ht]; exact toList_madeCells_one _ _
    have e2 : cur = (List.replicate n (Value.int k 0)).toArray := by rw [← e1]
    rw [e2]; simp

theorem wz_copy (w : World) (hgd : o.guard = none) (d s : Operand) (dT sT : TypeId)
    (ho : o.op = .call { callee := .builtin .copy, args := #[d, s], argTypes := #[dT, sT] }) (e : TypeId) (hu : P.underlying dT = some (.slice e)) (hsz : (P.info? e).map (·.size) = some 1)
    (k : IntKind) (dp sp : Option Addr) (dLen dCap sLen sCap : Nat) (hd : a.eval d = .slice dp dLen dCap) (hs : a.eval s = .slice sp sLen sCap)
    (g off : Nat) (t : TypeId) (cur xs : List Int) (hg : ZRow w g t k cur) (hdp : 0 < dLen → dp = some ⟨g, off, none⟩) (hx : ZRd w k sp sLen sCap xs) (hfit : off + dLen ≤ cur.length)
    (h : ∀ w', ZRow w' g t k (splice cur off (xs.take dLen)) → w.grownBy w' (some g) → wpList P ops Q rest (a.put o.dst (.int .i64 ((min sLen dLen : Nat) : Int))) w') :
    wpList P ops Q (o :: rest) a w := by
  have hlen : ((xs.take dLen).map (zv k)).length = Nat.min sLen dLen := by
    rw [List.length_map, List.length_take, hx.len, Nat.min_comm]
  by_cases h0 : Nat.min sLen dLen = 0
  · refine wpList_copy_nothing hgd d s dT sT ho e hu hsz dp sp dLen dCap sLen sCap hd hs h0 ?_
    have hm : min sLen dLen = 0 := h0
    have := h w ?_ (grown_refl _ _)
    · rw [hm] at this; exact this
    · have e1 : xs.take dLen = [] := List.eq_nil_of_length_eq_zero (by rw [List.length_take, hx.len, Nat.min_comm]; exact h0)
      rw [e1]; simpa [splice] using hg
  · have hd0 : 0 < dLen := by
      rcases Nat.eq_zero_or_pos dLen with h1 | h1
      · subst h1; exact absurd (Nat.min_zero _) h0
      · exact h1
    have hs0 : 0 < sLen := by
      rcases Nat.eq_zero_or_pos sLen with h1 | h1
      · subst h1; exact absurd (Nat.zero_min _) h0
      · exact h1
    obtain rfl := hdp hd0
    obtain ⟨b, o', rfl, _, hc⟩ := hx.block hs0
    have hcl : ((xs.take dLen).map (zv k)).length ≤ dLen := by simp; omega
    refine wpList_copy_own hgd d s dT sT ho e hu hsz g off dLen dCap ⟨b, o', none⟩ sLen sCap hd hs (cur.map (zv k)).toArray t hg ((xs.take dLen).map (zv k)) hlen ?_ (by simp at hcl ⊢; omega) ?_ ?_
    · intro j v hv
      obtain ⟨hj, rfl⟩ := List.getElem?_eq_some_iff.1 hv
      have hj' : j < xs.length := by simp at hj; omega
      have hadd : (⟨b, o', none⟩ : Addr).add j = ⟨b, o' + j, none⟩ := by unfold Addr.add; split <;> simp_all
      rw [hadd, hc j hj']; simp
    · intro v hv
      obtain ⟨n, _, rfl⟩ := List.mem_map.1 hv
      rfl
    · rw [hlen]
      refine h _ ?_ ⟨rfl, rfl, rfl, by simp [World.setRow], fun i _ hne => setRow_other w g i _ (fun e => hne (by rw [e]))⟩
      unfold ZRow
      rw [setRow_heap w g _ _ t _ hg]
      congr 2
      have := hx.len
      have e : sLen.min dLen = min sLen dLen := rfl
      simp [splice, e]; omega

end
/-- .slice a n c is nil, or the head of a row of the call's own, from block base on, whose first n cells are xs -/
def ZOwn (w : World) (base : Nat) (e : TypeId) (k : IntKind) (a : Option Addr) (n c : Nat) (xs : List Int) : Prop :=
  xs.length = n ∧ w.ownsRow base e 1 (.slice a n c) n (xs.map (zv k))

section
variable {w w' : World} {base : Nat} {e : TypeId} {k : IntKind} {a : Option Addr} {n c : Nat} {xs : List Int}
theorem ZOwn.nil (w : World) (base : Nat) (e : TypeId) (k : IntKind) : ZOwn w base e k none 0 0 [] := ⟨rfl, World.ownsRow_nil w base e 1⟩
theorem ZOwn.rd (h : ZOwn w base e k a n c xs) : ZRd w k a n c xs := by
  obtain ⟨hl, h1, h2 | ⟨g, cap, cur, hv, hb, hg, hn, hm, hs, ht⟩⟩ := h
  · obtain ⟨hv, rfl⟩ := h2
    simp only [Value.slice.injEq, true_and] at hv
    obtain ⟨rfl, rfl⟩ := hv
    obtain rfl : xs = [] := List.eq_nil_of_length_eq_zero hl
    exact ZRd.nil w k
  · simp only [Value.slice.injEq, true_and] at hv
    obtain ⟨rfl, rfl⟩ := hv
    refine ⟨hl, hn, by unfold maxLen at hm; omega, fun j hj => ⟨g, 0, rfl, ?_⟩⟩
    have h3 := World.ownsRow.cells (w := w) (base := base) (e := e) (size := 1) (v := .slice (some ⟨g, 0, none⟩) n c) (n := n) (xs := xs.map (zv k)) ⟨h1, .inr ⟨g, c, cur, rfl, hb, hg, hn, hm, hs, ht⟩⟩ (g := g) rfl j (zv k xs[j]) (by simp [hj])
    rw [add_addr] at h3
    exact h3
theorem ZOwn.lt (h : ZOwn w base e k a n c xs) : ∀ p, a = some p → base ≤ p.block ∧ p.block < w.heap.size := fun p hp => by
  subst hp
  exact h.2.lt p.block rfl
theorem ZOwn.kept (h : ZOwn w base e k a n c xs) {row : Option Nat} (hg : w.grownBy w' row) (hne : row = none ∨ ∀ p, a = some p → some p.block ≠ row) : ZOwn w' base e k a n c xs := by
  refine ⟨h.1, h.2.kept hg ?_⟩
  cases a with
  | none => exact .inl rfl
  | some p =>
    rcases hne with rfl | hne
    · exact .inr (by simp [Value.ownBlock])
    · exact .inr (hne p rfl)
theorem ZOwn.alloc (h : ZOwn w base e k a n c xs) (o : Obj) : ZOwn (w.alloc o) base e k a n c xs := ⟨h.1, h.2.alloc o⟩
theorem ZOwn.made (w : World) (base : Nat) (e : TypeId) (k : IntKind) (xs : List Int) (hb : base ≤ w.heap.size) (hm : xs.length ≤ 9223372036854775807) :
    ZOwn (w.alloc (.cells (xs.map (zv k)).toArray e)) base e k (some ⟨w.heap.size, 0, none⟩) xs.length xs.length xs :=
  ⟨rfl, by simpa using World.ownsRow_lit (base := base) (e := e) (size := 1) w (xs.map (zv k)).toArray xs.length hb (by unfold maxLen; omega) (by simp)⟩
theorem ZOwn.ofRow {g : Nat} (h : ZRow w g e k xs) (hb : base ≤ g) (hm : xs.length ≤ 9223372036854775807) : ZOwn w base e k (some ⟨g, 0, none⟩) xs.length xs.length xs :=
  ⟨rfl, by simp, .inr ⟨g, xs.length, (xs.map (zv k)).toArray, rfl, hb, h, Nat.le_refl _, by unfold maxLen; omega, by simp, by rw [List.take_of_length_le (by simp)]⟩⟩
end

/-- a new slice of one number -/
theorem zone_rd (w : World) (e : TypeId) (k : IntKind) (v : Int) (y : Int) (hv : v = y) : ZRd (w.alloc (.cells #[.int k v] e)) k (some ⟨w.heap.size, 0, none⟩) 1 1 [y] := by
  subst hv
  exact (ZRow.made w e k [_]).rd0 (by simp)

section
variable {P : Program} {ops : Array Oper} {rest : List Oper} {o : Oper} {a : Act} {Q : Exit → Act → World → Prop}
/-- append of the slice .slice sp m c', which reads as ys, to one of the call's own -/
theorem wz_append (w : World) (hgd : o.guard = none) (s x : Operand) (t : TypeId)
    (ho : o.op = .call { callee := .builtin .append, args := #[s, x], argTypes := #[t, t] })
    (e : TypeId) (k : IntKind) (bytes : Nat) (h1 : P.underlying t = some (.slice e)) (h2 : (P.info? e).map (fun i => (i.zero, i.size, i.bytes)) = some (some (.int k 0), 1, bytes))
    (base : Nat) (p : Option Addr) (n c : Nat) (xs : List Int) (hs : a.eval s = .slice p n c) (hown : ZOwn w base e k p n c xs)
    (sp : Option Addr) (m c' : Nat) (ys : List Int) (hx : a.eval x = .slice sp m c') (hrd : ZRd w k sp m c' ys)
    (b1 : n + m ≤ 9223372036854775807) (b2 : (n + m) * bytes ≤ 140737488355328) (w0 : World) (hg0 : w0.grownBy w none) (hb0 : w0.heap.size ≤ base) (hbase : base ≤ w.heap.size)
    (hK : ∀ p' c2 w', ZOwn w' base e k p' (n + m) c2 (xs ++ ys) → w0.grownBy w' none → wpList P ops Q rest (a.put o.dst (.slice p' (n + m) c2)) w') : wpList P ops Q (o :: rest) a w := by
  obtain ⟨i, hi, hz0, hz1, hz2⟩ := info_parts h2
  subst hz2
  rcases Nat.eq_zero_or_pos m with hm0 | hpos
  rotate_left
  · obtain ⟨b, o', rfl, _, hc⟩ := hrd.block hpos
    refine wpList_append_own w hgd s x t ho base e i (.int k 0) 1 i.bytes h1 hi hz0 hz1 rfl (by rfl) (by decide) _ n (xs.map (zv k)) hs hown.2 ⟨b, o', none⟩ m c' (ys.map (zv k)) hx (by simp [hrd.len]) ?_ ?_ (by unfold maxLen; omega) b2 hbase ?_
    · intro j u hu
      obtain ⟨hj, rfl⟩ := List.getElem?_eq_some_iff.1 hu
      have hj' : j < ys.length := by simpa using hj
      rw [add_addr, hc j hj']; simp
    · intro u hu
      obtain ⟨z, _, rfl⟩ := List.mem_map.1 hu
      rfl
    · intro v' w' hown' hgr _
      obtain ⟨hl, h3⟩ := hown'
      have hv' : ∃ p' c2, v' = .slice p' (n + m) c2 := by
        rcases h3 with ⟨rfl, h4⟩ | ⟨g, cap, cur, rfl, _⟩
        · exact ⟨none, 0, by rw [h4]⟩
        · exact ⟨_, _, rfl⟩
      obtain ⟨p', c2, rfl⟩ := hv'
      refine hK p' c2 w' ⟨by rw [List.length_append, hown.1, hrd.len], by simpa using ⟨hl, h3⟩⟩ (grown_new hg0 hgr fun g hg => ?_)
      cases p with
      | none => simp [Value.ownBlock] at hg
      | some q =>
        simp [Value.ownBlock] at hg
        have := (hown.lt q rfl).1
        omega
  · subst hm0
    have hm : ys = [] := List.eq_nil_of_length_eq_zero hrd.len
    subst hm
    refine wpList_plain hgd fun K hK' => ?_
    have hrun := run_append_zero (P := P) w t o.type e i h1 hi p sp n c c' hown.rd.cap
    unfold Oper.wp
    simp [execOp, ho, resolve, invoke, builtin, hs, hx, hrun]
    have := hK p c w (by simpa using hown) hg0
    exact hK' _ _ (by simpa using this)
end
end Nm

set_option linter.unusedVariables false
set_option linter.unusedSimpArgs false
namespace Go.Proofs.YtdnafpdaoancbaaDoor
open Go.RowKit Go.Maps _root_.Nm
theorem grown_drewN2 {w w' : World} (h : w.grownBy w' none) (q : Nat) : w.grownBy (w'.drewN q) none := grown_trans h (grown_drewN w' q none)
/-- a variable of a frame: its kind -/
def VrAt (w : World) (p : Option Addr) (i : Nat) (k : Int) : Prop := ∃ (b o : Nat) (s t : Int), p = some ⟨b, o, none⟩ ∧ w.cell? ⟨b, o + i * 3, none⟩ = some (.int .i64 k) ∧ w.cell? ⟨b, o + i * 3 + 1, none⟩ = some (.int .i64 s) ∧ w.cell? ⟨b, o + i * 3 + 2, none⟩ = some (.int .i64 t)
theorem VrAt.keep {w w' : World} {p : Option Addr} {i : Nat} {k : Int} (h : VrAt w p i k) (hg : w.grownBy w' none) : VrAt w' p i k := by
  obtain ⟨b, o, s, t, h1, a0, a1, a2⟩ := h
  exact ⟨b, o, s, t, h1, hg.cell a0 (by simp), hg.cell a1 (by simp), hg.cell a2 (by simp)⟩
theorem box2v {w : World} {G : Nat} {a b : Value} {T : TypeId} (hb : w.heap[G]? = some (.cells #[a, b] T (0, 0))) :
    (w.cell? ⟨G, 0, none⟩ = some a ∧ w.cell? ⟨G, 1, none⟩ = some b) ∧ (∀ o, w.frozen? ⟨G, o, none⟩ = false) := by
  have k := fun i => cell_of_row w G i _ _ _ hb
  have k0 := k 0; have k1 := k 1
  simp at k0 k1
  exact ⟨⟨k0, k1⟩, fun o => frozen_of_row w G o _ _ hb⟩
theorem box3v {w : World} {G : Nat} {a b c : Value} {T : TypeId} (hb : w.heap[G]? = some (.cells #[a, b, c] T (0, 0))) :
    (w.cell? ⟨G, 0, none⟩ = some a ∧ w.cell? ⟨G, 1, none⟩ = some b ∧ w.cell? ⟨G, 2, none⟩ = some c) ∧ (∀ o, w.frozen? ⟨G, o, none⟩ = false) := by
  have k := fun i => cell_of_row w G i _ _ _ hb
  have k0 := k 0; have k1 := k 1; have k2 := k 2
  simp at k0 k1 k2
  exact ⟨⟨k0, k1, k2⟩, fun o => frozen_of_row w G o _ _ hb⟩
/-- the numbers of the parameters among the first variables -/
def prL (K : Nat → Int) : Nat → List Int
  | 0 => []
  | i + 1 => if K i = 1 then prL K i ++ [(i : Int)] else prL K i
theorem prL_succ (K : Nat → Int) (i : Nat) : prL K (i + 1) = if K i = 1 then prL K i ++ [(i : Int)] else prL K i := rfl
theorem prL_len (K : Nat → Int) : ∀ i, (prL K i).length ≤ i
  | 0 => Nat.le_refl _
  | i + 1 => by
    have := prL_len K i
    rw [prL_succ]
    split
    · simp; omega
    · omega
def intV (l : List Int) : List (List Value) := l.map fun z => [Value.int .i64 z]
theorem intV_add (l : List Int) (z : Int) : intV l ++ [[.int .i64 z]] = intV (l ++ [z]) := by simp [intV]
theorem infoIntV : (Tryd.prog.info? 3).map (fun i => (i.zero, i.size, i.bytes)) = some (some (.int .i64 0), 1, 8) := by kernel_rfl
theorem intZV : (Value.int .i64 0).cells.size = 1 := rfl
theorem one_posV : 0 < 1 := by decide
theorem one_srdV (w : World) (e : TypeId) (x : Value) (b : Nat) (hb : b = w.heap.size) : SRd (w.alloc (.cells #[x] e)) 1 (some ⟨b, 0, none⟩) 1 1 [[x]] := one_srd w e 1 [x] rfl b hb
theorem int_oneV (z : Int) : ∀ u ∈ [Value.int .i64 z], u.oneCell' = true := by
  intro u hu
  rw [List.mem_singleton.1 hu]
  rfl
theorem ZRd.ofOwnV {w : World} {base : Nat} {e : TypeId} {p : Option Addr} {n c : Nat} {l : List Int} (h : SOwn w base e 1 p n c (intV l)) : ZRd w .i64 p n c l where
  len := by have := SRd.len h.rd; simpa [intV] using this
  cap := SRd.cap h.rd
  max := SRd.max h.rd
  cel := fun j hj => by
    have hl : j < (intV l).length := by simpa [intV] using hj
    obtain ⟨b, o, hp, hc⟩ := SRd.at h.rd (by decide) (i := j) hl
    refine ⟨b, o, hp, ?_⟩
    have := hc 0 (by simp [intV])
    simpa [intV] using this
set_option maxHeartbeats 64000000 in
set_option maxRecDepth 100000 in
theorem sParams_n (pC : Option Addr) (nC cC : Nat) (p : Option Addr) (n c : Nat) (K : Nat → Int) (w : World) (hc : n ≤ c ∧ c ≤ 9223372036854775807) (hn : n ≤ 70) (hV : ∀ i, i < n → VrAt w p i (K i)) :
    Calls Tryd.prog 5 #[.agg #[.slice pC nC cC, .slice p n c]] w fun e w' => ∃ q m d, e = .returned (.slice q m d) ∧ ZRd w' .i64 q m d (prL K n) ∧ w.grownBy w' none := by
  have HV := hid hV
  obtain ⟨hc1, hc2⟩ := hc
  clear hV
  have hW := World.grownBy_alloc w (.cells #[.slice pC nC cC, .slice p n c] 25 (0, 0)) none
  obtain ⟨⟨k0, k1⟩, -⟩ := box2v (blk0 w (.cells #[.slice pC nC cC, .slice p n c] 25 (0, 0)))
  obtain ⟨B0, hB0⟩ : ∃ b, b = w.heap.size := ⟨_, rfl⟩
  go_enter Tryd.func5, Tryd.ntmps5
  go_upto_region 1 with fail
  generalize (w.alloc _) = w0 at *
  go_wp2_with fail
  have HWM := hid hW
  clear k0 k1 hW
  go_loopw [3, 9] (fun z y wr => ∃ (j m d : Nat) (q : Option Addr), j ≤ n ∧ z = .slice q m d ∧ y = .int .i64 j ∧ Hid (w.grownBy wr none) ∧ Hid (SOwn wr B0 3 1 q m d (intV (prL K j)))) (fun z y _ => n - (intOf y).toNat)
  case atStart => exact ⟨0, 0, 0, none, Nat.zero_le _, rfl, rfl, HWM, hid (SOwn.nil _ _ _ _)⟩
  case round =>
    clear HWM
    obtain ⟨j, m, d, q, hj, rfl, rfl, HG0, HO0⟩ := hrel
    by_cases hlt : j < n
    · obtain ⟨b, o, s, t, rfl, a0, a1, a2⟩ := (HV.out j hlt).keep HG0.out
      have hml : m ≤ j := by have := HO0.out.1; have h2 := prL_len K j; simp [intV] at this; omega
      have HPL := hid (prL_succ K j)
      have hGB := World.grownBy_alloc wr (.cells #[.int .i64 (K j), .int .i64 s, .int .i64 t] 38 (0, 0)) none
      have HG := hid (grown_trans HG0.out hGB)
      have HO := hid (HO0.out.keep hGB)
      have hs0 := HG0.out.size
      have hs1 := hGB.size
      obtain ⟨k, hk⟩ : ∃ k, k = K j := ⟨_, rfl⟩
      rw [← hk] at a0 HPL HG HO hs1
      obtain ⟨⟨i0, i1, i2⟩, fa⟩ := box3v (blk0 wr (.cells #[.int .i64 0, .int .i64 0, .int .i64 0] 38 (0, 0)))
      have f0 := fa 0; have f1 := fa 1; have f2 := fa 2
      clear fa hk hGB HG0 HO0
      go_upto_region 5 with fail
      clear i0 i1 i2 f0 f1 f2 a0 a1 a2
      obtain ⟨⟨b0, -, -⟩, -⟩ := box3v (blk0 wr (.cells #[.int .i64 k, .int .i64 s, .int .i64 t] 38 (0, 0)))
      generalize (wr.alloc _) = w1 at *
      generalize prL K j = L at *
      by_cases hk1 : k = 1
      · subst hk1
        go_wp2_with (with_reducible refine wls_append _ rfl (.tmp 17) (.tmp 19) 27 rfl 3 1 (.int .i64 0) 8 Tryd.underlying27 infoIntV intZV one_posV B0 _ _ _ (intV L) rfl (SOwn.alloc HO.out _) _ 1 [.int .i64 (j : Int)] rfl (one_srdV _ _ _ _ (by simp)) (int_oneV _) (by omega) (by omega) w (grown_trans HG.out (World.grownBy_alloc _ _ _)) (by omega) (by simp; omega) ?_; intro p' c2 w4 ho2 hg4 hbx; clear hbx)
        refine ⟨⟨j + 1, m + 1, c2, p', by omega, rfl, by go_num, hid hg4, hid ?_⟩, by simp [intOf]; omega⟩
        rw [HPL.out, if_pos rfl, ← intV_add]
        exact ho2
      · have hq : (k == 1) = false := by simp [hk1]
        go_wp2_with fail
        refine ⟨⟨j + 1, m, d, q, by omega, rfl, by go_num, HG, hid ?_⟩, by simp [intOf]; omega⟩
        rw [HPL.out, if_neg hk1]
        exact HO.out
    · obtain rfl : j = n := by omega
      go_wp2_with fail
      go_ret
      exact ⟨q, m, d, rfl, ZRd.ofOwnV HO0.out, HG0.out⟩
set_option maxHeartbeats 64000000 in
set_option maxRecDepth 100000 in
theorem rParams_n (pC : Option Addr) (nC cC : Nat) (p : Option Addr) (n c : Nat) (K : Nat → Int) (w : World) (hc : n ≤ c ∧ c ≤ 9223372036854775807) (hn : n ≤ 70) (hV : ∀ i, i < n → VrAt w p i (K i)) :
    Calls Tryd.prog 6 #[.agg #[.slice pC nC cC, .slice p n c]] w fun e w' => ∃ q m d, e = .returned (.slice q m d) ∧ ZRd w' .i64 q m d (prL K n) ∧ w.grownBy w' none := by
  have HV := hid hV
  obtain ⟨hc1, hc2⟩ := hc
  clear hV
  have hW := World.grownBy_alloc w (.cells #[.slice pC nC cC, .slice p n c] 25 (0, 0)) none
  obtain ⟨⟨k0, k1⟩, -⟩ := box2v (blk0 w (.cells #[.slice pC nC cC, .slice p n c] 25 (0, 0)))
  obtain ⟨B0, hB0⟩ : ∃ b, b = w.heap.size := ⟨_, rfl⟩
  go_enter Tryd.func6, Tryd.ntmps6
  go_upto_region 1 with fail
  generalize (w.alloc _) = w0 at *
  go_wp2_with fail
  have HWM := hid hW
  clear k0 k1 hW
  go_loopw [3, 9] (fun z y wr => ∃ (j m d : Nat) (q : Option Addr), j ≤ n ∧ z = .slice q m d ∧ y = .int .i64 j ∧ Hid (w.grownBy wr none) ∧ Hid (SOwn wr B0 3 1 q m d (intV (prL K j)))) (fun z y _ => n - (intOf y).toNat)
  case atStart => exact ⟨0, 0, 0, none, Nat.zero_le _, rfl, rfl, HWM, hid (SOwn.nil _ _ _ _)⟩
  case round =>
    clear HWM
    obtain ⟨j, m, d, q, hj, rfl, rfl, HG0, HO0⟩ := hrel
    by_cases hlt : j < n
    · obtain ⟨b, o, s, t, rfl, a0, a1, a2⟩ := (HV.out j hlt).keep HG0.out
      have hml : m ≤ j := by have := HO0.out.1; have h2 := prL_len K j; simp [intV] at this; omega
      have HPL := hid (prL_succ K j)
      have hGB := World.grownBy_alloc wr (.cells #[.int .i64 (K j), .int .i64 s, .int .i64 t] 38 (0, 0)) none
      have HG := hid (grown_trans HG0.out hGB)
      have HO := hid (HO0.out.keep hGB)
      have hs0 := HG0.out.size
      have hs1 := hGB.size
      obtain ⟨k, hk⟩ : ∃ k, k = K j := ⟨_, rfl⟩
      rw [← hk] at a0 HPL HG HO hs1
      obtain ⟨⟨i0, i1, i2⟩, fa⟩ := box3v (blk0 wr (.cells #[.int .i64 0, .int .i64 0, .int .i64 0] 38 (0, 0)))
      have f0 := fa 0; have f1 := fa 1; have f2 := fa 2
      clear fa hk hGB HG0 HO0
      go_upto_region 5 with fail
      clear i0 i1 i2 f0 f1 f2 a0 a1 a2
      obtain ⟨⟨b0, -, -⟩, -⟩ := box3v (blk0 wr (.cells #[.int .i64 k, .int .i64 s, .int .i64 t] 38 (0, 0)))
      generalize (wr.alloc _) = w1 at *
      generalize prL K j = L at *
      by_cases hk1 : k = 1
      · subst hk1
        go_wp2_with (with_reducible refine wls_append _ rfl (.tmp 17) (.tmp 19) 27 rfl 3 1 (.int .i64 0) 8 Tryd.underlying27 infoIntV intZV one_posV B0 _ _ _ (intV L) rfl (SOwn.alloc HO.out _) _ 1 [.int .i64 (j : Int)] rfl (one_srdV _ _ _ _ (by simp)) (int_oneV _) (by omega) (by omega) w (grown_trans HG.out (World.grownBy_alloc _ _ _)) (by omega) (by simp; omega) ?_; intro p' c2 w4 ho2 hg4 hbx; clear hbx)
        refine ⟨⟨j + 1, m + 1, c2, p', by omega, rfl, by go_num, hid hg4, hid ?_⟩, by simp [intOf]; omega⟩
        rw [HPL.out, if_pos rfl, ← intV_add]
        exact ho2
      · have hq : (k == 1) = false := by simp [hk1]
        go_wp2_with fail
        refine ⟨⟨j + 1, m, d, q, by omega, rfl, by go_num, HG, hid ?_⟩, by simp [intOf]; omega⟩
        rw [HPL.out, if_neg hk1]
        exact HO.out
    · obtain rfl : j = n := by omega
      go_wp2_with fail
      go_ret
      exact ⟨q, m, d, rfl, ZRd.ofOwnV HO0.out, HG0.out⟩
set_option maxHeartbeats 64000000 in
set_option maxRecDepth 100000 in
theorem sameIntsV (p q : Option Addr) (n c m d : Nat) (l : List Int) (w : World) (h1 : ZRd w .i64 p n c l) (h2 : ZRd w .i64 q m d l) :
    Calls Tryd.prog 4 #[.slice p n c, .slice q m d] w fun e w' => e = .returned (.bool true) ∧ w.grownBy w' none := by
  have hl := h1.len
  have hl2 := h2.len
  have hc := h1.cap
  have hm := h1.max
  have hc2 := h2.cap
  have hm2 := h2.max
  obtain rfl : n = m := by omega
  have H1 := hid h1
  have H2 := hid h2
  have HL := hid hl
  clear h1 h2 hl hl2
  go_enter Tryd.func4, Tryd.ntmps4
  go_wp2_with fail
  go_loopw [13] (fun x wr => ∃ k : Nat, k ≤ n ∧ x = .int .i64 k ∧ w.grownBy wr none) (fun x _ => n - (intOf x).toNat)
  case atStart => exact ⟨0, Nat.zero_le _, rfl, grown_refl _ _⟩
  case round =>
    obtain ⟨k, hk, rfl, hg⟩ := hrel
    by_cases hlt : k < n
    · obtain ⟨b1, o1, rfl, e1⟩ := (H1.out.keep hg).cel k (by rw [HL.out]; exact hlt)
      obtain ⟨b2, o2, rfl, e2⟩ := (H2.out.keep hg).cel k (by rw [HL.out]; exact hlt)
      generalize l[k]'(by rw [HL.out]; exact hlt) = fk at *
      go_wp2_with fail
      go_quiet (fail)
      go_wp2_with fail
      exact ⟨⟨k + 1, by omega, by go_num, grown_drewN2 hg _⟩, by simp [intOf]; omega⟩
    · obtain rfl : k = n := by omega
      go_wp2_with fail
      go_ret
      exact ⟨rfl, hg⟩
end Go.Proofs.YtdnafpdaoancbaaDoor

set_option linter.unusedVariables false
set_option linter.unusedSimpArgs false
namespace Go.Proofs.YtdnafpdaoancbaaDoor
open Go.RowKit Go.Maps _root_.Nm
/-- a row of strings -/
def VsRow (w : World) (g : Nat) (L : List ByteArray) : Prop := w.heap[g]? = some (.cells (L.map Value.string).toArray 9 (0, 0))
theorem VsRow.set {w : World} {g : Nat} {L : List ByteArray} (h : VsRow w g L) (j : Nat) (d : ByteArray) : VsRow (w.setCell ⟨g, j, none⟩ (.string d)) g (L.set j d) := by
  unfold VsRow at h ⊢
  rw [heap_setCell_same w g j _ _ _ h]
  simp [List.map_set]
theorem VsRow.cell {w : World} {g : Nat} {L : List ByteArray} (h : VsRow w g L) (j : Nat) (hj : j < L.length) : w.cell? ⟨g, j, none⟩ = some (.string L[j]) := by
  rw [cell_of_row w g j _ _ _ h]; simp [hj]
theorem VsRow.free {w : World} {g : Nat} {L : List ByteArray} (h : VsRow w g L) (j : Nat) : w.frozen? ⟨g, j, none⟩ = false := frozen_of_row w g j _ _ h
theorem VsRow.keep {w w' : World} {g : Nat} {L : List ByteArray} (h : VsRow w g L) (hg : w.grownBy w' none) : VsRow w' g L := keepB h hg
theorem infoStrV : (Tryd.prog.info? 9).map (fun i => (i.zero, i.size, i.bytes)) = some (some (.string ⟨#[]⟩), 1, 16) := by kernel_rfl
theorem run_make_strsV (n : Nat) (hn : n ≤ 1000000) (w : World) :
    (Instr.makeSlice 30 (.int .i64 (n : Int)) (.int .i64 (n : Int))).run Tryd.prog w = .ok (.slice (some ⟨w.heap.size, 0, none⟩) n n) (w.alloc (.cells (Array.replicate n (.string ⟨#[]⟩)) 9)) := by
  obtain ⟨i, hi, hz0, hz1, hz2⟩ := info_parts infoStrV
  have hb : (i.bytes : Int) * (n : Int) ≤ 281474976710656 := by rw [hz2]; omega
  have hr := run_make (P := Tryd.prog) w 30 9 i (.string ⟨#[]⟩) Tryd.underlying30 hi hz0 .i64 .i64 n n (by omega) (by omega) hb (by omega)
  simp only [Int.toNat_natCast] at hr
  rw [hr, hz1]
  have e1 : madeCells (Value.string ⟨#[]⟩).cells (n * 1) = Array.replicate n (.string ⟨#[]⟩) := by
    rw [Nat.mul_one, ← Array.toList_inj]
    have := toList_madeCells_one (.string ⟨#[]⟩) n
    simp at this ⊢
    exact this
  rw [e1]
/-- the name of the variable i -/
noncomputable def vn (i : Nat) : ByteArray := (⟨#[118]⟩ : ByteArray) ++ dgH i
noncomputable def vnL (n k : Nat) : List ByteArray := (List.range n).map fun i => if i < k then vn i else ⟨#[]⟩
theorem vnL_len (n k : Nat) : (vnL n k).length = n := by simp [vnL]
theorem vnL_get (n k i : Nat) (hi : i < (vnL n k).length) : (vnL n k)[i] = if i < k then vn i else ⟨#[]⟩ := by simp [vnL]
theorem vnL_set (n k : Nat) (hk : k < n) : (vnL n k).set k (vn k) = vnL n (k + 1) := by
  apply List.ext_getElem
  · simp [vnL_len]
  · intro i h1 h2
    rw [List.getElem_set, vnL_get, vnL_get]
    by_cases e : k = i
    · subst e
      rw [if_pos rfl, if_pos (by omega)]
    · rw [if_neg e]
      by_cases e2 : i < k
      · rw [if_pos e2, if_pos (by omega)]
      · rw [if_neg e2, if_neg (by omega)]
theorem VsRow.made (w : World) (n : Nat) : VsRow (w.alloc (.cells (Array.replicate n (.string ⟨#[]⟩)) 9)) w.heap.size (vnL n 0) := by
  have := heap_alloc_new w (.cells (Array.replicate n (.string ⟨#[]⟩)) 9)
  unfold VsRow vnL
  rw [show ((List.range n).map fun i => if i < 0 then vn i else (⟨#[]⟩ : ByteArray)) = List.replicate n ⟨#[]⟩ from by
    apply List.ext_getElem
    · simp
    · intro i h1 h2
      simp]
  simpa using this
/-- a slice of strings -/
def FsV (w : World) (p : Option Addr) (n c : Nat) (f : Nat → ByteArray) : Prop := n ≤ c ∧ c ≤ 9223372036854775807 ∧ ∀ i, i < n → ∃ b o, p = some ⟨b, o, none⟩ ∧ w.cell? ⟨b, o + i, none⟩ = some (.string (f i))
theorem FsV.keep {w w' : World} {p : Option Addr} {n c : Nat} {f : Nat → ByteArray} (h : FsV w p n c f) (hg : w.grownBy w' none) : FsV w' p n c f :=
  ⟨h.1, h.2.1, fun i hi => by
    obtain ⟨b, o, hp, hc⟩ := h.2.2 i hi
    exact ⟨b, o, hp, hg.cell hc (by simp)⟩⟩
theorem FsV.ofRow {w : World} {g n : Nat} (hn : n ≤ 70) (h : VsRow w g (vnL n n)) : FsV w (some ⟨g, 0, none⟩) n n vn :=
  ⟨Nat.le_refl _, by omega, fun i hi => ⟨g, 0, rfl, by
    have hl : i < (vnL n n).length := by rw [vnL_len]; exact hi
    have := h.cell i hl
    rw [vnL_get, if_pos hi] at this
    rw [Nat.zero_add]
    exact this⟩⟩
noncomputable def vnR (n : Nat) : List (List Value) := (List.range n).map fun i => [Value.string (vn i)]
theorem vnR_succ (n : Nat) : vnR n ++ [[.string (vn n)]] = vnR (n + 1) := by
  unfold vnR
  rw [List.range_succ, List.map_append]
  rfl
theorem FsV.ofOwn {w : World} {base : Nat} {p : Option Addr} {n c : Nat} (h : SOwn w base 9 1 p n c (vnR n)) : FsV w p n c vn :=
  ⟨SRd.cap h.rd, SRd.max h.rd, fun i hi => by
    have hl : i < (vnR n).length := by simpa [vnR] using hi
    obtain ⟨b, o, hp, hc⟩ := SRd.at h.rd (by decide) (i := i) hl
    refine ⟨b, o, hp, ?_⟩
    have := hc 0 (by simp [vnR])
    simpa [vnR] using this⟩
theorem strZV : (Value.string ⟨#[]⟩).cells.size = 1 := rfl
theorem str_oneV (d : ByteArray) : ∀ u ∈ [Value.string d], u.oneCell' = true := by
  intro u hu
  rw [List.mem_singleton.1 hu]
  rfl
theorem dgH_dec (n : Nat) (h : n < 100) : (⟨(Lib.decDigits n).toArray⟩ : ByteArray) = dgH n := by
  unfold dgH
  split
  · rename_i h1
    rw [dec_one h1]
    rfl
  · rename_i h1
    rw [dec_more h1, dec_one (by omega)]
    rfl
theorem rtx_nat (n : Nat) : rtx (((n : Nat) : Int) : Rat) = Lib.decDigits n := by
  unfold rtx itx
  have h1 : (((n : Nat) : Int) : Rat).den = 1 := by simp
  have h2 : (((n : Nat) : Int) : Rat).num = (n : Int) := by simp
  rw [if_pos h1, h2, if_neg (by omega), Int.natAbs_natCast]
theorem catV (n : Nat) (w : World) : (Op.stringOp .add (⟨#[118]⟩ : ByteArray) (dgH n)).run Tryd.prog w = .ok (.string (vn n)) w := run_string_add_sum w _ _ (by have := dgH_size n; have : (⟨#[118]⟩ : ByteArray).size = 1 := rfl; omega)
set_option maxHeartbeats 64000000 in
set_option maxRecDepth 100000 in
theorem sNamesV_n (a1 : Option Addr) (l1 e1 : Nat) (a2 : Option Addr) (l2 e2 : Nat) (pC : Option Addr) (nC cC : Nat) (p : Option Addr) (n c : Nat) (w : World) (hn : n ≤ 70) :
    Calls Tryd.prog 8 #[.agg #[.slice a1 l1 e1, .slice a2 l2 e2], .agg #[.slice pC nC cC, .slice p n c]] w fun e w' => ∃ q d, e = .returned (.slice q n d) ∧ FsV w' q n d vn ∧ w.grownBy w' none := by
  have hmk := run_make_strsV n (by omega)
  have hW := grown_trans (World.grownBy_alloc w (.cells #[.slice a1 l1 e1, .slice a2 l2 e2] 35 (0, 0)) none) (World.grownBy_alloc (w.alloc (.cells #[.slice a1 l1 e1, .slice a2 l2 e2] 35 (0, 0))) (.cells #[.slice pC nC cC, .slice p n c] 25 (0, 0)) none)
  have hsz : (w.alloc (.cells #[.slice a1 l1 e1, .slice a2 l2 e2] 35 (0, 0))).heap.size = w.heap.size + 1 := by simp
  have BX := blk0 (w.alloc (.cells #[.slice a1 l1 e1, .slice a2 l2 e2] 35 (0, 0))) (.cells #[.slice pC nC cC, .slice p n c] 25 (0, 0))
  rw [hsz] at BX
  obtain ⟨⟨k0, k1⟩, -⟩ := box2v BX
  clear BX hsz
  go_enter Tryd.func8, Tryd.ntmps8
  go_upto_region 1 with fail
  generalize ((w.alloc _).alloc _) = w0 at *
  have hgB : w.heap.size ≤ w0.heap.size := hW.size
  have HM := hid (VsRow.made w0 n)
  have hG := World.grownBy_alloc w0 (.cells (Array.replicate n (.string ⟨#[]⟩)) 9) none
  have HWM := hid (grown_trans hW hG)
  clear hG hW
  go_wp2_with fail
  clear k0 k1
  generalize w0.heap.size = gB at *
  go_loopw [13] (fun y wr => ∃ j : Nat, j ≤ n ∧ y = .int .i64 j ∧ w.grownBy wr none ∧ VsRow wr gB (vnL n j)) (fun y _ => n - (intOf y).toNat)
  case atStart => exact ⟨0, Nat.zero_le _, rfl, HWM.out, HM.out⟩
  case round =>
    clear HM HWM
    obtain ⟨j, hj, rfl, hg, hrow⟩ := hrel
    by_cases hlt : j < n
    · have HNS := hid (vnL_set n j hlt)
      have hlen := vnL_len n j
      have HI := hid fun W => itoaH_any j (by omega) W
      have hcat := catV j
      have HG := hid hg
      have HR := hid hrow
      clear hg hrow
      generalize hL : vnL n j = L at *
      clear hL
      generalize vn j = vj at *
      generalize dgH j = dj at *
      go_wp2_with (go_at_call 10; (with_reducible refine (HI.out _).mono ?_); rintro e w3 ⟨rfl, hg3⟩; replace HG := hid (grown_trans HG.out hg3); replace HR := hid (HR.out.keep hg3); have r0 := HR.out.cell j (by omega); have r1 := HR.out.free j; clear hg3)
      refine ⟨⟨j + 1, by omega, by go_num, grown_new HG.out (grown_setCell _ ⟨gB, j, none⟩ _) (fun g' e => by cases e; exact hgB), ?_⟩, by simp [intOf]; omega⟩
      rw [← HNS.out]
      exact HR.out.set j vj
    · obtain rfl : j = n := by omega
      have HR := hid (FsV.ofRow hn hrow)
      clear hrow
      go_wp2_with fail
      go_ret
      exact ⟨_, _, rfl, HR.out, hg⟩
set_option maxHeartbeats 64000000 in
set_option maxRecDepth 100000 in
theorem rNamesV_n (a1 : Option Addr) (l1 e1 : Nat) (a2 : Option Addr) (l2 e2 : Nat) (pC : Option Addr) (nC cC : Nat) (p : Option Addr) (n c : Nat) (w : World) (hn : n ≤ 70) :
    Calls Tryd.prog 9 #[.agg #[.slice a1 l1 e1, .slice a2 l2 e2], .agg #[.slice pC nC cC, .slice p n c]] w fun e w' => ∃ q d, e = .returned (.slice q n d) ∧ FsV w' q n d vn ∧ w.grownBy w' none := by
  have hW := grown_trans (World.grownBy_alloc w (.cells #[.slice a1 l1 e1, .slice a2 l2 e2] 35 (0, 0)) none) (World.grownBy_alloc (w.alloc (.cells #[.slice a1 l1 e1, .slice a2 l2 e2] 35 (0, 0))) (.cells #[.slice pC nC cC, .slice p n c] 25 (0, 0)) none)
  have hsz : (w.alloc (.cells #[.slice a1 l1 e1, .slice a2 l2 e2] 35 (0, 0))).heap.size = w.heap.size + 1 := by simp
  have BX := blk0 (w.alloc (.cells #[.slice a1 l1 e1, .slice a2 l2 e2] 35 (0, 0))) (.cells #[.slice pC nC cC, .slice p n c] 25 (0, 0))
  rw [hsz] at BX
  obtain ⟨⟨k0, k1⟩, -⟩ := box2v BX
  obtain ⟨B0, hB0⟩ : ∃ b, b = w.heap.size := ⟨_, rfl⟩
  clear BX hsz
  go_enter Tryd.func9, Tryd.ntmps9
  go_upto_region 1 with fail
  generalize ((w.alloc _).alloc _) = w0 at *
  have HWM := hid hW
  clear hW
  go_wp2_with fail
  clear k0 k1
  go_loopw [5, 10] (fun z y wr => ∃ (j d : Nat) (q : Option Addr), j ≤ n ∧ z = .slice q j d ∧ y = .int .i64 j ∧ Hid (w.grownBy wr none) ∧ Hid (SOwn wr B0 9 1 q j d (vnR j))) (fun z y _ => n - (intOf y).toNat)
  case atStart => exact ⟨0, 0, none, Nat.zero_le _, rfl, rfl, HWM, hid (SOwn.nil _ _ _ _)⟩
  case round =>
    clear HWM
    obtain ⟨j, d, q, hj, rfl, rfl, HG, HO⟩ := hrel
    have hs0 := HG.out.size
    by_cases hlt : j < n
    · have HNS := hid (vnR_succ j)
      have HOF := hid fun W => rOf3_v (w := W) (j : Int) (by omega) (by omega)
      have HTX := hid fun W (g : Bool) (p q : Option Addr) (n c m d : Nat) (h : IsV W g p n c q m d (((j : Nat) : Int) : Rat)) (h1 : n ≤ 20) (h2 : m ≤ 20) => rRatText_v h.q (by omega) (by omega)
      rw [rtx_nat] at HTX
      have HTX2 : Hid (∀ W (g : Bool) (p q : Option Addr) (n c m d : Nat), IsV W g p n c q m d (((j : Nat) : Int) : Rat) → n ≤ 20 → m ≤ 20 → Calls Tryd.prog 11 #[.agg #[.bool g, .slice p n c, .slice q m d]] W fun e w' => e = .returned (.string (dgH j)) ∧ W.grownBy w' none) := hid fun W g p q n c m d h h1 h2 => by
        have := HTX.out W g p q n c m d h h1 h2
        unfold str at this
        rw [dgH_dec j (by omega)] at this
        exact this
      clear HTX
      have hcat := catV j
      generalize vn j = vj at *
      generalize dgH j = dj at *
      unfold VPost at HOF
      go_wp2_with (first | (go_at_call 12; (with_reducible refine (HOF.out _).mono ?_); rintro e w3 ⟨g3, p3, n3, c3, q3, m3, d3, rfl, hV3, hn3, hm3, hg3⟩; replace HO := hid (HO.out.keep hg3); replace HG := hid (grown_trans HG.out hg3); have hs3 := hg3.size; have HV3 := hid hV3; clear hg3 hV3) | (go_at_call 11; (with_reducible refine (HTX2.out _ _ _ _ _ _ _ _ HV3.out hn3 hm3).mono ?_); rintro e w4 ⟨rfl, hg4⟩; replace HO := hid (HO.out.keep hg4); replace HG := hid (grown_trans HG.out hg4); have hs4 := hg4.size; clear hg4) | (with_reducible refine wls_append _ rfl (.tmp 13) (.tmp 18) 30 rfl 9 1 (.string ⟨#[]⟩) 16 Tryd.underlying30 infoStrV strZV one_posV B0 _ _ _ (vnR j) rfl (SOwn.alloc HO.out _) _ 1 [.string vj] rfl (one_srdV _ _ _ _ (by simp)) (str_oneV _) (by omega) (by omega) w (grown_trans HG.out (World.grownBy_alloc _ _ _)) (by omega) (by simp; omega) ?_; intro p' c2 w5 ho2 hg5 hbx; clear hbx))
      refine ⟨⟨j + 1, c2, p', by omega, rfl, by go_num, hid hg5, hid ?_⟩, by simp [intOf]; omega⟩
      rwa [HNS.out] at ho2
    · obtain rfl : j = n := by omega
      go_wp2_with fail
      go_ret
      exact ⟨q, d, rfl, FsV.ofOwn HO.out, HG.out⟩
set_option maxHeartbeats 64000000 in
set_option maxRecDepth 100000 in
theorem sameStrV (p q : Option Addr) (n c d : Nat) (f : Nat → ByteArray) (w : World) (h1 : FsV w p n c f) (h2 : FsV w q n d f) :
    Calls Tryd.prog 7 #[.slice p n c, .slice q n d] w fun e w' => e = .returned (.bool true) ∧ w.grownBy w' none := by
  have hc := h1.1
  have hm := h1.2.1
  have hc2 := h2.1
  have hm2 := h2.2.1
  have H1 := hid h1
  have H2 := hid h2
  clear h1 h2
  go_enter Tryd.func7, Tryd.ntmps7
  go_wp2_with fail
  go_loopw [13] (fun x wr => ∃ k : Nat, k ≤ n ∧ x = .int .i64 k ∧ w.grownBy wr none) (fun x _ => n - (intOf x).toNat)
  case atStart => exact ⟨0, Nat.zero_le _, rfl, grown_refl _ _⟩
  case round =>
    obtain ⟨k, hk, rfl, hg⟩ := hrel
    by_cases hlt : k < n
    · obtain ⟨b1, o1, rfl, e1⟩ := (H1.out.keep hg).2.2 k hlt
      obtain ⟨b2, o2, rfl, e2⟩ := (H2.out.keep hg).2.2 k hlt
      generalize f k = fk at *
      go_wp2_with fail
      go_quiet (fail)
      go_wp2_with fail
      exact ⟨⟨k + 1, by omega, by go_num, grown_drewN2 hg _⟩, by simp [intOf]; omega⟩
    · obtain rfl : k = n := by omega
      go_wp2_with fail
      go_ret
      exact ⟨rfl, hg⟩
end Go.Proofs.YtdnafpdaoancbaaDoor

set_option linter.unusedVariables false
set_option linter.unusedSimpArgs false
namespace Go.Proofs.YtdnafpdaoancbaaDoor
open Go.RowKit Go.Maps _root_.Nm
set_option maxHeartbeats 64000000 in
set_option maxRecDepth 100000 in
theorem coordinatesVars_walk (p : Option Addr) (n c : Nat) (K : Nat → Int) (w : World) (hc : n ≤ c ∧ c ≤ 9223372036854775807) (hV : ∀ i, i < n → VrAt w p i (K i)) :
    Calls Tryd.prog 3 #[.slice p n c] w fun e w' => e = .returned (.bool true) ∧ w.grownBy w' none := by
  obtain ⟨hc1, hc2⟩ := id hc
  by_cases hn : n ≤ 70
  · have HP1 := hid fun W (hg : w.grownBy W none) => sParams_n none 0 0 p n c K W hc hn (fun i hi => (hV i hi).keep hg)
    have HP2 := hid fun W (hg : w.grownBy W none) => rParams_n none 0 0 p n c K W hc hn (fun i hi => (hV i hi).keep hg)
    have HN1 := hid fun W (hg : w.grownBy W none) => sNamesV_n none 0 0 none 0 0 none 0 0 p n c W hn
    have HN2 := hid fun W (hg : w.grownBy W none) => rNamesV_n none 0 0 none 0 0 none 0 0 p n c W hn
    have hn2 : ¬ (70 : Int) < (n : Int) := by omega
    have hW := World.grownBy_alloc w (.cells #[.slice none 0 0, .slice p n c] 25 (0, 0)) none
    obtain ⟨⟨k0, k1⟩, -⟩ := box2v (blk0 w (.cells #[.slice none 0 0, .slice p n c] 25 (0, 0)))
    obtain ⟨⟨i0, i1⟩, fa⟩ := box2v (blk0 w (.cells #[.slice none 0 0, .slice none 0 0] 25 (0, 0)))
    have f0 := fa 0; have f1 := fa 1
    clear fa hV hc
    go_enter Tryd.func3, Tryd.ntmps3
    go_upto_region 4 with fail
    clear i0 i1 f0 f1
    generalize (w.alloc _) = w0 at *
    go_region_held3 (fun w' => w'.cell? ⟨w.heap.size, 0, none⟩ = some (.slice none 0 0) ∧ w'.cell? ⟨w.heap.size, 1, none⟩ = some (.slice p n c) ∧ w.grownBy w' none) ((try go_split_ands) <;> (repeat' apply And.intro) <;> (first | (with_reducible assumption) | (with_reducible refine (grown_drew _ none).cell ?_ (by simp); with_reducible assumption) | (with_reducible refine grown_trans ?_ (grown_drew _ none); with_reducible assumption))) (first | (go_at_call 5; (first | with_reducible refine (HP1.out _ hW).mono ?_ | with_reducible refine (HP1.out _ (grown_trans hW (grown_drew _ none))).mono ?_); rintro e w1 ⟨q1, m1, d1, rfl, hr1, hg⟩; have HR1 := hid hr1; clear hr1; (first | replace hW := grown_trans hW hg | replace hW := grown_trans (grown_trans hW (grown_drew _ none)) hg); replace k0 := hg.cell k0 (by simp); replace k1 := hg.cell k1 (by simp); clear hg) | (go_at_call 6; (first | with_reducible refine (HP2.out _ hW).mono ?_ | with_reducible refine (HP2.out _ (grown_trans hW (grown_drew _ none))).mono ?_); rintro e w1 ⟨q2, m2, d2, rfl, hr2, hg⟩; have HR2 := hid hr2; clear hr2; (first | replace HR1 := hid (HR1.out.keep hg) | replace HR1 := hid (HR1.out.keep (grown_trans (grown_drew _ none) hg))); (first | replace hW := grown_trans hW hg | replace hW := grown_trans (grown_trans hW (grown_drew _ none)) hg); replace k0 := hg.cell k0 (by simp); replace k1 := hg.cell k1 (by simp); clear hg) | (go_at_call 4; (first | with_reducible refine (sameIntsV _ _ _ _ _ _ (prL K n) _ HR1.out HR2.out).mono ?_ | with_reducible refine (sameIntsV _ _ _ _ _ _ (prL K n) _ (HR1.out.keep (grown_drew _ none)) (HR2.out.keep (grown_drew _ none))).mono ?_); rintro e w1 ⟨rfl, hg⟩; (first | replace hW := grown_trans hW hg | replace hW := grown_trans (grown_trans hW (grown_drew _ none)) hg); replace k0 := hg.cell k0 (by simp); replace k1 := hg.cell k1 (by simp); clear hg HR1 HR2) | (go_at_call 8; (first | with_reducible refine (HN1.out _ hW).mono ?_ | with_reducible refine (HN1.out _ (grown_trans hW (grown_drew _ none))).mono ?_); rintro e w1 ⟨q1, d1, rfl, hr1, hg⟩; have HR1 := hid hr1; clear hr1; (first | replace hW := grown_trans hW hg | replace hW := grown_trans (grown_trans hW (grown_drew _ none)) hg); replace k0 := hg.cell k0 (by simp); replace k1 := hg.cell k1 (by simp); clear hg) | (go_at_call 9; (first | with_reducible refine (HN2.out _ hW).mono ?_ | with_reducible refine (HN2.out _ (grown_trans hW (grown_drew _ none))).mono ?_); rintro e w1 ⟨q2, d2, rfl, hr2, hg⟩; have HR2 := hid hr2; clear hr2; (first | replace HR1 := hid (HR1.out.keep hg) | replace HR1 := hid (HR1.out.keep (grown_trans (grown_drew _ none) hg))); (first | replace hW := grown_trans hW hg | replace hW := grown_trans (grown_trans hW (grown_drew _ none)) hg); replace k0 := hg.cell k0 (by simp); replace k1 := hg.cell k1 (by simp); clear hg) | (go_at_call 7; (first | with_reducible refine (sameStrV _ _ _ _ _ vn _ HR1.out HR2.out).mono ?_ | with_reducible refine (sameStrV _ _ _ _ _ vn _ (HR1.out.keep (grown_drew _ none)) (HR2.out.keep (grown_drew _ none))).mono ?_); rintro e w1 ⟨rfl, hg⟩; (first | replace hW := grown_trans hW hg | replace hW := grown_trans (grown_trans hW (grown_drew _ none)) hg); replace k0 := hg.cell k0 (by simp); replace k1 := hg.cell k1 (by simp); clear hg HR1 HR2))
    go_wp2_with fail
    go_ret
    exact ⟨by simp, by first | exact hW | exact grown_trans hW (grown_drew _ none)⟩
  · have hn2 : (70 : Int) < (n : Int) := by omega
    clear hV hc
    go_enter Tryd.func3, Tryd.ntmps3
    go_wp2_with fail
    go_ret
    exact ⟨rfl, grown_refl _ _⟩
section
open Go.ChangeShapes Go.WideShapes Go.ChangeAt
variable {H : Type} {enc : TypeId × Value → H} {W : World}
theorem cellsIntV : Tryd.prog.cellsOf 3 = 1 := by kernel_rfl
theorem cellsVarV : Tryd.prog.cellsOf 38 = 3 := by kernel_rfl
set_option maxRecDepth 100000 in
theorem open_varV {fuel : Nat} {cs : List Value} {x : DataW H × List MemPlace} (hf : DataW.trod enc Tryd.prog W 0 (fun _ => true) true fuel 38 cs = some x) : ∃ k s t, cs = [.int .i64 k, .int .i64 s, .int .i64 t] := by
  cases fuel with
  | zero => simp [DataW.trod] at hf
  | succ fuel =>
  obtain ⟨xs, m, hm, rfl, hl, hlen, hfs⟩ := DataW.trod_struct Tryd.underlying38 hf
  rw [cellsVarV] at hl
  match cs, hl, xs, hlen with
  | [c0, c1, c2], _, [y0, y1, y2], _ =>
    have h0 := hfs 0 _ rfl
    have h1 := hfs 1 _ rfl
    have h2 := hfs 2 _ rfl
    clear hfs
    simp [cellsIntV] at h0 h1 h2
    obtain ⟨k, hk, _, _⟩ := DataW.trod_int Tryd.underlying3 h0
    obtain ⟨s, hs, _, _⟩ := DataW.trod_int Tryd.underlying3 h1
    obtain ⟨t, ht, _, _⟩ := DataW.trod_int Tryd.underlying3 h2
    simp at hk hs ht
    subst hk hs ht
    exact ⟨k, s, t, rfl⟩
theorem atV {a : Addr} {n k : Nat} {C : Nat → List Value} (hC : ∀ i, i < n → W.cells? 0 (a.add (i * k)) k = some (C i)) (hk : 0 < k) (i : Nat) (hi : i < n) : ∃ (b o : Nat), a = ⟨b, o, none⟩ ∧ (C i).length = k ∧ ∀ j (hj : j < (C i).length), W.cell? ⟨b, o + i * k + j, none⟩ = some (C i)[j] := by
  have h1 := hC i hi
  obtain ⟨_, e2, e3⟩ := World.cells?_some h1
  have h1z := hC 0 (by omega)
  obtain ⟨_, z2, z3⟩ := World.cells?_some h1z
  have hc0 : W.cell? ((a.add (0 * k)).add 0) = some ((C 0)[0]'(by omega)) := by rw [z3 0 (by omega), List.getElem?_eq_getElem (by omega)]
  have hsp := World.cell?_spot hc0
  obtain ⟨b, o, rfl⟩ : ∃ b o, a = ⟨b, o, none⟩ := ⟨a.block, a.off, by
    cases a with
    | mk b o s => simp [Addr.add] at hsp; simp [hsp]⟩
  refine ⟨b, o, rfl, e2, fun j hj => ?_⟩
  have := e3 j (by omega)
  rw [add_addr, add_addr, List.getElem?_eq_getElem (by omega)] at this
  exact this
set_option maxRecDepth 100000 in
theorem open_varsV {fuel : Nat} {cs : List Value} {x : DataW H × List MemPlace} (hf : DataW.trod enc Tryd.prog W 0 (fun _ => true) true fuel 22 cs = some x) :
    ∃ (p : Option Addr) (n c : Nat) (K : Nat → Int), cs = [.slice p n c] ∧ (n ≤ c ∧ c ≤ 9223372036854775807) ∧ (∀ i, i < n → VrAt W p i (K i)) := by
  rcases DataW.trod_slice Tryd.underlying22 hf with ⟨hcs, _⟩ | ⟨a, len, cap, elems, rest, n2, _, hcs, hx0, _, hl, hcap, hel, hat, _, _⟩
  · exact ⟨none, 0, 0, fun _ => 0, hcs, ⟨Nat.le_refl _, by omega⟩, fun i hi => absurd hi (Nat.not_lt_zero i)⟩
  · rw [cellsVarV] at hat
    have hone : ∀ i (hi : i < len), ∃ q : List Value × Int × Int × Int, W.cells? 0 (a.add (i * 3)) 3 = some q.1 ∧ q.1 = [.int .i64 q.2.1, .int .i64 q.2.2.1, .int .i64 q.2.2.2] := by
      intro i hi
      have h := hat i hi
      rw [List.getElem?_eq_getElem (by omega), Option.bind_eq_some_iff] at h
      obtain ⟨ci, hc, ht⟩ := h
      obtain ⟨k, s, t, hs⟩ := open_varV ht
      exact ⟨(ci, k, s, t), hc, hs⟩
    obtain ⟨Q, hQ⟩ : ∃ Q : Nat → List Value × Int × Int × Int, ∀ i (hi : i < len), W.cells? 0 (a.add (i * 3)) 3 = some (Q i).1 ∧ (Q i).1 = [.int .i64 (Q i).2.1, .int .i64 (Q i).2.2.1, .int .i64 (Q i).2.2.2] :=
      ⟨fun i => if hi : i < len then Classical.choose (hone i hi) else ([], 0, 0, 0), fun i hi => by
        dsimp only
        rw [dif_pos hi]
        exact Classical.choose_spec (hone i hi)⟩
    refine ⟨some a, len, cap, fun i => (Q i).2.1, hcs, ⟨hl, by unfold maxLen at hcap; omega⟩, fun i hi => ?_⟩
    obtain ⟨b, o, ha, _, hc⟩ := atV (n := len) (fun i hi => (hQ i hi).1) (by omega) i hi
    have hq := (hQ i hi).2
    have hc' : ∀ j (hj : j < 3), W.cell? ⟨b, o + i * 3 + j, none⟩ = some ([Value.int .i64 (Q i).2.1, .int .i64 (Q i).2.2.1, .int .i64 (Q i).2.2.2][j]) := fun j hj => by
      have := hc j (by rw [hq]; exact hj)
      rw [this]
      congr 1
      simp only [hq]
    exact ⟨b, o, (Q i).2.2.1, (Q i).2.2.2, by rw [ha], hc' 0 (by omega), hc' 1 (by omega), hc' 2 (by omega)⟩
end
end Go.Proofs.YtdnafpdaoancbaaDoor
