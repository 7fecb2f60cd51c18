/-
  Contract of the method of the struct rests: the rests of two numbers after the steps that their leading bits determine.
-/
import Derived.Test.YtibjmibdboamcaaDoorLead
import Derived.Test.YtibjmibdboamcaaDoorDiff
set_option linter.unusedVariables false
set_option linter.unusedSimpArgs false
namespace Go.Proofs.YtibjmibdboamcaaDoor
open Go.RowKit Nm

/-- what Lehmer's steps make of a and c: H and O -/
def Leh (a c H O : Nat) : Prop := O < H ∧ Nat.gcd H O = Nat.gcd a c ∧ H + O < a + c ∧ H ≤ a

set_option maxHeartbeats 2000000 in
theorem restsOf_any (g3 g4 L c3 c4 : Nat) (d3 d4 xs ys : List Nat) (ax ay : Option Addr) (cx cy x0 y0 x1 y1 n : Nat) (w : World) (hr3 : IRow w g3 64 .u64 d3) (hr4 : IRow w g4 64 .u64 d4) (h34 : g3 ≠ g4)
    (hxr : IRd w .u64 ax L cx xs) (hyr : IRd w .u64 ay L cy ys) (hx3 : ∀ p, ax = some p → p.block ≠ g3) (hx4 : ∀ p, ax = some p → p.block ≠ g4) (hy3 : ∀ p, ay = some p → p.block ≠ g3) (hy4 : ∀ p, ay = some p → p.block ≠ g4)
    (hL3 : L ≤ d3.length) (hL4 : L ≤ d4.length) (hl3 : d3.length ≤ 900000000) (hl4 : d4.length ≤ 900000000) (hc3 : L ≤ c3) (hc4 : L ≤ c4) (hm3 : c3 ≤ 9223372036854775807) (hm4 : c4 ≤ 9223372036854775807)
    (hd3 : Dg W64 d3) (hd4 : Dg W64 d4) (hxs : Dg W64 xs) (hys : Dg W64 ys) (b0 : x0 < W64) (b1 : y0 < W64) (b2 : x1 < W64) (b3 : y1 < W64) (hn : n ≤ 4294967296) (hn1 : 1 ≤ n)
    (A C h o : Nat) (hE : Es A C x0 y0 x1 y1 n h o) (hlead : IsLead (V W64 xs) (V W64 ys) A C) :
    Calls Tryd.prog 101 #[.agg #[.int .u64 x0, .int .u64 y0, .int .u64 x1, .int .u64 y1, .int .i64 n], .slice ax L cx, .slice ay L cy, .slice (some ⟨g3, 0, none⟩) L c3, .slice (some ⟨g4, 0, none⟩) L c4] w
      fun e w' => ∃ (d3' d4' : List Nat) (wa wb : World), e = .returned (.tuple #[]) ∧ IRow w' g3 64 .u64 d3' ∧ IRow w' g4 64 .u64 d4' ∧ w.grownBy wa none ∧ wa.grownBy wb (some g3) ∧ wb.grownBy w' (some g4) ∧
        Hid (d3'.length = d3.length ∧ d4'.length = d4.length ∧ Dg W64 d3' ∧ Dg W64 d4' ∧ Leh (V W64 xs) (V W64 ys) (V W64 (d3'.take L)) (V W64 (d4'.take L))) := by
  obtain ⟨K, a', c', hK, ha, hc, ea, ec⟩ := hlead
  obtain ⟨H, O, l1, l2, l3, l4, l5, l6⟩ := hE.lift hn1 ha hc ea ec
  have hxL : V W64 xs < W64 ^ L := by have := hxs.lt; rw [hxr.len] at this; exact this
  have hHL : H < W64 ^ L := Nat.lt_of_le_of_lt l4 hxL
  have hOL : O < W64 ^ L := Nat.lt_trans l1 hHL
  have HLEH : Hid (Leh (V W64 xs) (V W64 ys) H O) := hid ⟨l1, l2, l3, l4⟩
  have n0 : (0 : Int) ≤ (n : Int) := by omega
  have hgb := World.grownBy_alloc w (.cells #[.int .u64 x0, .int .u64 y0, .int .u64 x1, .int .u64 y1, .int .i64 n] 121) none
  have hbox : Rst (w.alloc (.cells #[.int .u64 x0, .int .u64 y0, .int .u64 x1, .int .u64 y1, .int .i64 n] 121)) w.heap.size x0 y0 x1 y1 n := heap_alloc_new w _
  have hlt3 := hr3.lt
  have hlt4 := hr4.lt
  clear hK ha hc ea ec l1 l2 l3 l4 hE hxL
  rcases Nat.mod_two_eq_zero_or_one n with hp | hp
  · obtain ⟨q1, q2, q3, q4⟩ := l5 hp
    have hpar : (((n : Int) % 2) == 0) = true := by simp; omega
    have HQ := hid (And.intro q2 q4)
    have hD1 := fun W hr hx hy => difference_any g3 L c3 d3 xs ys ax ay cx cy x0 y0 W hr hx hy (fun p hp => by simpa using hx3 p hp) (fun p hp => by simpa using hy3 p hp) hL3 hl3 hc3 hm3 hd3 hxs hys b0 b1 q1 (by rw [← q2]; exact hHL)
    have hD2 := fun W hr hx hy => difference_any g4 L c4 d4 ys xs ay ax cy cx y1 x1 W hr hx hy (fun p hp => by simpa using hy4 p hp) (fun p hp => by simpa using hx4 p hp) hL4 hl4 hc4 hm4 hd4 hys hxs b3 b2 q3 (by rw [← q4]; exact hOL)
    have HD1 := hid hD1
    have HD2 := hid hD2
    have HQ1 := hid (And.intro q1 q3)
    clear hD1 hD2 q1 q2 q3 q4 l5 l6 hp
    obtain ⟨k0, k1, k2, k3, k4, _, _, _, _, _⟩ := hbox.facts
    go_enter Tryd.func101, Tryd.ntmps101
    go_wp2_with fail
    refine (HD1.out _ (hr3.kept hgb (by simp)) (hxr.keep hgb) (hyr.keep hgb)).mono ?_
    rintro e w1 ⟨d3', rfl, hr3', hg1, H3⟩
    have hbox1 := hbox.kept hg1 (by simp; omega)
    obtain ⟨k0, k1, k2, k3, k4, _, _, _, _, _⟩ := hbox1.facts
    go_wp2_with fail
    refine (HD2.out _ ((hr4.kept hgb (by simp)).kept hg1 (by simp; omega)) ((hyr.keep hgb).kept hg1 (.inr fun p hp => by simpa using hy3 p hp)) ((hxr.keep hgb).kept hg1 (.inr fun p hp => by simpa using hx3 p hp))).mono ?_
    rintro e w2 ⟨d4', rfl, hr4', hg2, H4⟩
    go_wp2_with fail
    go_end0
    refine ⟨d3', d4', _, _, rfl, hr3'.kept hg2 (by simp; omega), hr4', hgb, hg1, hg2, hid ⟨H3.out.1, H4.out.1, H3.out.2.1, H4.out.2.1, ?_⟩⟩
    rw [show V W64 (d3'.take L) = H by have := H3.out.2.2; have := HQ.out.1; have := HQ1.out.1; omega, show V W64 (d4'.take L) = O by have := H4.out.2.2; have := HQ.out.2; have := HQ1.out.2; omega]
    exact HLEH.out
  · obtain ⟨q1, q2, q3, q4⟩ := l6 hp
    have hpar : (((n : Int) % 2) == 0) = false := by rw [beq_eq_false_iff_ne]; omega
    have HQ := hid (And.intro q2 q4)
    have hD1 := fun W hr hx hy => difference_any g3 L c3 d3 ys xs ay ax cy cx y0 x0 W hr hx hy (fun p hp => by simpa using hy3 p hp) (fun p hp => by simpa using hx3 p hp) hL3 hl3 hc3 hm3 hd3 hys hxs b1 b0 q1 (by rw [← q2]; exact hHL)
    have hD2 := fun W hr hx hy => difference_any g4 L c4 d4 xs ys ax ay cx cy x1 y1 W hr hx hy (fun p hp => by simpa using hx4 p hp) (fun p hp => by simpa using hy4 p hp) hL4 hl4 hc4 hm4 hd4 hxs hys b2 b3 q3 (by rw [← q4]; exact hOL)
    have HD1 := hid hD1
    have HD2 := hid hD2
    have HQ1 := hid (And.intro q1 q3)
    clear hD1 hD2 q1 q2 q3 q4 l5 l6 hp
    obtain ⟨k0, k1, k2, k3, k4, _, _, _, _, _⟩ := hbox.facts
    go_enter Tryd.func101, Tryd.ntmps101
    go_wp2_with fail
    refine (HD1.out _ (hr3.kept hgb (by simp)) (hyr.keep hgb) (hxr.keep hgb)).mono ?_
    rintro e w1 ⟨d3', rfl, hr3', hg1, H3⟩
    have hbox1 := hbox.kept hg1 (by simp; omega)
    obtain ⟨k0, k1, k2, k3, k4, _, _, _, _, _⟩ := hbox1.facts
    go_wp2_with fail
    refine (HD2.out _ ((hr4.kept hgb (by simp)).kept hg1 (by simp; omega)) ((hxr.keep hgb).kept hg1 (.inr fun p hp => by simpa using hx3 p hp)) ((hyr.keep hgb).kept hg1 (.inr fun p hp => by simpa using hy3 p hp))).mono ?_
    rintro e w2 ⟨d4', rfl, hr4', hg2, H4⟩
    go_wp2_with fail
    go_end0
    refine ⟨d3', d4', _, _, rfl, hr3'.kept hg2 (by simp; omega), hr4', hgb, hg1, hg2, hid ⟨H3.out.1, H4.out.1, H3.out.2.1, H4.out.2.1, ?_⟩⟩
    rw [show V W64 (d3'.take L) = H by have := H3.out.2.2; have := HQ.out.1; have := HQ1.out.1; omega, show V W64 (d4'.take L) = O by have := H4.out.2.2; have := HQ.out.2; have := HQ1.out.2; omega]
    exact HLEH.out
end Go.Proofs.YtibjmibdboamcaaDoor
