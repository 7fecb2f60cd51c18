/-
  Qtext, in one text.
-/
import Derived.Test.YtkggoniecmlglaaGreatDoorMrT
import Derived.Test.YtkggoniecmlglaaGreatDoorMrB
import Derived.Test.YtkggoniecmlglaaGreatDoorMrA
import Derived.Test.YtkggoniecmlglaaGreatDoorMrR
import Derived.Test.YtkggoniecmlglaaGreatDoorMrP
import Derived.Deep.RegionHeld3

set_option linter.unusedVariables false
set_option linter.unusedSimpArgs false
namespace Go.Proofs.YtkggoniecmlglaaGreatDoor
open Go.RowKit _root_.Nm

/-- the numeral of a rational number -/
def rtx (v : Rat) : List UInt8 := if v.den = 1 then itx v.num else itx v.num ++ [47] ++ Lib.decDigits v.den
theorem itx_limbs {Z : Int} {n : Nat} (h : Z.natAbs < 65536 ^ n) : (itx Z).length ≤ 5 * n + 2 := by
  have := dec_limbs h
  by_cases hz : Z < 0
  · rw [itx_neg hz]; simp; omega
  · rw [itx_pos hz]; omega

theorem set3_block {w : World} {G : Nat} {x y z : Value} {T : TypeId} (hb : w.heap[G]? = some (.cells #[x, y, z] T (0, 0))) (A B C : Value) :
    (((w.setCell ⟨G, 0, none⟩ A).setCell ⟨G, 1, none⟩ B).setCell ⟨G, 2, none⟩ C).heap[G]? = some (.cells #[A, B, C] T (0, 0)) := by
  have h1 := heap_setCell_same w G 0 _ _ A hb
  have h2 := heap_setCell_same _ G 1 _ _ B h1
  have h3 := heap_setCell_same _ G 2 _ _ C h2
  simpa using h3

set_option maxHeartbeats 2000000 in
theorem ratText_v {w : World} {g : Bool} {p q : Option Addr} {n c m d : Nat} {v : Rat} (T : Tb w) (TP : Tp w) (hA : IsQ w g p n c q m d v) (hn : n ≤ 1000) (hm : m ≤ 1000) :
    Calls Tryz.prog 9 #[.agg #[.bool g, .slice p n c, .slice q m d]] w fun e w' => e = .returned (str (rtx v)) ∧ w.grownBy w' none := by
  have hg1 := World.grownBy_alloc w (.cells #[.bool g, .slice p n c, .slice q m d] 27) none
  obtain ⟨N, D, h1, h2, hv⟩ := hA
  have HPt := hid (parts_any (h1.keep hg1) (h2.keep hg1) (by omega) (by omega))
  go_enter Tryz.func9, Tryz.ntmps9
  go_wp2_with fail
  refine HPt.out.mono ?_
  rintro e w1 ⟨ga, pa, na, ca, qa, ma, da, rfl, k1, k2, hna, hma, hg⟩
  go_wp2_with fail
  refine (lowest_any (T.keep (grown_trans hg1 hg)) k1 k2 (pd_pos D) (by omega) (by omega)).mono ?_
  rintro e w2 ⟨g2, p2, n2, c2, q2, m2, d2, rfl, i1, i2, hn2, hm2, hg2⟩
  rw [rn_q (pd_pos D), pq, ← hv] at i1
  rw [rd_q (pd_pos D), pq, ← hv] at i2
  have hbx : w2.heap[w.heap.size]? = some (.cells #[.bool g, .slice p n c, .slice q m d] 27 (0, 0)) := ((grown_trans hg hg2).block _ (by simp) (by simp)).trans (heap_alloc_new w _)
  obtain ⟨x0, x1, x2, f0, f1, f2⟩ := ratbox_facts hbx
  have hgs := set3_grown w2 w.heap.size (.bool g2) (.slice p2 n2 c2) (.slice q2 m2 d2)
  have hb3 := set3_block hbx (.bool g2) (.slice p2 n2 c2) (.slice q2 m2 d2)
  replace i1 : IsI _ g2 p2 n2 c2 v.num := ⟨IsC.other3 i1.1 hbx hgs, i1.2⟩
  replace i2 := i2.other3 hbx hgs
  have hW := grown_new (grown_trans hg1 (grown_trans hg hg2)) hgs (fun g e => by cases e; exact Nat.le_refl _)
  obtain ⟨y0, y1, y2, _, _, _⟩ := ratbox_facts hb3
  have hl1 : (itx v.num).length ≤ 200002 := by have := itx_limbs i1.1.isN.lt; omega
  have hl2 : (Lib.decDigits v.den).length ≤ 200001 := by have := dec_limbs i2.isN.lt; omega
  obtain ⟨l1, hl1e⟩ : ∃ l1, l1 = itx v.num := ⟨_, rfl⟩
  obtain ⟨l2, hl2e⟩ : ∃ l2, l2 = Lib.decDigits v.den := ⟨_, rfl⟩
  rw [← hl1e] at hl1
  rw [← hl2e] at hl2
  have hcat1 : ∀ w, (Op.stringOp .add ⟨l1.toArray⟩ ⟨#[47]⟩).run Tryz.prog w = .ok (str (l1 ++ [47])) w := fun w => run_string_add_lists w l1 [47] (by omega) (by simp)
  have hcat2 : ∀ w, (Op.stringOp .add ⟨(l1 ++ [47]).toArray⟩ ⟨l2.toArray⟩).run Tryz.prog w = .ok (str (l1 ++ [47] ++ l2)) w := fun w => run_string_add_lists w (l1 ++ [47]) l2 (by simp; omega) (by omega)
  have HL := hid (And.intro hl1e hl2e)
  clear hl1e hl2e hgs hb3 hbx h1 h2 hv HPt k1 k2 hg hg2 hg1
  go_wp2_with fail
  generalize ((w2.setCell ⟨w.heap.size, 0, none⟩ (.bool g2)).setCell ⟨w.heap.size, 1, none⟩ (.slice p2 n2 c2)).setCell ⟨w.heap.size, 2, none⟩ (.slice q2 m2 d2) = w3 at *
  have hT1 := intText_n i1.z (by omega) (tp_keep TP hW)
  rw [← HL.out.1] at hT1
  refine hT1.mono ?_
  rintro e w4 ⟨rfl, hg⟩
  replace i2 := i2.keep hg; replace y0 := hg.cell y0 (by simp); replace y1 := hg.cell y1 (by simp); replace y2 := hg.cell y2 (by simp); replace hW := grown_trans hW hg; clear hg hT1
  go_wp2_with fail
  refine (isOne_any i2.isN).mono ?_
  rintro e w5 ⟨rfl, hg⟩
  replace i2 := i2.keep hg; replace y0 := hg.cell y0 (by simp); replace y1 := hg.cell y1 (by simp); replace y2 := hg.cell y2 (by simp); replace hW := grown_trans hW hg; clear hg
  by_cases hd : v.den = 1
  · have HR : Hid (rtx v = l1) := hid (by unfold rtx; rw [if_pos hd, HL.out.1])
    rw [decide_eq_true hd]
    clear hd
    go_wp2_with fail
    go_ret
    exact ⟨by rw [HR.out]; rfl, hW⟩
  · have HR : Hid (rtx v = l1 ++ [47] ++ l2) := hid (by unfold rtx; rw [if_neg hd, HL.out.1, HL.out.2])
    rw [decide_eq_false hd]
    clear hd
    have hT2 := natText_n i2.isN (by omega) (tp_keep TP hW)
    rw [← HL.out.2] at hT2
    have HT2 := hid hT2
    clear hT2
    go_wp2_with fail
    refine HT2.out.mono ?_
    rintro e w6 ⟨rfl, hg⟩
    go_wp2_with fail
    go_ret
    exact ⟨by rw [HR.out, List.append_assoc]; rfl, grown_trans hW hg⟩

theorem refOneL (w : World) : Calls Tryz.prog 27 #[.int .u64 1] w fun e w' => ∃ p n c, e = .returned (.slice p n c) ∧ IsC w' p n c 1 ∧ n ≤ 4 ∧ w.grownBy w' none := refOf_c 1 (by decide) w

set_option maxHeartbeats 4000000 in
set_option maxRecDepth 100000 in
theorem rRatText_v {w : World} {g : Bool} {p q : Option Addr} {n c m d : Nat} {v : Rat} (hA : IsQ w g p n c q m d v) (hn : n ≤ 1000) (hm : m ≤ 1000) :
    Calls Tryz.prog 10 #[.agg #[.bool g, .slice p n c, .slice q m d]] w fun e w' => e = .returned (str (rtx v)) ∧ w.grownBy w' none := by
  have hg1 := World.grownBy_alloc w (.cells #[.bool g, .slice p n c, .slice q m d] 27) none
  have HN := hid (norm_v 1000 (hA.keep hg1) hn hm (by omega))
  go_enter Tryz.func10, Tryz.ntmps10
  go_wp2_with fail
  refine HN.out.mono ?_
  rintro e w2 ⟨g2, p2, n2, c2, q2, m2, d2, rfl, ⟨i1, i2⟩, hn2, hm2, hg⟩
  have hbx : w2.heap[w.heap.size]? = some (.cells #[.bool g, .slice p n c, .slice q m d] 27 (0, 0)) := (hg.block _ (by simp) (by simp)).trans (heap_alloc_new w _)
  obtain ⟨x0, x1, x2, f0, f1, f2⟩ := ratbox_facts hbx
  have hgs := set3_grown w2 w.heap.size (.bool g2) (.slice p2 n2 c2) (.slice q2 m2 d2)
  have hb3 := set3_block hbx (.bool g2) (.slice p2 n2 c2) (.slice q2 m2 d2)
  replace i1 : IsI _ g2 p2 n2 c2 v.num := ⟨IsC.other3 i1.1 hbx hgs, i1.2⟩
  replace i2 := i2.other3 hbx hgs
  have hW := grown_new (grown_trans hg1 hg) hgs (fun g e => by cases e; exact Nat.le_refl _)
  obtain ⟨y0, y1, y2, _, _, _⟩ := ratbox_facts hb3
  have hl1 : (itx v.num).length ≤ 200002 := by have := itx_limbs i1.1.isN.lt; omega
  have hl2 : (Lib.decDigits v.den).length ≤ 200001 := by have := dec_limbs i2.isN.lt; omega
  obtain ⟨l1, hl1e⟩ : ∃ l1, l1 = itx v.num := ⟨_, rfl⟩
  obtain ⟨l2, hl2e⟩ : ∃ l2, l2 = Lib.decDigits v.den := ⟨_, rfl⟩
  rw [← hl1e] at hl1
  rw [← hl2e] at hl2
  have hcat1 : ∀ w, (Op.stringOp .add ⟨l1.toArray⟩ ⟨#[47]⟩).run Tryz.prog w = .ok (str (l1 ++ [47])) w := fun w => run_string_add_lists w l1 [47] (by omega) (by simp)
  have hcat2 : ∀ w, (Op.stringOp .add ⟨(l1 ++ [47]).toArray⟩ ⟨l2.toArray⟩).run Tryz.prog w = .ok (str (l1 ++ [47] ++ l2)) w := fun w => run_string_add_lists w (l1 ++ [47]) l2 (by simp; omega) (by omega)
  have HL := hid (And.intro hl1e hl2e)
  have HT1 := hid (fun W (h : IsI W g2 p2 n2 c2 v.num) => rText_n h.z (by omega))
  rw [← HL.out.1] at HT1
  have HT2 := hid (fun W (h : IsC W q2 m2 d2 v.den) => refText_n h.isN (by omega))
  rw [← HL.out.2] at HT2
  clear hl1e hl2e hgs hb3 hbx hA HN hg hg1
  go_upto_region 2 with fail
  generalize ((w2.setCell ⟨w.heap.size, 0, none⟩ (.bool g2)).setCell ⟨w.heap.size, 1, none⟩ (.slice p2 n2 c2)).setCell ⟨w.heap.size, 2, none⟩ (.slice q2 m2 d2) = w3 at *
  generalize w.heap.size = K at *
  have hg := grown_drew w3 none
  replace i1 := i1.keep hg; replace i2 := i2.keep hg; replace y0 := hg.cell y0 (by simp); replace y1 := hg.cell y1 (by simp); replace y2 := hg.cell y2 (by simp); replace hW := grown_trans hW hg; clear hg
  go_region_held3 (fun w' => w'.cell? ⟨K, 0, none⟩ = some (.bool g2) ∧ w'.cell? ⟨K, 1, none⟩ = some (.slice p2 n2 c2) ∧ w'.cell? ⟨K, 2, none⟩ = some (.slice q2 m2 d2)) ((try go_split_ands) <;> (repeat' apply And.intro) <;> (repeat (first | (with_reducible assumption) | (with_reducible refine (grown_setCell _ _ _).cell ?_ (by simp; omega)) | (with_reducible refine (World.grownBy_alloc _ _ none).cell ?_ (by simp)) | (with_reducible refine (grown_drew _ none).cell ?_ (by simp)))))
    (first
      | (go_at_call 27; (with_reducible refine (refOneL _).mono ?_); rintro e w4 ⟨p4, n4, c4, rfl, hO, hn4, hg⟩; replace i1 := i1.keep hg; replace i2 := i2.keep hg; replace y0 := hg.cell y0 (by simp); replace y1 := hg.cell y1 (by simp); replace y2 := hg.cell y2 (by simp); replace hW := grown_trans hW hg; clear hg)
      | (go_at_call 35; (with_reducible refine (same_d i2 hO).mono ?_); rintro e w5 ⟨rfl, hg⟩; replace i1 := i1.keep hg; replace i2 := i2.keep hg; replace y0 := hg.cell y0 (by simp); replace y1 := hg.cell y1 (by simp); replace y2 := hg.cell y2 (by simp); replace hW := grown_trans hW hg; clear hg))
  by_cases hd : v.den = 1
  · have HR : Hid (rtx v = l1) := hid (by unfold rtx; rw [if_pos hd, HL.out.1])
    rw [decide_eq_true hd]
    clear hd
    go_wp2_with fail
    refine (HT1.out _ i1).mono ?_
    rintro e w6 ⟨rfl, hg⟩
    go_wp2_with fail
    go_ret
    exact ⟨by rw [HR.out]; rfl, grown_trans hW hg⟩
  · have HR : Hid (rtx v = l1 ++ [47] ++ l2) := hid (by unfold rtx; rw [if_neg hd, HL.out.1, HL.out.2])
    rw [decide_eq_false hd]
    clear hd
    go_upto_region 4 with fail
    have hg := grown_drew w5 none
    replace i1 := i1.keep hg; replace i2 := i2.keep hg; replace y0 := hg.cell y0 (by simp); replace y1 := hg.cell y1 (by simp); replace y2 := hg.cell y2 (by simp); replace hW := grown_trans hW hg; clear hg
    go_region_held3 (fun w' => w'.cell? ⟨K, 0, none⟩ = some (.bool g2) ∧ w'.cell? ⟨K, 1, none⟩ = some (.slice p2 n2 c2) ∧ w'.cell? ⟨K, 2, none⟩ = some (.slice q2 m2 d2)) ((try go_split_ands) <;> (repeat' apply And.intro) <;> (repeat (first | (with_reducible assumption) | (with_reducible refine (grown_setCell _ _ _).cell ?_ (by simp; omega)) | (with_reducible refine (World.grownBy_alloc _ _ none).cell ?_ (by simp)) | (with_reducible refine (grown_drew _ none).cell ?_ (by simp)))))
      (first
        | (go_at_call 36; (with_reducible refine (HT1.out _ i1).mono ?_); rintro e w6 ⟨rfl, hg⟩; replace i1 := i1.keep hg; replace i2 := i2.keep hg; replace y0 := hg.cell y0 (by simp); replace y1 := hg.cell y1 (by simp); replace y2 := hg.cell y2 (by simp); replace hW := grown_trans hW hg; clear hg)
        | (go_at_call 37; (with_reducible refine (HT2.out _ i2).mono ?_); rintro e w7 ⟨rfl, hg⟩; replace i1 := i1.keep hg; replace i2 := i2.keep hg; replace y0 := hg.cell y0 (by simp); replace y1 := hg.cell y1 (by simp); replace y2 := hg.cell y2 (by simp); replace hW := grown_trans hW hg; clear hg))
    all_goals
      go_wp2_with fail
      go_ret
      exact ⟨by rw [HR.out, List.append_assoc]; rfl, hW⟩
end Go.Proofs.YtkggoniecmlglaaGreatDoor
