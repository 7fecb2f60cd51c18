/-
  Contracts of the reference's find, Sort, Params, Word, Kind.
-/
import Derived.Test.YtlkajmfpbgipbaaAstH
import Derived.Test.YtlkajmfpbgipbaaAstD
set_option linter.unusedVariables false
set_option linter.unusedSimpArgs false
namespace Go.Proofs.Ytlkajmfpbgipbaa
open Go.RowKit _root_.Nm Ax
/-- kind, sort, word, parameters -/
def RowP (k : Int) (w : World) (e : Ending) (w' : World) : Prop :=
  ∃ (z : Int) (p : Option Addr) (n c : Nat), e = .returned (.agg #[.int .i64 z, .int .i64 (srt k : Nat), .string ⟨(wrd k).toArray⟩, .slice p n c]) ∧ Frs w p ∧ IRd w' .i64 p n c (prm k) ∧ w.grownBy w' none
theorem tab_first {k : Int} {i : Nat} {e : Ent} (he : tab[i]? = some e) (hk : (e.k : Int) = k) (h : ∀ j f, j < i → tab[j]? = some f → (f.k : Int) ≠ k) : ent k = some e := by
  unfold ent
  rw [List.find?_eq_some_iff_getElem]
  obtain ⟨hi, hie⟩ := List.getElem?_eq_some_iff.1 he
  refine ⟨by simp [hk], i, hi, hie, fun j hj => ?_⟩
  have := h j tab[j] hj (List.getElem?_eq_getElem _)
  simp [this]
theorem tab_none {k : Int} (h : ∀ j f, j < 30 → tab[j]? = some f → (f.k : Int) ≠ k) : ent k = none := by
  unfold ent
  rw [List.find?_eq_none]
  intro e he
  obtain ⟨i, hi, rfl⟩ := List.getElem_of_mem he
  have := h i tab[i] (by rwa [tab_len] at hi) (List.getElem?_eq_getElem _)
  simp [this]
theorem tab_word {w : List UInt8} {i : Nat} {e : Ent} (he : tab[i]? = some e) (hk : e.w = w) (h : ∀ j f, j < i → tab[j]? = some f → f.w ≠ w) : knd w = e.k := by
  unfold knd
  have : (tab.find? fun e => decide (e.w = w)) = some e := by
    rw [List.find?_eq_some_iff_getElem]
    obtain ⟨hi, hie⟩ := List.getElem?_eq_some_iff.1 he
    refine ⟨by simp [hk], i, hi, hie, fun j hj => ?_⟩
    have := h j tab[j] hj (List.getElem?_eq_getElem _)
    simp [this]
  rw [this]
theorem tab_noword {w : List UInt8} (h : ∀ j f, j < 30 → tab[j]? = some f → f.w ≠ w) : knd w = 0 := by
  unfold knd
  have : (tab.find? fun e => decide (e.w = w)) = none := by
    rw [List.find?_eq_none]
    intro e he
    obtain ⟨i, hi, rfl⟩ := List.getElem_of_mem he
    have := h i tab[i] (by rwa [tab_len] at hi) (List.getElem?_eq_getElem _)
    simp [this]
  rw [this]

set_option maxHeartbeats 8000000 in
set_option maxRecDepth 100000 in
theorem rkind_any (d : ByteArray) (w : World) : Calls Try.prog 29 #[.string d] w fun e w' => e = .returned (.int .i64 (knd d.toList : Nat)) ∧ w.grownBy w' none := by
  have HR := hid rows_any
  go_enter Try.func29, Try.ntmps29
  go_wp2_with (go_at_call 54; (with_reducible refine (HR.out _).mono ?_); rintro e w1 ⟨b, rfl, hb, hg1, hrw⟩; have HRW := hid hrw; clear hrw)
  go_loopw [7] (fun x wr => ∃ k : Nat, k ≤ 30 ∧ x = .int .i64 k ∧ w1.grownBy wr none ∧ ∀ j f, j < k → tab[j]? = some f → f.w ≠ d.toList) (fun x _ => 30 - (intOf x).toNat)
  case atStart => exact ⟨0, Nat.zero_le _, rfl, grown_refl _ _, fun j f h => absurd h (Nat.not_lt_zero j)⟩
  case round =>
    obtain ⟨k, hk, rfl, hg, hno⟩ := hrel
    by_cases hlt : k < 30
    · have HNO := hid hno
      clear hno
      obtain ⟨e, he⟩ := tab_at hlt
      obtain ⟨p, n, ⟨c0, c1, c2, c3⟩, hf, hr⟩ := (HRW.out.keep hg) k e he
      have HE := hid he
      clear he hf hr
      obtain ⟨⟨k0, k1, k2, k3⟩, f0, f1, f2, f3⟩ := box4 (blk0 wr (.cells #[.int .i64 0, .int .i64 0, .string ⟨#[]⟩, .slice none 0 0] 78))
      go_wp2_with fail
      · rename_i hw
        go_ret
        refine ⟨?_, grown_trans hg1 (grown_trans hg (World.grownBy_alloc _ _ none))⟩
        rw [tab_word HE.out (by simpa using hw) HNO.out]
        rfl
      · rename_i hw
        refine ⟨⟨k + 1, by omega, by go_num, grown_trans hg (World.grownBy_alloc _ _ none), ?_⟩, by simp [intOf]; omega⟩
        intro j f hj hf
        by_cases h : j = k
        · subst h
          rw [HE.out] at hf
          cases hf
          simpa using hw
        · exact HNO.out j f (by omega) hf
    · obtain rfl : k = 30 := by omega
      go_wp2_with fail
      go_ret
      refine ⟨?_, grown_trans hg1 hg⟩
      rw [tab_noword hno]
      rfl
theorem set4g (w : World) (G : Nat) (A B C D : Value) : w.grownBy ((((w.setCell ⟨G, 0, none⟩ A).setCell ⟨G, 1, none⟩ B).setCell ⟨G, 2, none⟩ C).setCell ⟨G, 3, none⟩ D) (some G) :=
  grown_trans (grown_setCell w ⟨G, 0, none⟩ A) (grown_trans (grown_setCell _ ⟨G, 1, none⟩ B) (grown_trans (grown_setCell _ ⟨G, 2, none⟩ C) (grown_setCell _ ⟨G, 3, none⟩ D)))
theorem RowP.mk {x : Int} {w w1 : World} {z : Int} {s : Nat} {d : ByteArray} {p : Option Addr} {n c : Nat} (hs : srt x = s) (hd : (⟨(wrd x).toArray⟩ : ByteArray) = d) (hr : IRd w1 .i64 p n c (prm x)) (hf : ∀ a, p = some a → w.heap.size < a.block) (hg : w.grownBy w1 none) :
    RowP x w (.returned (.agg #[.int .i64 z, .int .i64 (s : Int), .string d, .slice p n c])) ((((w1.setCell ⟨w.heap.size, 0, none⟩ (.int .i64 z)).setCell ⟨w.heap.size, 1, none⟩ (.int .i64 (s : Int))).setCell ⟨w.heap.size, 2, none⟩ (.string d)).setCell ⟨w.heap.size, 3, none⟩ (.slice p n c)) := by
  subst hs hd
  exact ⟨z, p, n, c, rfl, fun a e => Nat.le_of_lt (hf a e), hr.kept (set4g _ _ _ _ _ _) (.inr fun a e => by have := hf a e; simp; omega), grown_new hg (set4g _ _ _ _ _ _) fun g e => by cases e; exact Nat.le_refl _⟩
set_option maxHeartbeats 8000000 in
set_option maxRecDepth 100000 in
theorem rfind_any (x : Int) (w : World) : Calls Try.prog 53 #[.int .i64 x] w (RowP x w) := by
  have HR := hid rows_any
  have HA := hid (World.grownBy_alloc w (.cells #[.int .i64 0, .int .i64 0, .string ⟨#[]⟩, .slice none 0 0] 78) none)
  have HB := hid (blk0 w (.cells #[.int .i64 0, .int .i64 0, .string ⟨#[]⟩, .slice none 0 0] 78))
  go_enter Try.func53, Try.ntmps53
  go_wp2_with (go_at_call 54; (with_reducible refine (HR.out _).mono ?_); rintro e w1 ⟨b, rfl, hb, hg1, hrw⟩; have HRW := hid hrw; clear hrw)
  have hbb : b ≠ w.heap.size := by simp at hb; omega
  have HBR := hid (keepB HB.out hg1)
  go_loopw [7] (fun x' wr => ∃ k : Nat, k ≤ 30 ∧ x' = .int .i64 k ∧ w1.grownBy wr none ∧ ∀ j f, j < k → tab[j]? = some f → (f.k : Int) ≠ x) (fun x' _ => 30 - (intOf x').toNat)
  case atStart => exact ⟨0, Nat.zero_le _, rfl, grown_refl _ _, fun j f h => absurd h (Nat.not_lt_zero j)⟩
  case round =>
    obtain ⟨k, hk, rfl, hg, hno⟩ := hrel
    by_cases hlt : k < 30
    · have HNO := hid hno
      clear hno
      obtain ⟨e, he⟩ := tab_at hlt
      obtain ⟨p, n, ⟨c0, c1, c2, c3⟩, hf, hr⟩ := (HRW.out.keep hg) k e he
      have HE := hid he
      have HF := hid hf
      have HRR := hid hr
      clear he hf hr
      obtain ⟨⟨k0, k1, k2, k3⟩, f0, f1, f2, f3⟩ := box4 (blk0 wr (.cells #[.int .i64 0, .int .i64 0, .string ⟨#[]⟩, .slice none 0 0] 78))
      obtain ⟨⟨l0, l1, l2, l3⟩, g0, g1, g2, g3⟩ := box4 (keepB (keepB HBR.out hg) (World.grownBy_alloc wr (.cells #[.int .i64 (e.k : Nat), .int .i64 (e.s : Nat), .string ⟨e.w.toArray⟩, .slice p n n] 78) none))
      go_wp2_with fail
      · rename_i hw
        have hx := tab_first HE.out (by simpa using hw) HNO.out
        refine bodyPost_ret (v := .agg #[.int .i64 (e.k : Nat), .int .i64 (e.s : Nat), .string ⟨e.w.toArray⟩, .slice p n n]) (by simp [results, Try.results53, go_sem, l0, l1, l2, l3]) rfl (RowP.mk (by unfold srt; rw [hx]) (by unfold wrd; rw [hx]) (by unfold prm; rw [hx]; exact HRR.out.keep (World.grownBy_alloc _ _ none)) (fun a h => by have := HF.out a h; simp at this; omega) (grown_trans HA.out (grown_trans hg1 (grown_trans hg (World.grownBy_alloc _ _ none)))))
      · rename_i hw
        refine ⟨⟨k + 1, by omega, by go_num, grown_trans hg (World.grownBy_alloc _ _ none), ?_⟩, by simp [intOf]; omega⟩
        intro j f hj hf
        by_cases h : j = k
        · subst h
          rw [HE.out] at hf
          cases hf
          simpa using hw
        · exact HNO.out j f (by omega) hf
    · obtain rfl : k = 30 := by omega
      obtain ⟨⟨l0, l1, l2, l3⟩, g0, g1, g2, g3⟩ := box4 (keepB HBR.out hg)
      go_wp2_with fail
      have hx := tab_none hno
      refine bodyPost_ret (v := .agg #[.int .i64 0, .int .i64 0, .string ⟨#[]⟩, .slice none 0 0]) (by simp [results, Try.results53, go_sem, l0, l1, l2, l3]) rfl (RowP.mk (s := 0) (by unfold srt; rw [hx]) (by unfold wrd; rw [hx]) (by unfold prm; rw [hx]; exact IRd.nil _ _) (fun a h => by cases h) (grown_trans HA.out (grown_trans hg1 hg)))
theorem row_fld (a x y z : Value) : (∀ w, (Instr.field 78 (.agg #[a, x, y, z]) 1).run Try.prog w = .ok x w) ∧ (∀ w, (Instr.field 78 (.agg #[a, x, y, z]) 2).run Try.prog w = .ok y w) ∧ (∀ w, (Instr.field 78 (.agg #[a, x, y, z]) 3).run Try.prog w = .ok z w) :=
  ⟨fun w => by kernel_rfl, fun w => by kernel_rfl, fun w => by kernel_rfl⟩
set_option maxRecDepth 100000 in
theorem rsort_any (k : Int) (w : World) : Calls Try.prog 22 #[.int .i64 k] w fun e w' => e = .returned (.int .i64 (srt k : Nat)) ∧ w.grownBy w' none := by
  have hsf := row_fld
  go_enter Try.func22, Try.ntmps22
  go_wp2_with (go_at_call 53; refine (rfind_any k _).mono ?_; rintro e w1 ⟨z, p, n, c, rfl, hf, hr, hg⟩; obtain ⟨j0, j1, j2⟩ := hsf (.int .i64 z) (.int .i64 (srt k : Nat)) (.string ⟨(wrd k).toArray⟩) (.slice p n c))
  go_ret
  exact ⟨rfl, hg⟩
set_option maxRecDepth 100000 in
theorem rword_any (k : Int) (w : World) : Calls Try.prog 27 #[.int .i64 k] w fun e w' => e = .returned (.string ⟨(wrd k).toArray⟩) ∧ w.grownBy w' none := by
  have hsf := row_fld
  go_enter Try.func27, Try.ntmps27
  go_wp2_with (go_at_call 53; refine (rfind_any k _).mono ?_; rintro e w1 ⟨z, p, n, c, rfl, hf, hr, hg⟩; obtain ⟨j0, j1, j2⟩ := hsf (.int .i64 z) (.int .i64 (srt k : Nat)) (.string ⟨(wrd k).toArray⟩) (.slice p n c))
  go_ret
  exact ⟨rfl, hg⟩
set_option maxRecDepth 100000 in
theorem rparams_any (k : Int) (w : World) : Calls Try.prog 25 #[.int .i64 k] w fun e w' => ∃ p n c, e = .returned (.slice p n c) ∧ Frs w p ∧ IRd w' .i64 p n c (prm k) ∧ w.grownBy w' none := by
  have hsf := row_fld
  go_enter Try.func25, Try.ntmps25
  go_wp2_with (go_at_call 53; refine (rfind_any k _).mono ?_; rintro e w1 ⟨z, p, n, c, rfl, hf, hr, hg⟩; obtain ⟨j0, j1, j2⟩ := hsf (.int .i64 z) (.int .i64 (srt k : Nat)) (.string ⟨(wrd k).toArray⟩) (.slice p n c))
  go_ret
  exact ⟨p, n, c, rfl, hf, hr, hg⟩
end Go.Proofs.Ytlkajmfpbgipbaa
