/-
  Contracts of shapeOf, Sort, Params, Word.
-/
import Derived.Test.YtlkajmfpbgipbaaAstB
import Derived.Test.YtlkajmfpbgipbaaBox4
set_option linter.unusedVariables false
set_option linter.unusedSimpArgs false
namespace Go.Proofs.Ytlkajmfpbgipbaa
open Go.RowKit _root_.Nm Ax

theorem box3 {w : World} {G : Nat} {x y z : Value} {T : TypeId} (hb : w.heap[G]? = some (.cells #[x, y, z] T (0, 0))) :
    (w.cell? ⟨G, 0, none⟩ = some x ∧ w.cell? ⟨G, 1, none⟩ = some y ∧ w.cell? ⟨G, 2, none⟩ = some z) ∧ w.frozen? ⟨G, 0, none⟩ = false ∧ w.frozen? ⟨G, 1, none⟩ = false ∧ w.frozen? ⟨G, 2, none⟩ = false := by
  have k0 := cell_of_row w G 0 _ _ _ hb
  have k1 := cell_of_row w G 1 _ _ _ hb
  have k2 := cell_of_row w G 2 _ _ _ hb
  simp at k0 k1 k2
  exact ⟨⟨k0, k1, k2⟩, frozen_of_row w G 0 _ _ hb, frozen_of_row w G 1 _ _ hb, frozen_of_row w G 2 _ _ hb⟩
theorem set3g (w : World) (G : Nat) (A B C : Value) : w.grownBy (((w.setCell ⟨G, 0, none⟩ A).setCell ⟨G, 1, none⟩ B).setCell ⟨G, 2, none⟩ C) (some G) :=
  grown_trans (grown_setCell w ⟨G, 0, none⟩ A) (grown_trans (grown_setCell _ ⟨G, 1, none⟩ B) (grown_setCell _ ⟨G, 2, none⟩ C))
theorem set3n {w0 w : World} (h : w0.grownBy w none) (G : Nat) (A B C : Value) (hG : w0.heap.size ≤ G) : w0.grownBy (((w.setCell ⟨G, 0, none⟩ A).setCell ⟨G, 1, none⟩ B).setCell ⟨G, 2, none⟩ C) none :=
  grown_new h (set3g w G A B C) fun g e => by cases e; exact hG

/-- the row of a kind is returned -/
def SoP (k : Int) (w : World) (e : Ending) (w' : World) : Prop :=
  ∃ (p : Option Addr) (n c : Nat), e = .returned (.agg #[.int .i64 (srt k : Nat), .string ⟨(wrd k).toArray⟩, .slice p n c]) ∧ Frs w p ∧ IRd w' .i64 p n c (prm k) ∧ w.grownBy w' none
theorem SoP.mk {k : Int} {w w1 : World} {s : Nat} {d : ByteArray} {p : Option Addr} {n c : Nat} (hs : srt k = s) (hd : (⟨(wrd k).toArray⟩ : ByteArray) = d) (hr : IRd w1 .i64 p n c (prm k)) (hf : ∀ a, p = some a → w.heap.size < a.block) (hg : w.grownBy w1 none) :
    SoP k w (.returned (.agg #[.int .i64 (s : Int), .string d, .slice p n c])) (((w1.setCell ⟨w.heap.size, 0, none⟩ (.int .i64 (s : Int))).setCell ⟨w.heap.size, 1, none⟩ (.string d)).setCell ⟨w.heap.size, 2, none⟩ (.slice p n c)) := by
  subst hs hd
  exact ⟨p, n, c, rfl, fun a e => Nat.le_of_lt (hf a e), hr.kept (set3g _ _ _ _ _) (.inr fun a e => by have := hf a e; simp; omega), set3n hg _ _ _ _ (Nat.le_refl _)⟩
theorem ShP.e {s : Nat} {k : Int} {w w' : World} {e : Ending} (h : ShP s k w e w') (he : pS s k = ([], [])) : ∃ (p : Option Addr) (n c : Nat), e = .returned (.tuple #[.string ⟨#[]⟩, .slice p n c]) ∧ w.grownBy w' none := by
  obtain ⟨p, n, c, rfl, _, _, hg⟩ := h
  exact ⟨p, n, c, by rw [he], hg⟩
theorem ShP.y {s : Nat} {k : Int} {w w' : World} {e : Ending} {d : ByteArray} (h : ShP s k w e w') (he : pS s k = (wrd k, prm k)) (hd : (⟨(wrd k).toArray⟩ : ByteArray) = d) : ∃ (p : Option Addr) (n c : Nat), e = .returned (.tuple #[.string d, .slice p n c]) ∧ Frs w p ∧ IRd w' .i64 p n c (prm k) ∧ w.grownBy w' none := by
  obtain ⟨p, n, c, rfl, hf, hr, hg⟩ := h
  rw [he] at hr
  exact ⟨p, n, c, by rw [he, ← hd], hf, hr, hg⟩

set_option maxHeartbeats 16000000 in
set_option maxRecDepth 100000 in
theorem shapeOf_any (k : Int) (w : World) : Calls Try.prog 52 #[.int .i64 k] w (SoP k w) := by
  have HA := hid (World.grownBy_alloc w (.cells #[.int .i64 0, .string ⟨#[]⟩, .slice none 0 0] 75) none)
  rcases kinds_cases k with ⟨h1, h2, h3, h4⟩ | ⟨h2, h1, h4⟩
  · have HP : Hid (∀ s, s < 10 → pS s k = ([], [])) := hid fun s _ => h4 s
    have HS : Hid (srt k = 0 ∧ wrd k = [] ∧ prm k = []) := hid ⟨h1, h2, h3⟩
    clear h1 h2 h3 h4
    have bx0 := blk0 w (.cells #[.int .i64 0, .string ⟨#[]⟩, .slice none 0 0] 75)
    have hG0 := HA.out
    go_enter Try.func52, Try.ntmps52
    go_wp2_with (first | (go_at_call 72; refine (pointShape_any k _).mono ?_; rintro e w1 hS; obtain ⟨p1, n1, c1, rfl, hg1⟩ := hS.e (HP.out 1 (by omega)); clear hS; have bx1 := keepB bx0 hg1; have hG1 := grown_trans hG0 hg1) | (go_at_call 73; refine (lineShape_any k _).mono ?_; rintro e w2 hS; obtain ⟨p2, n2, c2, rfl, hg2⟩ := hS.e (HP.out 2 (by omega)); clear hS; have bx2 := keepB bx1 hg2; have hG2 := grown_trans hG1 hg2) | (go_at_call 74; refine (circleShape_any k _).mono ?_; rintro e w3 hS; obtain ⟨p3, n3, c3, rfl, hg3⟩ := hS.e (HP.out 3 (by omega)); clear hS; have bx3 := keepB bx2 hg3; have hG3 := grown_trans hG2 hg3) | (go_at_call 75; refine (goalShape_any k _).mono ?_; rintro e w4 hS; obtain ⟨p4, n4, c4, rfl, hg4⟩ := hS.e (HP.out 4 (by omega)); clear hS; have bx4 := keepB bx3 hg4; have hG4 := grown_trans hG3 hg4; obtain ⟨⟨k0, k1, k2⟩, f0, f1, f2⟩ := box3 bx4))
    exact bodyPost_ret (v := .agg #[.int .i64 0, .string ⟨#[]⟩, .slice none 0 0]) (by simp [results, Try.results52, go_sem, k0, k1, k2]) rfl (SoP.mk HS.out.1 (by rw [HS.out.2.1]) (by rw [HS.out.2.2]; exact IRd.nil _ _) (fun a e => by cases e) hG4)
  · obtain ⟨d, hd⟩ : ∃ d, (⟨(wrd k).toArray⟩ : ByteArray) = d := ⟨_, rfl⟩
    have hem : d.toList.isEmpty = false := by
      rw [← hd, Lib.toList_data]
      cases hw : wrd k with
      | nil => exact absurd hw h2
      | cons a r => rfl
    have HD := hid hd
    have HP : Hid (∀ s, s < 10 → srt k ≠ s → pS s k = ([], [])) := hid fun s _ h => by rw [h4 s, if_neg h]
    have HY0 : Hid (pS (srt k) k = (wrd k, prm k)) := hid (by rw [h4, if_pos rfl])
    clear h2 h4 hd
    have bx0 := blk0 w (.cells #[.int .i64 0, .string ⟨#[]⟩, .slice none 0 0] 75)
    have hG0 := HA.out
    rcases h1 with h1 | h1 | h1 | h1
    · have HSO := hid h1
      have HY : Hid (pS 1 k = (wrd k, prm k)) := hid (h1 ▸ HY0.out)
      clear h1
      go_enter Try.func52, Try.ntmps52
      go_wp2_with (first | (go_at_call 72; refine (pointShape_any k _).mono ?_; rintro e w1 hS; obtain ⟨p1, n1, c1, rfl, hf, hr, hg1⟩ := hS.y HY.out HD.out; clear hS; have bx1 := keepB bx0 hg1; have hsz := lt_of_block bx0; have hG1 := grown_trans hG0 hg1; obtain ⟨⟨k0, k1, k2⟩, f0, f1, f2⟩ := box3 bx1))
      exact bodyPost_ret (v := .agg #[.int .i64 1, .string d, .slice p1 n1 c1]) (by simp [results, Try.results52, go_sem, k0, k1, k2]) rfl (SoP.mk HSO.out HD.out hr (fun a e => by have := hf a e; omega) hG1)
    · have HSO := hid h1
      have HY : Hid (pS 2 k = (wrd k, prm k)) := hid (h1 ▸ HY0.out)
      clear h1
      go_enter Try.func52, Try.ntmps52
      go_wp2_with (first | (go_at_call 72; refine (pointShape_any k _).mono ?_; rintro e w1 hS; obtain ⟨p1, n1, c1, rfl, hg1⟩ := hS.e (HP.out 1 (by omega) (by rw [HSO.out]; decide)); clear hS; have bx1 := keepB bx0 hg1; have hG1 := grown_trans hG0 hg1) | (go_at_call 73; refine (lineShape_any k _).mono ?_; rintro e w2 hS; obtain ⟨p2, n2, c2, rfl, hf, hr, hg2⟩ := hS.y HY.out HD.out; clear hS; have bx2 := keepB bx1 hg2; have hsz := lt_of_block bx1; have hG2 := grown_trans hG1 hg2; obtain ⟨⟨k0, k1, k2⟩, f0, f1, f2⟩ := box3 bx2))
      exact bodyPost_ret (v := .agg #[.int .i64 2, .string d, .slice p2 n2 c2]) (by simp [results, Try.results52, go_sem, k0, k1, k2]) rfl (SoP.mk HSO.out HD.out hr (fun a e => by have := hf a e; omega) hG2)
    · have HSO := hid h1
      have HY : Hid (pS 3 k = (wrd k, prm k)) := hid (h1 ▸ HY0.out)
      clear h1
      go_enter Try.func52, Try.ntmps52
      go_wp2_with (first | (go_at_call 72; refine (pointShape_any k _).mono ?_; rintro e w1 hS; obtain ⟨p1, n1, c1, rfl, hg1⟩ := hS.e (HP.out 1 (by omega) (by rw [HSO.out]; decide)); clear hS; have bx1 := keepB bx0 hg1; have hG1 := grown_trans hG0 hg1) | (go_at_call 73; refine (lineShape_any k _).mono ?_; rintro e w2 hS; obtain ⟨p2, n2, c2, rfl, hg2⟩ := hS.e (HP.out 2 (by omega) (by rw [HSO.out]; decide)); clear hS; have bx2 := keepB bx1 hg2; have hG2 := grown_trans hG1 hg2) | (go_at_call 74; refine (circleShape_any k _).mono ?_; rintro e w3 hS; obtain ⟨p3, n3, c3, rfl, hf, hr, hg3⟩ := hS.y HY.out HD.out; clear hS; have bx3 := keepB bx2 hg3; have hsz := lt_of_block bx2; have hG3 := grown_trans hG2 hg3; obtain ⟨⟨k0, k1, k2⟩, f0, f1, f2⟩ := box3 bx3))
      exact bodyPost_ret (v := .agg #[.int .i64 3, .string d, .slice p3 n3 c3]) (by simp [results, Try.results52, go_sem, k0, k1, k2]) rfl (SoP.mk HSO.out HD.out hr (fun a e => by have := hf a e; omega) hG3)
    · have HSO := hid h1
      have HY : Hid (pS 4 k = (wrd k, prm k)) := hid (h1 ▸ HY0.out)
      clear h1
      go_enter Try.func52, Try.ntmps52
      go_wp2_with (first | (go_at_call 72; refine (pointShape_any k _).mono ?_; rintro e w1 hS; obtain ⟨p1, n1, c1, rfl, hg1⟩ := hS.e (HP.out 1 (by omega) (by rw [HSO.out]; decide)); clear hS; have bx1 := keepB bx0 hg1; have hG1 := grown_trans hG0 hg1) | (go_at_call 73; refine (lineShape_any k _).mono ?_; rintro e w2 hS; obtain ⟨p2, n2, c2, rfl, hg2⟩ := hS.e (HP.out 2 (by omega) (by rw [HSO.out]; decide)); clear hS; have bx2 := keepB bx1 hg2; have hG2 := grown_trans hG1 hg2) | (go_at_call 74; refine (circleShape_any k _).mono ?_; rintro e w3 hS; obtain ⟨p3, n3, c3, rfl, hg3⟩ := hS.e (HP.out 3 (by omega) (by rw [HSO.out]; decide)); clear hS; have bx3 := keepB bx2 hg3; have hG3 := grown_trans hG2 hg3) | (go_at_call 75; refine (goalShape_any k _).mono ?_; rintro e w4 hS; obtain ⟨p4, n4, c4, rfl, hf, hr, hg4⟩ := hS.y HY.out HD.out; clear hS; have bx4 := keepB bx3 hg4; have hsz := lt_of_block bx3; have hG4 := grown_trans hG3 hg4; obtain ⟨⟨k0, k1, k2⟩, f0, f1, f2⟩ := box3 bx4))
      exact bodyPost_ret (v := .agg #[.int .i64 4, .string d, .slice p4 n4 c4]) (by simp [results, Try.results52, go_sem, k0, k1, k2]) rfl (SoP.mk HSO.out HD.out hr (fun a e => by have := hf a e; omega) hG4)

end Go.Proofs.Ytlkajmfpbgipbaa
