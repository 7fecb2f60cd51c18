/-
  Whatever the string is, the Go function LexerCovers returns true and leaves it as it is. No conditions.
-/
import Derived.Test.YtlkajmfpbgipbaaLexO
import Derived.Test.YtlkajmfpbgipbaaFrmL
import Derived.Test.YtlkajmfpbgipbaaRows
import Derived.WalkKit
import Derived.ProofKit
import Derived.OpenShut
import Derived.ShutString
import Derived.ChangeMaps5
set_option linter.unusedVariables false
set_option linter.unusedSimpArgs false
namespace Go.Proofs.Ytlkajmfpbgipbaa
open Go.ChangeShapes Go.WideShapes Go.ChangeAt Go.RowKit Go.ChangeMaps _root_.Nm Lx

theorem slice_m (s : ByteArray) (l : List UInt8) (hl : s.data.toList = l) (f i : Nat) (h : f ≤ i) (hi : i ≤ l.length) (w : World) :
    (Instr.slice 9 (.string s) (some (.int .i64 (f : Int))) (some (.int .i64 (i : Int))) none).run Try.prog w = .ok (.string ⟨((l.drop f).take (i - f)).toArray⟩) w :=
  slice_r s l hl f (i - f) (by omega) (i : Int) (by omega) w
theorem cov_split {l : List UInt8} {f : Nat} {t : Nat × Nat × Nat} {r : List (Nat × Nat × Nat)} (h : Cov l f (t :: r)) :
    f ≤ t.2.1 ∧ t.2.1 + t.2.2 ≤ l.length ∧ ((t.1 = 0 ∧ t.2.2 = 0 ∧ t.2.1 = l.length ∧ r = [] ∧ ∃ b, br false ((l.drop f).take (t.2.1 - f)) = some b) ∨
      (t.1 ≠ 0 ∧ 0 < t.2.2 ∧ r ≠ [] ∧ br false ((l.drop f).take (t.2.1 - f)) = some false ∧ Cov l (t.2.1 + t.2.2) r)) := by
  obtain ⟨k, i, n⟩ := t
  cases r with
  | nil =>
    obtain ⟨h1, h2, h3, h4, h5⟩ := h
    exact ⟨h4, by dsimp only; omega, .inl ⟨h1, h2, h3, rfl, h5⟩⟩
  | cons u r =>
    obtain ⟨h1, h2, h3, h4, h5, h6⟩ := h
    exact ⟨h3, h4, .inr ⟨h1, h2, by simp, h5, h6⟩⟩
theorem bare_call {s : ByteArray} {l : List UInt8} (hl : s.data.toList = l) (hmax : l.length ≤ 9223372036854775000) (last : Bool) (h : bareV last (br false l) = true) (w : World) (n : Nat) :
    Calls Try.prog 19 #[.string s, .bool last] (w.drewN n) fun e w'' => e = .returned (.bool true) ∧ ∃ m, w'' = w.drewN m :=
  quiet_same ((bare_any s l hl hmax last (w.drewN n)).mono fun _ _ ⟨e, r⟩ => ⟨by rw [e, h], r⟩)
theorem ba_empty (l : List UInt8) (i n : Nat) (h : 0 < n) (h2 : i + n ≤ l.length) : ((l.drop i).take n).isEmpty = false := by
  cases e : (l.drop i).take n with
  | nil => have := congrArg List.length e; simp at this; omega
  | cons a r => rfl

set_option maxHeartbeats 8000000 in
set_option maxRecDepth 100000 in
theorem lexerCovers_walk (s : ByteArray) (w : World) (hs : s.size ≤ maxLen) :
    Calls Try.prog 5 #[.string s] w fun e w' => e = .returned (.bool true) ∧ w.grownBy w' none := by
  have hsz : s.size = s.data.toList.length := Lib.size_eq s
  have H1 := hid (lexAll_any s _ rfl w)
  have HL : Hid (s.data.toList = s.data.toList) := hid rfl
  by_cases hE : (lexAll s.data.toList).2.2 = 0
  rotate_left
  · have hN := lexAll_none hE
    unfold AllP at H1
    rw [hN] at H1
    generalize (lexAll s.data.toList).2.2 = B at *
    generalize (lexAll s.data.toList).2.1 = A at *
    generalize s.data.toList.length = len at *
    have e1 : ((B : Int) != 0) = true := by
      have : ((B : Int) == 0) = false := by simpa using (by omega : ¬ (B : Int) = 0)
      simp [bne, this]
    clear hs hE hN HL
    go_enter Try.func5, Try.ntmps5
    go_wp2_with fail
    refine H1.out.mono ?_
    rintro e w1 ⟨p1, n1, c1, rfl, h1, hg1⟩
    obtain rfl : n1 = 0 := h1.len.symm
    clear h1
    go_wp2_with fail
    go_ret
    exact ⟨rfl, hg1⟩
  have hC := cov_all hE
  have hbig : s.data.toList.length ≤ 20000 := by
    rcases Nat.lt_or_ge 20000 s.data.toList.length with h | h
    · have e : lexAll s.data.toList = ([], 0, 4) := if_pos h
      rw [e] at hE; cases hE
    · exact h
  unfold AllP at H1
  rw [hE, lexAll_zero hE] at H1
  have HS : Hid (∀ l, l = s.data.toList → s.data.toList = l) := hid fun _ h => h.symm
  generalize hl : s.data.toList = l at *
  generalize (lexAll l).1 = ts at *
  have HC := hid hC
  have HLL := hid hl
  have hts : 0 < ts.length := by cases ts with
    | nil => exact HC.out.elim
    | cons t r => simp
  clear hs hE hC HS HL hl
  go_enter Try.func5, Try.ntmps5
  go_wp2_with fail
  refine H1.out.mono ?_
  rintro e w1 ⟨p1, n1, c1, rfl, h1, hg1⟩
  obtain rfl : n1 = ts.length := by have := h1.len; rw [List.length_map] at this; exact this.symm
  have hcp := h1.cap
  have hmx := h1.max
  have HR := hid h1
  clear h1 H1
  go_wp2_with fail
  go_loopw [6, 22] (fun x y wr => ∃ f k : Nat, y = .int .i64 k ∧ x = .int .i64 f ∧ k ≤ ts.length ∧ w.grownBy wr none ∧ w1.grownBy wr none ∧ Hid ((k < ts.length → Cov l f (ts.drop k)) ∧ (k = ts.length → f = l.length))) (fun _ y _ => ts.length - (intOf y).toNat)
  case atStart => exact ⟨0, 0, rfl, rfl, Nat.zero_le _, hg1, grown_refl _ _, hid ⟨fun _ => HC.out, fun h => by omega⟩⟩
  case round =>
    clear HC
    obtain ⟨f, k, rfl, rfl, hk, hW, hW1, HC⟩ := hrel
    by_cases hlt : k < ts.length
    · have hkt : k < ts.length := hlt
      have hcov := HC.out.1 hlt
      rw [List.drop_eq_getElem_cons hkt] at hcov
      have hkl : k < (ts.map (cells l)).length := by rw [List.length_map]; exact hkt
      obtain ⟨b1, o1, rfl, hc1⟩ := (HR.out.keep hW1).at (by decide) (i := k) hkl
      have hrow : (ts.map (cells l))[k]'hkl = cells l (ts[k]) := by simp
      obtain ⟨t, ht⟩ : ∃ t, t = ts[k] := ⟨_, rfl⟩
      rw [← ht] at hcov hrow
      obtain ⟨kk, i, n⟩ := t
      obtain ⟨c1', c2', c3'⟩ := cov_split hcov
      dsimp only at c1' c2' c3'
      have e0 : wr.cell? ⟨b1, o1 + k * 4, none⟩ = some (.int .i64 (kk : Nat)) := by have := hc1 0 (by rw [hrow, cells_len]; decide); simpa [hrow, cells] using this
      have e1 : wr.cell? ⟨b1, o1 + k * 4 + 1, none⟩ = some (.int .i64 (i : Nat)) := by have := hc1 1 (by rw [hrow, cells_len]; decide); simpa [hrow, cells] using this
      have e2 : wr.cell? ⟨b1, o1 + k * 4 + 2, none⟩ = some (.int .i64 ((i + n : Nat) : Int)) := by have := hc1 2 (by rw [hrow, cells_len]; decide); simpa [hrow, cells] using this
      have e3 : wr.cell? ⟨b1, o1 + k * 4 + 3, none⟩ = some (.string ⟨((l.drop i).take n).toArray⟩) := by have := hc1 3 (by rw [hrow, cells_len]; decide); simpa [hrow, cells] using this
      have hsl := slice_r s l HLL.out i n c2' ((i + n : Nat) : Int) rfl
      have hsl2 := slice_m s l HLL.out f i c1' (by omega)
      obtain ⟨j, hj⟩ : ∃ j, j = i + n := ⟨_, rfl⟩
      rw [← hj] at e2 hsl
      have d1 : decide (i < f) = false := decide_eq_false (by omega)
      have d1' : decide ((i : Int) < (f : Int)) = false := decide_eq_false (by omega)
      have d2 : decide (j < i) = false := decide_eq_false (by omega)
      have d2' : decide ((j : Int) < (i : Int)) = false := decide_eq_false (by omega)
      have d3 : decide (l.length < j) = false := decide_eq_false (by omega)
      have d3' : decide ((l.length : Int) < (j : Int)) = false := decide_eq_false (by omega)
      rcases c3' with ⟨g1, g2, g3, g4, b, g5⟩ | ⟨g1, g2, g3, g5, g6⟩
      · have HB := hid fun w n => bare_call (s := ⟨((l.drop f).take (i - f)).toArray⟩) rfl (by simp; omega) true (by rw [show (⟨((l.drop f).take (i - f)).toArray⟩ : ByteArray).data.toList = (l.drop f).take (i - f) from rfl, g5]; rfl) w n
        have HJ : Hid (j = l.length) := hid (by omega)
        have hlast : k + 1 = ts.length := by
          have := congrArg List.length g4
          rw [List.length_drop] at this
          simp at this
          omega
        have HLA := hid hlast
        have hk1 : ((k : Int) == (ts.length : Int) - 1) = true := by simpa using (by omega : (k : Int) = (ts.length : Int) - 1)
        clear hlast
        subst g1 g2
        clear hcov hrow hc1 ht g3 g4 g5 hj
        go_wp2_with fail
        go_quiet ((go_at_call 19; exact HB.out _ _))
        go_wp2_with fail
        exact ⟨⟨j, k + 1, by first | rfl | rw [show k + 1 = ts.length from HLA.out], rfl, by have := HLA.out; omega, gdN (grown_trans hW (World.grownBy_alloc _ _ none)) _, gdN (grown_trans hW1 (World.grownBy_alloc _ _ none)) _, hid ⟨fun h => by have := HLA.out; omega, fun _ => HJ.out⟩⟩, by simp [intOf]; omega⟩
      · have HB := hid fun w n => bare_call (s := ⟨((l.drop f).take (i - f)).toArray⟩) rfl (by simp; omega) false (by rw [show (⟨((l.drop f).take (i - f)).toArray⟩ : ByteArray).data.toList = (l.drop f).take (i - f) from rfl, g5]; rfl) w n
        have HJ := hid hj
        have hlast : k + 1 < ts.length := by
          have := List.length_pos_iff.2 g3
          rw [List.length_drop] at this
          omega
        have HCV := hid g6
        have k0 : ((kk : Int) == 0) = false := by simpa using (by omega : ¬ (kk : Int) = 0)
        have hem := ba_empty l i n g2 c2'
        have hk1 : ((k : Int) == (ts.length : Int) - 1) = false := by simpa using (by omega : ¬ (k : Int) = (ts.length : Int) - 1)
        clear hcov hrow hc1 ht g3 g1 g5 hj g6
        go_wp2_with fail
        go_quiet ((go_at_call 19; exact HB.out _ _))
        go_wp2_with fail
        exact ⟨⟨j, k + 1, rfl, rfl, by omega, gdN (grown_trans hW (World.grownBy_alloc _ _ none)) _, gdN (grown_trans hW1 (World.grownBy_alloc _ _ none)) _, hid ⟨fun _ => by rw [HJ.out]; exact HCV.out, fun h => by omega⟩⟩, by simp [intOf]; omega⟩
    · obtain rfl : k = ts.length := by omega
      have hf := HC.out.2 rfl
      go_wp2_with fail
      go_ret
      exact ⟨rfl, hW⟩

set_option maxRecDepth 100000 in
theorem lexerCovers_lifted (os : Os) (started : os.Started) (H : Type) (enc : TypeId × Value → H) :
    ReturnsInHanded {} Try.checked os 5 .any (Rows.lexerCoversSpec.pre6 enc Try.prog Try.f5 Rows.lexerCoversRow.domain false) (Rows.lexerCoversSpec.post enc Try.prog Try.f5 false true false false) := by
  refine returnsInHanded_of_change (C := Try.checked) ownL started (by kernel_rfl) Try.func5
    (ChangeSpec.witness6 (enc := enc) (C := Try.checked) false ⟨#[], #[.string ⟨#[]⟩], []⟩ 8 (by kernel_rfl) (by kernel_rfl) (by kernel_rfl) (by kernel_rfl)) ?_
  intro W base args ds gs before hval0 hW hcnd _
  have hval : ∀ (j : Nat) t v, Try.f5.params[j]? = some t → args[j]? = some v → Value.okWide Try.prog W .any base t v := hval0
  have hW' := hW
  obtain ⟨p, q, hA0, hV, rfl, hfz, hnd⟩ := hW
  have hA : DataW.TrodAll enc Try.prog W 0 (fun _ => true) true Try.f5.params.toList args.toList ds p := hA0
  rw [Try.params5] at hA hval
  obtain ⟨v0, d0, rfl, rfl, h0⟩ := trodAll_one hA
  obtain ⟨rfl, rfl⟩ := trodVars_none hV
  obtain ⟨x0, rfl, rfl, rfl, ws0⟩ := open_string Try.underlying9 (hval 0 9 v0 rfl rfl) h0
  refine (lexerCovers_walk x0 W ws0).mono fun e W' ⟨he, hg⟩ => ?_
  subst he
  have hB := grown_below hg
  exact ⟨_, rfl, _, _, _, [], _, [], hW', trodAll_mk1 (shut_bool Try.underlying4 true),
    trodAll_mk1 (shut_string Try.underlying9 ws0), rfl, hB.frame _, fun h => by cases h⟩

theorem lexerCovers_holds : Rows.LexerCoversSaid :=
  OpenClaim.holds_of_wide 5 Try.f5 rfl rfl rfl rfl rfl rfl rfl ⟨rfl, rfl, rfl, rfl, rfl⟩ rfl rfl rfl rfl rfl (by kernel_rfl) Try.func5 (by kernel_rfl)
    (of_decide_eq_true (by kernel_rfl)) (by unfold Func.isWrapper; first | (rw [if_pos (by decide +kernel)]; kernel_rfl) | (rw [if_neg (by decide +kernel)]; exact ⟨rfl, rfl⟩))
    (fun os started H enc _ => lexerCovers_lifted os started H enc)
end Go.Proofs.Ytlkajmfpbgipbaa
