/-
  Contracts of Keywords and IsName, the program's and the reference's.
-/
import Derived.Test.YtlkajmfpbgipbaaLexG
import Derived.Test.YtlkajmfpbgipbaaLexP
import Derived.Laws.RangeAny
set_option linter.unusedVariables false
set_option linter.unusedSimpArgs false
namespace Go.Proofs.Ytlkajmfpbgipbaa
open Go.RowKit _root_.Nm Lx

/-- a new slice of the keywords is returned -/
def KwP (w : World) (e : Ending) (w' : World) : Prop :=
  ∃ b : Nat, e = .returned (.slice (some ⟨b, 0, none⟩) 29 29) ∧ w.heap.size ≤ b ∧ (∀ j, j < 29 → w'.cell? ⟨b, j, none⟩ = some (.string ⟨(kwAt j).toArray⟩)) ∧ w.grownBy w' none
theorem KwP.mk (w : World) (T : TypeId) (A : Array Value) (hA : A.toList = kws.map fun k => .string ⟨k.toArray⟩) : KwP w (.returned (.slice (some ⟨w.heap.size, 0, none⟩) 29 29)) (w.alloc (.cells A T)) := by
  refine ⟨w.heap.size, rfl, Nat.le_refl _, fun j hj => ?_, World.grownBy_alloc _ _ _⟩
  rw [cell_of_row _ w.heap.size j A T (0, 0) (heap_alloc_new w _), ← Array.getElem?_toList, hA, List.getElem?_map]
  unfold kwAt
  rw [List.getD_eq_getElem?_getD, List.getElem?_eq_getElem (show j < kws.length from hj)]
  rfl
set_option maxHeartbeats 2000000 in
set_option maxRecDepth 100000 in
theorem keywords_any (w : World) : Calls Try.prog 16 #[] w (KwP w) := by
  go_enter Try.func16, Try.ntmps16
  go_wp2_with fail
  go_ret
  exact KwP.mk w _ _ rfl
set_option maxHeartbeats 2000000 in
set_option maxRecDepth 100000 in
theorem rkeywords_any (w : World) : Calls Try.prog 15 #[] w (KwP w) := by
  go_enter Try.func15, Try.ntmps15
  go_wp2_with fail
  go_ret
  exact KwP.mk w _ _ rfl

theorem kinds2' (w : World) (T : TypeId) (b : Nat) (hb : b = w.heap.size) : IRd (w.alloc (.cells #[.int .i64 3, .int .i64 4] T)) .i64 (some ⟨b, 0, none⟩) 2 2 [3, 4] := kinds2 w T b hb
theorem kindOf_k (m k : Nat) (hm : m < 256) (hk : kd m = k) (w : World) : Calls Try.prog 49 #[.int .u8 (m : Int)] w fun e w' => e = .returned (.int .i64 (k : Nat)) ∧ w = w' := by
  subst hk
  exact kindOf_any m hm w
theorem run_0 (s : ByteArray) (l : List UInt8) (hl : s.data.toList = l) (hmax : l.length ≤ 9223372036854775807) (p : Option Addr) (n c : Nat) (ks : List Nat) (j : Nat) (hj : j = span ks l) (w : World) (h : IRd w .i64 p n c ks) :
    Calls Try.prog 50 #[.string s, .int .i64 0, .slice p n c] w fun e w' => e = .returned (.int .i64 (j : Int)) ∧ w = w' := by
  have := run_j s l hl hmax 0 (Nat.zero_le _) p n c ks j (by rw [hj]; simp) w h
  exact this
theorem binKw (s : ByteArray) (l : List UInt8) (hl : s.data.toList = l) (F : Bool) (hF : F = kws.contains l) (b : Nat) (w : World) (h : ∀ j, j < 29 → w.cell? ⟨b, j, none⟩ = some (.string ⟨(kwAt j).toArray⟩)) :
    Calls Try.prog 51 #[.slice (some ⟨b, 0, none⟩) 29 29, .string s] w fun e w' => ∃ I : Nat, e = .returned (.tuple #[.int .i64 (I : Nat), .bool F]) ∧ w.grownBy w' none := by
  refine (binSearch_any b 0 29 29 (fun t => ⟨(kwAt t).toArray⟩) s w (by omega) (fun j hj => by rw [Nat.zero_add]; exact h j hj)).mono ?_
  rintro e w' ⟨rfl, q, rfl⟩
  have e1 : (fun t => Op.bytesLess (⟨(kwAt t).toArray⟩ : ByteArray).toList s.toList) = fun t => Op.bytesLess (kwAt t) l := by
    funext t
    rw [Lib.toList_data, Lib.toList_data, hl]
  simp only [e1]
  refine ⟨Lib.bsGo (fun t => Op.bytesLess (kwAt t) l) 29 0 29, ?_, grown_drewN _ _ _⟩
  have e2 : F = decide (Lib.bsGo (fun t => Op.bytesLess (kwAt t) l) 29 0 29 < 29 ∧ (⟨(kwAt (Lib.bsGo (fun t => Op.bytesLess (kwAt t) l) 29 0 29)).toArray⟩ : ByteArray) = s) := by
    rw [hF, ← kw_search l]
    refine decide_eq_decide.2 ⟨fun h => ⟨h.1, ?_⟩, fun h => ⟨h.1, ?_⟩⟩
    · rw [h.2, ← hl]
    · have := congrArg (fun x : ByteArray => x.data.toList) h.2
      exact (show kwAt _ = s.data.toList from this).trans hl
  rw [e2]
theorem ne_empty {s : ByteArray} {c : UInt8} {r : List UInt8} (h : s.data.toList = c :: r) : s.toList.isEmpty = false := by
  rw [Lib.toList_data, h]; rfl

set_option maxHeartbeats 4000000 in
set_option maxRecDepth 100000 in
theorem isName_any (s : ByteArray) (l : List UInt8) (hl : s.data.toList = l) (hmax : l.length ≤ 9223372036854775807) (w : World) :
    Calls Try.prog 17 #[.string s] w fun e w' => e = .returned (.bool (isNm l)) ∧ w.grownBy w' none := by
  have hsz : s.size = l.length := by rw [Lib.size_eq, hl]
  cases l with
  | nil =>
    obtain rfl : s = ⟨#[]⟩ := by rw [← Lib.mk_data s, hl]
    have HV : Hid (isNm [] = false) := hid rfl
    clear hl hsz
    go_enter Try.func17, Try.ntmps17
    go_wp2_with fail
    go_ret
    exact ⟨ret_b HV.out.symm, grown_refl _ _⟩
  | cons c r =>
    have hemp := ne_empty hl
    have hix := idx_at s (c :: r) hl 0 (by simp)
    have hix0 : ∀ w, (Instr.index 9 (.string s) (.int .i64 0)).run Try.prog w = .ok (.int .u8 (c.toNat : Int)) w := hix
    clear hix
    obtain ⟨V, hV⟩ : ∃ V, V = isNm (c :: r) := ⟨_, rfl⟩
    rw [← hV]
    have HV := hid hV
    clear hV
    by_cases h20 : 20 < (c :: r).length
    · have HF : Hid (V = false) := hid (by rw [HV.out]; exact isNm_f (by rw [shp_cons, decide_eq_false (by omega)]; rfl))
      have hb : (20 : Int) < (((c :: r).length : Nat) : Int) := by omega
      generalize (c :: r).length = len at *
      clear hl h20 HV
      go_enter Try.func17, Try.ntmps17
      go_wp2_with fail
      go_ret
      exact ⟨ret_b HF.out.symm, grown_refl _ _⟩
    have hb : ¬ (20 : Int) < (((c :: r).length : Nat) : Int) := by omega
    by_cases h3 : kd c.toNat = 3
    rotate_left
    · have HF : Hid (V = false) := hid (by rw [HV.out]; exact isNm_f (by rw [shp_cons, decide_eq_false h3]; simp))
      obtain ⟨k, hk⟩ : ∃ k, k = kd c.toNat := ⟨_, rfl⟩
      have HK := hid fun w => kindOf_k c.toNat k (u8_lt c) hk.symm w
      have hne : ((k : Int) != 3) = true := by
        have : ((k : Int) == 3) = false := by simpa using (by omega : ¬ (k : Int) = 3)
        simp [bne, this]
      generalize (c :: r).length = len at *
      clear hl h20 HV h3 hk
      go_enter Try.func17, Try.ntmps17
      go_wp2_with (go_at_call 49; (with_reducible refine (HK.out _).mono ?_); rintro e w' ⟨rfl, rfl⟩)
      go_ret
      exact ⟨ret_b HF.out.symm, grown_refl _ _⟩
    have HK := hid fun w => kindOf_k c.toNat 3 (u8_lt c) h3 w
    obtain ⟨j, hj⟩ : ∃ j, j = span [3, 4] (c :: r) := ⟨_, rfl⟩
    have HRN := hid fun W w' (h : IRd w' .i64 (some ⟨W, 0, none⟩) 2 2 [3, 4]) => run_0 s (c :: r) hl hmax (some ⟨W, 0, none⟩) 2 2 [3, 4] j hj w' h
    have hjl := span_le [3, 4] (c :: r)
    rw [← hj] at hjl
    by_cases hs : j = (c :: r).length
    rotate_left
    · have HF : Hid (V = false) := hid (by rw [HV.out]; exact isNm_f (by rw [shp_cons, ← hj, decide_eq_false hs]; simp))
      have hlt : (j : Int) < (((c :: r).length : Nat) : Int) := by omega
      generalize (c :: r).length = len at *
      clear hl h20 HV h3 hj hs
      go_enter Try.func17, Try.ntmps17
      go_wp2_with (first | (go_at_call 49; (with_reducible refine (HK.out _).mono ?_); rintro e w' ⟨rfl, rfl⟩) | (go_at_call 50; (with_reducible refine (HRN.out _ _ (kinds2' _ _ _ (by simp))).mono ?_); rintro e w' ⟨rfl, rfl⟩))
      go_ret
      exact ⟨ret_b HF.out.symm, World.grownBy_alloc _ _ _⟩
    · have HT : Hid (V = !(kws.contains (c :: r))) := hid (by rw [HV.out]; exact isNm_t (by rw [shp_cons, ← hj, decide_eq_true hs, decide_eq_true h3, decide_eq_true (by omega)]; rfl))
      have hlt : ¬ (j : Int) < (((c :: r).length : Nat) : Int) := by omega
      have HKW := hid keywords_any
      obtain ⟨F, hF⟩ : ∃ F, F = kws.contains (c :: r) := ⟨_, rfl⟩
      have HBS := hid fun (b : Nat) (w : World) h => binKw s (c :: r) hl F hF b w h
      rw [← hF] at HT
      generalize (c :: r).length = len at *
      clear hl h20 HV h3 hj hs hF
      go_enter Try.func17, Try.ntmps17
      go_wp2_with (first | (go_at_call 49; (with_reducible refine (HK.out _).mono ?_); rintro e w' ⟨rfl, rfl⟩) | (go_at_call 50; (with_reducible refine (HRN.out _ _ (kinds2' _ _ _ (by simp))).mono ?_); rintro e w' ⟨rfl, rfl⟩) | (go_at_call 16; (with_reducible refine (HKW.out _).mono ?_); rintro e w1 ⟨b, rfl, hb1, hcl, hg⟩; have HCL := hid hcl; clear hcl) | (go_at_call 51; (with_reducible refine (HBS.out b _ HCL.out).mono ?_); rintro e w2 ⟨I, rfl, hg2⟩))
      go_ret
      exact ⟨ret_b HT.out.symm, grown_trans (World.grownBy_alloc _ _ none) (grown_trans hg hg2)⟩
end Go.Proofs.Ytlkajmfpbgipbaa
