/-
  Contracts of token, name, number, next.
-/
import Derived.Test.YtlkajmfpbgipbaaLexC
import Derived.Test.YtlkajmfpbgipbaaBox4
import Derived.Laws.DeepStrings4
set_option linter.unusedVariables false
set_option linter.unusedSimpArgs false
namespace Go.Proofs.Ytlkajmfpbgipbaa
open Go.RowKit _root_.Nm Lx

theorem slice_r (s : ByteArray) (l : List UInt8) (hl : s.data.toList = l) (i n : Nat) (hk : i + n ≤ l.length) (x : Int) (hx : x = ((i + n : Nat) : Int)) (w : World) :
    (Instr.slice 9 (.string s) (some (.int .i64 (i : Int))) (some (.int .i64 x)) none).run Try.prog w = .ok (.string ⟨((l.drop i).take n).toArray⟩) w := by
  subst hl hx
  have hk' : i + n ≤ s.size := by rw [Lib.size_eq]; exact hk
  rw [run_slice_string w 9 s .i64 .i64 (i : Int) ((i + n : Nat) : Int) (by kernel_rfl) (by omega) (by omega) (by omega), Int.toNat_natCast, Int.toNat_natCast, Lib.extract_eq, show i + n - i = n by omega]

/-- a token, or an error -/
def NxP (l : List UInt8) (i : Nat) (t : Tk) (w : World) (e : Ending) (w' : World) : Prop :=
  (∃ (a b c : Int) (d : ByteArray), e = .returned (.tuple #[.agg #[.int .i64 a, .int .i64 b, .int .i64 c, .string d], .int .i64 (t.e : Nat)]) ∧ (t.e = 0 → [Value.int .i64 a, .int .i64 b, .int .i64 c, .string d] = cells l (t.k, i, t.n))) ∧ w.grownBy w' none
theorem NxP.bad {l : List UInt8} {i : Nat} {t : Tk} {w w' : World} {k : Nat} (h : t.e = k) (hk : k ≠ 0) (hg : w.grownBy w' none) (a b c : Int) (d : ByteArray) : NxP l i t w (.returned (.tuple #[.agg #[.int .i64 a, .int .i64 b, .int .i64 c, .string d], .int .i64 (k : Int)])) w' := by
  subst h
  exact ⟨⟨a, b, c, d, rfl, fun e => absurd e hk⟩, hg⟩
theorem NxP.ok {l : List UInt8} {i : Nat} {t : Tk} {w w' : World} (h : t.e = 0) (hg : w.grownBy w' none) {a b c : Int} {d : ByteArray} (hc : [Value.int .i64 a, .int .i64 b, .int .i64 c, .string d] = cells l (t.k, i, t.n)) : NxP l i t w (.returned (.tuple #[.agg #[.int .i64 a, .int .i64 b, .int .i64 c, .string d], .int .i64 0])) w' :=
  ⟨⟨a, b, c, d, by rw [h]; rfl, fun _ => hc⟩, hg⟩

set_option maxHeartbeats 2000000 in
theorem token_any (s : ByteArray) (l : List UInt8) (hl : s.data.toList = l) (k : Int) (i n : Nat) (hi : i + n ≤ l.length) (x : Int) (hx : x = ((i + n : Nat) : Int)) (w : World) :
    Calls Try.prog 43 #[.int .i64 k, .string s, .int .i64 (i : Int), .int .i64 x] w fun e w' => e = .returned (.agg #[.int .i64 k, .int .i64 (i : Int), .int .i64 x, .string ⟨((l.drop i).take n).toArray⟩]) ∧ w.grownBy w' none := by
  have hsl := slice_r s l hl i n hi x hx
  obtain ⟨d, hd⟩ : ∃ d, d = (⟨((l.drop i).take n).toArray⟩ : ByteArray) := ⟨_, rfl⟩
  rw [← hd] at hsl ⊢
  clear hl hd hx
  go_enter Try.func43, Try.ntmps43
  go_wp2_with fail
  exact bodyPost_ret (v := .agg #[.int .i64 k, .int .i64 (i : Int), .int .i64 x, .string d]) (by simp [results, Try.results43, go_sem]) rfl ⟨rfl, World.grownBy_alloc _ _ none⟩

theorem kinds2 (w : World) (T : TypeId) (b : Nat) (hb : b = w.heap.size) : IRd (w.alloc (.cells #[.int .i64 3, .int .i64 4] T)) .i64 (some ⟨b, 0, none⟩) 2 2 [3, 4] := by
  subst hb
  exact (IRow.made w T .i64 [3, 4]).rd0 (by simp)
theorem kinds1 (w : World) (T : TypeId) (b : Nat) (hb : b = w.heap.size) : IRd (w.alloc (.cells #[.int .i64 4] T)) .i64 (some ⟨b, 0, none⟩) 1 1 [4] := by
  subst hb
  exact (IRow.made w T .i64 [4]).rd0 (by simp)
theorem run_j (s : ByteArray) (l : List UInt8) (hl : s.data.toList = l) (hmax : l.length ≤ 9223372036854775807) (i : Nat) (hi : i ≤ l.length) (p : Option Addr) (n c : Nat) (ks : List Nat) (j : Nat) (hj : j = i + span ks (l.drop i)) (w : World) (h : IRd w .i64 p n c ks) :
    Calls Try.prog 50 #[.string s, .int .i64 (i : Int), .slice p n c] w fun e w' => e = .returned (.int .i64 (j : Int)) ∧ w = w' := by
  subst hj
  exact run_any s l hl hmax i hi p n c ks w h

set_option maxHeartbeats 2000000 in
set_option maxRecDepth 100000 in
theorem name_any (s : ByteArray) (l : List UInt8) (hl : s.data.toList = l) (hmax : l.length ≤ 9223372036854775807) (i : Nat) (hi : i ≤ l.length) (w : World) :
    Calls Try.prog 65 #[.string s, .int .i64 (i : Int)] w (NxP l i (nameTk (span [3, 4] (l.drop i))) w) := by
  have hsp := span_le [3, 4] (l.drop i)
  rw [List.length_drop] at hsp
  obtain ⟨n, hn⟩ : ∃ n, n = span [3, 4] (l.drop i) := ⟨_, rfl⟩
  rw [← hn] at hsp ⊢
  obtain ⟨j, hj⟩ : ∃ j, j = i + n := ⟨_, rfl⟩
  have HRN := hid fun W w' (h : IRd w' .i64 (some ⟨W, 0, none⟩) 2 2 [3, 4]) => run_j s l hl hmax i hi (some ⟨W, 0, none⟩) 2 2 [3, 4] j (by omega) w' h
  have HTK := hid fun w' => token_any s l hl 1 i n (by omega) (j : Int) (by rw [hj]) w'
  by_cases h20 : 20 < n
  · have HP := hid fun (w' : World) (hg : w.grownBy w' none) => NxP.bad (l := l) (i := i) (t := nameTk n) (k := 4) (if_pos h20) (by omega) hg 0 0 0 ⟨#[]⟩
    have hgt : (20 : Int) < (j : Int) - (i : Int) := by omega
    have hij : i ≤ j := by omega
    have hjl : j ≤ l.length := by omega
    clear hl hn hj h20
    go_enter Try.func65, Try.ntmps65
    go_wp2_with (go_at_call 50; (with_reducible refine (HRN.out _ _ (kinds2 _ _ _ (by simp))).mono ?_); rintro e w' ⟨rfl, rfl⟩)
    exact bodyPost_ret (v := .tuple #[.agg #[.int .i64 0, .int .i64 0, .int .i64 0, .string ⟨#[]⟩], .int .i64 4]) (by simp [results, Try.results65, go_sem]) rfl (HP.out _ (grown_trans (World.grownBy_alloc _ _ _) (World.grownBy_alloc _ _ _)))
  · have HP := hid fun (w' : World) (hg : w.grownBy w' none) => NxP.ok (l := l) (i := i) (t := nameTk n) (if_neg h20) hg (a := 1) (b := i) (c := j) (d := ⟨((l.drop i).take n).toArray⟩) (by rw [hj]; rfl)
    have hgt : ¬ (20 : Int) < (j : Int) - (i : Int) := by omega
    have hij : i ≤ j := by omega
    have hjl : j ≤ l.length := by omega
    clear hl hn hj h20
    go_enter Try.func65, Try.ntmps65
    go_wp2_with (first | (go_at_call 50; (with_reducible refine (HRN.out _ _ (kinds2 _ _ _ (by simp))).mono ?_); rintro e w' ⟨rfl, rfl⟩) | (go_at_call 43; (with_reducible refine (HTK.out _).mono ?_); rintro e w' ⟨rfl, hg⟩; have bx := keepB (blk1 _ _ _) hg; have hG := grown_trans (grown_trans (World.grownBy_alloc w _ none) (World.grownBy_alloc _ _ _)) hg; obtain ⟨⟨k0, k1, k2, k3⟩, f0, f1, f2, f3⟩ := box4 bx))
    exact bodyPost_ret (v := .tuple #[.agg #[.int .i64 1, .int .i64 (i : Int), .int .i64 (j : Int), .string ⟨((l.drop i).take n).toArray⟩], .int .i64 0]) (by simp [results, Try.results65, go_sem, k0, k1, k2, k3]) rfl (HP.out _ (set4_new hG _ _ _ _ _ (Nat.le_refl _)))
end Go.Proofs.Ytlkajmfpbgipbaa
