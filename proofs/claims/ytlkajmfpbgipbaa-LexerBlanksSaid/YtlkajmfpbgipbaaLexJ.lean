/-
  Contract of sameTokens; the check of awake.
-/
import Derived.Test.YtlkajmfpbgipbaaLexI
import Derived.Laws.StructEq
set_option linter.unusedVariables false
set_option linter.unusedSimpArgs false
namespace Go.Proofs.Ytlkajmfpbgipbaa
open Go.RowKit _root_.Nm Lx

theorem four_of {α : Type} (L : List α) (h : L.length = 4) : ∃ a b c d, L = [a, b, c, d] := by
  match L, h with
  | [a, b, c, d], _ => exact ⟨a, b, c, d, rfl⟩
theorem fields_tok : Try.prog.underlying 31 = some (.struct (Try.prog.fieldsOf 31)) := by kernel_rfl
theorem held_tok : Try.prog.stoodInHeld 31 = false := by kernel_rfl
theorem list_tok : (Try.prog.fieldsOf 31).toList.map (fun f => (f.name, f.type, f.offset)) = [("Kind", 3, 0), ("Pos", 3, 1), ("End", 3, 2), ("Text", 9, 3)] := by kernel_rfl
set_option maxRecDepth 100000 in
theorem neq_tok (a b c : Int) (d : ByteArray) (w : World) : (binOp .neq 31 (.agg #[.int .i64 a, .int .i64 b, .int .i64 c, .string d]) (.agg #[.int .i64 a, .int .i64 b, .int .i64 c, .string d])).run Try.prog w = .ok (.bool false) w := by
  rw [run_neq_struct, show (10000 : Nat) = 9998 + 1 + 1 from rfl, run_equalIn_agg w (9998 + 1) _ _ _ fields_tok held_tok]
  have hL := list_tok
  generalize (Try.prog.fieldsOf 31).toList = L at hL ⊢
  obtain ⟨f0, f1, f2, f3, rfl⟩ := four_of L (by have := congrArg List.length hL; simpa using this)
  simp only [List.map_cons, List.map_nil, List.cons.injEq, Prod.mk.injEq, and_true] at hL
  obtain ⟨⟨n0, t0, o0⟩, ⟨n1, t1, o1⟩, ⟨n2, t2, o2⟩, n3, t3, o3⟩ := hL
  have pi : ∀ (xs : Array Value) (o : Nat) (v : Value) (w : World), xs[o]? = some v → (part 3 xs o).run Try.prog w = .ok v w := fun xs o v w h => by
    simp [part, run_isAgg_plain Try.underlying3 rfl, h]
  have ps : ∀ (xs : Array Value) (o : Nat) (v : Value) (w : World), xs[o]? = some v → (part 9 xs o).run Try.prog w = .ok v w := fun xs o v w h => by
    simp [part, run_isAgg_plain Try.underlying9 rfl, h]
  simp [Op.eqFields, n0, t0, o0, n1, t1, o1, n2, t2, o2, n3, t3, o3, pi, ps, run_equalIn_int w 9998 3 .i64 .i64 _ _ Try.underlying3, run_equalIn_string w 9998 9 _ _ Try.underlying9]

set_option maxHeartbeats 4000000 in
set_option maxRecDepth 100000 in
theorem sameTok_any (p q : Option Addr) (n c d : Nat) (L : List (List Value)) (w : World) (h1 : SRd w 4 p n c L) (h2 : SRd w 4 q n d L) (hL : ∀ r ∈ L, ∃ (a b c : Int) (d : ByteArray), r = [.int .i64 a, .int .i64 b, .int .i64 c, .string d]) :
    Calls Try.prog 14 #[.slice p n c, .slice q n d] w fun e w' => e = .returned (.bool true) ∧ w.grownBy w' none := by
  have hl := h1.len
  have hc := h1.cap
  have hm := h1.max
  have hc2 := h2.cap
  have hm2 := h2.max
  have H1 := hid h1
  have H2 := hid h2
  clear h1 h2
  go_enter Try.func14, Try.ntmps14
  go_wp2_with fail
  go_loopw [13] (fun x wr => ∃ k : Nat, k ≤ n ∧ x = .int .i64 k ∧ w.grownBy wr none) (fun x _ => n - (intOf x).toNat)
  case atStart => exact ⟨0, Nat.zero_le _, rfl, grown_refl _ _⟩
  case round =>
    obtain ⟨k, hk, rfl, hg⟩ := hrel
    by_cases hlt : k < n
    · obtain ⟨b1, o1, rfl, hc1⟩ := (H1.out.keep hg).at (by decide) (i := k) (by omega)
      obtain ⟨b2, o2, rfl, hc2'⟩ := (H2.out.keep hg).at (by decide) (i := k) (by omega)
      obtain ⟨x, y, z, u, hr⟩ := hL _ (List.getElem_mem (show k < L.length by omega))
      have e0 := hc1 0 (by rw [hr]; simp)
      have e1 := hc1 1 (by rw [hr]; simp)
      have e2 := hc1 2 (by rw [hr]; simp)
      have e3 := hc1 3 (by rw [hr]; simp)
      have g0 := hc2' 0 (by rw [hr]; simp)
      have g1 := hc2' 1 (by rw [hr]; simp)
      have g2 := hc2' 2 (by rw [hr]; simp)
      have g3 := hc2' 3 (by rw [hr]; simp)
      simp only [hr, List.getElem_cons_zero, List.getElem_cons_succ, Nat.add_zero] at e0 e1 e2 e3 g0 g1 g2 g3
      have hne := neq_tok x y z u
      clear hc1 hc2' hr hL
      go_wp2_with fail
      go_quiet (fail)
      go_wp2_with fail
      exact ⟨⟨k + 1, by omega, by go_num, gdN hg _⟩, by simp [intOf]; omega⟩
    · obtain rfl : k = n := by omega
      go_wp2_with fail
      go_ret
      exact ⟨rfl, hg⟩
end Go.Proofs.Ytlkajmfpbgipbaa
