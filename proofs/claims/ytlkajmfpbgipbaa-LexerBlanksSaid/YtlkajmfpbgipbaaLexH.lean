/-
  Contract of lexer.All.
-/
import Derived.Test.YtlkajmfpbgipbaaLexE
import Derived.Test.YtlkajmfpbgipbaaSOwn
set_option linter.unusedVariables false
set_option linter.unusedSimpArgs false
namespace Go.Proofs.Ytlkajmfpbgipbaa
open Go.RowKit _root_.Nm Lx

theorem infoTok : (Try.prog.info? 31).map (fun i => (i.zero, i.size, i.bytes)) = some (some (.agg #[.int .i64 0, .int .i64 0, .int .i64 0, .string ⟨#[]⟩]), 4, 40) := by kernel_rfl

theorem tokZ : (Value.agg #[.int .i64 0, .int .i64 0, .int .i64 0, .string ⟨#[]⟩]).cells.size = 4 := rfl
theorem four_pos : 0 < 4 := by decide
theorem one_srd4 (w : World) (e : TypeId) (x y z u : Value) (b : Nat) (hb : b = w.heap.size) : SRd (w.alloc (.cells #[x, y, z, u] e)) 4 (some ⟨b, 0, none⟩) 1 1 [[x, y, z, u]] := one_srd w e 4 [x, y, z, u] rfl b hb

theorem next_ok (s : ByteArray) (l : List UInt8) (hl : s.data.toList = l) (hmax : l.length ≤ 9223372036854775807) (i : Nat) (hi : i < l.length) (k j : Nat) (d : ByteArray) (he : (tokAt (l.drop i)).e = 0)
    (hk : k = (tokAt (l.drop i)).k) (hj : j = i + (tokAt (l.drop i)).n) (hd : d = ⟨((l.drop i).take (tokAt (l.drop i)).n).toArray⟩) (w : World) :
    Calls Try.prog 42 #[.string s, .int .i64 (i : Int)] w fun e w' => e = .returned (.tuple #[.agg #[.int .i64 (k : Int), .int .i64 (i : Int), .int .i64 (j : Int), .string d], .int .i64 0]) ∧ w.grownBy w' none := by
  refine (next_any s l hl hmax i hi w).mono ?_
  rintro e w' ⟨⟨a, b, c, dd, rfl, hr⟩, hg⟩
  have hr := hr he
  simp only [cells, List.cons.injEq, Value.int.injEq, true_and, Value.string.injEq, and_true] at hr
  obtain ⟨rfl, rfl, rfl, rfl⟩ := hr
  subst hk hj hd
  exact ⟨by rw [he]; rfl, hg⟩
theorem next_bad (s : ByteArray) (l : List UInt8) (hl : s.data.toList = l) (hmax : l.length ≤ 9223372036854775807) (i : Nat) (hi : i < l.length) (k : Nat) (hk : k = (tokAt (l.drop i)).e) (w : World) :
    Calls Try.prog 42 #[.string s, .int .i64 (i : Int)] w fun e w' => ∃ (a b c : Int) (d : ByteArray), e = .returned (.tuple #[.agg #[.int .i64 a, .int .i64 b, .int .i64 c, .string d], .int .i64 (k : Int)]) ∧ w.grownBy w' none := by
  subst hk
  refine (next_any s l hl hmax i hi w).mono ?_
  rintro e w' ⟨⟨a, b, c, dd, rfl, hr⟩, hg⟩
  exact ⟨a, b, c, dd, rfl, hg⟩

theorem skip_j (s : ByteArray) (l : List UInt8) (hl : s.data.toList = l) (hmax : l.length ≤ 9223372036854775807) (i : Nat) (hi : i ≤ l.length) (x : Int) (hx : x = (i : Int)) (q : Nat) (hq : q = i + sk false (l.drop i)) (w : World) :
    Calls Try.prog 41 #[.string s, .int .i64 x] w fun e w' => e = .returned (.int .i64 (q : Int)) ∧ w.grownBy w' none := by
  subst hx hq
  exact skip_any s l hl hmax i hi w

/-- the tokens are returned, or the error -/
def AllP (l : List UInt8) (w : World) (e : Ending) (w' : World) : Prop :=
  ∃ (p : Option Addr) (n c : Nat), e = .returned (.tuple #[.slice p n c, .int .i64 ((lexAll l).2.1 : Nat), .int .i64 ((lexAll l).2.2 : Nat)]) ∧ SRd w' 4 p n c ((lexAll l).1.map (cells l)) ∧ w.grownBy w' none
theorem AllP.bad {l : List UInt8} {w w' : World} {a e : Nat} (h : lexAll l = ([], a, e)) (hg : w.grownBy w' none) : AllP l w (.returned (.tuple #[.slice none 0 0, .int .i64 (a : Int), .int .i64 (e : Int)])) w' :=
  ⟨none, 0, 0, by rw [h], by rw [h]; exact SRd.nil _ _, hg⟩
theorem AllP.ok {l : List UInt8} {w w' : World} {p : Option Addr} {n c : Nat} {ts : List (Nat × Nat × Nat)} (h : lexAll l = (ts, 0, 0)) (hr : SRd w' 4 p n c (ts.map (cells l))) (hg : w.grownBy w' none) : AllP l w (.returned (.tuple #[.slice p n c, .int .i64 0, .int .i64 0])) w' :=
  ⟨p, n, c, by rw [h]; rfl, by rw [h]; exact hr, hg⟩
theorem cells_one (l : List UInt8) (t : Nat × Nat × Nat) : ∀ u ∈ cells l t, u.oneCell' = true := by
  intro u hu
  simp only [cells, List.mem_cons, List.not_mem_nil, or_false] at hu
  rcases hu with rfl | rfl | rfl | rfl <;> rfl

set_option maxHeartbeats 8000000 in
set_option maxRecDepth 100000 in
theorem lexAll_any (s : ByteArray) (l : List UInt8) (hl : s.data.toList = l) (w : World) :
    Calls Try.prog 12 #[.string s] w (AllP l w) := by
  have hsz : s.size = l.length := by rw [Lib.size_eq, hl]
  by_cases hbig : 20000 < l.length
  · have HP := hid fun (w' : World) (hg : w.grownBy w' none) => AllP.bad (l := l) (a := 0) (e := 4) (if_pos hbig) hg
    have hb : (20000 : Int) < (l.length : Int) := by omega
    clear hl hbig
    go_enter Try.func12, Try.ntmps12
    go_wp2_with fail
    go_ret3
    exact HP.out _ (grown_refl _ _)
  have hmax : l.length ≤ 9223372036854775000 := by omega
  have hR : lexAll l = fin [] (lexW l (sk false l)) := if_neg hbig
  have hb : ¬ (20000 : Int) < (l.length : Int) := by omega
  have hskl := sk_le false l
  obtain ⟨i0, hi0⟩ : ∃ i0, i0 = sk false l := ⟨_, rfl⟩
  have HSK := hid fun w => skip_j s l hl (by omega) 0 (Nat.zero_le _) 0 rfl i0 (by rw [hi0]; simp) w
  rw [← hi0] at hR hskl
  have HR := hid hR
  have HL := hid hl
  clear hl hR hi0
  go_enter Try.func12, Try.ntmps12
  go_wp2_with (go_at_call 41; (with_reducible refine (HSK.out _).mono ?_); rintro e w0 ⟨rfl, hg0⟩)
  clear HSK
  go_loopw [2, 3] (fun x y wr => ∃ (i n c : Nat) (p : Option Addr) (acc : List (Nat × Nat × Nat)), x = .slice p n c ∧ y = .int .i64 i ∧ i ≤ l.length ∧ n ≤ i ∧ SOwn wr w.heap.size 31 4 p n c (acc.map (cells l)) ∧ w.grownBy wr none ∧ Hid (fin acc (lexW l i) = lexAll l)) (fun _ y _ => l.length - (intOf y).toNat)
  case atStart => exact ⟨i0, 0, 0, none, [], rfl, rfl, hskl, Nat.zero_le _, SOwn.nil _ _ _ _, hg0, hid HR.out.symm⟩
  case round =>
    clear HR hg0
    obtain ⟨i, n, c, p, acc, rfl, rfl, hi, hn, hO, hW, HC⟩ := hrel
    by_cases hlt : i < l.length
    · by_cases he : (tokAt (l.drop i)).e = 0
      · obtain ⟨d, hd⟩ : ∃ d, d = (⟨((l.drop i).take (tokAt (l.drop i)).n).toArray⟩ : ByteArray) := ⟨_, rfl⟩
        obtain ⟨k, hk⟩ : ∃ k, k = (tokAt (l.drop i)).k := ⟨_, rfl⟩
        obtain ⟨j, hj⟩ : ∃ j, j = i + (tokAt (l.drop i)).n := ⟨_, rfl⟩
        have hpos := tok_pos (l.drop i)
        have hlen := tok_len (l.drop i) (by intro e; have := congrArg List.length e; rw [List.length_drop] at this; simp at this; omega)
        rw [List.length_drop] at hlen
        have hjl : j ≤ l.length := by omega
        have hij : i < j := by omega
        have HNX := hid fun w => next_ok s l HL.out (by omega) i hlt k j d he hk hj hd w
        obtain ⟨q, hq⟩ : ∃ q, q = j + sk false (l.drop j) := ⟨_, rfl⟩
        have HSK := hid fun w => skip_j s l HL.out (by omega) j hjl (j : Int) rfl q hq w
        have hskl2 := sk_le false (l.drop j)
        rw [List.length_drop] at hskl2
        have hql : q ≤ l.length := by omega
        have hjq : j ≤ q := by omega
        have hrow : cells l (k, i, (tokAt (l.drop i)).n) = [.int .i64 (k : Nat), .int .i64 (i : Nat), .int .i64 (j : Nat), .string d] := by rw [hd, hj]; rfl
        have HF : Hid (fin (acc ++ [(k, i, (tokAt (l.drop i)).n)]) (lexW l q) = lexAll l ∧ (acc ++ [(k, i, (tokAt (l.drop i)).n)]).map (cells l) = acc.map (cells l) ++ [[.int .i64 (k : Nat), .int .i64 (i : Nat), .int .i64 (j : Nat), .string d]]) := hid ⟨by
          have h1 := HC.out
          rw [lexW_ok hlt he, fin_glue] at h1
          rw [hk, hq, hj]; exact h1, by rw [List.map_append, List.map_cons, List.map_nil, hrow]⟩
        have hone : ∀ u ∈ [Value.int .i64 (k : Nat), .int .i64 (i : Nat), .int .i64 (j : Nat), .string d], u.oneCell' = true := hrow ▸ cells_one l _
        have HONE := hid hone
        have HNE : Hid (∀ q, p = some q → q.block < wr.heap.size) := hid fun q hq => (hO.lt q hq).2
        clear HC he hd hk hj hpos hlen hq hskl2 hrow hone hskl
        go_wp2_with (first | (go_at_call 42; (with_reducible refine (HNX.out _).mono ?_); rintro e w1 ⟨rfl, hg1⟩; replace hO := hO.keep hg1; replace hW := grown_trans hW hg1; have hs1 := hg1.size; have hs2 := hW.size) | (with_reducible refine wls_append _ rfl (.tmp 26) (.tmp 28) 22 rfl 31 4 (.agg #[.int .i64 0, .int .i64 0, .int .i64 0, .string ⟨#[]⟩]) 40 Try.underlying22 infoTok tokZ four_pos w.heap.size _ _ _ (acc.map (cells l)) rfl ((hO.alloc _).alloc _) _ 1 [.int .i64 (k : Nat), .int .i64 (i : Nat), .int .i64 (j : Nat), .string d] rfl (one_srd4 _ _ _ _ _ _ _ (by simp)) HONE.out (by omega) (by omega) w (grown_trans (grown_trans hW (World.grownBy_alloc _ _ _)) (World.grownBy_alloc _ _ _)) (Nat.le_refl _) (by simp; omega) ?_; intro p' c2 w2 ho2 hg2 hbx; have bx := hbx _ _ (blk1 w1 _ _) (fun q hq => by have := HNE.out q hq; omega); obtain ⟨⟨k0, k1, k2, k3⟩, f0, f1, f2, f3⟩ := box4 bx; clear hbx bx) | (go_at_call 41; (with_reducible refine (HSK.out _).mono ?_); rintro e w3 ⟨rfl, hg3⟩))
        exact ⟨⟨q, n + 1, c2, p', acc ++ [(k, i, (tokAt (l.drop i)).n)], rfl, rfl, hql, by omega, (HF.out.2 ▸ ho2).keep hg3, grown_trans hg2 hg3, hid HF.out.1⟩, by simp [intOf]; omega⟩
      · have hne : ((tokAt (l.drop i)).e : Int) ≠ 0 := by omega
        obtain ⟨k, hk⟩ : ∃ k, k = (tokAt (l.drop i)).e := ⟨_, rfl⟩
        have HNX := hid fun w => next_bad s l HL.out (by omega) i hlt k hk w
        have HP : Hid (∀ w', w.grownBy w' none → AllP l w (.returned (.tuple #[.slice none 0 0, .int .i64 (i : Int), .int .i64 (k : Int)])) w') := hid fun w' hg => AllP.bad (by
          have h1 := HC.out
          rw [lexW_bad hlt he, fin_bad _ _ _ he, ← hk] at h1
          exact h1.symm) hg
        have hk0 : ((k : Int) != 0) = true := by
          have : ((k : Int) == 0) = false := by simpa using (by omega : ¬ (k : Int) = 0)
          simp [bne, this]
        clear HC he hk hne hskl
        go_wp2_with (go_at_call 42; (with_reducible refine (HNX.out _).mono ?_); rintro e w1 ⟨a, b, cc, d, rfl, hg1⟩; replace hW := grown_trans hW hg1; have hs1 := hg1.size; have hs2 := hW.size)
        go_ret3
        exact HP.out _ (grown_trans hW (World.grownBy_alloc _ _ _))
    · obtain rfl : i = l.length := by omega
      have HTK : Hid (∀ w, Calls Try.prog 43 #[.int .i64 0, .string s, .int .i64 (l.length : Int), .int .i64 (l.length : Int)] w fun e w' => e = .returned (.agg #[.int .i64 0, .int .i64 (l.length : Int), .int .i64 (l.length : Int), .string ⟨#[]⟩]) ∧ w.grownBy w' none) := hid fun w => token_any s l HL.out 0 l.length 0 (by omega) (l.length : Int) (by omega) w
      have HONE : Hid (∀ u ∈ [Value.int .i64 0, .int .i64 (l.length : Nat), .int .i64 (l.length : Nat), .string ⟨#[]⟩], u.oneCell' = true) := hid (cells_one l (0, l.length, 0))
      have HF : Hid (lexAll l = (acc ++ [(0, l.length, 0)], 0, 0)) := hid (by have := HC.out; rw [lexW_end (Nat.le_refl _), fin_end] at this; exact this.symm)
      have HF2 : Hid ((acc ++ [(0, l.length, 0)]).map (cells l) = acc.map (cells l) ++ [[.int .i64 0, .int .i64 (l.length : Nat), .int .i64 (l.length : Nat), .string ⟨#[]⟩]]) := hid (by rw [List.map_append, List.map_cons, List.map_nil]; rfl)
      clear HC hlt
      go_wp2_with (first | (go_at_call 43; (with_reducible refine (HTK.out _).mono ?_); rintro e w1 ⟨rfl, hg1⟩; replace hO := hO.keep hg1; replace hW := grown_trans hW hg1; have hs1 := hg1.size; have hs2 := hW.size) | (with_reducible refine wls_append _ rfl (.tmp 34) (.tmp 39) 22 rfl 31 4 (.agg #[.int .i64 0, .int .i64 0, .int .i64 0, .string ⟨#[]⟩]) 40 Try.underlying22 infoTok tokZ four_pos w.heap.size _ _ _ (acc.map (cells l)) rfl (hO.alloc _) _ 1 [.int .i64 0, .int .i64 (l.length : Nat), .int .i64 (l.length : Nat), .string ⟨#[]⟩] rfl (one_srd4 _ _ _ _ _ _ _ (by simp)) HONE.out (by omega) (by omega) w (grown_trans hW (World.grownBy_alloc _ _ _)) (Nat.le_refl _) (by simp; omega) ?_; intro p' c2 w2 ho2 hg2 hbx))
      go_ret3
      exact AllP.ok HF.out (HF2.out ▸ ho2.rd) hg2
end Go.Proofs.Ytlkajmfpbgipbaa
