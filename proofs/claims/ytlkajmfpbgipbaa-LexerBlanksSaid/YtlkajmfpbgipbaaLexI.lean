/-
  Contract of the reference's All.
-/
import Derived.Test.YtlkajmfpbgipbaaLexH
import Derived.Test.YtlkajmfpbgipbaaLexG
set_option linter.unusedVariables false
set_option linter.unusedSimpArgs false
namespace Go.Proofs.Ytlkajmfpbgipbaa
open Go.RowKit _root_.Nm Lx

theorem NxP.toOk {l : List UInt8} {i k j : Nat} {t : Tk} {d : ByteArray} {w w' : World} {e : Ending} (h : NxP l i t w e w') (he : t.e = 0) (hk : k = t.k) (hj : j = i + t.n) (hd : d = ⟨((l.drop i).take t.n).toArray⟩) :
    e = .returned (.tuple #[.agg #[.int .i64 (k : Int), .int .i64 (i : Int), .int .i64 (j : Int), .string d], .int .i64 0]) ∧ w.grownBy w' none := by
  obtain ⟨⟨a, b, c, dd, rfl, hr⟩, hg⟩ := h
  have hr := hr he
  simp only [cells, List.cons.injEq, Value.int.injEq, true_and, Value.string.injEq, and_true] at hr
  obtain ⟨rfl, rfl, rfl, rfl⟩ := hr
  subst hk hj hd
  exact ⟨by rw [he]; rfl, hg⟩
theorem NxP.toBad {l : List UInt8} {i k : Nat} {t : Tk} {w w' : World} {e : Ending} (h : NxP l i t w e w') (hk : k = t.e) :
    ∃ (a b c : Int) (d : ByteArray), e = .returned (.tuple #[.agg #[.int .i64 a, .int .i64 b, .int .i64 c, .string d], .int .i64 (k : Int)]) ∧ w.grownBy w' none := by
  subst hk
  obtain ⟨⟨a, b, c, dd, rfl, hr⟩, hg⟩ := h
  exact ⟨a, b, c, dd, rfl, hg⟩
theorem rword_any (s : ByteArray) (l : List UInt8) (hl : s.data.toList = l) (hmax : l.length ≤ 9223372036854775000) (i : Nat) (hi : i < l.length) (h : kd (l[i]).toNat = 3 ∨ kd (l[i]).toNat = 4) (w : World) :
    Calls Try.prog 48 #[.string s, .int .i64 (i : Int)] w (NxP l i (tokAt (l.drop i)) w) := by
  have hd : l.drop i = l[i] :: l.drop (i + 1) := List.drop_eq_getElem_cons hi
  rcases h with h | h
  · have := wordL_any s l hl hmax i hi h w
    rw [show tokAt (l.drop i) = nameTk (span [3, 4] (l.drop i)) by rw [hd, tok_name h]]
    exact this
  · have := wordD_any s l hl hmax i hi h w
    rw [show tokAt (l.drop i) = numTk (decide ((l[i]).toNat = 48)) (span [4] (l.drop i)) by rw [hd, tok_num h]]
    exact this
theorem rsign_any (s : ByteArray) (l : List UInt8) (hl : s.data.toList = l) (hmax : l.length ≤ 9223372036854775000) (i : Nat) (hi : i < l.length) (h3 : kd (l[i]).toNat ≠ 3) (h4 : kd (l[i]).toNat ≠ 4) (w : World) :
    Calls Try.prog 45 #[.string s, .int .i64 (i : Int)] w (NxP l i (tokAt (l.drop i)) w) := by
  have hd : l.drop i = l[i] :: l.drop (i + 1) := List.drop_eq_getElem_cons hi
  have := sign_any s l hl hmax i hi w
  rw [show tokAt (l.drop i) = sgn (l.drop i) by rw [hd, sgn_tok h3 h4]]
  exact this
theorem rskip_j (s : ByteArray) (l : List UInt8) (hl : s.data.toList = l) (hmax : l.length ≤ 9223372036854775807) (i : Nat) (hi : i ≤ l.length) (x : Int) (hx : x = (i : Int)) (q : Nat) (hq : q = i + sk false (l.drop i)) (w : World) :
    Calls Try.prog 44 #[.string s, .int .i64 x] w fun e w' => e = .returned (.int .i64 (q : Int)) ∧ w = w' := by
  subst hx hq
  exact rskip_any s l hl hmax i hi w
theorem SOwn.set4 {w : World} {base : Nat} {e : TypeId} {k : Nat} {a : Option Addr} {n c G : Nat} {l : List (List Value)} (h : SOwn w base e k a n c l) (hne : ∀ p, a = some p → p.block ≠ G) (A B C D : Value) :
    SOwn ((((w.setCell ⟨G, 0, none⟩ A).setCell ⟨G, 1, none⟩ B).setCell ⟨G, 2, none⟩ C).setCell ⟨G, 3, none⟩ D) base e k a n c l :=
  h.kept (set4_grown w G A B C D) (.inr fun p hp => by simpa using hne p hp)
theorem set4_size (w : World) (G : Nat) (A B C D : Value) : ((((w.setCell ⟨G, 0, none⟩ A).setCell ⟨G, 1, none⟩ B).setCell ⟨G, 2, none⟩ C).setCell ⟨G, 3, none⟩ D).heap.size = w.heap.size := by simp

set_option maxHeartbeats 16000000 in
set_option maxRecDepth 100000 in
theorem rAll_any (s : ByteArray) (l : List UInt8) (hl : s.data.toList = l) (w : World) :
    Calls Try.prog 13 #[.string s] w (AllP l w) := by
  have hsz : s.size = l.length := by rw [Lib.size_eq, hl]
  by_cases hbig : 20000 < l.length
  · have HP := hid fun (w' : World) (hg : w.grownBy w' none) => AllP.bad (l := l) (a := 0) (e := 4) (if_pos hbig) hg
    have hb : (20000 : Int) < (l.length : Int) := by omega
    clear hl hbig
    go_enter Try.func13, Try.ntmps13
    go_wp2_with fail
    go_ret3
    exact HP.out _ (grown_refl _ _)
  have hmax : l.length ≤ 9223372036854775000 := by omega
  have hR : lexAll l = fin [] (lexW l (sk false l)) := if_neg hbig
  have hb : ¬ (20000 : Int) < (l.length : Int) := by omega
  have hskl := sk_le false l
  obtain ⟨i0, hi0⟩ : ∃ i0, i0 = sk false l := ⟨_, rfl⟩
  have HSK := hid fun w => rskip_j s l hl (by omega) 0 (Nat.zero_le _) 0 rfl i0 (by rw [hi0]; simp) w
  rw [← hi0] at hR hskl
  have HR := hid hR
  have HL := hid hl
  have HIX := hid (idx_at s l hl)
  clear hl hR hi0
  go_enter Try.func13, Try.ntmps13
  go_wp2_with (go_at_call 44; (with_reducible refine (HSK.out _).mono ?_); rintro e w0 ⟨rfl, rfl⟩)
  clear HSK
  go_loopw [2, 5] (fun x y wr => ∃ (i n c : Nat) (p : Option Addr) (acc : List (Nat × Nat × Nat)), x = .slice p n c ∧ y = .int .i64 i ∧ i ≤ l.length ∧ n ≤ i ∧ SOwn wr w.heap.size 31 4 p n c (acc.map (cells l)) ∧ w.grownBy wr none ∧ Hid (fin acc (lexW l i) = lexAll l)) (fun _ y _ => l.length - (intOf y).toNat)
  case atStart => exact ⟨i0, 0, 0, none, [], rfl, rfl, hskl, Nat.zero_le _, SOwn.nil _ _ _ _, grown_refl _ _, hid HR.out.symm⟩
  case round =>
    clear HR
    obtain ⟨i, n, c, p, acc, rfl, rfl, hi, hn, hO, hW, HC⟩ := hrel
    by_cases hlt : i < l.length
    · have hix := HIX.out i hlt
      obtain ⟨m, hm⟩ : ∃ m, m = (l[i]).toNat := ⟨_, rfl⟩
      have h256 : m < 256 := by rw [hm]; exact u8_lt _
      rw [← hm] at hix
      have HM := hid hm
      by_cases he : (tokAt (l.drop i)).e = 0
      · obtain ⟨d, hd⟩ : ∃ d, d = (⟨((l.drop i).take (tokAt (l.drop i)).n).toArray⟩ : ByteArray) := ⟨_, rfl⟩
        obtain ⟨k, hk⟩ : ∃ k, k = (tokAt (l.drop i)).k := ⟨_, rfl⟩
        obtain ⟨j, hj⟩ : ∃ j, j = i + (tokAt (l.drop i)).n := ⟨_, rfl⟩
        have hpos := tok_pos (l.drop i)
        have hlen := tok_len (l.drop i) (by intro e; have := congrArg List.length e; rw [List.length_drop] at this; simp at this; omega)
        rw [List.length_drop] at hlen
        have hjl : j ≤ l.length := by omega
        have hij : i < j := by omega
        have HOK := hid fun (w : World) (e : Ending) (w' : World) (h : NxP l i (tokAt (l.drop i)) w e w') => h.toOk he hk hj hd
        obtain ⟨q, hq⟩ : ∃ q, q = j + sk false (l.drop j) := ⟨_, rfl⟩
        have HSK := hid fun w => rskip_j s l HL.out (by omega) j hjl (j : Int) rfl q hq w
        have hskl2 := sk_le false (l.drop j)
        rw [List.length_drop] at hskl2
        have hql : q ≤ l.length := by omega
        have hjq : j ≤ q := by omega
        have hrow : cells l (k, i, (tokAt (l.drop i)).n) = [.int .i64 (k : Nat), .int .i64 (i : Nat), .int .i64 (j : Nat), .string d] := by rw [hd, hj]; rfl
        have HF : Hid (fin (acc ++ [(k, i, (tokAt (l.drop i)).n)]) (lexW l q) = lexAll l ∧ (acc ++ [(k, i, (tokAt (l.drop i)).n)]).map (cells l) = acc.map (cells l) ++ [[.int .i64 (k : Nat), .int .i64 (i : Nat), .int .i64 (j : Nat), .string d]]) := hid ⟨by
          have h1 := HC.out
          rw [lexW_ok hlt he, fin_glue] at h1
          rw [hk, hq, hj]; exact h1, by rw [List.map_append, List.map_cons, List.map_nil, hrow]⟩
        have hone : ∀ u ∈ [Value.int .i64 (k : Nat), .int .i64 (i : Nat), .int .i64 (j : Nat), .string d], u.oneCell' = true := hrow ▸ cells_one l _
        have HONE := hid hone
        have HNE : Hid (∀ q, p = some q → q.block < wr.heap.size) := hid fun q hq => (hO.lt q hq).2
        clear HC he hd hk hj hpos hlen hq hskl2 hrow hone hskl
        by_cases hB : kd m ≠ 3 ∧ kd m ≠ 4
        · have HSG := hid fun w => rsign_any s l HL.out hmax i hlt (by rw [← HM.out]; exact hB.1) (by rw [← HM.out]; exact hB.2) w
          have HLT := hid fun w => letter_f (m := m) h256 hB.1 w
          have HDG := hid fun w => digit_f (m := m) h256 hB.2 w
          clear hm hB
          go_wp2_with (first | (go_at_call 45; (with_reducible refine (HSG.out _).mono ?_); rintro e w1 hN; obtain ⟨rfl, hg1⟩ := HOK.out _ _ _ hN; clear hN; replace hO := hO.keep hg1; replace hW := grown_trans hW hg1; have hs1 := hg1.size; have hs2 := hW.size) | (go_at_call 46; (with_reducible refine (HLT.out _).mono ?_); rintro e w' ⟨rfl, rfl⟩) | (go_at_call 47; (with_reducible refine (HDG.out _).mono ?_); rintro e w' ⟨rfl, rfl⟩) | (with_reducible refine wls_append _ rfl (.tmp 43) (.tmp 45) 22 rfl 31 4 (.agg #[.int .i64 0, .int .i64 0, .int .i64 0, .string ⟨#[]⟩]) 40 Try.underlying22 infoTok tokZ four_pos w.heap.size _ _ _ (acc.map (cells l)) rfl ((hO.alloc _).alloc _) _ 1 [.int .i64 (k : Nat), .int .i64 (i : Nat), .int .i64 (j : Nat), .string d] rfl (one_srd4 _ _ _ _ _ _ _ (by simp)) HONE.out (by omega) (by omega) w (grown_trans (grown_trans hW (World.grownBy_alloc _ _ _)) (World.grownBy_alloc _ _ _)) (Nat.le_refl _) (by simp; omega) ?_; intro p' c2 w2 ho2 hg2 hbx; have bx := hbx _ _ (blk1 w1 _ _) (fun q hq => by have := HNE.out q hq; omega); obtain ⟨⟨k0, k1, k2, k3⟩, f0, f1, f2, f3⟩ := box4 bx; clear hbx bx) | (go_at_call 44; (with_reducible refine (HSK.out _).mono ?_); rintro e w' ⟨rfl, rfl⟩))
          exact ⟨⟨q, n + 1, c2, p', acc ++ [(k, i, (tokAt (l.drop i)).n)], rfl, rfl, hql, by omega, HF.out.2 ▸ ho2, hg2, hid HF.out.1⟩, by simp [intOf]; omega⟩
        · have hw : kd m = 3 ∨ kd m = 4 := by omega
          have HSG := hid fun w => sign_any s l HL.out hmax i hlt w
          have HWD := hid fun w => rword_any s l HL.out hmax i hlt (by rw [← HM.out]; exact hw) w
          clear hm hB
          by_cases h3 : kd m = 3
          · have HLT := hid fun w => letter_t (m := m) h256 h3 w
            clear hw h3
            go_wp2_with (first | (go_at_call 45; (with_reducible refine (HSG.out _).mono ?_); rintro e w1 ⟨⟨a1, b1, c1, d1, rfl, hrow1⟩, hg1⟩; clear hrow1; replace hO := hO.keep hg1; replace hW := grown_trans hW hg1; have hs1 := hg1.size; have hs2 := hW.size) | (go_at_call 46; (with_reducible refine (HLT.out _).mono ?_); rintro e w' ⟨rfl, rfl⟩) | (go_at_call 48; (with_reducible refine (HWD.out _).mono ?_); rintro e w3 hN; obtain ⟨rfl, hg3⟩ := HOK.out _ _ _ hN; clear hN; have hbw := keepB (blk0 w1 _) hg3; have hs3 := hg3.size; simp at hs3; replace hO := (hO.alloc _).keep hg3; replace hW := grown_trans (grown_trans hW (World.grownBy_alloc _ _ _)) hg3; obtain ⟨⟨k0, k1, k2, k3⟩, f0, f1, f2, f3⟩ := box4 hbw) | (with_reducible refine wls_append _ rfl (.tmp 43) (.tmp 45) 22 rfl 31 4 (.agg #[.int .i64 0, .int .i64 0, .int .i64 0, .string ⟨#[]⟩]) 40 Try.underlying22 infoTok tokZ four_pos w.heap.size _ _ _ (acc.map (cells l)) rfl ((SOwn.set4 hO (fun q hq => by have := HNE.out q hq; omega) _ _ _ _).alloc _) _ 1 [.int .i64 (k : Nat), .int .i64 (i : Nat), .int .i64 (j : Nat), .string d] rfl (one_srd4 _ _ _ _ _ _ _ (by simp)) HONE.out (by omega) (by omega) w (grown_trans (set4_new hW _ _ _ _ _ (by omega)) (World.grownBy_alloc _ _ _)) (Nat.le_refl _) (by simp; omega) ?_; intro p' c2 w2 ho2 hg2 hbx; clear k0 k1 k2 k3 f0 f1 f2 f3; have bx := hbx _ _ (keepB (set4 hbw _ _ _ _) (World.grownBy_alloc _ _ _)) (fun q hq => by have := HNE.out q hq; omega); clear hbw; obtain ⟨⟨k0, k1, k2, k3⟩, f0, f1, f2, f3⟩ := box4 bx; clear hbx bx) | (go_at_call 44; (with_reducible refine (HSK.out _).mono ?_); rintro e w' ⟨rfl, rfl⟩))
            exact ⟨⟨q, n + 1, c2, p', acc ++ [(k, i, (tokAt (l.drop i)).n)], rfl, rfl, hql, by omega, HF.out.2 ▸ ho2, hg2, hid HF.out.1⟩, by simp [intOf]; omega⟩
          · have HLT := hid fun w => letter_f (m := m) h256 h3 w
            have HDG := hid fun w => digit_t (m := m) h256 (by omega) w
            clear hw h3
            go_wp2_with (first | (go_at_call 45; (with_reducible refine (HSG.out _).mono ?_); rintro e w1 ⟨⟨a1, b1, c1, d1, rfl, hrow1⟩, hg1⟩; clear hrow1; replace hO := hO.keep hg1; replace hW := grown_trans hW hg1; have hs1 := hg1.size; have hs2 := hW.size) | (go_at_call 46; (with_reducible refine (HLT.out _).mono ?_); rintro e w' ⟨rfl, rfl⟩) | (go_at_call 47; (with_reducible refine (HDG.out _).mono ?_); rintro e w' ⟨rfl, rfl⟩) | (go_at_call 48; (with_reducible refine (HWD.out _).mono ?_); rintro e w3 hN; obtain ⟨rfl, hg3⟩ := HOK.out _ _ _ hN; clear hN; have hbw := keepB (blk0 w1 _) hg3; have hs3 := hg3.size; simp at hs3; replace hO := (hO.alloc _).keep hg3; replace hW := grown_trans (grown_trans hW (World.grownBy_alloc _ _ _)) hg3; obtain ⟨⟨k0, k1, k2, k3⟩, f0, f1, f2, f3⟩ := box4 hbw) | (with_reducible refine wls_append _ rfl (.tmp 43) (.tmp 45) 22 rfl 31 4 (.agg #[.int .i64 0, .int .i64 0, .int .i64 0, .string ⟨#[]⟩]) 40 Try.underlying22 infoTok tokZ four_pos w.heap.size _ _ _ (acc.map (cells l)) rfl ((SOwn.set4 hO (fun q hq => by have := HNE.out q hq; omega) _ _ _ _).alloc _) _ 1 [.int .i64 (k : Nat), .int .i64 (i : Nat), .int .i64 (j : Nat), .string d] rfl (one_srd4 _ _ _ _ _ _ _ (by simp)) HONE.out (by omega) (by omega) w (grown_trans (set4_new hW _ _ _ _ _ (by omega)) (World.grownBy_alloc _ _ _)) (Nat.le_refl _) (by simp; omega) ?_; intro p' c2 w2 ho2 hg2 hbx; clear k0 k1 k2 k3 f0 f1 f2 f3; have bx := hbx _ _ (keepB (set4 hbw _ _ _ _) (World.grownBy_alloc _ _ _)) (fun q hq => by have := HNE.out q hq; omega); clear hbw; obtain ⟨⟨k0, k1, k2, k3⟩, f0, f1, f2, f3⟩ := box4 bx; clear hbx bx) | (go_at_call 44; (with_reducible refine (HSK.out _).mono ?_); rintro e w' ⟨rfl, rfl⟩))
            exact ⟨⟨q, n + 1, c2, p', acc ++ [(k, i, (tokAt (l.drop i)).n)], rfl, rfl, hql, by omega, HF.out.2 ▸ ho2, hg2, hid HF.out.1⟩, by simp [intOf]; omega⟩
      · obtain ⟨k, hk⟩ : ∃ k, k = (tokAt (l.drop i)).e := ⟨_, rfl⟩
        have HBAD := hid fun (w : World) (e : Ending) (w' : World) (h : NxP l i (tokAt (l.drop i)) w e w') => h.toBad hk
        have HP : Hid (∀ w', w.grownBy w' none → AllP l w (.returned (.tuple #[.slice none 0 0, .int .i64 (i : Int), .int .i64 (k : Int)])) w') := hid fun w' hg => AllP.bad (by
          have h1 := HC.out
          rw [lexW_bad hlt he, fin_bad _ _ _ he, ← hk] at h1
          exact h1.symm) hg
        have hk0 : ((k : Int) != 0) = true := by
          have : ((k : Int) == 0) = false := by simpa using (by omega : ¬ (k : Int) = 0)
          simp [bne, this]
        clear HC he hk hskl
        by_cases hB : kd m ≠ 3 ∧ kd m ≠ 4
        · have HSG := hid fun w => rsign_any s l HL.out hmax i hlt (by rw [← HM.out]; exact hB.1) (by rw [← HM.out]; exact hB.2) w
          have HLT := hid fun w => letter_f (m := m) h256 hB.1 w
          have HDG := hid fun w => digit_f (m := m) h256 hB.2 w
          clear hm hB
          go_wp2_with (first | (go_at_call 45; (with_reducible refine (HSG.out _).mono ?_); rintro e w1 hN; obtain ⟨a1, b1, c1, d1, rfl, hg1⟩ := HBAD.out _ _ _ hN; clear hN; replace hW := grown_trans hW hg1; have hs1 := hg1.size; have hs2 := hW.size) | (go_at_call 46; (with_reducible refine (HLT.out _).mono ?_); rintro e w' ⟨rfl, rfl⟩) | (go_at_call 47; (with_reducible refine (HDG.out _).mono ?_); rintro e w' ⟨rfl, rfl⟩))
          go_ret3
          exact HP.out _ (grown_trans hW (World.grownBy_alloc _ _ _))
        · have hw : kd m = 3 ∨ kd m = 4 := by omega
          have HSG := hid fun w => sign_any s l HL.out hmax i hlt w
          have HWD := hid fun w => rword_any s l HL.out hmax i hlt (by rw [← HM.out]; exact hw) w
          clear hm hB
          by_cases h3 : kd m = 3
          · have HLT := hid fun w => letter_t (m := m) h256 h3 w
            clear hw h3
            go_wp2_with (first | (go_at_call 45; (with_reducible refine (HSG.out _).mono ?_); rintro e w1 ⟨⟨a1, b1, c1, d1, rfl, hrow1⟩, hg1⟩; clear hrow1; replace hO := hO.keep hg1; replace hW := grown_trans hW hg1; have hs1 := hg1.size; have hs2 := hW.size) | (go_at_call 46; (with_reducible refine (HLT.out _).mono ?_); rintro e w' ⟨rfl, rfl⟩) | (go_at_call 48; (with_reducible refine (HWD.out _).mono ?_); rintro e w3 hN; obtain ⟨a2, b2, c2, d2, rfl, hg3⟩ := HBAD.out _ _ _ hN; clear hN; have hbw := keepB (blk0 w1 _) hg3; have hs3 := hg3.size; simp at hs3; replace hW := grown_trans (grown_trans hW (World.grownBy_alloc _ _ _)) hg3; obtain ⟨⟨k0, k1, k2, k3⟩, f0, f1, f2, f3⟩ := box4 hbw))
            go_ret3
            exact HP.out _ (set4_new hW _ _ _ _ _ (by omega))
          · have HLT := hid fun w => letter_f (m := m) h256 h3 w
            have HDG := hid fun w => digit_t (m := m) h256 (by omega) w
            clear hw h3
            go_wp2_with (first | (go_at_call 45; (with_reducible refine (HSG.out _).mono ?_); rintro e w1 ⟨⟨a1, b1, c1, d1, rfl, hrow1⟩, hg1⟩; clear hrow1; replace hO := hO.keep hg1; replace hW := grown_trans hW hg1; have hs1 := hg1.size; have hs2 := hW.size) | (go_at_call 46; (with_reducible refine (HLT.out _).mono ?_); rintro e w' ⟨rfl, rfl⟩) | (go_at_call 47; (with_reducible refine (HDG.out _).mono ?_); rintro e w' ⟨rfl, rfl⟩) | (go_at_call 48; (with_reducible refine (HWD.out _).mono ?_); rintro e w3 hN; obtain ⟨a2, b2, c2, d2, rfl, hg3⟩ := HBAD.out _ _ _ hN; clear hN; have hbw := keepB (blk0 w1 _) hg3; have hs3 := hg3.size; simp at hs3; replace hW := grown_trans (grown_trans hW (World.grownBy_alloc _ _ _)) hg3; obtain ⟨⟨k0, k1, k2, k3⟩, f0, f1, f2, f3⟩ := box4 hbw))
            go_ret3
            exact HP.out _ (set4_new hW _ _ _ _ _ (by omega))
    · obtain rfl : i = l.length := by omega
      have HONE : Hid (∀ u ∈ [Value.int .i64 0, .int .i64 (l.length : Nat), .int .i64 (l.length : Nat), .string ⟨#[]⟩], u.oneCell' = true) := hid (cells_one l (0, l.length, 0))
      have HF : Hid (lexAll l = (acc ++ [(0, l.length, 0)], 0, 0)) := hid (by have := HC.out; rw [lexW_end (Nat.le_refl _), fin_end] at this; exact this.symm)
      have HF2 : Hid ((acc ++ [(0, l.length, 0)]).map (cells l) = acc.map (cells l) ++ [[.int .i64 0, .int .i64 (l.length : Nat), .int .i64 (l.length : Nat), .string ⟨#[]⟩]]) := hid (by rw [List.map_append, List.map_cons, List.map_nil]; rfl)
      have hs2 := hW.size
      clear HC hlt
      go_wp2_with (first | (with_reducible refine wls_append _ rfl (.tmp 51) (.tmp 57) 22 rfl 31 4 (.agg #[.int .i64 0, .int .i64 0, .int .i64 0, .string ⟨#[]⟩]) 40 Try.underlying22 infoTok tokZ four_pos w.heap.size _ _ _ (acc.map (cells l)) rfl (hO.alloc _) _ 1 [.int .i64 0, .int .i64 (l.length : Nat), .int .i64 (l.length : Nat), .string ⟨#[]⟩] rfl (one_srd4 _ _ _ _ _ _ _ (by simp)) HONE.out (by omega) (by omega) w (grown_trans hW (World.grownBy_alloc _ _ _)) (Nat.le_refl _) (by simp; omega) ?_; intro p' c2 w2 ho2 hg2 hbx))
      go_ret3
      exact AllP.ok HF.out (HF2.out ▸ ho2.rd) hg2
end Go.Proofs.Ytlkajmfpbgipbaa
