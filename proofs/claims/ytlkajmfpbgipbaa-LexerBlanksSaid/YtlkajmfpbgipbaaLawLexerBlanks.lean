/-
  Whatever the string and the number are, the Go function LexerBlanks returns true and leaves them as they are. No conditions.
-/
import Derived.Test.YtlkajmfpbgipbaaLexO
import Derived.Test.YtlkajmfpbgipbaaLexS
import Derived.Test.YtlkajmfpbgipbaaFrmL
import Derived.Laws.Concat
import Derived.Deep.DeepCutAuto
import Derived.IntWalk
import Derived.Test.YtlkajmfpbgipbaaRows
import Derived.WalkKit
import Derived.ProofKit
import Derived.OpenShut
import Derived.ShutString
import Derived.ChangeMaps5
set_option linter.unusedVariables false
set_option linter.unusedSimpArgs false
namespace Go.Proofs.Ytlkajmfpbgipbaa
open Go.ChangeShapes Go.WideShapes Go.ChangeAt Go.RowKit Go.ChangeMaps _root_.Nm Lx

theorem lexW_count (l : List UInt8) : ∀ (k i : Nat), l.length - i ≤ k → (lexW l i).1.length ≤ l.length - i + 1 := by
  intro k
  induction k with
  | zero => intro i hk; rw [lexW_end (by omega)]; simp
  | succ k ih =>
    intro i hk
    by_cases hlt : i < l.length
    · by_cases h0 : (tokAt (l.drop i)).e = 0
      · have hpos := tok_pos (l.drop i)
        have := ih (i + (tokAt (l.drop i)).n + sk false (l.drop (i + (tokAt (l.drop i)).n))) (by omega)
        rw [lexW_ok hlt h0]
        unfold glue
        split
        · simp; omega
        · simp
      · rw [lexW_bad hlt h0]; simp
    · rw [lexW_end (by omega)]; simp
theorem lexAll_count (l : List UInt8) : (lexAll l).1.length ≤ l.length + 1 := by
  unfold lexAll
  split
  · simp
  · unfold fin
    split
    · have := lexW_count l _ (sk false l) (Nat.le_refl _)
      simp; omega
    · simp
theorem madeT_len {l : List UInt8} {k : Nat} : ∀ (ts : List (Nat × Nat × Nat)) (j : Nat), (joinT (parts l j ts)).length ≤ ts.length * (l.length + 12)
  | [], j => by simp [parts, joinT]
  | t :: ts, j => by
    have ih := madeT_len (l := l) (k := k) ts (j + 1)
    have h1 := (sep_ok j).2.2
    have h2 : ((l.drop t.2.1).take t.2.2).length ≤ l.length := by simp; omega
    simp only [parts, joinT, List.length_append, List.length_cons, Nat.add_mul, Nat.one_mul] at ih ⊢
    omega
theorem ba_add (a b : List UInt8) : (⟨a.toArray⟩ : ByteArray) ++ ⟨b.toArray⟩ = ⟨(a ++ b).toArray⟩ := by
  have h : ((⟨a.toArray⟩ : ByteArray) ++ ⟨b.toArray⟩).data = (a ++ b).toArray := by simp
  exact congrArg ByteArray.mk h
theorem str_add (a b : List UInt8) (h : a.length + b.length ≤ 9223372036854775807) (w : World) : (Op.stringOp .add ⟨a.toArray⟩ ⟨b.toArray⟩).run Try.prog w = .ok (.string ⟨(a ++ b).toArray⟩) w := by
  rw [run_string_add_sum w _ _ (by rw [Lib.size_eq, Lib.size_eq]; exact h), ba_add]
/-- the block of what is put between -/
theorem seps_cells (w : World) (T : TypeId) (A : Array Value) (hA : A.toList = seps.map fun k => .string ⟨k.toArray⟩) (j : Nat) : (w.alloc (.cells A T)).cell? ⟨w.heap.size, j % 5, none⟩ = some (.string ⟨(sepAt j).toArray⟩) := by
  rw [cell_of_row _ w.heap.size (j % 5) A T (0, 0) (heap_alloc_new w _), ← Array.getElem?_toList, hA, List.getElem?_map]
  unfold sepAt
  rw [List.getD_eq_getElem?_getD, List.getElem?_eq_getElem (show j % 5 < seps.length from Nat.mod_lt _ (by decide))]
  rfl

set_option maxHeartbeats 16000000 in
set_option maxRecDepth 100000 in
theorem lexerBlanks_walk0 (s : ByteArray) (k : Nat) (w : World) (hk : k < 256) :
    Calls Try.prog 6 #[.string s, .int .u8 (k : Int)] w fun e w' => e = .returned (.bool true) ∧ w.grownBy w' none := by
  have hsz : s.size = s.data.toList.length := Lib.size_eq s
  have H1 := hid (lexAll_any s _ rfl w)
  have HAW := hid awake_any
  generalize s.data.toList = l at *
  by_cases hE : (lexAll l).2.2 = 0
  rotate_left
  · unfold AllP at H1
    generalize (lexAll l).2.2 = B at *
    generalize (lexAll l).2.1 = A at *
    generalize (lexAll l).1 = L at *
    have e1 : ((B : Int) != 0) = true := by
      have : ((B : Int) == 0) = false := by simpa using (by omega : ¬ (B : Int) = 0)
      simp [bne, this]
    clear hE
    go_enter Try.func6, Try.ntmps6
    go_wp2_with fail
    refine H1.out.mono ?_
    rintro e w1 ⟨p1, n1, c1, rfl, h1, hg1⟩
    clear h1
    go_wp2_with (go_at_call 20; (with_reducible refine (HAW.out _).mono ?_); rintro e w3 ⟨rfl, hg3⟩)
    go_ret
    exact ⟨rfl, grown_trans hg1 hg3⟩
  by_cases h4000 : 4000 < l.length
  · have hb : (4000 : Int) < (l.length : Int) := by omega
    have hA := lexAll_zero hE
    unfold AllP at H1
    rw [hE, hA] at H1
    generalize (lexAll l).1 = L at *
    clear hE hA h4000
    go_enter Try.func6, Try.ntmps6
    go_wp2_with fail
    refine H1.out.mono ?_
    rintro e w1 ⟨p1, n1, c1, rfl, h1, hg1⟩
    clear h1
    go_wp2_with (go_at_call 20; (with_reducible refine (HAW.out _).mono ?_); rintro e w3 ⟨rfl, hg3⟩)
    go_ret
    exact ⟨rfl, grown_trans hg1 hg3⟩
  have hb : ¬ (4000 : Int) < (l.length : Int) := by omega
  have hA := lexAll_zero hE
  have hcnt := lexAll_count l
  have HBM := hid (blanks_made hE k)
  unfold AllP at H1
  rw [hE, hA] at H1
  generalize (lexAll l).1 = ts at *
  have HML := hid fun (m : Nat) => madeT_len (l := l) (k := 0) (ts.take m) k
  clear hE hA
  go_enter Try.func6, Try.ntmps6
  go_wp2_with fail
  refine H1.out.mono ?_
  rintro e w1 ⟨p1, n1, c1, rfl, h1, hg1⟩
  obtain rfl : n1 = ts.length := by have := h1.len; rw [List.length_map] at this; exact this.symm
  have hcp := h1.cap
  have hmx := h1.max
  have HR := hid h1
  clear h1 H1
  go_upto_region 5 with fail
  have HS := hid (seps_cells w1 9 #[.string ⟨#[32]⟩, .string ⟨#[10]⟩, .string ⟨#[9, 13, 32]⟩, .string ⟨#[35, 10]⟩, .string ⟨#[32, 35, 32, 97, 32, 58, 61, 32, 40, 32, 10, 10]⟩] rfl)
  have hg2 := World.grownBy_alloc w1 (.cells #[.string ⟨#[32]⟩, .string ⟨#[10]⟩, .string ⟨#[9, 13, 32]⟩, .string ⟨#[35, 10]⟩, .string ⟨#[32, 35, 32, 97, 32, 58, 61, 32, 40, 32, 10, 10]⟩] 9) none
  have hb2 : w1.heap.size < (w1.alloc (.cells #[.string ⟨#[32]⟩, .string ⟨#[10]⟩, .string ⟨#[9, 13, 32]⟩, .string ⟨#[35, 10]⟩, .string ⟨#[32, 35, 32, 97, 32, 58, 61, 32, 40, 32, 10, 10]⟩] 9)).heap.size := by simp
  generalize w1.alloc (.cells #[.string ⟨#[32]⟩, .string ⟨#[10]⟩, .string ⟨#[9, 13, 32]⟩, .string ⟨#[35, 10]⟩, .string ⟨#[32, 35, 32, 97, 32, 58, 61, 32, 40, 32, 10, 10]⟩] 9) = w2 at *
  obtain ⟨bb, hbb⟩ : ∃ bb, bb = w1.heap.size := ⟨_, rfl⟩
  rw [← hbb] at HS hb2 ⊢
  have HBB := hid hbb
  clear hbb
  obtain ⟨r, hr⟩ : ∃ r, r = k % 5 := ⟨_, rfl⟩
  have hr1 : (k : Int) % 5 = (r : Int) := by omega
  have hr2 : (k : Int).tmod 5 = (r : Int) := by rw [Int.tmod_eq_emod_of_nonneg (by omega)]; exact hr1
  have hr5 : r < 5 := by omega
  have c0 : w2.cell? ⟨bb, r, none⟩ = some (.string ⟨(sepAt k).toArray⟩) := by rw [hr]; exact HS.out k
  have HT0 : Hid (sepAt k = madeT l k (ts.take 0)) := hid (by unfold madeT; simp [parts, joinT])
  obtain ⟨T0, hT0⟩ : ∃ T0, T0 = (⟨(sepAt k).toArray⟩ : ByteArray) := ⟨_, rfl⟩
  rw [← hT0] at c0
  have HTE := hid hT0
  clear hr hT0
  go_wp2_with fail
  clear hr1 hr2 hr5 c0
  go_loopw [9, 40] (fun x y wr => ∃ j : Nat, y = .int .i64 j ∧ x = .string ⟨(madeT l k (ts.take j)).toArray⟩ ∧ j ≤ ts.length ∧ w2.grownBy wr none) (fun _ y _ => ts.length - (intOf y).toNat)
  case atStart => exact ⟨0, rfl, by rw [HTE.out, HT0.out], Nat.zero_le _, grown_refl _ _⟩
  case round =>
    obtain ⟨j, rfl, rfl, hj, hW⟩ := hrel
    by_cases hlt : j < ts.length
    · obtain ⟨b1, o1, rfl, hc1⟩ := (HR.out.keep (grown_trans hg2 hW)).at (by decide) (i := j) (by rw [List.length_map]; exact hlt)
      have hrow : (ts.map (cells l))[j]'(by rw [List.length_map]; exact hlt) = cells l (ts[j]) := by simp
      have e3 : wr.cell? ⟨b1, o1 + j * 4 + 3, none⟩ = some (.string ⟨((l.drop (ts[j]).2.1).take (ts[j]).2.2).toArray⟩) := by have := hc1 3 (by rw [hrow, cells_len]; decide); simpa [hrow, cells] using this
      obtain ⟨q, hq⟩ : ∃ q, q = k + j := ⟨_, rfl⟩
      have hq0 : IntKind.i64.wrap ((k : Int) + (j : Int)) = (q : Int) := by rw [IntWalk.i64_in _ (by omega)]; omega
      obtain ⟨r, hr⟩ : ∃ r, r = q % 5 := ⟨_, rfl⟩
      have hr1 : (q : Int) % 5 = (r : Int) := by omega
      have hr2 : (q : Int).tmod 5 = (r : Int) := by rw [Int.tmod_eq_emod_of_nonneg (by omega)]; exact hr1
      have hr5 : r < 5 := by omega
      have c1 : wr.cell? ⟨bb, r, none⟩ = some (.string ⟨(sepAt q).toArray⟩) := by rw [hr]; exact hW.cell (HS.out q) (by simp)
      have hlen := HML.out j
      have hlen2 : (madeT l k (ts.take j)).length ≤ 12 + (ts.take j).length * (l.length + 12) := by
        unfold madeT
        have := (sep_ok k).2.2
        simp only [List.length_append]
        omega
      have hmul : (ts.take j).length * (l.length + 12) ≤ 4001 * 4012 := Nat.mul_le_mul (by simp; omega) (by omega)
      have hx : ((l.drop (ts[j]).2.1).take (ts[j]).2.2).length ≤ l.length := by simp; omega
      have hsq := (sep_ok q).2.2
      have hadd1 := str_add ((l.drop (ts[j]).2.1).take (ts[j]).2.2) (sepAt q) (by omega)
      have hadd2 := str_add (madeT l k (ts.take j)) (((l.drop (ts[j]).2.1).take (ts[j]).2.2) ++ sepAt q) (by rw [List.length_append]; omega)
      have hnew : madeT l k (ts.take j) ++ (((l.drop (ts[j]).2.1).take (ts[j]).2.2) ++ sepAt q) = madeT l k (ts.take (j + 1)) := by
        rw [List.take_succ_eq_append_getElem hlt, madeT_snoc, List.length_take, Nat.min_eq_left hj, hq]
      rw [hnew] at hadd2
      obtain ⟨d1, hd1⟩ : ∃ d1, d1 = (⟨((l.drop (ts[j]).2.1).take (ts[j]).2.2).toArray⟩ : ByteArray) := ⟨_, rfl⟩
      obtain ⟨d2, hd2⟩ : ∃ d2, d2 = (⟨(sepAt q).toArray⟩ : ByteArray) := ⟨_, rfl⟩
      obtain ⟨d3, hd3⟩ : ∃ d3, d3 = (⟨(((l.drop (ts[j]).2.1).take (ts[j]).2.2) ++ sepAt q).toArray⟩ : ByteArray) := ⟨_, rfl⟩
      obtain ⟨d4, hd4⟩ : ∃ d4, d4 = (⟨(madeT l k (ts.take j)).toArray⟩ : ByteArray) := ⟨_, rfl⟩
      obtain ⟨d5, hd5⟩ : ∃ d5, d5 = (⟨(madeT l k (ts.take (j + 1))).toArray⟩ : ByteArray) := ⟨_, rfl⟩
      rw [← hd1] at e3 hadd1
      rw [← hd2] at c1 hadd1
      rw [← hd3] at hadd1 hadd2
      rw [← hd4] at hadd2 ⊢
      rw [← hd5] at hadd2
      have HD5 := hid hd5
      clear hd1 hd2 hd3 hd4 hd5 hrow hc1 hq hr hlen hlen2 hmul hx hsq hnew
      go_wp2_with fail
      go_quiet (fail)
      go_wp2_with fail
      exact ⟨⟨j + 1, rfl, by rw [HD5.out], by omega, gdN hW _⟩, by simp [intOf]; omega⟩
    · obtain rfl : j = ts.length := by omega
      rw [List.take_length]
      have hG := grown_trans hg1 (grown_trans hg2 hW)
      by_cases hbig : 20000 < (madeT l k ts).length
      · have hbg : (20000 : Int) < (((⟨(madeT l k ts).toArray⟩ : ByteArray).size : Nat) : Int) := by rw [Lib.size_eq]; exact Int.ofNat_lt.2 hbig
        generalize (⟨(madeT l k ts).toArray⟩ : ByteArray) = d at *
        clear hbig
        go_wp2_with (go_at_call 20; (with_reducible refine (HAW.out _).mono ?_); rintro e w3 ⟨rfl, hg3⟩)
        go_ret
        exact ⟨rfl, grown_trans hG hg3⟩
      · obtain ⟨m1, m2, m3⟩ := HBM.out (by omega)
        have hbg : ¬ (20000 : Int) < (((⟨(madeT l k ts).toArray⟩ : ByteArray).size : Nat) : Int) := by rw [Lib.size_eq]; exact fun h => hbig (Int.ofNat_lt.1 h)
        have H2 := hid (lexAll_any ⟨(madeT l k ts).toArray⟩ (madeT l k ts) rfl wr)
        unfold AllP at H2
        rw [m1] at H2
        generalize (lexAll (madeT l k ts)).1 = us at *
        generalize hd : (⟨(madeT l k ts).toArray⟩ : ByteArray) = d at *
        have HM3 := hid m3
        have HM2 := hid m2
        clear hbig hd m3 m1 m2 HBM
        go_wp2_with fail
        refine H2.out.mono ?_
        rintro e w4 ⟨p2, n2, c2, rfl, h2, hg4⟩
        obtain rfl : n2 = ts.length := by have := h2.len; rw [List.length_map] at this; rw [← this]; exact HM2.out
        have hcp2 := h2.cap
        have hmx2 := h2.max
        have HR2 := hid h2
        have HW4 := hid (grown_trans hg2 (grown_trans hW hg4))
        have hG4 := grown_trans hG hg4
        clear h2 H2
        go_wp2_with fail
        go_loopw [83] (fun y wr => ∃ j : Nat, y = .int .i64 j ∧ j ≤ ts.length ∧ w4.grownBy wr none) (fun y _ => ts.length - (intOf y).toNat)
        case atStart => exact ⟨0, rfl, Nat.zero_le _, grown_refl _ _⟩
        case round =>
          obtain ⟨j, rfl, hj, hW5⟩ := hrel
          by_cases hlt2 : j < ts.length
          · have hu : j < us.length := by rw [HM2.out]; exact hlt2
            obtain ⟨b1, o1, rfl, hc1⟩ := (HR.out.keep (grown_trans HW4.out hW5)).at (by decide) (i := j) (by rw [List.length_map]; exact hlt2)
            obtain ⟨b2, o2, rfl, hc2⟩ := (HR2.out.keep hW5).at (by decide) (i := j) (by rw [List.length_map]; exact hu)
            have hrow : (ts.map (cells l))[j]'(by rw [List.length_map]; exact hlt2) = cells l (ts[j]) := by simp
            have hrow2 : (us.map (cells (madeT l k ts)))[j]'(by rw [List.length_map]; exact hu) = cells (madeT l k ts) (us[j]) := by simp
            obtain ⟨q1, q2⟩ := HM3.out j hu hlt2
            have e0 := hc1 0 (by rw [hrow, cells_len]; decide)
            have e3 := hc1 3 (by rw [hrow, cells_len]; decide)
            have g0 := hc2 0 (by rw [hrow2, cells_len]; decide)
            have g3 := hc2 3 (by rw [hrow2, cells_len]; decide)
            simp only [hrow, cells, List.getElem_cons_zero, List.getElem_cons_succ, Nat.add_zero] at e0 e3
            simp only [hrow2, cells, List.getElem_cons_zero, List.getElem_cons_succ, Nat.add_zero] at g0 g3
            rw [q1] at g0
            rw [q2] at g3
            generalize (ts[j]).1 = kk at *
            generalize (⟨((l.drop (ts[j]).2.1).take (ts[j]).2.2).toArray⟩ : ByteArray) = dt at *
            clear hc1 hc2 hrow hrow2 q1 q2
            go_wp2_with fail
            go_quiet (fail)
            go_wp2_with fail
            exact ⟨⟨j + 1, rfl, by omega, gdN hW5 _⟩, by simp [intOf]; omega⟩
          · obtain rfl : j = ts.length := by omega
            go_wp2_with (go_at_call 20; (with_reducible refine (HAW.out _).mono ?_); rintro e w6 ⟨rfl, hg6⟩)
            go_ret
            exact ⟨rfl, grown_trans hG4 (grown_trans hW5 hg6)⟩
theorem lexerBlanks_walk (s : ByteArray) (x : Int) (w : World) (hs : s.size ≤ maxLen) (hx : (Lit.int .u8 x).wf = true) :
    Calls Try.prog 6 #[.string s, .int .u8 x] w fun e w' => e = .returned (.bool true) ∧ w.grownBy w' none := by
  have hb := bounds_u8 hx
  obtain ⟨k, rfl⟩ : ∃ k : Nat, x = (k : Int) := ⟨x.toNat, by omega⟩
  exact lexerBlanks_walk0 s k w (by omega)

set_option maxRecDepth 100000 in
theorem lexerBlanks_lifted (os : Os) (started : os.Started) (H : Type) (enc : TypeId × Value → H) :
    ReturnsInHanded {} Try.checked os 6 .any (Rows.lexerBlanksSpec.pre6 enc Try.prog Try.f6 Rows.lexerBlanksRow.domain false) (Rows.lexerBlanksSpec.post enc Try.prog Try.f6 false true false false) := by
  refine returnsInHanded_of_change (C := Try.checked) ownL started (by kernel_rfl) Try.func6
    (ChangeSpec.witness6 (enc := enc) (C := Try.checked) false ⟨#[], #[.string ⟨#[]⟩, .int .u8 0], []⟩ 8 (by kernel_rfl) (by kernel_rfl) (by kernel_rfl) (by kernel_rfl)) ?_
  intro W base args ds gs before hval0 hW hcnd _
  have hval : ∀ (j : Nat) t v, Try.f6.params[j]? = some t → args[j]? = some v → Value.okWide Try.prog W .any base t v := hval0
  have hW' := hW
  obtain ⟨p, q, hA0, hV, rfl, hfz, hnd⟩ := hW
  have hA : DataW.TrodAll enc Try.prog W 0 (fun _ => true) true Try.f6.params.toList args.toList ds p := hA0
  rw [Try.params6] at hA hval
  obtain ⟨v0, v1, d0, d1, p0, p1, rfl, rfl, rfl, h0, h1⟩ := trodAll_two hA
  obtain ⟨rfl, rfl⟩ := trodVars_none hV
  obtain ⟨x0, rfl, rfl, rfl, ws0⟩ := open_string Try.underlying9 (hval 0 9 v0 rfl rfl) h0
  obtain ⟨x1, rfl, rfl, rfl, ws1⟩ := open_int Try.underlying5 (hval 1 5 v1 rfl rfl) h1
  refine (lexerBlanks_walk x0 x1 W ws0 ws1).mono fun e W' ⟨he, hg⟩ => ?_
  subst he
  have hB := grown_below hg
  exact ⟨_, rfl, _, _, _, [], _, [], hW', trodAll_mk1 (shut_bool Try.underlying4 true),
    trodAll_mk2 (shut_string Try.underlying9 ws0) (shut_int Try.underlying5 ws1), rfl, hB.frame _, fun h => by cases h⟩

theorem lexerBlanks_holds : Rows.LexerBlanksSaid :=
  OpenClaim.holds_of_wide 6 Try.f6 rfl rfl rfl rfl rfl rfl rfl ⟨rfl, rfl, rfl, rfl, rfl⟩ rfl rfl rfl rfl rfl (by kernel_rfl) Try.func6 (by kernel_rfl)
    (of_decide_eq_true (by kernel_rfl)) (by unfold Func.isWrapper; first | (rw [if_pos (by decide +kernel)]; kernel_rfl) | (rw [if_neg (by decide +kernel)]; exact ⟨rfl, rfl⟩))
    (fun os started H enc _ => lexerBlanks_lifted os started H enc)
end Go.Proofs.Ytlkajmfpbgipbaa
