/-
  Rtext Itext Rread Iread, in one text.
-/
import Derived.Test.YtkggoniecmlglaaGreatDoorTxt
import Derived.Test.YtkggoniecmlglaaGreatDoorMrJ
import Derived.Deep.LoopGhost
import Derived.Laws.IdiomStrings
import Derived.Test.YtkggoniecmlglaaGreatDoorNtext
import Derived.Test.YtkggoniecmlglaaGreatDoorMrA
import Derived.Test.YtkggoniecmlglaaGreatDoorMrB
import Derived.Test.YtkggoniecmlglaaGreatDoorNread
import Derived.Deep.RegionHeld3
import Derived.Deep.DeepCutAuto

set_option linter.unusedVariables false
set_option linter.unusedSimpArgs false
namespace Go.Proofs.YtkggoniecmlglaaGreatDoor
open Go.RowKit _root_.Nm

theorem IsC.zlen {w : World} {p : Option Addr} {n c N : Nat} (h : IsC w p n c N) : (n = 0 ∧ N = 0) ∨ (0 < n ∧ 0 < N) := by
  have hl := h.len
  rcases Nat.eq_zero_or_pos N with h0 | h0
  · subst h0
    rw [dg_zero] at hl
    exact .inl ⟨by simpa using hl.symm, rfl⟩
  · refine .inr ⟨?_, h0⟩
    rcases Nat.eq_zero_or_pos n with h1 | h1
    · have e := V_dg (B := 65536) (by omega) N
      rw [List.eq_nil_of_length_eq_zero (hl.trans h1)] at e
      simp at e; omega
    · exact h1

theorem conv_one (w : World) (d : Nat) (hd : d < 10) : (convert 96 9 (.slice (some ⟨w.heap.size, 0, none⟩) 1 1)).run Tryz.prog (w.alloc (.cells #[.int .u8 (48 + (d : Int))] 5)) = .ok (str [dgc d]) (w.alloc (.cells #[.int .u8 (48 + (d : Int))] 5)) := by
  have h := run_convert_bytes_back (P := Tryz.prog) (w.alloc (.cells #[.int .u8 (48 + (d : Int))] 5)) 96 9 5 ⟨w.heap.size, 0, none⟩ 1 [dgc d] (by kernel_rfl) (by kernel_rfl) (by kernel_rfl) (fun j hj => by
    have : j = 0 := by simpa using hj
    subst this
    rw [show (⟨w.heap.size, 0, none⟩ : Addr).add 0 = ⟨w.heap.size, 0, none⟩ from rfl, World.cell?_alloc_new]
    simp [dgc_toNat hd])
  exact h

set_option maxHeartbeats 4000000 in
set_option maxRecDepth 100000 in
theorem refText_n {w : World} {a : Option Addr} {n c N : Nat} (hA : IsN w a n c N) (hn : n ≤ 40000) :
    Calls Tryz.prog 37 #[.slice a n c] w fun e w' => e = .returned (str (Lib.decDigits N)) ∧ w.grownBy w' none := by
  have hlen : (dd N).length ≤ 200000 := Nat.le_trans (dd_limbs hA.lt) (by omega)
  have HLEN := hid hlen
  clear hlen
  go_enter Tryz.func37, Tryz.ntmps37
  go_wp2_with fail
  refine (refNorm_n hA (by omega)).mono ?_
  rintro e w1 ⟨p1, n1, c1, rfl, hA1, hn1, hg1⟩
  rcases hA1.zlen with ⟨rfl, rfl⟩ | ⟨h1, h2⟩
  · clear hA1
    go_wp2_with fail
    go_ret
    exact ⟨by rw [dec_one (by omega)]; rfl, hg1⟩
  · have h1' : ((n1 : Int) == 0) = false := beq_eq_false_iff_ne.2 (by omega)
    have HPOS := hid h2
    clear h2
    go_wp2_with fail
    go_loopg [0, 3] N (fun j x y wr => ∃ (p : Option Addr) (n c : Nat) (ds : List UInt8), x = .slice p n c ∧ y = str ds ∧ IsC wr p n c j ∧ n ≤ 40000 ∧ w.grownBy wr none ∧ Hid (dd N = dd j ++ ds))
    case atStart => exact ⟨p1, n1, c1, [], rfl, rfl, hA1, by omega, hg1, hid (by simp)⟩
    case round =>
      clear hA1 hg1 h1 h1' hn1
      obtain ⟨p, n, c, ds, rfl, rfl, hC, hn, hW, HI⟩ := hrel
      rcases hC.zlen with ⟨rfl, rfl⟩ | ⟨h1, h2⟩
      · clear hC
        go_wp2_with fail
        go_ret
        have := HI.out
        rw [dd_zero, List.nil_append, dd_pos HPOS.out] at this
        exact ⟨by rw [this]; rfl, hW⟩
      · have h1' : (0 : Int) < (n : Int) := by omega
        have H2 := hid h2
        clear h2
        go_wp2_with fail
        refine (refOf_c 10 (by decide) _).mono ?_
        rintro e w2 ⟨p2, n2, c2, rfl, hT, hn2, hg2⟩
        go_wp2_with fail
        refine (refDivMod_n (hC.keep hg2).isN hT.isN (by omega) (by omega) (by omega)).mono ?_
        rintro e w3 ⟨p3, n3, c3, p4, n4, c4, rfl, hQ, hR, hn3, hn4, hg3⟩
        obtain ⟨d, hd⟩ : ∃ d, d = gk % 10 := ⟨_, rfl⟩
        rw [← hd] at hR
        have hd10 : d < 10 := by omega
        have hW3 := grown_trans hW (grown_trans hg2 hg3)
        have hS := refShort_any p4 n4 c4 _ w3 hR (Can_dg (by omega) d).1 (by
          have := hR.len
          have := dg_length_le (B := 65536) (n := d) (k := 1) (by omega) (by omega)
          omega)
        rw [V_dg (by omega)] at hS
        have HS := hid hS
        have HD := hid hd
        have hcv := conv_one w3 d hd10
        have hdl : ds.length ≤ 200000 := by
          have h1 := congrArg List.length HI.out
          have h2 := HLEN.out
          rw [List.length_append] at h1; omega
        have hcat : ∀ w, (Op.stringOp .add ⟨[dgc d].toArray⟩ ⟨ds.toArray⟩).run Tryz.prog w = .ok (str (dgc d :: ds)) w := fun w => run_string_add_lists w [dgc d] ds (by simp) (by omega)
        have hnew : Hid (dd N = dd (gk / 10) ++ (dgc d :: ds)) := hid (by rw [HI.out, dd_step H2.out, ← hd, List.append_assoc]; rfl)
        clear hS hd hC hT hW hg2 hg3 HI
        go_wp2_with fail
        refine HS.out.mono ?_
        rintro e w4 ⟨rfl, rfl⟩
        have hg4 := World.grownBy_alloc w3 (.cells #[.int .u8 (48 + (d : Int))] 5) none
        have hQ4 := hQ.keep hg4
        have hW4 := grown_trans hW3 hg4
        have HQ := hid (And.intro hQ4 hW4)
        clear hQ4 hW4 hQ hg4 hR hW3 HS
        go_wp2_with fail
        go_roundg (gk / 10)
        case measure => have := H2.out; omega
        case rel => exact ⟨p3, n3, c3, dgc d :: ds, rfl, by first | rfl | simp, HQ.out.1, by omega, HQ.out.2, hnew⟩
end Go.Proofs.YtkggoniecmlglaaGreatDoor

set_option linter.unusedVariables false
set_option linter.unusedSimpArgs false
namespace Go.Proofs.YtkggoniecmlglaaGreatDoor
open Go.RowKit _root_.Nm

/-- the numeral of an integer -/
def itx (Z : Int) : List UInt8 := if Z < 0 then 45 :: Lib.decDigits Z.natAbs else Lib.decDigits Z.natAbs
theorem itx_neg {Z : Int} (h : Z < 0) : itx Z = 45 :: Lib.decDigits Z.natAbs := if_pos h
theorem itx_pos {Z : Int} (h : ¬ Z < 0) : itx Z = Lib.decDigits Z.natAbs := if_neg h
theorem dec_limbs {N n : Nat} (h : N < 65536 ^ n) : (Lib.decDigits N).length ≤ 5 * n + 1 := by
  rcases Nat.eq_zero_or_pos N with h0 | h0
  · subst h0; rw [dec_one (by omega)]; simp
  · have := dd_limbs h
    rw [dd_pos h0] at this; omega
theorem cat_minus (w : World) (l : List UInt8) (h : l.length ≤ 200001) : (Op.stringOp .add ⟨#[45]⟩ ⟨l.toArray⟩).run Tryz.prog w = .ok (str (45 :: l)) w :=
  run_string_add_lists w [45] l (by simp) (by omega)

set_option maxHeartbeats 1000000 in
theorem intText_n {w : World} {g : Bool} {p : Option Addr} {n c : Nat} {Z : Int} (hA : IsZ w g p n c Z) (hn : n ≤ 40000) (T : Tp w) :
    Calls Tryz.prog 31 #[.agg #[.bool g, .slice p n c]] w fun e w' => e = .returned (str (itx Z)) ∧ w.grownBy w' none := by
  have hg1 := World.grownBy_alloc w (.cells #[.bool g, .slice p n c] 25) none
  have hA1 := hA.keep hg1
  have HT := hid (natText_n hA1.1 hn (tp_keep T hg1))
  have hl := dec_limbs hA.1.lt
  obtain ⟨l, hl'⟩ : ∃ l, l = Lib.decDigits Z.natAbs := ⟨_, rfl⟩
  rw [← hl'] at HT hl
  have hl2 : l.length ≤ 200001 := by omega
  have HI := hid (intSign_any hA1 (by omega))
  have HS := hid (fun W (h : (w.alloc (.cells #[.bool g, .slice p n c] 25)).grownBy W none) => intSign_any (hA1.keep h) (by omega))
  clear hl
  by_cases hz : Z < 0
  · have HC : Hid (cmpI Z 0 = -1) := hid (if_pos hz)
    rw [HC.out] at HS
    have hX : Hid (itx Z = 45 :: l) := hid (by rw [itx_neg hz, hl'])
    have hcat := fun W => cat_minus W l hl2
    clear hz hl'
    go_enter Tryz.func31, Tryz.ntmps31
    go_wp2_with fail
    refine HT.out.mono ?_
    rintro e w1 ⟨rfl, hg⟩
    have hc := gcell hg
    have hf := gfree hg
    have hz := hg.size
    simp at hz
    go_wp2_with fail
    refine (HS.out _ hg).mono ?_
    rintro e w2 ⟨rfl, hg2⟩
    go_wp2_with fail
    go_ret
    exact ⟨by rw [hX.out]; rfl, grown_trans hg1 (grown_trans hg hg2)⟩
  · have hX : Hid (itx Z = l) := hid (by rw [itx_pos hz, hl'])
    have HC : Hid (¬ cmpI Z 0 < 0) := hid (by
      unfold cmpI
      rw [if_neg hz]
      split <;> omega)
    generalize cmpI Z 0 = s at *
    have hs := HC.out
    clear hz hl'
    go_enter Tryz.func31, Tryz.ntmps31
    go_wp2_with fail
    refine HT.out.mono ?_
    rintro e w1 ⟨rfl, hg⟩
    have hc := gcell hg
    have hf := gfree hg
    have hz := hg.size
    simp at hz
    go_wp2_with fail
    refine (HS.out _ hg).mono ?_
    rintro e w2 ⟨rfl, hg2⟩
    go_wp2_with fail
    go_ret
    exact ⟨by rw [hX.out]; rfl, grown_trans hg1 (grown_trans hg hg2)⟩

set_option maxHeartbeats 1000000 in
theorem rText_n {w : World} {g : Bool} {p : Option Addr} {n c : Nat} {Z : Int} (hA : IsZ w g p n c Z) (hn : n ≤ 40000) :
    Calls Tryz.prog 36 #[.agg #[.bool g, .slice p n c]] w fun e w' => e = .returned (str (itx Z)) ∧ w.grownBy w' none := by
  have hg1 := World.grownBy_alloc w (.cells #[.bool g, .slice p n c] 25) none
  have HN := hid (rNorm_any (hA.keep hg1) (by omega))
  have hl := dec_limbs hA.1.lt
  obtain ⟨l, hl'⟩ : ∃ l, l = Lib.decDigits Z.natAbs := ⟨_, rfl⟩
  rw [← hl'] at hl
  have hl2 : l.length ≤ 200001 := by omega
  have hcat := fun W => cat_minus W l hl2
  have HL := hid hl'
  clear hl hl'
  go_enter Tryz.func36, Tryz.ntmps36
  go_wp2_with fail
  refine HN.out.mono ?_
  rintro e w1 ⟨g1, p1, n1, c1, rfl, h1, hn1, hg⟩
  have hbx : w1.heap[w.heap.size]? = some (.cells #[.bool g, .slice p n c] 25 (0, 0)) := (hg.block _ (by simp) (by simp)).trans (heap_alloc_new w _)
  have hc := gcell hg
  have hf := gfree hg
  have hz := hg.size
  simp at hz
  have hgs : (w1.grownBy ((w1.setCell ⟨w.heap.size, 0, none⟩ (.bool g1)).setCell ⟨w.heap.size, 1, none⟩ (.slice p1 n1 c1)) (some w.heap.size)) := grown_trans (grown_setCell w1 ⟨w.heap.size, 0, none⟩ _) (grown_setCell _ ⟨w.heap.size, 1, none⟩ _)
  have h2 : IsI ((w1.setCell ⟨w.heap.size, 0, none⟩ (.bool g1)).setCell ⟨w.heap.size, 1, none⟩ (.slice p1 n1 c1)) g1 p1 n1 c1 Z := ⟨IRd.other h1.1 hbx (fun j z => two_cells _ _ _ _ j _ z) hgs, h1.2⟩
  have hgw := grown_new (grown_trans hg1 hg) hgs (fun g e => by cases e; exact Nat.le_refl _)
  have HT := hid (refText_n h2.z.1 (by omega))
  rw [← HL.out] at HT
  have hdec := h1.2
  by_cases hZ : Z < 0
  · have hX : Hid (itx Z = 45 :: l) := hid (by rw [itx_neg hZ, HL.out])
    rw [decide_eq_true hZ] at hdec
    subst hdec
    clear h1 h2 hbx hZ hgs
    go_wp2_with fail
    refine HT.out.mono ?_
    rintro e w2 ⟨rfl, hg2⟩
    go_wp2_with fail
    go_ret
    exact ⟨by rw [hX.out]; rfl, grown_trans hgw hg2⟩
  · have hX : Hid (itx Z = l) := hid (by rw [itx_pos hZ, HL.out])
    rw [decide_eq_false hZ] at hdec
    subst hdec
    clear h1 h2 hbx hZ hgs
    go_wp2_with fail
    refine HT.out.mono ?_
    rintro e w2 ⟨rfl, hg2⟩
    go_wp2_with fail
    go_ret
    exact ⟨by rw [hX.out]; rfl, grown_trans hgw hg2⟩
end Go.Proofs.YtkggoniecmlglaaGreatDoor

set_option linter.unusedVariables false
set_option linter.unusedSimpArgs false
namespace Go.Proofs.YtkggoniecmlglaaGreatDoor
open Go.RowKit _root_.Nm

/-- what the first k bytes show -/
def Seen (l : List UInt8) (k : Nat) : Prop := (∀ j (h : j < l.length), j < k → 48 ≤ l[j].toNat ∧ l[j].toNat ≤ 57) ∧ (2 ≤ k → l.head? ≠ some 48)

theorem Seen.dgs {l : List UInt8} {k : Nat} (h : Seen l k) : DgS (l.take k) := fun c hc => by
  obtain ⟨j, hj, rfl⟩ := List.getElem_of_mem hc
  rw [List.length_take] at hj
  rw [List.getElem_take]
  exact h.1 j (by omega) (by omega)

theorem refTen (w : World) : Calls Tryz.prog 27 #[.int .u64 10] w fun e w' => ∃ p n c, e = .returned (.slice p n c) ∧ IsC w' p n c 10 ∧ n ≤ 4 ∧ w.grownBy w' none := refOf_c 10 (by decide) w

set_option maxHeartbeats 4000000 in
set_option maxRecDepth 100000 in
theorem refRead_any (s : ByteArray) (l : List UInt8) (hl : s.data.toList = l) (hmax : s.size ≤ 9223372036854775807) (w : World) :
    Calls Tryz.prog 28 #[.string s] w (RdPost w l) := by
  have hsz : s.size = l.length := by rw [Lib.size_eq, hl]
  by_cases h0 : l = []
  · have hP : Hid (∀ w', w.grownBy w' none → RdPost w l (.returned (.tuple #[.slice none 0 0, .int .i64 10])) w') := hid fun w' hg => rdPost_bad (k := 10) (by rw [h0]; rfl) (by omega) hg
    have hs := str_eq (hl.trans h0)
    subst hs
    clear hl hmax hsz
    go_enter Tryz.func28, Tryz.ntmps28
    go_wp2_with fail
    go_ret2
    exact hP.out _ (grown_refl _ _)
  have hemp := ne_str (by rw [hl]; exact h0 : s.data.toList ≠ [])
  by_cases h1 : 1000 < l.length
  · have hP : Hid (∀ w', w.grownBy w' none → RdPost w l (.returned (.tuple #[.slice none 0 0, .int .i64 4])) w') := hid fun w' hg => rdPost_bad (k := 4) (rdE_large h1) (by omega) hg
    have h1' : (1000 : Int) < (s.size : Int) := by omega
    clear hl hsz
    go_enter Tryz.func28, Tryz.ntmps28
    go_wp2_with fail
    go_ret2
    exact hP.out _ (grown_refl _ _)
  have h1' : ¬ ((1000 : Int) < (s.size : Int)) := by omega
  have hP : Hid (¬ Numl l → ∀ w', w.grownBy w' none → RdPost w l (.returned (.tuple #[.slice none 0 0, .int .i64 9])) w') := hid fun h2 w' hg => rdPost_bad (k := 9) (rdE_form h0 (by omega) h2) (by omega) hg
  have hpos : 0 < l.length := List.length_pos_iff.2 h0
  have HIX := hid (idx_str s l hl)
  have HL := hid (And.intro hl (And.intro h0 (And.intro hpos (show l.length ≤ 1000 by omega))))
  clear hl h0 hpos
  go_enter Tryz.func28, Tryz.ntmps28
  go_wp2_with fail
  clear hemp h1' hmax
  go_loopw [4, 5] (fun x y wr => ∃ (k n c : Nat) (p : Option Addr), x = .slice p n c ∧ y = .int .i64 k ∧ k ≤ l.length ∧ IsC wr p n c (numF 0 (l.take k)) ∧ w.grownBy wr none ∧ Hid (Seen l k)) (fun _ y _ => l.length - (intOf y).toNat)
  case atStart => exact ⟨0, 0, 0, none, rfl, rfl, Nat.zero_le _, IsC.nil _, grown_refl _ _, hid ⟨fun j h hj => by omega, fun h => by omega⟩⟩
  case round =>
    obtain ⟨k, n, c, p, rfl, rfl, hk, hC, hW, HS⟩ := hrel
    by_cases hlt : k < l.length
    · have hn := hC.len_le (k := 250) (num_limbs HS.out.dgs (by rw [List.length_take]; have := HL.out.2.2.2; omega))
      have hix := HIX.out k hlt
      have hix0 := HIX.out 0 HL.out.2.2.1
      have hkl : (k : Int) < (s.size : Int) := by omega
      have hk1000 : (k : Int) < 1000 := by have := HL.out.2.2.2; omega
      obtain ⟨ch, hc⟩ : ∃ ch, ch = l[k] := ⟨_, rfl⟩
      obtain ⟨c0, hc0⟩ : ∃ c0, c0 = l[0]'(HL.out.2.2.1) := ⟨_, rfl⟩
      rw [← hc] at hix
      rw [← hc0] at hix0
      have hh : l.head? = some c0 := by rw [hc0, List.head?_eq_getElem?, List.getElem?_eq_getElem HL.out.2.2.1]
      have hix0' : ∀ w, (Instr.index 9 (.string s) (.int .i64 0)).run Tryz.prog w = .ok (.int .u8 (c0.toNat : Int)) w := hix0
      have hcm : ch ∈ l := by rw [hc]; exact List.getElem_mem hlt
      have hbad : ¬ (48 ≤ ch.toNat ∧ ch.toNat ≤ 57) → ¬ Numl l := fun h g => h (g.1 ch hcm)
      have hbad0 : k = 1 → c0.toNat = 48 → ¬ Numl l := fun h1 h2 g => by
        rcases g.2 with h3 | h3
        · omega
        · exact h3 (by rw [hh]; congr 1; exact UInt8.toNat_inj.1 h2)
      have hnext : 48 ≤ ch.toNat ∧ ch.toNat ≤ 57 → ¬ (k = 1 ∧ c0.toNat = 48) → Seen l (k + 1) := fun h1 h2 => ⟨fun j h hj => by
          by_cases hjk : j = k
          · subst hjk; rw [← hc]; exact h1
          · exact HS.out.1 j h (by omega), fun h3 e => by
          rw [hh] at e
          simp only [Option.some.injEq] at e
          by_cases hk1 : k = 1
          · exact h2 ⟨hk1, by rw [e]; rfl⟩
          · exact HS.out.2 (by omega) (by rw [hh, e])⟩
      have hval : numF 0 (l.take k) * 10 + (ch.toNat - 48) = numF 0 (l.take (k + 1)) := by
        rw [List.take_succ_eq_append_getElem hlt, numF_append, ← hc, numF_cons, numF_nil]
      obtain ⟨N, hN⟩ : ∃ N, N = numF 0 (l.take k) := ⟨_, rfl⟩
      rw [← hN] at hC hval
      obtain ⟨v, hv⟩ : ∃ v, v = ch.toNat := ⟨_, rfl⟩
      have hv256 : v < 256 := by rw [hv]; exact ch.toNat_lt
      rw [← hv] at hix hbad hnext hval
      obtain ⟨v0, hv0⟩ : ∃ v0, v0 = c0.toNat := ⟨_, rfl⟩
      rw [← hv0] at hix0' hbad0 hnext
      have HB := hid (And.intro hbad (And.intro hbad0 (And.intro hnext hval)))
      clear hbad hbad0 hnext hval hix0 hh hcm hc hc0 hN hv hv0 HS
      by_cases hd : 48 ≤ v ∧ v ≤ 57
      · obtain ⟨hd1, hd2⟩ := hd
        have hd1' : ¬ ((v : Int) < 48) := by omega
        have hd2' : ¬ ((57 : Int) < (v : Int)) := by omega
        by_cases hz : k = 1 ∧ v0 = 48
        · have HBB := hid (HB.out.2.1 hz.1 hz.2)
          have hz1 : ((k : Int) == 1) = true := by simp; omega
          have hz2 : ((v0 : Int) == 48) = true := by simp; omega
          clear hz HB
          go_wp2_with fail
          go_ret2
          exact hP.out HBB.out _ hW
        · have HNX := hid (And.intro (HB.out.2.2.1 ⟨hd1, hd2⟩ hz) HB.out.2.2.2)
          have hz' : (((k : Int) == 1) = false) ∨ (((k : Int) == 1) = true ∧ ((v0 : Int) == 48) = false) := by
            by_cases hk1 : k = 1
            · right; exact ⟨by simp; omega, by simp; omega⟩
            · left; simp; omega
          obtain ⟨d, hd⟩ : ∃ d, d = v - 48 := ⟨_, rfl⟩
          have hvd : (v : Int) - 48 = (d : Int) := by omega
          have hdv : N * 10 + d = numF 0 (l.take (k + 1)) := by rw [hd]; exact HNX.out.2
          have HDV := hid hdv
          have hd10 : d < 10 := by omega
          have hod := fun W => refOf_c d (by unfold W64; omega) W
          have hwr : IntKind.u64.wrap (IntKind.u8.wrap (d : Int)) = (d : Int) := by rw [IntKind.wrap_u8, IntKind.wrap_u64]; omega
          have hod2 : ∀ W, Calls Tryz.prog 27 #[.int .u64 ((v : Int) - 48)] W fun e w' => ∃ p n c, e = .returned (.slice p n c) ∧ IsC w' p n c d ∧ n ≤ 4 ∧ W.grownBy w' none := by rw [hvd]; exact hod
          have hod3 : ∀ W, Calls Tryz.prog 27 #[.int .u64 (IntKind.u64.wrap (IntKind.u8.wrap (d : Int)))] W fun e w' => ∃ p n c, e = .returned (.slice p n c) ∧ IsC w' p n c d ∧ n ≤ 4 ∧ W.grownBy w' none := by rw [hwr]; exact hod
          have HOD := hid (And.intro hod (And.intro hod2 hod3))
          clear hod hod2 hod3 hwr
          clear hdv hd hz HB
          rcases hz' with hz1 | ⟨hz1, hz2⟩
          all_goals
            go_upto_region 11 with fail
            go_region_held3 (fun _ => True) (exact trivial) (first
              | (go_at_call 27; (with_reducible refine (refTen _).mono ?_); rintro e wA ⟨pT, nT, cT, rfl, hT, hnT, hg⟩; (try first | replace hC := hC.keep hg | replace hC := hC.keep (grown_trans (grown_drew _ none) hg)); (try replace hD := hD.keep hg); (first | replace hW := grown_trans hW hg | replace hW := grown_trans hW (grown_trans (grown_drew _ none) hg)); clear hg)
              | (go_at_call 27; (first | with_reducible refine (HOD.out.1 _).mono ?_ | with_reducible refine (HOD.out.2.1 _).mono ?_ | with_reducible refine (HOD.out.2.2 _).mono ?_); rintro e wB ⟨pD, nD, cD, rfl, hD, hnD, hg⟩; (try first | replace hC := hC.keep hg | replace hC := hC.keep (grown_trans (grown_drew _ none) hg)); (try replace hT := hT.keep hg); (try replace hM := hM.keep hg); (first | replace hW := grown_trans hW hg | replace hW := grown_trans hW (grown_trans (grown_drew _ none) hg)); clear hg)
              | (go_at_call 63; (with_reducible refine (refMul_n hC.isN hT.isN (by omega) (by omega)).mono ?_); rintro e wC ⟨pM, nM, cM, rfl, hM, hnM, hg⟩; clear hC hT; (try replace hD := hD.keep hg); (first | replace hW := grown_trans hW hg | replace hW := grown_trans hW (grown_trans (grown_drew _ none) hg)); clear hg)
              | (go_at_call 62; (with_reducible refine (refAdd_n hM.isN hD.isN (by omega) (by omega)).mono ?_); rintro e wE ⟨pS, nS, cS, rfl, hS, hnS, hg⟩; (first | replace hW := grown_trans hW hg | replace hW := grown_trans hW (grown_trans (grown_drew _ none) hg)); clear hg))
            all_goals
              go_wp2_with fail
              exact ⟨⟨k + 1, nS, cS, pS, rfl, rfl, by omega, by rw [← HDV.out]; exact hS, hW, hid HNX.out.1⟩, by simp [intOf]; omega⟩
      · have hs : ((v : Int) < 48) ∨ (¬ ((v : Int) < 48) ∧ (57 : Int) < (v : Int)) := by omega
        have HBB := hid (HB.out.1 hd)
        clear hd HB
        rcases hs with h2 | ⟨h2, h3⟩
        all_goals
          go_wp2_with fail
          go_ret2
          exact hP.out HBB.out _ hW
    · obtain rfl : k = l.length := by omega
      have hS := HS.out
      have hnum : Numl l := ⟨by have := hS.dgs; rwa [List.take_of_length_le (Nat.le_refl _)] at this, by
        by_cases h2 : l.length = 1
        · exact .inl h2
        · exact .inr (hS.2 (by have := HL.out.2.2.1; omega))⟩
      rw [List.take_of_length_le (Nat.le_refl _)] at hC
      have HE := hid (rdE_ok HL.out.2.1 HL.out.2.2.2 hnum)
      have HD := hid hnum.1
      have hC' := hC
      have HC := hid hC'
      clear hC' hS hnum HS
      go_wp2_with fail
      go_ret2
      refine ⟨p, n, c, by rw [HE.out]; rfl, ?_, ?_, hW⟩
      · rw [rdV_ok HE.out]; exact HC.out
      · exact HC.out.len_le (num_limbs HD.out HL.out.2.2.2)
end Go.Proofs.YtkggoniecmlglaaGreatDoor

set_option linter.unusedVariables false
set_option linter.unusedSimpArgs false
namespace Go.Proofs.YtkggoniecmlglaaGreatDoor
open Go.RowKit _root_.Nm

/-- behind the minus sign -/
def riT (l : List UInt8) : List UInt8 := if l.head? = some 45 then l.tail else l
/-- the error of reading an integer -/
def riE (l : List UInt8) : Nat := if rdE (riT l) ≠ 0 then rdE (riT l) else if l.head? = some 45 ∧ rdV (riT l) = 0 then 9 else 0
/-- the integer that is read -/
def riV (l : List UInt8) : Int := if riE l = 0 then sg (decide (l.head? = some 45)) (rdV (riT l)) else 0

/-- a call returns what reading the integer l gives -/
def RiPost (w : World) (l : List UInt8) (e : Ending) (w' : World) : Prop :=
  ∃ g p n c, e = .returned (.tuple #[.agg #[.bool g, .slice p n c], .int .i64 (riE l : Nat)]) ∧ IsI w' g p n c (riV l) ∧ n ≤ 250 ∧ w.grownBy w' none

theorem isI_nil (w : World) : IsI w false none 0 0 0 := ⟨IsC.nil w, rfl⟩

/-- two cells of a result are written -/
theorem ri_bad {w w1 : World} {l : List UInt8} {k : Nat} {G : Nat} (h : riE l = k) (hk : k ≠ 0) (hg : w.grownBy w1 none) (hG : w.heap.size ≤ G) :
    RiPost w l (.returned (.tuple #[.agg #[.bool false, .slice none 0 0], .int .i64 (k : Int)])) ((w1.setCell ⟨G, 0, none⟩ (.bool false)).setCell ⟨G, 1, none⟩ (.slice none 0 0)) := by
  subst h
  refine ⟨false, none, 0, 0, rfl, ?_, by omega, grown_new hg (grown_trans (grown_setCell _ _ _) (grown_setCell _ ⟨G, 1, none⟩ _)) (fun g e => by cases e; exact hG)⟩
  have : riV l = 0 := if_neg hk
  rw [this]; exact isI_nil _
theorem ri_ok {w w1 : World} {l : List UInt8} {G : Nat} {x : Bool} {y : Option Addr} {a b : Nat} {T : TypeId} {g : Bool} {p : Option Addr} {n c : Nat} (h : riE l = 0) (hI : IsI w1 g p n c (riV l)) (hb : w1.heap[G]? = some (.cells #[.bool x, .slice y a b] T (0, 0))) (hn : n ≤ 250) (hg : w.grownBy w1 none) (hG : w.heap.size ≤ G) :
    RiPost w l (.returned (.tuple #[.agg #[.bool g, .slice p n c], .int .i64 0])) ((w1.setCell ⟨G, 0, none⟩ (.bool g)).setCell ⟨G, 1, none⟩ (.slice p n c)) := by
  have h56 : w1.grownBy ((w1.setCell ⟨G, 0, none⟩ (.bool g)).setCell ⟨G, 1, none⟩ (.slice p n c)) (some G) := grown_trans (grown_setCell _ _ _) (grown_setCell _ ⟨G, 1, none⟩ _)
  exact ⟨g, p, n, c, by rw [h]; rfl, ⟨IRd.other hI.1 hb (fun j z => two_cells x y a b j _ z) h56, hI.2⟩, hn, grown_new hg h56 (fun g e => by cases e; exact hG)⟩

theorem prefix_minus (l : List UInt8) : Lib.hasPrefix l [45] = decide (l.head? = some 45) := by
  cases l with
  | nil => rfl
  | cons c r =>
    by_cases h : c = 45
    · subst h; rfl
    · have h' : (45 == c) = false := by simp; exact fun e => h e.symm
      have h2 : decide ((c :: r).head? = some 45) = false := decide_eq_false (by simpa using h)
      rw [h2]
      simp [Lib.hasPrefix, List.isPrefixOf, h']
theorem trim_minus (l : List UInt8) : Lib.trimPrefix l [45] = riT l := by
  unfold Lib.trimPrefix riT
  rw [prefix_minus]
  by_cases h : l.head? = some 45
  · rw [decide_eq_true h, if_pos h]; simp
  · rw [decide_eq_false h, if_neg h]; rfl
theorem cutMinus_any (s : ByteArray) (l : List UInt8) (hl : s.data.toList = l) (w : World) :
    Calls Tryz.prog 51 #[.string s, .string ⟨#[45]⟩] w fun e w' => e = .returned (.tuple #[str (riT l), .bool (decide (l.head? = some 45))]) ∧ w = w' := by
  subst hl
  exact (cutPrefix_sh s ⟨#[45]⟩ w).mono fun e w' ⟨he, hw⟩ => by
    rw [show (⟨#[45]⟩ : ByteArray).data.toList = [45] from rfl, prefix_minus, trim_minus] at he
    exact ⟨he, hw.symm⟩

set_option maxHeartbeats 2000000 in
theorem intRead_any (s : ByteArray) (l : List UInt8) (hl : s.data.toList = l) (hmax : s.size ≤ 9223372036854775807) (w : World) :
    Calls Tryz.prog 21 #[.string s] w (RiPost w l) := by
  have hsz : (riT l).length ≤ 9223372036854775807 := by
    have h1 : s.size = l.length := by rw [Lib.size_eq, hl]
    have h2 : (riT l).length ≤ l.length := by unfold riT; split <;> simp
    omega
  have hgA := World.grownBy_alloc w (.cells #[.bool false, .slice none 0 0] 25) none
  have HC := hid (cutMinus_any s l hl)
  have hR := fun W => natRead_any ⟨(riT l).toArray⟩ (riT l) rfl (by rw [Lib.size_eq]; exact hsz) W
  unfold RdPost at hR
  have hE : riE l = if rdE (riT l) ≠ 0 then rdE (riT l) else if l.head? = some 45 ∧ rdV (riT l) = 0 then 9 else 0 := rfl
  have hV : riE l = 0 → riV l = sg (decide (l.head? = some 45)) (rdV (riT l)) := fun h => if_pos h
  generalize rdE (riT l) = E at *
  generalize rdV (riT l) = N at *
  generalize riT l = t at *
  have HR := hid hR
  have HE := hid (And.intro hE hV)
  clear hR hE hV hsz
  go_enter Tryz.func21, Tryz.ntmps21
  go_wp2_with fail
  refine (HC.out _).mono ?_
  rintro e w0 ⟨rfl, rfl⟩
  go_wp2_with fail
  refine (HR.out _).mono ?_
  rintro e w1 ⟨p, n, c, rfl, h1, hn, hg⟩
  have hc := gcell hg
  have hf := gfree hg
  have hz := hg.size
  simp at hz
  have hb1 : w1.heap[w.heap.size]? = some (.cells #[.bool false, .slice none 0 0] 25 (0, 0)) := (hg.block _ (by simp) (by simp)).trans (heap_alloc_new w _)
  have hgw := grown_trans hgA hg
  have HP := hid (fun k (h : riE l = k) hk => ri_bad (G := w.heap.size) h hk hgw (Nat.le_refl _))
  by_cases hE0 : E = 0
  rotate_left
  · have hE1 : ((E : Int) != 0) = true := by simp; omega
    have HQ := hid (HP.out E (by rw [HE.out.1, if_pos hE0]) hE0)
    clear hE0 hb1 h1
    go_wp2_with fail
    exact bodyPost_ret (v := .tuple #[.agg #[.bool false, .slice none 0 0], .int .i64 (E : Int)]) (by simp [results, Tryz.results21, go_sem, hc]) rfl HQ.out
  subst hE0
  have hlen := h1.zlen
  by_cases hbad : l.head? = some 45 ∧ N = 0
  · have HQ := hid (HP.out 9 (by rw [HE.out.1, if_neg (by simp), if_pos hbad]) (by omega))
    obtain ⟨hb, hN⟩ := hbad
    have hn0 : n = 0 := by omega
    subst hn0
    rw [decide_eq_true hb]
    clear h1 hb1 hlen hb hN
    go_wp2_with fail
    exact bodyPost_ret (v := .tuple #[.agg #[.bool false, .slice none 0 0], .int .i64 9]) (by simp [results, Tryz.results21, go_sem, hc]) rfl HQ.out
  · have hok : riE l = 0 := by rw [HE.out.1, if_neg (by simp), if_neg hbad]
    have hv := HE.out.2 hok
    have hsplit : (decide (l.head? = some 45) = false) ∨ (decide (l.head? = some 45) = true ∧ ((n : Int) == 0) = false) := by
      by_cases hb : l.head? = some 45
      · refine .inr ⟨decide_eq_true hb, ?_⟩
        have : N ≠ 0 := fun h => hbad ⟨hb, h⟩
        simp; omega
      · exact .inl (decide_eq_false hb)
    have hS := fun g => signed_any h1 g
    unfold SPost at hS
    generalize decide (l.head? = some 45) = b at *
    have HS := hid hS
    have HV := hid hv
    have HO := hid hok
    clear hS hv hok hbad h1 hlen
    rcases hsplit with rfl | ⟨rfl, hn0⟩
    all_goals
      go_wp2_with fail
      refine (HS.out _).mono ?_
      rintro e w2 ⟨g2, rfl, h2, hg2⟩
      have hc2 := gcell (grown_trans hg hg2)
      have hf2 := gfree (grown_trans hg hg2)
      have hz2 := hg2.size
      have hb2 := (hg2.block _ (lt_of_block hb1) (by simp)).trans hb1
      rw [← HV.out] at h2
      have HQ := hid (ri_ok (w := w) HO.out h2 hb2 hn (grown_trans hgw hg2) (Nat.le_refl _))
      clear h2 hb1 hb2 hc hf
      go_wp2_with fail
      exact bodyPost_ret (v := .tuple #[.agg #[.bool g2, .slice p n c], .int .i64 0]) (by simp [results, Tryz.results21, go_sem, hc2]) rfl HQ.out

theorem rRead_any (s : ByteArray) (l : List UInt8) (hl : s.data.toList = l) (hmax : s.size ≤ 9223372036854775807) (w : World) :
    Calls Tryz.prog 25 #[.string s] w (RiPost w l) := by
  have hsz : s.size = l.length := by rw [Lib.size_eq, hl]
  have hgA := World.grownBy_alloc w (.cells #[.bool false, .slice none 0 0] 25) none
  have hE : riE l = if rdE (riT l) ≠ 0 then rdE (riT l) else if l.head? = some 45 ∧ rdV (riT l) = 0 then 9 else 0 := rfl
  have hV : riE l = 0 → riV l = sg (decide (l.head? = some 45)) (rdV (riT l)) := fun h => if_pos h
  by_cases hb : l.head? = some 45
  · have hpos : 0 < l.length := by
      rcases Nat.eq_zero_or_pos l.length with h | h
      · rw [List.eq_nil_of_length_eq_zero h] at hb; simp at hb
      · exact h
    have hpos' : (0 : Int) < (s.size : Int) := by omega
    have h0 : l[0] = 45 := by
      rw [List.head?_eq_getElem?, List.getElem?_eq_getElem hpos] at hb
      simpa using hb
    have hix0 := idx_str s l hl 0 hpos
    rw [h0] at hix0
    have hix : ∀ w, (Instr.index 9 (.string s) (.int .i64 0)).run Tryz.prog w = .ok (.int .u8 45) w := hix0
    have ht : riT l = l.tail := if_pos hb
    have hx : s.extract 1 s.size = ⟨(riT l).toArray⟩ := by
      rw [Lib.extract_eq, hl, List.take_of_length_le (by rw [List.length_drop]; omega), ht, List.drop_one]
    have h1s : (1 : Int) ≤ (s.size : Int) := by omega
    have hR := fun W => refRead_any ⟨(riT l).toArray⟩ (riT l) rfl (by rw [Lib.size_eq, ht]; show l.tail.length ≤ _; simp; omega) W
    unfold RdPost at hR
    have hcond : ∀ N, (l.head? = some 45 ∧ N = 0) ↔ N = 0 := fun N => ⟨fun h => h.2, fun h => ⟨hb, h⟩⟩
    rw [decide_eq_true hb] at hV
    have HCN := hid hcond
    generalize rdE (riT l) = E at *
    generalize rdV (riT l) = N at *
    generalize riT l = t at *
    have HR := hid hR
    have HE := hid (And.intro hE hV)
    clear hR hE hV hcond ht hix0 h0 hpos hb hsz hl
    go_enter Tryz.func25, Tryz.ntmps25
    go_wp2_with fail
    refine (HR.out _).mono ?_
    rintro e w1 ⟨p, n, c, rfl, h1, hn, hg⟩
    have hc := gcell hg
    have hf := gfree hg
    have hz := hg.size
    simp at hz
    have hb1 : w1.heap[w.heap.size]? = some (.cells #[.bool false, .slice none 0 0] 25 (0, 0)) := (hg.block _ (by simp) (by simp)).trans (heap_alloc_new w _)
    have hgw := grown_trans hgA hg
    have HP := hid (fun k (h : riE l = k) hk => ri_bad (G := w.heap.size) h hk hgw (Nat.le_refl _))
    by_cases hE0 : E = 0
    rotate_left
    · have hE1 : ((E : Int) != 0) = true := by simp; omega
      have HQ := hid (HP.out E (by rw [HE.out.1, if_pos hE0]) hE0)
      clear hE0 hb1 h1
      go_wp2_with fail
      exact bodyPost_ret (v := .tuple #[.agg #[.bool false, .slice none 0 0], .int .i64 (E : Int)]) (by simp [results, Tryz.results25, go_sem, hc]) rfl HQ.out
    subst hE0
    have hlen := h1.zlen
    by_cases hbad : N = 0
    · have HQ := hid (HP.out 9 (by rw [HE.out.1, if_neg (by simp), if_pos ((HCN.out N).2 hbad)]) (by omega))
      have hn0 : n = 0 := by omega
      subst hn0
      clear h1 hb1 hlen hbad
      go_wp2_with fail
      exact bodyPost_ret (v := .tuple #[.agg #[.bool false, .slice none 0 0], .int .i64 9]) (by simp [results, Tryz.results25, go_sem, hc]) rfl HQ.out
    have hok : riE l = 0 := by rw [HE.out.1, if_neg (by simp), if_neg (fun h => hbad ((HCN.out N).1 h))]
    have hn0 : ((n : Int) == 0) = false := by simp; omega
    clear hbad
    have hS := rOf_any true h1.isN (by omega)
    unfold IPost at hS
    have HS := hid hS
    have HV := hid (HE.out.2 hok)
    have HO := hid hok
    clear hS hok h1 hlen
    go_wp2_with fail
    refine (HS.out).mono ?_
    rintro e w2 ⟨g2, p2, n2, c2, rfl, h2, hn2, hg2⟩
    have hc2 := gcell (grown_trans hg hg2)
    have hf2 := gfree (grown_trans hg hg2)
    have hz2 := hg2.size
    have hb2 := (hg2.block _ (lt_of_block hb1) (by simp)).trans hb1
    rw [← HV.out] at h2
    have HQ := hid (ri_ok (w := w) HO.out h2 hb2 (by omega) (grown_trans hgw hg2) (Nat.le_refl _))
    clear h2 hb1 hb2 hc hf
    go_wp2_with fail
    exact bodyPost_ret (v := .tuple #[.agg #[.bool g2, .slice p2 n2 c2], .int .i64 0]) (by simp [results, Tryz.results25, go_sem, hc2]) rfl HQ.out
  · have ht : riT l = l := if_neg hb
    have hR := fun W => refRead_any s (riT l) (by rw [ht]; exact hl) hmax W
    unfold RdPost at hR
    have hcond : ∀ N, ¬ (l.head? = some 45 ∧ N = 0) := fun N h => hb h.1
    rw [decide_eq_false hb] at hV
    have HCN := hid hcond
    have hsplit : (¬ ((0 : Int) < (s.size : Int))) ∨ (((0 : Int) < (s.size : Int)) ∧ ∃ v : Nat, (∀ w, (Instr.index 9 (.string s) (.int .i64 0)).run Tryz.prog w = .ok (.int .u8 (v : Int)) w) ∧ ((v : Int) == 45) = false) := by
      rcases Nat.eq_zero_or_pos l.length with h | h
      · exact .inl (by omega)
      · refine .inr ⟨by omega, l[0].toNat, idx_str s l hl 0 h, ?_⟩
        rw [List.head?_eq_getElem?, List.getElem?_eq_getElem h] at hb
        simp only [Option.some.injEq] at hb
        simp
        intro e
        exact hb (UInt8.toNat_inj.1 (show l[0].toNat = 45 by omega))
    generalize rdE (riT l) = E at *
    generalize rdV (riT l) = N at *
    generalize riT l = t at *
    have HR := hid hR
    have HE := hid (And.intro hE hV)
    clear hR hE hV hcond ht hb hl hsz hmax
    rcases hsplit with hpos | ⟨hpos, v, hix, hv45⟩
    all_goals
      go_enter Tryz.func25, Tryz.ntmps25
      go_wp2_with fail
      refine (HR.out _).mono ?_
      rintro e w1 ⟨p, n, c, rfl, h1, hn, hg⟩
      have hc := gcell hg
      have hf := gfree hg
      have hz := hg.size
      simp at hz
      have hb1 : w1.heap[w.heap.size]? = some (.cells #[.bool false, .slice none 0 0] 25 (0, 0)) := (hg.block _ (by simp) (by simp)).trans (heap_alloc_new w _)
      have hgw := grown_trans hgA hg
      have HP := hid (fun k (h : riE l = k) hk => ri_bad (G := w.heap.size) h hk hgw (Nat.le_refl _))
      by_cases hE0 : E = 0
      rotate_left
      · have hE1 : ((E : Int) != 0) = true := by simp; omega
        have HQ := hid (HP.out E (by rw [HE.out.1, if_pos hE0]) hE0)
        clear hE0 hb1 h1
        go_wp2_with fail
        exact bodyPost_ret (v := .tuple #[.agg #[.bool false, .slice none 0 0], .int .i64 (E : Int)]) (by simp [results, Tryz.results25, go_sem, hc]) rfl HQ.out
      subst hE0
      have hlen := h1.zlen
      have hok : riE l = 0 := by rw [HE.out.1, if_neg (by simp), if_neg (HCN.out N)]
      have hS := rOf_any false h1.isN (by omega)
      unfold IPost at hS
      have HS := hid hS
      have HV := hid (HE.out.2 hok)
      have HO := hid hok
      clear hS hok h1 hlen
      go_wp2_with fail
      refine (HS.out).mono ?_
      rintro e w2 ⟨g2, p2, n2, c2, rfl, h2, hn2, hg2⟩
      have hc2 := gcell (grown_trans hg hg2)
      have hf2 := gfree (grown_trans hg hg2)
      have hz2 := hg2.size
      have hb2 := (hg2.block _ (lt_of_block hb1) (by simp)).trans hb1
      rw [← HV.out] at h2
      have HQ := hid (ri_ok (w := w) HO.out h2 hb2 (by omega) (grown_trans hgw hg2) (Nat.le_refl _))
      clear h2 hb1 hb2 hc hf
      go_wp2_with fail
      exact bodyPost_ret (v := .tuple #[.agg #[.bool g2, .slice p2 n2 c2], .int .i64 0]) (by simp [results, Tryz.results25, go_sem, hc2]) rfl HQ.out

end Go.Proofs.YtkggoniecmlglaaGreatDoor
