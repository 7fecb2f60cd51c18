/-
  Contract of the reference's Text: the decimal numeral.
-/
import Derived.Test.YtdnafpdaoancbaaDoorTxt
import Derived.Test.YtdnafpdaoancbaaDoorRefDiv
import Derived.Deep.LoopGhost
import Derived.Laws.IdiomStrings
set_option linter.unusedVariables false
set_option linter.unusedSimpArgs false
namespace Go.Proofs.YtdnafpdaoancbaaDoor
open Go.RowKit _root_.Nm

theorem IsC.zlen {w : World} {p : Option Addr} {n c N : Nat} (h : IsC w p n c N) : (n = 0 ∧ N = 0) ∨ (0 < n ∧ 0 < N) := by
  have hl := h.len
  rcases Nat.eq_zero_or_pos N with h0 | h0
  · subst h0
    rw [dg_zero] at hl
    exact .inl ⟨by simpa using hl.symm, rfl⟩
  · refine .inr ⟨?_, h0⟩
    rcases Nat.eq_zero_or_pos n with h1 | h1
    · have e := V_dg (B := 65536) (by omega) N
      rw [List.eq_nil_of_length_eq_zero (hl.trans h1)] at e
      simp at e; omega
    · exact h1

theorem conv_one (w : World) (d : Nat) (hd : d < 10) : (convert 64 9 (.slice (some ⟨w.heap.size, 0, none⟩) 1 1)).run Tryd.prog (w.alloc (.cells #[.int .u8 (48 + (d : Int))] 5)) = .ok (str [dgc d]) (w.alloc (.cells #[.int .u8 (48 + (d : Int))] 5)) := by
  have h := run_convert_bytes_back (P := Tryd.prog) (w.alloc (.cells #[.int .u8 (48 + (d : Int))] 5)) 64 9 5 ⟨w.heap.size, 0, none⟩ 1 [dgc d] (by kernel_rfl) (by kernel_rfl) (by kernel_rfl) (fun j hj => by
    have : j = 0 := by simpa using hj
    subst this
    rw [show (⟨w.heap.size, 0, none⟩ : Addr).add 0 = ⟨w.heap.size, 0, none⟩ from rfl, World.cell?_alloc_new]
    simp [dgc_toNat hd])
  exact h

set_option maxHeartbeats 4000000 in
set_option maxRecDepth 100000 in
theorem refText_n {w : World} {a : Option Addr} {n c N : Nat} (hA : IsN w a n c N) (hn : n ≤ 40000) :
    Calls Tryd.prog 18 #[.slice a n c] w fun e w' => e = .returned (str (Lib.decDigits N)) ∧ w.grownBy w' none := by
  have hlen : (dd N).length ≤ 200000 := Nat.le_trans (dd_limbs hA.lt) (by omega)
  have HLEN := hid hlen
  clear hlen
  go_enter Tryd.func18, Tryd.ntmps18
  go_wp2_with fail
  refine (refNorm_n hA (by omega)).mono ?_
  rintro e w1 ⟨p1, n1, c1, rfl, hA1, hn1, hg1⟩
  rcases hA1.zlen with ⟨rfl, rfl⟩ | ⟨h1, h2⟩
  · clear hA1
    go_wp2_with fail
    go_ret
    exact ⟨by rw [dec_one (by omega)]; rfl, hg1⟩
  · have h1' : ((n1 : Int) == 0) = false := beq_eq_false_iff_ne.2 (by omega)
    have HPOS := hid h2
    clear h2
    go_wp2_with fail
    go_loopg [0, 3] N (fun j x y wr => ∃ (p : Option Addr) (n c : Nat) (ds : List UInt8), x = .slice p n c ∧ y = str ds ∧ IsC wr p n c j ∧ n ≤ 40000 ∧ w.grownBy wr none ∧ Hid (dd N = dd j ++ ds))
    case atStart => exact ⟨p1, n1, c1, [], rfl, rfl, hA1, by omega, hg1, hid (by simp)⟩
    case round =>
      clear hA1 hg1 h1 h1' hn1
      obtain ⟨p, n, c, ds, rfl, rfl, hC, hn, hW, HI⟩ := hrel
      rcases hC.zlen with ⟨rfl, rfl⟩ | ⟨h1, h2⟩
      · clear hC
        go_wp2_with fail
        go_ret
        have := HI.out
        rw [dd_zero, List.nil_append, dd_pos HPOS.out] at this
        exact ⟨by rw [this]; rfl, hW⟩
      · have h1' : (0 : Int) < (n : Int) := by omega
        have H2 := hid h2
        clear h2
        go_wp2_with fail
        refine (refOf_c 10 (by decide) _).mono ?_
        rintro e w2 ⟨p2, n2, c2, rfl, hT, hn2, hg2⟩
        go_wp2_with fail
        refine (refDivMod_n (hC.keep hg2).isN hT.isN (by omega) (by omega) (by omega)).mono ?_
        rintro e w3 ⟨p3, n3, c3, p4, n4, c4, rfl, hQ, hR, hn3, hn4, hg3⟩
        obtain ⟨d, hd⟩ : ∃ d, d = gk % 10 := ⟨_, rfl⟩
        rw [← hd] at hR
        have hd10 : d < 10 := by omega
        have hW3 := grown_trans hW (grown_trans hg2 hg3)
        have hS := refShort_any p4 n4 c4 _ w3 hR (Can_dg (by omega) d).1 (by
          have := hR.len
          have := dg_length_le (B := 65536) (n := d) (k := 1) (by omega) (by omega)
          omega)
        rw [V_dg (by omega)] at hS
        have HS := hid hS
        have HD := hid hd
        have hcv := conv_one w3 d hd10
        have hdl : ds.length ≤ 200000 := by
          have h1 := congrArg List.length HI.out
          have h2 := HLEN.out
          rw [List.length_append] at h1; omega
        have hcat : ∀ w, (Op.stringOp .add ⟨[dgc d].toArray⟩ ⟨ds.toArray⟩).run Tryd.prog w = .ok (str (dgc d :: ds)) w := fun w => run_string_add_lists w [dgc d] ds (by simp) (by omega)
        have hnew : Hid (dd N = dd (gk / 10) ++ (dgc d :: ds)) := hid (by rw [HI.out, dd_step H2.out, ← hd, List.append_assoc]; rfl)
        clear hS hd hC hT hW hg2 hg3 HI
        go_wp2_with fail
        refine HS.out.mono ?_
        rintro e w4 ⟨rfl, rfl⟩
        have hg4 := World.grownBy_alloc w3 (.cells #[.int .u8 (48 + (d : Int))] 5) none
        have hQ4 := hQ.keep hg4
        have hW4 := grown_trans hW3 hg4
        have HQ := hid (And.intro hQ4 hW4)
        clear hQ4 hW4 hQ hg4 hR hW3 HS
        go_wp2_with fail
        go_roundg (gk / 10)
        case measure => have := H2.out; omega
        case rel => exact ⟨p3, n3, c3, dgc d :: ds, rfl, by first | rfl | simp, HQ.out.1, by omega, HQ.out.2, hnew⟩
end Go.Proofs.YtdnafpdaoancbaaDoor
