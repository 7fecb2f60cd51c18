/-
  Contract of natural.Gcd: the greatest common divisor of any numbers, where the table of package math/bits holds what its initialiser lays.
-/
import Derived.Test.YtdgcmbpmjcfhpaaGreatDoorWg
import Derived.Test.YtdgcmbpmjcfhpaaGreatDoorDivN
set_option linter.unusedVariables false
set_option linter.unusedSimpArgs false
namespace Go.Proofs.YtdgcmbpmjcfhpaaGreatDoor
open Go.RowKit Nm

/-- a call returns the valid Nat of G -/
def NPost (w : World) (G : Nat) (e : Ending) (w' : World) : Prop := ∃ p c, e = .returned (.slice p (dg 65536 G).length c) ∧ IRd w' .u16 p (dg 65536 G).length c (dg 65536 G) ∧ w.grownBy w' none

theorem Tb.lt {w : World} (h : Tb w) : 0 < w.heap.size := World.block_lt_of_cell? _ _ (h 0 (by omega))
/-- the two numbers in their order -/
structure Gs (w : World) (p q : Option Addr) (n c m d : Nat) (us vs : List Nat) (G : Nat) : Prop where
  rx : IRd w .u16 p n c us
  ry : IRd w .u16 q m d vs
  cx : Nm.Can 65536 us
  cy : Nm.Can 65536 vs
  le : V 65536 vs ≤ V 65536 us
  gcd : Nat.gcd (V 65536 us) (V 65536 vs) = G
  hn : n ≤ 800000

set_option maxHeartbeats 4000000 in
theorem natGcd_any (a b : Option Addr) (n m c d : Nat) (xs ys : List Nat) (w : World) (hT : Tb w) (h : IRd w .u16 a n c xs) (k : IRd w .u16 b m d ys) (hx : Dg 65536 xs) (hy : Dg 65536 ys) (hn : n ≤ 800000) (hm : m ≤ 800000) :
    Calls Tryz.prog 63 #[.slice a n c, .slice b m d] w (NPost w (Nat.gcd (V 65536 xs) (V 65536 ys))) := by
  have ht := h.take (trimR xs).length (by rw [← h.len]; exact trimR_length_le xs)
  have kt := k.take (trimR ys).length (by rw [← k.len]; exact trimR_length_le ys)
  rw [← trimR_eq_take] at ht kt
  have hcx := Can_trimR hx
  have hcy := Can_trimR hy
  have hvx := V_trimR (B := 65536) xs
  have hvy := V_trimR (B := 65536) ys
  have hnl : (trimR xs).length ≤ n := by rw [← h.len]; exact trimR_length_le xs
  have hml : (trimR ys).length ≤ m := by rw [← k.len]; exact trimR_length_le ys
  have R1 := hid (trim16 a n c xs w h)
  have R2 := hid (trim16 b m d ys w k)
  rw [← hvx, ← hvy]
  generalize trimR xs = us at *
  generalize trimR ys = vs at *
  have hnl8 : us.length ≤ 800000 := by omega
  have hml8 : vs.length ≤ 800000 := by omega
  clear hvx hvy h k hnl hml hx hy
  have R3 := natCmp_any a b us.length vs.length c d us vs w ht kt hcx.1 hcy.1
  have A1 : ∀ wc, w.grownBy wc none → V 65536 vs ≤ V 65536 us → Gs wc a b us.length c vs.length d us vs (Nat.gcd (V 65536 us) (V 65536 vs)) := fun wc hg hle => ⟨ht.keep hg, kt.keep hg, hcx, hcy, hle, rfl, hnl8⟩
  have A2 : ∀ wc, w.grownBy wc none → V 65536 us ≤ V 65536 vs → Gs wc b a vs.length d us.length c vs us (Nat.gcd (V 65536 us) (V 65536 vs)) := fun wc hg hle => ⟨kt.keep hg, ht.keep hg, hcy, hcx, hle, Nat.gcd_comm _ _, hml8⟩
  generalize Nat.gcd (V 65536 us) (V 65536 vs) = G at *
  have HA1 := hid A1
  have HA2 := hid A2
  clear A1 A2 hcx hcy ht kt
  generalize us.length = lx at *
  generalize vs.length = ly at *
  have cut1 : Hid (∃ z : Int, cmpI (V 65536 us : Nat) (V 65536 vs : Nat) = z ∧ ((z < 0 ∧ V 65536 us ≤ V 65536 vs) ∨ (¬ z < 0 ∧ V 65536 vs ≤ V 65536 us))) := hid (by
    rcases Nat.lt_or_ge (V 65536 us) (V 65536 vs) with hl | hl
    · exact ⟨-1, cmpI_lt hl, .inl ⟨by omega, by omega⟩⟩
    · rcases Nat.eq_or_lt_of_le hl with he | hl2
      · exact ⟨0, by rw [he]; exact cmpI_eq _, .inr ⟨by omega, hl⟩⟩
      · exact ⟨1, cmpI_gt hl2, .inr ⟨by omega, hl⟩⟩)
  obtain ⟨z, hz, hcase⟩ := cut1.out
  rw [hz] at R3
  have HR3 := hid R3
  clear R3 hz cut1
  go_enter Tryz.func63, Tryz.ntmps63
  go_upto_if 13 with (first
    | (go_at_call 81; (with_reducible refine (R1.out).mono ?_); rintro e w' ⟨rfl, rfl⟩)
    | (go_at_call 81; (with_reducible refine (R2.out).mono ?_); rintro e w' ⟨rfl, rfl⟩)
    | (go_at_call 69; (with_reducible refine (HR3.out).mono ?_); rintro e w1 ⟨rfl, hg1⟩))
  go_cut [0, 1] from 14 to 15 (fun x y wc => ∃ (p q : Option Addr) (n c m d : Nat) (us vs : List Nat), x = .slice p n c ∧ y = .slice q m d ∧ Hid (Gs wc p q n c m d us vs G) ∧ w.grownBy wc none)
  case first =>
    rcases hcase with ⟨hz, hle⟩ | ⟨hz, hle⟩
    · have H := hid (HA2.out w1 hg1 hle)
      clear hle
      go_wp2_with fail
      go_meet
      exact ⟨_, _, _, _, _, _, _, _, rfl, rfl, H, hg1⟩
    · have H := hid (HA1.out w1 hg1 hle)
      clear hle
      go_wp2_with fail
      go_meet
      exact ⟨_, _, _, _, _, _, _, _, rfl, rfl, H, hg1⟩
  case rest =>
    obtain ⟨p, q, n, c, m, d, us, vs, rfl, rfl, HG, hgw⟩ := hcut
    clear HA1 HA2 HR3 R1 R2 hcase
    have hTc := hT.keep hgw
    have hn8 := HG.out.hn
    have hlu := HG.out.rx.len
    have hlv := HG.out.ry.len
    have hmn : m ≤ n := by
      rw [← hlu, ← hlv]
      refine Nat.le_of_not_lt fun hlt => ?_
      have := Nm.Can.lt_of_length (B := 65536) (by omega) HG.out.cx.1 HG.out.cy hlt
      have := HG.out.le
      omega
    have hcap := HG.out.rx.cap
    have hmax := HG.out.rx.max
    have kcap := HG.out.ry.cap
    have kmax := HG.out.ry.max
    have HLU := hid hlu
    have HLV := hid hlv
    clear hlu hlv
    rcases Nat.eq_zero_or_pos m with h0 | h0
    · subst h0
      have hv : vs = [] := List.eq_nil_of_length_eq_zero HLV.out
      have hG : V 65536 us = G := by have := HG.out.gcd; rw [hv] at this; simpa using this
      have e := eq_dg (by omega) HG.out.cx
      rw [hG] at e
      have HE := hid e
      clear e hG hv
      go_wp2_with (go_at_call 89; refine (clone_any _ _ _ us _ HG.out.rx (by omega)).mono ?_; rintro e w2 ⟨rfl, hr2, hg2⟩)
      go_ret
      have hrd := hr2.rd0 (by rw [HLU.out]; omega)
      have hl : (dg 65536 G).length = n := by rw [← HE.out]; exact HLU.out
      exact ⟨_, n, by rw [hl]; rfl, by rw [hl, ← HE.out]; rwa [HLU.out] at hrd, grown_trans hgw hg2⟩
    have m0 : ((m : Int) == 0) = false := by simp; omega
    have hvpos : 0 < V 65536 vs := HG.out.cy.pos (by omega) (fun e => by have := HLV.out; rw [e] at this; simp at this; omega)
    by_cases h4 : n ≤ 4
    · have n4 : (n : Int) ≤ 4 := by omega
      have hxb : V 65536 us < W64 := by rw [W64_eq]; exact V_word HG.out.cx.1 4 (by rw [HLU.out]; exact h4)
      have hyb : V 65536 vs < W64 := by rw [W64_eq]; exact V_word HG.out.cy.1 4 (by rw [HLV.out]; omega)
      have W1 := word_any p n c us wc HG.out.rx HG.out.cx.1 h4
      have W2 := word_any q m d vs wc HG.out.ry HG.out.cy.1 (by omega)
      have W3 := wordGcd_any (V 65536 us) (V 65536 vs) hxb hyb wc hTc
      have hgg := HG.out.gcd
      rw [hgg] at W3
      have hGb : G < W64 := by rw [← hgg]; exact Nat.lt_of_le_of_lt (Nat.gcd_le_right _ hvpos) hyb
      generalize V 65536 us = X at *
      generalize V 65536 vs = Y at *
      have K1 := hid W1
      have K2 := hid W2
      have K3 := hid W3
      clear W1 W2 W3 hgg hxb hyb hvpos
      have HGB := hid hGb
      clear hGb
      go_wp2_with (first
        | (go_at_call 91; (with_reducible refine (K1.out).mono ?_); rintro e w' ⟨rfl, rfl⟩)
        | (go_at_call 91; (with_reducible refine (K2.out).mono ?_); rintro e w' ⟨rfl, rfl⟩)
        | (go_at_call 90; (with_reducible refine (K3.out).mono ?_); rintro e w' ⟨rfl, rfl⟩)
        | (go_at_call 66; (with_reducible refine (of_at _ G rfl HGB.out _).mono ?_); rintro e w4 ⟨p2, c2, rfl, hr4, hg4⟩))
      go_ret
      exact ⟨p2, c2, rfl, hr4, grown_trans hgw hg4⟩
    · have n4 : ¬ (n : Int) ≤ 4 := by omega
      by_cases h5 : m ≤ 4
      · have m4 : (m : Int) ≤ 4 := by omega
        have hyb : V 65536 vs < W64 := by rw [W64_eq]; exact V_word HG.out.cy.1 4 (by rw [HLV.out]; omega)
        have K1 := hid (word_any q m d vs wc HG.out.ry HG.out.cy.1 h5)
        have K2 := hid (pack_any p n c us wc HG.out.rx HG.out.cx.1 (by omega))
        generalize hyv : V 65536 vs = Y at *
        have HY := hid hyv
        clear hyv
        go_wp2_with (first
          | (go_at_call 91; (with_reducible refine (K1.out).mono ?_); rintro e w' ⟨rfl, rfl⟩)
          | (go_at_call 93; (with_reducible refine (K2.out).mono ?_); rintro e w1 ⟨L, zs, rfl, hr1, HZ, hg1⟩))
        have hLz := HZ.out.2.1
        have hLb : L ≤ 250000 := by have := HZ.out.1; omega
        have hVz : V W64 (zs.take L) = V 65536 us := by rw [List.take_of_length_le (by rw [hLz]; exact Nat.le_refl _)]; exact HZ.out.2.2.1
        have D1 := divW_any wc.heap.size L L zs Y w1 hr1 (by omega) (Nat.le_refl _) (by omega) (by omega) HZ.out.2.2.2 hvpos hyb
        rw [hVz] at D1
        have hrb : V 65536 us % Y < W64 := Nat.lt_trans (Nat.mod_lt _ hvpos) hyb
        have hgg : Nat.gcd Y (V 65536 us % Y) = G := by
          rw [Nat.gcd_comm, ← Nat.gcd_rec, Nat.gcd_comm, ← HY.out]; exact HG.out.gcd
        have hGb : G < W64 := by rw [← hgg]; exact Nat.lt_of_le_of_lt (Nat.gcd_le_left _ hvpos) hyb
        have G1 : ∀ w2, w1.grownBy w2 (some wc.heap.size) → wc.grownBy w2 none := fun w2 hg2 => grown_new hg1 hg2 (fun g' e' => by cases e'; exact Nat.le_refl _)
        have W3 : ∀ w2, wc.grownBy w2 none → Calls Tryz.prog 90 #[.int .u64 Y, .int .u64 (V 65536 us % Y : Nat)] w2 fun e w' => e = .returned (.int .u64 G) ∧ w2 = w' := fun w2 hg2 => by
          have := wordGcd_any Y (V 65536 us % Y) hyb hrb w2 (hTc.keep hg2)
          rwa [hgg] at this
        generalize V 65536 us % Y = R at *
        have HD1 := hid D1
        have HG1 := hid G1
        have HW3 := hid W3
        have HGB := hid hGb
        clear D1 G1 W3 hGb hgg hrb hVz hLz hyb hvpos hr1
        go_wp2_with fail
        refine HD1.out.mono ?_
        rintro e w2 ⟨cu, rfl, _, hg2, _⟩
        have hg2' := HG1.out w2 hg2
        have HW4 := hid (HW3.out w2 hg2')
        clear HW3 HD1 HG1
        go_wp2_with fail
        refine HW4.out.mono ?_
        rintro e w' ⟨rfl, rfl⟩
        go_wp2_with fail
        refine (of_at _ G rfl HGB.out _).mono ?_
        rintro e w4 ⟨p2, c2, rfl, hr4, hg4⟩
        go_wp2_with fail
        go_ret
        exact ⟨p2, c2, rfl, hr4, grown_trans hgw (grown_trans hg2' hg4)⟩
      · have m4 : ¬ (m : Int) ≤ 4 := by omega
        have K1 := hid (pack_any p n c us wc HG.out.rx HG.out.cx.1 (by omega))
        have K2 := hid (fun w1 (hg1 : wc.grownBy w1 none) => pack_any q m d vs w1 (HG.out.ry.keep hg1) HG.out.cy.1 (by omega))
        go_wp2_with fail
        refine K1.out.mono ?_
        rintro e w1 ⟨L, zs, rfl, hr1, HZ, hg1⟩
        go_wp2_with fail
        refine (K2.out w1 hg1).mono ?_
        rintro e w2 ⟨M, ws, rfl, hr2, HWS, hg2⟩
        have hTl := hTc.lt
        have hrd2 := hr2.rd0 (by have := HWS.out.1; have := HWS.out.2.1; omega)
        rw [HWS.out.2.1] at hrd2
        have WGC := wordsGcd_any wc.heap.size L M M (some ⟨w1.heap.size, 0, none⟩) zs ws w2 ((hTc.keep hg1).keep hg2) (by omega) (hr1.kept hg2 (by simp)) HZ.out.2.1 hrd2 (by have := HZ.out.1; have := HWS.out.1; omega) (by have := HZ.out.1; omega) HZ.out.2.2.2 HWS.out.2.2.2
          (by rw [HZ.out.2.2.1, HWS.out.2.2.1]; exact HG.out.le)
        rw [HZ.out.2.2.1, HWS.out.2.2.1, HG.out.gcd] at WGC
        have HWG := hid WGC
        have hg12 := grown_trans hg1 hg2
        clear WGC hrd2 hr1 hr2 hvpos hTl K1 K2
        go_wp2_with fail
        refine HWG.out.mono ?_
        rintro e w3 ⟨p3, n3, c3, ls, rfl, hr3, hn3, HL, hg3⟩
        have hg3' : wc.grownBy w3 none := grown_new hg12 hg3 (fun g' e' => by cases e'; exact Nat.le_refl _)
        have U := unpack_any p3 n3 c3 ls w3 hr3 HL.out.1 (by omega)
        rw [HL.out.2] at U
        have HU := hid U
        clear U hr3
        go_wp2_with fail
        refine HU.out.mono ?_
        rintro e w4 ⟨p4, c4, rfl, hr4, hg4⟩
        go_wp2_with fail
        go_ret
        exact ⟨p4, c4, rfl, hr4, grown_trans hgw (grown_trans hg3' hg4)⟩

section
variable {w w' : World} {p q : Option Addr} {n c m d N M : Nat}
theorem natGcd_n (hT : Tb w) (hA : IsN w p n c N) (hB : IsN w q m d M) (hn : n ≤ 800000) (hm : m ≤ 800000) :
    Calls Tryz.prog 63 #[.slice p n c, .slice q m d] w fun e w' => ∃ p' n' c', e = .returned (.slice p' n' c') ∧ IsC w' p' n' c' (Nat.gcd N M) ∧ n' ≤ max n m ∧ w.grownBy w' none := by
  have lA := hA.lt
  have lB := hB.lt
  obtain ⟨L, h1, h2, rfl⟩ := hA
  obtain ⟨K, k1, k2, rfl⟩ := hB
  refine (natGcd_any p q n m c d L K w hT h1 k1 h2 k2 hn hm).mono fun e w' ⟨p', c', he, g1, hg⟩ => ⟨p', _, c', he, g1, ?_, hg⟩
  refine dg_length_le (by omega) ?_
  rcases Nat.eq_zero_or_pos (V 65536 L) with h0 | h0
  · rw [h0, Nat.gcd_zero_left]; exact Nat.lt_of_lt_of_le lB (Nat.pow_le_pow_right (by omega) (by omega))
  · exact Nat.lt_of_le_of_lt (Nat.gcd_le_left _ h0) (Nat.lt_of_lt_of_le lA (Nat.pow_le_pow_right (by omega) (by omega)))
end
end Go.Proofs.YtdgcmbpmjcfhpaaGreatDoor
