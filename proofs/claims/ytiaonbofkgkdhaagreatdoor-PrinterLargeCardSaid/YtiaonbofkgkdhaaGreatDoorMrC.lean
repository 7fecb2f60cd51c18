/-
  AcA AcB AcC AcD AcE AcF AcG, in one text.
-/
import Derived.Test.YtiaonbofkgkdhaaGreatDoorMrA
import Derived.Test.YtiaonbofkgkdhaaGreatDoorMrL
import Derived.Test.YtiaonbofkgkdhaaGreatDoorMrR
import Derived.Deep.RegionHeld3

set_option linter.unusedVariables false
set_option linter.unusedSimpArgs false
namespace Go.Proofs.YtiaonbofkgkdhaaGreatDoor
open Go.RowKit _root_.Nm Ax
/-- a kind is of a sort -/
def isB (k s : Int) : Bool := if s = 1 ∨ s = 2 ∨ s = 3 then decide (k = 1) || decide ((srt k : Int) = s) else decide (s = 4) && decide ((srt k : Int) = s)
def fitB (k s : Int) : Bool := if s = 0 then isB k 2 || isB k 3 else isB k s
def ratB (k : Int) : Bool := decide (k = 11) || decide (k = 68)
set_option maxHeartbeats 4000000 in
set_option maxRecDepth 100000 in
theorem isOf_any (k s : Int) (w : World) : Calls Tryz.prog 174 #[.int .i64 k, .int .i64 s] w fun e w' => e = .returned (.bool (isB k s)) ∧ w.grownBy w' none := by
  have HS := hid fun w => sort_any k w
  have hz : (1 : Int) ≠ 2 := by decide
  obtain ⟨q, hq⟩ : ∃ q : Nat, q = srt k := ⟨_, rfl⟩
  rw [← hq] at HS
  unfold isB
  rw [← hq]
  clear hq
  by_cases h1 : s = 1
  · subst h1
    by_cases hk : k = 1
    · subst hk
      go_enter Tryz.func174, Tryz.ntmps174
      go_wp2_with fail
      go_ret
      exact ⟨by simp, grown_refl _ _⟩
    · go_enter Tryz.func174, Tryz.ntmps174
      go_wp2_with (go_at_call 29; refine (HS.out _).mono ?_; rintro e w1 ⟨rfl, hg⟩)
      go_ret
      exact ⟨by simp [hk]; rfl, hg⟩
  by_cases h2 : s = 2
  · subst h2
    by_cases hk : k = 1
    · subst hk
      go_enter Tryz.func174, Tryz.ntmps174
      go_wp2_with fail
      go_ret
      exact ⟨by simp, grown_refl _ _⟩
    · go_enter Tryz.func174, Tryz.ntmps174
      go_wp2_with (go_at_call 29; refine (HS.out _).mono ?_; rintro e w1 ⟨rfl, hg⟩)
      go_ret
      exact ⟨by simp [hk]; rfl, hg⟩
  by_cases h3 : s = 3
  · subst h3
    by_cases hk : k = 1
    · subst hk
      go_enter Tryz.func174, Tryz.ntmps174
      go_wp2_with fail
      go_ret
      exact ⟨by simp, grown_refl _ _⟩
    · go_enter Tryz.func174, Tryz.ntmps174
      go_wp2_with (go_at_call 29; refine (HS.out _).mono ?_; rintro e w1 ⟨rfl, hg⟩)
      go_ret
      exact ⟨by simp [hk]; rfl, hg⟩
  by_cases h4 : s = 4
  · subst h4
    go_enter Tryz.func174, Tryz.ntmps174
    go_wp2_with (go_at_call 29; refine (HS.out _).mono ?_; rintro e w1 ⟨rfl, hg⟩)
    go_ret
    exact ⟨by simp; rfl, hg⟩
  · go_enter Tryz.func174, Tryz.ntmps174
    go_wp2_with fail
    go_ret
    exact ⟨by simp [h1, h2, h3, h4], grown_refl _ _⟩
set_option maxHeartbeats 4000000 in
set_option maxRecDepth 100000 in
theorem fits_any (k s : Int) (w : World) : Calls Tryz.prog 145 #[.int .i64 k, .int .i64 s] w fun e w' => e = .returned (.bool (fitB k s)) ∧ w.grownBy w' none := by
  obtain ⟨b2, hb2⟩ : ∃ b, b = isB k 2 := ⟨_, rfl⟩
  obtain ⟨b3, hb3⟩ : ∃ b, b = isB k 3 := ⟨_, rfl⟩
  obtain ⟨bs, hbs⟩ : ∃ b, b = isB k s := ⟨_, rfl⟩
  have H2 := hid fun w => isOf_any k 2 w
  have H3 := hid fun w => isOf_any k 3 w
  have HS := hid fun w => isOf_any k s w
  rw [← hb2] at H2
  rw [← hb3] at H3
  rw [← hbs] at HS
  unfold fitB
  rw [← hb2, ← hb3, ← hbs]
  clear hb2 hb3 hbs
  by_cases h0 : s = 0
  · subst h0
    cases b2
    all_goals
      go_enter Tryz.func145, Tryz.ntmps145
      go_wp2_with (first | (go_at_call 174; with_reducible refine (H2.out _).mono ?_; rintro e w1 ⟨rfl, hg1⟩) | (go_at_call 174; with_reducible refine (H3.out _).mono ?_; rintro e w2 ⟨rfl, hg2⟩))
      go_ret
      first | exact ⟨by simp, hg1⟩ | exact ⟨by simp, grown_trans hg1 hg2⟩
  · go_enter Tryz.func145, Tryz.ntmps145
    go_wp2_with (go_at_call 174; with_reducible refine (HS.out _).mono ?_; rintro e w1 ⟨rfl, hg⟩)
    go_ret
    exact ⟨by simp [h0], hg⟩
set_option maxHeartbeats 4000000 in
set_option maxRecDepth 100000 in
theorem hasRatio_any (k : Int) (w : World) : Calls Tryz.prog 175 #[.int .i64 k] w fun e w' => e = .returned (.bool (ratB k)) ∧ w.grownBy w' none := by
  unfold ratB
  by_cases h : k = 11
  · subst h
    go_enter Tryz.func175, Tryz.ntmps175
    go_wp2_with fail
    go_ret
    exact ⟨by simp, grown_refl _ _⟩
  · go_enter Tryz.func175, Tryz.ntmps175
    go_wp2_with fail
    go_ret
    exact ⟨by rw [show (k == 11) = false from by simpa using h]; simp [h]; rfl, grown_refl _ _⟩
set_option maxHeartbeats 4000000 in
set_option maxRecDepth 100000 in
theorem rHasRatio_any (k : Int) (w : World) : Calls Tryz.prog 68 #[.int .i64 k] w fun e w' => e = .returned (.bool (ratB k)) ∧ w.grownBy w' none := by
  unfold ratB
  by_cases h : k = 11
  · subst h
    go_enter Tryz.func68, Tryz.ntmps68
    go_wp2_with fail
    go_ret
    exact ⟨by simp, grown_refl _ _⟩
  · go_enter Tryz.func68, Tryz.ntmps68
    go_wp2_with fail
    go_ret
    exact ⟨by rw [show (k == 11) = false from by simpa using h]; simp [h]; rfl, grown_refl _ _⟩
end Go.Proofs.YtiaonbofkgkdhaaGreatDoor

set_option linter.unusedVariables false
set_option linter.unusedSimpArgs false
namespace Go.Proofs.YtiaonbofkgkdhaaGreatDoor
open Go.RowKit _root_.Nm Ax
theorem found_z {x : Int} {e : Ent} (he : e ∈ Ax.tab) (hx : ent x = some e) : (srt x = 0 → ((e.k : Nat) : Int) = 0) ∧ (srt x ≠ 0 → ((e.k : Nat) : Int) ≠ 0) := by
  have h1 : srt x = e.s := by unfold srt; rw [hx]
  have h2 := tab_good e he
  exact ⟨fun h => by omega, fun _ => by omega⟩
def RowZ (x : Int) (w : World) (e : Ending) (w' : World) : Prop := ∃ (z : Int) (p : Option Addr) (n c : Nat), e = .returned (.agg #[.int .i64 z, .int .i64 (srt x : Nat), .string ⟨(wrd x).toArray⟩, .slice p n c]) ∧ ((srt x = 0 → z = 0) ∧ (srt x ≠ 0 → z ≠ 0)) ∧ w.grownBy w' none
theorem RowZ.mk {x : Int} {w w1 : World} {z : Int} {s : Nat} {d : ByteArray} {p : Option Addr} {n c : Nat} (hs : srt x = s) (hd : (⟨(wrd x).toArray⟩ : ByteArray) = d) (hr : IRd w1 .i64 p n c (prm x)) (hf : ∀ a, p = some a → w.heap.size < a.block) (hg : w.grownBy w1 none) (hz : (srt x = 0 → z = 0) ∧ (srt x ≠ 0 → z ≠ 0)) :
    RowZ x w (.returned (.agg #[.int .i64 z, .int .i64 (s : Int), .string d, .slice p n c])) ((((w1.setCell ⟨w.heap.size, 0, none⟩ (.int .i64 z)).setCell ⟨w.heap.size, 1, none⟩ (.int .i64 (s : Int))).setCell ⟨w.heap.size, 2, none⟩ (.string d)).setCell ⟨w.heap.size, 3, none⟩ (.slice p n c)) := by
  subst hs hd
  exact ⟨z, p, n, c, rfl, hz, grown_new hg (set4g _ _ _ _ _ _) fun g e => by cases e; exact Nat.le_refl _⟩
set_option maxHeartbeats 8000000 in
set_option maxRecDepth 100000 in
theorem rfindz_any (x : Int) (w : World) : Calls Tryz.prog 64 #[.int .i64 x] w (RowZ x w) := by
  have HR := hid rows_any
  have HA := hid (World.grownBy_alloc w (.cells #[.int .i64 0, .int .i64 0, .string ⟨#[]⟩, .slice none 0 0] 102) none)
  have HB := hid (blk0 w (.cells #[.int .i64 0, .int .i64 0, .string ⟨#[]⟩, .slice none 0 0] 102))
  go_enter Tryz.func64, Tryz.ntmps64
  go_wp2_with (go_at_call 114; (with_reducible refine (HR.out _).mono ?_); rintro e w1 ⟨b, rfl, hb, hg1, hrw⟩; have HRW := hid hrw; clear hrw)
  have hbb : b ≠ w.heap.size := by simp at hb; omega
  have HBR := hid (keepB HB.out hg1)
  go_loopw [7] (fun x' wr => ∃ k : Nat, k ≤ 30 ∧ x' = .int .i64 k ∧ w1.grownBy wr none ∧ ∀ j f, j < k → Ax.tab[j]? = some f → (f.k : Int) ≠ x) (fun x' _ => 30 - (intOf x').toNat)
  case atStart => exact ⟨0, Nat.zero_le _, rfl, grown_refl _ _, fun j f h => absurd h (Nat.not_lt_zero j)⟩
  case round =>
    obtain ⟨k, hk, rfl, hg, hno⟩ := hrel
    by_cases hlt : k < 30
    · have HNO := hid hno
      clear hno
      obtain ⟨e, he⟩ := tab_at hlt
      obtain ⟨p, n, ⟨c0, c1, c2, c3⟩, hf, hr⟩ := (HRW.out.keep hg) k e he
      have HE := hid he
      have HF := hid hf
      have HRR := hid hr
      clear he hf hr
      obtain ⟨⟨k0, k1, k2, k3⟩, f0, f1, f2, f3⟩ := box4 (blk0 wr (.cells #[.int .i64 0, .int .i64 0, .string ⟨#[]⟩, .slice none 0 0] 102))
      obtain ⟨⟨l0, l1, l2, l3⟩, g0, g1, g2, g3⟩ := box4 (keepB (keepB HBR.out hg) (World.grownBy_alloc wr (.cells #[.int .i64 (e.k : Nat), .int .i64 (e.s : Nat), .string ⟨e.w.toArray⟩, .slice p n n] 102) none))
      go_wp2_with fail
      · rename_i hw
        have hx := tab_first HE.out (by simpa using hw) HNO.out
        refine bodyPost_ret (v := .agg #[.int .i64 (e.k : Nat), .int .i64 (e.s : Nat), .string ⟨e.w.toArray⟩, .slice p n n]) (by simp [results, Tryz.results64, go_sem, l0, l1, l2, l3]) rfl (RowZ.mk (by unfold srt; rw [hx]) (by unfold wrd; rw [hx]) (by unfold prm; rw [hx]; exact HRR.out.keep (World.grownBy_alloc _ _ none)) (fun a h => by have := HF.out a h; simp at this; omega) (grown_trans HA.out (grown_trans hg1 (grown_trans hg (World.grownBy_alloc _ _ none)))) (found_z (List.mem_of_getElem? HE.out) hx))
      · rename_i hw
        refine ⟨⟨k + 1, by omega, by go_num, grown_trans hg (World.grownBy_alloc _ _ none), ?_⟩, by simp [intOf]; omega⟩
        intro j f hj hf
        by_cases h : j = k
        · subst h
          rw [HE.out] at hf
          cases hf
          simpa using hw
        · exact HNO.out j f (by omega) hf
    · obtain rfl : k = 30 := by omega
      obtain ⟨⟨l0, l1, l2, l3⟩, g0, g1, g2, g3⟩ := box4 (keepB HBR.out hg)
      go_wp2_with fail
      have hx := tab_none hno
      refine bodyPost_ret (v := .agg #[.int .i64 0, .int .i64 0, .string ⟨#[]⟩, .slice none 0 0]) (by simp [results, Tryz.results64, go_sem, l0, l1, l2, l3]) rfl (RowZ.mk (s := 0) (by unfold srt; rw [hx]) (by unfold wrd; rw [hx]) (by unfold prm; rw [hx]; exact IRd.nil _ _) (fun a h => by cases h) (grown_trans HA.out (grown_trans hg1 hg)) ⟨fun _ => rfl, fun h => absurd (by unfold srt; rw [hx]) h⟩)

theorem row_fld0 (a x y z : Value) : ∀ w, (Instr.field 102 (.agg #[a, x, y, z]) 0).run Tryz.prog w = .ok a w := fun w => by kernel_rfl
theorem isB_name {s : Int} (hs : 1 ≤ s ∧ s ≤ 4) : isB 1 s = decide (s ≠ 4) := by
  have h0 : srt 1 = 0 := by decide
  unfold isB
  by_cases h : s = 4
  · subst h; simp [h0]
  · rw [if_pos (by omega)]; simp [h]
theorem isB_kind {k s : Int} (hk : k ≠ 1) (hs : 1 ≤ s ∧ s ≤ 4) : isB k s = decide ((srt k : Int) = s) := by
  unfold isB
  by_cases h : s = 4
  · subst h; simp
  · rw [if_pos (by omega)]; simp [hk]
set_option maxHeartbeats 8000000 in
set_option maxRecDepth 100000 in
theorem ofS_any (m : Nat) (cs : List Value) (t : Tr) (h : Hd) (l : List Tr) (ht : t = .node h l) (s : Int) (hs : 1 ≤ s ∧ s ≤ 4) (w : World) (hE : ERd w m cs t) : Calls Tryz.prog 115 #[.agg cs.toArray, .int .i64 s] w fun e w' => e = .returned (.bool (isB h.k s)) ∧ w.grownBy w' none := by
  subst ht
  obtain ⟨e1, e2, e3, p1, n1, c1, p2, n2, c2, p3, n3, c3, e7, rfl⟩ := hE.shape
  have hk : e1 = h.k := by
    cases m with
    | zero => exact hE.elim
    | succ m => exact (ARd.of hE).1.1
  rw [← hk]
  clear hE hk
  have hW := World.grownBy_alloc w (.cells #[.int .i64 e1, .string e2, .bool e3, .slice p1 n1 c1, .slice p2 n2 c2, .slice p3 n3 c3, .int .i64 e7] 43 (0, 0)) none
  obtain ⟨⟨k0, k1, k2, k3, k4, k5, k6⟩, -⟩ := box7 (blk0 w (.cells #[.int .i64 e1, .string e2, .bool e3, .slice p1 n1 c1, .slice p2 n2 c2, .slice p3 n3 c3, .int .i64 e7] 43 (0, 0)))
  have hz0 : ¬ s = 0 := by omega
  have HSS := hid hs
  by_cases hk : e1 = 1
  · subst hk
    rw [isB_name hs]
    clear hs
    go_enter Tryz.func115, Tryz.ntmps115
    go_upto_region 1 with fail
    generalize (w.alloc _) = w0 at *
    go_wp2_with fail
    go_ret
    exact ⟨by simp; rfl, hW⟩
  · rw [isB_kind hk hs]
    have HF := hid fun w => rfindz_any e1 w
    have HS := hid fun w => rsort_any e1 w
    have hsf := row_fld0
    have HPOS : Hid (¬ (srt e1 = 0 ∧ (srt e1 : Int) = s)) := hid (by omega)
    clear hs
    obtain ⟨b, hb⟩ : ∃ b : Bool, b = decide ((srt e1 : Int) = s) := ⟨_, rfl⟩
    by_cases hq : srt e1 = 0
    · rw [← hb]
      obtain rfl : b = false := by rw [hb]; simp; omega
      clear hb
      go_enter Tryz.func115, Tryz.ntmps115
      go_upto_region 1 with fail
      generalize (w.alloc _) = w0 at *
      have hz2 : ¬ ((srt e1 : Nat) : Int) = s := by have := HPOS.out; omega
      go_wp2_with (first | (go_at_call 64; refine (HF.out _).mono ?_; rintro e w1 ⟨z, p, n, c, rfl, hz, hg⟩; obtain rfl := hz.1 hq; have j0 := hsf (.int .i64 0) (.int .i64 (srt e1 : Nat)) (.string ⟨(wrd e1).toArray⟩) (.slice p n c); replace hW := grown_trans hW hg; replace k0 := hg.cell k0 (by simp); clear hg hz HF) | (go_at_call 32; refine (HS.out _).mono ?_; rintro e w2 ⟨rfl, hg⟩; replace hW := grown_trans hW hg; clear hg HS))
      all_goals
        go_ret
        exact ⟨by simp, hW⟩
    · go_enter Tryz.func115, Tryz.ntmps115
      go_upto_region 1 with fail
      generalize (w.alloc _) = w0 at *
      go_wp2_with (first | (go_at_call 64; refine (HF.out _).mono ?_; rintro e w1 ⟨z, p, n, c, rfl, hz, hg⟩; have hz1 := hz.2 hq; have j0 := hsf (.int .i64 z) (.int .i64 (srt e1 : Nat)) (.string ⟨(wrd e1).toArray⟩) (.slice p n c); replace hW := grown_trans hW hg; replace k0 := hg.cell k0 (by simp); clear hg hz HF) | (go_at_call 32; refine (HS.out _).mono ?_; rintro e w2 ⟨rfl, hg⟩; replace hW := grown_trans hW hg; clear hg HS))
      all_goals
        go_ret
        refine ⟨?_, hW⟩
        have h9 : (z != 0) = true := by simpa using hz1
        simp only [h9, Bool.true_and]
        rfl
end Go.Proofs.YtiaonbofkgkdhaaGreatDoor

set_option linter.unusedVariables false
set_option linter.unusedSimpArgs false
namespace Go.Proofs.YtiaonbofkgkdhaaGreatDoor
open Go.RowKit _root_.Nm Ax
set_option maxHeartbeats 8000000 in
set_option maxRecDepth 100000 in
theorem rofE_any (m : Nat) (cs : List Value) (h : Hd) (l : List Tr) (s : Int) (hs : 0 ≤ s ∧ s ≤ 4) (w : World) (hE : ERd w m cs (.node h l)) : Calls Tryz.prog 115 #[.agg cs.toArray, .int .i64 s] w fun e w' => e = .returned (.bool (fitB h.k s)) ∧ w.grownBy w' none := by
  by_cases h0 : s = 0
  · subst h0
    obtain ⟨e1, e2, e3, p1, n1, c1, p2, n2, c2, p3, n3, c3, e7, rfl⟩ := hE.shape
    have H2 := hid fun w' (hg : w.grownBy w' none) => ofS_any m _ _ h l rfl 2 (by omega) w' (hE.keep hg)
    have H3 := hid fun w' (hg : w.grownBy w' none) => ofS_any m _ _ h l rfl 3 (by omega) w' (hE.keep hg)
    clear hE
    have hf : fitB h.k 0 = (isB h.k 2 || isB h.k 3) := rfl
    rw [hf]
    obtain ⟨b2, hb2⟩ : ∃ b, b = isB h.k 2 := ⟨_, rfl⟩
    obtain ⟨b3, hb3⟩ : ∃ b, b = isB h.k 3 := ⟨_, rfl⟩
    rw [← hb2, ← hb3]
    rw [← hb2] at H2
    rw [← hb3] at H3
    clear hb2 hb3 hf
    have hW := World.grownBy_alloc w (.cells #[.int .i64 e1, .string e2, .bool e3, .slice p1 n1 c1, .slice p2 n2 c2, .slice p3 n3 c3, .int .i64 e7] 43 (0, 0)) none
    obtain ⟨⟨k0, k1, k2, k3, k4, k5, k6⟩, -⟩ := box7 (blk0 w (.cells #[.int .i64 e1, .string e2, .bool e3, .slice p1 n1 c1, .slice p2 n2 c2, .slice p3 n3 c3, .int .i64 e7] 43 (0, 0)))
    cases b2
    all_goals
      go_enter Tryz.func115, Tryz.ntmps115
      go_upto_region 1 with fail
      generalize (w.alloc _) = w0 at *
      go_wp2_with (first | (go_at_call 115; with_reducible refine (H2.out _ hW).mono ?_; rintro e w1 ⟨rfl, hg⟩; replace hW := grown_trans hW hg; replace k0 := hg.cell k0 (by simp); replace k1 := hg.cell k1 (by simp); replace k2 := hg.cell k2 (by simp); replace k3 := hg.cell k3 (by simp); replace k4 := hg.cell k4 (by simp); replace k5 := hg.cell k5 (by simp); replace k6 := hg.cell k6 (by simp); clear H2 hg) | (go_at_call 115; with_reducible refine (H3.out _ hW).mono ?_; rintro e w1 ⟨rfl, hg⟩; replace hW := grown_trans hW hg; clear H3 hg))
      go_ret
      exact ⟨by simp, hW⟩
  · have := ofS_any m cs _ h l rfl s (by omega) w hE
    rw [show fitB h.k s = isB h.k s by unfold fitB; rw [if_neg h0]]
    exact this
/-- the depth of a tree -/
def dN : Nat → Tr → Nat
  | 0, _ => 0
  | m + 1, .node _ l => (l.map (dN m)).foldl max 0 + 1
theorem dN_succ (m : Nat) (h : Hd) (l : List Tr) : dN (m + 1) (.node h l) = (l.map (dN m)).foldl max 0 + 1 := rfl
theorem foldl_max_le {l : List Nat} : ∀ {a N : Nat}, l.foldl max a ≤ N ↔ a ≤ N ∧ ∀ x ∈ l, x ≤ N := by
  induction l with
  | nil => intro a N; simp
  | cons x r ih =>
    intro a N
    rw [List.foldl_cons, ih]
    simp only [List.mem_cons, forall_eq_or_imp]
    rw [Nat.max_le, and_assoc]
theorem dN_le {m : Nat} {h : Hd} {l : List Tr} {N : Nat} : dN (m + 1) (.node h l) ≤ N + 1 ↔ ∀ i (hi : i < l.length), dN m l[i] ≤ N := by
  rw [dN_succ, Nat.add_le_add_iff_right, foldl_max_le]
  constructor
  · rintro ⟨_, h⟩ i hi
    exact h _ (List.mem_map.2 ⟨_, List.getElem_mem hi, rfl⟩)
  · intro h
    refine ⟨Nat.zero_le _, fun x hx => ?_⟩
    obtain ⟨t, ht, rfl⟩ := List.mem_map.1 hx
    obtain ⟨i, hi, rfl⟩ := List.getElem_of_mem ht
    exact h i hi
theorem dN_sz : ∀ (m : Nat) (t : Tr), dN m t ≤ szF m t
  | 0, _ => by simp [dN]
  | m + 1, .node h l => by
    have h0 : 1 ≤ szF (m + 1) (.node h l) := by rw [szF_succ]; omega
    rw [show szF (m + 1) (.node h l) = szF (m + 1) (.node h l) - 1 + 1 by omega]
    refine dN_le.2 fun i hi => ?_
    have := sz_child m h l hi
    have := dN_sz m l[i]
    omega
/-- as the machine counts, where nothing wraps -/
theorem depF_dN : ∀ (m : Nat) (t : Tr), dN m t ≤ 1048576 → depF m t = (dN m t : Int)
  | 0, _, _ => rfl
  | m + 1, .node h l, hd => by
    have hc : ∀ i (hi : i < l.length), depF m l[i] = (dN m l[i] : Int) := fun i hi => depF_dN m l[i] (by
      have := (dN_le (N := 1048575)).1 hd i hi
      omega)
    have hm : ∀ (L : List Tr) (a : Nat), (∀ t ∈ L, depF m t = (dN m t : Int)) → (L.map (depF m)).foldl max (a : Int) = (((L.map (dN m)).foldl max a : Nat) : Int) := by
      intro L
      induction L with
      | nil => intro a _; simp
      | cons x r ih =>
        intro a hL
        rw [List.map_cons, List.foldl_cons, List.map_cons, List.foldl_cons, hL x (by simp), show max (a : Int) ((dN m x : Nat) : Int) = ((max a (dN m x) : Nat) : Int) by omega]
        exact ih _ fun t ht => hL t (by simp [ht])
    have h1 := hm l 0 (fun t ht => by
      obtain ⟨i, hi, rfl⟩ := List.getElem_of_mem ht
      exact hc i hi)
    rw [depF_succ]
    unfold most
    rw [show (0 : Int) = ((0 : Nat) : Int) by rfl, h1]
    rw [dN_succ] at hd ⊢
    unfold wrap64
    omega
set_option maxHeartbeats 8000000 in
set_option maxRecDepth 100000 in
theorem deeper_any : ∀ (m : Nat) (cs : List Value) (t : Tr) (n : Nat) (b : Bool) (w : World), n ≤ 20 → ERd w m cs t → (b = true ↔ n < dN m t) → Calls Tryz.prog 59 #[.agg cs.toArray, .int .i64 n] w fun e w' => e = .returned (.bool b) ∧ w.grownBy w' none
  | 0, _, _, _, _, _, _, h, _ => h.elim
  | m + 1, cs, .node h l, n, b, w, hn, hE, hb => by
    have IH := hid (deeper_any m)
    obtain ⟨e1, e2, e3, p1, n1, c1, p2, n2, c2, p3, n3, c3, e7, rfl⟩ := hE.shape
    obtain ⟨-, -, -, hA, -⟩ := ARd.of hE
    obtain ⟨⟨hla, hca, hma⟩, _⟩ := id hA
    have HA := hid hA
    clear hE hA
    have HW := hid (World.grownBy_alloc w (.cells #[.int .i64 e1, .string e2, .bool e3, .slice p1 n1 c1, .slice p2 n2 c2, .slice p3 n3 c3, .int .i64 e7] 43 (0, 0)) none)
    cases n with
    | zero =>
      obtain rfl : b = true := hb.2 (by rw [dN_succ]; omega)
      go_enter Tryz.func59, Tryz.ntmps59
      go_wp2_with fail
      go_ret
      exact ⟨rfl, HW.out⟩
    | succ n =>
      have HB : Hid (b = false ↔ ∀ i (hi : i < l.length), dN m l[i] ≤ n) := hid (by
        rw [← dN_le (h := h), ← Bool.not_eq_true, hb]
        omega)
      clear hb
      obtain ⟨x, hx⟩ : ∃ x : Int, x = ((n + 1 : Nat) : Int) := ⟨_, rfl⟩
      rw [← hx]
      have hx1 : 1 ≤ x := by omega
      have hx2 : x ≤ 20 := by omega
      have hz : (x == 0) = false := by simp; omega
      have HXN : Hid ((n : Int) = x - 1) := hid (by omega)
      clear hx
      go_enter Tryz.func59, Tryz.ntmps59
      go_wp2_with fail
      clear hz
      go_loopw [12] (fun x wr => ∃ k : Nat, k ≤ n3 ∧ x = .int .i64 k ∧ w.grownBy wr none ∧ ∀ i (hi : i < l.length), i < k → dN m l[i] ≤ n) (fun x _ => n3 - (intOf x).toNat)
      case atStart => exact ⟨0, Nat.zero_le _, rfl, HW.out, fun i _ h => absurd h (Nat.not_lt_zero i)⟩
      case round =>
        obtain ⟨k, hk, rfl, hg, hall⟩ := hrel
        have HALL := hid hall
        clear hall
        by_cases hlt : k < n3
        · obtain ⟨bA, oA, x1, x2, x3, q1, m1, d1, q2, m2, d2, q3, m3, d3, x7, rfl, hE2, a0, a1, a2, a3, a4, a5, a6⟩ := (HA.out.keep hg).at (i := k) (by omega)
          have hG1 := World.grownBy_alloc wr (.cells #[.int .i64 x1, .string x2, .bool x3, .slice q1 m1 d1, .slice q2 m2 d2, .slice q3 m3 d3, .int .i64 x7] 43 (0, 0)) none
          obtain ⟨bq, hbq⟩ := ex_bool (n < dN m (l[k]'(by omega)))
          have HC := hid (IH.out _ _ n bq _ (by omega) (hE2.keep hG1) hbq)
          rw [HXN.out] at HC
          have HGG := hid (grown_trans hg hG1)
          have HQ := hid hbq
          clear hE2 hG1 hbq
          obtain ⟨⟨o0, o1, o2, o3, o4, o5, o6⟩, f0, f1, f2, f3, f4, f5, f6⟩ := box7 (blk0 wr (zeroE 43))
          unfold zeroE at o0 o1 o2 o3 o4 o5 o6 f0 f1 f2 f3 f4 f5 f6
          cases bq
          · go_wp2_with (go_at_call 59; refine HC.out.mono ?_; rintro e w2 ⟨rfl, hg2⟩)
            exact ⟨⟨k + 1, by omega, by go_num, grown_trans HGG.out hg2, fun i hi h => by
              rcases Nat.lt_or_eq_of_le (Nat.le_of_lt_succ h) with h | rfl
              · exact HALL.out i hi h
              · have := HQ.out
                simp at this
                omega⟩, by simp [intOf]; omega⟩
          · obtain rfl : b = true := by
              rw [← Bool.not_eq_false, HB.out]
              intro h9
              have h1 := h9 k (by omega)
              have h2 := HQ.out.1 (by simp)
              omega
            go_wp2_with (go_at_call 59; refine HC.out.mono ?_; rintro e w2 ⟨rfl, hg2⟩)
            go_ret
            exact ⟨rfl, grown_trans HGG.out hg2⟩
        · obtain rfl : k = n3 := by omega
          obtain rfl : b = false := HB.out.2 fun i hi => HALL.out i hi (by omega)
          go_wp2_with fail
          go_ret
          exact ⟨rfl, hg⟩
end Go.Proofs.YtiaonbofkgkdhaaGreatDoor

set_option linter.unusedVariables false
set_option linter.unusedSimpArgs false
namespace Go.Proofs.YtiaonbofkgkdhaaGreatDoor
open Go.RowKit _root_.Nm Ax Lx
/-- whether the Ratio of an expression is right, as both sides find it -/
structure RatOk (w : World) (e1 : Int) (e3 : Bool) (p1 : Option Addr) (n1 c1 : Nat) (p2 : Option Addr) (n2 c2 : Nat) (R : Bool) : Prop where
  right : ratB e1 = true → ∀ W, w.grownBy W none → Calls Tryz.prog 69 #[.agg #[.bool e3, .slice p1 n1 c1, .slice p2 n2 c2]] W fun e w' => e = .returned (.bool R) ∧ W.grownBy w' none
  rright : ratB e1 = true → ∀ W, w.grownBy W none → Calls Tryz.prog 47 #[.agg #[.bool e3, .slice p1 n1 c1, .slice p2 n2 c2]] W fun e w' => e = .returned (.bool R) ∧ W.grownBy w' none
  zero : ratB e1 = false → ∀ W, w.grownBy W none → Calls Tryz.prog 171 #[.agg #[.bool e3, .slice p1 n1 c1, .slice p2 n2 c2], .agg #[.bool false, .slice none 0 0, .slice none 0 0]] W fun e w' => e = .returned (.bool R) ∧ W.grownBy w' none
  none : ratB e1 = false → (R = true ↔ e3 = false ∧ n1 = 0 ∧ n2 = 0)
theorem ratOk {w : World} (Tq : Tb w) (e1 : Int) (e3 : Bool) {p1 p2 : Option Addr} {n1 c1 n2 c2 : Nat} {xs ys : List Nat} (hr0 : IRd w .u16 p1 n1 c1 xs) (hx : Dg 65536 xs) (hr1 : IRd w .u16 p2 n2 c2 ys) (hy : Dg 65536 ys) (hn : n1 ≤ 1048576) (hm : n2 ≤ 1048576) :
    ∃ R, RatOk w e1 e3 p1 n1 c1 p2 n2 c2 R := by
  have l1 := hr0.len
  have l2 := hr1.len
  cases hb : ratB e1
  · obtain ⟨b, hb2⟩ := ex_bool (e3 = false ∧ xs = [] ∧ ys = [])
    refine ⟨b, fun h => (by rw [hb] at h; cases h), fun h => (by rw [hb] at h; cases h), fun _ W hW => equalRat_any e3 false p1 p2 Option.none Option.none n1 c1 n2 c2 0 0 0 0 xs ys [] [] b hb2 W (hr0.keep hW) (hr1.keep hW) (IRd.nil _ _) (IRd.nil _ _), fun _ => ?_⟩
    rw [hb2]
    constructor
    · rintro ⟨h1, rfl, rfl⟩
      exact ⟨h1, by simpa using l1.symm, by simpa using l2.symm⟩
    · rintro ⟨h1, rfl, rfl⟩
      exact ⟨h1, List.eq_nil_of_length_eq_zero l1, List.eq_nil_of_length_eq_zero l2⟩
  · obtain ⟨r, h1, h2, _⟩ := right3_full Tq e3 hr0 hx hr1 hy (by omega) (by omega)
    exact ⟨r, fun _ => h1, fun _ => h2, fun h => (by rw [hb] at h; cases h), fun h => (by rw [hb] at h; cases h)⟩
theorem RatOk.keep {w w' : World} {e1 : Int} {e3 : Bool} {p1 : Option Addr} {n1 c1 : Nat} {p2 : Option Addr} {n2 c2 : Nat} {R : Bool} (h : RatOk w e1 e3 p1 n1 c1 p2 n2 c2 R) (hg : w.grownBy w' Option.none) : RatOk w' e1 e3 p1 n1 c1 p2 n2 c2 R where
  right := fun hb W hW => h.right hb W (grown_trans hg hW)
  rright := fun hb W hW => h.rright hb W (grown_trans hg hW)
  zero := fun hb W hW => h.zero hb W (grown_trans hg hW)
  none := h.none
set_option maxHeartbeats 8000000 in
set_option maxRecDepth 100000 in
theorem rightRatio_any (e1 : Int) (e2 : ByteArray) (e3 : Bool) (p1 : Option Addr) (n1 c1 : Nat) (p2 : Option Addr) (n2 c2 : Nat) (p3 : Option Addr) (n3 c3 : Nat) (e7 : Int) (R : Bool) (w : World) (hR : RatOk w e1 e3 p1 n1 c1 p2 n2 c2 R) :
    Calls Tryz.prog 146 #[.agg #[.int .i64 e1, .string e2, .bool e3, .slice p1 n1 c1, .slice p2 n2 c2, .slice p3 n3 c3, .int .i64 e7]] w fun e w' => e = .returned (.bool R) ∧ w.grownBy w' none := by
  have HH := hid fun w => hasRatio_any e1 w
  have HR1 := hid hR.right
  have HR2 := hid hR.zero
  clear hR
  have hW := World.grownBy_alloc w (.cells #[.int .i64 e1, .string e2, .bool e3, .slice p1 n1 c1, .slice p2 n2 c2, .slice p3 n3 c3, .int .i64 e7] 43 (0, 0)) none
  obtain ⟨⟨k0, k1, k2, k3, k4, k5, k6⟩, -⟩ := box7 (blk0 w (.cells #[.int .i64 e1, .string e2, .bool e3, .slice p1 n1 c1, .slice p2 n2 c2, .slice p3 n3 c3, .int .i64 e7] 43 (0, 0)))
  obtain ⟨b, hb⟩ : ∃ b, b = ratB e1 := ⟨_, rfl⟩
  rw [← hb] at HH HR1 HR2
  clear hb
  cases b
  all_goals
    go_enter Tryz.func146, Tryz.ntmps146
    go_upto_region 1 with fail
    generalize (w.alloc _) = w0 at *
    go_wp2_with (first
      | (go_at_call 175; with_reducible refine (HH.out _).mono ?_; rintro e w1 ⟨rfl, hg⟩; replace hW := grown_trans hW hg; replace k0 := hg.cell k0 (by simp); replace k1 := hg.cell k1 (by simp); replace k2 := hg.cell k2 (by simp); replace k3 := hg.cell k3 (by simp); replace k4 := hg.cell k4 (by simp); replace k5 := hg.cell k5 (by simp); replace k6 := hg.cell k6 (by simp); clear hg)
      | (go_at_call 69; refine (HR1.out (by first | rfl | trivial) _ hW).mono ?_; rintro e w1 ⟨rfl, hg⟩; replace hW := grown_trans hW hg; clear hg)
      | (go_at_call 171; refine (HR2.out (by first | rfl | trivial) _ hW).mono ?_; rintro e w1 ⟨rfl, hg⟩; replace hW := grown_trans hW hg; clear hg))
    go_ret
    exact ⟨rfl, hW⟩
/-- the error of the top of an expression -/
def topE (k s : Int) (nm : List UInt8) (n : Nat) (R : Bool) : Int :=
  if fitB k s = false then 8 else if k = 1 ∧ isNm nm = false then 6 else if k ≠ 1 ∧ nm ≠ [] then 1 else if n ≠ (prm k).length then 1 else if R = false then 1 else 0
theorem prm_len (k : Int) : (prm k).length ≤ 6 := by
  unfold prm
  cases h : ent k with
  | none => simp
  | some e => exact (show ∀ e ∈ Ax.tab, e.p.length ≤ 6 by decide) e (ent_mem h).1

set_option maxHeartbeats 16000000 in
set_option maxRecDepth 100000 in
theorem checkTop_any (e1 : Int) (e2 : ByteArray) (e3 : Bool) (p1 : Option Addr) (n1 c1 : Nat) (p2 : Option Addr) (n2 c2 : Nat) (p3 : Option Addr) (n3 c3 : Nat) (e7 : Int) (s : Int) (R : Bool) (w : World) (hR : RatOk w e1 e3 p1 n1 c1 p2 n2 c2 R) (hnm : e2.size ≤ maxLen) (hn3 : n3 ≤ 1048576) :
    Calls Tryz.prog 112 #[.agg #[.int .i64 e1, .string e2, .bool e3, .slice p1 n1 c1, .slice p2 n2 c2, .slice p3 n3 c3, .int .i64 e7], .int .i64 s] w fun e w' => e = .returned (.int .i64 (topE e1 s e2.data.toList n3 R)) ∧ w.grownBy w' none := by
  have HF := hid fun w => fits_any e1 s w
  have HN := hid fun w => isName_any e2 e2.data.toList rfl (by rw [Array.length_toList]; exact hnm) w
  have HP := hid fun w => params_any e1 w
  have HRR := hid fun w' (hg : w.grownBy w' none) => rightRatio_any e1 e2 e3 p1 n1 c1 p2 n2 c2 p3 n3 c3 e7 R w' (hR.keep hg)
  clear hR hnm
  have hpl : (prm e1).length ≤ 6 := prm_len e1
  have hW := World.grownBy_alloc w (.cells #[.int .i64 e1, .string e2, .bool e3, .slice p1 n1 c1, .slice p2 n2 c2, .slice p3 n3 c3, .int .i64 e7] 43 (0, 0)) none
  obtain ⟨⟨k0, k1, k2, k3, k4, k5, k6⟩, -⟩ := box7 (blk0 w (.cells #[.int .i64 e1, .string e2, .bool e3, .slice p1 n1 c1, .slice p2 n2 c2, .slice p3 n3 c3, .int .i64 e7] 43 (0, 0)))
  obtain ⟨f, hf⟩ : ∃ f, f = fitB e1 s := ⟨_, rfl⟩
  obtain ⟨nb, hnb⟩ : ∃ f, f = isNm e2.data.toList := ⟨_, rfl⟩
  unfold topE
  rw [← hf, ← hnb]
  rw [← hf] at HF
  rw [← hnb] at HN
  clear hf hnb
  generalize (prm e1) = pl at *
  cases f
  · go_enter Tryz.func112, Tryz.ntmps112
    go_upto_region 1 with fail
    generalize (w.alloc _) = w0 at *
    go_wp2_with (first | (go_at_call 145; with_reducible refine (HF.out _).mono ?_; rintro e w1 ⟨rfl, hg⟩; replace hW := grown_trans hW hg; replace k0 := hg.cell k0 (by simp); replace k1 := hg.cell k1 (by simp); replace k2 := hg.cell k2 (by simp); replace k3 := hg.cell k3 (by simp); replace k4 := hg.cell k4 (by simp); replace k5 := hg.cell k5 (by simp); replace k6 := hg.cell k6 (by simp); clear hg) | (go_at_call 139; refine (HN.out _).mono ?_; rintro e w1 ⟨rfl, hg⟩; replace hW := grown_trans hW hg; replace k0 := hg.cell k0 (by simp); replace k1 := hg.cell k1 (by simp); replace k2 := hg.cell k2 (by simp); replace k3 := hg.cell k3 (by simp); replace k4 := hg.cell k4 (by simp); replace k5 := hg.cell k5 (by simp); replace k6 := hg.cell k6 (by simp); clear hg) | (go_at_call 146; refine (HRR.out _ hW).mono ?_; rintro e w1 ⟨rfl, hg⟩; replace hW := grown_trans hW hg; clear hg))
    all_goals
      go_ret
      exact ⟨by simp, hW⟩
  · by_cases hk : e1 = 1
    · subst hk
      cases nb
      · go_enter Tryz.func112, Tryz.ntmps112
        go_upto_region 1 with fail
        generalize (w.alloc _) = w0 at *
        go_wp2_with (first | (go_at_call 145; with_reducible refine (HF.out _).mono ?_; rintro e w1 ⟨rfl, hg⟩; replace hW := grown_trans hW hg; replace k0 := hg.cell k0 (by simp); replace k1 := hg.cell k1 (by simp); replace k2 := hg.cell k2 (by simp); replace k3 := hg.cell k3 (by simp); replace k4 := hg.cell k4 (by simp); replace k5 := hg.cell k5 (by simp); replace k6 := hg.cell k6 (by simp); clear hg) | (go_at_call 139; refine (HN.out _).mono ?_; rintro e w1 ⟨rfl, hg⟩; replace hW := grown_trans hW hg; replace k0 := hg.cell k0 (by simp); replace k1 := hg.cell k1 (by simp); replace k2 := hg.cell k2 (by simp); replace k3 := hg.cell k3 (by simp); replace k4 := hg.cell k4 (by simp); replace k5 := hg.cell k5 (by simp); replace k6 := hg.cell k6 (by simp); clear hg) | (go_at_call 146; refine (HRR.out _ hW).mono ?_; rintro e w1 ⟨rfl, hg⟩; replace hW := grown_trans hW hg; clear hg))
        go_ret
        exact ⟨by simp, hW⟩
      · go_enter Tryz.func112, Tryz.ntmps112
        go_upto_region 1 with fail
        generalize (w.alloc _) = w0 at *
        go_wp2_with (first | (go_at_call 145; with_reducible refine (HF.out _).mono ?_; rintro e w1 ⟨rfl, hg⟩; replace hW := grown_trans hW hg; replace k0 := hg.cell k0 (by simp); replace k1 := hg.cell k1 (by simp); replace k2 := hg.cell k2 (by simp); replace k3 := hg.cell k3 (by simp); replace k4 := hg.cell k4 (by simp); replace k5 := hg.cell k5 (by simp); replace k6 := hg.cell k6 (by simp); clear hg) | (go_at_call 139; refine (HN.out _).mono ?_; rintro e w1 ⟨rfl, hg⟩; replace hW := grown_trans hW hg; replace k0 := hg.cell k0 (by simp); replace k1 := hg.cell k1 (by simp); replace k2 := hg.cell k2 (by simp); replace k3 := hg.cell k3 (by simp); replace k4 := hg.cell k4 (by simp); replace k5 := hg.cell k5 (by simp); replace k6 := hg.cell k6 (by simp); clear hg) | (go_at_call 146; refine (HRR.out _ hW).mono ?_; rintro e w1 ⟨rfl, hg⟩; replace hW := grown_trans hW hg; clear hg))
        by_cases hlen : n3 = pl.length
        · subst hlen
          cases R
          all_goals
            go_region_held3 (fun w' => w'.cell? ⟨w.heap.size, 0, none⟩ = some (.int .i64 1) ∧ w'.cell? ⟨w.heap.size, 1, none⟩ = some (.string e2) ∧ w'.cell? ⟨w.heap.size, 2, none⟩ = some (.bool e3) ∧ w'.cell? ⟨w.heap.size, 3, none⟩ = some (.slice p1 n1 c1) ∧ w'.cell? ⟨w.heap.size, 4, none⟩ = some (.slice p2 n2 c2) ∧ w'.cell? ⟨w.heap.size, 5, none⟩ = some (.slice p3 pl.length c3) ∧ w'.cell? ⟨w.heap.size, 6, none⟩ = some (.int .i64 e7) ∧ w.grownBy w' none) ((try go_split_ands) <;> (repeat' apply And.intro) <;> (first | (with_reducible assumption) | (with_reducible refine (grown_drew _ none).cell ?_ (by simp); with_reducible assumption) | (with_reducible refine grown_trans ?_ (grown_drew _ none); with_reducible assumption))) (first | (go_at_call 113; (with_reducible refine (HP.out _).mono ?_); rintro e v3 ⟨pp, nn, cc, rfl, hfr, hrd, hg⟩; obtain rfl := hrd.len; (first | replace hW := grown_trans hW hg | replace hW := grown_trans (grown_trans hW (grown_drew _ none)) hg); replace k0 := hg.cell k0 (by simp); replace k1 := hg.cell k1 (by simp); replace k2 := hg.cell k2 (by simp); replace k3 := hg.cell k3 (by simp); replace k4 := hg.cell k4 (by simp); replace k5 := hg.cell k5 (by simp); replace k6 := hg.cell k6 (by simp); clear hfr hrd))
            go_wp2_with (first | (go_at_call 145; with_reducible refine (HF.out _).mono ?_; rintro e w1 ⟨rfl, hg⟩; replace hW := grown_trans hW hg; replace k0 := hg.cell k0 (by simp); replace k1 := hg.cell k1 (by simp); replace k2 := hg.cell k2 (by simp); replace k3 := hg.cell k3 (by simp); replace k4 := hg.cell k4 (by simp); replace k5 := hg.cell k5 (by simp); replace k6 := hg.cell k6 (by simp); clear hg) | (go_at_call 139; refine (HN.out _).mono ?_; rintro e w1 ⟨rfl, hg⟩; replace hW := grown_trans hW hg; replace k0 := hg.cell k0 (by simp); replace k1 := hg.cell k1 (by simp); replace k2 := hg.cell k2 (by simp); replace k3 := hg.cell k3 (by simp); replace k4 := hg.cell k4 (by simp); replace k5 := hg.cell k5 (by simp); replace k6 := hg.cell k6 (by simp); clear hg) | (go_at_call 146; refine (HRR.out _ hW).mono ?_; rintro e w1 ⟨rfl, hg⟩; replace hW := grown_trans hW hg; clear hg))
            go_ret
            exact ⟨by simp [], hW⟩
        · have hz : ¬ (n3 : Int) = (pl.length : Int) := by omega
          go_region_held3 (fun w' => w'.cell? ⟨w.heap.size, 0, none⟩ = some (.int .i64 1) ∧ w'.cell? ⟨w.heap.size, 1, none⟩ = some (.string e2) ∧ w'.cell? ⟨w.heap.size, 2, none⟩ = some (.bool e3) ∧ w'.cell? ⟨w.heap.size, 3, none⟩ = some (.slice p1 n1 c1) ∧ w'.cell? ⟨w.heap.size, 4, none⟩ = some (.slice p2 n2 c2) ∧ w'.cell? ⟨w.heap.size, 5, none⟩ = some (.slice p3 n3 c3) ∧ w'.cell? ⟨w.heap.size, 6, none⟩ = some (.int .i64 e7) ∧ w.grownBy w' none) ((try go_split_ands) <;> (repeat' apply And.intro) <;> (first | (with_reducible assumption) | (with_reducible refine (grown_drew _ none).cell ?_ (by simp); with_reducible assumption) | (with_reducible refine grown_trans ?_ (grown_drew _ none); with_reducible assumption))) (first | (go_at_call 113; (with_reducible refine (HP.out _).mono ?_); rintro e v3 ⟨pp, nn, cc, rfl, hfr, hrd, hg⟩; obtain rfl := hrd.len; (first | replace hW := grown_trans hW hg | replace hW := grown_trans (grown_trans hW (grown_drew _ none)) hg); replace k0 := hg.cell k0 (by simp); replace k1 := hg.cell k1 (by simp); replace k2 := hg.cell k2 (by simp); replace k3 := hg.cell k3 (by simp); replace k4 := hg.cell k4 (by simp); replace k5 := hg.cell k5 (by simp); replace k6 := hg.cell k6 (by simp); clear hfr hrd))
          go_wp2_with fail
          go_ret
          exact ⟨by simp [hlen], hW⟩
    · have hzk : (e1 == 1) = false := by simpa using hk
      by_cases he : e2.data.toList = []
      · have hz0 : e2.toList.isEmpty = true := by simp [Lib.toList_data, he]
        go_enter Tryz.func112, Tryz.ntmps112
        go_upto_region 1 with fail
        generalize (w.alloc _) = w0 at *
        go_upto_region 8 with (first | (go_at_call 145; with_reducible refine (HF.out _).mono ?_; rintro e w1 ⟨rfl, hg⟩; replace hW := grown_trans hW hg; replace k0 := hg.cell k0 (by simp); replace k1 := hg.cell k1 (by simp); replace k2 := hg.cell k2 (by simp); replace k3 := hg.cell k3 (by simp); replace k4 := hg.cell k4 (by simp); replace k5 := hg.cell k5 (by simp); replace k6 := hg.cell k6 (by simp); clear hg) | (go_at_call 139; refine (HN.out _).mono ?_; rintro e w1 ⟨rfl, hg⟩; replace hW := grown_trans hW hg; replace k0 := hg.cell k0 (by simp); replace k1 := hg.cell k1 (by simp); replace k2 := hg.cell k2 (by simp); replace k3 := hg.cell k3 (by simp); replace k4 := hg.cell k4 (by simp); replace k5 := hg.cell k5 (by simp); replace k6 := hg.cell k6 (by simp); clear hg) | (go_at_call 146; refine (HRR.out _ hW).mono ?_; rintro e w1 ⟨rfl, hg⟩; replace hW := grown_trans hW hg; clear hg))
        clear hz0 hzk
        by_cases hlen : n3 = pl.length
        · subst hlen
          cases R
          all_goals
            go_region_held3 (fun w' => w'.cell? ⟨w.heap.size, 0, none⟩ = some (.int .i64 e1) ∧ w'.cell? ⟨w.heap.size, 1, none⟩ = some (.string e2) ∧ w'.cell? ⟨w.heap.size, 2, none⟩ = some (.bool e3) ∧ w'.cell? ⟨w.heap.size, 3, none⟩ = some (.slice p1 n1 c1) ∧ w'.cell? ⟨w.heap.size, 4, none⟩ = some (.slice p2 n2 c2) ∧ w'.cell? ⟨w.heap.size, 5, none⟩ = some (.slice p3 pl.length c3) ∧ w'.cell? ⟨w.heap.size, 6, none⟩ = some (.int .i64 e7) ∧ w.grownBy w' none) ((try go_split_ands) <;> (repeat' apply And.intro) <;> (first | (with_reducible assumption) | (with_reducible refine (grown_drew _ none).cell ?_ (by simp); with_reducible assumption) | (with_reducible refine grown_trans ?_ (grown_drew _ none); with_reducible assumption))) (first | (go_at_call 113; (with_reducible refine (HP.out _).mono ?_); rintro e v3 ⟨pp, nn, cc, rfl, hfr, hrd, hg⟩; obtain rfl := hrd.len; (first | replace hW := grown_trans hW hg | replace hW := grown_trans (grown_trans hW (grown_drew _ none)) hg); replace k0 := hg.cell k0 (by simp); replace k1 := hg.cell k1 (by simp); replace k2 := hg.cell k2 (by simp); replace k3 := hg.cell k3 (by simp); replace k4 := hg.cell k4 (by simp); replace k5 := hg.cell k5 (by simp); replace k6 := hg.cell k6 (by simp); clear hfr hrd))
            go_wp2_with (first | (go_at_call 145; with_reducible refine (HF.out _).mono ?_; rintro e w1 ⟨rfl, hg⟩; replace hW := grown_trans hW hg; replace k0 := hg.cell k0 (by simp); replace k1 := hg.cell k1 (by simp); replace k2 := hg.cell k2 (by simp); replace k3 := hg.cell k3 (by simp); replace k4 := hg.cell k4 (by simp); replace k5 := hg.cell k5 (by simp); replace k6 := hg.cell k6 (by simp); clear hg) | (go_at_call 139; refine (HN.out _).mono ?_; rintro e w1 ⟨rfl, hg⟩; replace hW := grown_trans hW hg; replace k0 := hg.cell k0 (by simp); replace k1 := hg.cell k1 (by simp); replace k2 := hg.cell k2 (by simp); replace k3 := hg.cell k3 (by simp); replace k4 := hg.cell k4 (by simp); replace k5 := hg.cell k5 (by simp); replace k6 := hg.cell k6 (by simp); clear hg) | (go_at_call 146; refine (HRR.out _ hW).mono ?_; rintro e w1 ⟨rfl, hg⟩; replace hW := grown_trans hW hg; clear hg))
            go_ret
            exact ⟨by simp [hk, he], hW⟩
        · have hz : ¬ (n3 : Int) = (pl.length : Int) := by omega
          go_region_held3 (fun w' => w'.cell? ⟨w.heap.size, 0, none⟩ = some (.int .i64 e1) ∧ w'.cell? ⟨w.heap.size, 1, none⟩ = some (.string e2) ∧ w'.cell? ⟨w.heap.size, 2, none⟩ = some (.bool e3) ∧ w'.cell? ⟨w.heap.size, 3, none⟩ = some (.slice p1 n1 c1) ∧ w'.cell? ⟨w.heap.size, 4, none⟩ = some (.slice p2 n2 c2) ∧ w'.cell? ⟨w.heap.size, 5, none⟩ = some (.slice p3 n3 c3) ∧ w'.cell? ⟨w.heap.size, 6, none⟩ = some (.int .i64 e7) ∧ w.grownBy w' none) ((try go_split_ands) <;> (repeat' apply And.intro) <;> (first | (with_reducible assumption) | (with_reducible refine (grown_drew _ none).cell ?_ (by simp); with_reducible assumption) | (with_reducible refine grown_trans ?_ (grown_drew _ none); with_reducible assumption))) (first | (go_at_call 113; (with_reducible refine (HP.out _).mono ?_); rintro e v3 ⟨pp, nn, cc, rfl, hfr, hrd, hg⟩; obtain rfl := hrd.len; (first | replace hW := grown_trans hW hg | replace hW := grown_trans (grown_trans hW (grown_drew _ none)) hg); replace k0 := hg.cell k0 (by simp); replace k1 := hg.cell k1 (by simp); replace k2 := hg.cell k2 (by simp); replace k3 := hg.cell k3 (by simp); replace k4 := hg.cell k4 (by simp); replace k5 := hg.cell k5 (by simp); replace k6 := hg.cell k6 (by simp); clear hfr hrd))
          go_wp2_with fail
          go_ret
          exact ⟨by simp [hk, he, hlen], hW⟩
      · have hz0 : e2.toList.isEmpty = false := by rw [List.isEmpty_eq_false_iff, Lib.toList_data]; exact he
        go_enter Tryz.func112, Tryz.ntmps112
        go_upto_region 1 with fail
        generalize (w.alloc _) = w0 at *
        go_wp2_with (first | (go_at_call 145; with_reducible refine (HF.out _).mono ?_; rintro e w1 ⟨rfl, hg⟩; replace hW := grown_trans hW hg; replace k0 := hg.cell k0 (by simp); replace k1 := hg.cell k1 (by simp); replace k2 := hg.cell k2 (by simp); replace k3 := hg.cell k3 (by simp); replace k4 := hg.cell k4 (by simp); replace k5 := hg.cell k5 (by simp); replace k6 := hg.cell k6 (by simp); clear hg) | (go_at_call 139; refine (HN.out _).mono ?_; rintro e w1 ⟨rfl, hg⟩; replace hW := grown_trans hW hg; replace k0 := hg.cell k0 (by simp); replace k1 := hg.cell k1 (by simp); replace k2 := hg.cell k2 (by simp); replace k3 := hg.cell k3 (by simp); replace k4 := hg.cell k4 (by simp); replace k5 := hg.cell k5 (by simp); replace k6 := hg.cell k6 (by simp); clear hg) | (go_at_call 146; refine (HRR.out _ hW).mono ?_; rintro e w1 ⟨rfl, hg⟩; replace hW := grown_trans hW hg; clear hg))
        go_ret
        exact ⟨by simp [hk, he], hW⟩
end Go.Proofs.YtiaonbofkgkdhaaGreatDoor

set_option linter.unusedVariables false
set_option linter.unusedSimpArgs false
namespace Go.Proofs.YtiaonbofkgkdhaaGreatDoor
open Go.RowKit _root_.Nm Ax Lx
set_option maxHeartbeats 4000000 in
set_option maxRecDepth 100000 in
theorem none_any (g : Bool) (p q : Option Addr) (n c m d : Nat) (R : Bool) (hR : R = true ↔ g = false ∧ n = 0 ∧ m = 0) (w : World) :
    Calls Tryz.prog 117 #[.agg #[.bool g, .slice p n c, .slice q m d]] w fun e w' => e = .returned (.bool R) ∧ w.grownBy w' none := by
  have hb : R = (!g && (decide (n = 0) && decide (m = 0))) := by
    rw [Bool.eq_iff_iff, hR]
    simp
  subst hb
  clear hR
  have hW := World.grownBy_alloc w (.cells #[.bool g, .slice p n c, .slice q m d] 28 (0, 0)) none
  obtain ⟨k0, k1, k2⟩ := box3c (blk0 w (.cells #[.bool g, .slice p n c, .slice q m d] 28 (0, 0)))
  cases g
  · by_cases hn : n = 0
    · subst hn
      go_enter Tryz.func117, Tryz.ntmps117
      go_wp2_with fail
      go_ret
      have hm : ((m : Int) == 0) = decide (m = 0) := by rw [Bool.eq_iff_iff]; simp
      exact ⟨by simp [hm], hW⟩
    · have hz : ((n : Int) == 0) = false := by simpa using hn
      go_enter Tryz.func117, Tryz.ntmps117
      go_wp2_with fail
      go_ret
      exact ⟨by simp [hn], hW⟩
  · go_enter Tryz.func117, Tryz.ntmps117
    go_wp2_with fail
    go_ret
    exact ⟨by simp, hW⟩

/-- the first error of a list of errors -/
def scan (X : Nat → Int) : Nat → Nat → Int
  | _, 0 => 0
  | k, f + 1 => if X k = 0 then scan X (k + 1) f else X k
theorem scan_step {X : Nat → Int} {k n : Nat} (hk : k < n) : scan X k (n - k) = if X k = 0 then scan X (k + 1) (n - (k + 1)) else X k := by
  rw [show n - k = (n - (k + 1)) + 1 by omega]
  rfl
/-- checkTree and check answer alike -/
def ChkOk (w : World) (cs : List Value) : Prop := ∀ s : Int, 0 ≤ s → s ≤ 4 → ∃ x : Int,
  (∀ W, w.grownBy W none → Calls Tryz.prog 60 #[.agg cs.toArray, .int .i64 s] W fun e w' => e = .returned (.int .i64 x) ∧ W.grownBy w' none) ∧
  (∀ W, w.grownBy W none → Calls Tryz.prog 66 #[.agg cs.toArray, .int .i64 s] W fun e w' => e = .returned (.int .i64 x) ∧ W.grownBy w' none)
theorem topE_zero {k s : Int} {nm : List UInt8} {n : Nat} {R : Bool} (h : topE k s nm n R = 0) : fitB k s = true ∧ (k = 1 → isNm nm = true) ∧ (k ≠ 1 → nm = []) ∧ n = (prm k).length ∧ R = true := by
  unfold topE at h
  cases hf : fitB k s
  · rw [if_pos hf] at h; omega
  rw [if_neg (by simp [hf])] at h
  by_cases h1 : k = 1 ∧ isNm nm = false
  · rw [if_pos h1] at h; omega
  rw [if_neg h1] at h
  by_cases h2 : k ≠ 1 ∧ nm ≠ []
  · rw [if_pos h2] at h; omega
  rw [if_neg h2] at h
  by_cases h3 : n ≠ (prm k).length
  · rw [if_pos h3] at h; omega
  rw [if_neg h3] at h
  cases R
  · rw [if_pos rfl] at h; omega
  refine ⟨rfl, fun hk => ?_, fun hk => ?_, by omega, rfl⟩
  · cases hb : isNm nm
    · exact absurd ⟨hk, hb⟩ h1
    · rfl
  · by_cases hn : nm = []
    · exact hn
    · exact absurd ⟨hk, hn⟩ h2
theorem prm_sorts (k : Int) : ∀ (i : Nat) (hi : i < (prm k).length), (prm k)[i] ≤ 4 := by
  intro i hi
  have h0 : ∀ j ∈ prm k, j ≤ 4 := by
    unfold prm
    cases h : ent k with
    | none => simp
    | some e => exact (show ∀ e ∈ Ax.tab, ∀ j ∈ e.p, j ≤ 4 by decide) e (ent_mem h).1
  exact h0 _ (List.getElem_mem hi)
set_option maxHeartbeats 16000000 in
set_option maxRecDepth 100000 in
theorem checkTree_n (e1 : Int) (e2 : ByteArray) (e3 : Bool) (p1 : Option Addr) (n1 c1 : Nat) (p2 : Option Addr) (n2 c2 : Nat) (p3 : Option Addr) (n3 c3 : Nat) (e7 : Int) (s : Int) (R : Bool) (w : World) (hR : RatOk w e1 e3 p1 n1 c1 p2 n2 c2 R) (hnm : e2.size ≤ maxLen) (hn3 : n3 ≤ 1048576) (hc3 : n3 ≤ c3 ∧ c3 ≤ 9223372036854775807)
    (C : Nat → List Value) (X : Nat → Int) (hC : ∀ i, i < n3 → ∃ b o x1 x2 x3 q1 m1 d1 q2 m2 d2 q3 m3 d3 x7, p3 = some ⟨b, o, none⟩ ∧ C i = [.int .i64 x1, .string x2, .bool x3, .slice q1 m1 d1, .slice q2 m2 d2, .slice q3 m3 d3, .int .i64 x7] ∧
      w.cell? ⟨b, o + i * 7, none⟩ = some (.int .i64 x1) ∧ w.cell? ⟨b, o + i * 7 + 1, none⟩ = some (.string x2) ∧ w.cell? ⟨b, o + i * 7 + 2, none⟩ = some (.bool x3) ∧ w.cell? ⟨b, o + i * 7 + 3, none⟩ = some (.slice q1 m1 d1) ∧ w.cell? ⟨b, o + i * 7 + 4, none⟩ = some (.slice q2 m2 d2) ∧ w.cell? ⟨b, o + i * 7 + 5, none⟩ = some (.slice q3 m3 d3) ∧ w.cell? ⟨b, o + i * 7 + 6, none⟩ = some (.int .i64 x7))
    (hX : ∀ i (hi : i < n3) (hp : i < (prm e1).length), ∀ W, w.grownBy W none → Calls Tryz.prog 60 #[.agg (C i).toArray, .int .i64 ((prm e1)[i] : Nat)] W fun e w' => e = .returned (.int .i64 (X i)) ∧ W.grownBy w' none)
    (x : Int) (hx : x = if topE e1 s e2.data.toList n3 R = 0 then scan X 0 n3 else topE e1 s e2.data.toList n3 R) :
    Calls Tryz.prog 60 #[.agg #[.int .i64 e1, .string e2, .bool e3, .slice p1 n1 c1, .slice p2 n2 c2, .slice p3 n3 c3, .int .i64 e7], .int .i64 s] w fun e w' => e = .returned (.int .i64 x) ∧ w.grownBy w' none := by
  have HT := hid fun w' (hg : w.grownBy w' none) => checkTop_any e1 e2 e3 p1 n1 c1 p2 n2 c2 p3 n3 c3 e7 s R w' (hR.keep hg) hnm hn3
  have HP := hid fun w => params_any e1 w
  have HZ := hid fun h => (topE_zero (k := e1) (s := s) (nm := e2.data.toList) (n := n3) (R := R) h).2.2.2.1
  have HCC := hid hC
  have HX := hid hX
  have hpl : (prm e1).length ≤ 6 := prm_len e1
  clear hR hnm hC hX
  have hW := World.grownBy_alloc w (.cells #[.int .i64 e1, .string e2, .bool e3, .slice p1 n1 c1, .slice p2 n2 c2, .slice p3 n3 c3, .int .i64 e7] 43 (0, 0)) none
  obtain ⟨⟨k0, k1, k2, k3, k4, k5, k6⟩, -⟩ := box7 (blk0 w (.cells #[.int .i64 e1, .string e2, .bool e3, .slice p1 n1 c1, .slice p2 n2 c2, .slice p3 n3 c3, .int .i64 e7] 43 (0, 0)))
  generalize topE e1 s e2.data.toList n3 R = te at *
  by_cases ht : te = 0
  · subst ht
    have hlen : n3 = (prm e1).length := HZ.out rfl
    rw [if_pos rfl] at hx
    have HXX := hid hx
    clear hx
    generalize (prm e1) = pl at *
    subst hlen
    clear HZ
    go_enter Tryz.func60, Tryz.ntmps60
    go_upto_region 1 with fail
    generalize (w.alloc _) = w0 at *
    go_wp2_with (first | (go_at_call 112; refine (HT.out _ hW).mono ?_; rintro e w1 ⟨rfl, hg⟩; replace hW := grown_trans hW hg; replace k0 := hg.cell k0 (by simp); replace k1 := hg.cell k1 (by simp); replace k2 := hg.cell k2 (by simp); replace k3 := hg.cell k3 (by simp); replace k4 := hg.cell k4 (by simp); replace k5 := hg.cell k5 (by simp); replace k6 := hg.cell k6 (by simp); clear hg) | (go_at_call 113; (with_reducible refine (HP.out _).mono ?_); rintro e w2 ⟨pp, nn, cc, rfl, hfr, hrd, hg⟩; obtain rfl := hrd.len; replace hW := grown_trans hW hg; replace k0 := hg.cell k0 (by simp); replace k1 := hg.cell k1 (by simp); replace k2 := hg.cell k2 (by simp); replace k3 := hg.cell k3 (by simp); replace k4 := hg.cell k4 (by simp); replace k5 := hg.cell k5 (by simp); replace k6 := hg.cell k6 (by simp); have HRD := hid hrd; have hcc := hrd.cap; have hcm := hrd.max; clear hg hrd hfr))
    have HW2 := hid hW
    have K0 := hid k0
    have K5 := hid k5
    clear HT HP k1 k2 k3 k4 k6 k0 k5 hW
    go_loopw [19] (fun y wr => ∃ k : Nat, k ≤ pl.length ∧ y = .int .i64 k ∧ w2.grownBy wr none ∧ Hid (scan X k (pl.length - k) = x)) (fun y _ => pl.length - (intOf y).toNat)
    case atStart => exact ⟨0, Nat.zero_le _, rfl, grown_refl _ _, hid HXX.out.symm⟩
    case round =>
      clear HXX
      obtain ⟨k, hk, rfl, hg, hsc⟩ := hrel
      by_cases hlt : k < pl.length
      · have hgw := grown_trans HW2.out hg
        have k5 := hg.cell K5.out (by simp)
        obtain ⟨bP, oP, rfl, cP⟩ := HRD.out.cel k hlt
        replace cP := hg.cell cP (by simp)
        obtain ⟨bA, oA, x1, x2, x3, q1, m1, d1, q2, m2, d2, q3, m3, d3, x7, rfl, hck, a0, a1, a2, a3, a4, a5, a6⟩ := HCC.out k hlt
        replace a0 := hgw.cell a0 (by simp); replace a1 := hgw.cell a1 (by simp); replace a2 := hgw.cell a2 (by simp); replace a3 := hgw.cell a3 (by simp); replace a4 := hgw.cell a4 (by simp); replace a5 := hgw.cell a5 (by simp); replace a6 := hgw.cell a6 (by simp)
        have HC := hid (HX.out k hlt hlt wr hgw)
        rw [hck] at HC
        rw [scan_step hlt] at hsc
        clear hck
        generalize X k = v at *
        by_cases hv : v = 0
        · subst hv
          rw [if_pos rfl] at hsc
          go_wp2_with (go_at_call 60; refine HC.out.mono ?_; rintro e w3 ⟨rfl, hg3⟩)
          exact ⟨⟨k + 1, by omega, by go_num, grown_trans hg hg3, hsc⟩, by simp [intOf]; omega⟩
        · rw [if_neg hv] at hsc
          obtain rfl := hsc.out
          go_wp2_with (go_at_call 60; refine HC.out.mono ?_; rintro e w3 ⟨rfl, hg3⟩)
          go_ret
          exact ⟨rfl, grown_trans hgw hg3⟩
      · obtain rfl : k = pl.length := by omega
        obtain rfl : x = 0 := by
          have := hsc.out
          rw [Nat.sub_self] at this
          exact this.symm
        go_wp2_with fail
        go_ret
        exact ⟨rfl, grown_trans HW2.out hg⟩
  · rw [if_neg ht] at hx
    obtain rfl := hx
    go_enter Tryz.func60, Tryz.ntmps60
    go_upto_region 1 with fail
    generalize (w.alloc _) = w0 at *
    go_wp2_with (go_at_call 112; refine (HT.out _ hW).mono ?_; rintro e w1 ⟨rfl, hg⟩; replace hW := grown_trans hW hg; clear hg)
    go_ret
    exact ⟨rfl, hW⟩
end Go.Proofs.YtiaonbofkgkdhaaGreatDoor

set_option linter.unusedVariables false
set_option linter.unusedSimpArgs false
namespace Go.Proofs.YtiaonbofkgkdhaaGreatDoor
open Go.RowKit _root_.Nm Ax Lx
set_option maxHeartbeats 16000000 in
set_option maxRecDepth 100000 in
theorem check_bad (m : Nat) (h : Hd) (l : List Tr) (e1 : Int) (e2 : ByteArray) (e3 : Bool) (p1 : Option Addr) (n1 c1 : Nat) (p2 : Option Addr) (n2 c2 : Nat) (p3 : Option Addr) (n3 c3 : Nat) (e7 : Int) (s : Int) (hs : 0 ≤ s ∧ s ≤ 4) (R : Bool) (w : World) (hE : ERd w m [.int .i64 e1, .string e2, .bool e3, .slice p1 n1 c1, .slice p2 n2 c2, .slice p3 n3 c3, .int .i64 e7] (.node h l)) (hk : h.k = e1) (hR : RatOk w e1 e3 p1 n1 c1 p2 n2 c2 R) (hnm : e2.size ≤ maxLen) (hn3 : n3 ≤ 1048576)
    (hne : topE e1 s e2.data.toList n3 R ≠ 0) :
    Calls Tryz.prog 66 #[.agg #[.int .i64 e1, .string e2, .bool e3, .slice p1 n1 c1, .slice p2 n2 c2, .slice p3 n3 c3, .int .i64 e7], .int .i64 s] w fun e w' => e = .returned (.int .i64 (topE e1 s e2.data.toList n3 R)) ∧ w.grownBy w' none := by
  subst hk
  have HF := hid fun w' (hg : w.grownBy w' none) => rofE_any m _ h l s hs w' (hE.keep hg)
  have HN := hid fun w => rIsName_any e2 e2.data.toList rfl w
  have HP := hid fun w => rparams_any h.k w
  have HH := hid fun w => rHasRatio_any h.k w
  have HR1 := hid hR.rright
  have HR2 := hid fun hb W (hW : w.grownBy W none) => none_any e3 p1 p2 n1 c1 n2 c2 R (hR.none hb) W
  clear hE hR hnm hs
  have hpl : (prm h.k).length ≤ 6 := prm_len h.k
  have hW := World.grownBy_alloc w (.cells #[.int .i64 h.k, .string e2, .bool e3, .slice p1 n1 c1, .slice p2 n2 c2, .slice p3 n3 c3, .int .i64 e7] 43 (0, 0)) none
  obtain ⟨⟨k0, k1, k2, k3, k4, k5, k6⟩, -⟩ := box7 (blk0 w (.cells #[.int .i64 h.k, .string e2, .bool e3, .slice p1 n1 c1, .slice p2 n2 c2, .slice p3 n3 c3, .int .i64 e7] 43 (0, 0)))
  obtain ⟨f, hf⟩ : ∃ f, f = fitB h.k s := ⟨_, rfl⟩
  obtain ⟨nb, hnb⟩ : ∃ f, f = isNm e2.data.toList := ⟨_, rfl⟩
  obtain ⟨rb, hrb⟩ : ∃ f, f = ratB h.k := ⟨_, rfl⟩
  unfold topE at hne ⊢
  rw [← hf, ← hnb] at hne ⊢
  rw [← hf] at HF
  rw [← hnb] at HN
  rw [← hrb] at HH HR1 HR2
  generalize (prm h.k) = pl at *
  clear hf hnb hrb
  generalize h.k = e1 at *
  cases f
  · clear hne
    go_enter Tryz.func66, Tryz.ntmps66
    go_upto_region 1 with fail
    generalize (w.alloc _) = w0 at *
    go_wp2_with (first | (go_at_call 115; refine (HF.out _ hW).mono ?_; rintro e w1 ⟨rfl, hg⟩; replace hW := grown_trans hW hg; replace k0 := hg.cell k0 (by simp); replace k1 := hg.cell k1 (by simp); replace k2 := hg.cell k2 (by simp); replace k3 := hg.cell k3 (by simp); replace k4 := hg.cell k4 (by simp); replace k5 := hg.cell k5 (by simp); replace k6 := hg.cell k6 (by simp); clear hg) | (go_at_call 105; refine (HN.out _).mono ?_; rintro e w1 ⟨rfl, hg⟩; replace hW := grown_trans hW hg; replace k0 := hg.cell k0 (by simp); replace k1 := hg.cell k1 (by simp); replace k2 := hg.cell k2 (by simp); replace k3 := hg.cell k3 (by simp); replace k4 := hg.cell k4 (by simp); replace k5 := hg.cell k5 (by simp); replace k6 := hg.cell k6 (by simp); clear hg) | (go_at_call 68; refine (HH.out _).mono ?_; rintro e w1 ⟨rfl, hg⟩; replace hW := grown_trans hW hg; replace k0 := hg.cell k0 (by simp); replace k1 := hg.cell k1 (by simp); replace k2 := hg.cell k2 (by simp); replace k3 := hg.cell k3 (by simp); replace k4 := hg.cell k4 (by simp); replace k5 := hg.cell k5 (by simp); replace k6 := hg.cell k6 (by simp); clear hg) | (go_at_call 47; refine (HR1.out (by first | rfl | trivial) _ hW).mono ?_; rintro e w1 ⟨rfl, hg⟩; replace hW := grown_trans hW hg; replace k0 := hg.cell k0 (by simp); replace k1 := hg.cell k1 (by simp); replace k2 := hg.cell k2 (by simp); replace k3 := hg.cell k3 (by simp); replace k4 := hg.cell k4 (by simp); replace k5 := hg.cell k5 (by simp); replace k6 := hg.cell k6 (by simp); clear hg) | (go_at_call 117; refine (HR2.out (by first | rfl | trivial) _ hW).mono ?_; rintro e w1 ⟨rfl, hg⟩; replace hW := grown_trans hW hg; replace k0 := hg.cell k0 (by simp); replace k1 := hg.cell k1 (by simp); replace k2 := hg.cell k2 (by simp); replace k3 := hg.cell k3 (by simp); replace k4 := hg.cell k4 (by simp); replace k5 := hg.cell k5 (by simp); replace k6 := hg.cell k6 (by simp); clear hg))
    go_ret
    exact ⟨by simp, hW⟩
  · by_cases hk : e1 = 1
    · subst hk
      cases nb
      · clear hne
        go_enter Tryz.func66, Tryz.ntmps66
        go_upto_region 1 with fail
        generalize (w.alloc _) = w0 at *
        go_wp2_with (first | (go_at_call 115; refine (HF.out _ hW).mono ?_; rintro e w1 ⟨rfl, hg⟩; replace hW := grown_trans hW hg; replace k0 := hg.cell k0 (by simp); replace k1 := hg.cell k1 (by simp); replace k2 := hg.cell k2 (by simp); replace k3 := hg.cell k3 (by simp); replace k4 := hg.cell k4 (by simp); replace k5 := hg.cell k5 (by simp); replace k6 := hg.cell k6 (by simp); clear hg) | (go_at_call 105; refine (HN.out _).mono ?_; rintro e w1 ⟨rfl, hg⟩; replace hW := grown_trans hW hg; replace k0 := hg.cell k0 (by simp); replace k1 := hg.cell k1 (by simp); replace k2 := hg.cell k2 (by simp); replace k3 := hg.cell k3 (by simp); replace k4 := hg.cell k4 (by simp); replace k5 := hg.cell k5 (by simp); replace k6 := hg.cell k6 (by simp); clear hg) | (go_at_call 68; refine (HH.out _).mono ?_; rintro e w1 ⟨rfl, hg⟩; replace hW := grown_trans hW hg; replace k0 := hg.cell k0 (by simp); replace k1 := hg.cell k1 (by simp); replace k2 := hg.cell k2 (by simp); replace k3 := hg.cell k3 (by simp); replace k4 := hg.cell k4 (by simp); replace k5 := hg.cell k5 (by simp); replace k6 := hg.cell k6 (by simp); clear hg) | (go_at_call 47; refine (HR1.out (by first | rfl | trivial) _ hW).mono ?_; rintro e w1 ⟨rfl, hg⟩; replace hW := grown_trans hW hg; replace k0 := hg.cell k0 (by simp); replace k1 := hg.cell k1 (by simp); replace k2 := hg.cell k2 (by simp); replace k3 := hg.cell k3 (by simp); replace k4 := hg.cell k4 (by simp); replace k5 := hg.cell k5 (by simp); replace k6 := hg.cell k6 (by simp); clear hg) | (go_at_call 117; refine (HR2.out (by first | rfl | trivial) _ hW).mono ?_; rintro e w1 ⟨rfl, hg⟩; replace hW := grown_trans hW hg; replace k0 := hg.cell k0 (by simp); replace k1 := hg.cell k1 (by simp); replace k2 := hg.cell k2 (by simp); replace k3 := hg.cell k3 (by simp); replace k4 := hg.cell k4 (by simp); replace k5 := hg.cell k5 (by simp); replace k6 := hg.cell k6 (by simp); clear hg))
        go_ret
        exact ⟨by simp, hW⟩
      · by_cases hlen : n3 = pl.length
        · subst hlen
          cases R
          · clear hne
            cases rb
            all_goals
              go_enter Tryz.func66, Tryz.ntmps66
              go_upto_region 1 with fail
              generalize (w.alloc _) = w0 at *
              go_upto_region 5 with (first | (go_at_call 115; refine (HF.out _ hW).mono ?_; rintro e w1 ⟨rfl, hg⟩; replace hW := grown_trans hW hg; replace k0 := hg.cell k0 (by simp); replace k1 := hg.cell k1 (by simp); replace k2 := hg.cell k2 (by simp); replace k3 := hg.cell k3 (by simp); replace k4 := hg.cell k4 (by simp); replace k5 := hg.cell k5 (by simp); replace k6 := hg.cell k6 (by simp); clear hg) | (go_at_call 105; refine (HN.out _).mono ?_; rintro e w1 ⟨rfl, hg⟩; replace hW := grown_trans hW hg; replace k0 := hg.cell k0 (by simp); replace k1 := hg.cell k1 (by simp); replace k2 := hg.cell k2 (by simp); replace k3 := hg.cell k3 (by simp); replace k4 := hg.cell k4 (by simp); replace k5 := hg.cell k5 (by simp); replace k6 := hg.cell k6 (by simp); clear hg) | (go_at_call 68; refine (HH.out _).mono ?_; rintro e w1 ⟨rfl, hg⟩; replace hW := grown_trans hW hg; replace k0 := hg.cell k0 (by simp); replace k1 := hg.cell k1 (by simp); replace k2 := hg.cell k2 (by simp); replace k3 := hg.cell k3 (by simp); replace k4 := hg.cell k4 (by simp); replace k5 := hg.cell k5 (by simp); replace k6 := hg.cell k6 (by simp); clear hg) | (go_at_call 47; refine (HR1.out (by first | rfl | trivial) _ hW).mono ?_; rintro e w1 ⟨rfl, hg⟩; replace hW := grown_trans hW hg; replace k0 := hg.cell k0 (by simp); replace k1 := hg.cell k1 (by simp); replace k2 := hg.cell k2 (by simp); replace k3 := hg.cell k3 (by simp); replace k4 := hg.cell k4 (by simp); replace k5 := hg.cell k5 (by simp); replace k6 := hg.cell k6 (by simp); clear hg) | (go_at_call 117; refine (HR2.out (by first | rfl | trivial) _ hW).mono ?_; rintro e w1 ⟨rfl, hg⟩; replace hW := grown_trans hW hg; replace k0 := hg.cell k0 (by simp); replace k1 := hg.cell k1 (by simp); replace k2 := hg.cell k2 (by simp); replace k3 := hg.cell k3 (by simp); replace k4 := hg.cell k4 (by simp); replace k5 := hg.cell k5 (by simp); replace k6 := hg.cell k6 (by simp); clear hg))
              refine wp_region_noPanic ?_
              refine wp_region_held_drew (S := (fun w' => w'.cell? ⟨w.heap.size, 0, none⟩ = some (.int .i64 1) ∧ w'.cell? ⟨w.heap.size, 1, none⟩ = some (.string e2) ∧ w'.cell? ⟨w.heap.size, 2, none⟩ = some (.bool e3) ∧ w'.cell? ⟨w.heap.size, 3, none⟩ = some (.slice p1 n1 c1) ∧ w'.cell? ⟨w.heap.size, 4, none⟩ = some (.slice p2 n2 c2) ∧ w'.cell? ⟨w.heap.size, 5, none⟩ = some (.slice p3 pl.length c3) ∧ w'.cell? ⟨w.heap.size, 6, none⟩ = some (.int .i64 e7) ∧ w.grownBy w' none)) (by kernel_rfl) ?_ (fun hHeld => ?_)
              · ((try go_split_ands) <;> (repeat' apply And.intro) <;> (first | (with_reducible assumption) | (with_reducible refine (grown_drew _ none).cell ?_ (by simp); with_reducible assumption) | (with_reducible refine grown_trans ?_ (grown_drew _ none); with_reducible assumption)))
              (refine wpAnyH_take (i := 0) (oi := Oper.mk _ _ _ _ _ _) (v := ?_) rfl (by kernel_rfl) (by kernel_rfl) (by kernel_rfl) (fun _ _ _ h => h) (Or.inl ⟨by kernel_rfl, ?_⟩) (by assumption) ?_; rotate_left 1; focus (intro w hSw; (try dsimp only at hSw); (try obtain ⟨q0, q1, q2, q3, q4, q5, q6, q7⟩ := hSw); go_simp; (try (with_reducible rfl)); done); (try simp only [Act.put, List.setIfInBounds_toArray, List.set_cons_zero, List.set_cons_succ]))
              (refine wpAnyH_take (i := 1) (oi := Oper.mk _ _ _ _ _ _) (v := ?_) rfl (by kernel_rfl) (by kernel_rfl) (by kernel_rfl) (fun _ _ _ h => h) (Or.inl ⟨by kernel_rfl, ?_⟩) (by assumption) ?_; rotate_left 1; focus (intro w hSw; (try dsimp only at hSw); (try obtain ⟨q0, q1, q2, q3, q4, q5, q6, q7⟩ := hSw); go_simp; (try (with_reducible rfl)); done); (try simp only [Act.put, List.setIfInBounds_toArray, List.set_cons_zero, List.set_cons_succ]))
              (refine wpAnyH_take (i := 2) (oi := Oper.mk _ _ _ _ _ _) (v := ?_) rfl (by kernel_rfl) (by kernel_rfl) (by kernel_rfl) (fun _ _ _ h => h) (Or.inl ⟨by kernel_rfl, ?_⟩) (by assumption) ?_; rotate_left 1; focus (intro w hSw; (try dsimp only at hSw); (try obtain ⟨q0, q1, q2, q3, q4, q5, q6, q7⟩ := hSw); go_simp; (try (with_reducible rfl)); done); (try simp only [Act.put, List.setIfInBounds_toArray, List.set_cons_zero, List.set_cons_succ]))
              (refine wpAnyH_take (i := 3) (oi := Oper.mk _ _ _ _ _ _) (v := ?_) rfl (by kernel_rfl) (by kernel_rfl) (by kernel_rfl) (fun _ _ _ h => h) (Or.inl ⟨by kernel_rfl, ?_⟩) (by assumption) ?_; rotate_left 1; focus (intro w hSw; (try dsimp only at hSw); (try obtain ⟨q0, q1, q2, q3, q4, q5, q6, q7⟩ := hSw); go_simp; (try (with_reducible rfl)); done); (try simp only [Act.put, List.setIfInBounds_toArray, List.set_cons_zero, List.set_cons_succ]))
              (refine wpAnyH_take (i := 4) (oi := Oper.mk _ _ _ _ _ _) (v := undef) rfl (by kernel_rfl) (by kernel_rfl) (by kernel_rfl) (fun _ _ _ h => h) (Or.inr ⟨by kernel_rfl, rfl⟩) (by assumption) ?_; (try simp only [Act.put, List.setIfInBounds_toArray, List.set_cons_zero, List.set_cons_succ]))
              (refine wpAnyH_take (i := 5) (oi := Oper.mk _ _ _ _ _ _) (v := undef) rfl (by kernel_rfl) (by kernel_rfl) (by kernel_rfl) (fun _ _ _ h => h) (Or.inr ⟨by kernel_rfl, rfl⟩) (by assumption) ?_; (try simp only [Act.put, List.setIfInBounds_toArray, List.set_cons_zero, List.set_cons_succ]))
              (refine wpAnyH_take (i := 6) (oi := Oper.mk _ _ _ _ _ _) (v := undef) rfl (by kernel_rfl) (by kernel_rfl) (by kernel_rfl) (fun _ _ _ h => h) (Or.inr ⟨by kernel_rfl, rfl⟩) (by assumption) ?_; (try simp only [Act.put, List.setIfInBounds_toArray, List.set_cons_zero, List.set_cons_succ]))
              (refine wpAnyH_take (i := 7) (oi := Oper.mk _ _ _ _ _ _) (v := ?_) rfl (by kernel_rfl) (by kernel_rfl) (by kernel_rfl) (fun _ _ _ h => h) (Or.inl ⟨by kernel_rfl, ?_⟩) (by assumption) ?_; rotate_left 1; focus (intro w hSw; (try dsimp only at hSw); (try obtain ⟨q0, q1, q2, q3, q4, q5, q6, q7⟩ := hSw); go_simp; (try (with_reducible rfl)); done); (try simp only [Act.put, List.setIfInBounds_toArray, List.set_cons_zero, List.set_cons_succ]))
              (refine wpAnyH_take (i := 8) (oi := Oper.mk _ _ _ _ _ _) (v := ?_) rfl (by kernel_rfl) (by kernel_rfl) (by kernel_rfl) (fun _ _ _ h => h) (Or.inl ⟨by kernel_rfl, ?_⟩) (by assumption) ?_; rotate_left 1; focus (intro w hSw; (try dsimp only at hSw); (try obtain ⟨q0, q1, q2, q3, q4, q5, q6, q7⟩ := hSw); go_simp; (try (with_reducible rfl)); done); (try simp only [Act.put, List.setIfInBounds_toArray, List.set_cons_zero, List.set_cons_succ]))
              (refine wpAnyH_take (i := 9) (oi := Oper.mk _ _ _ _ _ _) (v := ?_) rfl (by kernel_rfl) (by kernel_rfl) (by kernel_rfl) (fun _ _ _ h => h) (Or.inl ⟨by kernel_rfl, ?_⟩) (by assumption) ?_; rotate_left 1; focus (intro w hSw; (try dsimp only at hSw); (try obtain ⟨q0, q1, q2, q3, q4, q5, q6, q7⟩ := hSw); go_simp; (try (with_reducible rfl)); done); (try simp only [Act.put, List.setIfInBounds_toArray, List.set_cons_zero, List.set_cons_succ]))
              (refine wpAnyH_take (i := 10) (oi := Oper.mk _ _ _ _ _ _) (v := ?_) rfl (by kernel_rfl) (by kernel_rfl) (by kernel_rfl) (fun _ _ _ h => h) (Or.inl ⟨by kernel_rfl, ?_⟩) (by assumption) ?_; rotate_left 1; focus (intro w hSw; (try dsimp only at hSw); (try obtain ⟨q0, q1, q2, q3, q4, q5, q6, q7⟩ := hSw); go_simp; (try (with_reducible rfl)); done); (try simp only [Act.put, List.setIfInBounds_toArray, List.set_cons_zero, List.set_cons_succ]))
              (refine wpAnyH_take (i := 11) (oi := Oper.mk _ _ _ _ _ _) (v := ?_) rfl (by kernel_rfl) (by kernel_rfl) (by kernel_rfl) (fun _ _ _ h => h) (Or.inl ⟨by kernel_rfl, ?_⟩) (by assumption) ?_; rotate_left 1; focus (intro w hSw; (try dsimp only at hSw); (try obtain ⟨q0, q1, q2, q3, q4, q5, q6, q7⟩ := hSw); go_simp; (try (with_reducible rfl)); done); (try simp only [Act.put, List.setIfInBounds_toArray, List.set_cons_zero, List.set_cons_succ]))
              (refine wpAnyH_take (i := 12) (oi := Oper.mk _ _ _ _ _ _) (v := ?_) rfl (by kernel_rfl) (by kernel_rfl) (by kernel_rfl) (fun _ _ _ h => h) (Or.inl ⟨by kernel_rfl, ?_⟩) (by assumption) ?_; rotate_left 1; focus (intro w hSw; (try dsimp only at hSw); (try obtain ⟨q0, q1, q2, q3, q4, q5, q6, q7⟩ := hSw); go_simp; (try (with_reducible rfl)); done); (try simp only [Act.put, List.setIfInBounds_toArray, List.set_cons_zero, List.set_cons_succ]))
              (refine wpAnyH_take (i := 13) (oi := Oper.mk _ _ _ _ _ _) (v := ?_) rfl (by kernel_rfl) (by kernel_rfl) (by kernel_rfl) (fun _ _ _ h => h) (Or.inl ⟨by kernel_rfl, ?_⟩) (by assumption) ?_; rotate_left 1; focus (intro w hSw; (try dsimp only at hSw); (try obtain ⟨q0, q1, q2, q3, q4, q5, q6, q7⟩ := hSw); go_simp; (try (with_reducible rfl)); done); (try simp only [Act.put, List.setIfInBounds_toArray, List.set_cons_zero, List.set_cons_succ]))
              refine wpAnyH_ready (rs := [14]) (by kernel_rfl) (by simp) ?_
              refine AllReadyH.cons (o := Oper.mk _ _ _ _ _ _) rfl (fun K hK => ?_) AllReadyH.nil
              (try rw [if_pos (by kernel_rfl)])
              (first | (go_at_call 116; (with_reducible refine (HP.out _).mono ?_); rintro e v3 ⟨pp, nn, cc, rfl, hfr, hrd, hg⟩; obtain rfl := hrd.len; (first | replace hW := grown_trans hW hg | replace hW := grown_trans (grown_trans hW (grown_drew _ none)) hg); replace k0 := hg.cell k0 (by simp); replace k1 := hg.cell k1 (by simp); replace k2 := hg.cell k2 (by simp); replace k3 := hg.cell k3 (by simp); replace k4 := hg.cell k4 (by simp); replace k5 := hg.cell k5 (by simp); replace k6 := hg.cell k6 (by simp); clear hfr hrd) | (go_simp; (go_at_call 116; (with_reducible refine (HP.out _).mono ?_); rintro e v3 ⟨pp, nn, cc, rfl, hfr, hrd, hg⟩; obtain rfl := hrd.len; (first | replace hW := grown_trans hW hg | replace hW := grown_trans (grown_trans hW (grown_drew _ none)) hg); replace k0 := hg.cell k0 (by simp); replace k1 := hg.cell k1 (by simp); replace k2 := hg.cell k2 (by simp); replace k3 := hg.cell k3 (by simp); replace k4 := hg.cell k4 (by simp); replace k5 := hg.cell k5 (by simp); replace k6 := hg.cell k6 (by simp); clear hfr hrd)))
              refine hK.out _ _ ?_ (fun hNew => ?_)
              · (try dsimp only)
                ((try go_split_ands) <;> (repeat' apply And.intro) <;> (first | (with_reducible assumption) | (with_reducible refine (grown_drew _ none).cell ?_ (by simp); with_reducible assumption) | (with_reducible refine grown_trans ?_ (grown_drew _ none); with_reducible assumption)))
              clear hK K hHeld
              have hHeld := hNew
              clear hNew
              (try simp only [Act.put, List.setIfInBounds_toArray, List.set_cons_zero, List.set_cons_succ])
              (refine wpAnyH_take (i := 15) (oi := Oper.mk _ _ _ _ _ _) (v := ?_) rfl (by kernel_rfl) (by kernel_rfl) (by kernel_rfl) (fun _ _ _ h => h) (Or.inl ⟨by kernel_rfl, ?_⟩) (by assumption) ?_; rotate_left 1; focus (intro w hSw; (try dsimp only at hSw); (try obtain ⟨q0, q1, q2, q3, q4, q5, q6, q7⟩ := hSw); go_simp; (try (with_reducible rfl)); done); (try simp only [Act.put, List.setIfInBounds_toArray, List.set_cons_zero, List.set_cons_succ]))
              (refine wpAnyH_take (i := 16) (oi := Oper.mk _ _ _ _ _ _) (v := ?_) rfl (by kernel_rfl) (by kernel_rfl) (by kernel_rfl) (fun _ _ _ h => h) (Or.inl ⟨by kernel_rfl, ?_⟩) (by assumption) ?_; rotate_left 1; focus (intro w hSw; (try dsimp only at hSw); (try obtain ⟨q0, q1, q2, q3, q4, q5, q6, q7⟩ := hSw); go_simp; (try (with_reducible rfl)); done); (try simp only [Act.put, List.setIfInBounds_toArray, List.set_cons_zero, List.set_cons_succ]))
              (refine wpAnyH_take (i := 17) (oi := Oper.mk _ _ _ _ _ _) (v := ?_) rfl (by kernel_rfl) (by kernel_rfl) (by kernel_rfl) (fun _ _ _ h => h) (Or.inl ⟨by kernel_rfl, ?_⟩) (by assumption) ?_; rotate_left 1; focus (intro w hSw; (try dsimp only at hSw); (try obtain ⟨q0, q1, q2, q3, q4, q5, q6, q7⟩ := hSw); go_simp; (try (with_reducible rfl)); done); (try simp only [Act.put, List.setIfInBounds_toArray, List.set_cons_zero, List.set_cons_succ]))
              refine wpAnyH_done (by kernel_rfl) ?_ _
              refine NoPanic.normal ?_
              go_wp2_with (first | (go_at_call 115; refine (HF.out _ hW).mono ?_; rintro e w1 ⟨rfl, hg⟩; replace hW := grown_trans hW hg; replace k0 := hg.cell k0 (by simp); replace k1 := hg.cell k1 (by simp); replace k2 := hg.cell k2 (by simp); replace k3 := hg.cell k3 (by simp); replace k4 := hg.cell k4 (by simp); replace k5 := hg.cell k5 (by simp); replace k6 := hg.cell k6 (by simp); clear hg) | (go_at_call 105; refine (HN.out _).mono ?_; rintro e w1 ⟨rfl, hg⟩; replace hW := grown_trans hW hg; replace k0 := hg.cell k0 (by simp); replace k1 := hg.cell k1 (by simp); replace k2 := hg.cell k2 (by simp); replace k3 := hg.cell k3 (by simp); replace k4 := hg.cell k4 (by simp); replace k5 := hg.cell k5 (by simp); replace k6 := hg.cell k6 (by simp); clear hg) | (go_at_call 68; refine (HH.out _).mono ?_; rintro e w1 ⟨rfl, hg⟩; replace hW := grown_trans hW hg; replace k0 := hg.cell k0 (by simp); replace k1 := hg.cell k1 (by simp); replace k2 := hg.cell k2 (by simp); replace k3 := hg.cell k3 (by simp); replace k4 := hg.cell k4 (by simp); replace k5 := hg.cell k5 (by simp); replace k6 := hg.cell k6 (by simp); clear hg) | (go_at_call 47; refine (HR1.out (by first | rfl | trivial) _ hW).mono ?_; rintro e w1 ⟨rfl, hg⟩; replace hW := grown_trans hW hg; replace k0 := hg.cell k0 (by simp); replace k1 := hg.cell k1 (by simp); replace k2 := hg.cell k2 (by simp); replace k3 := hg.cell k3 (by simp); replace k4 := hg.cell k4 (by simp); replace k5 := hg.cell k5 (by simp); replace k6 := hg.cell k6 (by simp); clear hg) | (go_at_call 117; refine (HR2.out (by first | rfl | trivial) _ hW).mono ?_; rintro e w1 ⟨rfl, hg⟩; replace hW := grown_trans hW hg; replace k0 := hg.cell k0 (by simp); replace k1 := hg.cell k1 (by simp); replace k2 := hg.cell k2 (by simp); replace k3 := hg.cell k3 (by simp); replace k4 := hg.cell k4 (by simp); replace k5 := hg.cell k5 (by simp); replace k6 := hg.cell k6 (by simp); clear hg))
              go_ret
              exact ⟨by simp, hW⟩
          · exact absurd (by simp) hne
        · clear hne
          have hz : ((n3 : Int) != (pl.length : Int)) = true := by simp; omega
          go_enter Tryz.func66, Tryz.ntmps66
          go_upto_region 1 with fail
          generalize (w.alloc _) = w0 at *
          go_upto_region 5 with (first | (go_at_call 115; refine (HF.out _ hW).mono ?_; rintro e w1 ⟨rfl, hg⟩; replace hW := grown_trans hW hg; replace k0 := hg.cell k0 (by simp); replace k1 := hg.cell k1 (by simp); replace k2 := hg.cell k2 (by simp); replace k3 := hg.cell k3 (by simp); replace k4 := hg.cell k4 (by simp); replace k5 := hg.cell k5 (by simp); replace k6 := hg.cell k6 (by simp); clear hg) | (go_at_call 105; refine (HN.out _).mono ?_; rintro e w1 ⟨rfl, hg⟩; replace hW := grown_trans hW hg; replace k0 := hg.cell k0 (by simp); replace k1 := hg.cell k1 (by simp); replace k2 := hg.cell k2 (by simp); replace k3 := hg.cell k3 (by simp); replace k4 := hg.cell k4 (by simp); replace k5 := hg.cell k5 (by simp); replace k6 := hg.cell k6 (by simp); clear hg) | (go_at_call 68; refine (HH.out _).mono ?_; rintro e w1 ⟨rfl, hg⟩; replace hW := grown_trans hW hg; replace k0 := hg.cell k0 (by simp); replace k1 := hg.cell k1 (by simp); replace k2 := hg.cell k2 (by simp); replace k3 := hg.cell k3 (by simp); replace k4 := hg.cell k4 (by simp); replace k5 := hg.cell k5 (by simp); replace k6 := hg.cell k6 (by simp); clear hg) | (go_at_call 47; refine (HR1.out (by first | rfl | trivial) _ hW).mono ?_; rintro e w1 ⟨rfl, hg⟩; replace hW := grown_trans hW hg; replace k0 := hg.cell k0 (by simp); replace k1 := hg.cell k1 (by simp); replace k2 := hg.cell k2 (by simp); replace k3 := hg.cell k3 (by simp); replace k4 := hg.cell k4 (by simp); replace k5 := hg.cell k5 (by simp); replace k6 := hg.cell k6 (by simp); clear hg) | (go_at_call 117; refine (HR2.out (by first | rfl | trivial) _ hW).mono ?_; rintro e w1 ⟨rfl, hg⟩; replace hW := grown_trans hW hg; replace k0 := hg.cell k0 (by simp); replace k1 := hg.cell k1 (by simp); replace k2 := hg.cell k2 (by simp); replace k3 := hg.cell k3 (by simp); replace k4 := hg.cell k4 (by simp); replace k5 := hg.cell k5 (by simp); replace k6 := hg.cell k6 (by simp); clear hg))
          refine wp_region_noPanic ?_
          refine wp_region_held_drew (S := (fun w' => w'.cell? ⟨w.heap.size, 0, none⟩ = some (.int .i64 1) ∧ w'.cell? ⟨w.heap.size, 1, none⟩ = some (.string e2) ∧ w'.cell? ⟨w.heap.size, 2, none⟩ = some (.bool e3) ∧ w'.cell? ⟨w.heap.size, 3, none⟩ = some (.slice p1 n1 c1) ∧ w'.cell? ⟨w.heap.size, 4, none⟩ = some (.slice p2 n2 c2) ∧ w'.cell? ⟨w.heap.size, 5, none⟩ = some (.slice p3 n3 c3) ∧ w'.cell? ⟨w.heap.size, 6, none⟩ = some (.int .i64 e7) ∧ w.grownBy w' none)) (by kernel_rfl) ?_ (fun hHeld => ?_)
          · ((try go_split_ands) <;> (repeat' apply And.intro) <;> (first | (with_reducible assumption) | (with_reducible refine (grown_drew _ none).cell ?_ (by simp); with_reducible assumption) | (with_reducible refine grown_trans ?_ (grown_drew _ none); with_reducible assumption)))
          (refine wpAnyH_take (i := 0) (oi := Oper.mk _ _ _ _ _ _) (v := ?_) rfl (by kernel_rfl) (by kernel_rfl) (by kernel_rfl) (fun _ _ _ h => h) (Or.inl ⟨by kernel_rfl, ?_⟩) (by assumption) ?_; rotate_left 1; focus (intro w hSw; (try dsimp only at hSw); (try obtain ⟨q0, q1, q2, q3, q4, q5, q6, q7⟩ := hSw); go_simp; (try (with_reducible rfl)); done); (try simp only [Act.put, List.setIfInBounds_toArray, List.set_cons_zero, List.set_cons_succ]))
          (refine wpAnyH_take (i := 1) (oi := Oper.mk _ _ _ _ _ _) (v := ?_) rfl (by kernel_rfl) (by kernel_rfl) (by kernel_rfl) (fun _ _ _ h => h) (Or.inl ⟨by kernel_rfl, ?_⟩) (by assumption) ?_; rotate_left 1; focus (intro w hSw; (try dsimp only at hSw); (try obtain ⟨q0, q1, q2, q3, q4, q5, q6, q7⟩ := hSw); go_simp; (try (with_reducible rfl)); done); (try simp only [Act.put, List.setIfInBounds_toArray, List.set_cons_zero, List.set_cons_succ]))
          (refine wpAnyH_take (i := 2) (oi := Oper.mk _ _ _ _ _ _) (v := ?_) rfl (by kernel_rfl) (by kernel_rfl) (by kernel_rfl) (fun _ _ _ h => h) (Or.inl ⟨by kernel_rfl, ?_⟩) (by assumption) ?_; rotate_left 1; focus (intro w hSw; (try dsimp only at hSw); (try obtain ⟨q0, q1, q2, q3, q4, q5, q6, q7⟩ := hSw); go_simp; (try (with_reducible rfl)); done); (try simp only [Act.put, List.setIfInBounds_toArray, List.set_cons_zero, List.set_cons_succ]))
          (refine wpAnyH_take (i := 3) (oi := Oper.mk _ _ _ _ _ _) (v := ?_) rfl (by kernel_rfl) (by kernel_rfl) (by kernel_rfl) (fun _ _ _ h => h) (Or.inl ⟨by kernel_rfl, ?_⟩) (by assumption) ?_; rotate_left 1; focus (intro w hSw; (try dsimp only at hSw); (try obtain ⟨q0, q1, q2, q3, q4, q5, q6, q7⟩ := hSw); go_simp; (try (with_reducible rfl)); done); (try simp only [Act.put, List.setIfInBounds_toArray, List.set_cons_zero, List.set_cons_succ]))
          (refine wpAnyH_take (i := 4) (oi := Oper.mk _ _ _ _ _ _) (v := undef) rfl (by kernel_rfl) (by kernel_rfl) (by kernel_rfl) (fun _ _ _ h => h) (Or.inr ⟨by kernel_rfl, rfl⟩) (by assumption) ?_; (try simp only [Act.put, List.setIfInBounds_toArray, List.set_cons_zero, List.set_cons_succ]))
          (refine wpAnyH_take (i := 5) (oi := Oper.mk _ _ _ _ _ _) (v := undef) rfl (by kernel_rfl) (by kernel_rfl) (by kernel_rfl) (fun _ _ _ h => h) (Or.inr ⟨by kernel_rfl, rfl⟩) (by assumption) ?_; (try simp only [Act.put, List.setIfInBounds_toArray, List.set_cons_zero, List.set_cons_succ]))
          (refine wpAnyH_take (i := 6) (oi := Oper.mk _ _ _ _ _ _) (v := undef) rfl (by kernel_rfl) (by kernel_rfl) (by kernel_rfl) (fun _ _ _ h => h) (Or.inr ⟨by kernel_rfl, rfl⟩) (by assumption) ?_; (try simp only [Act.put, List.setIfInBounds_toArray, List.set_cons_zero, List.set_cons_succ]))
          (refine wpAnyH_take (i := 7) (oi := Oper.mk _ _ _ _ _ _) (v := ?_) rfl (by kernel_rfl) (by kernel_rfl) (by kernel_rfl) (fun _ _ _ h => h) (Or.inl ⟨by kernel_rfl, ?_⟩) (by assumption) ?_; rotate_left 1; focus (intro w hSw; (try dsimp only at hSw); (try obtain ⟨q0, q1, q2, q3, q4, q5, q6, q7⟩ := hSw); go_simp; (try (with_reducible rfl)); done); (try simp only [Act.put, List.setIfInBounds_toArray, List.set_cons_zero, List.set_cons_succ]))
          (refine wpAnyH_take (i := 8) (oi := Oper.mk _ _ _ _ _ _) (v := ?_) rfl (by kernel_rfl) (by kernel_rfl) (by kernel_rfl) (fun _ _ _ h => h) (Or.inl ⟨by kernel_rfl, ?_⟩) (by assumption) ?_; rotate_left 1; focus (intro w hSw; (try dsimp only at hSw); (try obtain ⟨q0, q1, q2, q3, q4, q5, q6, q7⟩ := hSw); go_simp; (try (with_reducible rfl)); done); (try simp only [Act.put, List.setIfInBounds_toArray, List.set_cons_zero, List.set_cons_succ]))
          (refine wpAnyH_take (i := 9) (oi := Oper.mk _ _ _ _ _ _) (v := ?_) rfl (by kernel_rfl) (by kernel_rfl) (by kernel_rfl) (fun _ _ _ h => h) (Or.inl ⟨by kernel_rfl, ?_⟩) (by assumption) ?_; rotate_left 1; focus (intro w hSw; (try dsimp only at hSw); (try obtain ⟨q0, q1, q2, q3, q4, q5, q6, q7⟩ := hSw); go_simp; (try (with_reducible rfl)); done); (try simp only [Act.put, List.setIfInBounds_toArray, List.set_cons_zero, List.set_cons_succ]))
          (refine wpAnyH_take (i := 10) (oi := Oper.mk _ _ _ _ _ _) (v := ?_) rfl (by kernel_rfl) (by kernel_rfl) (by kernel_rfl) (fun _ _ _ h => h) (Or.inl ⟨by kernel_rfl, ?_⟩) (by assumption) ?_; rotate_left 1; focus (intro w hSw; (try dsimp only at hSw); (try obtain ⟨q0, q1, q2, q3, q4, q5, q6, q7⟩ := hSw); go_simp; (try (with_reducible rfl)); done); (try simp only [Act.put, List.setIfInBounds_toArray, List.set_cons_zero, List.set_cons_succ]))
          (refine wpAnyH_take (i := 11) (oi := Oper.mk _ _ _ _ _ _) (v := ?_) rfl (by kernel_rfl) (by kernel_rfl) (by kernel_rfl) (fun _ _ _ h => h) (Or.inl ⟨by kernel_rfl, ?_⟩) (by assumption) ?_; rotate_left 1; focus (intro w hSw; (try dsimp only at hSw); (try obtain ⟨q0, q1, q2, q3, q4, q5, q6, q7⟩ := hSw); go_simp; (try (with_reducible rfl)); done); (try simp only [Act.put, List.setIfInBounds_toArray, List.set_cons_zero, List.set_cons_succ]))
          (refine wpAnyH_take (i := 12) (oi := Oper.mk _ _ _ _ _ _) (v := ?_) rfl (by kernel_rfl) (by kernel_rfl) (by kernel_rfl) (fun _ _ _ h => h) (Or.inl ⟨by kernel_rfl, ?_⟩) (by assumption) ?_; rotate_left 1; focus (intro w hSw; (try dsimp only at hSw); (try obtain ⟨q0, q1, q2, q3, q4, q5, q6, q7⟩ := hSw); go_simp; (try (with_reducible rfl)); done); (try simp only [Act.put, List.setIfInBounds_toArray, List.set_cons_zero, List.set_cons_succ]))
          (refine wpAnyH_take (i := 13) (oi := Oper.mk _ _ _ _ _ _) (v := ?_) rfl (by kernel_rfl) (by kernel_rfl) (by kernel_rfl) (fun _ _ _ h => h) (Or.inl ⟨by kernel_rfl, ?_⟩) (by assumption) ?_; rotate_left 1; focus (intro w hSw; (try dsimp only at hSw); (try obtain ⟨q0, q1, q2, q3, q4, q5, q6, q7⟩ := hSw); go_simp; (try (with_reducible rfl)); done); (try simp only [Act.put, List.setIfInBounds_toArray, List.set_cons_zero, List.set_cons_succ]))
          refine wpAnyH_ready (rs := [14]) (by kernel_rfl) (by simp) ?_
          refine AllReadyH.cons (o := Oper.mk _ _ _ _ _ _) rfl (fun K hK => ?_) AllReadyH.nil
          (try rw [if_pos (by kernel_rfl)])
          (first | (go_at_call 116; (with_reducible refine (HP.out _).mono ?_); rintro e v3 ⟨pp, nn, cc, rfl, hfr, hrd, hg⟩; obtain rfl := hrd.len; (first | replace hW := grown_trans hW hg | replace hW := grown_trans (grown_trans hW (grown_drew _ none)) hg); replace k0 := hg.cell k0 (by simp); replace k1 := hg.cell k1 (by simp); replace k2 := hg.cell k2 (by simp); replace k3 := hg.cell k3 (by simp); replace k4 := hg.cell k4 (by simp); replace k5 := hg.cell k5 (by simp); replace k6 := hg.cell k6 (by simp); clear hfr hrd) | (go_simp; (go_at_call 116; (with_reducible refine (HP.out _).mono ?_); rintro e v3 ⟨pp, nn, cc, rfl, hfr, hrd, hg⟩; obtain rfl := hrd.len; (first | replace hW := grown_trans hW hg | replace hW := grown_trans (grown_trans hW (grown_drew _ none)) hg); replace k0 := hg.cell k0 (by simp); replace k1 := hg.cell k1 (by simp); replace k2 := hg.cell k2 (by simp); replace k3 := hg.cell k3 (by simp); replace k4 := hg.cell k4 (by simp); replace k5 := hg.cell k5 (by simp); replace k6 := hg.cell k6 (by simp); clear hfr hrd)))
          refine hK.out _ _ ?_ (fun hNew => ?_)
          · (try dsimp only)
            ((try go_split_ands) <;> (repeat' apply And.intro) <;> (first | (with_reducible assumption) | (with_reducible refine (grown_drew _ none).cell ?_ (by simp); with_reducible assumption) | (with_reducible refine grown_trans ?_ (grown_drew _ none); with_reducible assumption)))
          clear hK K hHeld
          have hHeld := hNew
          clear hNew
          (try simp only [Act.put, List.setIfInBounds_toArray, List.set_cons_zero, List.set_cons_succ])
          (refine wpAnyH_take (i := 15) (oi := Oper.mk _ _ _ _ _ _) (v := ?_) rfl (by kernel_rfl) (by kernel_rfl) (by kernel_rfl) (fun _ _ _ h => h) (Or.inl ⟨by kernel_rfl, ?_⟩) (by assumption) ?_; rotate_left 1; focus (intro w hSw; (try dsimp only at hSw); (try obtain ⟨q0, q1, q2, q3, q4, q5, q6, q7⟩ := hSw); go_simp; (try (with_reducible rfl)); done); (try simp only [Act.put, List.setIfInBounds_toArray, List.set_cons_zero, List.set_cons_succ]))
          (refine wpAnyH_take (i := 16) (oi := Oper.mk _ _ _ _ _ _) (v := ?_) rfl (by kernel_rfl) (by kernel_rfl) (by kernel_rfl) (fun _ _ _ h => h) (Or.inl ⟨by kernel_rfl, ?_⟩) (by assumption) ?_; rotate_left 1; focus (intro w hSw; (try dsimp only at hSw); (try obtain ⟨q0, q1, q2, q3, q4, q5, q6, q7⟩ := hSw); go_simp; (try (with_reducible rfl)); done); (try simp only [Act.put, List.setIfInBounds_toArray, List.set_cons_zero, List.set_cons_succ]))
          (refine wpAnyH_take (i := 17) (oi := Oper.mk _ _ _ _ _ _) (v := ?_) rfl (by kernel_rfl) (by kernel_rfl) (by kernel_rfl) (fun _ _ _ h => h) (Or.inl ⟨by kernel_rfl, ?_⟩) (by assumption) ?_; rotate_left 1; focus (intro w hSw; (try dsimp only at hSw); (try obtain ⟨q0, q1, q2, q3, q4, q5, q6, q7⟩ := hSw); go_simp; (try (with_reducible rfl)); done); (try simp only [Act.put, List.setIfInBounds_toArray, List.set_cons_zero, List.set_cons_succ]))
          refine wpAnyH_done (by kernel_rfl) ?_ _
          refine NoPanic.normal ?_
          go_wp2_with fail
          go_ret
          exact ⟨by simp [hlen], hW⟩
    · have hzk : (e1 != 1) = true := by simpa using hk
      have hzk2 : (e1 == 1) = false := by simpa using hk
      by_cases he : e2.data.toList = []
      · have hz0 : e2.toList.isEmpty = true := by simp [Lib.toList_data, he]
        by_cases hlen : n3 = pl.length
        · subst hlen
          cases R
          · clear hne
            cases rb
            all_goals
              go_enter Tryz.func66, Tryz.ntmps66
              go_upto_region 1 with fail
              generalize (w.alloc _) = w0 at *
              go_upto_region 5 with (first | (go_at_call 115; refine (HF.out _ hW).mono ?_; rintro e w1 ⟨rfl, hg⟩; replace hW := grown_trans hW hg; replace k0 := hg.cell k0 (by simp); replace k1 := hg.cell k1 (by simp); replace k2 := hg.cell k2 (by simp); replace k3 := hg.cell k3 (by simp); replace k4 := hg.cell k4 (by simp); replace k5 := hg.cell k5 (by simp); replace k6 := hg.cell k6 (by simp); clear hg) | (go_at_call 105; refine (HN.out _).mono ?_; rintro e w1 ⟨rfl, hg⟩; replace hW := grown_trans hW hg; replace k0 := hg.cell k0 (by simp); replace k1 := hg.cell k1 (by simp); replace k2 := hg.cell k2 (by simp); replace k3 := hg.cell k3 (by simp); replace k4 := hg.cell k4 (by simp); replace k5 := hg.cell k5 (by simp); replace k6 := hg.cell k6 (by simp); clear hg) | (go_at_call 68; refine (HH.out _).mono ?_; rintro e w1 ⟨rfl, hg⟩; replace hW := grown_trans hW hg; replace k0 := hg.cell k0 (by simp); replace k1 := hg.cell k1 (by simp); replace k2 := hg.cell k2 (by simp); replace k3 := hg.cell k3 (by simp); replace k4 := hg.cell k4 (by simp); replace k5 := hg.cell k5 (by simp); replace k6 := hg.cell k6 (by simp); clear hg) | (go_at_call 47; refine (HR1.out (by first | rfl | trivial) _ hW).mono ?_; rintro e w1 ⟨rfl, hg⟩; replace hW := grown_trans hW hg; replace k0 := hg.cell k0 (by simp); replace k1 := hg.cell k1 (by simp); replace k2 := hg.cell k2 (by simp); replace k3 := hg.cell k3 (by simp); replace k4 := hg.cell k4 (by simp); replace k5 := hg.cell k5 (by simp); replace k6 := hg.cell k6 (by simp); clear hg) | (go_at_call 117; refine (HR2.out (by first | rfl | trivial) _ hW).mono ?_; rintro e w1 ⟨rfl, hg⟩; replace hW := grown_trans hW hg; replace k0 := hg.cell k0 (by simp); replace k1 := hg.cell k1 (by simp); replace k2 := hg.cell k2 (by simp); replace k3 := hg.cell k3 (by simp); replace k4 := hg.cell k4 (by simp); replace k5 := hg.cell k5 (by simp); replace k6 := hg.cell k6 (by simp); clear hg))
              refine wp_region_noPanic ?_
              refine wp_region_held_drew (S := (fun w' => w'.cell? ⟨w.heap.size, 0, none⟩ = some (.int .i64 e1) ∧ w'.cell? ⟨w.heap.size, 1, none⟩ = some (.string e2) ∧ w'.cell? ⟨w.heap.size, 2, none⟩ = some (.bool e3) ∧ w'.cell? ⟨w.heap.size, 3, none⟩ = some (.slice p1 n1 c1) ∧ w'.cell? ⟨w.heap.size, 4, none⟩ = some (.slice p2 n2 c2) ∧ w'.cell? ⟨w.heap.size, 5, none⟩ = some (.slice p3 pl.length c3) ∧ w'.cell? ⟨w.heap.size, 6, none⟩ = some (.int .i64 e7) ∧ w.grownBy w' none)) (by kernel_rfl) ?_ (fun hHeld => ?_)
              · ((try go_split_ands) <;> (repeat' apply And.intro) <;> (first | (with_reducible assumption) | (with_reducible refine (grown_drew _ none).cell ?_ (by simp); with_reducible assumption) | (with_reducible refine grown_trans ?_ (grown_drew _ none); with_reducible assumption)))
              (refine wpAnyH_take (i := 0) (oi := Oper.mk _ _ _ _ _ _) (v := ?_) rfl (by kernel_rfl) (by kernel_rfl) (by kernel_rfl) (fun _ _ _ h => h) (Or.inl ⟨by kernel_rfl, ?_⟩) (by assumption) ?_; rotate_left 1; focus (intro w hSw; (try dsimp only at hSw); (try obtain ⟨q0, q1, q2, q3, q4, q5, q6, q7⟩ := hSw); go_simp; (try (with_reducible rfl)); done); (try simp only [Act.put, List.setIfInBounds_toArray, List.set_cons_zero, List.set_cons_succ]))
              (refine wpAnyH_take (i := 1) (oi := Oper.mk _ _ _ _ _ _) (v := ?_) rfl (by kernel_rfl) (by kernel_rfl) (by kernel_rfl) (fun _ _ _ h => h) (Or.inl ⟨by kernel_rfl, ?_⟩) (by assumption) ?_; rotate_left 1; focus (intro w hSw; (try dsimp only at hSw); (try obtain ⟨q0, q1, q2, q3, q4, q5, q6, q7⟩ := hSw); go_simp; (try (with_reducible rfl)); done); (try simp only [Act.put, List.setIfInBounds_toArray, List.set_cons_zero, List.set_cons_succ]))
              (refine wpAnyH_take (i := 2) (oi := Oper.mk _ _ _ _ _ _) (v := ?_) rfl (by kernel_rfl) (by kernel_rfl) (by kernel_rfl) (fun _ _ _ h => h) (Or.inl ⟨by kernel_rfl, ?_⟩) (by assumption) ?_; rotate_left 1; focus (intro w hSw; (try dsimp only at hSw); (try obtain ⟨q0, q1, q2, q3, q4, q5, q6, q7⟩ := hSw); go_simp; (try (with_reducible rfl)); done); (try simp only [Act.put, List.setIfInBounds_toArray, List.set_cons_zero, List.set_cons_succ]))
              (refine wpAnyH_take (i := 3) (oi := Oper.mk _ _ _ _ _ _) (v := ?_) rfl (by kernel_rfl) (by kernel_rfl) (by kernel_rfl) (fun _ _ _ h => h) (Or.inl ⟨by kernel_rfl, ?_⟩) (by assumption) ?_; rotate_left 1; focus (intro w hSw; (try dsimp only at hSw); (try obtain ⟨q0, q1, q2, q3, q4, q5, q6, q7⟩ := hSw); go_simp; (try (with_reducible rfl)); done); (try simp only [Act.put, List.setIfInBounds_toArray, List.set_cons_zero, List.set_cons_succ]))
              (refine wpAnyH_take (i := 4) (oi := Oper.mk _ _ _ _ _ _) (v := ?_) rfl (by kernel_rfl) (by kernel_rfl) (by kernel_rfl) (fun _ _ _ h => h) (Or.inl ⟨by kernel_rfl, ?_⟩) (by assumption) ?_; rotate_left 1; focus (intro w hSw; (try dsimp only at hSw); (try obtain ⟨q0, q1, q2, q3, q4, q5, q6, q7⟩ := hSw); go_simp; (try (with_reducible rfl)); done); (try simp only [Act.put, List.setIfInBounds_toArray, List.set_cons_zero, List.set_cons_succ]))
              (refine wpAnyH_take (i := 5) (oi := Oper.mk _ _ _ _ _ _) (v := ?_) rfl (by kernel_rfl) (by kernel_rfl) (by kernel_rfl) (fun _ _ _ h => h) (Or.inl ⟨by kernel_rfl, ?_⟩) (by assumption) ?_; rotate_left 1; focus (intro w hSw; (try dsimp only at hSw); (try obtain ⟨q0, q1, q2, q3, q4, q5, q6, q7⟩ := hSw); go_simp; (try (with_reducible rfl)); done); (try simp only [Act.put, List.setIfInBounds_toArray, List.set_cons_zero, List.set_cons_succ]))
              (refine wpAnyH_take (i := 6) (oi := Oper.mk _ _ _ _ _ _) (v := ?_) rfl (by kernel_rfl) (by kernel_rfl) (by kernel_rfl) (fun _ _ _ h => h) (Or.inl ⟨by kernel_rfl, ?_⟩) (by assumption) ?_; rotate_left 1; focus (intro w hSw; (try dsimp only at hSw); (try obtain ⟨q0, q1, q2, q3, q4, q5, q6, q7⟩ := hSw); go_simp; (try (with_reducible rfl)); done); (try simp only [Act.put, List.setIfInBounds_toArray, List.set_cons_zero, List.set_cons_succ]))
              (refine wpAnyH_take (i := 7) (oi := Oper.mk _ _ _ _ _ _) (v := ?_) rfl (by kernel_rfl) (by kernel_rfl) (by kernel_rfl) (fun _ _ _ h => h) (Or.inl ⟨by kernel_rfl, ?_⟩) (by assumption) ?_; rotate_left 1; focus (intro w hSw; (try dsimp only at hSw); (try obtain ⟨q0, q1, q2, q3, q4, q5, q6, q7⟩ := hSw); go_simp; (try (with_reducible rfl)); done); (try simp only [Act.put, List.setIfInBounds_toArray, List.set_cons_zero, List.set_cons_succ]))
              (refine wpAnyH_take (i := 8) (oi := Oper.mk _ _ _ _ _ _) (v := ?_) rfl (by kernel_rfl) (by kernel_rfl) (by kernel_rfl) (fun _ _ _ h => h) (Or.inl ⟨by kernel_rfl, ?_⟩) (by assumption) ?_; rotate_left 1; focus (intro w hSw; (try dsimp only at hSw); (try obtain ⟨q0, q1, q2, q3, q4, q5, q6, q7⟩ := hSw); go_simp; (try (with_reducible rfl)); done); (try simp only [Act.put, List.setIfInBounds_toArray, List.set_cons_zero, List.set_cons_succ]))
              (refine wpAnyH_take (i := 9) (oi := Oper.mk _ _ _ _ _ _) (v := ?_) rfl (by kernel_rfl) (by kernel_rfl) (by kernel_rfl) (fun _ _ _ h => h) (Or.inl ⟨by kernel_rfl, ?_⟩) (by assumption) ?_; rotate_left 1; focus (intro w hSw; (try dsimp only at hSw); (try obtain ⟨q0, q1, q2, q3, q4, q5, q6, q7⟩ := hSw); go_simp; (try (with_reducible rfl)); done); (try simp only [Act.put, List.setIfInBounds_toArray, List.set_cons_zero, List.set_cons_succ]))
              (refine wpAnyH_take (i := 10) (oi := Oper.mk _ _ _ _ _ _) (v := ?_) rfl (by kernel_rfl) (by kernel_rfl) (by kernel_rfl) (fun _ _ _ h => h) (Or.inl ⟨by kernel_rfl, ?_⟩) (by assumption) ?_; rotate_left 1; focus (intro w hSw; (try dsimp only at hSw); (try obtain ⟨q0, q1, q2, q3, q4, q5, q6, q7⟩ := hSw); go_simp; (try (with_reducible rfl)); done); (try simp only [Act.put, List.setIfInBounds_toArray, List.set_cons_zero, List.set_cons_succ]))
              (refine wpAnyH_take (i := 11) (oi := Oper.mk _ _ _ _ _ _) (v := ?_) rfl (by kernel_rfl) (by kernel_rfl) (by kernel_rfl) (fun _ _ _ h => h) (Or.inl ⟨by kernel_rfl, ?_⟩) (by assumption) ?_; rotate_left 1; focus (intro w hSw; (try dsimp only at hSw); (try obtain ⟨q0, q1, q2, q3, q4, q5, q6, q7⟩ := hSw); go_simp; (try (with_reducible rfl)); done); (try simp only [Act.put, List.setIfInBounds_toArray, List.set_cons_zero, List.set_cons_succ]))
              (refine wpAnyH_take (i := 12) (oi := Oper.mk _ _ _ _ _ _) (v := ?_) rfl (by kernel_rfl) (by kernel_rfl) (by kernel_rfl) (fun _ _ _ h => h) (Or.inl ⟨by kernel_rfl, ?_⟩) (by assumption) ?_; rotate_left 1; focus (intro w hSw; (try dsimp only at hSw); (try obtain ⟨q0, q1, q2, q3, q4, q5, q6, q7⟩ := hSw); go_simp; (try (with_reducible rfl)); done); (try simp only [Act.put, List.setIfInBounds_toArray, List.set_cons_zero, List.set_cons_succ]))
              (refine wpAnyH_take (i := 13) (oi := Oper.mk _ _ _ _ _ _) (v := ?_) rfl (by kernel_rfl) (by kernel_rfl) (by kernel_rfl) (fun _ _ _ h => h) (Or.inl ⟨by kernel_rfl, ?_⟩) (by assumption) ?_; rotate_left 1; focus (intro w hSw; (try dsimp only at hSw); (try obtain ⟨q0, q1, q2, q3, q4, q5, q6, q7⟩ := hSw); go_simp; (try (with_reducible rfl)); done); (try simp only [Act.put, List.setIfInBounds_toArray, List.set_cons_zero, List.set_cons_succ]))
              refine wpAnyH_ready (rs := [14]) (by kernel_rfl) (by simp) ?_
              refine AllReadyH.cons (o := Oper.mk _ _ _ _ _ _) rfl (fun K hK => ?_) AllReadyH.nil
              (try rw [if_pos (by kernel_rfl)])
              (first | (go_at_call 116; (with_reducible refine (HP.out _).mono ?_); rintro e v3 ⟨pp, nn, cc, rfl, hfr, hrd, hg⟩; obtain rfl := hrd.len; (first | replace hW := grown_trans hW hg | replace hW := grown_trans (grown_trans hW (grown_drew _ none)) hg); replace k0 := hg.cell k0 (by simp); replace k1 := hg.cell k1 (by simp); replace k2 := hg.cell k2 (by simp); replace k3 := hg.cell k3 (by simp); replace k4 := hg.cell k4 (by simp); replace k5 := hg.cell k5 (by simp); replace k6 := hg.cell k6 (by simp); clear hfr hrd) | (go_simp; (go_at_call 116; (with_reducible refine (HP.out _).mono ?_); rintro e v3 ⟨pp, nn, cc, rfl, hfr, hrd, hg⟩; obtain rfl := hrd.len; (first | replace hW := grown_trans hW hg | replace hW := grown_trans (grown_trans hW (grown_drew _ none)) hg); replace k0 := hg.cell k0 (by simp); replace k1 := hg.cell k1 (by simp); replace k2 := hg.cell k2 (by simp); replace k3 := hg.cell k3 (by simp); replace k4 := hg.cell k4 (by simp); replace k5 := hg.cell k5 (by simp); replace k6 := hg.cell k6 (by simp); clear hfr hrd)))
              refine hK.out _ _ ?_ (fun hNew => ?_)
              · (try dsimp only)
                ((try go_split_ands) <;> (repeat' apply And.intro) <;> (first | (with_reducible assumption) | (with_reducible refine (grown_drew _ none).cell ?_ (by simp); with_reducible assumption) | (with_reducible refine grown_trans ?_ (grown_drew _ none); with_reducible assumption)))
              clear hK K hHeld
              have hHeld := hNew
              clear hNew
              (try simp only [Act.put, List.setIfInBounds_toArray, List.set_cons_zero, List.set_cons_succ])
              (refine wpAnyH_take (i := 15) (oi := Oper.mk _ _ _ _ _ _) (v := ?_) rfl (by kernel_rfl) (by kernel_rfl) (by kernel_rfl) (fun _ _ _ h => h) (Or.inl ⟨by kernel_rfl, ?_⟩) (by assumption) ?_; rotate_left 1; focus (intro w hSw; (try dsimp only at hSw); (try obtain ⟨q0, q1, q2, q3, q4, q5, q6, q7⟩ := hSw); go_simp; (try (with_reducible rfl)); done); (try simp only [Act.put, List.setIfInBounds_toArray, List.set_cons_zero, List.set_cons_succ]))
              (refine wpAnyH_take (i := 16) (oi := Oper.mk _ _ _ _ _ _) (v := ?_) rfl (by kernel_rfl) (by kernel_rfl) (by kernel_rfl) (fun _ _ _ h => h) (Or.inl ⟨by kernel_rfl, ?_⟩) (by assumption) ?_; rotate_left 1; focus (intro w hSw; (try dsimp only at hSw); (try obtain ⟨q0, q1, q2, q3, q4, q5, q6, q7⟩ := hSw); go_simp; (try (with_reducible rfl)); done); (try simp only [Act.put, List.setIfInBounds_toArray, List.set_cons_zero, List.set_cons_succ]))
              (refine wpAnyH_take (i := 17) (oi := Oper.mk _ _ _ _ _ _) (v := ?_) rfl (by kernel_rfl) (by kernel_rfl) (by kernel_rfl) (fun _ _ _ h => h) (Or.inl ⟨by kernel_rfl, ?_⟩) (by assumption) ?_; rotate_left 1; focus (intro w hSw; (try dsimp only at hSw); (try obtain ⟨q0, q1, q2, q3, q4, q5, q6, q7⟩ := hSw); go_simp; (try (with_reducible rfl)); done); (try simp only [Act.put, List.setIfInBounds_toArray, List.set_cons_zero, List.set_cons_succ]))
              refine wpAnyH_done (by kernel_rfl) ?_ _
              refine NoPanic.normal ?_
              go_wp2_with (first | (go_at_call 115; refine (HF.out _ hW).mono ?_; rintro e w1 ⟨rfl, hg⟩; replace hW := grown_trans hW hg; replace k0 := hg.cell k0 (by simp); replace k1 := hg.cell k1 (by simp); replace k2 := hg.cell k2 (by simp); replace k3 := hg.cell k3 (by simp); replace k4 := hg.cell k4 (by simp); replace k5 := hg.cell k5 (by simp); replace k6 := hg.cell k6 (by simp); clear hg) | (go_at_call 105; refine (HN.out _).mono ?_; rintro e w1 ⟨rfl, hg⟩; replace hW := grown_trans hW hg; replace k0 := hg.cell k0 (by simp); replace k1 := hg.cell k1 (by simp); replace k2 := hg.cell k2 (by simp); replace k3 := hg.cell k3 (by simp); replace k4 := hg.cell k4 (by simp); replace k5 := hg.cell k5 (by simp); replace k6 := hg.cell k6 (by simp); clear hg) | (go_at_call 68; refine (HH.out _).mono ?_; rintro e w1 ⟨rfl, hg⟩; replace hW := grown_trans hW hg; replace k0 := hg.cell k0 (by simp); replace k1 := hg.cell k1 (by simp); replace k2 := hg.cell k2 (by simp); replace k3 := hg.cell k3 (by simp); replace k4 := hg.cell k4 (by simp); replace k5 := hg.cell k5 (by simp); replace k6 := hg.cell k6 (by simp); clear hg) | (go_at_call 47; refine (HR1.out (by first | rfl | trivial) _ hW).mono ?_; rintro e w1 ⟨rfl, hg⟩; replace hW := grown_trans hW hg; replace k0 := hg.cell k0 (by simp); replace k1 := hg.cell k1 (by simp); replace k2 := hg.cell k2 (by simp); replace k3 := hg.cell k3 (by simp); replace k4 := hg.cell k4 (by simp); replace k5 := hg.cell k5 (by simp); replace k6 := hg.cell k6 (by simp); clear hg) | (go_at_call 117; refine (HR2.out (by first | rfl | trivial) _ hW).mono ?_; rintro e w1 ⟨rfl, hg⟩; replace hW := grown_trans hW hg; replace k0 := hg.cell k0 (by simp); replace k1 := hg.cell k1 (by simp); replace k2 := hg.cell k2 (by simp); replace k3 := hg.cell k3 (by simp); replace k4 := hg.cell k4 (by simp); replace k5 := hg.cell k5 (by simp); replace k6 := hg.cell k6 (by simp); clear hg))
              go_ret
              exact ⟨by simp [hk, he], hW⟩
          · exact absurd (by simp [hk, he]) hne
        · clear hne
          have hz : ((n3 : Int) != (pl.length : Int)) = true := by simp; omega
          go_enter Tryz.func66, Tryz.ntmps66
          go_upto_region 1 with fail
          generalize (w.alloc _) = w0 at *
          go_upto_region 5 with (first | (go_at_call 115; refine (HF.out _ hW).mono ?_; rintro e w1 ⟨rfl, hg⟩; replace hW := grown_trans hW hg; replace k0 := hg.cell k0 (by simp); replace k1 := hg.cell k1 (by simp); replace k2 := hg.cell k2 (by simp); replace k3 := hg.cell k3 (by simp); replace k4 := hg.cell k4 (by simp); replace k5 := hg.cell k5 (by simp); replace k6 := hg.cell k6 (by simp); clear hg) | (go_at_call 105; refine (HN.out _).mono ?_; rintro e w1 ⟨rfl, hg⟩; replace hW := grown_trans hW hg; replace k0 := hg.cell k0 (by simp); replace k1 := hg.cell k1 (by simp); replace k2 := hg.cell k2 (by simp); replace k3 := hg.cell k3 (by simp); replace k4 := hg.cell k4 (by simp); replace k5 := hg.cell k5 (by simp); replace k6 := hg.cell k6 (by simp); clear hg) | (go_at_call 68; refine (HH.out _).mono ?_; rintro e w1 ⟨rfl, hg⟩; replace hW := grown_trans hW hg; replace k0 := hg.cell k0 (by simp); replace k1 := hg.cell k1 (by simp); replace k2 := hg.cell k2 (by simp); replace k3 := hg.cell k3 (by simp); replace k4 := hg.cell k4 (by simp); replace k5 := hg.cell k5 (by simp); replace k6 := hg.cell k6 (by simp); clear hg) | (go_at_call 47; refine (HR1.out (by first | rfl | trivial) _ hW).mono ?_; rintro e w1 ⟨rfl, hg⟩; replace hW := grown_trans hW hg; replace k0 := hg.cell k0 (by simp); replace k1 := hg.cell k1 (by simp); replace k2 := hg.cell k2 (by simp); replace k3 := hg.cell k3 (by simp); replace k4 := hg.cell k4 (by simp); replace k5 := hg.cell k5 (by simp); replace k6 := hg.cell k6 (by simp); clear hg) | (go_at_call 117; refine (HR2.out (by first | rfl | trivial) _ hW).mono ?_; rintro e w1 ⟨rfl, hg⟩; replace hW := grown_trans hW hg; replace k0 := hg.cell k0 (by simp); replace k1 := hg.cell k1 (by simp); replace k2 := hg.cell k2 (by simp); replace k3 := hg.cell k3 (by simp); replace k4 := hg.cell k4 (by simp); replace k5 := hg.cell k5 (by simp); replace k6 := hg.cell k6 (by simp); clear hg))
          refine wp_region_noPanic ?_
          refine wp_region_held_drew (S := (fun w' => w'.cell? ⟨w.heap.size, 0, none⟩ = some (.int .i64 e1) ∧ w'.cell? ⟨w.heap.size, 1, none⟩ = some (.string e2) ∧ w'.cell? ⟨w.heap.size, 2, none⟩ = some (.bool e3) ∧ w'.cell? ⟨w.heap.size, 3, none⟩ = some (.slice p1 n1 c1) ∧ w'.cell? ⟨w.heap.size, 4, none⟩ = some (.slice p2 n2 c2) ∧ w'.cell? ⟨w.heap.size, 5, none⟩ = some (.slice p3 n3 c3) ∧ w'.cell? ⟨w.heap.size, 6, none⟩ = some (.int .i64 e7) ∧ w.grownBy w' none)) (by kernel_rfl) ?_ (fun hHeld => ?_)
          · ((try go_split_ands) <;> (repeat' apply And.intro) <;> (first | (with_reducible assumption) | (with_reducible refine (grown_drew _ none).cell ?_ (by simp); with_reducible assumption) | (with_reducible refine grown_trans ?_ (grown_drew _ none); with_reducible assumption)))
          (refine wpAnyH_take (i := 0) (oi := Oper.mk _ _ _ _ _ _) (v := ?_) rfl (by kernel_rfl) (by kernel_rfl) (by kernel_rfl) (fun _ _ _ h => h) (Or.inl ⟨by kernel_rfl, ?_⟩) (by assumption) ?_; rotate_left 1; focus (intro w hSw; (try dsimp only at hSw); (try obtain ⟨q0, q1, q2, q3, q4, q5, q6, q7⟩ := hSw); go_simp; (try (with_reducible rfl)); done); (try simp only [Act.put, List.setIfInBounds_toArray, List.set_cons_zero, List.set_cons_succ]))
          (refine wpAnyH_take (i := 1) (oi := Oper.mk _ _ _ _ _ _) (v := ?_) rfl (by kernel_rfl) (by kernel_rfl) (by kernel_rfl) (fun _ _ _ h => h) (Or.inl ⟨by kernel_rfl, ?_⟩) (by assumption) ?_; rotate_left 1; focus (intro w hSw; (try dsimp only at hSw); (try obtain ⟨q0, q1, q2, q3, q4, q5, q6, q7⟩ := hSw); go_simp; (try (with_reducible rfl)); done); (try simp only [Act.put, List.setIfInBounds_toArray, List.set_cons_zero, List.set_cons_succ]))
          (refine wpAnyH_take (i := 2) (oi := Oper.mk _ _ _ _ _ _) (v := ?_) rfl (by kernel_rfl) (by kernel_rfl) (by kernel_rfl) (fun _ _ _ h => h) (Or.inl ⟨by kernel_rfl, ?_⟩) (by assumption) ?_; rotate_left 1; focus (intro w hSw; (try dsimp only at hSw); (try obtain ⟨q0, q1, q2, q3, q4, q5, q6, q7⟩ := hSw); go_simp; (try (with_reducible rfl)); done); (try simp only [Act.put, List.setIfInBounds_toArray, List.set_cons_zero, List.set_cons_succ]))
          (refine wpAnyH_take (i := 3) (oi := Oper.mk _ _ _ _ _ _) (v := ?_) rfl (by kernel_rfl) (by kernel_rfl) (by kernel_rfl) (fun _ _ _ h => h) (Or.inl ⟨by kernel_rfl, ?_⟩) (by assumption) ?_; rotate_left 1; focus (intro w hSw; (try dsimp only at hSw); (try obtain ⟨q0, q1, q2, q3, q4, q5, q6, q7⟩ := hSw); go_simp; (try (with_reducible rfl)); done); (try simp only [Act.put, List.setIfInBounds_toArray, List.set_cons_zero, List.set_cons_succ]))
          (refine wpAnyH_take (i := 4) (oi := Oper.mk _ _ _ _ _ _) (v := ?_) rfl (by kernel_rfl) (by kernel_rfl) (by kernel_rfl) (fun _ _ _ h => h) (Or.inl ⟨by kernel_rfl, ?_⟩) (by assumption) ?_; rotate_left 1; focus (intro w hSw; (try dsimp only at hSw); (try obtain ⟨q0, q1, q2, q3, q4, q5, q6, q7⟩ := hSw); go_simp; (try (with_reducible rfl)); done); (try simp only [Act.put, List.setIfInBounds_toArray, List.set_cons_zero, List.set_cons_succ]))
          (refine wpAnyH_take (i := 5) (oi := Oper.mk _ _ _ _ _ _) (v := ?_) rfl (by kernel_rfl) (by kernel_rfl) (by kernel_rfl) (fun _ _ _ h => h) (Or.inl ⟨by kernel_rfl, ?_⟩) (by assumption) ?_; rotate_left 1; focus (intro w hSw; (try dsimp only at hSw); (try obtain ⟨q0, q1, q2, q3, q4, q5, q6, q7⟩ := hSw); go_simp; (try (with_reducible rfl)); done); (try simp only [Act.put, List.setIfInBounds_toArray, List.set_cons_zero, List.set_cons_succ]))
          (refine wpAnyH_take (i := 6) (oi := Oper.mk _ _ _ _ _ _) (v := ?_) rfl (by kernel_rfl) (by kernel_rfl) (by kernel_rfl) (fun _ _ _ h => h) (Or.inl ⟨by kernel_rfl, ?_⟩) (by assumption) ?_; rotate_left 1; focus (intro w hSw; (try dsimp only at hSw); (try obtain ⟨q0, q1, q2, q3, q4, q5, q6, q7⟩ := hSw); go_simp; (try (with_reducible rfl)); done); (try simp only [Act.put, List.setIfInBounds_toArray, List.set_cons_zero, List.set_cons_succ]))
          (refine wpAnyH_take (i := 7) (oi := Oper.mk _ _ _ _ _ _) (v := ?_) rfl (by kernel_rfl) (by kernel_rfl) (by kernel_rfl) (fun _ _ _ h => h) (Or.inl ⟨by kernel_rfl, ?_⟩) (by assumption) ?_; rotate_left 1; focus (intro w hSw; (try dsimp only at hSw); (try obtain ⟨q0, q1, q2, q3, q4, q5, q6, q7⟩ := hSw); go_simp; (try (with_reducible rfl)); done); (try simp only [Act.put, List.setIfInBounds_toArray, List.set_cons_zero, List.set_cons_succ]))
          (refine wpAnyH_take (i := 8) (oi := Oper.mk _ _ _ _ _ _) (v := ?_) rfl (by kernel_rfl) (by kernel_rfl) (by kernel_rfl) (fun _ _ _ h => h) (Or.inl ⟨by kernel_rfl, ?_⟩) (by assumption) ?_; rotate_left 1; focus (intro w hSw; (try dsimp only at hSw); (try obtain ⟨q0, q1, q2, q3, q4, q5, q6, q7⟩ := hSw); go_simp; (try (with_reducible rfl)); done); (try simp only [Act.put, List.setIfInBounds_toArray, List.set_cons_zero, List.set_cons_succ]))
          (refine wpAnyH_take (i := 9) (oi := Oper.mk _ _ _ _ _ _) (v := ?_) rfl (by kernel_rfl) (by kernel_rfl) (by kernel_rfl) (fun _ _ _ h => h) (Or.inl ⟨by kernel_rfl, ?_⟩) (by assumption) ?_; rotate_left 1; focus (intro w hSw; (try dsimp only at hSw); (try obtain ⟨q0, q1, q2, q3, q4, q5, q6, q7⟩ := hSw); go_simp; (try (with_reducible rfl)); done); (try simp only [Act.put, List.setIfInBounds_toArray, List.set_cons_zero, List.set_cons_succ]))
          (refine wpAnyH_take (i := 10) (oi := Oper.mk _ _ _ _ _ _) (v := ?_) rfl (by kernel_rfl) (by kernel_rfl) (by kernel_rfl) (fun _ _ _ h => h) (Or.inl ⟨by kernel_rfl, ?_⟩) (by assumption) ?_; rotate_left 1; focus (intro w hSw; (try dsimp only at hSw); (try obtain ⟨q0, q1, q2, q3, q4, q5, q6, q7⟩ := hSw); go_simp; (try (with_reducible rfl)); done); (try simp only [Act.put, List.setIfInBounds_toArray, List.set_cons_zero, List.set_cons_succ]))
          (refine wpAnyH_take (i := 11) (oi := Oper.mk _ _ _ _ _ _) (v := ?_) rfl (by kernel_rfl) (by kernel_rfl) (by kernel_rfl) (fun _ _ _ h => h) (Or.inl ⟨by kernel_rfl, ?_⟩) (by assumption) ?_; rotate_left 1; focus (intro w hSw; (try dsimp only at hSw); (try obtain ⟨q0, q1, q2, q3, q4, q5, q6, q7⟩ := hSw); go_simp; (try (with_reducible rfl)); done); (try simp only [Act.put, List.setIfInBounds_toArray, List.set_cons_zero, List.set_cons_succ]))
          (refine wpAnyH_take (i := 12) (oi := Oper.mk _ _ _ _ _ _) (v := ?_) rfl (by kernel_rfl) (by kernel_rfl) (by kernel_rfl) (fun _ _ _ h => h) (Or.inl ⟨by kernel_rfl, ?_⟩) (by assumption) ?_; rotate_left 1; focus (intro w hSw; (try dsimp only at hSw); (try obtain ⟨q0, q1, q2, q3, q4, q5, q6, q7⟩ := hSw); go_simp; (try (with_reducible rfl)); done); (try simp only [Act.put, List.setIfInBounds_toArray, List.set_cons_zero, List.set_cons_succ]))
          (refine wpAnyH_take (i := 13) (oi := Oper.mk _ _ _ _ _ _) (v := ?_) rfl (by kernel_rfl) (by kernel_rfl) (by kernel_rfl) (fun _ _ _ h => h) (Or.inl ⟨by kernel_rfl, ?_⟩) (by assumption) ?_; rotate_left 1; focus (intro w hSw; (try dsimp only at hSw); (try obtain ⟨q0, q1, q2, q3, q4, q5, q6, q7⟩ := hSw); go_simp; (try (with_reducible rfl)); done); (try simp only [Act.put, List.setIfInBounds_toArray, List.set_cons_zero, List.set_cons_succ]))
          refine wpAnyH_ready (rs := [14]) (by kernel_rfl) (by simp) ?_
          refine AllReadyH.cons (o := Oper.mk _ _ _ _ _ _) rfl (fun K hK => ?_) AllReadyH.nil
          (try rw [if_pos (by kernel_rfl)])
          (first | (go_at_call 116; (with_reducible refine (HP.out _).mono ?_); rintro e v3 ⟨pp, nn, cc, rfl, hfr, hrd, hg⟩; obtain rfl := hrd.len; (first | replace hW := grown_trans hW hg | replace hW := grown_trans (grown_trans hW (grown_drew _ none)) hg); replace k0 := hg.cell k0 (by simp); replace k1 := hg.cell k1 (by simp); replace k2 := hg.cell k2 (by simp); replace k3 := hg.cell k3 (by simp); replace k4 := hg.cell k4 (by simp); replace k5 := hg.cell k5 (by simp); replace k6 := hg.cell k6 (by simp); clear hfr hrd) | (go_simp; (go_at_call 116; (with_reducible refine (HP.out _).mono ?_); rintro e v3 ⟨pp, nn, cc, rfl, hfr, hrd, hg⟩; obtain rfl := hrd.len; (first | replace hW := grown_trans hW hg | replace hW := grown_trans (grown_trans hW (grown_drew _ none)) hg); replace k0 := hg.cell k0 (by simp); replace k1 := hg.cell k1 (by simp); replace k2 := hg.cell k2 (by simp); replace k3 := hg.cell k3 (by simp); replace k4 := hg.cell k4 (by simp); replace k5 := hg.cell k5 (by simp); replace k6 := hg.cell k6 (by simp); clear hfr hrd)))
          refine hK.out _ _ ?_ (fun hNew => ?_)
          · (try dsimp only)
            ((try go_split_ands) <;> (repeat' apply And.intro) <;> (first | (with_reducible assumption) | (with_reducible refine (grown_drew _ none).cell ?_ (by simp); with_reducible assumption) | (with_reducible refine grown_trans ?_ (grown_drew _ none); with_reducible assumption)))
          clear hK K hHeld
          have hHeld := hNew
          clear hNew
          (try simp only [Act.put, List.setIfInBounds_toArray, List.set_cons_zero, List.set_cons_succ])
          (refine wpAnyH_take (i := 15) (oi := Oper.mk _ _ _ _ _ _) (v := ?_) rfl (by kernel_rfl) (by kernel_rfl) (by kernel_rfl) (fun _ _ _ h => h) (Or.inl ⟨by kernel_rfl, ?_⟩) (by assumption) ?_; rotate_left 1; focus (intro w hSw; (try dsimp only at hSw); (try obtain ⟨q0, q1, q2, q3, q4, q5, q6, q7⟩ := hSw); go_simp; (try (with_reducible rfl)); done); (try simp only [Act.put, List.setIfInBounds_toArray, List.set_cons_zero, List.set_cons_succ]))
          (refine wpAnyH_take (i := 16) (oi := Oper.mk _ _ _ _ _ _) (v := ?_) rfl (by kernel_rfl) (by kernel_rfl) (by kernel_rfl) (fun _ _ _ h => h) (Or.inl ⟨by kernel_rfl, ?_⟩) (by assumption) ?_; rotate_left 1; focus (intro w hSw; (try dsimp only at hSw); (try obtain ⟨q0, q1, q2, q3, q4, q5, q6, q7⟩ := hSw); go_simp; (try (with_reducible rfl)); done); (try simp only [Act.put, List.setIfInBounds_toArray, List.set_cons_zero, List.set_cons_succ]))
          (refine wpAnyH_take (i := 17) (oi := Oper.mk _ _ _ _ _ _) (v := ?_) rfl (by kernel_rfl) (by kernel_rfl) (by kernel_rfl) (fun _ _ _ h => h) (Or.inl ⟨by kernel_rfl, ?_⟩) (by assumption) ?_; rotate_left 1; focus (intro w hSw; (try dsimp only at hSw); (try obtain ⟨q0, q1, q2, q3, q4, q5, q6, q7⟩ := hSw); go_simp; (try (with_reducible rfl)); done); (try simp only [Act.put, List.setIfInBounds_toArray, List.set_cons_zero, List.set_cons_succ]))
          refine wpAnyH_done (by kernel_rfl) ?_ _
          refine NoPanic.normal ?_
          go_wp2_with fail
          go_ret
          exact ⟨by simp [hk, he, hlen], hW⟩
      · have hz0 : e2.toList.isEmpty = false := by rw [List.isEmpty_eq_false_iff, Lib.toList_data]; exact he
        clear hne
        go_enter Tryz.func66, Tryz.ntmps66
        go_upto_region 1 with fail
        generalize (w.alloc _) = w0 at *
        go_upto_region 5 with (first | (go_at_call 115; refine (HF.out _ hW).mono ?_; rintro e w1 ⟨rfl, hg⟩; replace hW := grown_trans hW hg; replace k0 := hg.cell k0 (by simp); replace k1 := hg.cell k1 (by simp); replace k2 := hg.cell k2 (by simp); replace k3 := hg.cell k3 (by simp); replace k4 := hg.cell k4 (by simp); replace k5 := hg.cell k5 (by simp); replace k6 := hg.cell k6 (by simp); clear hg) | (go_at_call 105; refine (HN.out _).mono ?_; rintro e w1 ⟨rfl, hg⟩; replace hW := grown_trans hW hg; replace k0 := hg.cell k0 (by simp); replace k1 := hg.cell k1 (by simp); replace k2 := hg.cell k2 (by simp); replace k3 := hg.cell k3 (by simp); replace k4 := hg.cell k4 (by simp); replace k5 := hg.cell k5 (by simp); replace k6 := hg.cell k6 (by simp); clear hg) | (go_at_call 68; refine (HH.out _).mono ?_; rintro e w1 ⟨rfl, hg⟩; replace hW := grown_trans hW hg; replace k0 := hg.cell k0 (by simp); replace k1 := hg.cell k1 (by simp); replace k2 := hg.cell k2 (by simp); replace k3 := hg.cell k3 (by simp); replace k4 := hg.cell k4 (by simp); replace k5 := hg.cell k5 (by simp); replace k6 := hg.cell k6 (by simp); clear hg) | (go_at_call 47; refine (HR1.out (by first | rfl | trivial) _ hW).mono ?_; rintro e w1 ⟨rfl, hg⟩; replace hW := grown_trans hW hg; replace k0 := hg.cell k0 (by simp); replace k1 := hg.cell k1 (by simp); replace k2 := hg.cell k2 (by simp); replace k3 := hg.cell k3 (by simp); replace k4 := hg.cell k4 (by simp); replace k5 := hg.cell k5 (by simp); replace k6 := hg.cell k6 (by simp); clear hg) | (go_at_call 117; refine (HR2.out (by first | rfl | trivial) _ hW).mono ?_; rintro e w1 ⟨rfl, hg⟩; replace hW := grown_trans hW hg; replace k0 := hg.cell k0 (by simp); replace k1 := hg.cell k1 (by simp); replace k2 := hg.cell k2 (by simp); replace k3 := hg.cell k3 (by simp); replace k4 := hg.cell k4 (by simp); replace k5 := hg.cell k5 (by simp); replace k6 := hg.cell k6 (by simp); clear hg))
        refine wp_region_noPanic ?_
        refine wp_region_held_drew (S := (fun w' => w'.cell? ⟨w.heap.size, 0, none⟩ = some (.int .i64 e1) ∧ w'.cell? ⟨w.heap.size, 1, none⟩ = some (.string e2) ∧ w'.cell? ⟨w.heap.size, 2, none⟩ = some (.bool e3) ∧ w'.cell? ⟨w.heap.size, 3, none⟩ = some (.slice p1 n1 c1) ∧ w'.cell? ⟨w.heap.size, 4, none⟩ = some (.slice p2 n2 c2) ∧ w'.cell? ⟨w.heap.size, 5, none⟩ = some (.slice p3 n3 c3) ∧ w'.cell? ⟨w.heap.size, 6, none⟩ = some (.int .i64 e7) ∧ w.grownBy w' none)) (by kernel_rfl) ?_ (fun hHeld => ?_)
        · ((try go_split_ands) <;> (repeat' apply And.intro) <;> (first | (with_reducible assumption) | (with_reducible refine (grown_drew _ none).cell ?_ (by simp); with_reducible assumption) | (with_reducible refine grown_trans ?_ (grown_drew _ none); with_reducible assumption)))
        (refine wpAnyH_take (i := 0) (oi := Oper.mk _ _ _ _ _ _) (v := ?_) rfl (by kernel_rfl) (by kernel_rfl) (by kernel_rfl) (fun _ _ _ h => h) (Or.inl ⟨by kernel_rfl, ?_⟩) (by assumption) ?_; rotate_left 1; focus (intro w hSw; (try dsimp only at hSw); (try obtain ⟨q0, q1, q2, q3, q4, q5, q6, q7⟩ := hSw); go_simp; (try (with_reducible rfl)); done); (try simp only [Act.put, List.setIfInBounds_toArray, List.set_cons_zero, List.set_cons_succ]))
        (refine wpAnyH_take (i := 1) (oi := Oper.mk _ _ _ _ _ _) (v := ?_) rfl (by kernel_rfl) (by kernel_rfl) (by kernel_rfl) (fun _ _ _ h => h) (Or.inl ⟨by kernel_rfl, ?_⟩) (by assumption) ?_; rotate_left 1; focus (intro w hSw; (try dsimp only at hSw); (try obtain ⟨q0, q1, q2, q3, q4, q5, q6, q7⟩ := hSw); go_simp; (try (with_reducible rfl)); done); (try simp only [Act.put, List.setIfInBounds_toArray, List.set_cons_zero, List.set_cons_succ]))
        (refine wpAnyH_take (i := 2) (oi := Oper.mk _ _ _ _ _ _) (v := ?_) rfl (by kernel_rfl) (by kernel_rfl) (by kernel_rfl) (fun _ _ _ h => h) (Or.inl ⟨by kernel_rfl, ?_⟩) (by assumption) ?_; rotate_left 1; focus (intro w hSw; (try dsimp only at hSw); (try obtain ⟨q0, q1, q2, q3, q4, q5, q6, q7⟩ := hSw); go_simp; (try (with_reducible rfl)); done); (try simp only [Act.put, List.setIfInBounds_toArray, List.set_cons_zero, List.set_cons_succ]))
        (refine wpAnyH_take (i := 3) (oi := Oper.mk _ _ _ _ _ _) (v := ?_) rfl (by kernel_rfl) (by kernel_rfl) (by kernel_rfl) (fun _ _ _ h => h) (Or.inl ⟨by kernel_rfl, ?_⟩) (by assumption) ?_; rotate_left 1; focus (intro w hSw; (try dsimp only at hSw); (try obtain ⟨q0, q1, q2, q3, q4, q5, q6, q7⟩ := hSw); go_simp; (try (with_reducible rfl)); done); (try simp only [Act.put, List.setIfInBounds_toArray, List.set_cons_zero, List.set_cons_succ]))
        (refine wpAnyH_take (i := 4) (oi := Oper.mk _ _ _ _ _ _) (v := ?_) rfl (by kernel_rfl) (by kernel_rfl) (by kernel_rfl) (fun _ _ _ h => h) (Or.inl ⟨by kernel_rfl, ?_⟩) (by assumption) ?_; rotate_left 1; focus (intro w hSw; (try dsimp only at hSw); (try obtain ⟨q0, q1, q2, q3, q4, q5, q6, q7⟩ := hSw); go_simp; (try (with_reducible rfl)); done); (try simp only [Act.put, List.setIfInBounds_toArray, List.set_cons_zero, List.set_cons_succ]))
        (refine wpAnyH_take (i := 5) (oi := Oper.mk _ _ _ _ _ _) (v := ?_) rfl (by kernel_rfl) (by kernel_rfl) (by kernel_rfl) (fun _ _ _ h => h) (Or.inl ⟨by kernel_rfl, ?_⟩) (by assumption) ?_; rotate_left 1; focus (intro w hSw; (try dsimp only at hSw); (try obtain ⟨q0, q1, q2, q3, q4, q5, q6, q7⟩ := hSw); go_simp; (try (with_reducible rfl)); done); (try simp only [Act.put, List.setIfInBounds_toArray, List.set_cons_zero, List.set_cons_succ]))
        (refine wpAnyH_take (i := 6) (oi := Oper.mk _ _ _ _ _ _) (v := ?_) rfl (by kernel_rfl) (by kernel_rfl) (by kernel_rfl) (fun _ _ _ h => h) (Or.inl ⟨by kernel_rfl, ?_⟩) (by assumption) ?_; rotate_left 1; focus (intro w hSw; (try dsimp only at hSw); (try obtain ⟨q0, q1, q2, q3, q4, q5, q6, q7⟩ := hSw); go_simp; (try (with_reducible rfl)); done); (try simp only [Act.put, List.setIfInBounds_toArray, List.set_cons_zero, List.set_cons_succ]))
        (refine wpAnyH_take (i := 7) (oi := Oper.mk _ _ _ _ _ _) (v := ?_) rfl (by kernel_rfl) (by kernel_rfl) (by kernel_rfl) (fun _ _ _ h => h) (Or.inl ⟨by kernel_rfl, ?_⟩) (by assumption) ?_; rotate_left 1; focus (intro w hSw; (try dsimp only at hSw); (try obtain ⟨q0, q1, q2, q3, q4, q5, q6, q7⟩ := hSw); go_simp; (try (with_reducible rfl)); done); (try simp only [Act.put, List.setIfInBounds_toArray, List.set_cons_zero, List.set_cons_succ]))
        (refine wpAnyH_take (i := 8) (oi := Oper.mk _ _ _ _ _ _) (v := ?_) rfl (by kernel_rfl) (by kernel_rfl) (by kernel_rfl) (fun _ _ _ h => h) (Or.inl ⟨by kernel_rfl, ?_⟩) (by assumption) ?_; rotate_left 1; focus (intro w hSw; (try dsimp only at hSw); (try obtain ⟨q0, q1, q2, q3, q4, q5, q6, q7⟩ := hSw); go_simp; (try (with_reducible rfl)); done); (try simp only [Act.put, List.setIfInBounds_toArray, List.set_cons_zero, List.set_cons_succ]))
        (refine wpAnyH_take (i := 9) (oi := Oper.mk _ _ _ _ _ _) (v := undef) rfl (by kernel_rfl) (by kernel_rfl) (by kernel_rfl) (fun _ _ _ h => h) (Or.inr ⟨by kernel_rfl, rfl⟩) (by assumption) ?_; (try simp only [Act.put, List.setIfInBounds_toArray, List.set_cons_zero, List.set_cons_succ]))
        (refine wpAnyH_take (i := 10) (oi := Oper.mk _ _ _ _ _ _) (v := undef) rfl (by kernel_rfl) (by kernel_rfl) (by kernel_rfl) (fun _ _ _ h => h) (Or.inr ⟨by kernel_rfl, rfl⟩) (by assumption) ?_; (try simp only [Act.put, List.setIfInBounds_toArray, List.set_cons_zero, List.set_cons_succ]))
        (refine wpAnyH_take (i := 11) (oi := Oper.mk _ _ _ _ _ _) (v := undef) rfl (by kernel_rfl) (by kernel_rfl) (by kernel_rfl) (fun _ _ _ h => h) (Or.inr ⟨by kernel_rfl, rfl⟩) (by assumption) ?_; (try simp only [Act.put, List.setIfInBounds_toArray, List.set_cons_zero, List.set_cons_succ]))
        (refine wpAnyH_take (i := 12) (oi := Oper.mk _ _ _ _ _ _) (v := undef) rfl (by kernel_rfl) (by kernel_rfl) (by kernel_rfl) (fun _ _ _ h => h) (Or.inr ⟨by kernel_rfl, rfl⟩) (by assumption) ?_; (try simp only [Act.put, List.setIfInBounds_toArray, List.set_cons_zero, List.set_cons_succ]))
        (refine wpAnyH_take (i := 13) (oi := Oper.mk _ _ _ _ _ _) (v := undef) rfl (by kernel_rfl) (by kernel_rfl) (by kernel_rfl) (fun _ _ _ h => h) (Or.inr ⟨by kernel_rfl, rfl⟩) (by assumption) ?_; (try simp only [Act.put, List.setIfInBounds_toArray, List.set_cons_zero, List.set_cons_succ]))
        (refine wpAnyH_take (i := 14) (oi := Oper.mk _ _ _ _ _ _) (v := undef) rfl (by kernel_rfl) (by kernel_rfl) (by kernel_rfl) (fun _ _ _ h => h) (Or.inr ⟨by kernel_rfl, rfl⟩) (by assumption) ?_; (try simp only [Act.put, List.setIfInBounds_toArray, List.set_cons_zero, List.set_cons_succ]))
        (refine wpAnyH_take (i := 15) (oi := Oper.mk _ _ _ _ _ _) (v := undef) rfl (by kernel_rfl) (by kernel_rfl) (by kernel_rfl) (fun _ _ _ h => h) (Or.inr ⟨by kernel_rfl, rfl⟩) (by assumption) ?_; (try simp only [Act.put, List.setIfInBounds_toArray, List.set_cons_zero, List.set_cons_succ]))
        (refine wpAnyH_take (i := 16) (oi := Oper.mk _ _ _ _ _ _) (v := undef) rfl (by kernel_rfl) (by kernel_rfl) (by kernel_rfl) (fun _ _ _ h => h) (Or.inr ⟨by kernel_rfl, rfl⟩) (by assumption) ?_; (try simp only [Act.put, List.setIfInBounds_toArray, List.set_cons_zero, List.set_cons_succ]))
        (refine wpAnyH_take (i := 17) (oi := Oper.mk _ _ _ _ _ _) (v := ?_) rfl (by kernel_rfl) (by kernel_rfl) (by kernel_rfl) (fun _ _ _ h => h) (Or.inl ⟨by kernel_rfl, ?_⟩) (by assumption) ?_; rotate_left 1; focus (intro w hSw; (try dsimp only at hSw); (try obtain ⟨q0, q1, q2, q3, q4, q5, q6, q7⟩ := hSw); go_simp; (try (with_reducible rfl)); done); (try simp only [Act.put, List.setIfInBounds_toArray, List.set_cons_zero, List.set_cons_succ]))
        refine wpAnyH_done (by kernel_rfl) ?_ _
        refine NoPanic.normal ?_
        go_wp2_with fail
        go_ret
        exact ⟨by simp [hk, he], grown_trans hW (grown_drew _ none)⟩

set_option maxHeartbeats 16000000 in
set_option maxRecDepth 100000 in
theorem check_good (m : Nat) (h : Hd) (l : List Tr) (e1 : Int) (e2 : ByteArray) (e3 : Bool) (p1 : Option Addr) (n1 c1 : Nat) (p2 : Option Addr) (n2 c2 : Nat) (p3 : Option Addr) (n3 c3 : Nat) (e7 : Int) (s : Int) (hs : 0 ≤ s ∧ s ≤ 4) (R : Bool) (w : World) (hE : ERd w m [.int .i64 e1, .string e2, .bool e3, .slice p1 n1 c1, .slice p2 n2 c2, .slice p3 n3 c3, .int .i64 e7] (.node h l)) (hk : h.k = e1) (hR : RatOk w e1 e3 p1 n1 c1 p2 n2 c2 R) (hnm : e2.size ≤ maxLen) (hn3 : n3 ≤ 1048576) (hc3 : n3 ≤ c3 ∧ c3 ≤ 9223372036854775807)
    (hne : topE e1 s e2.data.toList n3 R = 0)
    (C : Nat → List Value) (X : Nat → Int) (hC : ∀ i, i < n3 → ∃ b o x1 x2 x3 q1 m1 d1 q2 m2 d2 q3 m3 d3 x7, p3 = some ⟨b, o, none⟩ ∧ C i = [.int .i64 x1, .string x2, .bool x3, .slice q1 m1 d1, .slice q2 m2 d2, .slice q3 m3 d3, .int .i64 x7] ∧
      w.cell? ⟨b, o + i * 7, none⟩ = some (.int .i64 x1) ∧ w.cell? ⟨b, o + i * 7 + 1, none⟩ = some (.string x2) ∧ w.cell? ⟨b, o + i * 7 + 2, none⟩ = some (.bool x3) ∧ w.cell? ⟨b, o + i * 7 + 3, none⟩ = some (.slice q1 m1 d1) ∧ w.cell? ⟨b, o + i * 7 + 4, none⟩ = some (.slice q2 m2 d2) ∧ w.cell? ⟨b, o + i * 7 + 5, none⟩ = some (.slice q3 m3 d3) ∧ w.cell? ⟨b, o + i * 7 + 6, none⟩ = some (.int .i64 x7))
    (hX : ∀ i (hi : i < n3) (hp : i < (prm e1).length), ∀ W, w.grownBy W none → Calls Tryz.prog 66 #[.agg (C i).toArray, .int .i64 ((prm e1)[i] : Nat)] W fun e w' => e = .returned (.int .i64 (X i)) ∧ W.grownBy w' none)
    (x : Int) (hx : scan X 0 n3 = x) :
    Calls Tryz.prog 66 #[.agg #[.int .i64 e1, .string e2, .bool e3, .slice p1 n1 c1, .slice p2 n2 c2, .slice p3 n3 c3, .int .i64 e7], .int .i64 s] w fun e w' => e = .returned (.int .i64 x) ∧ w.grownBy w' none := by
  subst hk
  obtain ⟨t1, t2, t3, t4, t5⟩ := topE_zero hne
  subst t4 t5
  have HF := hid fun w' (hg : w.grownBy w' none) => rofE_any m _ h l s hs w' (hE.keep hg)
  have HN := hid fun w => rIsName_any e2 e2.data.toList rfl w
  have HP := hid fun w => rparams_any h.k w
  have HH := hid fun w => rHasRatio_any h.k w
  have HR1 := hid hR.rright
  have HR2 := hid fun hb W (hW : w.grownBy W none) => none_any e3 p1 p2 n1 c1 n2 c2 true (hR.none hb) W
  have HCC := hid hC
  have HX := hid hX
  have HXX := hid hx
  clear hE hR hnm hs hne hC hX hx
  have hpl : (prm h.k).length ≤ 6 := prm_len h.k
  have hW := World.grownBy_alloc w (.cells #[.int .i64 h.k, .string e2, .bool e3, .slice p1 n1 c1, .slice p2 n2 c2, .slice p3 (prm h.k).length c3, .int .i64 e7] 43 (0, 0)) none
  obtain ⟨⟨k0, k1, k2, k3, k4, k5, k6⟩, -⟩ := box7 (blk0 w (.cells #[.int .i64 h.k, .string e2, .bool e3, .slice p1 n1 c1, .slice p2 n2 c2, .slice p3 (prm h.k).length c3, .int .i64 e7] 43 (0, 0)))
  obtain ⟨rb, hrb⟩ : ∃ f, f = ratB h.k := ⟨_, rfl⟩
  rw [t1] at HF
  rw [← hrb] at HH HR1 HR2
  clear hrb t1
  generalize (prm h.k) = pl at *
  generalize h.k = e1 at *
  by_cases hk : e1 = 1
  · subst hk
    have hnb := t2 rfl
    rw [hnb] at HN
    clear t2 t3 hnb
    cases rb
    all_goals
      go_enter Tryz.func66, Tryz.ntmps66
      go_upto_region 1 with fail
      generalize (w.alloc _) = w0 at *
      go_upto_region 5 with (first | (go_at_call 115; refine (HF.out _ hW).mono ?_; rintro e w1 ⟨rfl, hg⟩; replace hW := grown_trans hW hg; replace k0 := hg.cell k0 (by simp); replace k1 := hg.cell k1 (by simp); replace k2 := hg.cell k2 (by simp); replace k3 := hg.cell k3 (by simp); replace k4 := hg.cell k4 (by simp); replace k5 := hg.cell k5 (by simp); replace k6 := hg.cell k6 (by simp); clear hg) | (go_at_call 105; refine (HN.out _).mono ?_; rintro e w1 ⟨rfl, hg⟩; replace hW := grown_trans hW hg; replace k0 := hg.cell k0 (by simp); replace k1 := hg.cell k1 (by simp); replace k2 := hg.cell k2 (by simp); replace k3 := hg.cell k3 (by simp); replace k4 := hg.cell k4 (by simp); replace k5 := hg.cell k5 (by simp); replace k6 := hg.cell k6 (by simp); clear hg) | (go_at_call 68; refine (HH.out _).mono ?_; rintro e w1 ⟨rfl, hg⟩; replace hW := grown_trans hW hg; replace k0 := hg.cell k0 (by simp); replace k1 := hg.cell k1 (by simp); replace k2 := hg.cell k2 (by simp); replace k3 := hg.cell k3 (by simp); replace k4 := hg.cell k4 (by simp); replace k5 := hg.cell k5 (by simp); replace k6 := hg.cell k6 (by simp); clear hg) | (go_at_call 47; refine (HR1.out (by first | rfl | trivial) _ hW).mono ?_; rintro e w1 ⟨rfl, hg⟩; replace hW := grown_trans hW hg; replace k0 := hg.cell k0 (by simp); replace k1 := hg.cell k1 (by simp); replace k2 := hg.cell k2 (by simp); replace k3 := hg.cell k3 (by simp); replace k4 := hg.cell k4 (by simp); replace k5 := hg.cell k5 (by simp); replace k6 := hg.cell k6 (by simp); clear hg) | (go_at_call 117; refine (HR2.out (by first | rfl | trivial) _ hW).mono ?_; rintro e w1 ⟨rfl, hg⟩; replace hW := grown_trans hW hg; replace k0 := hg.cell k0 (by simp); replace k1 := hg.cell k1 (by simp); replace k2 := hg.cell k2 (by simp); replace k3 := hg.cell k3 (by simp); replace k4 := hg.cell k4 (by simp); replace k5 := hg.cell k5 (by simp); replace k6 := hg.cell k6 (by simp); clear hg))
      refine wp_region_noPanic ?_
      refine wp_region_held_drew (S := (fun w' => w'.cell? ⟨w.heap.size, 0, none⟩ = some (.int .i64 1) ∧ w'.cell? ⟨w.heap.size, 1, none⟩ = some (.string e2) ∧ w'.cell? ⟨w.heap.size, 2, none⟩ = some (.bool e3) ∧ w'.cell? ⟨w.heap.size, 3, none⟩ = some (.slice p1 n1 c1) ∧ w'.cell? ⟨w.heap.size, 4, none⟩ = some (.slice p2 n2 c2) ∧ w'.cell? ⟨w.heap.size, 5, none⟩ = some (.slice p3 pl.length c3) ∧ w'.cell? ⟨w.heap.size, 6, none⟩ = some (.int .i64 e7) ∧ w.grownBy w' none)) (by kernel_rfl) ?_ (fun hHeld => ?_)
      · ((try go_split_ands) <;> (repeat' apply And.intro) <;> (first | (with_reducible assumption) | (with_reducible refine (grown_drew _ none).cell ?_ (by simp); with_reducible assumption) | (with_reducible refine grown_trans ?_ (grown_drew _ none); with_reducible assumption)))
      (refine wpAnyH_take (i := 0) (oi := Oper.mk _ _ _ _ _ _) (v := ?_) rfl (by kernel_rfl) (by kernel_rfl) (by kernel_rfl) (fun _ _ _ h => h) (Or.inl ⟨by kernel_rfl, ?_⟩) (by assumption) ?_; rotate_left 1; focus (intro w hSw; (try dsimp only at hSw); (try obtain ⟨q0, q1, q2, q3, q4, q5, q6, q7⟩ := hSw); go_simp; (try (with_reducible rfl)); done); (try simp only [Act.put, List.setIfInBounds_toArray, List.set_cons_zero, List.set_cons_succ]))
      (refine wpAnyH_take (i := 1) (oi := Oper.mk _ _ _ _ _ _) (v := ?_) rfl (by kernel_rfl) (by kernel_rfl) (by kernel_rfl) (fun _ _ _ h => h) (Or.inl ⟨by kernel_rfl, ?_⟩) (by assumption) ?_; rotate_left 1; focus (intro w hSw; (try dsimp only at hSw); (try obtain ⟨q0, q1, q2, q3, q4, q5, q6, q7⟩ := hSw); go_simp; (try (with_reducible rfl)); done); (try simp only [Act.put, List.setIfInBounds_toArray, List.set_cons_zero, List.set_cons_succ]))
      (refine wpAnyH_take (i := 2) (oi := Oper.mk _ _ _ _ _ _) (v := ?_) rfl (by kernel_rfl) (by kernel_rfl) (by kernel_rfl) (fun _ _ _ h => h) (Or.inl ⟨by kernel_rfl, ?_⟩) (by assumption) ?_; rotate_left 1; focus (intro w hSw; (try dsimp only at hSw); (try obtain ⟨q0, q1, q2, q3, q4, q5, q6, q7⟩ := hSw); go_simp; (try (with_reducible rfl)); done); (try simp only [Act.put, List.setIfInBounds_toArray, List.set_cons_zero, List.set_cons_succ]))
      (refine wpAnyH_take (i := 3) (oi := Oper.mk _ _ _ _ _ _) (v := ?_) rfl (by kernel_rfl) (by kernel_rfl) (by kernel_rfl) (fun _ _ _ h => h) (Or.inl ⟨by kernel_rfl, ?_⟩) (by assumption) ?_; rotate_left 1; focus (intro w hSw; (try dsimp only at hSw); (try obtain ⟨q0, q1, q2, q3, q4, q5, q6, q7⟩ := hSw); go_simp; (try (with_reducible rfl)); done); (try simp only [Act.put, List.setIfInBounds_toArray, List.set_cons_zero, List.set_cons_succ]))
      (refine wpAnyH_take (i := 4) (oi := Oper.mk _ _ _ _ _ _) (v := undef) rfl (by kernel_rfl) (by kernel_rfl) (by kernel_rfl) (fun _ _ _ h => h) (Or.inr ⟨by kernel_rfl, rfl⟩) (by assumption) ?_; (try simp only [Act.put, List.setIfInBounds_toArray, List.set_cons_zero, List.set_cons_succ]))
      (refine wpAnyH_take (i := 5) (oi := Oper.mk _ _ _ _ _ _) (v := undef) rfl (by kernel_rfl) (by kernel_rfl) (by kernel_rfl) (fun _ _ _ h => h) (Or.inr ⟨by kernel_rfl, rfl⟩) (by assumption) ?_; (try simp only [Act.put, List.setIfInBounds_toArray, List.set_cons_zero, List.set_cons_succ]))
      (refine wpAnyH_take (i := 6) (oi := Oper.mk _ _ _ _ _ _) (v := undef) rfl (by kernel_rfl) (by kernel_rfl) (by kernel_rfl) (fun _ _ _ h => h) (Or.inr ⟨by kernel_rfl, rfl⟩) (by assumption) ?_; (try simp only [Act.put, List.setIfInBounds_toArray, List.set_cons_zero, List.set_cons_succ]))
      (refine wpAnyH_take (i := 7) (oi := Oper.mk _ _ _ _ _ _) (v := ?_) rfl (by kernel_rfl) (by kernel_rfl) (by kernel_rfl) (fun _ _ _ h => h) (Or.inl ⟨by kernel_rfl, ?_⟩) (by assumption) ?_; rotate_left 1; focus (intro w hSw; (try dsimp only at hSw); (try obtain ⟨q0, q1, q2, q3, q4, q5, q6, q7⟩ := hSw); go_simp; (try (with_reducible rfl)); done); (try simp only [Act.put, List.setIfInBounds_toArray, List.set_cons_zero, List.set_cons_succ]))
      (refine wpAnyH_take (i := 8) (oi := Oper.mk _ _ _ _ _ _) (v := ?_) rfl (by kernel_rfl) (by kernel_rfl) (by kernel_rfl) (fun _ _ _ h => h) (Or.inl ⟨by kernel_rfl, ?_⟩) (by assumption) ?_; rotate_left 1; focus (intro w hSw; (try dsimp only at hSw); (try obtain ⟨q0, q1, q2, q3, q4, q5, q6, q7⟩ := hSw); go_simp; (try (with_reducible rfl)); done); (try simp only [Act.put, List.setIfInBounds_toArray, List.set_cons_zero, List.set_cons_succ]))
      (refine wpAnyH_take (i := 9) (oi := Oper.mk _ _ _ _ _ _) (v := ?_) rfl (by kernel_rfl) (by kernel_rfl) (by kernel_rfl) (fun _ _ _ h => h) (Or.inl ⟨by kernel_rfl, ?_⟩) (by assumption) ?_; rotate_left 1; focus (intro w hSw; (try dsimp only at hSw); (try obtain ⟨q0, q1, q2, q3, q4, q5, q6, q7⟩ := hSw); go_simp; (try (with_reducible rfl)); done); (try simp only [Act.put, List.setIfInBounds_toArray, List.set_cons_zero, List.set_cons_succ]))
      (refine wpAnyH_take (i := 10) (oi := Oper.mk _ _ _ _ _ _) (v := ?_) rfl (by kernel_rfl) (by kernel_rfl) (by kernel_rfl) (fun _ _ _ h => h) (Or.inl ⟨by kernel_rfl, ?_⟩) (by assumption) ?_; rotate_left 1; focus (intro w hSw; (try dsimp only at hSw); (try obtain ⟨q0, q1, q2, q3, q4, q5, q6, q7⟩ := hSw); go_simp; (try (with_reducible rfl)); done); (try simp only [Act.put, List.setIfInBounds_toArray, List.set_cons_zero, List.set_cons_succ]))
      (refine wpAnyH_take (i := 11) (oi := Oper.mk _ _ _ _ _ _) (v := ?_) rfl (by kernel_rfl) (by kernel_rfl) (by kernel_rfl) (fun _ _ _ h => h) (Or.inl ⟨by kernel_rfl, ?_⟩) (by assumption) ?_; rotate_left 1; focus (intro w hSw; (try dsimp only at hSw); (try obtain ⟨q0, q1, q2, q3, q4, q5, q6, q7⟩ := hSw); go_simp; (try (with_reducible rfl)); done); (try simp only [Act.put, List.setIfInBounds_toArray, List.set_cons_zero, List.set_cons_succ]))
      (refine wpAnyH_take (i := 12) (oi := Oper.mk _ _ _ _ _ _) (v := ?_) rfl (by kernel_rfl) (by kernel_rfl) (by kernel_rfl) (fun _ _ _ h => h) (Or.inl ⟨by kernel_rfl, ?_⟩) (by assumption) ?_; rotate_left 1; focus (intro w hSw; (try dsimp only at hSw); (try obtain ⟨q0, q1, q2, q3, q4, q5, q6, q7⟩ := hSw); go_simp; (try (with_reducible rfl)); done); (try simp only [Act.put, List.setIfInBounds_toArray, List.set_cons_zero, List.set_cons_succ]))
      (refine wpAnyH_take (i := 13) (oi := Oper.mk _ _ _ _ _ _) (v := ?_) rfl (by kernel_rfl) (by kernel_rfl) (by kernel_rfl) (fun _ _ _ h => h) (Or.inl ⟨by kernel_rfl, ?_⟩) (by assumption) ?_; rotate_left 1; focus (intro w hSw; (try dsimp only at hSw); (try obtain ⟨q0, q1, q2, q3, q4, q5, q6, q7⟩ := hSw); go_simp; (try (with_reducible rfl)); done); (try simp only [Act.put, List.setIfInBounds_toArray, List.set_cons_zero, List.set_cons_succ]))
      refine wpAnyH_ready (rs := [14]) (by kernel_rfl) (by simp) ?_
      refine AllReadyH.cons (o := Oper.mk _ _ _ _ _ _) rfl (fun K hK => ?_) AllReadyH.nil
      (try rw [if_pos (by kernel_rfl)])
      (first | (go_at_call 116; (with_reducible refine (HP.out _).mono ?_); rintro e v3 ⟨pp, nn, cc, rfl, hfr, hrd, hg⟩; obtain rfl := hrd.len; (first | replace hW := grown_trans hW hg | replace hW := grown_trans (grown_trans hW (grown_drew _ none)) hg); replace k0 := hg.cell k0 (by simp); replace k1 := hg.cell k1 (by simp); replace k2 := hg.cell k2 (by simp); replace k3 := hg.cell k3 (by simp); replace k4 := hg.cell k4 (by simp); replace k5 := hg.cell k5 (by simp); replace k6 := hg.cell k6 (by simp); clear hfr hrd) | (go_simp; (go_at_call 116; (with_reducible refine (HP.out _).mono ?_); rintro e v3 ⟨pp, nn, cc, rfl, hfr, hrd, hg⟩; obtain rfl := hrd.len; (first | replace hW := grown_trans hW hg | replace hW := grown_trans (grown_trans hW (grown_drew _ none)) hg); replace k0 := hg.cell k0 (by simp); replace k1 := hg.cell k1 (by simp); replace k2 := hg.cell k2 (by simp); replace k3 := hg.cell k3 (by simp); replace k4 := hg.cell k4 (by simp); replace k5 := hg.cell k5 (by simp); replace k6 := hg.cell k6 (by simp); clear hfr hrd)))
      refine hK.out _ _ ?_ (fun hNew => ?_)
      · (try dsimp only)
        ((try go_split_ands) <;> (repeat' apply And.intro) <;> (first | (with_reducible assumption) | (with_reducible refine (grown_drew _ none).cell ?_ (by simp); with_reducible assumption) | (with_reducible refine grown_trans ?_ (grown_drew _ none); with_reducible assumption)))
      clear hK K hHeld
      have hHeld := hNew
      clear hNew
      (try simp only [Act.put, List.setIfInBounds_toArray, List.set_cons_zero, List.set_cons_succ])
      (refine wpAnyH_take (i := 15) (oi := Oper.mk _ _ _ _ _ _) (v := ?_) rfl (by kernel_rfl) (by kernel_rfl) (by kernel_rfl) (fun _ _ _ h => h) (Or.inl ⟨by kernel_rfl, ?_⟩) (by assumption) ?_; rotate_left 1; focus (intro w hSw; (try dsimp only at hSw); (try obtain ⟨q0, q1, q2, q3, q4, q5, q6, q7⟩ := hSw); go_simp; (try (with_reducible rfl)); done); (try simp only [Act.put, List.setIfInBounds_toArray, List.set_cons_zero, List.set_cons_succ]))
      (refine wpAnyH_take (i := 16) (oi := Oper.mk _ _ _ _ _ _) (v := ?_) rfl (by kernel_rfl) (by kernel_rfl) (by kernel_rfl) (fun _ _ _ h => h) (Or.inl ⟨by kernel_rfl, ?_⟩) (by assumption) ?_; rotate_left 1; focus (intro w hSw; (try dsimp only at hSw); (try obtain ⟨q0, q1, q2, q3, q4, q5, q6, q7⟩ := hSw); go_simp; (try (with_reducible rfl)); done); (try simp only [Act.put, List.setIfInBounds_toArray, List.set_cons_zero, List.set_cons_succ]))
      (refine wpAnyH_take (i := 17) (oi := Oper.mk _ _ _ _ _ _) (v := ?_) rfl (by kernel_rfl) (by kernel_rfl) (by kernel_rfl) (fun _ _ _ h => h) (Or.inl ⟨by kernel_rfl, ?_⟩) (by assumption) ?_; rotate_left 1; focus (intro w hSw; (try dsimp only at hSw); (try obtain ⟨q0, q1, q2, q3, q4, q5, q6, q7⟩ := hSw); go_simp; (try (with_reducible rfl)); done); (try simp only [Act.put, List.setIfInBounds_toArray, List.set_cons_zero, List.set_cons_succ]))
      refine wpAnyH_done (by kernel_rfl) ?_ _
      refine NoPanic.normal ?_
      go_wp2_with (first | (go_at_call 115; refine (HF.out _ hW).mono ?_; rintro e w1 ⟨rfl, hg⟩; replace hW := grown_trans hW hg; replace k0 := hg.cell k0 (by simp); replace k1 := hg.cell k1 (by simp); replace k2 := hg.cell k2 (by simp); replace k3 := hg.cell k3 (by simp); replace k4 := hg.cell k4 (by simp); replace k5 := hg.cell k5 (by simp); replace k6 := hg.cell k6 (by simp); clear hg) | (go_at_call 105; refine (HN.out _).mono ?_; rintro e w1 ⟨rfl, hg⟩; replace hW := grown_trans hW hg; replace k0 := hg.cell k0 (by simp); replace k1 := hg.cell k1 (by simp); replace k2 := hg.cell k2 (by simp); replace k3 := hg.cell k3 (by simp); replace k4 := hg.cell k4 (by simp); replace k5 := hg.cell k5 (by simp); replace k6 := hg.cell k6 (by simp); clear hg) | (go_at_call 68; refine (HH.out _).mono ?_; rintro e w1 ⟨rfl, hg⟩; replace hW := grown_trans hW hg; replace k0 := hg.cell k0 (by simp); replace k1 := hg.cell k1 (by simp); replace k2 := hg.cell k2 (by simp); replace k3 := hg.cell k3 (by simp); replace k4 := hg.cell k4 (by simp); replace k5 := hg.cell k5 (by simp); replace k6 := hg.cell k6 (by simp); clear hg) | (go_at_call 47; refine (HR1.out (by first | rfl | trivial) _ hW).mono ?_; rintro e w1 ⟨rfl, hg⟩; replace hW := grown_trans hW hg; replace k0 := hg.cell k0 (by simp); replace k1 := hg.cell k1 (by simp); replace k2 := hg.cell k2 (by simp); replace k3 := hg.cell k3 (by simp); replace k4 := hg.cell k4 (by simp); replace k5 := hg.cell k5 (by simp); replace k6 := hg.cell k6 (by simp); clear hg) | (go_at_call 117; refine (HR2.out (by first | rfl | trivial) _ hW).mono ?_; rintro e w1 ⟨rfl, hg⟩; replace hW := grown_trans hW hg; replace k0 := hg.cell k0 (by simp); replace k1 := hg.cell k1 (by simp); replace k2 := hg.cell k2 (by simp); replace k3 := hg.cell k3 (by simp); replace k4 := hg.cell k4 (by simp); replace k5 := hg.cell k5 (by simp); replace k6 := hg.cell k6 (by simp); clear hg))
      have HW2 := hid hW
      have K0 := hid k0
      clear k1 k2 k3 k4 k6 k0 k5 hW HF HN HH HR1 HR2
      go_loopw [63] (fun y wr => ∃ k : Nat, k ≤ pl.length ∧ y = .int .i64 k ∧ w1.grownBy wr none ∧ Hid (scan X k (pl.length - k) = x)) (fun y _ => pl.length - (intOf y).toNat)
      case atStart => exact ⟨0, Nat.zero_le _, rfl, grown_refl _ _, hid HXX.out⟩
      case round =>
        clear HXX
        obtain ⟨k, hk9, rfl, hg, hsc⟩ := hrel
        by_cases hlt : k < pl.length
        · have hgw := grown_trans HW2.out hg
          have k0 := hg.cell K0.out (by simp)
          obtain ⟨bA, oA, x1, x2, x3, q1, m1, d1, q2, m2, d2, q3, m3, d3, x7, rfl, hck, a0, a1, a2, a3, a4, a5, a6⟩ := HCC.out k hlt
          replace a0 := hgw.cell a0 (by simp); replace a1 := hgw.cell a1 (by simp); replace a2 := hgw.cell a2 (by simp); replace a3 := hgw.cell a3 (by simp); replace a4 := hgw.cell a4 (by simp); replace a5 := hgw.cell a5 (by simp); replace a6 := hgw.cell a6 (by simp)
          have hG1 := World.grownBy_alloc wr (.cells #[.int .i64 x1, .string x2, .bool x3, .slice q1 m1 d1, .slice q2 m2 d2, .slice q3 m3 d3, .int .i64 x7] 43 (0, 0)) none
          have HC := hid fun w' (hg' : (wr.alloc (.cells #[.int .i64 x1, .string x2, .bool x3, .slice q1 m1 d1, .slice q2 m2 d2, .slice q3 m3 d3, .int .i64 x7] 43 (0, 0))).grownBy w' none) => HX.out k hlt hlt w' (grown_trans (grown_trans hgw hG1) hg')
          rw [hck] at HC
          rw [scan_step hlt] at hsc
          have HGG := hid (grown_trans hgw hG1)
          have HGQ := hid (grown_trans hg hG1)
          clear hck
          generalize X k = v at *
          obtain ⟨⟨o0, o1, o2, o3, o4, o5, o6⟩, f0, f1, f2, f3, f4, f5, f6⟩ := box7 (blk0 wr (zeroE 43))
          unfold zeroE at o0 o1 o2 o3 o4 o5 o6 f0 f1 f2 f3 f4 f5 f6
          go_upto_region 12 with fail
          clear o0 o1 o2 o3 o4 o5 o6 f0 f1 f2 f3 f4 f5 f6 a0 a1 a2 a3 a4 a5 a6
          obtain ⟨⟨a0, a1, a2, a3, a4, a5, a6⟩, -⟩ := box7 (blk0 wr (.cells #[.int .i64 x1, .string x2, .bool x3, .slice q1 m1 d1, .slice q2 m2 d2, .slice q3 m3 d3, .int .i64 x7] 43 (0, 0)))
          replace k0 := hG1.cell k0 (by simp)
          clear hG1
          generalize (wr.alloc _) = w5 at *
          generalize wr.heap.size = B5 at *
          have hgr := grown_refl w5 none
          by_cases hv : v = 0
          · subst hv
            rw [if_pos rfl] at hsc
            refine wp_region_noPanic ?_
            refine wp_region_held_drew (S := (fun w' => w'.cell? ⟨w.heap.size, 0, none⟩ = some (.int .i64 1) ∧ w'.cell? ⟨B5, 0, none⟩ = some (.int .i64 x1) ∧ w'.cell? ⟨B5, 1, none⟩ = some (.string x2) ∧ w'.cell? ⟨B5, 2, none⟩ = some (.bool x3) ∧ w'.cell? ⟨B5, 3, none⟩ = some (.slice q1 m1 d1) ∧ w'.cell? ⟨B5, 4, none⟩ = some (.slice q2 m2 d2) ∧ w'.cell? ⟨B5, 5, none⟩ = some (.slice q3 m3 d3) ∧ w'.cell? ⟨B5, 6, none⟩ = some (.int .i64 x7) ∧ w5.grownBy w' none)) (by kernel_rfl) ?_ (fun hHeld => ?_)
            · ((try go_split_ands) <;> (repeat' apply And.intro) <;> (first | (with_reducible assumption) | (with_reducible refine (grown_drew _ none).cell ?_ (by simp); with_reducible assumption) | (with_reducible refine grown_trans ?_ (grown_drew _ none); with_reducible assumption)))
            (refine wpAnyH_take (i := 0) (oi := Oper.mk _ _ _ _ _ _) (v := ?_) rfl (by kernel_rfl) (by kernel_rfl) (by kernel_rfl) (fun _ _ _ h => h) (Or.inl ⟨by kernel_rfl, ?_⟩) (by assumption) ?_; rotate_left 1; focus (intro w hSw; (try dsimp only at hSw); (try obtain ⟨q0, q1, q2, q3, q4, q5, q6, q7, q8⟩ := hSw); go_simp; (try (with_reducible rfl)); done); (try simp only [Act.put, List.setIfInBounds_toArray, List.set_cons_zero, List.set_cons_succ]))
            (refine wpAnyH_take (i := 1) (oi := Oper.mk _ _ _ _ _ _) (v := ?_) rfl (by kernel_rfl) (by kernel_rfl) (by kernel_rfl) (fun _ _ _ h => h) (Or.inl ⟨by kernel_rfl, ?_⟩) (by assumption) ?_; rotate_left 1; focus (intro w hSw; (try dsimp only at hSw); (try obtain ⟨q0, q1, q2, q3, q4, q5, q6, q7, q8⟩ := hSw); go_simp; (try (with_reducible rfl)); done); (try simp only [Act.put, List.setIfInBounds_toArray, List.set_cons_zero, List.set_cons_succ]))
            (refine wpAnyH_take (i := 2) (oi := Oper.mk _ _ _ _ _ _) (v := ?_) rfl (by kernel_rfl) (by kernel_rfl) (by kernel_rfl) (fun _ _ _ h => h) (Or.inl ⟨by kernel_rfl, ?_⟩) (by assumption) ?_; rotate_left 1; focus (intro w hSw; (try dsimp only at hSw); (try obtain ⟨q0, q1, q2, q3, q4, q5, q6, q7, q8⟩ := hSw); go_simp; (try (with_reducible rfl)); done); (try simp only [Act.put, List.setIfInBounds_toArray, List.set_cons_zero, List.set_cons_succ]))
            (refine wpAnyH_take (i := 4) (oi := Oper.mk _ _ _ _ _ _) (v := ?_) rfl (by kernel_rfl) (by kernel_rfl) (by kernel_rfl) (fun _ _ _ h => h) (Or.inl ⟨by kernel_rfl, ?_⟩) (by assumption) ?_; rotate_left 1; focus (intro w hSw; (try dsimp only at hSw); (try obtain ⟨q0, q1, q2, q3, q4, q5, q6, q7, q8⟩ := hSw); go_simp; (try (with_reducible rfl)); done); (try simp only [Act.put, List.setIfInBounds_toArray, List.set_cons_zero, List.set_cons_succ]))
            refine wpAnyH_ready (rs := [3]) (by kernel_rfl) (by simp) ?_
            refine AllReadyH.cons (o := Oper.mk _ _ _ _ _ _) rfl (fun K hK => ?_) AllReadyH.nil
            (try rw [if_pos (by kernel_rfl)])
            (first | (go_at_call 116; (with_reducible refine (HP.out _).mono ?_); rintro e v3 ⟨pp, nn, cc, rfl, hfr, hrd, hg3⟩; obtain rfl := hrd.len; obtain ⟨bP, oP, rfl, cP⟩ := hrd.cel k hlt; have hcc := hrd.cap; have hcm := hrd.max; (first | replace hgr := grown_trans hgr hg3 | replace hgr := grown_trans (grown_trans hgr (grown_drew _ none)) hg3); replace k0 := hg3.cell k0 (by simp); replace a0 := hg3.cell a0 (by simp); replace a1 := hg3.cell a1 (by simp); replace a2 := hg3.cell a2 (by simp); replace a3 := hg3.cell a3 (by simp); replace a4 := hg3.cell a4 (by simp); replace a5 := hg3.cell a5 (by simp); replace a6 := hg3.cell a6 (by simp); clear hfr hrd hg3) | (go_simp; (go_at_call 116; (with_reducible refine (HP.out _).mono ?_); rintro e v3 ⟨pp, nn, cc, rfl, hfr, hrd, hg3⟩; obtain rfl := hrd.len; obtain ⟨bP, oP, rfl, cP⟩ := hrd.cel k hlt; have hcc := hrd.cap; have hcm := hrd.max; (first | replace hgr := grown_trans hgr hg3 | replace hgr := grown_trans (grown_trans hgr (grown_drew _ none)) hg3); replace k0 := hg3.cell k0 (by simp); replace a0 := hg3.cell a0 (by simp); replace a1 := hg3.cell a1 (by simp); replace a2 := hg3.cell a2 (by simp); replace a3 := hg3.cell a3 (by simp); replace a4 := hg3.cell a4 (by simp); replace a5 := hg3.cell a5 (by simp); replace a6 := hg3.cell a6 (by simp); clear hfr hrd hg3)))
            refine hK.out _ _ ?_ (fun hNew => ?_)
            · (try dsimp only)
              ((try go_split_ands) <;> (repeat' apply And.intro) <;> (first | (with_reducible assumption) | (with_reducible refine (grown_drew _ none).cell ?_ (by simp); with_reducible assumption) | (with_reducible refine grown_trans ?_ (grown_drew _ none); with_reducible assumption)))
            clear hK K hHeld
            have hHeld := hNew
            clear hNew
            (try simp only [Act.put, List.setIfInBounds_toArray, List.set_cons_zero, List.set_cons_succ])
            (refine wpAnyH_take (i := 5) (oi := Oper.mk _ _ _ _ _ _) (v := ?_) rfl (by kernel_rfl) (by kernel_rfl) (by kernel_rfl) (fun _ _ _ h => h) (Or.inl ⟨by kernel_rfl, ?_⟩) (by assumption) ?_; rotate_left 1; focus (intro w hSw; (try dsimp only at hSw); (try obtain ⟨q0, q1, q2, q3, q4, q5, q6, q7, q8⟩ := hSw); go_simp; (try (with_reducible rfl)); done); (try simp only [Act.put, List.setIfInBounds_toArray, List.set_cons_zero, List.set_cons_succ]))
            refine wpAnyH_ready (rs := [6]) (by kernel_rfl) (by simp) ?_
            refine AllReadyH.cons (o := Oper.mk _ _ _ _ _ _) rfl (fun K hK => ?_) AllReadyH.nil
            (try rw [if_pos (by kernel_rfl)])
            go_simp
            refine hK.out _ _ ?_ (fun hNew => ?_)
            · (try dsimp only)
              ((try go_split_ands) <;> (repeat' apply And.intro) <;> (first | (with_reducible assumption) | (with_reducible refine (grown_drew _ none).cell ?_ (by simp); with_reducible assumption) | (with_reducible refine grown_trans ?_ (grown_drew _ none); with_reducible assumption)))
            clear hK K hHeld
            have hHeld := hNew
            clear hNew
            (try simp only [Act.put, List.setIfInBounds_toArray, List.set_cons_zero, List.set_cons_succ])
            refine wpAnyH_ready (rs := [7]) (by kernel_rfl) (by simp) ?_
            refine AllReadyH.cons (o := Oper.mk _ _ _ _ _ _) rfl (fun K hK => ?_) AllReadyH.nil
            (try rw [if_pos (by kernel_rfl)])
            (first | (go_at_call 66; (first | with_reducible refine (HC.out _ hgr).mono ?_ | with_reducible refine (HC.out _ (grown_trans hgr (grown_drew _ none))).mono ?_); rintro e v4 ⟨rfl, hg3⟩; (first | replace hgr := grown_trans hgr hg3 | replace hgr := grown_trans (grown_trans hgr (grown_drew _ none)) hg3); replace k0 := hg3.cell k0 (by simp); replace a0 := hg3.cell a0 (by simp); replace a1 := hg3.cell a1 (by simp); replace a2 := hg3.cell a2 (by simp); replace a3 := hg3.cell a3 (by simp); replace a4 := hg3.cell a4 (by simp); replace a5 := hg3.cell a5 (by simp); replace a6 := hg3.cell a6 (by simp); clear hg3) | (go_simp; (go_at_call 66; (first | with_reducible refine (HC.out _ hgr).mono ?_ | with_reducible refine (HC.out _ (grown_trans hgr (grown_drew _ none))).mono ?_); rintro e v4 ⟨rfl, hg3⟩; (first | replace hgr := grown_trans hgr hg3 | replace hgr := grown_trans (grown_trans hgr (grown_drew _ none)) hg3); replace k0 := hg3.cell k0 (by simp); replace a0 := hg3.cell a0 (by simp); replace a1 := hg3.cell a1 (by simp); replace a2 := hg3.cell a2 (by simp); replace a3 := hg3.cell a3 (by simp); replace a4 := hg3.cell a4 (by simp); replace a5 := hg3.cell a5 (by simp); replace a6 := hg3.cell a6 (by simp); clear hg3)))
            refine hK.out _ _ ?_ (fun hNew => ?_)
            · (try dsimp only)
              ((try go_split_ands) <;> (repeat' apply And.intro) <;> (first | (with_reducible assumption) | (with_reducible refine (grown_drew _ none).cell ?_ (by simp); with_reducible assumption) | (with_reducible refine grown_trans ?_ (grown_drew _ none); with_reducible assumption)))
            clear hK K hHeld
            have hHeld := hNew
            clear hNew
            (try simp only [Act.put, List.setIfInBounds_toArray, List.set_cons_zero, List.set_cons_succ])
            (refine wpAnyH_take (i := 8) (oi := Oper.mk _ _ _ _ _ _) (v := ?_) rfl (by kernel_rfl) (by kernel_rfl) (by kernel_rfl) (fun _ _ _ h => h) (Or.inl ⟨by kernel_rfl, ?_⟩) (by assumption) ?_; rotate_left 1; focus (intro w hSw; (try dsimp only at hSw); (try obtain ⟨q0, q1, q2, q3, q4, q5, q6, q7, q8⟩ := hSw); go_simp; (try (with_reducible rfl)); done); (try simp only [Act.put, List.setIfInBounds_toArray, List.set_cons_zero, List.set_cons_succ]))
            refine wpAnyH_done (by kernel_rfl) ?_ _
            refine NoPanic.normal ?_
            go_wp2_with fail
            exact ⟨⟨k + 1, by omega, by go_num, grown_trans HGQ.out hgr, hsc⟩, by simp [intOf]; omega⟩
          · rw [if_neg hv] at hsc
            obtain rfl := hsc.out
            refine wp_region_noPanic ?_
            refine wp_region_held_drew (S := (fun w' => w'.cell? ⟨w.heap.size, 0, none⟩ = some (.int .i64 1) ∧ w'.cell? ⟨B5, 0, none⟩ = some (.int .i64 x1) ∧ w'.cell? ⟨B5, 1, none⟩ = some (.string x2) ∧ w'.cell? ⟨B5, 2, none⟩ = some (.bool x3) ∧ w'.cell? ⟨B5, 3, none⟩ = some (.slice q1 m1 d1) ∧ w'.cell? ⟨B5, 4, none⟩ = some (.slice q2 m2 d2) ∧ w'.cell? ⟨B5, 5, none⟩ = some (.slice q3 m3 d3) ∧ w'.cell? ⟨B5, 6, none⟩ = some (.int .i64 x7) ∧ w5.grownBy w' none)) (by kernel_rfl) ?_ (fun hHeld => ?_)
            · ((try go_split_ands) <;> (repeat' apply And.intro) <;> (first | (with_reducible assumption) | (with_reducible refine (grown_drew _ none).cell ?_ (by simp); with_reducible assumption) | (with_reducible refine grown_trans ?_ (grown_drew _ none); with_reducible assumption)))
            (refine wpAnyH_take (i := 0) (oi := Oper.mk _ _ _ _ _ _) (v := ?_) rfl (by kernel_rfl) (by kernel_rfl) (by kernel_rfl) (fun _ _ _ h => h) (Or.inl ⟨by kernel_rfl, ?_⟩) (by assumption) ?_; rotate_left 1; focus (intro w hSw; (try dsimp only at hSw); (try obtain ⟨q0, q1, q2, q3, q4, q5, q6, q7, q8⟩ := hSw); go_simp; (try (with_reducible rfl)); done); (try simp only [Act.put, List.setIfInBounds_toArray, List.set_cons_zero, List.set_cons_succ]))
            (refine wpAnyH_take (i := 1) (oi := Oper.mk _ _ _ _ _ _) (v := ?_) rfl (by kernel_rfl) (by kernel_rfl) (by kernel_rfl) (fun _ _ _ h => h) (Or.inl ⟨by kernel_rfl, ?_⟩) (by assumption) ?_; rotate_left 1; focus (intro w hSw; (try dsimp only at hSw); (try obtain ⟨q0, q1, q2, q3, q4, q5, q6, q7, q8⟩ := hSw); go_simp; (try (with_reducible rfl)); done); (try simp only [Act.put, List.setIfInBounds_toArray, List.set_cons_zero, List.set_cons_succ]))
            (refine wpAnyH_take (i := 2) (oi := Oper.mk _ _ _ _ _ _) (v := ?_) rfl (by kernel_rfl) (by kernel_rfl) (by kernel_rfl) (fun _ _ _ h => h) (Or.inl ⟨by kernel_rfl, ?_⟩) (by assumption) ?_; rotate_left 1; focus (intro w hSw; (try dsimp only at hSw); (try obtain ⟨q0, q1, q2, q3, q4, q5, q6, q7, q8⟩ := hSw); go_simp; (try (with_reducible rfl)); done); (try simp only [Act.put, List.setIfInBounds_toArray, List.set_cons_zero, List.set_cons_succ]))
            (refine wpAnyH_take (i := 4) (oi := Oper.mk _ _ _ _ _ _) (v := ?_) rfl (by kernel_rfl) (by kernel_rfl) (by kernel_rfl) (fun _ _ _ h => h) (Or.inl ⟨by kernel_rfl, ?_⟩) (by assumption) ?_; rotate_left 1; focus (intro w hSw; (try dsimp only at hSw); (try obtain ⟨q0, q1, q2, q3, q4, q5, q6, q7, q8⟩ := hSw); go_simp; (try (with_reducible rfl)); done); (try simp only [Act.put, List.setIfInBounds_toArray, List.set_cons_zero, List.set_cons_succ]))
            refine wpAnyH_ready (rs := [3]) (by kernel_rfl) (by simp) ?_
            refine AllReadyH.cons (o := Oper.mk _ _ _ _ _ _) rfl (fun K hK => ?_) AllReadyH.nil
            (try rw [if_pos (by kernel_rfl)])
            (first | (go_at_call 116; (with_reducible refine (HP.out _).mono ?_); rintro e v3 ⟨pp, nn, cc, rfl, hfr, hrd, hg3⟩; obtain rfl := hrd.len; obtain ⟨bP, oP, rfl, cP⟩ := hrd.cel k hlt; have hcc := hrd.cap; have hcm := hrd.max; (first | replace hgr := grown_trans hgr hg3 | replace hgr := grown_trans (grown_trans hgr (grown_drew _ none)) hg3); replace k0 := hg3.cell k0 (by simp); replace a0 := hg3.cell a0 (by simp); replace a1 := hg3.cell a1 (by simp); replace a2 := hg3.cell a2 (by simp); replace a3 := hg3.cell a3 (by simp); replace a4 := hg3.cell a4 (by simp); replace a5 := hg3.cell a5 (by simp); replace a6 := hg3.cell a6 (by simp); clear hfr hrd hg3) | (go_simp; (go_at_call 116; (with_reducible refine (HP.out _).mono ?_); rintro e v3 ⟨pp, nn, cc, rfl, hfr, hrd, hg3⟩; obtain rfl := hrd.len; obtain ⟨bP, oP, rfl, cP⟩ := hrd.cel k hlt; have hcc := hrd.cap; have hcm := hrd.max; (first | replace hgr := grown_trans hgr hg3 | replace hgr := grown_trans (grown_trans hgr (grown_drew _ none)) hg3); replace k0 := hg3.cell k0 (by simp); replace a0 := hg3.cell a0 (by simp); replace a1 := hg3.cell a1 (by simp); replace a2 := hg3.cell a2 (by simp); replace a3 := hg3.cell a3 (by simp); replace a4 := hg3.cell a4 (by simp); replace a5 := hg3.cell a5 (by simp); replace a6 := hg3.cell a6 (by simp); clear hfr hrd hg3)))
            refine hK.out _ _ ?_ (fun hNew => ?_)
            · (try dsimp only)
              ((try go_split_ands) <;> (repeat' apply And.intro) <;> (first | (with_reducible assumption) | (with_reducible refine (grown_drew _ none).cell ?_ (by simp); with_reducible assumption) | (with_reducible refine grown_trans ?_ (grown_drew _ none); with_reducible assumption)))
            clear hK K hHeld
            have hHeld := hNew
            clear hNew
            (try simp only [Act.put, List.setIfInBounds_toArray, List.set_cons_zero, List.set_cons_succ])
            (refine wpAnyH_take (i := 5) (oi := Oper.mk _ _ _ _ _ _) (v := ?_) rfl (by kernel_rfl) (by kernel_rfl) (by kernel_rfl) (fun _ _ _ h => h) (Or.inl ⟨by kernel_rfl, ?_⟩) (by assumption) ?_; rotate_left 1; focus (intro w hSw; (try dsimp only at hSw); (try obtain ⟨q0, q1, q2, q3, q4, q5, q6, q7, q8⟩ := hSw); go_simp; (try (with_reducible rfl)); done); (try simp only [Act.put, List.setIfInBounds_toArray, List.set_cons_zero, List.set_cons_succ]))
            refine wpAnyH_ready (rs := [6]) (by kernel_rfl) (by simp) ?_
            refine AllReadyH.cons (o := Oper.mk _ _ _ _ _ _) rfl (fun K hK => ?_) AllReadyH.nil
            (try rw [if_pos (by kernel_rfl)])
            go_simp
            refine hK.out _ _ ?_ (fun hNew => ?_)
            · (try dsimp only)
              ((try go_split_ands) <;> (repeat' apply And.intro) <;> (first | (with_reducible assumption) | (with_reducible refine (grown_drew _ none).cell ?_ (by simp); with_reducible assumption) | (with_reducible refine grown_trans ?_ (grown_drew _ none); with_reducible assumption)))
            clear hK K hHeld
            have hHeld := hNew
            clear hNew
            (try simp only [Act.put, List.setIfInBounds_toArray, List.set_cons_zero, List.set_cons_succ])
            refine wpAnyH_ready (rs := [7]) (by kernel_rfl) (by simp) ?_
            refine AllReadyH.cons (o := Oper.mk _ _ _ _ _ _) rfl (fun K hK => ?_) AllReadyH.nil
            (try rw [if_pos (by kernel_rfl)])
            (first | (go_at_call 66; (first | with_reducible refine (HC.out _ hgr).mono ?_ | with_reducible refine (HC.out _ (grown_trans hgr (grown_drew _ none))).mono ?_); rintro e v4 ⟨rfl, hg3⟩; (first | replace hgr := grown_trans hgr hg3 | replace hgr := grown_trans (grown_trans hgr (grown_drew _ none)) hg3); replace k0 := hg3.cell k0 (by simp); replace a0 := hg3.cell a0 (by simp); replace a1 := hg3.cell a1 (by simp); replace a2 := hg3.cell a2 (by simp); replace a3 := hg3.cell a3 (by simp); replace a4 := hg3.cell a4 (by simp); replace a5 := hg3.cell a5 (by simp); replace a6 := hg3.cell a6 (by simp); clear hg3) | (go_simp; (go_at_call 66; (first | with_reducible refine (HC.out _ hgr).mono ?_ | with_reducible refine (HC.out _ (grown_trans hgr (grown_drew _ none))).mono ?_); rintro e v4 ⟨rfl, hg3⟩; (first | replace hgr := grown_trans hgr hg3 | replace hgr := grown_trans (grown_trans hgr (grown_drew _ none)) hg3); replace k0 := hg3.cell k0 (by simp); replace a0 := hg3.cell a0 (by simp); replace a1 := hg3.cell a1 (by simp); replace a2 := hg3.cell a2 (by simp); replace a3 := hg3.cell a3 (by simp); replace a4 := hg3.cell a4 (by simp); replace a5 := hg3.cell a5 (by simp); replace a6 := hg3.cell a6 (by simp); clear hg3)))
            refine hK.out _ _ ?_ (fun hNew => ?_)
            · (try dsimp only)
              ((try go_split_ands) <;> (repeat' apply And.intro) <;> (first | (with_reducible assumption) | (with_reducible refine (grown_drew _ none).cell ?_ (by simp); with_reducible assumption) | (with_reducible refine grown_trans ?_ (grown_drew _ none); with_reducible assumption)))
            clear hK K hHeld
            have hHeld := hNew
            clear hNew
            (try simp only [Act.put, List.setIfInBounds_toArray, List.set_cons_zero, List.set_cons_succ])
            (refine wpAnyH_take (i := 8) (oi := Oper.mk _ _ _ _ _ _) (v := ?_) rfl (by kernel_rfl) (by kernel_rfl) (by kernel_rfl) (fun _ _ _ h => h) (Or.inl ⟨by kernel_rfl, ?_⟩) (by assumption) ?_; rotate_left 1; focus (intro w hSw; (try dsimp only at hSw); (try obtain ⟨q0, q1, q2, q3, q4, q5, q6, q7, q8⟩ := hSw); go_simp; (try (with_reducible rfl)); done); (try simp only [Act.put, List.setIfInBounds_toArray, List.set_cons_zero, List.set_cons_succ]))
            refine wpAnyH_done (by kernel_rfl) ?_ _
            refine NoPanic.normal ?_
            go_wp2_with fail
            go_ret
            exact ⟨rfl, grown_trans HGG.out hgr⟩
        · obtain rfl : k = pl.length := by omega
          obtain rfl : x = 0 := by
            have := hsc.out
            rw [Nat.sub_self] at this
            exact this.symm
          go_wp2_with fail
          go_ret
          exact ⟨rfl, grown_trans HW2.out hg⟩
  · have he := t3 hk
    have hzk : (e1 != 1) = true := by simpa using hk
    have hzk2 : (e1 == 1) = false := by simpa using hk
    have hz0 : e2.toList.isEmpty = true := by simp [Lib.toList_data, he]
    clear t2 t3 he
    cases rb
    all_goals
      go_enter Tryz.func66, Tryz.ntmps66
      go_upto_region 1 with fail
      generalize (w.alloc _) = w0 at *
      go_upto_region 5 with (first | (go_at_call 115; refine (HF.out _ hW).mono ?_; rintro e w1 ⟨rfl, hg⟩; replace hW := grown_trans hW hg; replace k0 := hg.cell k0 (by simp); replace k1 := hg.cell k1 (by simp); replace k2 := hg.cell k2 (by simp); replace k3 := hg.cell k3 (by simp); replace k4 := hg.cell k4 (by simp); replace k5 := hg.cell k5 (by simp); replace k6 := hg.cell k6 (by simp); clear hg) | (go_at_call 105; refine (HN.out _).mono ?_; rintro e w1 ⟨rfl, hg⟩; replace hW := grown_trans hW hg; replace k0 := hg.cell k0 (by simp); replace k1 := hg.cell k1 (by simp); replace k2 := hg.cell k2 (by simp); replace k3 := hg.cell k3 (by simp); replace k4 := hg.cell k4 (by simp); replace k5 := hg.cell k5 (by simp); replace k6 := hg.cell k6 (by simp); clear hg) | (go_at_call 68; refine (HH.out _).mono ?_; rintro e w1 ⟨rfl, hg⟩; replace hW := grown_trans hW hg; replace k0 := hg.cell k0 (by simp); replace k1 := hg.cell k1 (by simp); replace k2 := hg.cell k2 (by simp); replace k3 := hg.cell k3 (by simp); replace k4 := hg.cell k4 (by simp); replace k5 := hg.cell k5 (by simp); replace k6 := hg.cell k6 (by simp); clear hg) | (go_at_call 47; refine (HR1.out (by first | rfl | trivial) _ hW).mono ?_; rintro e w1 ⟨rfl, hg⟩; replace hW := grown_trans hW hg; replace k0 := hg.cell k0 (by simp); replace k1 := hg.cell k1 (by simp); replace k2 := hg.cell k2 (by simp); replace k3 := hg.cell k3 (by simp); replace k4 := hg.cell k4 (by simp); replace k5 := hg.cell k5 (by simp); replace k6 := hg.cell k6 (by simp); clear hg) | (go_at_call 117; refine (HR2.out (by first | rfl | trivial) _ hW).mono ?_; rintro e w1 ⟨rfl, hg⟩; replace hW := grown_trans hW hg; replace k0 := hg.cell k0 (by simp); replace k1 := hg.cell k1 (by simp); replace k2 := hg.cell k2 (by simp); replace k3 := hg.cell k3 (by simp); replace k4 := hg.cell k4 (by simp); replace k5 := hg.cell k5 (by simp); replace k6 := hg.cell k6 (by simp); clear hg))
      refine wp_region_noPanic ?_
      refine wp_region_held_drew (S := (fun w' => w'.cell? ⟨w.heap.size, 0, none⟩ = some (.int .i64 e1) ∧ w'.cell? ⟨w.heap.size, 1, none⟩ = some (.string e2) ∧ w'.cell? ⟨w.heap.size, 2, none⟩ = some (.bool e3) ∧ w'.cell? ⟨w.heap.size, 3, none⟩ = some (.slice p1 n1 c1) ∧ w'.cell? ⟨w.heap.size, 4, none⟩ = some (.slice p2 n2 c2) ∧ w'.cell? ⟨w.heap.size, 5, none⟩ = some (.slice p3 pl.length c3) ∧ w'.cell? ⟨w.heap.size, 6, none⟩ = some (.int .i64 e7) ∧ w.grownBy w' none)) (by kernel_rfl) ?_ (fun hHeld => ?_)
      · ((try go_split_ands) <;> (repeat' apply And.intro) <;> (first | (with_reducible assumption) | (with_reducible refine (grown_drew _ none).cell ?_ (by simp); with_reducible assumption) | (with_reducible refine grown_trans ?_ (grown_drew _ none); with_reducible assumption)))
      (refine wpAnyH_take (i := 0) (oi := Oper.mk _ _ _ _ _ _) (v := ?_) rfl (by kernel_rfl) (by kernel_rfl) (by kernel_rfl) (fun _ _ _ h => h) (Or.inl ⟨by kernel_rfl, ?_⟩) (by assumption) ?_; rotate_left 1; focus (intro w hSw; (try dsimp only at hSw); (try obtain ⟨q0, q1, q2, q3, q4, q5, q6, q7⟩ := hSw); go_simp; (try (with_reducible rfl)); done); (try simp only [Act.put, List.setIfInBounds_toArray, List.set_cons_zero, List.set_cons_succ]))
      (refine wpAnyH_take (i := 1) (oi := Oper.mk _ _ _ _ _ _) (v := ?_) rfl (by kernel_rfl) (by kernel_rfl) (by kernel_rfl) (fun _ _ _ h => h) (Or.inl ⟨by kernel_rfl, ?_⟩) (by assumption) ?_; rotate_left 1; focus (intro w hSw; (try dsimp only at hSw); (try obtain ⟨q0, q1, q2, q3, q4, q5, q6, q7⟩ := hSw); go_simp; (try (with_reducible rfl)); done); (try simp only [Act.put, List.setIfInBounds_toArray, List.set_cons_zero, List.set_cons_succ]))
      (refine wpAnyH_take (i := 2) (oi := Oper.mk _ _ _ _ _ _) (v := ?_) rfl (by kernel_rfl) (by kernel_rfl) (by kernel_rfl) (fun _ _ _ h => h) (Or.inl ⟨by kernel_rfl, ?_⟩) (by assumption) ?_; rotate_left 1; focus (intro w hSw; (try dsimp only at hSw); (try obtain ⟨q0, q1, q2, q3, q4, q5, q6, q7⟩ := hSw); go_simp; (try (with_reducible rfl)); done); (try simp only [Act.put, List.setIfInBounds_toArray, List.set_cons_zero, List.set_cons_succ]))
      (refine wpAnyH_take (i := 3) (oi := Oper.mk _ _ _ _ _ _) (v := ?_) rfl (by kernel_rfl) (by kernel_rfl) (by kernel_rfl) (fun _ _ _ h => h) (Or.inl ⟨by kernel_rfl, ?_⟩) (by assumption) ?_; rotate_left 1; focus (intro w hSw; (try dsimp only at hSw); (try obtain ⟨q0, q1, q2, q3, q4, q5, q6, q7⟩ := hSw); go_simp; (try (with_reducible rfl)); done); (try simp only [Act.put, List.setIfInBounds_toArray, List.set_cons_zero, List.set_cons_succ]))
      (refine wpAnyH_take (i := 4) (oi := Oper.mk _ _ _ _ _ _) (v := ?_) rfl (by kernel_rfl) (by kernel_rfl) (by kernel_rfl) (fun _ _ _ h => h) (Or.inl ⟨by kernel_rfl, ?_⟩) (by assumption) ?_; rotate_left 1; focus (intro w hSw; (try dsimp only at hSw); (try obtain ⟨q0, q1, q2, q3, q4, q5, q6, q7⟩ := hSw); go_simp; (try (with_reducible rfl)); done); (try simp only [Act.put, List.setIfInBounds_toArray, List.set_cons_zero, List.set_cons_succ]))
      (refine wpAnyH_take (i := 5) (oi := Oper.mk _ _ _ _ _ _) (v := ?_) rfl (by kernel_rfl) (by kernel_rfl) (by kernel_rfl) (fun _ _ _ h => h) (Or.inl ⟨by kernel_rfl, ?_⟩) (by assumption) ?_; rotate_left 1; focus (intro w hSw; (try dsimp only at hSw); (try obtain ⟨q0, q1, q2, q3, q4, q5, q6, q7⟩ := hSw); go_simp; (try (with_reducible rfl)); done); (try simp only [Act.put, List.setIfInBounds_toArray, List.set_cons_zero, List.set_cons_succ]))
      (refine wpAnyH_take (i := 6) (oi := Oper.mk _ _ _ _ _ _) (v := ?_) rfl (by kernel_rfl) (by kernel_rfl) (by kernel_rfl) (fun _ _ _ h => h) (Or.inl ⟨by kernel_rfl, ?_⟩) (by assumption) ?_; rotate_left 1; focus (intro w hSw; (try dsimp only at hSw); (try obtain ⟨q0, q1, q2, q3, q4, q5, q6, q7⟩ := hSw); go_simp; (try (with_reducible rfl)); done); (try simp only [Act.put, List.setIfInBounds_toArray, List.set_cons_zero, List.set_cons_succ]))
      (refine wpAnyH_take (i := 7) (oi := Oper.mk _ _ _ _ _ _) (v := ?_) rfl (by kernel_rfl) (by kernel_rfl) (by kernel_rfl) (fun _ _ _ h => h) (Or.inl ⟨by kernel_rfl, ?_⟩) (by assumption) ?_; rotate_left 1; focus (intro w hSw; (try dsimp only at hSw); (try obtain ⟨q0, q1, q2, q3, q4, q5, q6, q7⟩ := hSw); go_simp; (try (with_reducible rfl)); done); (try simp only [Act.put, List.setIfInBounds_toArray, List.set_cons_zero, List.set_cons_succ]))
      (refine wpAnyH_take (i := 8) (oi := Oper.mk _ _ _ _ _ _) (v := ?_) rfl (by kernel_rfl) (by kernel_rfl) (by kernel_rfl) (fun _ _ _ h => h) (Or.inl ⟨by kernel_rfl, ?_⟩) (by assumption) ?_; rotate_left 1; focus (intro w hSw; (try dsimp only at hSw); (try obtain ⟨q0, q1, q2, q3, q4, q5, q6, q7⟩ := hSw); go_simp; (try (with_reducible rfl)); done); (try simp only [Act.put, List.setIfInBounds_toArray, List.set_cons_zero, List.set_cons_succ]))
      (refine wpAnyH_take (i := 9) (oi := Oper.mk _ _ _ _ _ _) (v := ?_) rfl (by kernel_rfl) (by kernel_rfl) (by kernel_rfl) (fun _ _ _ h => h) (Or.inl ⟨by kernel_rfl, ?_⟩) (by assumption) ?_; rotate_left 1; focus (intro w hSw; (try dsimp only at hSw); (try obtain ⟨q0, q1, q2, q3, q4, q5, q6, q7⟩ := hSw); go_simp; (try (with_reducible rfl)); done); (try simp only [Act.put, List.setIfInBounds_toArray, List.set_cons_zero, List.set_cons_succ]))
      (refine wpAnyH_take (i := 10) (oi := Oper.mk _ _ _ _ _ _) (v := ?_) rfl (by kernel_rfl) (by kernel_rfl) (by kernel_rfl) (fun _ _ _ h => h) (Or.inl ⟨by kernel_rfl, ?_⟩) (by assumption) ?_; rotate_left 1; focus (intro w hSw; (try dsimp only at hSw); (try obtain ⟨q0, q1, q2, q3, q4, q5, q6, q7⟩ := hSw); go_simp; (try (with_reducible rfl)); done); (try simp only [Act.put, List.setIfInBounds_toArray, List.set_cons_zero, List.set_cons_succ]))
      (refine wpAnyH_take (i := 11) (oi := Oper.mk _ _ _ _ _ _) (v := ?_) rfl (by kernel_rfl) (by kernel_rfl) (by kernel_rfl) (fun _ _ _ h => h) (Or.inl ⟨by kernel_rfl, ?_⟩) (by assumption) ?_; rotate_left 1; focus (intro w hSw; (try dsimp only at hSw); (try obtain ⟨q0, q1, q2, q3, q4, q5, q6, q7⟩ := hSw); go_simp; (try (with_reducible rfl)); done); (try simp only [Act.put, List.setIfInBounds_toArray, List.set_cons_zero, List.set_cons_succ]))
      (refine wpAnyH_take (i := 12) (oi := Oper.mk _ _ _ _ _ _) (v := ?_) rfl (by kernel_rfl) (by kernel_rfl) (by kernel_rfl) (fun _ _ _ h => h) (Or.inl ⟨by kernel_rfl, ?_⟩) (by assumption) ?_; rotate_left 1; focus (intro w hSw; (try dsimp only at hSw); (try obtain ⟨q0, q1, q2, q3, q4, q5, q6, q7⟩ := hSw); go_simp; (try (with_reducible rfl)); done); (try simp only [Act.put, List.setIfInBounds_toArray, List.set_cons_zero, List.set_cons_succ]))
      (refine wpAnyH_take (i := 13) (oi := Oper.mk _ _ _ _ _ _) (v := ?_) rfl (by kernel_rfl) (by kernel_rfl) (by kernel_rfl) (fun _ _ _ h => h) (Or.inl ⟨by kernel_rfl, ?_⟩) (by assumption) ?_; rotate_left 1; focus (intro w hSw; (try dsimp only at hSw); (try obtain ⟨q0, q1, q2, q3, q4, q5, q6, q7⟩ := hSw); go_simp; (try (with_reducible rfl)); done); (try simp only [Act.put, List.setIfInBounds_toArray, List.set_cons_zero, List.set_cons_succ]))
      refine wpAnyH_ready (rs := [14]) (by kernel_rfl) (by simp) ?_
      refine AllReadyH.cons (o := Oper.mk _ _ _ _ _ _) rfl (fun K hK => ?_) AllReadyH.nil
      (try rw [if_pos (by kernel_rfl)])
      (first | (go_at_call 116; (with_reducible refine (HP.out _).mono ?_); rintro e v3 ⟨pp, nn, cc, rfl, hfr, hrd, hg⟩; obtain rfl := hrd.len; (first | replace hW := grown_trans hW hg | replace hW := grown_trans (grown_trans hW (grown_drew _ none)) hg); replace k0 := hg.cell k0 (by simp); replace k1 := hg.cell k1 (by simp); replace k2 := hg.cell k2 (by simp); replace k3 := hg.cell k3 (by simp); replace k4 := hg.cell k4 (by simp); replace k5 := hg.cell k5 (by simp); replace k6 := hg.cell k6 (by simp); clear hfr hrd) | (go_simp; (go_at_call 116; (with_reducible refine (HP.out _).mono ?_); rintro e v3 ⟨pp, nn, cc, rfl, hfr, hrd, hg⟩; obtain rfl := hrd.len; (first | replace hW := grown_trans hW hg | replace hW := grown_trans (grown_trans hW (grown_drew _ none)) hg); replace k0 := hg.cell k0 (by simp); replace k1 := hg.cell k1 (by simp); replace k2 := hg.cell k2 (by simp); replace k3 := hg.cell k3 (by simp); replace k4 := hg.cell k4 (by simp); replace k5 := hg.cell k5 (by simp); replace k6 := hg.cell k6 (by simp); clear hfr hrd)))
      refine hK.out _ _ ?_ (fun hNew => ?_)
      · (try dsimp only)
        ((try go_split_ands) <;> (repeat' apply And.intro) <;> (first | (with_reducible assumption) | (with_reducible refine (grown_drew _ none).cell ?_ (by simp); with_reducible assumption) | (with_reducible refine grown_trans ?_ (grown_drew _ none); with_reducible assumption)))
      clear hK K hHeld
      have hHeld := hNew
      clear hNew
      (try simp only [Act.put, List.setIfInBounds_toArray, List.set_cons_zero, List.set_cons_succ])
      (refine wpAnyH_take (i := 15) (oi := Oper.mk _ _ _ _ _ _) (v := ?_) rfl (by kernel_rfl) (by kernel_rfl) (by kernel_rfl) (fun _ _ _ h => h) (Or.inl ⟨by kernel_rfl, ?_⟩) (by assumption) ?_; rotate_left 1; focus (intro w hSw; (try dsimp only at hSw); (try obtain ⟨q0, q1, q2, q3, q4, q5, q6, q7⟩ := hSw); go_simp; (try (with_reducible rfl)); done); (try simp only [Act.put, List.setIfInBounds_toArray, List.set_cons_zero, List.set_cons_succ]))
      (refine wpAnyH_take (i := 16) (oi := Oper.mk _ _ _ _ _ _) (v := ?_) rfl (by kernel_rfl) (by kernel_rfl) (by kernel_rfl) (fun _ _ _ h => h) (Or.inl ⟨by kernel_rfl, ?_⟩) (by assumption) ?_; rotate_left 1; focus (intro w hSw; (try dsimp only at hSw); (try obtain ⟨q0, q1, q2, q3, q4, q5, q6, q7⟩ := hSw); go_simp; (try (with_reducible rfl)); done); (try simp only [Act.put, List.setIfInBounds_toArray, List.set_cons_zero, List.set_cons_succ]))
      (refine wpAnyH_take (i := 17) (oi := Oper.mk _ _ _ _ _ _) (v := ?_) rfl (by kernel_rfl) (by kernel_rfl) (by kernel_rfl) (fun _ _ _ h => h) (Or.inl ⟨by kernel_rfl, ?_⟩) (by assumption) ?_; rotate_left 1; focus (intro w hSw; (try dsimp only at hSw); (try obtain ⟨q0, q1, q2, q3, q4, q5, q6, q7⟩ := hSw); go_simp; (try (with_reducible rfl)); done); (try simp only [Act.put, List.setIfInBounds_toArray, List.set_cons_zero, List.set_cons_succ]))
      refine wpAnyH_done (by kernel_rfl) ?_ _
      refine NoPanic.normal ?_
      clear hz0
      go_wp2_with (first | (go_at_call 115; refine (HF.out _ hW).mono ?_; rintro e w1 ⟨rfl, hg⟩; replace hW := grown_trans hW hg; replace k0 := hg.cell k0 (by simp); replace k1 := hg.cell k1 (by simp); replace k2 := hg.cell k2 (by simp); replace k3 := hg.cell k3 (by simp); replace k4 := hg.cell k4 (by simp); replace k5 := hg.cell k5 (by simp); replace k6 := hg.cell k6 (by simp); clear hg) | (go_at_call 105; refine (HN.out _).mono ?_; rintro e w1 ⟨rfl, hg⟩; replace hW := grown_trans hW hg; replace k0 := hg.cell k0 (by simp); replace k1 := hg.cell k1 (by simp); replace k2 := hg.cell k2 (by simp); replace k3 := hg.cell k3 (by simp); replace k4 := hg.cell k4 (by simp); replace k5 := hg.cell k5 (by simp); replace k6 := hg.cell k6 (by simp); clear hg) | (go_at_call 68; refine (HH.out _).mono ?_; rintro e w1 ⟨rfl, hg⟩; replace hW := grown_trans hW hg; replace k0 := hg.cell k0 (by simp); replace k1 := hg.cell k1 (by simp); replace k2 := hg.cell k2 (by simp); replace k3 := hg.cell k3 (by simp); replace k4 := hg.cell k4 (by simp); replace k5 := hg.cell k5 (by simp); replace k6 := hg.cell k6 (by simp); clear hg) | (go_at_call 47; refine (HR1.out (by first | rfl | trivial) _ hW).mono ?_; rintro e w1 ⟨rfl, hg⟩; replace hW := grown_trans hW hg; replace k0 := hg.cell k0 (by simp); replace k1 := hg.cell k1 (by simp); replace k2 := hg.cell k2 (by simp); replace k3 := hg.cell k3 (by simp); replace k4 := hg.cell k4 (by simp); replace k5 := hg.cell k5 (by simp); replace k6 := hg.cell k6 (by simp); clear hg) | (go_at_call 117; refine (HR2.out (by first | rfl | trivial) _ hW).mono ?_; rintro e w1 ⟨rfl, hg⟩; replace hW := grown_trans hW hg; replace k0 := hg.cell k0 (by simp); replace k1 := hg.cell k1 (by simp); replace k2 := hg.cell k2 (by simp); replace k3 := hg.cell k3 (by simp); replace k4 := hg.cell k4 (by simp); replace k5 := hg.cell k5 (by simp); replace k6 := hg.cell k6 (by simp); clear hg))
      clear hzk hzk2
      have HW2 := hid hW
      have K0 := hid k0
      clear k1 k2 k3 k4 k6 k0 k5 hW HF HN HH HR1 HR2
      go_loopw [63] (fun y wr => ∃ k : Nat, k ≤ pl.length ∧ y = .int .i64 k ∧ w1.grownBy wr none ∧ Hid (scan X k (pl.length - k) = x)) (fun y _ => pl.length - (intOf y).toNat)
      case atStart => exact ⟨0, Nat.zero_le _, rfl, grown_refl _ _, hid HXX.out⟩
      case round =>
        clear HXX
        obtain ⟨k, hk9, rfl, hg, hsc⟩ := hrel
        by_cases hlt : k < pl.length
        · have hgw := grown_trans HW2.out hg
          have k0 := hg.cell K0.out (by simp)
          obtain ⟨bA, oA, x1, x2, x3, q1, m1, d1, q2, m2, d2, q3, m3, d3, x7, rfl, hck, a0, a1, a2, a3, a4, a5, a6⟩ := HCC.out k hlt
          replace a0 := hgw.cell a0 (by simp); replace a1 := hgw.cell a1 (by simp); replace a2 := hgw.cell a2 (by simp); replace a3 := hgw.cell a3 (by simp); replace a4 := hgw.cell a4 (by simp); replace a5 := hgw.cell a5 (by simp); replace a6 := hgw.cell a6 (by simp)
          have hG1 := World.grownBy_alloc wr (.cells #[.int .i64 x1, .string x2, .bool x3, .slice q1 m1 d1, .slice q2 m2 d2, .slice q3 m3 d3, .int .i64 x7] 43 (0, 0)) none
          have HC := hid fun w' (hg' : (wr.alloc (.cells #[.int .i64 x1, .string x2, .bool x3, .slice q1 m1 d1, .slice q2 m2 d2, .slice q3 m3 d3, .int .i64 x7] 43 (0, 0))).grownBy w' none) => HX.out k hlt hlt w' (grown_trans (grown_trans hgw hG1) hg')
          rw [hck] at HC
          rw [scan_step hlt] at hsc
          have HGG := hid (grown_trans hgw hG1)
          have HGQ := hid (grown_trans hg hG1)
          clear hck
          generalize X k = v at *
          obtain ⟨⟨o0, o1, o2, o3, o4, o5, o6⟩, f0, f1, f2, f3, f4, f5, f6⟩ := box7 (blk0 wr (zeroE 43))
          unfold zeroE at o0 o1 o2 o3 o4 o5 o6 f0 f1 f2 f3 f4 f5 f6
          go_upto_region 12 with fail
          clear o0 o1 o2 o3 o4 o5 o6 f0 f1 f2 f3 f4 f5 f6 a0 a1 a2 a3 a4 a5 a6
          obtain ⟨⟨a0, a1, a2, a3, a4, a5, a6⟩, -⟩ := box7 (blk0 wr (.cells #[.int .i64 x1, .string x2, .bool x3, .slice q1 m1 d1, .slice q2 m2 d2, .slice q3 m3 d3, .int .i64 x7] 43 (0, 0)))
          replace k0 := hG1.cell k0 (by simp)
          clear hG1
          generalize (wr.alloc _) = w5 at *
          generalize wr.heap.size = B5 at *
          have hgr := grown_refl w5 none
          by_cases hv : v = 0
          · subst hv
            rw [if_pos rfl] at hsc
            refine wp_region_noPanic ?_
            refine wp_region_held_drew (S := (fun w' => w'.cell? ⟨w.heap.size, 0, none⟩ = some (.int .i64 e1) ∧ w'.cell? ⟨B5, 0, none⟩ = some (.int .i64 x1) ∧ w'.cell? ⟨B5, 1, none⟩ = some (.string x2) ∧ w'.cell? ⟨B5, 2, none⟩ = some (.bool x3) ∧ w'.cell? ⟨B5, 3, none⟩ = some (.slice q1 m1 d1) ∧ w'.cell? ⟨B5, 4, none⟩ = some (.slice q2 m2 d2) ∧ w'.cell? ⟨B5, 5, none⟩ = some (.slice q3 m3 d3) ∧ w'.cell? ⟨B5, 6, none⟩ = some (.int .i64 x7) ∧ w5.grownBy w' none)) (by kernel_rfl) ?_ (fun hHeld => ?_)
            · ((try go_split_ands) <;> (repeat' apply And.intro) <;> (first | (with_reducible assumption) | (with_reducible refine (grown_drew _ none).cell ?_ (by simp); with_reducible assumption) | (with_reducible refine grown_trans ?_ (grown_drew _ none); with_reducible assumption)))
            (refine wpAnyH_take (i := 0) (oi := Oper.mk _ _ _ _ _ _) (v := ?_) rfl (by kernel_rfl) (by kernel_rfl) (by kernel_rfl) (fun _ _ _ h => h) (Or.inl ⟨by kernel_rfl, ?_⟩) (by assumption) ?_; rotate_left 1; focus (intro w hSw; (try dsimp only at hSw); (try obtain ⟨q0, q1, q2, q3, q4, q5, q6, q7, q8⟩ := hSw); go_simp; (try (with_reducible rfl)); done); (try simp only [Act.put, List.setIfInBounds_toArray, List.set_cons_zero, List.set_cons_succ]))
            (refine wpAnyH_take (i := 1) (oi := Oper.mk _ _ _ _ _ _) (v := ?_) rfl (by kernel_rfl) (by kernel_rfl) (by kernel_rfl) (fun _ _ _ h => h) (Or.inl ⟨by kernel_rfl, ?_⟩) (by assumption) ?_; rotate_left 1; focus (intro w hSw; (try dsimp only at hSw); (try obtain ⟨q0, q1, q2, q3, q4, q5, q6, q7, q8⟩ := hSw); go_simp; (try (with_reducible rfl)); done); (try simp only [Act.put, List.setIfInBounds_toArray, List.set_cons_zero, List.set_cons_succ]))
            (refine wpAnyH_take (i := 2) (oi := Oper.mk _ _ _ _ _ _) (v := ?_) rfl (by kernel_rfl) (by kernel_rfl) (by kernel_rfl) (fun _ _ _ h => h) (Or.inl ⟨by kernel_rfl, ?_⟩) (by assumption) ?_; rotate_left 1; focus (intro w hSw; (try dsimp only at hSw); (try obtain ⟨q0, q1, q2, q3, q4, q5, q6, q7, q8⟩ := hSw); go_simp; (try (with_reducible rfl)); done); (try simp only [Act.put, List.setIfInBounds_toArray, List.set_cons_zero, List.set_cons_succ]))
            (refine wpAnyH_take (i := 4) (oi := Oper.mk _ _ _ _ _ _) (v := ?_) rfl (by kernel_rfl) (by kernel_rfl) (by kernel_rfl) (fun _ _ _ h => h) (Or.inl ⟨by kernel_rfl, ?_⟩) (by assumption) ?_; rotate_left 1; focus (intro w hSw; (try dsimp only at hSw); (try obtain ⟨q0, q1, q2, q3, q4, q5, q6, q7, q8⟩ := hSw); go_simp; (try (with_reducible rfl)); done); (try simp only [Act.put, List.setIfInBounds_toArray, List.set_cons_zero, List.set_cons_succ]))
            refine wpAnyH_ready (rs := [3]) (by kernel_rfl) (by simp) ?_
            refine AllReadyH.cons (o := Oper.mk _ _ _ _ _ _) rfl (fun K hK => ?_) AllReadyH.nil
            (try rw [if_pos (by kernel_rfl)])
            (first | (go_at_call 116; (with_reducible refine (HP.out _).mono ?_); rintro e v3 ⟨pp, nn, cc, rfl, hfr, hrd, hg3⟩; obtain rfl := hrd.len; obtain ⟨bP, oP, rfl, cP⟩ := hrd.cel k hlt; have hcc := hrd.cap; have hcm := hrd.max; (first | replace hgr := grown_trans hgr hg3 | replace hgr := grown_trans (grown_trans hgr (grown_drew _ none)) hg3); replace k0 := hg3.cell k0 (by simp); replace a0 := hg3.cell a0 (by simp); replace a1 := hg3.cell a1 (by simp); replace a2 := hg3.cell a2 (by simp); replace a3 := hg3.cell a3 (by simp); replace a4 := hg3.cell a4 (by simp); replace a5 := hg3.cell a5 (by simp); replace a6 := hg3.cell a6 (by simp); clear hfr hrd hg3) | (go_simp; (go_at_call 116; (with_reducible refine (HP.out _).mono ?_); rintro e v3 ⟨pp, nn, cc, rfl, hfr, hrd, hg3⟩; obtain rfl := hrd.len; obtain ⟨bP, oP, rfl, cP⟩ := hrd.cel k hlt; have hcc := hrd.cap; have hcm := hrd.max; (first | replace hgr := grown_trans hgr hg3 | replace hgr := grown_trans (grown_trans hgr (grown_drew _ none)) hg3); replace k0 := hg3.cell k0 (by simp); replace a0 := hg3.cell a0 (by simp); replace a1 := hg3.cell a1 (by simp); replace a2 := hg3.cell a2 (by simp); replace a3 := hg3.cell a3 (by simp); replace a4 := hg3.cell a4 (by simp); replace a5 := hg3.cell a5 (by simp); replace a6 := hg3.cell a6 (by simp); clear hfr hrd hg3)))
            refine hK.out _ _ ?_ (fun hNew => ?_)
            · (try dsimp only)
              ((try go_split_ands) <;> (repeat' apply And.intro) <;> (first | (with_reducible assumption) | (with_reducible refine (grown_drew _ none).cell ?_ (by simp); with_reducible assumption) | (with_reducible refine grown_trans ?_ (grown_drew _ none); with_reducible assumption)))
            clear hK K hHeld
            have hHeld := hNew
            clear hNew
            (try simp only [Act.put, List.setIfInBounds_toArray, List.set_cons_zero, List.set_cons_succ])
            (refine wpAnyH_take (i := 5) (oi := Oper.mk _ _ _ _ _ _) (v := ?_) rfl (by kernel_rfl) (by kernel_rfl) (by kernel_rfl) (fun _ _ _ h => h) (Or.inl ⟨by kernel_rfl, ?_⟩) (by assumption) ?_; rotate_left 1; focus (intro w hSw; (try dsimp only at hSw); (try obtain ⟨q0, q1, q2, q3, q4, q5, q6, q7, q8⟩ := hSw); go_simp; (try (with_reducible rfl)); done); (try simp only [Act.put, List.setIfInBounds_toArray, List.set_cons_zero, List.set_cons_succ]))
            refine wpAnyH_ready (rs := [6]) (by kernel_rfl) (by simp) ?_
            refine AllReadyH.cons (o := Oper.mk _ _ _ _ _ _) rfl (fun K hK => ?_) AllReadyH.nil
            (try rw [if_pos (by kernel_rfl)])
            go_simp
            refine hK.out _ _ ?_ (fun hNew => ?_)
            · (try dsimp only)
              ((try go_split_ands) <;> (repeat' apply And.intro) <;> (first | (with_reducible assumption) | (with_reducible refine (grown_drew _ none).cell ?_ (by simp); with_reducible assumption) | (with_reducible refine grown_trans ?_ (grown_drew _ none); with_reducible assumption)))
            clear hK K hHeld
            have hHeld := hNew
            clear hNew
            (try simp only [Act.put, List.setIfInBounds_toArray, List.set_cons_zero, List.set_cons_succ])
            refine wpAnyH_ready (rs := [7]) (by kernel_rfl) (by simp) ?_
            refine AllReadyH.cons (o := Oper.mk _ _ _ _ _ _) rfl (fun K hK => ?_) AllReadyH.nil
            (try rw [if_pos (by kernel_rfl)])
            (first | (go_at_call 66; (first | with_reducible refine (HC.out _ hgr).mono ?_ | with_reducible refine (HC.out _ (grown_trans hgr (grown_drew _ none))).mono ?_); rintro e v4 ⟨rfl, hg3⟩; (first | replace hgr := grown_trans hgr hg3 | replace hgr := grown_trans (grown_trans hgr (grown_drew _ none)) hg3); replace k0 := hg3.cell k0 (by simp); replace a0 := hg3.cell a0 (by simp); replace a1 := hg3.cell a1 (by simp); replace a2 := hg3.cell a2 (by simp); replace a3 := hg3.cell a3 (by simp); replace a4 := hg3.cell a4 (by simp); replace a5 := hg3.cell a5 (by simp); replace a6 := hg3.cell a6 (by simp); clear hg3) | (go_simp; (go_at_call 66; (first | with_reducible refine (HC.out _ hgr).mono ?_ | with_reducible refine (HC.out _ (grown_trans hgr (grown_drew _ none))).mono ?_); rintro e v4 ⟨rfl, hg3⟩; (first | replace hgr := grown_trans hgr hg3 | replace hgr := grown_trans (grown_trans hgr (grown_drew _ none)) hg3); replace k0 := hg3.cell k0 (by simp); replace a0 := hg3.cell a0 (by simp); replace a1 := hg3.cell a1 (by simp); replace a2 := hg3.cell a2 (by simp); replace a3 := hg3.cell a3 (by simp); replace a4 := hg3.cell a4 (by simp); replace a5 := hg3.cell a5 (by simp); replace a6 := hg3.cell a6 (by simp); clear hg3)))
            refine hK.out _ _ ?_ (fun hNew => ?_)
            · (try dsimp only)
              ((try go_split_ands) <;> (repeat' apply And.intro) <;> (first | (with_reducible assumption) | (with_reducible refine (grown_drew _ none).cell ?_ (by simp); with_reducible assumption) | (with_reducible refine grown_trans ?_ (grown_drew _ none); with_reducible assumption)))
            clear hK K hHeld
            have hHeld := hNew
            clear hNew
            (try simp only [Act.put, List.setIfInBounds_toArray, List.set_cons_zero, List.set_cons_succ])
            (refine wpAnyH_take (i := 8) (oi := Oper.mk _ _ _ _ _ _) (v := ?_) rfl (by kernel_rfl) (by kernel_rfl) (by kernel_rfl) (fun _ _ _ h => h) (Or.inl ⟨by kernel_rfl, ?_⟩) (by assumption) ?_; rotate_left 1; focus (intro w hSw; (try dsimp only at hSw); (try obtain ⟨q0, q1, q2, q3, q4, q5, q6, q7, q8⟩ := hSw); go_simp; (try (with_reducible rfl)); done); (try simp only [Act.put, List.setIfInBounds_toArray, List.set_cons_zero, List.set_cons_succ]))
            refine wpAnyH_done (by kernel_rfl) ?_ _
            refine NoPanic.normal ?_
            go_wp2_with fail
            exact ⟨⟨k + 1, by omega, by go_num, grown_trans HGQ.out hgr, hsc⟩, by simp [intOf]; omega⟩
          · rw [if_neg hv] at hsc
            obtain rfl := hsc.out
            refine wp_region_noPanic ?_
            refine wp_region_held_drew (S := (fun w' => w'.cell? ⟨w.heap.size, 0, none⟩ = some (.int .i64 e1) ∧ w'.cell? ⟨B5, 0, none⟩ = some (.int .i64 x1) ∧ w'.cell? ⟨B5, 1, none⟩ = some (.string x2) ∧ w'.cell? ⟨B5, 2, none⟩ = some (.bool x3) ∧ w'.cell? ⟨B5, 3, none⟩ = some (.slice q1 m1 d1) ∧ w'.cell? ⟨B5, 4, none⟩ = some (.slice q2 m2 d2) ∧ w'.cell? ⟨B5, 5, none⟩ = some (.slice q3 m3 d3) ∧ w'.cell? ⟨B5, 6, none⟩ = some (.int .i64 x7) ∧ w5.grownBy w' none)) (by kernel_rfl) ?_ (fun hHeld => ?_)
            · ((try go_split_ands) <;> (repeat' apply And.intro) <;> (first | (with_reducible assumption) | (with_reducible refine (grown_drew _ none).cell ?_ (by simp); with_reducible assumption) | (with_reducible refine grown_trans ?_ (grown_drew _ none); with_reducible assumption)))
            (refine wpAnyH_take (i := 0) (oi := Oper.mk _ _ _ _ _ _) (v := ?_) rfl (by kernel_rfl) (by kernel_rfl) (by kernel_rfl) (fun _ _ _ h => h) (Or.inl ⟨by kernel_rfl, ?_⟩) (by assumption) ?_; rotate_left 1; focus (intro w hSw; (try dsimp only at hSw); (try obtain ⟨q0, q1, q2, q3, q4, q5, q6, q7, q8⟩ := hSw); go_simp; (try (with_reducible rfl)); done); (try simp only [Act.put, List.setIfInBounds_toArray, List.set_cons_zero, List.set_cons_succ]))
            (refine wpAnyH_take (i := 1) (oi := Oper.mk _ _ _ _ _ _) (v := ?_) rfl (by kernel_rfl) (by kernel_rfl) (by kernel_rfl) (fun _ _ _ h => h) (Or.inl ⟨by kernel_rfl, ?_⟩) (by assumption) ?_; rotate_left 1; focus (intro w hSw; (try dsimp only at hSw); (try obtain ⟨q0, q1, q2, q3, q4, q5, q6, q7, q8⟩ := hSw); go_simp; (try (with_reducible rfl)); done); (try simp only [Act.put, List.setIfInBounds_toArray, List.set_cons_zero, List.set_cons_succ]))
            (refine wpAnyH_take (i := 2) (oi := Oper.mk _ _ _ _ _ _) (v := ?_) rfl (by kernel_rfl) (by kernel_rfl) (by kernel_rfl) (fun _ _ _ h => h) (Or.inl ⟨by kernel_rfl, ?_⟩) (by assumption) ?_; rotate_left 1; focus (intro w hSw; (try dsimp only at hSw); (try obtain ⟨q0, q1, q2, q3, q4, q5, q6, q7, q8⟩ := hSw); go_simp; (try (with_reducible rfl)); done); (try simp only [Act.put, List.setIfInBounds_toArray, List.set_cons_zero, List.set_cons_succ]))
            (refine wpAnyH_take (i := 4) (oi := Oper.mk _ _ _ _ _ _) (v := ?_) rfl (by kernel_rfl) (by kernel_rfl) (by kernel_rfl) (fun _ _ _ h => h) (Or.inl ⟨by kernel_rfl, ?_⟩) (by assumption) ?_; rotate_left 1; focus (intro w hSw; (try dsimp only at hSw); (try obtain ⟨q0, q1, q2, q3, q4, q5, q6, q7, q8⟩ := hSw); go_simp; (try (with_reducible rfl)); done); (try simp only [Act.put, List.setIfInBounds_toArray, List.set_cons_zero, List.set_cons_succ]))
            refine wpAnyH_ready (rs := [3]) (by kernel_rfl) (by simp) ?_
            refine AllReadyH.cons (o := Oper.mk _ _ _ _ _ _) rfl (fun K hK => ?_) AllReadyH.nil
            (try rw [if_pos (by kernel_rfl)])
            (first | (go_at_call 116; (with_reducible refine (HP.out _).mono ?_); rintro e v3 ⟨pp, nn, cc, rfl, hfr, hrd, hg3⟩; obtain rfl := hrd.len; obtain ⟨bP, oP, rfl, cP⟩ := hrd.cel k hlt; have hcc := hrd.cap; have hcm := hrd.max; (first | replace hgr := grown_trans hgr hg3 | replace hgr := grown_trans (grown_trans hgr (grown_drew _ none)) hg3); replace k0 := hg3.cell k0 (by simp); replace a0 := hg3.cell a0 (by simp); replace a1 := hg3.cell a1 (by simp); replace a2 := hg3.cell a2 (by simp); replace a3 := hg3.cell a3 (by simp); replace a4 := hg3.cell a4 (by simp); replace a5 := hg3.cell a5 (by simp); replace a6 := hg3.cell a6 (by simp); clear hfr hrd hg3) | (go_simp; (go_at_call 116; (with_reducible refine (HP.out _).mono ?_); rintro e v3 ⟨pp, nn, cc, rfl, hfr, hrd, hg3⟩; obtain rfl := hrd.len; obtain ⟨bP, oP, rfl, cP⟩ := hrd.cel k hlt; have hcc := hrd.cap; have hcm := hrd.max; (first | replace hgr := grown_trans hgr hg3 | replace hgr := grown_trans (grown_trans hgr (grown_drew _ none)) hg3); replace k0 := hg3.cell k0 (by simp); replace a0 := hg3.cell a0 (by simp); replace a1 := hg3.cell a1 (by simp); replace a2 := hg3.cell a2 (by simp); replace a3 := hg3.cell a3 (by simp); replace a4 := hg3.cell a4 (by simp); replace a5 := hg3.cell a5 (by simp); replace a6 := hg3.cell a6 (by simp); clear hfr hrd hg3)))
            refine hK.out _ _ ?_ (fun hNew => ?_)
            · (try dsimp only)
              ((try go_split_ands) <;> (repeat' apply And.intro) <;> (first | (with_reducible assumption) | (with_reducible refine (grown_drew _ none).cell ?_ (by simp); with_reducible assumption) | (with_reducible refine grown_trans ?_ (grown_drew _ none); with_reducible assumption)))
            clear hK K hHeld
            have hHeld := hNew
            clear hNew
            (try simp only [Act.put, List.setIfInBounds_toArray, List.set_cons_zero, List.set_cons_succ])
            (refine wpAnyH_take (i := 5) (oi := Oper.mk _ _ _ _ _ _) (v := ?_) rfl (by kernel_rfl) (by kernel_rfl) (by kernel_rfl) (fun _ _ _ h => h) (Or.inl ⟨by kernel_rfl, ?_⟩) (by assumption) ?_; rotate_left 1; focus (intro w hSw; (try dsimp only at hSw); (try obtain ⟨q0, q1, q2, q3, q4, q5, q6, q7, q8⟩ := hSw); go_simp; (try (with_reducible rfl)); done); (try simp only [Act.put, List.setIfInBounds_toArray, List.set_cons_zero, List.set_cons_succ]))
            refine wpAnyH_ready (rs := [6]) (by kernel_rfl) (by simp) ?_
            refine AllReadyH.cons (o := Oper.mk _ _ _ _ _ _) rfl (fun K hK => ?_) AllReadyH.nil
            (try rw [if_pos (by kernel_rfl)])
            go_simp
            refine hK.out _ _ ?_ (fun hNew => ?_)
            · (try dsimp only)
              ((try go_split_ands) <;> (repeat' apply And.intro) <;> (first | (with_reducible assumption) | (with_reducible refine (grown_drew _ none).cell ?_ (by simp); with_reducible assumption) | (with_reducible refine grown_trans ?_ (grown_drew _ none); with_reducible assumption)))
            clear hK K hHeld
            have hHeld := hNew
            clear hNew
            (try simp only [Act.put, List.setIfInBounds_toArray, List.set_cons_zero, List.set_cons_succ])
            refine wpAnyH_ready (rs := [7]) (by kernel_rfl) (by simp) ?_
            refine AllReadyH.cons (o := Oper.mk _ _ _ _ _ _) rfl (fun K hK => ?_) AllReadyH.nil
            (try rw [if_pos (by kernel_rfl)])
            (first | (go_at_call 66; (first | with_reducible refine (HC.out _ hgr).mono ?_ | with_reducible refine (HC.out _ (grown_trans hgr (grown_drew _ none))).mono ?_); rintro e v4 ⟨rfl, hg3⟩; (first | replace hgr := grown_trans hgr hg3 | replace hgr := grown_trans (grown_trans hgr (grown_drew _ none)) hg3); replace k0 := hg3.cell k0 (by simp); replace a0 := hg3.cell a0 (by simp); replace a1 := hg3.cell a1 (by simp); replace a2 := hg3.cell a2 (by simp); replace a3 := hg3.cell a3 (by simp); replace a4 := hg3.cell a4 (by simp); replace a5 := hg3.cell a5 (by simp); replace a6 := hg3.cell a6 (by simp); clear hg3) | (go_simp; (go_at_call 66; (first | with_reducible refine (HC.out _ hgr).mono ?_ | with_reducible refine (HC.out _ (grown_trans hgr (grown_drew _ none))).mono ?_); rintro e v4 ⟨rfl, hg3⟩; (first | replace hgr := grown_trans hgr hg3 | replace hgr := grown_trans (grown_trans hgr (grown_drew _ none)) hg3); replace k0 := hg3.cell k0 (by simp); replace a0 := hg3.cell a0 (by simp); replace a1 := hg3.cell a1 (by simp); replace a2 := hg3.cell a2 (by simp); replace a3 := hg3.cell a3 (by simp); replace a4 := hg3.cell a4 (by simp); replace a5 := hg3.cell a5 (by simp); replace a6 := hg3.cell a6 (by simp); clear hg3)))
            refine hK.out _ _ ?_ (fun hNew => ?_)
            · (try dsimp only)
              ((try go_split_ands) <;> (repeat' apply And.intro) <;> (first | (with_reducible assumption) | (with_reducible refine (grown_drew _ none).cell ?_ (by simp); with_reducible assumption) | (with_reducible refine grown_trans ?_ (grown_drew _ none); with_reducible assumption)))
            clear hK K hHeld
            have hHeld := hNew
            clear hNew
            (try simp only [Act.put, List.setIfInBounds_toArray, List.set_cons_zero, List.set_cons_succ])
            (refine wpAnyH_take (i := 8) (oi := Oper.mk _ _ _ _ _ _) (v := ?_) rfl (by kernel_rfl) (by kernel_rfl) (by kernel_rfl) (fun _ _ _ h => h) (Or.inl ⟨by kernel_rfl, ?_⟩) (by assumption) ?_; rotate_left 1; focus (intro w hSw; (try dsimp only at hSw); (try obtain ⟨q0, q1, q2, q3, q4, q5, q6, q7, q8⟩ := hSw); go_simp; (try (with_reducible rfl)); done); (try simp only [Act.put, List.setIfInBounds_toArray, List.set_cons_zero, List.set_cons_succ]))
            refine wpAnyH_done (by kernel_rfl) ?_ _
            refine NoPanic.normal ?_
            go_wp2_with fail
            go_ret
            exact ⟨rfl, grown_trans HGG.out hgr⟩
        · obtain rfl : k = pl.length := by omega
          obtain rfl : x = 0 := by
            have := hsc.out
            rw [Nat.sub_self] at this
            exact this.symm
          go_wp2_with fail
          go_ret
          exact ⟨rfl, grown_trans HW2.out hg⟩
end Go.Proofs.YtiaonbofkgkdhaaGreatDoor

set_option linter.unusedVariables false
set_option linter.unusedSimpArgs false
namespace Go.Proofs.YtiaonbofkgkdhaaGreatDoor
open Go.RowKit _root_.Nm Ax Lx
/-- the cells of an argument -/
def ArgAt (w : World) (p3 : Option Addr) (i : Nat) (cs : List Value) : Prop := ∃ b o x1 x2 x3 q1 m1 d1 q2 m2 d2 q3 m3 d3 x7, p3 = some ⟨b, o, none⟩ ∧ cs = [.int .i64 x1, .string x2, .bool x3, .slice q1 m1 d1, .slice q2 m2 d2, .slice q3 m3 d3, .int .i64 x7] ∧
      w.cell? ⟨b, o + i * 7, none⟩ = some (.int .i64 x1) ∧ w.cell? ⟨b, o + i * 7 + 1, none⟩ = some (.string x2) ∧ w.cell? ⟨b, o + i * 7 + 2, none⟩ = some (.bool x3) ∧ w.cell? ⟨b, o + i * 7 + 3, none⟩ = some (.slice q1 m1 d1) ∧ w.cell? ⟨b, o + i * 7 + 4, none⟩ = some (.slice q2 m2 d2) ∧ w.cell? ⟨b, o + i * 7 + 5, none⟩ = some (.slice q3 m3 d3) ∧ w.cell? ⟨b, o + i * 7 + 6, none⟩ = some (.int .i64 x7)
theorem ArgAt.keep {w w' : World} {p3 : Option Addr} {i : Nat} {cs : List Value} (h : ArgAt w p3 i cs) (hg : w.grownBy w' none) : ArgAt w' p3 i cs := by
  obtain ⟨b, o, x1, x2, x3, q1, m1, d1, q2, m2, d2, q3, m3, d3, x7, h1, h2, a0, a1, a2, a3, a4, a5, a6⟩ := h
  exact ⟨b, o, x1, x2, x3, q1, m1, d1, q2, m2, d2, q3, m3, d3, x7, h1, h2, hg.cell a0 (by simp), hg.cell a1 (by simp), hg.cell a2 (by simp), hg.cell a3 (by simp), hg.cell a4 (by simp), hg.cell a5 (by simp), hg.cell a6 (by simp)⟩
theorem chk_both : ∀ (m : Nat) (cs : List Value) (t : Tr) (w : World), Tb w → ERd w m cs t → DgF m t → szF m t ≤ 1048576 → ChkOk w cs
  | 0, _, _, _, _, h, _, _ => h.elim
  | m + 1, cs, .node h l, w, Tq, hE, hD, hsz => by
    intro s hs0 hs4
    obtain ⟨e1, e2, e3, p1, n1, c1, p2, n2, c2, p3, n3, c3, e7, rfl⟩ := hE.shape
    have hlen := sz_len hE
    obtain ⟨⟨r1, r2, r3, r7⟩, hn, hd, hA, hnm⟩ := ARd.of hE
    obtain ⟨⟨hla, hca, hma⟩, _⟩ := id hA
    have hln := hn.len
    have hld := hd.len
    obtain ⟨R, hR⟩ := ratOk Tq e1 e3 hn hD.1.1 hd hD.1.2 (by omega) (by omega)
    have hch : ∀ i (hi : i < n3), ∃ ci, ArgAt w p3 i ci ∧ ChkOk w ci := by
      intro i hi
      obtain ⟨b, o, x1, x2, x3, q1, m1, d1, q2, m2, d2, q3, m3, d3, x7, h1, hE2, a0, a1, a2, a3, a4, a5, a6⟩ := hA.at (i := i) (by omega)
      refine ⟨_, ⟨b, o, x1, x2, x3, q1, m1, d1, q2, m2, d2, q3, m3, d3, x7, h1, rfl, a0, a1, a2, a3, a4, a5, a6⟩, chk_both m _ _ w Tq hE2 (hD.2 i (by omega)) ?_⟩
      have := sz_child m h l (i := i) (by omega)
      omega
    have hCh : ∃ C : Nat → List Value, ∀ i (hi : i < n3), ArgAt w p3 i (C i) ∧ ChkOk w (C i) :=
      ⟨fun i => if hi : i < n3 then Classical.choose (hch i hi) else [], fun i hi => by
        dsimp only
        rw [dif_pos hi]
        exact Classical.choose_spec (hch i hi)⟩
    obtain ⟨C, hC⟩ := hCh
    have hXe : ∀ i (hi : i < n3 ∧ i < (prm e1).length), ∃ x : Int,
        (∀ W, w.grownBy W none → Calls Tryz.prog 60 #[.agg (C i).toArray, .int .i64 ((prm e1)[i]'hi.2 : Nat)] W fun e w' => e = .returned (.int .i64 x) ∧ W.grownBy w' none) ∧
        (∀ W, w.grownBy W none → Calls Tryz.prog 66 #[.agg (C i).toArray, .int .i64 ((prm e1)[i]'hi.2 : Nat)] W fun e w' => e = .returned (.int .i64 x) ∧ W.grownBy w' none) := fun i hi => (hC i hi.1).2 _ (by omega) (by have := prm_sorts e1 i hi.2; omega)
    obtain ⟨X, hX⟩ : ∃ X : Nat → Int, ∀ i (hi : i < n3 ∧ i < (prm e1).length),
        (∀ W, w.grownBy W none → Calls Tryz.prog 60 #[.agg (C i).toArray, .int .i64 ((prm e1)[i]'hi.2 : Nat)] W fun e w' => e = .returned (.int .i64 (X i)) ∧ W.grownBy w' none) ∧
        (∀ W, w.grownBy W none → Calls Tryz.prog 66 #[.agg (C i).toArray, .int .i64 ((prm e1)[i]'hi.2 : Nat)] W fun e w' => e = .returned (.int .i64 (X i)) ∧ W.grownBy w' none) :=
      ⟨fun i => if hi : i < n3 ∧ i < (prm e1).length then Classical.choose (hXe i hi) else 0, fun i hi => by
        dsimp only
        rw [dif_pos hi]
        exact Classical.choose_spec (hXe i hi)⟩
    refine ⟨if topE e1 s e2.data.toList n3 R = 0 then scan X 0 n3 else topE e1 s e2.data.toList n3 R, fun W hW => ?_, fun W hW => ?_⟩
    · exact checkTree_n e1 e2 e3 p1 n1 c1 p2 n2 c2 p3 n3 c3 e7 s R W (hR.keep hW) hnm (by omega) ⟨hca, hma⟩ C X (fun i hi => (hC i hi).1.keep hW) (fun i hi hp W' hW' => (hX i ⟨hi, hp⟩).1 W' (grown_trans hW hW')) _ rfl
    · by_cases h0 : topE e1 s e2.data.toList n3 R = 0
      · rw [if_pos h0]
        exact check_good (m + 1) h l e1 e2 e3 p1 n1 c1 p2 n2 c2 p3 n3 c3 e7 s ⟨hs0, hs4⟩ R W (hE.keep hW) r1.symm (hR.keep hW) hnm (by omega) ⟨hca, hma⟩ h0 C X (fun i hi => (hC i hi).1.keep hW) (fun i hi hp W' hW' => (hX i ⟨hi, hp⟩).2 W' (grown_trans hW hW')) _ rfl
      · rw [if_neg h0]
        exact check_bad (m + 1) h l e1 e2 e3 p1 n1 c1 p2 n2 c2 p3 n3 c3 e7 s ⟨hs0, hs4⟩ R W (hE.keep hW) r1.symm (hR.keep hW) hnm (by omega) h0
set_option maxHeartbeats 8000000 in
set_option maxRecDepth 100000 in
theorem check_both (m : Nat) (cs : List Value) (t : Tr) (s : Int) (w : World) (Tq : Tb w) (hE : ERd w m cs t) (hD : DgF m t) (hsz : szF m t ≤ 1048576) : ∃ x : Int,
    (∀ W, w.grownBy W none → Calls Tryz.prog 30 #[.agg cs.toArray, .int .i64 s] W fun e w' => e = .returned (.int .i64 x) ∧ W.grownBy w' none) ∧
    (∀ W, w.grownBy W none → Calls Tryz.prog 33 #[.agg cs.toArray, .int .i64 s] W fun e w' => e = .returned (.int .i64 x) ∧ W.grownBy w' none) := by
  obtain ⟨e1, e2, e3, p1, n1, c1, p2, n2, c2, p3, n3, c3, e7, rfl⟩ := hE.shape
  have hds := dN_sz m t
  have HDe := hid fun w' (hg : w.grownBy w' none) (b : Bool) (hb : b = true ↔ 20 < dN m t) => deeper_any m _ t 20 b w' (by omega) (hE.keep hg) hb
  have HRD := hid fun w' (hg : w.grownBy w' none) => rdepth_any m _ t w' (hE.keep hg)
  rw [depF_dN m t (by omega)] at HRD
  have HCK := hid (chk_both m _ t w Tq hE hD hsz)
  clear hE hD hsz Tq hds
  generalize dN m t = dd at *
  by_cases hr : s < 1 ∨ 4 < s
  · refine ⟨1, fun W hW => ?_, fun W hW => ?_⟩
    all_goals
      clear HDe HRD HCK
      have hz : (s < 1) = True ∨ ((s < 1) = False ∧ (4 < s) = True) := by
        rcases hr with h | h
        · exact .inl (by simp [h])
        · by_cases h1 : s < 1
          · exact .inl (by simp [h1])
          · exact .inr ⟨by simp [h1], by simp [h]⟩
    · have hW1 := World.grownBy_alloc W (.cells #[.int .i64 e1, .string e2, .bool e3, .slice p1 n1 c1, .slice p2 n2 c2, .slice p3 n3 c3, .int .i64 e7] 43 (0, 0)) none
      by_cases h1 : s < 1
      · clear hz hr
        go_enter Tryz.func30, Tryz.ntmps30
        go_wp2_with fail
        go_ret
        exact ⟨rfl, hW1⟩
      · have h2 : 4 < s := by omega
        clear hz hr
        go_enter Tryz.func30, Tryz.ntmps30
        go_wp2_with fail
        go_ret
        exact ⟨rfl, hW1⟩
    · have hW1 := World.grownBy_alloc W (.cells #[.int .i64 e1, .string e2, .bool e3, .slice p1 n1 c1, .slice p2 n2 c2, .slice p3 n3 c3, .int .i64 e7] 43 (0, 0)) none
      by_cases h1 : s < 1
      · clear hz hr
        go_enter Tryz.func33, Tryz.ntmps33
        go_wp2_with fail
        go_ret
        exact ⟨rfl, hW1⟩
      · have h2 : 4 < s := by omega
        clear hz hr
        go_enter Tryz.func33, Tryz.ntmps33
        go_wp2_with fail
        go_ret
        exact ⟨rfl, hW1⟩
  · have h1 : ¬ s < 1 := by omega
    have h2 : ¬ 4 < s := by omega
    obtain ⟨x, X1, X2⟩ := HCK.out s (by omega) (by omega)
    have HX1 := hid X1
    have HX2 := hid X2
    clear X1 X2 HCK hr
    by_cases hdp : 20 < dd
    · refine ⟨4, fun W hW => ?_, fun W hW => ?_⟩
      · have HD1 := hid fun w' (hg : W.grownBy w' none) => HDe.out w' (grown_trans hW hg) true (by simp [hdp])
        clear HDe HRD HX1 HX2
        have hW1 := World.grownBy_alloc W (.cells #[.int .i64 e1, .string e2, .bool e3, .slice p1 n1 c1, .slice p2 n2 c2, .slice p3 n3 c3, .int .i64 e7] 43 (0, 0)) none
        obtain ⟨⟨k0, k1, k2, k3, k4, k5, k6⟩, -⟩ := box7 (blk0 W (.cells #[.int .i64 e1, .string e2, .bool e3, .slice p1 n1 c1, .slice p2 n2 c2, .slice p3 n3 c3, .int .i64 e7] 43 (0, 0)))
        go_enter Tryz.func30, Tryz.ntmps30
        go_upto_region 1 with fail
        generalize (W.alloc _) = w0 at *
        go_wp2_with (go_at_call 59; refine (HD1.out _ hW1).mono ?_; rintro e w1 ⟨rfl, hg⟩; replace hW1 := grown_trans hW1 hg)
        go_ret
        exact ⟨rfl, hW1⟩
      · have HD1 := hid fun w' (hg : W.grownBy w' none) => HRD.out w' (grown_trans hW hg)
        clear HDe HRD HX1 HX2
        have hW1 := World.grownBy_alloc W (.cells #[.int .i64 e1, .string e2, .bool e3, .slice p1 n1 c1, .slice p2 n2 c2, .slice p3 n3 c3, .int .i64 e7] 43 (0, 0)) none
        obtain ⟨⟨k0, k1, k2, k3, k4, k5, k6⟩, -⟩ := box7 (blk0 W (.cells #[.int .i64 e1, .string e2, .bool e3, .slice p1 n1 c1, .slice p2 n2 c2, .slice p3 n3 c3, .int .i64 e7] 43 (0, 0)))
        have hz : (20 : Int) < (dd : Int) := by omega
        go_enter Tryz.func33, Tryz.ntmps33
        go_upto_region 1 with fail
        generalize (W.alloc _) = w0 at *
        go_wp2_with (go_at_call 65; refine (HD1.out _ hW1).mono ?_; rintro e w1 ⟨rfl, hg⟩; replace hW1 := grown_trans hW1 hg)
        go_ret
        exact ⟨rfl, hW1⟩
    · refine ⟨x, fun W hW => ?_, fun W hW => ?_⟩
      · have HD1 := hid fun w' (hg : W.grownBy w' none) => HDe.out w' (grown_trans hW hg) false (by simp; omega)
        have HC1 := hid fun w' (hg : W.grownBy w' none) => HX1.out w' (grown_trans hW hg)
        clear HDe HRD HX1 HX2
        have hW1 := World.grownBy_alloc W (.cells #[.int .i64 e1, .string e2, .bool e3, .slice p1 n1 c1, .slice p2 n2 c2, .slice p3 n3 c3, .int .i64 e7] 43 (0, 0)) none
        obtain ⟨⟨k0, k1, k2, k3, k4, k5, k6⟩, -⟩ := box7 (blk0 W (.cells #[.int .i64 e1, .string e2, .bool e3, .slice p1 n1 c1, .slice p2 n2 c2, .slice p3 n3 c3, .int .i64 e7] 43 (0, 0)))
        go_enter Tryz.func30, Tryz.ntmps30
        go_upto_region 1 with fail
        generalize (W.alloc _) = w0 at *
        go_wp2_with (first | (go_at_call 59; refine (HD1.out _ hW1).mono ?_; rintro e w1 ⟨rfl, hg⟩; replace hW1 := grown_trans hW1 hg; replace k0 := hg.cell k0 (by simp); replace k1 := hg.cell k1 (by simp); replace k2 := hg.cell k2 (by simp); replace k3 := hg.cell k3 (by simp); replace k4 := hg.cell k4 (by simp); replace k5 := hg.cell k5 (by simp); replace k6 := hg.cell k6 (by simp)) | (go_at_call 60; refine (HC1.out _ hW1).mono ?_; rintro e w1 ⟨rfl, hg⟩; replace hW1 := grown_trans hW1 hg))
        go_ret
        exact ⟨rfl, hW1⟩
      · have HD1 := hid fun w' (hg : W.grownBy w' none) => HRD.out w' (grown_trans hW hg)
        have HC1 := hid fun w' (hg : W.grownBy w' none) => HX2.out w' (grown_trans hW hg)
        clear HDe HRD HX1 HX2
        have hW1 := World.grownBy_alloc W (.cells #[.int .i64 e1, .string e2, .bool e3, .slice p1 n1 c1, .slice p2 n2 c2, .slice p3 n3 c3, .int .i64 e7] 43 (0, 0)) none
        obtain ⟨⟨k0, k1, k2, k3, k4, k5, k6⟩, -⟩ := box7 (blk0 W (.cells #[.int .i64 e1, .string e2, .bool e3, .slice p1 n1 c1, .slice p2 n2 c2, .slice p3 n3 c3, .int .i64 e7] 43 (0, 0)))
        have hz : ¬ (20 : Int) < (dd : Int) := by omega
        go_enter Tryz.func33, Tryz.ntmps33
        go_upto_region 1 with fail
        generalize (W.alloc _) = w0 at *
        go_wp2_with (first | (go_at_call 65; refine (HD1.out _ hW1).mono ?_; rintro e w1 ⟨rfl, hg⟩; replace hW1 := grown_trans hW1 hg; replace k0 := hg.cell k0 (by simp); replace k1 := hg.cell k1 (by simp); replace k2 := hg.cell k2 (by simp); replace k3 := hg.cell k3 (by simp); replace k4 := hg.cell k4 (by simp); replace k5 := hg.cell k5 (by simp); replace k6 := hg.cell k6 (by simp)) | (go_at_call 66; refine (HC1.out _ hW1).mono ?_; rintro e w1 ⟨rfl, hg⟩; replace hW1 := grown_trans hW1 hg))
        go_ret
        exact ⟨rfl, hW1⟩
end Go.Proofs.YtiaonbofkgkdhaaGreatDoor
