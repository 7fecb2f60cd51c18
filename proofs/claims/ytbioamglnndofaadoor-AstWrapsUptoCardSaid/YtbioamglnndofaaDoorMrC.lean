/-
  AcA AcB AcC AcD AcE AcF AcG, in one text.
-/
import Derived.Test.YtbioamglnndofaaDoorMrA
import Derived.Test.YtbioamglnndofaaDoorMrL
import Derived.Test.YtbioamglnndofaaDoorMrR
import Derived.Deep.RegionHeld3

set_option linter.unusedVariables false
set_option linter.unusedSimpArgs false
namespace Go.Proofs.YtbioamglnndofaaDoor
open Go.RowKit _root_.Nm Ax
/-- a kind is of a sort -/
def isB (k s : Int) : Bool := if s = 1 ∨ s = 2 ∨ s = 3 then decide (k = 1) || decide ((srt k : Int) = s) else decide (s = 4) && decide ((srt k : Int) = s)
def fitB (k s : Int) : Bool := if s = 0 then isB k 2 || isB k 3 else isB k s
def ratB (k : Int) : Bool := decide (k = 11) || decide (k = 68)
set_option maxHeartbeats 4000000 in
set_option maxRecDepth 100000 in
theorem isOf_any (k s : Int) (w : World) : Calls Tryd.prog 20 #[.int .i64 k, .int .i64 s] w fun e w' => e = .returned (.bool (isB k s)) ∧ w.grownBy w' none := by
  have HS := hid fun w => sort_any k w
  have hz : (1 : Int) ≠ 2 := by decide
  obtain ⟨q, hq⟩ : ∃ q : Nat, q = srt k := ⟨_, rfl⟩
  rw [← hq] at HS
  unfold isB
  rw [← hq]
  clear hq
  by_cases h1 : s = 1
  · subst h1
    by_cases hk : k = 1
    · subst hk
      go_enter Tryd.func20, Tryd.ntmps20
      go_wp2_with fail
      go_ret
      exact ⟨by simp, grown_refl _ _⟩
    · go_enter Tryd.func20, Tryd.ntmps20
      go_wp2_with (go_at_call 32; refine (HS.out _).mono ?_; rintro e w1 ⟨rfl, hg⟩)
      go_ret
      exact ⟨by simp [hk]; rfl, hg⟩
  by_cases h2 : s = 2
  · subst h2
    by_cases hk : k = 1
    · subst hk
      go_enter Tryd.func20, Tryd.ntmps20
      go_wp2_with fail
      go_ret
      exact ⟨by simp, grown_refl _ _⟩
    · go_enter Tryd.func20, Tryd.ntmps20
      go_wp2_with (go_at_call 32; refine (HS.out _).mono ?_; rintro e w1 ⟨rfl, hg⟩)
      go_ret
      exact ⟨by simp [hk]; rfl, hg⟩
  by_cases h3 : s = 3
  · subst h3
    by_cases hk : k = 1
    · subst hk
      go_enter Tryd.func20, Tryd.ntmps20
      go_wp2_with fail
      go_ret
      exact ⟨by simp, grown_refl _ _⟩
    · go_enter Tryd.func20, Tryd.ntmps20
      go_wp2_with (go_at_call 32; refine (HS.out _).mono ?_; rintro e w1 ⟨rfl, hg⟩)
      go_ret
      exact ⟨by simp [hk]; rfl, hg⟩
  by_cases h4 : s = 4
  · subst h4
    go_enter Tryd.func20, Tryd.ntmps20
    go_wp2_with (go_at_call 32; refine (HS.out _).mono ?_; rintro e w1 ⟨rfl, hg⟩)
    go_ret
    exact ⟨by simp; rfl, hg⟩
  · go_enter Tryd.func20, Tryd.ntmps20
    go_wp2_with fail
    go_ret
    exact ⟨by simp [h1, h2, h3, h4], grown_refl _ _⟩
set_option maxHeartbeats 4000000 in
set_option maxRecDepth 100000 in
theorem fits_any (k s : Int) (w : World) : Calls Tryd.prog 16 #[.int .i64 k, .int .i64 s] w fun e w' => e = .returned (.bool (fitB k s)) ∧ w.grownBy w' none := by
  obtain ⟨b2, hb2⟩ : ∃ b, b = isB k 2 := ⟨_, rfl⟩
  obtain ⟨b3, hb3⟩ : ∃ b, b = isB k 3 := ⟨_, rfl⟩
  obtain ⟨bs, hbs⟩ : ∃ b, b = isB k s := ⟨_, rfl⟩
  have H2 := hid fun w => isOf_any k 2 w
  have H3 := hid fun w => isOf_any k 3 w
  have HS := hid fun w => isOf_any k s w
  rw [← hb2] at H2
  rw [← hb3] at H3
  rw [← hbs] at HS
  unfold fitB
  rw [← hb2, ← hb3, ← hbs]
  clear hb2 hb3 hbs
  by_cases h0 : s = 0
  · subst h0
    cases b2
    all_goals
      go_enter Tryd.func16, Tryd.ntmps16
      go_wp2_with (first | (go_at_call 20; with_reducible refine (H2.out _).mono ?_; rintro e w1 ⟨rfl, hg1⟩) | (go_at_call 20; with_reducible refine (H3.out _).mono ?_; rintro e w2 ⟨rfl, hg2⟩))
      go_ret
      first | exact ⟨by simp, hg1⟩ | exact ⟨by simp, grown_trans hg1 hg2⟩
  · go_enter Tryd.func16, Tryd.ntmps16
    go_wp2_with (go_at_call 20; with_reducible refine (HS.out _).mono ?_; rintro e w1 ⟨rfl, hg⟩)
    go_ret
    exact ⟨by simp [h0], hg⟩
set_option maxHeartbeats 4000000 in
set_option maxRecDepth 100000 in
theorem hasRatio_any (k : Int) (w : World) : Calls Tryd.prog 25 #[.int .i64 k] w fun e w' => e = .returned (.bool (ratB k)) ∧ w.grownBy w' none := by
  unfold ratB
  by_cases h : k = 11
  · subst h
    go_enter Tryd.func25, Tryd.ntmps25
    go_wp2_with fail
    go_ret
    exact ⟨by simp, grown_refl _ _⟩
  · go_enter Tryd.func25, Tryd.ntmps25
    go_wp2_with fail
    go_ret
    exact ⟨by rw [show (k == 11) = false from by simpa using h]; simp [h]; rfl, grown_refl _ _⟩
end Go.Proofs.YtbioamglnndofaaDoor

set_option linter.unusedVariables false
set_option linter.unusedSimpArgs false
namespace Go.Proofs.YtbioamglnndofaaDoor
open Go.RowKit _root_.Nm Ax
theorem found_z {x : Int} {e : Ent} (he : e ∈ Ax.tab) (hx : ent x = some e) : (srt x = 0 → ((e.k : Nat) : Int) = 0) ∧ (srt x ≠ 0 → ((e.k : Nat) : Int) ≠ 0) := by
  have h1 : srt x = e.s := by unfold srt; rw [hx]
  have h2 := tab_good e he
  exact ⟨fun h => by omega, fun _ => by omega⟩
def RowZ (x : Int) (w : World) (e : Ending) (w' : World) : Prop := ∃ (z : Int) (p : Option Addr) (n c : Nat), e = .returned (.agg #[.int .i64 z, .int .i64 (srt x : Nat), .string ⟨(wrd x).toArray⟩, .slice p n c]) ∧ ((srt x = 0 → z = 0) ∧ (srt x ≠ 0 → z ≠ 0)) ∧ w.grownBy w' none
theorem RowZ.mk {x : Int} {w w1 : World} {z : Int} {s : Nat} {d : ByteArray} {p : Option Addr} {n c : Nat} (hs : srt x = s) (hd : (⟨(wrd x).toArray⟩ : ByteArray) = d) (hr : IRd w1 .i64 p n c (prm x)) (hf : ∀ a, p = some a → w.heap.size < a.block) (hg : w.grownBy w1 none) (hz : (srt x = 0 → z = 0) ∧ (srt x ≠ 0 → z ≠ 0)) :
    RowZ x w (.returned (.agg #[.int .i64 z, .int .i64 (s : Int), .string d, .slice p n c])) ((((w1.setCell ⟨w.heap.size, 0, none⟩ (.int .i64 z)).setCell ⟨w.heap.size, 1, none⟩ (.int .i64 (s : Int))).setCell ⟨w.heap.size, 2, none⟩ (.string d)).setCell ⟨w.heap.size, 3, none⟩ (.slice p n c)) := by
  subst hs hd
  exact ⟨z, p, n, c, rfl, hz, grown_new hg (set4g _ _ _ _ _ _) fun g e => by cases e; exact Nat.le_refl _⟩

theorem isB_name {s : Int} (hs : 1 ≤ s ∧ s ≤ 4) : isB 1 s = decide (s ≠ 4) := by
  have h0 : srt 1 = 0 := by decide
  unfold isB
  by_cases h : s = 4
  · subst h; simp [h0]
  · rw [if_pos (by omega)]; simp [h]
theorem isB_kind {k s : Int} (hk : k ≠ 1) (hs : 1 ≤ s ∧ s ≤ 4) : isB k s = decide ((srt k : Int) = s) := by
  unfold isB
  by_cases h : s = 4
  · subst h; simp
  · rw [if_pos (by omega)]; simp [hk]
end Go.Proofs.YtbioamglnndofaaDoor

set_option linter.unusedVariables false
set_option linter.unusedSimpArgs false
namespace Go.Proofs.YtbioamglnndofaaDoor
open Go.RowKit _root_.Nm Ax
/-- the depth of a tree -/
def dN : Nat → Tr → Nat
  | 0, _ => 0
  | m + 1, .node _ l => (l.map (dN m)).foldl max 0 + 1
theorem dN_succ (m : Nat) (h : Hd) (l : List Tr) : dN (m + 1) (.node h l) = (l.map (dN m)).foldl max 0 + 1 := rfl
theorem foldl_max_le {l : List Nat} : ∀ {a N : Nat}, l.foldl max a ≤ N ↔ a ≤ N ∧ ∀ x ∈ l, x ≤ N := by
  induction l with
  | nil => intro a N; simp
  | cons x r ih =>
    intro a N
    rw [List.foldl_cons, ih]
    simp only [List.mem_cons, forall_eq_or_imp]
    rw [Nat.max_le, and_assoc]
theorem dN_le {m : Nat} {h : Hd} {l : List Tr} {N : Nat} : dN (m + 1) (.node h l) ≤ N + 1 ↔ ∀ i (hi : i < l.length), dN m l[i] ≤ N := by
  rw [dN_succ, Nat.add_le_add_iff_right, foldl_max_le]
  constructor
  · rintro ⟨_, h⟩ i hi
    exact h _ (List.mem_map.2 ⟨_, List.getElem_mem hi, rfl⟩)
  · intro h
    refine ⟨Nat.zero_le _, fun x hx => ?_⟩
    obtain ⟨t, ht, rfl⟩ := List.mem_map.1 hx
    obtain ⟨i, hi, rfl⟩ := List.getElem_of_mem ht
    exact h i hi
theorem dN_sz : ∀ (m : Nat) (t : Tr), dN m t ≤ szF m t
  | 0, _ => by simp [dN]
  | m + 1, .node h l => by
    have h0 : 1 ≤ szF (m + 1) (.node h l) := by rw [szF_succ]; omega
    rw [show szF (m + 1) (.node h l) = szF (m + 1) (.node h l) - 1 + 1 by omega]
    refine dN_le.2 fun i hi => ?_
    have := sz_child m h l hi
    have := dN_sz m l[i]
    omega
/-- as the machine counts, where nothing wraps -/
theorem depF_dN : ∀ (m : Nat) (t : Tr), dN m t ≤ 1048576 → depF m t = (dN m t : Int)
  | 0, _, _ => rfl
  | m + 1, .node h l, hd => by
    have hc : ∀ i (hi : i < l.length), depF m l[i] = (dN m l[i] : Int) := fun i hi => depF_dN m l[i] (by
      have := (dN_le (N := 1048575)).1 hd i hi
      omega)
    have hm : ∀ (L : List Tr) (a : Nat), (∀ t ∈ L, depF m t = (dN m t : Int)) → (L.map (depF m)).foldl max (a : Int) = (((L.map (dN m)).foldl max a : Nat) : Int) := by
      intro L
      induction L with
      | nil => intro a _; simp
      | cons x r ih =>
        intro a hL
        rw [List.map_cons, List.foldl_cons, List.map_cons, List.foldl_cons, hL x (by simp), show max (a : Int) ((dN m x : Nat) : Int) = ((max a (dN m x) : Nat) : Int) by omega]
        exact ih _ fun t ht => hL t (by simp [ht])
    have h1 := hm l 0 (fun t ht => by
      obtain ⟨i, hi, rfl⟩ := List.getElem_of_mem ht
      exact hc i hi)
    rw [depF_succ]
    unfold most
    rw [show (0 : Int) = ((0 : Nat) : Int) by rfl, h1]
    rw [dN_succ] at hd ⊢
    unfold wrap64
    omega
set_option maxHeartbeats 8000000 in
set_option maxRecDepth 100000 in
theorem deeper_any : ∀ (m : Nat) (cs : List Value) (t : Tr) (n : Nat) (b : Bool) (w : World), n ≤ 20 → ERd w m cs t → (b = true ↔ n < dN m t) → Calls Tryd.prog 10 #[.agg cs.toArray, .int .i64 n] w fun e w' => e = .returned (.bool b) ∧ w.grownBy w' none
  | 0, _, _, _, _, _, _, h, _ => h.elim
  | m + 1, cs, .node h l, n, b, w, hn, hE, hb => by
    have IH := hid (deeper_any m)
    obtain ⟨e1, e2, e3, p1, n1, c1, p2, n2, c2, p3, n3, c3, e7, rfl⟩ := hE.shape
    obtain ⟨-, -, -, hA, -⟩ := ARd.of hE
    obtain ⟨⟨hla, hca, hma⟩, _⟩ := id hA
    have HA := hid hA
    clear hE hA
    have HW := hid (World.grownBy_alloc w (.cells #[.int .i64 e1, .string e2, .bool e3, .slice p1 n1 c1, .slice p2 n2 c2, .slice p3 n3 c3, .int .i64 e7] 30 (0, 0)) none)
    cases n with
    | zero =>
      obtain rfl : b = true := hb.2 (by rw [dN_succ]; omega)
      go_enter Tryd.func10, Tryd.ntmps10
      go_wp2_with fail
      go_ret
      exact ⟨rfl, HW.out⟩
    | succ n =>
      have HB : Hid (b = false ↔ ∀ i (hi : i < l.length), dN m l[i] ≤ n) := hid (by
        rw [← dN_le (h := h), ← Bool.not_eq_true, hb]
        omega)
      clear hb
      obtain ⟨x, hx⟩ : ∃ x : Int, x = ((n + 1 : Nat) : Int) := ⟨_, rfl⟩
      rw [← hx]
      have hx1 : 1 ≤ x := by omega
      have hx2 : x ≤ 20 := by omega
      have hz : (x == 0) = false := by simp; omega
      have HXN : Hid ((n : Int) = x - 1) := hid (by omega)
      clear hx
      go_enter Tryd.func10, Tryd.ntmps10
      go_wp2_with fail
      clear hz
      go_loopw [12] (fun x wr => ∃ k : Nat, k ≤ n3 ∧ x = .int .i64 k ∧ w.grownBy wr none ∧ ∀ i (hi : i < l.length), i < k → dN m l[i] ≤ n) (fun x _ => n3 - (intOf x).toNat)
      case atStart => exact ⟨0, Nat.zero_le _, rfl, HW.out, fun i _ h => absurd h (Nat.not_lt_zero i)⟩
      case round =>
        obtain ⟨k, hk, rfl, hg, hall⟩ := hrel
        have HALL := hid hall
        clear hall
        by_cases hlt : k < n3
        · obtain ⟨bA, oA, x1, x2, x3, q1, m1, d1, q2, m2, d2, q3, m3, d3, x7, rfl, hE2, a0, a1, a2, a3, a4, a5, a6⟩ := (HA.out.keep hg).at (i := k) (by omega)
          have hG1 := World.grownBy_alloc wr (.cells #[.int .i64 x1, .string x2, .bool x3, .slice q1 m1 d1, .slice q2 m2 d2, .slice q3 m3 d3, .int .i64 x7] 30 (0, 0)) none
          obtain ⟨bq, hbq⟩ := ex_bool (n < dN m (l[k]'(by omega)))
          have HC := hid (IH.out _ _ n bq _ (by omega) (hE2.keep hG1) hbq)
          rw [HXN.out] at HC
          have HGG := hid (grown_trans hg hG1)
          have HQ := hid hbq
          clear hE2 hG1 hbq
          obtain ⟨⟨o0, o1, o2, o3, o4, o5, o6⟩, f0, f1, f2, f3, f4, f5, f6⟩ := box7 (blk0 wr (zeroE 30))
          unfold zeroE at o0 o1 o2 o3 o4 o5 o6 f0 f1 f2 f3 f4 f5 f6
          cases bq
          · go_wp2_with (go_at_call 10; refine HC.out.mono ?_; rintro e w2 ⟨rfl, hg2⟩)
            exact ⟨⟨k + 1, by omega, by go_num, grown_trans HGG.out hg2, fun i hi h => by
              rcases Nat.lt_or_eq_of_le (Nat.le_of_lt_succ h) with h | rfl
              · exact HALL.out i hi h
              · have := HQ.out
                simp at this
                omega⟩, by simp [intOf]; omega⟩
          · obtain rfl : b = true := by
              rw [← Bool.not_eq_false, HB.out]
              intro h9
              have h1 := h9 k (by omega)
              have h2 := HQ.out.1 (by simp)
              omega
            go_wp2_with (go_at_call 10; refine HC.out.mono ?_; rintro e w2 ⟨rfl, hg2⟩)
            go_ret
            exact ⟨rfl, grown_trans HGG.out hg2⟩
        · obtain rfl : k = n3 := by omega
          obtain rfl : b = false := HB.out.2 fun i hi => HALL.out i hi (by omega)
          go_wp2_with fail
          go_ret
          exact ⟨rfl, hg⟩
end Go.Proofs.YtbioamglnndofaaDoor

set_option linter.unusedVariables false
set_option linter.unusedSimpArgs false
namespace Go.Proofs.YtbioamglnndofaaDoor
open Go.RowKit _root_.Nm Ax Lx
/-- whether the Ratio of an expression is right, as both sides find it -/
structure RatOk (w : World) (e1 : Int) (e3 : Bool) (p1 : Option Addr) (n1 c1 : Nat) (p2 : Option Addr) (n2 c2 : Nat) (R : Bool) : Prop where
  right : ratB e1 = true → ∀ W, w.grownBy W none → Calls Tryd.prog 26 #[.agg #[.bool e3, .slice p1 n1 c1, .slice p2 n2 c2]] W fun e w' => e = .returned (.bool R) ∧ W.grownBy w' none
  zero : ratB e1 = false → ∀ W, w.grownBy W none → Calls Tryd.prog 27 #[.agg #[.bool e3, .slice p1 n1 c1, .slice p2 n2 c2], .agg #[.bool false, .slice none 0 0, .slice none 0 0]] W fun e w' => e = .returned (.bool R) ∧ W.grownBy w' none
  none : ratB e1 = false → (R = true ↔ e3 = false ∧ n1 = 0 ∧ n2 = 0)
theorem RatOk.keep {w w' : World} {e1 : Int} {e3 : Bool} {p1 : Option Addr} {n1 c1 : Nat} {p2 : Option Addr} {n2 c2 : Nat} {R : Bool} (h : RatOk w e1 e3 p1 n1 c1 p2 n2 c2 R) (hg : w.grownBy w' Option.none) : RatOk w' e1 e3 p1 n1 c1 p2 n2 c2 R where
  right := fun hb W hW => h.right hb W (grown_trans hg hW)
  zero := fun hb W hW => h.zero hb W (grown_trans hg hW)
  none := h.none
set_option maxHeartbeats 8000000 in
set_option maxRecDepth 100000 in
theorem rightRatio_any (e1 : Int) (e2 : ByteArray) (e3 : Bool) (p1 : Option Addr) (n1 c1 : Nat) (p2 : Option Addr) (n2 c2 : Nat) (p3 : Option Addr) (n3 c3 : Nat) (e7 : Int) (R : Bool) (w : World) (hR : RatOk w e1 e3 p1 n1 c1 p2 n2 c2 R) :
    Calls Tryd.prog 18 #[.agg #[.int .i64 e1, .string e2, .bool e3, .slice p1 n1 c1, .slice p2 n2 c2, .slice p3 n3 c3, .int .i64 e7]] w fun e w' => e = .returned (.bool R) ∧ w.grownBy w' none := by
  have HH := hid fun w => hasRatio_any e1 w
  have HR1 := hid hR.right
  have HR2 := hid hR.zero
  clear hR
  have hW := World.grownBy_alloc w (.cells #[.int .i64 e1, .string e2, .bool e3, .slice p1 n1 c1, .slice p2 n2 c2, .slice p3 n3 c3, .int .i64 e7] 30 (0, 0)) none
  obtain ⟨⟨k0, k1, k2, k3, k4, k5, k6⟩, -⟩ := box7 (blk0 w (.cells #[.int .i64 e1, .string e2, .bool e3, .slice p1 n1 c1, .slice p2 n2 c2, .slice p3 n3 c3, .int .i64 e7] 30 (0, 0)))
  obtain ⟨b, hb⟩ : ∃ b, b = ratB e1 := ⟨_, rfl⟩
  rw [← hb] at HH HR1 HR2
  clear hb
  cases b
  all_goals
    go_enter Tryd.func18, Tryd.ntmps18
    go_upto_region 1 with fail
    generalize (w.alloc _) = w0 at *
    go_wp2_with (first
      | (go_at_call 25; with_reducible refine (HH.out _).mono ?_; rintro e w1 ⟨rfl, hg⟩; replace hW := grown_trans hW hg; replace k0 := hg.cell k0 (by simp); replace k1 := hg.cell k1 (by simp); replace k2 := hg.cell k2 (by simp); replace k3 := hg.cell k3 (by simp); replace k4 := hg.cell k4 (by simp); replace k5 := hg.cell k5 (by simp); replace k6 := hg.cell k6 (by simp); clear hg)
      | (go_at_call 26; refine (HR1.out (by first | rfl | trivial) _ hW).mono ?_; rintro e w1 ⟨rfl, hg⟩; replace hW := grown_trans hW hg; clear hg)
      | (go_at_call 27; refine (HR2.out (by first | rfl | trivial) _ hW).mono ?_; rintro e w1 ⟨rfl, hg⟩; replace hW := grown_trans hW hg; clear hg))
    go_ret
    exact ⟨rfl, hW⟩
/-- the error of the top of an expression -/
def topE (k s : Int) (nm : List UInt8) (n : Nat) (R : Bool) : Int :=
  if fitB k s = false then 8 else if k = 1 ∧ isNm nm = false then 6 else if k ≠ 1 ∧ nm ≠ [] then 1 else if n ≠ (prm k).length then 1 else if R = false then 1 else 0
theorem prm_len (k : Int) : (prm k).length ≤ 6 := by
  unfold prm
  cases h : ent k with
  | none => simp
  | some e => exact (show ∀ e ∈ Ax.tab, e.p.length ≤ 6 by decide) e (ent_mem h).1

set_option maxHeartbeats 16000000 in
set_option maxRecDepth 100000 in
theorem checkTop_any (e1 : Int) (e2 : ByteArray) (e3 : Bool) (p1 : Option Addr) (n1 c1 : Nat) (p2 : Option Addr) (n2 c2 : Nat) (p3 : Option Addr) (n3 c3 : Nat) (e7 : Int) (s : Int) (R : Bool) (w : World) (hR : RatOk w e1 e3 p1 n1 c1 p2 n2 c2 R) (hnm : e2.size ≤ maxLen) (hn3 : n3 ≤ 1048576) :
    Calls Tryd.prog 14 #[.agg #[.int .i64 e1, .string e2, .bool e3, .slice p1 n1 c1, .slice p2 n2 c2, .slice p3 n3 c3, .int .i64 e7], .int .i64 s] w fun e w' => e = .returned (.int .i64 (topE e1 s e2.data.toList n3 R)) ∧ w.grownBy w' none := by
  have HF := hid fun w => fits_any e1 s w
  have HN := hid fun w => isName_any e2 e2.data.toList rfl (by rw [Array.length_toList]; exact hnm) w
  have HP := hid fun w => params_any e1 w
  have HRR := hid fun w' (hg : w.grownBy w' none) => rightRatio_any e1 e2 e3 p1 n1 c1 p2 n2 c2 p3 n3 c3 e7 R w' (hR.keep hg)
  clear hR hnm
  have hpl : (prm e1).length ≤ 6 := prm_len e1
  have hW := World.grownBy_alloc w (.cells #[.int .i64 e1, .string e2, .bool e3, .slice p1 n1 c1, .slice p2 n2 c2, .slice p3 n3 c3, .int .i64 e7] 30 (0, 0)) none
  obtain ⟨⟨k0, k1, k2, k3, k4, k5, k6⟩, -⟩ := box7 (blk0 w (.cells #[.int .i64 e1, .string e2, .bool e3, .slice p1 n1 c1, .slice p2 n2 c2, .slice p3 n3 c3, .int .i64 e7] 30 (0, 0)))
  obtain ⟨f, hf⟩ : ∃ f, f = fitB e1 s := ⟨_, rfl⟩
  obtain ⟨nb, hnb⟩ : ∃ f, f = isNm e2.data.toList := ⟨_, rfl⟩
  unfold topE
  rw [← hf, ← hnb]
  rw [← hf] at HF
  rw [← hnb] at HN
  clear hf hnb
  generalize (prm e1) = pl at *
  cases f
  · go_enter Tryd.func14, Tryd.ntmps14
    go_upto_region 1 with fail
    generalize (w.alloc _) = w0 at *
    go_wp2_with (first | (go_at_call 16; with_reducible refine (HF.out _).mono ?_; rintro e w1 ⟨rfl, hg⟩; replace hW := grown_trans hW hg; replace k0 := hg.cell k0 (by simp); replace k1 := hg.cell k1 (by simp); replace k2 := hg.cell k2 (by simp); replace k3 := hg.cell k3 (by simp); replace k4 := hg.cell k4 (by simp); replace k5 := hg.cell k5 (by simp); replace k6 := hg.cell k6 (by simp); clear hg) | (go_at_call 17; refine (HN.out _).mono ?_; rintro e w1 ⟨rfl, hg⟩; replace hW := grown_trans hW hg; replace k0 := hg.cell k0 (by simp); replace k1 := hg.cell k1 (by simp); replace k2 := hg.cell k2 (by simp); replace k3 := hg.cell k3 (by simp); replace k4 := hg.cell k4 (by simp); replace k5 := hg.cell k5 (by simp); replace k6 := hg.cell k6 (by simp); clear hg) | (go_at_call 18; refine (HRR.out _ hW).mono ?_; rintro e w1 ⟨rfl, hg⟩; replace hW := grown_trans hW hg; clear hg))
    all_goals
      go_ret
      exact ⟨by simp, hW⟩
  · by_cases hk : e1 = 1
    · subst hk
      cases nb
      · go_enter Tryd.func14, Tryd.ntmps14
        go_upto_region 1 with fail
        generalize (w.alloc _) = w0 at *
        go_wp2_with (first | (go_at_call 16; with_reducible refine (HF.out _).mono ?_; rintro e w1 ⟨rfl, hg⟩; replace hW := grown_trans hW hg; replace k0 := hg.cell k0 (by simp); replace k1 := hg.cell k1 (by simp); replace k2 := hg.cell k2 (by simp); replace k3 := hg.cell k3 (by simp); replace k4 := hg.cell k4 (by simp); replace k5 := hg.cell k5 (by simp); replace k6 := hg.cell k6 (by simp); clear hg) | (go_at_call 17; refine (HN.out _).mono ?_; rintro e w1 ⟨rfl, hg⟩; replace hW := grown_trans hW hg; replace k0 := hg.cell k0 (by simp); replace k1 := hg.cell k1 (by simp); replace k2 := hg.cell k2 (by simp); replace k3 := hg.cell k3 (by simp); replace k4 := hg.cell k4 (by simp); replace k5 := hg.cell k5 (by simp); replace k6 := hg.cell k6 (by simp); clear hg) | (go_at_call 18; refine (HRR.out _ hW).mono ?_; rintro e w1 ⟨rfl, hg⟩; replace hW := grown_trans hW hg; clear hg))
        go_ret
        exact ⟨by simp, hW⟩
      · go_enter Tryd.func14, Tryd.ntmps14
        go_upto_region 1 with fail
        generalize (w.alloc _) = w0 at *
        go_wp2_with (first | (go_at_call 16; with_reducible refine (HF.out _).mono ?_; rintro e w1 ⟨rfl, hg⟩; replace hW := grown_trans hW hg; replace k0 := hg.cell k0 (by simp); replace k1 := hg.cell k1 (by simp); replace k2 := hg.cell k2 (by simp); replace k3 := hg.cell k3 (by simp); replace k4 := hg.cell k4 (by simp); replace k5 := hg.cell k5 (by simp); replace k6 := hg.cell k6 (by simp); clear hg) | (go_at_call 17; refine (HN.out _).mono ?_; rintro e w1 ⟨rfl, hg⟩; replace hW := grown_trans hW hg; replace k0 := hg.cell k0 (by simp); replace k1 := hg.cell k1 (by simp); replace k2 := hg.cell k2 (by simp); replace k3 := hg.cell k3 (by simp); replace k4 := hg.cell k4 (by simp); replace k5 := hg.cell k5 (by simp); replace k6 := hg.cell k6 (by simp); clear hg) | (go_at_call 18; refine (HRR.out _ hW).mono ?_; rintro e w1 ⟨rfl, hg⟩; replace hW := grown_trans hW hg; clear hg))
        by_cases hlen : n3 = pl.length
        · subst hlen
          cases R
          all_goals
            go_region_held3 (fun w' => w'.cell? ⟨w.heap.size, 0, none⟩ = some (.int .i64 1) ∧ w'.cell? ⟨w.heap.size, 1, none⟩ = some (.string e2) ∧ w'.cell? ⟨w.heap.size, 2, none⟩ = some (.bool e3) ∧ w'.cell? ⟨w.heap.size, 3, none⟩ = some (.slice p1 n1 c1) ∧ w'.cell? ⟨w.heap.size, 4, none⟩ = some (.slice p2 n2 c2) ∧ w'.cell? ⟨w.heap.size, 5, none⟩ = some (.slice p3 pl.length c3) ∧ w'.cell? ⟨w.heap.size, 6, none⟩ = some (.int .i64 e7) ∧ w.grownBy w' none) ((try go_split_ands) <;> (repeat' apply And.intro) <;> (first | (with_reducible assumption) | (with_reducible refine (grown_drew _ none).cell ?_ (by simp); with_reducible assumption) | (with_reducible refine grown_trans ?_ (grown_drew _ none); with_reducible assumption))) (first | (go_at_call 15; (with_reducible refine (HP.out _).mono ?_); rintro e v3 ⟨pp, nn, cc, rfl, hfr, hrd, hg⟩; obtain rfl := hrd.len; (first | replace hW := grown_trans hW hg | replace hW := grown_trans (grown_trans hW (grown_drew _ none)) hg); replace k0 := hg.cell k0 (by simp); replace k1 := hg.cell k1 (by simp); replace k2 := hg.cell k2 (by simp); replace k3 := hg.cell k3 (by simp); replace k4 := hg.cell k4 (by simp); replace k5 := hg.cell k5 (by simp); replace k6 := hg.cell k6 (by simp); clear hfr hrd))
            go_wp2_with (first | (go_at_call 16; with_reducible refine (HF.out _).mono ?_; rintro e w1 ⟨rfl, hg⟩; replace hW := grown_trans hW hg; replace k0 := hg.cell k0 (by simp); replace k1 := hg.cell k1 (by simp); replace k2 := hg.cell k2 (by simp); replace k3 := hg.cell k3 (by simp); replace k4 := hg.cell k4 (by simp); replace k5 := hg.cell k5 (by simp); replace k6 := hg.cell k6 (by simp); clear hg) | (go_at_call 17; refine (HN.out _).mono ?_; rintro e w1 ⟨rfl, hg⟩; replace hW := grown_trans hW hg; replace k0 := hg.cell k0 (by simp); replace k1 := hg.cell k1 (by simp); replace k2 := hg.cell k2 (by simp); replace k3 := hg.cell k3 (by simp); replace k4 := hg.cell k4 (by simp); replace k5 := hg.cell k5 (by simp); replace k6 := hg.cell k6 (by simp); clear hg) | (go_at_call 18; refine (HRR.out _ hW).mono ?_; rintro e w1 ⟨rfl, hg⟩; replace hW := grown_trans hW hg; clear hg))
            go_ret
            exact ⟨by simp [], hW⟩
        · have hz : ¬ (n3 : Int) = (pl.length : Int) := by omega
          go_region_held3 (fun w' => w'.cell? ⟨w.heap.size, 0, none⟩ = some (.int .i64 1) ∧ w'.cell? ⟨w.heap.size, 1, none⟩ = some (.string e2) ∧ w'.cell? ⟨w.heap.size, 2, none⟩ = some (.bool e3) ∧ w'.cell? ⟨w.heap.size, 3, none⟩ = some (.slice p1 n1 c1) ∧ w'.cell? ⟨w.heap.size, 4, none⟩ = some (.slice p2 n2 c2) ∧ w'.cell? ⟨w.heap.size, 5, none⟩ = some (.slice p3 n3 c3) ∧ w'.cell? ⟨w.heap.size, 6, none⟩ = some (.int .i64 e7) ∧ w.grownBy w' none) ((try go_split_ands) <;> (repeat' apply And.intro) <;> (first | (with_reducible assumption) | (with_reducible refine (grown_drew _ none).cell ?_ (by simp); with_reducible assumption) | (with_reducible refine grown_trans ?_ (grown_drew _ none); with_reducible assumption))) (first | (go_at_call 15; (with_reducible refine (HP.out _).mono ?_); rintro e v3 ⟨pp, nn, cc, rfl, hfr, hrd, hg⟩; obtain rfl := hrd.len; (first | replace hW := grown_trans hW hg | replace hW := grown_trans (grown_trans hW (grown_drew _ none)) hg); replace k0 := hg.cell k0 (by simp); replace k1 := hg.cell k1 (by simp); replace k2 := hg.cell k2 (by simp); replace k3 := hg.cell k3 (by simp); replace k4 := hg.cell k4 (by simp); replace k5 := hg.cell k5 (by simp); replace k6 := hg.cell k6 (by simp); clear hfr hrd))
          go_wp2_with fail
          go_ret
          exact ⟨by simp [hlen], hW⟩
    · have hzk : (e1 == 1) = false := by simpa using hk
      by_cases he : e2.data.toList = []
      · have hz0 : e2.toList.isEmpty = true := by simp [Lib.toList_data, he]
        go_enter Tryd.func14, Tryd.ntmps14
        go_upto_region 1 with fail
        generalize (w.alloc _) = w0 at *
        go_upto_region 8 with (first | (go_at_call 16; with_reducible refine (HF.out _).mono ?_; rintro e w1 ⟨rfl, hg⟩; replace hW := grown_trans hW hg; replace k0 := hg.cell k0 (by simp); replace k1 := hg.cell k1 (by simp); replace k2 := hg.cell k2 (by simp); replace k3 := hg.cell k3 (by simp); replace k4 := hg.cell k4 (by simp); replace k5 := hg.cell k5 (by simp); replace k6 := hg.cell k6 (by simp); clear hg) | (go_at_call 17; refine (HN.out _).mono ?_; rintro e w1 ⟨rfl, hg⟩; replace hW := grown_trans hW hg; replace k0 := hg.cell k0 (by simp); replace k1 := hg.cell k1 (by simp); replace k2 := hg.cell k2 (by simp); replace k3 := hg.cell k3 (by simp); replace k4 := hg.cell k4 (by simp); replace k5 := hg.cell k5 (by simp); replace k6 := hg.cell k6 (by simp); clear hg) | (go_at_call 18; refine (HRR.out _ hW).mono ?_; rintro e w1 ⟨rfl, hg⟩; replace hW := grown_trans hW hg; clear hg))
        clear hz0 hzk
        by_cases hlen : n3 = pl.length
        · subst hlen
          cases R
          all_goals
            go_region_held3 (fun w' => w'.cell? ⟨w.heap.size, 0, none⟩ = some (.int .i64 e1) ∧ w'.cell? ⟨w.heap.size, 1, none⟩ = some (.string e2) ∧ w'.cell? ⟨w.heap.size, 2, none⟩ = some (.bool e3) ∧ w'.cell? ⟨w.heap.size, 3, none⟩ = some (.slice p1 n1 c1) ∧ w'.cell? ⟨w.heap.size, 4, none⟩ = some (.slice p2 n2 c2) ∧ w'.cell? ⟨w.heap.size, 5, none⟩ = some (.slice p3 pl.length c3) ∧ w'.cell? ⟨w.heap.size, 6, none⟩ = some (.int .i64 e7) ∧ w.grownBy w' none) ((try go_split_ands) <;> (repeat' apply And.intro) <;> (first | (with_reducible assumption) | (with_reducible refine (grown_drew _ none).cell ?_ (by simp); with_reducible assumption) | (with_reducible refine grown_trans ?_ (grown_drew _ none); with_reducible assumption))) (first | (go_at_call 15; (with_reducible refine (HP.out _).mono ?_); rintro e v3 ⟨pp, nn, cc, rfl, hfr, hrd, hg⟩; obtain rfl := hrd.len; (first | replace hW := grown_trans hW hg | replace hW := grown_trans (grown_trans hW (grown_drew _ none)) hg); replace k0 := hg.cell k0 (by simp); replace k1 := hg.cell k1 (by simp); replace k2 := hg.cell k2 (by simp); replace k3 := hg.cell k3 (by simp); replace k4 := hg.cell k4 (by simp); replace k5 := hg.cell k5 (by simp); replace k6 := hg.cell k6 (by simp); clear hfr hrd))
            go_wp2_with (first | (go_at_call 16; with_reducible refine (HF.out _).mono ?_; rintro e w1 ⟨rfl, hg⟩; replace hW := grown_trans hW hg; replace k0 := hg.cell k0 (by simp); replace k1 := hg.cell k1 (by simp); replace k2 := hg.cell k2 (by simp); replace k3 := hg.cell k3 (by simp); replace k4 := hg.cell k4 (by simp); replace k5 := hg.cell k5 (by simp); replace k6 := hg.cell k6 (by simp); clear hg) | (go_at_call 17; refine (HN.out _).mono ?_; rintro e w1 ⟨rfl, hg⟩; replace hW := grown_trans hW hg; replace k0 := hg.cell k0 (by simp); replace k1 := hg.cell k1 (by simp); replace k2 := hg.cell k2 (by simp); replace k3 := hg.cell k3 (by simp); replace k4 := hg.cell k4 (by simp); replace k5 := hg.cell k5 (by simp); replace k6 := hg.cell k6 (by simp); clear hg) | (go_at_call 18; refine (HRR.out _ hW).mono ?_; rintro e w1 ⟨rfl, hg⟩; replace hW := grown_trans hW hg; clear hg))
            go_ret
            exact ⟨by simp [hk, he], hW⟩
        · have hz : ¬ (n3 : Int) = (pl.length : Int) := by omega
          go_region_held3 (fun w' => w'.cell? ⟨w.heap.size, 0, none⟩ = some (.int .i64 e1) ∧ w'.cell? ⟨w.heap.size, 1, none⟩ = some (.string e2) ∧ w'.cell? ⟨w.heap.size, 2, none⟩ = some (.bool e3) ∧ w'.cell? ⟨w.heap.size, 3, none⟩ = some (.slice p1 n1 c1) ∧ w'.cell? ⟨w.heap.size, 4, none⟩ = some (.slice p2 n2 c2) ∧ w'.cell? ⟨w.heap.size, 5, none⟩ = some (.slice p3 n3 c3) ∧ w'.cell? ⟨w.heap.size, 6, none⟩ = some (.int .i64 e7) ∧ w.grownBy w' none) ((try go_split_ands) <;> (repeat' apply And.intro) <;> (first | (with_reducible assumption) | (with_reducible refine (grown_drew _ none).cell ?_ (by simp); with_reducible assumption) | (with_reducible refine grown_trans ?_ (grown_drew _ none); with_reducible assumption))) (first | (go_at_call 15; (with_reducible refine (HP.out _).mono ?_); rintro e v3 ⟨pp, nn, cc, rfl, hfr, hrd, hg⟩; obtain rfl := hrd.len; (first | replace hW := grown_trans hW hg | replace hW := grown_trans (grown_trans hW (grown_drew _ none)) hg); replace k0 := hg.cell k0 (by simp); replace k1 := hg.cell k1 (by simp); replace k2 := hg.cell k2 (by simp); replace k3 := hg.cell k3 (by simp); replace k4 := hg.cell k4 (by simp); replace k5 := hg.cell k5 (by simp); replace k6 := hg.cell k6 (by simp); clear hfr hrd))
          go_wp2_with fail
          go_ret
          exact ⟨by simp [hk, he, hlen], hW⟩
      · have hz0 : e2.toList.isEmpty = false := by rw [List.isEmpty_eq_false_iff, Lib.toList_data]; exact he
        go_enter Tryd.func14, Tryd.ntmps14
        go_upto_region 1 with fail
        generalize (w.alloc _) = w0 at *
        go_wp2_with (first | (go_at_call 16; with_reducible refine (HF.out _).mono ?_; rintro e w1 ⟨rfl, hg⟩; replace hW := grown_trans hW hg; replace k0 := hg.cell k0 (by simp); replace k1 := hg.cell k1 (by simp); replace k2 := hg.cell k2 (by simp); replace k3 := hg.cell k3 (by simp); replace k4 := hg.cell k4 (by simp); replace k5 := hg.cell k5 (by simp); replace k6 := hg.cell k6 (by simp); clear hg) | (go_at_call 17; refine (HN.out _).mono ?_; rintro e w1 ⟨rfl, hg⟩; replace hW := grown_trans hW hg; replace k0 := hg.cell k0 (by simp); replace k1 := hg.cell k1 (by simp); replace k2 := hg.cell k2 (by simp); replace k3 := hg.cell k3 (by simp); replace k4 := hg.cell k4 (by simp); replace k5 := hg.cell k5 (by simp); replace k6 := hg.cell k6 (by simp); clear hg) | (go_at_call 18; refine (HRR.out _ hW).mono ?_; rintro e w1 ⟨rfl, hg⟩; replace hW := grown_trans hW hg; clear hg))
        go_ret
        exact ⟨by simp [hk, he], hW⟩
end Go.Proofs.YtbioamglnndofaaDoor

set_option linter.unusedVariables false
set_option linter.unusedSimpArgs false
namespace Go.Proofs.YtbioamglnndofaaDoor
open Go.RowKit _root_.Nm Ax Lx

/-- the first error of a list of errors -/
def scan (X : Nat → Int) : Nat → Nat → Int
  | _, 0 => 0
  | k, f + 1 => if X k = 0 then scan X (k + 1) f else X k
theorem scan_step {X : Nat → Int} {k n : Nat} (hk : k < n) : scan X k (n - k) = if X k = 0 then scan X (k + 1) (n - (k + 1)) else X k := by
  rw [show n - k = (n - (k + 1)) + 1 by omega]
  rfl
theorem topE_zero {k s : Int} {nm : List UInt8} {n : Nat} {R : Bool} (h : topE k s nm n R = 0) : fitB k s = true ∧ (k = 1 → isNm nm = true) ∧ (k ≠ 1 → nm = []) ∧ n = (prm k).length ∧ R = true := by
  unfold topE at h
  cases hf : fitB k s
  · rw [if_pos hf] at h; omega
  rw [if_neg (by simp [hf])] at h
  by_cases h1 : k = 1 ∧ isNm nm = false
  · rw [if_pos h1] at h; omega
  rw [if_neg h1] at h
  by_cases h2 : k ≠ 1 ∧ nm ≠ []
  · rw [if_pos h2] at h; omega
  rw [if_neg h2] at h
  by_cases h3 : n ≠ (prm k).length
  · rw [if_pos h3] at h; omega
  rw [if_neg h3] at h
  cases R
  · rw [if_pos rfl] at h; omega
  refine ⟨rfl, fun hk => ?_, fun hk => ?_, by omega, rfl⟩
  · cases hb : isNm nm
    · exact absurd ⟨hk, hb⟩ h1
    · rfl
  · by_cases hn : nm = []
    · exact hn
    · exact absurd ⟨hk, hn⟩ h2
theorem prm_sorts (k : Int) : ∀ (i : Nat) (hi : i < (prm k).length), (prm k)[i] ≤ 4 := by
  intro i hi
  have h0 : ∀ j ∈ prm k, j ≤ 4 := by
    unfold prm
    cases h : ent k with
    | none => simp
    | some e => exact (show ∀ e ∈ Ax.tab, ∀ j ∈ e.p, j ≤ 4 by decide) e (ent_mem h).1
  exact h0 _ (List.getElem_mem hi)
set_option maxHeartbeats 16000000 in
set_option maxRecDepth 100000 in
theorem checkTree_n (e1 : Int) (e2 : ByteArray) (e3 : Bool) (p1 : Option Addr) (n1 c1 : Nat) (p2 : Option Addr) (n2 c2 : Nat) (p3 : Option Addr) (n3 c3 : Nat) (e7 : Int) (s : Int) (R : Bool) (w : World) (hR : RatOk w e1 e3 p1 n1 c1 p2 n2 c2 R) (hnm : e2.size ≤ maxLen) (hn3 : n3 ≤ 1048576) (hc3 : n3 ≤ c3 ∧ c3 ≤ 9223372036854775807)
    (C : Nat → List Value) (X : Nat → Int) (hC : ∀ i, i < n3 → ∃ b o x1 x2 x3 q1 m1 d1 q2 m2 d2 q3 m3 d3 x7, p3 = some ⟨b, o, none⟩ ∧ C i = [.int .i64 x1, .string x2, .bool x3, .slice q1 m1 d1, .slice q2 m2 d2, .slice q3 m3 d3, .int .i64 x7] ∧
      w.cell? ⟨b, o + i * 7, none⟩ = some (.int .i64 x1) ∧ w.cell? ⟨b, o + i * 7 + 1, none⟩ = some (.string x2) ∧ w.cell? ⟨b, o + i * 7 + 2, none⟩ = some (.bool x3) ∧ w.cell? ⟨b, o + i * 7 + 3, none⟩ = some (.slice q1 m1 d1) ∧ w.cell? ⟨b, o + i * 7 + 4, none⟩ = some (.slice q2 m2 d2) ∧ w.cell? ⟨b, o + i * 7 + 5, none⟩ = some (.slice q3 m3 d3) ∧ w.cell? ⟨b, o + i * 7 + 6, none⟩ = some (.int .i64 x7))
    (hX : ∀ i (hi : i < n3) (hp : i < (prm e1).length), ∀ W, w.grownBy W none → Calls Tryd.prog 11 #[.agg (C i).toArray, .int .i64 ((prm e1)[i] : Nat)] W fun e w' => e = .returned (.int .i64 (X i)) ∧ W.grownBy w' none)
    (x : Int) (hx : x = if topE e1 s e2.data.toList n3 R = 0 then scan X 0 n3 else topE e1 s e2.data.toList n3 R) :
    Calls Tryd.prog 11 #[.agg #[.int .i64 e1, .string e2, .bool e3, .slice p1 n1 c1, .slice p2 n2 c2, .slice p3 n3 c3, .int .i64 e7], .int .i64 s] w fun e w' => e = .returned (.int .i64 x) ∧ w.grownBy w' none := by
  have HT := hid fun w' (hg : w.grownBy w' none) => checkTop_any e1 e2 e3 p1 n1 c1 p2 n2 c2 p3 n3 c3 e7 s R w' (hR.keep hg) hnm hn3
  have HP := hid fun w => params_any e1 w
  have HZ := hid fun h => (topE_zero (k := e1) (s := s) (nm := e2.data.toList) (n := n3) (R := R) h).2.2.2.1
  have HCC := hid hC
  have HX := hid hX
  have hpl : (prm e1).length ≤ 6 := prm_len e1
  clear hR hnm hC hX
  have hW := World.grownBy_alloc w (.cells #[.int .i64 e1, .string e2, .bool e3, .slice p1 n1 c1, .slice p2 n2 c2, .slice p3 n3 c3, .int .i64 e7] 30 (0, 0)) none
  obtain ⟨⟨k0, k1, k2, k3, k4, k5, k6⟩, -⟩ := box7 (blk0 w (.cells #[.int .i64 e1, .string e2, .bool e3, .slice p1 n1 c1, .slice p2 n2 c2, .slice p3 n3 c3, .int .i64 e7] 30 (0, 0)))
  generalize topE e1 s e2.data.toList n3 R = te at *
  by_cases ht : te = 0
  · subst ht
    have hlen : n3 = (prm e1).length := HZ.out rfl
    rw [if_pos rfl] at hx
    have HXX := hid hx
    clear hx
    generalize (prm e1) = pl at *
    subst hlen
    clear HZ
    go_enter Tryd.func11, Tryd.ntmps11
    go_upto_region 1 with fail
    generalize (w.alloc _) = w0 at *
    go_wp2_with (first | (go_at_call 14; refine (HT.out _ hW).mono ?_; rintro e w1 ⟨rfl, hg⟩; replace hW := grown_trans hW hg; replace k0 := hg.cell k0 (by simp); replace k1 := hg.cell k1 (by simp); replace k2 := hg.cell k2 (by simp); replace k3 := hg.cell k3 (by simp); replace k4 := hg.cell k4 (by simp); replace k5 := hg.cell k5 (by simp); replace k6 := hg.cell k6 (by simp); clear hg) | (go_at_call 15; (with_reducible refine (HP.out _).mono ?_); rintro e w2 ⟨pp, nn, cc, rfl, hfr, hrd, hg⟩; obtain rfl := hrd.len; replace hW := grown_trans hW hg; replace k0 := hg.cell k0 (by simp); replace k1 := hg.cell k1 (by simp); replace k2 := hg.cell k2 (by simp); replace k3 := hg.cell k3 (by simp); replace k4 := hg.cell k4 (by simp); replace k5 := hg.cell k5 (by simp); replace k6 := hg.cell k6 (by simp); have HRD := hid hrd; have hcc := hrd.cap; have hcm := hrd.max; clear hg hrd hfr))
    have HW2 := hid hW
    have K0 := hid k0
    have K5 := hid k5
    clear HT HP k1 k2 k3 k4 k6 k0 k5 hW
    go_loopw [19] (fun y wr => ∃ k : Nat, k ≤ pl.length ∧ y = .int .i64 k ∧ w2.grownBy wr none ∧ Hid (scan X k (pl.length - k) = x)) (fun y _ => pl.length - (intOf y).toNat)
    case atStart => exact ⟨0, Nat.zero_le _, rfl, grown_refl _ _, hid HXX.out.symm⟩
    case round =>
      clear HXX
      obtain ⟨k, hk, rfl, hg, hsc⟩ := hrel
      by_cases hlt : k < pl.length
      · have hgw := grown_trans HW2.out hg
        have k5 := hg.cell K5.out (by simp)
        obtain ⟨bP, oP, rfl, cP⟩ := HRD.out.cel k hlt
        replace cP := hg.cell cP (by simp)
        obtain ⟨bA, oA, x1, x2, x3, q1, m1, d1, q2, m2, d2, q3, m3, d3, x7, rfl, hck, a0, a1, a2, a3, a4, a5, a6⟩ := HCC.out k hlt
        replace a0 := hgw.cell a0 (by simp); replace a1 := hgw.cell a1 (by simp); replace a2 := hgw.cell a2 (by simp); replace a3 := hgw.cell a3 (by simp); replace a4 := hgw.cell a4 (by simp); replace a5 := hgw.cell a5 (by simp); replace a6 := hgw.cell a6 (by simp)
        have HC := hid (HX.out k hlt hlt wr hgw)
        rw [hck] at HC
        rw [scan_step hlt] at hsc
        clear hck
        generalize X k = v at *
        by_cases hv : v = 0
        · subst hv
          rw [if_pos rfl] at hsc
          go_wp2_with (go_at_call 11; refine HC.out.mono ?_; rintro e w3 ⟨rfl, hg3⟩)
          exact ⟨⟨k + 1, by omega, by go_num, grown_trans hg hg3, hsc⟩, by simp [intOf]; omega⟩
        · rw [if_neg hv] at hsc
          obtain rfl := hsc.out
          go_wp2_with (go_at_call 11; refine HC.out.mono ?_; rintro e w3 ⟨rfl, hg3⟩)
          go_ret
          exact ⟨rfl, grown_trans hgw hg3⟩
      · obtain rfl : k = pl.length := by omega
        obtain rfl : x = 0 := by
          have := hsc.out
          rw [Nat.sub_self] at this
          exact this.symm
        go_wp2_with fail
        go_ret
        exact ⟨rfl, grown_trans HW2.out hg⟩
  · rw [if_neg ht] at hx
    obtain rfl := hx
    go_enter Tryd.func11, Tryd.ntmps11
    go_upto_region 1 with fail
    generalize (w.alloc _) = w0 at *
    go_wp2_with (go_at_call 14; refine (HT.out _ hW).mono ?_; rintro e w1 ⟨rfl, hg⟩; replace hW := grown_trans hW hg; clear hg)
    go_ret
    exact ⟨rfl, hW⟩
end Go.Proofs.YtbioamglnndofaaDoor

set_option linter.unusedVariables false
set_option linter.unusedSimpArgs false
namespace Go.Proofs.YtbioamglnndofaaDoor
open Go.RowKit _root_.Nm Ax Lx

end Go.Proofs.YtbioamglnndofaaDoor

set_option linter.unusedVariables false
set_option linter.unusedSimpArgs false
namespace Go.Proofs.YtbioamglnndofaaDoor
open Go.RowKit _root_.Nm Ax Lx
/-- the cells of an argument -/
def ArgAt (w : World) (p3 : Option Addr) (i : Nat) (cs : List Value) : Prop := ∃ b o x1 x2 x3 q1 m1 d1 q2 m2 d2 q3 m3 d3 x7, p3 = some ⟨b, o, none⟩ ∧ cs = [.int .i64 x1, .string x2, .bool x3, .slice q1 m1 d1, .slice q2 m2 d2, .slice q3 m3 d3, .int .i64 x7] ∧
      w.cell? ⟨b, o + i * 7, none⟩ = some (.int .i64 x1) ∧ w.cell? ⟨b, o + i * 7 + 1, none⟩ = some (.string x2) ∧ w.cell? ⟨b, o + i * 7 + 2, none⟩ = some (.bool x3) ∧ w.cell? ⟨b, o + i * 7 + 3, none⟩ = some (.slice q1 m1 d1) ∧ w.cell? ⟨b, o + i * 7 + 4, none⟩ = some (.slice q2 m2 d2) ∧ w.cell? ⟨b, o + i * 7 + 5, none⟩ = some (.slice q3 m3 d3) ∧ w.cell? ⟨b, o + i * 7 + 6, none⟩ = some (.int .i64 x7)
theorem ArgAt.keep {w w' : World} {p3 : Option Addr} {i : Nat} {cs : List Value} (h : ArgAt w p3 i cs) (hg : w.grownBy w' none) : ArgAt w' p3 i cs := by
  obtain ⟨b, o, x1, x2, x3, q1, m1, d1, q2, m2, d2, q3, m3, d3, x7, h1, h2, a0, a1, a2, a3, a4, a5, a6⟩ := h
  exact ⟨b, o, x1, x2, x3, q1, m1, d1, q2, m2, d2, q3, m3, d3, x7, h1, h2, hg.cell a0 (by simp), hg.cell a1 (by simp), hg.cell a2 (by simp), hg.cell a3 (by simp), hg.cell a4 (by simp), hg.cell a5 (by simp), hg.cell a6 (by simp)⟩
end Go.Proofs.YtbioamglnndofaaDoor
