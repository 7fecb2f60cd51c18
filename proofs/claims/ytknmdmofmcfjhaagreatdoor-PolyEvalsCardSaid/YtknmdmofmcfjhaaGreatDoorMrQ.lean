/-
  PlF PlG PlH PlI PlN PlJ PlK, in one text.
-/
import Derived.Test.YtknmdmofmcfjhaaGreatDoorMrP
import Derived.Test.YtknmdmofmcfjhaaGreatDoorMrM
import Derived.Test.YtknmdmofmcfjhaaGreatDoorPolC
import Derived.Laws.EntriesVeiled
import Derived.Test.YtknmdmofmcfjhaaGreatDoorMrR

set_option linter.unusedVariables false
set_option linter.unusedSimpArgs false
namespace Go.Proofs.YtknmdmofmcfjhaaGreatDoor
open Go Go.RowKit _root_.Nm
theorem one_or {v : Rat} (h : v * v = 1) : v = 1 ∨ v = -1 := by
  have : (v - 1) * (v + 1) = 0 := by grind
  rcases Rat.mul_eq_zero.1 this with h | h
  · left; grind
  · right; grind
theorem IsV.sgn {w : World} {g : Bool} {p q : Option Addr} {n c m d : Nat} {u v : Rat} (h : IsV w g p n c q m d u) (hu : u ≠ 0) (hv : v = 1 ∨ v = -1) {g1 : Bool} (h1 : g1 = decide (v.num < 0)) : IsV w (!(g == g1)) p n c q m d (v * u) := by
  rcases hv with rfl | rfl
  · have : g1 = false := by rw [h1]; rfl
    rw [this, Rat.one_mul]
    cases g <;> exact h
  · have : g1 = true := by rw [h1]; rfl
    rw [this, show (-1 : Rat) * u = -u by grind]
    cases g <;> exact h.opp hu
theorem stay_ratr {w w' : World} {g1 : Bool} {p1 q1 : Option Addr} {n1 c1 m1 d1 : Nat} {v : Rat} (h : IsV w g1 p1 n1 c1 q1 m1 d1 v) {G : Nat} (hg : w.grownBy w' (some G)) {g : Bool} {p : Option Addr} {n c : Nat} {q : Option Addr} {m d : Nat} {T : TypeId} (hb : w.heap[G]? = some (.cells #[.bool g, .slice p n c, .slice q m d] T (0, 0))) : IsV w' g1 p1 n1 c1 q1 m1 d1 v := by
  obtain ⟨⟨h1, h2⟩, h3⟩ := h
  have hno : ∀ v ∈ #[Value.bool g, .slice p n c, .slice q m d], ∀ x, v ≠ .int .u16 x := by simp
  have hS : ∀ G' O, w.heap[G']? = some O → ¬ G' = G → w'.heap[G']? = some O := fun G' O hG' hne => (hg.block G' (lt_of_block hG') (by simpa using hne)).trans hG'
  exact ⟨⟨Stay.ird (S := fun x => x = G) h1 (fun x hx hm e => h1.notIn hb hno x hx hm e) w' hS, h2⟩, Stay.ird (S := fun x => x = G) h3 (fun x hx hm e => h3.notIn hb hno x hx hm e) w' hS⟩
theorem set3_all {w : World} {G : Nat} {x y z : Value} {T : TypeId} (hb : w.heap[G]? = some (.cells #[x, y, z] T (0, 0))) (a b c : Value) :
    (((w.setCell ⟨G, 0, none⟩ a).setCell ⟨G, 1, none⟩ b).setCell ⟨G, 2, none⟩ c).heap[G]? = some (.cells #[a, b, c] T (0, 0)) := by
  have t1 := heap_setCell_same w G 0 _ _ a hb
  have t2 := heap_setCell_same _ G 1 _ _ b t1
  have t3 := heap_setCell_same _ G 2 _ _ c t2
  simpa using t3
set_option maxHeartbeats 8000000 in
set_option maxRecDepth 100000 in
theorem scal1_v (S : Nat) {w : World} (T : Tb w) {g1 : Bool} {p1 q1 : Option Addr} {n1 c1 m1 d1 : Nat} {g2 : Bool} {p2 q2 : Option Addr} {n2 c2 m2 d2 : Nat} {v u : Rat} (hA : IsV w g1 p1 n1 c1 q1 m1 d1 v) (hB : IsV w g2 p2 n2 c2 q2 m2 d2 u) (hn1 : n1 ≤ S) (hm1 : m1 ≤ S) (hn2 : n2 ≤ S) (hm2 : m2 ≤ S) (hS : S ≤ 60000) {b : Nat} (hb : w.heap[b]? = some (.cells #[.bool g1, .slice p1 n1 c1, .slice q1 m1 d1] 29 (0, 0))) :
    Calls Tryz.prog 193 #[.agg #[.bool g2, .slice p2 n2 c2, .slice q2 m2 d2], .pointer (some ⟨b, 0, none⟩)] w fun e w' => ∃ g3 p3 n3 c3 q3 m3 d3, e = .returned (.agg #[.bool g3, .slice p3 n3 c3, .slice q3 m3 d3]) ∧ IsV w' g3 p3 n3 c3 q3 m3 d3 (v * u) ∧ w.grownBy w' none := by
  have HM := hid fun W (hg : w.grownBy W none) => ratMul_v S (T.keep hg) (hA.keep hg).q (hB.keep hg).q hn1 hm1 hn2 hm2 (by omega)
  unfold VPost at HM
  have gA := World.grownBy_alloc w (.cells #[.bool g2, .slice p2 n2 c2, .slice q2 m2 d2] 29 (0, 0)) none
  have gB := World.grownBy_alloc (w.alloc (.cells #[.bool g2, .slice p2 n2 c2, .slice q2 m2 d2] 29 (0, 0))) (.cells #[.bool false, .slice none 0 0, .slice none 0 0] 29 (0, 0)) none
  have BX := hid (keepB (blk0 w (.cells #[.bool g2, .slice p2 n2 c2, .slice q2 m2 d2] 29 (0, 0))) gB)
  have hsz : (w.alloc (.cells #[.bool g2, .slice p2 n2 c2, .slice q2 m2 d2] 29 (0, 0))).heap.size = w.heap.size + 1 := by simp
  have BR := blk0 (w.alloc (.cells #[.bool g2, .slice p2 n2 c2, .slice q2 m2 d2] 29 (0, 0))) (.cells #[.bool false, .slice none 0 0, .slice none 0 0] 29 (0, 0))
  rw [hsz] at BR
  replace BR := hid BR
  have BA := hid (keepB (keepB hb gA) gB)
  have hbw := lt_of_block hb
  have hW := grown_trans gA gB
  obtain ⟨pr, hpr⟩ : ∃ x, x = v * u := ⟨_, rfl⟩
  rw [← hpr] at HM ⊢
  clear T hA hB gA gB hsz hpr hb
  go_enter Tryz.func193, Tryz.ntmps193
  go_upto_region 1 with fail
  generalize ((w.alloc _).alloc _) = w0 at *
  obtain ⟨k0, k1, k2⟩ := box3p BX.out
  obtain ⟨j0, j1, j2⟩ := box3p BA.out
  have hs0 : w.heap.size + 1 < w0.heap.size := lt_of_block BR.out
  obtain ⟨b2, hb2⟩ : ∃ x, x = w.heap.size + 1 := ⟨_, rfl⟩
  have hb2w : w.heap.size ≤ b2 := by omega
  rw [← hb2] at BR ⊢
  clear hb2
  go_wp2_with (go_at_call 51; (with_reducible refine (HM.out _ hW).mono ?_); rintro e w1 ⟨g3, p3, n3, c3, q3, m3, d3, rfl, hV3, hn3, hm3, hg⟩; have HV3 := hid hV3; replace hW := grown_trans hW hg; replace BR := hid (keepB BR.out hg); have zf := fun o => frozen_of_row w1 b2 o _ _ BR.out; have f0 := zf 0; have f1 := zf 1; have f2 := zf 2; obtain ⟨z0, z1, z2⟩ := box3p BR.out; clear zf hg hV3 k0 k1 k2 j0 j1 j2)
  have gS := set3_grown w1 b2 (.bool g3) (.slice p3 n3 c3) (.slice q3 m3 d3)
  have hB3 := set3_all BR.out (.bool g3) (.slice p3 n3 c3) (.slice q3 m3 d3)
  have hV3 := stay_ratr HV3.out gS BR.out
  have hG := grown_new hW gS (fun g e => by cases e; exact hb2w)
  clear gS BR HV3 hW f0 f1 f2 z0 z1 z2
  generalize ((w1.setCell _ _).setCell _ _).setCell _ _ = w3 at *
  obtain ⟨c0, c1', c2'⟩ := box3p hB3
  exact bodyPost_ret (v := .agg #[.bool g3, .slice p3 n3 c3, .slice q3 m3 d3]) (by simp [results, Tryz.results193, go_sem, c0, c1', c2']) rfl ⟨g3, p3, n3, c3, q3, m3, d3, rfl, hV3, hG⟩
set_option maxHeartbeats 8000000 in
set_option maxRecDepth 100000 in
theorem scal2_v {w : World} {g1 : Bool} {p1 q1 : Option Addr} {n1 c1 m1 d1 : Nat} {g2 : Bool} {p2 q2 : Option Addr} {n2 c2 m2 d2 : Nat} {v u : Rat} (hA : IsV w g1 p1 n1 c1 q1 m1 d1 v) (hB : IsV w g2 p2 n2 c2 q2 m2 d2 u) (hv : v = 1 ∨ v = -1) (hu : u ≠ 0) {b : Nat} (hb : w.heap[b]? = some (.cells #[.bool g1, .slice p1 n1 c1, .slice q1 m1 d1] 29 (0, 0))) :
    Calls Tryz.prog 194 #[.agg #[.bool g2, .slice p2 n2 c2, .slice q2 m2 d2], .pointer (some ⟨b, 0, none⟩)] w fun e w' => ∃ g3 p3 n3 c3 q3 m3 d3, e = .returned (.agg #[.bool g3, .slice p3 n3 c3, .slice q3 m3 d3]) ∧ IsV w' g3 p3 n3 c3 q3 m3 d3 (v * u) ∧ w.grownBy w' none := by
  have hV := hB.sgn hu hv hA.1.2
  have gA := World.grownBy_alloc w (.cells #[.bool g2, .slice p2 n2 c2, .slice q2 m2 d2] 29 (0, 0)) none
  have gB := World.grownBy_alloc (w.alloc (.cells #[.bool g2, .slice p2 n2 c2, .slice q2 m2 d2] 29 (0, 0))) (.cells #[.bool false, .slice none 0 0, .slice none 0 0] 29 (0, 0)) none
  have BX := hid (keepB (blk0 w (.cells #[.bool g2, .slice p2 n2 c2, .slice q2 m2 d2] 29 (0, 0))) gB)
  have hsz : (w.alloc (.cells #[.bool g2, .slice p2 n2 c2, .slice q2 m2 d2] 29 (0, 0))).heap.size = w.heap.size + 1 := by simp
  have BR := blk0 (w.alloc (.cells #[.bool g2, .slice p2 n2 c2, .slice q2 m2 d2] 29 (0, 0))) (.cells #[.bool false, .slice none 0 0, .slice none 0 0] 29 (0, 0))
  rw [hsz] at BR
  replace BR := hid BR
  have BA := hid (keepB (keepB hb gA) gB)
  have hbw := lt_of_block hb
  have hW := grown_trans gA gB
  replace hV := hV.keep hW
  have HV := hid hV
  have fA := frozen_of_row _ w.heap.size 0 _ _ BX.out
  have HW := hid hW
  obtain ⟨k0, k1, k2⟩ := box3p BX.out
  obtain ⟨j0, j1, j2⟩ := box3p BA.out
  clear hA hB gA gB hb hV hW hv hu
  go_enter Tryz.func194, Tryz.ntmps194
  go_upto_region 1 with fail
  have hs0 := lt_of_block BR.out
  generalize ((w.alloc _).alloc _) = w0 at *
  obtain ⟨b2, hb2⟩ : ∃ x, x = w.heap.size + 1 := ⟨_, rfl⟩
  have hb2w : w.heap.size ≤ b2 := by omega
  have hne : w.heap.size ≠ b2 := by omega
  rw [← hb2] at BR ⊢
  clear hb2
  obtain ⟨b1, hb1⟩ : ∃ x, x = w.heap.size := ⟨_, rfl⟩
  rw [← hb1] at BX fA k0 k1 k2 hne ⊢
  have hb1w : w.heap.size ≤ b1 := by omega
  clear hb1
  go_upto_region 2 with fail
  have gS := grown_setCell w0 ⟨b1, 0, none⟩ (.bool (!(g2 == g1)))
  have BX2 := hid (heap_setCell_same w0 b1 0 _ _ (.bool (!(g2 == g1))) BX.out)
  have BR2 := hid ((gS.block b2 (lt_of_block BR.out) (by simpa using Ne.symm hne)).trans BR.out)
  have HV2 := hid (stay_ratr HV.out gS BX.out)
  have HW2 := hid (grown_new HW.out gS (fun g e => by cases e; exact hb1w))
  clear gS BX BR HV HW BA k0 k1 k2 j0 j1 j2 fA
  generalize w0.setCell _ _ = w1 at *
  have BX3 : Hid (w1.heap[b1]? = some (.cells #[.bool (!(g2 == g1)), .slice p2 n2 c2, .slice q2 m2 d2] 29 (0, 0))) := BX2
  generalize (!(g2 == g1)) = g3 at *
  obtain ⟨k0, k1, k2⟩ := box3p BX3.out
  obtain ⟨z0, z1, z2⟩ := box3p BR2.out
  have f0 := frozen_of_row w1 b2 0 _ _ BR2.out
  have f1 := frozen_of_row w1 b2 1 _ _ BR2.out
  have f2 := frozen_of_row w1 b2 2 _ _ BR2.out
  go_wp2_with fail
  have gS := set3_grown w1 b2 (.bool g3) (.slice p2 n2 c2) (.slice q2 m2 d2)
  have hB3 := set3_all BR2.out (.bool g3) (.slice p2 n2 c2) (.slice q2 m2 d2)
  have hV3 := stay_ratr HV2.out gS BR2.out
  have hG := grown_new HW2.out gS (fun g e => by cases e; exact hb2w)
  clear gS f0 f1 f2 z0 z1 z2 k0 k1 k2
  generalize ((w1.setCell _ _).setCell _ _).setCell _ _ = w3 at *
  obtain ⟨c0, c1', c2'⟩ := box3p hB3
  exact bodyPost_ret (v := .agg #[.bool g3, .slice p2 n2 c2, .slice q2 m2 d2]) (by simp [results, Tryz.results194, go_sem, c0, c1', c2']) rfl ⟨g3, p2, n2, c2, q2, m2, d2, rfl, hV3, hG⟩
set_option maxHeartbeats 8000000 in
set_option maxRecDepth 100000 in
theorem scaling_v (S : Nat) {w : World} (T : Tb w) {g1 : Bool} {p1 q1 : Option Addr} {n1 c1 m1 d1 : Nat} {v : Rat} (hA : IsV w g1 p1 n1 c1 q1 m1 d1 v) (hn1 : n1 ≤ S) (hm1 : m1 ≤ S) (hS : S ≤ 9000) :
    Calls Tryz.prog 171 #[.agg #[.bool g1, .slice p1 n1 c1, .slice q1 m1 d1]] w fun e w' => ∃ (b F : Nat), e = .returned (.func (.func F) #[] #[.pointer (some ⟨b, 0, none⟩)]) ∧ w'.heap[b]? = some (.cells #[.bool g1, .slice p1 n1 c1, .slice q1 m1 d1] 29 (0, 0)) ∧ w.heap.size ≤ b ∧ (F = 193 ∨ F = 194 ∧ (v = 1 ∨ v = -1)) ∧ w.grownBy w' none := by
  have gA := World.grownBy_alloc w (.cells #[.bool g1, .slice p1 n1 c1, .slice q1 m1 d1] 29 (0, 0)) none
  have BX := hid (blk0 w (.cells #[.bool g1, .slice p1 n1 c1, .slice q1 m1 d1] 29 (0, 0)))
  have HM := hid fun W (hg : w.grownBy W none) => ratMul_v S (T.keep hg) (hA.keep hg).q (hA.keep hg).q hn1 hm1 hn1 hm1 (by omega)
  unfold VPost at HM
  obtain ⟨pr, hpr⟩ : ∃ x, x = v * v := ⟨_, rfl⟩
  obtain ⟨on, hon⟩ : ∃ x : Rat, x = ((1 : Int) : Rat) := ⟨_, rfl⟩
  rw [← hpr] at HM
  have HO := hid fun W => ratOf_v 1 W (by omega) (by omega)
  unfold VPost at HO
  rw [← hon] at HO
  have HE := hid fun W g p n c q m d g' p' n' c' q' m' d' (h : IsV W g p n c q m d pr) (k : IsV W g' p' n' c' q' m' d' on) (h1 : n ≤ 4 * S + 20) (h2 : m ≤ 4 * S + 20) (h3 : n' ≤ 4) (h4 : m' ≤ 4) => ratEqual_v (4 * S + 20) h.q k.q h1 h2 (by omega) (by omega) (by omega)
  obtain ⟨bq, hbq⟩ : ∃ x, x = decide (pr = on) := ⟨_, rfl⟩
  rw [← hbq] at HE
  have HQ := hid (show bq = true → v = 1 ∨ v = -1 from fun h => one_or (by rw [hbq] at h; have := of_decide_eq_true h; rw [← hpr, this, hon]; rfl))
  clear T hA hpr hon hbq
  go_enter Tryz.func171, Tryz.ntmps171
  go_upto_region 1 with fail
  have hgw : w.heap.size ≤ w.heap.size := Nat.le_refl _
  obtain ⟨b, hb⟩ : ∃ x, x = w.heap.size := ⟨_, rfl⟩
  have hbw : w.heap.size ≤ b := by omega
  rw [← hb] at BX ⊢
  clear hb hgw
  generalize w.alloc _ = w0 at *
  have HW := hid gA
  clear gA
  obtain ⟨k0, k1, k2⟩ := box3p BX.out
  cases bq
  all_goals
    go_wp2_with (first
      | (go_at_call 51; (with_reducible refine (HM.out _ HW.out).mono ?_); rintro e w1 ⟨g3, p3, n3, c3, q3, m3, d3, rfl, hV3, hn3, hm3, hg⟩; have HV3 := hid hV3; replace HW := hid (grown_trans HW.out hg); replace BX := hid (keepB BX.out hg); clear hg hV3 k0 k1 k2)
      | (go_at_call 91; (with_reducible refine (HO.out _).mono ?_); rintro e w2 ⟨g4, p4, n4, c4, q4, m4, d4, rfl, hV4, hn4, hm4, hg⟩; have HV4 := hid hV4; replace HV3 := hid (HV3.out.keep hg); replace HW := hid (grown_trans HW.out hg); replace BX := hid (keepB BX.out hg); clear hg hV4)
      | (go_at_call 49; (with_reducible refine (HE.out _ _ _ _ _ _ _ _ _ _ _ _ _ _ _ HV3.out HV4.out hn3 hm3 hn4 hm4).mono ?_); rintro e w3 ⟨rfl, hg⟩; replace HW := hid (grown_trans HW.out hg); replace BX := hid (keepB BX.out hg); clear hg))
    go_ret
  · exact ⟨b, _, rfl, BX.out, hbw, .inl rfl, HW.out⟩
  · exact ⟨b, _, rfl, BX.out, hbw, .inr ⟨rfl, HQ.out trivial⟩, HW.out⟩
end Go.Proofs.YtknmdmofmcfjhaaGreatDoor

set_option linter.unusedVariables false
set_option linter.unusedSimpArgs false
namespace Go.Proofs.YtknmdmofmcfjhaaGreatDoor
open Go Go.RowKit _root_.Nm
theorem scal_v (H : Nat) {w : World} (T : Tb w) {g1 : Bool} {p1 q1 : Option Addr} {n1 c1 m1 d1 : Nat} {g2 : Bool} {p2 q2 : Option Addr} {n2 c2 m2 d2 : Nat} {v u : Rat} (hA : IsV w g1 p1 n1 c1 q1 m1 d1 v) (hB : IsV w g2 p2 n2 c2 q2 m2 d2 u) (hH : H ≤ 9000) (bA : Bd H v) (bB : Bd H u) (hu : u ≠ 0) {b F : Nat} (hF : F = 193 ∨ F = 194 ∧ (v = 1 ∨ v = -1)) (hb : w.heap[b]? = some (.cells #[.bool g1, .slice p1 n1 c1, .slice q1 m1 d1] 29 (0, 0))) :
    Calls Tryz.prog F #[.agg #[.bool g2, .slice p2 n2 c2, .slice q2 m2 d2], .pointer (some ⟨b, 0, none⟩)] w fun e w' => ∃ g3 p3 n3 c3 q3 m3 d3, e = .returned (.agg #[.bool g3, .slice p3 n3 c3, .slice q3 m3 d3]) ∧ IsV w' g3 p3 n3 c3 q3 m3 d3 (v * u) ∧ w.grownBy w' none := by
  rcases hF with rfl | ⟨rfl, hv⟩
  · exact scal1_v H T hA hB (hA.lens bA).1 (hA.lens bA).2 (hB.lens bB).1 (hB.lens bB).2 (by omega) hb
  · exact scal2_v hA hB hv hu hb
theorem mulM_v (a b : Option Addr) (n m c d : Nat) (xs ys : List Int) (w : World) (h : ZRd w .i64 a n c xs) (k : ZRd w .i64 b m d ys) {B : Int} (hx : RightZ B xs) (hy : RightZ B ys) (hB : 0 ≤ B ∧ B ≤ 4294967296) :
    Calls Tryz.prog 172 #[.slice a n c, .slice b m d] w fun e w' => ∃ p c, e = .returned (.slice p (mulM xs ys).length c) ∧ ZRd w' .i64 p (mulM xs ys).length c (mulM xs ys) ∧ w.grownBy w' none :=
  mul_any a b n m c d xs ys w h k hx hy ⟨hB.1, by omega⟩ ⟨hB.1, by omega⟩
set_option maxHeartbeats 16000000 in
set_option maxRecDepth 100000 in
theorem row_v (H : Nat) (B : Int) {w : World} (T : Tb w) {g1 : Bool} {p1 q1 : Option Addr} {n1 c1 m1 d1 : Nat} {a1 : Option Addr} {k1 e1 : Nat} {v : Rat} {xs : List Int} {p : Option Addr} {n c : Nat} {P : List Tm} (hV : IsV w g1 p1 n1 c1 q1 m1 d1 v) (hX : ZRd w .i64 a1 k1 e1 xs) (hP : IsP w p n c P) (hH : H ≤ 9000) (bV : Bd H v) (bP : BdP H P) (eX : RightZ B xs) (eP : ExP B P) (hB : 0 ≤ B ∧ B ≤ 4294967296) (hz : ∀ t ∈ P, t.2 ≠ 0) (hn : n ≤ 1000000) :
    Calls Tryz.prog 142 #[.agg #[.bool g1, .slice p1 n1 c1, .slice q1 m1 d1, .slice a1 k1 e1], .slice p n c] w (PPost w (mulT (xs, v) P)) := by
  have hl := hP.len
  have hc := hP.cap
  have hmx := hP.max
  have HP := hid hP; have HB := hid bP; have HE := hid eP; have HZ := hid hz
  have HL := hid hl
  have hmk := run_make_tms n (by omega)
  have hlen := hV.lens bV
  have HSC := hid fun W (hg : w.grownBy W none) => scaling_v H (T.keep hg) (hV.keep hg) hlen.1 hlen.2 hH
  have HV := hid hV; have HX := hid hX; have HT := hid T; have HBV := hid bV; have HEX := hid eX
  have gA := World.grownBy_alloc w (.cells #[.bool g1, .slice p1 n1 c1, .slice q1 m1 d1, .slice a1 k1 e1] 33 (0, 0)) none
  have BT := hid (blk0 w (.cells #[.bool g1, .slice p1 n1 c1, .slice q1 m1 d1, .slice a1 k1 e1] 33 (0, 0)))
  clear hV hX hP T bV bP eX eP hz hlen hl
  go_enter Tryz.func142, Tryz.ntmps142
  go_upto_region 1 with fail
  have hbt0 := lt_of_block BT.out
  obtain ⟨bt, hbt⟩ : ∃ x, x = w.heap.size := ⟨_, rfl⟩
  have hbtw : w.heap.size ≤ bt := by omega
  rw [← hbt] at BT hbt0 ⊢
  clear hbt
  have HW := hid gA
  clear gA
  generalize w.alloc _ = w0 at *
  go_upto_region 2 with fail
  have HQ0 := hid (made_q w0 n w0.heap.size (Nat.le_refl _) (by omega))
  have gB := World.grownBy_alloc w0 (.cells (madeCells #[.bool false, .slice none 0 0, .slice none 0 0, .slice none 0 0] (n * 4)) 33) none
  replace BT := hid (keepB BT.out gB)
  replace HW := hid (grown_trans HW.out gB)
  have hw0 : w0.heap.size < (w0.alloc (.cells (madeCells #[.bool false, .slice none 0 0, .slice none 0 0, .slice none 0 0] (n * 4)) 33)).heap.size := by simp
  obtain ⟨g, hg⟩ : ∃ g, g = w0.heap.size := ⟨_, rfl⟩
  have hbtg : bt < g := by omega
  have hgw : w.heap.size ≤ g := by omega
  rw [← hg] at HQ0 hw0 ⊢
  clear hg gB hbt0
  generalize w0.alloc _ = w1 at *
  obtain ⟨k0, k1', k2', k3'⟩ := box4p BT.out
  go_wp2_with (go_at_call 171; (with_reducible refine (HSC.out _ HW.out).mono ?_); rintro e w2 ⟨b, F, rfl, hFB, hbw, hF, hg⟩; have FB := hid hFB; have HF := hid hF; have hgb : g < b := (by omega); replace HW := hid (grown_trans HW.out hg); replace BT := hid (keepB BT.out hg); replace HQ0 := hid (HQ0.out.keep hg); clear hFB hF hg hbw k0 k1' k2' k3')
  clear HSC hw0
  rcases HF.out with rfl | ⟨rfl, -⟩
  all_goals
    go_loopw [17] (fun x wr => ∃ (i : Nat) (rows : List (List Value)), i ≤ n ∧ x = .int .i64 i ∧ Hid (w.grownBy wr none) ∧ Hid (QOwn wr g 33 4 (some ⟨g, 0, none⟩) i n rows) ∧ Hid (RwS wr (some ⟨g, 0, none⟩) rows ((mulT (xs, v) P).take i)) ∧ Hid (wr.heap[bt]? = some (.cells #[.bool g1, .slice p1 n1 c1, .slice q1 m1 d1, .slice a1 k1 e1] 33 (0, 0))) ∧ Hid (wr.heap[b]? = some (.cells #[.bool g1, .slice p1 n1 c1, .slice q1 m1 d1] 29 (0, 0)))) (fun x _ => n - (intOf x).toNat)
    case atStart => exact ⟨0, [], Nat.zero_le _, rfl, HW, hid (by have := HQ0.out; exact ⟨this.len, this.each, this.cap, by first | exact this.own | (rcases this.own with h | ⟨g', cur, h1, h2, h3⟩; exact .inl h; exact .inr ⟨g', cur, h1, by omega, h3⟩)⟩), hid (by simpa using RwS.nil _ _), BT, FB⟩
    case round =>
      clear HQ0 HW BT FB
      obtain ⟨i, rows, hi, rfl, HG, HQ, HR, BT, FB⟩ := hrel
      have HNL : Hid ((mulT (xs, v) P).length = n) := hid (by unfold mulT; rw [List.length_map]; exact HL.out)
      by_cases hlt : i < n
      · have hil : i < P.length := by have := HL.out; omega
        obtain ⟨bp, op, g2, p2, n2, c2, q2, m2, d2, a2, k2, e2, rfl, ⟨x0, x1, x2, x3⟩, hU, hY⟩ := ((HP.out.keep HG.out).tms i hil).out
        have HTK := hid (take_snoc (mulT (xs, v) P) i (by have := HNL.out; omega))
        have hng : (mulT (xs, v) P)[i]'(by have := HNL.out; omega) = (mulM xs P[i].1, v * P[i].2) := by simp [mulT]
        rw [hng] at HTK
        have hun := HZ.out _ (List.getElem_mem hil)
        have hbu := HB.out.at hil
        have hey := HE.out.at hil
        obtain ⟨t, ht⟩ : ∃ t, t = P[i] := ⟨_, rfl⟩
        rw [← ht] at HTK hU hY hun hbu hey
        obtain ⟨ys, u⟩ := t
        dsimp only at HTK hU hY hun hbu hey
        have gU := World.grownBy_alloc wr (.cells #[.bool g2, .slice p2 n2 c2, .slice q2 m2 d2, .slice a2 k2 e2] 33 (0, 0)) none
        have HCS := hid fun W (hg : (wr.alloc (.cells #[.bool g2, .slice p2 n2 c2, .slice q2 m2 d2, .slice a2 k2 e2] 33 (0, 0))).grownBy W none) => scal_v H (HT.out.keep (grown_trans (grown_trans HG.out gU) hg)) (HV.out.keep (grown_trans (grown_trans HG.out gU) hg)) (hU.keep (grown_trans gU hg)) hH HBV.out hbu hun HF.out (keepB (keepB FB.out gU) hg)
        have HCM := hid fun W (hg : (wr.alloc (.cells #[.bool g2, .slice p2 n2 c2, .slice q2 m2 d2, .slice a2 k2 e2] 33 (0, 0))).grownBy W none) => mulM_v a1 a2 k1 k2 e1 e2 xs ys W (HX.out.keep (grown_trans (grown_trans HG.out gU) hg)) (hY.keep (grown_trans gU hg)) HEX.out hey hB
        obtain ⟨zs, hzs⟩ : ∃ z, z = mulM xs ys := ⟨_, rfl⟩
        obtain ⟨pr, hpr⟩ : ∃ z, z = v * u := ⟨_, rfl⟩
        rw [← hzs] at HCM HTK
        rw [← hpr] at HCS HTK
        have BU := hid (blk0 wr (.cells #[.bool g2, .slice p2 n2 c2, .slice q2 m2 d2, .slice a2 k2 e2] 33 (0, 0)))
        obtain ⟨i0, i1, i2, i3⟩ := box4p (blk0 wr (.cells #[.bool false, .slice none 0 0, .slice none 0 0, .slice none 0 0] 33 (0, 0)))
        have fa := fun o => frozen_of_row (wr.alloc (.cells #[.bool false, .slice none 0 0, .slice none 0 0, .slice none 0 0] 33 (0, 0))) wr.heap.size o _ _ (blk0 wr (.cells #[.bool false, .slice none 0 0, .slice none 0 0, .slice none 0 0] 33 (0, 0)))
        have f0 := fa 0; have f1 := fa 1; have f2 := fa 2; have f3 := fa 3
        have hgr := lt_of_block FB.out
        clear fa hU hY ht hng hun hbu hey hzs hpr
        go_upto_region 6 with fail
        clear i0 i1 i2 i3 f0 f1 f2 f3 x0 x1 x2 x3
        have HGU := hid gU
        clear gU
        replace HG := hid (grown_trans HG.out HGU.out)
        replace HQ := hid (HQ.out.keep HGU.out)
        replace HR := hid (HR.out.keep HGU.out)
        replace BT := hid (keepB BT.out HGU.out)
        replace FB := hid (keepB FB.out HGU.out)
        obtain ⟨bu, hbu⟩ : ∃ x, x = wr.heap.size := ⟨_, rfl⟩
        have hgbu : g < bu := by omega
        rw [← hbu] at BU ⊢
        clear hbu HGU hgr
        generalize wr.alloc _ = wu at *
        refine wp_region_noPanic ?_
        refine wp_region_held_drew (S := (fun W => W.heap[bt]? = some (.cells #[.bool g1, .slice p1 n1 c1, .slice q1 m1 d1, .slice a1 k1 e1] 33 (0, 0)) ∧ W.heap[bu]? = some (.cells #[.bool g2, .slice p2 n2 c2, .slice q2 m2 d2, .slice a2 k2 e2] 33 (0, 0)) ∧ W.heap[b]? = some (.cells #[.bool g1, .slice p1 n1 c1, .slice q1 m1 d1] 29 (0, 0)))) (by kernel_rfl) ?_ (fun hHeld => ?_)
        · (try dsimp only)
          exact ⟨keepB BT.out (grown_drew _ none), keepB BU.out (grown_drew _ none), keepB FB.out (grown_drew _ none)⟩
        have hgg := grown_drew wu none
        generalize wu.drew = wd at *
        refine wpAnyH_take (i := 0) (oi := Oper.mk _ _ _ _ _ _) (v := ?_) rfl (by kernel_rfl) (by kernel_rfl) (by kernel_rfl) (fun _ _ _ h => h) (Or.inl ⟨by kernel_rfl, ?_⟩) hHeld ?_
        rotate_left 1
        · intro W hSw
          (try dsimp only at hSw)
          obtain ⟨h0, h1, h2, h3⟩ := box4p hSw.1
          obtain ⟨j0, j1, j2, j3⟩ := box4p hSw.2.1
          go_simp
          (try (with_reducible rfl))
        (try simp only [Act.put, List.setIfInBounds_toArray, List.set_cons_zero, List.set_cons_succ])
        refine wpAnyH_take (i := 1) (oi := Oper.mk _ _ _ _ _ _) (v := ?_) rfl (by kernel_rfl) (by kernel_rfl) (by kernel_rfl) (fun _ _ _ h => h) (Or.inl ⟨by kernel_rfl, ?_⟩) hHeld ?_
        rotate_left 1
        · intro W hSw
          (try dsimp only at hSw)
          obtain ⟨h0, h1, h2, h3⟩ := box4p hSw.1
          obtain ⟨j0, j1, j2, j3⟩ := box4p hSw.2.1
          go_simp
          (try (with_reducible rfl))
        (try simp only [Act.put, List.setIfInBounds_toArray, List.set_cons_zero, List.set_cons_succ])
        refine wpAnyH_take (i := 2) (oi := Oper.mk _ _ _ _ _ _) (v := ?_) rfl (by kernel_rfl) (by kernel_rfl) (by kernel_rfl) (fun _ _ _ h => h) (Or.inl ⟨by kernel_rfl, ?_⟩) hHeld ?_
        rotate_left 1
        · intro W hSw
          (try dsimp only at hSw)
          obtain ⟨h0, h1, h2, h3⟩ := box4p hSw.1
          obtain ⟨j0, j1, j2, j3⟩ := box4p hSw.2.1
          go_simp
          (try (with_reducible rfl))
        (try simp only [Act.put, List.setIfInBounds_toArray, List.set_cons_zero, List.set_cons_succ])
        refine wpAnyH_take (i := 3) (oi := Oper.mk _ _ _ _ _ _) (v := ?_) rfl (by kernel_rfl) (by kernel_rfl) (by kernel_rfl) (fun _ _ _ h => h) (Or.inl ⟨by kernel_rfl, ?_⟩) hHeld ?_
        rotate_left 1
        · intro W hSw
          (try dsimp only at hSw)
          obtain ⟨h0, h1, h2, h3⟩ := box4p hSw.1
          obtain ⟨j0, j1, j2, j3⟩ := box4p hSw.2.1
          go_simp
          (try (with_reducible rfl))
        (try simp only [Act.put, List.setIfInBounds_toArray, List.set_cons_zero, List.set_cons_succ])
        refine wpAnyH_take (i := 4) (oi := Oper.mk _ _ _ _ _ _) (v := ?_) rfl (by kernel_rfl) (by kernel_rfl) (by kernel_rfl) (fun _ _ _ h => h) (Or.inl ⟨by kernel_rfl, ?_⟩) hHeld ?_
        rotate_left 1
        · intro W hSw
          (try dsimp only at hSw)
          obtain ⟨h0, h1, h2, h3⟩ := box4p hSw.1
          obtain ⟨j0, j1, j2, j3⟩ := box4p hSw.2.1
          go_simp
          (try (with_reducible rfl))
        (try simp only [Act.put, List.setIfInBounds_toArray, List.set_cons_zero, List.set_cons_succ])
        refine wpAnyH_take (i := 6) (oi := Oper.mk _ _ _ _ _ _) (v := ?_) rfl (by kernel_rfl) (by kernel_rfl) (by kernel_rfl) (fun _ _ _ h => h) (Or.inl ⟨by kernel_rfl, ?_⟩) hHeld ?_
        rotate_left 1
        · intro W hSw
          (try dsimp only at hSw)
          obtain ⟨h0, h1, h2, h3⟩ := box4p hSw.1
          obtain ⟨j0, j1, j2, j3⟩ := box4p hSw.2.1
          go_simp
          (try (with_reducible rfl))
        (try simp only [Act.put, List.setIfInBounds_toArray, List.set_cons_zero, List.set_cons_succ])
        refine wpAnyH_take (i := 7) (oi := Oper.mk _ _ _ _ _ _) (v := ?_) rfl (by kernel_rfl) (by kernel_rfl) (by kernel_rfl) (fun _ _ _ h => h) (Or.inl ⟨by kernel_rfl, ?_⟩) hHeld ?_
        rotate_left 1
        · intro W hSw
          (try dsimp only at hSw)
          obtain ⟨h0, h1, h2, h3⟩ := box4p hSw.1
          obtain ⟨j0, j1, j2, j3⟩ := box4p hSw.2.1
          go_simp
          (try (with_reducible rfl))
        (try simp only [Act.put, List.setIfInBounds_toArray, List.set_cons_zero, List.set_cons_succ])
        refine wpAnyH_take (i := 8) (oi := Oper.mk _ _ _ _ _ _) (v := ?_) rfl (by kernel_rfl) (by kernel_rfl) (by kernel_rfl) (fun _ _ _ h => h) (Or.inl ⟨by kernel_rfl, ?_⟩) hHeld ?_
        rotate_left 1
        · intro W hSw
          (try dsimp only at hSw)
          obtain ⟨h0, h1, h2, h3⟩ := box4p hSw.1
          obtain ⟨j0, j1, j2, j3⟩ := box4p hSw.2.1
          go_simp
          (try (with_reducible rfl))
        (try simp only [Act.put, List.setIfInBounds_toArray, List.set_cons_zero, List.set_cons_succ])
        refine wpAnyH_take (i := 9) (oi := Oper.mk _ _ _ _ _ _) (v := ?_) rfl (by kernel_rfl) (by kernel_rfl) (by kernel_rfl) (fun _ _ _ h => h) (Or.inl ⟨by kernel_rfl, ?_⟩) hHeld ?_
        rotate_left 1
        · intro W hSw
          (try dsimp only at hSw)
          obtain ⟨h0, h1, h2, h3⟩ := box4p hSw.1
          obtain ⟨j0, j1, j2, j3⟩ := box4p hSw.2.1
          go_simp
          (try (with_reducible rfl))
        (try simp only [Act.put, List.setIfInBounds_toArray, List.set_cons_zero, List.set_cons_succ])
        refine wpAnyH_ready (rs := [5]) (by kernel_rfl) (by simp) ?_
        refine AllReadyH.cons (o := Oper.mk _ _ _ _ _ _) rfl (fun K hK => ?_) AllReadyH.nil
        (try rw [if_pos (by kernel_rfl)])
        go_simp
        refine (HCS.out _ hgg).mono ?_
        rintro e wy1 ⟨g3, p3, n3, c3, q3, m3, d3, rfl, hV3, hgS⟩
        replace hgg := grown_trans hgg hgS
        refine hK.out _ _ ?_ (fun hNew => ?_)
        · have hH := hHeld
          (try dsimp only at hH)
          (try dsimp only)
          first | with_reducible exact hH | with_reducible exact ⟨keepB hH.1 hgS, keepB hH.2.1 hgS, keepB hH.2.2 hgS⟩ | exact ⟨(hgS.block bt (lt_of_block hH.1) (by simp; omega)).trans hH.1, (hgS.block bu (lt_of_block hH.2.1) (by simp; omega)).trans hH.2.1, (hgS.block b (lt_of_block hH.2.2) (by simp; omega)).trans hH.2.2⟩
        clear hK K hHeld
        have hHeld := hNew
        clear hNew
        (try simp only [Act.put, List.setIfInBounds_toArray, List.set_cons_zero, List.set_cons_succ])
        clear hgS
        refine wpAnyH_ready (rs := [10]) (by kernel_rfl) (by simp) ?_
        refine AllReadyH.cons (o := Oper.mk _ _ _ _ _ _) rfl (fun K hK => ?_) AllReadyH.nil
        (try rw [if_pos (by kernel_rfl)])
        go_simp
        go_at_call 172
        refine (HCM.out _ hgg).mono ?_
        rintro e wy2 ⟨a3, e3, rfl, hX3, hgS⟩
        replace hgg := grown_trans hgg hgS
        replace hV3 := hV3.keep hgS
        refine hK.out _ _ ?_ (fun hNew => ?_)
        · have hH := hHeld
          (try dsimp only at hH)
          (try dsimp only)
          first | with_reducible exact hH | with_reducible exact ⟨keepB hH.1 hgS, keepB hH.2.1 hgS, keepB hH.2.2 hgS⟩ | exact ⟨(hgS.block bt (lt_of_block hH.1) (by simp; omega)).trans hH.1, (hgS.block bu (lt_of_block hH.2.1) (by simp; omega)).trans hH.2.1, (hgS.block b (lt_of_block hH.2.2) (by simp; omega)).trans hH.2.2⟩
        clear hK K hHeld
        have hHeld := hNew
        clear hNew
        (try simp only [Act.put, List.setIfInBounds_toArray, List.set_cons_zero, List.set_cons_succ])
        clear hgS
        refine wpAnyH_ready (rs := [11]) (by kernel_rfl) (by simp) ?_
        refine AllReadyH.cons (o := Oper.mk _ _ _ _ _ _) rfl (fun K hK => ?_) AllReadyH.nil
        (try rw [if_pos (by kernel_rfl)])
        go_simp
        refine hK.out _ _ ?_ (fun hNew => ?_)
        · have hH := hHeld
          (try dsimp only at hH)
          (try dsimp only)
          first | with_reducible exact hH | with_reducible exact ⟨keepB hH.1 hgS, keepB hH.2.1 hgS, keepB hH.2.2 hgS⟩ | exact ⟨(hgS.block bt (lt_of_block hH.1) (by simp; omega)).trans hH.1, (hgS.block bu (lt_of_block hH.2.1) (by simp; omega)).trans hH.2.1, (hgS.block b (lt_of_block hH.2.2) (by simp; omega)).trans hH.2.2⟩
        clear hK K hHeld
        have hHeld := hNew
        clear hNew
        (try simp only [Act.put, List.setIfInBounds_toArray, List.set_cons_zero, List.set_cons_succ])
        refine wpAnyH_ready (rs := [12]) (by kernel_rfl) (by simp) ?_
        refine AllReadyH.cons (o := Oper.mk _ _ _ _ _ _) rfl (fun K hK => ?_) AllReadyH.nil
        (try rw [if_pos (by kernel_rfl)])
        go_simp
        refine hK.out _ _ ?_ (fun hNew => ?_)
        · have hH := hHeld
          (try dsimp only at hH)
          (try dsimp only)
          first | with_reducible exact hH | with_reducible exact ⟨keepB hH.1 hgS, keepB hH.2.1 hgS, keepB hH.2.2 hgS⟩ | exact ⟨(hgS.block bt (lt_of_block hH.1) (by simp; omega)).trans hH.1, (hgS.block bu (lt_of_block hH.2.1) (by simp; omega)).trans hH.2.1, (hgS.block b (lt_of_block hH.2.2) (by simp; omega)).trans hH.2.2⟩
        clear hK K hHeld
        have hHeld := hNew
        clear hNew
        (try simp only [Act.put, List.setIfInBounds_toArray, List.set_cons_zero, List.set_cons_succ])
        refine wpAnyH_ready (rs := [13]) (by kernel_rfl) (by simp) ?_
        refine AllReadyH.cons (o := Oper.mk _ _ _ _ _ _) rfl (fun K hK => ?_) AllReadyH.nil
        (try rw [if_pos (by kernel_rfl)])
        have HQ2 := hid (HQ.out.keep hgg)
        have HR2 := hid (HR.out.keep hgg)
        obtain ⟨⟨u0, z0⟩, y0⟩ := HQ2.out.spot (i * 4) (by omega)
        obtain ⟨⟨u1, z1⟩, y1⟩ := HQ2.out.spot (i * 4 + 1) (by omega)
        obtain ⟨⟨u2, z2⟩, y2⟩ := HQ2.out.spot (i * 4 + 2) (by omega)
        obtain ⟨⟨u3, z3⟩, y3⟩ := HQ2.out.spot (i * 4 + 3) (by omega)
        go_simp
        clear z0 z1 z2 z3 y0 y1 y2 y3
        have HT3 : Hid (TmC wy2 [.bool g3, .slice p3 n3 c3, .slice q3 m3 d3, .slice a3 zs.length e3] (zs, pr)) := hid ⟨_, _, _, _, _, _, _, _, _, _, rfl, hV3, hX3⟩
        have hgS := set4_at wy2 g (i * 4) (.bool g3) (.slice p3 n3 c3) (.slice q3 m3 d3) (.slice a3 zs.length e3)
        have HQ4 := hid (HQ2.out.put4 hlt (.bool g3) (.slice p3 n3 c3) (.slice q3 m3 d3) (.slice a3 zs.length e3) (NoInt.bool _) (NoInt.slice _ _ _) (NoInt.slice _ _ _) (NoInt.slice _ _ _))
        have HR4 := hid (RwS.snoc HQ2.out HR2.out HT3.out hgS (.inl rfl))
        have HG4 := hid (grown_new (grown_trans HG.out hgg) hgS (fun g' e => by cases e; exact hgw))
        clear hV3 hX3 hgg HT3 HQ2 HR2
        refine hK.out _ _ ?_ (fun hNew => ?_)
        · have hH := hHeld
          (try dsimp only at hH)
          (try dsimp only)
          first | with_reducible exact hH | with_reducible exact ⟨keepB hH.1 hgS, keepB hH.2.1 hgS, keepB hH.2.2 hgS⟩ | exact ⟨(hgS.block bt (lt_of_block hH.1) (by simp; omega)).trans hH.1, (hgS.block bu (lt_of_block hH.2.1) (by simp; omega)).trans hH.2.1, (hgS.block b (lt_of_block hH.2.2) (by simp; omega)).trans hH.2.2⟩
        clear hK K hHeld
        have hHeld := hNew
        clear hNew
        (try simp only [Act.put, List.setIfInBounds_toArray, List.set_cons_zero, List.set_cons_succ])
        generalize (((wy2.setCell _ _).setCell _ _).setCell _ _).setCell _ _ = wE at *
        clear hgS
        refine wpAnyH_done (by kernel_rfl) ?_ _
        refine NoPanic.normal ?_
        obtain ⟨hE1, -, hE3⟩ := hHeld
        (try dsimp only at hE1 hE3)
        have HE1 := hid hE1
        have HE3 := hid hE3
        clear hE1 hE3
        go_wp2_with fail
        refine ⟨⟨i + 1, rows ++ [[.bool g3, .slice p3 n3 c3, .slice q3 m3 d3, .slice a3 zs.length e3]], by omega, by go_num, HG4, HQ4, hid ?_, HE1, HE3⟩, by simp [intOf]; omega⟩
        rw [← HTK.out]
        exact HR4.out
      · obtain rfl : i = n := by omega
        have hr := HR.out
        rw [List.take_of_length_le (by have := HNL.out; omega)] at hr
        have HR2 := hid hr
        clear hr
        go_wp2_with fail
        go_ret
        exact ⟨_, _, _, rfl, IsP.ofQ HQ.out HR2.out, HG.out⟩
end Go.Proofs.YtknmdmofmcfjhaaGreatDoor

set_option linter.unusedVariables false
set_option linter.unusedSimpArgs false
namespace Go.Proofs.YtknmdmofmcfjhaaGreatDoor
open Go Go.RowKit _root_.Nm
theorem addP_len : ∀ (p q : List Tm), (addP p q).length ≤ p.length + q.length
  | [], q => by rw [show addP [] q = q by cases q <;> simp [addP]]; simp
  | s :: p, [] => by rw [addP_nil]; simp
  | s :: p, t :: q => by
    have h1 := addP_len p (t :: q)
    have h2 := addP_len (s :: p) q
    have h3 := addP_len p q
    simp only [List.length_cons] at h1 h2 ⊢
    rw [addP]
    split
    · simp only [List.length_cons]; omega
    · split
      · simp only [List.length_cons]; omega
      · split
        · omega
        · simp only [List.length_cons]; omega
termination_by p q => p.length + q.length
theorem tot_facts {g : Nat → List Tm} {L M : Nat} {B : Int} : ∀ (k a b : Nat), b - a ≤ k → (∀ i, a ≤ i → i < b → (g i).length ≤ L ∧ BdP M (g i) ∧ ExP B (g i)) →
    (totB g a b).length ≤ (b - a) * L ∧ BdP ((b - a) * (M + 1) - 1) (totB g a b) ∧ ExP B (totB g a b)
  | k, a, b, hk, h => by
    by_cases h0 : b ≤ a
    · rw [totB_none g h0]
      exact ⟨by simp, fun t ht => (by cases ht), fun t ht => (by cases ht)⟩
    · by_cases h1 : b = a + 1
      · subst h1
        obtain ⟨x1, x2, x3⟩ := h a (Nat.le_refl _) (by omega)
        rw [totB_one, show a + 1 - a = 1 by omega]
        exact ⟨by omega, x2.mono (by omega), x3⟩
      · cases k with
        | zero => omega
        | succ k =>
        rw [totB_two g (by omega)]
        obtain ⟨m, hm⟩ : ∃ m, m = (a + b) / 2 := ⟨_, rfl⟩
        rw [← hm]
        obtain ⟨x1, x2, x3⟩ := tot_facts (g := g) (L := L) (M := M) (B := B) k a m (by omega) (fun i h1 h2 => h i h1 (by omega))
        obtain ⟨y1, y2, y3⟩ := tot_facts (g := g) (L := L) (M := M) (B := B) k m b (by omega) (fun i h1 h2 => h i (by omega) h2)
        have e1 : (b - a) * L = (m - a) * L + (b - m) * L := by rw [← Nat.add_mul]; congr 1; omega
        have e2 : (b - a) * (M + 1) = (m - a) * (M + 1) + (b - m) * (M + 1) := by rw [← Nat.add_mul]; congr 1; omega
        have e3 : 1 ≤ (m - a) * (M + 1) := Nat.mul_pos (by omega) (by omega)
        have e4 : 1 ≤ (b - m) * (M + 1) := Nat.mul_pos (by omega) (by omega)
        refine ⟨by have := addP_len (totB g a m) (totB g m b); omega, (x2.add y2).mono (by omega), x3.add y3⟩
theorem ExP.mulT {B C : Int} {t : Tm} {Q : List Tm} (h : RightZ B t.1) (k : ExP B Q) (hB : 0 ≤ B) (hC : B + B ≤ C) : ExP C (mulT t Q) := fun u hu => by
  unfold Nm.mulT at hu
  obtain ⟨s, hs, rfl⟩ := List.mem_map.1 hu
  exact RightZ.comb h (k s hs) rfl (fun i => by have := h.ex hB i; have := (k s hs).ex hB i; omega)
theorem BdP.mulT {a b : Nat} {t : Tm} {Q : List Tm} (h : Bd a t.2) (k : BdP b Q) : BdP (a + b) (mulT t Q) := fun u hu => by
  unfold Nm.mulT at hu
  obtain ⟨s, hs, rfl⟩ := List.mem_map.1 hu
  exact h.mul (k s hs)
theorem rowP_at {P Q : List Tm} {i : Nat} (hi : i < P.length) : rowP P Q i = mulT P[i] Q := by
  unfold rowP; rw [List.getElem?_eq_getElem hi]; rfl
set_option maxHeartbeats 16000000 in
set_option maxRecDepth 100000 in
theorem part_v (H : Nat) (B : Int) {w : World} (T : Tb w) {p q : Option Addr} {n c m d : Nat} {P Q : List Tm} (hP : IsP w p n c P) (hQ : IsP w q m d Q) (hH : H ≤ 9000) (bP : BdP H P) (bQ : BdP H Q) (eP : ExP B P) (eQ : ExP B Q) (hB : 0 ≤ B ∧ B ≤ 4294967296) (hz : ∀ t ∈ Q, t.2 ≠ 0) (hm : m ≤ 1000000)
    {bp bq : Nat} (h1 : w.heap[bp]? = some (.cells #[.slice p n c] 35 (0, 0))) (h2 : w.heap[bq]? = some (.cells #[.slice q m d] 35 (0, 0))) {i : Nat} (hi : i < n) :
    Calls Tryz.prog 141 #[.int .i64 i, .pointer (some ⟨bp, 0, none⟩), .pointer (some ⟨bq, 0, none⟩)] w (PPost w (rowP P Q i)) := by
  have hl := hP.len
  have hc := hP.cap
  have hmx := hP.max
  have hil : i < P.length := by omega
  rw [rowP_at hil]
  obtain ⟨b, o, g1, p1, n1, c1, q1, m1, d1, a1, k1, e1, rfl, ⟨x0, x1, x2, x3⟩, hV, hX⟩ := (hP.tms i hil).out
  have HRW := hid fun W (hg : w.grownBy W none) => row_v H B (T.keep hg) (hV.keep hg) (hX.keep hg) (hQ.keep hg) hH (bP.at hil) bQ (eP.at hil) eQ hB hz hm
  unfold PPost at HRW
  have BP := hid h1; have BQ := hid h2
  have X0 := hid x0; have X1 := hid x1; have X2 := hid x2; have X3 := hid x3
  obtain ⟨t, ht⟩ : ∃ t, t = mulT (P[i].1, P[i].2) Q := ⟨_, rfl⟩
  have ht2 : mulT P[i] Q = t := ht.symm
  rw [← ht] at HRW
  rw [ht2]
  clear T hP hQ bP bQ eP eQ hz h1 h2 hV hX ht ht2 x0 x1 x2 x3 hl
  go_enter Tryz.func141, Tryz.ntmps141
  go_upto_region 1 with fail
  refine wp_region_noPanic ?_
  refine wp_region_held_drew (S := (fun W => W.heap[bp]? = some (.cells #[.slice (some ⟨b, o, none⟩) n c] 35 (0, 0)) ∧ W.heap[bq]? = some (.cells #[.slice q m d] 35 (0, 0)) ∧ W.cell? ⟨b, o + i * 4, none⟩ = some (.bool g1) ∧ W.cell? ⟨b, o + i * 4 + 1, none⟩ = some (.slice p1 n1 c1) ∧ W.cell? ⟨b, o + i * 4 + 2, none⟩ = some (.slice q1 m1 d1) ∧ W.cell? ⟨b, o + i * 4 + 3, none⟩ = some (.slice a1 k1 e1))) (by kernel_rfl) ?_ (fun hHeld => ?_)
  · (try dsimp only)
    exact ⟨keepB BP.out (grown_drew _ none), keepB BQ.out (grown_drew _ none), (grown_drew _ none).cell X0.out (by simp), (grown_drew _ none).cell X1.out (by simp), (grown_drew _ none).cell X2.out (by simp), (grown_drew _ none).cell X3.out (by simp)⟩
  have hgg := grown_drew w none
  generalize w.drew = wd at *
  refine wpAnyH_take (i := 0) (oi := Oper.mk _ _ _ _ _ _) (v := ?_) rfl (by kernel_rfl) (by kernel_rfl) (by kernel_rfl) (fun _ _ _ h => h) (Or.inl ⟨by kernel_rfl, ?_⟩) hHeld ?_
  rotate_left 1
  · intro W hSw
    (try dsimp only at hSw)
    obtain ⟨hx, hy, h0, h1, h2, h3⟩ := hSw
    have hx0 := cell_of_one hx
    have hy0 := cell_of_one hy
    go_simp
    (try (with_reducible rfl))
  (try simp only [Act.put, List.setIfInBounds_toArray, List.set_cons_zero, List.set_cons_succ])
  refine wpAnyH_take (i := 1) (oi := Oper.mk _ _ _ _ _ _) (v := ?_) rfl (by kernel_rfl) (by kernel_rfl) (by kernel_rfl) (fun _ _ _ h => h) (Or.inl ⟨by kernel_rfl, ?_⟩) hHeld ?_
  rotate_left 1
  · intro W hSw
    (try dsimp only at hSw)
    obtain ⟨hx, hy, h0, h1, h2, h3⟩ := hSw
    have hx0 := cell_of_one hx
    have hy0 := cell_of_one hy
    go_simp
    (try (with_reducible rfl))
  (try simp only [Act.put, List.setIfInBounds_toArray, List.set_cons_zero, List.set_cons_succ])
  refine wpAnyH_take (i := 2) (oi := Oper.mk _ _ _ _ _ _) (v := ?_) rfl (by kernel_rfl) (by kernel_rfl) (by kernel_rfl) (fun _ _ _ h => h) (Or.inl ⟨by kernel_rfl, ?_⟩) hHeld ?_
  rotate_left 1
  · intro W hSw
    (try dsimp only at hSw)
    obtain ⟨hx, hy, h0, h1, h2, h3⟩ := hSw
    have hx0 := cell_of_one hx
    have hy0 := cell_of_one hy
    go_simp
    (try (with_reducible rfl))
  (try simp only [Act.put, List.setIfInBounds_toArray, List.set_cons_zero, List.set_cons_succ])
  refine wpAnyH_take (i := 3) (oi := Oper.mk _ _ _ _ _ _) (v := ?_) rfl (by kernel_rfl) (by kernel_rfl) (by kernel_rfl) (fun _ _ _ h => h) (Or.inl ⟨by kernel_rfl, ?_⟩) hHeld ?_
  rotate_left 1
  · intro W hSw
    (try dsimp only at hSw)
    obtain ⟨hx, hy, h0, h1, h2, h3⟩ := hSw
    have hx0 := cell_of_one hx
    have hy0 := cell_of_one hy
    go_simp
    (try (with_reducible rfl))
  (try simp only [Act.put, List.setIfInBounds_toArray, List.set_cons_zero, List.set_cons_succ])
  refine wpAnyH_take (i := 4) (oi := Oper.mk _ _ _ _ _ _) (v := ?_) rfl (by kernel_rfl) (by kernel_rfl) (by kernel_rfl) (fun _ _ _ h => h) (Or.inl ⟨by kernel_rfl, ?_⟩) hHeld ?_
  rotate_left 1
  · intro W hSw
    (try dsimp only at hSw)
    obtain ⟨hx, hy, h0, h1, h2, h3⟩ := hSw
    have hx0 := cell_of_one hx
    have hy0 := cell_of_one hy
    go_simp
    (try (with_reducible rfl))
  (try simp only [Act.put, List.setIfInBounds_toArray, List.set_cons_zero, List.set_cons_succ])
  refine wpAnyH_ready (rs := [5]) (by kernel_rfl) (by simp) ?_
  refine AllReadyH.cons (o := Oper.mk _ _ _ _ _ _) rfl (fun K hK => ?_) AllReadyH.nil
  (try rw [if_pos (by kernel_rfl)])
  go_simp
  refine (HRW.out _ hgg).mono ?_
  rintro e wy1 ⟨p3, n3, c3, rfl, hP3, hgS⟩
  replace hgg := grown_trans hgg hgS
  refine hK.out _ _ ?_ (fun hNew => ?_)
  · have hH := hHeld
    (try dsimp only at hH)
    (try dsimp only)
    first | with_reducible exact hH | exact ⟨keepB hH.1 hgS, keepB hH.2.1 hgS, hgS.cell hH.2.2.1 (by simp), hgS.cell hH.2.2.2.1 (by simp), hgS.cell hH.2.2.2.2.1 (by simp), hgS.cell hH.2.2.2.2.2 (by simp)⟩
  clear hK K hHeld
  have hHeld := hNew
  clear hNew
  (try simp only [Act.put, List.setIfInBounds_toArray, List.set_cons_zero, List.set_cons_succ])
  clear hgS
  refine wpAnyH_ready (rs := [6]) (by kernel_rfl) (by simp) ?_
  refine AllReadyH.cons (o := Oper.mk _ _ _ _ _ _) rfl (fun K hK => ?_) AllReadyH.nil
  (try rw [if_pos (by kernel_rfl)])
  go_simp
  refine hK.out _ _ ?_ (fun hNew => ?_)
  · have hH := hHeld
    (try dsimp only at hH)
    (try dsimp only)
    first | with_reducible exact hH | exact ⟨keepB hH.1 hgS, keepB hH.2.1 hgS, hgS.cell hH.2.2.1 (by simp), hgS.cell hH.2.2.2.1 (by simp), hgS.cell hH.2.2.2.2.1 (by simp), hgS.cell hH.2.2.2.2.2 (by simp)⟩
  clear hK K hHeld
  have hHeld := hNew
  clear hNew
  (try simp only [Act.put, List.setIfInBounds_toArray, List.set_cons_zero, List.set_cons_succ])
  refine wpAnyH_done (by kernel_rfl) ?_ _
  refine NoPanic.normal ?_
  clear hHeld
  go_wp2_with fail
  go_ret
  exact ⟨p3, n3, c3, rfl, hP3, hgg⟩
set_option maxHeartbeats 4000000 in
set_option maxRecDepth 100000 in
theorem betw0_v (g : Nat → List Tm) (a : Nat) (ha : a ≤ 1000000) {bt bb : Nat} (w : World) :
    Calls Tryz.prog 114 #[.int .i64 a, .int .i64 a, .pointer (some ⟨bt, 0, none⟩), .pointer (some ⟨bb, 0, none⟩)] w (PPost w (totB g a a)) := by
  rw [totB_none g (Nat.le_refl a)]
  have hs : (a : Int) - (a : Int) = 0 := by omega
  go_enter Tryz.func114, Tryz.ntmps114
  go_wp2_with fail
  go_ret
  exact ⟨none, 0, 0, rfl, IsP.nil _, grown_refl _ _⟩
set_option maxHeartbeats 4000000 in
set_option maxRecDepth 100000 in
theorem betw1_v (g : Nat → List Tm) (a b : Nat) (hb : a + 1 = b) (ha : a ≤ 1000000) {bp bq bt bb : Nat} {w : World} (h1 : w.heap[bt]? = some (.cells #[.func (.func 141) #[] #[.pointer (some ⟨bp, 0, none⟩), .pointer (some ⟨bq, 0, none⟩)]] 68 (0, 0))) (hpart : Calls Tryz.prog 141 #[.int .i64 a, .pointer (some ⟨bp, 0, none⟩), .pointer (some ⟨bq, 0, none⟩)] w (PPost w (g a))) :
    Calls Tryz.prog 114 #[.int .i64 a, .int .i64 b, .pointer (some ⟨bt, 0, none⟩), .pointer (some ⟨bb, 0, none⟩)] w (PPost w (totB g a b)) := by
  rw [← hb, totB_one, hb]
  have hs : (b : Int) - (a : Int) = 1 := by omega
  have hc := cell_of_one h1
  have HP := hid hpart
  unfold PPost at HP
  clear hpart h1 hb
  go_enter Tryz.func114, Tryz.ntmps114
  go_wp2_with (go_at_call 141; (with_reducible refine HP.out.mono ?_); rintro e w1 ⟨p1, n1, c1, rfl, hP1, hg⟩; have HP1 := hid hP1; clear hP1)
  go_ret
  exact ⟨p1, n1, c1, rfl, HP1.out, hg⟩
set_option maxHeartbeats 16000000 in
set_option maxRecDepth 100000 in
theorem betw_v (g : Nat → List Tm) (n L M : Nat) (B : Int) {w : World} (T : Tb w) (hg : ∀ i, i < n → (g i).length ≤ L ∧ BdP M (g i) ∧ ExP B (g i)) (hn : n ≤ 1000000) (hL : n * L ≤ 1000000) (hM : n * (M + 1) ≤ 9000) (hB : 0 ≤ B ∧ B ≤ 4294967296) {bp bq bt bb : Nat}
    (hpart : ∀ i, i < n → ∀ W, w.grownBy W none → Calls Tryz.prog 141 #[.int .i64 i, .pointer (some ⟨bp, 0, none⟩), .pointer (some ⟨bq, 0, none⟩)] W (PPost W (g i))) (h1 : w.heap[bt]? = some (.cells #[.func (.func 141) #[] #[.pointer (some ⟨bp, 0, none⟩), .pointer (some ⟨bq, 0, none⟩)]] 68 (0, 0))) (h2 : w.heap[bb]? = some (.cells #[.func (.func 114) #[] #[.pointer (some ⟨bt, 0, none⟩), .pointer (some ⟨bb, 0, none⟩)]] 109 (0, 0))) :
    ∀ (k a b : Nat), b - a ≤ k → a ≤ b → b ≤ n → ∀ W, w.grownBy W none → Calls Tryz.prog 114 #[.int .i64 a, .int .i64 b, .pointer (some ⟨bt, 0, none⟩), .pointer (some ⟨bb, 0, none⟩)] W (PPost W (totB g a b)) := by
  intro k
  induction k with
  | zero =>
    intro a b hk hab hbn W hW
    obtain rfl : a = b := by omega
    exact betw0_v g a (by omega) W
  | succ k ih =>
    intro a b hk hab hbn W hW
    by_cases e0 : a = b
    · subst e0; exact betw0_v g a (by omega) W
    · by_cases e1 : a + 1 = b
      · exact betw1_v g a b e1 (by omega) (keepB h1 hW) (hpart a (by omega) W hW)
      · obtain ⟨D, hD⟩ : ∃ D, D = b - a := ⟨_, rfl⟩
        obtain ⟨S, hS⟩ : ∃ S, S = a + b := ⟨_, rfl⟩
        obtain ⟨mid, hmid⟩ : ∃ m, m = S / 2 := ⟨_, rfl⟩
        have hs : (b : Int) - (a : Int) = (D : Int) := by omega
        have hD2 : 2 ≤ D := by omega
        have hDn : D ≤ 1000000 := by omega
        have hs2 : (a : Int) + (b : Int) = (S : Int) := by omega
        have hSn : S ≤ 2000000 := by omega
        have hq : Int.tdiv (S : Int) 2 = (mid : Int) := by rw [Int.tdiv_eq_ediv_of_nonneg (by omega)]; omega
        have hne0 : ¬ (D : Int) = 0 := by omega
        have hne1 : ¬ (D : Int) = 1 := by omega
        have hmn : mid ≤ 1000000 := by omega
        have HI1 := hid fun W' (hg' : W.grownBy W' none) => ih a mid (by omega) (by omega) (by omega) W' (grown_trans hW hg')
        have HI2 := hid fun W' (hg' : W.grownBy W' none) => ih mid b (by omega) (by omega) (by omega) W' (grown_trans hW hg')
        obtain ⟨x1, x2, x3⟩ := tot_facts (g := g) (L := L) (M := M) (B := B) (mid - a) a mid (Nat.le_refl _) (fun i h1 h2 => hg i (by omega))
        obtain ⟨y1, y2, y3⟩ := tot_facts (g := g) (L := L) (M := M) (B := B) (b - mid) mid b (Nat.le_refl _) (fun i h1 h2 => hg i (by omega))
        have z1 : (mid - a) * L + (b - mid) * L ≤ 1000000 := by rw [← Nat.add_mul]; exact Nat.le_trans (Nat.mul_le_mul_right L (by omega)) hL
        have z2 : (mid - a) * (M + 1) ≤ 9000 := Nat.le_trans (Nat.mul_le_mul_right _ (by omega)) hM
        have z3 : (b - mid) * (M + 1) ≤ 9000 := Nat.le_trans (Nat.mul_le_mul_right _ (by omega)) hM
        have HSM := hid fun (p q : Option Addr) (n c m d : Nat) (W' : World) (hg' : W.grownBy W' none) (hP : IsP W' p n c (totB g a mid)) (hQ : IsP W' q m d (totB g mid b)) => sum_v 9000 B (T.keep (grown_trans hW hg')) hP hQ (Nat.le_refl _) (x2.mono (by omega)) (y2.mono (by omega)) x3 y3 hB (by have := hP.len; have := hQ.len; omega)
        unfold PPost at HI1 HI2 HSM
        have HTT := hid (totB_two g (a := a) (b := b) (by omega))
        rw [← hS, ← hmid] at HTT
        have BT := hid (keepB h1 hW); have BB := hid (keepB h2 hW)
        obtain ⟨r1, hr1⟩ : ∃ r, r = totB g a mid := ⟨_, rfl⟩
        obtain ⟨r2, hr2⟩ : ∃ r, r = totB g mid b := ⟨_, rfl⟩
        rw [← hr1] at HI1 HSM HTT
        rw [← hr2] at HI2 HSM HTT
        clear ih T hg hpart h1 h2 hW hL hM x1 x2 x3 y1 y2 y3 z1 z2 z3 hD hS hmid hr1 hr2 e0 e1 hk hab hbn
        go_enter Tryz.func114, Tryz.ntmps114
        go_upto_region 7 with fail
        refine wp_region_noPanic ?_
        refine wp_region_held_drew (S := (fun W => W.heap[bt]? = some (.cells #[.func (.func 141) #[] #[.pointer (some ⟨bp, 0, none⟩), .pointer (some ⟨bq, 0, none⟩)]] 68 (0, 0)) ∧ W.heap[bb]? = some (.cells #[.func (.func 114) #[] #[.pointer (some ⟨bt, 0, none⟩), .pointer (some ⟨bb, 0, none⟩)]] 109 (0, 0)))) (by kernel_rfl) ?_ (fun hHeld => ?_)
        · (try dsimp only)
          exact ⟨keepB BT.out (grown_drew _ none), keepB BB.out (grown_drew _ none)⟩
        have hgg := grown_drew W none
        generalize W.drew = wd at *
        refine wpAnyH_take (i := 0) (oi := Oper.mk _ _ _ _ _ _) (v := ?_) rfl (by kernel_rfl) (by kernel_rfl) (by kernel_rfl) (fun _ _ _ h => h) (Or.inl ⟨by kernel_rfl, ?_⟩) hHeld ?_
        rotate_left 1
        · intro W hSw
          (try dsimp only at hSw)
          obtain ⟨hx, hy⟩ := hSw
          have hx0 := cell_of_one hx
          have hy0 := cell_of_one hy
          go_simp
          (try (with_reducible rfl))
        (try simp only [Act.put, List.setIfInBounds_toArray, List.set_cons_zero, List.set_cons_succ])
        refine wpAnyH_take (i := 1) (oi := Oper.mk _ _ _ _ _ _) (v := ?_) rfl (by kernel_rfl) (by kernel_rfl) (by kernel_rfl) (fun _ _ _ h => h) (Or.inl ⟨by kernel_rfl, ?_⟩) hHeld ?_
        rotate_left 1
        · intro W hSw
          (try dsimp only at hSw)
          obtain ⟨hx, hy⟩ := hSw
          have hx0 := cell_of_one hx
          have hy0 := cell_of_one hy
          go_simp
          (try (with_reducible rfl))
        (try simp only [Act.put, List.setIfInBounds_toArray, List.set_cons_zero, List.set_cons_succ])
        refine wpAnyH_take (i := 2) (oi := Oper.mk _ _ _ _ _ _) (v := ?_) rfl (by kernel_rfl) (by kernel_rfl) (by kernel_rfl) (fun _ _ _ h => h) (Or.inl ⟨by kernel_rfl, ?_⟩) hHeld ?_
        rotate_left 1
        · intro W hSw
          (try dsimp only at hSw)
          obtain ⟨hx, hy⟩ := hSw
          have hx0 := cell_of_one hx
          have hy0 := cell_of_one hy
          go_simp
          (try (with_reducible rfl))
        (try simp only [Act.put, List.setIfInBounds_toArray, List.set_cons_zero, List.set_cons_succ])
        refine wpAnyH_take (i := 4) (oi := Oper.mk _ _ _ _ _ _) (v := ?_) rfl (by kernel_rfl) (by kernel_rfl) (by kernel_rfl) (fun _ _ _ h => h) (Or.inl ⟨by kernel_rfl, ?_⟩) hHeld ?_
        rotate_left 1
        · intro W hSw
          (try dsimp only at hSw)
          obtain ⟨hx, hy⟩ := hSw
          have hx0 := cell_of_one hx
          have hy0 := cell_of_one hy
          go_simp
          (try (with_reducible rfl))
        (try simp only [Act.put, List.setIfInBounds_toArray, List.set_cons_zero, List.set_cons_succ])
        refine wpAnyH_take (i := 5) (oi := Oper.mk _ _ _ _ _ _) (v := ?_) rfl (by kernel_rfl) (by kernel_rfl) (by kernel_rfl) (fun _ _ _ h => h) (Or.inl ⟨by kernel_rfl, ?_⟩) hHeld ?_
        rotate_left 1
        · intro W hSw
          (try dsimp only at hSw)
          obtain ⟨hx, hy⟩ := hSw
          have hx0 := cell_of_one hx
          have hy0 := cell_of_one hy
          go_simp
          (try (with_reducible rfl))
        (try simp only [Act.put, List.setIfInBounds_toArray, List.set_cons_zero, List.set_cons_succ])
        refine wpAnyH_take (i := 6) (oi := Oper.mk _ _ _ _ _ _) (v := ?_) rfl (by kernel_rfl) (by kernel_rfl) (by kernel_rfl) (fun _ _ _ h => h) (Or.inl ⟨by kernel_rfl, ?_⟩) hHeld ?_
        rotate_left 1
        · intro W hSw
          (try dsimp only at hSw)
          obtain ⟨hx, hy⟩ := hSw
          have hx0 := cell_of_one hx
          have hy0 := cell_of_one hy
          go_simp
          (try (with_reducible rfl))
        (try simp only [Act.put, List.setIfInBounds_toArray, List.set_cons_zero, List.set_cons_succ])
        refine wpAnyH_ready (rs := [3]) (by kernel_rfl) (by simp) ?_
        refine AllReadyH.cons (o := Oper.mk _ _ _ _ _ _) rfl (fun K hK => ?_) AllReadyH.nil
        (try rw [if_pos (by kernel_rfl)])
        go_simp
        refine (HI1.out _ hgg).mono ?_
        rintro e wy1 ⟨p3, n3, c3, rfl, hP3, hgS⟩
        replace hgg := grown_trans hgg hgS
        refine hK.out _ _ ?_ (fun hNew => ?_)
        · have hH := hHeld
          (try dsimp only at hH)
          (try dsimp only)
          first | with_reducible exact hH | exact ⟨keepB hH.1 hgS, keepB hH.2 hgS⟩
        clear hK K hHeld
        have hHeld := hNew
        clear hNew
        (try simp only [Act.put, List.setIfInBounds_toArray, List.set_cons_zero, List.set_cons_succ])
        clear hgS
        refine wpAnyH_ready (rs := [7]) (by kernel_rfl) (by simp) ?_
        refine AllReadyH.cons (o := Oper.mk _ _ _ _ _ _) rfl (fun K hK => ?_) AllReadyH.nil
        (try rw [if_pos (by kernel_rfl)])
        go_simp
        refine (HI2.out _ hgg).mono ?_
        rintro e wy2 ⟨p4, n4, c4, rfl, hP4, hgS⟩
        replace hgg := grown_trans hgg hgS
        replace hP3 := hP3.keep hgS
        refine hK.out _ _ ?_ (fun hNew => ?_)
        · have hH := hHeld
          (try dsimp only at hH)
          (try dsimp only)
          first | with_reducible exact hH | exact ⟨keepB hH.1 hgS, keepB hH.2 hgS⟩
        clear hK K hHeld
        have hHeld := hNew
        clear hNew
        (try simp only [Act.put, List.setIfInBounds_toArray, List.set_cons_zero, List.set_cons_succ])
        clear hgS
        refine wpAnyH_ready (rs := [8]) (by kernel_rfl) (by simp) ?_
        refine AllReadyH.cons (o := Oper.mk _ _ _ _ _ _) rfl (fun K hK => ?_) AllReadyH.nil
        (try rw [if_pos (by kernel_rfl)])
        go_simp
        refine (HSM.out _ _ _ _ _ _ _ hgg hP3 hP4).mono ?_
        rintro e wy3 ⟨p5, n5, c5, rfl, hP5, hgS⟩
        replace hgg := grown_trans hgg hgS
        replace hP3 := hP3.keep hgS
        replace hP4 := hP4.keep hgS
        refine hK.out _ _ ?_ (fun hNew => ?_)
        · have hH := hHeld
          (try dsimp only at hH)
          (try dsimp only)
          first | with_reducible exact hH | exact ⟨keepB hH.1 hgS, keepB hH.2 hgS⟩
        clear hK K hHeld
        have hHeld := hNew
        clear hNew
        (try simp only [Act.put, List.setIfInBounds_toArray, List.set_cons_zero, List.set_cons_succ])
        clear hgS
        refine wpAnyH_ready (rs := [9]) (by kernel_rfl) (by simp) ?_
        refine AllReadyH.cons (o := Oper.mk _ _ _ _ _ _) rfl (fun K hK => ?_) AllReadyH.nil
        (try rw [if_pos (by kernel_rfl)])
        go_simp
        refine hK.out _ _ ?_ (fun hNew => ?_)
        · have hH := hHeld
          (try dsimp only at hH)
          (try dsimp only)
          first | with_reducible exact hH | exact ⟨keepB hH.1 hgS, keepB hH.2 hgS⟩
        clear hK K hHeld
        have hHeld := hNew
        clear hNew
        (try simp only [Act.put, List.setIfInBounds_toArray, List.set_cons_zero, List.set_cons_succ])
        refine wpAnyH_done (by kernel_rfl) ?_ _
        refine NoPanic.normal ?_
        clear hHeld
        go_wp2_with fail
        go_ret
        exact ⟨p5, n5, c5, rfl, by rw [HTT.out]; exact hP5, hgg⟩
set_option maxHeartbeats 4000000 in
set_option maxRecDepth 100000 in
theorem total_v (g : Nat → List Tm) (n L M : Nat) (B : Int) {w : World} (T : Tb w) (hg : ∀ i, i < n → (g i).length ≤ L ∧ BdP M (g i) ∧ ExP B (g i)) (hn : n ≤ 1000000) (hL : n * L ≤ 1000000) (hM : n * (M + 1) ≤ 9000) (hB : 0 ≤ B ∧ B ≤ 4294967296) {bp bq : Nat}
    (hpart : ∀ i, i < n → ∀ W, w.grownBy W none → Calls Tryz.prog 141 #[.int .i64 i, .pointer (some ⟨bp, 0, none⟩), .pointer (some ⟨bq, 0, none⟩)] W (PPost W (g i))) :
    Calls Tryz.prog 56 #[.int .i64 n, .func (.func 141) #[] #[.pointer (some ⟨bp, 0, none⟩), .pointer (some ⟨bq, 0, none⟩)]] w (PPost w (totB g 0 n)) := by
  have gA := World.grownBy_alloc w (.cells #[.func (.func 141) #[] #[.pointer (some ⟨bp, 0, none⟩), .pointer (some ⟨bq, 0, none⟩)]] 68 (0, 0)) none
  have HW := hid gA
  have B1 := hid (blk0 w (.cells #[.func (.func 141) #[] #[.pointer (some ⟨bp, 0, none⟩), .pointer (some ⟨bq, 0, none⟩)]] 68 (0, 0)))
  have HT := hid T; have HPA := hid hpart; have HGF := hid hg
  clear gA T hpart hg
  go_enter Tryz.func56, Tryz.ntmps56
  go_upto_region 1 with fail
  obtain ⟨bt, hbt⟩ : ∃ x, x = w.heap.size := ⟨_, rfl⟩
  have hbtw : w.heap.size ≤ bt := by omega
  have hsz0 := lt_of_block B1.out
  rw [← hbt] at B1 hsz0 ⊢
  clear hbt
  generalize w.alloc _ = w0 at *
  obtain ⟨bb, hbb⟩ : ∃ x, x = w0.heap.size := ⟨_, rfl⟩
  have hbbt : bt < bb := by omega
  have hbbw : w.heap.size ≤ bb := by omega
  have B2 := blk0 w0 (.cells #[.nilFunc] 109 (0, 0))
  have gB := World.grownBy_alloc w0 (.cells #[.nilFunc] 109 (0, 0)) none
  go_upto_region 2 with fail
  rw [← hbb] at B2 ⊢
  clear hbb
  have HW1 := hid (grown_trans HW.out gB)
  have B1b := hid (keepB B1.out gB)
  clear B1 gB HW hsz0
  generalize w0.alloc _ = w1 at *
  have f2 := free_of_one B2
  have c2 := cell_of_one B2
  have B2' := hid (show (w1.setCell ⟨bb, 0, none⟩ (.func (.func 114) #[] #[.pointer (some ⟨bt, 0, none⟩), .pointer (some ⟨bb, 0, none⟩)])).heap[bb]? = some (.cells #[.func (.func 114) #[] #[.pointer (some ⟨bt, 0, none⟩), .pointer (some ⟨bb, 0, none⟩)]] 109 (0, 0)) from one_setCell B2)
  have gS := grown_setCell w1 ⟨bb, 0, none⟩ (.func (.func 114) #[] #[.pointer (some ⟨bt, 0, none⟩), .pointer (some ⟨bb, 0, none⟩)])
  have B1c := hid ((gS.block bt (lt_of_block B1b.out) (by simp; omega)).trans B1b.out)
  have HW2 := hid (grown_new HW1.out gS (fun g' e => by cases e; exact hbbw))
  clear B2 gS B1b HW1
  go_upto_region 3 with fail
  clear f2 c2
  generalize w1.setCell _ _ = w2 at *
  have c2 := cell_of_one B2'.out
  have HC := hid fun (x : Unit) => show Calls Tryz.prog 114 #[.int .i64 0, .int .i64 n, .pointer (some ⟨bt, 0, none⟩), .pointer (some ⟨bb, 0, none⟩)] w2 (PPost w2 (totB g 0 n)) from betw_v g n L M B (HT.out.keep HW2.out) HGF.out hn hL hM hB (fun i hi W hW => HPA.out i hi W (grown_trans HW2.out hW)) B1c.out B2'.out n 0 n (by omega) (by omega) (by omega) w2 (grown_refl _ _)
  unfold PPost at HC
  clear hL hM
  go_wp2_with (go_at_call 114; (with_reducible refine (HC.out ()).mono ?_); rintro e w3 ⟨p1, n1, c1, rfl, hP1, hg⟩; have HP1 := hid hP1; clear hP1)
  go_ret
  exact ⟨p1, n1, c1, rfl, HP1.out, grown_trans HW2.out hg⟩
end Go.Proofs.YtknmdmofmcfjhaaGreatDoor

set_option linter.unusedVariables false
set_option linter.unusedSimpArgs false
namespace Go.Proofs.YtknmdmofmcfjhaaGreatDoor
open Go Go.RowKit _root_.Nm
theorem prod_tot (H : Nat) (B : Int) {w : World} (T : Tb w) {p q : Option Addr} {n c m d : Nat} {P Q : List Tm} (hP : IsP w p n c P) (hQ : IsP w q m d Q) (bP : BdP H P) (bQ : BdP H Q) (eP : ExP B P) (eQ : ExP B Q) (hB : 0 ≤ B ∧ B ≤ 2147483648) (nP : NF P) (nQ : NF Q) (hn : n ≤ 1000000) (hm : m ≤ 1000000) (hnm : n * m ≤ 1000000) (hH : H ≤ 9000) (hM : n * (H + H + 1) ≤ 9000)
    {bp bq : Nat} (h1 : w.heap[bp]? = some (.cells #[.slice p n c] 35 (0, 0))) (h2 : w.heap[bq]? = some (.cells #[.slice q m d] 35 (0, 0))) : Calls Tryz.prog 56 #[.int .i64 n, .func (.func 141) #[] #[.pointer (some ⟨bp, 0, none⟩), .pointer (some ⟨bq, 0, none⟩)]] w (PPost w (mulP P Q)) := by
  have hl := hP.len
  have hl2 := hQ.len
  have := total_v (rowP P Q) n m (H + H) (B + B) T (fun i hi => by
    rw [rowP_at (by omega)]
    exact ⟨by unfold mulT; rw [List.length_map]; omega, BdP.mulT (bP.at (by omega)) bQ, ExP.mulT (eP.at (by omega)) eQ hB.1 (by omega)⟩) hn hnm hM ⟨by omega, by omega⟩ (bp := bp) (bq := bq)
    (fun i hi W hW => part_v H B (T.keep hW) (hP.keep hW) (hQ.keep hW) hH bP bQ eP eQ ⟨hB.1, by omega⟩ nQ.nz hm (keepB h1 hW) (keepB h2 hW) hi)
  have e := mulP_tot nP nQ
  rw [hl] at e
  rw [e] at this
  exact this
set_option maxHeartbeats 8000000 in
set_option maxRecDepth 100000 in
theorem product_v (H : Nat) (B : Int) {w : World} (T : Tb w) {p q : Option Addr} {n c m d : Nat} {P Q : List Tm} (hP : IsP w p n c P) (hQ : IsP w q m d Q) (bP : BdP H P) (bQ : BdP H Q) (eP : ExP B P) (eQ : ExP B Q) (hB : 0 ≤ B ∧ B ≤ 2147483648) (nP : NF P) (nQ : NF Q) (hn : n ≤ 1000000) (hm : m ≤ 1000000) (hnm : n * m ≤ 1000000) (hH : H ≤ 9000) (hM : min n m * (H + H + 1) ≤ 9000) :
    Calls Tryz.prog 86 #[.slice p n c, .slice q m d] w (PPost w (mulP P Q)) := by
  have hcP := hP.cap; have hxP := hP.max; have hcQ := hQ.cap; have hxQ := hQ.max
  have gA := World.grownBy_alloc w (.cells #[.slice p n c] 35 (0, 0)) none
  have gB := World.grownBy_alloc (w.alloc (.cells #[.slice p n c] 35 (0, 0))) (.cells #[.slice q m d] 35 (0, 0)) none
  have BP := hid (keepB (blk0 w (.cells #[.slice p n c] 35 (0, 0))) gB)
  have hsz : (w.alloc (.cells #[.slice p n c] 35 (0, 0))).heap.size = w.heap.size + 1 := by simp
  have BQ := blk0 (w.alloc (.cells #[.slice p n c] 35 (0, 0))) (.cells #[.slice q m d] 35 (0, 0))
  rw [hsz] at BQ
  replace BQ := hid BQ
  have HW := hid (grown_trans gA gB)
  have H1 : Hid (∀ W bp bq, w.grownBy W none → W.heap[bp]? = some (.cells #[.slice p n c] 35 (0, 0)) → W.heap[bq]? = some (.cells #[.slice q m d] 35 (0, 0)) → n ≤ m → Calls Tryz.prog 56 #[.int .i64 n, .func (.func 141) #[] #[.pointer (some ⟨bp, 0, none⟩), .pointer (some ⟨bq, 0, none⟩)]] W (PPost W (mulP P Q))) := hid fun W bp bq hg h1 h2 hnm2 => prod_tot H B (T.keep hg) (hP.keep hg) (hQ.keep hg) bP bQ eP eQ hB nP nQ hn hm hnm hH (by rw [Nat.min_eq_left hnm2] at hM; exact hM) h1 h2
  have H2 : Hid (∀ W bp bq, w.grownBy W none → W.heap[bp]? = some (.cells #[.slice q m d] 35 (0, 0)) → W.heap[bq]? = some (.cells #[.slice p n c] 35 (0, 0)) → m ≤ n → Calls Tryz.prog 56 #[.int .i64 m, .func (.func 141) #[] #[.pointer (some ⟨bp, 0, none⟩), .pointer (some ⟨bq, 0, none⟩)]] W (PPost W (mulP P Q))) := hid fun W bp bq hg h1 h2 hnm2 => by
    rw [mulP_comm nP nQ]
    exact prod_tot H B (T.keep hg) (hQ.keep hg) (hP.keep hg) bQ bP eQ eP hB nQ nP hm hn (by rw [Nat.mul_comm]; exact hnm) hH (by rw [Nat.min_eq_right hnm2] at hM; exact hM) h1 h2
  clear T hP hQ bP bQ eP eQ nP nQ hnm hM gA gB hsz
  go_enter Tryz.func86, Tryz.ntmps86
  go_upto_region 1 with fail
  have hsz := HW.out.size
  have hlt := lt_of_block BQ.out
  generalize ((w.alloc _).alloc _) = w0 at *
  obtain ⟨bq, hbq⟩ : ∃ x, x = w.heap.size + 1 := ⟨_, rfl⟩
  obtain ⟨bp, hbp⟩ : ∃ x, x = w.heap.size := ⟨_, rfl⟩
  have hbqw : w.heap.size ≤ bq := by omega
  have hbpw : w.heap.size ≤ bp := by omega
  have hne : bp ≠ bq := by omega
  rw [← hbq] at BQ ⊢
  rw [← hbp] at BP ⊢
  clear hbq hbp hsz hlt
  have k0 := cell_of_one BP.out
  have k1 := cell_of_one BQ.out
  by_cases hgt : m < n
  · have f0 := free_of_one BP.out
    have f1 := free_of_one BQ.out
    go_upto_region 2 with fail
    have e1 : (w0.setCell ⟨bp, 0, none⟩ (.slice q m d)).heap[bp]? = some (.cells #[.slice q m d] 35 (0, 0)) := one_setCell BP.out
    have e2 : (w0.setCell ⟨bp, 0, none⟩ (.slice q m d)).heap[bq]? = some (.cells #[.slice q m d] 35 (0, 0)) := ((grown_setCell w0 ⟨bp, 0, none⟩ (.slice q m d)).block bq (lt_of_block BQ.out) (by simp; omega)).trans BQ.out
    have e3 : ((w0.setCell ⟨bp, 0, none⟩ (.slice q m d)).setCell ⟨bq, 0, none⟩ (.slice p n c)).heap[bq]? = some (.cells #[.slice p n c] 35 (0, 0)) := one_setCell e2
    have e4 : ((w0.setCell ⟨bp, 0, none⟩ (.slice q m d)).setCell ⟨bq, 0, none⟩ (.slice p n c)).heap[bp]? = some (.cells #[.slice q m d] 35 (0, 0)) := ((grown_setCell (w0.setCell ⟨bp, 0, none⟩ (.slice q m d)) ⟨bq, 0, none⟩ (.slice p n c)).block bp (lt_of_block e1) (by simp; omega)).trans e1
    have g1 := grown_new HW.out (grown_setCell w0 ⟨bp, 0, none⟩ (.slice q m d)) (fun g' e => by cases e; exact hbpw)
    have g2 := hid (grown_new g1 (grown_setCell (w0.setCell ⟨bp, 0, none⟩ (.slice q m d)) ⟨bq, 0, none⟩ (.slice p n c)) (fun g' e => by cases e; exact hbqw))
    have E3 := hid e3; have E4 := hid e4
    have HC := hid (H2.out _ bp bq g2.out e4 e3 (by omega))
    clear e1 e2 e3 e4 g1
    unfold PPost at HC
    go_upto_region 3 with fail
    clear f0 f1 k0 k1
    generalize (w0.setCell _ _).setCell _ _ = w2 at *
    have k0 := cell_of_one E4.out
    have k1 := cell_of_one E3.out
    go_wp2_with (go_at_call 56; (with_reducible refine HC.out.mono ?_); rintro e w3 ⟨p1, n1, c1, rfl, hP1, hg⟩; have HP1 := hid hP1; clear hP1)
    go_ret
    exact ⟨p1, n1, c1, rfl, HP1.out, grown_trans g2.out hg⟩
  · have HC := hid (H1.out _ bp bq HW.out BP.out BQ.out (by omega))
    unfold PPost at HC
    go_wp2_with (go_at_call 56; (with_reducible refine HC.out.mono ?_); rintro e w3 ⟨p1, n1, c1, rfl, hP1, hg⟩; have HP1 := hid hP1; clear hP1)
    go_ret
    exact ⟨p1, n1, c1, rfl, HP1.out, grown_trans HW.out hg⟩
theorem mulP_len : ∀ (P Q : List Tm), (mulP P Q).length ≤ P.length * Q.length
  | [], Q => by simp [mulP]
  | s :: P, Q => by
    have h1 := mulP_len P Q
    have h2 := addP_len (mulT s Q) (mulP P Q)
    have h3 : (mulT s Q).length = Q.length := by unfold mulT; rw [List.length_map]
    simp only [mulP, List.length_cons, Nat.add_mul]
    omega
theorem BdP.mul {H : Nat} {P Q : List Tm} (hP : BdP H P) (hQ : BdP H Q) (nP : NF P) (nQ : NF Q) : BdP (P.length * (H + H + 1)) (mulP P Q) ∧ ∀ {B : Int}, 0 ≤ B → ExP B P → ExP B Q → ExP (B + B) (mulP P Q) := by
  rw [← mulP_tot nP nQ]
  have A : ∀ {B : Int}, 0 ≤ B → ExP B P → ExP B Q → _ := fun {B} hB eP eQ => tot_facts (g := rowP P Q) (L := Q.length) (M := H + H) (B := B + B) P.length 0 P.length (by omega) (fun i h1 h2 => by
    rw [rowP_at h2]
    exact ⟨by unfold Nm.mulT; rw [List.length_map]; omega, BdP.mulT (hP.at h2) hQ, ExP.mulT (eP.at h2) eQ hB (by omega)⟩)
  refine ⟨?_, fun {B} hB eP eQ => (A hB eP eQ).2.2⟩
  have hB : ∀ (k a b : Nat), b - a ≤ k → b ≤ P.length → BdP ((b - a) * (H + H + 1) - 1) (totB (rowP P Q) a b) := by
    intro k
    induction k with
    | zero => intro a b hk hb; rw [totB_none _ (by omega)]; exact fun t ht => (by cases ht)
    | succ k ih =>
      intro a b hk hb
      by_cases h0 : b ≤ a
      · rw [totB_none _ h0]; exact fun t ht => (by cases ht)
      · by_cases h1 : b = a + 1
        · subst h1
          rw [totB_one, rowP_at (by omega)]
          exact (BdP.mulT (hP.at (by omega)) hQ).mono (by rw [show a + 1 - a = 1 by omega]; omega)
        · rw [totB_two _ (by omega)]
          obtain ⟨m, hm⟩ : ∃ m, m = (a + b) / 2 := ⟨_, rfl⟩
          rw [← hm]
          have e2 : (b - a) * (H + H + 1) = (m - a) * (H + H + 1) + (b - m) * (H + H + 1) := by rw [← Nat.add_mul]; congr 1; omega
          have e3 : 1 ≤ (m - a) * (H + H + 1) := Nat.mul_pos (by omega) (by omega)
          have e4 : 1 ≤ (b - m) * (H + H + 1) := Nat.mul_pos (by omega) (by omega)
          exact ((ih a m (by omega) (by omega)).add (ih m b (by omega) hb)).mono (by omega)
  exact (hB P.length 0 P.length (by omega) (Nat.le_refl _)).mono (by rw [Nat.sub_zero]; omega)
set_option maxHeartbeats 4000000 in
set_option maxRecDepth 100000 in
theorem add_v (H : Nat) (B : Int) {w : World} (T : Tb w) {p q : Option Addr} {n c m d : Nat} {P Q : List Tm} (hP : IsP w p n c P) (hQ : IsP w q m d Q) (bP : BdP H P) (bQ : BdP H Q) (eP : ExP B P) (eQ : ExP B Q) (hH : H ≤ 4000) (hB : 0 ≤ B ∧ B ≤ 4294967296) (hn : n + m ≤ 1000000) :
    Calls Tryz.prog 25 #[.slice p n c, .slice q m d] w (PPost w (addP P Q)) := by
  have hl := hP.len; have hl2 := hQ.len
  have hle := addP_len P Q
  have HA := hid (sum_v H B T hP hQ (by omega) bP bQ eP eQ hB hn)
  have HK := hid fun W p n c (h : IsP W p n c (addP P Q)) => clone_v (H + H + 1) B h (by omega) (bP.add bQ) (eP.add eQ) (by have := h.len; omega)
  unfold PPost at HA HK
  clear T hP hQ bP bQ eP eQ hl hl2 hle
  go_enter Tryz.func25, Tryz.ntmps25
  go_wp2_with (first
    | (go_at_call 84; (with_reducible refine HA.out.mono ?_); rintro e w1 ⟨p1, n1, c1, rfl, hP1, hg1⟩; have HP1 := hid hP1; clear hP1)
    | (go_at_call 82; (with_reducible refine (HK.out _ _ _ _ HP1.out).mono ?_); rintro e w2 ⟨p2, n2, c2, rfl, hP2, hg2⟩; have HP2 := hid hP2; clear hP2))
  go_ret
  exact ⟨p2, n2, c2, rfl, HP2.out, grown_trans hg1 hg2⟩
theorem BdP.neg {H : Nat} {P : List Tm} (h : BdP H P) : BdP H (negP P) := fun u hu => by
  unfold negP at hu
  obtain ⟨s, hs, rfl⟩ := List.mem_map.1 hu
  exact (h s hs).neg
theorem ExP.neg {B : Int} {P : List Tm} (h : ExP B P) : ExP B (negP P) := fun u hu => by
  unfold negP at hu
  obtain ⟨s, hs, rfl⟩ := List.mem_map.1 hu
  exact h s hs
theorem negP_len (P : List Tm) : (negP P).length = P.length := by unfold negP; rw [List.length_map]
set_option maxHeartbeats 4000000 in
set_option maxRecDepth 100000 in
theorem sub_v (H : Nat) (B : Int) {w : World} (T : Tb w) {p q : Option Addr} {n c m d : Nat} {P Q : List Tm} (hP : IsP w p n c P) (hQ : IsP w q m d Q) (bP : BdP H P) (bQ : BdP H Q) (eP : ExP B P) (eQ : ExP B Q) (hH : H ≤ 4000) (hB : 0 ≤ B ∧ B ≤ 4294967296) (hn : n + m ≤ 1000000) (hz : ∀ t ∈ Q, t.2 ≠ 0) :
    Calls Tryz.prog 27 #[.slice p n c, .slice q m d] w (PPost w (addP P (negP Q))) := by
  have hl := hP.len; have hl2 := hQ.len
  have hle := addP_len P (negP Q)
  have hle2 := negP_len Q
  have HO := hid (opposite_v hQ hz (by omega))
  have HA := hid fun W p' n' c' (hg : w.grownBy W none) (h : IsP W p' n' c' (negP Q)) => sum_v H B (T.keep hg) (hP.keep hg) h (by omega) bP bQ.neg eP eQ.neg hB (by have := h.len; omega)
  have HK := hid fun W p n c (h : IsP W p n c (addP P (negP Q))) => clone_v (H + H + 1) B h (by omega) (bP.add bQ.neg) (eP.add eQ.neg) (by have := h.len; omega)
  unfold PPost at HA HK HO
  clear T hP hQ bP bQ eP eQ hl hl2 hle hle2 hz
  go_enter Tryz.func27, Tryz.ntmps27
  go_wp2_with (first
    | (go_at_call 83; (with_reducible refine HO.out.mono ?_); rintro e w0 ⟨p0, n0, c0, rfl, hP0, hg0⟩; have HP0 := hid hP0; have HG0 := hid hg0; clear hP0 hg0)
    | (go_at_call 84; (with_reducible refine (HA.out _ _ _ _ HG0.out HP0.out).mono ?_); rintro e w1 ⟨p1, n1, c1, rfl, hP1, hg1⟩; have HP1 := hid hP1; clear hP1)
    | (go_at_call 82; (with_reducible refine (HK.out _ _ _ _ HP1.out).mono ?_); rintro e w2 ⟨p2, n2, c2, rfl, hP2, hg2⟩; have HP2 := hid hP2; clear hP2))
  go_ret
  exact ⟨p2, n2, c2, rfl, HP2.out, grown_trans HG0.out (grown_trans hg1 hg2)⟩
set_option maxHeartbeats 4000000 in
set_option maxRecDepth 100000 in
theorem mul_v (H : Nat) (B : Int) {w : World} (T : Tb w) {p q : Option Addr} {n c m d : Nat} {P Q : List Tm} (hP : IsP w p n c P) (hQ : IsP w q m d Q) (bP : BdP H P) (bQ : BdP H Q) (eP : ExP B P) (eQ : ExP B Q) (hB : 0 ≤ B ∧ B ≤ 2147483648) (nP : NF P) (nQ : NF Q) (hn : n ≤ 1000000) (hm : m ≤ 1000000) (hnm : n * m ≤ 1000000) (hH : H ≤ 9000) (hM : min n m * (H + H + 1) ≤ 9000) :
    Calls Tryz.prog 29 #[.slice p n c, .slice q m d] w (PPost w (mulP P Q)) := by
  have hl := hP.len; have hl2 := hQ.len
  have hle := mulP_len P Q
  rw [hl, hl2] at hle
  have HA := hid (product_v H B T hP hQ bP bQ eP eQ hB nP nQ hn hm hnm hH hM)
  have hbd : BdP 9000 (mulP P Q) := by
    rcases Nat.le_total n m with h | h
    · rw [Nat.min_eq_left h, ← hl] at hM
      exact ((BdP.mul bP bQ nP nQ).1).mono hM
    · rw [Nat.min_eq_right h, ← hl2] at hM
      rw [mulP_comm nP nQ]
      exact ((BdP.mul bQ bP nQ nP).1).mono hM
  have HK := hid fun W p n c (h : IsP W p n c (mulP P Q)) => clone_v 9000 (B + B) h (by omega) hbd ((BdP.mul bP bQ nP nQ).2 hB.1 eP eQ) (by have := h.len; omega)
  unfold PPost at HA HK
  clear T hP hQ bP bQ eP eQ hl hl2 hle hbd nP nQ hM hnm
  go_enter Tryz.func29, Tryz.ntmps29
  go_wp2_with (first
    | (go_at_call 86; (with_reducible refine HA.out.mono ?_); rintro e w1 ⟨p1, n1, c1, rfl, hP1, hg1⟩; have HP1 := hid hP1; clear hP1)
    | (go_at_call 82; (with_reducible refine (HK.out _ _ _ _ HP1.out).mono ?_); rintro e w2 ⟨p2, n2, c2, rfl, hP2, hg2⟩; have HP2 := hid hP2; clear hP2))
  go_ret
  exact ⟨p2, n2, c2, rfl, HP2.out, grown_trans hg1 hg2⟩
end Go.Proofs.YtknmdmofmcfjhaaGreatDoor

set_option linter.unusedVariables false
set_option linter.unusedSimpArgs false
namespace Go.Proofs.YtknmdmofmcfjhaaGreatDoor
open Go Go.RowKit _root_.Nm
end Go.Proofs.YtknmdmofmcfjhaaGreatDoor

set_option linter.unusedVariables false
set_option linter.unusedSimpArgs false
namespace Go.Proofs.YtknmdmofmcfjhaaGreatDoor
open Go Go.RowKit _root_.Nm
theorem ZRd.nil (w : World) : ZRd w .i64 none 0 0 [] := ⟨rfl, Nat.le_refl _, by omega, fun j h => absurd h (Nat.not_lt_zero j)⟩
end Go.Proofs.YtknmdmofmcfjhaaGreatDoor

set_option linter.unusedVariables false
set_option linter.unusedSimpArgs false
namespace Go.Proofs.YtknmdmofmcfjhaaGreatDoor
open Go Go.RowKit _root_.Nm
theorem run_make_m1 (w : World) : (Instr.makeSlice 31 (.int .i64 1) (.int .i64 1)).run Tryz.prog w = .ok (.slice (some ⟨w.heap.size, 0, none⟩) 1 1) (w.alloc (.cells #[.int .i64 0] 3)) := by
  obtain ⟨i, hi, hz0, hz1, hz2⟩ := info_parts infoInt
  have hb : (i.bytes : Int) * ((1 : Nat) : Int) ≤ 281474976710656 := by rw [hz2]; omega
  have hr := run_make (P := Tryz.prog) w 31 3 i (.int .i64 0) Tryz.underlying31 hi hz0 .i64 .i64 1 1 (by omega) (by omega) hb (by omega)
  have h1 : (1 : Int).toNat = 1 := rfl
  rw [h1, hz1] at hr
  have hm : madeCells (Value.int .i64 0).cells (1 * 1) = #[.int .i64 0] := by kernel_rfl
  rw [hm] at hr
  exact hr
set_option maxHeartbeats 4000000 in
set_option maxRecDepth 100000 in
theorem var0_v {w : World} (T : Tb w) : Calls Tryz.prog 53 #[.int .i64 0] w (PPost w (one [1] 1)) := by
  have hz : ∀ W, W.heap[w.heap.size]? = some (.cells #[.int .i64 1] 3 (0, 0)) → ZRd W .i64 (some ⟨w.heap.size, 0, none⟩) 1 1 [1] := fun W h => ⟨rfl, Nat.le_refl _, by omega, fun j hj => ⟨_, _, rfl, by
    rw [cell_of_row W w.heap.size (0 + j) _ _ _ h]
    match j, hj with
    | 0, _ => rfl⟩⟩
  have hmk := run_make_m1
  have gA := World.grownBy_alloc w (.cells #[.int .i64 1] 3 (0, 0)) none
  have HX := hid (hz _ (blk0 w (.cells #[.int .i64 1] 3 (0, 0))))
  have HT := hid (T.keep gA)
  have HO := hid fun W => ratOf_v 1 W (by omega) (by omega)
  have HS := hid fun W (hg : (w.alloc (.cells #[.int .i64 1] 3 (0, 0))).grownBy W none) g p n c q m d (h : IsV W g p n c q m d ((1 : Int) : Rat)) (hn : n ≤ 4) (hm : m ≤ 4) => single_v 4 (HT.out.keep hg) h.q hn hm (by omega) (HX.out.keep hg)
  have e1 : ((1 : Int) : Rat) = 1 := rfl
  rw [e1] at HO HS
  unfold VPost at HO
  unfold PPost at HS
  have HG := hid gA
  clear T hz gA HX HT e1
  go_enter Tryz.func53, Tryz.ntmps53
  go_upto_region 5 with fail
  go_wp2_with (first
    | (go_at_call 91; (with_reducible refine (HO.out _).mono ?_); rintro e w1 ⟨g1, p1, n1, c1, q1, m1, d1, rfl, hV1, hn1, hm1, hg1⟩; have HV1 := hid hV1; clear hV1)
    | (go_at_call 61; (with_reducible refine (HS.out _ hg1 _ _ _ _ _ _ _ HV1.out hn1 hm1).mono ?_); rintro e w2 ⟨p2, n2, c2, rfl, hP2, hg2⟩; have HP2 := hid hP2; clear hP2))
  go_ret
  exact ⟨_, _, _, rfl, HP2.out, grown_trans HG.out (grown_trans hg1 hg2)⟩
theorem run_make_m2 (w : World) : (Instr.makeSlice 31 (.int .i64 2) (.int .i64 2)).run Tryz.prog w = .ok (.slice (some ⟨w.heap.size, 0, none⟩) 2 2) (w.alloc (.cells #[.int .i64 0, .int .i64 0] 3)) := by
  obtain ⟨i, hi, hz0, hz1, hz2⟩ := info_parts infoInt
  have hb : (i.bytes : Int) * ((2 : Nat) : Int) ≤ 281474976710656 := by rw [hz2]; omega
  have hr := run_make (P := Tryz.prog) w 31 3 i (.int .i64 0) Tryz.underlying31 hi hz0 .i64 .i64 2 2 (by omega) (by omega) hb (by omega)
  have h1 : (2 : Int).toNat = 2 := rfl
  rw [h1, hz1] at hr
  have hm : madeCells (Value.int .i64 0).cells (2 * 1) = #[.int .i64 0, .int .i64 0] := by kernel_rfl
  rw [hm] at hr
  exact hr
set_option maxHeartbeats 4000000 in
set_option maxRecDepth 100000 in
theorem var1_v {w : World} (T : Tb w) : Calls Tryz.prog 53 #[.int .i64 1] w (PPost w (one [0, 1] 1)) := by
  have hz : ∀ W, W.heap[w.heap.size]? = some (.cells #[.int .i64 0, .int .i64 1] 3 (0, 0)) → ZRd W .i64 (some ⟨w.heap.size, 0, none⟩) 2 2 [0, 1] := fun W h => ⟨rfl, Nat.le_refl _, by omega, fun j hj => ⟨_, _, rfl, by
    rw [cell_of_row W w.heap.size (0 + j) _ _ _ h]
    match j, hj with
    | 0, _ => rfl
    | 1, _ => rfl⟩⟩
  have hmk := run_make_m2
  have gA := World.grownBy_alloc w (.cells #[.int .i64 0, .int .i64 1] 3 (0, 0)) none
  have HX := hid (hz _ (blk0 w (.cells #[.int .i64 0, .int .i64 1] 3 (0, 0))))
  have HT := hid (T.keep gA)
  have HO := hid fun W => ratOf_v 1 W (by omega) (by omega)
  have HS := hid fun W (hg : (w.alloc (.cells #[.int .i64 0, .int .i64 1] 3 (0, 0))).grownBy W none) g p n c q m d (h : IsV W g p n c q m d ((1 : Int) : Rat)) (hn : n ≤ 4) (hm : m ≤ 4) => single_v 4 (HT.out.keep hg) h.q hn hm (by omega) (HX.out.keep hg)
  have e1 : ((1 : Int) : Rat) = 1 := rfl
  rw [e1] at HO HS
  unfold VPost at HO
  unfold PPost at HS
  have HG := hid gA
  clear T hz gA HX HT e1
  go_enter Tryz.func53, Tryz.ntmps53
  go_upto_region 5 with fail
  go_wp2_with (first
    | (go_at_call 91; (with_reducible refine (HO.out _).mono ?_); rintro e w1 ⟨g1, p1, n1, c1, q1, m1, d1, rfl, hV1, hn1, hm1, hg1⟩; have HV1 := hid hV1; clear hV1)
    | (go_at_call 61; (with_reducible refine (HS.out _ hg1 _ _ _ _ _ _ _ HV1.out hn1 hm1).mono ?_); rintro e w2 ⟨p2, n2, c2, rfl, hP2, hg2⟩; have HP2 := hid hP2; clear hP2))
  go_ret
  exact ⟨_, _, _, rfl, HP2.out, grown_trans HG.out (grown_trans hg1 hg2)⟩
end Go.Proofs.YtknmdmofmcfjhaaGreatDoor
