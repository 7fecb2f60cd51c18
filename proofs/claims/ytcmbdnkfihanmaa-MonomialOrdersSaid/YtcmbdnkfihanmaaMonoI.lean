/-
  What the statements about monomials share: alive, right; arguments opened.
-/
import Derived.Test.YtcmbdnkfihanmaaProg
import Derived.Test.YtcmbdnkfihanmaaRows
import Derived.Test.YtcmbdnkfihanmaaMonoG
import Derived.Test.YtcmbdnkfihanmaaMonoH
import Derived.WalkKit
import Derived.ProofKit
import Derived.OpenShut
set_option linter.unusedVariables false
set_option linter.unusedSimpArgs false
namespace Go.Proofs.Ytcmbdnkfihanmaa
open Go.ChangeShapes Go.WideShapes Go.ChangeAt Go.RowKit Nm

theorem own5 : ownKnob Try.prog.godebug = none := by kernel_rfl
theorem laidOut5 : laidOutB Try.prog = true := by kernel_rfl
theorem cellsI : Try.prog.cellsOf 3 = 1 := by kernel_rfl
theorem readMono : Try.prog.readableRec 35 = true := by kernel_rfl
theorem rowMono : 35 < Try.prog.types.size := of_decide_eq_true (by kernel_rfl)

section
variable {H : Type} {enc : TypeId × Value → H} {W : World} {v : Value} {d : DataW H} {ps : List MemPlace}
theorem open_mono (hval : Value.okWide Try.prog W .any 0 35 v) (h0 : DataW.Trod enc Try.prog W 0 (fun _ => true) true 35 v d ps) :
    ∃ a n c xs, v = .slice a n c ∧ ZRd W .i64 a n c xs := by
  obtain ⟨a0, len, cap, rfl⟩ := okWide_slice Try.underlying35 hval
  obtain ⟨fuel, hf⟩ := h0
  refine ⟨a0, len, cap, ?_⟩
  rcases open_ints Try.underlying35 Try.underlying3 cellsI hf with ⟨hcs, hx⟩ | ⟨a, len', cap', zs, hcs, _, hl, hm, hz, hx, hcell, hwz⟩
  · simp [Value.cells] at hcs
    obtain ⟨rfl, rfl, rfl⟩ := hcs
    exact ⟨[], rfl, ZRd.nil W _⟩
  · simp [Value.cells] at hcs
    obtain ⟨rfl, rfl, rfl⟩ := hcs
    simp only [if_true] at hz
    refine ⟨zs.take len, rfl, ⟨by simp; omega, hl, by unfold maxLen at hm; omega, fun j hj => ?_⟩⟩
    have hj' : j < len := by simp at hj; omega
    have hc := hcell j (by omega)
    have hg : zs.getD j 0 = zs[j]'(by omega) := by simp [List.getD, List.getElem?_eq_getElem (show j < zs.length by omega)]
    have hsp := World.cell?_spot (hcell 0 (by omega))
    have ha : ∃ b o, a = ⟨b, o, none⟩ := ⟨a.block, a.off, by
      cases a with
      | mk b o s => simp [Addr.add] at hsp; simp [hsp]⟩
    obtain ⟨b, o, rfl⟩ := ha
    refine ⟨b, o, rfl, ?_⟩
    rw [add_addr] at hc
    rw [hc, hg]
    simp
end

theorem ztwo_rd (w : World) (e : TypeId) (k : IntKind) (v u : Int) : ZRd (w.alloc (.cells #[.int k v, .int k u] e)) k (some ⟨w.heap.size, 0, none⟩) 2 2 [v, u] :=
  (ZRow.made w e k [v, u]).rd0 (by simp)

theorem sameM_true {a b : Option Addr} {n m c d : Nat} {xs ys : List Int} {w : World} (h : ZRd w .i64 a n c xs) (k : ZRd w .i64 b m d ys) (e : xs = ys) :
    Calls Try.prog 23 #[.slice a n c, .slice b m d] w fun e w' => e = .returned (.bool true) ∧ w.grownBy w' none := by
  have := sameM_any a b n m c d xs ys w h k
  rwa [decide_eq_true e] at this
theorem sameM_false {a b : Option Addr} {n m c d : Nat} {xs ys : List Int} {w : World} (h : ZRd w .i64 a n c xs) (k : ZRd w .i64 b m d ys) (e : xs ≠ ys) :
    Calls Try.prog 23 #[.slice a n c, .slice b m d] w fun e w' => e = .returned (.bool false) ∧ w.grownBy w' none := by
  have := sameM_any a b n m c d xs ys w h k
  rwa [decide_eq_false e] at this
set_option maxHeartbeats 1000000 in
theorem alive5 (w : World) : Calls Try.prog 20 #[] w fun e w' => e = .returned (.bool true) ∧ w.grownBy w' none := by
  have hr1 : RightZ 1048576 [2, 1] := by decide
  have hr2 : RightZ 1048576 [1] := by decide
  have hr3 : RightZ 1048576 [5] := by decide
  have hr4 : RightZ 1048576 [0, 1] := by decide
  have e1 : quoZ [2, 1] [1] = [1, 1] := by decide
  have e2 : dvdB [1] [2, 1] = true := by decide
  have e3 : degZ [2, 1] = 3 := by decide
  have e4 : ordZ 0 [5] [0, 1] = -1 := by decide
  have H1 := hid e1
  have H2 := hid e2
  have H3 := hid e3
  have H4 := hid e4
  clear e1 e2 e3 e4
  have k1 : ZRd ((w.alloc (.cells #[.int .i64 2, .int .i64 1] 3)).alloc (.cells #[.int .i64 1] 3)) .i64 (some ⟨w.heap.size, 0, none⟩) 2 2 [2, 1] := (ztwo_rd w _ _ 2 1).keep (World.grownBy_alloc _ _ _)
  have k2 : ZRd ((w.alloc (.cells #[.int .i64 2, .int .i64 1] 3)).alloc (.cells #[.int .i64 1] 3)) .i64 (some ⟨w.heap.size + 1, 0, none⟩) 1 1 [1] := by
    have := zone_rd (w.alloc (.cells #[.int .i64 2, .int .i64 1] 3)) 3 .i64 1 1 rfl
    simpa using this
  have kg : w.grownBy ((w.alloc (.cells #[.int .i64 2, .int .i64 1] 3)).alloc (.cells #[.int .i64 1] 3)) none := grown_trans (World.grownBy_alloc _ _ _) (World.grownBy_alloc _ _ _)
  have Q := hid (quo_any _ _ _ _ _ _ _ _ _ k1 k2 hr1 hr2 (by omega) (by omega))
  rw [H1.out, H2.out] at Q
  go_enter Try.func20, Try.ntmps20
  go_wp2_with fail
  refine Q.out.mono ?_
  rintro e w1 ⟨p, c, rfl, hq, hg⟩
  replace k1 := k1.keep hg
  have hW := grown_trans kg hg
  clear k2 kg hg Q
  go_wp2_with fail
  refine (main_any _ _ _ _ _ k1 hr1.last).mono ?_
  rintro e w' ⟨rfl, rfl⟩
  go_wp2_with fail
  refine (degree_any _ _ _ _ _ k1 hr1 (by omega)).mono ?_
  rw [H3.out]
  rintro e w' ⟨rfl, rfl⟩
  go_wp2_with fail
  have Hg : w1.grownBy (w1.alloc (.cells #[.int .i64 1, .int .i64 1] 3)) none := World.grownBy_alloc _ _ _
  refine (sameM_true (hq.keep Hg) (ztwo_rd _ _ _ 1 1) rfl).mono ?_
  rintro e w2 ⟨rfl, hg⟩
  replace hW := grown_trans (grown_trans hW Hg) hg
  clear hg Hg hq k1
  go_wp2_with fail
  have m1 : ZRd ((w2.alloc (.cells #[.int .i64 5] 3)).alloc (.cells #[.int .i64 0, .int .i64 1] 3)) .i64 (some ⟨w2.heap.size, 0, none⟩) 1 1 [5] := (zone_rd w2 _ _ 5 5 rfl).keep (World.grownBy_alloc _ _ _)
  have m2 : ZRd ((w2.alloc (.cells #[.int .i64 5] 3)).alloc (.cells #[.int .i64 0, .int .i64 1] 3)) .i64 (some ⟨w2.heap.size + 1, 0, none⟩) 2 2 [0, 1] := by
    have := ztwo_rd (w2.alloc (.cells #[.int .i64 5] 3)) 3 .i64 0 1
    simpa using this
  have C := hid (cmpM_any _ _ _ _ _ _ _ _ 0 _ m1 m2 hr3 hr4 (by omega) (by omega))
  rw [H4.out] at C
  have hW2 := grown_trans (grown_trans hW (World.grownBy_alloc w2 (.cells #[.int .i64 5] 3) none)) (World.grownBy_alloc _ (.cells #[.int .i64 0, .int .i64 1] 3) none)
  clear m1 m2 hW
  refine C.out.mono ?_
  rintro e w' ⟨rfl, rfl⟩
  go_wp2_with fail
  go_ret
  exact ⟨rfl, hW2⟩

theorem right4_iff {xs : List Int} : RightZ 262144 xs ↔ RightZ 1048576 xs ∧ ∀ j (h : j < xs.length), xs[j] ≤ 262144 := by
  refine ⟨fun h => ⟨h.mono (by omega), fun j hj => (h.bound _ (List.getElem_mem hj)).2⟩, fun ⟨h, k⟩ => ⟨h.len, h.last, fun x hx => ⟨(h.bound x hx).1, ?_⟩⟩⟩
  obtain ⟨j, hj, rfl⟩ := List.getElem_of_mem hx
  exact k j hj
/-- one of the monomials of a list, as it lies in memory -/
structure MArg where
  a : Option Addr
  n : Nat
  c : Nat
  xs : List Int
set_option maxHeartbeats 1000000 in
/-- right: whether all of some monomials are valid, with small exponents -/
theorem right5_any (g c : Nat) (vs : List MArg) (w : World) (hn : vs.length ≤ 1000) (h : ∀ j (hj : j < vs.length), w.cell? ⟨g, j, none⟩ = some (.slice vs[j].a vs[j].n vs[j].c) ∧ ZRd w .i64 vs[j].a vs[j].n vs[j].c vs[j].xs) :
    Calls Try.prog 44 #[.slice (some ⟨g, 0, none⟩) vs.length c] w fun e w' => e = .returned (.bool (decide (∀ v ∈ vs, RightZ 262144 v.xs))) ∧ w = w' := by
  obtain ⟨n, hnn⟩ : ∃ n, n = vs.length := ⟨_, rfl⟩
  rw [← hnn] at hn ⊢
  have H := hid h
  have HN := hid hnn
  clear h hnn
  go_enter Try.func44, Try.ntmps44
  go_wp2_with fail
  go_loop [3] (fun i => ∃ k : Nat, k ≤ n ∧ i = .int .i64 k ∧ Hid (∀ j (hj : j < vs.length), j < k → RightZ 262144 vs[j].xs)) (fun i => n - (intOf i).toNat)
  case atStart => exact ⟨0, Nat.zero_le _, rfl, hid fun j _ h => by omega⟩
  case round =>
    obtain ⟨k, hk, rfl, HK⟩ := hrel
    by_cases hlt : k < n
    · have hkv : k < vs.length := by rw [← HN.out]; exact hlt
      obtain ⟨hc, hz⟩ := H.out k hkv
      have stop : ¬ RightZ 262144 vs[k].xs → Hid (decide (∀ v ∈ vs, RightZ 262144 v.xs) = false) := fun hh => hid (decide_eq_false fun h => hh (h _ (List.getElem_mem hkv)))
      have step : RightZ 262144 vs[k].xs → Hid (∀ j (hj : j < vs.length), j < k + 1 → RightZ 262144 vs[j].xs) := fun hh => hid fun j hj hjk => by
        by_cases e : j = k
        · subst e; exact hh
        · exact HK.out j hj (by omega)
      generalize vs[k] = v at *
      obtain ⟨p, m, d, zs⟩ := v
      simp only [] at hc hz stop step
      have hki : (k : Int) < (n : Int) := by omega
      have hzm := hz.max
      have hzc := hz.cap
      have ZL := hid hz.len
      have R := hid (rright_any p m d zs w hz)
      by_cases hr : RightZ 1048576 zs
      · rw [decide_eq_true hr] at R
        have STEP := hid (fun h => step (right4_iff.2 ⟨hr, h⟩))
        have STOP := hid (fun j hj (h : ¬ zs[j] ≤ 262144) => stop fun hh => h ((right4_iff.1 hh).2 j hj))
        clear step stop hr
        go_wp2_with (go_at_call 22; (with_reducible refine (R.out).mono ?_); rintro e w' ⟨rfl, rfl⟩)
        go_loop [4] (fun i => ∃ j : Nat, j ≤ m ∧ i = .int .i64 j ∧ Hid (∀ i (hi : i < zs.length), i < j → zs[i] ≤ 262144)) (fun i => m - (intOf i).toNat)
        case atStart => exact ⟨0, Nat.zero_le _, rfl, hid fun j _ h => by omega⟩
        case round =>
          obtain ⟨j, hj, rfl, HJ⟩ := hrel
          by_cases hjt : j < m
          · have hjz : j < zs.length := by rw [ZL.out]; exact hjt
            have hji : (j : Int) < (m : Int) := by omega
            obtain ⟨b, o, rfl, hcj⟩ := hz.cel j hjz
            have ST1 := hid (STOP.out j hjz)
            have ST2 : Hid (zs[j] ≤ 262144 → ∀ i (hi : i < zs.length), i < j + 1 → zs[i] ≤ 262144) := hid fun hh i hi hi2 => by
              by_cases e : i = j
              · subst e; exact hh
              · exact HJ.out i hi (by omega)
            generalize zs[j] = x at *
            clear hz
            by_cases hx : x ≤ 262144
            · have hx2 : ¬ 262144 < x := by omega
              have ST3 := hid (ST2.out hx)
              clear hx
              go_wp2
              exact ⟨⟨j + 1, by omega, rfl, ST3⟩, by simp [intOf]; omega⟩
            · have hx2 : 262144 < x := by omega
              have ST3 := ST1.out (by omega)
              clear hx
              go_wp2
              go_ret
              rw [ST3.out]
              exact ⟨rfl, rfl⟩
          · obtain rfl : j = m := by omega
            have ST := STEP.out (fun i hi => HJ.out i hi (by rw [← ZL.out]; exact hi))
            go_wp2
            exact ⟨⟨k + 1, by omega, rfl, ST⟩, by simp [intOf]; omega⟩
      · rw [decide_eq_false hr] at R
        have ST := stop (fun hh => hr (right4_iff.1 hh).1)
        clear step stop hr
        go_wp2_with (go_at_call 22; (with_reducible refine (R.out).mono ?_); rintro e w' ⟨rfl, rfl⟩)
        go_ret
        rw [ST.out]
        exact ⟨rfl, rfl⟩
    · obtain rfl : k = n := by omega
      go_wp2
      go_ret
      have : ∀ v ∈ vs, RightZ 262144 v.xs := fun v hv => by
        obtain ⟨j, hj, rfl⟩ := List.getElem_of_mem hv
        exact HK.out j hj (by rw [HN.out]; exact hj)
      rw [decide_eq_true this]
      exact ⟨rfl, rfl⟩

theorem right5_three (a b r : Option Addr) (n m l c d k : Nat) (xs ys zs : List Int) (w : World) (h1 : ZRd w .i64 a n c xs) (h2 : ZRd w .i64 b m d ys) (h3 : ZRd w .i64 r l k zs) :
    Calls Try.prog 44 #[.slice (some ⟨w.heap.size, 0, none⟩) 3 3] (w.alloc (.cells #[.slice a n c, .slice b m d, .slice r l k] 35)) fun e w' =>
      e = .returned (.bool (decide (RightZ 262144 xs ∧ RightZ 262144 ys ∧ RightZ 262144 zs))) ∧ w.grownBy w' none := by
  have hg := World.grownBy_alloc w (.cells #[.slice a n c, .slice b m d, .slice r l k] 35) none
  have := right5_any w.heap.size 3 [⟨a, n, c, xs⟩, ⟨b, m, d, ys⟩, ⟨r, l, k, zs⟩] (w.alloc (.cells #[.slice a n c, .slice b m d, .slice r l k] 35)) (by simp) (fun j hj => by
    match j, hj with
    | 0, _ => exact ⟨by simp, h1.keep hg⟩
    | 1, _ => exact ⟨by simp, h2.keep hg⟩
    | 2, _ => exact ⟨by simp, h3.keep hg⟩)
  refine this.mono fun e w' ⟨h1, h2⟩ => ⟨by simpa using h1, h2 ▸ hg⟩
end Go.Proofs.Ytcmbdnkfihanmaa
