/-
  slices.Repeat at a slice of one 1; points.
-/
import Derived.Test.YtlkajmfpbgipbaaProg
import Derived.Test.YtlkajmfpbgipbaaMem
import Derived.Test.YtlkajmfpbgipbaaOwn
import Derived.Shelf.Bits.Mul64
import Derived.StillTailTactics
import Derived.Deep.DeepCutAuto
import Derived.IntWalk
set_option linter.unusedVariables false
set_option linter.unusedSimpArgs false
namespace Go.Proofs.Ytlkajmfpbgipbaa
open Go.Shelf Go.RowKit _root_.Nm
set_option maxRecDepth 100000
def astRen : Ren := ⟨fun n => match n with
    | 212 => 87
    | 263 => 88
    | 264 => 89
    | n => n,
  fun n => match n with
    | 46 => 92
    | 51 => 102
    | 53 => 105
    | 146 => 103
    | 148 => 106
    | n => n,
  fun n => n⟩
theorem ast212 : Lays.n212 Try.prog astRen where
  mixed := by kernel_rfl
  f212 := by kernel_rfl
  f263 := by kernel_rfl
  f264 := by kernel_rfl
  t46 := by kernel_rfl
  a46 := fun _ => by kernel_rfl
  z46 := fun _ => by kernel_rfl
  v46 := fun _ => by kernel_rfl
  t51 := by kernel_rfl
  a51 := fun _ => by kernel_rfl
  z51 := fun _ => by kernel_rfl
  v51 := fun _ => by kernel_rfl
  t53 := by kernel_rfl
  a53 := fun _ => by kernel_rfl
  z53 := fun _ => by kernel_rfl
  v53 := fun _ => by kernel_rfl
  t146 := by kernel_rfl
  a146 := fun _ => by kernel_rfl
  z146 := fun _ => by kernel_rfl
  v146 := fun _ => by kernel_rfl
  t148 := by kernel_rfl
  a148 := fun _ => by kernel_rfl
  z148 := fun _ => by kernel_rfl
  v148 := fun _ => by kernel_rfl
/-- the address is a new one -/
def Frs (w : World) (p : Option Addr) : Prop := ∀ a, p = some a → w.heap.size ≤ a.block
theorem mul_any (x y : Nat) (h : x * y < 18446744073709551616) (hx : x < 18446744073709551616) (hy : y < 18446744073709551616) (w : World) : Calls Try.prog 87 #[.int .u64 (x : Int), .int .u64 (y : Int)] w fun e w' => e = .returned (.tuple #[.int .u64 0, .int .u64 ((x * y : Nat) : Int)]) ∧ w = w' := by
  refine (Any.bits_Mul ast212 x y hx hy w).mono ?_
  rintro e w' ⟨rfl, h2⟩
  rw [Nat.div_eq_of_lt h, Nat.mod_eq_of_lt h]
  exact ⟨rfl, h2.symm⟩
theorem mul_one_any (y : Nat) (hy : y < 18446744073709551616) (w : World) : Calls Try.prog 87 #[.int .u64 1, .int .u64 (y : Int)] w fun e w' => e = .returned (.tuple #[.int .u64 0, .int .u64 (y : Int)]) ∧ w = w' := by
  have := mul_any 1 y (by omega) (by omega) hy w
  rw [Nat.one_mul] at this
  exact this
theorem infoInt : (Try.prog.info? 3).map (fun i => (i.zero, i.size, i.bytes)) = some (some (.int .i64 0), 1, 8) := by kernel_rfl
theorem sizeInt : (Try.prog.info? 3).map (·.size) = some 1 := by kernel_rfl
def ones (m n : Nat) : List Nat := List.replicate m 1 ++ List.replicate (n - m) 0
theorem ones_len {m n : Nat} (h : m ≤ n) : (ones m n).length = n := by simp [ones]; omega
theorem ones_take {m n : Nat} (h : m ≤ n) : (ones m n).take m = List.replicate m 1 := by
  unfold ones; rw [List.take_left' (by simp)]
theorem ones_splice {m n : Nat} (h : m ≤ n) : splice (ones m n) m ((List.replicate m 1).take (n - m)) = ones (m + min m (n - m)) n := by
  unfold splice ones
  rw [List.take_left' (by simp), List.take_replicate, List.length_replicate, List.drop_append, List.length_replicate, List.drop_of_length_le (by simp), List.nil_append, List.drop_replicate, ← List.append_assoc, List.replicate_append_replicate]
  rw [show m + min (n - m) m = m + min m (n - m) by omega, show n - m - (m + min m (n - m) - m) = n - (m + min m (n - m)) by omega]

set_option maxHeartbeats 4000000 in
theorem repeat_any (n b o c : Nat) (hn1 : 1 ≤ n) (hn : n ≤ 1000) (w : World) (h : IRd w .i64 (some ⟨b, o, none⟩) 1 c [1]) :
    Calls Try.prog 85 #[.slice (some ⟨b, o, none⟩) 1 c, .int .i64 (n : Int)] w fun e w' => ∃ p, e = .returned (.slice p n n) ∧ Frs w p ∧ IRd w' .i64 p n n (List.replicate n 1) ∧ w.grownBy w' none := by
  have HM := hid (mul_one_any n (by omega))
  have HR := hid h
  have hb := (h.block (by omega))
  have hc := h.cap
  have hm := h.max
  clear h hb
  go_enter Try.func85, Try.ntmps85
  have hmn : ¬ ((n : Int) < 0) := by omega
  have hmin : min 1 n = 1 := by omega
  have hminI : min (1 : Int) (n : Int) = 1 := by omega
  have hw1 : IntKind.u64.wrap (n : Int) = (n : Int) := by rw [IntKind.wrap_u64]; omega
  have hw2 : IntKind.i64.wrap (n : Int) = (n : Int) := IntWalk.i64_in _ (by omega)
  have hw3 : ¬ (9223372036854775807 < (n : Int)) := by omega
  go_wp2_with (first | (go_at_call 87; (with_reducible refine (HM.out _).mono ?_); rintro e w' ⟨rfl, rfl⟩) | (with_reducible refine wl_make _ rfl (.tmp 29) (.tmp 29) 37 rfl 3 .i64 8 Try.underlying37 infoInt .i64 .i64 _ _ rfl rfl n rfl rfl (by omega) (by omega) ?_; intro w1 hr1 hg1; have hx1 := HR.out.keep hg1) | (with_reducible refine wl_copy _ rfl (.tmp 31) (.tmp 32) 37 37 rfl 3 Try.underlying37 sizeInt .i64 _ _ n n 1 c rfl rfl w.heap.size 0 _ _ [1] hr1 (fun _ => rfl) hx1 (by simp) ?_; intro w2 hr2 hg2))
  have hs0 : splice (List.replicate n 0) 0 (List.take n [1]) = ones 1 n := by
    obtain ⟨k, rfl⟩ : ∃ k, n = k + 1 := ⟨n - 1, by omega⟩
    unfold splice ones
    simp [List.drop_replicate]
  rw [hs0] at hr2
  have hgw : w.grownBy w2 none := grown_new hg1 hg2 (fun g e => by cases e; exact Nat.le_refl _)
  clear hs0 HM hr1 hx1 hg1 hg2
  go_wp2_with fail
  go_loopw [8] (fun x wr => ∃ m : Nat, x = .int .i64 m ∧ 1 ≤ m ∧ m ≤ n ∧ IRow wr w.heap.size 3 .i64 (ones m n) ∧ w.grownBy wr none) (fun x _ => n - (intOf x).toNat)
  case atStart => exact ⟨1, rfl, Nat.le_refl _, hn1, hr2, hgw⟩
  case round =>
    clear hr2 hgw
    obtain ⟨m, rfl, hm1, hmn', hr, hg⟩ := hrel
    by_cases hlt : m < n
    · have hsrc : IRd wr .i64 (some ⟨w.heap.size, 0, none⟩) m n (List.replicate m 1) := by
        have := hr.rd 0 m n (by rw [ones_len hmn']; omega) hmn' (by omega)
        rwa [List.drop_zero, ones_take hmn'] at this
      go_wp2_with fail
      have hcur : wr.drew.heap[w.heap.size]? = some (.cells ((ones m n).map (iv .i64)).toArray 3 (0, 0)) := hr
      have hcs : (List.replicate (min m (n - m)) (iv .i64 1)).length = Nat.min m (n - m) := List.length_replicate
      have hpos : 0 < (List.replicate (min m (n - m)) (iv .i64 1)).length → (some (⟨w.heap.size, m, none⟩ : Addr)) = some ⟨w.heap.size, m, none⟩ ∧ ∃ ad, (some (⟨w.heap.size, 0, none⟩ : Addr)) = some ad ∧ ∀ j v, (List.replicate (min m (n - m)) (iv .i64 1))[j]? = some v → wr.drew.cell? (ad.add j) = some v := fun _ => ⟨rfl, _, rfl, fun j v hv => by
        obtain ⟨hj, rfl⟩ := List.getElem?_eq_some_iff.1 hv
        rw [List.length_replicate] at hj
        have := hr.cell j (by rw [ones_len hmn']; omega)
        rw [add_addr, Nat.zero_add]
        show wr.cell? _ = _
        rw [this]
        have e : (ones m n)[j]'(by rw [ones_len hmn']; omega) = 1 := by unfold ones; rw [List.getElem_append_left (by simp; omega)]; simp
        rw [e]; simp⟩
      have hfit : m + (List.replicate (min m (n - m)) (iv .i64 1)).length ≤ ((ones m n).map (iv .i64)).length := by rw [List.length_map, ones_len hmn', List.length_replicate]; omega
      have h1c : ∀ v ∈ List.replicate (min m (n - m)) (iv .i64 1), v.oneCell' = true := fun v hv => by rw [List.eq_of_mem_replicate hv]; rfl
      have hbel : Below w.heap.size w wr.drew := grown_below (grown_trans hg (grown_drew _ _))
      have HH1 := hid hcur
      have HH2 := hid hcs
      have HH3 := hid hpos
      have HH4 := hid hfit
      have HH5 := hid h1c
      have HH6 := hid hbel
      clear hcur hcs hpos hfit h1c hbel
      have hsp := @ones_splice m n hmn'
      have hns : splice ((ones m n).map (iv .i64)) m (List.replicate (min m (n - m)) (iv .i64 1)) = (ones (m + min m (n - m)) n).map (iv .i64) := by
        rw [← hsp, List.take_replicate, Nat.min_comm]
        unfold splice
        simp
      have HNS := hid hns
      clear hsp hns
      go_region_law (refine step_copy_splice rfl (.tmp 41) (.tmp 44) 37 37 rfl 3 Try.underlying37 sizeInt (some ⟨w.heap.size, m, none⟩) (some ⟨w.heap.size, 0, none⟩) (n - m) (n - m) m n (by simp [Act.eval, Act.put]; omega) (by simp [Act.eval, Act.put]) w.heap.size m _ _ HH1.out _ HH2.out HH3.out HH4.out HH5.out w.heap.size w HH6.out (Nat.le_refl _) ?_; intro w4 hg4 hb4)
      all_goals
        have hlen : (List.replicate (min m (n - m)) (iv .i64 1)).length = min m (n - m) := List.length_replicate
        rw [HNS.out] at hg4
        have HG4 := hid hg4
        clear hg4
        have hwr : IntKind.i64.wrap ((m : Int) + ((min m (n - m) : Nat) : Int)) = ((m + min m (n - m) : Nat) : Int) := by rw [IntWalk.i64_in _ (by omega)]; omega
        go_simp
        refine ⟨?_, ?_⟩
        · (repeat apply Exists.intro)
          exact ⟨⟨m + min m (n - m), by rw [Int.natCast_add], by omega, by omega, HG4.out, below_grown hb4⟩, rfl⟩
        · simp [intOf, hwr]; omega
    · obtain rfl : m = n := by omega
      go_wp2_with fail
      go_ret
      refine ⟨_, rfl, fun a e => by cases e; exact Nat.le_refl _, ?_, hg⟩
      have := hr.rd0 (by rw [ones_len hmn']; omega)
      rw [ones_len hmn'] at this
      have e : ones m m = List.replicate m 1 := by unfold ones; simp
      rwa [e] at this

theorem points_any (n : Nat) (hn1 : 1 ≤ n) (hn : n ≤ 1000) (x : Int) (hx : x = (n : Int)) (w : World) :
    Calls Try.prog 83 #[.int .i64 x] w fun e w' => ∃ p, e = .returned (.slice p n n) ∧ Frs w p ∧ IRd w' .i64 p n n (List.replicate n 1) ∧ w.grownBy w' none := by
  subst hx
  have HR := hid fun (b c : Nat) (w : World) (h : IRd w .i64 (some ⟨b, 0, none⟩) 1 c [1]) => repeat_any n b 0 c hn1 hn w h
  have h1 := (IRow.made w 3 .i64 [1]).rd0 (by simp)
  have H1 : Hid (IRd (w.alloc (.cells #[.int .i64 1] 3)) .i64 (some ⟨w.heap.size, 0, none⟩) 1 1 [1]) := hid h1
  clear h1
  go_enter Try.func83, Try.ntmps83
  go_wp2_with (go_at_call 85; (with_reducible refine (HR.out _ _ _ H1.out).mono ?_); rintro e w' ⟨p, rfl, hf, hr, hg⟩)
  go_ret
  exact ⟨p, rfl, fun a e => by have := hf a e; simp at this; omega, hr, grown_trans (World.grownBy_alloc _ _ _) hg⟩
end Go.Proofs.Ytlkajmfpbgipbaa
