/-
  AstA AstM AstT EqA EqM EqB AstU AstN Ard EqC AstV AstW EqX AstG AstH AstB AstC AstD AstI AstE EqD, in one text.
-/
import Derived.Test.YtjpkncgfpbhnaaaGreatDoorProg
import Derived.Test.YtjpkncgfpbhnaaaGreatDoorMrN
import Derived.Shelf.Bits.Mul64
import Derived.StillTailTactics
import Derived.Deep.DeepCutAuto
import Derived.IntWalk
import Derived.Lib.Strings
import Derived.KernelRfl
import Derived.Test.YtjpkncgfpbhnaaaGreatDoorMrL
import Derived.Test.YtjpkncgfpbhnaaaGreatDoorRows
import Derived.WalkKit
import Derived.ProofKit
import Derived.OpenShut
import Derived.Deep.RegionHeld3
set_option linter.unusedVariables false
set_option linter.unusedSimpArgs false
set_option maxRecDepth 100000
namespace Go.Proofs.YtjpkncgfpbhnaaaGreatDoor
open Go.Shelf Go.RowKit _root_.Nm
def astRen : Ren := ⟨fun n => match n with
    | 212 => 263
    | 263 => 290
    | 264 => 255
    | n => n,
  fun n => match n with
    | 46 => 192
    | 51 => 294
    | 53 => 213
    | 146 => 295
    | 148 => 257
    | n => n,
  fun n => n⟩
theorem ast212 : Lays.n212 Tryz.prog astRen where
  mixed := by kernel_rfl
  f212 := by kernel_rfl
  f263 := by kernel_rfl
  f264 := by kernel_rfl
  t46 := by kernel_rfl
  a46 := fun _ => by kernel_rfl
  z46 := fun _ => by kernel_rfl
  v46 := fun _ => by kernel_rfl
  t51 := by kernel_rfl
  a51 := fun _ => by kernel_rfl
  z51 := fun _ => by kernel_rfl
  v51 := fun _ => by kernel_rfl
  t53 := by kernel_rfl
  a53 := fun _ => by kernel_rfl
  z53 := fun _ => by kernel_rfl
  v53 := fun _ => by kernel_rfl
  t146 := by kernel_rfl
  a146 := fun _ => by kernel_rfl
  z146 := fun _ => by kernel_rfl
  v146 := fun _ => by kernel_rfl
  t148 := by kernel_rfl
  a148 := fun _ => by kernel_rfl
  z148 := fun _ => by kernel_rfl
  v148 := fun _ => by kernel_rfl
def Frs (w : World) (p : Option Addr) : Prop := ∀ a, p = some a → w.heap.size ≤ a.block
theorem mul_any (x y : Nat) (h : x * y < 18446744073709551616) (hx : x < 18446744073709551616) (hy : y < 18446744073709551616) (w : World) : Calls Tryz.prog 263 #[.int .u64 (x : Int), .int .u64 (y : Int)] w fun e w' => e = .returned (.tuple #[.int .u64 0, .int .u64 ((x * y : Nat) : Int)]) ∧ w = w' := by
  refine (Any.bits_Mul ast212 x y hx hy w).mono ?_
  rintro e w' ⟨rfl, h2⟩
  rw [Nat.div_eq_of_lt h, Nat.mod_eq_of_lt h]
  exact ⟨rfl, h2.symm⟩
theorem mul_one_any (y : Nat) (hy : y < 18446744073709551616) (w : World) : Calls Tryz.prog 263 #[.int .u64 1, .int .u64 (y : Int)] w fun e w' => e = .returned (.tuple #[.int .u64 0, .int .u64 (y : Int)]) ∧ w = w' := by
  have := mul_any 1 y (by omega) (by omega) hy w
  rw [Nat.one_mul] at this
  exact this
theorem infoInt : (Tryz.prog.info? 3).map (fun i => (i.zero, i.size, i.bytes)) = some (some (.int .i64 0), 1, 8) := by kernel_rfl
theorem sizeInt : (Tryz.prog.info? 3).map (·.size) = some 1 := by kernel_rfl
def ones (m n : Nat) : List Nat := List.replicate m 1 ++ List.replicate (n - m) 0
theorem ones_len {m n : Nat} (h : m ≤ n) : (ones m n).length = n := by simp [ones]; omega
theorem ones_take {m n : Nat} (h : m ≤ n) : (ones m n).take m = List.replicate m 1 := by
  unfold ones; rw [List.take_left' (by simp)]
theorem ones_splice {m n : Nat} (h : m ≤ n) : splice (ones m n) m ((List.replicate m 1).take (n - m)) = ones (m + min m (n - m)) n := by
  unfold splice ones
  rw [List.take_left' (by simp), List.take_replicate, List.length_replicate, List.drop_append, List.length_replicate, List.drop_of_length_le (by simp), List.nil_append, List.drop_replicate, ← List.append_assoc, List.replicate_append_replicate]
  rw [show m + min (n - m) m = m + min m (n - m) by omega, show n - m - (m + min m (n - m) - m) = n - (m + min m (n - m)) by omega]
set_option maxHeartbeats 4000000 in
theorem repeat_any (n b o c : Nat) (hn1 : 1 ≤ n) (hn : n ≤ 1000) (w : World) (h : IRd w .i64 (some ⟨b, o, none⟩) 1 c [1]) :
    Calls Tryz.prog 232 #[.slice (some ⟨b, o, none⟩) 1 c, .int .i64 (n : Int)] w fun e w' => ∃ p, e = .returned (.slice p n n) ∧ Frs w p ∧ IRd w' .i64 p n n (List.replicate n 1) ∧ w.grownBy w' none := by
  have HM := hid (mul_one_any n (by omega))
  have HR := hid h
  have hb := (h.block (by omega))
  have hc := h.cap
  have hm := h.max
  clear h hb
  go_enter Tryz.func232, Tryz.ntmps232
  have hmn : ¬ ((n : Int) < 0) := by omega
  have hmin : min 1 n = 1 := by omega
  have hminI : min (1 : Int) (n : Int) = 1 := by omega
  have hw1 : IntKind.u64.wrap (n : Int) = (n : Int) := by rw [IntKind.wrap_u64]; omega
  have hw2 : IntKind.i64.wrap (n : Int) = (n : Int) := IntWalk.i64_in _ (by omega)
  have hw3 : ¬ (9223372036854775807 < (n : Int)) := by omega
  go_wp2_with (first | (go_at_call 263; (with_reducible refine (HM.out _).mono ?_); rintro e w' ⟨rfl, rfl⟩) | (with_reducible refine wl_make _ rfl (.tmp 29) (.tmp 29) 47 rfl 3 .i64 8 Tryz.underlying47 infoInt .i64 .i64 _ _ rfl rfl n rfl rfl (by omega) (by omega) ?_; intro w1 hr1 hg1; have hx1 := HR.out.keep hg1) | (with_reducible refine wl_copy _ rfl (.tmp 31) (.tmp 32) 47 47 rfl 3 Tryz.underlying47 sizeInt .i64 _ _ n n 1 c rfl rfl w.heap.size 0 _ _ [1] hr1 (fun _ => rfl) hx1 (by simp) ?_; intro w2 hr2 hg2))
  have hs0 : splice (List.replicate n 0) 0 (List.take n [1]) = ones 1 n := by
    obtain ⟨k, rfl⟩ : ∃ k, n = k + 1 := ⟨n - 1, by omega⟩
    unfold splice ones
    simp [List.drop_replicate]
  rw [hs0] at hr2
  have hgw : w.grownBy w2 none := grown_new hg1 hg2 (fun g e => by cases e; exact Nat.le_refl _)
  clear hs0 HM hr1 hx1 hg1 hg2
  go_wp2_with fail
  go_loopw [8] (fun x wr => ∃ m : Nat, x = .int .i64 m ∧ 1 ≤ m ∧ m ≤ n ∧ IRow wr w.heap.size 3 .i64 (ones m n) ∧ w.grownBy wr none) (fun x _ => n - (intOf x).toNat)
  case atStart => exact ⟨1, rfl, Nat.le_refl _, hn1, hr2, hgw⟩
  case round =>
    clear hr2 hgw
    obtain ⟨m, rfl, hm1, hmn', hr, hg⟩ := hrel
    by_cases hlt : m < n
    · have hsrc : IRd wr .i64 (some ⟨w.heap.size, 0, none⟩) m n (List.replicate m 1) := by
        have := hr.rd 0 m n (by rw [ones_len hmn']; omega) hmn' (by omega)
        rwa [List.drop_zero, ones_take hmn'] at this
      go_wp2_with fail
      have hcur : wr.drew.heap[w.heap.size]? = some (.cells ((ones m n).map (iv .i64)).toArray 3 (0, 0)) := hr
      have hcs : (List.replicate (min m (n - m)) (iv .i64 1)).length = Nat.min m (n - m) := List.length_replicate
      have hpos : 0 < (List.replicate (min m (n - m)) (iv .i64 1)).length → (some (⟨w.heap.size, m, none⟩ : Addr)) = some ⟨w.heap.size, m, none⟩ ∧ ∃ ad, (some (⟨w.heap.size, 0, none⟩ : Addr)) = some ad ∧ ∀ j v, (List.replicate (min m (n - m)) (iv .i64 1))[j]? = some v → wr.drew.cell? (ad.add j) = some v := fun _ => ⟨rfl, _, rfl, fun j v hv => by
        obtain ⟨hj, rfl⟩ := List.getElem?_eq_some_iff.1 hv
        rw [List.length_replicate] at hj
        have := hr.cell j (by rw [ones_len hmn']; omega)
        rw [add_addr, Nat.zero_add]
        show wr.cell? _ = _
        rw [this]
        have e : (ones m n)[j]'(by rw [ones_len hmn']; omega) = 1 := by unfold ones; rw [List.getElem_append_left (by simp; omega)]; simp
        rw [e]; simp⟩
      have hfit : m + (List.replicate (min m (n - m)) (iv .i64 1)).length ≤ ((ones m n).map (iv .i64)).length := by rw [List.length_map, ones_len hmn', List.length_replicate]; omega
      have h1c : ∀ v ∈ List.replicate (min m (n - m)) (iv .i64 1), v.oneCell' = true := fun v hv => by rw [List.eq_of_mem_replicate hv]; rfl
      have hbel : Below w.heap.size w wr.drew := grown_below (grown_trans hg (grown_drew _ _))
      have HH1 := hid hcur
      have HH2 := hid hcs
      have HH3 := hid hpos
      have HH4 := hid hfit
      have HH5 := hid h1c
      have HH6 := hid hbel
      clear hcur hcs hpos hfit h1c hbel
      have hsp := @ones_splice m n hmn'
      have hns : splice ((ones m n).map (iv .i64)) m (List.replicate (min m (n - m)) (iv .i64 1)) = (ones (m + min m (n - m)) n).map (iv .i64) := by
        rw [← hsp, List.take_replicate, Nat.min_comm]
        unfold splice
        simp
      have HNS := hid hns
      clear hsp hns
      go_region_law (refine step_copy_splice rfl (.tmp 41) (.tmp 44) 47 47 rfl 3 Tryz.underlying47 sizeInt (some ⟨w.heap.size, m, none⟩) (some ⟨w.heap.size, 0, none⟩) (n - m) (n - m) m n (by simp [Act.eval, Act.put]; omega) (by simp [Act.eval, Act.put]) w.heap.size m _ _ HH1.out _ HH2.out HH3.out HH4.out HH5.out w.heap.size w HH6.out (Nat.le_refl _) ?_; intro w4 hg4 hb4)
      all_goals
        have hlen : (List.replicate (min m (n - m)) (iv .i64 1)).length = min m (n - m) := List.length_replicate
        rw [HNS.out] at hg4
        have HG4 := hid hg4
        clear hg4
        have hwr : IntKind.i64.wrap ((m : Int) + ((min m (n - m) : Nat) : Int)) = ((m + min m (n - m) : Nat) : Int) := by rw [IntWalk.i64_in _ (by omega)]; omega
        go_simp
        refine ⟨?_, ?_⟩
        · (repeat apply Exists.intro)
          exact ⟨⟨m + min m (n - m), by rw [Int.natCast_add], by omega, by omega, HG4.out, below_grown hb4⟩, rfl⟩
        · simp [intOf, hwr]; omega
    · obtain rfl : m = n := by omega
      go_wp2_with fail
      go_ret
      refine ⟨_, rfl, fun a e => by cases e; exact Nat.le_refl _, ?_, hg⟩
      have := hr.rd0 (by rw [ones_len hmn']; omega)
      rw [ones_len hmn'] at this
      have e : ones m m = List.replicate m 1 := by unfold ones; simp
      rwa [e] at this
theorem points_any (n : Nat) (hn1 : 1 ≤ n) (hn : n ≤ 1000) (x : Int) (hx : x = (n : Int)) (w : World) :
    Calls Tryz.prog 189 #[.int .i64 x] w fun e w' => ∃ p, e = .returned (.slice p n n) ∧ Frs w p ∧ IRd w' .i64 p n n (List.replicate n 1) ∧ w.grownBy w' none := by
  subst hx
  have HR := hid fun (b c : Nat) (w : World) (h : IRd w .i64 (some ⟨b, 0, none⟩) 1 c [1]) => repeat_any n b 0 c hn1 hn w h
  have h1 := (IRow.made w 3 .i64 [1]).rd0 (by simp)
  have H1 : Hid (IRd (w.alloc (.cells #[.int .i64 1] 3)) .i64 (some ⟨w.heap.size, 0, none⟩) 1 1 [1]) := hid h1
  clear h1
  go_enter Tryz.func189, Tryz.ntmps189
  go_wp2_with (go_at_call 232; (with_reducible refine (HR.out _ _ _ H1.out).mono ?_); rintro e w' ⟨p, rfl, hf, hr, hg⟩)
  go_ret
  exact ⟨p, rfl, fun a e => by have := hf a e; simp at this; omega, hr, grown_trans (World.grownBy_alloc _ _ _) hg⟩
end Go.Proofs.YtjpkncgfpbhnaaaGreatDoor
namespace Ax
structure Ent where
  k : Nat
  s : Nat
  w : List UInt8
  p : List Nat
def tab : List Ent := [
  ⟨10, 1, [109, 105, 100, 112, 111, 105, 110, 116], [1, 1]⟩,
  ⟨11, 1, [100, 105, 118, 105, 100, 101], [1, 1]⟩,
  ⟨12, 1, [114, 101, 102, 108, 101, 99, 116], [1, 1]⟩,
  ⟨13, 1, [109, 105, 114, 114, 111, 114], [1, 2]⟩,
  ⟨14, 1, [102, 111, 111, 116], [1, 2]⟩,
  ⟨15, 1, [109, 101, 101, 116], [2, 2]⟩,
  ⟨16, 1, [111, 110], [0]⟩,
  ⟨17, 1, [111, 116, 104, 101, 114], [1, 1, 1]⟩,
  ⟨18, 1, [99, 111, 109, 109, 111, 110], [1, 1, 1]⟩,
  ⟨19, 1, [99, 101, 110, 116, 101, 114], [1, 1, 1]⟩,
  ⟨20, 1, [115, 104, 105, 102, 116], [1, 1, 1]⟩,
  ⟨21, 1, [116, 117, 114, 110], [1, 1]⟩,
  ⟨22, 1, [99, 117, 116], [2, 3]⟩,
  ⟨23, 1, [99, 114, 111, 115, 115], [3, 3]⟩,
  ⟨24, 1, [97, 112, 101, 120], [1, 1]⟩,
  ⟨40, 2, [108, 105, 110, 101], [1, 1]⟩,
  ⟨41, 2, [112, 97, 114, 97, 108, 108, 101, 108], [1, 2]⟩,
  ⟨42, 2, [112, 101, 114, 112, 101, 110, 100, 105, 99, 117, 108, 97, 114], [1, 2]⟩,
  ⟨43, 2, [98, 105, 115, 101, 99, 116, 111, 114], [1, 1]⟩,
  ⟨50, 3, [99, 105, 114, 99, 108, 101], [1, 1]⟩,
  ⟨51, 3, [99, 105, 114, 99, 117, 109], [1, 1, 1]⟩,
  ⟨60, 4, [99, 111, 108, 108, 105, 110, 101, 97, 114], [1, 1, 1]⟩,
  ⟨61, 4, [112, 97, 114, 97, 108, 108, 101, 108], [2, 2]⟩,
  ⟨62, 4, [112, 101, 114, 112, 101, 110, 100, 105, 99, 117, 108, 97, 114], [2, 2]⟩,
  ⟨63, 4, [99, 111, 110, 103, 114, 117, 101, 110, 116], [1, 1, 1, 1]⟩,
  ⟨64, 4, [109, 105, 100, 112, 111, 105, 110, 116], [1, 1, 1]⟩,
  ⟨65, 4, [99, 111, 110, 99, 121, 99, 108, 105, 99], [1, 1, 1, 1]⟩,
  ⟨66, 4, [97, 110, 103, 108, 101], [1, 1, 1, 1, 1, 1]⟩,
  ⟨67, 4, [115, 97, 109, 101], [1, 1]⟩,
  ⟨68, 4, [114, 97, 116, 105, 111], [1, 1, 1, 1]⟩]
def ent (k : Int) : Option Ent := tab.find? fun e => decide ((e.k : Int) = k)
def srt (k : Int) : Nat := match ent k with | some e => e.s | none => 0
def wrd (k : Int) : List UInt8 := match ent k with | some e => e.w | none => []
def prm (k : Int) : List Nat := match ent k with | some e => e.p | none => []
def pS (s : Nat) (k : Int) : List UInt8 × List Nat := match ent k with | some e => if e.s = s then (e.w, e.p) else ([], []) | none => ([], [])
def knd (w : List UInt8) : Nat := match tab.find? fun e => decide (e.w = w) with | some e => e.k | none => 0
theorem ent_mem {k : Int} {e : Ent} (h : ent k = some e) : e ∈ tab ∧ (e.k : Int) = k := by
  unfold ent at h
  have h2 := List.find?_some h
  exact ⟨List.mem_of_find?_eq_some h, of_decide_eq_true h2⟩
theorem tab_good : ∀ e ∈ tab, (e.s = 1 ∨ e.s = 2 ∨ e.s = 3 ∨ e.s = 4) ∧ e.w ≠ [] ∧ 10 ≤ e.k ∧ e.k ≤ 68 := by decide
theorem pS_none {s : Nat} {k : Int} {ks : List Nat} (h : ∀ e ∈ tab, e.s = s → e.k ∈ ks) (hk : ∀ j ∈ ks, k ≠ (j : Int)) : pS s k = ([], []) := by
  unfold pS
  cases he : ent k with
  | none => rfl
  | some e =>
    obtain ⟨h1, h2⟩ := ent_mem he
    dsimp only
    rw [if_neg (fun hs => hk _ (h e h1 hs) h2.symm)]
theorem kinds_cases (k : Int) : (srt k = 0 ∧ wrd k = [] ∧ prm k = [] ∧ ∀ s, pS s k = ([], [])) ∨ (wrd k ≠ [] ∧ (srt k = 1 ∨ srt k = 2 ∨ srt k = 3 ∨ srt k = 4) ∧ ∀ s, pS s k = if srt k = s then (wrd k, prm k) else ([], [])) := by
  unfold srt wrd prm pS
  cases he : ent k with
  | none => exact .inl ⟨rfl, rfl, rfl, fun _ => rfl⟩
  | some e =>
    obtain ⟨h1, h2, h3⟩ := tab_good e (ent_mem he).1
    exact .inr ⟨h2, h1, fun _ => rfl⟩
def allB (p : Nat → Bool) : Nat → Bool
  | 0 => true
  | n + 1 => allB p n && p n
theorem allB_spec {p : Nat → Bool} : ∀ {n : Nat}, allB p n = true → ∀ i, i < n → p i = true
  | 0, _, i, h => absurd h (Nat.not_lt_zero i)
  | n + 1, h, i, hi => by
    simp only [allB, Bool.and_eq_true] at h
    by_cases e : i = n
    · subst e; exact h.2
    · exact allB_spec h.1 i (by omega)
theorem knd_first {k : Nat} (h1 : 10 ≤ k) (h2 : k ≤ 68) (hw : wrd k ≠ []) (h : ∀ j, 10 ≤ j → j < k → wrd (j : Nat) ≠ wrd k) : knd (wrd k) = k := by
  have hb := allB_spec (p := fun k => decide (k < 10) || (decide (wrd (k : Nat) = []) || (decide (knd (wrd (k : Nat)) = k) || !(allB (fun j => decide (j < 10) || !(decide (wrd (j : Nat) = wrd (k : Nat)))) k)))) (n := 69) (by kernel_rfl) k (by omega)
  simp only [Bool.or_eq_true, decide_eq_true_eq, Bool.not_eq_true'] at hb
  rcases hb with hb | hb | hb | hb
  · omega
  · exact absurd hb hw
  · exact hb
  · have : allB (fun j => decide (j < 10) || !(decide (wrd (j : Nat) = wrd (k : Nat)))) k = true := by
      have gen : ∀ n, n ≤ k → allB (fun j => decide (j < 10) || !(decide (wrd (j : Nat) = wrd (k : Nat)))) n = true := by
        intro n
        induction n with
        | zero => intro _; rfl
        | succ n ih =>
          intro hn
          simp only [allB, Bool.and_eq_true]
          refine ⟨ih (by omega), ?_⟩
          by_cases h10 : n < 10
          · simp [h10]
          · have := h n (by omega) (by omega)
            simp [this]
      exact gen k (Nat.le_refl _)
    rw [this] at hb; cases hb
theorem ent_self : ∀ e ∈ tab, ent e.k = some e := by
  have h : ∀ i, i < 30 → (match tab[i]? with | some e => (match ent e.k with | some f => decide (e.k = f.k) && (decide (e.s = f.s) && (decide (e.w = f.w) && decide (e.p = f.p))) | none => false) | none => true) = true :=
    allB_spec (p := fun i => match tab[i]? with | some e => (match ent e.k with | some f => decide (e.k = f.k) && (decide (e.s = f.s) && (decide (e.w = f.w) && decide (e.p = f.p))) | none => false) | none => true) (by kernel_rfl)
  intro e he
  obtain ⟨i, hi, rfl⟩ := List.getElem_of_mem he
  have := h i hi
  rw [List.getElem?_eq_getElem hi] at this
  dsimp only at this
  cases hf : ent (tab[i]).k with
  | none => rw [hf] at this; cases this
  | some f =>
    rw [hf] at this
    simp only [Bool.and_eq_true, decide_eq_true_eq] at this
    generalize tab[i] = e at this ⊢
    obtain ⟨a, b, c, d⟩ := e
    obtain ⟨a', b', c', d'⟩ := f
    obtain ⟨rfl, rfl, rfl, rfl⟩ := this
    rfl
theorem knd_none {w : List UInt8} (h : ∀ j, 10 ≤ j → j ≤ 68 → wrd (j : Nat) ≠ w) : knd w = 0 := by
  unfold knd
  cases hf : tab.find? fun e => decide (e.w = w) with
  | none => rfl
  | some e =>
    have hm := List.mem_of_find?_eq_some hf
    have h2 := List.find?_some hf
    have hw : e.w = w := of_decide_eq_true h2
    obtain ⟨_, _, h3, h4⟩ := tab_good e hm
    refine absurd ?_ (h e.k h3 h4)
    unfold wrd
    rw [ent_self e hm]
    exact hw
theorem knd_nil : knd [] = 0 := by kernel_rfl
end Ax
namespace Go.Proofs.YtjpkncgfpbhnaaaGreatDoor
open Go.RowKit _root_.Nm
structure Hd where
  k : Int
  nm : ByteArray
  g : Bool
  num : List Nat
  den : List Nat
  pos : Int
inductive Tr where
  | node (h : Hd) (l : List Tr)
def ERd (w : World) : Nat → List Value → Tr → Prop
  | 0, _, _ => False
  | m + 1, cs, .node h l => ∃ (pn : Option Addr) (nn cn : Nat) (pd : Option Addr) (nd cd : Nat) (pa : Option Addr) (na ca : Nat),
      cs = [.int .i64 h.k, .string h.nm, .bool h.g, .slice pn nn cn, .slice pd nd cd, .slice pa na ca, .int .i64 h.pos] ∧ IRd w .u16 pn nn cn h.num ∧ IRd w .u16 pd nd cd h.den ∧
      (l.length = na ∧ na ≤ ca ∧ ca ≤ 9223372036854775807 ∧ h.nm.size ≤ maxLen) ∧
      ∀ i (hi : i < l.length), ∃ b o cs', pa = some ⟨b, o, none⟩ ∧ cs'.length = 7 ∧ (∀ j (hj : j < cs'.length), w.cell? ⟨b, o + i * 7 + j, none⟩ = some cs'[j]) ∧ ERd w m cs' l[i]
theorem ERd.keep {w w' : World} (hg : w.grownBy w' none) : ∀ {m : Nat} {cs : List Value} {t : Tr}, ERd w m cs t → ERd w' m cs t
  | 0, _, _, h => h.elim
  | m + 1, cs, .node h l, ⟨pn, nn, cn, pd, nd, cd, pa, na, ca, h1, h2, h3, h4, h5⟩ => by
    refine ⟨pn, nn, cn, pd, nd, cd, pa, na, ca, h1, h2.keep hg, h3.keep hg, h4, fun i hi => ?_⟩
    obtain ⟨b, o, cs', k1, k2, k3, k4⟩ := h5 i hi
    exact ⟨b, o, cs', k1, k2, fun j hj => hg.cell (k3 j hj) (by simp), k4.keep hg⟩
theorem ERd.shape {w : World} : ∀ {m : Nat} {cs : List Value} {t : Tr}, ERd w m cs t → ∃ (k : Int) (nm : ByteArray) (g : Bool) (pn : Option Addr) (nn cn : Nat) (pd : Option Addr) (nd cd : Nat) (pa : Option Addr) (na ca : Nat) (pos : Int), cs = [.int .i64 k, .string nm, .bool g, .slice pn nn cn, .slice pd nd cd, .slice pa na ca, .int .i64 pos]
  | 0, _, _, h => h.elim
  | m + 1, cs, .node h l, ⟨pn, nn, cn, pd, nd, cd, pa, na, ca, h1, _⟩ => ⟨_, _, _, _, _, _, _, _, _, _, _, _, _, h1⟩
theorem seven {l : List Value} (h : l.length = 7) : ∃ a b c d e f g, l = [a, b, c, d, e, f, g] := by
  match l, h with
  | [a, b, c, d, e, f, g], _ => exact ⟨a, b, c, d, e, f, g, rfl⟩
theorem box7 {w : World} {G : Nat} {a b c d e f g : Value} {T : TypeId} (hb : w.heap[G]? = some (.cells #[a, b, c, d, e, f, g] T (0, 0))) :
    (w.cell? ⟨G, 0, none⟩ = some a ∧ w.cell? ⟨G, 1, none⟩ = some b ∧ w.cell? ⟨G, 2, none⟩ = some c ∧ w.cell? ⟨G, 3, none⟩ = some d ∧ w.cell? ⟨G, 4, none⟩ = some e ∧ w.cell? ⟨G, 5, none⟩ = some f ∧ w.cell? ⟨G, 6, none⟩ = some g) ∧
    w.frozen? ⟨G, 0, none⟩ = false ∧ w.frozen? ⟨G, 1, none⟩ = false ∧ w.frozen? ⟨G, 2, none⟩ = false ∧ w.frozen? ⟨G, 3, none⟩ = false ∧ w.frozen? ⟨G, 4, none⟩ = false ∧ w.frozen? ⟨G, 5, none⟩ = false ∧ w.frozen? ⟨G, 6, none⟩ = false := by
  have k := fun i => cell_of_row w G i _ _ _ hb
  have k0 := k 0
  have k1 := k 1
  have k2 := k 2
  have k3 := k 3
  have k4 := k 4
  have k5 := k 5
  have k6 := k 6
  simp at k0 k1 k2 k3 k4 k5 k6
  have f := fun i => frozen_of_row w G i _ _ hb
  exact ⟨⟨k0, k1, k2, k3, k4, k5, k6⟩, f 0, f 1, f 2, f 3, f 4, f 5, f 6⟩
theorem lists_step {xs ys : List Nat} {k : Nat} (h : ∀ j, j < k → xs[j]? = ys[j]?) (hk : xs[k]? = ys[k]?) : ∀ j, j < k + 1 → xs[j]? = ys[j]? := by
  intro j hj
  by_cases e : j = k
  · rw [e]; exact hk
  · exact h j (by omega)
theorem lists_end {xs ys : List Nat} (hl : xs.length = ys.length) (h : ∀ j, j < xs.length → xs[j]? = ys[j]?) : xs = ys := by
  apply List.ext_getElem? 
  intro j
  by_cases hj : j < xs.length
  · exact h j hj
  · rw [List.getElem?_eq_none (by omega), List.getElem?_eq_none (by omega)]
set_option maxHeartbeats 4000000 in
set_option maxRecDepth 100000 in
theorem sameNat_any (p q : Option Addr) (n c n' d : Nat) (xs ys : List Nat) (b : Bool) (hb : b = true ↔ xs = ys) (w : World) (h1 : IRd w .u16 p n c xs) (h2 : IRd w .u16 q n' d ys) :
    Calls Tryz.prog 99 #[.slice p n c, .slice q n' d] w fun e w' => e = .returned (.bool b) ∧ w.grownBy w' none := by
  have hl := h1.len
  have hc := h1.cap
  have hm := h1.max
  have hl2 := h2.len
  have hc2 := h2.cap
  have hm2 := h2.max
  have H1 := hid h1
  have H2 := hid h2
  have HB := hid hb
  clear h1 h2 hb
  by_cases hnn : n = n'
  · subst hnn
    go_enter Tryz.func99, Tryz.ntmps99
    go_wp2_with fail
    go_loopw [13] (fun x wr => ∃ k : Nat, k ≤ n ∧ x = .int .i64 k ∧ w.grownBy wr none ∧ ∀ j, j < k → xs[j]? = ys[j]?) (fun x _ => n - (intOf x).toNat)
    case atStart => exact ⟨0, Nat.zero_le _, rfl, grown_refl _ _, fun j h => absurd h (Nat.not_lt_zero j)⟩
    case round =>
      obtain ⟨k, hk, rfl, hg, hall⟩ := hrel
      by_cases hlt : k < n
      · obtain ⟨b1, o1, rfl, e1⟩ := (H1.out.keep hg).cel k (by omega)
        obtain ⟨b2, o2, rfl, e2⟩ := (H2.out.keep hg).cel k (by omega)
        have HS := hid (lists_step hall)
        have HX : Hid (xs[k]? = some (xs[k]'(by omega))) := hid (List.getElem?_eq_getElem (by omega))
        have HY : Hid (ys[k]? = some (ys[k]'(by omega))) := hid (List.getElem?_eq_getElem (by omega))
        clear hall
        generalize xs[k] = x at *
        generalize ys[k] = y at *
        by_cases hxy : x = y
        · subst hxy
          go_wp2_with fail
          go_quiet (fail)
          go_wp2_with fail
          exact ⟨⟨k + 1, by omega, by go_num, gdN hg _, HS.out (HX.out.trans HY.out.symm)⟩, by simp [intOf]; omega⟩
        · have hz : ¬ (x : Int) = (y : Int) := by omega
          obtain rfl : b = false := by
            rw [← Bool.not_eq_true, HB.out]
            rintro rfl
            have := HX.out.symm.trans HY.out
            exact hxy (by simpa using this)
          go_wp2_with fail
          go_quiet (fail)
          go_wp2_with fail
          go_ret
          exact ⟨rfl, gdN hg _⟩
      · obtain rfl : k = n := by omega
        obtain rfl : b = true := HB.out.2 (lists_end (by omega) (fun j hj => hall j (by omega)))
        go_wp2_with fail
        go_ret
        exact ⟨rfl, hg⟩
  · obtain rfl : b = false := by
      rw [← Bool.not_eq_true, HB.out]
      rintro rfl
      omega
    have hz : ¬ (n : Int) = (n' : Int) := by omega
    go_enter Tryz.func99, Tryz.ntmps99
    go_wp2_with fail
    go_ret
    exact ⟨rfl, grown_refl _ _⟩
def EqP : Nat → Tr → Tr → Prop
  | 0, _, _ => False
  | m + 1, .node h l, .node h' l' => (h.k = h'.k ∧ h.nm = h'.nm ∧ (h.g = h'.g ∧ h.num = h'.num ∧ h.den = h'.den)) ∧ l.length = l'.length ∧ ∀ i (hi : i < l.length) (hi' : i < l'.length), EqP m l[i] l'[i]
theorem box3c {w : World} {G : Nat} {x y z : Value} {T : TypeId} (hb : w.heap[G]? = some (.cells #[x, y, z] T (0, 0))) : w.cell? ⟨G, 0, none⟩ = some x ∧ w.cell? ⟨G, 1, none⟩ = some y ∧ w.cell? ⟨G, 2, none⟩ = some z := by
  have k0 := cell_of_row w G 0 _ _ _ hb
  have k1 := cell_of_row w G 1 _ _ _ hb
  have k2 := cell_of_row w G 2 _ _ _ hb
  simp at k0 k1 k2
  exact ⟨k0, k1, k2⟩
set_option maxHeartbeats 8000000 in
set_option maxRecDepth 100000 in
theorem sameRat_any (g g' : Bool) (p q p' q' : Option Addr) (n c m d n' c' m' d' : Nat) (xs ys xs' ys' : List Nat) (b : Bool) (hb : b = true ↔ g = g' ∧ xs = xs' ∧ ys = ys') (w : World) (h1 : IRd w .u16 p n c xs) (h2 : IRd w .u16 q m d ys) (h1' : IRd w .u16 p' n' c' xs') (h2' : IRd w .u16 q' m' d' ys') :
    Calls Tryz.prog 53 #[.agg #[.bool g, .slice p n c, .slice q m d], .agg #[.bool g', .slice p' n' c', .slice q' m' d']] w fun e w' => e = .returned (.bool b) ∧ w.grownBy w' none := by
  obtain ⟨b1, hb1⟩ : ∃ b1 : Bool, b1 = true ↔ xs = xs' := ⟨decide (xs = xs'), by simp⟩
  obtain ⟨b2, hb2⟩ : ∃ b2 : Bool, b2 = true ↔ ys = ys' := ⟨decide (ys = ys'), by simp⟩
  have hbb : b = (decide (g = g') && (b1 && b2)) := by
    rw [Bool.eq_iff_iff, hb]
    simp [hb1, hb2]
  subst hbb
  obtain ⟨k0, k1, k2⟩ := box3c (blk1 w (.cells #[.bool g, .slice p n c, .slice q m d] 35 (0, 0)) (.cells #[.bool g', .slice p' n' c', .slice q' m' d'] 35 (0, 0)))
  have bx2 := blk0 (w.alloc (.cells #[.bool g, .slice p n c, .slice q m d] 35 (0, 0))) (.cells #[.bool g', .slice p' n' c', .slice q' m' d'] 35 (0, 0))
  rw [show (w.alloc (.cells #[.bool g, .slice p n c, .slice q m d] 35 (0, 0))).heap.size = w.heap.size + 1 by simp] at bx2
  obtain ⟨l0, l1, l2⟩ := box3c bx2
  have hW := grown_trans (World.grownBy_alloc w (.cells #[.bool g, .slice p n c, .slice q m d] 35 (0, 0)) none) (World.grownBy_alloc _ (.cells #[.bool g', .slice p' n' c', .slice q' m' d'] 35 (0, 0)) none)
  have HE1 := hid fun w' (hg : w.grownBy w' none) => sameNat_any p p' n c n' c' xs xs' b1 hb1 w' (h1.keep hg) (h1'.keep hg)
  have HE2 := hid fun w' (hg : w.grownBy w' none) => sameNat_any q q' m d m' d' ys ys' b2 hb2 w' (h2.keep hg) (h2'.keep hg)
  clear h1 h2 h1' h2' hb hb1 hb2 bx2
  cases g <;> cases g' <;> cases b1
  all_goals
    go_enter Tryz.func53, Tryz.ntmps53
    go_upto_region 1 with fail
    generalize ((w.alloc _).alloc _) = w0 at *
    go_wp2_with (first
      | (go_at_call 99; refine (HE1.out _ hW).mono ?_; rintro e w1 ⟨rfl, hg⟩; replace hW := grown_trans hW hg; replace k0 := hg.cell k0 (by simp); replace k1 := hg.cell k1 (by simp); replace k2 := hg.cell k2 (by simp); replace l0 := hg.cell l0 (by simp); replace l1 := hg.cell l1 (by simp); replace l2 := hg.cell l2 (by simp); clear HE1 hg)
      | (go_at_call 99; refine (HE2.out _ hW).mono ?_; rintro e w1 ⟨rfl, hg⟩; replace hW := grown_trans hW hg; replace k0 := hg.cell k0 (by simp); replace k1 := hg.cell k1 (by simp); replace k2 := hg.cell k2 (by simp); replace l0 := hg.cell l0 (by simp); replace l1 := hg.cell l1 (by simp); replace l2 := hg.cell l2 (by simp); clear HE2 hg))
    go_ret
    exact ⟨by simp, hW⟩
def depF : Nat → Tr → Int
  | 0, _ => 0
  | m + 1, .node _ l => wrap64 ((l.map (depF m)).foldl max 0 + 1)
def most (m : Nat) (l : List Tr) : Int := (l.map (depF m)).foldl max 0
theorem bytes_eq {a b : ByteArray} : a.toList = b.toList ↔ a = b := by
  constructor
  · intro h
    rw [Lib.toList_data, Lib.toList_data] at h
    cases a; cases b
    rw [ByteArray.mk.injEq]
    exact Array.toList_inj.1 h
  · exact fun h => h ▸ rfl
def NRd (w : World) (p : Option Addr) (n c : Nat) (L : List ByteArray) : Prop := SRd w 1 p n c (L.map fun d => [.string d])
theorem NRd.len {w : World} {p : Option Addr} {n c : Nat} {L : List ByteArray} (h : NRd w p n c L) : L.length = n := by
  have := SRd.len h
  simpa using this
theorem NRd.keep {w w' : World} {p : Option Addr} {n c : Nat} {L : List ByteArray} (h : NRd w p n c L) (hg : w.grownBy w' none) : NRd w' p n c L := SRd.keep h hg
theorem NRd.at1 {w : World} {p : Option Addr} {n c : Nat} {L : List ByteArray} (h : NRd w p n c L) {i : Nat} (hi : i < L.length) : ∃ b o, p = some ⟨b, o, none⟩ ∧ w.cell? ⟨b, o + i, none⟩ = some (.string L[i]) := by
  obtain ⟨b, o, hp, hc⟩ := SRd.at h (by decide) (i := i) (by simpa using hi)
  refine ⟨b, o, hp, ?_⟩
  have := hc 0 (by simp)
  simpa using this
set_option maxHeartbeats 4000000 in
set_option maxRecDepth 100000 in
theorem has_any (p : Option Addr) (n c : Nat) (L : List ByteArray) (d : ByteArray) (b : Bool) (hb : b = true ↔ d ∈ L) (w : World) (h1 : NRd w p n c L) :
    Calls Tryz.prog 119 #[.slice p n c, .string d] w fun e w' => e = .returned (.bool b) ∧ w.grownBy w' none := by
  have hl := h1.len
  have hc := SRd.cap h1
  have hm := SRd.max h1
  have H1 := hid h1
  have HB := hid hb
  clear h1 hb
  go_enter Tryz.func119, Tryz.ntmps119
  go_wp2_with fail
  go_loopw [9] (fun x wr => ∃ k : Nat, k ≤ n ∧ x = .int .i64 k ∧ w.grownBy wr none ∧ ¬ d ∈ L.take k) (fun x _ => n - (intOf x).toNat)
  case atStart => exact ⟨0, Nat.zero_le _, rfl, grown_refl _ _, by simp⟩
  case round =>
    obtain ⟨k, hk, rfl, hg, hno⟩ := hrel
    by_cases hlt : k < n
    · obtain ⟨b1, o1, rfl, e1⟩ := (H1.out.keep hg).at1 (i := k) (by omega)
      have hkl : k < L.length := by omega
      have HX : Hid (L[k] ∈ L) := hid (List.getElem_mem _)
      have HT : Hid (d ∈ L.take (k + 1) → d ∈ L.take k ∨ d = L[k]) := hid (by
        intro hx
        rw [List.take_add_one, List.getElem?_eq_getElem hkl] at hx
        rcases List.mem_append.1 hx with h | h
        · exact .inl h
        · exact .inr (by simpa using h))
      have HNO := hid hno
      clear hno
      generalize L[k] = y at *
      go_wp2_with fail
      · rename_i he
        have hyd : y = d := bytes_eq.1 (by simpa using he)
        subst hyd
        obtain rfl : b = true := HB.out.2 HX.out
        go_ret
        exact ⟨rfl, hg⟩
      · rename_i he
        refine ⟨⟨k + 1, by omega, by go_num, hg, fun h => ?_⟩, by simp [intOf]; omega⟩
        rcases HT.out h with h | h
        · exact HNO.out h
        · subst h; simp at he
    · obtain rfl : k = n := by omega
      have hf : b = false := by
        rw [← Bool.not_eq_true, HB.out]
        rwa [List.take_of_length_le (by omega)] at hno
      subst hf
      go_wp2_with fail
      go_ret
      exact ⟨rfl, hg⟩
def ARd (w : World) (m : Nat) (pa : Option Addr) (na ca : Nat) (l : List Tr) : Prop :=
  (l.length = na ∧ na ≤ ca ∧ ca ≤ 9223372036854775807) ∧ ∀ i (hi : i < l.length), ∃ b o cs', pa = some ⟨b, o, none⟩ ∧ cs'.length = 7 ∧ (∀ j (hj : j < cs'.length), w.cell? ⟨b, o + i * 7 + j, none⟩ = some cs'[j]) ∧ ERd w m cs' l[i]
theorem ARd.keep {w w' : World} {m : Nat} {pa : Option Addr} {na ca : Nat} {l : List Tr} (hg : w.grownBy w' none) (h : ARd w m pa na ca l) : ARd w' m pa na ca l := by
  refine ⟨h.1, fun i hi => ?_⟩
  obtain ⟨b, o, cs', k1, k2, k3, k4⟩ := h.2 i hi
  exact ⟨b, o, cs', k1, k2, fun j hj => hg.cell (k3 j hj) (by simp), k4.keep hg⟩
theorem ARd.at {w : World} {m : Nat} {pa : Option Addr} {na ca : Nat} {l : List Tr} (h : ARd w m pa na ca l) {i : Nat} (hi : i < l.length) :
    ∃ b o e1 e2 e3 p1 n1 c1 p2 n2 c2 p3 n3 c3 e7, pa = some ⟨b, o, none⟩ ∧ ERd w m [.int .i64 e1, .string e2, .bool e3, .slice p1 n1 c1, .slice p2 n2 c2, .slice p3 n3 c3, .int .i64 e7] l[i] ∧
      w.cell? ⟨b, o + i * 7, none⟩ = some (.int .i64 e1) ∧ w.cell? ⟨b, o + i * 7 + 1, none⟩ = some (.string e2) ∧ w.cell? ⟨b, o + i * 7 + 2, none⟩ = some (.bool e3) ∧ w.cell? ⟨b, o + i * 7 + 3, none⟩ = some (.slice p1 n1 c1) ∧ w.cell? ⟨b, o + i * 7 + 4, none⟩ = some (.slice p2 n2 c2) ∧ w.cell? ⟨b, o + i * 7 + 5, none⟩ = some (.slice p3 n3 c3) ∧ w.cell? ⟨b, o + i * 7 + 6, none⟩ = some (.int .i64 e7) := by
  obtain ⟨b, o, cs', rfl, h7, hc, hE⟩ := h.2 i hi
  obtain ⟨e1, e2, e3, p1, n1, c1, p2, n2, c2, p3, n3, c3, e7, rfl⟩ := hE.shape
  exact ⟨b, o, e1, e2, e3, p1, n1, c1, p2, n2, c2, p3, n3, c3, e7, rfl, hE, hc 0 (by simp), hc 1 (by simp), hc 2 (by simp), hc 3 (by simp), hc 4 (by simp), hc 5 (by simp), hc 6 (by simp)⟩
theorem ARd.of {w : World} {m : Nat} {h : Hd} {l : List Tr} {pa : Option Addr} {na ca : Nat} {k : Int} {nm : ByteArray} {g : Bool} {pn : Option Addr} {nn cn : Nat} {pd : Option Addr} {nd cd : Nat} {pos : Int}
    (hE : ERd w (m + 1) [.int .i64 k, .string nm, .bool g, .slice pn nn cn, .slice pd nd cd, .slice pa na ca, .int .i64 pos] (.node h l)) :
    (k = h.k ∧ nm = h.nm ∧ g = h.g ∧ pos = h.pos) ∧ IRd w .u16 pn nn cn h.num ∧ IRd w .u16 pd nd cd h.den ∧ ARd w m pa na ca l ∧ nm.size ≤ maxLen := by
  obtain ⟨pn', nn', cn', pd', nd', cd', pa', na', ca', h1, h2, h3, h4, h5⟩ := hE
  simp only [List.cons.injEq, Value.int.injEq, true_and, Value.string.injEq, Value.bool.injEq, Value.slice.injEq, and_true] at h1
  obtain ⟨rfl, rfl, rfl, ⟨rfl, rfl, rfl⟩, ⟨rfl, rfl, rfl⟩, ⟨rfl, rfl, rfl⟩, rfl⟩ := h1
  exact ⟨⟨rfl, rfl, rfl, rfl⟩, h2, h3, ⟨⟨h4.1, h4.2.1, h4.2.2.1⟩, h5⟩, h4.2.2.2⟩
theorem ex_bool (P : Prop) : ∃ b : Bool, b = true ↔ P := by
  by_cases h : P
  · exact ⟨true, by simp [h]⟩
  · exact ⟨false, by simp [h]⟩
end Go.Proofs.YtjpkncgfpbhnaaaGreatDoor
namespace Go.Proofs.YtjpkncgfpbhnaaaGreatDoor
open Go.ChangeShapes Go.WideShapes Go.ChangeAt Go.RowKit _root_.Nm
section
variable {H : Type} {enc : TypeId × Value → H} {W : World}
end
section
variable {H : Type} {enc : TypeId × Value → H} {W : World}
end
end Go.Proofs.YtjpkncgfpbhnaaaGreatDoor
namespace Go.Proofs.YtjpkncgfpbhnaaaGreatDoor
open Go.RowKit _root_.Nm
def IRdX (X : Nat → Prop) (w : World) (p : Option Addr) (n c : Nat) (xs : List Nat) : Prop := IRd w .u16 p n c xs ∧ ∀ a, p = some a → 0 < n → ¬ X a.block
theorem IRdX.kept {X : Nat → Prop} {w w' : World} {p : Option Addr} {n c : Nat} {xs : List Nat} (h : IRdX X w p n c xs) {row : Option Nat} (hg : w.grownBy w' row) (hr : ∀ g, row = some g → X g) : IRdX X w' p n c xs := by
  refine ⟨⟨h.1.len, h.1.cap, h.1.max, fun j hj => ?_⟩, h.2⟩
  obtain ⟨b, o, rfl, hc⟩ := h.1.cel j hj
  refine ⟨b, o, rfl, hg.cell hc fun e => ?_⟩
  have hl := h.1.len
  exact h.2 _ rfl (by omega) (hr _ e.symm)
theorem IRdX.more {X X' : Nat → Prop} {w : World} {p : Option Addr} {n c : Nat} {xs : List Nat} (h : IRdX X w p n c xs) (hX : ∀ b, X' b → X b ∨ w.heap.size ≤ b) : IRdX X' w p n c xs := by
  refine ⟨h.1, fun a ha hn hb => ?_⟩
  rcases hX _ hb with h1 | h1
  · exact h.2 a ha hn h1
  · have hl := h.1.len
    obtain ⟨b, o, e, hc⟩ := h.1.cel 0 (by omega)
    rw [ha] at e
    cases e
    have := World.block_lt_of_cell? w _ hc
    simp at this h1
    omega
def ERdX (X : Nat → Prop) (w : World) : Nat → List Value → Tr → Prop
  | 0, _, _ => False
  | m + 1, cs, .node h l => ∃ (pn : Option Addr) (nn cn : Nat) (pd : Option Addr) (nd cd : Nat) (pa : Option Addr) (na ca : Nat),
      cs = [.int .i64 h.k, .string h.nm, .bool h.g, .slice pn nn cn, .slice pd nd cd, .slice pa na ca, .int .i64 h.pos] ∧ IRdX X w pn nn cn h.num ∧ IRdX X w pd nd cd h.den ∧
      (l.length = na ∧ na ≤ ca ∧ ca ≤ 9223372036854775807 ∧ h.nm.size ≤ maxLen) ∧
      ∀ i (hi : i < l.length), ∃ b o cs', pa = some ⟨b, o, none⟩ ∧ ¬ X b ∧ cs'.length = 7 ∧ (∀ j (hj : j < cs'.length), w.cell? ⟨b, o + i * 7 + j, none⟩ = some cs'[j]) ∧ ERdX X w m cs' l[i]
theorem ERdX.erd {X : Nat → Prop} {w : World} : ∀ {m : Nat} {cs : List Value} {t : Tr}, ERdX X w m cs t → ERd w m cs t
  | 0, _, _, h => h.elim
  | m + 1, cs, .node h l, ⟨pn, nn, cn, pd, nd, cd, pa, na, ca, h1, h2, h3, h4, h5⟩ => by
    refine ⟨pn, nn, cn, pd, nd, cd, pa, na, ca, h1, h2.1, h3.1, h4, fun i hi => ?_⟩
    obtain ⟨b, o, cs', k1, _, k2, k3, k4⟩ := h5 i hi
    exact ⟨b, o, cs', k1, k2, k3, k4.erd⟩
theorem ERdX.kept {X : Nat → Prop} {w w' : World} {row : Option Nat} (hg : w.grownBy w' row) (hr : ∀ g, row = some g → X g) : ∀ {m : Nat} {cs : List Value} {t : Tr}, ERdX X w m cs t → ERdX X w' m cs t
  | 0, _, _, h => h.elim
  | m + 1, cs, .node h l, ⟨pn, nn, cn, pd, nd, cd, pa, na, ca, h1, h2, h3, h4, h5⟩ => by
    refine ⟨pn, nn, cn, pd, nd, cd, pa, na, ca, h1, h2.kept hg hr, h3.kept hg hr, h4, fun i hi => ?_⟩
    obtain ⟨b, o, cs', k1, kx, k2, k3, k4⟩ := h5 i hi
    exact ⟨b, o, cs', k1, kx, k2, fun j hj => hg.cell (k3 j hj) (fun e => kx (hr _ e.symm)), k4.kept hg hr⟩
theorem ERdX.keep {X : Nat → Prop} {w w' : World} {m : Nat} {cs : List Value} {t : Tr} (h : ERdX X w m cs t) (hg : w.grownBy w' none) : ERdX X w' m cs t := h.kept hg (fun g e => by cases e)
theorem ERdX.more {X X' : Nat → Prop} {w : World} (hX : ∀ b, X' b → X b ∨ w.heap.size ≤ b) : ∀ {m : Nat} {cs : List Value} {t : Tr}, ERdX X w m cs t → ERdX X' w m cs t
  | 0, _, _, h => h.elim
  | m + 1, cs, .node h l, ⟨pn, nn, cn, pd, nd, cd, pa, na, ca, h1, h2, h3, h4, h5⟩ => by
    refine ⟨pn, nn, cn, pd, nd, cd, pa, na, ca, h1, h2.more hX, h3.more hX, h4, fun i hi => ?_⟩
    obtain ⟨b, o, cs', k1, kx, k2, k3, k4⟩ := h5 i hi
    refine ⟨b, o, cs', k1, fun hb => ?_, k2, k3, k4.more hX⟩
    rcases hX b hb with h | h
    · exact kx h
    · have := World.block_lt_of_cell? w _ (k3 0 (by omega))
      simp at this
      omega
theorem ERd.erdX {w : World} : ∀ {m : Nat} {cs : List Value} {t : Tr}, ERd w m cs t → ERdX (fun _ => False) w m cs t
  | 0, _, _, h => h.elim
  | m + 1, cs, .node h l, ⟨pn, nn, cn, pd, nd, cd, pa, na, ca, h1, h2, h3, h4, h5⟩ => by
    refine ⟨pn, nn, cn, pd, nd, cd, pa, na, ca, h1, ⟨h2, fun _ _ _ h => h⟩, ⟨h3, fun _ _ _ h => h⟩, h4, fun i hi => ?_⟩
    obtain ⟨b, o, cs', k1, k2, k3, k4⟩ := h5 i hi
    exact ⟨b, o, cs', k1, id, k2, k3, k4.erdX⟩
def ARdX (X : Nat → Prop) (w : World) (m : Nat) (pa : Option Addr) (na ca : Nat) (l : List Tr) : Prop :=
  (l.length = na ∧ na ≤ ca ∧ ca ≤ 9223372036854775807) ∧ ∀ i (hi : i < l.length), ∃ b o cs', pa = some ⟨b, o, none⟩ ∧ ¬ X b ∧ cs'.length = 7 ∧ (∀ j (hj : j < cs'.length), w.cell? ⟨b, o + i * 7 + j, none⟩ = some cs'[j]) ∧ ERdX X w m cs' l[i]
theorem ARdX.keep {X : Nat → Prop} {w w' : World} {m : Nat} {pa : Option Addr} {na ca : Nat} {l : List Tr} (hg : w.grownBy w' none) (h : ARdX X w m pa na ca l) : ARdX X w' m pa na ca l := by
  refine ⟨h.1, fun i hi => ?_⟩
  obtain ⟨b, o, cs', k1, kx, k2, k3, k4⟩ := h.2 i hi
  exact ⟨b, o, cs', k1, kx, k2, fun j hj => hg.cell (k3 j hj) (by simp), k4.keep hg⟩
theorem ARdX.more {X X' : Nat → Prop} {w : World} {m : Nat} {pa : Option Addr} {na ca : Nat} {l : List Tr} (hX : ∀ b, X' b → X b ∨ w.heap.size ≤ b) (h : ARdX X w m pa na ca l) : ARdX X' w m pa na ca l := by
  refine ⟨h.1, fun i hi => ?_⟩
  obtain ⟨b, o, cs', k1, kx, k2, k3, k4⟩ := h.2 i hi
  refine ⟨b, o, cs', k1, fun hb => ?_, k2, k3, k4.more hX⟩
  rcases hX b hb with h | h
  · exact kx h
  · have := World.block_lt_of_cell? w _ (k3 0 (by omega))
    simp at this
    omega
theorem ARdX.at {X : Nat → Prop} {w : World} {m : Nat} {pa : Option Addr} {na ca : Nat} {l : List Tr} (h : ARdX X w m pa na ca l) {i : Nat} (hi : i < l.length) :
    ∃ b o e1 e2 e3 p1 n1 c1 p2 n2 c2 p3 n3 c3 e7, pa = some ⟨b, o, none⟩ ∧ ERdX X w m [.int .i64 e1, .string e2, .bool e3, .slice p1 n1 c1, .slice p2 n2 c2, .slice p3 n3 c3, .int .i64 e7] l[i] ∧
      w.cell? ⟨b, o + i * 7, none⟩ = some (.int .i64 e1) ∧ w.cell? ⟨b, o + i * 7 + 1, none⟩ = some (.string e2) ∧ w.cell? ⟨b, o + i * 7 + 2, none⟩ = some (.bool e3) ∧ w.cell? ⟨b, o + i * 7 + 3, none⟩ = some (.slice p1 n1 c1) ∧ w.cell? ⟨b, o + i * 7 + 4, none⟩ = some (.slice p2 n2 c2) ∧ w.cell? ⟨b, o + i * 7 + 5, none⟩ = some (.slice p3 n3 c3) ∧ w.cell? ⟨b, o + i * 7 + 6, none⟩ = some (.int .i64 e7) := by
  obtain ⟨b, o, cs', rfl, _, h7, hc, hE⟩ := h.2 i hi
  obtain ⟨e1, e2, e3, p1, n1, c1, p2, n2, c2, p3, n3, c3, e7, rfl⟩ := hE.erd.shape
  exact ⟨b, o, e1, e2, e3, p1, n1, c1, p2, n2, c2, p3, n3, c3, e7, rfl, hE, hc 0 (by simp), hc 1 (by simp), hc 2 (by simp), hc 3 (by simp), hc 4 (by simp), hc 5 (by simp), hc 6 (by simp)⟩
theorem ARdX.of {X : Nat → Prop} {w : World} {m : Nat} {h : Hd} {l : List Tr} {pa : Option Addr} {na ca : Nat} {k : Int} {nm : ByteArray} {g : Bool} {pn : Option Addr} {nn cn : Nat} {pd : Option Addr} {nd cd : Nat} {pos : Int}
    (hE : ERdX X w (m + 1) [.int .i64 k, .string nm, .bool g, .slice pn nn cn, .slice pd nd cd, .slice pa na ca, .int .i64 pos] (.node h l)) :
    (k = h.k ∧ nm = h.nm ∧ g = h.g ∧ pos = h.pos) ∧ IRdX X w pn nn cn h.num ∧ IRdX X w pd nd cd h.den ∧ ARdX X w m pa na ca l ∧ nm.size ≤ maxLen := by
  obtain ⟨pn', nn', cn', pd', nd', cd', pa', na', ca', h1, h2, h3, h4, h5⟩ := hE
  simp only [List.cons.injEq, Value.int.injEq, true_and, Value.string.injEq, Value.bool.injEq, Value.slice.injEq, and_true] at h1
  obtain ⟨rfl, rfl, rfl, ⟨rfl, rfl, rfl⟩, ⟨rfl, rfl, rfl⟩, ⟨rfl, rfl, rfl⟩, rfl⟩ := h1
  exact ⟨⟨rfl, rfl, rfl, rfl⟩, h2, h3, ⟨⟨h4.1, h4.2.1, h4.2.2.1⟩, h5⟩, h4.2.2.2⟩
theorem ARdX.erdX {X : Nat → Prop} {w : World} {m : Nat} {k : Int} {nm : ByteArray} {g : Bool} {pn : Option Addr} {nn cn : Nat} {pd : Option Addr} {nd cd : Nat} {pa : Option Addr} {na ca : Nat} {pos : Int} {num den : List Nat} {l : List Tr}
    (hn : IRdX X w pn nn cn num) (hd : IRdX X w pd nd cd den) (hA : ARdX X w m pa na ca l) (hs : nm.size ≤ maxLen) :
    ERdX X w (m + 1) [.int .i64 k, .string nm, .bool g, .slice pn nn cn, .slice pd nd cd, .slice pa na ca, .int .i64 pos] (.node ⟨k, nm, g, num, den, pos⟩ l) :=
  ⟨pn, nn, cn, pd, nd, cd, pa, na, ca, rfl, hn, hd, ⟨hA.1.1, hA.1.2.1, hA.1.2.2, hs⟩, hA.2⟩
def RowsE (X : Nat → Prop) (w : World) (m : Nat) (L : List (List Value)) (l : List Tr) : Prop := L.length ≤ l.length ∧ ∀ i (hi : i < L.length) (hi' : i < l.length), ERdX X w m L[i] l[i]
theorem RowsE.kept {X : Nat → Prop} {w w' : World} {m : Nat} {L : List (List Value)} {l : List Tr} (h : RowsE X w m L l) {row : Option Nat} (hg : w.grownBy w' row) (hr : ∀ g, row = some g → X g) : RowsE X w' m L l := ⟨h.1, fun i hi hi' => (h.2 i hi hi').kept hg hr⟩
theorem RowsE.keep {X : Nat → Prop} {w w' : World} {m : Nat} {L : List (List Value)} {l : List Tr} (h : RowsE X w m L l) (hg : w.grownBy w' none) : RowsE X w' m L l := ⟨h.1, fun i hi hi' => (h.2 i hi hi').keep hg⟩
theorem RowsE.more {X X' : Nat → Prop} {w : World} (hX : ∀ b, X' b → X b ∨ w.heap.size ≤ b) {m : Nat} {L : List (List Value)} {l : List Tr} (h : RowsE X w m L l) : RowsE X' w m L l := ⟨h.1, fun i hi hi' => (h.2 i hi hi').more hX⟩
theorem RowsE.snoc {X : Nat → Prop} {w : World} {m : Nat} {L : List (List Value)} {l : List Tr} (h : RowsE X w m L l) {r : List Value} (hk : L.length < l.length) (hr : ERdX X w m r (l[L.length]'hk)) : RowsE X w m (L ++ [r]) l := by
  refine ⟨by simp; omega, fun i hi hi' => ?_⟩
  by_cases hin : i < L.length
  · rw [List.getElem_append_left hin]; exact h.2 i hin hi'
  · have : i = L.length := by simp at hi; omega
    subst this
    rw [List.getElem_append_right (by omega)]
    simpa using hr
theorem RowsE.ard {X X' : Nat → Prop} {w : World} {m base n c : Nat} {p : Option Addr} {L : List (List Value)} {l : List Tr} {e : TypeId} (h : RowsE X' w m L l) (hXX : ∀ b, X b → X' b) (hO : SOwn w base e 7 p n c L) (hl : l.length = n) (hb : ∀ b, X b → b < base) : ARdX X w m p n c l := by
  have hr := hO.rd
  have hLn := hr.len
  refine ⟨⟨hl, hr.cap, hr.max⟩, fun i hi => ?_⟩
  have hlt := hO.lt
  obtain ⟨b, o, rfl, hc⟩ := hr.at (by omega) (i := i) (by omega)
  refine ⟨b, o, _, rfl, fun hx => ?_, hr.each _ (List.getElem_mem (by omega)), hc, (h.2 i (by omega) hi).more fun b hb => .inl (hXX b hb)⟩
  have h1 := hb b hx
  have h2 := (hlt _ rfl).1
  simp at h2
  omega
end Go.Proofs.YtjpkncgfpbhnaaaGreatDoor
namespace Go.Proofs.YtjpkncgfpbhnaaaGreatDoor
open Go.RowKit _root_.Nm Ax
def allocs (w : World) : List Obj → World
  | [] => w
  | o :: r => allocs (w.alloc o) r
def parObj (T : TypeId) (e : Ent) : Obj := .cells (e.p.map fun n => Value.int .i64 (n : Nat)).toArray T (0, 0)
def rowCells (B : Nat) : Nat → List Ent → List Value
  | _, [] => []
  | k, e :: r => .int .i64 (e.k : Nat) :: .int .i64 (e.s : Nat) :: .string ⟨e.w.toArray⟩ :: .slice (some ⟨B + k, 0, none⟩) e.p.length e.p.length :: rowCells B (k + 1) r
def rowObjs (T R : TypeId) (B : Nat) : List Obj := Ax.tab.map (parObj T) ++ [.cells (rowCells B 0 Ax.tab).toArray R (0, 0)]
theorem allocs_grown : ∀ (L : List Obj) (w : World), w.grownBy (allocs w L) none
  | [], w => grown_refl _ _
  | o :: r, w => grown_trans (World.grownBy_alloc w o none) (allocs_grown r _)
theorem allocs_heap : ∀ (L : List Obj) (w : World) (i : Nat), i < L.length → (allocs w L).heap[w.heap.size + i]? = L[i]?
  | [], w, i, h => absurd h (Nat.not_lt_zero i)
  | o :: r, w, 0, h => by
    show (allocs (w.alloc o) r).heap[w.heap.size + 0]? = some o
    exact keepB (blk0 w o) (allocs_grown r _)
  | o :: r, w, i + 1, h => by
    show (allocs (w.alloc o) r).heap[w.heap.size + (i + 1)]? = r[i]?
    have := allocs_heap r (w.alloc o) i (by simpa using h)
    rw [show (w.alloc o).heap.size = w.heap.size + 1 by simp] at this
    rw [← this, show w.heap.size + 1 + i = w.heap.size + (i + 1) by omega]
theorem rowCells_get (B : Nat) : ∀ (l : List Ent) (k i : Nat) (e : Ent), l[i]? = some e →
    (rowCells B k l)[i * 4]? = some (.int .i64 (e.k : Nat)) ∧ (rowCells B k l)[i * 4 + 1]? = some (.int .i64 (e.s : Nat)) ∧ (rowCells B k l)[i * 4 + 2]? = some (.string ⟨e.w.toArray⟩) ∧ (rowCells B k l)[i * 4 + 3]? = some (.slice (some ⟨B + (k + i), 0, none⟩) e.p.length e.p.length)
  | [], k, i, e, h => by simp at h
  | f :: r, k, 0, e, h => by
    obtain rfl : f = e := by simpa using h
    exact ⟨rfl, rfl, rfl, rfl⟩
  | f :: r, k, i + 1, e, h => by
    have := rowCells_get B r (k + 1) i e (by simpa using h)
    rw [show k + 1 + i = k + (i + 1) by omega] at this
    rw [show (i + 1) * 4 = i * 4 + 1 + 1 + 1 + 1 by omega]
    exact this
def RwA (w w' : World) (b : Nat) : Prop := ∀ i e, Ax.tab[i]? = some e → ∃ (p : Option Addr) (n : Nat),
  (w'.cell? ⟨b, i * 4, none⟩ = some (.int .i64 (e.k : Nat)) ∧ w'.cell? ⟨b, i * 4 + 1, none⟩ = some (.int .i64 (e.s : Nat)) ∧ w'.cell? ⟨b, i * 4 + 2, none⟩ = some (.string ⟨e.w.toArray⟩) ∧ w'.cell? ⟨b, i * 4 + 3, none⟩ = some (.slice p n n)) ∧ Frs w p ∧ IRd w' .i64 p n n e.p
theorem RwA.keep {w w' w2 : World} {b : Nat} (h : RwA w w' b) (hg : w'.grownBy w2 none) : RwA w w2 b := by
  intro i e he
  obtain ⟨p, n, ⟨c0, c1, c2, c3⟩, hf, hr⟩ := h i e he
  exact ⟨p, n, ⟨hg.cell c0 (by simp), hg.cell c1 (by simp), hg.cell c2 (by simp), hg.cell c3 (by simp)⟩, hf, hr.keep hg⟩
theorem tab_len : Ax.tab.length = 30 := by kernel_rfl
theorem tab_at {i : Nat} (h : i < 30) : ∃ e, Ax.tab[i]? = some e := ⟨Ax.tab[i]'(by rw [tab_len]; exact h), List.getElem?_eq_getElem _⟩
theorem rows_there (T R : TypeId) (w : World) : w.grownBy (allocs w (rowObjs T R w.heap.size)) none ∧ RwA w (allocs w (rowObjs T R w.heap.size)) (w.heap.size + 30) := by
  have hL : (rowObjs T R w.heap.size).length = 31 := by simp [rowObjs, tab_len]
  refine ⟨allocs_grown _ _, fun i e he => ?_⟩
  have hi : i < 30 := by
    have := (List.getElem?_eq_some_iff.1 he).1
    rwa [tab_len] at this
  have hb := allocs_heap (rowObjs T R w.heap.size) w 30 (by omega)
  have hbo : (rowObjs T R w.heap.size)[30]? = some (.cells (rowCells w.heap.size 0 Ax.tab).toArray R (0, 0)) := by
    unfold rowObjs
    rw [List.getElem?_append_right (by simp [tab_len]), List.length_map, tab_len]
    rfl
  rw [hbo] at hb
  have hp := allocs_heap (rowObjs T R w.heap.size) w i (by omega)
  have hpo : (rowObjs T R w.heap.size)[i]? = some (parObj T e) := by
    unfold rowObjs
    rw [List.getElem?_append_left (by simp [tab_len]; exact hi), List.getElem?_map, he]
    rfl
  rw [hpo] at hp
  generalize allocs w (rowObjs T R w.heap.size) = w' at hb hp ⊢
  obtain ⟨r0, r1, r2, r3⟩ := rowCells_get w.heap.size Ax.tab 0 i e he
  have cc := fun k => cell_of_row w' (w.heap.size + 30) k _ _ _ hb
  refine ⟨some ⟨w.heap.size + (0 + i), 0, none⟩, e.p.length, ⟨?_, ?_, ?_, ?_⟩, ?_, ?_⟩
  · rw [cc]; simpa using r0
  · rw [cc]; simpa using r1
  · rw [cc]; simpa using r2
  · rw [cc]; simpa using r3
  · intro a h; cases h; exact Nat.le_add_right _ _
  · refine ⟨rfl, Nat.le_refl _, ?_, fun j hj => ⟨w.heap.size + (0 + i), 0, rfl, ?_⟩⟩
    · have : ∀ e ∈ Ax.tab, e.p.length ≤ 6 := by decide
      have := this e (List.mem_of_getElem? he)
      omega
    · rw [show w.heap.size + (0 + i) = w.heap.size + i by omega, show (0 : Nat) + j = j by omega]
      rw [cell_of_row w' (w.heap.size + i) j _ _ _ hp]
      simp [hj]
set_option maxHeartbeats 8000000 in
set_option maxRecDepth 100000 in
theorem rows_raw (w : World) : Calls Tryz.prog 90 #[] w fun e w' => e = .returned (.slice (some ⟨w.heap.size + 30, 0, none⟩) 30 30) ∧ w' = allocs w (rowObjs 3 94 w.heap.size) := by
  go_enter Tryz.func90, Tryz.ntmps90
  go_wp2_with fail
  go_ret
  refine ⟨rfl, ?_⟩
  first | rfl | (simp only [allocs, rowObjs, Ax.tab, parObj, rowCells, List.map, List.append_eq, List.cons_append, List.nil_append, List.length]; rfl)
theorem rows_any (w : World) : Calls Tryz.prog 90 #[] w fun e w' => ∃ b, e = .returned (.slice (some ⟨b, 0, none⟩) 30 30) ∧ w.heap.size ≤ b ∧ w.grownBy w' none ∧ RwA w w' b := by
  refine (rows_raw w).mono ?_
  rintro e w' ⟨rfl, rfl⟩
  obtain ⟨h1, h2⟩ := rows_there 3 94 w
  exact ⟨_, rfl, Nat.le_add_right _ _, h1, h2⟩
def ShP (s : Nat) (k : Int) (w : World) (e : Ending) (w' : World) : Prop :=
 ∃ (p : Option Addr) (n c : Nat), e = .returned (.tuple #[.string ⟨(pS s k).1.toArray⟩, .slice p n c]) ∧ Frs w p ∧ IRd w' .i64 p n c (pS s k).2 ∧ w.grownBy w' none
theorem ShP.mk {s : Nat} {k : Int} {w w' : World} {d : List UInt8} {xs : List Nat} {p : Option Addr} {n c : Nat} (h : pS s k = (d, xs)) (hf : Frs w p) (hr : IRd w' .i64 p n c xs) (hg : w.grownBy w' none) : ShP s k w (.returned (.tuple #[.string ⟨d.toArray⟩, .slice p n c])) w' :=
 ⟨p, n, c, by rw [h], hf, by rw [h]; exact hr, hg⟩
theorem lit1 (w : World) (T : TypeId) (x : Nat) : IRd (w.alloc (.cells #[.int .i64 (x : Int)] T)) .i64 (some ⟨w.heap.size, 0, none⟩) 1 1 [x] := (IRow.made w T .i64 [x]).rd0 (by simp)
theorem lit2 (w : World) (T : TypeId) (x y : Nat) : IRd (w.alloc (.cells #[.int .i64 (x : Int), .int .i64 (y : Int)] T)) .i64 (some ⟨w.heap.size, 0, none⟩) 2 2 [x, y] := (IRow.made w T .i64 [x, y]).rd0 (by simp)
set_option maxHeartbeats 16000000 in
theorem pointShape_any (k : Int) (w : World) : Calls Tryz.prog 145 #[.int .i64 k] w (ShP 1 k w) := by
 by_cases h10 : k = 10
 ·subst h10
  have HE : Hid (pS 1 10 = ([109, 105, 100, 112, 111, 105, 110, 116], [1, 1])) := hid rfl
  have HPT := hid fun w => points_any 2 (by omega) (by omega) 2 rfl w
  go_enter Tryz.func145, Tryz.ntmps145
  go_wp2_with (go_at_call 189; (with_reducible refine (HPT.out _).mono ?_); rintro e w' ⟨p, rfl, hf, hr, hg⟩)
  go_ret2
  exact ShP.mk HE.out hf hr hg
 by_cases h11 : k = 11
 ·subst h11
  have HE : Hid (pS 1 11 = ([100, 105, 118, 105, 100, 101], [1, 1])) := hid rfl
  clear h10
  have HPT := hid fun w => points_any 2 (by omega) (by omega) 2 rfl w
  go_enter Tryz.func145, Tryz.ntmps145
  go_wp2_with (go_at_call 189; (with_reducible refine (HPT.out _).mono ?_); rintro e w' ⟨p, rfl, hf, hr, hg⟩)
  go_ret2
  exact ShP.mk HE.out hf hr hg
 by_cases h12 : k = 12
 ·subst h12
  have HE : Hid (pS 1 12 = ([114, 101, 102, 108, 101, 99, 116], [1, 1])) := hid rfl
  clear h10 h11
  have HPT := hid fun w => points_any 2 (by omega) (by omega) 2 rfl w
  go_enter Tryz.func145, Tryz.ntmps145
  go_wp2_with (go_at_call 189; (with_reducible refine (HPT.out _).mono ?_); rintro e w' ⟨p, rfl, hf, hr, hg⟩)
  go_ret2
  exact ShP.mk HE.out hf hr hg
 by_cases h13 : k = 13
 ·subst h13
  have HE : Hid (pS 1 13 = ([109, 105, 114, 114, 111, 114], [1, 2])) := hid rfl
  clear h10 h11 h12
  go_enter Tryz.func145, Tryz.ntmps145
  go_wp2_with fail
  go_ret2
  exact ShP.mk HE.out (fun a e => by cases e; exact Nat.le_refl _) (lit2 w 3 1 2) (World.grownBy_alloc _ _ _)
 by_cases h14 : k = 14
 ·subst h14
  have HE : Hid (pS 1 14 = ([102, 111, 111, 116], [1, 2])) := hid rfl
  clear h10 h11 h12 h13
  go_enter Tryz.func145, Tryz.ntmps145
  go_wp2_with fail
  go_ret2
  exact ShP.mk HE.out (fun a e => by cases e; exact Nat.le_refl _) (lit2 w 3 1 2) (World.grownBy_alloc _ _ _)
 by_cases h15 : k = 15
 ·subst h15
  have HE : Hid (pS 1 15 = ([109, 101, 101, 116], [2, 2])) := hid rfl
  clear h10 h11 h12 h13 h14
  go_enter Tryz.func145, Tryz.ntmps145
  go_wp2_with fail
  go_ret2
  exact ShP.mk HE.out (fun a e => by cases e; exact Nat.le_refl _) (lit2 w 3 2 2) (World.grownBy_alloc _ _ _)
 by_cases h16 : k = 16
 ·subst h16
  have HE : Hid (pS 1 16 = ([111, 110], [0])) := hid rfl
  clear h10 h11 h12 h13 h14 h15
  go_enter Tryz.func145, Tryz.ntmps145
  go_wp2_with fail
  go_ret2
  exact ShP.mk HE.out (fun a e => by cases e; exact Nat.le_refl _) (lit1 w 3 0) (World.grownBy_alloc _ _ _)
 by_cases h17 : k = 17
 ·subst h17
  have HE : Hid (pS 1 17 = ([111, 116, 104, 101, 114], [1, 1, 1])) := hid rfl
  clear h10 h11 h12 h13 h14 h15 h16
  have HPT := hid fun w => points_any 3 (by omega) (by omega) 3 rfl w
  go_enter Tryz.func145, Tryz.ntmps145
  go_wp2_with (go_at_call 189; (with_reducible refine (HPT.out _).mono ?_); rintro e w' ⟨p, rfl, hf, hr, hg⟩)
  go_ret2
  exact ShP.mk HE.out hf hr hg
 by_cases h18 : k = 18
 ·subst h18
  have HE : Hid (pS 1 18 = ([99, 111, 109, 109, 111, 110], [1, 1, 1])) := hid rfl
  clear h10 h11 h12 h13 h14 h15 h16 h17
  have HPT := hid fun w => points_any 3 (by omega) (by omega) 3 rfl w
  go_enter Tryz.func145, Tryz.ntmps145
  go_wp2_with (go_at_call 189; (with_reducible refine (HPT.out _).mono ?_); rintro e w' ⟨p, rfl, hf, hr, hg⟩)
  go_ret2
  exact ShP.mk HE.out hf hr hg
 by_cases h19 : k = 19
 ·subst h19
  have HE : Hid (pS 1 19 = ([99, 101, 110, 116, 101, 114], [1, 1, 1])) := hid rfl
  clear h10 h11 h12 h13 h14 h15 h16 h17 h18
  have HPT := hid fun w => points_any 3 (by omega) (by omega) 3 rfl w
  go_enter Tryz.func145, Tryz.ntmps145
  go_wp2_with (go_at_call 189; (with_reducible refine (HPT.out _).mono ?_); rintro e w' ⟨p, rfl, hf, hr, hg⟩)
  go_ret2
  exact ShP.mk HE.out hf hr hg
 by_cases h20 : k = 20
 ·subst h20
  have HE : Hid (pS 1 20 = ([115, 104, 105, 102, 116], [1, 1, 1])) := hid rfl
  clear h10 h11 h12 h13 h14 h15 h16 h17 h18 h19
  have HPT := hid fun w => points_any 3 (by omega) (by omega) 3 rfl w
  go_enter Tryz.func145, Tryz.ntmps145
  go_wp2_with (go_at_call 189; (with_reducible refine (HPT.out _).mono ?_); rintro e w' ⟨p, rfl, hf, hr, hg⟩)
  go_ret2
  exact ShP.mk HE.out hf hr hg
 by_cases h21 : k = 21
 ·subst h21
  have HE : Hid (pS 1 21 = ([116, 117, 114, 110], [1, 1])) := hid rfl
  clear h10 h11 h12 h13 h14 h15 h16 h17 h18 h19 h20
  have HPT := hid fun w => points_any 2 (by omega) (by omega) 2 rfl w
  go_enter Tryz.func145, Tryz.ntmps145
  go_wp2_with (go_at_call 189; (with_reducible refine (HPT.out _).mono ?_); rintro e w' ⟨p, rfl, hf, hr, hg⟩)
  go_ret2
  exact ShP.mk HE.out hf hr hg
 by_cases h22 : k = 22
 ·subst h22
  have HE : Hid (pS 1 22 = ([99, 117, 116], [2, 3])) := hid rfl
  clear h10 h11 h12 h13 h14 h15 h16 h17 h18 h19 h20 h21
  go_enter Tryz.func145, Tryz.ntmps145
  go_wp2_with fail
  go_ret2
  exact ShP.mk HE.out (fun a e => by cases e; exact Nat.le_refl _) (lit2 w 3 2 3) (World.grownBy_alloc _ _ _)
 by_cases h23 : k = 23
 ·subst h23
  have HE : Hid (pS 1 23 = ([99, 114, 111, 115, 115], [3, 3])) := hid rfl
  clear h10 h11 h12 h13 h14 h15 h16 h17 h18 h19 h20 h21 h22
  go_enter Tryz.func145, Tryz.ntmps145
  go_wp2_with fail
  go_ret2
  exact ShP.mk HE.out (fun a e => by cases e; exact Nat.le_refl _) (lit2 w 3 3 3) (World.grownBy_alloc _ _ _)
 by_cases h24 : k = 24
 ·subst h24
  have HE : Hid (pS 1 24 = ([97, 112, 101, 120], [1, 1])) := hid rfl
  clear h10 h11 h12 h13 h14 h15 h16 h17 h18 h19 h20 h21 h22 h23
  have HPT := hid fun w => points_any 2 (by omega) (by omega) 2 rfl w
  go_enter Tryz.func145, Tryz.ntmps145
  go_wp2_with (go_at_call 189; (with_reducible refine (HPT.out _).mono ?_); rintro e w' ⟨p, rfl, hf, hr, hg⟩)
  go_ret2
  exact ShP.mk HE.out hf hr hg
 have HE : Hid (pS 1 k = ([], [])) := hid (pS_none (ks := [10, 11, 12, 13, 14, 15, 16, 17, 18, 19, 20, 21, 22, 23, 24]) (by decide) (by simp only [List.mem_cons, List.not_mem_nil, or_false]; omega))
 have e10 : (k == 10) = false := by simpa using h10
 have e11 : (k == 11) = false := by simpa using h11
 have e12 : (k == 12) = false := by simpa using h12
 have e13 : (k == 13) = false := by simpa using h13
 have e14 : (k == 14) = false := by simpa using h14
 have e15 : (k == 15) = false := by simpa using h15
 have e16 : (k == 16) = false := by simpa using h16
 have e17 : (k == 17) = false := by simpa using h17
 have e18 : (k == 18) = false := by simpa using h18
 have e19 : (k == 19) = false := by simpa using h19
 have e20 : (k == 20) = false := by simpa using h20
 have e21 : (k == 21) = false := by simpa using h21
 have e22 : (k == 22) = false := by simpa using h22
 have e23 : (k == 23) = false := by simpa using h23
 have e24 : (k == 24) = false := by simpa using h24
 clear h10 h11 h12 h13 h14 h15 h16 h17 h18 h19 h20 h21 h22 h23 h24
 go_enter Tryz.func145, Tryz.ntmps145
 go_wp2_with fail
 go_ret2
 exact ShP.mk HE.out (fun a e => by cases e) (IRd.nil _ _) (grown_refl _ _)
set_option maxHeartbeats 16000000 in
theorem lineShape_any (k : Int) (w : World) : Calls Tryz.prog 146 #[.int .i64 k] w (ShP 2 k w) := by
 by_cases h40 : k = 40
 ·subst h40
  have HE : Hid (pS 2 40 = ([108, 105, 110, 101], [1, 1])) := hid rfl
  have HPT := hid fun w => points_any 2 (by omega) (by omega) 2 rfl w
  go_enter Tryz.func146, Tryz.ntmps146
  go_wp2_with (go_at_call 189; (with_reducible refine (HPT.out _).mono ?_); rintro e w' ⟨p, rfl, hf, hr, hg⟩)
  go_ret2
  exact ShP.mk HE.out hf hr hg
 by_cases h41 : k = 41
 ·subst h41
  have HE : Hid (pS 2 41 = ([112, 97, 114, 97, 108, 108, 101, 108], [1, 2])) := hid rfl
  clear h40
  go_enter Tryz.func146, Tryz.ntmps146
  go_wp2_with fail
  go_ret2
  exact ShP.mk HE.out (fun a e => by cases e; exact Nat.le_refl _) (lit2 w 3 1 2) (World.grownBy_alloc _ _ _)
 by_cases h42 : k = 42
 ·subst h42
  have HE : Hid (pS 2 42 = ([112, 101, 114, 112, 101, 110, 100, 105, 99, 117, 108, 97, 114], [1, 2])) := hid rfl
  clear h40 h41
  go_enter Tryz.func146, Tryz.ntmps146
  go_wp2_with fail
  go_ret2
  exact ShP.mk HE.out (fun a e => by cases e; exact Nat.le_refl _) (lit2 w 3 1 2) (World.grownBy_alloc _ _ _)
 by_cases h43 : k = 43
 ·subst h43
  have HE : Hid (pS 2 43 = ([98, 105, 115, 101, 99, 116, 111, 114], [1, 1])) := hid rfl
  clear h40 h41 h42
  have HPT := hid fun w => points_any 2 (by omega) (by omega) 2 rfl w
  go_enter Tryz.func146, Tryz.ntmps146
  go_wp2_with (go_at_call 189; (with_reducible refine (HPT.out _).mono ?_); rintro e w' ⟨p, rfl, hf, hr, hg⟩)
  go_ret2
  exact ShP.mk HE.out hf hr hg
 have HE : Hid (pS 2 k = ([], [])) := hid (pS_none (ks := [40, 41, 42, 43]) (by decide) (by simp only [List.mem_cons, List.not_mem_nil, or_false]; omega))
 have e40 : (k == 40) = false := by simpa using h40
 have e41 : (k == 41) = false := by simpa using h41
 have e42 : (k == 42) = false := by simpa using h42
 have e43 : (k == 43) = false := by simpa using h43
 clear h40 h41 h42 h43
 go_enter Tryz.func146, Tryz.ntmps146
 go_wp2_with fail
 go_ret2
 exact ShP.mk HE.out (fun a e => by cases e) (IRd.nil _ _) (grown_refl _ _)
set_option maxHeartbeats 16000000 in
theorem circleShape_any (k : Int) (w : World) : Calls Tryz.prog 147 #[.int .i64 k] w (ShP 3 k w) := by
 by_cases h50 : k = 50
 ·subst h50
  have HE : Hid (pS 3 50 = ([99, 105, 114, 99, 108, 101], [1, 1])) := hid rfl
  have HPT := hid fun w => points_any 2 (by omega) (by omega) 2 rfl w
  go_enter Tryz.func147, Tryz.ntmps147
  go_wp2_with (go_at_call 189; (with_reducible refine (HPT.out _).mono ?_); rintro e w' ⟨p, rfl, hf, hr, hg⟩)
  go_ret2
  exact ShP.mk HE.out hf hr hg
 by_cases h51 : k = 51
 ·subst h51
  have HE : Hid (pS 3 51 = ([99, 105, 114, 99, 117, 109], [1, 1, 1])) := hid rfl
  clear h50
  have HPT := hid fun w => points_any 3 (by omega) (by omega) 3 rfl w
  go_enter Tryz.func147, Tryz.ntmps147
  go_wp2_with (go_at_call 189; (with_reducible refine (HPT.out _).mono ?_); rintro e w' ⟨p, rfl, hf, hr, hg⟩)
  go_ret2
  exact ShP.mk HE.out hf hr hg
 have HE : Hid (pS 3 k = ([], [])) := hid (pS_none (ks := [50, 51]) (by decide) (by simp only [List.mem_cons, List.not_mem_nil, or_false]; omega))
 have e50 : (k == 50) = false := by simpa using h50
 have e51 : (k == 51) = false := by simpa using h51
 clear h50 h51
 go_enter Tryz.func147, Tryz.ntmps147
 go_wp2_with fail
 go_ret2
 exact ShP.mk HE.out (fun a e => by cases e) (IRd.nil _ _) (grown_refl _ _)
set_option maxHeartbeats 16000000 in
theorem goalShape_any (k : Int) (w : World) : Calls Tryz.prog 148 #[.int .i64 k] w (ShP 4 k w) := by
 by_cases h60 : k = 60
 ·subst h60
  have HE : Hid (pS 4 60 = ([99, 111, 108, 108, 105, 110, 101, 97, 114], [1, 1, 1])) := hid rfl
  have HPT := hid fun w => points_any 3 (by omega) (by omega) 3 rfl w
  go_enter Tryz.func148, Tryz.ntmps148
  go_wp2_with (go_at_call 189; (with_reducible refine (HPT.out _).mono ?_); rintro e w' ⟨p, rfl, hf, hr, hg⟩)
  go_ret2
  exact ShP.mk HE.out hf hr hg
 by_cases h61 : k = 61
 ·subst h61
  have HE : Hid (pS 4 61 = ([112, 97, 114, 97, 108, 108, 101, 108], [2, 2])) := hid rfl
  clear h60
  go_enter Tryz.func148, Tryz.ntmps148
  go_wp2_with fail
  go_ret2
  exact ShP.mk HE.out (fun a e => by cases e; exact Nat.le_refl _) (lit2 w 3 2 2) (World.grownBy_alloc _ _ _)
 by_cases h62 : k = 62
 ·subst h62
  have HE : Hid (pS 4 62 = ([112, 101, 114, 112, 101, 110, 100, 105, 99, 117, 108, 97, 114], [2, 2])) := hid rfl
  clear h60 h61
  go_enter Tryz.func148, Tryz.ntmps148
  go_wp2_with fail
  go_ret2
  exact ShP.mk HE.out (fun a e => by cases e; exact Nat.le_refl _) (lit2 w 3 2 2) (World.grownBy_alloc _ _ _)
 by_cases h63 : k = 63
 ·subst h63
  have HE : Hid (pS 4 63 = ([99, 111, 110, 103, 114, 117, 101, 110, 116], [1, 1, 1, 1])) := hid rfl
  clear h60 h61 h62
  have HPT := hid fun w => points_any 4 (by omega) (by omega) 4 rfl w
  go_enter Tryz.func148, Tryz.ntmps148
  go_wp2_with (go_at_call 189; (with_reducible refine (HPT.out _).mono ?_); rintro e w' ⟨p, rfl, hf, hr, hg⟩)
  go_ret2
  exact ShP.mk HE.out hf hr hg
 by_cases h64 : k = 64
 ·subst h64
  have HE : Hid (pS 4 64 = ([109, 105, 100, 112, 111, 105, 110, 116], [1, 1, 1])) := hid rfl
  clear h60 h61 h62 h63
  have HPT := hid fun w => points_any 3 (by omega) (by omega) 3 rfl w
  go_enter Tryz.func148, Tryz.ntmps148
  go_wp2_with (go_at_call 189; (with_reducible refine (HPT.out _).mono ?_); rintro e w' ⟨p, rfl, hf, hr, hg⟩)
  go_ret2
  exact ShP.mk HE.out hf hr hg
 by_cases h65 : k = 65
 ·subst h65
  have HE : Hid (pS 4 65 = ([99, 111, 110, 99, 121, 99, 108, 105, 99], [1, 1, 1, 1])) := hid rfl
  clear h60 h61 h62 h63 h64
  have HPT := hid fun w => points_any 4 (by omega) (by omega) 4 rfl w
  go_enter Tryz.func148, Tryz.ntmps148
  go_wp2_with (go_at_call 189; (with_reducible refine (HPT.out _).mono ?_); rintro e w' ⟨p, rfl, hf, hr, hg⟩)
  go_ret2
  exact ShP.mk HE.out hf hr hg
 by_cases h66 : k = 66
 ·subst h66
  have HE : Hid (pS 4 66 = ([97, 110, 103, 108, 101], [1, 1, 1, 1, 1, 1])) := hid rfl
  clear h60 h61 h62 h63 h64 h65
  have HPT := hid fun w => points_any 6 (by omega) (by omega) 6 rfl w
  go_enter Tryz.func148, Tryz.ntmps148
  go_wp2_with (go_at_call 189; (with_reducible refine (HPT.out _).mono ?_); rintro e w' ⟨p, rfl, hf, hr, hg⟩)
  go_ret2
  exact ShP.mk HE.out hf hr hg
 by_cases h67 : k = 67
 ·subst h67
  have HE : Hid (pS 4 67 = ([115, 97, 109, 101], [1, 1])) := hid rfl
  clear h60 h61 h62 h63 h64 h65 h66
  have HPT := hid fun w => points_any 2 (by omega) (by omega) 2 rfl w
  go_enter Tryz.func148, Tryz.ntmps148
  go_wp2_with (go_at_call 189; (with_reducible refine (HPT.out _).mono ?_); rintro e w' ⟨p, rfl, hf, hr, hg⟩)
  go_ret2
  exact ShP.mk HE.out hf hr hg
 by_cases h68 : k = 68
 ·subst h68
  have HE : Hid (pS 4 68 = ([114, 97, 116, 105, 111], [1, 1, 1, 1])) := hid rfl
  clear h60 h61 h62 h63 h64 h65 h66 h67
  have HPT := hid fun w => points_any 4 (by omega) (by omega) 4 rfl w
  go_enter Tryz.func148, Tryz.ntmps148
  go_wp2_with (go_at_call 189; (with_reducible refine (HPT.out _).mono ?_); rintro e w' ⟨p, rfl, hf, hr, hg⟩)
  go_ret2
  exact ShP.mk HE.out hf hr hg
 have HE : Hid (pS 4 k = ([], [])) := hid (pS_none (ks := [60, 61, 62, 63, 64, 65, 66, 67, 68]) (by decide) (by simp only [List.mem_cons, List.not_mem_nil, or_false]; omega))
 have e60 : (k == 60) = false := by simpa using h60
 have e61 : (k == 61) = false := by simpa using h61
 have e62 : (k == 62) = false := by simpa using h62
 have e63 : (k == 63) = false := by simpa using h63
 have e64 : (k == 64) = false := by simpa using h64
 have e65 : (k == 65) = false := by simpa using h65
 have e66 : (k == 66) = false := by simpa using h66
 have e67 : (k == 67) = false := by simpa using h67
 have e68 : (k == 68) = false := by simpa using h68
 clear h60 h61 h62 h63 h64 h65 h66 h67 h68
 go_enter Tryz.func148, Tryz.ntmps148
 go_wp2_with fail
 go_ret2
 exact ShP.mk HE.out (fun a e => by cases e) (IRd.nil _ _) (grown_refl _ _)
theorem box3 {w : World} {G : Nat} {x y z : Value} {T : TypeId} (hb : w.heap[G]? = some (.cells #[x, y, z] T (0, 0))) :
    (w.cell? ⟨G, 0, none⟩ = some x ∧ w.cell? ⟨G, 1, none⟩ = some y ∧ w.cell? ⟨G, 2, none⟩ = some z) ∧ w.frozen? ⟨G, 0, none⟩ = false ∧ w.frozen? ⟨G, 1, none⟩ = false ∧ w.frozen? ⟨G, 2, none⟩ = false := by
  have k0 := cell_of_row w G 0 _ _ _ hb
  have k1 := cell_of_row w G 1 _ _ _ hb
  have k2 := cell_of_row w G 2 _ _ _ hb
  simp at k0 k1 k2
  exact ⟨⟨k0, k1, k2⟩, frozen_of_row w G 0 _ _ hb, frozen_of_row w G 1 _ _ hb, frozen_of_row w G 2 _ _ hb⟩
theorem set3g (w : World) (G : Nat) (A B C : Value) : w.grownBy (((w.setCell ⟨G, 0, none⟩ A).setCell ⟨G, 1, none⟩ B).setCell ⟨G, 2, none⟩ C) (some G) :=
  grown_trans (grown_setCell w ⟨G, 0, none⟩ A) (grown_trans (grown_setCell _ ⟨G, 1, none⟩ B) (grown_setCell _ ⟨G, 2, none⟩ C))
theorem set3n {w0 w : World} (h : w0.grownBy w none) (G : Nat) (A B C : Value) (hG : w0.heap.size ≤ G) : w0.grownBy (((w.setCell ⟨G, 0, none⟩ A).setCell ⟨G, 1, none⟩ B).setCell ⟨G, 2, none⟩ C) none :=
  grown_new h (set3g w G A B C) fun g e => by cases e; exact hG
def SoP (k : Int) (w : World) (e : Ending) (w' : World) : Prop :=
  ∃ (p : Option Addr) (n c : Nat), e = .returned (.agg #[.int .i64 (srt k : Nat), .string ⟨(wrd k).toArray⟩, .slice p n c]) ∧ Frs w p ∧ IRd w' .i64 p n c (prm k) ∧ w.grownBy w' none
theorem SoP.mk {k : Int} {w w1 : World} {s : Nat} {d : ByteArray} {p : Option Addr} {n c : Nat} (hs : srt k = s) (hd : (⟨(wrd k).toArray⟩ : ByteArray) = d) (hr : IRd w1 .i64 p n c (prm k)) (hf : ∀ a, p = some a → w.heap.size < a.block) (hg : w.grownBy w1 none) :
    SoP k w (.returned (.agg #[.int .i64 (s : Int), .string d, .slice p n c])) (((w1.setCell ⟨w.heap.size, 0, none⟩ (.int .i64 (s : Int))).setCell ⟨w.heap.size, 1, none⟩ (.string d)).setCell ⟨w.heap.size, 2, none⟩ (.slice p n c)) := by
  subst hs hd
  exact ⟨p, n, c, rfl, fun a e => Nat.le_of_lt (hf a e), hr.kept (set3g _ _ _ _ _) (.inr fun a e => by have := hf a e; simp; omega), set3n hg _ _ _ _ (Nat.le_refl _)⟩
theorem ShP.e {s : Nat} {k : Int} {w w' : World} {e : Ending} (h : ShP s k w e w') (he : pS s k = ([], [])) : ∃ (p : Option Addr) (n c : Nat), e = .returned (.tuple #[.string ⟨#[]⟩, .slice p n c]) ∧ w.grownBy w' none := by
  obtain ⟨p, n, c, rfl, _, _, hg⟩ := h
  exact ⟨p, n, c, by rw [he], hg⟩
theorem ShP.y {s : Nat} {k : Int} {w w' : World} {e : Ending} {d : ByteArray} (h : ShP s k w e w') (he : pS s k = (wrd k, prm k)) (hd : (⟨(wrd k).toArray⟩ : ByteArray) = d) : ∃ (p : Option Addr) (n c : Nat), e = .returned (.tuple #[.string d, .slice p n c]) ∧ Frs w p ∧ IRd w' .i64 p n c (prm k) ∧ w.grownBy w' none := by
  obtain ⟨p, n, c, rfl, hf, hr, hg⟩ := h
  rw [he] at hr
  exact ⟨p, n, c, by rw [he, ← hd], hf, hr, hg⟩
set_option maxHeartbeats 16000000 in
set_option maxRecDepth 100000 in
theorem shapeOf_any (k : Int) (w : World) : Calls Tryz.prog 94 #[.int .i64 k] w (SoP k w) := by
  have HA := hid (World.grownBy_alloc w (.cells #[.int .i64 0, .string ⟨#[]⟩, .slice none 0 0] 143) none)
  rcases kinds_cases k with ⟨h1, h2, h3, h4⟩ | ⟨h2, h1, h4⟩
  · have HP : Hid (∀ s, s < 10 → pS s k = ([], [])) := hid fun s _ => h4 s
    have HS : Hid (srt k = 0 ∧ wrd k = [] ∧ prm k = []) := hid ⟨h1, h2, h3⟩
    clear h1 h2 h3 h4
    have bx0 := blk0 w (.cells #[.int .i64 0, .string ⟨#[]⟩, .slice none 0 0] 143)
    have hG0 := HA.out
    go_enter Tryz.func94, Tryz.ntmps94
    go_wp2_with (first | (go_at_call 145; refine (pointShape_any k _).mono ?_; rintro e w1 hS; obtain ⟨p1, n1, c1, rfl, hg1⟩ := hS.e (HP.out 1 (by omega)); clear hS; have bx1 := keepB bx0 hg1; have hG1 := grown_trans hG0 hg1) | (go_at_call 146; refine (lineShape_any k _).mono ?_; rintro e w2 hS; obtain ⟨p2, n2, c2, rfl, hg2⟩ := hS.e (HP.out 2 (by omega)); clear hS; have bx2 := keepB bx1 hg2; have hG2 := grown_trans hG1 hg2) | (go_at_call 147; refine (circleShape_any k _).mono ?_; rintro e w3 hS; obtain ⟨p3, n3, c3, rfl, hg3⟩ := hS.e (HP.out 3 (by omega)); clear hS; have bx3 := keepB bx2 hg3; have hG3 := grown_trans hG2 hg3) | (go_at_call 148; refine (goalShape_any k _).mono ?_; rintro e w4 hS; obtain ⟨p4, n4, c4, rfl, hg4⟩ := hS.e (HP.out 4 (by omega)); clear hS; have bx4 := keepB bx3 hg4; have hG4 := grown_trans hG3 hg4; obtain ⟨⟨k0, k1, k2⟩, f0, f1, f2⟩ := box3 bx4))
    exact bodyPost_ret (v := .agg #[.int .i64 0, .string ⟨#[]⟩, .slice none 0 0]) (by simp [results, Tryz.results94, go_sem, k0, k1, k2]) rfl (SoP.mk HS.out.1 (by rw [HS.out.2.1]) (by rw [HS.out.2.2]; exact IRd.nil _ _) (fun a e => by cases e) hG4)
  · obtain ⟨d, hd⟩ : ∃ d, (⟨(wrd k).toArray⟩ : ByteArray) = d := ⟨_, rfl⟩
    have hem : d.toList.isEmpty = false := by
      rw [← hd, Lib.toList_data]
      cases hw : wrd k with
      | nil => exact absurd hw h2
      | cons a r => rfl
    have HD := hid hd
    have HP : Hid (∀ s, s < 10 → srt k ≠ s → pS s k = ([], [])) := hid fun s _ h => by rw [h4 s, if_neg h]
    have HY0 : Hid (pS (srt k) k = (wrd k, prm k)) := hid (by rw [h4, if_pos rfl])
    clear h2 h4 hd
    have bx0 := blk0 w (.cells #[.int .i64 0, .string ⟨#[]⟩, .slice none 0 0] 143)
    have hG0 := HA.out
    rcases h1 with h1 | h1 | h1 | h1
    · have HSO := hid h1
      have HY : Hid (pS 1 k = (wrd k, prm k)) := hid (h1 ▸ HY0.out)
      clear h1
      go_enter Tryz.func94, Tryz.ntmps94
      go_wp2_with (first | (go_at_call 145; refine (pointShape_any k _).mono ?_; rintro e w1 hS; obtain ⟨p1, n1, c1, rfl, hf, hr, hg1⟩ := hS.y HY.out HD.out; clear hS; have bx1 := keepB bx0 hg1; have hsz := lt_of_block bx0; have hG1 := grown_trans hG0 hg1; obtain ⟨⟨k0, k1, k2⟩, f0, f1, f2⟩ := box3 bx1))
      exact bodyPost_ret (v := .agg #[.int .i64 1, .string d, .slice p1 n1 c1]) (by simp [results, Tryz.results94, go_sem, k0, k1, k2]) rfl (SoP.mk HSO.out HD.out hr (fun a e => by have := hf a e; omega) hG1)
    · have HSO := hid h1
      have HY : Hid (pS 2 k = (wrd k, prm k)) := hid (h1 ▸ HY0.out)
      clear h1
      go_enter Tryz.func94, Tryz.ntmps94
      go_wp2_with (first | (go_at_call 145; refine (pointShape_any k _).mono ?_; rintro e w1 hS; obtain ⟨p1, n1, c1, rfl, hg1⟩ := hS.e (HP.out 1 (by omega) (by rw [HSO.out]; decide)); clear hS; have bx1 := keepB bx0 hg1; have hG1 := grown_trans hG0 hg1) | (go_at_call 146; refine (lineShape_any k _).mono ?_; rintro e w2 hS; obtain ⟨p2, n2, c2, rfl, hf, hr, hg2⟩ := hS.y HY.out HD.out; clear hS; have bx2 := keepB bx1 hg2; have hsz := lt_of_block bx1; have hG2 := grown_trans hG1 hg2; obtain ⟨⟨k0, k1, k2⟩, f0, f1, f2⟩ := box3 bx2))
      exact bodyPost_ret (v := .agg #[.int .i64 2, .string d, .slice p2 n2 c2]) (by simp [results, Tryz.results94, go_sem, k0, k1, k2]) rfl (SoP.mk HSO.out HD.out hr (fun a e => by have := hf a e; omega) hG2)
    · have HSO := hid h1
      have HY : Hid (pS 3 k = (wrd k, prm k)) := hid (h1 ▸ HY0.out)
      clear h1
      go_enter Tryz.func94, Tryz.ntmps94
      go_wp2_with (first | (go_at_call 145; refine (pointShape_any k _).mono ?_; rintro e w1 hS; obtain ⟨p1, n1, c1, rfl, hg1⟩ := hS.e (HP.out 1 (by omega) (by rw [HSO.out]; decide)); clear hS; have bx1 := keepB bx0 hg1; have hG1 := grown_trans hG0 hg1) | (go_at_call 146; refine (lineShape_any k _).mono ?_; rintro e w2 hS; obtain ⟨p2, n2, c2, rfl, hg2⟩ := hS.e (HP.out 2 (by omega) (by rw [HSO.out]; decide)); clear hS; have bx2 := keepB bx1 hg2; have hG2 := grown_trans hG1 hg2) | (go_at_call 147; refine (circleShape_any k _).mono ?_; rintro e w3 hS; obtain ⟨p3, n3, c3, rfl, hf, hr, hg3⟩ := hS.y HY.out HD.out; clear hS; have bx3 := keepB bx2 hg3; have hsz := lt_of_block bx2; have hG3 := grown_trans hG2 hg3; obtain ⟨⟨k0, k1, k2⟩, f0, f1, f2⟩ := box3 bx3))
      exact bodyPost_ret (v := .agg #[.int .i64 3, .string d, .slice p3 n3 c3]) (by simp [results, Tryz.results94, go_sem, k0, k1, k2]) rfl (SoP.mk HSO.out HD.out hr (fun a e => by have := hf a e; omega) hG3)
    · have HSO := hid h1
      have HY : Hid (pS 4 k = (wrd k, prm k)) := hid (h1 ▸ HY0.out)
      clear h1
      go_enter Tryz.func94, Tryz.ntmps94
      go_wp2_with (first | (go_at_call 145; refine (pointShape_any k _).mono ?_; rintro e w1 hS; obtain ⟨p1, n1, c1, rfl, hg1⟩ := hS.e (HP.out 1 (by omega) (by rw [HSO.out]; decide)); clear hS; have bx1 := keepB bx0 hg1; have hG1 := grown_trans hG0 hg1) | (go_at_call 146; refine (lineShape_any k _).mono ?_; rintro e w2 hS; obtain ⟨p2, n2, c2, rfl, hg2⟩ := hS.e (HP.out 2 (by omega) (by rw [HSO.out]; decide)); clear hS; have bx2 := keepB bx1 hg2; have hG2 := grown_trans hG1 hg2) | (go_at_call 147; refine (circleShape_any k _).mono ?_; rintro e w3 hS; obtain ⟨p3, n3, c3, rfl, hg3⟩ := hS.e (HP.out 3 (by omega) (by rw [HSO.out]; decide)); clear hS; have bx3 := keepB bx2 hg3; have hG3 := grown_trans hG2 hg3) | (go_at_call 148; refine (goalShape_any k _).mono ?_; rintro e w4 hS; obtain ⟨p4, n4, c4, rfl, hf, hr, hg4⟩ := hS.y HY.out HD.out; clear hS; have bx4 := keepB bx3 hg4; have hsz := lt_of_block bx3; have hG4 := grown_trans hG3 hg4; obtain ⟨⟨k0, k1, k2⟩, f0, f1, f2⟩ := box3 bx4))
      exact bodyPost_ret (v := .agg #[.int .i64 4, .string d, .slice p4 n4 c4]) (by simp [results, Tryz.results94, go_sem, k0, k1, k2]) rfl (SoP.mk HSO.out HD.out hr (fun a e => by have := hf a e; omega) hG4)
theorem shape_fld (x y z : Value) : (∀ w, (Instr.field 143 (.agg #[x, y, z]) 0).run Tryz.prog w = .ok x w) ∧ (∀ w, (Instr.field 143 (.agg #[x, y, z]) 1).run Tryz.prog w = .ok y w) ∧ (∀ w, (Instr.field 143 (.agg #[x, y, z]) 2).run Tryz.prog w = .ok z w) :=
  ⟨fun w => by kernel_rfl, fun w => by kernel_rfl, fun w => by kernel_rfl⟩
set_option maxRecDepth 100000 in
theorem sort_any (k : Int) (w : World) : Calls Tryz.prog 51 #[.int .i64 k] w fun e w' => e = .returned (.int .i64 (srt k : Nat)) ∧ w.grownBy w' none := by
  have hsf := shape_fld
  go_enter Tryz.func51, Tryz.ntmps51
  go_wp2_with (go_at_call 94; refine (shapeOf_any k _).mono ?_; rintro e w1 ⟨p, n, c, rfl, hf, hr, hg⟩; obtain ⟨j0, j1, j2⟩ := hsf (.int .i64 (srt k : Nat)) (.string ⟨(wrd k).toArray⟩) (.slice p n c))
  go_ret
  exact ⟨rfl, hg⟩
set_option maxRecDepth 100000 in
theorem astWord_any (k : Int) (w : World) : Calls Tryz.prog 95 #[.int .i64 k] w fun e w' => e = .returned (.string ⟨(wrd k).toArray⟩) ∧ w.grownBy w' none := by
  have hsf := shape_fld
  go_enter Tryz.func95, Tryz.ntmps95
  go_wp2_with (go_at_call 94; refine (shapeOf_any k _).mono ?_; rintro e w1 ⟨p, n, c, rfl, hf, hr, hg⟩; obtain ⟨j0, j1, j2⟩ := hsf (.int .i64 (srt k : Nat)) (.string ⟨(wrd k).toArray⟩) (.slice p n c))
  go_ret
  exact ⟨rfl, hg⟩
set_option maxRecDepth 100000 in
theorem params_any (k : Int) (w : World) : Calls Tryz.prog 80 #[.int .i64 k] w fun e w' => ∃ p n c, e = .returned (.slice p n c) ∧ Frs w p ∧ IRd w' .i64 p n c (prm k) ∧ w.grownBy w' none := by
  have hsf := shape_fld
  go_enter Tryz.func80, Tryz.ntmps80
  go_wp2_with (go_at_call 94; refine (shapeOf_any k _).mono ?_; rintro e w1 ⟨p, n, c, rfl, hf, hr, hg⟩; obtain ⟨j0, j1, j2⟩ := hsf (.int .i64 (srt k : Nat)) (.string ⟨(wrd k).toArray⟩) (.slice p n c))
  go_ret
  exact ⟨p, n, c, rfl, hf, hr, hg⟩
def RowP (k : Int) (w : World) (e : Ending) (w' : World) : Prop :=
  ∃ (z : Int) (p : Option Addr) (n c : Nat), e = .returned (.agg #[.int .i64 z, .int .i64 (srt k : Nat), .string ⟨(wrd k).toArray⟩, .slice p n c]) ∧ Frs w p ∧ IRd w' .i64 p n c (prm k) ∧ w.grownBy w' none
theorem tab_first {k : Int} {i : Nat} {e : Ent} (he : Ax.tab[i]? = some e) (hk : (e.k : Int) = k) (h : ∀ j f, j < i → Ax.tab[j]? = some f → (f.k : Int) ≠ k) : ent k = some e := by
  unfold ent
  rw [List.find?_eq_some_iff_getElem]
  obtain ⟨hi, hie⟩ := List.getElem?_eq_some_iff.1 he
  refine ⟨by simp [hk], i, hi, hie, fun j hj => ?_⟩
  have := h j Ax.tab[j] hj (List.getElem?_eq_getElem _)
  simp [this]
theorem tab_none {k : Int} (h : ∀ j f, j < 30 → Ax.tab[j]? = some f → (f.k : Int) ≠ k) : ent k = none := by
  unfold ent
  rw [List.find?_eq_none]
  intro e he
  obtain ⟨i, hi, rfl⟩ := List.getElem_of_mem he
  have := h i Ax.tab[i] (by rwa [tab_len] at hi) (List.getElem?_eq_getElem _)
  simp [this]
theorem set4g (w : World) (G : Nat) (A B C D : Value) : w.grownBy ((((w.setCell ⟨G, 0, none⟩ A).setCell ⟨G, 1, none⟩ B).setCell ⟨G, 2, none⟩ C).setCell ⟨G, 3, none⟩ D) (some G) :=
  grown_trans (grown_setCell w ⟨G, 0, none⟩ A) (grown_trans (grown_setCell _ ⟨G, 1, none⟩ B) (grown_trans (grown_setCell _ ⟨G, 2, none⟩ C) (grown_setCell _ ⟨G, 3, none⟩ D)))
theorem RowP.mk {x : Int} {w w1 : World} {z : Int} {s : Nat} {d : ByteArray} {p : Option Addr} {n c : Nat} (hs : srt x = s) (hd : (⟨(wrd x).toArray⟩ : ByteArray) = d) (hr : IRd w1 .i64 p n c (prm x)) (hf : ∀ a, p = some a → w.heap.size < a.block) (hg : w.grownBy w1 none) :
    RowP x w (.returned (.agg #[.int .i64 z, .int .i64 (s : Int), .string d, .slice p n c])) ((((w1.setCell ⟨w.heap.size, 0, none⟩ (.int .i64 z)).setCell ⟨w.heap.size, 1, none⟩ (.int .i64 (s : Int))).setCell ⟨w.heap.size, 2, none⟩ (.string d)).setCell ⟨w.heap.size, 3, none⟩ (.slice p n c)) := by
  subst hs hd
  exact ⟨z, p, n, c, rfl, fun a e => Nat.le_of_lt (hf a e), hr.kept (set4g _ _ _ _ _ _) (.inr fun a e => by have := hf a e; simp; omega), grown_new hg (set4g _ _ _ _ _ _) fun g e => by cases e; exact Nat.le_refl _⟩
set_option maxHeartbeats 8000000 in
set_option maxRecDepth 100000 in
theorem rfind_any (x : Int) (w : World) : Calls Tryz.prog 48 #[.int .i64 x] w (RowP x w) := by
  have HR := hid rows_any
  have HA := hid (World.grownBy_alloc w (.cells #[.int .i64 0, .int .i64 0, .string ⟨#[]⟩, .slice none 0 0] 94) none)
  have HB := hid (blk0 w (.cells #[.int .i64 0, .int .i64 0, .string ⟨#[]⟩, .slice none 0 0] 94))
  go_enter Tryz.func48, Tryz.ntmps48
  go_wp2_with (go_at_call 90; (with_reducible refine (HR.out _).mono ?_); rintro e w1 ⟨b, rfl, hb, hg1, hrw⟩; have HRW := hid hrw; clear hrw)
  have hbb : b ≠ w.heap.size := by simp at hb; omega
  have HBR := hid (keepB HB.out hg1)
  go_loopw [7] (fun x' wr => ∃ k : Nat, k ≤ 30 ∧ x' = .int .i64 k ∧ w1.grownBy wr none ∧ ∀ j f, j < k → Ax.tab[j]? = some f → (f.k : Int) ≠ x) (fun x' _ => 30 - (intOf x').toNat)
  case atStart => exact ⟨0, Nat.zero_le _, rfl, grown_refl _ _, fun j f h => absurd h (Nat.not_lt_zero j)⟩
  case round =>
    obtain ⟨k, hk, rfl, hg, hno⟩ := hrel
    by_cases hlt : k < 30
    · have HNO := hid hno
      clear hno
      obtain ⟨e, he⟩ := tab_at hlt
      obtain ⟨p, n, ⟨c0, c1, c2, c3⟩, hf, hr⟩ := (HRW.out.keep hg) k e he
      have HE := hid he
      have HF := hid hf
      have HRR := hid hr
      clear he hf hr
      obtain ⟨⟨k0, k1, k2, k3⟩, f0, f1, f2, f3⟩ := box4 (blk0 wr (.cells #[.int .i64 0, .int .i64 0, .string ⟨#[]⟩, .slice none 0 0] 94))
      obtain ⟨⟨l0, l1, l2, l3⟩, g0, g1, g2, g3⟩ := box4 (keepB (keepB HBR.out hg) (World.grownBy_alloc wr (.cells #[.int .i64 (e.k : Nat), .int .i64 (e.s : Nat), .string ⟨e.w.toArray⟩, .slice p n n] 94) none))
      go_wp2_with fail
      · rename_i hw
        have hx := tab_first HE.out (by simpa using hw) HNO.out
        refine bodyPost_ret (v := .agg #[.int .i64 (e.k : Nat), .int .i64 (e.s : Nat), .string ⟨e.w.toArray⟩, .slice p n n]) (by simp [results, Tryz.results48, go_sem, l0, l1, l2, l3]) rfl (RowP.mk (by unfold srt; rw [hx]) (by unfold wrd; rw [hx]) (by unfold prm; rw [hx]; exact HRR.out.keep (World.grownBy_alloc _ _ none)) (fun a h => by have := HF.out a h; simp at this; omega) (grown_trans HA.out (grown_trans hg1 (grown_trans hg (World.grownBy_alloc _ _ none)))))
      · rename_i hw
        refine ⟨⟨k + 1, by omega, by go_num, grown_trans hg (World.grownBy_alloc _ _ none), ?_⟩, by simp [intOf]; omega⟩
        intro j f hj hf
        by_cases h : j = k
        · subst h
          rw [HE.out] at hf
          cases hf
          simpa using hw
        · exact HNO.out j f (by omega) hf
    · obtain rfl : k = 30 := by omega
      obtain ⟨⟨l0, l1, l2, l3⟩, g0, g1, g2, g3⟩ := box4 (keepB HBR.out hg)
      go_wp2_with fail
      have hx := tab_none hno
      refine bodyPost_ret (v := .agg #[.int .i64 0, .int .i64 0, .string ⟨#[]⟩, .slice none 0 0]) (by simp [results, Tryz.results48, go_sem, l0, l1, l2, l3]) rfl (RowP.mk (s := 0) (by unfold srt; rw [hx]) (by unfold wrd; rw [hx]) (by unfold prm; rw [hx]; exact IRd.nil _ _) (fun a h => by cases h) (grown_trans HA.out (grown_trans hg1 hg)))
theorem row_fld (a x y z : Value) : (∀ w, (Instr.field 94 (.agg #[a, x, y, z]) 1).run Tryz.prog w = .ok x w) ∧ (∀ w, (Instr.field 94 (.agg #[a, x, y, z]) 2).run Tryz.prog w = .ok y w) ∧ (∀ w, (Instr.field 94 (.agg #[a, x, y, z]) 3).run Tryz.prog w = .ok z w) :=
  ⟨fun w => by kernel_rfl, fun w => by kernel_rfl, fun w => by kernel_rfl⟩
set_option maxRecDepth 100000 in
theorem rparams_any (k : Int) (w : World) : Calls Tryz.prog 121 #[.int .i64 k] w fun e w' => ∃ p n c, e = .returned (.slice p n c) ∧ Frs w p ∧ IRd w' .i64 p n c (prm k) ∧ w.grownBy w' none := by
  have hsf := row_fld
  go_enter Tryz.func121, Tryz.ntmps121
  go_wp2_with (go_at_call 48; refine (rfind_any k _).mono ?_; rintro e w1 ⟨z, p, n, c, rfl, hf, hr, hg⟩; obtain ⟨j0, j1, j2⟩ := hsf (.int .i64 z) (.int .i64 (srt k : Nat)) (.string ⟨(wrd k).toArray⟩) (.slice p n c))
  go_ret
  exact ⟨p, n, c, rfl, hf, hr, hg⟩
set_option maxHeartbeats 4000000 in
set_option maxRecDepth 100000 in
theorem kind_any (d : ByteArray) (w : World) : Calls Tryz.prog 114 #[.string d] w fun e w' => e = .returned (.int .i64 (knd d.toList : Nat)) ∧ w.grownBy w' none := by
  go_enter Tryz.func114, Tryz.ntmps114
  go_wp2_with fail
  go_loopw [3] (fun x wr => ∃ k : Nat, 10 ≤ k ∧ k ≤ 69 ∧ x = .int .i64 k ∧ w.grownBy wr none ∧ ∀ i, 10 ≤ i → i < k → (wrd (i : Nat) = [] ∨ wrd (i : Nat) ≠ d.toList)) (fun x _ => 69 - (intOf x).toNat)
  case atStart => exact ⟨10, Nat.le_refl _, by omega, rfl, grown_refl _ _, fun i h1 h2 => by omega⟩
  case round =>
    obtain ⟨k, hk0, hk, rfl, hg, hno⟩ := hrel
    by_cases hlt : k ≤ 68
    · have HNO := hid hno
      clear hno
      go_wp2_with (go_at_call 94; refine (shapeOf_any (k : Nat) _).mono ?_; rintro e w1 ⟨p, n, c, rfl, hf, hr, hg1⟩; obtain ⟨⟨k0, k1, k2⟩, f0, f1, f2⟩ := box3 (blk0 w1 (.cells #[.int .i64 0, .string ⟨#[]⟩, .slice none 0 0] 143)))
      · go_ret
        refine ⟨?_, grown_trans (grown_trans hg hg1) (World.grownBy_alloc _ _ none)⟩
        have hw : wrd (k : Nat) = d.toList := by assumption
        have hn : wrd (k : Nat) ≠ [] := by rw [hw]; intro e; simp_all
        have := knd_first hk0 hlt hn (fun j h1 h2 e => (HNO.out j h1 h2).elim (fun h => hn (e ▸ h)) (fun h => h (e.trans hw)))
        rw [← hw, this]
        rfl
      all_goals
        refine ⟨⟨k + 1, by omega, by omega, by go_num, grown_trans (grown_trans hg hg1) (World.grownBy_alloc _ _ none), ?_⟩, by simp [intOf]; omega⟩
        intro i h1 h2
        by_cases e : i = k
        · subst e
          by_cases hw : wrd (i : Nat) = d.toList
          · left
            rw [hw]
            first
              | (have he : (!d.toList.isEmpty) = false := by assumption
                 simpa using he)
              | contradiction
          · exact .inr hw
        · exact HNO.out i h1 (by omega)
    · obtain rfl : k = 69 := by omega
      go_wp2_with fail
      go_ret
      refine ⟨?_, hg⟩
      by_cases hd : d.toList = []
      · rw [hd, knd_nil]; rfl
      · rw [knd_none (w := d.toList) (fun j h1 h2 e => (hno j h1 (by omega)).elim (fun h => hd (e ▸ h)) (fun h => h e))]; rfl
end Go.Proofs.YtjpkncgfpbhnaaaGreatDoor
namespace Go.Proofs.YtjpkncgfpbhnaaaGreatDoor
open Go.RowKit _root_.Nm
set_option maxHeartbeats 16000000 in
set_option maxRecDepth 100000 in
theorem rEqualExpr_ok : ∀ (m : Nat), ∀ (m' : Nat) (cs cs' : List Value) (t t' : Tr) (b : Bool) (w : World), ERd w m cs t → ERd w m' cs' t' → (b = true ↔ EqP m t t') →
  Calls Tryz.prog 30 #[.agg cs.toArray, .agg cs'.toArray] w fun e w' => e = .returned (.bool b) ∧ w.grownBy w' none
 | 0 => fun _ _ _ _ _ _ _ h _ _ => h.elim
 | m + 1 => fun m' cs cs' t t' b w hE hE' hb => by
  have IH := hid (rEqualExpr_ok m)
  cases m' with
  | zero => exact hE'.elim
  | succ q =>
  cases t with
  | node h l =>
  cases t' with
  | node h' l' =>
  obtain ⟨e1, e2, e3, p1, n1, c1, p2, n2, c2, p3, n3, c3, e7, rfl⟩ := hE.shape
  obtain ⟨x1, x2, x3, q1, m1, d1, q2, m2, d2, q3, m3, d3, x7, rfl⟩ := hE'.shape
  obtain ⟨⟨r1, r2, r3, -⟩, hn, hd, hA, -⟩ := ARd.of hE
  obtain ⟨⟨s1, s2, s3, -⟩, hn', hd', hA', -⟩ := ARd.of hE'
  obtain ⟨⟨hla, hca, hma⟩, _⟩ := id hA
  obtain ⟨⟨hlb, hcb, hmb⟩, _⟩ := id hA'
  obtain ⟨v1, hv1⟩ := ex_bool (e3 = x3 ∧ h.num = h'.num ∧ h.den = h'.den)
  obtain ⟨v2, hv2⟩ := ex_bool (l.length = l'.length ∧ ∀ i (hi : i < l.length) (hi' : i < l'.length), EqP m l[i] l'[i])
  have hbb : b = (decide (e1 = x1) && (decide (e2 = x2) && (v1 && v2))) := by
   rw [Bool.eq_iff_iff, hb, EqP, ← r1, ← r2, ← r3, ← s1, ← s2, ← s3]
   simp only [Bool.and_eq_true, decide_eq_true_eq, hv1, hv2, and_assoc]
  have HR := hid fun w' (hg : w.grownBy w' none) => sameRat_any e3 x3 p1 p2 q1 q2 n1 c1 n2 c2 m1 d1 m2 d2 _ _ _ _ v1 hv1 w' (hn.keep hg) (hd.keep hg) (hn'.keep hg) (hd'.keep hg)
  have HA := hid hA
  have HA' := hid hA'
  have HV2 := hid hv2
  subst hbb
  clear hE hE' hb hn hd hA hn' hd' hA' hv1 hv2 r1 r2 r3 s1 s2 s3
  obtain ⟨⟨k0, k1, k2, k3, k4, k5, k6⟩, -⟩ := box7 (blk1 w (.cells #[.int .i64 e1, .string e2, .bool e3, .slice p1 n1 c1, .slice p2 n2 c2, .slice p3 n3 c3, .int .i64 e7] 38 (0, 0)) (.cells #[.int .i64 x1, .string x2, .bool x3, .slice q1 m1 d1, .slice q2 m2 d2, .slice q3 m3 d3, .int .i64 x7] 38 (0, 0)))
  have bx := blk0 (w.alloc (.cells #[.int .i64 e1, .string e2, .bool e3, .slice p1 n1 c1, .slice p2 n2 c2, .slice p3 n3 c3, .int .i64 e7] 38 (0, 0))) (.cells #[.int .i64 x1, .string x2, .bool x3, .slice q1 m1 d1, .slice q2 m2 d2, .slice q3 m3 d3, .int .i64 x7] 38 (0, 0))
  rw [show (w.alloc (.cells #[.int .i64 e1, .string e2, .bool e3, .slice p1 n1 c1, .slice p2 n2 c2, .slice p3 n3 c3, .int .i64 e7] 38 (0, 0))).heap.size = w.heap.size + 1 by simp] at bx
  obtain ⟨⟨j0, j1, j2, j3, j4, j5, j6⟩, -⟩ := box7 bx
  clear bx
  have hW := grown_trans (World.grownBy_alloc w (.cells #[.int .i64 e1, .string e2, .bool e3, .slice p1 n1 c1, .slice p2 n2 c2, .slice p3 n3 c3, .int .i64 e7] 38 (0, 0)) none) (World.grownBy_alloc _ (.cells #[.int .i64 x1, .string x2, .bool x3, .slice q1 m1 d1, .slice q2 m2 d2, .slice q3 m3 d3, .int .i64 x7] 38 (0, 0)) none)
  by_cases h1 : e1 = x1
  ·subst h1
   by_cases h2 : e2 = x2
   ·subst h2
    cases v1
    ·go_enter Tryz.func30, Tryz.ntmps30
     go_upto_region 1 with fail
     generalize ((w.alloc _).alloc _) = w0 at *
     go_wp2_with (first
      | (go_at_call 53; refine (HR.out _ hW).mono ?_; rintro e w1 ⟨rfl, hg⟩; replace hW := grown_trans hW hg; replace k0 := hg.cell k0 (by simp); replace k1 := hg.cell k1 (by simp); replace k2 := hg.cell k2 (by simp); replace k3 := hg.cell k3 (by simp); replace k4 := hg.cell k4 (by simp); replace k5 := hg.cell k5 (by simp); replace k6 := hg.cell k6 (by simp); replace j0 := hg.cell j0 (by simp); replace j1 := hg.cell j1 (by simp); replace j2 := hg.cell j2 (by simp); replace j3 := hg.cell j3 (by simp); replace j4 := hg.cell j4 (by simp); replace j5 := hg.cell j5 (by simp); replace j6 := hg.cell j6 (by simp); clear HR hg))
     go_ret
     exact ⟨by simp, hW⟩
    ·by_cases hnn : n3 = m3
     ·subst hnn
      go_enter Tryz.func30, Tryz.ntmps30
      go_upto_region 1 with fail
      generalize ((w.alloc _).alloc _) = w0 at *
      go_wp2_with (first
       | (go_at_call 53; refine (HR.out _ hW).mono ?_; rintro e w1 ⟨rfl, hg⟩; replace hW := grown_trans hW hg; replace k0 := hg.cell k0 (by simp); replace k1 := hg.cell k1 (by simp); replace k2 := hg.cell k2 (by simp); replace k3 := hg.cell k3 (by simp); replace k4 := hg.cell k4 (by simp); replace k5 := hg.cell k5 (by simp); replace k6 := hg.cell k6 (by simp); replace j0 := hg.cell j0 (by simp); replace j1 := hg.cell j1 (by simp); replace j2 := hg.cell j2 (by simp); replace j3 := hg.cell j3 (by simp); replace j4 := hg.cell j4 (by simp); replace j5 := hg.cell j5 (by simp); replace j6 := hg.cell j6 (by simp); clear HR hg))
      have HW1 := hid hW
      have K5 := hid k5
      have J5 := hid j5
      go_loopw [38] (fun x wr => ∃ k : Nat, k ≤ n3 ∧ x = .int .i64 k ∧ w1.grownBy wr none ∧ ∀ i (hi : i < l.length) (hi' : i < l'.length), i < k → EqP m l[i] l'[i]) (fun x _ => n3 - (intOf x).toNat)
      case atStart => exact ⟨0, Nat.zero_le _, rfl, grown_refl _ _, fun i _ _ h => absurd h (Nat.not_lt_zero i)⟩
      case round =>
       clear k0 k1 k2 k3 k4 k5 k6 j0 j1 j2 j3 j4 j5 j6 hW
       obtain ⟨k, hk, rfl, hg, hall⟩ := hrel
       have HALL := hid hall
       have hgr := grown_trans HW1.out hg
       clear hall
       by_cases hlt : k < n3
       ·have k5 := hg.cell K5.out (by simp)
        have j5 := hg.cell J5.out (by simp)
        obtain ⟨bA, oA, u1, u2, u3, y1, r1, s1, y2, r2, s2, y3, r3, s3, u7, rfl, hE1, a0, a1, a2, a3, a4, a5, a6⟩ := (HA.out.keep hgr).at (i := k) (by omega)
        obtain ⟨bB, oB, o1, o2, o3, z1, i1, f1, z2, i2, f2, z3, i3, f3, o7, rfl, hE2, b0, b1, b2, b3, b4, b5, b6⟩ := (HA'.out.keep hgr).at (i := k) (by omega)
        have HE1 := hE1
        obtain ⟨bq, hbq⟩ := ex_bool (EqP m (l[k]'(by omega)) (l'[k]'(by omega)))
        have HC := hid fun w' (hg : wr.grownBy w' none) => IH.out q _ _ _ _ bq w' (hE1.keep hg) (hE2.keep hg) hbq
        have HQ := hid hbq
        have HWR := hid hgr
        clear hE1 hE2 HE1 hbq
        replace hgr := grown_refl wr none
        cases bq
        ·obtain rfl : v2 = false := by
          rw [← Bool.not_eq_true, HV2.out]
          rintro ⟨_, h⟩
          have := HQ.out.2 (h k (by omega) (by omega))
          cases this
         go_wp2_with fail
         go_region_held3 (fun w' => w'.cell? ⟨w.heap.size, 5, none⟩ = some (.slice (some ⟨bA, oA, none⟩) n3 c3) ∧ w'.cell? ⟨w.heap.size + 1, 5, none⟩ = some (.slice (some ⟨bB, oB, none⟩) n3 d3) ∧ w'.cell? ⟨bA, oA + k * 7, none⟩ = some (.int .i64 u1) ∧ w'.cell? ⟨bA, oA + k * 7 + 1, none⟩ = some (.string u2) ∧ w'.cell? ⟨bA, oA + k * 7 + 2, none⟩ = some (.bool u3) ∧ w'.cell? ⟨bA, oA + k * 7 + 3, none⟩ = some (.slice y1 r1 s1) ∧ w'.cell? ⟨bA, oA + k * 7 + 4, none⟩ = some (.slice y2 r2 s2) ∧ w'.cell? ⟨bA, oA + k * 7 + 5, none⟩ = some (.slice y3 r3 s3) ∧ w'.cell? ⟨bA, oA + k * 7 + 6, none⟩ = some (.int .i64 u7) ∧ w'.cell? ⟨bB, oB + k * 7, none⟩ = some (.int .i64 o1) ∧ w'.cell? ⟨bB, oB + k * 7 + 1, none⟩ = some (.string o2) ∧ w'.cell? ⟨bB, oB + k * 7 + 2, none⟩ = some (.bool o3) ∧ w'.cell? ⟨bB, oB + k * 7 + 3, none⟩ = some (.slice z1 i1 f1) ∧ w'.cell? ⟨bB, oB + k * 7 + 4, none⟩ = some (.slice z2 i2 f2) ∧ w'.cell? ⟨bB, oB + k * 7 + 5, none⟩ = some (.slice z3 i3 f3) ∧ w'.cell? ⟨bB, oB + k * 7 + 6, none⟩ = some (.int .i64 o7) ∧ wr.grownBy w' none) ((try go_split_ands) <;> (repeat' apply And.intro) <;> (first | (with_reducible assumption) | (with_reducible refine (grown_drew _ none).cell ?_ (by simp); with_reducible assumption) | (with_reducible refine grown_trans ?_ (grown_drew _ none); with_reducible assumption))) (first
          | (go_at_call 30; (first | refine (HC.out _ hgr).mono ?_ | refine (HC.out _ (grown_drew _ none)).mono ?_); rintro e w2 ⟨rfl, hg2⟩; (first | replace hgr := grown_trans hgr hg2 | replace hgr := grown_trans (grown_trans hgr (grown_drew _ none)) hg2); replace k5 := hg2.cell k5 (by simp); replace j5 := hg2.cell j5 (by simp); replace a0 := hg2.cell a0 (by simp); replace a1 := hg2.cell a1 (by simp); replace a2 := hg2.cell a2 (by simp); replace a3 := hg2.cell a3 (by simp); replace a4 := hg2.cell a4 (by simp); replace a5 := hg2.cell a5 (by simp); replace a6 := hg2.cell a6 (by simp); replace b0 := hg2.cell b0 (by simp); replace b1 := hg2.cell b1 (by simp); replace b2 := hg2.cell b2 (by simp); replace b3 := hg2.cell b3 (by simp); replace b4 := hg2.cell b4 (by simp); replace b5 := hg2.cell b5 (by simp); replace b6 := hg2.cell b6 (by simp)))
         go_wp2_with fail
         go_ret
         exact ⟨by simp, grown_trans HWR.out hgr⟩
        ·go_wp2_with fail
         go_region_held3 (fun w' => w'.cell? ⟨w.heap.size, 5, none⟩ = some (.slice (some ⟨bA, oA, none⟩) n3 c3) ∧ w'.cell? ⟨w.heap.size + 1, 5, none⟩ = some (.slice (some ⟨bB, oB, none⟩) n3 d3) ∧ w'.cell? ⟨bA, oA + k * 7, none⟩ = some (.int .i64 u1) ∧ w'.cell? ⟨bA, oA + k * 7 + 1, none⟩ = some (.string u2) ∧ w'.cell? ⟨bA, oA + k * 7 + 2, none⟩ = some (.bool u3) ∧ w'.cell? ⟨bA, oA + k * 7 + 3, none⟩ = some (.slice y1 r1 s1) ∧ w'.cell? ⟨bA, oA + k * 7 + 4, none⟩ = some (.slice y2 r2 s2) ∧ w'.cell? ⟨bA, oA + k * 7 + 5, none⟩ = some (.slice y3 r3 s3) ∧ w'.cell? ⟨bA, oA + k * 7 + 6, none⟩ = some (.int .i64 u7) ∧ w'.cell? ⟨bB, oB + k * 7, none⟩ = some (.int .i64 o1) ∧ w'.cell? ⟨bB, oB + k * 7 + 1, none⟩ = some (.string o2) ∧ w'.cell? ⟨bB, oB + k * 7 + 2, none⟩ = some (.bool o3) ∧ w'.cell? ⟨bB, oB + k * 7 + 3, none⟩ = some (.slice z1 i1 f1) ∧ w'.cell? ⟨bB, oB + k * 7 + 4, none⟩ = some (.slice z2 i2 f2) ∧ w'.cell? ⟨bB, oB + k * 7 + 5, none⟩ = some (.slice z3 i3 f3) ∧ w'.cell? ⟨bB, oB + k * 7 + 6, none⟩ = some (.int .i64 o7) ∧ wr.grownBy w' none) ((try go_split_ands) <;> (repeat' apply And.intro) <;> (first | (with_reducible assumption) | (with_reducible refine (grown_drew _ none).cell ?_ (by simp); with_reducible assumption) | (with_reducible refine grown_trans ?_ (grown_drew _ none); with_reducible assumption))) (first
          | (go_at_call 30; (first | refine (HC.out _ hgr).mono ?_ | refine (HC.out _ (grown_drew _ none)).mono ?_); rintro e w2 ⟨rfl, hg2⟩; (first | replace hgr := grown_trans hgr hg2 | replace hgr := grown_trans (grown_trans hgr (grown_drew _ none)) hg2); replace k5 := hg2.cell k5 (by simp); replace j5 := hg2.cell j5 (by simp); replace a0 := hg2.cell a0 (by simp); replace a1 := hg2.cell a1 (by simp); replace a2 := hg2.cell a2 (by simp); replace a3 := hg2.cell a3 (by simp); replace a4 := hg2.cell a4 (by simp); replace a5 := hg2.cell a5 (by simp); replace a6 := hg2.cell a6 (by simp); replace b0 := hg2.cell b0 (by simp); replace b1 := hg2.cell b1 (by simp); replace b2 := hg2.cell b2 (by simp); replace b3 := hg2.cell b3 (by simp); replace b4 := hg2.cell b4 (by simp); replace b5 := hg2.cell b5 (by simp); replace b6 := hg2.cell b6 (by simp)))
         go_wp2_with fail
         exact ⟨⟨k + 1, by omega, by go_num, grown_trans hg hgr, fun i hi hi' h => by
          rcases Nat.lt_or_eq_of_le (Nat.le_of_lt_succ h) with h | rfl
          ·exact HALL.out i hi hi' h
          ·exact HQ.out.1 trivial⟩, by simp [intOf]; omega⟩
       ·obtain rfl : k = n3 := by omega
        obtain rfl : v2 = true := HV2.out.2 ⟨by omega, fun i hi hi' => HALL.out i hi hi' (by omega)⟩
        go_wp2_with fail
        go_ret
        exact ⟨by simp, hgr⟩
     ·obtain rfl : v2 = false := by
       rw [← Bool.not_eq_true, HV2.out]
       rintro ⟨h, _⟩
       omega
      have hz : ¬ (n3 : Int) = (m3 : Int) := by omega
      go_enter Tryz.func30, Tryz.ntmps30
      go_upto_region 1 with fail
      generalize ((w.alloc _).alloc _) = w0 at *
      go_wp2_with (first
       | (go_at_call 53; refine (HR.out _ hW).mono ?_; rintro e w1 ⟨rfl, hg⟩; replace hW := grown_trans hW hg; replace k0 := hg.cell k0 (by simp); replace k1 := hg.cell k1 (by simp); replace k2 := hg.cell k2 (by simp); replace k3 := hg.cell k3 (by simp); replace k4 := hg.cell k4 (by simp); replace k5 := hg.cell k5 (by simp); replace k6 := hg.cell k6 (by simp); replace j0 := hg.cell j0 (by simp); replace j1 := hg.cell j1 (by simp); replace j2 := hg.cell j2 (by simp); replace j3 := hg.cell j3 (by simp); replace j4 := hg.cell j4 (by simp); replace j5 := hg.cell j5 (by simp); replace j6 := hg.cell j6 (by simp); clear HR hg))
      go_ret
      exact ⟨by simp, hW⟩
   ·go_enter Tryz.func30, Tryz.ntmps30
    go_upto_region 1 with fail
    generalize ((w.alloc _).alloc _) = w0 at *
    have hz : (e2.toList == x2.toList) = false := by
     rw [beq_eq_false_iff_ne]
     exact fun h => h2 (bytes_eq.1 h)
    go_wp2_with fail
    go_ret
    exact ⟨by simp [h2], hW⟩
  ·go_enter Tryz.func30, Tryz.ntmps30
   go_upto_region 1 with fail
   generalize ((w.alloc _).alloc _) = w0 at *
   have hz := h1
   go_wp2_with fail
   go_ret
   exact ⟨by simp [h1], hW⟩
end Go.Proofs.YtjpkncgfpbhnaaaGreatDoor
