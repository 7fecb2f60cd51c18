/-
  AstA Box4 AstT AstU SRow SOwn AstN AstV AstW AstM AstB AstC AstD AstG AstH AstI EqA EqM EqB Ard AstR, in one text.
-/
import Derived.Test.YtiaonbofkgkdhaaGreatDoorProg
import Derived.Test.YtiaonbofkgkdhaaGreatDoorMem
import Derived.Test.YtiaonbofkgkdhaaGreatDoorOwn
import Derived.Shelf.Bits.Mul64
import Derived.StillTailTactics
import Derived.Deep.DeepCutAuto
import Derived.IntWalk
import Derived.Lib.Strings
import Derived.Test.YtiaonbofkgkdhaaGreatDoorRows
import Derived.WalkKit
import Derived.ProofKit
import Derived.OpenShut
import Derived.Test.YtiaonbofkgkdhaaGreatDoorDig
import Derived.KernelRfl

set_option linter.unusedVariables false
set_option linter.unusedSimpArgs false
namespace Go.Proofs.YtiaonbofkgkdhaaGreatDoor
open Go.Shelf Go.RowKit _root_.Nm
set_option maxRecDepth 100000
def astRen : Ren := ⟨fun n => match n with
    | 212 => 189
    | 263 => 193
    | 264 => 157
    | n => n,
  fun n => match n with
    | 46 => 146
    | 51 => 189
    | 53 => 91
    | 146 => 197
    | 148 => 147
    | n => n,
  fun n => n⟩
theorem ast212 : Lays.n212 Tryz.prog astRen where
  mixed := by kernel_rfl
  f212 := by kernel_rfl
  f263 := by kernel_rfl
  f264 := by kernel_rfl
  t46 := by kernel_rfl
  a46 := fun _ => by kernel_rfl
  z46 := fun _ => by kernel_rfl
  v46 := fun _ => by kernel_rfl
  t51 := by kernel_rfl
  a51 := fun _ => by kernel_rfl
  z51 := fun _ => by kernel_rfl
  v51 := fun _ => by kernel_rfl
  t53 := by kernel_rfl
  a53 := fun _ => by kernel_rfl
  z53 := fun _ => by kernel_rfl
  v53 := fun _ => by kernel_rfl
  t146 := by kernel_rfl
  a146 := fun _ => by kernel_rfl
  z146 := fun _ => by kernel_rfl
  v146 := fun _ => by kernel_rfl
  t148 := by kernel_rfl
  a148 := fun _ => by kernel_rfl
  z148 := fun _ => by kernel_rfl
  v148 := fun _ => by kernel_rfl
/-- the address is a new one -/
def Frs (w : World) (p : Option Addr) : Prop := ∀ a, p = some a → w.heap.size ≤ a.block
theorem mul_any (x y : Nat) (h : x * y < 18446744073709551616) (hx : x < 18446744073709551616) (hy : y < 18446744073709551616) (w : World) : Calls Tryz.prog 189 #[.int .u64 (x : Int), .int .u64 (y : Int)] w fun e w' => e = .returned (.tuple #[.int .u64 0, .int .u64 ((x * y : Nat) : Int)]) ∧ w = w' := by
  refine (Any.bits_Mul ast212 x y hx hy w).mono ?_
  rintro e w' ⟨rfl, h2⟩
  rw [Nat.div_eq_of_lt h, Nat.mod_eq_of_lt h]
  exact ⟨rfl, h2.symm⟩
theorem mul_one_any (y : Nat) (hy : y < 18446744073709551616) (w : World) : Calls Tryz.prog 189 #[.int .u64 1, .int .u64 (y : Int)] w fun e w' => e = .returned (.tuple #[.int .u64 0, .int .u64 (y : Int)]) ∧ w = w' := by
  have := mul_any 1 y (by omega) (by omega) hy w
  rw [Nat.one_mul] at this
  exact this
theorem infoInt : (Tryz.prog.info? 3).map (fun i => (i.zero, i.size, i.bytes)) = some (some (.int .i64 0), 1, 8) := by kernel_rfl
theorem sizeInt : (Tryz.prog.info? 3).map (·.size) = some 1 := by kernel_rfl
def ones (m n : Nat) : List Nat := List.replicate m 1 ++ List.replicate (n - m) 0
theorem ones_len {m n : Nat} (h : m ≤ n) : (ones m n).length = n := by simp [ones]; omega
theorem ones_take {m n : Nat} (h : m ≤ n) : (ones m n).take m = List.replicate m 1 := by
  unfold ones; rw [List.take_left' (by simp)]
theorem ones_splice {m n : Nat} (h : m ≤ n) : splice (ones m n) m ((List.replicate m 1).take (n - m)) = ones (m + min m (n - m)) n := by
  unfold splice ones
  rw [List.take_left' (by simp), List.take_replicate, List.length_replicate, List.drop_append, List.length_replicate, List.drop_of_length_le (by simp), List.nil_append, List.drop_replicate, ← List.append_assoc, List.replicate_append_replicate]
  rw [show m + min (n - m) m = m + min m (n - m) by omega, show n - m - (m + min m (n - m) - m) = n - (m + min m (n - m)) by omega]

set_option maxHeartbeats 4000000 in
theorem repeat_any (n b o c : Nat) (hn1 : 1 ≤ n) (hn : n ≤ 1000) (w : World) (h : IRd w .i64 (some ⟨b, o, none⟩) 1 c [1]) :
    Calls Tryz.prog 173 #[.slice (some ⟨b, o, none⟩) 1 c, .int .i64 (n : Int)] w fun e w' => ∃ p, e = .returned (.slice p n n) ∧ Frs w p ∧ IRd w' .i64 p n n (List.replicate n 1) ∧ w.grownBy w' none := by
  have HM := hid (mul_one_any n (by omega))
  have HR := hid h
  have hb := (h.block (by omega))
  have hc := h.cap
  have hm := h.max
  clear h hb
  go_enter Tryz.func173, Tryz.ntmps173
  have hmn : ¬ ((n : Int) < 0) := by omega
  have hmin : min 1 n = 1 := by omega
  have hminI : min (1 : Int) (n : Int) = 1 := by omega
  have hw1 : IntKind.u64.wrap (n : Int) = (n : Int) := by rw [IntKind.wrap_u64]; omega
  have hw2 : IntKind.i64.wrap (n : Int) = (n : Int) := IntWalk.i64_in _ (by omega)
  have hw3 : ¬ (9223372036854775807 < (n : Int)) := by omega
  go_wp2_with (first | (go_at_call 189; (with_reducible refine (HM.out _).mono ?_); rintro e w' ⟨rfl, rfl⟩) | (with_reducible refine wl_make _ rfl (.tmp 29) (.tmp 29) 22 rfl 3 .i64 8 Tryz.underlying22 infoInt .i64 .i64 _ _ rfl rfl n rfl rfl (by omega) (by omega) ?_; intro w1 hr1 hg1; have hx1 := HR.out.keep hg1) | (with_reducible refine wl_copy _ rfl (.tmp 31) (.tmp 32) 22 22 rfl 3 Tryz.underlying22 sizeInt .i64 _ _ n n 1 c rfl rfl w.heap.size 0 _ _ [1] hr1 (fun _ => rfl) hx1 (by simp) ?_; intro w2 hr2 hg2))
  have hs0 : splice (List.replicate n 0) 0 (List.take n [1]) = ones 1 n := by
    obtain ⟨k, rfl⟩ : ∃ k, n = k + 1 := ⟨n - 1, by omega⟩
    unfold splice ones
    simp [List.drop_replicate]
  rw [hs0] at hr2
  have hgw : w.grownBy w2 none := grown_new hg1 hg2 (fun g e => by cases e; exact Nat.le_refl _)
  clear hs0 HM hr1 hx1 hg1 hg2
  go_wp2_with fail
  go_loopw [8] (fun x wr => ∃ m : Nat, x = .int .i64 m ∧ 1 ≤ m ∧ m ≤ n ∧ IRow wr w.heap.size 3 .i64 (ones m n) ∧ w.grownBy wr none) (fun x _ => n - (intOf x).toNat)
  case atStart => exact ⟨1, rfl, Nat.le_refl _, hn1, hr2, hgw⟩
  case round =>
    clear hr2 hgw
    obtain ⟨m, rfl, hm1, hmn', hr, hg⟩ := hrel
    by_cases hlt : m < n
    · have hsrc : IRd wr .i64 (some ⟨w.heap.size, 0, none⟩) m n (List.replicate m 1) := by
        have := hr.rd 0 m n (by rw [ones_len hmn']; omega) hmn' (by omega)
        rwa [List.drop_zero, ones_take hmn'] at this
      go_wp2_with fail
      have hcur : wr.drew.heap[w.heap.size]? = some (.cells ((ones m n).map (iv .i64)).toArray 3 (0, 0)) := hr
      have hcs : (List.replicate (min m (n - m)) (iv .i64 1)).length = Nat.min m (n - m) := List.length_replicate
      have hpos : 0 < (List.replicate (min m (n - m)) (iv .i64 1)).length → (some (⟨w.heap.size, m, none⟩ : Addr)) = some ⟨w.heap.size, m, none⟩ ∧ ∃ ad, (some (⟨w.heap.size, 0, none⟩ : Addr)) = some ad ∧ ∀ j v, (List.replicate (min m (n - m)) (iv .i64 1))[j]? = some v → wr.drew.cell? (ad.add j) = some v := fun _ => ⟨rfl, _, rfl, fun j v hv => by
        obtain ⟨hj, rfl⟩ := List.getElem?_eq_some_iff.1 hv
        rw [List.length_replicate] at hj
        have := hr.cell j (by rw [ones_len hmn']; omega)
        rw [add_addr, Nat.zero_add]
        show wr.cell? _ = _
        rw [this]
        have e : (ones m n)[j]'(by rw [ones_len hmn']; omega) = 1 := by unfold ones; rw [List.getElem_append_left (by simp; omega)]; simp
        rw [e]; simp⟩
      have hfit : m + (List.replicate (min m (n - m)) (iv .i64 1)).length ≤ ((ones m n).map (iv .i64)).length := by rw [List.length_map, ones_len hmn', List.length_replicate]; omega
      have h1c : ∀ v ∈ List.replicate (min m (n - m)) (iv .i64 1), v.oneCell' = true := fun v hv => by rw [List.eq_of_mem_replicate hv]; rfl
      have hbel : Below w.heap.size w wr.drew := grown_below (grown_trans hg (grown_drew _ _))
      have HH1 := hid hcur
      have HH2 := hid hcs
      have HH3 := hid hpos
      have HH4 := hid hfit
      have HH5 := hid h1c
      have HH6 := hid hbel
      clear hcur hcs hpos hfit h1c hbel
      have hsp := @ones_splice m n hmn'
      have hns : splice ((ones m n).map (iv .i64)) m (List.replicate (min m (n - m)) (iv .i64 1)) = (ones (m + min m (n - m)) n).map (iv .i64) := by
        rw [← hsp, List.take_replicate, Nat.min_comm]
        unfold splice
        simp
      have HNS := hid hns
      clear hsp hns
      go_region_law (refine step_copy_splice rfl (.tmp 41) (.tmp 44) 22 22 rfl 3 Tryz.underlying22 sizeInt (some ⟨w.heap.size, m, none⟩) (some ⟨w.heap.size, 0, none⟩) (n - m) (n - m) m n (by simp [Act.eval, Act.put]; omega) (by simp [Act.eval, Act.put]) w.heap.size m _ _ HH1.out _ HH2.out HH3.out HH4.out HH5.out w.heap.size w HH6.out (Nat.le_refl _) ?_; intro w4 hg4 hb4)
      all_goals
        have hlen : (List.replicate (min m (n - m)) (iv .i64 1)).length = min m (n - m) := List.length_replicate
        rw [HNS.out] at hg4
        have HG4 := hid hg4
        clear hg4
        have hwr : IntKind.i64.wrap ((m : Int) + ((min m (n - m) : Nat) : Int)) = ((m + min m (n - m) : Nat) : Int) := by rw [IntWalk.i64_in _ (by omega)]; omega
        go_simp
        refine ⟨?_, ?_⟩
        · (repeat apply Exists.intro)
          exact ⟨⟨m + min m (n - m), by rw [Int.natCast_add], by omega, by omega, HG4.out, below_grown hb4⟩, rfl⟩
        · simp [intOf, hwr]; omega
    · obtain rfl : m = n := by omega
      go_wp2_with fail
      go_ret
      refine ⟨_, rfl, fun a e => by cases e; exact Nat.le_refl _, ?_, hg⟩
      have := hr.rd0 (by rw [ones_len hmn']; omega)
      rw [ones_len hmn'] at this
      have e : ones m m = List.replicate m 1 := by unfold ones; simp
      rwa [e] at this

theorem points_any (n : Nat) (hn1 : 1 ≤ n) (hn : n ≤ 1000) (x : Int) (hx : x = (n : Int)) (w : World) :
    Calls Tryz.prog 144 #[.int .i64 x] w fun e w' => ∃ p, e = .returned (.slice p n n) ∧ Frs w p ∧ IRd w' .i64 p n n (List.replicate n 1) ∧ w.grownBy w' none := by
  subst hx
  have HR := hid fun (b c : Nat) (w : World) (h : IRd w .i64 (some ⟨b, 0, none⟩) 1 c [1]) => repeat_any n b 0 c hn1 hn w h
  have h1 := (IRow.made w 3 .i64 [1]).rd0 (by simp)
  have H1 : Hid (IRd (w.alloc (.cells #[.int .i64 1] 3)) .i64 (some ⟨w.heap.size, 0, none⟩) 1 1 [1]) := hid h1
  clear h1
  go_enter Tryz.func144, Tryz.ntmps144
  go_wp2_with (go_at_call 173; (with_reducible refine (HR.out _ _ _ H1.out).mono ?_); rintro e w' ⟨p, rfl, hf, hr, hg⟩)
  go_ret
  exact ⟨p, rfl, fun a e => by have := hf a e; simp at this; omega, hr, grown_trans (World.grownBy_alloc _ _ _) hg⟩
end Go.Proofs.YtiaonbofkgkdhaaGreatDoor

set_option linter.unusedVariables false
set_option linter.unusedSimpArgs false
namespace Nm
open Go Go.RowKit

theorem blk0 (w : World) (A : Obj) : (w.alloc A).heap[w.heap.size]? = some A := heap_alloc_new w A
theorem blk1 (w : World) (A B : Obj) : ((w.alloc A).alloc B).heap[w.heap.size]? = some A := (heap_alloc_old _ _ (by simp)).trans (heap_alloc_new w A)
theorem blk2 (w : World) (A B C : Obj) : (((w.alloc A).alloc B).alloc C).heap[w.heap.size]? = some A := (heap_alloc_old _ _ (by simp; omega)).trans (blk1 w A B)

section
variable {w : World} {G : Nat} {x y z u : Value} {T : TypeId}
theorem box4 (hb : w.heap[G]? = some (.cells #[x, y, z, u] T (0, 0))) :
    (w.cell? ⟨G, 0, none⟩ = some x ∧ w.cell? ⟨G, 1, none⟩ = some y ∧ w.cell? ⟨G, 2, none⟩ = some z ∧ w.cell? ⟨G, 3, none⟩ = some u) ∧ w.frozen? ⟨G, 0, none⟩ = false ∧ w.frozen? ⟨G, 1, none⟩ = false ∧ w.frozen? ⟨G, 2, none⟩ = false ∧ w.frozen? ⟨G, 3, none⟩ = false := by
  have k0 := cell_of_row w G 0 _ _ _ hb
  have k1 := cell_of_row w G 1 _ _ _ hb
  have k2 := cell_of_row w G 2 _ _ _ hb
  have k3 := cell_of_row w G 3 _ _ _ hb
  simp at k0 k1 k2 k3
  exact ⟨⟨k0, k1, k2, k3⟩, frozen_of_row w G 0 _ _ hb, frozen_of_row w G 1 _ _ hb, frozen_of_row w G 2 _ _ hb, frozen_of_row w G 3 _ _ hb⟩
theorem set4 (hb : w.heap[G]? = some (.cells #[x, y, z, u] T (0, 0))) (A B C D : Value) :
    ((((w.setCell ⟨G, 0, none⟩ A).setCell ⟨G, 1, none⟩ B).setCell ⟨G, 2, none⟩ C).setCell ⟨G, 3, none⟩ D).heap[G]? = some (.cells #[A, B, C, D] T (0, 0)) := by
  have h1 := heap_setCell_same w G 0 _ _ A hb
  have h2 := heap_setCell_same _ G 1 _ _ B h1
  have h3 := heap_setCell_same _ G 2 _ _ C h2
  have h4 := heap_setCell_same _ G 3 _ _ D h3
  simpa using h4
theorem set4_grown (w : World) (G : Nat) (A B C D : Value) : w.grownBy ((((w.setCell ⟨G, 0, none⟩ A).setCell ⟨G, 1, none⟩ B).setCell ⟨G, 2, none⟩ C).setCell ⟨G, 3, none⟩ D) (some G) :=
  grown_trans (grown_setCell w ⟨G, 0, none⟩ A) (grown_trans (grown_setCell _ ⟨G, 1, none⟩ B) (grown_trans (grown_setCell _ ⟨G, 2, none⟩ C) (grown_setCell _ ⟨G, 3, none⟩ D)))
theorem set1_grown {w0 w : World} (h : w0.grownBy w none) (G o : Nat) (A : Value) (hG : w0.heap.size ≤ G) : w0.grownBy (w.setCell ⟨G, o, none⟩ A) none :=
  grown_new h (grown_setCell w ⟨G, o, none⟩ A) fun g e => by cases e; exact hG
theorem set4_new {w0 w : World} (h : w0.grownBy w none) (G : Nat) (A B C D : Value) (hG : w0.heap.size ≤ G) : w0.grownBy ((((w.setCell ⟨G, 0, none⟩ A).setCell ⟨G, 1, none⟩ B).setCell ⟨G, 2, none⟩ C).setCell ⟨G, 3, none⟩ D) none :=
  grown_new h (set4_grown w G A B C D) fun g e => by cases e; exact hG
theorem keepB {w' : World} {O : Obj} (hb : w.heap[G]? = some O) (hg : w.grownBy w' none) : w'.heap[G]? = some O := (hg.block G (lt_of_block hb) (by simp)).trans hb
end
end Nm

set_option linter.unusedVariables false
set_option linter.unusedSimpArgs false
namespace Go.Proofs.YtiaonbofkgkdhaaGreatDoor
open Go.RowKit _root_.Nm
/-- a node without its arguments -/
structure Hd where
  k : Int
  nm : ByteArray
  g : Bool
  num : List Nat
  den : List Nat
  pos : Int
inductive Tr where
  | node (h : Hd) (l : List Tr)
/-- the seven cells read as the tree; m bounds the depth -/
def ERd (w : World) : Nat → List Value → Tr → Prop
  | 0, _, _ => False
  | m + 1, cs, .node h l => ∃ (pn : Option Addr) (nn cn : Nat) (pd : Option Addr) (nd cd : Nat) (pa : Option Addr) (na ca : Nat),
      cs = [.int .i64 h.k, .string h.nm, .bool h.g, .slice pn nn cn, .slice pd nd cd, .slice pa na ca, .int .i64 h.pos] ∧ IRd w .u16 pn nn cn h.num ∧ IRd w .u16 pd nd cd h.den ∧
      (l.length = na ∧ na ≤ ca ∧ ca ≤ 9223372036854775807 ∧ h.nm.size ≤ maxLen) ∧
      ∀ i (hi : i < l.length), ∃ b o cs', pa = some ⟨b, o, none⟩ ∧ cs'.length = 7 ∧ (∀ j (hj : j < cs'.length), w.cell? ⟨b, o + i * 7 + j, none⟩ = some cs'[j]) ∧ ERd w m cs' l[i]
theorem ERd.keep {w w' : World} (hg : w.grownBy w' none) : ∀ {m : Nat} {cs : List Value} {t : Tr}, ERd w m cs t → ERd w' m cs t
  | 0, _, _, h => h.elim
  | m + 1, cs, .node h l, ⟨pn, nn, cn, pd, nd, cd, pa, na, ca, h1, h2, h3, h4, h5⟩ => by
    refine ⟨pn, nn, cn, pd, nd, cd, pa, na, ca, h1, h2.keep hg, h3.keep hg, h4, fun i hi => ?_⟩
    obtain ⟨b, o, cs', k1, k2, k3, k4⟩ := h5 i hi
    exact ⟨b, o, cs', k1, k2, fun j hj => hg.cell (k3 j hj) (by simp), k4.keep hg⟩
theorem ERd.shape {w : World} : ∀ {m : Nat} {cs : List Value} {t : Tr}, ERd w m cs t → ∃ (k : Int) (nm : ByteArray) (g : Bool) (pn : Option Addr) (nn cn : Nat) (pd : Option Addr) (nd cd : Nat) (pa : Option Addr) (na ca : Nat) (pos : Int), cs = [.int .i64 k, .string nm, .bool g, .slice pn nn cn, .slice pd nd cd, .slice pa na ca, .int .i64 pos]
  | 0, _, _, h => h.elim
  | m + 1, cs, .node h l, ⟨pn, nn, cn, pd, nd, cd, pa, na, ca, h1, _⟩ => ⟨_, _, _, _, _, _, _, _, _, _, _, _, _, h1⟩
theorem seven {l : List Value} (h : l.length = 7) : ∃ a b c d e f g, l = [a, b, c, d, e, f, g] := by
  match l, h with
  | [a, b, c, d, e, f, g], _ => exact ⟨a, b, c, d, e, f, g, rfl⟩
theorem box7 {w : World} {G : Nat} {a b c d e f g : Value} {T : TypeId} (hb : w.heap[G]? = some (.cells #[a, b, c, d, e, f, g] T (0, 0))) :
    (w.cell? ⟨G, 0, none⟩ = some a ∧ w.cell? ⟨G, 1, none⟩ = some b ∧ w.cell? ⟨G, 2, none⟩ = some c ∧ w.cell? ⟨G, 3, none⟩ = some d ∧ w.cell? ⟨G, 4, none⟩ = some e ∧ w.cell? ⟨G, 5, none⟩ = some f ∧ w.cell? ⟨G, 6, none⟩ = some g) ∧
    w.frozen? ⟨G, 0, none⟩ = false ∧ w.frozen? ⟨G, 1, none⟩ = false ∧ w.frozen? ⟨G, 2, none⟩ = false ∧ w.frozen? ⟨G, 3, none⟩ = false ∧ w.frozen? ⟨G, 4, none⟩ = false ∧ w.frozen? ⟨G, 5, none⟩ = false ∧ w.frozen? ⟨G, 6, none⟩ = false := by
  have k := fun i => cell_of_row w G i _ _ _ hb
  have k0 := k 0
  have k1 := k 1
  have k2 := k 2
  have k3 := k 3
  have k4 := k 4
  have k5 := k 5
  have k6 := k 6
  simp at k0 k1 k2 k3 k4 k5 k6
  have f := fun i => frozen_of_row w G i _ _ hb
  exact ⟨⟨k0, k1, k2, k3, k4, k5, k6⟩, f 0, f 1, f 2, f 3, f 4, f 5, f 6⟩
def zeroE (T : TypeId) : Obj := .cells #[.int .i64 0, .string ⟨#[]⟩, .bool false, .slice none 0 0, .slice none 0 0, .slice none 0 0, .int .i64 0] T (0, 0)

set_option maxHeartbeats 8000000 in
set_option maxRecDepth 100000 in
theorem count_any : ∀ (m : Nat) (cs : List Value) (t : Tr) (w : World), ERd w m cs t → Calls Tryz.prog 13 #[.agg cs.toArray] w fun e w' => (∃ z, e = .returned (.int .i64 z)) ∧ w.grownBy w' none
  | 0, _, _, _, h => h.elim
  | m + 1, cs, .node h l, w, hE => by
    have IH := hid (count_any m)
    obtain ⟨pn, nn, cn, pd, nd, cd, pa, na, ca, rfl, hn, hd, ⟨hla, hac, hca, hnm⟩, hargs⟩ := hE
    have HX := hid hargs
    clear hargs hn hd
    have HA := hid (World.grownBy_alloc w (.cells #[.int .i64 h.k, .string h.nm, .bool h.g, .slice pn nn cn, .slice pd nd cd, .slice pa na ca, .int .i64 h.pos] 43 (0, 0)) none)
    go_enter Tryz.func13, Tryz.ntmps13
    go_wp2_with fail
    go_loopw [3, 9] (fun z x wr => ∃ k : Nat, k ≤ na ∧ (∃ y, z = .int .i64 y) ∧ x = .int .i64 k ∧ w.grownBy wr none) (fun z x _ => na - (intOf x).toNat)
    case atStart => exact ⟨0, Nat.zero_le _, ⟨_, rfl⟩, rfl, HA.out⟩
    case round =>
      obtain ⟨k, hk, ⟨y, rfl⟩, rfl, hg⟩ := hrel
      by_cases hlt : k < na
      · obtain ⟨b, o, cs', rfl, h7, hc, hE⟩ := HX.out k (by omega)
        obtain ⟨e1, e2, e3, pn', nn', cn', pd', nd', cd', pa', na', ca', e7, rfl⟩ := hE.shape
        have c0 := hg.cell (hc 0 (by simp)) (by simp)
        have c1 := hg.cell (hc 1 (by simp)) (by simp)
        have c2 := hg.cell (hc 2 (by simp)) (by simp)
        have c3 := hg.cell (hc 3 (by simp)) (by simp)
        have c4 := hg.cell (hc 4 (by simp)) (by simp)
        have c5 := hg.cell (hc 5 (by simp)) (by simp)
        have c6 := hg.cell (hc 6 (by simp)) (by simp)
        simp only [List.getElem_cons_zero, List.getElem_cons_succ, Nat.add_zero] at c0 c1 c2 c3 c4 c5 c6
        have HE := hid (ERd.keep (grown_trans hg (World.grownBy_alloc wr (.cells #[.int .i64 e1, .string e2, .bool e3, .slice pn' nn' cn', .slice pd' nd' cd', .slice pa' na' ca', .int .i64 e7] 43 (0, 0)) none)) hE)
        clear hc hE h7
        obtain ⟨⟨k0, k1, k2, k3, k4, k5, k6⟩, f0, f1, f2, f3, f4, f5, f6⟩ := box7 (blk0 wr (zeroE 43))
        unfold zeroE at k0 k1 k2 k3 k4 k5 k6 f0 f1 f2 f3 f4 f5 f6
        go_wp2_with (go_at_call 13; refine (IH.out _ _ _ HE.out).mono ?_; rintro e w2 ⟨⟨y2, rfl⟩, hg2⟩)
        exact ⟨⟨k + 1, by omega, ⟨_, rfl⟩, by go_num, grown_trans hg (grown_trans (World.grownBy_alloc _ _ none) hg2)⟩, by simp [intOf]; omega⟩
      · obtain rfl : k = na := by omega
        go_wp2_with fail
        go_ret
        exact ⟨⟨_, rfl⟩, hg⟩
end Go.Proofs.YtiaonbofkgkdhaaGreatDoor

set_option linter.unusedVariables false
set_option linter.unusedSimpArgs false
namespace Go.Proofs.YtiaonbofkgkdhaaGreatDoor
open Go.RowKit _root_.Nm
/-- the depth, as the machine counts -/
def depF : Nat → Tr → Int
  | 0, _ => 0
  | m + 1, .node _ l => wrap64 ((l.map (depF m)).foldl max 0 + 1)
def most (m : Nat) (l : List Tr) : Int := (l.map (depF m)).foldl max 0
theorem most_succ (m : Nat) (l : List Tr) {k : Nat} (hk : k < l.length) : most m (l.take (k + 1)) = max (most m (l.take k)) (depF m l[k]) := by
  unfold most
  rw [List.take_add_one, List.map_append, List.foldl_append, List.getElem?_eq_getElem hk]
  rfl
theorem depF_succ (m : Nat) (h : Hd) (l : List Tr) : depF (m + 1) (.node h l) = wrap64 (most m l + 1) := rfl
set_option maxHeartbeats 8000000 in
set_option maxRecDepth 100000 in
theorem rdepth_any : ∀ (m : Nat) (cs : List Value) (t : Tr) (w : World), ERd w m cs t → Calls Tryz.prog 65 #[.agg cs.toArray] w fun e w' => e = .returned (.int .i64 (depF m t)) ∧ w.grownBy w' none
  | 0, _, _, _, h => h.elim
  | m + 1, cs, .node h l, w, hE => by
    have IH := hid (rdepth_any m)
    obtain ⟨pn, nn, cn, pd, nd, cd, pa, na, ca, rfl, hn, hd, ⟨hla, hac, hca, hnm⟩, hargs⟩ := hE
    have HX := hid hargs
    clear hargs hn hd
    have HA := hid (World.grownBy_alloc w (.cells #[.int .i64 h.k, .string h.nm, .bool h.g, .slice pn nn cn, .slice pd nd cd, .slice pa na ca, .int .i64 h.pos] 43 (0, 0)) none)
    go_enter Tryz.func65, Tryz.ntmps65
    go_wp2_with fail
    go_loopw [3, 9] (fun z x wr => ∃ k : Nat, k ≤ na ∧ z = .int .i64 (most m (l.take k)) ∧ x = .int .i64 k ∧ w.grownBy wr none) (fun z x _ => na - (intOf x).toNat)
    case atStart => exact ⟨0, Nat.zero_le _, rfl, rfl, HA.out⟩
    case round =>
      obtain ⟨k, hk, rfl, rfl, hg⟩ := hrel
      by_cases hlt : k < na
      · obtain ⟨b, o, cs', rfl, h7, hc, hE⟩ := HX.out k (by omega)
        obtain ⟨e1, e2, e3, pn', nn', cn', pd', nd', cd', pa', na', ca', e7, rfl⟩ := hE.shape
        have c0 := hg.cell (hc 0 (by simp)) (by simp)
        have c1 := hg.cell (hc 1 (by simp)) (by simp)
        have c2 := hg.cell (hc 2 (by simp)) (by simp)
        have c3 := hg.cell (hc 3 (by simp)) (by simp)
        have c4 := hg.cell (hc 4 (by simp)) (by simp)
        have c5 := hg.cell (hc 5 (by simp)) (by simp)
        have c6 := hg.cell (hc 6 (by simp)) (by simp)
        simp only [List.getElem_cons_zero, List.getElem_cons_succ, Nat.add_zero] at c0 c1 c2 c3 c4 c5 c6
        have HE := hid (ERd.keep (grown_trans hg (World.grownBy_alloc wr (.cells #[.int .i64 e1, .string e2, .bool e3, .slice pn' nn' cn', .slice pd' nd' cd', .slice pa' na' ca', .int .i64 e7] 43 (0, 0)) none)) hE)
        clear hc hE h7
        obtain ⟨⟨k0, k1, k2, k3, k4, k5, k6⟩, f0, f1, f2, f3, f4, f5, f6⟩ := box7 (blk0 wr (zeroE 43))
        unfold zeroE at k0 k1 k2 k3 k4 k5 k6 f0 f1 f2 f3 f4 f5 f6
        go_wp2_with (go_at_call 65; refine (IH.out _ _ _ HE.out).mono ?_; rintro e w2 ⟨rfl, hg2⟩)
        exact ⟨⟨k + 1, by omega, by rw [most_succ m l (by omega)]; congr 1; rw [Int.max_def]; split <;> split <;> omega, by go_num, grown_trans hg (grown_trans (World.grownBy_alloc _ _ none) hg2)⟩, by simp [intOf]; omega⟩
      · obtain rfl : k = na := by omega
        go_wp2_with fail
        go_ret
        exact ⟨by rw [depF_succ, show most m l = most m (l.take k) by rw [List.take_of_length_le (by omega)]]; rfl, hg⟩
end Go.Proofs.YtiaonbofkgkdhaaGreatDoor

set_option linter.unusedVariables false
set_option linter.unusedSimpArgs false
namespace Nm
open Go Go.RowKit

/-- the address a is the head of elements of k cells that read as l -/
def SCel (w : World) (k : Nat) (a : Option Addr) (l : List (List Value)) : Prop :=
  ∀ i (h : i < l.length) j (hj : j < (l[i]).length), ∃ b o, a = some ⟨b, o, none⟩ ∧ w.cell? ⟨b, o + i * k + j, none⟩ = some (l[i])[j]
/-- .slice a n c is a slice of structs of k cells that reads as l -/
structure SRd (w : World) (k : Nat) (a : Option Addr) (n c : Nat) (l : List (List Value)) : Prop where
  len : l.length = n
  each : ∀ r ∈ l, r.length = k
  cap : n ≤ c
  max : c ≤ 9223372036854775807
  cel : SCel w k a l
section
variable {w w' : World} {k : Nat} {a : Option Addr} {n c : Nat} {l : List (List Value)}
theorem SRd.kept (h : SRd w k a n c l) {row : Option Nat} (hg : w.grownBy w' row) (hne : row = none ∨ ∀ p, a = some p → some p.block ≠ row) : SRd w' k a n c l := by
  refine ⟨h.len, h.each, h.cap, h.max, fun i hi j hj => ?_⟩
  obtain ⟨b, o, rfl, hc⟩ := h.cel i hi j hj
  refine ⟨b, o, rfl, hg.cell hc ?_⟩
  rcases hne with rfl | hne
  · simp
  · exact hne ⟨b, o, none⟩ rfl
theorem SRd.keep (h : SRd w k a n c l) (hg : w.grownBy w' none) : SRd w' k a n c l := h.kept hg (.inl rfl)
theorem SRd.nil (w : World) (k : Nat) : SRd w k none 0 0 [] := ⟨rfl, by simp, Nat.le_refl _, by omega, fun i h => by simp at h⟩
/-- the cells of one element -/
theorem SRd.at (h : SRd w k a n c l) (hk : 0 < k) {i : Nat} (hi : i < l.length) : ∃ b o, a = some ⟨b, o, none⟩ ∧ ∀ j (hj : j < (l[i]).length), w.cell? ⟨b, o + i * k + j, none⟩ = some (l[i])[j] := by
  have hl := h.each l[i] (List.getElem_mem hi)
  obtain ⟨b, o, rfl, _⟩ := h.cel i hi 0 (by omega)
  refine ⟨b, o, rfl, fun j hj => ?_⟩
  obtain ⟨b', o', e, hc⟩ := h.cel i hi j hj
  cases e
  exact hc
end
end Nm

set_option linter.unusedVariables false
set_option linter.unusedSimpArgs false
namespace Nm
open Go Go.RowKit

/-- .slice a n c is nil, or the head of a row of the call's own, from block base on, whose first n elements of k cells are l -/
def SOwn (w : World) (base : Nat) (e : TypeId) (k : Nat) (a : Option Addr) (n c : Nat) (l : List (List Value)) : Prop :=
  l.length = n ∧ (∀ r ∈ l, r.length = k) ∧ w.ownsRow base e k (.slice a n c) n l.flatten

theorem flatten_get {k : Nat} : ∀ {l : List (List Value)} (h : ∀ r ∈ l, r.length = k) (i : Nat) (hi : i < l.length) (j : Nat) (hj : j < (l[i]).length), l.flatten[i * k + j]? = some (l[i])[j]
  | r :: l, h, 0, hi, j, hj => by
    simp only [List.getElem_cons_zero] at hj ⊢
    rw [List.flatten_cons, Nat.zero_mul, Nat.zero_add, List.getElem?_append_left hj]
    simp
  | r :: l, h, i + 1, hi, j, hj => by
    simp only [List.getElem_cons_succ] at hj ⊢
    have hr := h r (by simp)
    rw [List.flatten_cons, List.getElem?_append_right (by rw [hr, Nat.add_mul]; omega), hr]
    have ih := flatten_get (fun r hr => h r (by simp [hr])) i (by simpa using hi) j hj
    rw [show (i + 1) * k + j - k = i * k + j by rw [Nat.add_mul]; omega]
    exact ih

section
variable {w w' : World} {base : Nat} {e : TypeId} {k : Nat} {a : Option Addr} {n c : Nat} {l : List (List Value)}
theorem SOwn.nil (w : World) (base : Nat) (e : TypeId) (k : Nat) : SOwn w base e k none 0 0 [] := ⟨rfl, by simp, World.ownsRow_nil w base e k⟩
theorem SOwn.rd (h : SOwn w base e k a n c l) : SRd w k a n c l := by
  obtain ⟨hl, he, h1, h2 | ⟨g, cap, cur, hv, hb, hg, hn, hm, hs, ht⟩⟩ := h
  · obtain ⟨hv, rfl⟩ := h2
    simp only [Value.slice.injEq, true_and] at hv
    obtain ⟨rfl, rfl⟩ := hv
    obtain rfl : l = [] := List.eq_nil_of_length_eq_zero hl
    exact SRd.nil w k
  · simp only [Value.slice.injEq, true_and] at hv
    obtain ⟨rfl, rfl⟩ := hv
    refine ⟨hl, he, hn, by unfold maxLen at hm; omega, fun i hi j hj => ⟨g, 0, rfl, ?_⟩⟩
    have h3 := World.ownsRow.cells (w := w) (base := base) (e := e) (size := k) (v := .slice (some ⟨g, 0, none⟩) n c) (n := n) (xs := l.flatten) ⟨h1, .inr ⟨g, c, cur, rfl, hb, hg, hn, hm, hs, ht⟩⟩ (g := g) rfl (i * k + j) _ (flatten_get he i hi j hj)
    rw [add_addr] at h3
    rw [Nat.zero_add] at h3
    rw [Nat.zero_add]
    exact h3
theorem SOwn.lt (h : SOwn w base e k a n c l) : ∀ p, a = some p → base ≤ p.block ∧ p.block < w.heap.size := fun p hp => by
  subst hp
  exact h.2.2.lt p.block rfl
theorem SOwn.kept (h : SOwn w base e k a n c l) {row : Option Nat} (hg : w.grownBy w' row) (hne : row = none ∨ ∀ p, a = some p → some p.block ≠ row) : SOwn w' base e k a n c l := by
  refine ⟨h.1, h.2.1, h.2.2.kept hg ?_⟩
  cases a with
  | none => exact .inl rfl
  | some p =>
    rcases hne with rfl | hne
    · exact .inr (by simp [Value.ownBlock])
    · exact .inr (hne p rfl)
theorem SOwn.keep (h : SOwn w base e k a n c l) (hg : w.grownBy w' none) : SOwn w' base e k a n c l := h.kept hg (.inl rfl)
theorem SOwn.alloc (h : SOwn w base e k a n c l) (o : Obj) : SOwn (w.alloc o) base e k a n c l := ⟨h.1, h.2.1, h.2.2.alloc o⟩
end

/-- a new slice of one struct -/
theorem one_srd (w : World) (e : TypeId) (k : Nat) (r : List Value) (hr : r.length = k) (b : Nat) (hb : b = w.heap.size) : SRd (w.alloc (.cells r.toArray e)) k (some ⟨b, 0, none⟩) 1 1 [r] := by
  subst hb
  refine ⟨rfl, by simpa using hr, Nat.le_refl _, by omega, fun i hi j hj => ⟨w.heap.size, 0, rfl, ?_⟩⟩
  simp only [List.length_cons, List.length_nil, Nat.zero_add, Nat.lt_one_iff] at hi
  subst hi
  simp only [List.getElem_cons_zero] at hj ⊢
  rw [cell_of_row _ w.heap.size (0 + 0 * k + j) _ _ _ (heap_alloc_new w _)]
  simp [hj]

section
variable {P : Program} {ops : Array Oper} {rest : List Oper} {o : Oper} {a : Act} {Q : Exit → Act → World → Prop}
/-- append of one struct, a new slice .slice sp 1 c', to a slice of the call's own -/
theorem wls_append (w : World) (hgd : o.guard = none) (s x : Operand) (t : TypeId)
    (ho : o.op = .call { callee := .builtin .append, args := #[s, x], argTypes := #[t, t] })
    (e : TypeId) (k : Nat) (z : Value) (bytes : Nat) (h1 : P.underlying t = some (.slice e)) (h2 : (P.info? e).map (fun i => (i.zero, i.size, i.bytes)) = some (some z, k, bytes)) (hz : z.cells.size = k) (hk : 0 < k)
    (base : Nat) (p : Option Addr) (n c : Nat) (l : List (List Value)) (hs : a.eval s = .slice p n c) (hown : SOwn w base e k p n c l)
    (sp : Option Addr) (c' : Nat) (r : List Value) (hx : a.eval x = .slice sp 1 c') (hrd : SRd w k sp 1 c' [r]) (h1c : ∀ u ∈ r, u.oneCell' = true)
    (b1 : n + 1 ≤ 9223372036854775807) (b2 : (n + 1) * bytes ≤ 140737488355328) (w0 : World) (hg0 : w0.grownBy w none) (hb0 : w0.heap.size ≤ base) (hbase : base ≤ w.heap.size)
    (hK : ∀ p' c2 w', SOwn w' base e k p' (n + 1) c2 (l ++ [r]) → w0.grownBy w' none → (∀ G O, w.heap[G]? = some O → (∀ q, p = some q → q.block ≠ G) → w'.heap[G]? = some O) → wpList P ops Q rest (a.put o.dst (.slice p' (n + 1) c2)) w') : wpList P ops Q (o :: rest) a w := by
  obtain ⟨i, hi, hz0, hz1, hz2⟩ := info_parts h2
  subst hz2
  have hrk : r.length = k := hrd.each r (by simp)
  obtain ⟨b, o', rfl, hc⟩ := hrd.at hk (i := 0) (by simp)
  refine wpList_append_own w hgd s x t ho base e i z k i.bytes h1 hi hz0 hz1 rfl hz hk _ n l.flatten hs hown.2.2 ⟨b, o', none⟩ 1 c' r hx (by simpa using hrk) ?_ h1c (by unfold maxLen; omega) b2 hbase ?_
  · intro j u hu
    obtain ⟨hj, rfl⟩ := List.getElem?_eq_some_iff.1 hu
    have := hc j (by simpa using hj)
    rw [add_addr]
    simpa using this
  · intro v' w' hown' hgr _
    obtain ⟨hl, h3⟩ := hown'
    have hv' : ∃ p' c2, v' = .slice p' (n + 1) c2 := by
      rcases h3 with ⟨rfl, h4⟩ | ⟨g, cap, cur, rfl, _⟩
      · exact ⟨none, 0, by rw [h4]⟩
      · exact ⟨_, _, rfl⟩
    obtain ⟨p', c2, rfl⟩ := hv'
    refine hK p' c2 w' ⟨by simp [hown.1], ?_, by simpa using ⟨hl, h3⟩⟩ (grown_new hg0 hgr fun g hg => ?_) (fun G O hG hne => (hgr.block G (lt_of_block hG) ?_).trans hG)
    · intro q hq
      rcases List.mem_append.1 hq with h | h
      · exact hown.2.1 q h
      · rw [List.mem_singleton.1 h]; exact hrk
    · cases p with
      | none => simp [Value.ownBlock] at hg
      | some q =>
        simp [Value.ownBlock] at hg
        have := (hown.lt q rfl).1
        omega
    · cases p with
      | none => simp [Value.ownBlock]
      | some q =>
        simp only [Value.ownBlock, ne_eq, Option.some.injEq]
        exact fun e => hne q rfl e.symm
end
end Nm

set_option linter.unusedVariables false
set_option linter.unusedSimpArgs false
namespace Go.Proofs.YtiaonbofkgkdhaaGreatDoor
open Go.RowKit _root_.Nm
open Classical in
/-- a name is added if it is new -/
noncomputable def add1 (l : List ByteArray) (s : ByteArray) : List ByteArray := if s ∈ l then l else l ++ [s]
theorem add1_old {l : List ByteArray} {s : ByteArray} (h : s ∈ l) : add1 l s = l := if_pos h
theorem add1_new {l : List ByteArray} {s : ByteArray} (h : ¬ s ∈ l) : add1 l s = l ++ [s] := if_neg h
theorem mem_add1 {l : List ByteArray} {s x : ByteArray} : x ∈ add1 l s ↔ x ∈ l ∨ x = s := by
  by_cases h : s ∈ l
  · rw [add1_old h]
    exact ⟨.inl, fun h' => h'.elim id fun e => e ▸ h⟩
  · rw [add1_new h]; simp
theorem mem_adds {xs l : List ByteArray} {x : ByteArray} : x ∈ xs.foldl add1 l ↔ x ∈ l ∨ x ∈ xs := by
  induction xs generalizing l with
  | nil => simp
  | cons a r ih => rw [List.foldl_cons, ih, mem_add1, List.mem_cons, or_assoc]
theorem adds_len (xs l : List ByteArray) : (xs.foldl add1 l).length ≤ l.length + xs.length := by
  induction xs generalizing l with
  | nil => simp
  | cons a r ih =>
    rw [List.foldl_cons]
    refine Nat.le_trans (ih _) ?_
    by_cases h : a ∈ l
    · rw [add1_old h]; simp
    · rw [add1_new h]; simp; omega
/-- adding a list whose repetitions have been left out -/
theorem adds_ded (l xs : List ByteArray) : (xs.foldl add1 []).foldl add1 l = xs.foldl add1 l := by
  have gen : ∀ (ys : List ByteArray), (ys.reverse.foldl add1 []).foldl add1 l = ys.reverse.foldl add1 l := by
    intro ys
    induction ys with
    | nil => rfl
    | cons a r ih =>
      rw [List.reverse_cons, List.foldl_append, List.foldl_append, List.foldl_cons, List.foldl_cons, List.foldl_nil, List.foldl_nil]
      by_cases h : a ∈ r.reverse.foldl add1 []
      · rw [add1_old h, ih, add1_old]
        exact mem_adds.2 (.inr ((mem_adds.1 h).elim (fun h => by simp at h) id))
      · rw [add1_new h, List.foldl_append, ih, List.foldl_cons, List.foldl_nil]
  have := gen xs.reverse
  rwa [List.reverse_reverse] at this
/-- the names of a tree from left to right -/
def preF : Nat → Tr → List ByteArray
  | 0, _ => []
  | m + 1, .node h l => (if h.k = 1 then [h.nm] else []) ++ (l.map (preF m)).flatten
noncomputable def ded (xs : List ByteArray) : List ByteArray := xs.foldl add1 []
theorem ded_len (xs : List ByteArray) : (ded xs).length ≤ xs.length := by
  have := adds_len xs []
  simpa [ded] using this
theorem bytes_eq {a b : ByteArray} : a.toList = b.toList ↔ a = b := by
  constructor
  · intro h
    rw [Lib.toList_data, Lib.toList_data] at h
    cases a; cases b
    rw [ByteArray.mk.injEq]
    exact Array.toList_inj.1 h
  · exact fun h => h ▸ rfl
/-- a slice of strings -/
def NRd (w : World) (p : Option Addr) (n c : Nat) (L : List ByteArray) : Prop := SRd w 1 p n c (L.map fun d => [.string d])
def NOwn (w : World) (base : Nat) (p : Option Addr) (n c : Nat) (L : List ByteArray) : Prop := SOwn w base 9 1 p n c (L.map fun d => [.string d])
theorem NRd.len {w : World} {p : Option Addr} {n c : Nat} {L : List ByteArray} (h : NRd w p n c L) : L.length = n := by
  have := SRd.len h
  simpa using this
theorem NRd.keep {w w' : World} {p : Option Addr} {n c : Nat} {L : List ByteArray} (h : NRd w p n c L) (hg : w.grownBy w' none) : NRd w' p n c L := SRd.keep h hg
theorem NRd.at1 {w : World} {p : Option Addr} {n c : Nat} {L : List ByteArray} (h : NRd w p n c L) {i : Nat} (hi : i < L.length) : ∃ b o, p = some ⟨b, o, none⟩ ∧ w.cell? ⟨b, o + i, none⟩ = some (.string L[i]) := by
  obtain ⟨b, o, hp, hc⟩ := SRd.at h (by decide) (i := i) (by simpa using hi)
  refine ⟨b, o, hp, ?_⟩
  have := hc 0 (by simp)
  simpa using this
end Go.Proofs.YtiaonbofkgkdhaaGreatDoor

set_option linter.unusedVariables false
set_option linter.unusedSimpArgs false
namespace Go.Proofs.YtiaonbofkgkdhaaGreatDoor
open Go.ChangeShapes Go.WideShapes Go.ChangeAt Go.RowKit _root_.Nm

theorem cells16A : Tryz.prog.cellsOf 47 = 1 := by kernel_rfl
theorem cellsNatA : Tryz.prog.cellsOf 24 = 1 := by kernel_rfl
theorem cellsBoolA : Tryz.prog.cellsOf 4 = 1 := by kernel_rfl
theorem cellsIntA : Tryz.prog.cellsOf 3 = 1 := by kernel_rfl
theorem cellsStrA : Tryz.prog.cellsOf 9 = 1 := by kernel_rfl
theorem cellsIA : Tryz.prog.cellsOf 26 = 2 := by kernel_rfl
theorem cellsRatA : Tryz.prog.cellsOf 28 = 3 := by kernel_rfl
theorem cellsExprA : Tryz.prog.cellsOf 43 = 7 := by kernel_rfl
theorem cellsArgsA : Tryz.prog.cellsOf 41 = 1 := by kernel_rfl
theorem bulk_oneA {H : Type} (d : DataW H) : 1 ≤ Rows.uptoBulk d := by
  cases d with
  | lit l => cases l <;> simp [Rows.uptoBulk]
  | _ => simp [Rows.uptoBulk]
theorem bulk_partA {H : Type} {d : DataW H} {l : List (DataW H)} (h : d ∈ l) : Rows.uptoBulk d ≤ Rows.uptoBulkAll l := by
  induction l with
  | nil => cases h
  | cons x r ih =>
    simp only [Rows.uptoBulkAll]
    rcases List.mem_cons.1 h with e | e
    · subst e; omega
    · have := ih e; omega
/-- lists of which each is at most the bulk of its datum -/
theorem bulk_sum {H : Type} {α : Type} (f : α → List ByteArray) : ∀ (l : List α) (ds : List (DataW H)), l.length = ds.length → (∀ i (h : i < l.length) (h' : i < ds.length), (f l[i]).length ≤ Rows.uptoBulk ds[i]) → (l.map f).flatten.length ≤ Rows.uptoBulkAll ds
  | [], ds, _, _ => by simp
  | x :: l, [], h, _ => by simp at h
  | x :: l, d :: ds, h, hf => by
    have h0 := hf 0 (by simp) (by simp)
    have ih := bulk_sum f l ds (by simpa using h) (fun i h1 h2 => by have := hf (i + 1) (by simp; omega) (by simp; omega); simpa using this)
    simp only [List.getElem_cons_zero] at h0
    rw [List.map_cons, List.flatten_cons, List.length_append]
    simp only [Rows.uptoBulkAll]
    omega

section
variable {H : Type} {enc : TypeId × Value → H} {W : World}
set_option maxRecDepth 100000 in
theorem open_natA {fuel : Nat} {cs : List Value} {x : DataW H × List MemPlace} (hf : DataW.trod enc Tryz.prog W 0 (fun _ => true) true fuel 24 cs = some x) :
    ∃ a n c xs, cs = [.slice a n c] ∧ IRd W .u16 a n c xs := by
  rcases open_ints Tryz.underlying24 Tryz.underlying47 cells16A hf with ⟨hcs, hx⟩ | ⟨a, len', cap', zs, hcs, _, hl, hm, hz, hx, hcell, hwz⟩
  · exact ⟨none, 0, 0, [], hcs, IRd.nil W _⟩
  · simp only [if_true] at hz
    have hb : ∀ z ∈ zs, 0 ≤ z ∧ z ≤ 65535 := fun z hzm => bounds_u16 (hwz z hzm)
    refine ⟨some a, len', cap', (zs.take len').map Int.toNat, hcs, ⟨by simp; omega, hl, by unfold maxLen at hm; omega, fun j hj => ?_⟩⟩
    have hj' : j < len' := by simp at hj; omega
    have hc := hcell j (by omega)
    have hg : zs.getD j 0 = zs[j]'(by omega) := by simp [List.getD, List.getElem?_eq_getElem (show j < zs.length by omega)]
    have hsp := World.cell?_spot (hcell 0 (by omega))
    have ha : ∃ b o, a = ⟨b, o, none⟩ := ⟨a.block, a.off, by
      cases a with
      | mk b o s => simp [Addr.add] at hsp; simp [hsp]⟩
    obtain ⟨b, o, rfl⟩ := ha
    refine ⟨b, o, rfl, ?_⟩
    rw [add_addr] at hc
    rw [hc, hg]
    have := hb _ (List.getElem_mem (show j < zs.length by omega))
    simp only [List.getElem_map, List.getElem_take]
    congr 2; omega
set_option maxRecDepth 100000 in
theorem open_ratA {fuel : Nat} {cs : List Value} {x : DataW H × List MemPlace} (hf : DataW.trod enc Tryz.prog W 0 (fun _ => true) true fuel 28 cs = some x) (hl : cs.length = 3) :
    ∃ g a n c xs b m e ys, cs = [.bool g, .slice a n c, .slice b m e] ∧ IRd W .u16 a n c xs ∧ IRd W .u16 b m e ys := by
  obtain ⟨y0, y1, k, hx, _, h0, h1⟩ := trod_struct2 Tryz.underlying28 hf
  rw [cellsIA] at h0
  obtain ⟨z0, z1, k', hx', _, g0, g1⟩ := trod_struct2 Tryz.underlying26 h0
  rw [cellsBoolA] at g0
  rw [cellsNatA] at g1 h1
  match cs, hl with
  | [u, v, t], _ =>
    obtain ⟨b, hbo, _⟩ := DataW.trod_bool Tryz.underlying4 g0
    obtain ⟨a, n, c, xs, hs, hr⟩ := open_natA g1
    obtain ⟨b', m, e, ys, hs1, hr1⟩ := open_natA h1
    simp at hbo hs hs1
    subst hbo hs hs1
    exact ⟨b, a, n, c, xs, b', m, e, ys, rfl, hr, hr1⟩
set_option maxRecDepth 100000 in
theorem open_exprA : ∀ (fuel : Nat) (cs : List Value) (x : DataW H × List MemPlace), DataW.trod enc Tryz.prog W 0 (fun _ => true) true fuel 43 cs = some x →
    ∃ t, ERd W ((fuel + 1) / 2) cs t ∧ (preF ((fuel + 1) / 2) t).length ≤ Rows.uptoBulk x.1 := by
  intro fuel
  induction fuel using Nat.strongRecOn with
  | _ fuel ih =>
    intro cs x hf
    obtain ⟨xs, m, rfl, rfl, hl, hlen, hfs⟩ := DataW.trod_struct Tryz.underlying43 hf
    rw [cellsExprA] at hl
    match cs, hl, xs, hlen with
    | [c0, c1, c2, c3, c4, c5, c6], _, [y0, y1, y2, y3, y4], _ =>
      have h0 := hfs 0 _ rfl
      have h1 := hfs 1 _ rfl
      have h2 := hfs 2 _ rfl
      have h3 := hfs 3 _ rfl
      have h4 := hfs 4 _ rfl
      clear hfs
      simp [cellsIntA, cellsStrA, cellsRatA, cellsArgsA] at h0 h1 h2 h3 h4
      obtain ⟨k, hk, _, _⟩ := DataW.trod_int Tryz.underlying3 h0
      obtain ⟨nm, hnm, hx1, hnl⟩ := DataW.trod_string Tryz.underlying9 h1
      obtain ⟨g, pn, nn, cn, num, pd, nd, cd, den, hr, hn, hd⟩ := open_ratA h2 rfl
      obtain ⟨pos, hp, _, _⟩ := DataW.trod_int Tryz.underlying3 h4
      simp at hk hnm hr hp
      obtain ⟨rfl, rfl, rfl⟩ := hr
      subst hk hnm hp
      rcases DataW.trod_slice Tryz.underlying41 h3 with ⟨hcs, hx3⟩ | ⟨a, len, cap, elems, rest, m', rfl, hcs, hx3, _, hlc, hcap, hel, hat, _, _⟩
      · simp at hcs
        subst hcs
        obtain ⟨q, rfl⟩ : ∃ q, m = q + 1 := by
          cases m with
          | zero => simp [DataW.trod] at h0
          | succ q => exact ⟨q, rfl⟩
        rw [show (q + 1 + 1 + 1) / 2 = (q + 1) / 2 + 1 by omega]
        refine ⟨.node ⟨k, nm, g, num, den, pos⟩ [], ⟨pn, nn, cn, pd, nd, cd, none, 0, 0, rfl, hn, hd, ⟨rfl, Nat.le_refl _, by omega, hnl⟩, fun i hi => absurd hi (Nat.not_lt_zero i)⟩, ?_⟩
        simp only [preF, List.map_nil, List.flatten_nil, List.append_nil]
        have := bulk_oneA (DataW.agg ([y0, y1, y2, y3, y4].map (·.1)))
        split <;> simp at this ⊢ <;> omega
      · simp at hcs
        subst hcs
        rw [cellsExprA] at hat
        rw [show (m' + 1 + 1 + 1) / 2 = (m' + 1) / 2 + 1 by omega]
        have hch : ∀ i (hi : i < elems.length), ∃ cs' t, W.cells? 0 (a.add (i * 7)) 7 = some cs' ∧ ERd W ((m' + 1) / 2) cs' t ∧ (preF ((m' + 1) / 2) t).length ≤ Rows.uptoBulk (elems[i]).1 := by
          intro i hi
          have h := hat i (by omega)
          rw [List.getElem?_eq_getElem hi, Option.bind_eq_some_iff] at h
          obtain ⟨cs', hc, ht⟩ := h
          obtain ⟨t, h1, h2⟩ := ih m' (by omega) cs' _ ht
          exact ⟨cs', t, hc, h1, h2⟩
        have hts : ∃ ts : List Tr, ts.length = elems.length ∧ ∀ i (hi : i < elems.length) (h' : i < ts.length), ∃ cs', W.cells? 0 (a.add (i * 7)) 7 = some cs' ∧ ERd W ((m' + 1) / 2) cs' ts[i] ∧ (preF ((m' + 1) / 2) ts[i]).length ≤ Rows.uptoBulk (elems[i]).1 := by
          have : ∀ n, n ≤ elems.length → ∃ ts : List Tr, ts.length = n ∧ ∀ i (hi : i < elems.length) (h' : i < ts.length), ∃ cs', W.cells? 0 (a.add (i * 7)) 7 = some cs' ∧ ERd W ((m' + 1) / 2) cs' ts[i] ∧ (preF ((m' + 1) / 2) ts[i]).length ≤ Rows.uptoBulk (elems[i]).1 := by
            intro n
            induction n with
            | zero => intro _; exact ⟨[], rfl, fun i hi h' => absurd h' (Nat.not_lt_zero i)⟩
            | succ n ihn =>
              intro hn'
              obtain ⟨ts, e1, e2⟩ := ihn (by omega)
              obtain ⟨cs', t, k1, k2, k3⟩ := hch n (by omega)
              refine ⟨ts ++ [t], by simp [e1], fun i hi h' => ?_⟩
              by_cases hin : i < ts.length
              · rw [List.getElem_append_left hin]; exact e2 i hi hin
              · have : i = n := by simp at h'; omega
                subst this
                rw [List.getElem_append_right (by omega)]
                simp only [e1, Nat.sub_self, List.getElem_cons_zero]
                exact ⟨cs', k1, k2, k3⟩
          exact this _ (Nat.le_refl _)
        obtain ⟨ts, htl, hts⟩ := hts
        refine ⟨.node ⟨k, nm, g, num, den, pos⟩ ts, ⟨pn, nn, cn, pd, nd, cd, some a, len, cap, rfl, hn, hd, ⟨by omega, hlc, by unfold maxLen at hcap; omega, hnl⟩, fun i hi => ?_⟩, ?_⟩
        · obtain ⟨cs', h1', h2', _⟩ := hts i (by omega) hi
          obtain ⟨_, e2, e3⟩ := World.cells?_some h1'
          obtain ⟨cs0, h1z, _, _⟩ := hts 0 (by omega) (by omega)
          obtain ⟨_, z2, z3⟩ := World.cells?_some h1z
          have hc0 : W.cell? ((a.add (0 * 7)).add 0) = some (cs0[0]'(by omega)) := by rw [z3 0 (by omega), List.getElem?_eq_getElem (by omega)]
          have hsp := World.cell?_spot hc0
          obtain ⟨b, o, rfl⟩ : ∃ b o, a = ⟨b, o, none⟩ := ⟨a.block, a.off, by
            cases a with
            | mk b o s => simp [Addr.add] at hsp; simp [hsp]⟩
          refine ⟨b, o, cs', rfl, e2, fun j hj => ?_, h2'⟩
          have := e3 j (by omega)
          rw [add_addr, add_addr, List.getElem?_eq_getElem (by omega)] at this
          exact this
        · have hs := bulk_sum (preF ((m' + 1) / 2)) ts (elems.map (·.1)) (by simp [htl]) (fun i h1' h2' => by
            obtain ⟨_, _, _, h3'⟩ := hts i (by omega) h1'
            simpa using h3')
          show ((if k = 1 then [nm] else []) ++ (ts.map (preF ((m' + 1) / 2))).flatten).length ≤ _
          rw [List.length_append, hx3]
          have hi1 : (if k = 1 then [nm] else []).length ≤ 1 := by split <;> simp
          simp only [Rows.uptoBulk, List.map_cons, List.map_nil, Rows.uptoBulkAll]
          omega
end
end Go.Proofs.YtiaonbofkgkdhaaGreatDoor

set_option linter.unusedVariables false
set_option linter.unusedSimpArgs false
namespace Go.Proofs.YtiaonbofkgkdhaaGreatDoor
open Go.ChangeShapes Go.WideShapes Go.ChangeAt Go.RowKit _root_.Nm

/-- the size of a tree, up to a depth: its parts, the bytes of its names and the digits of its numbers -/
def szF : Nat → Tr → Nat
  | 0, _ => 0
  | m + 1, .node h l => 1 + h.nm.size + h.num.length + h.den.length + (l.map (szF m)).sum
/-- its digits are digits -/
def DgF : Nat → Tr → Prop
  | 0, _ => True
  | m + 1, .node h l => (Dg 65536 h.num ∧ Dg 65536 h.den) ∧ ∀ i (hi : i < l.length), DgF m l[i]
theorem szF_succ (m : Nat) (h : Hd) (l : List Tr) : szF (m + 1) (.node h l) = 1 + h.nm.size + h.num.length + h.den.length + (l.map (szF m)).sum := rfl
theorem le_sum {l : List Nat} : ∀ {i : Nat} (hi : i < l.length), l[i] ≤ l.sum := by
  induction l with
  | nil => intro i hi; exact absurd hi (Nat.not_lt_zero i)
  | cons x r ih =>
    intro i hi
    rw [List.sum_cons]
    cases i with
    | zero => simp
    | succ i =>
      have := ih (i := i) (by simpa using hi)
      simp only [List.getElem_cons_succ]
      omega
theorem len_sum {l : List Nat} (h : ∀ x ∈ l, 1 ≤ x) : l.length ≤ l.sum := by
  induction l with
  | nil => simp
  | cons x r ih =>
    have h1 := h x (by simp)
    have h2 := ih (fun y hy => h y (by simp [hy]))
    rw [List.sum_cons, List.length_cons]
    omega
theorem sz_child (m : Nat) (h : Hd) (l : List Tr) {i : Nat} (hi : i < l.length) : szF m l[i] + 1 + h.num.length + h.den.length ≤ szF (m + 1) (.node h l) := by
  have := le_sum (l := l.map (szF m)) (i := i) (by simpa using hi)
  rw [List.getElem_map] at this
  rw [szF_succ]
  omega
theorem sz_pos {w : World} {m : Nat} {cs : List Value} {t : Tr} (h : ERd w m cs t) : 1 ≤ szF m t := by
  cases m with
  | zero => exact h.elim
  | succ m =>
    cases t with
    | node h l => rw [szF_succ]; omega
/-- the length of the list of arguments -/
theorem sz_len {w : World} {m : Nat} {cs : List Value} {h : Hd} {l : List Tr} (hE : ERd w (m + 1) cs (.node h l)) : l.length + 1 + h.num.length + h.den.length ≤ szF (m + 1) (.node h l) := by
  obtain ⟨pn, nn, cn, pd, nd, cd, pa, na, ca, h1, h2, h3, h4, h5⟩ := hE
  have : l.length ≤ (l.map (szF m)).sum := by
    have := len_sum (l := l.map (szF m)) (fun x hx => by
      obtain ⟨t, ht, rfl⟩ := List.mem_map.1 hx
      obtain ⟨i, hi, rfl⟩ := List.getElem_of_mem ht
      obtain ⟨_, _, cs', _, _, _, hE⟩ := h5 i hi
      exact sz_pos hE)
    simpa using this
  rw [szF_succ]
  omega
/-- sums that are each at most the bulk of a datum -/
theorem sum_bulk {H : Type} {α : Type} (f : α → Nat) : ∀ (l : List α) (ds : List (DataW H)), l.length = ds.length → (∀ i (h : i < l.length) (h' : i < ds.length), f l[i] ≤ Rows.uptoBulk ds[i]) → (l.map f).sum ≤ Rows.uptoBulkAll ds
  | [], ds, _, _ => by simp
  | x :: l, [], h, _ => by simp at h
  | x :: l, d :: ds, h, hf => by
    have h0 := hf 0 (by simp) (by simp)
    have ih := sum_bulk f l ds (by simpa using h) (fun i h1 h2 => by have := hf (i + 1) (by simp; omega) (by simp; omega); simpa using this)
    simp only [List.getElem_cons_zero] at h0
    rw [List.map_cons, List.sum_cons]
    simp only [Rows.uptoBulkAll]
    omega
theorem bulkAll_len {H : Type} : ∀ (l : List (DataW H)), l.length ≤ Rows.uptoBulkAll l
  | [] => by simp
  | d :: l => by
    have := bulkAll_len l
    have := bulk_oneA d
    simp only [Rows.uptoBulkAll, List.length_cons]
    omega

/-- the names of a tree are at most as many as its parts -/
theorem pre_sz : ∀ (m : Nat) (t : Tr), (preF m t).length ≤ szF m t
  | 0, _ => by simp [preF, szF]
  | m + 1, .node h l => by
    rw [szF_succ]
    have hf : (l.map (preF m)).flatten.length ≤ (l.map (szF m)).sum := by
      induction l with
      | nil => simp
      | cons x r ih =>
        have := pre_sz m x
        simp only [List.map_cons, List.flatten_cons, List.length_append, List.sum_cons]
        omega
    show ((if h.k = 1 then [h.nm] else []) ++ (l.map (preF m)).flatten).length ≤ _
    rw [List.length_append]
    have h1 : (if h.k = 1 then [h.nm] else []).length ≤ 1 := by split <;> simp
    omega
theorem str_bulk {H : Type} (nm : ByteArray) : nm.size + 1 ≤ Rows.uptoBulk (H := H) (.lit (.string nm.data.toList)) := by
  simp only [Rows.uptoBulk, Array.length_toList]
  exact Nat.le_refl _
section
variable {H : Type} {enc : TypeId × Value → H} {W : World}
theorem open_natW {fuel : Nat} {cs : List Value} {x : DataW H × List MemPlace} (hf : DataW.trod enc Tryz.prog W 0 (fun _ => true) true fuel 24 cs = some x) :
    ∃ a n c xs, cs = [.slice a n c] ∧ IRd W .u16 a n c xs ∧ Dg 65536 xs ∧ n + 1 ≤ Rows.uptoBulk x.1 := by
  rcases open_ints Tryz.underlying24 Tryz.underlying47 cells16A hf with ⟨hcs, hx⟩ | ⟨a, len', cap', zs, hcs, _, hl, hm, hz, hx, hcell, hwz⟩
  · exact ⟨none, 0, 0, [], hcs, IRd.nil W _, fun y hy => (by cases hy), by rw [hx]; simp [Rows.uptoBulk]⟩
  · simp only [if_true] at hz
    have hb : ∀ z ∈ zs, 0 ≤ z ∧ z ≤ 65535 := fun z hzm => bounds_u16 (hwz z hzm)
    refine ⟨some a, len', cap', (zs.take len').map Int.toNat, hcs, ⟨by simp; omega, hl, by unfold maxLen at hm; omega, fun j hj => ?_⟩, ?_, ?_⟩
    · have hj' : j < len' := by simp at hj; omega
      have hc := hcell j (by omega)
      have hg : zs.getD j 0 = zs[j]'(by omega) := by simp [List.getD, List.getElem?_eq_getElem (show j < zs.length by omega)]
      have hsp := World.cell?_spot (hcell 0 (by omega))
      have ha : ∃ b o, a = ⟨b, o, none⟩ := ⟨a.block, a.off, by
        cases a with
        | mk b o s => simp [Addr.add] at hsp; simp [hsp]⟩
      obtain ⟨b, o, rfl⟩ := ha
      refine ⟨b, o, rfl, ?_⟩
      rw [add_addr] at hc
      rw [hc, hg]
      have := hb _ (List.getElem_mem (show j < zs.length by omega))
      simp only [List.getElem_map, List.getElem_take]
      congr 2; omega
    · intro y hy
      obtain ⟨z, hzm, rfl⟩ := List.mem_map.1 hy
      have := hb z (List.mem_of_mem_take hzm)
      omega
    · rw [hx]
      have h1 := bulkAll_len (H := H) (lits .u16 (zs.take len'))
      have h2 : (lits (H := H) .u16 (zs.take len')).length = len' := by simp [lits]; omega
      simp only [Rows.uptoBulk]
      omega
set_option maxRecDepth 100000 in
theorem open_ratW {fuel : Nat} {cs : List Value} {x : DataW H × List MemPlace} (hf : DataW.trod enc Tryz.prog W 0 (fun _ => true) true fuel 28 cs = some x) (hl : cs.length = 3) :
    ∃ g a n c xs b m e ys, cs = [.bool g, .slice a n c, .slice b m e] ∧ IRd W .u16 a n c xs ∧ IRd W .u16 b m e ys ∧ (Dg 65536 xs ∧ Dg 65536 ys) ∧ n + m + 1 ≤ Rows.uptoBulk x.1 := by
  obtain ⟨y0, y1, k, hx, _, h0, h1⟩ := trod_struct2 Tryz.underlying28 hf
  rw [cellsIA] at h0
  obtain ⟨z0, z1, k', hx', _, g0, g1⟩ := trod_struct2 Tryz.underlying26 h0
  rw [cellsBoolA] at g0
  rw [cellsNatA] at g1 h1
  match cs, hl with
  | [u, v, t], _ =>
    obtain ⟨b, hbo, _⟩ := DataW.trod_bool Tryz.underlying4 g0
    obtain ⟨a, n, c, xs, hs, hr, hd, hn⟩ := open_natW g1
    obtain ⟨b', m, e, ys, hs1, hr1, hd1, hm⟩ := open_natW h1
    simp at hbo hs hs1
    subst hbo hs hs1
    refine ⟨b, a, n, c, xs, b', m, e, ys, rfl, hr, hr1, ⟨hd, hd1⟩, ?_⟩
    rw [hx, hx']
    simp only [Rows.uptoBulk, List.map_cons, List.map_nil, Rows.uptoBulkAll]
    omega
set_option maxRecDepth 100000 in
theorem open_exprW : ∀ (fuel : Nat) (cs : List Value) (x : DataW H × List MemPlace), DataW.trod enc Tryz.prog W 0 (fun _ => true) true fuel 43 cs = some x →
    ∃ t, ERd W ((fuel + 1) / 2) cs t ∧ szF ((fuel + 1) / 2) t ≤ Rows.uptoBulk x.1 ∧ DgF ((fuel + 1) / 2) t := by
  intro fuel
  induction fuel using Nat.strongRecOn with
  | _ fuel ih =>
    intro cs x hf
    obtain ⟨xs, m, rfl, rfl, hl, hlen, hfs⟩ := DataW.trod_struct Tryz.underlying43 hf
    rw [cellsExprA] at hl
    match cs, hl, xs, hlen with
    | [c0, c1, c2, c3, c4, c5, c6], _, [y0, y1, y2, y3, y4], _ =>
      have h0 := hfs 0 _ rfl
      have h1 := hfs 1 _ rfl
      have h2 := hfs 2 _ rfl
      have h3 := hfs 3 _ rfl
      have h4 := hfs 4 _ rfl
      clear hfs
      simp [cellsIntA, cellsStrA, cellsRatA, cellsArgsA] at h0 h1 h2 h3 h4
      obtain ⟨k, hk, _, _⟩ := DataW.trod_int Tryz.underlying3 h0
      obtain ⟨nm, hnm, hx1, hnl⟩ := DataW.trod_string Tryz.underlying9 h1
      obtain ⟨g, pn, nn, cn, num, pd, nd, cd, den, hr, hn, hd, hdg, hrb⟩ := open_ratW h2 rfl
      obtain ⟨pos, hp, _, _⟩ := DataW.trod_int Tryz.underlying3 h4
      simp at hk hnm hr hp
      obtain ⟨rfl, rfl, rfl⟩ := hr
      subst hk hnm hp
      rcases DataW.trod_slice Tryz.underlying41 h3 with ⟨hcs, hx3⟩ | ⟨a, len, cap, elems, rest, m', rfl, hcs, hx3, _, hlc, hcap, hel, hat, _, _⟩
      · simp at hcs
        subst hcs
        obtain ⟨q, rfl⟩ : ∃ q, m = q + 1 := by
          cases m with
          | zero => simp [DataW.trod] at h0
          | succ q => exact ⟨q, rfl⟩
        rw [show (q + 1 + 1 + 1) / 2 = (q + 1) / 2 + 1 by omega]
        refine ⟨.node ⟨k, nm, g, num, den, pos⟩ [], ⟨pn, nn, cn, pd, nd, cd, none, 0, 0, rfl, hn, hd, ⟨rfl, Nat.le_refl _, by omega, hnl⟩, fun i hi => absurd hi (Nat.not_lt_zero i)⟩, ?_, hdg, fun i hi => absurd hi (Nat.not_lt_zero i)⟩
        have e1 := hn.len
        have e2 := hd.len
        rw [szF_succ]
        simp only [List.map_nil, List.sum_nil]
        have hy1 : nm.size + 1 ≤ Rows.uptoBulk y1.1 := by
          rw [hx1]
          exact str_bulk nm
        have o0 := bulk_oneA y0.1
        simp only [Rows.uptoBulk, List.map_cons, List.map_nil, Rows.uptoBulkAll]
        omega
      · simp at hcs
        subst hcs
        rw [cellsExprA] at hat
        rw [show (m' + 1 + 1 + 1) / 2 = (m' + 1) / 2 + 1 by omega]
        have hch : ∀ i (hi : i < elems.length), ∃ cs' t, W.cells? 0 (a.add (i * 7)) 7 = some cs' ∧ ERd W ((m' + 1) / 2) cs' t ∧ (szF ((m' + 1) / 2) t ≤ Rows.uptoBulk (elems[i]).1 ∧ DgF ((m' + 1) / 2) t) := by
          intro i hi
          have h := hat i (by omega)
          rw [List.getElem?_eq_getElem hi, Option.bind_eq_some_iff] at h
          obtain ⟨cs', hc, ht⟩ := h
          obtain ⟨t, h1, h2⟩ := ih m' (by omega) cs' _ ht
          exact ⟨cs', t, hc, h1, h2⟩
        have hts : ∃ ts : List Tr, ts.length = elems.length ∧ ∀ i (hi : i < elems.length) (h' : i < ts.length), ∃ cs', W.cells? 0 (a.add (i * 7)) 7 = some cs' ∧ ERd W ((m' + 1) / 2) cs' ts[i] ∧ (szF ((m' + 1) / 2) ts[i] ≤ Rows.uptoBulk (elems[i]).1 ∧ DgF ((m' + 1) / 2) ts[i]) := by
          have : ∀ n, n ≤ elems.length → ∃ ts : List Tr, ts.length = n ∧ ∀ i (hi : i < elems.length) (h' : i < ts.length), ∃ cs', W.cells? 0 (a.add (i * 7)) 7 = some cs' ∧ ERd W ((m' + 1) / 2) cs' ts[i] ∧ (szF ((m' + 1) / 2) ts[i] ≤ Rows.uptoBulk (elems[i]).1 ∧ DgF ((m' + 1) / 2) ts[i]) := by
            intro n
            induction n with
            | zero => intro _; exact ⟨[], rfl, fun i hi h' => absurd h' (Nat.not_lt_zero i)⟩
            | succ n ihn =>
              intro hn'
              obtain ⟨ts, e1, e2⟩ := ihn (by omega)
              obtain ⟨cs', t, k1, k2, k3⟩ := hch n (by omega)
              refine ⟨ts ++ [t], by simp [e1], fun i hi h' => ?_⟩
              by_cases hin : i < ts.length
              · rw [List.getElem_append_left hin]; exact e2 i hi hin
              · have : i = n := by simp at h'; omega
                subst this
                rw [List.getElem_append_right (by omega)]
                simp only [e1, Nat.sub_self, List.getElem_cons_zero]
                exact ⟨cs', k1, k2, k3⟩
          exact this _ (Nat.le_refl _)
        obtain ⟨ts, htl, hts⟩ := hts
        refine ⟨.node ⟨k, nm, g, num, den, pos⟩ ts, ⟨pn, nn, cn, pd, nd, cd, some a, len, cap, rfl, hn, hd, ⟨by omega, hlc, by unfold maxLen at hcap; omega, hnl⟩, fun i hi => ?_⟩, ?_, hdg, fun i hi => ?_⟩
        · obtain ⟨cs', h1', h2', _⟩ := hts i (by omega) hi
          obtain ⟨_, e2, e3⟩ := World.cells?_some h1'
          obtain ⟨cs0, h1z, _, _⟩ := hts 0 (by omega) (by omega)
          obtain ⟨_, z2, z3⟩ := World.cells?_some h1z
          have hc0 : W.cell? ((a.add (0 * 7)).add 0) = some (cs0[0]'(by omega)) := by rw [z3 0 (by omega), List.getElem?_eq_getElem (by omega)]
          have hsp := World.cell?_spot hc0
          obtain ⟨b, o, rfl⟩ : ∃ b o, a = ⟨b, o, none⟩ := ⟨a.block, a.off, by
            cases a with
            | mk b o s => simp [Addr.add] at hsp; simp [hsp]⟩
          refine ⟨b, o, cs', rfl, e2, fun j hj => ?_, h2'⟩
          have := e3 j (by omega)
          rw [add_addr, add_addr, List.getElem?_eq_getElem (by omega)] at this
          exact this
        · have hs := sum_bulk (szF ((m' + 1) / 2)) ts (elems.map (·.1)) (by simp [htl]) (fun i h1' h2' => by
            obtain ⟨_, _, _, h3', _⟩ := hts i (by omega) h1'
            simpa using h3')
          have e1 := hn.len
          have e2 := hd.len
          rw [szF_succ]
          have hy1 : nm.size + 1 ≤ Rows.uptoBulk y1.1 := by
            rw [hx1]
            exact str_bulk nm
          have o0 := bulk_oneA y0.1
          have hy3 : Rows.uptoBulkAll (elems.map (·.1)) ≤ Rows.uptoBulk y3.1 := by
            rw [hx3]
            simp only [Rows.uptoBulk]
            omega
          simp only [Rows.uptoBulk, List.map_cons, List.map_nil, Rows.uptoBulkAll]
          omega
        · obtain ⟨_, _, _, _, h4'⟩ := hts i (by omega) hi
          exact h4'
end
end Go.Proofs.YtiaonbofkgkdhaaGreatDoor

set_option linter.unusedVariables false
set_option linter.unusedSimpArgs false
namespace Ax

structure Ent where
  k : Nat
  s : Nat
  w : List UInt8
  p : List Nat
/-- kind, sort, word, parameters -/
def tab : List Ent := [
  ⟨10, 1, [109, 105, 100, 112, 111, 105, 110, 116], [1, 1]⟩,
  ⟨11, 1, [100, 105, 118, 105, 100, 101], [1, 1]⟩,
  ⟨12, 1, [114, 101, 102, 108, 101, 99, 116], [1, 1]⟩,
  ⟨13, 1, [109, 105, 114, 114, 111, 114], [1, 2]⟩,
  ⟨14, 1, [102, 111, 111, 116], [1, 2]⟩,
  ⟨15, 1, [109, 101, 101, 116], [2, 2]⟩,
  ⟨16, 1, [111, 110], [0]⟩,
  ⟨17, 1, [111, 116, 104, 101, 114], [1, 1, 1]⟩,
  ⟨18, 1, [99, 111, 109, 109, 111, 110], [1, 1, 1]⟩,
  ⟨19, 1, [99, 101, 110, 116, 101, 114], [1, 1, 1]⟩,
  ⟨20, 1, [115, 104, 105, 102, 116], [1, 1, 1]⟩,
  ⟨21, 1, [116, 117, 114, 110], [1, 1]⟩,
  ⟨22, 1, [99, 117, 116], [2, 3]⟩,
  ⟨23, 1, [99, 114, 111, 115, 115], [3, 3]⟩,
  ⟨24, 1, [97, 112, 101, 120], [1, 1]⟩,
  ⟨40, 2, [108, 105, 110, 101], [1, 1]⟩,
  ⟨41, 2, [112, 97, 114, 97, 108, 108, 101, 108], [1, 2]⟩,
  ⟨42, 2, [112, 101, 114, 112, 101, 110, 100, 105, 99, 117, 108, 97, 114], [1, 2]⟩,
  ⟨43, 2, [98, 105, 115, 101, 99, 116, 111, 114], [1, 1]⟩,
  ⟨50, 3, [99, 105, 114, 99, 108, 101], [1, 1]⟩,
  ⟨51, 3, [99, 105, 114, 99, 117, 109], [1, 1, 1]⟩,
  ⟨60, 4, [99, 111, 108, 108, 105, 110, 101, 97, 114], [1, 1, 1]⟩,
  ⟨61, 4, [112, 97, 114, 97, 108, 108, 101, 108], [2, 2]⟩,
  ⟨62, 4, [112, 101, 114, 112, 101, 110, 100, 105, 99, 117, 108, 97, 114], [2, 2]⟩,
  ⟨63, 4, [99, 111, 110, 103, 114, 117, 101, 110, 116], [1, 1, 1, 1]⟩,
  ⟨64, 4, [109, 105, 100, 112, 111, 105, 110, 116], [1, 1, 1]⟩,
  ⟨65, 4, [99, 111, 110, 99, 121, 99, 108, 105, 99], [1, 1, 1, 1]⟩,
  ⟨66, 4, [97, 110, 103, 108, 101], [1, 1, 1, 1, 1, 1]⟩,
  ⟨67, 4, [115, 97, 109, 101], [1, 1]⟩,
  ⟨68, 4, [114, 97, 116, 105, 111], [1, 1, 1, 1]⟩]
def ent (k : Int) : Option Ent := tab.find? fun e => decide ((e.k : Int) = k)
def srt (k : Int) : Nat := match ent k with | some e => e.s | none => 0
def wrd (k : Int) : List UInt8 := match ent k with | some e => e.w | none => []
def prm (k : Int) : List Nat := match ent k with | some e => e.p | none => []
/-- word and parameters, if the kind is of the sort -/
def pS (s : Nat) (k : Int) : List UInt8 × List Nat := match ent k with | some e => if e.s = s then (e.w, e.p) else ([], []) | none => ([], [])
def knd (w : List UInt8) : Nat := match tab.find? fun e => decide (e.w = w) with | some e => e.k | none => 0

theorem ent_mem {k : Int} {e : Ent} (h : ent k = some e) : e ∈ tab ∧ (e.k : Int) = k := by
  unfold ent at h
  have h2 := List.find?_some h
  exact ⟨List.mem_of_find?_eq_some h, of_decide_eq_true h2⟩
theorem tab_good : ∀ e ∈ tab, (e.s = 1 ∨ e.s = 2 ∨ e.s = 3 ∨ e.s = 4) ∧ e.w ≠ [] ∧ 10 ≤ e.k ∧ e.k ≤ 68 := by decide
theorem pS_none {s : Nat} {k : Int} {ks : List Nat} (h : ∀ e ∈ tab, e.s = s → e.k ∈ ks) (hk : ∀ j ∈ ks, k ≠ (j : Int)) : pS s k = ([], []) := by
  unfold pS
  cases he : ent k with
  | none => rfl
  | some e =>
    obtain ⟨h1, h2⟩ := ent_mem he
    dsimp only
    rw [if_neg (fun hs => hk _ (h e h1 hs) h2.symm)]
theorem kinds_cases (k : Int) : (srt k = 0 ∧ wrd k = [] ∧ prm k = [] ∧ ∀ s, pS s k = ([], [])) ∨ (wrd k ≠ [] ∧ (srt k = 1 ∨ srt k = 2 ∨ srt k = 3 ∨ srt k = 4) ∧ ∀ s, pS s k = if srt k = s then (wrd k, prm k) else ([], [])) := by
  unfold srt wrd prm pS
  cases he : ent k with
  | none => exact .inl ⟨rfl, rfl, rfl, fun _ => rfl⟩
  | some e =>
    obtain ⟨h1, h2, h3⟩ := tab_good e (ent_mem he).1
    exact .inr ⟨h2, h1, fun _ => rfl⟩
def allB (p : Nat → Bool) : Nat → Bool
  | 0 => true
  | n + 1 => allB p n && p n
theorem allB_spec {p : Nat → Bool} : ∀ {n : Nat}, allB p n = true → ∀ i, i < n → p i = true
  | 0, _, i, h => absurd h (Nat.not_lt_zero i)
  | n + 1, h, i, hi => by
    simp only [allB, Bool.and_eq_true] at h
    by_cases e : i = n
    · subst e; exact h.2
    · exact allB_spec h.1 i (by omega)
/-- a kind whose word no lesser one has is the one of its word -/
theorem knd_first {k : Nat} (h1 : 10 ≤ k) (h2 : k ≤ 68) (hw : wrd k ≠ []) (h : ∀ j, 10 ≤ j → j < k → wrd (j : Nat) ≠ wrd k) : knd (wrd k) = k := by
  have hb := allB_spec (p := fun k => decide (k < 10) || (decide (wrd (k : Nat) = []) || (decide (knd (wrd (k : Nat)) = k) || !(allB (fun j => decide (j < 10) || !(decide (wrd (j : Nat) = wrd (k : Nat)))) k)))) (n := 69) (by kernel_rfl) k (by omega)
  simp only [Bool.or_eq_true, decide_eq_true_eq, Bool.not_eq_true'] at hb
  rcases hb with hb | hb | hb | hb
  · omega
  · exact absurd hb hw
  · exact hb
  · have : allB (fun j => decide (j < 10) || !(decide (wrd (j : Nat) = wrd (k : Nat)))) k = true := by
      have gen : ∀ n, n ≤ k → allB (fun j => decide (j < 10) || !(decide (wrd (j : Nat) = wrd (k : Nat)))) n = true := by
        intro n
        induction n with
        | zero => intro _; rfl
        | succ n ih =>
          intro hn
          simp only [allB, Bool.and_eq_true]
          refine ⟨ih (by omega), ?_⟩
          by_cases h10 : n < 10
          · simp [h10]
          · have := h n (by omega) (by omega)
            simp [this]
      exact gen k (Nat.le_refl _)
    rw [this] at hb; cases hb
theorem ent_self : ∀ e ∈ tab, ent e.k = some e := by
  have h : ∀ i, i < 30 → (match tab[i]? with | some e => (match ent e.k with | some f => decide (e.k = f.k) && (decide (e.s = f.s) && (decide (e.w = f.w) && decide (e.p = f.p))) | none => false) | none => true) = true :=
    allB_spec (p := fun i => match tab[i]? with | some e => (match ent e.k with | some f => decide (e.k = f.k) && (decide (e.s = f.s) && (decide (e.w = f.w) && decide (e.p = f.p))) | none => false) | none => true) (by kernel_rfl)
  intro e he
  obtain ⟨i, hi, rfl⟩ := List.getElem_of_mem he
  have := h i hi
  rw [List.getElem?_eq_getElem hi] at this
  dsimp only at this
  cases hf : ent (tab[i]).k with
  | none => rw [hf] at this; cases this
  | some f =>
    rw [hf] at this
    simp only [Bool.and_eq_true, decide_eq_true_eq] at this
    generalize tab[i] = e at this ⊢
    obtain ⟨a, b, c, d⟩ := e
    obtain ⟨a', b', c', d'⟩ := f
    obtain ⟨rfl, rfl, rfl, rfl⟩ := this
    rfl
theorem knd_none {w : List UInt8} (h : ∀ j, 10 ≤ j → j ≤ 68 → wrd (j : Nat) ≠ w) : knd w = 0 := by
  unfold knd
  cases hf : tab.find? fun e => decide (e.w = w) with
  | none => rfl
  | some e =>
    have hm := List.mem_of_find?_eq_some hf
    have h2 := List.find?_some hf
    have hw : e.w = w := of_decide_eq_true h2
    obtain ⟨_, _, h3, h4⟩ := tab_good e hm
    refine absurd ?_ (h e.k h3 h4)
    unfold wrd
    rw [ent_self e hm]
    exact hw
theorem knd_nil : knd [] = 0 := by kernel_rfl
theorem wrd_low (k : Int) (h : ¬ (10 ≤ k ∧ k ≤ 68)) : wrd k = [] := by
  unfold wrd
  cases he : ent k with
  | none => rfl
  | some e =>
    obtain ⟨h1, h2⟩ := ent_mem he
    obtain ⟨_, _, h3, h4⟩ := tab_good e h1
    omega
/-- what is told of the table's words -/
theorem knd_wrd (k : Int) (h : wrd k ≠ []) : (knd (wrd k) : Int) ≤ k ∧ wrd (knd (wrd k)) = wrd k := by
  have hk : 10 ≤ k ∧ k ≤ 68 := Decidable.byContradiction fun hn => h (wrd_low k hn)
  obtain ⟨n, rfl⟩ : ∃ n : Nat, k = n := ⟨k.toNat, by omega⟩
  have hb := allB_spec (p := fun k => decide (wrd (k : Nat) = []) || (decide (knd (wrd (k : Nat)) ≤ k) && decide (wrd (knd (wrd (k : Nat)) : Nat) = wrd (k : Nat)))) (n := 69) (by kernel_rfl) n (by omega)
  simp only [Bool.or_eq_true, Bool.and_eq_true, decide_eq_true_eq] at hb
  rcases hb with hb | hb
  · exact absurd hb h
  · exact ⟨by omega, hb.2⟩
theorem wrd_sorts (a b : Int) (hab : a ≠ b) (ha : wrd a ≠ []) (h : wrd a = wrd b) : srt a ≠ srt b := by
  have hka : 10 ≤ a ∧ a ≤ 68 := Decidable.byContradiction fun hn => ha (wrd_low a hn)
  have hkb : 10 ≤ b ∧ b ≤ 68 := Decidable.byContradiction fun hn => ha (by rw [h]; exact wrd_low b hn)
  obtain ⟨n, rfl⟩ : ∃ n : Nat, a = n := ⟨a.toNat, by omega⟩
  obtain ⟨m, rfl⟩ : ∃ m : Nat, b = m := ⟨b.toNat, by omega⟩
  have hb := allB_spec (p := fun a => allB (fun b => decide (a = b) || (decide (wrd (a : Nat) = []) || (!(decide (wrd (a : Nat) = wrd (b : Nat))) || !(decide (srt (a : Nat) = srt (b : Nat)))))) 69) (n := 69) (by kernel_rfl) n (by omega)
  have hc := allB_spec hb m (by omega)
  simp only [Bool.or_eq_true, decide_eq_true_eq, Bool.not_eq_true', decide_eq_false_iff_not] at hc
  rcases hc with hc | hc | hc | hc
  · exact absurd (congrArg Nat.cast hc) hab
  · exact absurd hc ha
  · exact absurd h hc
  · exact hc
end Ax

set_option linter.unusedVariables false
set_option linter.unusedSimpArgs false
namespace Go.Proofs.YtiaonbofkgkdhaaGreatDoor
open Go.RowKit _root_.Nm Ax

def ShP (s : Nat) (k : Int) (w : World) (e : Ending) (w' : World) : Prop :=
  ∃ (p : Option Addr) (n c : Nat), e = .returned (.tuple #[.string ⟨(pS s k).1.toArray⟩, .slice p n c]) ∧ Frs w p ∧ IRd w' .i64 p n c (pS s k).2 ∧ w.grownBy w' none
theorem ShP.mk {s : Nat} {k : Int} {w w' : World} {d : List UInt8} {xs : List Nat} {p : Option Addr} {n c : Nat} (h : pS s k = (d, xs)) (hf : Frs w p) (hr : IRd w' .i64 p n c xs) (hg : w.grownBy w' none) : ShP s k w (.returned (.tuple #[.string ⟨d.toArray⟩, .slice p n c])) w' :=
  ⟨p, n, c, by rw [h], hf, by rw [h]; exact hr, hg⟩
theorem lit1 (w : World) (T : TypeId) (x : Nat) : IRd (w.alloc (.cells #[.int .i64 (x : Int)] T)) .i64 (some ⟨w.heap.size, 0, none⟩) 1 1 [x] := (IRow.made w T .i64 [x]).rd0 (by simp)
theorem lit2 (w : World) (T : TypeId) (x y : Nat) : IRd (w.alloc (.cells #[.int .i64 (x : Int), .int .i64 (y : Int)] T)) .i64 (some ⟨w.heap.size, 0, none⟩) 2 2 [x, y] := (IRow.made w T .i64 [x, y]).rd0 (by simp)

set_option maxHeartbeats 16000000 in
theorem pointShape_any (k : Int) (w : World) : Calls Tryz.prog 108 #[.int .i64 k] w (ShP 1 k w) := by
  by_cases h10 : k = 10
  · subst h10
    have HE : Hid (pS 1 10 = ([109, 105, 100, 112, 111, 105, 110, 116], [1, 1])) := hid rfl
    have HPT := hid fun w => points_any 2 (by omega) (by omega) 2 rfl w
    go_enter Tryz.func108, Tryz.ntmps108
    go_wp2_with (go_at_call 144; (with_reducible refine (HPT.out _).mono ?_); rintro e w' ⟨p, rfl, hf, hr, hg⟩)
    go_ret2
    exact ShP.mk HE.out hf hr hg
  by_cases h11 : k = 11
  · subst h11
    have HE : Hid (pS 1 11 = ([100, 105, 118, 105, 100, 101], [1, 1])) := hid rfl
    clear h10
    have HPT := hid fun w => points_any 2 (by omega) (by omega) 2 rfl w
    go_enter Tryz.func108, Tryz.ntmps108
    go_wp2_with (go_at_call 144; (with_reducible refine (HPT.out _).mono ?_); rintro e w' ⟨p, rfl, hf, hr, hg⟩)
    go_ret2
    exact ShP.mk HE.out hf hr hg
  by_cases h12 : k = 12
  · subst h12
    have HE : Hid (pS 1 12 = ([114, 101, 102, 108, 101, 99, 116], [1, 1])) := hid rfl
    clear h10 h11
    have HPT := hid fun w => points_any 2 (by omega) (by omega) 2 rfl w
    go_enter Tryz.func108, Tryz.ntmps108
    go_wp2_with (go_at_call 144; (with_reducible refine (HPT.out _).mono ?_); rintro e w' ⟨p, rfl, hf, hr, hg⟩)
    go_ret2
    exact ShP.mk HE.out hf hr hg
  by_cases h13 : k = 13
  · subst h13
    have HE : Hid (pS 1 13 = ([109, 105, 114, 114, 111, 114], [1, 2])) := hid rfl
    clear h10 h11 h12
    go_enter Tryz.func108, Tryz.ntmps108
    go_wp2_with fail
    go_ret2
    exact ShP.mk HE.out (fun a e => by cases e; exact Nat.le_refl _) (lit2 w 3 1 2) (World.grownBy_alloc _ _ _)
  by_cases h14 : k = 14
  · subst h14
    have HE : Hid (pS 1 14 = ([102, 111, 111, 116], [1, 2])) := hid rfl
    clear h10 h11 h12 h13
    go_enter Tryz.func108, Tryz.ntmps108
    go_wp2_with fail
    go_ret2
    exact ShP.mk HE.out (fun a e => by cases e; exact Nat.le_refl _) (lit2 w 3 1 2) (World.grownBy_alloc _ _ _)
  by_cases h15 : k = 15
  · subst h15
    have HE : Hid (pS 1 15 = ([109, 101, 101, 116], [2, 2])) := hid rfl
    clear h10 h11 h12 h13 h14
    go_enter Tryz.func108, Tryz.ntmps108
    go_wp2_with fail
    go_ret2
    exact ShP.mk HE.out (fun a e => by cases e; exact Nat.le_refl _) (lit2 w 3 2 2) (World.grownBy_alloc _ _ _)
  by_cases h16 : k = 16
  · subst h16
    have HE : Hid (pS 1 16 = ([111, 110], [0])) := hid rfl
    clear h10 h11 h12 h13 h14 h15
    go_enter Tryz.func108, Tryz.ntmps108
    go_wp2_with fail
    go_ret2
    exact ShP.mk HE.out (fun a e => by cases e; exact Nat.le_refl _) (lit1 w 3 0) (World.grownBy_alloc _ _ _)
  by_cases h17 : k = 17
  · subst h17
    have HE : Hid (pS 1 17 = ([111, 116, 104, 101, 114], [1, 1, 1])) := hid rfl
    clear h10 h11 h12 h13 h14 h15 h16
    have HPT := hid fun w => points_any 3 (by omega) (by omega) 3 rfl w
    go_enter Tryz.func108, Tryz.ntmps108
    go_wp2_with (go_at_call 144; (with_reducible refine (HPT.out _).mono ?_); rintro e w' ⟨p, rfl, hf, hr, hg⟩)
    go_ret2
    exact ShP.mk HE.out hf hr hg
  by_cases h18 : k = 18
  · subst h18
    have HE : Hid (pS 1 18 = ([99, 111, 109, 109, 111, 110], [1, 1, 1])) := hid rfl
    clear h10 h11 h12 h13 h14 h15 h16 h17
    have HPT := hid fun w => points_any 3 (by omega) (by omega) 3 rfl w
    go_enter Tryz.func108, Tryz.ntmps108
    go_wp2_with (go_at_call 144; (with_reducible refine (HPT.out _).mono ?_); rintro e w' ⟨p, rfl, hf, hr, hg⟩)
    go_ret2
    exact ShP.mk HE.out hf hr hg
  by_cases h19 : k = 19
  · subst h19
    have HE : Hid (pS 1 19 = ([99, 101, 110, 116, 101, 114], [1, 1, 1])) := hid rfl
    clear h10 h11 h12 h13 h14 h15 h16 h17 h18
    have HPT := hid fun w => points_any 3 (by omega) (by omega) 3 rfl w
    go_enter Tryz.func108, Tryz.ntmps108
    go_wp2_with (go_at_call 144; (with_reducible refine (HPT.out _).mono ?_); rintro e w' ⟨p, rfl, hf, hr, hg⟩)
    go_ret2
    exact ShP.mk HE.out hf hr hg
  by_cases h20 : k = 20
  · subst h20
    have HE : Hid (pS 1 20 = ([115, 104, 105, 102, 116], [1, 1, 1])) := hid rfl
    clear h10 h11 h12 h13 h14 h15 h16 h17 h18 h19
    have HPT := hid fun w => points_any 3 (by omega) (by omega) 3 rfl w
    go_enter Tryz.func108, Tryz.ntmps108
    go_wp2_with (go_at_call 144; (with_reducible refine (HPT.out _).mono ?_); rintro e w' ⟨p, rfl, hf, hr, hg⟩)
    go_ret2
    exact ShP.mk HE.out hf hr hg
  by_cases h21 : k = 21
  · subst h21
    have HE : Hid (pS 1 21 = ([116, 117, 114, 110], [1, 1])) := hid rfl
    clear h10 h11 h12 h13 h14 h15 h16 h17 h18 h19 h20
    have HPT := hid fun w => points_any 2 (by omega) (by omega) 2 rfl w
    go_enter Tryz.func108, Tryz.ntmps108
    go_wp2_with (go_at_call 144; (with_reducible refine (HPT.out _).mono ?_); rintro e w' ⟨p, rfl, hf, hr, hg⟩)
    go_ret2
    exact ShP.mk HE.out hf hr hg
  by_cases h22 : k = 22
  · subst h22
    have HE : Hid (pS 1 22 = ([99, 117, 116], [2, 3])) := hid rfl
    clear h10 h11 h12 h13 h14 h15 h16 h17 h18 h19 h20 h21
    go_enter Tryz.func108, Tryz.ntmps108
    go_wp2_with fail
    go_ret2
    exact ShP.mk HE.out (fun a e => by cases e; exact Nat.le_refl _) (lit2 w 3 2 3) (World.grownBy_alloc _ _ _)
  by_cases h23 : k = 23
  · subst h23
    have HE : Hid (pS 1 23 = ([99, 114, 111, 115, 115], [3, 3])) := hid rfl
    clear h10 h11 h12 h13 h14 h15 h16 h17 h18 h19 h20 h21 h22
    go_enter Tryz.func108, Tryz.ntmps108
    go_wp2_with fail
    go_ret2
    exact ShP.mk HE.out (fun a e => by cases e; exact Nat.le_refl _) (lit2 w 3 3 3) (World.grownBy_alloc _ _ _)
  by_cases h24 : k = 24
  · subst h24
    have HE : Hid (pS 1 24 = ([97, 112, 101, 120], [1, 1])) := hid rfl
    clear h10 h11 h12 h13 h14 h15 h16 h17 h18 h19 h20 h21 h22 h23
    have HPT := hid fun w => points_any 2 (by omega) (by omega) 2 rfl w
    go_enter Tryz.func108, Tryz.ntmps108
    go_wp2_with (go_at_call 144; (with_reducible refine (HPT.out _).mono ?_); rintro e w' ⟨p, rfl, hf, hr, hg⟩)
    go_ret2
    exact ShP.mk HE.out hf hr hg
  have HE : Hid (pS 1 k = ([], [])) := hid (pS_none (ks := [10, 11, 12, 13, 14, 15, 16, 17, 18, 19, 20, 21, 22, 23, 24]) (by decide) (by simp only [List.mem_cons, List.not_mem_nil, or_false]; omega))
  have e10 : (k == 10) = false := by simpa using h10
  have e11 : (k == 11) = false := by simpa using h11
  have e12 : (k == 12) = false := by simpa using h12
  have e13 : (k == 13) = false := by simpa using h13
  have e14 : (k == 14) = false := by simpa using h14
  have e15 : (k == 15) = false := by simpa using h15
  have e16 : (k == 16) = false := by simpa using h16
  have e17 : (k == 17) = false := by simpa using h17
  have e18 : (k == 18) = false := by simpa using h18
  have e19 : (k == 19) = false := by simpa using h19
  have e20 : (k == 20) = false := by simpa using h20
  have e21 : (k == 21) = false := by simpa using h21
  have e22 : (k == 22) = false := by simpa using h22
  have e23 : (k == 23) = false := by simpa using h23
  have e24 : (k == 24) = false := by simpa using h24
  clear h10 h11 h12 h13 h14 h15 h16 h17 h18 h19 h20 h21 h22 h23 h24
  go_enter Tryz.func108, Tryz.ntmps108
  go_wp2_with fail
  go_ret2
  exact ShP.mk HE.out (fun a e => by cases e) (IRd.nil _ _) (grown_refl _ _)

set_option maxHeartbeats 16000000 in
theorem lineShape_any (k : Int) (w : World) : Calls Tryz.prog 109 #[.int .i64 k] w (ShP 2 k w) := by
  by_cases h40 : k = 40
  · subst h40
    have HE : Hid (pS 2 40 = ([108, 105, 110, 101], [1, 1])) := hid rfl
    have HPT := hid fun w => points_any 2 (by omega) (by omega) 2 rfl w
    go_enter Tryz.func109, Tryz.ntmps109
    go_wp2_with (go_at_call 144; (with_reducible refine (HPT.out _).mono ?_); rintro e w' ⟨p, rfl, hf, hr, hg⟩)
    go_ret2
    exact ShP.mk HE.out hf hr hg
  by_cases h41 : k = 41
  · subst h41
    have HE : Hid (pS 2 41 = ([112, 97, 114, 97, 108, 108, 101, 108], [1, 2])) := hid rfl
    clear h40
    go_enter Tryz.func109, Tryz.ntmps109
    go_wp2_with fail
    go_ret2
    exact ShP.mk HE.out (fun a e => by cases e; exact Nat.le_refl _) (lit2 w 3 1 2) (World.grownBy_alloc _ _ _)
  by_cases h42 : k = 42
  · subst h42
    have HE : Hid (pS 2 42 = ([112, 101, 114, 112, 101, 110, 100, 105, 99, 117, 108, 97, 114], [1, 2])) := hid rfl
    clear h40 h41
    go_enter Tryz.func109, Tryz.ntmps109
    go_wp2_with fail
    go_ret2
    exact ShP.mk HE.out (fun a e => by cases e; exact Nat.le_refl _) (lit2 w 3 1 2) (World.grownBy_alloc _ _ _)
  by_cases h43 : k = 43
  · subst h43
    have HE : Hid (pS 2 43 = ([98, 105, 115, 101, 99, 116, 111, 114], [1, 1])) := hid rfl
    clear h40 h41 h42
    have HPT := hid fun w => points_any 2 (by omega) (by omega) 2 rfl w
    go_enter Tryz.func109, Tryz.ntmps109
    go_wp2_with (go_at_call 144; (with_reducible refine (HPT.out _).mono ?_); rintro e w' ⟨p, rfl, hf, hr, hg⟩)
    go_ret2
    exact ShP.mk HE.out hf hr hg
  have HE : Hid (pS 2 k = ([], [])) := hid (pS_none (ks := [40, 41, 42, 43]) (by decide) (by simp only [List.mem_cons, List.not_mem_nil, or_false]; omega))
  have e40 : (k == 40) = false := by simpa using h40
  have e41 : (k == 41) = false := by simpa using h41
  have e42 : (k == 42) = false := by simpa using h42
  have e43 : (k == 43) = false := by simpa using h43
  clear h40 h41 h42 h43
  go_enter Tryz.func109, Tryz.ntmps109
  go_wp2_with fail
  go_ret2
  exact ShP.mk HE.out (fun a e => by cases e) (IRd.nil _ _) (grown_refl _ _)

set_option maxHeartbeats 16000000 in
theorem circleShape_any (k : Int) (w : World) : Calls Tryz.prog 110 #[.int .i64 k] w (ShP 3 k w) := by
  by_cases h50 : k = 50
  · subst h50
    have HE : Hid (pS 3 50 = ([99, 105, 114, 99, 108, 101], [1, 1])) := hid rfl
    have HPT := hid fun w => points_any 2 (by omega) (by omega) 2 rfl w
    go_enter Tryz.func110, Tryz.ntmps110
    go_wp2_with (go_at_call 144; (with_reducible refine (HPT.out _).mono ?_); rintro e w' ⟨p, rfl, hf, hr, hg⟩)
    go_ret2
    exact ShP.mk HE.out hf hr hg
  by_cases h51 : k = 51
  · subst h51
    have HE : Hid (pS 3 51 = ([99, 105, 114, 99, 117, 109], [1, 1, 1])) := hid rfl
    clear h50
    have HPT := hid fun w => points_any 3 (by omega) (by omega) 3 rfl w
    go_enter Tryz.func110, Tryz.ntmps110
    go_wp2_with (go_at_call 144; (with_reducible refine (HPT.out _).mono ?_); rintro e w' ⟨p, rfl, hf, hr, hg⟩)
    go_ret2
    exact ShP.mk HE.out hf hr hg
  have HE : Hid (pS 3 k = ([], [])) := hid (pS_none (ks := [50, 51]) (by decide) (by simp only [List.mem_cons, List.not_mem_nil, or_false]; omega))
  have e50 : (k == 50) = false := by simpa using h50
  have e51 : (k == 51) = false := by simpa using h51
  clear h50 h51
  go_enter Tryz.func110, Tryz.ntmps110
  go_wp2_with fail
  go_ret2
  exact ShP.mk HE.out (fun a e => by cases e) (IRd.nil _ _) (grown_refl _ _)

set_option maxHeartbeats 16000000 in
theorem goalShape_any (k : Int) (w : World) : Calls Tryz.prog 111 #[.int .i64 k] w (ShP 4 k w) := by
  by_cases h60 : k = 60
  · subst h60
    have HE : Hid (pS 4 60 = ([99, 111, 108, 108, 105, 110, 101, 97, 114], [1, 1, 1])) := hid rfl
    have HPT := hid fun w => points_any 3 (by omega) (by omega) 3 rfl w
    go_enter Tryz.func111, Tryz.ntmps111
    go_wp2_with (go_at_call 144; (with_reducible refine (HPT.out _).mono ?_); rintro e w' ⟨p, rfl, hf, hr, hg⟩)
    go_ret2
    exact ShP.mk HE.out hf hr hg
  by_cases h61 : k = 61
  · subst h61
    have HE : Hid (pS 4 61 = ([112, 97, 114, 97, 108, 108, 101, 108], [2, 2])) := hid rfl
    clear h60
    go_enter Tryz.func111, Tryz.ntmps111
    go_wp2_with fail
    go_ret2
    exact ShP.mk HE.out (fun a e => by cases e; exact Nat.le_refl _) (lit2 w 3 2 2) (World.grownBy_alloc _ _ _)
  by_cases h62 : k = 62
  · subst h62
    have HE : Hid (pS 4 62 = ([112, 101, 114, 112, 101, 110, 100, 105, 99, 117, 108, 97, 114], [2, 2])) := hid rfl
    clear h60 h61
    go_enter Tryz.func111, Tryz.ntmps111
    go_wp2_with fail
    go_ret2
    exact ShP.mk HE.out (fun a e => by cases e; exact Nat.le_refl _) (lit2 w 3 2 2) (World.grownBy_alloc _ _ _)
  by_cases h63 : k = 63
  · subst h63
    have HE : Hid (pS 4 63 = ([99, 111, 110, 103, 114, 117, 101, 110, 116], [1, 1, 1, 1])) := hid rfl
    clear h60 h61 h62
    have HPT := hid fun w => points_any 4 (by omega) (by omega) 4 rfl w
    go_enter Tryz.func111, Tryz.ntmps111
    go_wp2_with (go_at_call 144; (with_reducible refine (HPT.out _).mono ?_); rintro e w' ⟨p, rfl, hf, hr, hg⟩)
    go_ret2
    exact ShP.mk HE.out hf hr hg
  by_cases h64 : k = 64
  · subst h64
    have HE : Hid (pS 4 64 = ([109, 105, 100, 112, 111, 105, 110, 116], [1, 1, 1])) := hid rfl
    clear h60 h61 h62 h63
    have HPT := hid fun w => points_any 3 (by omega) (by omega) 3 rfl w
    go_enter Tryz.func111, Tryz.ntmps111
    go_wp2_with (go_at_call 144; (with_reducible refine (HPT.out _).mono ?_); rintro e w' ⟨p, rfl, hf, hr, hg⟩)
    go_ret2
    exact ShP.mk HE.out hf hr hg
  by_cases h65 : k = 65
  · subst h65
    have HE : Hid (pS 4 65 = ([99, 111, 110, 99, 121, 99, 108, 105, 99], [1, 1, 1, 1])) := hid rfl
    clear h60 h61 h62 h63 h64
    have HPT := hid fun w => points_any 4 (by omega) (by omega) 4 rfl w
    go_enter Tryz.func111, Tryz.ntmps111
    go_wp2_with (go_at_call 144; (with_reducible refine (HPT.out _).mono ?_); rintro e w' ⟨p, rfl, hf, hr, hg⟩)
    go_ret2
    exact ShP.mk HE.out hf hr hg
  by_cases h66 : k = 66
  · subst h66
    have HE : Hid (pS 4 66 = ([97, 110, 103, 108, 101], [1, 1, 1, 1, 1, 1])) := hid rfl
    clear h60 h61 h62 h63 h64 h65
    have HPT := hid fun w => points_any 6 (by omega) (by omega) 6 rfl w
    go_enter Tryz.func111, Tryz.ntmps111
    go_wp2_with (go_at_call 144; (with_reducible refine (HPT.out _).mono ?_); rintro e w' ⟨p, rfl, hf, hr, hg⟩)
    go_ret2
    exact ShP.mk HE.out hf hr hg
  by_cases h67 : k = 67
  · subst h67
    have HE : Hid (pS 4 67 = ([115, 97, 109, 101], [1, 1])) := hid rfl
    clear h60 h61 h62 h63 h64 h65 h66
    have HPT := hid fun w => points_any 2 (by omega) (by omega) 2 rfl w
    go_enter Tryz.func111, Tryz.ntmps111
    go_wp2_with (go_at_call 144; (with_reducible refine (HPT.out _).mono ?_); rintro e w' ⟨p, rfl, hf, hr, hg⟩)
    go_ret2
    exact ShP.mk HE.out hf hr hg
  by_cases h68 : k = 68
  · subst h68
    have HE : Hid (pS 4 68 = ([114, 97, 116, 105, 111], [1, 1, 1, 1])) := hid rfl
    clear h60 h61 h62 h63 h64 h65 h66 h67
    have HPT := hid fun w => points_any 4 (by omega) (by omega) 4 rfl w
    go_enter Tryz.func111, Tryz.ntmps111
    go_wp2_with (go_at_call 144; (with_reducible refine (HPT.out _).mono ?_); rintro e w' ⟨p, rfl, hf, hr, hg⟩)
    go_ret2
    exact ShP.mk HE.out hf hr hg
  have HE : Hid (pS 4 k = ([], [])) := hid (pS_none (ks := [60, 61, 62, 63, 64, 65, 66, 67, 68]) (by decide) (by simp only [List.mem_cons, List.not_mem_nil, or_false]; omega))
  have e60 : (k == 60) = false := by simpa using h60
  have e61 : (k == 61) = false := by simpa using h61
  have e62 : (k == 62) = false := by simpa using h62
  have e63 : (k == 63) = false := by simpa using h63
  have e64 : (k == 64) = false := by simpa using h64
  have e65 : (k == 65) = false := by simpa using h65
  have e66 : (k == 66) = false := by simpa using h66
  have e67 : (k == 67) = false := by simpa using h67
  have e68 : (k == 68) = false := by simpa using h68
  clear h60 h61 h62 h63 h64 h65 h66 h67 h68
  go_enter Tryz.func111, Tryz.ntmps111
  go_wp2_with fail
  go_ret2
  exact ShP.mk HE.out (fun a e => by cases e) (IRd.nil _ _) (grown_refl _ _)
end Go.Proofs.YtiaonbofkgkdhaaGreatDoor

set_option linter.unusedVariables false
set_option linter.unusedSimpArgs false
namespace Go.Proofs.YtiaonbofkgkdhaaGreatDoor
open Go.RowKit _root_.Nm Ax

theorem box3 {w : World} {G : Nat} {x y z : Value} {T : TypeId} (hb : w.heap[G]? = some (.cells #[x, y, z] T (0, 0))) :
    (w.cell? ⟨G, 0, none⟩ = some x ∧ w.cell? ⟨G, 1, none⟩ = some y ∧ w.cell? ⟨G, 2, none⟩ = some z) ∧ w.frozen? ⟨G, 0, none⟩ = false ∧ w.frozen? ⟨G, 1, none⟩ = false ∧ w.frozen? ⟨G, 2, none⟩ = false := by
  have k0 := cell_of_row w G 0 _ _ _ hb
  have k1 := cell_of_row w G 1 _ _ _ hb
  have k2 := cell_of_row w G 2 _ _ _ hb
  simp at k0 k1 k2
  exact ⟨⟨k0, k1, k2⟩, frozen_of_row w G 0 _ _ hb, frozen_of_row w G 1 _ _ hb, frozen_of_row w G 2 _ _ hb⟩
theorem set3g (w : World) (G : Nat) (A B C : Value) : w.grownBy (((w.setCell ⟨G, 0, none⟩ A).setCell ⟨G, 1, none⟩ B).setCell ⟨G, 2, none⟩ C) (some G) :=
  grown_trans (grown_setCell w ⟨G, 0, none⟩ A) (grown_trans (grown_setCell _ ⟨G, 1, none⟩ B) (grown_setCell _ ⟨G, 2, none⟩ C))
theorem set3n {w0 w : World} (h : w0.grownBy w none) (G : Nat) (A B C : Value) (hG : w0.heap.size ≤ G) : w0.grownBy (((w.setCell ⟨G, 0, none⟩ A).setCell ⟨G, 1, none⟩ B).setCell ⟨G, 2, none⟩ C) none :=
  grown_new h (set3g w G A B C) fun g e => by cases e; exact hG

/-- the row of a kind is returned -/
def SoP (k : Int) (w : World) (e : Ending) (w' : World) : Prop :=
  ∃ (p : Option Addr) (n c : Nat), e = .returned (.agg #[.int .i64 (srt k : Nat), .string ⟨(wrd k).toArray⟩, .slice p n c]) ∧ Frs w p ∧ IRd w' .i64 p n c (prm k) ∧ w.grownBy w' none
theorem SoP.mk {k : Int} {w w1 : World} {s : Nat} {d : ByteArray} {p : Option Addr} {n c : Nat} (hs : srt k = s) (hd : (⟨(wrd k).toArray⟩ : ByteArray) = d) (hr : IRd w1 .i64 p n c (prm k)) (hf : ∀ a, p = some a → w.heap.size < a.block) (hg : w.grownBy w1 none) :
    SoP k w (.returned (.agg #[.int .i64 (s : Int), .string d, .slice p n c])) (((w1.setCell ⟨w.heap.size, 0, none⟩ (.int .i64 (s : Int))).setCell ⟨w.heap.size, 1, none⟩ (.string d)).setCell ⟨w.heap.size, 2, none⟩ (.slice p n c)) := by
  subst hs hd
  exact ⟨p, n, c, rfl, fun a e => Nat.le_of_lt (hf a e), hr.kept (set3g _ _ _ _ _) (.inr fun a e => by have := hf a e; simp; omega), set3n hg _ _ _ _ (Nat.le_refl _)⟩
theorem ShP.e {s : Nat} {k : Int} {w w' : World} {e : Ending} (h : ShP s k w e w') (he : pS s k = ([], [])) : ∃ (p : Option Addr) (n c : Nat), e = .returned (.tuple #[.string ⟨#[]⟩, .slice p n c]) ∧ w.grownBy w' none := by
  obtain ⟨p, n, c, rfl, _, _, hg⟩ := h
  exact ⟨p, n, c, by rw [he], hg⟩
theorem ShP.y {s : Nat} {k : Int} {w w' : World} {e : Ending} {d : ByteArray} (h : ShP s k w e w') (he : pS s k = (wrd k, prm k)) (hd : (⟨(wrd k).toArray⟩ : ByteArray) = d) : ∃ (p : Option Addr) (n c : Nat), e = .returned (.tuple #[.string d, .slice p n c]) ∧ Frs w p ∧ IRd w' .i64 p n c (prm k) ∧ w.grownBy w' none := by
  obtain ⟨p, n, c, rfl, hf, hr, hg⟩ := h
  rw [he] at hr
  exact ⟨p, n, c, by rw [he, ← hd], hf, hr, hg⟩

set_option maxHeartbeats 16000000 in
set_option maxRecDepth 100000 in
theorem shapeOf_any (k : Int) (w : World) : Calls Tryz.prog 58 #[.int .i64 k] w (SoP k w) := by
  have HA := hid (World.grownBy_alloc w (.cells #[.int .i64 0, .string ⟨#[]⟩, .slice none 0 0] 97) none)
  rcases kinds_cases k with ⟨h1, h2, h3, h4⟩ | ⟨h2, h1, h4⟩
  · have HP : Hid (∀ s, s < 10 → pS s k = ([], [])) := hid fun s _ => h4 s
    have HS : Hid (srt k = 0 ∧ wrd k = [] ∧ prm k = []) := hid ⟨h1, h2, h3⟩
    clear h1 h2 h3 h4
    have bx0 := blk0 w (.cells #[.int .i64 0, .string ⟨#[]⟩, .slice none 0 0] 97)
    have hG0 := HA.out
    go_enter Tryz.func58, Tryz.ntmps58
    go_wp2_with (first | (go_at_call 108; refine (pointShape_any k _).mono ?_; rintro e w1 hS; obtain ⟨p1, n1, c1, rfl, hg1⟩ := hS.e (HP.out 1 (by omega)); clear hS; have bx1 := keepB bx0 hg1; have hG1 := grown_trans hG0 hg1) | (go_at_call 109; refine (lineShape_any k _).mono ?_; rintro e w2 hS; obtain ⟨p2, n2, c2, rfl, hg2⟩ := hS.e (HP.out 2 (by omega)); clear hS; have bx2 := keepB bx1 hg2; have hG2 := grown_trans hG1 hg2) | (go_at_call 110; refine (circleShape_any k _).mono ?_; rintro e w3 hS; obtain ⟨p3, n3, c3, rfl, hg3⟩ := hS.e (HP.out 3 (by omega)); clear hS; have bx3 := keepB bx2 hg3; have hG3 := grown_trans hG2 hg3) | (go_at_call 111; refine (goalShape_any k _).mono ?_; rintro e w4 hS; obtain ⟨p4, n4, c4, rfl, hg4⟩ := hS.e (HP.out 4 (by omega)); clear hS; have bx4 := keepB bx3 hg4; have hG4 := grown_trans hG3 hg4; obtain ⟨⟨k0, k1, k2⟩, f0, f1, f2⟩ := box3 bx4))
    exact bodyPost_ret (v := .agg #[.int .i64 0, .string ⟨#[]⟩, .slice none 0 0]) (by simp [results, Tryz.results58, go_sem, k0, k1, k2]) rfl (SoP.mk HS.out.1 (by rw [HS.out.2.1]) (by rw [HS.out.2.2]; exact IRd.nil _ _) (fun a e => by cases e) hG4)
  · obtain ⟨d, hd⟩ : ∃ d, (⟨(wrd k).toArray⟩ : ByteArray) = d := ⟨_, rfl⟩
    have hem : d.toList.isEmpty = false := by
      rw [← hd, Lib.toList_data]
      cases hw : wrd k with
      | nil => exact absurd hw h2
      | cons a r => rfl
    have HD := hid hd
    have HP : Hid (∀ s, s < 10 → srt k ≠ s → pS s k = ([], [])) := hid fun s _ h => by rw [h4 s, if_neg h]
    have HY0 : Hid (pS (srt k) k = (wrd k, prm k)) := hid (by rw [h4, if_pos rfl])
    clear h2 h4 hd
    have bx0 := blk0 w (.cells #[.int .i64 0, .string ⟨#[]⟩, .slice none 0 0] 97)
    have hG0 := HA.out
    rcases h1 with h1 | h1 | h1 | h1
    · have HSO := hid h1
      have HY : Hid (pS 1 k = (wrd k, prm k)) := hid (h1 ▸ HY0.out)
      clear h1
      go_enter Tryz.func58, Tryz.ntmps58
      go_wp2_with (first | (go_at_call 108; refine (pointShape_any k _).mono ?_; rintro e w1 hS; obtain ⟨p1, n1, c1, rfl, hf, hr, hg1⟩ := hS.y HY.out HD.out; clear hS; have bx1 := keepB bx0 hg1; have hsz := lt_of_block bx0; have hG1 := grown_trans hG0 hg1; obtain ⟨⟨k0, k1, k2⟩, f0, f1, f2⟩ := box3 bx1))
      exact bodyPost_ret (v := .agg #[.int .i64 1, .string d, .slice p1 n1 c1]) (by simp [results, Tryz.results58, go_sem, k0, k1, k2]) rfl (SoP.mk HSO.out HD.out hr (fun a e => by have := hf a e; omega) hG1)
    · have HSO := hid h1
      have HY : Hid (pS 2 k = (wrd k, prm k)) := hid (h1 ▸ HY0.out)
      clear h1
      go_enter Tryz.func58, Tryz.ntmps58
      go_wp2_with (first | (go_at_call 108; refine (pointShape_any k _).mono ?_; rintro e w1 hS; obtain ⟨p1, n1, c1, rfl, hg1⟩ := hS.e (HP.out 1 (by omega) (by rw [HSO.out]; decide)); clear hS; have bx1 := keepB bx0 hg1; have hG1 := grown_trans hG0 hg1) | (go_at_call 109; refine (lineShape_any k _).mono ?_; rintro e w2 hS; obtain ⟨p2, n2, c2, rfl, hf, hr, hg2⟩ := hS.y HY.out HD.out; clear hS; have bx2 := keepB bx1 hg2; have hsz := lt_of_block bx1; have hG2 := grown_trans hG1 hg2; obtain ⟨⟨k0, k1, k2⟩, f0, f1, f2⟩ := box3 bx2))
      exact bodyPost_ret (v := .agg #[.int .i64 2, .string d, .slice p2 n2 c2]) (by simp [results, Tryz.results58, go_sem, k0, k1, k2]) rfl (SoP.mk HSO.out HD.out hr (fun a e => by have := hf a e; omega) hG2)
    · have HSO := hid h1
      have HY : Hid (pS 3 k = (wrd k, prm k)) := hid (h1 ▸ HY0.out)
      clear h1
      go_enter Tryz.func58, Tryz.ntmps58
      go_wp2_with (first | (go_at_call 108; refine (pointShape_any k _).mono ?_; rintro e w1 hS; obtain ⟨p1, n1, c1, rfl, hg1⟩ := hS.e (HP.out 1 (by omega) (by rw [HSO.out]; decide)); clear hS; have bx1 := keepB bx0 hg1; have hG1 := grown_trans hG0 hg1) | (go_at_call 109; refine (lineShape_any k _).mono ?_; rintro e w2 hS; obtain ⟨p2, n2, c2, rfl, hg2⟩ := hS.e (HP.out 2 (by omega) (by rw [HSO.out]; decide)); clear hS; have bx2 := keepB bx1 hg2; have hG2 := grown_trans hG1 hg2) | (go_at_call 110; refine (circleShape_any k _).mono ?_; rintro e w3 hS; obtain ⟨p3, n3, c3, rfl, hf, hr, hg3⟩ := hS.y HY.out HD.out; clear hS; have bx3 := keepB bx2 hg3; have hsz := lt_of_block bx2; have hG3 := grown_trans hG2 hg3; obtain ⟨⟨k0, k1, k2⟩, f0, f1, f2⟩ := box3 bx3))
      exact bodyPost_ret (v := .agg #[.int .i64 3, .string d, .slice p3 n3 c3]) (by simp [results, Tryz.results58, go_sem, k0, k1, k2]) rfl (SoP.mk HSO.out HD.out hr (fun a e => by have := hf a e; omega) hG3)
    · have HSO := hid h1
      have HY : Hid (pS 4 k = (wrd k, prm k)) := hid (h1 ▸ HY0.out)
      clear h1
      go_enter Tryz.func58, Tryz.ntmps58
      go_wp2_with (first | (go_at_call 108; refine (pointShape_any k _).mono ?_; rintro e w1 hS; obtain ⟨p1, n1, c1, rfl, hg1⟩ := hS.e (HP.out 1 (by omega) (by rw [HSO.out]; decide)); clear hS; have bx1 := keepB bx0 hg1; have hG1 := grown_trans hG0 hg1) | (go_at_call 109; refine (lineShape_any k _).mono ?_; rintro e w2 hS; obtain ⟨p2, n2, c2, rfl, hg2⟩ := hS.e (HP.out 2 (by omega) (by rw [HSO.out]; decide)); clear hS; have bx2 := keepB bx1 hg2; have hG2 := grown_trans hG1 hg2) | (go_at_call 110; refine (circleShape_any k _).mono ?_; rintro e w3 hS; obtain ⟨p3, n3, c3, rfl, hg3⟩ := hS.e (HP.out 3 (by omega) (by rw [HSO.out]; decide)); clear hS; have bx3 := keepB bx2 hg3; have hG3 := grown_trans hG2 hg3) | (go_at_call 111; refine (goalShape_any k _).mono ?_; rintro e w4 hS; obtain ⟨p4, n4, c4, rfl, hf, hr, hg4⟩ := hS.y HY.out HD.out; clear hS; have bx4 := keepB bx3 hg4; have hsz := lt_of_block bx3; have hG4 := grown_trans hG3 hg4; obtain ⟨⟨k0, k1, k2⟩, f0, f1, f2⟩ := box3 bx4))
      exact bodyPost_ret (v := .agg #[.int .i64 4, .string d, .slice p4 n4 c4]) (by simp [results, Tryz.results58, go_sem, k0, k1, k2]) rfl (SoP.mk HSO.out HD.out hr (fun a e => by have := hf a e; omega) hG4)

end Go.Proofs.YtiaonbofkgkdhaaGreatDoor

set_option linter.unusedVariables false
set_option linter.unusedSimpArgs false
namespace Go.Proofs.YtiaonbofkgkdhaaGreatDoor
open Go.RowKit _root_.Nm Ax
theorem shape_fld (x y z : Value) : (∀ w, (Instr.field 97 (.agg #[x, y, z]) 0).run Tryz.prog w = .ok x w) ∧ (∀ w, (Instr.field 97 (.agg #[x, y, z]) 1).run Tryz.prog w = .ok y w) ∧ (∀ w, (Instr.field 97 (.agg #[x, y, z]) 2).run Tryz.prog w = .ok z w) :=
  ⟨fun w => by kernel_rfl, fun w => by kernel_rfl, fun w => by kernel_rfl⟩
set_option maxRecDepth 100000 in
theorem sort_any (k : Int) (w : World) : Calls Tryz.prog 29 #[.int .i64 k] w fun e w' => e = .returned (.int .i64 (srt k : Nat)) ∧ w.grownBy w' none := by
  have hsf := shape_fld
  go_enter Tryz.func29, Tryz.ntmps29
  go_wp2_with (go_at_call 58; refine (shapeOf_any k _).mono ?_; rintro e w1 ⟨p, n, c, rfl, hf, hr, hg⟩; obtain ⟨j0, j1, j2⟩ := hsf (.int .i64 (srt k : Nat)) (.string ⟨(wrd k).toArray⟩) (.slice p n c))
  go_ret
  exact ⟨rfl, hg⟩
set_option maxRecDepth 100000 in
theorem astWord_any (k : Int) (w : World) : Calls Tryz.prog 61 #[.int .i64 k] w fun e w' => e = .returned (.string ⟨(wrd k).toArray⟩) ∧ w.grownBy w' none := by
  have hsf := shape_fld
  go_enter Tryz.func61, Tryz.ntmps61
  go_wp2_with (go_at_call 58; refine (shapeOf_any k _).mono ?_; rintro e w1 ⟨p, n, c, rfl, hf, hr, hg⟩; obtain ⟨j0, j1, j2⟩ := hsf (.int .i64 (srt k : Nat)) (.string ⟨(wrd k).toArray⟩) (.slice p n c))
  go_ret
  exact ⟨rfl, hg⟩
set_option maxRecDepth 100000 in
theorem params_any (k : Int) (w : World) : Calls Tryz.prog 113 #[.int .i64 k] w fun e w' => ∃ p n c, e = .returned (.slice p n c) ∧ Frs w p ∧ IRd w' .i64 p n c (prm k) ∧ w.grownBy w' none := by
  have hsf := shape_fld
  go_enter Tryz.func113, Tryz.ntmps113
  go_wp2_with (go_at_call 58; refine (shapeOf_any k _).mono ?_; rintro e w1 ⟨p, n, c, rfl, hf, hr, hg⟩; obtain ⟨j0, j1, j2⟩ := hsf (.int .i64 (srt k : Nat)) (.string ⟨(wrd k).toArray⟩) (.slice p n c))
  go_ret
  exact ⟨p, n, c, rfl, hf, hr, hg⟩
end Go.Proofs.YtiaonbofkgkdhaaGreatDoor

set_option linter.unusedVariables false
set_option linter.unusedSimpArgs false
namespace Go.Proofs.YtiaonbofkgkdhaaGreatDoor
open Go.RowKit _root_.Nm Ax
def allocs (w : World) : List Obj → World
  | [] => w
  | o :: r => allocs (w.alloc o) r
def parObj (T : TypeId) (e : Ent) : Obj := .cells (e.p.map fun n => Value.int .i64 (n : Nat)).toArray T (0, 0)
def rowCells (B : Nat) : Nat → List Ent → List Value
  | _, [] => []
  | k, e :: r => .int .i64 (e.k : Nat) :: .int .i64 (e.s : Nat) :: .string ⟨e.w.toArray⟩ :: .slice (some ⟨B + k, 0, none⟩) e.p.length e.p.length :: rowCells B (k + 1) r
def rowObjs (T R : TypeId) (B : Nat) : List Obj := Ax.tab.map (parObj T) ++ [.cells (rowCells B 0 Ax.tab).toArray R (0, 0)]

theorem allocs_grown : ∀ (L : List Obj) (w : World), w.grownBy (allocs w L) none
  | [], w => grown_refl _ _
  | o :: r, w => grown_trans (World.grownBy_alloc w o none) (allocs_grown r _)
theorem allocs_heap : ∀ (L : List Obj) (w : World) (i : Nat), i < L.length → (allocs w L).heap[w.heap.size + i]? = L[i]?
  | [], w, i, h => absurd h (Nat.not_lt_zero i)
  | o :: r, w, 0, h => by
    show (allocs (w.alloc o) r).heap[w.heap.size + 0]? = some o
    exact keepB (blk0 w o) (allocs_grown r _)
  | o :: r, w, i + 1, h => by
    show (allocs (w.alloc o) r).heap[w.heap.size + (i + 1)]? = r[i]?
    have := allocs_heap r (w.alloc o) i (by simpa using h)
    rw [show (w.alloc o).heap.size = w.heap.size + 1 by simp] at this
    rw [← this, show w.heap.size + 1 + i = w.heap.size + (i + 1) by omega]
theorem rowCells_get (B : Nat) : ∀ (l : List Ent) (k i : Nat) (e : Ent), l[i]? = some e →
    (rowCells B k l)[i * 4]? = some (.int .i64 (e.k : Nat)) ∧ (rowCells B k l)[i * 4 + 1]? = some (.int .i64 (e.s : Nat)) ∧ (rowCells B k l)[i * 4 + 2]? = some (.string ⟨e.w.toArray⟩) ∧ (rowCells B k l)[i * 4 + 3]? = some (.slice (some ⟨B + (k + i), 0, none⟩) e.p.length e.p.length)
  | [], k, i, e, h => by simp at h
  | f :: r, k, 0, e, h => by
    obtain rfl : f = e := by simpa using h
    exact ⟨rfl, rfl, rfl, rfl⟩
  | f :: r, k, i + 1, e, h => by
    have := rowCells_get B r (k + 1) i e (by simpa using h)
    rw [show k + 1 + i = k + (i + 1) by omega] at this
    rw [show (i + 1) * 4 = i * 4 + 1 + 1 + 1 + 1 by omega]
    exact this
/-- the table's rows lie in the block b -/
def RwA (w w' : World) (b : Nat) : Prop := ∀ i e, Ax.tab[i]? = some e → ∃ (p : Option Addr) (n : Nat),
  (w'.cell? ⟨b, i * 4, none⟩ = some (.int .i64 (e.k : Nat)) ∧ w'.cell? ⟨b, i * 4 + 1, none⟩ = some (.int .i64 (e.s : Nat)) ∧ w'.cell? ⟨b, i * 4 + 2, none⟩ = some (.string ⟨e.w.toArray⟩) ∧ w'.cell? ⟨b, i * 4 + 3, none⟩ = some (.slice p n n)) ∧ Frs w p ∧ IRd w' .i64 p n n e.p
theorem RwA.keep {w w' w2 : World} {b : Nat} (h : RwA w w' b) (hg : w'.grownBy w2 none) : RwA w w2 b := by
  intro i e he
  obtain ⟨p, n, ⟨c0, c1, c2, c3⟩, hf, hr⟩ := h i e he
  exact ⟨p, n, ⟨hg.cell c0 (by simp), hg.cell c1 (by simp), hg.cell c2 (by simp), hg.cell c3 (by simp)⟩, hf, hr.keep hg⟩
theorem tab_len : Ax.tab.length = 30 := by kernel_rfl
theorem tab_at {i : Nat} (h : i < 30) : ∃ e, Ax.tab[i]? = some e := ⟨Ax.tab[i]'(by rw [tab_len]; exact h), List.getElem?_eq_getElem _⟩
theorem rows_there (T R : TypeId) (w : World) : w.grownBy (allocs w (rowObjs T R w.heap.size)) none ∧ RwA w (allocs w (rowObjs T R w.heap.size)) (w.heap.size + 30) := by
  have hL : (rowObjs T R w.heap.size).length = 31 := by simp [rowObjs, tab_len]
  refine ⟨allocs_grown _ _, fun i e he => ?_⟩
  have hi : i < 30 := by
    have := (List.getElem?_eq_some_iff.1 he).1
    rwa [tab_len] at this
  have hb := allocs_heap (rowObjs T R w.heap.size) w 30 (by omega)
  have hbo : (rowObjs T R w.heap.size)[30]? = some (.cells (rowCells w.heap.size 0 Ax.tab).toArray R (0, 0)) := by
    unfold rowObjs
    rw [List.getElem?_append_right (by simp [tab_len]), List.length_map, tab_len]
    rfl
  rw [hbo] at hb
  have hp := allocs_heap (rowObjs T R w.heap.size) w i (by omega)
  have hpo : (rowObjs T R w.heap.size)[i]? = some (parObj T e) := by
    unfold rowObjs
    rw [List.getElem?_append_left (by simp [tab_len]; exact hi), List.getElem?_map, he]
    rfl
  rw [hpo] at hp
  generalize allocs w (rowObjs T R w.heap.size) = w' at hb hp ⊢
  obtain ⟨r0, r1, r2, r3⟩ := rowCells_get w.heap.size Ax.tab 0 i e he
  have cc := fun k => cell_of_row w' (w.heap.size + 30) k _ _ _ hb
  refine ⟨some ⟨w.heap.size + (0 + i), 0, none⟩, e.p.length, ⟨?_, ?_, ?_, ?_⟩, ?_, ?_⟩
  · rw [cc]; simpa using r0
  · rw [cc]; simpa using r1
  · rw [cc]; simpa using r2
  · rw [cc]; simpa using r3
  · intro a h; cases h; exact Nat.le_add_right _ _
  · refine ⟨rfl, Nat.le_refl _, ?_, fun j hj => ⟨w.heap.size + (0 + i), 0, rfl, ?_⟩⟩
    · have : ∀ e ∈ Ax.tab, e.p.length ≤ 6 := by decide
      have := this e (List.mem_of_getElem? he)
      omega
    · rw [show w.heap.size + (0 + i) = w.heap.size + i by omega, show (0 : Nat) + j = j by omega]
      rw [cell_of_row w' (w.heap.size + i) j _ _ _ hp]
      simp [hj]
end Go.Proofs.YtiaonbofkgkdhaaGreatDoor

set_option linter.unusedVariables false
set_option linter.unusedSimpArgs false
namespace Go.Proofs.YtiaonbofkgkdhaaGreatDoor
open Go.RowKit _root_.Nm Ax
set_option maxHeartbeats 8000000 in
set_option maxRecDepth 100000 in
theorem rows_raw (w : World) : Calls Tryz.prog 114 #[] w fun e w' => e = .returned (.slice (some ⟨w.heap.size + 30, 0, none⟩) 30 30) ∧ w' = allocs w (rowObjs 3 102 w.heap.size) := by
  go_enter Tryz.func114, Tryz.ntmps114
  go_wp2_with fail
  go_ret
  refine ⟨rfl, ?_⟩
  first | rfl | (simp only [allocs, rowObjs, Ax.tab, parObj, rowCells, List.map, List.append_eq, List.cons_append, List.nil_append, List.length]; rfl)
theorem rows_any (w : World) : Calls Tryz.prog 114 #[] w fun e w' => ∃ b, e = .returned (.slice (some ⟨b, 0, none⟩) 30 30) ∧ w.heap.size ≤ b ∧ w.grownBy w' none ∧ RwA w w' b := by
  refine (rows_raw w).mono ?_
  rintro e w' ⟨rfl, rfl⟩
  obtain ⟨h1, h2⟩ := rows_there 3 102 w
  exact ⟨_, rfl, Nat.le_add_right _ _, h1, h2⟩
end Go.Proofs.YtiaonbofkgkdhaaGreatDoor

set_option linter.unusedVariables false
set_option linter.unusedSimpArgs false
namespace Go.Proofs.YtiaonbofkgkdhaaGreatDoor
open Go.RowKit _root_.Nm Ax
/-- kind, sort, word, parameters -/
def RowP (k : Int) (w : World) (e : Ending) (w' : World) : Prop :=
  ∃ (z : Int) (p : Option Addr) (n c : Nat), e = .returned (.agg #[.int .i64 z, .int .i64 (srt k : Nat), .string ⟨(wrd k).toArray⟩, .slice p n c]) ∧ Frs w p ∧ IRd w' .i64 p n c (prm k) ∧ w.grownBy w' none
theorem tab_first {k : Int} {i : Nat} {e : Ent} (he : Ax.tab[i]? = some e) (hk : (e.k : Int) = k) (h : ∀ j f, j < i → Ax.tab[j]? = some f → (f.k : Int) ≠ k) : ent k = some e := by
  unfold ent
  rw [List.find?_eq_some_iff_getElem]
  obtain ⟨hi, hie⟩ := List.getElem?_eq_some_iff.1 he
  refine ⟨by simp [hk], i, hi, hie, fun j hj => ?_⟩
  have := h j Ax.tab[j] hj (List.getElem?_eq_getElem _)
  simp [this]
theorem tab_none {k : Int} (h : ∀ j f, j < 30 → Ax.tab[j]? = some f → (f.k : Int) ≠ k) : ent k = none := by
  unfold ent
  rw [List.find?_eq_none]
  intro e he
  obtain ⟨i, hi, rfl⟩ := List.getElem_of_mem he
  have := h i Ax.tab[i] (by rwa [tab_len] at hi) (List.getElem?_eq_getElem _)
  simp [this]
theorem tab_word {w : List UInt8} {i : Nat} {e : Ent} (he : Ax.tab[i]? = some e) (hk : e.w = w) (h : ∀ j f, j < i → Ax.tab[j]? = some f → f.w ≠ w) : knd w = e.k := by
  unfold knd
  have : (Ax.tab.find? fun e => decide (e.w = w)) = some e := by
    rw [List.find?_eq_some_iff_getElem]
    obtain ⟨hi, hie⟩ := List.getElem?_eq_some_iff.1 he
    refine ⟨by simp [hk], i, hi, hie, fun j hj => ?_⟩
    have := h j Ax.tab[j] hj (List.getElem?_eq_getElem _)
    simp [this]
  rw [this]
theorem tab_noword {w : List UInt8} (h : ∀ j f, j < 30 → Ax.tab[j]? = some f → f.w ≠ w) : knd w = 0 := by
  unfold knd
  have : (Ax.tab.find? fun e => decide (e.w = w)) = none := by
    rw [List.find?_eq_none]
    intro e he
    obtain ⟨i, hi, rfl⟩ := List.getElem_of_mem he
    have := h i Ax.tab[i] (by rwa [tab_len] at hi) (List.getElem?_eq_getElem _)
    simp [this]
  rw [this]

theorem set4g (w : World) (G : Nat) (A B C D : Value) : w.grownBy ((((w.setCell ⟨G, 0, none⟩ A).setCell ⟨G, 1, none⟩ B).setCell ⟨G, 2, none⟩ C).setCell ⟨G, 3, none⟩ D) (some G) :=
  grown_trans (grown_setCell w ⟨G, 0, none⟩ A) (grown_trans (grown_setCell _ ⟨G, 1, none⟩ B) (grown_trans (grown_setCell _ ⟨G, 2, none⟩ C) (grown_setCell _ ⟨G, 3, none⟩ D)))
theorem RowP.mk {x : Int} {w w1 : World} {z : Int} {s : Nat} {d : ByteArray} {p : Option Addr} {n c : Nat} (hs : srt x = s) (hd : (⟨(wrd x).toArray⟩ : ByteArray) = d) (hr : IRd w1 .i64 p n c (prm x)) (hf : ∀ a, p = some a → w.heap.size < a.block) (hg : w.grownBy w1 none) :
    RowP x w (.returned (.agg #[.int .i64 z, .int .i64 (s : Int), .string d, .slice p n c])) ((((w1.setCell ⟨w.heap.size, 0, none⟩ (.int .i64 z)).setCell ⟨w.heap.size, 1, none⟩ (.int .i64 (s : Int))).setCell ⟨w.heap.size, 2, none⟩ (.string d)).setCell ⟨w.heap.size, 3, none⟩ (.slice p n c)) := by
  subst hs hd
  exact ⟨z, p, n, c, rfl, fun a e => Nat.le_of_lt (hf a e), hr.kept (set4g _ _ _ _ _ _) (.inr fun a e => by have := hf a e; simp; omega), grown_new hg (set4g _ _ _ _ _ _) fun g e => by cases e; exact Nat.le_refl _⟩
set_option maxHeartbeats 8000000 in
set_option maxRecDepth 100000 in
theorem rfind_any (x : Int) (w : World) : Calls Tryz.prog 64 #[.int .i64 x] w (RowP x w) := by
  have HR := hid rows_any
  have HA := hid (World.grownBy_alloc w (.cells #[.int .i64 0, .int .i64 0, .string ⟨#[]⟩, .slice none 0 0] 102) none)
  have HB := hid (blk0 w (.cells #[.int .i64 0, .int .i64 0, .string ⟨#[]⟩, .slice none 0 0] 102))
  go_enter Tryz.func64, Tryz.ntmps64
  go_wp2_with (go_at_call 114; (with_reducible refine (HR.out _).mono ?_); rintro e w1 ⟨b, rfl, hb, hg1, hrw⟩; have HRW := hid hrw; clear hrw)
  have hbb : b ≠ w.heap.size := by simp at hb; omega
  have HBR := hid (keepB HB.out hg1)
  go_loopw [7] (fun x' wr => ∃ k : Nat, k ≤ 30 ∧ x' = .int .i64 k ∧ w1.grownBy wr none ∧ ∀ j f, j < k → Ax.tab[j]? = some f → (f.k : Int) ≠ x) (fun x' _ => 30 - (intOf x').toNat)
  case atStart => exact ⟨0, Nat.zero_le _, rfl, grown_refl _ _, fun j f h => absurd h (Nat.not_lt_zero j)⟩
  case round =>
    obtain ⟨k, hk, rfl, hg, hno⟩ := hrel
    by_cases hlt : k < 30
    · have HNO := hid hno
      clear hno
      obtain ⟨e, he⟩ := tab_at hlt
      obtain ⟨p, n, ⟨c0, c1, c2, c3⟩, hf, hr⟩ := (HRW.out.keep hg) k e he
      have HE := hid he
      have HF := hid hf
      have HRR := hid hr
      clear he hf hr
      obtain ⟨⟨k0, k1, k2, k3⟩, f0, f1, f2, f3⟩ := box4 (blk0 wr (.cells #[.int .i64 0, .int .i64 0, .string ⟨#[]⟩, .slice none 0 0] 102))
      obtain ⟨⟨l0, l1, l2, l3⟩, g0, g1, g2, g3⟩ := box4 (keepB (keepB HBR.out hg) (World.grownBy_alloc wr (.cells #[.int .i64 (e.k : Nat), .int .i64 (e.s : Nat), .string ⟨e.w.toArray⟩, .slice p n n] 102) none))
      go_wp2_with fail
      · rename_i hw
        have hx := tab_first HE.out (by simpa using hw) HNO.out
        refine bodyPost_ret (v := .agg #[.int .i64 (e.k : Nat), .int .i64 (e.s : Nat), .string ⟨e.w.toArray⟩, .slice p n n]) (by simp [results, Tryz.results64, go_sem, l0, l1, l2, l3]) rfl (RowP.mk (by unfold srt; rw [hx]) (by unfold wrd; rw [hx]) (by unfold prm; rw [hx]; exact HRR.out.keep (World.grownBy_alloc _ _ none)) (fun a h => by have := HF.out a h; simp at this; omega) (grown_trans HA.out (grown_trans hg1 (grown_trans hg (World.grownBy_alloc _ _ none)))))
      · rename_i hw
        refine ⟨⟨k + 1, by omega, by go_num, grown_trans hg (World.grownBy_alloc _ _ none), ?_⟩, by simp [intOf]; omega⟩
        intro j f hj hf
        by_cases h : j = k
        · subst h
          rw [HE.out] at hf
          cases hf
          simpa using hw
        · exact HNO.out j f (by omega) hf
    · obtain rfl : k = 30 := by omega
      obtain ⟨⟨l0, l1, l2, l3⟩, g0, g1, g2, g3⟩ := box4 (keepB HBR.out hg)
      go_wp2_with fail
      have hx := tab_none hno
      refine bodyPost_ret (v := .agg #[.int .i64 0, .int .i64 0, .string ⟨#[]⟩, .slice none 0 0]) (by simp [results, Tryz.results64, go_sem, l0, l1, l2, l3]) rfl (RowP.mk (s := 0) (by unfold srt; rw [hx]) (by unfold wrd; rw [hx]) (by unfold prm; rw [hx]; exact IRd.nil _ _) (fun a h => by cases h) (grown_trans HA.out (grown_trans hg1 hg)))
theorem row_fld (a x y z : Value) : (∀ w, (Instr.field 102 (.agg #[a, x, y, z]) 1).run Tryz.prog w = .ok x w) ∧ (∀ w, (Instr.field 102 (.agg #[a, x, y, z]) 2).run Tryz.prog w = .ok y w) ∧ (∀ w, (Instr.field 102 (.agg #[a, x, y, z]) 3).run Tryz.prog w = .ok z w) :=
  ⟨fun w => by kernel_rfl, fun w => by kernel_rfl, fun w => by kernel_rfl⟩
set_option maxRecDepth 100000 in
theorem rsort_any (k : Int) (w : World) : Calls Tryz.prog 32 #[.int .i64 k] w fun e w' => e = .returned (.int .i64 (srt k : Nat)) ∧ w.grownBy w' none := by
  have hsf := row_fld
  go_enter Tryz.func32, Tryz.ntmps32
  go_wp2_with (go_at_call 64; refine (rfind_any k _).mono ?_; rintro e w1 ⟨z, p, n, c, rfl, hf, hr, hg⟩; obtain ⟨j0, j1, j2⟩ := hsf (.int .i64 z) (.int .i64 (srt k : Nat)) (.string ⟨(wrd k).toArray⟩) (.slice p n c))
  go_ret
  exact ⟨rfl, hg⟩
set_option maxRecDepth 100000 in
theorem rword_any (k : Int) (w : World) : Calls Tryz.prog 67 #[.int .i64 k] w fun e w' => e = .returned (.string ⟨(wrd k).toArray⟩) ∧ w.grownBy w' none := by
  have hsf := row_fld
  go_enter Tryz.func67, Tryz.ntmps67
  go_wp2_with (go_at_call 64; refine (rfind_any k _).mono ?_; rintro e w1 ⟨z, p, n, c, rfl, hf, hr, hg⟩; obtain ⟨j0, j1, j2⟩ := hsf (.int .i64 z) (.int .i64 (srt k : Nat)) (.string ⟨(wrd k).toArray⟩) (.slice p n c))
  go_ret
  exact ⟨rfl, hg⟩
set_option maxRecDepth 100000 in
theorem rparams_any (k : Int) (w : World) : Calls Tryz.prog 116 #[.int .i64 k] w fun e w' => ∃ p n c, e = .returned (.slice p n c) ∧ Frs w p ∧ IRd w' .i64 p n c (prm k) ∧ w.grownBy w' none := by
  have hsf := row_fld
  go_enter Tryz.func116, Tryz.ntmps116
  go_wp2_with (go_at_call 64; refine (rfind_any k _).mono ?_; rintro e w1 ⟨z, p, n, c, rfl, hf, hr, hg⟩; obtain ⟨j0, j1, j2⟩ := hsf (.int .i64 z) (.int .i64 (srt k : Nat)) (.string ⟨(wrd k).toArray⟩) (.slice p n c))
  go_ret
  exact ⟨p, n, c, rfl, hf, hr, hg⟩
end Go.Proofs.YtiaonbofkgkdhaaGreatDoor

set_option linter.unusedVariables false
set_option linter.unusedSimpArgs false
namespace Go.Proofs.YtiaonbofkgkdhaaGreatDoor
open Go.RowKit _root_.Nm
theorem lists_step {xs ys : List Nat} {k : Nat} (h : ∀ j, j < k → xs[j]? = ys[j]?) (hk : xs[k]? = ys[k]?) : ∀ j, j < k + 1 → xs[j]? = ys[j]? := by
  intro j hj
  by_cases e : j = k
  · rw [e]; exact hk
  · exact h j (by omega)
theorem lists_end {xs ys : List Nat} (hl : xs.length = ys.length) (h : ∀ j, j < xs.length → xs[j]? = ys[j]?) : xs = ys := by
  apply List.ext_getElem? 
  intro j
  by_cases hj : j < xs.length
  · exact h j hj
  · rw [List.getElem?_eq_none (by omega), List.getElem?_eq_none (by omega)]
set_option maxHeartbeats 4000000 in
set_option maxRecDepth 100000 in
theorem eqNat_any (p q : Option Addr) (n c n' d : Nat) (xs ys : List Nat) (b : Bool) (hb : b = true ↔ xs = ys) (w : World) (h1 : IRd w .u16 p n c xs) (h2 : IRd w .u16 q n' d ys) :
    Calls Tryz.prog 188 #[.slice p n c, .slice q n' d] w fun e w' => e = .returned (.bool b) ∧ w.grownBy w' none := by
  have hl := h1.len
  have hc := h1.cap
  have hm := h1.max
  have hl2 := h2.len
  have hc2 := h2.cap
  have hm2 := h2.max
  have H1 := hid h1
  have H2 := hid h2
  have HB := hid hb
  clear h1 h2 hb
  by_cases hnn : n = n'
  · subst hnn
    go_enter Tryz.func188, Tryz.ntmps188
    go_wp2_with fail
    go_loopw [13] (fun x wr => ∃ k : Nat, k ≤ n ∧ x = .int .i64 k ∧ w.grownBy wr none ∧ ∀ j, j < k → xs[j]? = ys[j]?) (fun x _ => n - (intOf x).toNat)
    case atStart => exact ⟨0, Nat.zero_le _, rfl, grown_refl _ _, fun j h => absurd h (Nat.not_lt_zero j)⟩
    case round =>
      obtain ⟨k, hk, rfl, hg, hall⟩ := hrel
      by_cases hlt : k < n
      · obtain ⟨b1, o1, rfl, e1⟩ := (H1.out.keep hg).cel k (by omega)
        obtain ⟨b2, o2, rfl, e2⟩ := (H2.out.keep hg).cel k (by omega)
        have HS := hid (lists_step hall)
        have HX : Hid (xs[k]? = some (xs[k]'(by omega))) := hid (List.getElem?_eq_getElem (by omega))
        have HY : Hid (ys[k]? = some (ys[k]'(by omega))) := hid (List.getElem?_eq_getElem (by omega))
        clear hall
        generalize xs[k] = x at *
        generalize ys[k] = y at *
        by_cases hxy : x = y
        · subst hxy
          go_wp2_with fail
          go_quiet (fail)
          go_wp2_with fail
          exact ⟨⟨k + 1, by omega, by go_num, gdN hg _, HS.out (HX.out.trans HY.out.symm)⟩, by simp [intOf]; omega⟩
        · have hz : ¬ (x : Int) = (y : Int) := by omega
          obtain rfl : b = false := by
            rw [← Bool.not_eq_true, HB.out]
            rintro rfl
            have := HX.out.symm.trans HY.out
            exact hxy (by simpa using this)
          go_wp2_with fail
          go_quiet (fail)
          go_wp2_with fail
          go_ret
          exact ⟨rfl, gdN hg _⟩
      · obtain rfl : k = n := by omega
        obtain rfl : b = true := HB.out.2 (lists_end (by omega) (fun j hj => hall j (by omega)))
        go_wp2_with fail
        go_ret
        exact ⟨rfl, hg⟩
  · obtain rfl : b = false := by
      rw [← Bool.not_eq_true, HB.out]
      rintro rfl
      omega
    have hz : ¬ (n : Int) = (n' : Int) := by omega
    go_enter Tryz.func188, Tryz.ntmps188
    go_wp2_with fail
    go_ret
    exact ⟨rfl, grown_refl _ _⟩
end Go.Proofs.YtiaonbofkgkdhaaGreatDoor

set_option linter.unusedVariables false
set_option linter.unusedSimpArgs false
namespace Go.Proofs.YtiaonbofkgkdhaaGreatDoor
open Go.RowKit _root_.Nm
/-- equal apart from the positions, up to a depth -/
def EqP : Nat → Tr → Tr → Prop
  | 0, _, _ => False
  | m + 1, .node h l, .node h' l' => (h.k = h'.k ∧ h.nm = h'.nm ∧ (h.g = h'.g ∧ h.num = h'.num ∧ h.den = h'.den)) ∧ l.length = l'.length ∧ ∀ i (hi : i < l.length) (hi' : i < l'.length), EqP m l[i] l'[i]
/-- the tree with its positions moved, as the machine counts -/
def movF : Nat → Int → Tr → Tr
  | 0, _, t => t
  | m + 1, d, .node h l => .node { h with pos := wrap64 (h.pos + d) } (l.map (movF m (wrap64 (d + 1))))
theorem movF_succ (m : Nat) (d : Int) (h : Hd) (l : List Tr) : movF (m + 1) d (.node h l) = .node { h with pos := wrap64 (h.pos + d) } (l.map (movF m (wrap64 (d + 1)))) := rfl
theorem EqP.mov {w : World} : ∀ {m : Nat} {cs : List Value} {t : Tr} (d : Int), ERd w m cs t → EqP m t (movF m d t)
  | 0, _, _, _, h => h.elim
  | m + 1, cs, .node h l, d, ⟨pn, nn, cn, pd, nd, cd, pa, na, ca, h1, h2, h3, h4, h5⟩ => by
    refine ⟨⟨rfl, rfl, rfl, rfl, rfl⟩, by simp, fun i hi hi' => ?_⟩
    obtain ⟨b, o, cs', k1, k2, k3, k4⟩ := h5 i hi
    rw [List.getElem_map]
    exact EqP.mov _ k4
/-- every list of the tree has at most N elements -/
def Nar (N : Nat) : Nat → Tr → Prop
  | 0, _ => True
  | m + 1, .node _ l => l.length ≤ N ∧ ∀ i (hi : i < l.length), Nar N m l[i]
end Go.Proofs.YtiaonbofkgkdhaaGreatDoor

set_option linter.unusedVariables false
set_option linter.unusedSimpArgs false
namespace Go.Proofs.YtiaonbofkgkdhaaGreatDoor
open Go.RowKit _root_.Nm
theorem box3c {w : World} {G : Nat} {x y z : Value} {T : TypeId} (hb : w.heap[G]? = some (.cells #[x, y, z] T (0, 0))) : w.cell? ⟨G, 0, none⟩ = some x ∧ w.cell? ⟨G, 1, none⟩ = some y ∧ w.cell? ⟨G, 2, none⟩ = some z := by
  have k0 := cell_of_row w G 0 _ _ _ hb
  have k1 := cell_of_row w G 1 _ _ _ hb
  have k2 := cell_of_row w G 2 _ _ _ hb
  simp at k0 k1 k2
  exact ⟨k0, k1, k2⟩
set_option maxHeartbeats 8000000 in
set_option maxRecDepth 100000 in
theorem equalRat_any (g g' : Bool) (p q p' q' : Option Addr) (n c m d n' c' m' d' : Nat) (xs ys xs' ys' : List Nat) (b : Bool) (hb : b = true ↔ g = g' ∧ xs = xs' ∧ ys = ys') (w : World) (h1 : IRd w .u16 p n c xs) (h2 : IRd w .u16 q m d ys) (h1' : IRd w .u16 p' n' c' xs') (h2' : IRd w .u16 q' m' d' ys') :
    Calls Tryz.prog 171 #[.agg #[.bool g, .slice p n c, .slice q m d], .agg #[.bool g', .slice p' n' c', .slice q' m' d']] w fun e w' => e = .returned (.bool b) ∧ w.grownBy w' none := by
  obtain ⟨b1, hb1⟩ : ∃ b1 : Bool, b1 = true ↔ xs = xs' := ⟨decide (xs = xs'), by simp⟩
  obtain ⟨b2, hb2⟩ : ∃ b2 : Bool, b2 = true ↔ ys = ys' := ⟨decide (ys = ys'), by simp⟩
  have hbb : b = (decide (g = g') && (b1 && b2)) := by
    rw [Bool.eq_iff_iff, hb]
    simp [hb1, hb2]
  subst hbb
  obtain ⟨k0, k1, k2⟩ := box3c (blk1 w (.cells #[.bool g, .slice p n c, .slice q m d] 28 (0, 0)) (.cells #[.bool g', .slice p' n' c', .slice q' m' d'] 28 (0, 0)))
  have bx2 := blk0 (w.alloc (.cells #[.bool g, .slice p n c, .slice q m d] 28 (0, 0))) (.cells #[.bool g', .slice p' n' c', .slice q' m' d'] 28 (0, 0))
  rw [show (w.alloc (.cells #[.bool g, .slice p n c, .slice q m d] 28 (0, 0))).heap.size = w.heap.size + 1 by simp] at bx2
  obtain ⟨l0, l1, l2⟩ := box3c bx2
  have hW := grown_trans (World.grownBy_alloc w (.cells #[.bool g, .slice p n c, .slice q m d] 28 (0, 0)) none) (World.grownBy_alloc _ (.cells #[.bool g', .slice p' n' c', .slice q' m' d'] 28 (0, 0)) none)
  have HE1 := hid fun w' (hg : w.grownBy w' none) => eqNat_any p p' n c n' c' xs xs' b1 hb1 w' (h1.keep hg) (h1'.keep hg)
  have HE2 := hid fun w' (hg : w.grownBy w' none) => eqNat_any q q' m d m' d' ys ys' b2 hb2 w' (h2.keep hg) (h2'.keep hg)
  clear h1 h2 h1' h2' hb hb1 hb2 bx2
  cases g <;> cases g' <;> cases b1
  all_goals
    go_enter Tryz.func171, Tryz.ntmps171
    go_upto_region 1 with fail
    generalize ((w.alloc _).alloc _) = w0 at *
    go_wp2_with (first
      | (go_at_call 188; refine (HE1.out _ hW).mono ?_; rintro e w1 ⟨rfl, hg⟩; replace hW := grown_trans hW hg; replace k0 := hg.cell k0 (by simp); replace k1 := hg.cell k1 (by simp); replace k2 := hg.cell k2 (by simp); replace l0 := hg.cell l0 (by simp); replace l1 := hg.cell l1 (by simp); replace l2 := hg.cell l2 (by simp); clear HE1 hg)
      | (go_at_call 188; refine (HE2.out _ hW).mono ?_; rintro e w1 ⟨rfl, hg⟩; replace hW := grown_trans hW hg; replace k0 := hg.cell k0 (by simp); replace k1 := hg.cell k1 (by simp); replace k2 := hg.cell k2 (by simp); replace l0 := hg.cell l0 (by simp); replace l1 := hg.cell l1 (by simp); replace l2 := hg.cell l2 (by simp); clear HE2 hg))
    go_ret
    exact ⟨by simp, hW⟩
end Go.Proofs.YtiaonbofkgkdhaaGreatDoor

set_option linter.unusedVariables false
set_option linter.unusedSimpArgs false
namespace Go.Proofs.YtiaonbofkgkdhaaGreatDoor
open Go.RowKit _root_.Nm
/-- a list of arguments in memory -/
def ARd (w : World) (m : Nat) (pa : Option Addr) (na ca : Nat) (l : List Tr) : Prop :=
  (l.length = na ∧ na ≤ ca ∧ ca ≤ 9223372036854775807) ∧ ∀ i (hi : i < l.length), ∃ b o cs', pa = some ⟨b, o, none⟩ ∧ cs'.length = 7 ∧ (∀ j (hj : j < cs'.length), w.cell? ⟨b, o + i * 7 + j, none⟩ = some cs'[j]) ∧ ERd w m cs' l[i]
theorem ARd.keep {w w' : World} {m : Nat} {pa : Option Addr} {na ca : Nat} {l : List Tr} (hg : w.grownBy w' none) (h : ARd w m pa na ca l) : ARd w' m pa na ca l := by
  refine ⟨h.1, fun i hi => ?_⟩
  obtain ⟨b, o, cs', k1, k2, k3, k4⟩ := h.2 i hi
  exact ⟨b, o, cs', k1, k2, fun j hj => hg.cell (k3 j hj) (by simp), k4.keep hg⟩
/-- one argument: its cells, spelled out -/
theorem ARd.at {w : World} {m : Nat} {pa : Option Addr} {na ca : Nat} {l : List Tr} (h : ARd w m pa na ca l) {i : Nat} (hi : i < l.length) :
    ∃ b o e1 e2 e3 p1 n1 c1 p2 n2 c2 p3 n3 c3 e7, pa = some ⟨b, o, none⟩ ∧ ERd w m [.int .i64 e1, .string e2, .bool e3, .slice p1 n1 c1, .slice p2 n2 c2, .slice p3 n3 c3, .int .i64 e7] l[i] ∧
      w.cell? ⟨b, o + i * 7, none⟩ = some (.int .i64 e1) ∧ w.cell? ⟨b, o + i * 7 + 1, none⟩ = some (.string e2) ∧ w.cell? ⟨b, o + i * 7 + 2, none⟩ = some (.bool e3) ∧ w.cell? ⟨b, o + i * 7 + 3, none⟩ = some (.slice p1 n1 c1) ∧ w.cell? ⟨b, o + i * 7 + 4, none⟩ = some (.slice p2 n2 c2) ∧ w.cell? ⟨b, o + i * 7 + 5, none⟩ = some (.slice p3 n3 c3) ∧ w.cell? ⟨b, o + i * 7 + 6, none⟩ = some (.int .i64 e7) := by
  obtain ⟨b, o, cs', rfl, h7, hc, hE⟩ := h.2 i hi
  obtain ⟨e1, e2, e3, p1, n1, c1, p2, n2, c2, p3, n3, c3, e7, rfl⟩ := hE.shape
  exact ⟨b, o, e1, e2, e3, p1, n1, c1, p2, n2, c2, p3, n3, c3, e7, rfl, hE, hc 0 (by simp), hc 1 (by simp), hc 2 (by simp), hc 3 (by simp), hc 4 (by simp), hc 5 (by simp), hc 6 (by simp)⟩
theorem ARd.of {w : World} {m : Nat} {h : Hd} {l : List Tr} {pa : Option Addr} {na ca : Nat} {k : Int} {nm : ByteArray} {g : Bool} {pn : Option Addr} {nn cn : Nat} {pd : Option Addr} {nd cd : Nat} {pos : Int}
    (hE : ERd w (m + 1) [.int .i64 k, .string nm, .bool g, .slice pn nn cn, .slice pd nd cd, .slice pa na ca, .int .i64 pos] (.node h l)) :
    (k = h.k ∧ nm = h.nm ∧ g = h.g ∧ pos = h.pos) ∧ IRd w .u16 pn nn cn h.num ∧ IRd w .u16 pd nd cd h.den ∧ ARd w m pa na ca l ∧ nm.size ≤ maxLen := by
  obtain ⟨pn', nn', cn', pd', nd', cd', pa', na', ca', h1, h2, h3, h4, h5⟩ := hE
  simp only [List.cons.injEq, Value.int.injEq, true_and, Value.string.injEq, Value.bool.injEq, Value.slice.injEq, and_true] at h1
  obtain ⟨rfl, rfl, rfl, ⟨rfl, rfl, rfl⟩, ⟨rfl, rfl, rfl⟩, ⟨rfl, rfl, rfl⟩, rfl⟩ := h1
  exact ⟨⟨rfl, rfl, rfl, rfl⟩, h2, h3, ⟨⟨h4.1, h4.2.1, h4.2.2.1⟩, h5⟩, h4.2.2.2⟩
theorem ex_bool (P : Prop) : ∃ b : Bool, b = true ↔ P := by
  by_cases h : P
  · exact ⟨true, by simp [h]⟩
  · exact ⟨false, by simp [h]⟩
end Go.Proofs.YtiaonbofkgkdhaaGreatDoor

set_option linter.unusedVariables false
set_option linter.unusedSimpArgs false
namespace Go.Proofs.YtiaonbofkgkdhaaGreatDoor
open Go.RowKit _root_.Nm
/-- the number of parts, as the machine counts -/
def cntF : Nat → Tr → Int
  | 0, _ => 0
  | m + 1, .node _ l => (l.map (cntF m)).foldl (fun a b => wrap64 (a + b)) 1
def sumC (m : Nat) (l : List Tr) : Int := (l.map (cntF m)).foldl (fun a b => wrap64 (a + b)) 1
theorem sumC_succ (m : Nat) (l : List Tr) {k : Nat} (hk : k < l.length) : sumC m (l.take (k + 1)) = wrap64 (sumC m (l.take k) + cntF m l[k]) := by
  unfold sumC
  rw [List.take_add_one, List.map_append, List.foldl_append, List.getElem?_eq_getElem hk]
  rfl
theorem cntF_succ (m : Nat) (h : Hd) (l : List Tr) : cntF (m + 1) (.node h l) = sumC m l := rfl
set_option maxHeartbeats 8000000 in
set_option maxRecDepth 100000 in
theorem count_e : ∀ (m : Nat) (cs : List Value) (t : Tr) (w : World), ERd w m cs t → Calls Tryz.prog 13 #[.agg cs.toArray] w fun e w' => e = .returned (.int .i64 (cntF m t)) ∧ w.grownBy w' none
  | 0, _, _, _, h => h.elim
  | m + 1, cs, .node h l, w, hE => by
    have IH := hid (count_e m)
    obtain ⟨pn, nn, cn, pd, nd, cd, pa, na, ca, rfl, hn, hd, ⟨hla, hac, hca, hnm⟩, hargs⟩ := hE
    have HX := hid hargs
    clear hargs hn hd
    have HA := hid (World.grownBy_alloc w (.cells #[.int .i64 h.k, .string h.nm, .bool h.g, .slice pn nn cn, .slice pd nd cd, .slice pa na ca, .int .i64 h.pos] 43 (0, 0)) none)
    go_enter Tryz.func13, Tryz.ntmps13
    go_wp2_with fail
    go_loopw [3, 9] (fun z x wr => ∃ k : Nat, k ≤ na ∧ z = .int .i64 (sumC m (l.take k)) ∧ x = .int .i64 k ∧ w.grownBy wr none) (fun z x _ => na - (intOf x).toNat)
    case atStart => exact ⟨0, Nat.zero_le _, rfl, rfl, HA.out⟩
    case round =>
      obtain ⟨k, hk, rfl, rfl, hg⟩ := hrel
      by_cases hlt : k < na
      · obtain ⟨b, o, cs', rfl, h7, hc, hE⟩ := HX.out k (by omega)
        obtain ⟨e1, e2, e3, pn', nn', cn', pd', nd', cd', pa', na', ca', e7, rfl⟩ := hE.shape
        have c0 := hg.cell (hc 0 (by simp)) (by simp)
        have c1 := hg.cell (hc 1 (by simp)) (by simp)
        have c2 := hg.cell (hc 2 (by simp)) (by simp)
        have c3 := hg.cell (hc 3 (by simp)) (by simp)
        have c4 := hg.cell (hc 4 (by simp)) (by simp)
        have c5 := hg.cell (hc 5 (by simp)) (by simp)
        have c6 := hg.cell (hc 6 (by simp)) (by simp)
        simp only [List.getElem_cons_zero, List.getElem_cons_succ, Nat.add_zero] at c0 c1 c2 c3 c4 c5 c6
        have HE := hid (ERd.keep (grown_trans hg (World.grownBy_alloc wr (.cells #[.int .i64 e1, .string e2, .bool e3, .slice pn' nn' cn', .slice pd' nd' cd', .slice pa' na' ca', .int .i64 e7] 43 (0, 0)) none)) hE)
        clear hc hE h7
        obtain ⟨⟨k0, k1, k2, k3, k4, k5, k6⟩, f0, f1, f2, f3, f4, f5, f6⟩ := box7 (blk0 wr (zeroE 43))
        unfold zeroE at k0 k1 k2 k3 k4 k5 k6 f0 f1 f2 f3 f4 f5 f6
        go_wp2_with (go_at_call 13; refine (IH.out _ _ _ HE.out).mono ?_; rintro e w2 ⟨rfl, hg2⟩)
        exact ⟨⟨k + 1, by omega, by rw [sumC_succ m l (by omega)], by go_num, grown_trans hg (grown_trans (World.grownBy_alloc _ _ none) hg2)⟩, by simp [intOf]; omega⟩
      · obtain rfl : k = na := by omega
        go_wp2_with fail
        go_ret
        exact ⟨by rw [cntF_succ, show sumC m l = sumC m (l.take k) by rw [List.take_of_length_le (by omega)]]; rfl, hg⟩
end Go.Proofs.YtiaonbofkgkdhaaGreatDoor
