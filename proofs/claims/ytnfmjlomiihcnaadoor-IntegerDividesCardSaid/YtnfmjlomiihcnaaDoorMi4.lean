/-
  Contracts of functions of the program, part 4: Val, Int, IntSum, IntA, IntC, IntOf, IntD.
-/
import Derived.Test.YtnfmjlomiihcnaaDoorMi3
import Derived.Deep.RegionWith
import Derived.Deep.RegionHeld3
/-
  The contracts of package natural once more, over values: which number a slice stands for.
-/
set_option linter.unusedVariables false
set_option linter.unusedSimpArgs false
namespace Go.Proofs.YtnfmjlomiihcnaaDoor
open Go.RowKit Nm

/-- .slice p n c stands for the number N, perhaps with leading zeros -/
def IsN (w : World) (p : Option Addr) (n c N : Nat) : Prop := ∃ L, IRd w .u16 p n c L ∧ Dg 65536 L ∧ V 65536 L = N
/-- .slice p n c is the valid Nat of N -/
def IsC (w : World) (p : Option Addr) (n c N : Nat) : Prop := IRd w .u16 p n c (dg 65536 N)

section
variable {w w' : World} {p q : Option Addr} {n c m d N M : Nat}
theorem IsC.isN (h : IsC w p n c N) : IsN w p n c N := ⟨_, h, (Can_dg (by omega) N).1, V_dg (by omega) N⟩
theorem IsC.len (h : IsC w p n c N) : (dg 65536 N).length = n := IRd.len h
theorem IsN.keep (h : IsN w p n c N) (hg : w.grownBy w' none) : IsN w' p n c N := let ⟨L, h1, h2⟩ := h; ⟨L, h1.keep hg, h2⟩
theorem IsC.keep (h : IsC w p n c N) (hg : w.grownBy w' none) : IsC w' p n c N := IRd.keep h hg
theorem IsN.of {xs : List Nat} (h : IRd w .u16 p n c xs) (hx : Dg 65536 xs) : IsN w p n c (V 65536 xs) := ⟨xs, h, hx, rfl⟩
theorem IsC.congr (h : IsC w p n c N) (e : N = M) : IsC w p n c M := e ▸ h
theorem IsN.lt (h : IsN w p n c N) : N < 65536 ^ n := by
  obtain ⟨L, h1, h2, rfl⟩ := h
  have := h2.lt
  rwa [h1.len] at this
theorem IsC.nil (w : World) : IsC w none 0 0 0 := IRd.nil w _

theorem natAdd_n (hA : IsN w p n c N) (hB : IsN w q m d M) (hn : n ≤ 900000) (hm : m ≤ 900000) :
    Calls Tryd.prog 22 #[.slice p n c, .slice q m d] w fun e w' => ∃ p' n' c', e = .returned (.slice p' n' c') ∧ IsC w' p' n' c' (N + M) ∧ n' ≤ n + m + 1 ∧ w.grownBy w' none := by
  obtain ⟨L, h1, h2, rfl⟩ := hA
  obtain ⟨K, k1, k2, rfl⟩ := hB
  refine (natAdd_any p q n m c d L K w h1 k1 h2 k2 hn hm).mono fun e w' ⟨p', c', h, hr, hg⟩ => ⟨p', _, c', h, hr, ?_, hg⟩
  refine dg_length_le (by omega) ?_
  have e1 := h2.lt
  have e2 := k2.lt
  rw [h1.len] at e1
  rw [k1.len] at e2
  have e3 : 65536 ^ n ≤ 65536 ^ (n + m) := Nat.pow_le_pow_right (by omega) (by omega)
  have e4 : 65536 ^ m ≤ 65536 ^ (n + m) := Nat.pow_le_pow_right (by omega) (by omega)
  rw [Nat.pow_succ]; omega

theorem natSub_n (hA : IsN w p n c N) (hB : IsN w q m d M) (hn : n ≤ 900000) (hm : m ≤ 900000) (hle : M ≤ N) :
    Calls Tryd.prog 69 #[.slice p n c, .slice q m d] w fun e w' => ∃ p' n' c', e = .returned (.tuple #[.slice p' n' c', .int .i64 0]) ∧ IsC w' p' n' c' (N - M) ∧ n' ≤ n ∧ w.grownBy w' none := by
  obtain ⟨L, h1, h2, rfl⟩ := hA
  obtain ⟨K, k1, k2, rfl⟩ := hB
  refine (natSub_ok p q n m c d L K w h1 k1 h2 k2 hn hm hle).mono fun e w' ⟨p', c', h, hr, hg⟩ => ⟨p', _, c', h, hr, ?_, hg⟩
  refine dg_length_le (by omega) ?_
  have e1 := h2.lt
  rw [h1.len] at e1
  omega

theorem natSub_e (hA : IsN w p n c N) (hB : IsN w q m d M) (hlt : N < M) :
    Calls Tryd.prog 69 #[.slice p n c, .slice q m d] w fun e w' => e = .returned (.tuple #[.slice none 0 0, .int .i64 2]) ∧ w.grownBy w' none := by
  obtain ⟨L, h1, h2, rfl⟩ := hA
  obtain ⟨K, k1, k2, rfl⟩ := hB
  exact natSub_err p q n m c d L K w h1 k1 h2 k2 hlt

theorem natMul_n (hA : IsN w p n c N) (hB : IsN w q m d M) (hn : n ≤ 400000) (hm : m ≤ 400000) :
    Calls Tryd.prog 24 #[.slice p n c, .slice q m d] w fun e w' => ∃ p' n' c', e = .returned (.slice p' n' c') ∧ IsC w' p' n' c' (N * M) ∧ n' ≤ n + m ∧ w.grownBy w' none := by
  obtain ⟨L, h1, h2, rfl⟩ := hA
  obtain ⟨K, k1, k2, rfl⟩ := hB
  refine (natMul_any p q n m c d L K w h1 k1 h2 k2 hn hm).mono fun e w' ⟨p', c', h, hr, hg⟩ => ⟨p', _, c', h, hr, ?_, hg⟩
  refine dg_length_le (by omega) ?_
  have e1 := h2.lt
  have e2 := k2.lt
  rw [h1.len] at e1
  rw [k1.len] at e2
  rw [Nat.pow_add]
  exact Nat.mul_lt_mul'' e1 e2

theorem natNorm_n (hA : IsN w p n c N) (hn : n ≤ 900000) :
    Calls Tryd.prog 23 #[.slice p n c] w fun e w' => ∃ p' n' c', e = .returned (.slice p' n' c') ∧ IsC w' p' n' c' N ∧ n' ≤ n ∧ w.grownBy w' none := by
  obtain ⟨L, h1, h2, rfl⟩ := hA
  refine (natNorm_any p n c L w h1 (by omega)).mono fun e w' ⟨p', c', h, hr, hg⟩ => ⟨p', _, c', h, ?_, ?_, hg⟩
  · unfold IsC; rw [← trimR_dg (by omega) h2]; exact hr
  · rw [← h1.len]; exact trimR_length_le L

theorem natCmp_n (hA : IsN w p n c N) (hB : IsN w q m d M) :
    Calls Tryd.prog 25 #[.slice p n c, .slice q m d] w fun e w' => e = .returned (.int .i64 (cmpI (N : Nat) (M : Nat))) ∧ w.grownBy w' none := by
  obtain ⟨L, h1, h2, rfl⟩ := hA
  obtain ⟨K, k1, k2, rfl⟩ := hB
  exact natCmp_any p q n m c d L K w h1 k1 h2 k2

theorem natBits_n (hA : IsN w p n c N) (hn : n ≤ 900000) :
    Calls Tryd.prog 65 #[.slice p n c] w fun e w' => ∃ b : Nat, b ≤ 16 * n ∧ e = .returned (.int .i64 b) ∧ Hid (IsBits N b) ∧ w = w' := by
  obtain ⟨L, h1, h2, rfl⟩ := hA
  exact natBits_any p n c L w h1 h2 (by omega)

/-- Same of two valid Nats of one number -/
theorem same_c (hA : IsC w p n c N) (hB : IsC w q m d M) (e : N = M) :
    Calls Tryd.prog 14 #[.slice p n c, .slice q m d] w fun e w' => e = .returned (.bool true) ∧ w.grownBy w' none := by
  subst e
  obtain rfl : n = m := by rw [← hA.len, ← hB.len]
  exact same_any p q n c d _ w hA hB
end
end Go.Proofs.YtnfmjlomiihcnaaDoor

/-
  Integers: what a struct stands for; contracts of integer.signed and Sign.
-/
set_option linter.unusedVariables false
set_option linter.unusedSimpArgs false
namespace Go.Proofs.YtnfmjlomiihcnaaDoor
open Go.RowKit Nm

/-- the integer with a sign and an absolute value -/
def sg (g : Bool) (N : Nat) : Int := if g then -(N : Int) else N
theorem sg_false (N : Nat) : sg false N = N := rfl
theorem sg_true (N : Nat) : sg true N = -(N : Int) := rfl
theorem sg_zero (g : Bool) : sg g 0 = 0 := by cases g <;> rfl
theorem sg_abs (g : Bool) (N : Nat) : (sg g N).natAbs = N := by cases g <;> simp [sg]
theorem sg_neg (g : Bool) (N : Nat) : decide (sg g N < 0) = (g && decide (0 < N)) := by
  cases g <;> simp [sg]

/-- the struct of g and .slice p n c stands for the integer Z, perhaps not in its valid form -/
def IsZ (w : World) (g : Bool) (p : Option Addr) (n c : Nat) (Z : Int) : Prop := IsN w p n c Z.natAbs ∧ Z = sg g Z.natAbs
/-- it is the valid Int of Z -/
def IsI (w : World) (g : Bool) (p : Option Addr) (n c : Nat) (Z : Int) : Prop := IsC w p n c Z.natAbs ∧ g = decide (Z < 0)

section
variable {w w' : World} {g h : Bool} {p q : Option Addr} {n c m d N M : Nat} {Z Y : Int}
theorem IsZ.of {xs : List Nat} (g : Bool) (h : IRd w .u16 p n c xs) (hx : Dg 65536 xs) : IsZ w g p n c (sg g (V 65536 xs)) :=
  ⟨by rw [sg_abs]; exact IsN.of h hx, by rw [sg_abs]⟩
theorem IsI.z (h : IsI w g p n c Z) : IsZ w g p n c Z := ⟨h.1.isN, by
  rw [h.2]; unfold sg
  by_cases hz : Z < 0
  · rw [decide_eq_true hz, if_pos rfl]; omega
  · rw [decide_eq_false hz]; simp; omega⟩
theorem IsZ.keep (h : IsZ w g p n c Z) (hg : w.grownBy w' none) : IsZ w' g p n c Z := ⟨h.1.keep hg, h.2⟩
theorem IsI.keep (h : IsI w g p n c Z) (hg : w.grownBy w' none) : IsI w' g p n c Z := ⟨h.1.keep hg, h.2⟩

/-- what was there reads as it did -/
theorem gcell {W w1 : World} (hb : W.grownBy w1 none) : ∀ b o, b < W.heap.size → w1.cell? ⟨b, o, none⟩ = W.cell? ⟨b, o, none⟩ := fun b o h => World.cell?_of_block (hb.block b h (by simp))
theorem gfree {W w1 : World} (hb : W.grownBy w1 none) : ∀ b o, b < W.heap.size → w1.frozen? ⟨b, o, none⟩ = W.frozen? ⟨b, o, none⟩ := fun b o h => World.frozen?_of_block (hb.block b h (by simp))

/-- what signed returns -/
def SPost (w : World) (p : Option Addr) (n c : Nat) (Z : Int) (e : Ending) (w' : World) : Prop :=
  ∃ g, e = .returned (.agg #[.bool g, .slice p n c]) ∧ IsI w' g p n c Z ∧ w.grownBy w' none

theorem signed_any (hA : IsC w p n c N) (g : Bool) :
    Calls Tryd.prog 75 #[.bool g, .slice p n c] w (SPost w p n c (sg g N)) := by
  have hn : n = 0 ↔ N = 0 := by
    rw [← hA.len]
    constructor
    · intro h
      have h2 : dg 65536 N = [] := List.eq_nil_of_length_eq_zero h
      have := V_dg (B := 65536) (by omega) N
      rw [h2] at this; exact this.symm
    · rintro rfl; rfl
  have hd : decide (0 < n) = decide (0 < N) := by
    by_cases h : 0 < n
    · rw [decide_eq_true h, decide_eq_true (by omega)]
    · rw [decide_eq_false h, decide_eq_false (by omega)]
  have fin : ∀ w', w.grownBy w' none → IsI w' (g && decide (0 < n)) p n c (sg g N) := fun w' hg => ⟨by rw [sg_abs]; exact hA.keep hg, by rw [hd]; exact (sg_neg g N).symm⟩
  have FIN := hid fin
  clear fin hd hn
  cases g
  · go_enter Tryd.func75, Tryd.ntmps75
    go_wp2
    have hg := World.grownBy_alloc w (.cells #[.bool false, .slice p n c] 43) none
    exact bodyPost_ret (v := .agg #[.bool false, .slice p n c]) (by simp [results, Tryd.results75, go_sem]) rfl ⟨false, rfl, by simpa using FIN.out _ hg, hg⟩
  · go_enter Tryd.func75, Tryd.ntmps75
    go_wp2
    have hg := World.grownBy_alloc w (.cells #[.bool (decide (0 < n)), .slice p n c] 43) none
    exact bodyPost_ret (v := .agg #[.bool (decide (0 < n)), .slice p n c]) (by simp [results, Tryd.results75, go_sem]) rfl ⟨decide (0 < n), rfl, by simpa using FIN.out _ hg, hg⟩
end

theorem intSign_any {w : World} {g : Bool} {p : Option Addr} {n c : Nat} {Z : Int} (h : IsZ w g p n c Z) (hn : n ≤ 900000) :
    Calls Tryd.prog 39 #[.agg #[.bool g, .slice p n c]] w fun e w' => e = .returned (.int .i64 (cmpI Z 0)) ∧ w.grownBy w' none := by
  obtain ⟨hN, hZ⟩ := h
  generalize Z.natAbs = N at *
  subst hZ
  have hgb := World.grownBy_alloc w (.cells #[.bool g, .slice p n c] 43) none
  have B1 := hid (natBits_n (hN.keep hgb) hn)
  have hpos : ∀ b, IsBits N b → (b = 0 ↔ N = 0) := by
    intro b hb
    rcases hb with ⟨h1, h2⟩ | ⟨h1, h2, h3⟩
    · omega
    · have := Nat.pow_pos (n := b - 1) (show 0 < 2 by omega); omega
  by_cases h0 : N = 0
  · subst h0
    rw [sg_zero, cmpI_eq]
    have HP := hid hpos
    clear hpos
    go_enter Tryd.func39, Tryd.ntmps39
    go_wp2_with (go_at_call 65; refine B1.out.mono ?_; rintro e w' ⟨b, hb, rfl, HI, rfl⟩; obtain rfl := ((HP.out _ HI.out).2 rfl))
    go_ret
    exact ⟨rfl, hgb⟩
  · have HP := hid hpos
    clear hpos
    cases g
    · have : cmpI (sg false N) 0 = 1 := by rw [sg_false]; exact cmpI_gt (x := N) (y := 0) (by omega)
      rw [this]
      have h0' := hid h0
      clear h0 this
      go_enter Tryd.func39, Tryd.ntmps39
      go_wp2_with (go_at_call 65; refine B1.out.mono ?_; rintro e w' ⟨b, hb, rfl, HI, rfl⟩; have t0 : (((b : Int) == 0) = false) := beq_eq_false_iff_ne.2 (by have := (HP.out _ HI.out).1; have := h0'.out; omega))
      go_ret
      exact ⟨rfl, hgb⟩
    · have : cmpI (sg true N) 0 = -1 := by rw [sg_true]; unfold cmpI; rw [if_pos (by omega)]
      rw [this]
      have h0' := hid h0
      clear h0 this
      go_enter Tryd.func39, Tryd.ntmps39
      go_wp2_with (go_at_call 65; refine B1.out.mono ?_; rintro e w' ⟨b, hb, rfl, HI, rfl⟩; have t0 : (((b : Int) == 0) = false) := beq_eq_false_iff_ne.2 (by have := (HP.out _ HI.out).1; have := h0'.out; omega))
      go_ret
      exact ⟨rfl, hgb⟩
end Go.Proofs.YtnfmjlomiihcnaaDoor

/-
  Contract of integer.sum.
-/
set_option linter.unusedVariables false
set_option linter.unusedSimpArgs false
namespace Go.Proofs.YtnfmjlomiihcnaaDoor
open Go.RowKit Nm

/-- a valid Int of Z is returned -/
def IPost (w : World) (Z : Int) (B : Nat) (e : Ending) (w' : World) : Prop :=
  ∃ g p n c, e = .returned (.agg #[.bool g, .slice p n c]) ∧ IsI w' g p n c Z ∧ n ≤ B ∧ w.grownBy w' none

/-- slices of numbers are not met where a struct lies -/
theorem IRd.other {w w' : World} {k : IntKind} {a : Option Addr} {n c : Nat} {xs : List Nat} {g : Nat} {cs : Array Value} {T : TypeId} {fz : Nat × Nat} (h : IRd w k a n c xs) (hb : w.heap[g]? = some (.cells cs T fz))
    (hcs : ∀ (j : Nat) (x : Int), cs[j]? ≠ some (.int k x)) (hg : w.grownBy w' (some g)) : IRd w' k a n c xs := by
  refine ⟨h.len, h.cap, h.max, fun j hj => ?_⟩
  obtain ⟨b, o, rfl, hc⟩ := h.cel j hj
  refine ⟨b, o, rfl, ?_⟩
  by_cases hbg : b = g
  · subst hbg
    rw [cell_of_row w b (o + j) cs T fz hb] at hc
    exact absurd hc (hcs _ _)
  · exact hg.cell hc (by simpa using hbg)

theorem two_cells (x : Bool) (y : Option Addr) (a b : Nat) (j : Nat) (k : IntKind) (z : Int) : (#[Value.bool x, Value.slice y a b])[j]? ≠ some (.int k z) := by
  match j with
  | 0 => simp
  | 1 => simp
  | j + 2 => simp

theorem IPost.close {w W w5 : World} {G : Nat} {x : Bool} {y : Option Addr} {a b : Nat} {T : TypeId} {g5 : Bool} {p4 : Option Addr} {n4 c4 : Nat} {Z : Int} {B : Nat}
    (hg3 : w.grownBy W none) (hW : W.heap[G]? = some (.cells #[.bool x, .slice y a b] T (0, 0))) (hG : w.heap.size ≤ G) (hg35 : W.grownBy w5 none) (h5 : IsI w5 g5 p4 n4 c4 Z) (hn : n4 ≤ B) :
    IPost w Z B (.returned (.agg #[.bool g5, .slice p4 n4 c4])) ((w5.setCell ⟨G, 0, none⟩ (.bool g5)).setCell ⟨G, 1, none⟩ (.slice p4 n4 c4)) := by
  have hb : w5.heap[G]? = some (.cells #[.bool x, .slice y a b] T (0, 0)) := (hg35.block G (lt_of_block hW) (by simp)).trans hW
  have h56 : w5.grownBy ((w5.setCell ⟨G, 0, none⟩ (.bool g5)).setCell ⟨G, 1, none⟩ (.slice p4 n4 c4)) (some G) := grown_trans (grown_setCell _ _ _) (grown_setCell _ ⟨G, 1, none⟩ _)
  exact ⟨g5, p4, n4, c4, rfl, ⟨IRd.other h5.1 hb (fun j z => two_cells x y a b j _ z) h56, h5.2⟩, hn, grown_new (grown_trans hg3 hg35) h56 (fun g e => by cases e; exact hG)⟩

/-- the last of three blocks -/
theorem third (w : World) (A B C : Obj) : (((w.alloc A).alloc B).alloc C).heap[w.heap.size + 2]? = some C := by
  have := heap_alloc_new ((w.alloc A).alloc B) C
  simpa using this
theorem second (w : World) (A B : Obj) : ((w.alloc A).alloc B).heap[w.heap.size + 1]? = some B := by
  have := heap_alloc_new (w.alloc A) B
  simpa using this

theorem less_any {w : World} {p q : Option Addr} {n c m d N M : Nat} (hA : IsN w p n c N) (hB : IsN w q m d M) :
    Calls Tryd.prog 105 #[.slice p n c, .slice q m d] w fun e w' => e = .returned (.bool (decide (N < M))) ∧ w.grownBy w' none := by
  have H := hid (natCmp_n hA hB)
  rcases Nat.lt_trichotomy N M with h | h | h
  · have HE := hid (cmpI_lt h)
    rw [decide_eq_true h]
    clear h
    go_enter Tryd.func105, Tryd.ntmps105
    go_wp2_with (go_at_call 25; refine H.out.mono ?_; rw [HE.out]; rintro e w1 ⟨rfl, hg⟩)
    go_ret
    exact ⟨rfl, hg⟩
  · subst h
    have HE := hid (cmpI_eq (N : Int))
    rw [decide_eq_false (Nat.lt_irrefl _)]
    go_enter Tryd.func105, Tryd.ntmps105
    go_wp2_with (go_at_call 25; refine H.out.mono ?_; rw [HE.out]; rintro e w1 ⟨rfl, hg⟩)
    go_ret
    exact ⟨rfl, hg⟩
  · have HE := hid (cmpI_gt h)
    rw [decide_eq_false (by omega)]
    clear h
    go_enter Tryd.func105, Tryd.ntmps105
    go_wp2_with (go_at_call 25; refine H.out.mono ?_; rw [HE.out]; rintro e w1 ⟨rfl, hg⟩)
    go_ret
    exact ⟨rfl, hg⟩

set_option maxHeartbeats 2000000 in
theorem intSum_same {w : World} {p q : Option Addr} {n c m d N M : Nat} (s gb : Bool) (hA : IsN w p n c N) (hB : IsN w q m d M) (hn : n ≤ 400000) (hm : m ≤ 400000) :
    Calls Tryd.prog 80 #[.agg #[.bool s, .slice p n c], .agg #[.bool gb, .slice q m d], .bool s] w (IPost w (sg s (N + M)) (n + m + 1)) := by
  have hg3 := grown_trans (grown_trans (World.grownBy_alloc w (.cells #[.bool s, .slice p n c] 43) none) (World.grownBy_alloc _ (.cells #[.bool gb, .slice q m d] 43) none)) (World.grownBy_alloc _ (.cells #[.bool false, .slice none 0 0] 43) none)
  go_enter Tryd.func80, Tryd.ntmps80
  go_wp2_with fail
  refine (natAdd_n (hA.keep hg3) (hB.keep hg3) (by omega) (by omega)).mono ?_
  rintro e w4 ⟨p4, n4, c4, rfl, h4, hn4, hg4⟩
  go_wp2_with fail
  refine (signed_any h4 s).mono ?_
  rintro e w5 ⟨g5, rfl, h5, hg5⟩
  have hg35 := grown_trans hg4 hg5
  have hc5 := gcell hg35
  have hf5 := gfree hg35
  have hz5 := hg35.size
  simp at hz5
  go_wp2_with fail
  exact bodyPost_ret (v := .agg #[.bool g5, .slice p4 n4 c4]) (by simp [results, Tryd.results80, go_sem, hc5]) rfl (IPost.close hg3 (third _ _ _ _) (by omega) hg35 h5 (by omega))

theorem sub_cast {N M : Nat} (h : N < M) (s : Bool) : sg (!s) N + sg s M = sg s (M - N) := by cases s <;> simp [sg] <;> omega
theorem sub_cast2 {N M : Nat} (h : M ≤ N) (s : Bool) : sg (!s) N + sg s M = sg (!s) (N - M) := by cases s <;> simp [sg] <;> omega

set_option maxHeartbeats 2000000 in
theorem intSum_diff {w : World} {p q : Option Addr} {n c m d N M : Nat} (s gb : Bool) (hA : IsN w p n c N) (hB : IsN w q m d M) (hn : n ≤ 400000) (hm : m ≤ 400000) :
    Calls Tryd.prog 80 #[.agg #[.bool (!s), .slice p n c], .agg #[.bool gb, .slice q m d], .bool s] w (IPost w (sg (!s) N + sg s M) (n + m + 1)) := by
  have hg3 := grown_trans (grown_trans (World.grownBy_alloc w (.cells #[.bool (!s), .slice p n c] 43) none) (World.grownBy_alloc _ (.cells #[.bool gb, .slice q m d] 43) none)) (World.grownBy_alloc _ (.cells #[.bool false, .slice none 0 0] 43) none)
  have hne : (((!s) == s) = false) := by cases s <;> rfl
  rcases Nat.lt_or_ge N M with hlt | hle
  · rw [sub_cast hlt s]
    have HD := hid (less_any (hA.keep hg3) (hB.keep hg3))
    rw [decide_eq_true hlt] at HD
    go_enter Tryd.func80, Tryd.ntmps80
    go_wp2_with fail
    refine HD.out.mono ?_
    rintro e w3 ⟨rfl, hgx⟩
    have hx5 := gcell hgx
    have hy5 := gfree hgx
    have hw5 := hgx.size
    simp at hw5
    go_wp2_with fail
    refine (natSub_n ((hB.keep hg3).keep hgx) ((hA.keep hg3).keep hgx) (by omega) (by omega) (by omega)).mono ?_
    rintro e w4 ⟨p4, n4, c4, rfl, h4, hn4, hg4⟩
    have hg34 := grown_trans hgx hg4
    clear hx5 hy5 hw5
    have hx5 := gcell hg34
    have hy5 := gfree hg34
    have hw5 := hg34.size
    simp at hw5
    go_wp2_with fail
    refine (signed_any h4 s).mono ?_
    rintro e w5 ⟨g5, rfl, h5, hg5⟩
    have hg35 := grown_trans hg34 hg5
    clear hx5 hy5 hw5
    have hc5 := gcell hg35
    have hf5 := gfree hg35
    have hz5 := hg35.size
    simp at hz5
    go_wp2_with fail
    exact bodyPost_ret (v := .agg #[.bool g5, .slice p4 n4 c4]) (by simp [results, Tryd.results80, go_sem, hc5]) rfl (IPost.close hg3 (third _ _ _ _) (by omega) hg35 h5 (by omega))
  · rw [sub_cast2 hle s]
    have HD := hid (less_any (hA.keep hg3) (hB.keep hg3))
    rw [decide_eq_false (by omega)] at HD
    go_enter Tryd.func80, Tryd.ntmps80
    go_wp2_with fail
    refine HD.out.mono ?_
    rintro e w3 ⟨rfl, hgx⟩
    have hx5 := gcell hgx
    have hy5 := gfree hgx
    have hw5 := hgx.size
    simp at hw5
    go_wp2_with fail
    refine (natSub_n ((hA.keep hg3).keep hgx) ((hB.keep hg3).keep hgx) (by omega) (by omega) hle).mono ?_
    rintro e w4 ⟨p4, n4, c4, rfl, h4, hn4, hg4⟩
    have hg34 := grown_trans hgx hg4
    clear hx5 hy5 hw5
    have hx5 := gcell hg34
    have hy5 := gfree hg34
    have hw5 := hg34.size
    simp at hw5
    go_wp2_with fail
    refine (signed_any h4 (!s)).mono ?_
    rintro e w5 ⟨g5, rfl, h5, hg5⟩
    have hg35 := grown_trans hg34 hg5
    clear hx5 hy5 hw5
    have hc5 := gcell hg35
    have hf5 := gfree hg35
    have hz5 := hg35.size
    simp at hz5
    go_wp2_with fail
    exact bodyPost_ret (v := .agg #[.bool g5, .slice p4 n4 c4]) (by simp [results, Tryd.results80, go_sem, hc5]) rfl (IPost.close hg3 (third _ _ _ _) (by omega) hg35 h5 (by omega))

theorem intSum_any {w : World} {p q : Option Addr} {n c m d : Nat} {ga gb : Bool} {X Y : Int} (s : Bool) (hA : IsZ w ga p n c X) (hB : IsZ w gb q m d Y) (hn : n ≤ 400000) (hm : m ≤ 400000) :
    Calls Tryd.prog 80 #[.agg #[.bool ga, .slice p n c], .agg #[.bool gb, .slice q m d], .bool s] w (IPost w (X + sg s Y.natAbs) (n + m + 1)) := by
  obtain ⟨h1, h2⟩ := hA
  rw [h2]
  generalize X.natAbs = N at *
  by_cases e : ga = s
  · subst e
    have e2 : sg ga N + sg ga Y.natAbs = sg ga (N + Y.natAbs) := by cases ga <;> simp [sg]; omega
    rw [e2]
    exact intSum_same ga gb h1 hB.1 hn hm
  · obtain rfl : ga = !s := by cases ga <;> cases s <;> simp_all
    exact intSum_diff s gb h1 hB.1 hn hm
end Go.Proofs.YtnfmjlomiihcnaaDoor

/-
  Contracts of integer.Add, Sub and magnitude.
-/
set_option linter.unusedVariables false
set_option linter.unusedSimpArgs false
namespace Go.Proofs.YtnfmjlomiihcnaaDoor
open Go.RowKit Nm

theorem sg_z {w : World} {g : Bool} {p : Option Addr} {n c : Nat} {Z : Int} (h : IsZ w g p n c Z) : sg g Z.natAbs = Z := h.2.symm
theorem sg_not (g : Bool) (N : Nat) : sg (!g) N = -(sg g N) := by cases g <;> simp [sg]

theorem intAdd_any {w : World} {p q : Option Addr} {n c m d : Nat} {ga gb : Bool} {X Y : Int} (hA : IsZ w ga p n c X) (hB : IsZ w gb q m d Y) (hn : n ≤ 400000) (hm : m ≤ 400000) :
    Calls Tryd.prog 40 #[.agg #[.bool ga, .slice p n c], .agg #[.bool gb, .slice q m d]] w (IPost w (X + Y) (n + m + 1)) := by
  have hg3 := grown_trans (grown_trans (World.grownBy_alloc w (.cells #[.bool ga, .slice p n c] 43) none) (World.grownBy_alloc _ (.cells #[.bool gb, .slice q m d] 43) none)) (World.grownBy_alloc _ (.cells #[.bool false, .slice none 0 0] 43) none)
  have HS := hid (intSum_any gb (hA.keep hg3) (hB.keep hg3) hn hm)
  rw [sg_z hB] at HS
  go_enter Tryd.func40, Tryd.ntmps40
  go_wp2_with fail
  refine HS.out.mono ?_
  rintro e w5 ⟨g5, p4, n4, c4, rfl, h5, hn4, hg35⟩
  have hc5 := gcell hg35
  have hf5 := gfree hg35
  have hz5 := hg35.size
  simp at hz5
  go_wp2_with fail
  exact bodyPost_ret (v := .agg #[.bool g5, .slice p4 n4 c4]) (by simp [results, Tryd.results40, go_sem, hc5]) rfl (IPost.close hg3 (third _ _ _ _) (by omega) hg35 h5 hn4)


theorem bits_len {N b : Nat} (h : IsBits N b) : (b + 15) / 16 = (dg 65536 N).length := by
  have hp : ∀ m, 0 < 65536 ^ m := fun m => Nat.pow_pos (by omega)
  rcases h with ⟨rfl, rfl⟩ | ⟨h1, h2, h3⟩
  · rfl
  · have e : ∀ k, (65536 : Nat) ^ k = 2 ^ (16 * k) := fun k => by rw [show (65536 : Nat) = 2 ^ 16 from rfl, ← Nat.pow_mul]
    have hN : 0 < N := Nat.lt_of_lt_of_le (Nat.pow_pos (by omega)) h2
    have hne : dg 65536 N ≠ [] := fun h => by have := V_dg (B := 65536) (by omega) N; rw [h] at this; simp at this; omega
    have l1 := (Can_dg (B := 65536) (by omega) N).low (by omega) hne
    have l2 := (Can_dg (B := 65536) (by omega) N).1.lt
    rw [V_dg (by omega), e] at l1 l2
    have hl : (dg 65536 N).length ≠ 0 := by simpa using hne
    generalize (dg 65536 N).length = L at *
    have k1 : 2 ^ (16 * (L - 1)) < 2 ^ b := by omega
    have k2 : 2 ^ (b - 1) < 2 ^ (16 * L) := by omega
    have := (Nat.pow_lt_pow_iff_right (by omega : 1 < 2)).1 k1
    have := (Nat.pow_lt_pow_iff_right (by omega : 1 < 2)).1 k2
    omega

set_option maxHeartbeats 1000000 in
theorem magnitude_any {w : World} {p : Option Addr} {n c : Nat} {g : Bool} {N : Nat} (hA : IsN w p n c N) (hn : n ≤ 400000) :
    Calls Tryd.prog 79 #[.agg #[.bool g, .slice p n c]] w fun e w' => ∃ p' n' c', e = .returned (.slice p' n' c') ∧ IsC w' p' n' c' N ∧ n' ≤ n ∧ w.grownBy w' none := by
  have hg1 := World.grownBy_alloc w (.cells #[.bool g, .slice p n c] 43) none
  have HB := hid (natBits_n (hA.keep hg1) (by omega))
  obtain ⟨xs, hr, hx, hV⟩ := hA
  have HV := hid hV
  have hx1 := hr.keep hg1
  have hcap := hr.cap
  have hmax := hr.max
  clear hV
  have hlen : (dg 65536 N).length ≤ n := dg_length_le (by omega) (by rw [← HV.out, ← hr.len]; exact hx.lt)
  have HLEN := hid hlen
  clear hlen
  go_enter Tryd.func79, Tryd.ntmps79
  go_wp2_with fail
  refine HB.out.mono ?_
  rintro e w' ⟨b, hb, rfl, HI, rfl⟩
  have hq : (b + 15) / 16 ≤ n := by rw [bits_len HI.out]; exact HLEN.out
  have hqi : ((b : Int) + 16 - 1) / 16 = (((b + 15) / 16 : Nat) : Int) := by omega
  have HQI := hid hqi
  have HQL := hid (bits_len HI.out)
  clear hqi
  obtain ⟨L, hL⟩ : ∃ L, L = (b + 15) / 16 := ⟨_, rfl⟩
  rw [← hL] at HQI HQL hq
  have HL := hid hL
  clear hL
  go_wp2_with (first
    | (at_make; refine wl_make _ rfl _ _ 23 rfl 37 .u16 2 Tryd.underlying23 (by kernel_rfl) _ _ _ _ rfl rfl L HQI.out HQI.out (by omega) (by omega) ?_; intro w1 hr1' hg2; have hc2 := gcell hg2; have hr1 : IRow w1 (w.heap.size + 1) 37 .u16 (List.replicate L 0) := (by simpa using hr1'); clear hr1')
    | (with_reducible refine wl_copy _ rfl (.tmp 13) (.tmp 15) 23 23 rfl 37 Tryd.underlying23 (by kernel_rfl) .u16 _ _ _ _ _ _ rfl rfl (w.heap.size + 1) 0 37 _ xs hr1 (fun _ => rfl) (hx1.keep hg2) (by simp) ?_; intro w2 hr2 hg3))
  go_ret
  have hxl := hr.len
  have e : splice (List.replicate L 0) 0 (xs.take L) = dg 65536 N := by
    have h1 : xs.take L = dg 65536 N := by
      rw [HQL.out, ← HV.out, ← trimR_dg (by omega) hx]
      exact (trimR_eq_take xs).symm
    rw [h1]
    have h2 := HQL.out
    simp [splice, h2]
  rw [e] at hr2
  have hrd := hr2.rd0 (by rw [← HQL.out]; omega)
  rw [← HQL.out] at hrd
  exact ⟨_, L, L, rfl, hrd, by omega, grown_new (grown_trans hg1 hg2) hg3 (fun g e => by cases e; omega)⟩


end Go.Proofs.YtnfmjlomiihcnaaDoor

/-
  Contracts of integer.Cmp, Right (of valid numbers) and of Same over integers.
-/
set_option linter.unusedVariables false
set_option linter.unusedSimpArgs false
namespace Go.Proofs.YtnfmjlomiihcnaaDoor
open Go.RowKit Nm

theorem same2_any {w : World} {g h : Bool} {p q : Option Addr} {n m c d : Nat} {X Y : Int} (hA : IsI w g p n c X) (hB : IsI w h q m d Y) (e : X = Y) :
    Calls Tryd.prog 31 #[.agg #[.bool g, .slice p n c], .agg #[.bool h, .slice q m d]] w fun e w' => e = .returned (.bool true) ∧ w.grownBy w' none := by
  subst e
  have hg2 := grown_trans (World.grownBy_alloc w (.cells #[.bool g, .slice p n c] 43) none) (World.grownBy_alloc _ (.cells #[.bool h, .slice q m d] 43) none)
  have HS := hid (same_c (hA.1.keep hg2) (hB.1.keep hg2) rfl)
  obtain rfl : g = h := by rw [hA.2, hB.2]
  go_enter Tryd.func31, Tryd.ntmps31
  go_wp2_with (go_at_call 14; refine HS.out.mono ?_; rintro e w3 ⟨rfl, hg3⟩)
  go_ret
  exact ⟨rfl, grown_trans hg2 hg3⟩


theorem cmpI_bound (x y : Int) : -1 ≤ cmpI x y ∧ cmpI x y ≤ 1 := by unfold cmpI; split <;> (try split) <;> omega

theorem cmpInner_any {w : World} {g h : Bool} {p q : Option Addr} {n m c d N M : Nat} (hA : IsN w p n c N) (hB : IsN w q m d M) :
    Calls Tryd.prog 81 #[.agg #[.bool g, .slice p n c], .agg #[.bool h, .slice q m d]] w fun e w' => e = .returned (.int .i64 (cmpI (N : Nat) (M : Nat))) ∧ w.grownBy w' none := by
  have hg2 := grown_trans (World.grownBy_alloc w (.cells #[.bool g, .slice p n c] 43) none) (World.grownBy_alloc _ (.cells #[.bool h, .slice q m d] 43) none)
  have HC := hid (natCmp_n (hA.keep hg2) (hB.keep hg2))
  generalize cmpI (N : Nat) (M : Nat) = s at *
  go_enter Tryd.func81, Tryd.ntmps81
  go_wp2_with (go_at_call 25; refine HC.out.mono ?_; rintro e w3 ⟨rfl, hg3⟩)
  go_ret
  exact ⟨rfl, grown_trans hg2 hg3⟩

set_option maxHeartbeats 4000000 in
theorem intCmp_any {w : World} {g h : Bool} {p q : Option Addr} {n m c d : Nat} {X Y : Int} (hA : IsZ w g p n c X) (hB : IsZ w h q m d Y) (hn : n ≤ 900000) (hm : m ≤ 900000) :
    Calls Tryd.prog 42 #[.agg #[.bool g, .slice p n c], .agg #[.bool h, .slice q m d]] w fun e w' => e = .returned (.int .i64 (cmpI X Y)) ∧ w.grownBy w' none := by
  have hg2 := grown_trans (grown_trans (World.grownBy_alloc w (.cells #[.bool g, .slice p n c] 43) none) (World.grownBy_alloc _ (.cells #[.bool h, .slice q m d] 43) none)) (grown_drew _ none)
  have S1 := hid (fun W (h : w.grownBy W none) => intSign_any (hA.keep h) hn)
  have S2 := hid (fun W (h : w.grownBy W none) => intSign_any (hB.keep h) hm)
  have C1 := hid (fun W (k : w.grownBy W none) => cmpInner_any (g := g) (h := h) (hA.keep k).1 (hB.keep k).1)
  have C2 := hid (fun W (k : w.grownBy W none) => cmpInner_any (g := h) (h := g) (hB.keep k).1 (hA.keep k).1)
  have b1 := cmpI_bound X 0
  have b2 := cmpI_bound Y 0
  have hcases : (cmpI X 0 < cmpI Y 0 ∧ cmpI X Y = -1) ∨ (cmpI Y 0 < cmpI X 0 ∧ cmpI X Y = 1) ∨
      (cmpI X 0 = cmpI Y 0 ∧ cmpI X 0 < 0 ∧ cmpI (Y.natAbs : Nat) (X.natAbs : Nat) = cmpI X Y) ∨ (cmpI X 0 = cmpI Y 0 ∧ 0 ≤ cmpI X 0 ∧ cmpI (X.natAbs : Nat) (Y.natAbs : Nat) = cmpI X Y) := by
    unfold cmpI
    rcases Int.lt_trichotomy X 0 with h1 | h1 | h1 <;> rcases Int.lt_trichotomy Y 0 with h2 | h2 | h2 <;> (repeat' split) <;> omega
  generalize cmpI (Y.natAbs : Nat) (X.natAbs : Nat) = r1 at *
  generalize cmpI (X.natAbs : Nat) (Y.natAbs : Nat) = r2 at *
  generalize cmpI X Y = r at *
  generalize cmpI X 0 = s at *
  generalize cmpI Y 0 = t at *
  rcases hcases with ⟨k1, rfl⟩ | ⟨k1, rfl⟩ | ⟨rfl, k2, rfl⟩ | ⟨rfl, k2, rfl⟩
  all_goals
    go_enter Tryd.func42, Tryd.ntmps42
    go_wp2_with fail
    go_region_held3 (fun w' => w'.cell? ⟨w.heap.size, 0, none⟩ = some (.bool g) ∧ w'.cell? ⟨w.heap.size, 1, none⟩ = some (.slice p n c) ∧ w'.cell? ⟨w.heap.size + 1, 0, none⟩ = some (.bool h) ∧ w'.cell? ⟨w.heap.size + 1, 1, none⟩ = some (.slice q m d)) (simp [*, go_sem, World.cell?_alloc_past])
      (first
        | (go_at_call 39; ((with_reducible refine (S1.out _ hg2).mono ?_)); rintro e w3 ⟨rfl, hg3⟩; have hc3 := gcell hg3; have hz3 := hg3.size; simp at hz3)
        | (go_at_call 39; ((with_reducible refine (S2.out _ (grown_trans hg2 hg3)).mono ?_)); rintro e w4 ⟨rfl, hg4⟩; have hg24 := grown_trans hg3 hg4; clear hc3 hz3; have hc4 := gcell hg24; have hz4 := hg24.size; simp at hz4))
  all_goals
    have hg4' := grown_trans hg2 hg24
    go_wp2_with (first
      | (go_at_call 81; ((with_reducible refine (C1.out _ hg4').mono ?_)); rintro e w5 ⟨rfl, hg5⟩)
      | (go_at_call 81; ((with_reducible refine (C2.out _ hg4').mono ?_)); rintro e w5 ⟨rfl, hg5⟩))
    go_ret
    first
      | exact ⟨rfl, grown_trans hg4' hg5⟩
      | exact ⟨rfl, hg4'⟩


end Go.Proofs.YtnfmjlomiihcnaaDoor

/-
  Contract of integer.Of.
-/
set_option linter.unusedVariables false
set_option linter.unusedSimpArgs false
namespace Go.Proofs.YtnfmjlomiihcnaaDoor
open Go.RowKit Nm

theorem dg_len4 {N : Nat} (h : N < W64) : (dg 65536 N).length ≤ 4 := dg_length_le (by omega) (by rw [← W64_eq]; exact h)

theorem intOf_neg {z : Int} {N : Nat} (hz : z = -(N : Int)) (hN : 0 < N) (hb : N < W64) (w : World) :
    Calls Tryd.prog 74 #[.int .i64 z] w (IPost w z 4) := by
  have hneg : z < 0 := by omega
  have hg1 := World.grownBy_alloc w (.cells #[.bool false, .slice none 0 0] 43) none
  have HZ : Hid (IntKind.u64.wrap (-IntKind.u64.wrap (-(N : Int))) = (N : Int)) := hid (by
    have : N < 18446744073709551616 := hb
    rw [IntKind.wrap_u64, IntKind.wrap_u64]; omega)
  have HN := hid hN
  go_enter Tryd.func74, Tryd.ntmps74
  go_wp2_with fail
  refine (of_at _ N HZ.out hb _).mono ?_
  rintro e w3 ⟨p3, c3, rfl, h3, hg3⟩
  go_wp2_with fail
  refine (signed_any (N := N) h3 true).mono ?_
  rintro e w4 ⟨g4, rfl, h4, hg4⟩
  have hg34 := grown_trans hg3 hg4
  have hc4 := gcell hg34
  have hf4 := gfree hg34
  have hz4 := hg34.size
  simp at hz4
  go_wp2_with fail
  rw [sg_true, ← hz] at h4
  exact bodyPost_ret (v := .agg #[.bool g4, .slice p3 _ c3]) (by simp [results, Tryd.results74, go_sem, hc4]) rfl (IPost.close hg1 (heap_alloc_new w _) (Nat.le_refl _) hg34 h4 (dg_len4 hb))

theorem intOf_pos {z : Int} {N : Nat} (hz : z = (N : Int)) (hb : N < W64) (w : World) :
    Calls Tryd.prog 74 #[.int .i64 z] w (IPost w z 4) := by
  have hneg : ¬ z < 0 := by omega
  have hg1 := World.grownBy_alloc w (.cells #[.bool false, .slice none 0 0] 43) none
  have hb2 : (N : Int) ≤ 18446744073709551615 := by have : N < 18446744073709551616 := hb; omega
  go_enter Tryd.func74, Tryd.ntmps74
  go_wp2_with fail
  refine (of_at _ N (by first | rfl | (rw [IntKind.wrap_u64]; omega)) hb _).mono ?_
  rintro e w3 ⟨p3, c3, rfl, h3, hg3⟩
  go_wp2_with fail
  refine (signed_any (N := N) h3 false).mono ?_
  rintro e w4 ⟨g4, rfl, h4, hg4⟩
  have hg34 := grown_trans hg3 hg4
  have hc4 := gcell hg34
  have hf4 := gfree hg34
  have hz4 := hg34.size
  simp at hz4
  go_wp2_with fail
  rw [sg_false, ← hz] at h4
  exact bodyPost_ret (v := .agg #[.bool g4, .slice p3 _ c3]) (by simp [results, Tryd.results74, go_sem, hc4]) rfl (IPost.close hg1 (heap_alloc_new w _) (Nat.le_refl _) hg34 h4 (dg_len4 hb))

theorem intOf_any (z : Int) (w : World) (h1 : -9223372036854775808 ≤ z) (h2 : z ≤ 9223372036854775807) : Calls Tryd.prog 74 #[.int .i64 z] w (IPost w z 4) := by
  have hb : z.natAbs < W64 := by show z.natAbs < 18446744073709551616; omega
  by_cases h : z < 0
  · exact intOf_neg (N := z.natAbs) (by omega) (by omega) hb w
  · exact intOf_pos (N := z.natAbs) (by omega) hb w

end Go.Proofs.YtnfmjlomiihcnaaDoor

/-
  Contract of integer.DivMod, given that of natural.DivMod.
-/
set_option linter.unusedVariables false
set_option linter.unusedSimpArgs false
namespace Go.Proofs.YtnfmjlomiihcnaaDoor
open Go.RowKit Nm

/-- the quotient and the rest of two integers, given by signs and absolute values -/
def qZ (ga gb : Bool) (N M : Nat) : Int := sg (ga != gb) (if ga = true ∧ 0 < N % M then N / M + 1 else N / M)
def rZ (ga : Bool) (N M : Nat) : Nat := if ga = true ∧ 0 < N % M then M - N % M else N % M

/-- what integer.DivMod returns -/
def DmI (w : World) (Q R : Int) (B C : Nat) (e : Ending) (w' : World) : Prop :=
  ∃ g p n c h q m d, e = .returned (.tuple #[.agg #[.bool g, .slice p n c], .agg #[.bool h, .slice q m d], .int .i64 0]) ∧ IsI w' g p n c Q ∧ IsI w' h q m d R ∧ n ≤ B ∧ m ≤ C ∧ w.grownBy w' none

theorem IsI.other {w w' : World} {g : Bool} {p : Option Addr} {n c : Nat} {Z : Int} {G : Nat} {x : Bool} {y : Option Addr} {a b : Nat} {T : TypeId} (h : IsI w g p n c Z) (hb : w.heap[G]? = some (.cells #[.bool x, .slice y a b] T (0, 0))) (hg : w.grownBy w' (some G)) : IsI w' g p n c Z :=
  ⟨IRd.other h.1 hb (fun j z => two_cells x y a b j _ z) hg, h.2⟩

theorem DmI.close {w W w5 : World} {G G2 : Nat} {x x2 : Bool} {y y2 : Option Addr} {a b a2 b2 : Nat} {T T2 : TypeId} {g h : Bool} {p q : Option Addr} {n c m d : Nat} {Q R : Int} {B C : Nat}
    (hg3 : w.grownBy W none) (hW : W.heap[G]? = some (.cells #[.bool x, .slice y a b] T (0, 0))) (hW2 : W.heap[G2]? = some (.cells #[.bool x2, .slice y2 a2 b2] T2 (0, 0))) (hG : w.heap.size ≤ G) (hG2 : w.heap.size ≤ G2) (hne : G2 ≠ G)
    (hg35 : W.grownBy w5 none) (h5 : IsI w5 g p n c Q) (h6 : IsI w5 h q m d R) (hn : n ≤ B) (hm : m ≤ C) :
    DmI w Q R B C (.returned (.tuple #[.agg #[.bool g, .slice p n c], .agg #[.bool h, .slice q m d], .int .i64 0]))
      ((((w5.setCell ⟨G, 0, none⟩ (.bool g)).setCell ⟨G, 1, none⟩ (.slice p n c)).setCell ⟨G2, 0, none⟩ (.bool h)).setCell ⟨G2, 1, none⟩ (.slice q m d)) := by
  have hb : w5.heap[G]? = some (.cells #[.bool x, .slice y a b] T (0, 0)) := (hg35.block G (lt_of_block hW) (by simp)).trans hW
  have hb2 : w5.heap[G2]? = some (.cells #[.bool x2, .slice y2 a2 b2] T2 (0, 0)) := (hg35.block G2 (lt_of_block hW2) (by simp)).trans hW2
  have h56 : w5.grownBy ((w5.setCell ⟨G, 0, none⟩ (.bool g)).setCell ⟨G, 1, none⟩ (.slice p n c)) (some G) := grown_trans (grown_setCell _ _ _) (grown_setCell _ ⟨G, 1, none⟩ _)
  have hb3 := (h56.block G2 (lt_of_block hb2) (by simpa using hne)).trans hb2
  generalize (w5.setCell ⟨G, 0, none⟩ (.bool g)).setCell ⟨G, 1, none⟩ (.slice p n c) = w6 at *
  have h67 : w6.grownBy ((w6.setCell ⟨G2, 0, none⟩ (.bool h)).setCell ⟨G2, 1, none⟩ (.slice q m d)) (some G2) := grown_trans (grown_setCell _ _ _) (grown_setCell _ ⟨G2, 1, none⟩ _)
  exact ⟨g, p, n, c, h, q, m, d, rfl, (h5.other hb h56).other hb3 h67, (h6.other hb h56).other hb3 h67, hn, hm,
    grown_new (grown_new (grown_trans hg3 hg35) h56 (fun g e => by cases e; exact hG)) h67 (fun g e => by cases e; exact hG2)⟩

theorem four_third (w : World) (A B C D : Obj) : ((((w.alloc A).alloc B).alloc C).alloc D).heap[w.heap.size + 2]? = some C := by
  exact (Below.heap_alloc (((w.alloc A).alloc B).alloc C) D (w.heap.size + 2) (by simp)).trans (third w A B C)
theorem four_fourth (w : World) (A B C D : Obj) : ((((w.alloc A).alloc B).alloc C).alloc D).heap[w.heap.size + 3]? = some D := by
  have := heap_alloc_new (((w.alloc A).alloc B).alloc C) D
  simpa using this

theorem dg_div_len {N M n : Nat} (h : N < 65536 ^ n) : (dg 65536 (N / M)).length ≤ n := dg_length_le (by omega) (Nat.lt_of_le_of_lt (Nat.div_le_self _ _) h)
theorem dg_mod_len {N M m : Nat} (h : M < 65536 ^ m) (hM : 0 < M) : (dg 65536 (N % M)).length ≤ m := dg_length_le (by omega) (Nat.lt_trans (Nat.mod_lt _ hM) h)

set_option maxHeartbeats 4000000 in
theorem intDivMod_any {w : World} {ga gb : Bool} {p q : Option Addr} {n m c d N M : Nat} (hA : IsN w p n c N) (hB : IsN w q m d M) (hM : 0 < M) (hn : n ≤ 400000) (hm : m ≤ 400000)
    (hD : ∀ W, w.grownBy W none → Calls Tryd.prog 12 #[.slice p n c, .slice q m d] W (DmPost W N M)) :
    Calls Tryd.prog 29 #[.agg #[.bool ga, .slice p n c], .agg #[.bool gb, .slice q m d]] w (DmI w (qZ ga gb N M) (rZ ga N M) (n + 2) m) := by
  have hg4 := grown_trans (grown_trans (grown_trans (World.grownBy_alloc w (.cells #[.bool ga, .slice p n c] 43) none) (World.grownBy_alloc _ (.cells #[.bool gb, .slice q m d] 43) none)) (World.grownBy_alloc _ (.cells #[.bool false, .slice none 0 0] 43) none)) (World.grownBy_alloc _ (.cells #[.bool false, .slice none 0 0] 43) none)
  have HD := hid (hD _ hg4)
  have l1 := dg_div_len (M := M) hA.lt
  have l2 := dg_mod_len (N := N) hB.lt hM
  have hlast : 0 < (dg 65536 (N % M)).length ↔ 0 < N % M := by
    constructor
    · intro h
      rcases Nat.eq_zero_or_pos (N % M) with h0 | h0
      · rw [h0] at h; exact absurd h (by simp [dg_zero])
      · exact h0
    · intro h
      rcases Nat.eq_zero_or_pos (dg 65536 (N % M)).length with h0 | h0
      · have := V_dg (B := 65536) (by omega) (N % M)
        rw [List.eq_nil_of_length_eq_zero h0] at this; simp at this; omega
      · exact h0
  clear hD
  unfold DmPost at HD
  by_cases hcase : ga = true ∧ 0 < N % M
  · have hq : qZ ga gb N M = sg (ga != gb) (N / M + 1) := by unfold qZ; rw [if_pos hcase]
    have hr : rZ ga N M = M - N % M := by unfold rZ; rw [if_pos hcase]
    rw [hq, hr]
    obtain ⟨rfl, hpos⟩ := hcase
    have hlp := hlast.2 hpos
    rw [show (true != gb) = (!gb) by cases gb <;> rfl]
    have hle : N % M ≤ M := Nat.le_of_lt (Nat.mod_lt _ hM)
    have HLE := hid hle
    clear hq hr hlast hpos hle
    generalize (dg 65536 (N / M)).length = lq at *
    generalize (dg 65536 (N % M)).length = lr at *
    have hlpi : (0 : Int) < (lr : Int) := by omega
    go_enter Tryd.func29, Tryd.ntmps29
    go_wp2_with fail
    refine HD.out.mono ?_
    rintro e w1 ⟨p1, p2, c1, c2, rfl, h1, h2, hg⟩
    have h1 : IsC w1 p1 lq c1 (N / M) := h1
    have h2 : IsC w1 p2 lr c2 (N % M) := h2
    have hB1 := (hB.keep hg4).keep hg
    have hc := gcell hg
    have hf := gfree hg
    have hz := hg.size
    simp at hz
    go_wp2_with fail
    refine (of_any 1 (by decide) _).mono ?_
    rintro e w2 ⟨p3, c3, rfl, h3, kg⟩
    have h3 : IsC w2 p3 (dg 65536 1).length c3 1 := h3
    have l3 : (dg 65536 1).length ≤ 4 := dg_len4 (by decide)
    generalize (dg 65536 1).length = n3 at *
    replace h1 := h1.keep kg; replace h2 := h2.keep kg; replace hB1 := hB1.keep kg; replace hg := grown_trans hg kg; clear kg
    clear hc hf hz
    have hc := gcell hg
    have hf := gfree hg
    have hz := hg.size
    simp at hz
    have l4 : (dg 65536 (N / M + 1)).length ≤ n + 2 := by
      refine dg_length_le (by omega) ?_
      have := hA.lt
      have h5 : N / M ≤ N := Nat.div_le_self _ _
      have h6 : 65536 ^ (n + 2) = 65536 ^ n * 4294967296 := by rw [Nat.pow_add]
      omega
    have HL4 := hid l4
    clear l4
    go_wp2_with fail
    refine (natAdd_n h1.isN h3.isN (by omega) (by omega)).mono ?_
    rintro e w3 ⟨p4, n4, c4, rfl, h4, hn4, kg⟩
    replace hn4 : n4 ≤ n + 2 := by rw [← h4.len]; exact HL4.out
    replace h2 := h2.keep kg; replace hB1 := hB1.keep kg; replace hg := grown_trans hg kg; clear kg
    clear hc hf hz
    have hc := gcell hg
    have hf := gfree hg
    have hz := hg.size
    simp at hz
    go_wp2_with fail
    refine (natSub_n hB1 h2.isN (by omega) (by omega) HLE.out).mono ?_
    rintro e w4 ⟨p5, n5, c5, rfl, h5', hn5, kg⟩
    replace h4 := h4.keep kg; replace hg := grown_trans hg kg; clear kg
    clear hc hf hz
    have hc := gcell hg
    have hf := gfree hg
    have hz := hg.size
    simp at hz
    go_wp2_with fail
    refine (signed_any h4 (!gb)).mono ?_
    rintro e v1 ⟨g5, rfl, h5, kg⟩
    replace h5' := h5'.keep kg; replace hg := grown_trans hg kg; clear kg
    clear hc hf hz
    have hc := gcell hg
    have hf := gfree hg
    have hz := hg.size
    simp at hz
    go_wp2_with fail
    refine (signed_any h5' false).mono ?_
    rintro e v2 ⟨g6, rfl, h6, kg⟩
    replace h5 := h5.keep kg; replace hg := grown_trans hg kg; clear kg
    clear hc hf hz
    have hc := gcell hg
    have hf := gfree hg
    have hz := hg.size
    simp at hz
    go_wp2_with fail
    exact bodyPost_ret (v := .tuple #[.agg #[.bool g5, .slice p4 n4 c4], .agg #[.bool g6, .slice p5 n5 c5], .int .i64 0]) (by simp [results, Tryd.results29, go_sem, hc]) rfl
      (DmI.close hg4 (four_third _ _ _ _ _) (four_fourth _ _ _ _ _) (by omega) (by omega) (by omega) hg h5 h6 (by omega) (by omega))
  · have hq : qZ ga gb N M = sg (ga != gb) (N / M) := by unfold qZ; rw [if_neg hcase]
    have hr : rZ ga N M = N % M := by unfold rZ; rw [if_neg hcase]
    rw [hq, hr]
    have hg' : ga = false ∨ (ga = true ∧ ¬ 0 < (dg 65536 (N % M)).length) := by
      cases ga
      · exact .inl rfl
      · exact .inr ⟨rfl, fun h => hcase ⟨rfl, hlast.1 h⟩⟩
    clear hq hr hlast hcase
    generalize (dg 65536 (N / M)).length = lq at *
    generalize (dg 65536 (N % M)).length = lr at *
    rcases hg' with rfl | ⟨rfl, hlp⟩
    · rw [show (false != gb) = gb by cases gb <;> rfl]
      go_enter Tryd.func29, Tryd.ntmps29
      go_wp2_with fail
      refine HD.out.mono ?_
      rintro e w1 ⟨p1, p2, c1, c2, rfl, h1, h2, hg⟩
      have h1 : IsC w1 p1 lq c1 (N / M) := h1
      have h2 : IsC w1 p2 lr c2 (N % M) := h2
      have hc := gcell hg
      have hf := gfree hg
      have hz := hg.size
      simp at hz
      go_wp2_with fail
      refine (signed_any h1 gb).mono ?_
      rintro e v1 ⟨g5, rfl, h5, kg⟩
      replace h2 := h2.keep kg; replace hg := grown_trans hg kg; clear kg
      clear hc hf hz
      have hc := gcell hg
      have hf := gfree hg
      have hz := hg.size
      simp at hz
      go_wp2_with fail
      refine (signed_any h2 false).mono ?_
      rintro e v2 ⟨g6, rfl, h6, kg⟩
      replace h5 := h5.keep kg; replace hg := grown_trans hg kg; clear kg
      clear hc hf hz
      have hc := gcell hg
      have hf := gfree hg
      have hz := hg.size
      simp at hz
      go_wp2_with fail
      exact bodyPost_ret (v := .tuple #[.agg #[.bool g5, .slice p1 lq c1], .agg #[.bool g6, .slice p2 lr c2], .int .i64 0]) (by simp [results, Tryd.results29, go_sem, hc]) rfl
        (DmI.close hg4 (four_third _ _ _ _ _) (four_fourth _ _ _ _ _) (by omega) (by omega) (by omega) hg h5 h6 (by omega) (by omega))
    · have hlpi : ¬ ((0 : Int) < (lr : Int)) := by omega
      rw [show (true != gb) = (!gb) by cases gb <;> rfl]
      go_enter Tryd.func29, Tryd.ntmps29
      go_wp2_with fail
      refine HD.out.mono ?_
      rintro e w1 ⟨p1, p2, c1, c2, rfl, h1, h2, hg⟩
      have h1 : IsC w1 p1 lq c1 (N / M) := h1
      have h2 : IsC w1 p2 lr c2 (N % M) := h2
      have hc := gcell hg
      have hf := gfree hg
      have hz := hg.size
      simp at hz
      go_wp2_with fail
      refine (signed_any h1 (!gb)).mono ?_
      rintro e v1 ⟨g5, rfl, h5, kg⟩
      replace h2 := h2.keep kg; replace hg := grown_trans hg kg; clear kg
      clear hc hf hz
      have hc := gcell hg
      have hf := gfree hg
      have hz := hg.size
      simp at hz
      go_wp2_with fail
      refine (signed_any h2 false).mono ?_
      rintro e v2 ⟨g6, rfl, h6, kg⟩
      replace h5 := h5.keep kg; replace hg := grown_trans hg kg; clear kg
      clear hc hf hz
      have hc := gcell hg
      have hf := gfree hg
      have hz := hg.size
      simp at hz
      go_wp2_with fail
      exact bodyPost_ret (v := .tuple #[.agg #[.bool g5, .slice p1 lq c1], .agg #[.bool g6, .slice p2 lr c2], .int .i64 0]) (by simp [results, Tryd.results29, go_sem, hc]) rfl
        (DmI.close hg4 (four_third _ _ _ _ _) (four_fourth _ _ _ _ _) (by omega) (by omega) (by omega) hg h5 h6 (by omega) (by omega))
end Go.Proofs.YtnfmjlomiihcnaaDoor
