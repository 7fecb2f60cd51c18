/-
  Int IntSum IntA IntN IntM IntR IntC IntOf IntD GcdB Euclid Lead Diff Rests WgA Wg Gcd GcdR IntE FormsV, in one text.
-/
import Derived.Test.YtjpkncgfpbhnaaaGreatDoorMrN
import Derived.Deep.RegionWith
import Derived.Deep.RegionHeld3
import Derived.IntWalk
import Derived.Deep.CutBlock
import Derived.Deep.DeepCutAuto
import Derived.Deep.LoopGhost
set_option linter.unusedVariables false
set_option linter.unusedSimpArgs false
set_option maxRecDepth 100000
namespace Go.Proofs.YtjpkncgfpbhnaaaGreatDoor
open Go.RowKit Nm
def sg (g : Bool) (N : Nat) : Int := if g then -(N : Int) else N
theorem sg_false (N : Nat) : sg false N = N := rfl
theorem sg_true (N : Nat) : sg true N = -(N : Int) := rfl
theorem sg_zero (g : Bool) : sg g 0 = 0 := by cases g <;> rfl
theorem sg_abs (g : Bool) (N : Nat) : (sg g N).natAbs = N := by cases g <;> simp [sg]
theorem sg_neg (g : Bool) (N : Nat) : decide (sg g N < 0) = (g && decide (0 < N)) := by
  cases g <;> simp [sg]
def IsZ (w : World) (g : Bool) (p : Option Addr) (n c : Nat) (Z : Int) : Prop := IsN w p n c Z.natAbs ∧ Z = sg g Z.natAbs
def IsI (w : World) (g : Bool) (p : Option Addr) (n c : Nat) (Z : Int) : Prop := IsC w p n c Z.natAbs ∧ g = decide (Z < 0)
section
variable {w w' : World} {g h : Bool} {p q : Option Addr} {n c m d N M : Nat} {Z Y : Int}
theorem IsZ.of {xs : List Nat} (g : Bool) (h : IRd w .u16 p n c xs) (hx : Dg 65536 xs) : IsZ w g p n c (sg g (V 65536 xs)) :=
  ⟨by rw [sg_abs]; exact IsN.of h hx, by rw [sg_abs]⟩
theorem IsI.z (h : IsI w g p n c Z) : IsZ w g p n c Z := ⟨h.1.isN, by
  rw [h.2]; unfold sg
  by_cases hz : Z < 0
  · rw [decide_eq_true hz, if_pos rfl]; omega
  · rw [decide_eq_false hz]; simp; omega⟩
theorem IsZ.keep (h : IsZ w g p n c Z) (hg : w.grownBy w' none) : IsZ w' g p n c Z := ⟨h.1.keep hg, h.2⟩
theorem IsI.keep (h : IsI w g p n c Z) (hg : w.grownBy w' none) : IsI w' g p n c Z := ⟨h.1.keep hg, h.2⟩
theorem gcell {W w1 : World} (hb : W.grownBy w1 none) : ∀ b o, b < W.heap.size → w1.cell? ⟨b, o, none⟩ = W.cell? ⟨b, o, none⟩ := fun b o h => World.cell?_of_block (hb.block b h (by simp))
theorem gfree {W w1 : World} (hb : W.grownBy w1 none) : ∀ b o, b < W.heap.size → w1.frozen? ⟨b, o, none⟩ = W.frozen? ⟨b, o, none⟩ := fun b o h => World.frozen?_of_block (hb.block b h (by simp))
def SPost (w : World) (p : Option Addr) (n c : Nat) (Z : Int) (e : Ending) (w' : World) : Prop :=
  ∃ g, e = .returned (.agg #[.bool g, .slice p n c]) ∧ IsI w' g p n c Z ∧ w.grownBy w' none
theorem signed_any (hA : IsC w p n c N) (g : Bool) :
    Calls Tryz.prog 219 #[.bool g, .slice p n c] w (SPost w p n c (sg g N)) := by
  have hn : n = 0 ↔ N = 0 := by
    rw [← hA.len]
    constructor
    · intro h
      have h2 : dg 65536 N = [] := List.eq_nil_of_length_eq_zero h
      have := V_dg (B := 65536) (by omega) N
      rw [h2] at this; exact this.symm
    · rintro rfl; rfl
  have hd : decide (0 < n) = decide (0 < N) := by
    by_cases h : 0 < n
    · rw [decide_eq_true h, decide_eq_true (by omega)]
    · rw [decide_eq_false h, decide_eq_false (by omega)]
  have fin : ∀ w', w.grownBy w' none → IsI w' (g && decide (0 < n)) p n c (sg g N) := fun w' hg => ⟨by rw [sg_abs]; exact hA.keep hg, by rw [hd]; exact (sg_neg g N).symm⟩
  have FIN := hid fin
  clear fin hd hn
  cases g
  · go_enter Tryz.func219, Tryz.ntmps219
    go_wp2
    have hg := World.grownBy_alloc w (.cells #[.bool false, .slice p n c] 33) none
    exact bodyPost_ret (v := .agg #[.bool false, .slice p n c]) (by simp [results, Tryz.results219, go_sem]) rfl ⟨false, rfl, by simpa using FIN.out _ hg, hg⟩
  · go_enter Tryz.func219, Tryz.ntmps219
    go_wp2
    have hg := World.grownBy_alloc w (.cells #[.bool (decide (0 < n)), .slice p n c] 33) none
    exact bodyPost_ret (v := .agg #[.bool (decide (0 < n)), .slice p n c]) (by simp [results, Tryz.results219, go_sem]) rfl ⟨decide (0 < n), rfl, by simpa using FIN.out _ hg, hg⟩
end
theorem intSign_any {w : World} {g : Bool} {p : Option Addr} {n c : Nat} {Z : Int} (h : IsZ w g p n c Z) (hn : n ≤ 900000) :
    Calls Tryz.prog 135 #[.agg #[.bool g, .slice p n c]] w fun e w' => e = .returned (.int .i64 (cmpI Z 0)) ∧ w.grownBy w' none := by
  obtain ⟨hN, hZ⟩ := h
  generalize Z.natAbs = N at *
  subst hZ
  have hgb := World.grownBy_alloc w (.cells #[.bool g, .slice p n c] 33) none
  have B1 := hid (natBits_n (hN.keep hgb) hn)
  have hpos : ∀ b, IsBits N b → (b = 0 ↔ N = 0) := by
    intro b hb
    rcases hb with ⟨h1, h2⟩ | ⟨h1, h2, h3⟩
    · omega
    · have := Nat.pow_pos (n := b - 1) (show 0 < 2 by omega); omega
  by_cases h0 : N = 0
  · subst h0
    rw [sg_zero, cmpI_eq]
    have HP := hid hpos
    clear hpos
    go_enter Tryz.func135, Tryz.ntmps135
    go_wp2_with (go_at_call 185; refine B1.out.mono ?_; rintro e w' ⟨b, hb, rfl, HI, rfl⟩; obtain rfl := ((HP.out _ HI.out).2 rfl))
    go_ret
    exact ⟨rfl, hgb⟩
  · have HP := hid hpos
    clear hpos
    cases g
    · have : cmpI (sg false N) 0 = 1 := by rw [sg_false]; exact cmpI_gt (x := N) (y := 0) (by omega)
      rw [this]
      have h0' := hid h0
      clear h0 this
      go_enter Tryz.func135, Tryz.ntmps135
      go_wp2_with (go_at_call 185; refine B1.out.mono ?_; rintro e w' ⟨b, hb, rfl, HI, rfl⟩; have t0 : (((b : Int) == 0) = false) := beq_eq_false_iff_ne.2 (by have := (HP.out _ HI.out).1; have := h0'.out; omega))
      go_ret
      exact ⟨rfl, hgb⟩
    · have : cmpI (sg true N) 0 = -1 := by rw [sg_true]; unfold cmpI; rw [if_pos (by omega)]
      rw [this]
      have h0' := hid h0
      clear h0 this
      go_enter Tryz.func135, Tryz.ntmps135
      go_wp2_with (go_at_call 185; refine B1.out.mono ?_; rintro e w' ⟨b, hb, rfl, HI, rfl⟩; have t0 : (((b : Int) == 0) = false) := beq_eq_false_iff_ne.2 (by have := (HP.out _ HI.out).1; have := h0'.out; omega))
      go_ret
      exact ⟨rfl, hgb⟩
def IPost (w : World) (Z : Int) (B : Nat) (e : Ending) (w' : World) : Prop :=
  ∃ g p n c, e = .returned (.agg #[.bool g, .slice p n c]) ∧ IsI w' g p n c Z ∧ n ≤ B ∧ w.grownBy w' none
theorem IRd.other {w w' : World} {k : IntKind} {a : Option Addr} {n c : Nat} {xs : List Nat} {g : Nat} {cs : Array Value} {T : TypeId} {fz : Nat × Nat} (h : IRd w k a n c xs) (hb : w.heap[g]? = some (.cells cs T fz))
    (hcs : ∀ (j : Nat) (x : Int), cs[j]? ≠ some (.int k x)) (hg : w.grownBy w' (some g)) : IRd w' k a n c xs := by
  refine ⟨h.len, h.cap, h.max, fun j hj => ?_⟩
  obtain ⟨b, o, rfl, hc⟩ := h.cel j hj
  refine ⟨b, o, rfl, ?_⟩
  by_cases hbg : b = g
  · subst hbg
    rw [cell_of_row w b (o + j) cs T fz hb] at hc
    exact absurd hc (hcs _ _)
  · exact hg.cell hc (by simpa using hbg)
theorem two_cells (x : Bool) (y : Option Addr) (a b : Nat) (j : Nat) (k : IntKind) (z : Int) : (#[Value.bool x, Value.slice y a b])[j]? ≠ some (.int k z) := by
  match j with
  | 0 => simp
  | 1 => simp
  | j + 2 => simp
theorem IPost.close {w W w5 : World} {G : Nat} {x : Bool} {y : Option Addr} {a b : Nat} {T : TypeId} {g5 : Bool} {p4 : Option Addr} {n4 c4 : Nat} {Z : Int} {B : Nat}
    (hg3 : w.grownBy W none) (hW : W.heap[G]? = some (.cells #[.bool x, .slice y a b] T (0, 0))) (hG : w.heap.size ≤ G) (hg35 : W.grownBy w5 none) (h5 : IsI w5 g5 p4 n4 c4 Z) (hn : n4 ≤ B) :
    IPost w Z B (.returned (.agg #[.bool g5, .slice p4 n4 c4])) ((w5.setCell ⟨G, 0, none⟩ (.bool g5)).setCell ⟨G, 1, none⟩ (.slice p4 n4 c4)) := by
  have hb : w5.heap[G]? = some (.cells #[.bool x, .slice y a b] T (0, 0)) := (hg35.block G (lt_of_block hW) (by simp)).trans hW
  have h56 : w5.grownBy ((w5.setCell ⟨G, 0, none⟩ (.bool g5)).setCell ⟨G, 1, none⟩ (.slice p4 n4 c4)) (some G) := grown_trans (grown_setCell _ _ _) (grown_setCell _ ⟨G, 1, none⟩ _)
  exact ⟨g5, p4, n4, c4, rfl, ⟨IRd.other h5.1 hb (fun j z => two_cells x y a b j _ z) h56, h5.2⟩, hn, grown_new (grown_trans hg3 hg35) h56 (fun g e => by cases e; exact hG)⟩
theorem third (w : World) (A B C : Obj) : (((w.alloc A).alloc B).alloc C).heap[w.heap.size + 2]? = some C := by
  have := heap_alloc_new ((w.alloc A).alloc B) C
  simpa using this
theorem second (w : World) (A B : Obj) : ((w.alloc A).alloc B).heap[w.heap.size + 1]? = some B := by
  have := heap_alloc_new (w.alloc A) B
  simpa using this
theorem sg_z {w : World} {g : Bool} {p : Option Addr} {n c : Nat} {Z : Int} (h : IsZ w g p n c Z) : sg g Z.natAbs = Z := h.2.symm
theorem sg_not (g : Bool) (N : Nat) : sg (!g) N = -(sg g N) := by cases g <;> simp [sg]
theorem bits_len {N b : Nat} (h : IsBits N b) : (b + 15) / 16 = (dg 65536 N).length := by
  have hp : ∀ m, 0 < 65536 ^ m := fun m => Nat.pow_pos (by omega)
  rcases h with ⟨rfl, rfl⟩ | ⟨h1, h2, h3⟩
  · rfl
  · have e : ∀ k, (65536 : Nat) ^ k = 2 ^ (16 * k) := fun k => by rw [show (65536 : Nat) = 2 ^ 16 from rfl, ← Nat.pow_mul]
    have hN : 0 < N := Nat.lt_of_lt_of_le (Nat.pow_pos (by omega)) h2
    have hne : dg 65536 N ≠ [] := fun h => by have := V_dg (B := 65536) (by omega) N; rw [h] at this; simp at this; omega
    have l1 := (Can_dg (B := 65536) (by omega) N).low (by omega) hne
    have l2 := (Can_dg (B := 65536) (by omega) N).1.lt
    rw [V_dg (by omega), e] at l1 l2
    have hl : (dg 65536 N).length ≠ 0 := by simpa using hne
    generalize (dg 65536 N).length = L at *
    have k1 : 2 ^ (16 * (L - 1)) < 2 ^ b := by omega
    have k2 : 2 ^ (b - 1) < 2 ^ (16 * L) := by omega
    have := (Nat.pow_lt_pow_iff_right (by omega : 1 < 2)).1 k1
    have := (Nat.pow_lt_pow_iff_right (by omega : 1 < 2)).1 k2
    omega
set_option maxHeartbeats 1000000 in
theorem magnitude_any {w : World} {p : Option Addr} {n c : Nat} {g : Bool} {N : Nat} (hA : IsN w p n c N) (hn : n ≤ 400000) :
    Calls Tryz.prog 233 #[.agg #[.bool g, .slice p n c]] w fun e w' => ∃ p' n' c', e = .returned (.slice p' n' c') ∧ IsC w' p' n' c' N ∧ n' ≤ n ∧ w.grownBy w' none := by
  have hg1 := World.grownBy_alloc w (.cells #[.bool g, .slice p n c] 33) none
  have HB := hid (natBits_n (hA.keep hg1) (by omega))
  obtain ⟨xs, hr, hx, hV⟩ := hA
  have HV := hid hV
  have hx1 := hr.keep hg1
  have hcap := hr.cap
  have hmax := hr.max
  clear hV
  have hlen : (dg 65536 N).length ≤ n := dg_length_le (by omega) (by rw [← HV.out, ← hr.len]; exact hx.lt)
  have HLEN := hid hlen
  clear hlen
  go_enter Tryz.func233, Tryz.ntmps233
  go_wp2_with fail
  refine HB.out.mono ?_
  rintro e w' ⟨b, hb, rfl, HI, rfl⟩
  have hq : (b + 15) / 16 ≤ n := by rw [bits_len HI.out]; exact HLEN.out
  have hqi : ((b : Int) + 16 - 1) / 16 = (((b + 15) / 16 : Nat) : Int) := by omega
  have HQI := hid hqi
  have HQL := hid (bits_len HI.out)
  clear hqi
  obtain ⟨L, hL⟩ : ∃ L, L = (b + 15) / 16 := ⟨_, rfl⟩
  rw [← hL] at HQI HQL hq
  have HL := hid hL
  clear hL
  go_wp2_with (first
    | (at_make; refine wl_make _ rfl _ _ 31 rfl 187 .u16 2 Tryz.underlying31 (by kernel_rfl) _ _ _ _ rfl rfl L HQI.out HQI.out (by omega) (by omega) ?_; intro w1 hr1' hg2; have hc2 := gcell hg2; have hr1 : IRow w1 (w.heap.size + 1) 187 .u16 (List.replicate L 0) := (by simpa using hr1'); clear hr1')
    | (with_reducible refine wl_copy _ rfl (.tmp 13) (.tmp 15) 31 31 rfl 187 Tryz.underlying31 (by kernel_rfl) .u16 _ _ _ _ _ _ rfl rfl (w.heap.size + 1) 0 187 _ xs hr1 (fun _ => rfl) (hx1.keep hg2) (by simp) ?_; intro w2 hr2 hg3))
  go_ret
  have hxl := hr.len
  have e : splice (List.replicate L 0) 0 (xs.take L) = dg 65536 N := by
    have h1 : xs.take L = dg 65536 N := by
      rw [HQL.out, ← HV.out, ← trimR_dg (by omega) hx]
      exact (trimR_eq_take xs).symm
    rw [h1]
    have h2 := HQL.out
    simp [splice, h2]
  rw [e] at hr2
  have hrd := hr2.rd0 (by rw [← HQL.out]; omega)
  rw [← HQL.out] at hrd
  exact ⟨_, L, L, rfl, hrd, by omega, grown_new (grown_trans hg1 hg2) hg3 (fun g e => by cases e; omega)⟩
set_option maxHeartbeats 2000000 in
theorem intNorm_any {w : World} {p : Option Addr} {n c : Nat} {g : Bool} {Z : Int} (hA : IsZ w g p n c Z) (hn : n ≤ 400000) :
    Calls Tryz.prog 190 #[.agg #[.bool g, .slice p n c]] w (IPost w Z n) := by
  have hg2 := grown_trans (World.grownBy_alloc w (.cells #[.bool g, .slice p n c] 33) none) (World.grownBy_alloc _ (.cells #[.bool false, .slice none 0 0] 33) none)
  go_enter Tryz.func190, Tryz.ntmps190
  go_wp2_with fail
  go_region_with (first
    | (go_at_call 233; refine (magnitude_any (g := g) ((hA.1.keep hg2).keep (grown_drew _ none)) hn).mono ?_; rintro e w3 ⟨p3, n3, c3, rfl, h3, hn3, hg3⟩; have hc3 := gcell hg3; have hf3 := gfree hg3; have hz3 := hg3.size; simp at hz3)
    | (go_at_call 219; refine (signed_any h3 g).mono ?_; rintro e w4 ⟨g4, rfl, h4, hg4⟩; have hg34 := grown_trans hg3 hg4; clear hc3 hf3 hz3; have hc4 := gcell hg34; have hf4 := gfree hg34; have hz4 := hg34.size; simp at hz4))
  all_goals go_wp2
  all_goals
    rw [sg_z hA] at h4
    exact bodyPost_ret (v := .agg #[.bool g4, .slice p3 n3 c3]) (by simp [results, Tryz.results190, go_sem, hc4]) rfl (IPost.close (grown_trans hg2 (grown_drew _ none)) (second w _ _) (by omega) hg34 h4 hn3)
set_option maxHeartbeats 4000000 in
theorem intMul_any {w : World} {p q : Option Addr} {n c m d : Nat} {ga gb : Bool} {X Y : Int} (hA : IsZ w ga p n c X) (hB : IsZ w gb q m d Y) (hn : n ≤ 400000) (hm : m ≤ 400000) :
    Calls Tryz.prog 238 #[.agg #[.bool ga, .slice p n c], .agg #[.bool gb, .slice q m d]] w (IPost w (X * Y) (n + m)) := by
  have hg3 := grown_trans (grown_trans (World.grownBy_alloc w (.cells #[.bool ga, .slice p n c] 33) none) (World.grownBy_alloc _ (.cells #[.bool gb, .slice q m d] 33) none)) (World.grownBy_alloc _ (.cells #[.bool false, .slice none 0 0] 33) none)
  have HM := hid (fun W (h : w.grownBy W none) => natMul_n (hA.1.keep h) (hB.1.keep h) hn hm)
  have hsg : sg (ga != gb) (X.natAbs * Y.natAbs) = X * Y := by
    have h1 := sg_z hA
    have h2 := sg_z hB
    generalize X.natAbs = N at *
    generalize Y.natAbs = M at *
    subst h1; subst h2
    cases ga <;> cases gb <;> simp [sg, Int.neg_mul, Int.mul_neg]
  have HSG := hid hsg
  clear hsg
  go_enter Tryz.func238, Tryz.ntmps238
  go_wp2_with fail
  go_region_held3 (fun w' => w'.cell? ⟨w.heap.size, 0, none⟩ = some (.bool ga) ∧ w'.cell? ⟨w.heap.size, 1, none⟩ = some (.slice p n c) ∧ w'.cell? ⟨w.heap.size + 1, 0, none⟩ = some (.bool gb) ∧ w'.cell? ⟨w.heap.size + 1, 1, none⟩ = some (.slice q m d)) (simp [*, go_sem, World.cell?_alloc_past])
    (first
      | (go_at_call 274; refine (HM.out _ (grown_trans hg3 (grown_drew _ none))).mono ?_; rintro e w3 ⟨p3, n3, c3, rfl, h3, hn3, hg3'⟩; have hc3 := gcell hg3'; have hf3 := gfree hg3'; have hz3 := hg3'.size; simp at hz3)
      | (go_at_call 219; refine (signed_any h3 (ga != gb)).mono ?_; rintro e w4 ⟨g4, rfl, h4, hg4⟩; have hg34 := grown_trans hg3' hg4; clear hc3 hf3 hz3; have hc4 := gcell hg34; have hf4 := gfree hg34; have hz4 := hg34.size; simp at hz4))
  all_goals go_wp2
  all_goals
    rw [HSG.out] at h4
    exact bodyPost_ret (v := .agg #[.bool g4, .slice p3 n3 c3]) (by simp [results, Tryz.results238, go_sem, hc4]) rfl (IPost.close (grown_trans hg3 (grown_drew _ none)) (third w _ _ _) (by omega) hg34 h4 hn3)
theorem IsC.pos_len {w : World} {p : Option Addr} {n c N : Nat} (hA : IsC w p n c N) : decide (0 < n) = decide (0 < N) := by
  have hn : n = 0 ↔ N = 0 := by
    rw [← hA.len]
    constructor
    · intro h
      have h2 : dg 65536 N = [] := List.eq_nil_of_length_eq_zero h
      have := V_dg (B := 65536) (by omega) N
      rw [h2] at this; exact this.symm
    · rintro rfl; rfl
  by_cases h : 0 < n
  · rw [decide_eq_true h, decide_eq_true (by omega)]
  · rw [decide_eq_false h, decide_eq_false (by omega)]
theorem IsI.mk {w : World} {p : Option Addr} {n c N : Nat} (hA : IsC w p n c N) (g : Bool) : IsI w (g && decide (0 < n)) p n c (sg g N) :=
  ⟨by rw [sg_abs]; exact hA, by rw [hA.pos_len]; exact (sg_neg g N).symm⟩
set_option maxHeartbeats 2000000 in
theorem rOf_any {w : World} {p : Option Addr} {n c N : Nat} (g : Bool) (hA : IsN w p n c N) (hn : n ≤ 4000000) :
    Calls Tryz.prog 246 #[.bool g, .slice p n c] w (IPost w (sg g N) n) := by
  have hg1 := World.grownBy_alloc w (.cells #[.bool false, .slice none 0 0] 33) none
  cases g
  all_goals
    go_enter Tryz.func246, Tryz.ntmps246
    go_wp2_with fail
    refine (refNorm_n (hA.keep hg1) hn).mono ?_
    rintro e w1 ⟨p1, n1, c1, rfl, h1, hn1, hg⟩
    have hc1 := gcell hg
    have hf1 := gfree hg
    have hz1 := hg.size
    simp at hz1
  · have FIN := hid (IsI.mk h1 false)
    go_wp2_with fail
    exact bodyPost_ret (v := .agg #[.bool false, .slice p1 n1 c1]) (by simp [results, Tryz.results246, go_sem, hc1]) rfl (IPost.close hg1 (heap_alloc_new w _) (by omega) hg FIN.out hn1)
  · have FIN := hid (IsI.mk h1 true)
    go_wp2_with fail
    exact bodyPost_ret (v := .agg #[.bool (decide (0 < n1)), .slice p1 n1 c1]) (by simp [results, Tryz.results246, go_sem, hc1]) rfl (IPost.close hg1 (heap_alloc_new w _) (by omega) hg (by simpa using FIN.out) hn1)
set_option maxHeartbeats 2000000 in
theorem rNorm_any {w : World} {p : Option Addr} {n c : Nat} {g : Bool} {Z : Int} (hA : IsZ w g p n c Z) (hn : n ≤ 400000) :
    Calls Tryz.prog 245 #[.agg #[.bool g, .slice p n c]] w (IPost w Z n) := by
  have hg2 := grown_trans (World.grownBy_alloc w (.cells #[.bool g, .slice p n c] 33) none) (World.grownBy_alloc _ (.cells #[.bool false, .slice none 0 0] 33) none)
  go_enter Tryz.func245, Tryz.ntmps245
  go_wp2_with fail
  refine (rOf_any g (hA.1.keep hg2) (by omega)).mono ?_
  rintro e w1 ⟨g1, p1, n1, c1, rfl, h1, hn1, hg⟩
  rw [sg_z hA] at h1
  have hc1 := gcell hg
  have hf1 := gfree hg
  have hz1 := hg.size
  simp at hz1
  go_wp2_with fail
  exact bodyPost_ret (v := .agg #[.bool g1, .slice p1 n1 c1]) (by simp [results, Tryz.results245, go_sem, hc1]) rfl (IPost.close hg2 (second w _ _) (by omega) hg h1 hn1)
set_option maxHeartbeats 2000000 in
theorem rNeg_any {w : World} {p : Option Addr} {n c : Nat} {g : Bool} {Z : Int} (hA : IsZ w g p n c Z) (hn : n ≤ 400000) :
    Calls Tryz.prog 206 #[.agg #[.bool g, .slice p n c]] w (IPost w (-Z) n) := by
  have hg2 := grown_trans (World.grownBy_alloc w (.cells #[.bool g, .slice p n c] 33) none) (World.grownBy_alloc _ (.cells #[.bool false, .slice none 0 0] 33) none)
  go_enter Tryz.func206, Tryz.ntmps206
  go_wp2_with fail
  refine (rOf_any (!g) (hA.1.keep hg2) (by omega)).mono ?_
  rintro e w1 ⟨g1, p1, n1, c1, rfl, h1, hn1, hg⟩
  rw [sg_not, sg_z hA] at h1
  have hc1 := gcell hg
  have hf1 := gfree hg
  have hz1 := hg.size
  simp at hz1
  go_wp2_with fail
  exact bodyPost_ret (v := .agg #[.bool g1, .slice p1 n1 c1]) (by simp [results, Tryz.results206, go_sem, hc1]) rfl (IPost.close hg2 (second w _ _) (by omega) hg h1 hn1)
theorem mul_sgn {w : World} {ga gb : Bool} {p q : Option Addr} {n c m d : Nat} {X Y : Int} (hA : IsZ w ga p n c X) (hB : IsZ w gb q m d Y) : sg (ga != gb) (X.natAbs * Y.natAbs) = X * Y := by
  have h1 := sg_z hA
  have h2 := sg_z hB
  generalize X.natAbs = N at *
  generalize Y.natAbs = M at *
  subst h1; subst h2
  cases ga <;> cases gb <;> simp [sg, Int.neg_mul, Int.mul_neg]
set_option maxHeartbeats 4000000 in
theorem rMul_any {w : World} {p q : Option Addr} {n c m d : Nat} {ga gb : Bool} {X Y : Int} (hA : IsZ w ga p n c X) (hB : IsZ w gb q m d Y) (hn : n ≤ 400000) (hm : m ≤ 400000) :
    Calls Tryz.prog 209 #[.agg #[.bool ga, .slice p n c], .agg #[.bool gb, .slice q m d]] w (IPost w (X * Y) (n + m + 1)) := by
  have hg3 := grown_trans (grown_trans (World.grownBy_alloc w (.cells #[.bool ga, .slice p n c] 33) none) (World.grownBy_alloc _ (.cells #[.bool gb, .slice q m d] 33) none)) (World.grownBy_alloc _ (.cells #[.bool false, .slice none 0 0] 33) none)
  have HM := hid (fun W (h : w.grownBy W none) => refMul_n (hA.1.keep h) (hB.1.keep h) (by omega) (by omega))
  have HSG := hid (mul_sgn hA hB)
  go_enter Tryz.func209, Tryz.ntmps209
  go_wp2_with fail
  go_region_held3 (fun w' => w'.cell? ⟨w.heap.size, 0, none⟩ = some (.bool ga) ∧ w'.cell? ⟨w.heap.size, 1, none⟩ = some (.slice p n c) ∧ w'.cell? ⟨w.heap.size + 1, 0, none⟩ = some (.bool gb) ∧ w'.cell? ⟨w.heap.size + 1, 1, none⟩ = some (.slice q m d)) (simp [*, go_sem, World.cell?_alloc_past])
    (first
      | (go_at_call 248; refine (HM.out _ (grown_trans hg3 (grown_drew _ none))).mono ?_; rintro e w3 ⟨p3, n3, c3, rfl, h3, hn3, hg3'⟩; have hc3 := gcell hg3'; have hf3 := gfree hg3'; have hz3 := hg3'.size; simp at hz3)
      | (go_at_call 246; refine (rOf_any (ga != gb) h3.isN (by omega)).mono ?_; rintro e w4 ⟨g4, p4, n4, c4, rfl, h4, hn4, hg4⟩; have hg34 := grown_trans hg3' hg4; clear hc3 hf3 hz3; have hc4 := gcell hg34; have hf4 := gfree hg34; have hz4 := hg34.size; simp at hz4))
  all_goals go_wp2
  all_goals
    rw [HSG.out] at h4
    exact bodyPost_ret (v := .agg #[.bool g4, .slice p4 n4 c4]) (by simp [results, Tryz.results209, go_sem, hc4]) rfl (IPost.close (grown_trans hg3 (grown_drew _ none)) (third w _ _ _) (by omega) hg34 h4 (by omega))
theorem dg_len4 {N : Nat} (h : N < W64) : (dg 65536 N).length ≤ 4 := dg_length_le (by omega) (by rw [← W64_eq]; exact h)
theorem intOf_neg {z : Int} {N : Nat} (hz : z = -(N : Int)) (hN : 0 < N) (hb : N < W64) (w : World) :
    Calls Tryz.prog 193 #[.int .i64 z] w (IPost w z 4) := by
  have hneg : z < 0 := by omega
  have hg1 := World.grownBy_alloc w (.cells #[.bool false, .slice none 0 0] 33) none
  have HZ : Hid (IntKind.u64.wrap (-IntKind.u64.wrap (-(N : Int))) = (N : Int)) := hid (by
    have : N < 18446744073709551616 := hb
    rw [IntKind.wrap_u64, IntKind.wrap_u64]; omega)
  have HN := hid hN
  go_enter Tryz.func193, Tryz.ntmps193
  go_wp2_with fail
  refine (of_at _ N HZ.out hb _).mono ?_
  rintro e w3 ⟨p3, c3, rfl, h3, hg3⟩
  go_wp2_with fail
  refine (signed_any (N := N) h3 true).mono ?_
  rintro e w4 ⟨g4, rfl, h4, hg4⟩
  have hg34 := grown_trans hg3 hg4
  have hc4 := gcell hg34
  have hf4 := gfree hg34
  have hz4 := hg34.size
  simp at hz4
  go_wp2_with fail
  rw [sg_true, ← hz] at h4
  exact bodyPost_ret (v := .agg #[.bool g4, .slice p3 _ c3]) (by simp [results, Tryz.results193, go_sem, hc4]) rfl (IPost.close hg1 (heap_alloc_new w _) (Nat.le_refl _) hg34 h4 (dg_len4 hb))
theorem intOf_pos {z : Int} {N : Nat} (hz : z = (N : Int)) (hb : N < W64) (w : World) :
    Calls Tryz.prog 193 #[.int .i64 z] w (IPost w z 4) := by
  have hneg : ¬ z < 0 := by omega
  have hg1 := World.grownBy_alloc w (.cells #[.bool false, .slice none 0 0] 33) none
  have hb2 : (N : Int) ≤ 18446744073709551615 := by have : N < 18446744073709551616 := hb; omega
  go_enter Tryz.func193, Tryz.ntmps193
  go_wp2_with fail
  refine (of_at _ N (by first | rfl | (rw [IntKind.wrap_u64]; omega)) hb _).mono ?_
  rintro e w3 ⟨p3, c3, rfl, h3, hg3⟩
  go_wp2_with fail
  refine (signed_any (N := N) h3 false).mono ?_
  rintro e w4 ⟨g4, rfl, h4, hg4⟩
  have hg34 := grown_trans hg3 hg4
  have hc4 := gcell hg34
  have hf4 := gfree hg34
  have hz4 := hg34.size
  simp at hz4
  go_wp2_with fail
  rw [sg_false, ← hz] at h4
  exact bodyPost_ret (v := .agg #[.bool g4, .slice p3 _ c3]) (by simp [results, Tryz.results193, go_sem, hc4]) rfl (IPost.close hg1 (heap_alloc_new w _) (Nat.le_refl _) hg34 h4 (dg_len4 hb))
theorem intOf_any (z : Int) (w : World) (h1 : -9223372036854775808 ≤ z) (h2 : z ≤ 9223372036854775807) : Calls Tryz.prog 193 #[.int .i64 z] w (IPost w z 4) := by
  have hb : z.natAbs < W64 := by show z.natAbs < 18446744073709551616; omega
  by_cases h : z < 0
  · exact intOf_neg (N := z.natAbs) (by omega) (by omega) hb w
  · exact intOf_pos (N := z.natAbs) (by omega) hb w
def DmI (w : World) (Q R : Int) (B C : Nat) (e : Ending) (w' : World) : Prop :=
  ∃ g p n c h q m d, e = .returned (.tuple #[.agg #[.bool g, .slice p n c], .agg #[.bool h, .slice q m d], .int .i64 0]) ∧ IsI w' g p n c Q ∧ IsI w' h q m d R ∧ n ≤ B ∧ m ≤ C ∧ w.grownBy w' none
theorem IsI.other {w w' : World} {g : Bool} {p : Option Addr} {n c : Nat} {Z : Int} {G : Nat} {x : Bool} {y : Option Addr} {a b : Nat} {T : TypeId} (h : IsI w g p n c Z) (hb : w.heap[G]? = some (.cells #[.bool x, .slice y a b] T (0, 0))) (hg : w.grownBy w' (some G)) : IsI w' g p n c Z :=
  ⟨IRd.other h.1 hb (fun j z => two_cells x y a b j _ z) hg, h.2⟩
theorem DmI.close {w W w5 : World} {G G2 : Nat} {x x2 : Bool} {y y2 : Option Addr} {a b a2 b2 : Nat} {T T2 : TypeId} {g h : Bool} {p q : Option Addr} {n c m d : Nat} {Q R : Int} {B C : Nat}
    (hg3 : w.grownBy W none) (hW : W.heap[G]? = some (.cells #[.bool x, .slice y a b] T (0, 0))) (hW2 : W.heap[G2]? = some (.cells #[.bool x2, .slice y2 a2 b2] T2 (0, 0))) (hG : w.heap.size ≤ G) (hG2 : w.heap.size ≤ G2) (hne : G2 ≠ G)
    (hg35 : W.grownBy w5 none) (h5 : IsI w5 g p n c Q) (h6 : IsI w5 h q m d R) (hn : n ≤ B) (hm : m ≤ C) :
    DmI w Q R B C (.returned (.tuple #[.agg #[.bool g, .slice p n c], .agg #[.bool h, .slice q m d], .int .i64 0]))
      ((((w5.setCell ⟨G, 0, none⟩ (.bool g)).setCell ⟨G, 1, none⟩ (.slice p n c)).setCell ⟨G2, 0, none⟩ (.bool h)).setCell ⟨G2, 1, none⟩ (.slice q m d)) := by
  have hb : w5.heap[G]? = some (.cells #[.bool x, .slice y a b] T (0, 0)) := (hg35.block G (lt_of_block hW) (by simp)).trans hW
  have hb2 : w5.heap[G2]? = some (.cells #[.bool x2, .slice y2 a2 b2] T2 (0, 0)) := (hg35.block G2 (lt_of_block hW2) (by simp)).trans hW2
  have h56 : w5.grownBy ((w5.setCell ⟨G, 0, none⟩ (.bool g)).setCell ⟨G, 1, none⟩ (.slice p n c)) (some G) := grown_trans (grown_setCell _ _ _) (grown_setCell _ ⟨G, 1, none⟩ _)
  have hb3 := (h56.block G2 (lt_of_block hb2) (by simpa using hne)).trans hb2
  generalize (w5.setCell ⟨G, 0, none⟩ (.bool g)).setCell ⟨G, 1, none⟩ (.slice p n c) = w6 at *
  have h67 : w6.grownBy ((w6.setCell ⟨G2, 0, none⟩ (.bool h)).setCell ⟨G2, 1, none⟩ (.slice q m d)) (some G2) := grown_trans (grown_setCell _ _ _) (grown_setCell _ ⟨G2, 1, none⟩ _)
  exact ⟨g, p, n, c, h, q, m, d, rfl, (h5.other hb h56).other hb3 h67, (h6.other hb h56).other hb3 h67, hn, hm,
    grown_new (grown_new (grown_trans hg3 hg35) h56 (fun g e => by cases e; exact hG)) h67 (fun g e => by cases e; exact hG2)⟩
end Go.Proofs.YtjpkncgfpbhnaaaGreatDoor
namespace Nm
structure Es (A C x0 y0 x1 y1 n h o : Nat) : Prop where
  eu : (n % 2 = 0 ∧ Eu A C x0 y0 x1 y1 h o) ∨ (n % 2 = 1 ∧ Eu C A y0 x0 y1 x1 h o)
  le : o ≤ h
  some : (n = 0 ∧ x0 = 1 ∧ y0 = 0 ∧ x1 = 0 ∧ y1 = 1) ∨ (1 ≤ n ∧ x0 ≤ y0 ∧ x1 ≤ y1 ∧ 1 ≤ y0 ∧ 1 ≤ x1 ∧ y1 ≤ o ∧ o + y0 + y1 ≤ h ∧ n ≤ y1)
theorem Es.start {A C : Nat} (h : C ≤ A) : Es A C 1 0 0 1 0 A C := ⟨.inl ⟨rfl, Eu.start A C⟩, h, .inl ⟨rfl, rfl, rfl, rfl, rfl⟩⟩
theorem Es.back {A C x0 y0 x1 y1 n h o : Nat} (e : Es A C x0 y0 x1 y1 n h o) : A = y1 * h + y0 * o ∧ C = x1 * h + x0 * o := by
  rcases e.eu with ⟨_, k⟩ | ⟨_, k⟩
  · exact k.back
  · exact ⟨k.back.2, k.back.1⟩
theorem Es.fits {A C x0 y0 x1 y1 n h o : Nat} (e : Es A C x0 y0 x1 y1 n h o) (ho : 0 < o) :
    (y0 + h / o * y1) * o ≤ A ∧ (x0 + h / o * x1) * o ≤ C ∧ y0 + h / o * y1 ≤ A ∧ x0 + h / o * x1 ≤ C ∧ 1 ≤ h / o := by
  obtain ⟨b1, b2⟩ := e.back
  have hq : h / o * o ≤ h := Nat.div_mul_le_self h o
  have f1 : (y0 + h / o * y1) * o ≤ A := by
    rw [b1, Nat.add_mul, Nat.mul_right_comm]
    have := Nat.mul_le_mul_right y1 hq
    rw [Nat.mul_comm h y1] at this; omega
  have f2 : (x0 + h / o * x1) * o ≤ C := by
    rw [b2, Nat.add_mul, Nat.mul_right_comm]
    have := Nat.mul_le_mul_right x1 hq
    rw [Nat.mul_comm h x1] at this; omega
  refine ⟨f1, f2, Nat.le_trans (Nat.le_mul_of_pos_right _ ho) f1, Nat.le_trans (Nat.le_mul_of_pos_right _ ho) f2, (Nat.le_div_iff_mul_le ho).2 (by have := e.le; omega)⟩
theorem Es.next {A C x0 y0 x1 y1 n h o : Nat} (e : Es A C x0 y0 x1 y1 n h o) (ho : 0 < o) (h1 : y0 + h / o * y1 ≤ h % o) (h2 : y1 + (y0 + h / o * y1) ≤ o - h % o) :
    Es A C x1 y1 (x0 + h / o * x1) (y0 + h / o * y1) (n + 1) o (h % o) := by
  have hq := (e.fits ho).2.2.2.2
  have hrest := Nat.mod_lt h ho
  have hdm : h = h / o * o + h % o := by rw [Nat.mul_comm]; exact (Nat.div_add_mod h o).symm
  generalize h / o = q at *
  generalize h % o = r at *
  refine ⟨?_, by omega, .inr ⟨by omega, ?_, ?_, ?_, ?_, h1, by omega, ?_⟩⟩
  · rcases e.eu with ⟨k1, k⟩ | ⟨k1, k⟩
    · exact .inr ⟨by omega, k.step q r hdm⟩
    · exact .inl ⟨by omega, k.step q r hdm⟩
  · rcases e.some with ⟨_, _, _, rfl, rfl⟩ | ⟨_, _, h3, _⟩
    · omega
    · exact h3
  · rcases e.some with ⟨_, rfl, rfl, rfl, rfl⟩ | ⟨_, k0, k1, _⟩
    · omega
    · have := Nat.mul_le_mul_left q k1; omega
  · rcases e.some with ⟨_, _, _, _, rfl⟩ | ⟨k0, _, _, _, _, _, _, k7⟩
    · omega
    · omega
  · rcases e.some with ⟨_, rfl, _, _, _⟩ | ⟨_, _, _, _, k4, _⟩
    · omega
    · have := Nat.mul_le_mul hq k4; omega
  · rcases e.some with ⟨rfl, _, rfl, _, rfl⟩ | ⟨_, _, _, k3, _, _, _, k7⟩
    · omega
    · have := Nat.mul_le_mul_right y1 hq; omega
theorem half_lt {y A : Nat} (h : y * y ≤ A) (hA : A < 18446744073709551616) : y < 4294967296 := by
  refine Nat.lt_of_not_le fun hge => ?_
  have := Nat.mul_le_mul hge hge
  omega
theorem Es.lift {A C x0 y0 x1 y1 n h o : Nat} (e : Es A C x0 y0 x1 y1 n h o) (hn : 1 ≤ n) {K a' c' a c : Nat} (ha : a' < K) (hc : c' < K) (ea : a = A * K + a') (ec : c = C * K + c') :
    ∃ H O, O < H ∧ Nat.gcd H O = Nat.gcd a c ∧ H + O < a + c ∧ H ≤ a ∧
      (n % 2 = 0 → y0 * c ≤ x0 * a ∧ H = x0 * a - y0 * c ∧ x1 * a ≤ y1 * c ∧ O = y1 * c - x1 * a) ∧ (n % 2 = 1 → x0 * a ≤ y0 * c ∧ H = y0 * c - x0 * a ∧ y1 * c ≤ x1 * a ∧ O = x1 * a - y1 * c) := by
  rcases e.some with ⟨k0, _⟩ | ⟨_, k1, k2, k3, k4, k5, k6, k7⟩
  · omega
  rcases e.eu with ⟨m, k⟩ | ⟨m, k⟩
  · obtain ⟨l1, l2, l3, l4⟩ := k.lift (M0 := y0) (M1 := y1) ha hc ea ec (Nat.le_refl _) k2 (Nat.le_refl _) (by omega) k5 (by omega)
    obtain ⟨b1, b2⟩ := l4.back
    generalize hH : x0 * a - y0 * c = H at *
    generalize hO : y1 * c - x1 * a = O at *
    have p1 : 1 * H ≤ y1 * H := Nat.mul_le_mul_right _ (by omega)
    have p2 : 1 * O ≤ y0 * O := Nat.mul_le_mul_right _ k3
    have p3 : 1 * H ≤ x1 * H := Nat.mul_le_mul_right _ k4
    exact ⟨H, O, l3, l4.gcd, by omega, by omega, fun _ => ⟨l1, hH.symm ▸ rfl, l2, hO.symm ▸ rfl⟩, fun h => by omega⟩
  · obtain ⟨l1, l2, l3, l4⟩ := k.lift (M0 := x0) (M1 := y1) hc ha ec ea (Nat.le_refl _) (Nat.le_refl _) k2 (by omega) k5 (by omega)
    obtain ⟨b1, b2⟩ := l4.back
    generalize hH : y0 * c - x0 * a = H at *
    generalize hO : x1 * a - y1 * c = O at *
    have p1 : 1 * H ≤ y1 * H := Nat.mul_le_mul_right _ (by omega)
    have p2 : 1 * O ≤ y0 * O := Nat.mul_le_mul_right _ k3
    have p3 : 1 * H ≤ x1 * H := Nat.mul_le_mul_right _ k4
    exact ⟨H, O, l3, by rw [l4.gcd, Nat.gcd_comm], by omega, by omega, fun h => by omega, fun _ => ⟨l1, hH.symm ▸ rfl, l2, hO.symm ▸ rfl⟩⟩
end Nm
namespace Go.Proofs.YtjpkncgfpbhnaaaGreatDoor
open Go.RowKit Nm
def Rst (w : World) (g x0 y0 x1 y1 n : Nat) : Prop := w.heap[g]? = some (.cells #[.int .u64 x0, .int .u64 y0, .int .u64 x1, .int .u64 y1, .int .i64 n] 265 (0, 0))
theorem Rst.facts {w : World} {g x0 y0 x1 y1 n : Nat} (h : Rst w g x0 y0 x1 y1 n) :
    w.cell? ⟨g, 0, none⟩ = some (.int .u64 x0) ∧ w.cell? ⟨g, 1, none⟩ = some (.int .u64 y0) ∧ w.cell? ⟨g, 2, none⟩ = some (.int .u64 x1) ∧ w.cell? ⟨g, 3, none⟩ = some (.int .u64 y1) ∧ w.cell? ⟨g, 4, none⟩ = some (.int .i64 n) ∧
      w.frozen? ⟨g, 0, none⟩ = false ∧ w.frozen? ⟨g, 1, none⟩ = false ∧ w.frozen? ⟨g, 2, none⟩ = false ∧ w.frozen? ⟨g, 3, none⟩ = false ∧ w.frozen? ⟨g, 4, none⟩ = false := by
  unfold Rst at h
  have k := fun j => cell_of_row w g j _ _ _ h
  have f := fun j => frozen_of_row w g j _ _ h
  exact ⟨by rw [k]; rfl, by rw [k]; rfl, by rw [k]; rfl, by rw [k]; rfl, by rw [k]; rfl, f 0, f 1, f 2, f 3, f 4⟩
theorem Rst.set5 {w : World} {g x0 y0 x1 y1 n : Nat} (h : Rst w g x0 y0 x1 y1 n) (a b c d m : Nat) :
    Rst (((((w.setCell ⟨g, 0, none⟩ (.int .u64 a)).setCell ⟨g, 1, none⟩ (.int .u64 b)).setCell ⟨g, 2, none⟩ (.int .u64 c)).setCell ⟨g, 3, none⟩ (.int .u64 d)).setCell ⟨g, 4, none⟩ (.int .i64 m)) g a b c d m := by
  unfold Rst at h ⊢
  rw [heap_setCell_same _ g 4 _ _ _ (heap_setCell_same _ g 3 _ _ _ (heap_setCell_same _ g 2 _ _ _ (heap_setCell_same _ g 1 _ _ _ (heap_setCell_same _ g 0 _ _ _ h))))]
  simp
theorem Rst.kept {w w' : World} {g x0 y0 x1 y1 n : Nat} (h : Rst w g x0 y0 x1 y1 n) {row : Option Nat} (hg : w.grownBy w' row) (hne : some g ≠ row) : Rst w' g x0 y0 x1 y1 n := (hg.block g (lt_of_block h) hne).trans h
theorem grown_set5 (w : World) (g : Nat) (a b c d e : Value) : w.grownBy (((((w.setCell ⟨g, 0, none⟩ a).setCell ⟨g, 1, none⟩ b).setCell ⟨g, 2, none⟩ c).setCell ⟨g, 3, none⟩ d).setCell ⟨g, 4, none⟩ e) (some g) :=
  grown_trans (grown_trans (grown_trans (grown_trans (grown_setCell w ⟨g, 0, none⟩ a) (grown_setCell _ ⟨g, 1, none⟩ b)) (grown_setCell _ ⟨g, 2, none⟩ c)) (grown_setCell _ ⟨g, 3, none⟩ d)) (grown_setCell _ ⟨g, 4, none⟩ e)
set_option maxHeartbeats 2000000 in
theorem euclid_any (A C : Nat) (hA : A < W64) (hC : C ≤ A) (w : World) :
    Calls Tryz.prog 260 #[.int .u64 A, .int .u64 C] w fun e w' => ∃ x0 y0 x1 y1 n : Nat, e = .returned (.agg #[.int .u64 x0, .int .u64 y0, .int .u64 x1, .int .u64 y1, .int .i64 n]) ∧ x0 < W64 ∧ y0 < W64 ∧ x1 < W64 ∧ y1 < W64 ∧ n ≤ 4294967296 ∧
      Hid (∃ h o, Es A C x0 y0 x1 y1 n h o) ∧ w.grownBy w' none := by
  go_enter Tryz.func260, Tryz.ntmps260
  go_wp2_with fail
  obtain ⟨g4, hg4⟩ : ∃ g, g = w.heap.size := ⟨_, rfl⟩
  have hb5 : Rst ((w.alloc (.cells #[.int .u64 (0 : Nat), .int .u64 (0 : Nat), .int .u64 (0 : Nat), .int .u64 (0 : Nat), .int .i64 (0 : Nat)] 265)).alloc (.cells #[.int .u64 (1 : Nat), .int .u64 (0 : Nat), .int .u64 (0 : Nat), .int .u64 (1 : Nat), .int .i64 (0 : Nat)] 265)) (w.heap.size + 1) 1 0 0 1 0 := by
    have := heap_alloc_new (w.alloc (.cells #[.int .u64 (0 : Nat), .int .u64 (0 : Nat), .int .u64 (0 : Nat), .int .u64 (0 : Nat), .int .i64 (0 : Nat)] 265)) (.cells #[.int .u64 (1 : Nat), .int .u64 (0 : Nat), .int .u64 (0 : Nat), .int .u64 (1 : Nat), .int .i64 (0 : Nat)] 265)
    simpa [Rst] using this
  have hb4 : Rst ((w.alloc (.cells #[.int .u64 (0 : Nat), .int .u64 (0 : Nat), .int .u64 (0 : Nat), .int .u64 (0 : Nat), .int .i64 (0 : Nat)] 265)).alloc (.cells #[.int .u64 (1 : Nat), .int .u64 (0 : Nat), .int .u64 (0 : Nat), .int .u64 (1 : Nat), .int .i64 (0 : Nat)] 265)) w.heap.size 0 0 0 0 0 :=
    (Below.heap_alloc (w.alloc _) _ w.heap.size (by simp)).trans (heap_alloc_new w _)
  have hgw : w.grownBy ((w.alloc (.cells #[.int .u64 (0 : Nat), .int .u64 (0 : Nat), .int .u64 (0 : Nat), .int .u64 (0 : Nat), .int .i64 (0 : Nat)] 265)).alloc (.cells #[.int .u64 (1 : Nat), .int .u64 (0 : Nat), .int .u64 (0 : Nat), .int .u64 (1 : Nat), .int .i64 (0 : Nat)] 265)) none :=
    grown_trans (World.grownBy_alloc _ _ none) (World.grownBy_alloc _ _ none)
  rw [← hg4] at hb4 hb5 ⊢
  have HG := hid hg4
  clear hg4
  go_loopw [0, 1] (fun s0 s1 wr => ∃ hi o x0 y0 x1 y1 n : Nat, s0 = .int .u64 hi ∧ s1 = .int .u64 o ∧ hi < W64 ∧ o < W64 ∧ x0 < W64 ∧ y0 < W64 ∧ x1 < W64 ∧ y1 < W64 ∧ n ≤ 4294967296 ∧ Rst wr (g4 + 1) x0 y0 x1 y1 n ∧ Rst wr g4 0 0 0 0 0 ∧ w.grownBy wr none ∧ Hid (Es A C x0 y0 x1 y1 n hi o)) (fun _ s1 _ => (intOf s1).toNat)
  case atStart => exact ⟨A, C, 1, 0, 0, 1, 0, rfl, rfl, hA, Nat.lt_of_le_of_lt hC hA, by decide, by decide, by decide, by decide, by omega, hb5, hb4, hgw, hid (Es.start hC)⟩
  case round =>
    clear hb4 hb5 hgw
    obtain ⟨hi, o, x0, y0, x1, y1, n, rfl, rfl, hh, ho, b0, b1, b2, b3, hn, hr5, hr4, hgr, HE⟩ := hrel
    obtain ⟨c0, c1, c2, c3, c4, f0, f1, f2, f3, f4⟩ := hr5.facts
    by_cases hpos : 0 < o
    · have hpos' : (0 : Int) < (o : Int) := by omega
      have ho1 : (1 : Int) ≤ (o : Int) := by omega
      have hfit := HE.out.fits hpos
      obtain ⟨q, hq⟩ : ∃ q, q = hi / o := ⟨_, rfl⟩
      obtain ⟨r, hr⟩ : ∃ r, r = hi % o := ⟨_, rfl⟩
      have hro : r < o := by rw [hr]; exact Nat.mod_lt _ hpos
      have hqb : q < W64 := by rw [hq]; exact Nat.lt_of_le_of_lt (Nat.div_le_self _ _) hh
      have HN := hid (fun h1 h2 => HE.out.next hpos h1 h2)
      rw [← hq] at hfit HN
      rw [← hr] at HN
      obtain ⟨m1, hm1⟩ : ∃ m, m = q * x1 := ⟨_, rfl⟩
      obtain ⟨m2, hm2⟩ : ∃ m, m = q * y1 := ⟨_, rfl⟩
      obtain ⟨X, hX⟩ : ∃ X, X = x0 + m1 := ⟨_, rfl⟩
      obtain ⟨Y, hY⟩ : ∃ Y, Y = y0 + m2 := ⟨_, rfl⟩
      rw [← hm1, ← hm2, ← hX, ← hY] at hfit HN
      have hYA : Y ≤ A := hfit.2.2.1
      have hXC : X ≤ C := hfit.2.2.2.1
      have hYo : Y * o ≤ A := hfit.1
      unfold W64 at hA
      have e1 : IntKind.u64.wrap ((hi : Int) / (o : Int)) = (q : Int) := by rw [hq, ← Int.natCast_ediv]; exact wrap_in _ (Nat.lt_of_le_of_lt (Nat.div_le_self _ _) hh)
      have e2 : (hi : Int).tmod (o : Int) = (r : Int) := by rw [hr]; rfl
      have e2' : (hi : Int) % (o : Int) = (r : Int) := by rw [hr]; simp
      have e3 : IntKind.u64.wrap ((q : Int) * (x1 : Int)) = (m1 : Int) := by rw [cast_mul, ← hm1]; exact wrap_in _ (by omega)
      have e4 : IntKind.u64.wrap ((q : Int) * (y1 : Int)) = (m2 : Int) := by rw [cast_mul, ← hm2]; exact wrap_in _ (by omega)
      have e5 : IntKind.u64.wrap ((x0 : Int) + (m1 : Int)) = (X : Int) := by rw [cast_add, ← hX]; exact wrap_in _ (by omega)
      have e6 : IntKind.u64.wrap ((y0 : Int) + (m2 : Int)) = (Y : Int) := by rw [cast_add, ← hY]; exact wrap_in _ (by omega)
      have e7 : IntKind.i64.wrap ((n : Int) + 1) = ((n + 1 : Nat) : Int) := by have := IntWalk.i64_in ((n : Int) + 1) (by omega); rw [this]; simp
      have HF := hid (And.intro hYo (And.intro hYA hXC))
      have hyY : y1 ≤ Y := by
        rw [hY, hm2]
        have := Nat.le_mul_of_pos_left y1 (show 0 < q from hfit.2.2.2.2); omega
      clear hq hr hm1 hm2 hX hY hYo hYA hXC hfit
      go_wp2_with fail
      go_quiet (fail)
      replace hr5 : Rst (wr.drewN nq) (g4 + 1) x0 y0 x1 y1 n := hr5
      replace hr4 : Rst (wr.drewN nq) g4 0 0 0 0 0 := hr4
      replace hgr := gdN hgr nq
      clear c0 c1 c2 c3 c4 f0 f1 f2 f3 f4
      generalize wr.drewN nq = wz at *
      obtain ⟨c0, c1, c2, c3, c4, f0, f1, f2, f3, f4⟩ := hr5.facts
      go_upto_region 5 with fail
      have hl5 := lt_of_block hr5
      have hl4 := lt_of_block hr4
      have hgA := World.grownBy_alloc wz (.cells #[.int .u64 x1, .int .u64 y1, .int .u64 X, .int .u64 Y, .int .i64 ((n : Int) + 1)] 265) none
      have hr8 : Rst (wz.alloc (.cells #[.int .u64 x1, .int .u64 y1, .int .u64 X, .int .u64 Y, .int .i64 ((n : Int) + 1)] 265)) wz.heap.size x1 y1 X Y (n + 1) := by
        have := heap_alloc_new wz (.cells #[.int .u64 x1, .int .u64 y1, .int .u64 X, .int .u64 Y, .int .i64 ((n : Int) + 1)] 265)
        unfold Rst; simpa using this
      replace hr5 := hr5.kept hgA (by simp)
      replace hr4 := hr4.kept hgA (by simp)
      replace hgr := grown_trans hgr hgA
      clear hgA c0 c1 c2 c3 c4 f0 f1 f2 f3 f4
      generalize wz.alloc (.cells #[.int .u64 x1, .int .u64 y1, .int .u64 X, .int .u64 Y, .int .i64 ((n : Int) + 1)] 265) = wy at *
      generalize wz.heap.size = g8 at *
      obtain ⟨c0, c1, c2, c3, c4, f0, f1, f2, f3, f4⟩ := hr5.facts
      obtain ⟨p0, p1, p2, p3, p4, _, _, _, _, _⟩ := hr8.facts
      obtain ⟨k0, k1, k2, k3, k4, z0, z1, z2, z3, z4⟩ := hr4.facts
      by_cases hA1 : r < Y
      · have hA1' : (r : Int) < (Y : Int) := by omega
        go_wp2_with fail
        exact bodyPost_ret (v := .agg #[.int .u64 x0, .int .u64 y0, .int .u64 x1, .int .u64 y1, .int .i64 n]) (by simp [results, Tryz.results260, go_sem, k0, k1, k2, k3, k4]) rfl
          ⟨x0, y0, x1, y1, n, rfl, b0, b1, b2, b3, hn, hid ⟨hi, o, HE.out⟩, grown_new hgr (grown_set5 _ _ _ _ _ _ _) (fun g' e' => by cases e'; have := HG.out; omega)⟩
      · have hA1' : ¬ (r : Int) < (Y : Int) := by omega
        have hYb : Y < 4294967296 := half_lt (Nat.le_trans (Nat.mul_le_mul_left Y (show Y ≤ o by omega)) HF.out.1) hA
        obtain ⟨dd, hdd⟩ : ∃ dd, dd = o - r := ⟨_, rfl⟩
        obtain ⟨S, hS⟩ : ∃ S, S = y1 + Y := ⟨_, rfl⟩
        have e8 : IntKind.u64.wrap ((o : Int) - (r : Int)) = (dd : Int) := by unfold W64 at ho; rw [IntKind.wrap_u64]; omega
        have e9 : IntKind.u64.wrap ((y1 : Int) + (Y : Int)) = (S : Int) := by rw [IntKind.wrap_u64]; omega
        have HDS := hid (And.intro hdd hS)
        clear hdd hS
        by_cases hB1 : dd < S
        · have hB1' : (dd : Int) < (S : Int) := by omega
          go_wp2_with fail
          exact bodyPost_ret (v := .agg #[.int .u64 x0, .int .u64 y0, .int .u64 x1, .int .u64 y1, .int .i64 n]) (by simp [results, Tryz.results260, go_sem, k0, k1, k2, k3, k4]) rfl
            ⟨x0, y0, x1, y1, n, rfl, b0, b1, b2, b3, hn, hid ⟨hi, o, HE.out⟩, grown_new hgr (grown_set5 _ _ _ _ _ _ _) (fun g' e' => by cases e'; have := HG.out; omega)⟩
        · have hB1' : ¬ (dd : Int) < (S : Int) := by omega
          have hnx := hid (HN.out (by omega) (by have := HDS.out; omega))
          have hny : n + 1 ≤ 4294967296 := by
            rcases hnx.out.some with ⟨h0, _⟩ | ⟨_, _, _, _, _, _, _, h7⟩
            · omega
            · omega
          go_wp2_with fail
          refine ⟨⟨o, r, x1, y1, X, Y, n + 1, rfl, rfl, ho, by omega, b2, b3, ?_, ?_, hny, Rst.set5 hr5 x1 y1 X Y (n + 1), hr4.kept (grown_set5 _ _ _ _ _ _ _) (by simp), grown_new hgr (grown_set5 _ _ _ _ _ _ _) (fun g' e' => by cases e'; have := HG.out; omega), hnx⟩, by simp [intOf]; omega⟩
          · have := HF.out.2.2; unfold W64; omega
          · unfold W64; omega
    · obtain rfl : o = 0 := by omega
      obtain ⟨k0, k1, k2, k3, k4, z0, z1, z2, z3, z4⟩ := hr4.facts
      go_wp2_with fail
      exact bodyPost_ret (v := .agg #[.int .u64 x0, .int .u64 y0, .int .u64 x1, .int .u64 y1, .int .i64 n]) (by simp [results, Tryz.results260, go_sem, k0, k1, k2, k3, k4]) rfl
        ⟨x0, y0, x1, y1, n, rfl, b0, b1, b2, b3, hn, hid ⟨hi, 0, HE.out⟩, grown_new hgr (grown_set5 _ _ _ _ _ _ _) (fun g' e' => by cases e'; have := HG.out; omega)⟩
def IsLead (a c A C : Nat) : Prop := ∃ K a' c', 0 < K ∧ a' < K ∧ c' < K ∧ a = A * K + a' ∧ c = C * K + c'
theorem top_two {W : Nat} (hW : 1 < W) (xs : List Nat) (hd : Dg W xs) (m : Nat) (hl : xs.length = m + 2) (T : Nat) (hT : 0 < T) :
    V W xs / (W ^ m * T) = (xs[m + 1] * W + xs[m]) / T := by
  obtain ⟨lo, h1, h2⟩ := two_top hW xs hd m hl
  rw [← Nat.div_div_eq_div_mul, h2, Nat.mul_comm, Nat.mul_add_div (Nat.pow_pos (by omega)), Nat.div_eq_of_lt h1, Nat.add_zero]
theorem lead_word {S T W x1 x0 : Nat} (hST : S * T = W) (hT : 0 < T) : (x1 * W + x0) / T = x1 * S + x0 / T := by
  rw [← hST, ← Nat.mul_assoc, Nat.add_comm, Nat.mul_comm, Nat.add_mul_div_left _ _ hT, Nat.add_comm]
set_option maxHeartbeats 2000000 in
theorem leading_any (ax ay : Option Addr) (m cx cy : Nat) (xs ys : List Nat) (w : World) (hx : IRd w .u64 ax (m + 2) cx xs) (hy : IRd w .u64 ay (m + 2) cy ys) (hxd : Dg W64 xs) (hyd : Dg W64 ys) (hm : m ≤ 900000)
    (htop : ∀ t, xs[m + 1]? = some t → 0 < t) (hle : V W64 ys ≤ V W64 xs) :
    Calls Tryz.prog 261 #[.slice ax (m + 2 : Nat) cx, .slice ay (m + 2 : Nat) cy] w fun e w' => ∃ A C : Nat, e = .returned (.tuple #[.int .u64 A, .int .u64 C]) ∧ A < W64 ∧ C ≤ A ∧ Hid (IsLead (V W64 xs) (V W64 ys) A C) ∧ ∃ n, w' = w.drewN n := by
  have hxl : xs.length = m + 2 := hx.len
  have hyl : ys.length = m + 2 := hy.len
  have hxm := hx.max
  have hxc := hx.cap
  have hym := hy.max
  have hyc := hy.cap
  obtain ⟨bx, ox, rfl, hx1⟩ := hx.cel (m + 1) (by omega)
  obtain ⟨by', oy, rfl, hy1⟩ := hy.cel (m + 1) (by omega)
  obtain ⟨bx', ox', ex, hx0⟩ := hx.cel m (by omega)
  cases ex
  obtain ⟨by2, oy2, ey, hy0⟩ := hy.cel m (by omega)
  cases ey
  obtain ⟨u1, hu1⟩ : ∃ u, u = xs[m + 1]'(by omega) := ⟨_, rfl⟩
  obtain ⟨u0, hu0⟩ : ∃ u, u = xs[m]'(by omega) := ⟨_, rfl⟩
  obtain ⟨v1, hv1⟩ : ∃ u, u = ys[m + 1]'(by omega) := ⟨_, rfl⟩
  obtain ⟨v0, hv0⟩ : ∃ u, u = ys[m]'(by omega) := ⟨_, rfl⟩
  rw [← hu1] at hx1
  rw [← hu0] at hx0
  rw [← hv1] at hy1
  rw [← hv0] at hy0
  have bu1 : u1 < W64 := by rw [hu1]; exact hxd.get _ _
  have bu0 : u0 < W64 := by rw [hu0]; exact hxd.get _ _
  have bv1 : v1 < W64 := by rw [hv1]; exact hyd.get _ _
  have bv0 : v0 < W64 := by rw [hv0]; exact hyd.get _ _
  have hpos : 0 < u1 := htop u1 (by rw [List.getElem?_eq_getElem (by omega), hu1])
  have hvu : v1 ≤ u1 := by
    rw [hu1, hv1, dig_get xs hxd (m + 1) (by omega), dig_get ys hyd (m + 1) (by omega)]
    have h1 : V W64 xs / W64 ^ (m + 1) < W64 := Nat.div_lt_of_lt_mul (by have := hxd.lt; rw [hxl, Nat.pow_succ] at this; exact this)
    have h2 : V W64 ys / W64 ^ (m + 1) < W64 := Nat.div_lt_of_lt_mul (by have := hyd.lt; rw [hyl, Nat.pow_succ] at this; exact this)
    rw [Nat.mod_eq_of_lt h1, Nat.mod_eq_of_lt h2]
    exact Nat.div_le_div_right hle
  have L1 := hid (lz_any u1 hpos bu1 w)
  have HUV := hid (And.intro hu1 (And.intro hu0 (And.intro hv1 hv0)))
  have HLE := hid hle
  clear hu1 hu0 hv1 hv0 hle htop
  have hm1 : (0 : Int) ≤ (m : Int) + 2 - 1 := by omega
  have hm2 : (0 : Int) ≤ (m : Int) + 2 - 2 := by omega
  go_enter Tryz.func261, Tryz.ntmps261
  go_wp2_with fail
  refine L1.out.mono ?_
  rintro e w' ⟨s, hs, rfl, HL, rfl⟩
  obtain ⟨T, hT⟩ : ∃ T, T = 64 - s := ⟨_, rfl⟩
  have hST : 2 ^ s * 2 ^ T = W64 := by rw [hT]; exact two_pow_cut s hs
  have hT0 : 0 < 2 ^ T := Nat.pow_pos (by omega)
  have l1 := HL.out.2.2
  have l2 : v1 * 2 ^ s < 18446744073709551616 := Nat.lt_of_le_of_lt (Nat.mul_le_mul_right _ hvu) l1
  obtain ⟨H1, hH1⟩ : ∃ H, H = u1 * 2 ^ s := ⟨_, rfl⟩
  obtain ⟨H2, hH2⟩ : ∃ H, H = v1 * 2 ^ s := ⟨_, rfl⟩
  obtain ⟨L1', hL1⟩ : ∃ H, H = u0 / 2 ^ T := ⟨_, rfl⟩
  obtain ⟨L2', hL2⟩ : ∃ H, H = v0 / 2 ^ T := ⟨_, rfl⟩
  rw [← hH1] at l1
  rw [← hH2] at l2
  have k1 : L1' < 2 ^ s := by rw [hL1]; exact Nat.div_lt_of_lt_mul (by rw [Nat.mul_comm, hST]; exact bu0)
  have k2 : L2' < 2 ^ s := by rw [hL2]; exact Nat.div_lt_of_lt_mul (by rw [Nat.mul_comm, hST]; exact bv0)
  have hpw : 2 ^ s < 18446744073709551616 := Nat.lt_of_lt_of_le (Nat.pow_lt_pow_right (by omega) (show s < 64 by omega)) (by decide)
  obtain ⟨A, hA⟩ : ∃ A, A = H1 + L1' := ⟨_, rfl⟩
  obtain ⟨C, hC⟩ : ∃ C, C = H2 + L2' := ⟨_, rfl⟩
  have eH1 : IntKind.u64.wrap ((u1 : Int) * 2 ^ s) = (H1 : Int) := by rw [show ((u1 : Int) * 2 ^ s) = ((u1 * 2 ^ s : Nat) : Int) by simp, ← hH1]; exact wrap_in _ l1
  have eH2 : IntKind.u64.wrap ((v1 : Int) * 2 ^ s) = (H2 : Int) := by rw [show ((v1 : Int) * 2 ^ s) = ((v1 * 2 ^ s : Nat) : Int) by simp, ← hH2]; exact wrap_in _ l2
  have eL1 : (u0 : Int) / 2 ^ T = (L1' : Int) := by rw [hL1]; simp
  have eL2 : (v0 : Int) / 2 ^ T = (L2' : Int) := by rw [hL2]; simp
  have eT : IntKind.i64.wrap (64 - (s : Int)) = (T : Int) := by rw [IntWalk.i64_in _ (by omega)]; omega
  have eT2 : (64 : Int) - (s : Int) = (T : Int) := by omega
  have ei1 : IntKind.i64.wrap ((m : Int) + 2 - 1) = (m : Int) + 2 - 1 := IntWalk.i64_in _ (by omega)
  have ei2 : IntKind.i64.wrap ((m : Int) + 2 - 2) = (m : Int) + 2 - 2 := IntWalk.i64_in _ (by omega)
  have eO1 : bits .or .u64 (H1 : Int) (L1' : Int) = (A : Int) := by rw [bits_or_u64_nat _ _ l1 (by omega), nat_join s _ _ (by rw [hH1]; exact Nat.mul_mod_left _ _) k1, hA]
  have eO2 : bits .or .u64 (H2 : Int) (L2' : Int) = (C : Int) := by rw [bits_or_u64_nat _ _ l2 (by omega), nat_join s _ _ (by rw [hH2]; exact Nat.mul_mod_left _ _) k2, hC]
  have hs0 : (0 : Int) ≤ (s : Int) := by omega
  have hT1 : (0 : Int) ≤ (T : Int) := by omega
  have fA : V W64 xs / (W64 ^ m * 2 ^ T) = A := by
    rw [top_two (by decide) xs hxd m hxl _ hT0, ← HUV.out.1, ← HUV.out.2.1, lead_word hST hT0, hA, hH1, hL1]
  have fC : V W64 ys / (W64 ^ m * 2 ^ T) = C := by
    rw [top_two (by decide) ys hyd m hyl _ hT0, ← HUV.out.2.2.1, ← HUV.out.2.2.2, lead_word hST hT0, hC, hH2, hL2]
  have hK : 0 < W64 ^ m * 2 ^ T := Nat.mul_pos (Nat.pow_pos (by decide)) hT0
  have hfin : A < W64 ∧ C ≤ A ∧ IsLead (V W64 xs) (V W64 ys) A C := by
    refine ⟨?_, ?_, ⟨W64 ^ m * 2 ^ T, V W64 xs % (W64 ^ m * 2 ^ T), V W64 ys % (W64 ^ m * 2 ^ T), hK, Nat.mod_lt _ hK, Nat.mod_lt _ hK, ?_, ?_⟩⟩
    · have h1 : u1 < 2 ^ T := Nat.lt_of_mul_lt_mul_right (a := 2 ^ s) (by rw [← hH1, Nat.mul_comm (2 ^ T), hST]; exact l1)
      have h2 : (u1 + 1) * 2 ^ s ≤ 2 ^ T * 2 ^ s := Nat.mul_le_mul_right _ h1
      rw [Nat.add_mul, Nat.one_mul, ← hH1, Nat.mul_comm (2 ^ T), hST] at h2
      omega
    · rw [← fA, ← fC]; exact Nat.div_le_div_right HLE.out
    · rw [← fA, Nat.mul_comm]; exact (Nat.div_add_mod _ _).symm
    · rw [← fC, Nat.mul_comm]; exact (Nat.div_add_mod _ _).symm
  have HFIN := hid hfin
  clear hT hST hH1 hH2 hL1 hL2 l1 l2 hA hC k1 k2 hpw fA fC hK hfin hT0
  go_wp2_with fail
  go_quiet (fail)
  go_wp2_with fail
  go_quiet (fail)
  go_wp2_with fail
  go_ret2
  exact ⟨A, C, rfl, HFIN.out.1, HFIN.out.2.1, hid HFIN.out.2.2, _, World.drewN_drewN _ _ _⟩
theorem word_step (p x lo hi pl c cy : Nat) (hp : p < W64) (hx : x < W64) (hcy : cy < W64) (h1 : p * x = lo + W64 * hi) (h2 : lo + cy + 0 = pl + W64 * c) : p * x + cy = pl + W64 * (hi + c) ∧ hi + c < W64 := by
  have e : p * x + cy = pl + W64 * (hi + c) := by rw [Nat.mul_add]; omega
  refine ⟨e, Nat.lt_of_not_le fun h => ?_⟩
  have k1 : W64 * W64 ≤ W64 * (hi + c) := Nat.mul_le_mul_left _ h
  have k2 : p * x ≤ (W64 - 1) * (W64 - 1) := Nat.mul_le_mul (by omega) (by omega)
  have k3 : (W64 - 1) * (W64 - 1) + 2 * (W64 - 1) + 1 = W64 * W64 := by decide
  omega
theorem diff_round {W i pl ml bo d bo' a b plus plus' minus minus' Vd Vd' A B vx vy p q x y : Nat} (h1 : a + plus = pl + W * plus') (h2 : b + minus = ml + W * minus') (h3 : d + (ml + bo) = pl + W * bo') (ha : a = p * x) (hb : b = q * y)
    (e : Vd + q * vy + W ^ i * plus = p * vx + W ^ i * (minus + bo)) (hd : Vd' = Vd + W ^ i * d) (hx : A = vx + W ^ i * x) (hy : B = vy + W ^ i * y) :
    Vd' + q * B + W ^ (i + 1) * plus' = p * A + W ^ (i + 1) * (minus' + bo') := by
  have k1 := congrArg (W ^ i * ·) h1
  have k2 := congrArg (W ^ i * ·) h2
  have k3 := congrArg (W ^ i * ·) h3
  simp only [Nat.mul_add] at k1 k2 k3
  rw [hd, hx, hy, Nat.pow_succ, Nat.mul_add, Nat.mul_add, Nat.mul_assoc, Nat.mul_assoc, Nat.mul_add, Nat.mul_add]
  rw [Nat.mul_add] at e
  have m1 : q * (W ^ i * y) = W ^ i * b := by rw [hb, Nat.mul_left_comm]
  have m2 : p * (W ^ i * x) = W ^ i * a := by rw [ha, Nat.mul_left_comm]
  omega
theorem diff_end {N Vd A B plus mb : Nat} (e : Vd + B + N * plus = A + N * mb) (hle : B ≤ A) (hd : Vd < N) (hA : A - B < N) : Vd + B = A := by
  rcases Nat.lt_trichotomy plus mb with h | h | h
  · obtain ⟨t, rfl⟩ : ∃ t, mb = plus + 1 + t := ⟨mb - plus - 1, by omega⟩
    rw [Nat.mul_add, Nat.mul_add, Nat.mul_one] at e
    omega
  · subst h; omega
  · obtain ⟨t, rfl⟩ : ∃ t, plus = mb + 1 + t := ⟨plus - mb - 1, by omega⟩
    rw [Nat.mul_add, Nat.mul_add, Nat.mul_one] at e
    omega
set_option maxRecDepth 100000 in
set_option maxHeartbeats 2000000 in
theorem difference_any (g L cd : Nat) (dc xs ys : List Nat) (ax ay : Option Addr) (cx cy p q : Nat) (w : World) (hrow : IRow w g 213 .u64 dc) (hxr : IRd w .u64 ax L cx xs) (hyr : IRd w .u64 ay L cy ys)
    (hnx : ∀ a, ax = some a → some a.block ≠ some g) (hny : ∀ a, ay = some a → some a.block ≠ some g) (hL : L ≤ dc.length) (hlen : dc.length ≤ 900000) (hLc : L ≤ cd) (hcd : cd ≤ 9223372036854775807)
    (hdc : Dg W64 dc) (hxs : Dg W64 xs) (hys : Dg W64 ys) (hp : p < W64) (hq : q < W64) (hle : q * V W64 ys ≤ p * V W64 xs) (hfit : p * V W64 xs - q * V W64 ys < W64 ^ L) :
    Calls Tryz.prog 289 #[.slice (some ⟨g, 0, none⟩) L cd, .int .u64 p, .slice ax L cx, .int .u64 q, .slice ay L cy] w fun e w' => ∃ dc' : List Nat, e = .returned (.tuple #[]) ∧ IRow w' g 213 .u64 dc' ∧ w.grownBy w' (some g) ∧
      Hid (dc'.length = dc.length ∧ Dg W64 dc' ∧ V W64 (dc'.take L) + q * V W64 ys = p * V W64 xs) := by
  have HLX := hid hxr.len
  have HLY := hid hyr.len
  have hxm := hxr.max
  have hxc := hxr.cap
  have hym := hyr.max
  have hyc := hyr.cap
  have HFIT := hid (And.intro hle hfit)
  clear hle hfit
  go_enter Tryz.func289, Tryz.ntmps289
  go_wp2_with fail
  go_loopw [10, 11, 12, 21] (fun s10 s11 s12 i wr => ∃ (k plus minus bo : Nat) (cu : List Nat), k ≤ L ∧ i = .int .i64 k ∧ s10 = .int .u64 plus ∧ s11 = .int .u64 minus ∧ s12 = .int .u64 bo ∧ plus < W64 ∧ minus < W64 ∧ bo ≤ 1 ∧ IRow wr g 213 .u64 cu ∧ w.grownBy wr (some g) ∧
      Hid (cu.length = dc.length ∧ Dg W64 cu ∧ V W64 (cu.take k) + q * V W64 (ys.take k) + W64 ^ k * plus = p * V W64 (xs.take k) + W64 ^ k * (minus + bo))) (fun _ _ _ i _ => L - (intOf i).toNat)
  case atStart => exact ⟨0, 0, 0, 0, dc, Nat.zero_le _, rfl, rfl, rfl, rfl, by decide, by decide, by omega, hrow, grown_refl _ _, hid ⟨rfl, hdc, by simp⟩⟩
  case round =>
    obtain ⟨k, plus, minus, bo, cu, hk, rfl, rfl, rfl, rfl, hplus, hminus, hbo, hr, hgr, HC⟩ := hrel
    by_cases hlt : k < L
    · obtain ⟨bx, ox, rfl, hcx⟩ := hxr.cel k (by rw [HLX.out]; exact hlt)
      obtain ⟨by', oy, rfl, hcy'⟩ := hyr.cel k (by rw [HLY.out]; exact hlt)
      have hx2 := hgr.cell hcx (hnx ⟨bx, ox, none⟩ rfl)
      have hy2 := hgr.cell hcy' (hny ⟨by', oy, none⟩ rfl)
      obtain ⟨x, hx⟩ : ∃ x, x = xs[k]'(by rw [HLX.out]; exact hlt) := ⟨_, rfl⟩
      obtain ⟨y, hy⟩ : ∃ y, y = ys[k]'(by rw [HLY.out]; exact hlt) := ⟨_, rfl⟩
      rw [← hx] at hx2
      rw [← hy] at hy2
      have hxb : x < W64 := by rw [hx]; exact hxs.get k _
      have hyb : y < W64 := by rw [hy]; exact hys.get k _
      have hvx := V_take_succ (B := W64) xs k (by rw [HLX.out]; exact hlt)
      have hvy := V_take_succ (B := W64) ys k (by rw [HLY.out]; exact hlt)
      rw [← hx] at hvx
      rw [← hy] at hvy
      have hcl : k < cu.length := by rw [HC.out.1]; omega
      have hcc := hr.cell k hcl
      have hfr := hr.free k
      obtain ⟨d0, hd0⟩ : ∃ d0, d0 = cu[k] := ⟨_, rfl⟩
      rw [← hd0] at hcc
      have HVX := hid hvx
      have HVY := hid hvy
      have hk1 : (k : Int) < (L : Int) := by omega
      have hk0 : (0 : Int) ≤ (k : Int) := by omega
      clear hx hy hd0 hcx hcy' hvx hvy
      go_wp2_with fail
      refine (mul64_any p x hp hxb _).mono ?_
      rintro e w' ⟨h1, l1, rfl, hh1, hl1, HM1, rfl⟩
      go_wp2_with (with_reducible refine wl_add64 _ rfl (.tmp 34) (.tmp 35) _ _ rfl _ _ 0 rfl rfl rfl hl1 hplus (by omega) ?_; intro pl c1 hpl hc1 HA1)
      have hs1 := word_step p x l1 h1 pl c1 plus hp hxb hplus HM1.out HA1.out
      have hw1 : IntKind.u64.wrap ((h1 : Int) + c1) = ((h1 + c1 : Nat) : Int) := by have := hs1.2; unfold W64 at this; rw [IntKind.wrap_u64]; omega
      refine (mul64_any q y hq hyb _).mono ?_
      rintro e w' ⟨h2, l2, rfl, hh2, hl2, HM2, rfl⟩
      go_wp2_with (first
        | (with_reducible refine wl_add64 _ rfl (.tmp 52) (.tmp 53) _ _ rfl _ _ 0 rfl rfl rfl hl2 hminus (by omega) ?_; intro ml c2 hml hc2 HA2)
        | (with_reducible refine wl_sub64 _ rfl (.tmp 63) (.tmp 64) (.tmp 65) _ rfl _ _ bo rfl rfl rfl hpl hml hbo ?_; intro dd bo' hdd hbo' HS))
      have hs2 := word_step q y l2 h2 ml c2 minus hq hyb hminus HM2.out HA2.out
      have hw2 : IntKind.u64.wrap ((h2 : Int) + c2) = ((h2 + c2 : Nat) : Int) := by have := hs2.2; unfold W64 at this; rw [IntKind.wrap_u64]; omega
      have hcut : V W64 ((cu.set k dd).take (k + 1)) = V W64 (cu.take k) + W64 ^ k * dd := by
        rw [V_take_succ _ k (by simpa using hcl), List.take_set, List.set_eq_of_length_le (by simp; omega)]
        simp
      refine ⟨⟨k + 1, h1 + c1, h2 + c2, bo', cu.set k dd, by omega, rfl, by first | rfl | rw [hw1] | simp, by first | rfl | rw [hw2] | simp, rfl, hs1.2, hs2.2, hbo', hr.setv k _ dd rfl, grown_trans hgr (grown_setCell _ _ _), hid ⟨by simpa using HC.out.1, HC.out.2.1.set _ _ hdd, ?_⟩⟩, by simp [intOf]; omega⟩
      exact diff_round hs1.1 hs2.1 HS.out rfl rfl HC.out.2.2 hcut HVX.out HVY.out
    · obtain rfl : k = L := by omega
      have hfin := HC.out.2.2
      rw [show ys.take k = ys from List.take_of_length_le (by rw [HLY.out]; exact Nat.le_refl _), show xs.take k = xs from List.take_of_length_le (by rw [HLX.out]; exact Nat.le_refl _)] at hfin
      have hlt2 : V W64 (cu.take k) < W64 ^ k := by
        have := (HC.out.2.1.take k).lt
        rw [List.length_take, Nat.min_eq_left (by rw [HC.out.1]; exact hL)] at this
        exact this
      have hres := hid (diff_end hfin HFIT.out.1 hlt2 HFIT.out.2)
      clear hfin hlt2
      go_wp2_with fail
      go_end0
      exact ⟨cu, rfl, hr, hgr, hid ⟨HC.out.1, HC.out.2.1, hres.out⟩⟩
def Leh (a c H O : Nat) : Prop := O < H ∧ Nat.gcd H O = Nat.gcd a c ∧ H + O < a + c ∧ H ≤ a
set_option maxHeartbeats 2000000 in
theorem restsOf_any (g3 g4 L c3 c4 : Nat) (d3 d4 xs ys : List Nat) (ax ay : Option Addr) (cx cy x0 y0 x1 y1 n : Nat) (w : World) (hr3 : IRow w g3 213 .u64 d3) (hr4 : IRow w g4 213 .u64 d4) (h34 : g3 ≠ g4)
    (hxr : IRd w .u64 ax L cx xs) (hyr : IRd w .u64 ay L cy ys) (hx3 : ∀ p, ax = some p → p.block ≠ g3) (hx4 : ∀ p, ax = some p → p.block ≠ g4) (hy3 : ∀ p, ay = some p → p.block ≠ g3) (hy4 : ∀ p, ay = some p → p.block ≠ g4)
    (hL3 : L ≤ d3.length) (hL4 : L ≤ d4.length) (hl3 : d3.length ≤ 900000) (hl4 : d4.length ≤ 900000) (hc3 : L ≤ c3) (hc4 : L ≤ c4) (hm3 : c3 ≤ 9223372036854775807) (hm4 : c4 ≤ 9223372036854775807)
    (hd3 : Dg W64 d3) (hd4 : Dg W64 d4) (hxs : Dg W64 xs) (hys : Dg W64 ys) (b0 : x0 < W64) (b1 : y0 < W64) (b2 : x1 < W64) (b3 : y1 < W64) (hn : n ≤ 4294967296) (hn1 : 1 ≤ n)
    (A C h o : Nat) (hE : Es A C x0 y0 x1 y1 n h o) (hlead : IsLead (V W64 xs) (V W64 ys) A C) :
    Calls Tryz.prog 262 #[.agg #[.int .u64 x0, .int .u64 y0, .int .u64 x1, .int .u64 y1, .int .i64 n], .slice ax L cx, .slice ay L cy, .slice (some ⟨g3, 0, none⟩) L c3, .slice (some ⟨g4, 0, none⟩) L c4] w
      fun e w' => ∃ (d3' d4' : List Nat) (wa wb : World), e = .returned (.tuple #[]) ∧ IRow w' g3 213 .u64 d3' ∧ IRow w' g4 213 .u64 d4' ∧ w.grownBy wa none ∧ wa.grownBy wb (some g3) ∧ wb.grownBy w' (some g4) ∧
        Hid (d3'.length = d3.length ∧ d4'.length = d4.length ∧ Dg W64 d3' ∧ Dg W64 d4' ∧ Leh (V W64 xs) (V W64 ys) (V W64 (d3'.take L)) (V W64 (d4'.take L))) := by
  obtain ⟨K, a', c', hK, ha, hc, ea, ec⟩ := hlead
  obtain ⟨H, O, l1, l2, l3, l4, l5, l6⟩ := hE.lift hn1 ha hc ea ec
  have hxL : V W64 xs < W64 ^ L := by have := hxs.lt; rw [hxr.len] at this; exact this
  have hHL : H < W64 ^ L := Nat.lt_of_le_of_lt l4 hxL
  have hOL : O < W64 ^ L := Nat.lt_trans l1 hHL
  have HLEH : Hid (Leh (V W64 xs) (V W64 ys) H O) := hid ⟨l1, l2, l3, l4⟩
  have n0 : (0 : Int) ≤ (n : Int) := by omega
  have hgb := World.grownBy_alloc w (.cells #[.int .u64 x0, .int .u64 y0, .int .u64 x1, .int .u64 y1, .int .i64 n] 265) none
  have hbox : Rst (w.alloc (.cells #[.int .u64 x0, .int .u64 y0, .int .u64 x1, .int .u64 y1, .int .i64 n] 265)) w.heap.size x0 y0 x1 y1 n := heap_alloc_new w _
  have hlt3 := hr3.lt
  have hlt4 := hr4.lt
  clear hK ha hc ea ec l1 l2 l3 l4 hE hxL
  rcases Nat.mod_two_eq_zero_or_one n with hp | hp
  · obtain ⟨q1, q2, q3, q4⟩ := l5 hp
    have hpar : (((n : Int) % 2) == 0) = true := by simp; omega
    have HQ := hid (And.intro q2 q4)
    have hD1 := fun W hr hx hy => difference_any g3 L c3 d3 xs ys ax ay cx cy x0 y0 W hr hx hy (fun p hp => by simpa using hx3 p hp) (fun p hp => by simpa using hy3 p hp) hL3 hl3 hc3 hm3 hd3 hxs hys b0 b1 q1 (by rw [← q2]; exact hHL)
    have hD2 := fun W hr hx hy => difference_any g4 L c4 d4 ys xs ay ax cy cx y1 x1 W hr hx hy (fun p hp => by simpa using hy4 p hp) (fun p hp => by simpa using hx4 p hp) hL4 hl4 hc4 hm4 hd4 hys hxs b3 b2 q3 (by rw [← q4]; exact hOL)
    have HD1 := hid hD1
    have HD2 := hid hD2
    have HQ1 := hid (And.intro q1 q3)
    clear hD1 hD2 q1 q2 q3 q4 l5 l6 hp
    obtain ⟨k0, k1, k2, k3, k4, _, _, _, _, _⟩ := hbox.facts
    go_enter Tryz.func262, Tryz.ntmps262
    go_wp2_with fail
    refine (HD1.out _ (hr3.kept hgb (by simp)) (hxr.keep hgb) (hyr.keep hgb)).mono ?_
    rintro e w1 ⟨d3', rfl, hr3', hg1, H3⟩
    have hbox1 := hbox.kept hg1 (by simp; omega)
    obtain ⟨k0, k1, k2, k3, k4, _, _, _, _, _⟩ := hbox1.facts
    go_wp2_with fail
    refine (HD2.out _ ((hr4.kept hgb (by simp)).kept hg1 (by simp; omega)) ((hyr.keep hgb).kept hg1 (.inr fun p hp => by simpa using hy3 p hp)) ((hxr.keep hgb).kept hg1 (.inr fun p hp => by simpa using hx3 p hp))).mono ?_
    rintro e w2 ⟨d4', rfl, hr4', hg2, H4⟩
    go_wp2_with fail
    go_end0
    refine ⟨d3', d4', _, _, rfl, hr3'.kept hg2 (by simp; omega), hr4', hgb, hg1, hg2, hid ⟨H3.out.1, H4.out.1, H3.out.2.1, H4.out.2.1, ?_⟩⟩
    rw [show V W64 (d3'.take L) = H by have := H3.out.2.2; have := HQ.out.1; have := HQ1.out.1; omega, show V W64 (d4'.take L) = O by have := H4.out.2.2; have := HQ.out.2; have := HQ1.out.2; omega]
    exact HLEH.out
  · obtain ⟨q1, q2, q3, q4⟩ := l6 hp
    have hpar : (((n : Int) % 2) == 0) = false := by rw [beq_eq_false_iff_ne]; omega
    have HQ := hid (And.intro q2 q4)
    have hD1 := fun W hr hx hy => difference_any g3 L c3 d3 ys xs ay ax cy cx y0 x0 W hr hx hy (fun p hp => by simpa using hy3 p hp) (fun p hp => by simpa using hx3 p hp) hL3 hl3 hc3 hm3 hd3 hys hxs b1 b0 q1 (by rw [← q2]; exact hHL)
    have hD2 := fun W hr hx hy => difference_any g4 L c4 d4 xs ys ax ay cx cy x1 y1 W hr hx hy (fun p hp => by simpa using hx4 p hp) (fun p hp => by simpa using hy4 p hp) hL4 hl4 hc4 hm4 hd4 hxs hys b2 b3 q3 (by rw [← q4]; exact hOL)
    have HD1 := hid hD1
    have HD2 := hid hD2
    have HQ1 := hid (And.intro q1 q3)
    clear hD1 hD2 q1 q2 q3 q4 l5 l6 hp
    obtain ⟨k0, k1, k2, k3, k4, _, _, _, _, _⟩ := hbox.facts
    go_enter Tryz.func262, Tryz.ntmps262
    go_wp2_with fail
    refine (HD1.out _ (hr3.kept hgb (by simp)) (hyr.keep hgb) (hxr.keep hgb)).mono ?_
    rintro e w1 ⟨d3', rfl, hr3', hg1, H3⟩
    have hbox1 := hbox.kept hg1 (by simp; omega)
    obtain ⟨k0, k1, k2, k3, k4, _, _, _, _, _⟩ := hbox1.facts
    go_wp2_with fail
    refine (HD2.out _ ((hr4.kept hgb (by simp)).kept hg1 (by simp; omega)) ((hxr.keep hgb).kept hg1 (.inr fun p hp => by simpa using hx3 p hp)) ((hyr.keep hgb).kept hg1 (.inr fun p hp => by simpa using hy3 p hp))).mono ?_
    rintro e w2 ⟨d4', rfl, hr4', hg2, H4⟩
    go_wp2_with fail
    go_end0
    refine ⟨d3', d4', _, _, rfl, hr3'.kept hg2 (by simp; omega), hr4', hgb, hg1, hg2, hid ⟨H3.out.1, H4.out.1, H3.out.2.1, H4.out.2.1, ?_⟩⟩
    rw [show V W64 (d3'.take L) = H by have := H3.out.2.2; have := HQ.out.1; have := HQ1.out.1; omega, show V W64 (d4'.take L) = O by have := H4.out.2.2; have := HQ.out.2; have := HQ1.out.2; omega]
    exact HLEH.out
theorem W64_pos : 0 < W64 := by decide
theorem V_take_le {xs : List Nat} {n m : Nat} (hm : m ≤ n) (hn : n ≤ xs.length) (h : V W64 (xs.take n) < W64 ^ m) : V W64 (xs.take m) = V W64 (xs.take n) := by
  have hl : (xs.take n).length = n := by simp; omega
  have e := V_take_drop (B := W64) (xs.take n) m (by omega)
  rw [List.take_take, Nat.min_eq_left hm] at e
  rcases Nat.eq_zero_or_pos (V W64 ((xs.take n).drop m)) with h0 | h0
  · rw [h0] at e; omega
  · have : W64 ^ m * 1 ≤ W64 ^ m * V W64 ((xs.take n).drop m) := Nat.mul_le_mul_left _ h0
    omega
theorem V_take_lt {xs : List Nat} (hd : Dg W64 xs) (n : Nat) (hn : n ≤ xs.length) : V W64 (xs.take n) < W64 ^ n := by
  have := (hd.take n).lt
  rw [List.length_take, Nat.min_eq_left hn] at this
  exact this
theorem trim_take (xs : List Nat) (n : Nat) : trimR (xs.take n) = xs.take (trimR (xs.take n)).length := by
  have h := trimR_eq_take (xs.take n)
  have hl := trimR_length_le (xs.take n)
  have hl2 : (xs.take n).length ≤ n := by rw [List.length_take]; omega
  rw [List.take_take, Nat.min_eq_left (by omega)] at h
  exact h
theorem IRow.rdn {w : World} {g : Nat} {e : TypeId} {k : IntKind} {xs : List Nat} (h : IRow w g e k xs) (n c : Nat) (hn : n ≤ xs.length) (hc : n ≤ c) (hm : c ≤ 9223372036854775807) :
    IRd w k (some ⟨g, 0, none⟩) n c (xs.take n) := by
  have := h.rd 0 n c (by omega) hc hm
  simpa using this
theorem grown_sub {a b c : World} {g p : Nat} (h : a.grownBy b (some g)) (k : b.grownBy c (some p)) (hp : p = g ∨ a.heap.size ≤ p) : a.grownBy c (some g) :=
  ⟨k.os.trans h.os, k.tape.trans h.tape, k.output.trans h.output, Nat.le_trans h.size k.size, fun i hi hne =>
    (k.block i (Nat.lt_of_lt_of_le hi h.size) (fun e => by
      cases e
      rcases hp with rfl | hp
      · exact hne rfl
      · omega)).trans (h.block i hi hne)⟩
theorem grown_none {a b c : World} {g : Nat} (h : a.grownBy b (some g)) (k : b.grownBy c none) : a.grownBy c (some g) :=
  grown_trans h (grown_any k _)
theorem tb_kept {w w' : World} {g : Nat} (h : Tb w) (hg : w.grownBy w' (some g)) (hne : g ≠ 5) : Tb w' := fun j hj => hg.cell (h j hj) (by simp; exact fun e => hne e.symm)
structure G4 (w wr : World) (gx N G n p q r s : Nat) (xs ys rs ss : List Nat) : Prop where
  rx : IRow wr p 213 .u64 xs
  ry : IRow wr q 213 .u64 ys
  rz : IRow wr r 213 .u64 rs
  rv : IRow wr s 213 .u64 ss
  lx : xs.length = N
  ly : ys.length = N
  lr : rs.length = N
  ls : ss.length = N
  dx : Dg W64 xs
  dy : Dg W64 ys
  dr : Dg W64 rs
  ds : Dg W64 ss
  pq : p ≠ q
  pr : p ≠ r
  ps : p ≠ s
  qr : q ≠ r
  qs : q ≠ s
  rs' : r ≠ s
  op : p = gx ∨ w.heap.size ≤ p
  oq : q = gx ∨ w.heap.size ≤ q
  or' : r = gx ∨ w.heap.size ≤ r
  os : s = gx ∨ w.heap.size ≤ s
  grow : w.grownBy wr (some gx)
  nN : n ≤ N
  le : V W64 (ys.take n) ≤ V W64 (xs.take n)
  gcd : Nat.gcd (V W64 (xs.take n)) (V W64 (ys.take n)) = G
section
variable {w wr wr' : World} {gx N G n p q r s : Nat} {xs ys rs ss : List Nat}
theorem G4.keep (h : G4 w wr gx N G n p q r s xs ys rs ss) (hg : wr.grownBy wr' none) : G4 w wr' gx N G n p q r s xs ys rs ss :=
  { h with rx := h.rx.kept hg (by simp), ry := h.ry.kept hg (by simp), rz := h.rz.kept hg (by simp), rv := h.rv.kept hg (by simp), grow := grown_none h.grow hg }
theorem G4.cut (h : G4 w wr gx N G n p q r s xs ys rs ss) : G4 w wr gx N G (trimR (xs.take n)).length p q r s xs ys rs ss ∧ V W64 (xs.take (trimR (xs.take n)).length) = V W64 (xs.take n) ∧ V W64 (ys.take (trimR (xs.take n)).length) = V W64 (ys.take n) := by
  have hl := trimR_length_le (xs.take n)
  have hl2 : (xs.take n).length = n := by rw [List.length_take]; have := h.nN; have := h.lx; omega
  have e1 : V W64 (xs.take (trimR (xs.take n)).length) = V W64 (xs.take n) := by rw [← trim_take, V_trimR]
  have hlt := V_take_lt h.dx (trimR (xs.take n)).length (by have := h.lx; have := h.nN; omega)
  have e2 : V W64 (ys.take (trimR (xs.take n)).length) = V W64 (ys.take n) :=
    V_take_le (by omega) (by have := h.ly; have := h.nN; omega) (by have := h.le; omega)
  exact ⟨{ h with nN := by have := h.nN; omega, le := by rw [e1, e2]; exact h.le, gcd := by rw [e1, e2]; exact h.gcd }, e1, e2⟩
theorem copied_rest {xs rs : List Nat} {k N : Nat} (hx : xs.length = N) (hk : k ≤ N) (dx : Dg W64 xs) (dr : Dg W64 rs) (hl : rs.length = k + 1) (hv : V W64 rs < W64 ^ k) :
    (splice xs 0 (rs.take k)).length = N ∧ Dg W64 (splice xs 0 (rs.take k)) ∧ V W64 ((splice xs 0 (rs.take k)).take k) = V W64 rs := by
  have e : splice xs 0 (rs.take k) = rs.take k ++ xs.drop k := by simp [splice, hl]
  have hl2 : (rs.take k).length = k := by rw [List.length_take, hl]; omega
  rw [e]
  refine ⟨by rw [List.length_append, hl2, List.length_drop]; omega, (dr.take k).append (dx.drop k), ?_⟩
  rw [List.take_append_of_le_length (by omega), List.take_take, Nat.min_self]
  have := V_take_le (xs := rs) (n := rs.length) (m := k) (by omega) (Nat.le_refl _) (by rw [List.take_length]; exact hv)
  rw [List.take_length] at this
  exact this
theorem G4.swap (h : G4 w wr gx N G n p q r s xs ys rs ss) {zs : List Nat} (hz : IRow wr' p 213 .u64 zs) (hg : wr.grownBy wr' (some p)) (hl : zs.length = N) (hd : Dg W64 zs)
    (hv : V W64 (zs.take n) = V W64 (xs.take n) % V W64 (ys.take n)) (hy : 0 < V W64 (ys.take n)) : G4 w wr' gx N G n q p r s ys zs rs ss :=
  { rx := h.ry.kept hg (by simp; exact h.pq.symm), ry := hz, rz := h.rz.kept hg (by simp; exact h.pr.symm), rv := h.rv.kept hg (by simp; exact h.ps.symm),
    lx := h.ly, ly := hl, lr := h.lr, ls := h.ls, dx := h.dy, dy := hd, dr := h.dr, ds := h.ds, pq := h.pq.symm, pr := h.qr, ps := h.qs, qr := h.pr, qs := h.ps, rs' := h.rs',
    op := h.oq, oq := h.op, or' := h.or', os := h.os, grow := grown_sub h.grow hg h.op, nN := h.nN,
    le := by rw [hv]; exact Nat.le_of_lt (Nat.mod_lt _ hy), gcd := by rw [hv, Nat.gcd_comm, ← Nat.gcd_rec, Nat.gcd_comm]; exact h.gcd }
theorem G4.leh (h : G4 w wr gx N G n p q r s xs ys rs ss) {wa wb : World} {d3 d4 : List Nat} (h3 : IRow wr' r 213 .u64 d3) (h4 : IRow wr' s 213 .u64 d4) (ga : wr.grownBy wa none) (gb : wa.grownBy wb (some r)) (gc : wb.grownBy wr' (some s))
    (l3 : d3.length = rs.length) (l4 : d4.length = ss.length) (e3 : Dg W64 d3) (e4 : Dg W64 d4) (hL : Leh (V W64 (xs.take n)) (V W64 (ys.take n)) (V W64 (d3.take n)) (V W64 (d4.take n))) : G4 w wr' gx N G n r s p q d3 d4 xs ys :=
  { rx := h3, ry := h4, rz := ((h.rx.kept ga (by simp)).kept gb (by simp; exact h.pr)).kept gc (by simp; exact h.ps), rv := ((h.ry.kept ga (by simp)).kept gb (by simp; exact h.qr)).kept gc (by simp; exact h.qs),
    lx := by rw [l3]; exact h.lr, ly := by rw [l4]; exact h.ls, lr := h.lx, ls := h.ly, dx := e3, dy := e4, dr := h.dx, ds := h.dy, pq := h.rs', pr := h.pr.symm, ps := h.qr.symm, qr := h.ps.symm, qs := h.qs.symm, rs' := h.pq,
    op := h.or', oq := h.os, or' := h.op, os := h.oq, grow := grown_sub (grown_sub (grown_none h.grow ga) gb h.or') gc h.os, nN := h.nN,
    le := Nat.le_of_lt hL.1, gcd := hL.2.1.trans h.gcd }
end
theorem IRow.rep (w : World) (e : TypeId) (n : Nat) : IRow (w.alloc (.cells (Array.replicate n (.int .u64 0)) e)) w.heap.size e .u64 (List.replicate n 0) := by
  unfold IRow
  rw [heap_alloc_new]
  simp
theorem rep2 (w : World) (e : TypeId) (n : Nat) : IRow ((w.alloc (.cells (Array.replicate n (.int .u64 0)) e)).alloc (.cells (Array.replicate n (.int .u64 0)) e)).drew w.heap.size e .u64 (List.replicate n 0) ∧
    IRow ((w.alloc (.cells (Array.replicate n (.int .u64 0)) e)).alloc (.cells (Array.replicate n (.int .u64 0)) e)).drew (w.heap.size + 1) e .u64 (List.replicate n 0) ∧
    w.grownBy ((w.alloc (.cells (Array.replicate n (.int .u64 0)) e)).alloc (.cells (Array.replicate n (.int .u64 0)) e)).drew none := by
  have h1 := IRow.rep w e n
  have g1 := World.grownBy_alloc w (.cells (Array.replicate n (.int .u64 0)) e) none
  have h2 := IRow.rep (w.alloc (.cells (Array.replicate n (.int .u64 0)) e)) e n
  have g2 := World.grownBy_alloc (w.alloc (.cells (Array.replicate n (.int .u64 0)) e)) (.cells (Array.replicate n (.int .u64 0)) e) none
  refine ⟨(h1.kept g2 (by simp)).drew, ?_, grown_trans (grown_trans g1 g2) (grown_drew _ none)⟩
  have h3 := h2.drew
  simpa using h3
theorem run_make_words {P : Program} (t e : TypeId) (h1 : P.underlying t = some (.slice e)) (h2 : (P.info? e).map (fun i => (i.zero, i.size, i.bytes)) = some (some (.int .u64 0), 1, 8)) (n : Nat) (hn : n ≤ 1000000) (w : World) :
    (Instr.makeSlice t (.int .i64 (n : Int)) (.int .i64 (n : Int))).run P w = .ok (.slice (some ⟨w.heap.size, 0, none⟩) n n) (w.alloc (.cells (Array.replicate n (.int .u64 0)) e)) := by
  obtain ⟨i, hi, hz0, hz1, hz2⟩ := info_parts h2
  have hb : (i.bytes : Int) * (n : Int) ≤ 281474976710656 := by rw [hz2]; omega
  have hr := run_make (P := P) w t e i (.int .u64 0) h1 hi hz0 .i64 .i64 n n (by omega) (by omega) hb (by omega)
  simp only [Int.toNat_natCast] at hr
  rw [hr, hz1]
  have e1 : madeCells (Value.int .u64 0).cells (n * 1) = Array.replicate n (.int .u64 0) := by
    rw [Nat.mul_one, ← Array.toList_inj]
    have := toList_madeCells_one (.int .u64 0) n
    simp at this ⊢
    exact this
  rw [e1]
theorem infoW : (Tryz.prog.info? 213).map (fun i => (i.zero, i.size, i.bytes)) = some (some (.int .u64 0), 1, 8) := by kernel_rfl
def WG (w : World) (gx G : Nat) (e : Ending) (w' : World) : Prop := ∃ p n c zs, e = .returned (.slice p n c) ∧ IRd w' .u64 p n c zs ∧ n ≤ 900000 ∧ Hid (Dg W64 zs ∧ V W64 zs = G) ∧ w.grownBy w' (some gx)
set_option maxRecDepth 100000 in
set_option maxHeartbeats 4000000 in
theorem wordsGcd_any (gx N M Mc : Nat) (bp : Option Addr) (us vs : List Nat) (w : World) (hT : Tb w) (hgT : gx ≠ 5) (hx : IRow w gx 213 .u64 us) (hu : us.length = N) (hy : IRd w .u64 bp M Mc vs) (hM : M ≤ N) (hN : N ≤ 250000)
    (hdu : Dg W64 us) (hdv : Dg W64 vs) (hle : V W64 vs ≤ V W64 us) :
    Calls Tryz.prog 230 #[.slice (some ⟨gx, 0, none⟩) N N, .slice bp M Mc] w (WG w gx (Nat.gcd (V W64 us) (V W64 vs))) := by
  have hmk := run_make_words (P := Tryz.prog) 229 213 Tryz.underlying229 infoW N (by omega)
  go_enter Tryz.func230, Tryz.ntmps230
  go_upto_region 1 with fail
  go_cut [5, 6] from 14 to 17 (fun x y wc => x = .slice (some ⟨gx, 0, none⟩) N N ∧ y = .slice (some ⟨w.heap.size, 0, none⟩) N N ∧ IRow wc w.heap.size 213 .u64 (List.replicate N 0) ∧ w.grownBy wc none)
  case first =>
    go_region
    all_goals
      go_wp2_with fail
      go_meet
      exact ⟨rfl, rfl, IRow.rep w _ N, grown_trans (World.grownBy_alloc w _ none) (grown_drew _ none)⟩
  case rest =>
    obtain ⟨rfl, rfl, hr1, hg1⟩ := hcut
    obtain ⟨g1, hg1e⟩ : ∃ g, g = w.heap.size := ⟨_, rfl⟩
    rw [← hg1e] at hr1 ⊢
    have HG1 := hid hg1e
    clear hg1e
    go_upto_region 3 with (refine wl_copy _ rfl (.tmp 18) (.tmp 19) 229 229 rfl 213 Tryz.underlying229 (by kernel_rfl) .u64 _ _ _ _ _ _ rfl rfl g1 0 213 (List.replicate N 0) vs hr1 (fun _ => rfl) (hy.keep hg1) (by simp) ?_; intro w2 hr2 hg2)
    have hw2 : w.grownBy w2 none := grown_new hg1 hg2 (fun g e => by cases e; rw [HG1.out]; exact Nat.le_refl _)
    go_simp
    go_cut [7, 8] from 21 to 26 (fun x y wc => ∃ g2 g3 : Nat, x = .slice (some ⟨g2, 0, none⟩) N N ∧ y = .slice (some ⟨g3, 0, none⟩) N N ∧ IRow wc g2 213 .u64 (List.replicate N 0) ∧ IRow wc g3 213 .u64 (List.replicate N 0) ∧ g2 ≠ g3 ∧ w2.heap.size ≤ g2 ∧ w2.heap.size ≤ g3 ∧ w2.grownBy wc none)
    case first =>
      go_region
      all_goals
        go_wp2_with fail
        go_meet
        have hx2 := rep2 w2 213 N
        first
          | exact ⟨_, _, rfl, rfl, hx2.1, hx2.2.1, by omega, by omega, by omega, hx2.2.2⟩
          | exact ⟨_, _, rfl, rfl, hx2.2.1, hx2.1, by omega, by omega, by omega, hx2.2.2⟩
    case rest =>
      obtain ⟨g2, g3, rfl, rfl, hr3, hr4, h23, h2, h3, hg3⟩ := hcut
      have hsp : splice (List.replicate N 0) 0 (vs.take N) = vs ++ List.replicate (N - M) 0 := by
        have := hy.len
        rw [List.take_of_length_le (by omega)]
        simp [splice, this]
      rw [hsp] at hr2
      have hgxw := hx.lt
      have hy0 : V W64 ((vs ++ List.replicate (N - M) 0).take N) = V W64 vs := by
        have := hy.len
        rw [List.take_of_length_le (by simp; omega), V_append, V_zeros]; simp
      have hx0 : V W64 (us.take N) = V W64 us := by rw [List.take_of_length_le (by omega)]
      have hz0 : Dg W64 (List.replicate N 0) := Dg.zeros W64_pos N
      have H0 : G4 w wc gx N (Nat.gcd (V W64 us) (V W64 vs)) N gx g1 g2 g3 us (vs ++ List.replicate (N - M) 0) (List.replicate N 0) (List.replicate N 0) :=
        { rx := hx.kept (grown_trans hw2 hg3) (by simp), ry := hr2.kept hg3 (by simp), rz := hr3, rv := hr4, lx := hu, ly := by have := hy.len; simp; omega, lr := by simp, ls := by simp,
          dx := hdu, dy := hdv.append (Dg.zeros W64_pos _), dr := hz0, ds := hz0, pq := by have := HG1.out; omega, pr := by have := hw2.size; omega, ps := by have := hw2.size; omega, qr := by have := hr2.lt; omega, qs := by have := hr2.lt; omega, rs' := h23,
          op := .inl rfl, oq := .inr (by rw [HG1.out]; exact Nat.le_refl _), or' := .inr (by have := hw2.size; omega), os := .inr (by have := hw2.size; omega), grow := grown_any (grown_trans hw2 hg3) _, nN := Nat.le_refl _,
          le := by rw [hx0, hy0]; exact hle, gcd := by rw [hx0, hy0] }
      have HH0 := hid H0
      generalize Nat.gcd (V W64 us) (V W64 vs) = G at *
      clear H0 hmk hsp hy0 hx0 hz0 hr1 hg1 hr2 hg2 hw2 hr3 hr4 h23 h2 h3 hg3 HG1 hy hx hu hdu hdv hle hM hgxw
      generalize vs ++ List.replicate (N - M) 0 = vs2 at *
      go_wp2_with fail
      go_loopg [5, 6, 7, 8] (V W64 (us.take N) + V W64 (vs2.take N)) (fun k x y z v wr => ∃ (n p q r s : Nat) (xs ys rs ss : List Nat), x = .slice (some ⟨p, 0, none⟩) n N ∧ y = .slice (some ⟨q, 0, none⟩) n N ∧ z = .slice (some ⟨r, 0, none⟩) n N ∧ v = .slice (some ⟨s, 0, none⟩) n N ∧
        Hid (G4 w wr gx N G n p q r s xs ys rs ss ∧ k = V W64 (xs.take n) + V W64 (ys.take n)))
      case atStart => exact ⟨N, gx, g1, g2, g3, us, vs2, _, _, rfl, rfl, rfl, rfl, hid ⟨HH0.out, rfl⟩⟩
      case round =>
        clear HH0
        obtain ⟨n, p, q, r, s, xs, ys, rs, ss, rfl, rfl, rfl, rfl, HR⟩ := hrel
        have hnN : n ≤ N := HR.out.1.nN
        have T1 := hid (trim64 (some ⟨p, 0, none⟩) n N (xs.take n) wr (IRow.rdn HR.out.1.rx n N (by rw [HR.out.1.lx]; exact hnN) hnN (by omega)))
        obtain ⟨hc1, hc2, hc3⟩ := HR.out.1.cut
        have hk : gk = V W64 (xs.take (trimR (xs.take n)).length) + V W64 (ys.take (trimR (xs.take n)).length) := by rw [hc2, hc3]; exact HR.out.2
        have hcan := Can_trimR (HR.out.1.dx.take n)
        rw [trim_take] at hcan
        generalize (trimR (xs.take n)).length = nn at *
        have H1 := hid hc1
        have HK := hid hk
        have HCAN := hid hcan
        have hnn : nn ≤ N := hc1.nN
        have hn0 : (0 : Int) ≤ (nn : Int) := by omega
        have hn1 : (nn : Int) ≤ (N : Int) := by omega
        clear hc1 hc2 hc3 hk hcan HR
        go_upto_region 5 with (go_at_call 199; (with_reducible refine (T1.out).mono ?_); rintro e w' ⟨rfl, rfl⟩)
        go_quiet (fail)
        have H2 := hid (H1.out.keep (grown_drewN wr nq none))
        clear H1 T1
        generalize wr.drewN nq = wz at *
        have T2 := hid (trim64 (some ⟨q, 0, none⟩) nn N (ys.take nn) wz (IRow.rdn H2.out.ry nn N (by rw [H2.out.ly]; exact hnn) hnn (by omega)))
        have hyv : V W64 (ys.take (trimR (ys.take nn)).length) = V W64 (ys.take nn) := by rw [← trim_take, V_trimR]
        have hcan := Can_trimR (H2.out.dy.take nn)
        rw [trim_take] at hcan
        have hmn : (trimR (ys.take nn)).length ≤ nn := by
          have := trimR_length_le (ys.take nn)
          have h2 : (ys.take nn).length ≤ nn := by rw [List.length_take]; omega
          omega
        generalize (trimR (ys.take nn)).length = m at *
        have HY := hid hyv
        have HCY := hid hcan
        clear hyv hcan
        rcases Nat.eq_zero_or_pos m with hm0 | hm0
        · subst hm0
          have hfin : V W64 (xs.take nn) = G := by
            have := H2.out.gcd
            rw [← HY.out] at this
            simpa using this
          have HF := hid hfin
          clear hfin
          go_wp2_with (go_at_call 199; (with_reducible refine (T2.out).mono ?_); rintro e w' ⟨rfl, rfl⟩)
          go_ret
          exact ⟨_, nn, N, xs.take nn, rfl, IRow.rdn H2.out.rx nn N (by rw [H2.out.lx]; exact hnn) hnn (by omega), by omega, hid ⟨H2.out.dx.take nn, HF.out⟩, H2.out.grow⟩
        rcases Nat.lt_or_ge 1 m with hm1 | hm1
        rotate_left
        · obtain rfl : m = 1 := by omega
          have hyl : 0 < ys.length := by rw [H2.out.ly]; omega
          have hcell := H2.out.ry.cell 0 hyl
          have hd : ys[0] < W64 := H2.out.dy.get 0 hyl
          have hvy : V W64 (ys.take 1) = ys[0] := by
            have := V_take_succ (B := W64) ys 0 hyl
            simpa using this
          have hd0 : 0 < ys[0] := by
            refine Nat.pos_of_ne_zero fun e => HCY.out.2 ?_
            rw [List.take_succ_eq_append_getElem hyl, e]; simp
          generalize ys[0] = d at *
          have D1 := divW_any p nn N xs d wz.drew H2.out.rx.drew (by rw [H2.out.lx]; exact hnn) hnn (by omega) (by rw [H2.out.lx]; omega) H2.out.dx hd0 hd
          have hx5 : V W64 (xs.take nn) % d < d := Nat.mod_lt _ hd0
          have hgg : Nat.gcd d (V W64 (xs.take nn) % d) = G := by
            rw [Nat.gcd_comm, ← Nat.gcd_rec, Nat.gcd_comm, ← hvy, HY.out]; exact H2.out.gcd
          have hGd : G ≤ d := by rw [← hgg]; exact Nat.gcd_le_left _ hd0
          generalize V W64 (xs.take nn) % d = x5 at *
          have hx5W : x5 < W64 := Nat.lt_trans hx5 hd
          have D2 : ∀ w5, wz.drew.grownBy w5 (some p) → Calls Tryz.prog 229 #[.int .u64 d, .int .u64 x5] w5 fun e w' => e = .returned (.int .u64 G) ∧ w5 = w' := fun w5 hg5 => by
            have := wordGcd_any d x5 hd hx5W w5 (tb_kept hT (grown_sub (grown_none H2.out.grow (grown_drew _ none)) hg5 H2.out.op) hgT)
            rwa [hgg] at this
          have HD1 := hid D1
          have HD2 := hid D2
          have HGW : Hid (G < W64) := hid (by omega)
          have HPQ := hid H2.out.pq
          have hcd : wz.drew.cell? ⟨q, 0, none⟩ = some (.int .u64 d) := hcell
          clear D1 D2 hx5 hgg hGd hx5W hvy hyl hd hd0 HY HCY
          go_upto_region 11 with (go_at_call 199; (with_reducible refine (T2.out).mono ?_); rintro e w' ⟨rfl, rfl⟩)
          go_region_held3 (fun w' => w'.cell? ⟨q, 0, none⟩ = some (.int .u64 d)) (first | assumption | (exact hg5.cell hcd (by simp; exact fun e => HPQ.out e.symm)) | (refine (World.grownBy_alloc _ _ none).cell ?_ (by simp); exact hg5.cell hcd (by simp; exact fun e => HPQ.out e.symm)))
            (first
              | (go_at_call 198; (with_reducible refine (HD1.out).mono ?_); rintro e w5 ⟨cur5, rfl, hr5, hg5, HC5⟩)
              | (go_at_call 229; (with_reducible refine (HD2.out _ hg5).mono ?_); rintro e w' ⟨rfl, rfl⟩))
          go_wp2
          go_ret
          exact ⟨_, 1, 1, [G], rfl, one_rd w5 _ _ _ G rfl, by omega, hid ⟨Dg.cons HGW.out Dg.nil, by simp⟩, grown_none (grown_sub (grown_none H2.out.grow (grown_drew _ none)) hg5 H2.out.op) (World.grownBy_alloc _ _ _)⟩
        · obtain ⟨mm, rfl⟩ : ∃ mm, m = mm + 2 := ⟨m - 2, by omega⟩
          obtain ⟨k, rfl⟩ : ∃ k, nn = k + 2 := ⟨nn - 2, by omega⟩
          have hxr := IRow.rdn H2.out.rx (k + 2) N (by rw [H2.out.lx]; exact hnn) hnn (by omega)
          have hyr := IRow.rdn H2.out.ry (k + 2) N (by rw [H2.out.ly]; exact hnn) hnn (by omega)
          have htop : ∀ t, (xs.take (k + 2))[k + 1]? = some t → 0 < t := fun t ht => by
            refine Nat.pos_of_ne_zero fun e => HCAN.out.2 ?_
            rw [List.getLast?_eq_getElem?, hxr.len, ← e]; exact ht
          have L1 := hid (leading_any (some ⟨p, 0, none⟩) (some ⟨q, 0, none⟩) k N N (xs.take (k + 2)) (ys.take (k + 2)) wz hxr hyr (H2.out.dx.take _) (H2.out.dy.take _) (by omega) htop H2.out.le)
          have HXR := hid hxr
          have HYR := hid hyr
          clear hxr hyr htop
          have c0 : (((mm : Int) + 2) == 0) = false := by simp; omega
          have c1 : (((mm : Int) + 2) == 1) = false := by simp; omega
          go_upto_region 13 with (first
            | (go_at_call 199; (with_reducible refine (T2.out).mono ?_); rintro e w' ⟨rfl, rfl⟩)
            | (go_at_call 261; (with_reducible refine (L1.out).mono ?_); rintro e w' ⟨A, C, rfl, hA, hC, HLD, nq, rfl⟩)
            | (go_at_call 260; (with_reducible refine (euclid_any A C hA hC _).mono ?_); rintro e w3 ⟨x0, y0, x1, y1, t, rfl, b0, b1, b2, b3, ht, HE, hg3⟩))
          have hb : Rst (w3.alloc (.cells #[.int .u64 x0, .int .u64 y0, .int .u64 x1, .int .u64 y1, .int .i64 t] 265)) w3.heap.size x0 y0 x1 y1 t := heap_alloc_new w3 _
          have H3 := hid (((H2.out.keep (grown_drewN wz nq none)).keep hg3).keep (World.grownBy_alloc w3 (.cells #[.int .u64 x0, .int .u64 y0, .int .u64 x1, .int .u64 y1, .int .i64 t] 265) none))
          clear H2 L1 T2 HXR HYR hg3
          generalize hwb : w3.alloc (.cells #[.int .u64 x0, .int .u64 y0, .int .u64 x1, .int .u64 y1, .int .i64 t] 265) = wb at *
          clear hwb
          generalize w3.heap.size = gb at *
          obtain ⟨f0, f1, f2, f3, f4, _⟩ := hb.facts
          clear hb
          have hxr := IRow.rdn H3.out.rx (k + 2) N (by rw [H3.out.lx]; exact hnn) hnn (by omega)
          have hyr := IRow.rdn H3.out.ry (k + 2) N (by rw [H3.out.ly]; exact hnn) hnn (by omega)
          have ht0 : (0 : Int) ≤ (t : Int) := by omega
          by_cases ht1 : t = 0
          · have hte : (((t : Int) == 0)) = true := by simp; omega
            have hyr2 := IRow.rdn H3.out.ry (mm + 2) N (by rw [H3.out.ly]; omega) (by omega) (by omega)
            have htop : ∀ t, (ys.take (mm + 2))[mm + 1]? = some t → 0 < t := fun t ht => by
              refine Nat.pos_of_ne_zero fun e => HCY.out.2 ?_
              rw [List.getLast?_eq_getElem?, hyr2.len, ← e]; exact ht
            have hypos : 0 < V W64 (ys.take (mm + 2)) := HCY.out.pos W64_pos (fun e => by
              have := congrArg List.length e
              rw [hyr2.len] at this; simp at this)
            have DV := hid (divide_len (some ⟨p, 0, none⟩) (some ⟨q, 0, none⟩) (k + 2) mm N N (xs.take (k + 2)) (ys.take (mm + 2)) wb hxr hyr2 (H3.out.dx.take _) (H3.out.dy.take _) hmn (by omega) (by omega) htop)
            have HYP := hid hypos
            clear ht1 hxr hyr hyr2 htop hypos
            go_wp2_with (first
              | (go_at_call 234; (with_reducible refine (DV.out).mono ?_); rintro e w5 ⟨a1, a2, n1, n2, qs, rs', rfl, hq5, hr5, hn15, hn25, HDV, hg5⟩)
              | (refine wl_copy _ rfl (.tmp 76) (.tmp 77) 229 229 rfl 213 Tryz.underlying229 (by kernel_rfl) .u64 _ _ _ _ _ _ rfl rfl p 0 213 xs rs' (H3.out.rx.kept hg5 (by simp)) (fun _ => rfl) hr5 (by rw [H3.out.lx]; omega) ?_; intro w6 hr6 hg6))
            obtain ⟨_, v1, _, v2, v3⟩ := HDV.out
            have v4 : V W64 rs' < V W64 (ys.take (mm + 2)) := by rw [v2]; exact Nat.mod_lt _ HYP.out
            rw [HY.out] at v2 v4
            have v5 := V_take_lt H3.out.dy (k + 2) (by rw [H3.out.ly]; exact hnn)
            obtain ⟨c1, c2, c3⟩ := copied_rest H3.out.lx hnn H3.out.dx v1 v3 (Nat.lt_trans v4 v5)
            have v6 := H3.out.le
            have v7 := HK.out
            have v8 : 0 < V W64 (ys.take (k + 2)) := by rw [← HY.out]; exact HYP.out
            have HS := hid ((H3.out.keep hg5).swap hr6 hg6 c1 c2 (by rw [c3, v2]) v8)
            have HC3 := hid c3
            go_roundg (V W64 (ys.take (k + 2)) + V W64 rs')
            case measure => omega
            case rel => exact ⟨k + 2, q, p, r, s, ys, _, rs, ss, rfl, rfl, rfl, rfl, hid ⟨HS.out, by rw [HC3.out]⟩⟩
          · have hte : (((t : Int) == 0)) = false := by simp; omega
            obtain ⟨h, o, hE⟩ := HE.out
            have RO := hid (restsOf_any r s (k + 2) N N rs ss (xs.take (k + 2)) (ys.take (k + 2)) (some ⟨p, 0, none⟩) (some ⟨q, 0, none⟩) N N x0 y0 x1 y1 t wb H3.out.rz H3.out.rv H3.out.rs' hxr hyr (fun a e => by cases e; exact H3.out.pr) (fun a e => by cases e; exact H3.out.ps) (fun a e => by cases e; exact H3.out.qr) (fun a e => by cases e; exact H3.out.qs)
              (by rw [H3.out.lr]; exact hnn) (by rw [H3.out.ls]; exact hnn) (by rw [H3.out.lr]; omega) (by rw [H3.out.ls]; omega) hnn hnn (by omega) (by omega) H3.out.dr H3.out.ds (H3.out.dx.take _) (H3.out.dy.take _) b0 b1 b2 b3 ht (by omega) A C h o hE HLD.out)
            clear ht1 hxr hyr hE
            go_wp2_with (go_at_call 262; (with_reducible refine (RO.out).mono ?_); rintro e w5 ⟨d3, d4, wa, wc5, rfl, hr5, hr6, hga, hgb5, hgc, HD⟩)
            obtain ⟨l3, l4, e3, e4, hL⟩ := HD.out
            have HS := hid (H3.out.leh hr5 hr6 hga hgb5 hgc l3 l4 e3 e4 hL)
            have v1 := hL.2.2.1
            have v7 := HK.out
            go_roundg (V W64 (d3.take (k + 2)) + V W64 (d4.take (k + 2)))
            case measure => omega
            case rel => exact ⟨k + 2, r, s, p, q, d3, d4, xs, ys, rfl, rfl, rfl, rfl, hid ⟨HS.out, rfl⟩⟩
def NPost (w : World) (G : Nat) (e : Ending) (w' : World) : Prop := ∃ p c, e = .returned (.slice p (dg 65536 G).length c) ∧ IRd w' .u16 p (dg 65536 G).length c (dg 65536 G) ∧ w.grownBy w' none
theorem Tb.lt {w : World} (h : Tb w) : 5 < w.heap.size := World.block_lt_of_cell? _ _ (h 0 (by omega))
structure Gs (w : World) (p q : Option Addr) (n c m d : Nat) (us vs : List Nat) (G : Nat) : Prop where
  rx : IRd w .u16 p n c us
  ry : IRd w .u16 q m d vs
  cx : Nm.Can 65536 us
  cy : Nm.Can 65536 vs
  le : V 65536 vs ≤ V 65536 us
  gcd : Nat.gcd (V 65536 us) (V 65536 vs) = G
  hn : n ≤ 800000
set_option maxHeartbeats 4000000 in
theorem natGcd_any (a b : Option Addr) (n m c d : Nat) (xs ys : List Nat) (w : World) (hT : Tb w) (h : IRd w .u16 a n c xs) (k : IRd w .u16 b m d ys) (hx : Dg 65536 xs) (hy : Dg 65536 ys) (hn : n ≤ 800000) (hm : m ≤ 800000) :
    Calls Tryz.prog 187 #[.slice a n c, .slice b m d] w (NPost w (Nat.gcd (V 65536 xs) (V 65536 ys))) := by
  have ht := h.take (trimR xs).length (by rw [← h.len]; exact trimR_length_le xs)
  have kt := k.take (trimR ys).length (by rw [← k.len]; exact trimR_length_le ys)
  rw [← trimR_eq_take] at ht kt
  have hcx := Can_trimR hx
  have hcy := Can_trimR hy
  have hvx := V_trimR (B := 65536) xs
  have hvy := V_trimR (B := 65536) ys
  have hnl : (trimR xs).length ≤ n := by rw [← h.len]; exact trimR_length_le xs
  have hml : (trimR ys).length ≤ m := by rw [← k.len]; exact trimR_length_le ys
  have R1 := hid (trim16 a n c xs w h)
  have R2 := hid (trim16 b m d ys w k)
  rw [← hvx, ← hvy]
  generalize trimR xs = us at *
  generalize trimR ys = vs at *
  have hnl8 : us.length ≤ 800000 := by omega
  have hml8 : vs.length ≤ 800000 := by omega
  clear hvx hvy h k hnl hml hx hy
  have R3 := natCmp_any a b us.length vs.length c d us vs w ht kt hcx.1 hcy.1
  have A1 : ∀ wc, w.grownBy wc none → V 65536 vs ≤ V 65536 us → Gs wc a b us.length c vs.length d us vs (Nat.gcd (V 65536 us) (V 65536 vs)) := fun wc hg hle => ⟨ht.keep hg, kt.keep hg, hcx, hcy, hle, rfl, hnl8⟩
  have A2 : ∀ wc, w.grownBy wc none → V 65536 us ≤ V 65536 vs → Gs wc b a vs.length d us.length c vs us (Nat.gcd (V 65536 us) (V 65536 vs)) := fun wc hg hle => ⟨kt.keep hg, ht.keep hg, hcy, hcx, hle, Nat.gcd_comm _ _, hml8⟩
  generalize Nat.gcd (V 65536 us) (V 65536 vs) = G at *
  have HA1 := hid A1
  have HA2 := hid A2
  clear A1 A2 hcx hcy ht kt
  generalize us.length = lx at *
  generalize vs.length = ly at *
  have cut1 : Hid (∃ z : Int, cmpI (V 65536 us : Nat) (V 65536 vs : Nat) = z ∧ ((z < 0 ∧ V 65536 us ≤ V 65536 vs) ∨ (¬ z < 0 ∧ V 65536 vs ≤ V 65536 us))) := hid (by
    rcases Nat.lt_or_ge (V 65536 us) (V 65536 vs) with hl | hl
    · exact ⟨-1, cmpI_lt hl, .inl ⟨by omega, by omega⟩⟩
    · rcases Nat.eq_or_lt_of_le hl with he | hl2
      · exact ⟨0, by rw [he]; exact cmpI_eq _, .inr ⟨by omega, hl⟩⟩
      · exact ⟨1, cmpI_gt hl2, .inr ⟨by omega, hl⟩⟩)
  obtain ⟨z, hz, hcase⟩ := cut1.out
  rw [hz] at R3
  have HR3 := hid R3
  clear R3 hz cut1
  go_enter Tryz.func187, Tryz.ntmps187
  go_upto_if 13 with (first
    | (go_at_call 194; (with_reducible refine (R1.out).mono ?_); rintro e w' ⟨rfl, rfl⟩)
    | (go_at_call 194; (with_reducible refine (R2.out).mono ?_); rintro e w' ⟨rfl, rfl⟩)
    | (go_at_call 227; (with_reducible refine (HR3.out).mono ?_); rintro e w1 ⟨rfl, hg1⟩))
  go_cut [0, 1] from 14 to 15 (fun x y wc => ∃ (p q : Option Addr) (n c m d : Nat) (us vs : List Nat), x = .slice p n c ∧ y = .slice q m d ∧ Hid (Gs wc p q n c m d us vs G) ∧ w.grownBy wc none)
  case first =>
    rcases hcase with ⟨hz, hle⟩ | ⟨hz, hle⟩
    · have H := hid (HA2.out w1 hg1 hle)
      clear hle
      go_wp2_with fail
      go_meet
      exact ⟨_, _, _, _, _, _, _, _, rfl, rfl, H, hg1⟩
    · have H := hid (HA1.out w1 hg1 hle)
      clear hle
      go_wp2_with fail
      go_meet
      exact ⟨_, _, _, _, _, _, _, _, rfl, rfl, H, hg1⟩
  case rest =>
    obtain ⟨p, q, n, c, m, d, us, vs, rfl, rfl, HG, hgw⟩ := hcut
    clear HA1 HA2 HR3 R1 R2 hcase
    have hTc := hT.keep hgw
    have hn8 := HG.out.hn
    have hlu := HG.out.rx.len
    have hlv := HG.out.ry.len
    have hmn : m ≤ n := by
      rw [← hlu, ← hlv]
      refine Nat.le_of_not_lt fun hlt => ?_
      have := Nm.Can.lt_of_length (B := 65536) (by omega) HG.out.cx.1 HG.out.cy hlt
      have := HG.out.le
      omega
    have hcap := HG.out.rx.cap
    have hmax := HG.out.rx.max
    have kcap := HG.out.ry.cap
    have kmax := HG.out.ry.max
    have HLU := hid hlu
    have HLV := hid hlv
    clear hlu hlv
    rcases Nat.eq_zero_or_pos m with h0 | h0
    · subst h0
      have hv : vs = [] := List.eq_nil_of_length_eq_zero HLV.out
      have hG : V 65536 us = G := by have := HG.out.gcd; rw [hv] at this; simpa using this
      have e := eq_dg (by omega) HG.out.cx
      rw [hG] at e
      have HE := hid e
      clear e hG hv
      go_wp2_with (go_at_call 228; refine (clone_any _ _ _ us _ HG.out.rx (by omega)).mono ?_; rintro e w2 ⟨rfl, hr2, hg2⟩)
      go_ret
      have hrd := hr2.rd0 (by rw [HLU.out]; omega)
      have hl : (dg 65536 G).length = n := by rw [← HE.out]; exact HLU.out
      exact ⟨_, n, by rw [hl]; rfl, by rw [hl, ← HE.out]; rwa [HLU.out] at hrd, grown_trans hgw hg2⟩
    have m0 : ((m : Int) == 0) = false := by simp; omega
    have hvpos : 0 < V 65536 vs := HG.out.cy.pos (by omega) (fun e => by have := HLV.out; rw [e] at this; simp at this; omega)
    by_cases h4 : n ≤ 4
    · have n4 : (n : Int) ≤ 4 := by omega
      have hxb : V 65536 us < W64 := by rw [W64_eq]; exact V_word HG.out.cx.1 4 (by rw [HLU.out]; exact h4)
      have hyb : V 65536 vs < W64 := by rw [W64_eq]; exact V_word HG.out.cy.1 4 (by rw [HLV.out]; omega)
      have W1 := word_any p n c us wc HG.out.rx HG.out.cx.1 h4
      have W2 := word_any q m d vs wc HG.out.ry HG.out.cy.1 (by omega)
      have W3 := wordGcd_any (V 65536 us) (V 65536 vs) hxb hyb wc hTc
      have hgg := HG.out.gcd
      rw [hgg] at W3
      have hGb : G < W64 := by rw [← hgg]; exact Nat.lt_of_le_of_lt (Nat.gcd_le_right _ hvpos) hyb
      generalize V 65536 us = X at *
      generalize V 65536 vs = Y at *
      have K1 := hid W1
      have K2 := hid W2
      have K3 := hid W3
      clear W1 W2 W3 hgg hxb hyb hvpos
      have HGB := hid hGb
      clear hGb
      go_wp2_with (first
        | (go_at_call 196; (with_reducible refine (K1.out).mono ?_); rintro e w' ⟨rfl, rfl⟩)
        | (go_at_call 196; (with_reducible refine (K2.out).mono ?_); rintro e w' ⟨rfl, rfl⟩)
        | (go_at_call 229; (with_reducible refine (K3.out).mono ?_); rintro e w' ⟨rfl, rfl⟩)
        | (go_at_call 182; (with_reducible refine (of_at _ G rfl HGB.out _).mono ?_); rintro e w4 ⟨p2, c2, rfl, hr4, hg4⟩))
      go_ret
      exact ⟨p2, c2, rfl, hr4, grown_trans hgw hg4⟩
    · have n4 : ¬ (n : Int) ≤ 4 := by omega
      by_cases h5 : m ≤ 4
      · have m4 : (m : Int) ≤ 4 := by omega
        have hyb : V 65536 vs < W64 := by rw [W64_eq]; exact V_word HG.out.cy.1 4 (by rw [HLV.out]; omega)
        have K1 := hid (word_any q m d vs wc HG.out.ry HG.out.cy.1 h5)
        have K2 := hid (pack_any p n c us wc HG.out.rx HG.out.cx.1 (by omega))
        generalize hyv : V 65536 vs = Y at *
        have HY := hid hyv
        clear hyv
        go_wp2_with (first
          | (go_at_call 196; (with_reducible refine (K1.out).mono ?_); rintro e w' ⟨rfl, rfl⟩)
          | (go_at_call 197; (with_reducible refine (K2.out).mono ?_); rintro e w1 ⟨L, zs, rfl, hr1, HZ, hg1⟩))
        have hLz := HZ.out.2.1
        have hLb : L ≤ 250000 := by have := HZ.out.1; omega
        have hVz : V W64 (zs.take L) = V 65536 us := by rw [List.take_of_length_le (by rw [hLz]; exact Nat.le_refl _)]; exact HZ.out.2.2.1
        have D1 := divW_any wc.heap.size L L zs Y w1 hr1 (by omega) (Nat.le_refl _) (by omega) (by omega) HZ.out.2.2.2 hvpos hyb
        rw [hVz] at D1
        have hrb : V 65536 us % Y < W64 := Nat.lt_trans (Nat.mod_lt _ hvpos) hyb
        have hgg : Nat.gcd Y (V 65536 us % Y) = G := by
          rw [Nat.gcd_comm, ← Nat.gcd_rec, Nat.gcd_comm, ← HY.out]; exact HG.out.gcd
        have hGb : G < W64 := by rw [← hgg]; exact Nat.lt_of_le_of_lt (Nat.gcd_le_left _ hvpos) hyb
        have G1 : ∀ w2, w1.grownBy w2 (some wc.heap.size) → wc.grownBy w2 none := fun w2 hg2 => grown_new hg1 hg2 (fun g' e' => by cases e'; exact Nat.le_refl _)
        have W3 : ∀ w2, wc.grownBy w2 none → Calls Tryz.prog 229 #[.int .u64 Y, .int .u64 (V 65536 us % Y : Nat)] w2 fun e w' => e = .returned (.int .u64 G) ∧ w2 = w' := fun w2 hg2 => by
          have := wordGcd_any Y (V 65536 us % Y) hyb hrb w2 (hTc.keep hg2)
          rwa [hgg] at this
        generalize V 65536 us % Y = R at *
        have HD1 := hid D1
        have HG1 := hid G1
        have HW3 := hid W3
        have HGB := hid hGb
        clear D1 G1 W3 hGb hgg hrb hVz hLz hyb hvpos hr1
        go_wp2_with fail
        refine HD1.out.mono ?_
        rintro e w2 ⟨cu, rfl, _, hg2, _⟩
        have hg2' := HG1.out w2 hg2
        have HW4 := hid (HW3.out w2 hg2')
        clear HW3 HD1 HG1
        go_wp2_with fail
        refine HW4.out.mono ?_
        rintro e w' ⟨rfl, rfl⟩
        go_wp2_with fail
        refine (of_at _ G rfl HGB.out _).mono ?_
        rintro e w4 ⟨p2, c2, rfl, hr4, hg4⟩
        go_wp2_with fail
        go_ret
        exact ⟨p2, c2, rfl, hr4, grown_trans hgw (grown_trans hg2' hg4)⟩
      · have m4 : ¬ (m : Int) ≤ 4 := by omega
        have K1 := hid (pack_any p n c us wc HG.out.rx HG.out.cx.1 (by omega))
        have K2 := hid (fun w1 (hg1 : wc.grownBy w1 none) => pack_any q m d vs w1 (HG.out.ry.keep hg1) HG.out.cy.1 (by omega))
        go_wp2_with fail
        refine K1.out.mono ?_
        rintro e w1 ⟨L, zs, rfl, hr1, HZ, hg1⟩
        go_wp2_with fail
        refine (K2.out w1 hg1).mono ?_
        rintro e w2 ⟨M, ws, rfl, hr2, HWS, hg2⟩
        have hTl := hTc.lt
        have hrd2 := hr2.rd0 (by have := HWS.out.1; have := HWS.out.2.1; omega)
        rw [HWS.out.2.1] at hrd2
        have WGC := wordsGcd_any wc.heap.size L M M (some ⟨w1.heap.size, 0, none⟩) zs ws w2 ((hTc.keep hg1).keep hg2) (by omega) (hr1.kept hg2 (by simp)) HZ.out.2.1 hrd2 (by have := HZ.out.1; have := HWS.out.1; omega) (by have := HZ.out.1; omega) HZ.out.2.2.2 HWS.out.2.2.2
          (by rw [HZ.out.2.2.1, HWS.out.2.2.1]; exact HG.out.le)
        rw [HZ.out.2.2.1, HWS.out.2.2.1, HG.out.gcd] at WGC
        have HWG := hid WGC
        have hg12 := grown_trans hg1 hg2
        clear WGC hrd2 hr1 hr2 hvpos hTl K1 K2
        go_wp2_with fail
        refine HWG.out.mono ?_
        rintro e w3 ⟨p3, n3, c3, ls, rfl, hr3, hn3, HL, hg3⟩
        have hg3' : wc.grownBy w3 none := grown_new hg12 hg3 (fun g' e' => by cases e'; exact Nat.le_refl _)
        have U := unpack_any p3 n3 c3 ls w3 hr3 HL.out.1 (by omega)
        rw [HL.out.2] at U
        have HU := hid U
        clear U hr3
        go_wp2_with fail
        refine HU.out.mono ?_
        rintro e w4 ⟨p4, c4, rfl, hr4, hg4⟩
        go_wp2_with fail
        go_ret
        exact ⟨p4, c4, rfl, hr4, grown_trans hgw (grown_trans hg3' hg4)⟩
section
variable {w w' : World} {p q : Option Addr} {n c m d N M : Nat}
theorem natGcd_n (hT : Tb w) (hA : IsN w p n c N) (hB : IsN w q m d M) (hn : n ≤ 800000) (hm : m ≤ 800000) :
    Calls Tryz.prog 187 #[.slice p n c, .slice q m d] w fun e w' => ∃ p' n' c', e = .returned (.slice p' n' c') ∧ IsC w' p' n' c' (Nat.gcd N M) ∧ n' ≤ max n m ∧ w.grownBy w' none := by
  have lA := hA.lt
  have lB := hB.lt
  obtain ⟨L, h1, h2, rfl⟩ := hA
  obtain ⟨K, k1, k2, rfl⟩ := hB
  refine (natGcd_any p q n m c d L K w hT h1 k1 h2 k2 hn hm).mono fun e w' ⟨p', c', he, g1, hg⟩ => ⟨p', _, c', he, g1, ?_, hg⟩
  refine dg_length_le (by omega) ?_
  rcases Nat.eq_zero_or_pos (V 65536 L) with h0 | h0
  · rw [h0, Nat.gcd_zero_left]; exact Nat.lt_of_lt_of_le lB (Nat.pow_le_pow_right (by omega) (by omega))
  · exact Nat.lt_of_le_of_lt (Nat.gcd_le_left _ h0) (Nat.lt_of_lt_of_le lA (Nat.pow_le_pow_right (by omega) (by omega)))
end
theorem IsC.zero_len {w : World} {p : Option Addr} {n c N : Nat} (h : IsC w p n c N) : (n = 0 ∧ N = 0) ∨ (0 < n ∧ 0 < N) := by
  have hl := h.len
  rcases Nat.eq_zero_or_pos N with h0 | h0
  · subst h0
    rw [dg_zero] at hl
    exact .inl ⟨by simpa using hl.symm, rfl⟩
  · refine .inr ⟨?_, h0⟩
    rcases Nat.eq_zero_or_pos n with h1 | h1
    · have e := V_dg (B := 65536) (by omega) N
      rw [List.eq_nil_of_length_eq_zero (hl.trans h1)] at e
      simp at e; omega
    · exact h1
def RPost (w : World) (k G : Nat) (e : Ending) (w' : World) : Prop := ∃ p n c, e = .returned (.slice p n c) ∧ IsC w' p n c G ∧ n ≤ k ∧ w.grownBy w' none
set_option maxHeartbeats 2000000 in
theorem refGcd_n {w : World} {p q : Option Addr} {n c m d N M : Nat} (hA : IsN w p n c N) (hB : IsN w q m d M) (hn : n ≤ 1100000) (hm : m ≤ 1100000) :
    Calls Tryz.prog 243 #[.slice p n c, .slice q m d] w (RPost w (max n m) (Nat.gcd N M)) := by
  obtain ⟨k, hk⟩ : ∃ k, k = max n m := ⟨_, rfl⟩
  obtain ⟨G, hG⟩ : ∃ G, G = Nat.gcd N M := ⟨_, rfl⟩
  rw [← hk, ← hG]
  have hk1 : n ≤ k := by omega
  have hk2 : m ≤ k := by omega
  have hk3 : k ≤ 1100000 := by omega
  have HG := hid hG
  clear hk hG
  go_enter Tryz.func243, Tryz.ntmps243
  go_wp2_with fail
  refine (refNorm_n hA (by omega)).mono ?_
  rintro e w1 ⟨p1, n1, c1, rfl, hA1, hn1, hg1⟩
  go_wp2_with fail
  refine (refNorm_n (hB.keep hg1) (by omega)).mono ?_
  rintro e w2 ⟨p2, n2, c2, rfl, hB2, hn2, hg2⟩
  have hA2 := hA1.keep hg2
  have hW := grown_trans hg1 hg2
  clear hA hB hA1 hg1 hg2
  go_wp2_with fail
  go_loopg [0, 1] M (fun j x y wr => ∃ (p q : Option Addr) (n c m d A : Nat), x = .slice p n c ∧ y = .slice q m d ∧ IsC wr p n c A ∧ IsC wr q m d j ∧ n ≤ k ∧ m ≤ k ∧ w.grownBy wr none ∧ Hid (Nat.gcd A j = G))
  case atStart => exact ⟨_, _, _, _, _, _, N, rfl, rfl, hA2, hB2, by omega, by omega, hW, hid HG.out.symm⟩
  case round =>
    clear hA2 hB2 hW HG
    obtain ⟨p, q, n, c, m, d, A, rfl, rfl, hA, hB, hn, hm, hW, HG⟩ := hrel
    rcases hB.zero_len with ⟨rfl, rfl⟩ | ⟨h1, h2⟩
    · have hF : IsC wr p n c G := by have := HG.out; rw [Nat.gcd_zero_right] at this; exact this ▸ hA
      go_wp2
      go_ret
      exact ⟨p, n, c, rfl, hF, hn, hW⟩
    · have hlt := Nat.mod_lt A h2
      have hi : (0 : Int) < (m : Int) := by omega
      go_wp2_with fail
      refine (refDivMod_n hA.isN hB.isN (by omega) (by omega) h2).mono ?_
      rintro e w3 ⟨p3, n3, c3, p4, n4, c4, rfl, hQ, hR, hn3, hn4, hg3⟩
      have hB3 := hB.keep hg3
      have hW3 := grown_trans hW hg3
      clear hA hB hQ hW hg3
      have HR := hid (And.intro hR hB3)
      clear hR hB3
      go_wp2_with fail
      go_roundg (A % gk)
      case measure => exact hlt
      case rel => exact ⟨_, _, _, _, _, _, gk, rfl, rfl, HR.out.2, HR.out.1, hm, by omega, hW3, hid (by rw [Nat.gcd_comm, ← Nat.gcd_rec, Nat.gcd_comm]; exact HG.out)⟩
def DmIE (w : World) (e : Ending) (w' : World) : Prop := e = .returned (.tuple #[.agg #[.bool false, .slice none 0 0], .agg #[.bool false, .slice none 0 0], .int .i64 3]) ∧ w.grownBy w' none
theorem DmIE.close {w W w5 : World} {G G2 : Nat} (hg3 : w.grownBy W none) (hG : w.heap.size ≤ G) (hG2 : w.heap.size ≤ G2) (hg35 : W.grownBy w5 none) (a b c d : Value) :
    DmIE w (.returned (.tuple #[.agg #[.bool false, .slice none 0 0], .agg #[.bool false, .slice none 0 0], .int .i64 3])) ((((w5.setCell ⟨G, 0, none⟩ a).setCell ⟨G, 1, none⟩ b).setCell ⟨G2, 0, none⟩ c).setCell ⟨G2, 1, none⟩ d) := by
  have h := grown_trans hg3 hg35
  have h1 : w.grownBy ((w5.setCell ⟨G, 0, none⟩ a).setCell ⟨G, 1, none⟩ b) none := grown_new h (grown_trans (grown_setCell w5 ⟨G, 0, none⟩ a) (grown_setCell _ ⟨G, 1, none⟩ b)) (fun g e => by cases e; exact hG)
  exact ⟨rfl, grown_new h1 (grown_trans (grown_setCell _ ⟨G2, 0, none⟩ c) (grown_setCell _ ⟨G2, 1, none⟩ d)) (fun g e => by cases e; exact hG2)⟩
set_option maxHeartbeats 1000000 in
theorem natUint_any (a : Option Addr) (n c : Nat) (xs : List Nat) (w : World) (h : IRd w .u16 a n c xs) (hd : Dg 65536 xs) :
    Calls Tryz.prog 226 #[.slice a n c] w fun e w' => e = .returned (.tuple #[.int .u64 (if (trimR xs).length ≤ 4 then V 65536 xs else 0 : Nat), .bool (decide ((trimR xs).length ≤ 4))]) ∧ w = w' := by
  have hl : (trimR xs).length ≤ n := by rw [← h.len]; exact trimR_length_le xs
  have ht := h.take (trimR xs).length hl
  rw [← trimR_eq_take] at ht
  have R1 := hid (trim16 a n c xs w h)
  have hcx := Can_trimR hd
  have hv := V_trimR (B := 65536) xs
  rw [← hv]
  clear hv
  generalize trimR xs = us at *
  clear h
  by_cases h4 : us.length ≤ 4
  · rw [if_pos h4, decide_eq_true h4]
    have hw := hid (word_any a us.length c us w ht hcx.1 h4)
    generalize V 65536 us = x at *
    have h4' : ¬ ((4 : Int) < (us.length : Int)) := by omega
    go_enter Tryz.func226, Tryz.ntmps226
    go_wp2_with (first
      | (go_at_call 194; refine R1.out.mono ?_; rintro e w' ⟨rfl, rfl⟩)
      | (go_at_call 196; refine hw.out.mono ?_; rintro e w' ⟨rfl, rfl⟩))
    go_ret2
    exact ⟨rfl, rfl⟩
  · rw [if_neg h4, decide_eq_false h4]
    have h4' : ((4 : Int) < (us.length : Int)) := by omega
    go_enter Tryz.func226, Tryz.ntmps226
    go_wp2_with (go_at_call 194; refine R1.out.mono ?_; rintro e w' ⟨rfl, rfl⟩)
    go_ret2
    exact ⟨rfl, rfl⟩
end Go.Proofs.YtjpkncgfpbhnaaaGreatDoor
