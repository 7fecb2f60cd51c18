/-
  NpA NpB NpC NpD NpE NpF NpG Stay NpH SStep NpI NpJ NpK NpL NpM, in one text.
-/
import Derived.Test.YtdmlcddieadelaaMrN
import Derived.Shelf.Slices.SearchI
import Derived.Laws.MakeOwn
import Derived.Test.YtdmlcddieadelaaMrR
import Derived.Deep.AppendLies
import Derived.Lib.SliceRun
import Derived.Test.YtdmlcddieadelaaMem
import Derived.Test.YtdmlcddieadelaaZMem
import Derived.Maps.AppendAt
import Derived.Deep.DeepCutAuto
import Derived.Deep.RegionHeld3

set_option linter.unusedVariables false
set_option linter.unusedSimpArgs false
namespace Go.Proofs.Ytdmlcddieadelaa
open Go.RowKit _root_.Nm Lx
theorem getD_set (bs : List Bool) (q j : Nat) (v : Bool) : (bs.set q v).getD j false = if q = j ∧ q < bs.length then v else bs.getD j false := by
  by_cases h : q = j
  · subst h
    by_cases h2 : q < bs.length
    · simp [List.getD, h2]
    · simp [List.getD, h2, List.getElem?_eq_none (show bs.length ≤ q by omega)]
  · simp [List.getD, List.getElem?_set, h]
theorem mk1_mono {e : Nat} {bs : List Bool} {z : Int} {j : Nat} (h : bs.getD j false = true) : (mk1 e bs z).getD j false = true := by
  unfold mk1
  split
  · rw [getD_set]
    split
    · rfl
    · exact h
  · exact h
theorem mkL_mono {e : Nat} {j : Nat} : ∀ {zs : List Int} {bs : List Bool}, bs.getD j false = true → (mkL e bs zs).getD j false = true
  | [], _, h => h
  | z :: zs, bs, h => by
    show (mkL e (mk1 e bs z) zs).getD j false = true
    exact mkL_mono (mk1_mono h)
theorem mkL_mem {e : Nat} {q : Nat} : ∀ {zs : List Int} {bs : List Bool}, (q : Int) ∈ zs → q < e → e ≤ bs.length → (mkL e bs zs).getD q false = true
  | z :: zs, bs, h, hq, he => by
    show (mkL e (mk1 e bs z) zs).getD q false = true
    rcases List.mem_cons.1 h with rfl | h
    · refine mkL_mono ?_
      unfold mk1
      rw [if_pos ⟨by omega, by omega⟩, getD_set, if_pos ⟨by simp, by simp; omega⟩]
    · exact mkL_mem h hq (by rw [mk1_len]; exact he)
theorem mkL_ge {e : Nat} {j : Nat} (hj : e ≤ j) : ∀ (zs : List Int) (bs : List Bool), (mkL e bs zs).getD j false = bs.getD j false
  | [], _ => rfl
  | z :: zs, bs => by
    show (mkL e (mk1 e bs z) zs).getD j false = _
    rw [mkL_ge hj zs]
    unfold mk1
    split
    · rename_i h
      rw [getD_set, if_neg (fun h2 => by omega)]
    · rfl
theorem stp_mono {A : Nat → List Int} {bs : List Bool} {i j : Nat} (h : bs.getD j false = true) : (stp A bs i).getD j false = true := by
  unfold stp
  split
  · exact mkL_mono h
  · exact h
theorem dnF_mono {A : Nat → List Int} {j : Nat} : ∀ {k : Nat} {bs : List Bool}, bs.getD j false = true → (dnF A bs k).getD j false = true
  | 0, _, h => h
  | k + 1, bs, h => by
    show (dnF A (stp A bs k) k).getD j false = true
    exact dnF_mono (stp_mono h)
theorem stp_ge {A : Nat → List Int} {bs : List Bool} {i j : Nat} (hj : i ≤ j) : (stp A bs i).getD j false = bs.getD j false := by
  unfold stp
  split
  · exact mkL_ge hj _ _
  · rfl
theorem dnF_ge {A : Nat → List Int} {j : Nat} : ∀ {k : Nat} {bs : List Bool}, k ≤ j → (dnF A bs k).getD j false = bs.getD j false
  | 0, _, _ => rfl
  | k + 1, bs, h => by
    show (dnF A (stp A bs k) k).getD j false = _
    rw [dnF_ge (by omega), stp_ge (by omega)]
theorem dnF_closed {A : Nat → List Int} : ∀ {k : Nat} {bs : List Bool}, k ≤ bs.length → ∀ i, i < k → (dnF A bs k).getD i false = true → ∀ q : Nat, (q : Int) ∈ A i → q < i → (dnF A bs k).getD q false = true
  | 0, _, _, i, hi, _, _, _, _ => absurd hi (Nat.not_lt_zero i)
  | k + 1, bs, hk, i, hi, h, q, hq, hqi => by
    have h : (dnF A (stp A bs k) k).getD i false = true := h
    show (dnF A (stp A bs k) k).getD q false = true
    by_cases e : i = k
    · subst e
      refine dnF_mono ?_
      rw [dnF_ge (Nat.le_refl _), stp_ge (Nat.le_refl _)] at h
      unfold stp
      rw [if_pos h]
      exact mkL_mem hq hqi (by omega)
    · exact dnF_closed (by rw [stp_len]; omega) i (by omega) h q hq hqi
/-- the needed points hold what they need -/
theorem ndF_closed {A : Nat → List Int} {n : Nat} {ps : List Int} {i : Nat} (hi : i < n) (h : (ndF A n ps).getD i false = true) {q : Nat} (hq : (q : Int) ∈ A i) (hqi : q < i) : (ndF A n ps).getD q false = true := by
  unfold ndF at h ⊢
  exact dnF_closed (by rw [mkL_len, List.length_replicate]; exact Nat.le_refl _) i hi h q hq hqi
/-- and the points asked for -/
theorem ndF_has {A : Nat → List Int} {n : Nat} {ps : List Int} {q : Nat} (hq : (q : Int) ∈ ps) (hqn : q < n) : (ndF A n ps).getD q false = true := by
  unfold ndF
  exact dnF_mono (mkL_mem hq hqn (by rw [List.length_replicate]; exact Nat.le_refl _))
theorem ndL_mem (F : List Bool) : ∀ (k : Nat) (z : Int), z ∈ ndL F k ↔ ∃ i : Nat, i < k ∧ z = (i : Int) ∧ F.getD i false = true
  | 0, z => by simp [ndL]
  | k + 1, z => by
    unfold ndL
    split
    · rename_i h
      rw [List.mem_append, ndL_mem F k, List.mem_singleton]
      constructor
      · rintro (⟨i, h1, h2, h3⟩ | rfl)
        · exact ⟨i, by omega, h2, h3⟩
        · exact ⟨k, by omega, rfl, h⟩
      · rintro ⟨i, h1, rfl, h3⟩
        rcases Nat.lt_or_eq_of_le (Nat.le_of_lt_succ h1) with h4 | rfl
        · exact .inl ⟨i, h4, rfl, h3⟩
        · exact .inr rfl
    · rename_i h
      rw [ndL_mem F k]
      constructor
      · rintro ⟨i, h1, h2, h3⟩
        exact ⟨i, by omega, h2, h3⟩
      · rintro ⟨i, h1, rfl, h3⟩
        rcases Nat.lt_or_eq_of_le (Nat.le_of_lt_succ h1) with h4 | rfl
        · exact ⟨i, h4, rfl, h3⟩
        · exact absurd h3 h
theorem ndL_asc (F : List Bool) : ∀ k, (ndL F k).Pairwise (· < ·)
  | 0 => by simp [ndL]
  | k + 1 => by
    unfold ndL
    split
    · rw [List.pairwise_append]
      refine ⟨ndL_asc F k, by simp, fun a ha b hb => ?_⟩
      obtain ⟨i, h1, rfl, _⟩ := (ndL_mem F k a).1 ha
      rw [List.mem_singleton.1 hb]
      omega
    · exact ndL_asc F k
end Go.Proofs.Ytdmlcddieadelaa

set_option linter.unusedVariables false
set_option linter.unusedSimpArgs false
namespace Go.Proofs.Ytdmlcddieadelaa
open Go.Shelf Go.RowKit _root_.Nm Lx
def bsRen : Ren := ⟨fun n => match n with
    | 25 => 61
    | 31 => 91
    | 32 => 92
    | 37 => 105
    | n => n,
  fun n => match n with
    | 0 => 0
    | 3 => 3
    | 4 => 4
    | 22 => 36
    | 40 => 126
    | n => n,
  fun n => n⟩
set_option maxRecDepth 100000 in
theorem bs25 : Lays2.n25 Try.prog bsRen where
  mixed := by kernel_rfl
  f25 := by kernel_rfl
  f31 := by kernel_rfl
  f32 := by kernel_rfl
  f37 := by kernel_rfl
  t0 := by kernel_rfl
  a0 := fun _ => by kernel_rfl
  z0 := fun _ => by kernel_rfl
  v0 := fun _ => by kernel_rfl
  t3 := by kernel_rfl
  a3 := fun _ => by kernel_rfl
  z3 := fun _ => by kernel_rfl
  v3 := fun _ => by kernel_rfl
  t4 := by kernel_rfl
  a4 := fun _ => by kernel_rfl
  z4 := fun _ => by kernel_rfl
  v4 := fun _ => by kernel_rfl
  t22 := by kernel_rfl
  a22 := fun _ => by kernel_rfl
  z22 := fun _ => by kernel_rfl
  v22 := fun _ => by kernel_rfl
  t40 := by kernel_rfl
  a40 := fun _ => by kernel_rfl
  z40 := fun _ => by kernel_rfl
  v40 := fun _ => by kernel_rfl
theorem countP_at : ∀ {L : List Int} (h : L.Pairwise (· < ·)) {j : Nat} (hj : j < L.length), L.countP (· < L[j]) = j
  | a :: l, h, 0, _ => by
    rw [List.pairwise_cons] at h
    simp only [List.getElem_cons_zero]
    rw [List.countP_eq_zero]
    intro b hb
    rcases List.mem_cons.1 hb with rfl | hb
    · simp
    · have := h.1 b hb
      simp
      omega
  | a :: l, h, j + 1, hj => by
    rw [List.pairwise_cons] at h
    simp only [List.getElem_cons_succ]
    have hj' : j < l.length := by simpa using hj
    have := h.1 l[j] (List.getElem_mem hj')
    rw [List.countP_cons_of_pos (by simpa using this), countP_at h.2 hj']
/-- the place of a number of an ascending list -/
theorem bsInt (p : Option Addr) (n c : Nat) (L : List Int) (w : World) (h : ZRd w .i64 p n c L) (hn : n ≤ 60) (hs : L.Pairwise (· < ·)) (j : Nat) (hj : j < L.length) :
    Calls Try.prog 61 #[.slice p n c, .int .i64 L[j]] w fun e w' => e = .returned (.tuple #[.int .i64 (j : Nat), .bool true]) ∧ w.grownBy w' none := by
  have hl := h.len
  obtain ⟨b, o, rfl, _, hc⟩ := h.block (by omega)
  have ht : L.take n = L := List.take_of_length_le (by omega)
  refine (Any.slices_BinarySearch_int bs25 b o n c L L[j] w (by omega) (by omega) (fun i hi => ?_) ?_).mono ?_
  · rw [hc i hi]
    simp [List.getD, List.getElem?_eq_getElem hi]
  · rw [ht]
    exact hs.imp (fun h => Int.le_of_lt h)
  · rintro e w' ⟨rfl, q, rfl⟩
    refine ⟨?_, grown_drewN w q none⟩
    rw [ht, countP_at hs hj]
    simp
set_option maxHeartbeats 64000000 in
set_option maxRecDepth 100000 in
theorem rPlace_n (p : Option Addr) (n c : Nat) (L : List Int) (w : World) (h : ZRd w .i64 p n c L) (hs : L.Pairwise (· < ·)) (j : Nat) (hj : j < L.length) :
    Calls Try.prog 64 #[.slice p n c, .int .i64 L[j]] w fun e w' => e = .returned (.int .i64 (j : Nat)) ∧ w.grownBy w' none := by
  have hl := h.len
  have hc := h.cap
  have hm := h.max
  have H1 := hid h
  have HS := hid hs
  obtain ⟨x, hx⟩ : ∃ x, x = L[j] := ⟨_, rfl⟩
  rw [← hx]
  have HX := hid hx
  have HL := hid hl
  have HJ := hid hj
  clear h hs hx hl
  go_enter Try.func64, Try.ntmps64
  go_wp2_with fail
  go_loopw [9] (fun y wr => ∃ k : Nat, k ≤ j ∧ y = .int .i64 k ∧ w.grownBy wr none) (fun y _ => n - (intOf y).toNat)
  case atStart => exact ⟨0, Nat.zero_le _, rfl, grown_refl _ _⟩
  case round =>
    obtain ⟨k, hk, rfl, hg⟩ := hrel
    have hkn : k < n := by have := HL.out; omega
    obtain ⟨b1, o1, rfl, e1⟩ := (H1.out.keep hg).cel k (by have := HL.out; omega)
    by_cases he : k = j
    · subst he
      rw [← HX.out] at e1
      have hq : (x == x) = true := by simp
      go_wp2_with fail
      go_ret
      exact ⟨rfl, hg⟩
    · have hne : L[k]'(by have := HL.out; omega) ≠ x := by
        rw [HX.out]
        have := List.pairwise_iff_getElem.1 HS.out k j (by have := HL.out; omega) HJ.out (by omega)
        omega
      generalize L[k]'(by have := HL.out; omega) = y at *
      have hq : (y == x) = false := by simp [hne]
      go_wp2_with fail
      exact ⟨⟨k + 1, by omega, by go_num, hg⟩, by simp [intOf]; omega⟩
end Go.Proofs.Ytdmlcddieadelaa

set_option linter.unusedVariables false
set_option linter.unusedSimpArgs false
namespace Go.Proofs.Ytdmlcddieadelaa
open Go.RowKit Go.Maps _root_.Nm Lx
/-- the places of numbers in a list -/
def plc (L zs : List Int) : List Int := zs.map fun z => (L.idxOf z : Int)
theorem bsAt {p : Option Addr} {n c : Nat} {L : List Int} {w : World} (h : ZRd w .i64 p n c L) (hn : n ≤ 60) (hs : L.Pairwise (· < ·)) {z : Int} (hz : z ∈ L) :
    Calls Try.prog 61 #[.slice p n c, .int .i64 z] w fun e w' => e = .returned (.tuple #[.int .i64 (L.idxOf z : Nat), .bool true]) ∧ w.grownBy w' none := by
  have hj := List.idxOf_lt_length_of_mem hz
  have := bsInt p n c L w h hn hs (L.idxOf z) hj
  rwa [List.getElem_idxOf] at this
theorem rPlaceAt {p : Option Addr} {n c : Nat} {L : List Int} {w : World} (h : ZRd w .i64 p n c L) (hs : L.Pairwise (· < ·)) {z : Int} (hz : z ∈ L) :
    Calls Try.prog 64 #[.slice p n c, .int .i64 z] w fun e w' => e = .returned (.int .i64 (L.idxOf z : Nat)) ∧ w.grownBy w' none := by
  have hj := List.idxOf_lt_length_of_mem hz
  have := rPlace_n p n c L w h hs (L.idxOf z) hj
  rwa [List.getElem_idxOf] at this
set_option maxHeartbeats 64000000 in
set_option maxRecDepth 100000 in
theorem placed_n (p : Option Addr) (n c : Nat) (L : List Int) (q : Option Addr) (m d : Nat) (zs : List Int) (w : World) (h : ZRd w .i64 p n c L) (hs : L.Pairwise (· < ·)) (h2 : ZRd w .i64 q m d zs) (hm : m ≤ 1048576) (hz : ∀ z ∈ zs, z ∈ L) :
    Calls Try.prog 30 #[.slice p n c, .slice q m d] w fun e w' => ∃ p' c', e = .returned (.slice p' m c') ∧ SOwn w' w.heap.size 3 1 p' m c' (intR (plc L zs)) ∧ w.grownBy w' none := by
  have hl2 := h2.len
  have hc2 := h2.cap
  have hm2 := h2.max
  have H1 := hid fun W (hg : w.grownBy W none) (z : Int) (hz : z ∈ L) => rPlaceAt (h.keep hg) hs hz
  have H2 := hid h2
  have HZ := hid hz
  have HL := hid hl2
  clear h hs h2 hz hl2
  obtain ⟨B0, hB0⟩ : ∃ b, b = w.heap.size := ⟨_, rfl⟩
  go_enter Try.func30, Try.ntmps30
  go_wp2_with fail
  go_loopw [5, 10] (fun z y wr => ∃ (k c : Nat) (p : Option Addr), k ≤ m ∧ z = .slice p k c ∧ y = .int .i64 k ∧ Hid (w.grownBy wr none) ∧ Hid (SOwn wr w.heap.size 3 1 p k c (intR (plc L (zs.take k))))) (fun z y _ => m - (intOf y).toNat)
  case atStart => exact ⟨0, 0, none, Nat.zero_le _, rfl, rfl, hid (grown_refl _ _), hid (SOwn.nil _ _ _ _)⟩
  case round =>
    obtain ⟨k, c', p', hk, rfl, rfl, HG, HO⟩ := hrel
    have hs0 := HG.out.size
    by_cases hlt : k < m
    · obtain ⟨b1, o1, rfl, e1⟩ := (H2.out.keep HG.out).cel k (by have := HL.out; omega)
      obtain ⟨z, hz⟩ : ∃ z, z = zs[k]'(by have := HL.out; omega) := ⟨_, rfl⟩
      rw [← hz] at e1
      have HZL : Hid (z ∈ L) := hid (by rw [hz]; exact HZ.out _ (List.getElem_mem _))
      have HT : Hid (plc L (zs.take k) ++ [(L.idxOf z : Int)] = plc L (zs.take (k + 1))) := hid (by
        unfold plc
        rw [List.take_add_one, List.getElem?_eq_getElem (by have := HL.out; omega), ← hz]
        simp)
      have HC := hid fun W hg => H1.out W hg z HZL.out
      clear hz
      generalize (L.idxOf z) = v at *
      go_wp2_with (first | (go_at_call 64; (with_reducible refine (HC.out _ HG.out).mono ?_); rintro e w3 ⟨rfl, hg3⟩; replace HG := hid (grown_trans HG.out hg3); replace HO := hid (SOwn.keep HO.out hg3); have hs3 := hg3.size; clear hg3 e1) | (with_reducible refine wls_append _ rfl (.tmp 14) (.tmp 18) 36 rfl 3 1 (.int .i64 0) 8 Try.underlying36 infoIntT intZT one_posI w.heap.size _ _ _ (intR (plc L (zs.take k))) rfl (SOwn.alloc HO.out _) _ 1 [.int .i64 (v : Int)] rfl (one_srdI _ _ _ _ (by simp)) (int_oneT _) (by omega) (by omega) w (grown_trans HG.out (World.grownBy_alloc _ _ _)) (by omega) (by simp; omega) ?_; intro p2 c2 w4 ho2 hg4 hbx; clear hbx))
      refine ⟨⟨k + 1, c2, p2, by omega, rfl, by go_num, hid hg4, hid ?_⟩, by simp [intOf]; omega⟩
      rwa [intR_add, HT.out] at ho2
    · obtain rfl : k = m := by omega
      have ho := HO.out
      rw [List.take_of_length_le (by have := HL.out; omega)] at ho
      have HO2 := hid ho
      clear ho
      go_wp2_with fail
      go_ret
      exact ⟨p', c', rfl, HO2.out, HG.out⟩
end Go.Proofs.Ytdmlcddieadelaa

set_option linter.unusedVariables false
set_option linter.unusedSimpArgs false
namespace Go.Proofs.Ytdmlcddieadelaa
open Go.RowKit Go.Maps _root_.Nm Lx
/-- a row of ints -/
def InRow (w : World) (g : Nat) (l : List Int) : Prop := w.heap[g]? = some (.cells (l.map (Value.int .i64)).toArray 3 (0, 0))
theorem InRow.set {w : World} {g : Nat} {l : List Int} (h : InRow w g l) (j : Nat) (d : Int) : InRow (w.setCell ⟨g, j, none⟩ (.int .i64 d)) g (l.set j d) := by
  unfold InRow at h ⊢
  rw [heap_setCell_same w g j _ _ _ h]
  simp [List.map_set]
theorem InRow.cell {w : World} {g : Nat} {l : List Int} (h : InRow w g l) (j : Nat) (hj : j < l.length) : w.cell? ⟨g, j, none⟩ = some (.int .i64 l[j]) := by
  rw [cell_of_row w g j _ _ _ h]; simp [hj]
theorem InRow.free {w : World} {g : Nat} {l : List Int} (h : InRow w g l) (j : Nat) : w.frozen? ⟨g, j, none⟩ = false := frozen_of_row w g j _ _ h
theorem InRow.keep {w w' : World} {g : Nat} {l : List Int} (h : InRow w g l) (hg : w.grownBy w' none) : InRow w' g l := keepB h hg
theorem InRow.rd {w : World} {g n : Nat} {l : List Int} (h : InRow w g l) (hl : l.length = n) (hn : n ≤ 2000000) : ZRd w .i64 (some ⟨g, 0, none⟩) n n l :=
  ⟨hl, Nat.le_refl _, by omega, fun j hj => ⟨g, 0, rfl, by rw [Nat.zero_add]; exact h.cell j hj⟩⟩
theorem run_make_ints (n : Nat) (hn : n ≤ 2000000) (w : World) :
    (Instr.makeSlice 36 (.int .i64 (n : Int)) (.int .i64 (n : Int))).run Try.prog w = .ok (.slice (some ⟨w.heap.size, 0, none⟩) n n) (w.alloc (.cells (Array.replicate n (.int .i64 0)) 3)) := by
  obtain ⟨i, hi, hz0, hz1, hz2⟩ := info_parts infoIntT
  have hb : (i.bytes : Int) * (n : Int) ≤ 281474976710656 := by rw [hz2]; omega
  have hr := run_make (P := Try.prog) w 36 3 i (.int .i64 0) Try.underlying36 hi hz0 .i64 .i64 n n (by omega) (by omega) hb (by omega)
  simp only [Int.toNat_natCast] at hr
  rw [hr, hz1]
  have e1 : madeCells (Value.int .i64 0).cells (n * 1) = Array.replicate n (.int .i64 0) := by
    rw [Nat.mul_one, ← Array.toList_inj]
    have := toList_madeCells_one (.int .i64 0) n
    simp at this ⊢
    exact this
  rw [e1]
theorem InRow.made (w : World) (n : Nat) : InRow (w.alloc (.cells (Array.replicate n (.int .i64 0)) 3)) w.heap.size (List.replicate n 0) := by
  have := heap_alloc_new w (.cells (Array.replicate n (.int .i64 0)) 3)
  unfold InRow
  simpa using this
/-- the row behind k rounds -/
def plcK (L zs : List Int) (k : Nat) : List Int := plc L (zs.take k) ++ List.replicate (zs.length - k) 0
theorem plcK_len (L zs : List Int) (k : Nat) (hk : k ≤ zs.length) : (plcK L zs k).length = zs.length := by
  simp [plcK, plc]
  omega
theorem plcK_set (L zs : List Int) (k : Nat) (hk : k < zs.length) : (plcK L zs k).set k (L.idxOf zs[k] : Int) = plcK L zs (k + 1) := by
  unfold plcK plc
  rw [List.take_add_one, List.getElem?_eq_getElem hk, show zs.length - k = (zs.length - (k + 1)) + 1 by omega, List.replicate_succ, List.set_append_right _ _ (by simp; omega)]
  have : k - (List.map (fun z => (L.idxOf z : Int)) (zs.take k)).length = 0 := by simp; omega
  rw [this]
  simp only [List.set_cons_zero, Option.toList, List.map_append, List.map_cons, List.map_nil, List.append_assoc, List.cons_append, List.nil_append]
theorem plcK_full (L zs : List Int) : plcK L zs zs.length = plc L zs := by simp [plcK]
set_option maxHeartbeats 64000000 in
set_option maxRecDepth 100000 in
theorem places_n (p : Option Addr) (n c : Nat) (L : List Int) (q : Option Addr) (m d : Nat) (zs : List Int) (w : World) (h : ZRd w .i64 p n c L) (hn : n ≤ 60) (hs : L.Pairwise (· < ·)) (h2 : ZRd w .i64 q m d zs) (hm : m ≤ 1048576) (hz : ∀ z ∈ zs, z ∈ L) :
    Calls Try.prog 27 #[.slice q m d, .slice p n c] w fun e w' => ∃ g, e = .returned (.slice (some ⟨g, 0, none⟩) m m) ∧ InRow w' g (plc L zs) ∧ w.heap.size ≤ g ∧ w.grownBy w' none := by
  have hl2 := h2.len
  have hc2 := h2.cap
  have hm2 := h2.max
  have H1 := hid fun W (hg : w.grownBy W none) (z : Int) (hz : z ∈ L) => bsAt (h.keep hg) hn hs hz
  have H2 := hid h2
  have HZ := hid hz
  have HL := hid hl2
  have hmk := run_make_ints m (by omega)
  clear h hs h2 hz hl2
  have HM := hid (InRow.made w m)
  have HGM := hid (World.grownBy_alloc w (.cells (Array.replicate m (.int .i64 0)) 3) none)
  go_enter Try.func27, Try.ntmps27
  go_wp2_with fail
  obtain ⟨g, hg⟩ : ∃ g, g = w.heap.size := ⟨_, rfl⟩
  rw [← hg] at HM ⊢
  have HGE := hid hg
  clear hg
  go_loopw [13] (fun y wr => ∃ k : Nat, k ≤ m ∧ y = .int .i64 k ∧ Hid (w.grownBy wr none) ∧ Hid (InRow wr g (plcK L zs k))) (fun y _ => m - (intOf y).toNat)
  case atStart => exact ⟨0, Nat.zero_le _, rfl, HGM, hid (by have := HM.out; simpa [plcK, plc, HL.out] using this)⟩
  case round =>
    clear HM HGM
    obtain ⟨k, hk, rfl, HG, HR⟩ := hrel
    by_cases hlt : k < m
    · obtain ⟨b1, o1, rfl, e1⟩ := (H2.out.keep HG.out).cel k (by have := HL.out; omega)
      have HST := hid (plcK_set L zs k (by have := HL.out; omega))
      have hlk : (plcK L zs k).length = m := by rw [plcK_len _ _ _ (by have := HL.out; omega)]; exact HL.out
      obtain ⟨z, hz⟩ : ∃ z, z = zs[k]'(by have := HL.out; omega) := ⟨_, rfl⟩
      rw [← hz] at e1 HST
      have HZL : Hid (z ∈ L) := hid (by rw [hz]; exact HZ.out _ (List.getElem_mem _))
      have HC := hid fun W hg => H1.out W hg z HZL.out
      clear hz
      generalize (L.idxOf z) = v at *
      generalize plcK L zs k = cur at *
      go_wp2_with (go_at_call 61; (with_reducible refine (HC.out _ HG.out).mono ?_); rintro e w3 ⟨rfl, hg3⟩; replace HG := hid (grown_trans HG.out hg3); replace HR := hid (InRow.keep HR.out hg3); have r0 := HR.out.cell k (by omega); have r1 := HR.out.free k; clear hg3 e1)
      refine ⟨⟨k + 1, by omega, by go_num, hid (grown_new HG.out (grown_setCell _ ⟨g, k, none⟩ _) (fun g' e => by cases e; rw [HGE.out]; exact Nat.le_refl _)), hid ?_⟩, by simp [intOf]; omega⟩
      rw [← HST.out]
      exact HR.out.set k v
    · obtain rfl : k = m := by omega
      have hr := HR.out
      rw [← HL.out, plcK_full] at hr
      have HR2 := hid hr
      clear hr
      go_wp2_with fail
      go_ret
      exact ⟨g, rfl, HR2.out, by rw [HGE.out]; exact Nat.le_refl _, HG.out⟩
end Go.Proofs.Ytdmlcddieadelaa

set_option linter.unusedVariables false
set_option linter.unusedSimpArgs false
namespace Go.Proofs.Ytdmlcddieadelaa
open Go.RowKit Go.Maps _root_.Nm Lx
set_option maxHeartbeats 64000000 in
set_option maxRecDepth 100000 in
theorem sameNat14 (p q : Option Addr) (n c d : Nat) (xs : List Nat) (w : World) (h1 : IRd w .u16 p n c xs) (h2 : IRd w .u16 q n d xs) :
    Calls Try.prog 93 #[.slice p n c, .slice q n d] w fun e w' => e = .returned (.bool true) ∧ w.grownBy w' none := by
  have hl := h1.len
  have hc := h1.cap
  have hm := h1.max
  have hc2 := h2.cap
  have hm2 := h2.max
  have H1 := hid h1
  have H2 := hid h2
  have HL := hid hl
  clear h1 h2 hl
  go_enter Try.func93, Try.ntmps93
  go_wp2_with fail
  go_loopw [13] (fun x wr => ∃ k : Nat, k ≤ n ∧ x = .int .i64 k ∧ w.grownBy wr none) (fun x _ => n - (intOf x).toNat)
  case atStart => exact ⟨0, Nat.zero_le _, rfl, grown_refl _ _⟩
  case round =>
    obtain ⟨k, hk, rfl, hg⟩ := hrel
    by_cases hlt : k < n
    · obtain ⟨b1, o1, rfl, e1⟩ := (H1.out.keep hg).cel k (by rw [HL.out]; exact hlt)
      obtain ⟨b2, o2, rfl, e2⟩ := (H2.out.keep hg).cel k (by rw [HL.out]; exact hlt)
      generalize xs[k]'(by rw [HL.out]; exact hlt) = fk at *
      go_wp2_with fail
      go_quiet (fail)
      go_wp2_with fail
      exact ⟨⟨k + 1, by omega, by go_num, gdN hg _⟩, by simp [intOf]; omega⟩
    · obtain rfl : k = n := by omega
      go_wp2_with fail
      go_ret
      exact ⟨rfl, hg⟩
set_option maxHeartbeats 64000000 in
set_option maxRecDepth 100000 in
theorem rSameRat_e (g : Bool) (p1 : Option Addr) (n1 c1 : Nat) (p2 : Option Addr) (n2 c2 : Nat) (q1 : Option Addr) (d1 : Nat) (q2 : Option Addr) (d2 : Nat) (xs ys : List Nat) (w : World) (hx : IRd w .u16 p1 n1 c1 xs) (hy : IRd w .u16 p2 n2 c2 ys) (hx2 : IRd w .u16 q1 n1 d1 xs) (hy2 : IRd w .u16 q2 n2 d2 ys) :
    Calls Try.prog 65 #[.agg #[.bool g, .slice p1 n1 c1, .slice p2 n2 c2], .agg #[.bool g, .slice q1 n1 d1, .slice q2 n2 d2]] w fun e w' => e = .returned (.bool true) ∧ w.grownBy w' none := by
  have H1 := hid fun W (hg : w.grownBy W none) => sameNat14 p1 q1 n1 c1 d1 xs W (hx.keep hg) (hx2.keep hg)
  have H2 := hid fun W (hg : w.grownBy W none) => sameNat14 p2 q2 n2 c2 d2 ys W (hy.keep hg) (hy2.keep hg)
  clear hx hy hx2 hy2
  have gA := World.grownBy_alloc w (.cells #[.bool g, .slice p1 n1 c1, .slice p2 n2 c2] 56 (0, 0)) none
  have gB := World.grownBy_alloc (w.alloc (.cells #[.bool g, .slice p1 n1 c1, .slice p2 n2 c2] 56 (0, 0))) (.cells #[.bool g, .slice q1 n1 d1, .slice q2 n2 d2] 56 (0, 0)) none
  obtain ⟨k0, k1, k2⟩ := box3n (keepB (blk0 w (.cells #[.bool g, .slice p1 n1 c1, .slice p2 n2 c2] 56 (0, 0))) gB)
  obtain ⟨l0, l1, l2⟩ := box3n (blk0 (w.alloc (.cells #[.bool g, .slice p1 n1 c1, .slice p2 n2 c2] 56 (0, 0))) (.cells #[.bool g, .slice q1 n1 d1, .slice q2 n2 d2] 56 (0, 0)))
  have hsz : (w.alloc (.cells #[.bool g, .slice p1 n1 c1, .slice p2 n2 c2] 56 (0, 0))).heap.size = w.heap.size + 1 := by simp
  rw [hsz] at l0 l1 l2
  have hW := grown_trans gA gB
  clear gA gB hsz
  have hq : (g == g) = true := by simp
  go_enter Try.func65, Try.ntmps65
  go_upto_region 1 with fail
  generalize ((w.alloc _).alloc _) = w0 at *
  go_wp2_with (go_at_call 93; (first | with_reducible refine (H1.out _ hW).mono ?_ | with_reducible refine (H2.out _ hW).mono ?_); rintro e w1 ⟨rfl, hg⟩; replace hW := grown_trans hW hg; replace k0 := hg.cell k0 (by simp); replace k1 := hg.cell k1 (by simp); replace k2 := hg.cell k2 (by simp); replace l0 := hg.cell l0 (by simp); replace l1 := hg.cell l1 (by simp); replace l2 := hg.cell l2 (by simp); clear hg)
  go_ret
  exact ⟨rfl, hW⟩
set_option maxHeartbeats 64000000 in
set_option maxRecDepth 100000 in
theorem rSame14_e (k : Int) (pa : Option Addr) (na ca : Nat) (qa : Option Addr) (da : Nat) (zs : List Int) (g : Bool) (p1 : Option Addr) (n1 c1 : Nat) (p2 : Option Addr) (n2 c2 : Nat) (q1 : Option Addr) (d1 : Nat) (q2 : Option Addr) (d2 : Nat) (xs ys : List Nat) (w : World) (hz : ZRd w .i64 pa na ca zs) (hz2 : ZRd w .i64 qa na da zs) (hx : IRd w .u16 p1 n1 c1 xs) (hy : IRd w .u16 p2 n2 c2 ys) (hx2 : IRd w .u16 q1 n1 d1 xs) (hy2 : IRd w .u16 q2 n2 d2 ys) :
    Calls Try.prog 31 #[.agg #[.int .i64 k, .slice pa na ca, .bool g, .slice p1 n1 c1, .slice p2 n2 c2], .agg #[.int .i64 k, .slice qa na da, .bool g, .slice q1 n1 d1, .slice q2 n2 d2]] w fun e w' => e = .returned (.bool true) ∧ w.grownBy w' none := by
  have H1 := hid fun W (hg : w.grownBy W none) => rSameRat_e g p1 n1 c1 p2 n2 c2 q1 d1 q2 d2 xs ys W (hx.keep hg) (hy.keep hg) (hx2.keep hg) (hy2.keep hg)
  have HZ := hid hz
  have HZ2 := hid hz2
  have hl := hz.len
  have hc1 := hz.cap
  have hm1 := hz.max
  have hc2 := hz2.cap
  have HL := hid hl
  clear hx hy hx2 hy2 hz hz2 hl
  have gA := World.grownBy_alloc w (.cells #[.int .i64 k, .slice pa na ca, .bool g, .slice p1 n1 c1, .slice p2 n2 c2] 58 (0, 0)) none
  have gB := World.grownBy_alloc (w.alloc (.cells #[.int .i64 k, .slice pa na ca, .bool g, .slice p1 n1 c1, .slice p2 n2 c2] 58 (0, 0))) (.cells #[.int .i64 k, .slice qa na da, .bool g, .slice q1 n1 d1, .slice q2 n2 d2] 58 (0, 0)) none
  obtain ⟨⟨k0, k1, k2, k3, k4⟩, -⟩ := box5 (keepB (blk0 w (.cells #[.int .i64 k, .slice pa na ca, .bool g, .slice p1 n1 c1, .slice p2 n2 c2] 58 (0, 0))) gB)
  obtain ⟨⟨l0, l1, l2, l3, l4⟩, -⟩ := box5 (blk0 (w.alloc (.cells #[.int .i64 k, .slice pa na ca, .bool g, .slice p1 n1 c1, .slice p2 n2 c2] 58 (0, 0))) (.cells #[.int .i64 k, .slice qa na da, .bool g, .slice q1 n1 d1, .slice q2 n2 d2] 58 (0, 0)))
  have hsz : (w.alloc (.cells #[.int .i64 k, .slice pa na ca, .bool g, .slice p1 n1 c1, .slice p2 n2 c2] 58 (0, 0))).heap.size = w.heap.size + 1 := by simp
  rw [hsz] at l0 l1 l2 l3 l4
  have hW := grown_trans gA gB
  clear gA gB hsz
  have hq : (k == k) = true := by simp
  go_enter Try.func31, Try.ntmps31
  go_upto_region 1 with fail
  generalize ((w.alloc _).alloc _) = w0 at *
  go_wp2_with (go_at_call 65; (with_reducible refine (H1.out _ hW).mono ?_); rintro e w1 ⟨rfl, hg⟩; replace hW := grown_trans hW hg; replace k0 := hg.cell k0 (by simp); replace k1 := hg.cell k1 (by simp); replace k2 := hg.cell k2 (by simp); replace k3 := hg.cell k3 (by simp); replace k4 := hg.cell k4 (by simp); replace l0 := hg.cell l0 (by simp); replace l1 := hg.cell l1 (by simp); replace l2 := hg.cell l2 (by simp); replace l3 := hg.cell l3 (by simp); replace l4 := hg.cell l4 (by simp); clear hg)
  have K1 := hid k1
  have L1 := hid l1
  have HW := hid hW
  clear k0 k1 k2 k3 k4 l0 l1 l2 l3 l4 hW
  go_loopw [31] (fun y wr => ∃ j : Nat, j ≤ na ∧ y = .int .i64 j ∧ Hid (w1.grownBy wr none)) (fun y _ => na - (intOf y).toNat)
  case atStart => exact ⟨0, Nat.zero_le _, rfl, hid (grown_refl _ _)⟩
  case round =>
    obtain ⟨j, hj, rfl, HG⟩ := hrel
    by_cases hlt : j < na
    · obtain ⟨b1, o1, rfl, e1⟩ := (HZ.out.keep (grown_trans HW.out HG.out)).cel j (by have := HL.out; omega)
      obtain ⟨b2, o2, rfl, e2⟩ := (HZ2.out.keep (grown_trans HW.out HG.out)).cel j (by have := HL.out; omega)
      have k1 := HG.out.cell K1.out (by simp)
      have l1 := HG.out.cell L1.out (by simp)
      generalize zs[j]'(by have := HL.out; omega) = z at *
      go_wp2_with fail
      go_quiet (fail)
      go_wp2_with fail
      exact ⟨⟨j + 1, by omega, by go_num, hid (gdN HG.out _)⟩, by simp [intOf]; omega⟩
    · obtain rfl : j = na := by omega
      go_wp2_with fail
      go_ret
      exact ⟨rfl, grown_trans HW.out HG.out⟩
end Go.Proofs.Ytdmlcddieadelaa

set_option linter.unusedVariables false
set_option linter.unusedSimpArgs false
namespace Go.Proofs.Ytdmlcddieadelaa
open Go.RowKit Go.Maps _root_.Nm Lx
/-- two steps that read alike, in two rows -/
def StTwo (w : World) (p q : Option Addr) (i : Nat) : Prop := ∃ (b o b' o' : Nat) (k : Int) (nm : ByteArray) (pa : Option Addr) (na ca : Nat) (g : Bool) (p1 : Option Addr) (n1 c1 : Nat) (p2 : Option Addr) (n2 c2 : Nat) (qa : Option Addr) (da : Nat) (q1 : Option Addr) (d1 : Nat) (q2 : Option Addr) (d2 : Nat) (zs : List Int) (xs ys : List Nat),
  p = some ⟨b, o, none⟩ ∧ q = some ⟨b', o', none⟩ ∧
  (w.cell? ⟨b, o + i * 6, none⟩ = some (.int .i64 k) ∧ w.cell? ⟨b, o + i * 6 + 1, none⟩ = some (.string nm) ∧ w.cell? ⟨b, o + i * 6 + 2, none⟩ = some (.slice pa na ca) ∧ w.cell? ⟨b, o + i * 6 + 3, none⟩ = some (.bool g) ∧ w.cell? ⟨b, o + i * 6 + 4, none⟩ = some (.slice p1 n1 c1) ∧ w.cell? ⟨b, o + i * 6 + 5, none⟩ = some (.slice p2 n2 c2)) ∧
  (w.cell? ⟨b', o' + i * 6, none⟩ = some (.int .i64 k) ∧ w.cell? ⟨b', o' + i * 6 + 1, none⟩ = some (.string nm) ∧ w.cell? ⟨b', o' + i * 6 + 2, none⟩ = some (.slice qa na da) ∧ w.cell? ⟨b', o' + i * 6 + 3, none⟩ = some (.bool g) ∧ w.cell? ⟨b', o' + i * 6 + 4, none⟩ = some (.slice q1 n1 d1) ∧ w.cell? ⟨b', o' + i * 6 + 5, none⟩ = some (.slice q2 n2 d2)) ∧
  (ZRd w .i64 pa na ca zs ∧ ZRd w .i64 qa na da zs ∧ IRd w .u16 p1 n1 c1 xs ∧ IRd w .u16 p2 n2 c2 ys ∧ IRd w .u16 q1 n1 d1 xs ∧ IRd w .u16 q2 n2 d2 ys)
theorem StTwo.keep {w w' : World} {p q : Option Addr} {i : Nat} (h : StTwo w p q i) (hg : w.grownBy w' none) : StTwo w' p q i := by
  obtain ⟨b, o, b', o', k, nm, pa, na, ca, g, p1, n1, c1, p2, n2, c2, qa, da, q1, d1, q2, d2, zs, xs, ys, h1, h2, ⟨a0, a1, a2, a3, a4, a5⟩, ⟨e0, e1, e2, e3, e4, e5⟩, r1, r2, r3, r4, r5, r6⟩ := h
  exact ⟨b, o, b', o', k, nm, pa, na, ca, g, p1, n1, c1, p2, n2, c2, qa, da, q1, d1, q2, d2, zs, xs, ys, h1, h2, ⟨hg.cell a0 (by simp), hg.cell a1 (by simp), hg.cell a2 (by simp), hg.cell a3 (by simp), hg.cell a4 (by simp), hg.cell a5 (by simp)⟩, ⟨hg.cell e0 (by simp), hg.cell e1 (by simp), hg.cell e2 (by simp), hg.cell e3 (by simp), hg.cell e4 (by simp), hg.cell e5 (by simp)⟩, r1.keep hg, r2.keep hg, r3.keep hg, r4.keep hg, r5.keep hg, r6.keep hg⟩
/-- two goals that read alike, in two rows -/
def GlTwo (w : World) (p q : Option Addr) (i : Nat) : Prop := ∃ (b o b' o' : Nat) (k : Int) (pa : Option Addr) (na ca : Nat) (g : Bool) (p1 : Option Addr) (n1 c1 : Nat) (p2 : Option Addr) (n2 c2 : Nat) (qa : Option Addr) (da : Nat) (q1 : Option Addr) (d1 : Nat) (q2 : Option Addr) (d2 : Nat) (zs : List Int) (xs ys : List Nat),
  p = some ⟨b, o, none⟩ ∧ q = some ⟨b', o', none⟩ ∧
  (w.cell? ⟨b, o + i * 5, none⟩ = some (.int .i64 k) ∧ w.cell? ⟨b, o + i * 5 + 1, none⟩ = some (.slice pa na ca) ∧ w.cell? ⟨b, o + i * 5 + 2, none⟩ = some (.bool g) ∧ w.cell? ⟨b, o + i * 5 + 3, none⟩ = some (.slice p1 n1 c1) ∧ w.cell? ⟨b, o + i * 5 + 4, none⟩ = some (.slice p2 n2 c2)) ∧
  (w.cell? ⟨b', o' + i * 5, none⟩ = some (.int .i64 k) ∧ w.cell? ⟨b', o' + i * 5 + 1, none⟩ = some (.slice qa na da) ∧ w.cell? ⟨b', o' + i * 5 + 2, none⟩ = some (.bool g) ∧ w.cell? ⟨b', o' + i * 5 + 3, none⟩ = some (.slice q1 n1 d1) ∧ w.cell? ⟨b', o' + i * 5 + 4, none⟩ = some (.slice q2 n2 d2)) ∧
  (ZRd w .i64 pa na ca zs ∧ ZRd w .i64 qa na da zs ∧ IRd w .u16 p1 n1 c1 xs ∧ IRd w .u16 p2 n2 c2 ys ∧ IRd w .u16 q1 n1 d1 xs ∧ IRd w .u16 q2 n2 d2 ys)
theorem GlTwo.keep {w w' : World} {p q : Option Addr} {i : Nat} (h : GlTwo w p q i) (hg : w.grownBy w' none) : GlTwo w' p q i := by
  obtain ⟨b, o, b', o', k, pa, na, ca, g, p1, n1, c1, p2, n2, c2, qa, da, q1, d1, q2, d2, zs, xs, ys, h1, h2, ⟨a0, a1, a2, a3, a4⟩, ⟨e0, e1, e2, e3, e4⟩, r1, r2, r3, r4, r5, r6⟩ := h
  exact ⟨b, o, b', o', k, pa, na, ca, g, p1, n1, c1, p2, n2, c2, qa, da, q1, d1, q2, d2, zs, xs, ys, h1, h2, ⟨hg.cell a0 (by simp), hg.cell a1 (by simp), hg.cell a2 (by simp), hg.cell a3 (by simp), hg.cell a4 (by simp)⟩, ⟨hg.cell e0 (by simp), hg.cell e1 (by simp), hg.cell e2 (by simp), hg.cell e3 (by simp), hg.cell e4 (by simp)⟩, r1.keep hg, r2.keep hg, r3.keep hg, r4.keep hg, r5.keep hg, r6.keep hg⟩
set_option maxHeartbeats 64000000 in
set_option maxRecDepth 100000 in
theorem rSame20_e (pS : Option Addr) (nS cS : Nat) (pG : Option Addr) (nG cG : Nat) (qS : Option Addr) (dS : Nat) (qG : Option Addr) (dG : Nat) (w : World) (hcS : nS ≤ cS ∧ cS ≤ 9223372036854775807) (hdS : nS ≤ dS ∧ dS ≤ 9223372036854775807) (hcG : nG ≤ cG ∧ cG ≤ 9223372036854775807) (hdG : nG ≤ dG ∧ dG ≤ 9223372036854775807)
    (hS : ∀ i, i < nS → StTwo w pS qS i) (hG : ∀ i, i < nG → GlTwo w pG qG i) :
    Calls Try.prog 9 #[.agg #[.slice pS nS cS, .slice pG nG cG], .agg #[.slice qS nS dS, .slice qG nG dG]] w fun e w' => e = .returned (.bool true) ∧ w.grownBy w' none := by
  have HS := hid hS
  have HG := hid hG
  obtain ⟨hS1, hS2⟩ := hcS
  obtain ⟨hS3, hS4⟩ := hdS
  obtain ⟨hG1, hG2⟩ := hcG
  obtain ⟨hG3, hG4⟩ := hdG
  clear hS hG
  have gA := World.grownBy_alloc w (.cells #[.slice pS nS cS, .slice pG nG cG] 25 (0, 0)) none
  have gB := World.grownBy_alloc (w.alloc (.cells #[.slice pS nS cS, .slice pG nG cG] 25 (0, 0))) (.cells #[.slice qS nS dS, .slice qG nG dG] 25 (0, 0)) none
  obtain ⟨⟨k0, k1⟩, -⟩ := box2n (keepB (blk0 w (.cells #[.slice pS nS cS, .slice pG nG cG] 25 (0, 0))) gB)
  obtain ⟨⟨l0, l1⟩, -⟩ := box2n (blk0 (w.alloc (.cells #[.slice pS nS cS, .slice pG nG cG] 25 (0, 0))) (.cells #[.slice qS nS dS, .slice qG nG dG] 25 (0, 0)))
  have hsz : (w.alloc (.cells #[.slice pS nS cS, .slice pG nG cG] 25 (0, 0))).heap.size = w.heap.size + 1 := by simp
  rw [hsz] at l0 l1
  have hW := grown_trans gA gB
  clear gA gB hsz
  go_enter Try.func9, Try.ntmps9
  go_upto_region 1 with fail
  generalize ((w.alloc _).alloc _) = w0 at *
  go_wp2_with fail
  have K0 := hid k0
  have K1 := hid k1
  have L0 := hid l0
  have L1 := hid l1
  have HW := hid hW
  clear k0 k1 l0 l1 hW
  go_loopw [28] (fun y wr => ∃ j : Nat, j ≤ nS ∧ y = .int .i64 j ∧ Hid (w0.grownBy wr none)) (fun y _ => nS - (intOf y).toNat)
  case atStart => exact ⟨0, Nat.zero_le _, rfl, hid (grown_refl _ _)⟩
  case round =>
    obtain ⟨j, hj, rfl, HR⟩ := hrel
    have k0 := HR.out.cell K0.out (by simp)
    have l0 := HR.out.cell L0.out (by simp)
    have k1 := HR.out.cell K1.out (by simp)
    have l1 := HR.out.cell L1.out (by simp)
    by_cases hlt : j < nS
    · obtain ⟨b, o, b', o', k, nm, pa, na, ca, g, p1, n1, c1, p2, n2, c2, qa, da, q1, d1, q2, d2, zs, xs, ys, rfl, rfl, ⟨a0, a1, a2, a3, a4, a5⟩, ⟨e0, e1, e2, e3, e4, e5⟩, hr⟩ := (HS.out j hlt).keep (grown_trans HW.out HR.out)
      have H1 := hid hr
      clear hr k1 l1
      have gC := World.grownBy_alloc wr (.cells #[.int .i64 k, .string nm, .slice pa na ca, .bool g, .slice p1 n1 c1, .slice p2 n2 c2] 64 (0, 0)) none
      have HX := hid (grown_trans HR.out gC)
      have HC := hid gC
      have BA := hid (blk0 wr (.cells #[.int .i64 k, .string nm, .slice pa na ca, .bool g, .slice p1 n1 c1, .slice p2 n2 c2] 64 (0, 0)))
      replace e0 := gC.cell e0 (by simp)
      replace e1 := gC.cell e1 (by simp)
      replace e2 := gC.cell e2 (by simp)
      replace e3 := gC.cell e3 (by simp)
      replace e4 := gC.cell e4 (by simp)
      replace e5 := gC.cell e5 (by simp)
      have l0' := gC.cell l0 (by simp)
      have hsz : (wr.alloc (.cells #[.int .i64 k, .string nm, .slice pa na ca, .bool g, .slice p1 n1 c1, .slice p2 n2 c2] 64 (0, 0))).heap.size = wr.heap.size + 1 := by simp
      clear gC
      obtain ⟨⟨i0, i1, i2, i3, i4, i5⟩, fa⟩ := box6 (blk0 wr (.cells #[.int .i64 0, .string ⟨#[]⟩, .slice none 0 0, .bool false, .slice none 0 0, .slice none 0 0] 64 (0, 0)))
      have f0 := fa 0; have f1 := fa 1; have f2 := fa 2; have f3 := fa 3; have f4 := fa 4; have f5 := fa 5
      clear fa
      go_upto_region 6 with fail
      clear i0 i1 i2 i3 i4 i5 f0 f1 f2 f3 f4 f5 a0 a1 a2 a3 a4 a5 k0 l0
      generalize (wr.alloc _) = wa at *
      have gD := World.grownBy_alloc wa (.cells #[.int .i64 k, .string nm, .slice qa na da, .bool g, .slice q1 n1 d1, .slice q2 n2 d2] 64 (0, 0)) none
      have HX2 := hid (grown_trans HX.out gD)
      have HD := hid (grown_trans HC.out gD)
      have BB := hid (blk0 wa (.cells #[.int .i64 k, .string nm, .slice qa na da, .bool g, .slice q1 n1 d1, .slice q2 n2 d2] 64 (0, 0)))
      have BA2 := hid (keepB BA.out gD)
      clear gD
      obtain ⟨⟨i0, i1, i2, i3, i4, i5⟩, fa⟩ := box6 (blk0 wa (.cells #[.int .i64 0, .string ⟨#[]⟩, .slice none 0 0, .bool false, .slice none 0 0, .slice none 0 0] 64 (0, 0)))
      have f0 := fa 0; have f1 := fa 1; have f2 := fa 2; have f3 := fa 3; have f4 := fa 4; have f5 := fa 5
      clear fa
      rw [hsz] at i0 i1 i2 i3 i4 i5 f0 f1 f2 f3 f4 f5 BB
      go_upto_region 7 with fail
      clear i0 i1 i2 i3 i4 i5 f0 f1 f2 f3 f4 f5 e0 e1 e2 e3 e4 e5 l0'
      generalize (wa.alloc _) = wb at *
      obtain ⟨⟨x0, x1, x2, x3, x4, x5⟩, -⟩ := box6 BA2.out
      obtain ⟨⟨y0, y1, y2, y3, y4, y5⟩, -⟩ := box6 BB.out
      have hq : (nm.toList == nm.toList) = true := by simp
      have HCL := hid fun W (hg : wr.grownBy W none) => rSame14_e k pa na ca qa da zs g p1 n1 c1 p2 n2 c2 q1 d1 q2 d2 xs ys W (H1.out.1.keep hg) (H1.out.2.1.keep hg) (H1.out.2.2.1.keep hg) (H1.out.2.2.2.1.keep hg) (H1.out.2.2.2.2.1.keep hg) (H1.out.2.2.2.2.2.keep hg)
      go_wp2_with (go_at_call 31; (with_reducible refine (HCL.out _ HD.out).mono ?_); rintro e w3 ⟨rfl, hg⟩; have HX3 := hid (grown_trans HX2.out hg); clear hg x0 x1 x2 x3 x4 x5 y0 y1 y2 y3 y4 y5)
      exact ⟨⟨j + 1, by omega, by go_num, HX3⟩, by simp [intOf]; omega⟩
    · obtain rfl : j = nS := by omega
      have HWB := hid (grown_trans HW.out HR.out)
      have K1b := hid k1
      have L1b := hid l1
      go_wp2_with fail
      clear k0 k1 l0 l1
      generalize wr = wf at *
      go_loopw [65] (fun y wr => ∃ j : Nat, j ≤ nG ∧ y = .int .i64 j ∧ Hid (wf.grownBy wr none)) (fun y _ => nG - (intOf y).toNat)
      case atStart => exact ⟨0, Nat.zero_le _, rfl, hid (grown_refl _ _)⟩
      case round =>
        obtain ⟨q, hq, rfl, HR2⟩ := hrel
        by_cases hlq : q < nG
        · obtain ⟨b, o, b', o', k, pa, na, ca, g, p1, n1, c1, p2, n2, c2, qa, da, q1, d1, q2, d2, zs, xs, ys, rfl, rfl, ⟨a0, a1, a2, a3, a4⟩, ⟨e0, e1, e2, e3, e4⟩, hr⟩ := (HG.out q hlq).keep (grown_trans HWB.out HR2.out)
          have H1 := hid hr
          clear hr
          have k1 := HR2.out.cell K1b.out (by simp)
          have l1 := HR2.out.cell L1b.out (by simp)
          have HCL := hid fun W (hg : wr.grownBy W none) => rSame14_e k pa na ca qa da zs g p1 n1 c1 p2 n2 c2 q1 d1 q2 d2 xs ys W (H1.out.1.keep hg) (H1.out.2.1.keep hg) (H1.out.2.2.1.keep hg) (H1.out.2.2.2.1.keep hg) (H1.out.2.2.2.2.1.keep hg) (H1.out.2.2.2.2.2.keep hg)
          have hW := HR2.out
          clear HR2
          go_upto_region 13 with fail
          go_region_held3 (fun w' => w'.cell? ⟨w.heap.size, 1, none⟩ = some (.slice (some ⟨b, o, none⟩) nG cG) ∧ w'.cell? ⟨w.heap.size + 1, 1, none⟩ = some (.slice (some ⟨b', o', none⟩) nG dG) ∧ w'.cell? ⟨b, o + q * 5, none⟩ = some (.int .i64 k) ∧ w'.cell? ⟨b, o + q * 5 + 1, none⟩ = some (.slice pa na ca) ∧ w'.cell? ⟨b, o + q * 5 + 2, none⟩ = some (.bool g) ∧ w'.cell? ⟨b, o + q * 5 + 3, none⟩ = some (.slice p1 n1 c1) ∧ w'.cell? ⟨b, o + q * 5 + 4, none⟩ = some (.slice p2 n2 c2) ∧ w'.cell? ⟨b', o' + q * 5, none⟩ = some (.int .i64 k) ∧ w'.cell? ⟨b', o' + q * 5 + 1, none⟩ = some (.slice qa na da) ∧ w'.cell? ⟨b', o' + q * 5 + 2, none⟩ = some (.bool g) ∧ w'.cell? ⟨b', o' + q * 5 + 3, none⟩ = some (.slice q1 n1 d1) ∧ w'.cell? ⟨b', o' + q * 5 + 4, none⟩ = some (.slice q2 n2 d2) ∧ wf.grownBy w' none) ((try go_split_ands) <;> (repeat' apply And.intro) <;> (first | (with_reducible assumption) | (with_reducible refine (grown_drew _ none).cell ?_ (by simp); with_reducible assumption) | (with_reducible refine grown_trans ?_ (grown_drew _ none); with_reducible assumption))) (first | (go_at_call 31; (first | with_reducible refine (HCL.out _ (grown_refl _ _)).mono ?_ | with_reducible refine (HCL.out _ (grown_drew _ none)).mono ?_); rintro e w1 ⟨rfl, hg⟩; (first | replace hW := grown_trans hW hg | replace hW := grown_trans (grown_trans hW (grown_drew _ none)) hg); replace k1 := hg.cell k1 (by simp); replace l1 := hg.cell l1 (by simp); replace a0 := hg.cell a0 (by simp); replace a1 := hg.cell a1 (by simp); replace a2 := hg.cell a2 (by simp); replace a3 := hg.cell a3 (by simp); replace a4 := hg.cell a4 (by simp); replace e0 := hg.cell e0 (by simp); replace e1 := hg.cell e1 (by simp); replace e2 := hg.cell e2 (by simp); replace e3 := hg.cell e3 (by simp); replace e4 := hg.cell e4 (by simp); clear hg))
          go_wp2_with fail
          exact ⟨⟨q + 1, by omega, by go_num, hid (by first | exact hW | exact grown_trans hW (grown_drew _ none))⟩, by simp [intOf]; omega⟩
        · obtain rfl : q = nG := by omega
          go_wp2_with fail
          go_ret
          exact ⟨rfl, grown_trans HWB.out HR2.out⟩
end Go.Proofs.Ytdmlcddieadelaa

set_option linter.unusedVariables false
set_option linter.unusedSimpArgs false
namespace Go.Proofs.Ytdmlcddieadelaa
open Go.RowKit Go.Maps _root_.Nm Lx
theorem infoU16N : (Try.prog.info? 99).map (fun i => (i.zero, i.size, i.bytes)) = some (some (.int .u16 0), 1, 2) := by kernel_rfl
set_option maxHeartbeats 1000000 in
theorem cloneB_any (a : Option Addr) (n c : Nat) (xs : List Nat) (w : World) (h : IRd w .u16 a n c xs) (hn : n ≤ 1048576) :
    Calls Try.prog 62 #[.slice a n c] w fun e w' => ∃ p c', e = .returned (.slice p n c') ∧ IRd w' .u16 p n c' xs ∧ (∀ a, p = some a → w.heap.size ≤ a.block) ∧ w.grownBy w' none := by
  have HL := hid h.len
  have hcap := h.cap
  have hmax := h.max
  cases a with
  | none =>
    have h0 : n = 0 := by
      rcases Nat.eq_zero_or_pos n with h0 | h0
      · exact h0
      · obtain ⟨b, o, e, _⟩ := h.cel 0 (by rw [HL.out]; exact h0)
        cases e
    subst h0
    obtain rfl : xs = [] := List.eq_nil_of_length_eq_zero HL.out
    have hq : ∀ w : World, (binOp .eql 52 (.slice none 0 c) (.slice none 0 0)).run Try.prog w = .ok (.bool true) w := fun w => Lib.run_eql_slice_nil w _ _ _ _ _ _ _ Try.underlying52
    go_enter Try.func62, Try.ntmps62
    go_wp2
    go_ret
    exact ⟨none, 0, rfl, IRd.nil _ _, fun a h => (by cases h), grown_refl _ _⟩
  | some q =>
    have hq : ∀ w : World, (binOp .eql 52 (.slice (some q) n c) (.slice none 0 0)).run Try.prog w = .ok (.bool false) w := fun w => Lib.run_eql_slice_nil w _ _ _ _ _ _ _ Try.underlying52
    go_enter Try.func62, Try.ntmps62
    go_wp2_with (refine wl_append _ rfl (.tmp 5) (.tmp 6) 52 rfl 99 .u16 2 Try.underlying52 infoU16N w.heap.size _ 0 0 [] rfl (IOwn.made w w.heap.size 99 .u16 [] (Nat.le_refl _) (by simp)) _ n c xs rfl (h.keep (World.grownBy_alloc _ _ _)) (by omega) (by omega) w (World.grownBy_alloc _ _ _) (Nat.le_refl _) (by simp) ?_; intro p' c2 w1 ho hg)
    go_ret
    have := ho.rd
    simp only [List.nil_append, Nat.zero_add] at this
    exact ⟨p', c2, by simp, this, fun a h => (ho.lt a h).1, hg⟩

set_option maxHeartbeats 64000000 in
set_option maxRecDepth 100000 in
theorem freshRat_n (g : Bool) (p1 : Option Addr) (n1 c1 : Nat) (p2 : Option Addr) (n2 c2 : Nat) (xs ys : List Nat) (w : World) (hx : IRd w .u16 p1 n1 c1 xs) (hy : IRd w .u16 p2 n2 c2 ys) (h1 : n1 ≤ 1048576) (h2 : n2 ≤ 1048576) :
    Calls Try.prog 28 #[.agg #[.bool g, .slice p1 n1 c1, .slice p2 n2 c2]] w fun e w' => ∃ q1 d1 q2 d2, e = .returned (.agg #[.bool g, .slice q1 n1 d1, .slice q2 n2 d2]) ∧ IRd w' .u16 q1 n1 d1 xs ∧ IRd w' .u16 q2 n2 d2 ys ∧ (∀ a, q1 = some a → w.heap.size ≤ a.block) ∧ (∀ a, q2 = some a → w.heap.size ≤ a.block) ∧ w.grownBy w' none := by
  have H1 := hid fun W (hg : w.grownBy W none) => cloneB_any p1 n1 c1 xs W (hx.keep hg) h1
  have H2 := hid fun W (hg : w.grownBy W none) => cloneB_any p2 n2 c2 ys W (hy.keep hg) h2
  clear hx hy
  have gA := World.grownBy_alloc w (.cells #[.bool g, .slice p1 n1 c1, .slice p2 n2 c2] 56 (0, 0)) none
  have gB := World.grownBy_alloc (w.alloc (.cells #[.bool g, .slice p1 n1 c1, .slice p2 n2 c2] 56 (0, 0))) (.cells #[.bool false, .slice none 0 0, .slice none 0 0] 56 (0, 0)) none
  have BA := hid (keepB (blk0 w (.cells #[.bool g, .slice p1 n1 c1, .slice p2 n2 c2] 56 (0, 0))) gB)
  have hsz : (w.alloc (.cells #[.bool g, .slice p1 n1 c1, .slice p2 n2 c2] 56 (0, 0))).heap.size = w.heap.size + 1 := by simp
  have BB := blk0 (w.alloc (.cells #[.bool g, .slice p1 n1 c1, .slice p2 n2 c2] 56 (0, 0))) (.cells #[.bool false, .slice none 0 0, .slice none 0 0] 56 (0, 0))
  rw [hsz] at BB
  replace BB := hid BB
  have hW := grown_trans gA gB
  clear gA gB hsz
  go_enter Try.func28, Try.ntmps28
  go_upto_region 1 with fail
  generalize ((w.alloc _).alloc _) = w0 at *
  obtain ⟨k0, k1, k2⟩ := box3n BA.out
  have hs0 : w.heap.size + 1 < w0.heap.size := lt_of_block BB.out
  go_upto_region 2 with (go_at_call 62; (with_reducible refine (H1.out _ hW).mono ?_); rintro e w1 ⟨q1, d1, rfl, hr1, hq1, hg⟩; have HR1 := hid hr1; have HQ1 := hid hq1; have HW := hid (grown_trans hW hg); have BA1 := hid (keepB BA.out hg); have BB1 := hid (keepB BB.out hg); have f1 := frozen_of_row w1 w.heap.size 1 _ _ BA1.out; have k1' := cell_of_row w1 w.heap.size 1 _ _ _ BA1.out; have hs1 := hg.size; clear hg hr1 hq1 k0 k1 k2)
  clear f1 k1'
  have gS := grown_setCell w1 ⟨w.heap.size, 1, none⟩ (.slice q1 n1 d1)
  have HR1b := hid (HR1.out.kept gS (.inr fun p hp e => by have := HQ1.out p hp; simp at e; omega))
  have BA2 := hid (heap_setCell_same w1 w.heap.size 1 _ _ (.slice q1 n1 d1) BA1.out)
  have BB2 : Hid ((w1.setCell ⟨w.heap.size, 1, none⟩ (.slice q1 n1 d1)).heap[w.heap.size + 1]? = some (.cells #[.bool false, .slice none 0 0, .slice none 0 0] 56 (0, 0))) := hid ((gS.block (w.heap.size + 1) (lt_of_block BB1.out) (by simp)).trans BB1.out)
  have HW2 := hid (grown_new HW.out gS (fun g' e => by cases e; exact Nat.le_refl _))
  have hs2 := gS.size
  clear gS
  generalize w1.setCell _ _ = w2 at *
  have BA2' : Hid (w2.heap[w.heap.size]? = some (.cells #[.bool g, .slice q1 n1 d1, .slice p2 n2 c2] 56 (0, 0))) := BA2
  obtain ⟨k0, k1, k2⟩ := box3n BA2'.out
  go_upto_region 3 with (go_at_call 62; (with_reducible refine (H2.out _ HW2.out).mono ?_); rintro e w3 ⟨q2, d2, rfl, hr2, hq2, hg⟩; have HR2 := hid hr2; have HQ2 := hid hq2; have HR1c := hid (HR1b.out.keep hg); have HW3 := hid (grown_trans HW2.out hg); have BA3 := hid (keepB BA2'.out hg); have BB3 := hid (keepB BB2.out hg); have f2 := frozen_of_row w3 w.heap.size 2 _ _ BA3.out; have k2' := cell_of_row w3 w.heap.size 2 _ _ _ BA3.out; have hs3 := hg.size; clear hg hr2 hq2 k0 k1 k2)
  clear f2 k2'
  have gS := grown_setCell w3 ⟨w.heap.size, 2, none⟩ (.slice q2 n2 d2)
  have HR2b := hid (HR2.out.kept gS (.inr fun p hp e => by have := HQ2.out p hp; simp at e; omega))
  have HR1d := hid (HR1c.out.kept gS (.inr fun p hp e => by have := HQ1.out p hp; simp at e; omega))
  have BA4 := hid (heap_setCell_same w3 w.heap.size 2 _ _ (.slice q2 n2 d2) BA3.out)
  have BB4 : Hid ((w3.setCell ⟨w.heap.size, 2, none⟩ (.slice q2 n2 d2)).heap[w.heap.size + 1]? = some (.cells #[.bool false, .slice none 0 0, .slice none 0 0] 56 (0, 0))) := hid ((gS.block (w.heap.size + 1) (lt_of_block BB3.out) (by simp)).trans BB3.out)
  have HW4 := hid (grown_new HW3.out gS (fun g' e => by cases e; exact Nat.le_refl _))
  clear gS
  generalize w3.setCell _ _ = w4 at *
  have BA4' : Hid (w4.heap[w.heap.size]? = some (.cells #[.bool g, .slice q1 n1 d1, .slice q2 n2 d2] 56 (0, 0))) := BA4
  obtain ⟨k0, k1, k2⟩ := box3n BA4'.out
  obtain ⟨z0, z1, z2⟩ := box3n BB4.out
  have f0 := frozen_of_row w4 (w.heap.size + 1) 0 _ _ BB4.out
  have f1 := frozen_of_row w4 (w.heap.size + 1) 1 _ _ BB4.out
  have f2 := frozen_of_row w4 (w.heap.size + 1) 2 _ _ BB4.out
  have t1 := heap_setCell_same w4 (w.heap.size + 1) 0 _ _ (.bool g) BB4.out
  have t2 := heap_setCell_same _ (w.heap.size + 1) 1 _ _ (.slice q1 n1 d1) t1
  have t3 := heap_setCell_same _ (w.heap.size + 1) 2 _ _ (.slice q2 n2 d2) t2
  have T3 := hid t3
  have g5 := grown_trans (grown_trans (grown_setCell w4 ⟨w.heap.size + 1, 0, none⟩ (.bool g)) (grown_setCell _ ⟨w.heap.size + 1, 1, none⟩ (.slice q1 n1 d1))) (grown_setCell _ ⟨w.heap.size + 1, 2, none⟩ (.slice q2 n2 d2))
  have G5 := hid g5
  clear t1 t2 t3 g5
  go_wp2_with fail
  generalize ((w4.setCell _ _).setCell _ _).setCell _ _ = w5 at *
  have T4 : w5.heap[w.heap.size + 1]? = some (.cells #[.bool g, .slice q1 n1 d1, .slice q2 n2 d2] 56 (0, 0)) := T3.out
  obtain ⟨c0, c1', c2'⟩ := box3n T4
  exact bodyPost_ret (v := .agg #[.bool g, .slice q1 n1 d1, .slice q2 n2 d2]) (by simp [results, Try.results28, go_sem, c0, c1', c2']) rfl ⟨q1, d1, q2, d2, rfl, HR1d.out.kept G5.out (.inr fun p hp e => by have := HQ1.out p hp; simp at e; omega), HR2b.out.kept G5.out (.inr fun p hp e => by have := HQ2.out p hp; simp at e; omega), fun a ha => (by have := HQ1.out a ha; omega), fun a ha => (by have := HQ2.out a ha; omega), grown_new HW4.out G5.out (fun g' e => by cases e; exact Nat.le_succ _)⟩
end Go.Proofs.Ytdmlcddieadelaa

set_option linter.unusedVariables false
set_option linter.unusedSimpArgs false
namespace Nm
open Go Go.RowKit
/-- the fact Φ holds in every world that has this one's blocks, those of S apart -/
def Stay (w : World) (S : Nat → Prop) (Φ : World → Prop) : Prop := ∀ W : World, (∀ G O, w.heap[G]? = some O → ¬ S G → W.heap[G]? = some O) → Φ W
section
variable {w w' : World} {S S' : Nat → Prop} {Φ Ψ : World → Prop}
theorem Stay.out (h : Stay w S Φ) : Φ w := h w fun _ _ h _ => h
theorem Stay.imp (h : Stay w S Φ) (f : ∀ W, Φ W → Ψ W) : Stay w S Ψ := fun W hW => f W (h W hW)
theorem Stay.and (h : Stay w S Φ) (h2 : Stay w S Ψ) : Stay w S (fun W => Φ W ∧ Ψ W) := fun W hW => ⟨h W hW, h2 W hW⟩
theorem Stay.step (h : Stay w S Φ) (hs : ∀ G O, w.heap[G]? = some O → ¬ S G → w'.heap[G]? = some O ∧ ¬ S' G) : Stay w' S' Φ :=
  fun W hW => h W fun G O hG hS => hW G O (hs G O hG hS).1 (hs G O hG hS).2
theorem Stay.keep (h : Stay w S Φ) (hg : w.grownBy w' none) : Stay w' S Φ := h.step fun G O hG hS => ⟨(hg.block G (Array.getElem?_eq_some_iff.1 hG).1 (by simp)).trans hG, hS⟩
theorem Stay.kept (h : Stay w S Φ) {row : Option Nat} (hg : w.grownBy w' row) (hr : ∀ g, row = some g → S g) : Stay w' S Φ :=
  h.step fun G O hG hS => ⟨(hg.block G (Array.getElem?_eq_some_iff.1 hG).1 (fun e => hS (hr G e.symm))).trans hG, hS⟩
theorem Stay.less (h : Stay w S Φ) (hs : ∀ g, g < w.heap.size → S' g → S g) : Stay w S' Φ := h.step fun G O hG hS => ⟨hG, fun h2 => hS (hs G (Array.getElem?_eq_some_iff.1 hG).1 h2)⟩
theorem Stay.true (w : World) (S : Nat → Prop) (p : Prop) (h : p) : Stay w S (fun _ => p) := fun _ _ => h
theorem Stay.cell {a : Addr} {v : Value} (h : w.cell? a = some v) (hs : ¬ S a.block) : Stay w S (fun W => W.cell? a = some v) := fun W hW => by
  have hlt := World.block_lt_of_cell? w a h
  exact (World.cell?_of_block ((hW a.block _ (Array.getElem?_eq_getElem hlt) hs).trans (Array.getElem?_eq_getElem hlt).symm)).trans h
theorem Stay.ird {k : IntKind} {a : Option Addr} {n c : Nat} {xs : List Nat} (h : IRd w k a n c xs) (hs : ∀ p, a = some p → 0 < n → ¬ S p.block) : Stay w S (fun W => IRd W k a n c xs) := fun W hW =>
  ⟨h.len, h.cap, h.max, fun i hi => by
    obtain ⟨b, o, rfl, hc⟩ := h.cel i hi
    exact ⟨b, o, rfl, Stay.cell hc (show ¬ S b from hs ⟨b, o, none⟩ rfl (by have := h.len; omega)) W hW⟩⟩
theorem Stay.zrd {k : IntKind} {a : Option Addr} {n c : Nat} {xs : List Int} (h : ZRd w k a n c xs) (hs : ∀ p, a = some p → 0 < n → ¬ S p.block) : Stay w S (fun W => ZRd W k a n c xs) := fun W hW =>
  ⟨h.len, h.cap, h.max, fun i hi => by
    obtain ⟨b, o, rfl, hc⟩ := h.cel i hi
    exact ⟨b, o, rfl, Stay.cell hc (show ¬ S b from hs ⟨b, o, none⟩ rfl (by have := h.len; omega)) W hW⟩⟩
theorem Stay.srd {k : Nat} {a : Option Addr} {n c : Nat} {l : List (List Value)} (h : SRd w k a n c l) (hs : ∀ p, a = some p → ¬ S p.block) : Stay w S (fun W => SRd W k a n c l) := fun W hW =>
  ⟨h.len, h.each, h.cap, h.max, fun i hi j hj => by
    obtain ⟨b, o, rfl, hc⟩ := h.cel i hi j hj
    exact ⟨b, o, rfl, Stay.cell hc (show ¬ S b from hs ⟨b, o, none⟩ rfl) W hW⟩⟩
/-- a fact that grows with the world, of a world whose blocks all stay -/
theorem Stay.below {w0 : World} (hs : ∀ g, g < w0.heap.size → ¬ S g) (hb : w0.grownBy w none) (hΦ : ∀ W, (∀ G, G < w0.heap.size → W.heap[G]? = w0.heap[G]?) → Φ W) : Stay w S Φ := fun W hW => hΦ W fun G hG => by
  have h1 : w.heap[G]? = some w0.heap[G] := (hb.block G hG (by simp)).trans (Array.getElem?_eq_getElem hG)
  rw [hW G _ h1 (hs G hG), Array.getElem?_eq_getElem hG]
theorem IRd.agree {w W : World} {k : IntKind} {a : Option Addr} {n c : Nat} {xs : List Nat} (h : IRd w k a n c xs) (hW : ∀ G, G < w.heap.size → W.heap[G]? = w.heap[G]?) : IRd W k a n c xs :=
  ⟨h.len, h.cap, h.max, fun i hi => by
    obtain ⟨b, o, rfl, hc⟩ := h.cel i hi
    exact ⟨b, o, rfl, (World.cell?_of_block (hW b (World.block_lt_of_cell? w _ hc))).trans hc⟩⟩
theorem ZRd.agree {w W : World} {k : IntKind} {a : Option Addr} {n c : Nat} {xs : List Int} (h : ZRd w k a n c xs) (hW : ∀ G, G < w.heap.size → W.heap[G]? = w.heap[G]?) : ZRd W k a n c xs :=
  ⟨h.len, h.cap, h.max, fun i hi => by
    obtain ⟨b, o, rfl, hc⟩ := h.cel i hi
    exact ⟨b, o, rfl, (World.cell?_of_block (hW b (World.block_lt_of_cell? w _ hc))).trans hc⟩⟩
/-- a slice of numbers that is not empty does not lie in a block whose cells are no numbers -/
theorem IRd.notIn {w : World} {k : IntKind} {a : Option Addr} {n c : Nat} {xs : List Nat} (h : IRd w k a n c xs) {G : Nat} {cs : Array Value} {T : TypeId} {z : Nat × Nat} (hb : w.heap[G]? = some (.cells cs T z)) (hc : ∀ v ∈ cs, ∀ x, v ≠ .int k x) : ∀ p, a = some p → 0 < n → p.block ≠ G := by
  rintro p rfl hn rfl
  obtain ⟨b, o, e, hcell⟩ := h.cel 0 (by have := h.len; omega)
  cases e
  unfold World.cell? at hcell
  rw [hb] at hcell
  simp only [Nat.add_zero] at hcell
  exact hc _ (Array.mem_of_getElem? hcell) _ rfl
theorem ZRd.notIn {w : World} {k : IntKind} {a : Option Addr} {n c : Nat} {xs : List Int} (h : ZRd w k a n c xs) {G : Nat} {cs : Array Value} {T : TypeId} {z : Nat × Nat} (hb : w.heap[G]? = some (.cells cs T z)) (hc : ∀ v ∈ cs, ∀ x, v ≠ .int k x) : ∀ p, a = some p → 0 < n → p.block ≠ G := by
  rintro p rfl hn rfl
  obtain ⟨b, o, e, hcell⟩ := h.cel 0 (by have := h.len; omega)
  cases e
  unfold World.cell? at hcell
  rw [hb] at hcell
  simp only [Nat.add_zero] at hcell
  exact hc _ (Array.mem_of_getElem? hcell) _ rfl
end
end Nm

set_option linter.unusedVariables false
set_option linter.unusedSimpArgs false
namespace Go.Proofs.Ytdmlcddieadelaa
open Go.RowKit Go.Maps _root_.Nm Lx
/-- what a step holds -/
structure StD where
  k : Int
  nm : ByteArray
  zs : List Int
  g : Bool
  xs : List Nat
  ys : List Nat
/-- what a goal holds -/
structure GlD where
  k : Int
  zs : List Int
  g : Bool
  xs : List Nat
  ys : List Nat
/-- a step's cells, by what they hold -/
def StC (w : World) (cs : List Value) (d : StD) : Prop := ∃ (pa : Option Addr) (na ca : Nat) (p1 : Option Addr) (n1 c1 : Nat) (p2 : Option Addr) (n2 c2 : Nat),
  cs = [.int .i64 d.k, .string d.nm, .slice pa na ca, .bool d.g, .slice p1 n1 c1, .slice p2 n2 c2] ∧ ZRd w .i64 pa na ca d.zs ∧ IRd w .u16 p1 n1 c1 d.xs ∧ IRd w .u16 p2 n2 c2 d.ys
/-- a goal's cells, by what they hold -/
def GlC (w : World) (cs : List Value) (d : GlD) : Prop := ∃ (pa : Option Addr) (na ca : Nat) (p1 : Option Addr) (n1 c1 : Nat) (p2 : Option Addr) (n2 c2 : Nat),
  cs = [.int .i64 d.k, .slice pa na ca, .bool d.g, .slice p1 n1 c1, .slice p2 n2 c2] ∧ ZRd w .i64 pa na ca d.zs ∧ IRd w .u16 p1 n1 c1 d.xs ∧ IRd w .u16 p2 n2 c2 d.ys
theorem StC.keep {w w' : World} {cs : List Value} {d : StD} (h : StC w cs d) (hg : w.grownBy w' none) : StC w' cs d := by
  obtain ⟨pa, na, ca, p1, n1, c1, p2, n2, c2, h1, h2, h3, h4⟩ := h
  exact ⟨pa, na, ca, p1, n1, c1, p2, n2, c2, h1, h2.keep hg, h3.keep hg, h4.keep hg⟩
theorem GlC.keep {w w' : World} {cs : List Value} {d : GlD} (h : GlC w cs d) (hg : w.grownBy w' none) : GlC w' cs d := by
  obtain ⟨pa, na, ca, p1, n1, c1, p2, n2, c2, h1, h2, h3, h4⟩ := h
  exact ⟨pa, na, ca, p1, n1, c1, p2, n2, c2, h1, h2.keep hg, h3.keep hg, h4.keep hg⟩
/-- the cells of the element i of a row of structs of k cells -/
def CsAt (w : World) (p : Option Addr) (k i : Nat) (cs : List Value) : Prop := ∃ b o, p = some ⟨b, o, none⟩ ∧ ∀ j (hj : j < cs.length), w.cell? ⟨b, o + i * k + j, none⟩ = some cs[j]
theorem CsAt.keep {w w' : World} {p : Option Addr} {k i : Nat} {cs : List Value} (h : CsAt w p k i cs) (hg : w.grownBy w' none) : CsAt w' p k i cs := by
  obtain ⟨b, o, h1, h2⟩ := h
  exact ⟨b, o, h1, fun j hj => hg.cell (h2 j hj) (by simp)⟩
/-- the step i of a row of steps -/
def StM (w : World) (p : Option Addr) (i : Nat) (d : StD) : Prop := ∃ cs, CsAt w p 6 i cs ∧ StC w cs d
def GlM (w : World) (p : Option Addr) (i : Nat) (d : GlD) : Prop := ∃ cs, CsAt w p 5 i cs ∧ GlC w cs d
theorem StM.keep {w w' : World} {p : Option Addr} {i : Nat} {d : StD} (h : StM w p i d) (hg : w.grownBy w' none) : StM w' p i d := h.elim fun cs h => ⟨cs, h.1.keep hg, h.2.keep hg⟩
theorem GlM.keep {w w' : World} {p : Option Addr} {i : Nat} {d : GlD} (h : GlM w p i d) (hg : w.grownBy w' none) : GlM w' p i d := h.elim fun cs h => ⟨cs, h.1.keep hg, h.2.keep hg⟩
theorem StM.two {w : World} {p q : Option Addr} {i : Nat} {d : StD} (h : StM w p i d) (h2 : StM w q i d) : StTwo w p q i := by
  obtain ⟨cs, ⟨b, o, rfl, hc⟩, pa, na, ca, p1, n1, c1, p2, n2, c2, rfl, r1, r2, r3⟩ := h
  obtain ⟨cs', ⟨b', o', rfl, hc'⟩, qa, ma, da, q1, m1, d1, q2, m2, d2, rfl, r4, r5, r6⟩ := h2
  obtain rfl : na = ma := by rw [← r1.len, ← r4.len]
  obtain rfl : n1 = m1 := by rw [← r2.len, ← r5.len]
  obtain rfl : n2 = m2 := by rw [← r3.len, ← r6.len]
  exact ⟨b, o, b', o', d.k, d.nm, pa, na, ca, d.g, p1, n1, c1, p2, n2, c2, qa, da, q1, d1, q2, d2, d.zs, d.xs, d.ys, rfl, rfl, ⟨hc 0 (by simp), hc 1 (by simp), hc 2 (by simp), hc 3 (by simp), hc 4 (by simp), hc 5 (by simp)⟩, ⟨hc' 0 (by simp), hc' 1 (by simp), hc' 2 (by simp), hc' 3 (by simp), hc' 4 (by simp), hc' 5 (by simp)⟩, r1, r4, r2, r3, r5, r6⟩
theorem GlM.two {w : World} {p q : Option Addr} {i : Nat} {d : GlD} (h : GlM w p i d) (h2 : GlM w q i d) : GlTwo w p q i := by
  obtain ⟨cs, ⟨b, o, rfl, hc⟩, pa, na, ca, p1, n1, c1, p2, n2, c2, rfl, r1, r2, r3⟩ := h
  obtain ⟨cs', ⟨b', o', rfl, hc'⟩, qa, ma, da, q1, m1, d1, q2, m2, d2, rfl, r4, r5, r6⟩ := h2
  obtain rfl : na = ma := by rw [← r1.len, ← r4.len]
  obtain rfl : n1 = m1 := by rw [← r2.len, ← r5.len]
  obtain rfl : n2 = m2 := by rw [← r3.len, ← r6.len]
  exact ⟨b, o, b', o', d.k, pa, na, ca, d.g, p1, n1, c1, p2, n2, c2, qa, da, q1, d1, q2, d2, d.zs, d.xs, d.ys, rfl, rfl, ⟨hc 0 (by simp), hc 1 (by simp), hc 2 (by simp), hc 3 (by simp), hc 4 (by simp)⟩, ⟨hc' 0 (by simp), hc' 1 (by simp), hc' 2 (by simp), hc' 3 (by simp), hc' 4 (by simp)⟩, r1, r4, r2, r3, r5, r6⟩
/-- a goal's cells, and its arguments -/
def GlA (w : World) (cs : List Value) (na n1 n2 : Nat) (zs : List Int) : Prop := ∃ (k : Int) (pa : Option Addr) (ca : Nat) (g : Bool) (p1 : Option Addr) (c1 : Nat) (p2 : Option Addr) (c2 : Nat), cs = [.int .i64 k, .slice pa na ca, .bool g, .slice p1 n1 c1, .slice p2 n2 c2] ∧ ZRd w .i64 pa na ca zs
theorem StB.mem {w : World} {p : Option Addr} {i : Nat} {cs : List Value} {nm : ByteArray} {na n1 n2 : Nat} {zs : List Int} (hp : SpAt w p i cs nm na n1 n2) (hb : StB w cs nm na n1 n2) (ha : StA w cs na n1 n2 zs) : ∃ d : StD, d.nm = nm ∧ d.zs = zs ∧ d.zs.length = na ∧ d.xs.length ≤ 1048576 ∧ d.ys.length ≤ 1048576 ∧ StM w p i d := by
  obtain ⟨b, o, k, pa, ca, g, p1, c1, p2, c2, rfl, rfl, a0, a1, a2, a3, a4, a5⟩ := hp
  obtain ⟨⟨k', pa', ca', g', p1', c1', p2', c2', zs', xs, ys, e, hz, hx, hy, hd, hn⟩, b1, b2⟩ := hb
  obtain ⟨k3, nm3, pa3, ca3, g3, p13, c13, p23, c23, e3, hz3⟩ := ha
  simp only [List.cons.injEq, Value.slice.injEq, true_and, and_true] at e e3
  obtain ⟨-, ⟨rfl, rfl⟩, -, ⟨rfl, rfl⟩, rfl, rfl⟩ := e
  obtain ⟨-, -, ⟨rfl, rfl⟩, -⟩ := e3
  refine ⟨⟨k, nm, zs, g, xs, ys⟩, rfl, rfl, hz3.len, by have := hx.len; simp only; omega, by have := hy.len; simp only; omega, _, ⟨b, o, rfl, ?_⟩, pa, na, ca, p1, n1, c1, p2, n2, c2, rfl, hz3, hx, hy⟩
  intro j hj
  match j, hj with
  | 0, _ => exact a0
  | 1, _ => exact a1
  | 2, _ => exact a2
  | 3, _ => exact a3
  | 4, _ => exact a4
  | 5, _ => exact a5
theorem GlB.mem {w : World} {p : Option Addr} {i : Nat} {cs : List Value} {na n1 n2 : Nat} {zs : List Int} (hp : GlAt w p i cs na n1 n2) (hb : GlB w cs na n1 n2) (ha : GlA w cs na n1 n2 zs) : ∃ d : GlD, d.zs = zs ∧ d.zs.length = na ∧ d.xs.length ≤ 1048576 ∧ d.ys.length ≤ 1048576 ∧ GlM w p i d := by
  obtain ⟨b, o, k, pa, ca, g, p1, c1, p2, c2, rfl, rfl, a0, a1, a2, a3, a4⟩ := hp
  obtain ⟨⟨k', pa', ca', g', p1', c1', p2', c2', zs', xs, ys, e, hz, hx, hy, hd⟩, b1, b2⟩ := hb
  obtain ⟨k3, pa3, ca3, g3, p13, c13, p23, c23, e3, hz3⟩ := ha
  simp only [List.cons.injEq, Value.slice.injEq, true_and, and_true] at e e3
  obtain ⟨-, ⟨rfl, rfl⟩, -, ⟨rfl, rfl⟩, rfl, rfl⟩ := e
  obtain ⟨-, ⟨rfl, rfl⟩, -⟩ := e3
  refine ⟨⟨k, zs, g, xs, ys⟩, rfl, hz3.len, by have := hx.len; simp only; omega, by have := hy.len; simp only; omega, _, ⟨b, o, rfl, ?_⟩, pa, na, ca, p1, n1, c1, p2, n2, c2, rfl, hz3, hx, hy⟩
  intro j hj
  match j, hj with
  | 0, _ => exact a0
  | 1, _ => exact a1
  | 2, _ => exact a2
  | 3, _ => exact a3
  | 4, _ => exact a4
theorem errS_4 {k : Int} {n : Nat} {b R : Bool} {nm : List UInt8} (h : errS k n b R nm = 0) : n ≤ 4 := by
  unfold errS at h
  split at h
  · omega
  · split at h
    · omega
    · have : arS k ≤ 4 := by
        unfold arS
        repeat' split
        all_goals omega
      omega
theorem errF_0 {k : Int} {n : Nat} {b R : Bool} (h : errF k n b R = 0) : n ≤ 8 ∧ b = true := by
  unfold errF at h
  split at h
  · omega
  · split at h
    · omega
    · refine ⟨by have := arF_le k; omega, ?_⟩
      cases b
      · simp at h
      · rfl
theorem rightRef2 (pS : Option Addr) (nS cS : Nat) (pG : Option Addr) (nG cG : Nat) (C : Nat → List Value) (P : Nat → ByteArray) (NA N1 N2 : Nat → Nat) (D : Nat → List Value) (MA M1 M2 : Nat → Nat) (w : World) (hcS : nS ≤ cS ∧ cS ≤ 9223372036854775807) (hcG : nG ≤ cG ∧ cG ≤ 9223372036854775807)
    (hS : ∀ i, i < nS → SpAt w pS i (C i) (P i) (NA i) (N1 i) (N2 i) ∧ StB w (C i) (P i) (NA i) (N1 i) (N2 i)) (hG : ∀ i, i < nG → GlAt w pG i (D i) (MA i) (M1 i) (M2 i) ∧ GlB w (D i) (MA i) (M1 i) (M2 i)) :
    ∃ (x : Int) (A B : Nat → List Int), (∀ W, w.grownBy W none → Calls Try.prog 6 #[.agg #[.slice pS nS cS, .slice pG nG cG]] W fun e w' => e = .returned (.int .i64 x) ∧ W.grownBy w' none) ∧ (∀ i, i < nS → StA w (C i) (NA i) (N1 i) (N2 i) (A i)) ∧ (∀ i, i < nG → GlA w (D i) (MA i) (M1 i) (M2 i) (B i)) ∧ (x = 0 → nS ≤ 40 ∧ nG ≤ 8 ∧ (∀ i, i < nS → NA i ≤ 4 ∧ ∀ j (hj : j < (A i).length), 0 ≤ (A i)[j] ∧ (A i)[j] < (i : Int)) ∧ ∀ i, i < nG → MA i ≤ 8 ∧ ∀ j (hj : j < (B i).length), 0 ≤ (B i)[j] ∧ (B i)[j] < (nS : Int)) := by
  have hone : ∀ i (hi : i < nS), ∃ q : Int × List Int, (∀ W, w.grownBy W none → Calls Try.prog 24 #[.slice pS nS cS, .int .i64 i] W fun e w' => e = .returned (.int .i64 q.1) ∧ W.grownBy w' none) ∧ StA w (C i) (NA i) (N1 i) (N2 i) q.2 ∧ (q.1 = 0 → NA i ≤ 4 ∧ ∀ j (hj : j < q.2.length), 0 ≤ q.2[j] ∧ q.2[j] < (i : Int)) := by
    intro i hi
    obtain ⟨h1, ⟨k, pa, ca, g, p1, c1, p2, c2, zs, xs, ys, hck, hz, hx, hy, ⟨dx, dy⟩, hnm⟩, b1, b2⟩ := hS i hi
    obtain ⟨R, hR⟩ := ratF_r (decide (k = 2)) g hx dx hy dy b1 b2
    obtain ⟨b, hb⟩ := ex_boolN (∀ j (hj : j < zs.length), 0 ≤ zs[j] ∧ zs[j] < (i : Int))
    refine ⟨(stpN P (errS k (NA i) b R (P i).data.toList) i, zs), fun W hW => ?_, ⟨k, P i, pa, ca, g, p1, c1, p2, c2, hck, hz⟩, fun h => ?_⟩
    · exact rStep_n pS nS cS C P NA N1 N2 i W hcS hi (fun j hj => (hS j hj).1.keep hW) k (P i) pa (NA i) ca g p1 (N1 i) c1 p2 (N2 i) c2 zs b R hck (hz.keep hW) hb (hR.keep hW) _ rfl
    · have he : errS k (NA i) b R (P i).data.toList = 0 := by
        have h : stpN P (errS k (NA i) b R (P i).data.toList) i = 0 := h
        unfold stpN at h
        by_cases e : errS k (NA i) b R (P i).data.toList = 0
        · exact e
        · rw [if_neg e] at h
          exact absurd h e
      exact ⟨errS_4 he, hb.1 (errS_0 he)⟩
  obtain ⟨Q, hQ⟩ : ∃ Q : Nat → Int × List Int, ∀ i (hi : i < nS), (∀ W, w.grownBy W none → Calls Try.prog 24 #[.slice pS nS cS, .int .i64 i] W fun e w' => e = .returned (.int .i64 (Q i).1) ∧ W.grownBy w' none) ∧ StA w (C i) (NA i) (N1 i) (N2 i) (Q i).2 ∧ ((Q i).1 = 0 → NA i ≤ 4 ∧ ∀ j (hj : j < (Q i).2.length), 0 ≤ (Q i).2[j] ∧ (Q i).2[j] < (i : Int)) :=
    ⟨fun i => if hi : i < nS then Classical.choose (hone i hi) else (0, []), fun i hi => by
      dsimp only
      rw [dif_pos hi]
      exact Classical.choose_spec (hone i hi)⟩
  have htwo : ∀ i (hi : i < nG), ∃ y : Int × List Int, (∀ W, w.grownBy W none → Calls Try.prog 25 #[.agg (D i).toArray, .int .i64 nS] W fun e w' => e = .returned (.int .i64 y.1) ∧ W.grownBy w' none) ∧ GlA w (D i) (MA i) (M1 i) (M2 i) y.2 ∧ (y.1 = 0 → MA i ≤ 8 ∧ ∀ j (hj : j < y.2.length), 0 ≤ y.2[j] ∧ y.2[j] < (nS : Int)) := by
    intro i hi
    obtain ⟨h1, ⟨k, pa, ca, g, p1, c1, p2, c2, zs, xs, ys, hck, hz, hx, hy, dx, dy⟩, b1, b2⟩ := hG i hi
    obtain ⟨R, hR⟩ := ratF_r (decide (k = 9)) g hx dx hy dy b1 b2
    obtain ⟨b, hb⟩ := ex_boolN (∀ j (hj : j < zs.length), 0 ≤ zs[j] ∧ zs[j] < (nS : Int))
    refine ⟨(errF k (MA i) b R, zs), fun W hW => ?_, ⟨k, pa, ca, g, p1, c1, p2, c2, hck, hz⟩, fun h => ⟨(errF_0 h).1, hb.1 (errF_0 h).2⟩⟩
    rw [hck]
    exact rRight14_n k pa (MA i) ca g p1 (M1 i) c1 p2 (M2 i) c2 zs nS b R W (hz.keep hW) hb (hR.keep hW)
  obtain ⟨Y, hY⟩ : ∃ Y : Nat → Int × List Int, ∀ i (hi : i < nG), (∀ W, w.grownBy W none → Calls Try.prog 25 #[.agg (D i).toArray, .int .i64 nS] W fun e w' => e = .returned (.int .i64 (Y i).1) ∧ W.grownBy w' none) ∧ GlA w (D i) (MA i) (M1 i) (M2 i) (Y i).2 ∧ ((Y i).1 = 0 → MA i ≤ 8 ∧ ∀ j (hj : j < (Y i).2.length), 0 ≤ (Y i).2[j] ∧ (Y i).2[j] < (nS : Int)) :=
    ⟨fun i => if hi : i < nG then Classical.choose (htwo i hi) else (0, []), fun i hi => by
      dsimp only
      rw [dif_pos hi]
      exact Classical.choose_spec (htwo i hi)⟩
  refine ⟨figE nS nG (fun i => (Q i).1) (fun i => (Y i).1), fun i => (Q i).2, fun i => (Y i).2, fun W hW => ?_, fun i hi => (hQ i hi).2.1, fun i hi => (hY i hi).2.1, fun h => ?_⟩
  · exact rRightFig pS nS cS pG nG cG C P NA N1 N2 D MA M1 M2 _ (fun i => (Q i).1) (fun i => (Y i).1) W hcS hcG (fun i hi => (hS i hi).1.keep hW) (fun i hi => (hG i hi).1.keep hW) (fun i hi _ W' hW' => (hQ i hi).1 W' (grown_trans hW hW')) (fun i hi W' hW' => (hY i hi).1 W' (grown_trans hW hW')) _ rfl
  · unfold figE at h
    by_cases e : 40 < nS ∨ 8 < nG
    · rw [if_pos e] at h
      omega
    · rw [if_neg e] at h
      by_cases e2 : scanE (fun i => (Q i).1) 0 nS = 0
      · rw [if_pos e2] at h
        exact ⟨by omega, by omega, fun i hi => (hQ i hi).2.2 (scanE_0 e2 i (Nat.zero_le _) (by omega)), fun i hi => (hY i hi).2.2 (scanE_0 h i (Nat.zero_le _) (by omega))⟩
      · rw [if_neg e2] at h
        exact absurd h e2
end Go.Proofs.Ytdmlcddieadelaa

set_option linter.unusedVariables false
set_option linter.unusedSimpArgs false
namespace Nm
open Go Go.RowKit
section
variable {P : Program} {ops : Array Oper} {o : Oper} {a : Act}
/-- an operation without a guard, as one step of a region that draws -/
theorem step_go {E : Prop} {K : Act → World → Prop} {Q : Exit → Act → World → Prop} {w : World} (hgd : o.guard = none) (h : Oper.wp P o a w K Q) :
    if Region.wanted o (yielded ops a.tmps) = true then Oper.wp P o a w K Q else E := by
  rw [if_pos (by simp [Region.wanted, hgd])]
  exact h
/-- append of one struct, as one step of a region that draws; the struct, a new slice .slice sp 1 c', to a slice of the call's own -/
theorem step_sappend {E : Prop} {K : Act → World → Prop} {Q : Exit → Act → World → Prop} (w : World) (hgd : o.guard = none) (s x : Operand) (t : TypeId)
    (ho : o.op = .call { callee := .builtin .append, args := #[s, x], argTypes := #[t, t] })
    (e : TypeId) (k : Nat) (z : Value) (bytes : Nat) (h1 : P.underlying t = some (.slice e)) (h2 : (P.info? e).map (fun i => (i.zero, i.size, i.bytes)) = some (some z, k, bytes)) (hz : z.cells.size = k) (hk : 0 < k)
    (base : Nat) (p : Option Addr) (n c : Nat) (l : List (List Value)) (hs : a.eval s = .slice p n c) (hown : SOwn w base e k p n c l)
    (sp : Option Addr) (c' : Nat) (r : List Value) (hx : a.eval x = .slice sp 1 c') (hrd : SRd w k sp 1 c' [r]) (h1c : ∀ u ∈ r, u.oneCell' = true)
    (b1 : n + 1 ≤ 9223372036854775807) (b2 : (n + 1) * bytes ≤ 140737488355328) (w0 : World) (hg0 : w0.grownBy w none) (hb0 : w0.heap.size ≤ base) (hbase : base ≤ w.heap.size)
    (hK : ∀ p' c2 w', SOwn w' base e k p' (n + 1) c2 (l ++ [r]) → w0.grownBy w' none → (∀ G O, w.heap[G]? = some O → (∀ q, p = some q → q.block ≠ G) → w'.heap[G]? = some O) → K (a.put o.dst (.slice p' (n + 1) c2)) w') :
    if Region.wanted o (yielded ops a.tmps) = true then Oper.wp P o a w K Q else E := by
  have hw : Region.wanted o (yielded ops a.tmps) = true := by simp [Region.wanted, hgd]
  rw [if_pos hw]
  obtain ⟨i, hi, hz0, hz1, hz2⟩ := info_parts h2
  subst hz2
  have hrk : r.length = k := hrd.each r (by simp)
  obtain ⟨b, o', rfl, hc⟩ := hrd.at hk (i := 0) (by simp)
  refine wp_append_own w s x t ho base e i z k i.bytes h1 hi hz0 hz1 rfl hz hk _ n l.flatten hs hown.2.2 ⟨b, o', none⟩ 1 c' r hx (by simpa using hrk) ?_ h1c (by unfold maxLen; omega) b2 hbase ?_
  · intro j u hu
    obtain ⟨hj, rfl⟩ := List.getElem?_eq_some_iff.1 hu
    have := hc j (by simpa using hj)
    rw [add_addr]
    simpa using this
  · intro v' w' hown' hgr _
    obtain ⟨hl, h3⟩ := hown'
    have hv' : ∃ p' c2, v' = .slice p' (n + 1) c2 := by
      rcases h3 with ⟨rfl, h4⟩ | ⟨g, cap, cur, rfl, _⟩
      · exact ⟨none, 0, by rw [h4]⟩
      · exact ⟨_, _, rfl⟩
    obtain ⟨p', c2, rfl⟩ := hv'
    refine hK p' c2 w' ⟨by simp [hown.1], ?_, by simpa using ⟨hl, h3⟩⟩ (grown_new hg0 hgr fun g hg => ?_) (fun G O hG hne => (hgr.block G (lt_of_block hG) ?_).trans hG)
    · intro q hq
      rcases List.mem_append.1 hq with h | h
      · exact hown.2.1 q h
      · rw [List.mem_singleton.1 h]; exact hrk
    · cases p with
      | none => simp [Value.ownBlock] at hg
      | some q =>
        simp [Value.ownBlock] at hg
        have := (hown.lt q rfl).1
        omega
    · cases p with
      | none => simp [Value.ownBlock]
      | some q =>
        simp only [Value.ownBlock, ne_eq, Option.some.injEq]
        exact fun e => hne q rfl e.symm
/-- the same, and where the new slice lies -/
theorem step_sappend_at {E : Prop} {K : Act → World → Prop} {Q : Exit → Act → World → Prop} (w : World) (hgd : o.guard = none) (s x : Operand) (t : TypeId)
    (ho : o.op = .call { callee := .builtin .append, args := #[s, x], argTypes := #[t, t] })
    (e : TypeId) (k : Nat) (z : Value) (bytes : Nat) (h1 : P.underlying t = some (.slice e)) (h2 : (P.info? e).map (fun i => (i.zero, i.size, i.bytes)) = some (some z, k, bytes)) (hz : z.cells.size = k) (hk : 0 < k)
    (base : Nat) (p : Option Addr) (n c : Nat) (l : List (List Value)) (hs : a.eval s = .slice p n c) (hown : SOwn w base e k p n c l)
    (sp : Option Addr) (c' : Nat) (r : List Value) (hx : a.eval x = .slice sp 1 c') (hrd : SRd w k sp 1 c' [r]) (h1c : ∀ u ∈ r, u.oneCell' = true)
    (b1 : n + 1 ≤ 9223372036854775807) (b2 : (n + 1) * bytes ≤ 140737488355328) (hbase : base ≤ w.heap.size)
    (hK : ∀ p' c2 w', SOwn w' base e k p' (n + 1) c2 (l ++ [r]) → w.grownBy w' (p.map (·.block)) → (p'.map (·.block) = p.map (·.block) ∨ p'.map (·.block) = some w.heap.size) → K (a.put o.dst (.slice p' (n + 1) c2)) w') :
    if Region.wanted o (yielded ops a.tmps) = true then Oper.wp P o a w K Q else E := by
  refine step_go hgd ?_
  obtain ⟨i, hi, hz0, hz1, hz2⟩ := info_parts h2
  subst hz2
  have hrk : r.length = k := hrd.each r (by simp)
  obtain ⟨b, o', rfl, hc⟩ := hrd.at hk (i := 0) (by simp)
  have hob : ∀ (q : Option Addr) (m d : Nat), (Value.slice q m d).ownBlock = q.map (·.block) := fun q m d => by cases q <;> rfl
  obtain ⟨v', w', hrun, hown', hgr, _, hat⟩ := run_append_own_at (P := P) w base t o.type e i z k i.bytes h1 hi hz0 hz1 rfl hz hk (.slice p n c) n l.flatten hown.2.2 ⟨b, o', none⟩ 1 c' r (by simpa using hrk) (fun j u hu => by
    obtain ⟨hj, rfl⟩ := List.getElem?_eq_some_iff.1 hu
    have := hc j (by simpa using hj)
    rw [add_addr]
    simpa using this) h1c (by unfold maxLen; omega) b2 hbase
  obtain ⟨hl, h3⟩ := hown'
  have hv' : ∃ p' c2, v' = .slice p' (n + 1) c2 := by
    rcases h3 with ⟨rfl, h4⟩ | ⟨g, cap, cur, rfl, _⟩
    · exact ⟨none, 0, by rw [h4]⟩
    · exact ⟨_, _, rfl⟩
  obtain ⟨p', c2, rfl⟩ := hv'
  rw [hob] at hgr
  rw [hob, hob] at hat
  have hfin := hK p' c2 w' ⟨by simp [hown.1], fun q hq => by
    rcases List.mem_append.1 hq with h | h
    · exact hown.2.1 q h
    · rw [List.mem_singleton.1 h]; exact hrk, by simpa using ⟨hl, h3⟩⟩ hgr hat
  unfold Oper.wp
  simp [execOp, ho, resolve, invoke, builtin, hs, hx, hrun, Result.andThen]
  exact hfin
end
end Nm

set_option linter.unusedVariables false
set_option linter.unusedSimpArgs false
namespace Go.Proofs.Ytdmlcddieadelaa
open Go Go.RowKit Go.Maps _root_.Nm Lx
theorem set2P_block {w : World} {G : Nat} {a b : Value} {T : TypeId} (hb : w.heap[G]? = some (.cells #[a, b] T (0, 0))) (a' b' : Value) :
    ((w.setCell ⟨G, 0, none⟩ a').setCell ⟨G, 1, none⟩ b').heap[G]? = some (.cells #[a', b'] T (0, 0)) := by
  have h1 := heap_setCell_same w G 0 _ _ a' hb
  have h2 := heap_setCell_same _ G 1 _ _ b' h1
  simpa using h2
/-- a slice of one struct whose block is known -/
theorem one_srdB {w : World} {G : Nat} {e : TypeId} {k : Nat} {r : List Value} (hb : w.heap[G]? = some (.cells r.toArray e (0, 0))) (hr : r.length = k) : SRd w k (some ⟨G, 0, none⟩) 1 1 [r] := by
  refine ⟨rfl, by simpa using hr, Nat.le_refl _, by omega, fun i hi j hj => ⟨G, 0, rfl, ?_⟩⟩
  simp only [List.length_cons, List.length_nil, Nat.zero_add, Nat.lt_one_iff] at hi
  subst hi
  simp only [List.getElem_cons_zero] at hj ⊢
  rw [cell_of_row w G (0 + 0 * k + j) _ _ _ hb]
  simp [hj]
theorem infoStepP : (Try.prog.info? 64).map (fun i => (i.zero, i.size, i.bytes)) = some (some (.agg #[.int .i64 0, .string ⟨#[]⟩, .slice none 0 0, .bool false, .slice none 0 0, .slice none 0 0]), 6, 104) := by kernel_rfl
theorem stepZP : (Value.agg #[.int .i64 0, .string ⟨#[]⟩, .slice none 0 0, .bool false, .slice none 0 0, .slice none 0 0]).cells.size = 6 := by kernel_rfl
theorem stepOneP (k : Int) (nm : ByteArray) (g : Bool) (pn : Option Addr) (nn cn : Nat) (pd : Option Addr) (nd cd : Nat) (pa : Option Addr) (na ca : Nat) :
    ∀ u ∈ [Value.int .i64 k, .string nm, .slice pn nn cn, .bool g, .slice pd nd cd, .slice pa na ca], u.oneCell' = true := by
  intro u hu
  simp only [List.mem_cons, List.not_mem_nil, or_false] at hu
  rcases hu with rfl | rfl | rfl | rfl | rfl | rfl <;> rfl
/-- the arguments replaced by their places -/
def mvS (L : List Int) (d : StD) : StD := ⟨d.k, d.nm, plc L d.zs, d.g, d.xs, d.ys⟩
def mvG (L : List Int) (d : GlD) : GlD := ⟨d.k, plc L d.zs, d.g, d.xs, d.ys⟩
theorem plc_len (L zs : List Int) : (plc L zs).length = zs.length := by simp [plc]
/-- the pruned figure's box with its goal -/
def PrBox (w2 : World) (b4 : Nat) (L : List Int) (e : GlD) (v : Value) (wx : World) : Prop := ∃ b8 g, v = .pointer (some ⟨b8, 0, none⟩) ∧ w2.heap.size ≤ b8 ∧ b8 < wx.heap.size ∧ wx.heap[b8]? = some (.cells #[.slice none 0 0, .slice (some ⟨g, 0, none⟩) 1 1] 25 (0, 0)) ∧ Stay wx (fun G => G = b4 ∨ G = b8) (fun W => GlM W (some ⟨g, 0, none⟩) 0 (mvG L e)) ∧ w2.grownBy wx none
theorem prune_goal {w2 wL wE : World} {b4 b8 g : Nat} {L : List Int} {e : GlD} {qa : Option Addr} {na ca : Nat} {q1 : Option Addr} {n1 d1 : Nat} {q2 : Option Addr} {n2 d2 : Nat}
    (hgg : w2.grownBy wL none) (hb4 : b4 < w2.heap.size) (hB4 : w2.heap[b4]? = some (.cells #[.slice none 0 0, .slice none 0 0] 25 (0, 0))) (hb8 : wL.heap[b8]? = some (.cells #[.slice none 0 0, .slice none 0 0] 25 (0, 0))) (hl8 : w2.heap.size ≤ b8) (hlg : w2.heap.size ≤ g)
    (hbE : wE.heap[b8]? = some (.cells #[.slice none 0 0, .slice (some ⟨g, 0, none⟩) 1 1] 25 (0, 0)))
    (hbR : wL.heap[g]? = some (.cells #[.int .i64 e.k, .slice qa na ca, .bool e.g, .slice q1 n1 d1, .slice q2 n2 d2] 58 (0, 0))) (hgS : wL.grownBy wE (some b8))
    (r1 : ZRd wL .i64 qa na ca (plc L e.zs)) (r2 : IRd wL .u16 q1 n1 d1 e.xs) (r3 : IRd wL .u16 q2 n2 d2 e.ys) : PrBox w2 b4 L e (.pointer (some ⟨b8, 0, none⟩)) wE := by
  have hB4L := keepB hB4 hgg
  have hne : g ≠ b8 := by
    rintro rfl
    rw [hb8] at hbR
    simp at hbR
  have hlE := hgS.size
  refine ⟨b8, g, rfl, hl8, Nat.lt_of_lt_of_le (lt_of_block hb8) hlE, hbE, ?_, grown_new hgg hgS (fun g' e => by cases e; exact hl8)⟩
  have S1 : Stay wL (fun G => G = b4 ∨ G = b8) (fun W => GlM W (some ⟨g, 0, none⟩) 0 (mvG L e)) := by
    intro W hW
    have hW2 : W.heap[g]? = some (.cells #[.int .i64 e.k, .slice qa na ca, .bool e.g, .slice q1 n1 d1, .slice q2 n2 d2] 58 (0, 0)) := hW g _ hbR (fun h => by rcases h with h | h <;> omega)
    refine ⟨_, ⟨g, 0, rfl, fun j hj => ?_⟩, qa, na, ca, q1, n1, d1, q2, n2, d2, rfl, ?_, ?_, ?_⟩
    · rw [cell_of_row W g (0 + 0 * 5 + j) _ _ _ hW2]
      simp only [Nat.zero_add, Nat.zero_mul]
      simp only [List.getElem?_toArray]
      exact List.getElem?_eq_getElem _
    · exact Stay.zrd r1 (fun a ha hn h => by rcases h with h | h; exact r1.notIn hB4L (by simp) a ha hn h; exact r1.notIn hb8 (by simp) a ha hn h) W hW
    · exact Stay.ird r2 (fun a ha hn h => by rcases h with h | h; exact r2.notIn hB4L (by simp) a ha hn h; exact r2.notIn hb8 (by simp) a ha hn h) W hW
    · exact Stay.ird r3 (fun a ha hn h => by rcases h with h | h; exact r3.notIn hB4L (by simp) a ha hn h; exact r3.notIn hb8 (by simp) a ha hn h) W hW
  exact S1.kept hgS (fun g e => by cases e; exact .inr rfl)
/-- the blocks that are written: the result's box, the pruned figure's box, the row of its steps -/
def Sp (b4 b8 : Nat) (p : Option Addr) (G : Nat) : Prop := G = b4 ∨ G = b8 ∨ p.map (·.block) = some G
/-- a slice that does not lie in these blocks -/
def Far (b4 b8 : Nat) (p : Option Addr) (n : Nat) (a : Option Addr) : Prop := ∀ x, a = some x → 0 < n → ¬ Sp b4 b8 p x.block
theorem far_new {w : World} {b4 b8 : Nat} {p : Option Addr} {base k c : Nat} {T : TypeId} {l : Nat} {rows : List (List Value)} {n : Nat} {a : Option Addr} (h4 : b4 < w.heap.size) (h8 : b8 < w.heap.size) (hO : SOwn w base T l p k c rows) (h : ∀ x, a = some x → w.heap.size ≤ x.block) : Far b4 b8 p n a := by
  intro x hx hn hs
  have h1 := h x hx
  rcases hs with h2 | h2 | h2
  · omega
  · omega
  · cases p with
    | none => simp at h2
    | some q =>
      have := (hO.lt q rfl).2
      simp at h2
      omega
theorem prune_round {w wd wL wM wE : World} {b4 b8 base k c c2 : Nat} {p p' : Option Addr} {L : List Int} {d : Nat → StD} {gv : Value} {rows : List (List Value)} {Ψ : World → Prop}
    {kk : Int} {nm : ByteArray} {gg : Bool} {zs : List Int} {xs ys : List Nat} {qa : Option Addr} {na ca : Nat} {q1 : Option Addr} {n1 d1 : Nat} {q2 : Option Addr} {n2 d2 : Nat}
    (HG : w.grownBy wd none) (hgg : wd.grownBy wL none) (hgA : wL.grownBy wM (p.map (·.block))) (hgS : wM.grownBy wE (some b8)) (hb8w : w.heap.size ≤ b8) (hbw : w.heap.size ≤ base) (hb8b : b8 < base) (hbase : base ≤ wd.heap.size)
    (hbE : wE.heap[b8]? = some (.cells (#[.slice p k c, gv].setIfInBounds 0 (.slice p' (k + 1) c2)) 25 (0, 0)))
    (hO : SOwn wL base 64 6 p k c rows) (hO8 : SOwn wM base 64 6 p' (k + 1) c2 (rows ++ [[.int .i64 kk, .string nm, .slice qa na ca, .bool gg, .slice q1 n1 d1, .slice q2 n2 d2]])) (hat : p'.map (·.block) = p.map (·.block) ∨ p'.map (·.block) = some wL.heap.size)
    (HST : ∀ j (hj : j < rows.length), Stay wd (Sp b4 b8 p) (fun W => StC W rows[j] (mvS L (d (L.getD j 0).toNat)))) (HSG : Stay wd (Sp b4 b8 p) Ψ)
    (r1 : ZRd wL .i64 qa na ca zs) (r2 : IRd wL .u16 q1 n1 d1 xs) (r3 : IRd wL .u16 q2 n2 d2 ys) (F1 : Far b4 b8 p na qa) (F2 : Far b4 b8 p n1 q1) (F3 : Far b4 b8 p n2 q2)
    (hd : mvS L (d (L.getD k 0).toNat) = ⟨kk, nm, zs, gg, xs, ys⟩) :
    w.grownBy wE none ∧ wE.heap[b8]? = some (.cells #[.slice p' (k + 1) c2, gv] 25 (0, 0)) ∧ SOwn wE base 64 6 p' (k + 1) c2 (rows ++ [[.int .i64 kk, .string nm, .slice qa na ca, .bool gg, .slice q1 n1 d1, .slice q2 n2 d2]]) ∧
      (∀ j (hj : j < (rows ++ [[Value.int .i64 kk, .string nm, .slice qa na ca, .bool gg, .slice q1 n1 d1, .slice q2 n2 d2]]).length), Stay wE (Sp b4 b8 p') (fun W => StC W (rows ++ [[.int .i64 kk, .string nm, .slice qa na ca, .bool gg, .slice q1 n1 d1, .slice q2 n2 d2]])[j] (mvS L (d (L.getD j 0).toNat)))) ∧ Stay wE (Sp b4 b8 p') Ψ ∧ base ≤ wE.heap.size := by
  have hlk : rows.length = k := hO.1
  have hmv : ∀ {Φ : World → Prop}, Stay wL (Sp b4 b8 p) Φ → Stay wE (Sp b4 b8 p') Φ := fun {Φ} h => by
    refine h.step fun G O hG hS => ?_
    have hlt := lt_of_block hG
    have h1 : some G ≠ p.map (·.block) := fun e => hS (.inr (.inr e.symm))
    have h2 : G ≠ b8 := fun e => hS (.inr (.inl e))
    refine ⟨(hgS.block G (Nat.lt_of_lt_of_le hlt hgA.size) (by simpa using h2)).trans ((hgA.block G hlt h1).trans hG), fun h3 => ?_⟩
    rcases h3 with h3 | h3 | h3
    · exact hS (.inl h3)
    · exact h2 h3
    · rcases hat with e | e
      · exact h1 (by rw [← e, h3])
      · rw [e] at h3
        simp at h3
        omega
  have hpw : ∀ g, p.map (·.block) = some g → base ≤ g := fun g e => by
    cases p with
    | none => simp at e
    | some q => have := (hO.lt q rfl).1; simp at e; omega
  have hsz1 := hgg.size
  have hsz2 := hgA.size
  have hsz3 := hgS.size
  refine ⟨grown_new (grown_new (grown_trans HG hgg) hgA (fun g e => by have := hpw g e; omega)) hgS (fun g e => by cases e; exact hb8w), by simpa using hbE, hO8.kept hgS (.inr fun q hq e => by have := (hO8.lt q hq).1; simp at e; omega), fun j hj => ?_, hmv (HSG.keep hgg), by omega⟩
  by_cases hjk : j < rows.length
  · have h1 := hmv ((HST j hjk).keep hgg)
    rw [List.getElem_append_left hjk]
    exact h1
  · have hje : j = k := by simp at hj; omega
    subst hje
    rw [hd]
    have hrow : (rows ++ [[Value.int .i64 kk, .string nm, .slice qa na ca, .bool gg, .slice q1 n1 d1, .slice q2 n2 d2]])[j] = [Value.int .i64 kk, .string nm, .slice qa na ca, .bool gg, .slice q1 n1 d1, .slice q2 n2 d2] := by
      rw [List.getElem_append_right (by omega)]
      simp [hlk]
    rw [hrow]
    refine hmv fun W hW => ⟨qa, na, ca, q1, n1, d1, q2, n2, d2, rfl, Stay.zrd r1 F1 W hW, Stay.ird r2 F2 W hW, Stay.ird r3 F3 W hW⟩
/-- a row of steps of the call's own, read -/
theorem rows_mem {w : World} {base : Nat} {p : Option Addr} {m c : Nat} {rows : List (List Value)} {D : Nat → StD} (hO : SOwn w base 64 6 p m c rows) (h : ∀ j (hj : j < rows.length), StC w rows[j] (D j)) : ∀ j, j < m → StM w p j (D j) := by
  intro j hj
  have hl := hO.1
  obtain ⟨b, o, e, hc⟩ := hO.rd.at (by decide) (i := j) (by omega)
  exact ⟨rows[j], ⟨b, o, e, hc⟩, h j (by omega)⟩
end Go.Proofs.Ytdmlcddieadelaa

set_option linter.unusedVariables false
set_option linter.unusedSimpArgs false
namespace Go.Proofs.Ytdmlcddieadelaa
open Go Go.RowKit Go.Maps _root_.Nm Lx
set_option maxHeartbeats 64000000 in
set_option maxRecDepth 100000 in
theorem sPrune_n (pS : Option Addr) (nS cS : Nat) (pG : Option Addr) (nG cG : Nat) (w : World) (hcS : nS ≤ cS ∧ cS ≤ 9223372036854775807) (hcG : nG ≤ cG ∧ cG ≤ 9223372036854775807) (q : Nat) (hq : q < nG) (d : Nat → StD) (e : GlD) (L : List Int) (hL : L.Pairwise (· < ·)) (hLn : L.length ≤ 60) (hLr : ∀ z ∈ L, ∃ i : Nat, z = (i : Int) ∧ i < nS)
    (hS : ∀ i, i < nS → StM w pS i (d i)) (hz : ∀ i, i < nS → (d i).zs.length ≤ 1048576 ∧ (d i).xs.length ≤ 1048576 ∧ (d i).ys.length ≤ 1048576) (hsub : ∀ i : Nat, (i : Int) ∈ L → ∀ z ∈ (d i).zs, z ∈ L) (hG : GlM w pG q e) (he : e.zs.length ≤ 1048576 ∧ e.xs.length ≤ 1048576 ∧ e.ys.length ≤ 1048576) (hsubG : ∀ z ∈ e.zs, z ∈ L)
    (HN : ∀ W, w.grownBy W none → ∀ pa na ca, ZRd W .i64 pa na ca e.zs → Calls Try.prog 26 #[.agg #[.slice pS nS cS, .slice pG nG cG], .slice pa na ca] W fun e w' => ∃ p n c, e = .returned (.slice p n c) ∧ ZRd w' .i64 p n c L ∧ W.grownBy w' none) :
    Calls Try.prog 7 #[.agg #[.slice pS nS cS, .slice pG nG cG], .int .i64 q] w fun e' w' => ∃ p c g d', e' = .returned (.tuple #[.agg #[.slice p L.length c, .slice g 1 d'], .int .i64 0]) ∧ (L.length ≤ c ∧ c ≤ 9223372036854775807) ∧ (1 ≤ d' ∧ d' ≤ 9223372036854775807) ∧ (∀ j, j < L.length → StM w' p j (mvS L (d (L.getD j 0).toNat))) ∧ GlM w' g 0 (mvG L e) ∧ w.grownBy w' none := by
  obtain ⟨kk, zs, gg, xs, ys⟩ := e
  obtain ⟨cs, ⟨b, o, rfl, hc⟩, pa, na, ca, p1, n1, c1, p2, n2, c2, rfl, r1, r2, r3⟩ := hG
  dsimp only at *
  have a0 := hc 0 (by simp); have a1 := hc 1 (by simp); have a2 := hc 2 (by simp); have a3 := hc 3 (by simp); have a4 := hc 4 (by simp)
  simp only [List.getElem_cons_zero, List.getElem_cons_succ, Nat.add_zero] at a0 a1 a2 a3 a4
  clear hc
  have hln := r1.len; have hl1 := r2.len; have hl2 := r3.len
  obtain ⟨he1, he2, he3⟩ := he
  have gA := World.grownBy_alloc w (.cells #[.slice pS nS cS, .slice (some ⟨b, o, none⟩) nG cG] 25 (0, 0)) none
  have gB := World.grownBy_alloc (w.alloc (.cells #[.slice pS nS cS, .slice (some ⟨b, o, none⟩) nG cG] 25 (0, 0))) (.cells #[.slice none 0 0, .slice none 0 0] 25 (0, 0)) none
  have BX := hid (keepB (blk0 w (.cells #[.slice pS nS cS, .slice (some ⟨b, o, none⟩) nG cG] 25 (0, 0))) gB)
  have hsz : (w.alloc (.cells #[.slice pS nS cS, .slice (some ⟨b, o, none⟩) nG cG] 25 (0, 0))).heap.size = w.heap.size + 1 := by simp
  have B4 := blk0 (w.alloc (.cells #[.slice pS nS cS, .slice (some ⟨b, o, none⟩) nG cG] 25 (0, 0))) (.cells #[.slice none 0 0, .slice none 0 0] 25 (0, 0))
  rw [hsz] at B4
  have hsz2 : ((w.alloc (.cells #[.slice pS nS cS, .slice (some ⟨b, o, none⟩) nG cG] 25 (0, 0))).alloc (.cells #[.slice none 0 0, .slice none 0 0] 25 (0, 0))).heap.size = w.heap.size + 2 := by simp
  replace B4 := hid B4
  have hW := grown_trans gA gB
  clear gA gB hsz
  go_enter Try.func7, Try.ntmps7
  go_upto_region 1 with fail
  generalize ((w.alloc _).alloc _) = w0 at *
  obtain ⟨⟨k0, k1⟩, -⟩ := box2n BX.out
  replace a0 := hW.cell a0 (by simp); replace a1 := hW.cell a1 (by simp); replace a2 := hW.cell a2 (by simp); replace a3 := hW.cell a3 (by simp); replace a4 := hW.cell a4 (by simp)
  obtain ⟨⟨i0, i1, i2, i3, i4⟩, fa⟩ := box5 (blk0 w0 (.cells #[.int .i64 0, .slice none 0 0, .bool false, .slice none 0 0, .slice none 0 0] 58 (0, 0)))
  have f0 := fa 0; have f1 := fa 1; have f2 := fa 2; have f3 := fa 3; have f4 := fa 4
  clear fa
  go_upto_region 4 with fail
  clear i0 i1 i2 i3 i4 f0 f1 f2 f3 f4 a0 a1 a2 a3 a4
  have B6 := hid (blk0 w0 (.cells #[.int .i64 kk, .slice pa na ca, .bool gg, .slice p1 n1 c1, .slice p2 n2 c2] 58 (0, 0)))
  have gC := World.grownBy_alloc w0 (.cells #[.int .i64 kk, .slice pa na ca, .bool gg, .slice p1 n1 c1, .slice p2 n2 c2] 58 (0, 0)) none
  replace BX := hid (keepB BX.out gC); replace B4 := hid (keepB B4.out gC)
  have hs1 : (w0.alloc (.cells #[.int .i64 kk, .slice pa na ca, .bool gg, .slice p1 n1 c1, .slice p2 n2 c2] 58 (0, 0))).heap.size = w.heap.size + 3 := by simp [hsz2]
  replace hW := grown_trans hW gC
  clear gC
  replace B6 := B6.out
  rw [hsz2] at B6
  obtain ⟨b6, hb6⟩ : ∃ x, x = w.heap.size + 2 := ⟨_, rfl⟩
  rw [← hb6] at B6 ⊢
  replace B6 := hid B6
  have hb6w : w.heap.size + 1 < b6 := by omega
  clear hb6 hsz2
  generalize (w0.alloc _) = w1 at *
  obtain ⟨⟨k0, k1⟩, -⟩ := box2n BX.out
  obtain ⟨⟨m0, m1, m2, m3, m4⟩, -⟩ := box5 B6.out
  have HNH := hid (HN w1 hW pa na ca (r1.keep hW))
  have HW1 := hid hW
  go_upto_region 5 with (go_at_call 26; (with_reducible refine HNH.out.mono ?_); rintro e w2 ⟨pk, nk, ck, rfl, hk, hg⟩; replace hW := grown_trans hW hg; replace BX := hid (keepB BX.out hg); replace B4 := hid (keepB B4.out hg); replace B6 := hid (keepB B6.out hg); have hs2 := hg.size; have HK := hid hk; clear hg hk k0 k1 m0 m1 m2 m3 m4)
  have hnk := HK.out.len
  have hck := HK.out.cap
  have hmk := HK.out.max
  have HZL := hid hln
  have hb4lt : w.heap.size + 1 < w2.heap.size := lt_of_block B4.out
  have hb6lt : b6 < w2.heap.size := lt_of_block B6.out
  have HC1 := hid fun W (hg : w2.grownBy W none) => places_n pk nk ck L pa na ca zs W (HK.out.keep hg) (by omega) hL (r1.keep (grown_trans hW hg)) (by omega) hsubG
  have HC2 := hid fun W (hg : w2.grownBy W none) => freshRat_n gg p1 n1 c1 p2 n2 c2 xs ys W (r2.keep (grown_trans hW hg)) (r3.keep (grown_trans hW hg)) (by omega) (by omega)
  have HB4 := B4
  obtain ⟨b4, hb4⟩ : ∃ x, x = w.heap.size + 1 := ⟨_, rfl⟩
  rw [← hb4] at hb4lt HB4 hb6w ⊢
  have HB4E := hid hb4
  clear hb4 B4 hs1 hs2
  go_cut [8] (fun s8 wx => PrBox w2 b4 L ⟨kk, zs, gg, xs, ys⟩ s8 wx)
  case first =>
    refine wp_region_noPanic ?_
    refine wp_region_held_drew (S := (fun W => W.heap[b6]? = some (.cells #[.int .i64 kk, .slice pa na ca, .bool gg, .slice p1 n1 c1, .slice p2 n2 c2] 58 (0, 0)))) (by kernel_rfl) ?_ (fun hHeld => ?_)
    · (try dsimp only)
      exact keepB B6.out (grown_drew _ none)
    have hgg := grown_drew w2 none
    generalize w2.drew = wd at *
    refine wpAnyH_take (i := 0) (oi := Oper.mk _ _ _ _ _ _) (v := ?_) rfl (by kernel_rfl) (by kernel_rfl) (by kernel_rfl) (fun _ _ _ h => h) (Or.inl ⟨by kernel_rfl, ?_⟩) hHeld ?_
    rotate_left 1
    · intro W hSw
      (try dsimp only at hSw)
      obtain ⟨⟨h0, h1, h2, h3, h4⟩, -⟩ := box5 hSw
      go_simp
      (try (with_reducible rfl))
    (try simp only [Act.put, List.setIfInBounds_toArray, List.set_cons_zero, List.set_cons_succ])
    refine wpAnyH_take (i := 1) (oi := Oper.mk _ _ _ _ _ _) (v := ?_) rfl (by kernel_rfl) (by kernel_rfl) (by kernel_rfl) (fun _ _ _ h => h) (Or.inl ⟨by kernel_rfl, ?_⟩) hHeld ?_
    rotate_left 1
    · intro W hSw
      (try dsimp only at hSw)
      obtain ⟨⟨h0, h1, h2, h3, h4⟩, -⟩ := box5 hSw
      go_simp
      (try (with_reducible rfl))
    (try simp only [Act.put, List.setIfInBounds_toArray, List.set_cons_zero, List.set_cons_succ])
    refine wpAnyH_take (i := 2) (oi := Oper.mk _ _ _ _ _ _) (v := ?_) rfl (by kernel_rfl) (by kernel_rfl) (by kernel_rfl) (fun _ _ _ h => h) (Or.inl ⟨by kernel_rfl, ?_⟩) hHeld ?_
    rotate_left 1
    · intro W hSw
      (try dsimp only at hSw)
      obtain ⟨⟨h0, h1, h2, h3, h4⟩, -⟩ := box5 hSw
      go_simp
      (try (with_reducible rfl))
    (try simp only [Act.put, List.setIfInBounds_toArray, List.set_cons_zero, List.set_cons_succ])
    refine wpAnyH_take (i := 3) (oi := Oper.mk _ _ _ _ _ _) (v := ?_) rfl (by kernel_rfl) (by kernel_rfl) (by kernel_rfl) (fun _ _ _ h => h) (Or.inl ⟨by kernel_rfl, ?_⟩) hHeld ?_
    rotate_left 1
    · intro W hSw
      (try dsimp only at hSw)
      obtain ⟨⟨h0, h1, h2, h3, h4⟩, -⟩ := box5 hSw
      go_simp
      (try (with_reducible rfl))
    (try simp only [Act.put, List.setIfInBounds_toArray, List.set_cons_zero, List.set_cons_succ])
    refine wpAnyH_take (i := 4) (oi := Oper.mk _ _ _ _ _ _) (v := ?_) rfl (by kernel_rfl) (by kernel_rfl) (by kernel_rfl) (fun _ _ _ h => h) (Or.inl ⟨by kernel_rfl, ?_⟩) hHeld ?_
    rotate_left 1
    · intro W hSw
      (try dsimp only at hSw)
      obtain ⟨⟨h0, h1, h2, h3, h4⟩, -⟩ := box5 hSw
      go_simp
      (try (with_reducible rfl))
    (try simp only [Act.put, List.setIfInBounds_toArray, List.set_cons_zero, List.set_cons_succ])
    refine wpAnyH_take (i := 6) (oi := Oper.mk _ _ _ _ _ _) (v := ?_) rfl (by kernel_rfl) (by kernel_rfl) (by kernel_rfl) (fun _ _ _ h => h) (Or.inl ⟨by kernel_rfl, ?_⟩) hHeld ?_
    rotate_left 1
    · intro W hSw
      (try dsimp only at hSw)
      obtain ⟨⟨h0, h1, h2, h3, h4⟩, -⟩ := box5 hSw
      go_simp
      (try (with_reducible rfl))
    (try simp only [Act.put, List.setIfInBounds_toArray, List.set_cons_zero, List.set_cons_succ])
    refine wpAnyH_take (i := 7) (oi := Oper.mk _ _ _ _ _ _) (v := ?_) rfl (by kernel_rfl) (by kernel_rfl) (by kernel_rfl) (fun _ _ _ h => h) (Or.inl ⟨by kernel_rfl, ?_⟩) hHeld ?_
    rotate_left 1
    · intro W hSw
      (try dsimp only at hSw)
      obtain ⟨⟨h0, h1, h2, h3, h4⟩, -⟩ := box5 hSw
      go_simp
      (try (with_reducible rfl))
    (try simp only [Act.put, List.setIfInBounds_toArray, List.set_cons_zero, List.set_cons_succ])
    refine wpAnyH_ready (rs := [5, 12]) (by kernel_rfl) (by simp) ?_
    refine AllReadyH.cons (o := Oper.mk _ _ _ _ _ _) rfl (fun K hK => ?_) ?_
    · (try rw [if_pos (by kernel_rfl)])
      go_simp
      go_at_call 27
      refine (HC1.out _ hgg).mono ?_
      rintro e wy1 ⟨gp, rfl, hplr, hgp, hgS⟩
      replace hgp := Nat.le_trans hgg.size hgp
      replace hgg := grown_trans hgg hgS
      refine hK.out _ _ ?_ (fun hNew => ?_)
      · have hH := hHeld
        (try dsimp only at hH)
        (try dsimp only)
        first | exact hH | exact keepB hH hgS | exact (hgS.block _ (lt_of_block hH) (by simp; omega)).trans hH
      clear hK K hHeld
      have hHeld := hNew
      clear hNew
      (try simp only [Act.put, List.setIfInBounds_toArray, List.set_cons_zero, List.set_cons_succ])
      clear hgS
      refine wpAnyH_ready (rs := [8, 12]) (by kernel_rfl) (by simp) ?_
      refine AllReadyH.cons (o := Oper.mk _ _ _ _ _ _) rfl (fun K hK => ?_) ?_
      · (try rw [if_pos (by kernel_rfl)])
        go_simp
        go_at_call 28
        refine (HC2.out _ hgg).mono ?_
        rintro e wy2 ⟨q1, d1, q2, d2, rfl, hf1, hf2, hn1, hn2, hgS⟩
        replace hn1 := fun a ha => Nat.le_trans hgg.size (hn1 a ha)
        replace hn2 := fun a ha => Nat.le_trans hgg.size (hn2 a ha)
        replace hgg := grown_trans hgg hgS
        replace hplr := hplr.keep hgS
        refine hK.out _ _ ?_ (fun hNew => ?_)
        · have hH := hHeld
          (try dsimp only at hH)
          (try dsimp only)
          first | exact hH | exact keepB hH hgS | exact (hgS.block _ (lt_of_block hH) (by simp; omega)).trans hH
        clear hK K hHeld
        have hHeld := hNew
        clear hNew
        (try simp only [Act.put, List.setIfInBounds_toArray, List.set_cons_zero, List.set_cons_succ])
        clear hgS
        refine wpAnyH_ready (rs := [9, 12]) (by kernel_rfl) (by simp) ?_
        refine AllReadyH.cons (o := Oper.mk _ _ _ _ _ _) rfl (fun K hK => ?_) ?_
        · (try rw [if_pos (by kernel_rfl)])
          go_simp
          refine hK.out _ _ ?_ (fun hNew => ?_)
          · have hH := hHeld
            (try dsimp only at hH)
            (try dsimp only)
            first | exact hH | exact keepB hH hgS | exact (hgS.block _ (lt_of_block hH) (by simp; omega)).trans hH
          clear hK K hHeld
          have hHeld := hNew
          clear hNew
          (try simp only [Act.put, List.setIfInBounds_toArray, List.set_cons_zero, List.set_cons_succ])
          refine wpAnyH_ready (rs := [10, 12]) (by kernel_rfl) (by simp) ?_
          refine AllReadyH.cons (o := Oper.mk _ _ _ _ _ _) rfl (fun K hK => ?_) ?_
          · (try rw [if_pos (by kernel_rfl)])
            go_simp
            have hgS := World.grownBy_alloc wy2 (.cells #[.int .i64 kk, .slice (some ⟨gp, 0, none⟩) na na, .bool gg, .slice q1 n1 d1, .slice q2 n2 d2] 58 (0, 0)) none
            have hbR := blk0 wy2 (.cells #[.int .i64 kk, .slice (some ⟨gp, 0, none⟩) na na, .bool gg, .slice q1 n1 d1, .slice q2 n2 d2] 58 (0, 0))
            have hleg := hgg.size
            replace hgg := grown_trans hgg hgS
            replace hplr := hplr.keep hgS
            replace hf1 := hf1.keep hgS
            replace hf2 := hf2.keep hgS
            refine hK.out _ _ ?_ (fun hNew => ?_)
            · have hH := hHeld
              (try dsimp only at hH)
              (try dsimp only)
              first | exact hH | exact keepB hH hgS | exact (hgS.block _ (lt_of_block hH) (by simp; omega)).trans hH
            clear hK K hHeld
            have hHeld := hNew
            clear hNew
            (try simp only [Act.put, List.setIfInBounds_toArray, List.set_cons_zero, List.set_cons_succ])
            generalize wy2.heap.size = g at *
            generalize wy2.alloc _ = wy3 at *
            clear hgS
            refine wpAnyH_ready (rs := [11, 12]) (by kernel_rfl) (by simp) ?_
            refine AllReadyH.cons (o := Oper.mk _ _ _ _ _ _) rfl (fun K hK => ?_) ?_
            · (try rw [if_pos (by kernel_rfl)])
              go_simp
              refine hK.out _ _ ?_ (fun hNew => ?_)
              · have hH := hHeld
                (try dsimp only at hH)
                (try dsimp only)
                first | exact hH | exact keepB hH hgS | exact (hgS.block _ (lt_of_block hH) (by simp; omega)).trans hH
              clear hK K hHeld
              have hHeld := hNew
              clear hNew
              (try simp only [Act.put, List.setIfInBounds_toArray, List.set_cons_zero, List.set_cons_succ])
              refine wpAnyH_ready (rs := [12]) (by kernel_rfl) (by simp) ?_
              refine AllReadyH.cons (o := Oper.mk _ _ _ _ _ _) rfl (fun K hK => ?_) AllReadyH.nil
              (try rw [if_pos (by kernel_rfl)])
              go_simp
              have hgS := World.grownBy_alloc wy3 (.cells #[.slice none 0 0, .slice none 0 0] 25 (0, 0)) none
              have hb8 := blk0 wy3 (.cells #[.slice none 0 0, .slice none 0 0] 25 (0, 0))
              have hleb8 := hgg.size
              replace hgg := grown_trans hgg hgS
              replace hplr := hplr.keep hgS
              replace hf1 := hf1.keep hgS
              replace hf2 := hf2.keep hgS
              replace hbR := keepB hbR hgS
              refine hK.out _ _ ?_ (fun hNew => ?_)
              · have hH := hHeld
                (try dsimp only at hH)
                (try dsimp only)
                first | exact hH | exact keepB hH hgS | exact (hgS.block _ (lt_of_block hH) (by simp; omega)).trans hH
              clear hK K hHeld
              have hHeld := hNew
              clear hNew
              (try simp only [Act.put, List.setIfInBounds_toArray, List.set_cons_zero, List.set_cons_succ])
              generalize wy3.heap.size = b8 at *
              generalize wy3.alloc _ = wy4 at *
              clear hgS
              refine wpAnyH_ready (rs := [13]) (by kernel_rfl) (by simp) ?_
              refine AllReadyH.cons (o := Oper.mk _ _ _ _ _ _) rfl (fun K hK => ?_) AllReadyH.nil
              (try rw [if_pos (by kernel_rfl)])
              obtain ⟨⟨z0, z1⟩, zf⟩ := box2n hb8
              have f0 := zf 0
              have f1 := zf 1
              go_simp
              have hgS := set2_grown wy4 b8 (.slice none 0 0) (.slice (some ⟨g, 0, none⟩) 1 1)
              have hbE := set2P_block hb8 (.slice none 0 0) (.slice (some ⟨g, 0, none⟩) 1 1)
              clear z0 z1 zf f0 f1
              refine hK.out _ _ ?_ (fun hNew => ?_)
              · have hH := hHeld
                (try dsimp only at hH)
                (try dsimp only)
                first | exact hH | exact keepB hH hgS | exact (hgS.block _ (lt_of_block hH) (by simp; omega)).trans hH
              clear hK K hHeld
              have hHeld := hNew
              clear hNew
              (try simp only [Act.put, List.setIfInBounds_toArray, List.set_cons_zero, List.set_cons_succ])
              refine wpAnyH_done (by kernel_rfl) ?_ _
              refine NoPanic.normal ?_
              have HEND := prune_goal (L := L) (e := ⟨kk, zs, gg, xs, ys⟩) hgg hb4lt HB4.out hb8 hleb8 hleg hbE hbR hgS (hplr.rd (by rw [plc_len]; exact HZL.out) (by omega)) hf1 hf2
              clear hHeld
              go_wp2_with fail
              go_meet
              exact HEND
            refine AllReadyH.cons (o := Oper.mk _ _ _ _ _ _) rfl (fun K hK => ?_) AllReadyH.nil
            (try rw [if_pos (by kernel_rfl)])
            go_simp
            have hgS := World.grownBy_alloc wy3 (.cells #[.slice none 0 0, .slice none 0 0] 25 (0, 0)) none
            have hb8 := blk0 wy3 (.cells #[.slice none 0 0, .slice none 0 0] 25 (0, 0))
            have hleb8 := hgg.size
            replace hgg := grown_trans hgg hgS
            replace hplr := hplr.keep hgS
            replace hf1 := hf1.keep hgS
            replace hf2 := hf2.keep hgS
            replace hbR := keepB hbR hgS
            refine hK.out _ _ ?_ (fun hNew => ?_)
            · have hH := hHeld
              (try dsimp only at hH)
              (try dsimp only)
              first | exact hH | exact keepB hH hgS | exact (hgS.block _ (lt_of_block hH) (by simp; omega)).trans hH
            clear hK K hHeld
            have hHeld := hNew
            clear hNew
            (try simp only [Act.put, List.setIfInBounds_toArray, List.set_cons_zero, List.set_cons_succ])
            generalize wy3.heap.size = b8 at *
            generalize wy3.alloc _ = wy4 at *
            clear hgS
            refine wpAnyH_ready (rs := [11]) (by kernel_rfl) (by simp) ?_
            refine AllReadyH.cons (o := Oper.mk _ _ _ _ _ _) rfl (fun K hK => ?_) AllReadyH.nil
            (try rw [if_pos (by kernel_rfl)])
            go_simp
            refine hK.out _ _ ?_ (fun hNew => ?_)
            · have hH := hHeld
              (try dsimp only at hH)
              (try dsimp only)
              first | exact hH | exact keepB hH hgS | exact (hgS.block _ (lt_of_block hH) (by simp; omega)).trans hH
            clear hK K hHeld
            have hHeld := hNew
            clear hNew
            (try simp only [Act.put, List.setIfInBounds_toArray, List.set_cons_zero, List.set_cons_succ])
            refine wpAnyH_ready (rs := [13]) (by kernel_rfl) (by simp) ?_
            refine AllReadyH.cons (o := Oper.mk _ _ _ _ _ _) rfl (fun K hK => ?_) AllReadyH.nil
            (try rw [if_pos (by kernel_rfl)])
            obtain ⟨⟨z0, z1⟩, zf⟩ := box2n hb8
            have f0 := zf 0
            have f1 := zf 1
            go_simp
            have hgS := set2_grown wy4 b8 (.slice none 0 0) (.slice (some ⟨g, 0, none⟩) 1 1)
            have hbE := set2P_block hb8 (.slice none 0 0) (.slice (some ⟨g, 0, none⟩) 1 1)
            clear z0 z1 zf f0 f1
            refine hK.out _ _ ?_ (fun hNew => ?_)
            · have hH := hHeld
              (try dsimp only at hH)
              (try dsimp only)
              first | exact hH | exact keepB hH hgS | exact (hgS.block _ (lt_of_block hH) (by simp; omega)).trans hH
            clear hK K hHeld
            have hHeld := hNew
            clear hNew
            (try simp only [Act.put, List.setIfInBounds_toArray, List.set_cons_zero, List.set_cons_succ])
            refine wpAnyH_done (by kernel_rfl) ?_ _
            refine NoPanic.normal ?_
            have HEND := prune_goal (L := L) (e := ⟨kk, zs, gg, xs, ys⟩) hgg hb4lt HB4.out hb8 hleb8 hleg hbE hbR hgS (hplr.rd (by rw [plc_len]; exact HZL.out) (by omega)) hf1 hf2
            clear hHeld
            go_wp2_with fail
            go_meet
            exact HEND
          refine AllReadyH.cons (o := Oper.mk _ _ _ _ _ _) rfl (fun K hK => ?_) AllReadyH.nil
          (try rw [if_pos (by kernel_rfl)])
          go_simp
          have hgS := World.grownBy_alloc wy2 (.cells #[.slice none 0 0, .slice none 0 0] 25 (0, 0)) none
          have hb8 := blk0 wy2 (.cells #[.slice none 0 0, .slice none 0 0] 25 (0, 0))
          have hleb8 := hgg.size
          replace hgg := grown_trans hgg hgS
          replace hplr := hplr.keep hgS
          replace hf1 := hf1.keep hgS
          replace hf2 := hf2.keep hgS
          refine hK.out _ _ ?_ (fun hNew => ?_)
          · have hH := hHeld
            (try dsimp only at hH)
            (try dsimp only)
            first | exact hH | exact keepB hH hgS | exact (hgS.block _ (lt_of_block hH) (by simp; omega)).trans hH
          clear hK K hHeld
          have hHeld := hNew
          clear hNew
          (try simp only [Act.put, List.setIfInBounds_toArray, List.set_cons_zero, List.set_cons_succ])
          generalize wy2.heap.size = b8 at *
          generalize wy2.alloc _ = wy3 at *
          clear hgS
          refine wpAnyH_ready (rs := [10]) (by kernel_rfl) (by simp) ?_
          refine AllReadyH.cons (o := Oper.mk _ _ _ _ _ _) rfl (fun K hK => ?_) AllReadyH.nil
          (try rw [if_pos (by kernel_rfl)])
          go_simp
          have hgS := World.grownBy_alloc wy3 (.cells #[.int .i64 kk, .slice (some ⟨gp, 0, none⟩) na na, .bool gg, .slice q1 n1 d1, .slice q2 n2 d2] 58 (0, 0)) none
          have hbR := blk0 wy3 (.cells #[.int .i64 kk, .slice (some ⟨gp, 0, none⟩) na na, .bool gg, .slice q1 n1 d1, .slice q2 n2 d2] 58 (0, 0))
          have hleg := hgg.size
          replace hgg := grown_trans hgg hgS
          replace hplr := hplr.keep hgS
          replace hf1 := hf1.keep hgS
          replace hf2 := hf2.keep hgS
          replace hb8 := keepB hb8 hgS
          refine hK.out _ _ ?_ (fun hNew => ?_)
          · have hH := hHeld
            (try dsimp only at hH)
            (try dsimp only)
            first | exact hH | exact keepB hH hgS | exact (hgS.block _ (lt_of_block hH) (by simp; omega)).trans hH
          clear hK K hHeld
          have hHeld := hNew
          clear hNew
          (try simp only [Act.put, List.setIfInBounds_toArray, List.set_cons_zero, List.set_cons_succ])
          generalize wy3.heap.size = g at *
          generalize wy3.alloc _ = wy4 at *
          clear hgS
          refine wpAnyH_ready (rs := [11]) (by kernel_rfl) (by simp) ?_
          refine AllReadyH.cons (o := Oper.mk _ _ _ _ _ _) rfl (fun K hK => ?_) AllReadyH.nil
          (try rw [if_pos (by kernel_rfl)])
          go_simp
          refine hK.out _ _ ?_ (fun hNew => ?_)
          · have hH := hHeld
            (try dsimp only at hH)
            (try dsimp only)
            first | exact hH | exact keepB hH hgS | exact (hgS.block _ (lt_of_block hH) (by simp; omega)).trans hH
          clear hK K hHeld
          have hHeld := hNew
          clear hNew
          (try simp only [Act.put, List.setIfInBounds_toArray, List.set_cons_zero, List.set_cons_succ])
          refine wpAnyH_ready (rs := [13]) (by kernel_rfl) (by simp) ?_
          refine AllReadyH.cons (o := Oper.mk _ _ _ _ _ _) rfl (fun K hK => ?_) AllReadyH.nil
          (try rw [if_pos (by kernel_rfl)])
          obtain ⟨⟨z0, z1⟩, zf⟩ := box2n hb8
          have f0 := zf 0
          have f1 := zf 1
          go_simp
          have hgS := set2_grown wy4 b8 (.slice none 0 0) (.slice (some ⟨g, 0, none⟩) 1 1)
          have hbE := set2P_block hb8 (.slice none 0 0) (.slice (some ⟨g, 0, none⟩) 1 1)
          clear z0 z1 zf f0 f1
          refine hK.out _ _ ?_ (fun hNew => ?_)
          · have hH := hHeld
            (try dsimp only at hH)
            (try dsimp only)
            first | exact hH | exact keepB hH hgS | exact (hgS.block _ (lt_of_block hH) (by simp; omega)).trans hH
          clear hK K hHeld
          have hHeld := hNew
          clear hNew
          (try simp only [Act.put, List.setIfInBounds_toArray, List.set_cons_zero, List.set_cons_succ])
          refine wpAnyH_done (by kernel_rfl) ?_ _
          refine NoPanic.normal ?_
          have HEND := prune_goal (L := L) (e := ⟨kk, zs, gg, xs, ys⟩) hgg hb4lt HB4.out hb8 hleb8 hleg hbE hbR hgS (hplr.rd (by rw [plc_len]; exact HZL.out) (by omega)) hf1 hf2
          clear hHeld
          go_wp2_with fail
          go_meet
          exact HEND
        refine AllReadyH.cons (o := Oper.mk _ _ _ _ _ _) rfl (fun K hK => ?_) AllReadyH.nil
        (try rw [if_pos (by kernel_rfl)])
        go_simp
        have hgS := World.grownBy_alloc wy2 (.cells #[.slice none 0 0, .slice none 0 0] 25 (0, 0)) none
        have hb8 := blk0 wy2 (.cells #[.slice none 0 0, .slice none 0 0] 25 (0, 0))
        have hleb8 := hgg.size
        replace hgg := grown_trans hgg hgS
        replace hplr := hplr.keep hgS
        replace hf1 := hf1.keep hgS
        replace hf2 := hf2.keep hgS
        refine hK.out _ _ ?_ (fun hNew => ?_)
        · have hH := hHeld
          (try dsimp only at hH)
          (try dsimp only)
          first | exact hH | exact keepB hH hgS | exact (hgS.block _ (lt_of_block hH) (by simp; omega)).trans hH
        clear hK K hHeld
        have hHeld := hNew
        clear hNew
        (try simp only [Act.put, List.setIfInBounds_toArray, List.set_cons_zero, List.set_cons_succ])
        generalize wy2.heap.size = b8 at *
        generalize wy2.alloc _ = wy3 at *
        clear hgS
        refine wpAnyH_ready (rs := [9]) (by kernel_rfl) (by simp) ?_
        refine AllReadyH.cons (o := Oper.mk _ _ _ _ _ _) rfl (fun K hK => ?_) AllReadyH.nil
        (try rw [if_pos (by kernel_rfl)])
        go_simp
        refine hK.out _ _ ?_ (fun hNew => ?_)
        · have hH := hHeld
          (try dsimp only at hH)
          (try dsimp only)
          first | exact hH | exact keepB hH hgS | exact (hgS.block _ (lt_of_block hH) (by simp; omega)).trans hH
        clear hK K hHeld
        have hHeld := hNew
        clear hNew
        (try simp only [Act.put, List.setIfInBounds_toArray, List.set_cons_zero, List.set_cons_succ])
        refine wpAnyH_ready (rs := [10]) (by kernel_rfl) (by simp) ?_
        refine AllReadyH.cons (o := Oper.mk _ _ _ _ _ _) rfl (fun K hK => ?_) AllReadyH.nil
        (try rw [if_pos (by kernel_rfl)])
        go_simp
        have hgS := World.grownBy_alloc wy3 (.cells #[.int .i64 kk, .slice (some ⟨gp, 0, none⟩) na na, .bool gg, .slice q1 n1 d1, .slice q2 n2 d2] 58 (0, 0)) none
        have hbR := blk0 wy3 (.cells #[.int .i64 kk, .slice (some ⟨gp, 0, none⟩) na na, .bool gg, .slice q1 n1 d1, .slice q2 n2 d2] 58 (0, 0))
        have hleg := hgg.size
        replace hgg := grown_trans hgg hgS
        replace hplr := hplr.keep hgS
        replace hf1 := hf1.keep hgS
        replace hf2 := hf2.keep hgS
        replace hb8 := keepB hb8 hgS
        refine hK.out _ _ ?_ (fun hNew => ?_)
        · have hH := hHeld
          (try dsimp only at hH)
          (try dsimp only)
          first | exact hH | exact keepB hH hgS | exact (hgS.block _ (lt_of_block hH) (by simp; omega)).trans hH
        clear hK K hHeld
        have hHeld := hNew
        clear hNew
        (try simp only [Act.put, List.setIfInBounds_toArray, List.set_cons_zero, List.set_cons_succ])
        generalize wy3.heap.size = g at *
        generalize wy3.alloc _ = wy4 at *
        clear hgS
        refine wpAnyH_ready (rs := [11]) (by kernel_rfl) (by simp) ?_
        refine AllReadyH.cons (o := Oper.mk _ _ _ _ _ _) rfl (fun K hK => ?_) AllReadyH.nil
        (try rw [if_pos (by kernel_rfl)])
        go_simp
        refine hK.out _ _ ?_ (fun hNew => ?_)
        · have hH := hHeld
          (try dsimp only at hH)
          (try dsimp only)
          first | exact hH | exact keepB hH hgS | exact (hgS.block _ (lt_of_block hH) (by simp; omega)).trans hH
        clear hK K hHeld
        have hHeld := hNew
        clear hNew
        (try simp only [Act.put, List.setIfInBounds_toArray, List.set_cons_zero, List.set_cons_succ])
        refine wpAnyH_ready (rs := [13]) (by kernel_rfl) (by simp) ?_
        refine AllReadyH.cons (o := Oper.mk _ _ _ _ _ _) rfl (fun K hK => ?_) AllReadyH.nil
        (try rw [if_pos (by kernel_rfl)])
        obtain ⟨⟨z0, z1⟩, zf⟩ := box2n hb8
        have f0 := zf 0
        have f1 := zf 1
        go_simp
        have hgS := set2_grown wy4 b8 (.slice none 0 0) (.slice (some ⟨g, 0, none⟩) 1 1)
        have hbE := set2P_block hb8 (.slice none 0 0) (.slice (some ⟨g, 0, none⟩) 1 1)
        clear z0 z1 zf f0 f1
        refine hK.out _ _ ?_ (fun hNew => ?_)
        · have hH := hHeld
          (try dsimp only at hH)
          (try dsimp only)
          first | exact hH | exact keepB hH hgS | exact (hgS.block _ (lt_of_block hH) (by simp; omega)).trans hH
        clear hK K hHeld
        have hHeld := hNew
        clear hNew
        (try simp only [Act.put, List.setIfInBounds_toArray, List.set_cons_zero, List.set_cons_succ])
        refine wpAnyH_done (by kernel_rfl) ?_ _
        refine NoPanic.normal ?_
        have HEND := prune_goal (L := L) (e := ⟨kk, zs, gg, xs, ys⟩) hgg hb4lt HB4.out hb8 hleb8 hleg hbE hbR hgS (hplr.rd (by rw [plc_len]; exact HZL.out) (by omega)) hf1 hf2
        clear hHeld
        go_wp2_with fail
        go_meet
        exact HEND
      refine AllReadyH.cons (o := Oper.mk _ _ _ _ _ _) rfl (fun K hK => ?_) AllReadyH.nil
      (try rw [if_pos (by kernel_rfl)])
      go_simp
      have hgS := World.grownBy_alloc wy1 (.cells #[.slice none 0 0, .slice none 0 0] 25 (0, 0)) none
      have hb8 := blk0 wy1 (.cells #[.slice none 0 0, .slice none 0 0] 25 (0, 0))
      have hleb8 := hgg.size
      replace hgg := grown_trans hgg hgS
      replace hplr := hplr.keep hgS
      refine hK.out _ _ ?_ (fun hNew => ?_)
      · have hH := hHeld
        (try dsimp only at hH)
        (try dsimp only)
        first | exact hH | exact keepB hH hgS | exact (hgS.block _ (lt_of_block hH) (by simp; omega)).trans hH
      clear hK K hHeld
      have hHeld := hNew
      clear hNew
      (try simp only [Act.put, List.setIfInBounds_toArray, List.set_cons_zero, List.set_cons_succ])
      generalize wy1.heap.size = b8 at *
      generalize wy1.alloc _ = wy2 at *
      clear hgS
      refine wpAnyH_ready (rs := [8]) (by kernel_rfl) (by simp) ?_
      refine AllReadyH.cons (o := Oper.mk _ _ _ _ _ _) rfl (fun K hK => ?_) AllReadyH.nil
      (try rw [if_pos (by kernel_rfl)])
      go_simp
      go_at_call 28
      refine (HC2.out _ hgg).mono ?_
      rintro e wy3 ⟨q1, d1, q2, d2, rfl, hf1, hf2, hn1, hn2, hgS⟩
      replace hn1 := fun a ha => Nat.le_trans hgg.size (hn1 a ha)
      replace hn2 := fun a ha => Nat.le_trans hgg.size (hn2 a ha)
      replace hgg := grown_trans hgg hgS
      replace hplr := hplr.keep hgS
      replace hb8 := keepB hb8 hgS
      refine hK.out _ _ ?_ (fun hNew => ?_)
      · have hH := hHeld
        (try dsimp only at hH)
        (try dsimp only)
        first | exact hH | exact keepB hH hgS | exact (hgS.block _ (lt_of_block hH) (by simp; omega)).trans hH
      clear hK K hHeld
      have hHeld := hNew
      clear hNew
      (try simp only [Act.put, List.setIfInBounds_toArray, List.set_cons_zero, List.set_cons_succ])
      clear hgS
      refine wpAnyH_ready (rs := [9]) (by kernel_rfl) (by simp) ?_
      refine AllReadyH.cons (o := Oper.mk _ _ _ _ _ _) rfl (fun K hK => ?_) AllReadyH.nil
      (try rw [if_pos (by kernel_rfl)])
      go_simp
      refine hK.out _ _ ?_ (fun hNew => ?_)
      · have hH := hHeld
        (try dsimp only at hH)
        (try dsimp only)
        first | exact hH | exact keepB hH hgS | exact (hgS.block _ (lt_of_block hH) (by simp; omega)).trans hH
      clear hK K hHeld
      have hHeld := hNew
      clear hNew
      (try simp only [Act.put, List.setIfInBounds_toArray, List.set_cons_zero, List.set_cons_succ])
      refine wpAnyH_ready (rs := [10]) (by kernel_rfl) (by simp) ?_
      refine AllReadyH.cons (o := Oper.mk _ _ _ _ _ _) rfl (fun K hK => ?_) AllReadyH.nil
      (try rw [if_pos (by kernel_rfl)])
      go_simp
      have hgS := World.grownBy_alloc wy3 (.cells #[.int .i64 kk, .slice (some ⟨gp, 0, none⟩) na na, .bool gg, .slice q1 n1 d1, .slice q2 n2 d2] 58 (0, 0)) none
      have hbR := blk0 wy3 (.cells #[.int .i64 kk, .slice (some ⟨gp, 0, none⟩) na na, .bool gg, .slice q1 n1 d1, .slice q2 n2 d2] 58 (0, 0))
      have hleg := hgg.size
      replace hgg := grown_trans hgg hgS
      replace hplr := hplr.keep hgS
      replace hb8 := keepB hb8 hgS
      replace hf1 := hf1.keep hgS
      replace hf2 := hf2.keep hgS
      refine hK.out _ _ ?_ (fun hNew => ?_)
      · have hH := hHeld
        (try dsimp only at hH)
        (try dsimp only)
        first | exact hH | exact keepB hH hgS | exact (hgS.block _ (lt_of_block hH) (by simp; omega)).trans hH
      clear hK K hHeld
      have hHeld := hNew
      clear hNew
      (try simp only [Act.put, List.setIfInBounds_toArray, List.set_cons_zero, List.set_cons_succ])
      generalize wy3.heap.size = g at *
      generalize wy3.alloc _ = wy4 at *
      clear hgS
      refine wpAnyH_ready (rs := [11]) (by kernel_rfl) (by simp) ?_
      refine AllReadyH.cons (o := Oper.mk _ _ _ _ _ _) rfl (fun K hK => ?_) AllReadyH.nil
      (try rw [if_pos (by kernel_rfl)])
      go_simp
      refine hK.out _ _ ?_ (fun hNew => ?_)
      · have hH := hHeld
        (try dsimp only at hH)
        (try dsimp only)
        first | exact hH | exact keepB hH hgS | exact (hgS.block _ (lt_of_block hH) (by simp; omega)).trans hH
      clear hK K hHeld
      have hHeld := hNew
      clear hNew
      (try simp only [Act.put, List.setIfInBounds_toArray, List.set_cons_zero, List.set_cons_succ])
      refine wpAnyH_ready (rs := [13]) (by kernel_rfl) (by simp) ?_
      refine AllReadyH.cons (o := Oper.mk _ _ _ _ _ _) rfl (fun K hK => ?_) AllReadyH.nil
      (try rw [if_pos (by kernel_rfl)])
      obtain ⟨⟨z0, z1⟩, zf⟩ := box2n hb8
      have f0 := zf 0
      have f1 := zf 1
      go_simp
      have hgS := set2_grown wy4 b8 (.slice none 0 0) (.slice (some ⟨g, 0, none⟩) 1 1)
      have hbE := set2P_block hb8 (.slice none 0 0) (.slice (some ⟨g, 0, none⟩) 1 1)
      clear z0 z1 zf f0 f1
      refine hK.out _ _ ?_ (fun hNew => ?_)
      · have hH := hHeld
        (try dsimp only at hH)
        (try dsimp only)
        first | exact hH | exact keepB hH hgS | exact (hgS.block _ (lt_of_block hH) (by simp; omega)).trans hH
      clear hK K hHeld
      have hHeld := hNew
      clear hNew
      (try simp only [Act.put, List.setIfInBounds_toArray, List.set_cons_zero, List.set_cons_succ])
      refine wpAnyH_done (by kernel_rfl) ?_ _
      refine NoPanic.normal ?_
      have HEND := prune_goal (L := L) (e := ⟨kk, zs, gg, xs, ys⟩) hgg hb4lt HB4.out hb8 hleb8 hleg hbE hbR hgS (hplr.rd (by rw [plc_len]; exact HZL.out) (by omega)) hf1 hf2
      clear hHeld
      go_wp2_with fail
      go_meet
      exact HEND
    refine AllReadyH.cons (o := Oper.mk _ _ _ _ _ _) rfl (fun K hK => ?_) AllReadyH.nil
    (try rw [if_pos (by kernel_rfl)])
    go_simp
    have hgS := World.grownBy_alloc wd (.cells #[.slice none 0 0, .slice none 0 0] 25 (0, 0)) none
    have hb8 := blk0 wd (.cells #[.slice none 0 0, .slice none 0 0] 25 (0, 0))
    have hleb8 := hgg.size
    replace hgg := grown_trans hgg hgS
    refine hK.out _ _ ?_ (fun hNew => ?_)
    · have hH := hHeld
      (try dsimp only at hH)
      (try dsimp only)
      first | exact hH | exact keepB hH hgS | exact (hgS.block _ (lt_of_block hH) (by simp; omega)).trans hH
    clear hK K hHeld
    have hHeld := hNew
    clear hNew
    (try simp only [Act.put, List.setIfInBounds_toArray, List.set_cons_zero, List.set_cons_succ])
    generalize wd.heap.size = b8 at *
    generalize wd.alloc _ = wy1 at *
    clear hgS
    refine wpAnyH_ready (rs := [5]) (by kernel_rfl) (by simp) ?_
    refine AllReadyH.cons (o := Oper.mk _ _ _ _ _ _) rfl (fun K hK => ?_) AllReadyH.nil
    (try rw [if_pos (by kernel_rfl)])
    go_simp
    go_at_call 27
    refine (HC1.out _ hgg).mono ?_
    rintro e wy2 ⟨gp, rfl, hplr, hgp, hgS⟩
    replace hgp := Nat.le_trans hgg.size hgp
    replace hgg := grown_trans hgg hgS
    replace hb8 := keepB hb8 hgS
    refine hK.out _ _ ?_ (fun hNew => ?_)
    · have hH := hHeld
      (try dsimp only at hH)
      (try dsimp only)
      first | exact hH | exact keepB hH hgS | exact (hgS.block _ (lt_of_block hH) (by simp; omega)).trans hH
    clear hK K hHeld
    have hHeld := hNew
    clear hNew
    (try simp only [Act.put, List.setIfInBounds_toArray, List.set_cons_zero, List.set_cons_succ])
    clear hgS
    refine wpAnyH_ready (rs := [8]) (by kernel_rfl) (by simp) ?_
    refine AllReadyH.cons (o := Oper.mk _ _ _ _ _ _) rfl (fun K hK => ?_) AllReadyH.nil
    (try rw [if_pos (by kernel_rfl)])
    go_simp
    go_at_call 28
    refine (HC2.out _ hgg).mono ?_
    rintro e wy3 ⟨q1, d1, q2, d2, rfl, hf1, hf2, hn1, hn2, hgS⟩
    replace hn1 := fun a ha => Nat.le_trans hgg.size (hn1 a ha)
    replace hn2 := fun a ha => Nat.le_trans hgg.size (hn2 a ha)
    replace hgg := grown_trans hgg hgS
    replace hb8 := keepB hb8 hgS
    replace hplr := hplr.keep hgS
    refine hK.out _ _ ?_ (fun hNew => ?_)
    · have hH := hHeld
      (try dsimp only at hH)
      (try dsimp only)
      first | exact hH | exact keepB hH hgS | exact (hgS.block _ (lt_of_block hH) (by simp; omega)).trans hH
    clear hK K hHeld
    have hHeld := hNew
    clear hNew
    (try simp only [Act.put, List.setIfInBounds_toArray, List.set_cons_zero, List.set_cons_succ])
    clear hgS
    refine wpAnyH_ready (rs := [9]) (by kernel_rfl) (by simp) ?_
    refine AllReadyH.cons (o := Oper.mk _ _ _ _ _ _) rfl (fun K hK => ?_) AllReadyH.nil
    (try rw [if_pos (by kernel_rfl)])
    go_simp
    refine hK.out _ _ ?_ (fun hNew => ?_)
    · have hH := hHeld
      (try dsimp only at hH)
      (try dsimp only)
      first | exact hH | exact keepB hH hgS | exact (hgS.block _ (lt_of_block hH) (by simp; omega)).trans hH
    clear hK K hHeld
    have hHeld := hNew
    clear hNew
    (try simp only [Act.put, List.setIfInBounds_toArray, List.set_cons_zero, List.set_cons_succ])
    refine wpAnyH_ready (rs := [10]) (by kernel_rfl) (by simp) ?_
    refine AllReadyH.cons (o := Oper.mk _ _ _ _ _ _) rfl (fun K hK => ?_) AllReadyH.nil
    (try rw [if_pos (by kernel_rfl)])
    go_simp
    have hgS := World.grownBy_alloc wy3 (.cells #[.int .i64 kk, .slice (some ⟨gp, 0, none⟩) na na, .bool gg, .slice q1 n1 d1, .slice q2 n2 d2] 58 (0, 0)) none
    have hbR := blk0 wy3 (.cells #[.int .i64 kk, .slice (some ⟨gp, 0, none⟩) na na, .bool gg, .slice q1 n1 d1, .slice q2 n2 d2] 58 (0, 0))
    have hleg := hgg.size
    replace hgg := grown_trans hgg hgS
    replace hb8 := keepB hb8 hgS
    replace hplr := hplr.keep hgS
    replace hf1 := hf1.keep hgS
    replace hf2 := hf2.keep hgS
    refine hK.out _ _ ?_ (fun hNew => ?_)
    · have hH := hHeld
      (try dsimp only at hH)
      (try dsimp only)
      first | exact hH | exact keepB hH hgS | exact (hgS.block _ (lt_of_block hH) (by simp; omega)).trans hH
    clear hK K hHeld
    have hHeld := hNew
    clear hNew
    (try simp only [Act.put, List.setIfInBounds_toArray, List.set_cons_zero, List.set_cons_succ])
    generalize wy3.heap.size = g at *
    generalize wy3.alloc _ = wy4 at *
    clear hgS
    refine wpAnyH_ready (rs := [11]) (by kernel_rfl) (by simp) ?_
    refine AllReadyH.cons (o := Oper.mk _ _ _ _ _ _) rfl (fun K hK => ?_) AllReadyH.nil
    (try rw [if_pos (by kernel_rfl)])
    go_simp
    refine hK.out _ _ ?_ (fun hNew => ?_)
    · have hH := hHeld
      (try dsimp only at hH)
      (try dsimp only)
      first | exact hH | exact keepB hH hgS | exact (hgS.block _ (lt_of_block hH) (by simp; omega)).trans hH
    clear hK K hHeld
    have hHeld := hNew
    clear hNew
    (try simp only [Act.put, List.setIfInBounds_toArray, List.set_cons_zero, List.set_cons_succ])
    refine wpAnyH_ready (rs := [13]) (by kernel_rfl) (by simp) ?_
    refine AllReadyH.cons (o := Oper.mk _ _ _ _ _ _) rfl (fun K hK => ?_) AllReadyH.nil
    (try rw [if_pos (by kernel_rfl)])
    obtain ⟨⟨z0, z1⟩, zf⟩ := box2n hb8
    have f0 := zf 0
    have f1 := zf 1
    go_simp
    have hgS := set2_grown wy4 b8 (.slice none 0 0) (.slice (some ⟨g, 0, none⟩) 1 1)
    have hbE := set2P_block hb8 (.slice none 0 0) (.slice (some ⟨g, 0, none⟩) 1 1)
    clear z0 z1 zf f0 f1
    refine hK.out _ _ ?_ (fun hNew => ?_)
    · have hH := hHeld
      (try dsimp only at hH)
      (try dsimp only)
      first | exact hH | exact keepB hH hgS | exact (hgS.block _ (lt_of_block hH) (by simp; omega)).trans hH
    clear hK K hHeld
    have hHeld := hNew
    clear hNew
    (try simp only [Act.put, List.setIfInBounds_toArray, List.set_cons_zero, List.set_cons_succ])
    refine wpAnyH_done (by kernel_rfl) ?_ _
    refine NoPanic.normal ?_
    have HEND := prune_goal (L := L) (e := ⟨kk, zs, gg, xs, ys⟩) hgg hb4lt HB4.out hb8 hleb8 hleg hbE hbR hgS (hplr.rd (by rw [plc_len]; exact HZL.out) (by omega)) hf1 hf2
    clear hHeld
    go_wp2_with fail
    go_meet
    exact HEND
  case rest =>
    obtain ⟨b8, g, rfl, hl8, hb8lt, hb8, hSG, hg8⟩ := hcut
    clear HNH HW1 B6
    have hb8b := hb8lt
    obtain ⟨base, hbs⟩ : ∃ x, x = wc.heap.size := ⟨_, rfl⟩
    rw [← hbs] at hb8b hb8lt
    have HG0 := hid hg8
    have HBX := hid (keepB BX.out hg8)
    have HW := hid hW
    have HSG0 := hid hSG
    have HB80 := hid hb8
    have hbw : w2.heap.size ≤ base := by omega
    have hb4base : b4 < base := by omega
    clear hSG hg8 hb8
    obtain ⟨k0, k1⟩ := (box2n HBX.out).1
    go_wp2_with fail
    clear k0 k1
    go_loopw [45] (fun y wr => ∃ (k : Nat) (p : Option Addr) (c : Nat) (rows : List (List Value)), k ≤ nk ∧ y = .int .i64 k ∧ Hid (w2.grownBy wr none) ∧ wr.heap[b8]? = some (.cells #[.slice p k c, .slice (some ⟨g, 0, none⟩) 1 1] 25 (0, 0)) ∧ SOwn wr base 64 6 p k c rows ∧ Hid (∀ j (hj : j < rows.length), Stay wr (Sp b4 b8 p) (fun W => StC W rows[j] (mvS L (d (L.getD j 0).toNat)))) ∧ Hid (Stay wr (Sp b4 b8 p) (fun W => GlM W (some ⟨g, 0, none⟩) 0 (mvG L ⟨kk, zs, gg, xs, ys⟩))) ∧ base ≤ wr.heap.size) (fun y _ => nk - (intOf y).toNat)
    case atStart => exact ⟨0, none, 0, [], Nat.zero_le _, rfl, HG0, HB80.out, SOwn.nil _ _ _ _, hid (fun j hj => absurd hj (Nat.not_lt_zero j)), hid (HSG0.out.less (fun x _ h => by rcases h with h | h | h; exact .inl h; exact .inr h; simp at h)), by omega⟩
    case round =>
      obtain ⟨k, p, c, rows, hk, rfl, HGR, hb8, hO, HST, HSG, hbase0⟩ := hrel
      by_cases hlt : k < nk
      · obtain ⟨i, hLi, hi⟩ := hLr L[k] (List.getElem_mem (by omega))
        obtain ⟨b1, o1, rfl, e1⟩ := (HK.out.keep HGR.out).cel k (by omega)
        rw [hLi] at e1
        have hmem : (i : Int) ∈ L := by rw [← hLi]; exact List.getElem_mem _
        have hsubi := hsub i hmem
        obtain ⟨hz1, hz2, hz3⟩ := hz i hi
        obtain ⟨dk, hdk⟩ : ∃ x, x = d i := ⟨_, rfl⟩
        have hSi := hS i hi
        rw [← hdk] at hSi hsubi hz1 hz2 hz3
        obtain ⟨kk, nm, zs, gg, xs, ys⟩ := dk
        obtain ⟨cs, ⟨bs, os, hpS, hc⟩, pa, na, ca, p1, n1, c1, p2, n2, c2, rfl, s1, s2, s3⟩ := hSi
        dsimp only at *
        subst hpS
        have hgw := grown_trans HW.out HGR.out
        have a0 := hgw.cell (hc 0 (by simp)) (by simp); have a1 := hgw.cell (hc 1 (by simp)) (by simp); have a2 := hgw.cell (hc 2 (by simp)) (by simp); have a3 := hgw.cell (hc 3 (by simp)) (by simp); have a4 := hgw.cell (hc 4 (by simp)) (by simp); have a5 := hgw.cell (hc 5 (by simp)) (by simp)
        simp only [List.getElem_cons_zero, List.getElem_cons_succ, Nat.add_zero] at a0 a1 a2 a3 a4 a5
        have hln2 := s1.len; have hl12 := s2.len; have hl22 := s3.len
        have HZL2 := hid hln2
        have HDK : Hid (mvS L (d (L.getD k 0).toNat) = ⟨kk, nm, plc L zs, gg, xs, ys⟩) := hid (by
          have : L.getD k 0 = (i : Int) := by rw [← hLi]; simp [List.getD, List.getElem?_eq_getElem (show k < L.length by omega)]
          rw [this, Int.toNat_natCast, ← hdk]
          rfl)
        have HCA := hid fun W (hg : w2.grownBy W none) => places_n (some ⟨b1, o1, none⟩) nk ck L pa na ca zs W (HK.out.keep hg) (by omega) hL (s1.keep (grown_trans HW.out hg)) (by omega) hsubi
        have HCB := hid fun W (hg : w2.grownBy W none) => freshRat_n gg p1 n1 c1 p2 n2 c2 xs ys W (s2.keep (grown_trans HW.out hg)) (s3.keep (grown_trans HW.out hg)) (by omega) (by omega)
        obtain ⟨⟨k0, k1⟩, -⟩ := box2n (keepB BX.out HGR.out)
        obtain ⟨⟨i0, i1, i2, i3, i4, i5⟩, fa⟩ := box6 (blk0 wr (.cells #[.int .i64 0, .string ⟨#[]⟩, .slice none 0 0, .bool false, .slice none 0 0, .slice none 0 0] 64 (0, 0)))
        have f0 := fa 0; have f1 := fa 1; have f2 := fa 2; have f3 := fa 3; have f4 := fa 4; have f5 := fa 5
        clear fa hc s1 s2 s3 hdk hLi hmem hgw HC1 HC2
        have HPB : Hid (∀ x, p.map (·.block) = some x → base ≤ x ∧ x < wr.heap.size) := hid fun x hx => by
          cases p with
          | none => simp at hx
          | some q => have := hO.lt q rfl; simp at hx; omega
        go_upto_region 10 with fail
        clear i0 i1 i2 i3 i4 i5 f0 f1 f2 f3 f4 f5 a0 a1 a2 a3 a4 a5 e1 k0 k1
        have B11 := blk0 wr (.cells #[.int .i64 kk, .string nm, .slice pa na ca, .bool gg, .slice p1 n1 c1, .slice p2 n2 c2] 64 (0, 0))
        have gC := World.grownBy_alloc wr (.cells #[.int .i64 kk, .string nm, .slice pa na ca, .bool gg, .slice p1 n1 c1, .slice p2 n2 c2] 64 (0, 0)) none
        replace hb8 := keepB hb8 gC
        replace hO := hO.keep gC
        replace HST := hid (fun j hj => (HST.out j hj).keep gC)
        replace HSG := hid (HSG.out.keep gC)
        replace HGR := hid (grown_trans HGR.out gC)
        have hbb := hbase0
        replace hbase0 := Nat.le_trans hbase0 gC.size
        clear gC
        generalize wr.heap.size = b11 at *
        generalize wr.alloc _ = w5 at *
        have hb4d : b4 < w5.heap.size := by omega
        have hb8d : b8 < w5.heap.size := by omega
        refine wp_region_noPanic ?_
        refine wp_region_held_drew (S := (fun W => W.heap[b11]? = some (.cells #[.int .i64 kk, .string nm, .slice pa na ca, .bool gg, .slice p1 n1 c1, .slice p2 n2 c2] 64 (0, 0)))) (by kernel_rfl) ?_ (fun hHeld => ?_)
        · (try dsimp only)
          exact keepB B11 (grown_drew _ none)
        have hgg := grown_drew w5 none
        replace hb8 := keepB hb8 hgg
        replace hO := hO.keep hgg
        replace HST := hid (fun j hj => (HST.out j hj).keep hgg)
        replace HSG := hid (HSG.out.keep hgg)
        replace HGR := hid (grown_trans HGR.out hgg)
        have hbase := Nat.le_trans hbase0 hgg.size
        replace hb4d := Nat.lt_of_lt_of_le hb4d hgg.size
        replace hb8d := Nat.lt_of_lt_of_le hb8d hgg.size
        clear hgg
        generalize w5.drew = wd at *
        have hgg := grown_refl wd none
        have hO0 := hO
        refine wpAnyH_take (i := 0) (oi := Oper.mk _ _ _ _ _ _) (v := ?_) rfl (by kernel_rfl) (by kernel_rfl) (by kernel_rfl) (fun _ _ _ h => h) (Or.inl ⟨by kernel_rfl, ?_⟩) hHeld ?_
        rotate_left 1
        · intro W hSw
          (try dsimp only at hSw)
          obtain ⟨⟨h0, h1, h2, h3, h4, h5⟩, -⟩ := box6 hSw
          go_simp
          (try (with_reducible rfl))
        (try simp only [Act.put, List.setIfInBounds_toArray, List.set_cons_zero, List.set_cons_succ])
        refine wpAnyH_take (i := 2) (oi := Oper.mk _ _ _ _ _ _) (v := ?_) rfl (by kernel_rfl) (by kernel_rfl) (by kernel_rfl) (fun _ _ _ h => h) (Or.inl ⟨by kernel_rfl, ?_⟩) hHeld ?_
        rotate_left 1
        · intro W hSw
          (try dsimp only at hSw)
          obtain ⟨⟨h0, h1, h2, h3, h4, h5⟩, -⟩ := box6 hSw
          go_simp
          (try (with_reducible rfl))
        (try simp only [Act.put, List.setIfInBounds_toArray, List.set_cons_zero, List.set_cons_succ])
        refine wpAnyH_take (i := 3) (oi := Oper.mk _ _ _ _ _ _) (v := ?_) rfl (by kernel_rfl) (by kernel_rfl) (by kernel_rfl) (fun _ _ _ h => h) (Or.inl ⟨by kernel_rfl, ?_⟩) hHeld ?_
        rotate_left 1
        · intro W hSw
          (try dsimp only at hSw)
          obtain ⟨⟨h0, h1, h2, h3, h4, h5⟩, -⟩ := box6 hSw
          go_simp
          (try (with_reducible rfl))
        (try simp only [Act.put, List.setIfInBounds_toArray, List.set_cons_zero, List.set_cons_succ])
        refine wpAnyH_take (i := 4) (oi := Oper.mk _ _ _ _ _ _) (v := ?_) rfl (by kernel_rfl) (by kernel_rfl) (by kernel_rfl) (fun _ _ _ h => h) (Or.inl ⟨by kernel_rfl, ?_⟩) hHeld ?_
        rotate_left 1
        · intro W hSw
          (try dsimp only at hSw)
          obtain ⟨⟨h0, h1, h2, h3, h4, h5⟩, -⟩ := box6 hSw
          go_simp
          (try (with_reducible rfl))
        (try simp only [Act.put, List.setIfInBounds_toArray, List.set_cons_zero, List.set_cons_succ])
        refine wpAnyH_take (i := 5) (oi := Oper.mk _ _ _ _ _ _) (v := ?_) rfl (by kernel_rfl) (by kernel_rfl) (by kernel_rfl) (fun _ _ _ h => h) (Or.inl ⟨by kernel_rfl, ?_⟩) hHeld ?_
        rotate_left 1
        · intro W hSw
          (try dsimp only at hSw)
          obtain ⟨⟨h0, h1, h2, h3, h4, h5⟩, -⟩ := box6 hSw
          go_simp
          (try (with_reducible rfl))
        (try simp only [Act.put, List.setIfInBounds_toArray, List.set_cons_zero, List.set_cons_succ])
        refine wpAnyH_take (i := 6) (oi := Oper.mk _ _ _ _ _ _) (v := ?_) rfl (by kernel_rfl) (by kernel_rfl) (by kernel_rfl) (fun _ _ _ h => h) (Or.inl ⟨by kernel_rfl, ?_⟩) hHeld ?_
        rotate_left 1
        · intro W hSw
          (try dsimp only at hSw)
          obtain ⟨⟨h0, h1, h2, h3, h4, h5⟩, -⟩ := box6 hSw
          go_simp
          (try (with_reducible rfl))
        (try simp only [Act.put, List.setIfInBounds_toArray, List.set_cons_zero, List.set_cons_succ])
        refine wpAnyH_take (i := 7) (oi := Oper.mk _ _ _ _ _ _) (v := ?_) rfl (by kernel_rfl) (by kernel_rfl) (by kernel_rfl) (fun _ _ _ h => h) (Or.inl ⟨by kernel_rfl, ?_⟩) hHeld ?_
        rotate_left 1
        · intro W hSw
          (try dsimp only at hSw)
          obtain ⟨⟨h0, h1, h2, h3, h4, h5⟩, -⟩ := box6 hSw
          go_simp
          (try (with_reducible rfl))
        (try simp only [Act.put, List.setIfInBounds_toArray, List.set_cons_zero, List.set_cons_succ])
        refine wpAnyH_take (i := 8) (oi := Oper.mk _ _ _ _ _ _) (v := ?_) rfl (by kernel_rfl) (by kernel_rfl) (by kernel_rfl) (fun _ _ _ h => h) (Or.inl ⟨by kernel_rfl, ?_⟩) hHeld ?_
        rotate_left 1
        · intro W hSw
          (try dsimp only at hSw)
          obtain ⟨⟨h0, h1, h2, h3, h4, h5⟩, -⟩ := box6 hSw
          go_simp
          (try (with_reducible rfl))
        (try simp only [Act.put, List.setIfInBounds_toArray, List.set_cons_zero, List.set_cons_succ])
        refine wpAnyH_take (i := 10) (oi := Oper.mk _ _ _ _ _ _) (v := ?_) rfl (by kernel_rfl) (by kernel_rfl) (by kernel_rfl) (fun _ _ _ h => h) (Or.inl ⟨by kernel_rfl, ?_⟩) hHeld ?_
        rotate_left 1
        · intro W hSw
          (try dsimp only at hSw)
          obtain ⟨⟨h0, h1, h2, h3, h4, h5⟩, -⟩ := box6 hSw
          go_simp
          (try (with_reducible rfl))
        (try simp only [Act.put, List.setIfInBounds_toArray, List.set_cons_zero, List.set_cons_succ])
        refine wpAnyH_take (i := 11) (oi := Oper.mk _ _ _ _ _ _) (v := ?_) rfl (by kernel_rfl) (by kernel_rfl) (by kernel_rfl) (fun _ _ _ h => h) (Or.inl ⟨by kernel_rfl, ?_⟩) hHeld ?_
        rotate_left 1
        · intro W hSw
          (try dsimp only at hSw)
          obtain ⟨⟨h0, h1, h2, h3, h4, h5⟩, -⟩ := box6 hSw
          go_simp
          (try (with_reducible rfl))
        (try simp only [Act.put, List.setIfInBounds_toArray, List.set_cons_zero, List.set_cons_succ])
        refine wpAnyH_ready (rs := [1, 9]) (by kernel_rfl) (by simp) ?_
        refine AllReadyH.cons (o := Oper.mk _ _ _ _ _ _) rfl (fun K hK => ?_) ?_
        · (try rw [if_pos (by kernel_rfl)])
          obtain ⟨⟨z0, z1⟩, -⟩ := box2n hb8
          go_simp
          clear z0 z1
          refine hK.out _ _ ?_ (fun hNew => ?_)
          · have hH := hHeld
            (try dsimp only at hH)
            (try dsimp only)
            first | exact hH | exact keepB hH hgS | exact (hgS.block _ (lt_of_block hH) (by simp; omega)).trans hH
          clear hK K hHeld
          have hHeld := hNew
          clear hNew
          (try simp only [Act.put, List.setIfInBounds_toArray, List.set_cons_zero, List.set_cons_succ])
          refine wpAnyH_ready (rs := [9]) (by kernel_rfl) (by simp) ?_
          refine AllReadyH.cons (o := Oper.mk _ _ _ _ _ _) rfl (fun K hK => ?_) AllReadyH.nil
          (try rw [if_pos (by kernel_rfl)])
          go_simp
          go_at_call 27
          refine (HCA.out _ (grown_trans HGR.out hgg)).mono ?_
          rintro e wy1 ⟨gp, rfl, hplr, hgp, hgS⟩
          replace hgp := Nat.le_trans hgg.size hgp
          replace hgg := grown_trans hgg hgS
          replace hb8 := keepB hb8 hgS
          replace hO := hO.keep hgS
          refine hK.out _ _ ?_ (fun hNew => ?_)
          · have hH := hHeld
            (try dsimp only at hH)
            (try dsimp only)
            first | exact hH | exact keepB hH hgS | exact (hgS.block _ (lt_of_block hH) (by simp; omega)).trans hH
          clear hK K hHeld
          have hHeld := hNew
          clear hNew
          (try simp only [Act.put, List.setIfInBounds_toArray, List.set_cons_zero, List.set_cons_succ])
          clear hgS
          refine wpAnyH_ready (rs := [12]) (by kernel_rfl) (by simp) ?_
          refine AllReadyH.cons (o := Oper.mk _ _ _ _ _ _) rfl (fun K hK => ?_) AllReadyH.nil
          (try rw [if_pos (by kernel_rfl)])
          go_simp
          go_at_call 28
          refine (HCB.out _ (grown_trans HGR.out hgg)).mono ?_
          rintro e wy2 ⟨q1, d1, q2, d2, rfl, hf1, hf2, hn1, hn2, hgS⟩
          replace hn1 := fun a ha => Nat.le_trans hgg.size (hn1 a ha)
          replace hn2 := fun a ha => Nat.le_trans hgg.size (hn2 a ha)
          replace hgg := grown_trans hgg hgS
          replace hb8 := keepB hb8 hgS
          replace hO := hO.keep hgS
          replace hplr := hplr.keep hgS
          refine hK.out _ _ ?_ (fun hNew => ?_)
          · have hH := hHeld
            (try dsimp only at hH)
            (try dsimp only)
            first | exact hH | exact keepB hH hgS | exact (hgS.block _ (lt_of_block hH) (by simp; omega)).trans hH
          clear hK K hHeld
          have hHeld := hNew
          clear hNew
          (try simp only [Act.put, List.setIfInBounds_toArray, List.set_cons_zero, List.set_cons_succ])
          clear hgS
          refine wpAnyH_ready (rs := [13]) (by kernel_rfl) (by simp) ?_
          refine AllReadyH.cons (o := Oper.mk _ _ _ _ _ _) rfl (fun K hK => ?_) AllReadyH.nil
          (try rw [if_pos (by kernel_rfl)])
          go_simp
          refine hK.out _ _ ?_ (fun hNew => ?_)
          · have hH := hHeld
            (try dsimp only at hH)
            (try dsimp only)
            first | exact hH | exact keepB hH hgS | exact (hgS.block _ (lt_of_block hH) (by simp; omega)).trans hH
          clear hK K hHeld
          have hHeld := hNew
          clear hNew
          (try simp only [Act.put, List.setIfInBounds_toArray, List.set_cons_zero, List.set_cons_succ])
          refine wpAnyH_ready (rs := [14]) (by kernel_rfl) (by simp) ?_
          refine AllReadyH.cons (o := Oper.mk _ _ _ _ _ _) rfl (fun K hK => ?_) AllReadyH.nil
          (try rw [if_pos (by kernel_rfl)])
          go_simp
          have hgS := World.grownBy_alloc wy2 (.cells #[.int .i64 kk, .string nm, .slice (some ⟨gp, 0, none⟩) na na, .bool gg, .slice q1 n1 d1, .slice q2 n2 d2] 64 (0, 0)) none
          have hbR := blk0 wy2 (.cells #[.int .i64 kk, .string nm, .slice (some ⟨gp, 0, none⟩) na na, .bool gg, .slice q1 n1 d1, .slice q2 n2 d2] 64 (0, 0))
          have hlegr := hgg.size
          replace hgg := grown_trans hgg hgS
          replace hb8 := keepB hb8 hgS
          replace hO := hO.keep hgS
          replace hplr := hplr.keep hgS
          replace hf1 := hf1.keep hgS
          replace hf2 := hf2.keep hgS
          refine hK.out _ _ ?_ (fun hNew => ?_)
          · have hH := hHeld
            (try dsimp only at hH)
            (try dsimp only)
            first | exact hH | exact keepB hH hgS | exact (hgS.block _ (lt_of_block hH) (by simp; omega)).trans hH
          clear hK K hHeld
          have hHeld := hNew
          clear hNew
          (try simp only [Act.put, List.setIfInBounds_toArray, List.set_cons_zero, List.set_cons_succ])
          generalize wy2.heap.size = gr at *
          generalize wy2.alloc _ = wy3 at *
          clear hgS
          refine wpAnyH_ready (rs := [15]) (by kernel_rfl) (by simp) ?_
          refine AllReadyH.cons (o := Oper.mk _ _ _ _ _ _) rfl (fun K hK => ?_) AllReadyH.nil
          have hszA := hgg.size
          refine step_sappend_at wy3 rfl (.tmp 55) (.tmp 68) 22 rfl 64 6 (.agg #[.int .i64 0, .string ⟨#[]⟩, .slice none 0 0, .bool false, .slice none 0 0, .slice none 0 0]) 104 Try.underlying22 infoStepP stepZP (by omega) base p k c rows rfl hO _ 1 [.int .i64 kk, .string nm, .slice (some ⟨gp, 0, none⟩) na na, .bool gg, .slice q1 n1 d1, .slice q2 n2 d2] rfl (one_srdB hbR rfl) (stepOneP _ _ _ _ _ _ _ _ _ _ _ _) (by omega) (by omega) (by omega) ?_
          intro p' c2 wy4 hO8 hgA hat
          have hb8' := (hgA.block b8 (lt_of_block hb8) (fun e => by have := HPB.out _ e.symm; omega)).trans hb8
          refine hK.out _ _ ?_ (fun hNew => ?_)
          · have hH := hHeld
            (try dsimp only at hH)
            (try dsimp only)
            exact (hgA.block b11 (lt_of_block hH) (fun e => by have := HPB.out _ e.symm; omega)).trans hH
          clear hK K hHeld
          have hHeld := hNew
          clear hNew
          (try simp only [Act.put, List.setIfInBounds_toArray, List.set_cons_zero, List.set_cons_succ])
          refine wpAnyH_ready (rs := [16]) (by kernel_rfl) (by simp) ?_
          refine AllReadyH.cons (o := Oper.mk _ _ _ _ _ _) rfl (fun K hK => ?_) AllReadyH.nil
          (try rw [if_pos (by kernel_rfl)])
          go_simp
          refine hK.out _ _ ?_ (fun hNew => ?_)
          · have hH := hHeld
            (try dsimp only at hH)
            (try dsimp only)
            first | exact hH | exact keepB hH hgS | exact (hgS.block _ (lt_of_block hH) (by simp; omega)).trans hH
          clear hK K hHeld
          have hHeld := hNew
          clear hNew
          (try simp only [Act.put, List.setIfInBounds_toArray, List.set_cons_zero, List.set_cons_succ])
          refine wpAnyH_ready (rs := [17]) (by kernel_rfl) (by simp) ?_
          refine AllReadyH.cons (o := Oper.mk _ _ _ _ _ _) rfl (fun K hK => ?_) AllReadyH.nil
          (try rw [if_pos (by kernel_rfl)])
          obtain ⟨⟨z0, z1⟩, zf⟩ := box2n hb8'
          have f0 := zf 0
          go_simp
          have hgS := grown_setCell wy4 ⟨b8, 0, none⟩ (.slice p' (k + 1) c2)
          have hbE := heap_setCell_same wy4 b8 0 _ _ (.slice p' (k + 1) c2) hb8'
          clear z0 z1 zf f0
          refine hK.out _ _ ?_ (fun hNew => ?_)
          · have hH := hHeld
            (try dsimp only at hH)
            (try dsimp only)
            first | exact hH | exact keepB hH hgS | exact (hgS.block _ (lt_of_block hH) (by simp; omega)).trans hH
          clear hK K hHeld
          have hHeld := hNew
          clear hNew
          (try simp only [Act.put, List.setIfInBounds_toArray, List.set_cons_zero, List.set_cons_succ])
          refine wpAnyH_done (by kernel_rfl) ?_ _
          refine NoPanic.normal ?_
          have HEND := hid (prune_round (L := L) HGR.out hgg hgA hgS hl8 hbw hb8b hbase hbE hO hO8 hat HST.out HSG.out (hplr.rd (by rw [plc_len]; exact HZL2.out) (by omega)) hf1 hf2 (far_new hb4d hb8d hO0 (fun a ha => by cases ha; exact hgp)) (far_new hb4d hb8d hO0 hn1) (far_new hb4d hb8d hO0 hn2) HDK.out)
          clear hHeld hgA hgS hbE hbR hO8 hat hb8' hplr hgp hf1 hf2 hn1 hn2 hgg hO0 hO hb8
          go_wp2_with fail
          obtain ⟨hE1, hE2, hE3, hE4, hE5, hE6⟩ := HEND.out
          exact ⟨⟨k + 1, p', c2, _, by omega, by go_num, hid hE1, hE2, hE3, hid hE4, hid hE5, hE6⟩, by simp [intOf]; omega⟩
        refine AllReadyH.cons (o := Oper.mk _ _ _ _ _ _) rfl (fun K hK => ?_) AllReadyH.nil
        (try rw [if_pos (by kernel_rfl)])
        go_simp
        go_at_call 27
        refine (HCA.out _ (grown_trans HGR.out hgg)).mono ?_
        rintro e wy1 ⟨gp, rfl, hplr, hgp, hgS⟩
        replace hgp := Nat.le_trans hgg.size hgp
        replace hgg := grown_trans hgg hgS
        replace hb8 := keepB hb8 hgS
        replace hO := hO.keep hgS
        refine hK.out _ _ ?_ (fun hNew => ?_)
        · have hH := hHeld
          (try dsimp only at hH)
          (try dsimp only)
          first | exact hH | exact keepB hH hgS | exact (hgS.block _ (lt_of_block hH) (by simp; omega)).trans hH
        clear hK K hHeld
        have hHeld := hNew
        clear hNew
        (try simp only [Act.put, List.setIfInBounds_toArray, List.set_cons_zero, List.set_cons_succ])
        clear hgS
        refine wpAnyH_ready (rs := [1, 12]) (by kernel_rfl) (by simp) ?_
        refine AllReadyH.cons (o := Oper.mk _ _ _ _ _ _) rfl (fun K hK => ?_) ?_
        · (try rw [if_pos (by kernel_rfl)])
          obtain ⟨⟨z0, z1⟩, -⟩ := box2n hb8
          go_simp
          clear z0 z1
          refine hK.out _ _ ?_ (fun hNew => ?_)
          · have hH := hHeld
            (try dsimp only at hH)
            (try dsimp only)
            first | exact hH | exact keepB hH hgS | exact (hgS.block _ (lt_of_block hH) (by simp; omega)).trans hH
          clear hK K hHeld
          have hHeld := hNew
          clear hNew
          (try simp only [Act.put, List.setIfInBounds_toArray, List.set_cons_zero, List.set_cons_succ])
          refine wpAnyH_ready (rs := [12]) (by kernel_rfl) (by simp) ?_
          refine AllReadyH.cons (o := Oper.mk _ _ _ _ _ _) rfl (fun K hK => ?_) AllReadyH.nil
          (try rw [if_pos (by kernel_rfl)])
          go_simp
          go_at_call 28
          refine (HCB.out _ (grown_trans HGR.out hgg)).mono ?_
          rintro e wy2 ⟨q1, d1, q2, d2, rfl, hf1, hf2, hn1, hn2, hgS⟩
          replace hn1 := fun a ha => Nat.le_trans hgg.size (hn1 a ha)
          replace hn2 := fun a ha => Nat.le_trans hgg.size (hn2 a ha)
          replace hgg := grown_trans hgg hgS
          replace hb8 := keepB hb8 hgS
          replace hO := hO.keep hgS
          replace hplr := hplr.keep hgS
          refine hK.out _ _ ?_ (fun hNew => ?_)
          · have hH := hHeld
            (try dsimp only at hH)
            (try dsimp only)
            first | exact hH | exact keepB hH hgS | exact (hgS.block _ (lt_of_block hH) (by simp; omega)).trans hH
          clear hK K hHeld
          have hHeld := hNew
          clear hNew
          (try simp only [Act.put, List.setIfInBounds_toArray, List.set_cons_zero, List.set_cons_succ])
          clear hgS
          refine wpAnyH_ready (rs := [13]) (by kernel_rfl) (by simp) ?_
          refine AllReadyH.cons (o := Oper.mk _ _ _ _ _ _) rfl (fun K hK => ?_) AllReadyH.nil
          (try rw [if_pos (by kernel_rfl)])
          go_simp
          refine hK.out _ _ ?_ (fun hNew => ?_)
          · have hH := hHeld
            (try dsimp only at hH)
            (try dsimp only)
            first | exact hH | exact keepB hH hgS | exact (hgS.block _ (lt_of_block hH) (by simp; omega)).trans hH
          clear hK K hHeld
          have hHeld := hNew
          clear hNew
          (try simp only [Act.put, List.setIfInBounds_toArray, List.set_cons_zero, List.set_cons_succ])
          refine wpAnyH_ready (rs := [14]) (by kernel_rfl) (by simp) ?_
          refine AllReadyH.cons (o := Oper.mk _ _ _ _ _ _) rfl (fun K hK => ?_) AllReadyH.nil
          (try rw [if_pos (by kernel_rfl)])
          go_simp
          have hgS := World.grownBy_alloc wy2 (.cells #[.int .i64 kk, .string nm, .slice (some ⟨gp, 0, none⟩) na na, .bool gg, .slice q1 n1 d1, .slice q2 n2 d2] 64 (0, 0)) none
          have hbR := blk0 wy2 (.cells #[.int .i64 kk, .string nm, .slice (some ⟨gp, 0, none⟩) na na, .bool gg, .slice q1 n1 d1, .slice q2 n2 d2] 64 (0, 0))
          have hlegr := hgg.size
          replace hgg := grown_trans hgg hgS
          replace hb8 := keepB hb8 hgS
          replace hO := hO.keep hgS
          replace hplr := hplr.keep hgS
          replace hf1 := hf1.keep hgS
          replace hf2 := hf2.keep hgS
          refine hK.out _ _ ?_ (fun hNew => ?_)
          · have hH := hHeld
            (try dsimp only at hH)
            (try dsimp only)
            first | exact hH | exact keepB hH hgS | exact (hgS.block _ (lt_of_block hH) (by simp; omega)).trans hH
          clear hK K hHeld
          have hHeld := hNew
          clear hNew
          (try simp only [Act.put, List.setIfInBounds_toArray, List.set_cons_zero, List.set_cons_succ])
          generalize wy2.heap.size = gr at *
          generalize wy2.alloc _ = wy3 at *
          clear hgS
          refine wpAnyH_ready (rs := [15]) (by kernel_rfl) (by simp) ?_
          refine AllReadyH.cons (o := Oper.mk _ _ _ _ _ _) rfl (fun K hK => ?_) AllReadyH.nil
          have hszA := hgg.size
          refine step_sappend_at wy3 rfl (.tmp 55) (.tmp 68) 22 rfl 64 6 (.agg #[.int .i64 0, .string ⟨#[]⟩, .slice none 0 0, .bool false, .slice none 0 0, .slice none 0 0]) 104 Try.underlying22 infoStepP stepZP (by omega) base p k c rows rfl hO _ 1 [.int .i64 kk, .string nm, .slice (some ⟨gp, 0, none⟩) na na, .bool gg, .slice q1 n1 d1, .slice q2 n2 d2] rfl (one_srdB hbR rfl) (stepOneP _ _ _ _ _ _ _ _ _ _ _ _) (by omega) (by omega) (by omega) ?_
          intro p' c2 wy4 hO8 hgA hat
          have hb8' := (hgA.block b8 (lt_of_block hb8) (fun e => by have := HPB.out _ e.symm; omega)).trans hb8
          refine hK.out _ _ ?_ (fun hNew => ?_)
          · have hH := hHeld
            (try dsimp only at hH)
            (try dsimp only)
            exact (hgA.block b11 (lt_of_block hH) (fun e => by have := HPB.out _ e.symm; omega)).trans hH
          clear hK K hHeld
          have hHeld := hNew
          clear hNew
          (try simp only [Act.put, List.setIfInBounds_toArray, List.set_cons_zero, List.set_cons_succ])
          refine wpAnyH_ready (rs := [16]) (by kernel_rfl) (by simp) ?_
          refine AllReadyH.cons (o := Oper.mk _ _ _ _ _ _) rfl (fun K hK => ?_) AllReadyH.nil
          (try rw [if_pos (by kernel_rfl)])
          go_simp
          refine hK.out _ _ ?_ (fun hNew => ?_)
          · have hH := hHeld
            (try dsimp only at hH)
            (try dsimp only)
            first | exact hH | exact keepB hH hgS | exact (hgS.block _ (lt_of_block hH) (by simp; omega)).trans hH
          clear hK K hHeld
          have hHeld := hNew
          clear hNew
          (try simp only [Act.put, List.setIfInBounds_toArray, List.set_cons_zero, List.set_cons_succ])
          refine wpAnyH_ready (rs := [17]) (by kernel_rfl) (by simp) ?_
          refine AllReadyH.cons (o := Oper.mk _ _ _ _ _ _) rfl (fun K hK => ?_) AllReadyH.nil
          (try rw [if_pos (by kernel_rfl)])
          obtain ⟨⟨z0, z1⟩, zf⟩ := box2n hb8'
          have f0 := zf 0
          go_simp
          have hgS := grown_setCell wy4 ⟨b8, 0, none⟩ (.slice p' (k + 1) c2)
          have hbE := heap_setCell_same wy4 b8 0 _ _ (.slice p' (k + 1) c2) hb8'
          clear z0 z1 zf f0
          refine hK.out _ _ ?_ (fun hNew => ?_)
          · have hH := hHeld
            (try dsimp only at hH)
            (try dsimp only)
            first | exact hH | exact keepB hH hgS | exact (hgS.block _ (lt_of_block hH) (by simp; omega)).trans hH
          clear hK K hHeld
          have hHeld := hNew
          clear hNew
          (try simp only [Act.put, List.setIfInBounds_toArray, List.set_cons_zero, List.set_cons_succ])
          refine wpAnyH_done (by kernel_rfl) ?_ _
          refine NoPanic.normal ?_
          have HEND := hid (prune_round (L := L) HGR.out hgg hgA hgS hl8 hbw hb8b hbase hbE hO hO8 hat HST.out HSG.out (hplr.rd (by rw [plc_len]; exact HZL2.out) (by omega)) hf1 hf2 (far_new hb4d hb8d hO0 (fun a ha => by cases ha; exact hgp)) (far_new hb4d hb8d hO0 hn1) (far_new hb4d hb8d hO0 hn2) HDK.out)
          clear hHeld hgA hgS hbE hbR hO8 hat hb8' hplr hgp hf1 hf2 hn1 hn2 hgg hO0 hO hb8
          go_wp2_with fail
          obtain ⟨hE1, hE2, hE3, hE4, hE5, hE6⟩ := HEND.out
          exact ⟨⟨k + 1, p', c2, _, by omega, by go_num, hid hE1, hE2, hE3, hid hE4, hid hE5, hE6⟩, by simp [intOf]; omega⟩
        refine AllReadyH.cons (o := Oper.mk _ _ _ _ _ _) rfl (fun K hK => ?_) AllReadyH.nil
        (try rw [if_pos (by kernel_rfl)])
        go_simp
        go_at_call 28
        refine (HCB.out _ (grown_trans HGR.out hgg)).mono ?_
        rintro e wy2 ⟨q1, d1, q2, d2, rfl, hf1, hf2, hn1, hn2, hgS⟩
        replace hn1 := fun a ha => Nat.le_trans hgg.size (hn1 a ha)
        replace hn2 := fun a ha => Nat.le_trans hgg.size (hn2 a ha)
        replace hgg := grown_trans hgg hgS
        replace hb8 := keepB hb8 hgS
        replace hO := hO.keep hgS
        replace hplr := hplr.keep hgS
        refine hK.out _ _ ?_ (fun hNew => ?_)
        · have hH := hHeld
          (try dsimp only at hH)
          (try dsimp only)
          first | exact hH | exact keepB hH hgS | exact (hgS.block _ (lt_of_block hH) (by simp; omega)).trans hH
        clear hK K hHeld
        have hHeld := hNew
        clear hNew
        (try simp only [Act.put, List.setIfInBounds_toArray, List.set_cons_zero, List.set_cons_succ])
        clear hgS
        refine wpAnyH_ready (rs := [1, 13]) (by kernel_rfl) (by simp) ?_
        refine AllReadyH.cons (o := Oper.mk _ _ _ _ _ _) rfl (fun K hK => ?_) ?_
        · (try rw [if_pos (by kernel_rfl)])
          obtain ⟨⟨z0, z1⟩, -⟩ := box2n hb8
          go_simp
          clear z0 z1
          refine hK.out _ _ ?_ (fun hNew => ?_)
          · have hH := hHeld
            (try dsimp only at hH)
            (try dsimp only)
            first | exact hH | exact keepB hH hgS | exact (hgS.block _ (lt_of_block hH) (by simp; omega)).trans hH
          clear hK K hHeld
          have hHeld := hNew
          clear hNew
          (try simp only [Act.put, List.setIfInBounds_toArray, List.set_cons_zero, List.set_cons_succ])
          refine wpAnyH_ready (rs := [13]) (by kernel_rfl) (by simp) ?_
          refine AllReadyH.cons (o := Oper.mk _ _ _ _ _ _) rfl (fun K hK => ?_) AllReadyH.nil
          (try rw [if_pos (by kernel_rfl)])
          go_simp
          refine hK.out _ _ ?_ (fun hNew => ?_)
          · have hH := hHeld
            (try dsimp only at hH)
            (try dsimp only)
            first | exact hH | exact keepB hH hgS | exact (hgS.block _ (lt_of_block hH) (by simp; omega)).trans hH
          clear hK K hHeld
          have hHeld := hNew
          clear hNew
          (try simp only [Act.put, List.setIfInBounds_toArray, List.set_cons_zero, List.set_cons_succ])
          refine wpAnyH_ready (rs := [14]) (by kernel_rfl) (by simp) ?_
          refine AllReadyH.cons (o := Oper.mk _ _ _ _ _ _) rfl (fun K hK => ?_) AllReadyH.nil
          (try rw [if_pos (by kernel_rfl)])
          go_simp
          have hgS := World.grownBy_alloc wy2 (.cells #[.int .i64 kk, .string nm, .slice (some ⟨gp, 0, none⟩) na na, .bool gg, .slice q1 n1 d1, .slice q2 n2 d2] 64 (0, 0)) none
          have hbR := blk0 wy2 (.cells #[.int .i64 kk, .string nm, .slice (some ⟨gp, 0, none⟩) na na, .bool gg, .slice q1 n1 d1, .slice q2 n2 d2] 64 (0, 0))
          have hlegr := hgg.size
          replace hgg := grown_trans hgg hgS
          replace hb8 := keepB hb8 hgS
          replace hO := hO.keep hgS
          replace hplr := hplr.keep hgS
          replace hf1 := hf1.keep hgS
          replace hf2 := hf2.keep hgS
          refine hK.out _ _ ?_ (fun hNew => ?_)
          · have hH := hHeld
            (try dsimp only at hH)
            (try dsimp only)
            first | exact hH | exact keepB hH hgS | exact (hgS.block _ (lt_of_block hH) (by simp; omega)).trans hH
          clear hK K hHeld
          have hHeld := hNew
          clear hNew
          (try simp only [Act.put, List.setIfInBounds_toArray, List.set_cons_zero, List.set_cons_succ])
          generalize wy2.heap.size = gr at *
          generalize wy2.alloc _ = wy3 at *
          clear hgS
          refine wpAnyH_ready (rs := [15]) (by kernel_rfl) (by simp) ?_
          refine AllReadyH.cons (o := Oper.mk _ _ _ _ _ _) rfl (fun K hK => ?_) AllReadyH.nil
          have hszA := hgg.size
          refine step_sappend_at wy3 rfl (.tmp 55) (.tmp 68) 22 rfl 64 6 (.agg #[.int .i64 0, .string ⟨#[]⟩, .slice none 0 0, .bool false, .slice none 0 0, .slice none 0 0]) 104 Try.underlying22 infoStepP stepZP (by omega) base p k c rows rfl hO _ 1 [.int .i64 kk, .string nm, .slice (some ⟨gp, 0, none⟩) na na, .bool gg, .slice q1 n1 d1, .slice q2 n2 d2] rfl (one_srdB hbR rfl) (stepOneP _ _ _ _ _ _ _ _ _ _ _ _) (by omega) (by omega) (by omega) ?_
          intro p' c2 wy4 hO8 hgA hat
          have hb8' := (hgA.block b8 (lt_of_block hb8) (fun e => by have := HPB.out _ e.symm; omega)).trans hb8
          refine hK.out _ _ ?_ (fun hNew => ?_)
          · have hH := hHeld
            (try dsimp only at hH)
            (try dsimp only)
            exact (hgA.block b11 (lt_of_block hH) (fun e => by have := HPB.out _ e.symm; omega)).trans hH
          clear hK K hHeld
          have hHeld := hNew
          clear hNew
          (try simp only [Act.put, List.setIfInBounds_toArray, List.set_cons_zero, List.set_cons_succ])
          refine wpAnyH_ready (rs := [16]) (by kernel_rfl) (by simp) ?_
          refine AllReadyH.cons (o := Oper.mk _ _ _ _ _ _) rfl (fun K hK => ?_) AllReadyH.nil
          (try rw [if_pos (by kernel_rfl)])
          go_simp
          refine hK.out _ _ ?_ (fun hNew => ?_)
          · have hH := hHeld
            (try dsimp only at hH)
            (try dsimp only)
            first | exact hH | exact keepB hH hgS | exact (hgS.block _ (lt_of_block hH) (by simp; omega)).trans hH
          clear hK K hHeld
          have hHeld := hNew
          clear hNew
          (try simp only [Act.put, List.setIfInBounds_toArray, List.set_cons_zero, List.set_cons_succ])
          refine wpAnyH_ready (rs := [17]) (by kernel_rfl) (by simp) ?_
          refine AllReadyH.cons (o := Oper.mk _ _ _ _ _ _) rfl (fun K hK => ?_) AllReadyH.nil
          (try rw [if_pos (by kernel_rfl)])
          obtain ⟨⟨z0, z1⟩, zf⟩ := box2n hb8'
          have f0 := zf 0
          go_simp
          have hgS := grown_setCell wy4 ⟨b8, 0, none⟩ (.slice p' (k + 1) c2)
          have hbE := heap_setCell_same wy4 b8 0 _ _ (.slice p' (k + 1) c2) hb8'
          clear z0 z1 zf f0
          refine hK.out _ _ ?_ (fun hNew => ?_)
          · have hH := hHeld
            (try dsimp only at hH)
            (try dsimp only)
            first | exact hH | exact keepB hH hgS | exact (hgS.block _ (lt_of_block hH) (by simp; omega)).trans hH
          clear hK K hHeld
          have hHeld := hNew
          clear hNew
          (try simp only [Act.put, List.setIfInBounds_toArray, List.set_cons_zero, List.set_cons_succ])
          refine wpAnyH_done (by kernel_rfl) ?_ _
          refine NoPanic.normal ?_
          have HEND := hid (prune_round (L := L) HGR.out hgg hgA hgS hl8 hbw hb8b hbase hbE hO hO8 hat HST.out HSG.out (hplr.rd (by rw [plc_len]; exact HZL2.out) (by omega)) hf1 hf2 (far_new hb4d hb8d hO0 (fun a ha => by cases ha; exact hgp)) (far_new hb4d hb8d hO0 hn1) (far_new hb4d hb8d hO0 hn2) HDK.out)
          clear hHeld hgA hgS hbE hbR hO8 hat hb8' hplr hgp hf1 hf2 hn1 hn2 hgg hO0 hO hb8
          go_wp2_with fail
          obtain ⟨hE1, hE2, hE3, hE4, hE5, hE6⟩ := HEND.out
          exact ⟨⟨k + 1, p', c2, _, by omega, by go_num, hid hE1, hE2, hE3, hid hE4, hid hE5, hE6⟩, by simp [intOf]; omega⟩
        refine AllReadyH.cons (o := Oper.mk _ _ _ _ _ _) rfl (fun K hK => ?_) AllReadyH.nil
        (try rw [if_pos (by kernel_rfl)])
        go_simp
        refine hK.out _ _ ?_ (fun hNew => ?_)
        · have hH := hHeld
          (try dsimp only at hH)
          (try dsimp only)
          first | exact hH | exact keepB hH hgS | exact (hgS.block _ (lt_of_block hH) (by simp; omega)).trans hH
        clear hK K hHeld
        have hHeld := hNew
        clear hNew
        (try simp only [Act.put, List.setIfInBounds_toArray, List.set_cons_zero, List.set_cons_succ])
        refine wpAnyH_ready (rs := [1, 14]) (by kernel_rfl) (by simp) ?_
        refine AllReadyH.cons (o := Oper.mk _ _ _ _ _ _) rfl (fun K hK => ?_) ?_
        · (try rw [if_pos (by kernel_rfl)])
          obtain ⟨⟨z0, z1⟩, -⟩ := box2n hb8
          go_simp
          clear z0 z1
          refine hK.out _ _ ?_ (fun hNew => ?_)
          · have hH := hHeld
            (try dsimp only at hH)
            (try dsimp only)
            first | exact hH | exact keepB hH hgS | exact (hgS.block _ (lt_of_block hH) (by simp; omega)).trans hH
          clear hK K hHeld
          have hHeld := hNew
          clear hNew
          (try simp only [Act.put, List.setIfInBounds_toArray, List.set_cons_zero, List.set_cons_succ])
          refine wpAnyH_ready (rs := [14]) (by kernel_rfl) (by simp) ?_
          refine AllReadyH.cons (o := Oper.mk _ _ _ _ _ _) rfl (fun K hK => ?_) AllReadyH.nil
          (try rw [if_pos (by kernel_rfl)])
          go_simp
          have hgS := World.grownBy_alloc wy2 (.cells #[.int .i64 kk, .string nm, .slice (some ⟨gp, 0, none⟩) na na, .bool gg, .slice q1 n1 d1, .slice q2 n2 d2] 64 (0, 0)) none
          have hbR := blk0 wy2 (.cells #[.int .i64 kk, .string nm, .slice (some ⟨gp, 0, none⟩) na na, .bool gg, .slice q1 n1 d1, .slice q2 n2 d2] 64 (0, 0))
          have hlegr := hgg.size
          replace hgg := grown_trans hgg hgS
          replace hb8 := keepB hb8 hgS
          replace hO := hO.keep hgS
          replace hplr := hplr.keep hgS
          replace hf1 := hf1.keep hgS
          replace hf2 := hf2.keep hgS
          refine hK.out _ _ ?_ (fun hNew => ?_)
          · have hH := hHeld
            (try dsimp only at hH)
            (try dsimp only)
            first | exact hH | exact keepB hH hgS | exact (hgS.block _ (lt_of_block hH) (by simp; omega)).trans hH
          clear hK K hHeld
          have hHeld := hNew
          clear hNew
          (try simp only [Act.put, List.setIfInBounds_toArray, List.set_cons_zero, List.set_cons_succ])
          generalize wy2.heap.size = gr at *
          generalize wy2.alloc _ = wy3 at *
          clear hgS
          refine wpAnyH_ready (rs := [15]) (by kernel_rfl) (by simp) ?_
          refine AllReadyH.cons (o := Oper.mk _ _ _ _ _ _) rfl (fun K hK => ?_) AllReadyH.nil
          have hszA := hgg.size
          refine step_sappend_at wy3 rfl (.tmp 55) (.tmp 68) 22 rfl 64 6 (.agg #[.int .i64 0, .string ⟨#[]⟩, .slice none 0 0, .bool false, .slice none 0 0, .slice none 0 0]) 104 Try.underlying22 infoStepP stepZP (by omega) base p k c rows rfl hO _ 1 [.int .i64 kk, .string nm, .slice (some ⟨gp, 0, none⟩) na na, .bool gg, .slice q1 n1 d1, .slice q2 n2 d2] rfl (one_srdB hbR rfl) (stepOneP _ _ _ _ _ _ _ _ _ _ _ _) (by omega) (by omega) (by omega) ?_
          intro p' c2 wy4 hO8 hgA hat
          have hb8' := (hgA.block b8 (lt_of_block hb8) (fun e => by have := HPB.out _ e.symm; omega)).trans hb8
          refine hK.out _ _ ?_ (fun hNew => ?_)
          · have hH := hHeld
            (try dsimp only at hH)
            (try dsimp only)
            exact (hgA.block b11 (lt_of_block hH) (fun e => by have := HPB.out _ e.symm; omega)).trans hH
          clear hK K hHeld
          have hHeld := hNew
          clear hNew
          (try simp only [Act.put, List.setIfInBounds_toArray, List.set_cons_zero, List.set_cons_succ])
          refine wpAnyH_ready (rs := [16]) (by kernel_rfl) (by simp) ?_
          refine AllReadyH.cons (o := Oper.mk _ _ _ _ _ _) rfl (fun K hK => ?_) AllReadyH.nil
          (try rw [if_pos (by kernel_rfl)])
          go_simp
          refine hK.out _ _ ?_ (fun hNew => ?_)
          · have hH := hHeld
            (try dsimp only at hH)
            (try dsimp only)
            first | exact hH | exact keepB hH hgS | exact (hgS.block _ (lt_of_block hH) (by simp; omega)).trans hH
          clear hK K hHeld
          have hHeld := hNew
          clear hNew
          (try simp only [Act.put, List.setIfInBounds_toArray, List.set_cons_zero, List.set_cons_succ])
          refine wpAnyH_ready (rs := [17]) (by kernel_rfl) (by simp) ?_
          refine AllReadyH.cons (o := Oper.mk _ _ _ _ _ _) rfl (fun K hK => ?_) AllReadyH.nil
          (try rw [if_pos (by kernel_rfl)])
          obtain ⟨⟨z0, z1⟩, zf⟩ := box2n hb8'
          have f0 := zf 0
          go_simp
          have hgS := grown_setCell wy4 ⟨b8, 0, none⟩ (.slice p' (k + 1) c2)
          have hbE := heap_setCell_same wy4 b8 0 _ _ (.slice p' (k + 1) c2) hb8'
          clear z0 z1 zf f0
          refine hK.out _ _ ?_ (fun hNew => ?_)
          · have hH := hHeld
            (try dsimp only at hH)
            (try dsimp only)
            first | exact hH | exact keepB hH hgS | exact (hgS.block _ (lt_of_block hH) (by simp; omega)).trans hH
          clear hK K hHeld
          have hHeld := hNew
          clear hNew
          (try simp only [Act.put, List.setIfInBounds_toArray, List.set_cons_zero, List.set_cons_succ])
          refine wpAnyH_done (by kernel_rfl) ?_ _
          refine NoPanic.normal ?_
          have HEND := hid (prune_round (L := L) HGR.out hgg hgA hgS hl8 hbw hb8b hbase hbE hO hO8 hat HST.out HSG.out (hplr.rd (by rw [plc_len]; exact HZL2.out) (by omega)) hf1 hf2 (far_new hb4d hb8d hO0 (fun a ha => by cases ha; exact hgp)) (far_new hb4d hb8d hO0 hn1) (far_new hb4d hb8d hO0 hn2) HDK.out)
          clear hHeld hgA hgS hbE hbR hO8 hat hb8' hplr hgp hf1 hf2 hn1 hn2 hgg hO0 hO hb8
          go_wp2_with fail
          obtain ⟨hE1, hE2, hE3, hE4, hE5, hE6⟩ := HEND.out
          exact ⟨⟨k + 1, p', c2, _, by omega, by go_num, hid hE1, hE2, hE3, hid hE4, hid hE5, hE6⟩, by simp [intOf]; omega⟩
        refine AllReadyH.cons (o := Oper.mk _ _ _ _ _ _) rfl (fun K hK => ?_) AllReadyH.nil
        (try rw [if_pos (by kernel_rfl)])
        go_simp
        have hgS := World.grownBy_alloc wy2 (.cells #[.int .i64 kk, .string nm, .slice (some ⟨gp, 0, none⟩) na na, .bool gg, .slice q1 n1 d1, .slice q2 n2 d2] 64 (0, 0)) none
        have hbR := blk0 wy2 (.cells #[.int .i64 kk, .string nm, .slice (some ⟨gp, 0, none⟩) na na, .bool gg, .slice q1 n1 d1, .slice q2 n2 d2] 64 (0, 0))
        have hlegr := hgg.size
        replace hgg := grown_trans hgg hgS
        replace hb8 := keepB hb8 hgS
        replace hO := hO.keep hgS
        replace hplr := hplr.keep hgS
        replace hf1 := hf1.keep hgS
        replace hf2 := hf2.keep hgS
        refine hK.out _ _ ?_ (fun hNew => ?_)
        · have hH := hHeld
          (try dsimp only at hH)
          (try dsimp only)
          first | exact hH | exact keepB hH hgS | exact (hgS.block _ (lt_of_block hH) (by simp; omega)).trans hH
        clear hK K hHeld
        have hHeld := hNew
        clear hNew
        (try simp only [Act.put, List.setIfInBounds_toArray, List.set_cons_zero, List.set_cons_succ])
        generalize wy2.heap.size = gr at *
        generalize wy2.alloc _ = wy3 at *
        clear hgS
        refine wpAnyH_ready (rs := [1]) (by kernel_rfl) (by simp) ?_
        refine AllReadyH.cons (o := Oper.mk _ _ _ _ _ _) rfl (fun K hK => ?_) AllReadyH.nil
        (try rw [if_pos (by kernel_rfl)])
        obtain ⟨⟨z0, z1⟩, -⟩ := box2n hb8
        go_simp
        clear z0 z1
        refine hK.out _ _ ?_ (fun hNew => ?_)
        · have hH := hHeld
          (try dsimp only at hH)
          (try dsimp only)
          first | exact hH | exact keepB hH hgS | exact (hgS.block _ (lt_of_block hH) (by simp; omega)).trans hH
        clear hK K hHeld
        have hHeld := hNew
        clear hNew
        (try simp only [Act.put, List.setIfInBounds_toArray, List.set_cons_zero, List.set_cons_succ])
        refine wpAnyH_ready (rs := [15]) (by kernel_rfl) (by simp) ?_
        refine AllReadyH.cons (o := Oper.mk _ _ _ _ _ _) rfl (fun K hK => ?_) AllReadyH.nil
        have hszA := hgg.size
        refine step_sappend_at wy3 rfl (.tmp 55) (.tmp 68) 22 rfl 64 6 (.agg #[.int .i64 0, .string ⟨#[]⟩, .slice none 0 0, .bool false, .slice none 0 0, .slice none 0 0]) 104 Try.underlying22 infoStepP stepZP (by omega) base p k c rows rfl hO _ 1 [.int .i64 kk, .string nm, .slice (some ⟨gp, 0, none⟩) na na, .bool gg, .slice q1 n1 d1, .slice q2 n2 d2] rfl (one_srdB hbR rfl) (stepOneP _ _ _ _ _ _ _ _ _ _ _ _) (by omega) (by omega) (by omega) ?_
        intro p' c2 wy4 hO8 hgA hat
        have hb8' := (hgA.block b8 (lt_of_block hb8) (fun e => by have := HPB.out _ e.symm; omega)).trans hb8
        refine hK.out _ _ ?_ (fun hNew => ?_)
        · have hH := hHeld
          (try dsimp only at hH)
          (try dsimp only)
          exact (hgA.block b11 (lt_of_block hH) (fun e => by have := HPB.out _ e.symm; omega)).trans hH
        clear hK K hHeld
        have hHeld := hNew
        clear hNew
        (try simp only [Act.put, List.setIfInBounds_toArray, List.set_cons_zero, List.set_cons_succ])
        refine wpAnyH_ready (rs := [16]) (by kernel_rfl) (by simp) ?_
        refine AllReadyH.cons (o := Oper.mk _ _ _ _ _ _) rfl (fun K hK => ?_) AllReadyH.nil
        (try rw [if_pos (by kernel_rfl)])
        go_simp
        refine hK.out _ _ ?_ (fun hNew => ?_)
        · have hH := hHeld
          (try dsimp only at hH)
          (try dsimp only)
          first | exact hH | exact keepB hH hgS | exact (hgS.block _ (lt_of_block hH) (by simp; omega)).trans hH
        clear hK K hHeld
        have hHeld := hNew
        clear hNew
        (try simp only [Act.put, List.setIfInBounds_toArray, List.set_cons_zero, List.set_cons_succ])
        refine wpAnyH_ready (rs := [17]) (by kernel_rfl) (by simp) ?_
        refine AllReadyH.cons (o := Oper.mk _ _ _ _ _ _) rfl (fun K hK => ?_) AllReadyH.nil
        (try rw [if_pos (by kernel_rfl)])
        obtain ⟨⟨z0, z1⟩, zf⟩ := box2n hb8'
        have f0 := zf 0
        go_simp
        have hgS := grown_setCell wy4 ⟨b8, 0, none⟩ (.slice p' (k + 1) c2)
        have hbE := heap_setCell_same wy4 b8 0 _ _ (.slice p' (k + 1) c2) hb8'
        clear z0 z1 zf f0
        refine hK.out _ _ ?_ (fun hNew => ?_)
        · have hH := hHeld
          (try dsimp only at hH)
          (try dsimp only)
          first | exact hH | exact keepB hH hgS | exact (hgS.block _ (lt_of_block hH) (by simp; omega)).trans hH
        clear hK K hHeld
        have hHeld := hNew
        clear hNew
        (try simp only [Act.put, List.setIfInBounds_toArray, List.set_cons_zero, List.set_cons_succ])
        refine wpAnyH_done (by kernel_rfl) ?_ _
        refine NoPanic.normal ?_
        have HEND := hid (prune_round (L := L) HGR.out hgg hgA hgS hl8 hbw hb8b hbase hbE hO hO8 hat HST.out HSG.out (hplr.rd (by rw [plc_len]; exact HZL2.out) (by omega)) hf1 hf2 (far_new hb4d hb8d hO0 (fun a ha => by cases ha; exact hgp)) (far_new hb4d hb8d hO0 hn1) (far_new hb4d hb8d hO0 hn2) HDK.out)
        clear hHeld hgA hgS hbE hbR hO8 hat hb8' hplr hgp hf1 hf2 hn1 hn2 hgg hO0 hO hb8
        go_wp2_with fail
        obtain ⟨hE1, hE2, hE3, hE4, hE5, hE6⟩ := HEND.out
        exact ⟨⟨k + 1, p', c2, _, by omega, by go_num, hid hE1, hE2, hE3, hid hE4, hid hE5, hE6⟩, by simp [intOf]; omega⟩
      · obtain rfl : k = nk := by omega
        have hE := set2P_block (keepB HB4.out HGR.out) (.slice p k c) (.slice (some ⟨g, 0, none⟩) 1 1)
        have gE := set2_grown wr b4 (.slice p k c) (.slice (some ⟨g, 0, none⟩) 1 1)
        obtain ⟨⟨k0, k1⟩, -⟩ := box2n hb8
        obtain ⟨⟨z0, z1⟩, zf⟩ := box2n (keepB HB4.out HGR.out)
        have f0 := zf 0; have f1 := zf 1
        clear zf
        have hrd := hO.rd
        have hO2 := hO.kept gE (.inr fun q hq e => by have := (hO.lt q hq).1; simp at e; omega)
        have HST2 := hid fun j (hj : j < rows.length) => ((HST.out j hj).kept gE (fun g e => by cases e; exact .inl rfl)).out
        have HSG2 := hid ((HSG.out.kept gE (fun g e => by cases e; exact .inl rfl)).out)
        have HGE := hid (grown_new (grown_trans HW.out HGR.out) gE (fun g e => by cases e; have := HB4E.out; omega))
        have HCP := hid (And.intro hrd.cap hrd.max)
        have HO2 := hid hO2
        have HE := hid hE
        clear hrd hO2 hE gE hO HST HSG
        go_wp2_with fail
        generalize (wr.setCell _ _).setCell _ _ = wE at *
        obtain ⟨c0', c1'⟩ := (box2n HE.out).1
        exact bodyPost_ret (v := .tuple #[.agg #[.slice p k c, .slice (some ⟨g, 0, none⟩) 1 1], .int .i64 0]) (by simp [results, Try.results7, go_sem, c0', c1']) rfl ⟨p, c, some ⟨g, 0, none⟩, 1, by rw [hnk], by rw [hnk]; exact HCP.out, ⟨Nat.le_refl _, by omega⟩, by rw [hnk]; exact rows_mem HO2.out HST2.out, HSG2.out, HGE.out⟩
end Go.Proofs.Ytdmlcddieadelaa

set_option linter.unusedVariables false
set_option linter.unusedSimpArgs false
namespace Go.Proofs.Ytdmlcddieadelaa
open Go Go.RowKit Go.Maps _root_.Nm Lx
theorem far_old {w wd : World} {b4 b8 : Nat} {p : Option Addr} {base k c l : Nat} {T : TypeId} {rows : List (List Value)} {n d : Nat} {a : Option Addr} {xs : List Nat} (h : IRd w .u16 a n d xs) (h4 : w.heap.size ≤ b4) (h8 : w.heap.size ≤ b8) (hb : w.heap.size ≤ base) (hO : SOwn wd base T l p k c rows) : Far b4 b8 p n a := by
  intro x hx hn hs
  obtain ⟨b, o, e, hc⟩ := h.cel 0 (by have := h.len; omega)
  have hlt := World.block_lt_of_cell? w _ hc
  rw [e] at hx
  cases hx
  simp only at hlt hs
  rcases hs with h2 | h2 | h2
  · omega
  · omega
  · cases p with
    | none => simp at h2
    | some q =>
      have := (hO.lt q rfl).1
      simp at h2
      omega
theorem prune_goalR {wL : World} {b4 b8 g : Nat} {L : List Int} {e : GlD} {qa : Option Addr} {na ca : Nat} {q1 : Option Addr} {n1 d1 : Nat} {q2 : Option Addr} {n2 d2 : Nat} {p : Option Addr} {k c : Nat}
    (hB4L : wL.heap[b4]? = some (.cells #[.slice none 0 0, .slice none 0 0] 25 (0, 0))) (hb8 : wL.heap[b8]? = some (.cells #[.slice p k c, .slice none 0 0] 25 (0, 0)))
    (hbR : wL.heap[g]? = some (.cells #[.int .i64 e.k, .slice qa na ca, .bool e.g, .slice q1 n1 d1, .slice q2 n2 d2] 58 (0, 0))) (h4 : g ≠ b4) (h8 : g ≠ b8)
    (r1 : ZRd wL .i64 qa na ca (plc L e.zs)) (r2 : IRd wL .u16 q1 n1 d1 e.xs) (r3 : IRd wL .u16 q2 n2 d2 e.ys) : Stay wL (fun G => G = b4 ∨ G = b8) (fun W => GlM W (some ⟨g, 0, none⟩) 0 (mvG L e)) := by
  intro W hW
  have hW2 : W.heap[g]? = some (.cells #[.int .i64 e.k, .slice qa na ca, .bool e.g, .slice q1 n1 d1, .slice q2 n2 d2] 58 (0, 0)) := hW g _ hbR (fun h => by rcases h with h | h <;> omega)
  refine ⟨_, ⟨g, 0, rfl, fun j hj => ?_⟩, qa, na, ca, q1, n1, d1, q2, n2, d2, rfl, ?_, ?_, ?_⟩
  · rw [cell_of_row W g (0 + 0 * 5 + j) _ _ _ hW2]
    simp only [Nat.zero_add, Nat.zero_mul]
    simp only [List.getElem?_toArray]
    exact List.getElem?_eq_getElem _
  · exact Stay.zrd r1 (fun a ha hn h => by rcases h with h | h; exact r1.notIn hB4L (by simp) a ha hn h; exact r1.notIn hb8 (by simp) a ha hn h) W hW
  · exact Stay.ird r2 (fun a ha hn h => by rcases h with h | h; exact r2.notIn hB4L (by simp) a ha hn h; exact r2.notIn hb8 (by simp) a ha hn h) W hW
  · exact Stay.ird r3 (fun a ha hn h => by rcases h with h | h; exact r3.notIn hB4L (by simp) a ha hn h; exact r3.notIn hb8 (by simp) a ha hn h) W hW
set_option maxHeartbeats 64000000 in
set_option maxRecDepth 100000 in
theorem rPrune_n (pS : Option Addr) (nS cS : Nat) (pG : Option Addr) (nG cG : Nat) (w : World) (hcS : nS ≤ cS ∧ cS ≤ 9223372036854775807) (hcG : nG ≤ cG ∧ cG ≤ 9223372036854775807) (q : Nat) (hq : q < nG) (d : Nat → StD) (e : GlD) (L : List Int) (hL : L.Pairwise (· < ·)) (hLn : L.length ≤ 60) (hLr : ∀ z ∈ L, ∃ i : Nat, z = (i : Int) ∧ i < nS)
    (hS : ∀ i, i < nS → StM w pS i (d i)) (hz : ∀ i, i < nS → (d i).zs.length ≤ 1048576 ∧ (d i).xs.length ≤ 1048576 ∧ (d i).ys.length ≤ 1048576) (hsub : ∀ i : Nat, (i : Int) ∈ L → ∀ z ∈ (d i).zs, z ∈ L) (hG : GlM w pG q e) (he : e.zs.length ≤ 1048576 ∧ e.xs.length ≤ 1048576 ∧ e.ys.length ≤ 1048576) (hsubG : ∀ z ∈ e.zs, z ∈ L)
    (HN : ∀ W, w.grownBy W none → ∀ pa na ca, ZRd W .i64 pa na ca e.zs → Calls Try.prog 29 #[.agg #[.slice pS nS cS, .slice pG nG cG], .slice pa na ca] W fun e w' => ∃ p n c, e = .returned (.slice p n c) ∧ ZRd w' .i64 p n c L ∧ W.grownBy w' none) :
    Calls Try.prog 8 #[.agg #[.slice pS nS cS, .slice pG nG cG], .int .i64 q] w fun e' w' => ∃ p c g d', e' = .returned (.tuple #[.agg #[.slice p L.length c, .slice g 1 d'], .int .i64 0]) ∧ (L.length ≤ c ∧ c ≤ 9223372036854775807) ∧ (1 ≤ d' ∧ d' ≤ 9223372036854775807) ∧ (∀ j, j < L.length → StM w' p j (mvS L (d (L.getD j 0).toNat))) ∧ GlM w' g 0 (mvG L e) ∧ w.grownBy w' none := by
  obtain ⟨kk, zs, gg, xs, ys⟩ := e
  obtain ⟨cs, ⟨b, o, rfl, hc⟩, pa, na, ca, p1, n1, c1, p2, n2, c2, rfl, r1, r2, r3⟩ := hG
  dsimp only at *
  have a0 := hc 0 (by simp); have a1 := hc 1 (by simp); have a2 := hc 2 (by simp); have a3 := hc 3 (by simp); have a4 := hc 4 (by simp)
  simp only [List.getElem_cons_zero, List.getElem_cons_succ, Nat.add_zero] at a0 a1 a2 a3 a4
  clear hc
  have hln := r1.len; have hl1 := r2.len; have hl2 := r3.len
  obtain ⟨he1, he2, he3⟩ := he
  have gA := World.grownBy_alloc w (.cells #[.slice pS nS cS, .slice (some ⟨b, o, none⟩) nG cG] 25 (0, 0)) none
  have gB := World.grownBy_alloc (w.alloc (.cells #[.slice pS nS cS, .slice (some ⟨b, o, none⟩) nG cG] 25 (0, 0))) (.cells #[.slice none 0 0, .slice none 0 0] 25 (0, 0)) none
  have BX := hid (keepB (blk0 w (.cells #[.slice pS nS cS, .slice (some ⟨b, o, none⟩) nG cG] 25 (0, 0))) gB)
  have hsz : (w.alloc (.cells #[.slice pS nS cS, .slice (some ⟨b, o, none⟩) nG cG] 25 (0, 0))).heap.size = w.heap.size + 1 := by simp
  have B4 := blk0 (w.alloc (.cells #[.slice pS nS cS, .slice (some ⟨b, o, none⟩) nG cG] 25 (0, 0))) (.cells #[.slice none 0 0, .slice none 0 0] 25 (0, 0))
  rw [hsz] at B4
  have hsz2 : ((w.alloc (.cells #[.slice pS nS cS, .slice (some ⟨b, o, none⟩) nG cG] 25 (0, 0))).alloc (.cells #[.slice none 0 0, .slice none 0 0] 25 (0, 0))).heap.size = w.heap.size + 2 := by simp
  replace B4 := hid B4
  have hW := grown_trans gA gB
  clear gA gB hsz
  go_enter Try.func8, Try.ntmps8
  go_upto_region 1 with fail
  generalize ((w.alloc _).alloc _) = w0 at *
  obtain ⟨⟨k0, k1⟩, -⟩ := box2n BX.out
  replace a0 := hW.cell a0 (by simp); replace a1 := hW.cell a1 (by simp); replace a2 := hW.cell a2 (by simp); replace a3 := hW.cell a3 (by simp); replace a4 := hW.cell a4 (by simp)
  obtain ⟨⟨i0, i1, i2, i3, i4⟩, fa⟩ := box5 (blk0 w0 (.cells #[.int .i64 0, .slice none 0 0, .bool false, .slice none 0 0, .slice none 0 0] 58 (0, 0)))
  have f0 := fa 0; have f1 := fa 1; have f2 := fa 2; have f3 := fa 3; have f4 := fa 4
  clear fa
  go_upto_region 4 with fail
  clear i0 i1 i2 i3 i4 f0 f1 f2 f3 f4 a0 a1 a2 a3 a4
  have B6 := hid (blk0 w0 (.cells #[.int .i64 kk, .slice pa na ca, .bool gg, .slice p1 n1 c1, .slice p2 n2 c2] 58 (0, 0)))
  have gC := World.grownBy_alloc w0 (.cells #[.int .i64 kk, .slice pa na ca, .bool gg, .slice p1 n1 c1, .slice p2 n2 c2] 58 (0, 0)) none
  replace BX := hid (keepB BX.out gC); replace B4 := hid (keepB B4.out gC)
  have hs1 : (w0.alloc (.cells #[.int .i64 kk, .slice pa na ca, .bool gg, .slice p1 n1 c1, .slice p2 n2 c2] 58 (0, 0))).heap.size = w.heap.size + 3 := by simp [hsz2]
  replace hW := grown_trans hW gC
  clear gC
  replace B6 := B6.out
  rw [hsz2] at B6
  obtain ⟨b6, hb6⟩ : ∃ x, x = w.heap.size + 2 := ⟨_, rfl⟩
  rw [← hb6] at B6 ⊢
  replace B6 := hid B6
  have hb6w : w.heap.size + 1 < b6 := by omega
  clear hb6 hsz2
  generalize (w0.alloc _) = w1 at *
  obtain ⟨⟨k0, k1⟩, -⟩ := box2n BX.out
  obtain ⟨⟨m0, m1, m2, m3, m4⟩, -⟩ := box5 B6.out
  have HNH := hid (HN w1 hW pa na ca (r1.keep hW))
  go_upto_region 5 with (go_at_call 29; (with_reducible refine HNH.out.mono ?_); rintro e w2 ⟨pk, nk, ck, rfl, hk, hg⟩; replace hW := grown_trans hW hg; replace BX := hid (keepB BX.out hg); replace B4 := hid (keepB B4.out hg); replace B6 := hid (keepB B6.out hg); have hs2 := hg.size; have HK := hid hk; clear hg hk k0 k1 m0 m1 m2 m3 m4)
  have hnk := HK.out.len
  have hck := HK.out.cap
  have hmk := HK.out.max
  have HZL := hid hln
  have hb4lt : w.heap.size + 1 < w2.heap.size := lt_of_block B4.out
  have hb6lt : b6 < w2.heap.size := lt_of_block B6.out
  have HC1 := hid fun W (hg : w2.grownBy W none) => placed_n pk nk ck L pa na ca zs W (HK.out.keep hg) hL (r1.keep (grown_trans hW hg)) (by omega) hsubG
  have HB4 := B4
  obtain ⟨b4, hb4⟩ : ∃ x, x = w.heap.size + 1 := ⟨_, rfl⟩
  rw [← hb4] at hb4lt HB4 hb6w ⊢
  have HB4E := hid hb4
  clear hb4 B4 hs1 hs2 HNH
  have HB80 := hid (blk0 w2 (.cells #[.slice none 0 0, .slice none 0 0] 25 (0, 0)))
  have HG0 := hid (World.grownBy_alloc w2 (.cells #[.slice none 0 0, .slice none 0 0] 25 (0, 0)) none)
  have hl8 : w2.heap.size ≤ w2.heap.size := Nat.le_refl _
  have HW := hid hW
  have hszW : (w2.alloc (.cells #[.slice none 0 0, .slice none 0 0] 25 (0, 0))).heap.size = w2.heap.size + 1 := by simp
  go_upto_region 6 with fail
  obtain ⟨b8, hb8e⟩ : ∃ x, x = w2.heap.size := ⟨_, rfl⟩
  have hl8 : w2.heap.size ≤ b8 := by omega
  have hbw : w2.heap.size ≤ b8 + 1 := by omega
  have hb8b : b8 < b8 + 1 := by omega
  have hb4base : b4 < b8 + 1 := by omega
  have hb6b8 : b6 ≠ b8 := by omega
  rw [← hb8e] at HB80 hszW ⊢
  clear hb8e
  obtain ⟨base, hbs⟩ : ∃ x, x = b8 + 1 := ⟨_, rfl⟩
  rw [← hbs] at hbw hb8b hb4base hszW
  have HBS := hid hbs
  clear hbs
  generalize (w2.alloc _) = w3 at *
  go_wp2_with fail
  go_loopw [33] (fun y wr => ∃ (k : Nat) (p : Option Addr) (c : Nat) (rows : List (List Value)), k ≤ nk ∧ y = .int .i64 k ∧ Hid (w2.grownBy wr none) ∧ wr.heap[b8]? = some (.cells #[.slice p k c, .slice none 0 0] 25 (0, 0)) ∧ SOwn wr base 64 6 p k c rows ∧ Hid (∀ j (hj : j < rows.length), Stay wr (Sp b4 b8 p) (fun W => StC W rows[j] (mvS L (d (L.getD j 0).toNat)))) ∧ base ≤ wr.heap.size) (fun y _ => nk - (intOf y).toNat)
  case atStart => exact ⟨0, none, 0, [], Nat.zero_le _, rfl, HG0, HB80.out, SOwn.nil _ _ _ _, hid (fun j hj => absurd hj (Nat.not_lt_zero j)), by omega⟩
  case round =>
    obtain ⟨k, p, c, rows, hk, rfl, HGR, hb8, hO, HST, hbase0⟩ := hrel
    clear hszW
    by_cases hlt : k < nk
    · obtain ⟨i, hLi, hi⟩ := hLr L[k] (List.getElem_mem (by omega))
      obtain ⟨b1, o1, rfl, e1⟩ := (HK.out.keep HGR.out).cel k (by omega)
      rw [hLi] at e1
      have hmem : (i : Int) ∈ L := by rw [← hLi]; exact List.getElem_mem _
      have hsubi := hsub i hmem
      obtain ⟨hz1, hz2, hz3⟩ := hz i hi
      obtain ⟨dk, hdk⟩ : ∃ x, x = d i := ⟨_, rfl⟩
      have hSi := hS i hi
      rw [← hdk] at hSi hsubi hz1 hz2 hz3
      obtain ⟨kk, nm, zs, gg, xs, ys⟩ := dk
      obtain ⟨cs, ⟨bs, os, hpS, hc⟩, pa, na, ca, p1, n1, c1, p2, n2, c2, rfl, s1, s2, s3⟩ := hSi
      dsimp only at *
      subst hpS
      have hgw := grown_trans HW.out HGR.out
      have a0 := hgw.cell (hc 0 (by simp)) (by simp); have a1 := hgw.cell (hc 1 (by simp)) (by simp); have a2 := hgw.cell (hc 2 (by simp)) (by simp); have a3 := hgw.cell (hc 3 (by simp)) (by simp); have a4 := hgw.cell (hc 4 (by simp)) (by simp); have a5 := hgw.cell (hc 5 (by simp)) (by simp)
      simp only [List.getElem_cons_zero, List.getElem_cons_succ, Nat.add_zero] at a0 a1 a2 a3 a4 a5
      have hln2 := s1.len
      have HDK : Hid (mvS L (d (L.getD k 0).toNat) = ⟨kk, nm, plc L zs, gg, xs, ys⟩) := hid (by
        have : L.getD k 0 = (i : Int) := by rw [← hLi]; simp [List.getD, List.getElem?_eq_getElem (show k < L.length by omega)]
        rw [this, Int.toNat_natCast, ← hdk]
        rfl)
      have HCA := hid fun W (hg : w2.grownBy W none) => placed_n (some ⟨b1, o1, none⟩) nk ck L pa na ca zs W (HK.out.keep hg) hL (s1.keep (grown_trans HW.out hg)) (by omega) hsubi
      have HR1 := hid s2; have HR2 := hid s3
      have HSW : Hid (w.heap.size ≤ b4 ∧ w.heap.size ≤ b8 ∧ w.heap.size ≤ base) := hid (by have := HB4E.out; have := HW.out.size; omega)
      obtain ⟨⟨k0, k1⟩, -⟩ := box2n (keepB BX.out HGR.out)
      obtain ⟨⟨i0, i1, i2, i3, i4, i5⟩, fa⟩ := box6 (blk0 wr (.cells #[.int .i64 0, .string ⟨#[]⟩, .slice none 0 0, .bool false, .slice none 0 0, .slice none 0 0] 64 (0, 0)))
      have f0 := fa 0; have f1 := fa 1; have f2 := fa 2; have f3 := fa 3; have f4 := fa 4; have f5 := fa 5
      clear fa hc s1 s2 s3 hdk hLi hmem hgw HC1
      have HPB : Hid (∀ x, p.map (·.block) = some x → base ≤ x ∧ x < wr.heap.size) := hid fun x hx => by
        cases p with
        | none => simp at hx
        | some q => have := hO.lt q rfl; simp at hx; omega
      go_upto_region 10 with fail
      clear i0 i1 i2 i3 i4 i5 f0 f1 f2 f3 f4 f5 a0 a1 a2 a3 a4 a5 e1 k0 k1
      have B11 := blk0 wr (.cells #[.int .i64 kk, .string nm, .slice pa na ca, .bool gg, .slice p1 n1 c1, .slice p2 n2 c2] 64 (0, 0))
      have gC := World.grownBy_alloc wr (.cells #[.int .i64 kk, .string nm, .slice pa na ca, .bool gg, .slice p1 n1 c1, .slice p2 n2 c2] 64 (0, 0)) none
      replace hb8 := keepB hb8 gC
      replace hO := hO.keep gC
      replace HST := hid (fun j hj => (HST.out j hj).keep gC)
      replace HGR := hid (grown_trans HGR.out gC)
      have hbb := hbase0
      replace hbase0 := Nat.le_trans hbase0 gC.size
      clear gC
      generalize wr.heap.size = b11 at *
      generalize wr.alloc _ = w5 at *
      have hb4d : b4 < w5.heap.size := by omega
      have hb8d : b8 < w5.heap.size := by omega
      refine wp_region_noPanic ?_
      refine wp_region_held_drew (S := (fun W => W.heap[b11]? = some (.cells #[.int .i64 kk, .string nm, .slice pa na ca, .bool gg, .slice p1 n1 c1, .slice p2 n2 c2] 64 (0, 0)))) (by kernel_rfl) ?_ (fun hHeld => ?_)
      · (try dsimp only)
        exact keepB B11 (grown_drew _ none)
      have hgg := grown_drew w5 none
      replace hb8 := keepB hb8 hgg
      replace hO := hO.keep hgg
      replace HST := hid (fun j hj => (HST.out j hj).keep hgg)
      replace HGR := hid (grown_trans HGR.out hgg)
      have hbase := Nat.le_trans hbase0 hgg.size
      replace hb4d := Nat.lt_of_lt_of_le hb4d hgg.size
      replace hb8d := Nat.lt_of_lt_of_le hb8d hgg.size
      clear hgg
      generalize w5.drew = wd at *
      have hgg := grown_refl wd none
      have hO0 := hO
      have hr1 := HR1.out.keep (grown_trans HW.out HGR.out)
      have hr2 := HR2.out.keep (grown_trans HW.out HGR.out)
      refine wpAnyH_take (i := 0) (oi := Oper.mk _ _ _ _ _ _) (v := ?_) rfl (by kernel_rfl) (by kernel_rfl) (by kernel_rfl) (fun _ _ _ h => h) (Or.inl ⟨by kernel_rfl, ?_⟩) hHeld ?_
      rotate_left 1
      · intro W hSw
        (try dsimp only at hSw)
        obtain ⟨⟨h0, h1, h2, h3, h4, h5⟩, -⟩ := box6 hSw
        go_simp
        (try (with_reducible rfl))
      (try simp only [Act.put, List.setIfInBounds_toArray, List.set_cons_zero, List.set_cons_succ])
      refine wpAnyH_take (i := 2) (oi := Oper.mk _ _ _ _ _ _) (v := ?_) rfl (by kernel_rfl) (by kernel_rfl) (by kernel_rfl) (fun _ _ _ h => h) (Or.inl ⟨by kernel_rfl, ?_⟩) hHeld ?_
      rotate_left 1
      · intro W hSw
        (try dsimp only at hSw)
        obtain ⟨⟨h0, h1, h2, h3, h4, h5⟩, -⟩ := box6 hSw
        go_simp
        (try (with_reducible rfl))
      (try simp only [Act.put, List.setIfInBounds_toArray, List.set_cons_zero, List.set_cons_succ])
      refine wpAnyH_take (i := 3) (oi := Oper.mk _ _ _ _ _ _) (v := ?_) rfl (by kernel_rfl) (by kernel_rfl) (by kernel_rfl) (fun _ _ _ h => h) (Or.inl ⟨by kernel_rfl, ?_⟩) hHeld ?_
      rotate_left 1
      · intro W hSw
        (try dsimp only at hSw)
        obtain ⟨⟨h0, h1, h2, h3, h4, h5⟩, -⟩ := box6 hSw
        go_simp
        (try (with_reducible rfl))
      (try simp only [Act.put, List.setIfInBounds_toArray, List.set_cons_zero, List.set_cons_succ])
      refine wpAnyH_take (i := 4) (oi := Oper.mk _ _ _ _ _ _) (v := ?_) rfl (by kernel_rfl) (by kernel_rfl) (by kernel_rfl) (fun _ _ _ h => h) (Or.inl ⟨by kernel_rfl, ?_⟩) hHeld ?_
      rotate_left 1
      · intro W hSw
        (try dsimp only at hSw)
        obtain ⟨⟨h0, h1, h2, h3, h4, h5⟩, -⟩ := box6 hSw
        go_simp
        (try (with_reducible rfl))
      (try simp only [Act.put, List.setIfInBounds_toArray, List.set_cons_zero, List.set_cons_succ])
      refine wpAnyH_take (i := 5) (oi := Oper.mk _ _ _ _ _ _) (v := ?_) rfl (by kernel_rfl) (by kernel_rfl) (by kernel_rfl) (fun _ _ _ h => h) (Or.inl ⟨by kernel_rfl, ?_⟩) hHeld ?_
      rotate_left 1
      · intro W hSw
        (try dsimp only at hSw)
        obtain ⟨⟨h0, h1, h2, h3, h4, h5⟩, -⟩ := box6 hSw
        go_simp
        (try (with_reducible rfl))
      (try simp only [Act.put, List.setIfInBounds_toArray, List.set_cons_zero, List.set_cons_succ])
      refine wpAnyH_take (i := 6) (oi := Oper.mk _ _ _ _ _ _) (v := ?_) rfl (by kernel_rfl) (by kernel_rfl) (by kernel_rfl) (fun _ _ _ h => h) (Or.inl ⟨by kernel_rfl, ?_⟩) hHeld ?_
      rotate_left 1
      · intro W hSw
        (try dsimp only at hSw)
        obtain ⟨⟨h0, h1, h2, h3, h4, h5⟩, -⟩ := box6 hSw
        go_simp
        (try (with_reducible rfl))
      (try simp only [Act.put, List.setIfInBounds_toArray, List.set_cons_zero, List.set_cons_succ])
      refine wpAnyH_take (i := 7) (oi := Oper.mk _ _ _ _ _ _) (v := ?_) rfl (by kernel_rfl) (by kernel_rfl) (by kernel_rfl) (fun _ _ _ h => h) (Or.inl ⟨by kernel_rfl, ?_⟩) hHeld ?_
      rotate_left 1
      · intro W hSw
        (try dsimp only at hSw)
        obtain ⟨⟨h0, h1, h2, h3, h4, h5⟩, -⟩ := box6 hSw
        go_simp
        (try (with_reducible rfl))
      (try simp only [Act.put, List.setIfInBounds_toArray, List.set_cons_zero, List.set_cons_succ])
      refine wpAnyH_take (i := 8) (oi := Oper.mk _ _ _ _ _ _) (v := ?_) rfl (by kernel_rfl) (by kernel_rfl) (by kernel_rfl) (fun _ _ _ h => h) (Or.inl ⟨by kernel_rfl, ?_⟩) hHeld ?_
      rotate_left 1
      · intro W hSw
        (try dsimp only at hSw)
        obtain ⟨⟨h0, h1, h2, h3, h4, h5⟩, -⟩ := box6 hSw
        go_simp
        (try (with_reducible rfl))
      (try simp only [Act.put, List.setIfInBounds_toArray, List.set_cons_zero, List.set_cons_succ])
      refine wpAnyH_take (i := 10) (oi := Oper.mk _ _ _ _ _ _) (v := ?_) rfl (by kernel_rfl) (by kernel_rfl) (by kernel_rfl) (fun _ _ _ h => h) (Or.inl ⟨by kernel_rfl, ?_⟩) hHeld ?_
      rotate_left 1
      · intro W hSw
        (try dsimp only at hSw)
        obtain ⟨⟨h0, h1, h2, h3, h4, h5⟩, -⟩ := box6 hSw
        go_simp
        (try (with_reducible rfl))
      (try simp only [Act.put, List.setIfInBounds_toArray, List.set_cons_zero, List.set_cons_succ])
      refine wpAnyH_take (i := 11) (oi := Oper.mk _ _ _ _ _ _) (v := ?_) rfl (by kernel_rfl) (by kernel_rfl) (by kernel_rfl) (fun _ _ _ h => h) (Or.inl ⟨by kernel_rfl, ?_⟩) hHeld ?_
      rotate_left 1
      · intro W hSw
        (try dsimp only at hSw)
        obtain ⟨⟨h0, h1, h2, h3, h4, h5⟩, -⟩ := box6 hSw
        go_simp
        (try (with_reducible rfl))
      (try simp only [Act.put, List.setIfInBounds_toArray, List.set_cons_zero, List.set_cons_succ])
      refine wpAnyH_ready (rs := [1, 9]) (by kernel_rfl) (by simp) ?_
      refine AllReadyH.cons (o := Oper.mk _ _ _ _ _ _) rfl (fun K hK => ?_) ?_
      · (try rw [if_pos (by kernel_rfl)])
        obtain ⟨⟨z0, z1⟩, -⟩ := box2n hb8
        go_simp
        clear z0 z1
        refine hK.out _ _ ?_ (fun hNew => ?_)
        · have hH := hHeld
          (try dsimp only at hH)
          (try dsimp only)
          first | exact hH | exact keepB hH hgS | exact (hgS.block _ (lt_of_block hH) (by simp; omega)).trans hH
        clear hK K hHeld
        have hHeld := hNew
        clear hNew
        (try simp only [Act.put, List.setIfInBounds_toArray, List.set_cons_zero, List.set_cons_succ])
        refine wpAnyH_ready (rs := [9]) (by kernel_rfl) (by simp) ?_
        refine AllReadyH.cons (o := Oper.mk _ _ _ _ _ _) rfl (fun K hK => ?_) AllReadyH.nil
        (try rw [if_pos (by kernel_rfl)])
        go_simp
        go_at_call 30
        refine (HCA.out _ (grown_trans HGR.out hgg)).mono ?_
        rintro e wy1 ⟨qp, qc, rfl, hso, hgS⟩
        have hpn := fun a (ha : qp = some a) => Nat.le_trans hgg.size (hso.lt a ha).1
        have hpl := ZRd.ofOwn hso
        clear hso
        replace hgg := grown_trans hgg hgS
        replace hb8 := keepB hb8 hgS
        replace hO := hO.keep hgS
        replace hr1 := hr1.keep hgS
        replace hr2 := hr2.keep hgS
        refine hK.out _ _ ?_ (fun hNew => ?_)
        · have hH := hHeld
          (try dsimp only at hH)
          (try dsimp only)
          first | exact hH | exact keepB hH hgS | exact (hgS.block _ (lt_of_block hH) (by simp; omega)).trans hH
        clear hK K hHeld
        have hHeld := hNew
        clear hNew
        (try simp only [Act.put, List.setIfInBounds_toArray, List.set_cons_zero, List.set_cons_succ])
        clear hgS
        refine wpAnyH_ready (rs := [12]) (by kernel_rfl) (by simp) ?_
        refine AllReadyH.cons (o := Oper.mk _ _ _ _ _ _) rfl (fun K hK => ?_) AllReadyH.nil
        (try rw [if_pos (by kernel_rfl)])
        go_simp
        refine hK.out _ _ ?_ (fun hNew => ?_)
        · have hH := hHeld
          (try dsimp only at hH)
          (try dsimp only)
          first | exact hH | exact keepB hH hgS | exact (hgS.block _ (lt_of_block hH) (by simp; omega)).trans hH
        clear hK K hHeld
        have hHeld := hNew
        clear hNew
        (try simp only [Act.put, List.setIfInBounds_toArray, List.set_cons_zero, List.set_cons_succ])
        refine wpAnyH_ready (rs := [13]) (by kernel_rfl) (by simp) ?_
        refine AllReadyH.cons (o := Oper.mk _ _ _ _ _ _) rfl (fun K hK => ?_) AllReadyH.nil
        (try rw [if_pos (by kernel_rfl)])
        go_simp
        have hgS := World.grownBy_alloc wy1 (.cells #[.int .i64 kk, .string nm, .slice qp na qc, .bool gg, .slice p1 n1 c1, .slice p2 n2 c2] 64 (0, 0)) none
        have hbR := blk0 wy1 (.cells #[.int .i64 kk, .string nm, .slice qp na qc, .bool gg, .slice p1 n1 c1, .slice p2 n2 c2] 64 (0, 0))
        have hlegr := hgg.size
        replace hgg := grown_trans hgg hgS
        replace hb8 := keepB hb8 hgS
        replace hO := hO.keep hgS
        replace hr1 := hr1.keep hgS
        replace hr2 := hr2.keep hgS
        replace hpl := hpl.keep hgS
        refine hK.out _ _ ?_ (fun hNew => ?_)
        · have hH := hHeld
          (try dsimp only at hH)
          (try dsimp only)
          first | exact hH | exact keepB hH hgS | exact (hgS.block _ (lt_of_block hH) (by simp; omega)).trans hH
        clear hK K hHeld
        have hHeld := hNew
        clear hNew
        (try simp only [Act.put, List.setIfInBounds_toArray, List.set_cons_zero, List.set_cons_succ])
        generalize wy1.heap.size = gr at *
        generalize wy1.alloc _ = wy2 at *
        clear hgS
        refine wpAnyH_ready (rs := [14]) (by kernel_rfl) (by simp) ?_
        refine AllReadyH.cons (o := Oper.mk _ _ _ _ _ _) rfl (fun K hK => ?_) AllReadyH.nil
        have hszA := hgg.size
        refine step_sappend_at wy2 rfl (.tmp 43) (.tmp 55) 22 rfl 64 6 (.agg #[.int .i64 0, .string ⟨#[]⟩, .slice none 0 0, .bool false, .slice none 0 0, .slice none 0 0]) 104 Try.underlying22 infoStepP stepZP (by omega) base p k c rows rfl hO _ 1 [.int .i64 kk, .string nm, .slice qp na qc, .bool gg, .slice p1 n1 c1, .slice p2 n2 c2] rfl (one_srdB hbR rfl) (stepOneP _ _ _ _ _ _ _ _ _ _ _ _) (by omega) (by omega) (by omega) ?_
        intro p' c2' wy3 hO8 hgA hat
        have hb8' := (hgA.block b8 (lt_of_block hb8) (fun e => by have := HPB.out _ e.symm; omega)).trans hb8
        refine hK.out _ _ ?_ (fun hNew => ?_)
        · have hH := hHeld
          (try dsimp only at hH)
          (try dsimp only)
          exact (hgA.block b11 (lt_of_block hH) (fun e => by have := HPB.out _ e.symm; omega)).trans hH
        clear hK K hHeld
        have hHeld := hNew
        clear hNew
        (try simp only [Act.put, List.setIfInBounds_toArray, List.set_cons_zero, List.set_cons_succ])
        refine wpAnyH_ready (rs := [15]) (by kernel_rfl) (by simp) ?_
        refine AllReadyH.cons (o := Oper.mk _ _ _ _ _ _) rfl (fun K hK => ?_) AllReadyH.nil
        (try rw [if_pos (by kernel_rfl)])
        go_simp
        refine hK.out _ _ ?_ (fun hNew => ?_)
        · have hH := hHeld
          (try dsimp only at hH)
          (try dsimp only)
          first | exact hH | exact keepB hH hgS | exact (hgS.block _ (lt_of_block hH) (by simp; omega)).trans hH
        clear hK K hHeld
        have hHeld := hNew
        clear hNew
        (try simp only [Act.put, List.setIfInBounds_toArray, List.set_cons_zero, List.set_cons_succ])
        refine wpAnyH_ready (rs := [16]) (by kernel_rfl) (by simp) ?_
        refine AllReadyH.cons (o := Oper.mk _ _ _ _ _ _) rfl (fun K hK => ?_) AllReadyH.nil
        (try rw [if_pos (by kernel_rfl)])
        obtain ⟨⟨z0, z1⟩, zf⟩ := box2n hb8'
        have f0 := zf 0
        go_simp
        have hgS := grown_setCell wy3 ⟨b8, 0, none⟩ (.slice p' (k + 1) c2')
        have hbE := heap_setCell_same wy3 b8 0 _ _ (.slice p' (k + 1) c2') hb8'
        clear z0 z1 zf f0
        refine hK.out _ _ ?_ (fun hNew => ?_)
        · have hH := hHeld
          (try dsimp only at hH)
          (try dsimp only)
          first | exact hH | exact keepB hH hgS | exact (hgS.block _ (lt_of_block hH) (by simp; omega)).trans hH
        clear hK K hHeld
        have hHeld := hNew
        clear hNew
        (try simp only [Act.put, List.setIfInBounds_toArray, List.set_cons_zero, List.set_cons_succ])
        refine wpAnyH_done (by kernel_rfl) ?_ _
        refine NoPanic.normal ?_
        have HEND := hid (prune_round (L := L) (Ψ := fun _ => True) HGR.out hgg hgA hgS hl8 hbw hb8b hbase hbE hO hO8 hat HST.out (fun _ _ => trivial) hpl hr1 hr2 (far_new hb4d hb8d hO0 hpn) (far_old HR1.out HSW.out.1 HSW.out.2.1 HSW.out.2.2 hO0) (far_old HR2.out HSW.out.1 HSW.out.2.1 HSW.out.2.2 hO0) HDK.out)
        clear hHeld hgA hgS hbE hbR hO8 hat hb8' hpl hpn hr1 hr2 hgg hO0 hO hb8
        go_wp2_with fail
        obtain ⟨hE1, hE2, hE3, hE4, hE5, hE6⟩ := HEND.out
        exact ⟨⟨k + 1, p', c2', _, by omega, by go_num, hid hE1, hE2, hE3, hid hE4, hE6⟩, by simp [intOf]; omega⟩
      refine AllReadyH.cons (o := Oper.mk _ _ _ _ _ _) rfl (fun K hK => ?_) AllReadyH.nil
      (try rw [if_pos (by kernel_rfl)])
      go_simp
      go_at_call 30
      refine (HCA.out _ (grown_trans HGR.out hgg)).mono ?_
      rintro e wy1 ⟨qp, qc, rfl, hso, hgS⟩
      have hpn := fun a (ha : qp = some a) => Nat.le_trans hgg.size (hso.lt a ha).1
      have hpl := ZRd.ofOwn hso
      clear hso
      replace hgg := grown_trans hgg hgS
      replace hb8 := keepB hb8 hgS
      replace hO := hO.keep hgS
      replace hr1 := hr1.keep hgS
      replace hr2 := hr2.keep hgS
      refine hK.out _ _ ?_ (fun hNew => ?_)
      · have hH := hHeld
        (try dsimp only at hH)
        (try dsimp only)
        first | exact hH | exact keepB hH hgS | exact (hgS.block _ (lt_of_block hH) (by simp; omega)).trans hH
      clear hK K hHeld
      have hHeld := hNew
      clear hNew
      (try simp only [Act.put, List.setIfInBounds_toArray, List.set_cons_zero, List.set_cons_succ])
      clear hgS
      refine wpAnyH_ready (rs := [1, 12]) (by kernel_rfl) (by simp) ?_
      refine AllReadyH.cons (o := Oper.mk _ _ _ _ _ _) rfl (fun K hK => ?_) ?_
      · (try rw [if_pos (by kernel_rfl)])
        obtain ⟨⟨z0, z1⟩, -⟩ := box2n hb8
        go_simp
        clear z0 z1
        refine hK.out _ _ ?_ (fun hNew => ?_)
        · have hH := hHeld
          (try dsimp only at hH)
          (try dsimp only)
          first | exact hH | exact keepB hH hgS | exact (hgS.block _ (lt_of_block hH) (by simp; omega)).trans hH
        clear hK K hHeld
        have hHeld := hNew
        clear hNew
        (try simp only [Act.put, List.setIfInBounds_toArray, List.set_cons_zero, List.set_cons_succ])
        refine wpAnyH_ready (rs := [12]) (by kernel_rfl) (by simp) ?_
        refine AllReadyH.cons (o := Oper.mk _ _ _ _ _ _) rfl (fun K hK => ?_) AllReadyH.nil
        (try rw [if_pos (by kernel_rfl)])
        go_simp
        refine hK.out _ _ ?_ (fun hNew => ?_)
        · have hH := hHeld
          (try dsimp only at hH)
          (try dsimp only)
          first | exact hH | exact keepB hH hgS | exact (hgS.block _ (lt_of_block hH) (by simp; omega)).trans hH
        clear hK K hHeld
        have hHeld := hNew
        clear hNew
        (try simp only [Act.put, List.setIfInBounds_toArray, List.set_cons_zero, List.set_cons_succ])
        refine wpAnyH_ready (rs := [13]) (by kernel_rfl) (by simp) ?_
        refine AllReadyH.cons (o := Oper.mk _ _ _ _ _ _) rfl (fun K hK => ?_) AllReadyH.nil
        (try rw [if_pos (by kernel_rfl)])
        go_simp
        have hgS := World.grownBy_alloc wy1 (.cells #[.int .i64 kk, .string nm, .slice qp na qc, .bool gg, .slice p1 n1 c1, .slice p2 n2 c2] 64 (0, 0)) none
        have hbR := blk0 wy1 (.cells #[.int .i64 kk, .string nm, .slice qp na qc, .bool gg, .slice p1 n1 c1, .slice p2 n2 c2] 64 (0, 0))
        have hlegr := hgg.size
        replace hgg := grown_trans hgg hgS
        replace hb8 := keepB hb8 hgS
        replace hO := hO.keep hgS
        replace hr1 := hr1.keep hgS
        replace hr2 := hr2.keep hgS
        replace hpl := hpl.keep hgS
        refine hK.out _ _ ?_ (fun hNew => ?_)
        · have hH := hHeld
          (try dsimp only at hH)
          (try dsimp only)
          first | exact hH | exact keepB hH hgS | exact (hgS.block _ (lt_of_block hH) (by simp; omega)).trans hH
        clear hK K hHeld
        have hHeld := hNew
        clear hNew
        (try simp only [Act.put, List.setIfInBounds_toArray, List.set_cons_zero, List.set_cons_succ])
        generalize wy1.heap.size = gr at *
        generalize wy1.alloc _ = wy2 at *
        clear hgS
        refine wpAnyH_ready (rs := [14]) (by kernel_rfl) (by simp) ?_
        refine AllReadyH.cons (o := Oper.mk _ _ _ _ _ _) rfl (fun K hK => ?_) AllReadyH.nil
        have hszA := hgg.size
        refine step_sappend_at wy2 rfl (.tmp 43) (.tmp 55) 22 rfl 64 6 (.agg #[.int .i64 0, .string ⟨#[]⟩, .slice none 0 0, .bool false, .slice none 0 0, .slice none 0 0]) 104 Try.underlying22 infoStepP stepZP (by omega) base p k c rows rfl hO _ 1 [.int .i64 kk, .string nm, .slice qp na qc, .bool gg, .slice p1 n1 c1, .slice p2 n2 c2] rfl (one_srdB hbR rfl) (stepOneP _ _ _ _ _ _ _ _ _ _ _ _) (by omega) (by omega) (by omega) ?_
        intro p' c2' wy3 hO8 hgA hat
        have hb8' := (hgA.block b8 (lt_of_block hb8) (fun e => by have := HPB.out _ e.symm; omega)).trans hb8
        refine hK.out _ _ ?_ (fun hNew => ?_)
        · have hH := hHeld
          (try dsimp only at hH)
          (try dsimp only)
          exact (hgA.block b11 (lt_of_block hH) (fun e => by have := HPB.out _ e.symm; omega)).trans hH
        clear hK K hHeld
        have hHeld := hNew
        clear hNew
        (try simp only [Act.put, List.setIfInBounds_toArray, List.set_cons_zero, List.set_cons_succ])
        refine wpAnyH_ready (rs := [15]) (by kernel_rfl) (by simp) ?_
        refine AllReadyH.cons (o := Oper.mk _ _ _ _ _ _) rfl (fun K hK => ?_) AllReadyH.nil
        (try rw [if_pos (by kernel_rfl)])
        go_simp
        refine hK.out _ _ ?_ (fun hNew => ?_)
        · have hH := hHeld
          (try dsimp only at hH)
          (try dsimp only)
          first | exact hH | exact keepB hH hgS | exact (hgS.block _ (lt_of_block hH) (by simp; omega)).trans hH
        clear hK K hHeld
        have hHeld := hNew
        clear hNew
        (try simp only [Act.put, List.setIfInBounds_toArray, List.set_cons_zero, List.set_cons_succ])
        refine wpAnyH_ready (rs := [16]) (by kernel_rfl) (by simp) ?_
        refine AllReadyH.cons (o := Oper.mk _ _ _ _ _ _) rfl (fun K hK => ?_) AllReadyH.nil
        (try rw [if_pos (by kernel_rfl)])
        obtain ⟨⟨z0, z1⟩, zf⟩ := box2n hb8'
        have f0 := zf 0
        go_simp
        have hgS := grown_setCell wy3 ⟨b8, 0, none⟩ (.slice p' (k + 1) c2')
        have hbE := heap_setCell_same wy3 b8 0 _ _ (.slice p' (k + 1) c2') hb8'
        clear z0 z1 zf f0
        refine hK.out _ _ ?_ (fun hNew => ?_)
        · have hH := hHeld
          (try dsimp only at hH)
          (try dsimp only)
          first | exact hH | exact keepB hH hgS | exact (hgS.block _ (lt_of_block hH) (by simp; omega)).trans hH
        clear hK K hHeld
        have hHeld := hNew
        clear hNew
        (try simp only [Act.put, List.setIfInBounds_toArray, List.set_cons_zero, List.set_cons_succ])
        refine wpAnyH_done (by kernel_rfl) ?_ _
        refine NoPanic.normal ?_
        have HEND := hid (prune_round (L := L) (Ψ := fun _ => True) HGR.out hgg hgA hgS hl8 hbw hb8b hbase hbE hO hO8 hat HST.out (fun _ _ => trivial) hpl hr1 hr2 (far_new hb4d hb8d hO0 hpn) (far_old HR1.out HSW.out.1 HSW.out.2.1 HSW.out.2.2 hO0) (far_old HR2.out HSW.out.1 HSW.out.2.1 HSW.out.2.2 hO0) HDK.out)
        clear hHeld hgA hgS hbE hbR hO8 hat hb8' hpl hpn hr1 hr2 hgg hO0 hO hb8
        go_wp2_with fail
        obtain ⟨hE1, hE2, hE3, hE4, hE5, hE6⟩ := HEND.out
        exact ⟨⟨k + 1, p', c2', _, by omega, by go_num, hid hE1, hE2, hE3, hid hE4, hE6⟩, by simp [intOf]; omega⟩
      refine AllReadyH.cons (o := Oper.mk _ _ _ _ _ _) rfl (fun K hK => ?_) AllReadyH.nil
      (try rw [if_pos (by kernel_rfl)])
      go_simp
      refine hK.out _ _ ?_ (fun hNew => ?_)
      · have hH := hHeld
        (try dsimp only at hH)
        (try dsimp only)
        first | exact hH | exact keepB hH hgS | exact (hgS.block _ (lt_of_block hH) (by simp; omega)).trans hH
      clear hK K hHeld
      have hHeld := hNew
      clear hNew
      (try simp only [Act.put, List.setIfInBounds_toArray, List.set_cons_zero, List.set_cons_succ])
      refine wpAnyH_ready (rs := [1, 13]) (by kernel_rfl) (by simp) ?_
      refine AllReadyH.cons (o := Oper.mk _ _ _ _ _ _) rfl (fun K hK => ?_) ?_
      · (try rw [if_pos (by kernel_rfl)])
        obtain ⟨⟨z0, z1⟩, -⟩ := box2n hb8
        go_simp
        clear z0 z1
        refine hK.out _ _ ?_ (fun hNew => ?_)
        · have hH := hHeld
          (try dsimp only at hH)
          (try dsimp only)
          first | exact hH | exact keepB hH hgS | exact (hgS.block _ (lt_of_block hH) (by simp; omega)).trans hH
        clear hK K hHeld
        have hHeld := hNew
        clear hNew
        (try simp only [Act.put, List.setIfInBounds_toArray, List.set_cons_zero, List.set_cons_succ])
        refine wpAnyH_ready (rs := [13]) (by kernel_rfl) (by simp) ?_
        refine AllReadyH.cons (o := Oper.mk _ _ _ _ _ _) rfl (fun K hK => ?_) AllReadyH.nil
        (try rw [if_pos (by kernel_rfl)])
        go_simp
        have hgS := World.grownBy_alloc wy1 (.cells #[.int .i64 kk, .string nm, .slice qp na qc, .bool gg, .slice p1 n1 c1, .slice p2 n2 c2] 64 (0, 0)) none
        have hbR := blk0 wy1 (.cells #[.int .i64 kk, .string nm, .slice qp na qc, .bool gg, .slice p1 n1 c1, .slice p2 n2 c2] 64 (0, 0))
        have hlegr := hgg.size
        replace hgg := grown_trans hgg hgS
        replace hb8 := keepB hb8 hgS
        replace hO := hO.keep hgS
        replace hr1 := hr1.keep hgS
        replace hr2 := hr2.keep hgS
        replace hpl := hpl.keep hgS
        refine hK.out _ _ ?_ (fun hNew => ?_)
        · have hH := hHeld
          (try dsimp only at hH)
          (try dsimp only)
          first | exact hH | exact keepB hH hgS | exact (hgS.block _ (lt_of_block hH) (by simp; omega)).trans hH
        clear hK K hHeld
        have hHeld := hNew
        clear hNew
        (try simp only [Act.put, List.setIfInBounds_toArray, List.set_cons_zero, List.set_cons_succ])
        generalize wy1.heap.size = gr at *
        generalize wy1.alloc _ = wy2 at *
        clear hgS
        refine wpAnyH_ready (rs := [14]) (by kernel_rfl) (by simp) ?_
        refine AllReadyH.cons (o := Oper.mk _ _ _ _ _ _) rfl (fun K hK => ?_) AllReadyH.nil
        have hszA := hgg.size
        refine step_sappend_at wy2 rfl (.tmp 43) (.tmp 55) 22 rfl 64 6 (.agg #[.int .i64 0, .string ⟨#[]⟩, .slice none 0 0, .bool false, .slice none 0 0, .slice none 0 0]) 104 Try.underlying22 infoStepP stepZP (by omega) base p k c rows rfl hO _ 1 [.int .i64 kk, .string nm, .slice qp na qc, .bool gg, .slice p1 n1 c1, .slice p2 n2 c2] rfl (one_srdB hbR rfl) (stepOneP _ _ _ _ _ _ _ _ _ _ _ _) (by omega) (by omega) (by omega) ?_
        intro p' c2' wy3 hO8 hgA hat
        have hb8' := (hgA.block b8 (lt_of_block hb8) (fun e => by have := HPB.out _ e.symm; omega)).trans hb8
        refine hK.out _ _ ?_ (fun hNew => ?_)
        · have hH := hHeld
          (try dsimp only at hH)
          (try dsimp only)
          exact (hgA.block b11 (lt_of_block hH) (fun e => by have := HPB.out _ e.symm; omega)).trans hH
        clear hK K hHeld
        have hHeld := hNew
        clear hNew
        (try simp only [Act.put, List.setIfInBounds_toArray, List.set_cons_zero, List.set_cons_succ])
        refine wpAnyH_ready (rs := [15]) (by kernel_rfl) (by simp) ?_
        refine AllReadyH.cons (o := Oper.mk _ _ _ _ _ _) rfl (fun K hK => ?_) AllReadyH.nil
        (try rw [if_pos (by kernel_rfl)])
        go_simp
        refine hK.out _ _ ?_ (fun hNew => ?_)
        · have hH := hHeld
          (try dsimp only at hH)
          (try dsimp only)
          first | exact hH | exact keepB hH hgS | exact (hgS.block _ (lt_of_block hH) (by simp; omega)).trans hH
        clear hK K hHeld
        have hHeld := hNew
        clear hNew
        (try simp only [Act.put, List.setIfInBounds_toArray, List.set_cons_zero, List.set_cons_succ])
        refine wpAnyH_ready (rs := [16]) (by kernel_rfl) (by simp) ?_
        refine AllReadyH.cons (o := Oper.mk _ _ _ _ _ _) rfl (fun K hK => ?_) AllReadyH.nil
        (try rw [if_pos (by kernel_rfl)])
        obtain ⟨⟨z0, z1⟩, zf⟩ := box2n hb8'
        have f0 := zf 0
        go_simp
        have hgS := grown_setCell wy3 ⟨b8, 0, none⟩ (.slice p' (k + 1) c2')
        have hbE := heap_setCell_same wy3 b8 0 _ _ (.slice p' (k + 1) c2') hb8'
        clear z0 z1 zf f0
        refine hK.out _ _ ?_ (fun hNew => ?_)
        · have hH := hHeld
          (try dsimp only at hH)
          (try dsimp only)
          first | exact hH | exact keepB hH hgS | exact (hgS.block _ (lt_of_block hH) (by simp; omega)).trans hH
        clear hK K hHeld
        have hHeld := hNew
        clear hNew
        (try simp only [Act.put, List.setIfInBounds_toArray, List.set_cons_zero, List.set_cons_succ])
        refine wpAnyH_done (by kernel_rfl) ?_ _
        refine NoPanic.normal ?_
        have HEND := hid (prune_round (L := L) (Ψ := fun _ => True) HGR.out hgg hgA hgS hl8 hbw hb8b hbase hbE hO hO8 hat HST.out (fun _ _ => trivial) hpl hr1 hr2 (far_new hb4d hb8d hO0 hpn) (far_old HR1.out HSW.out.1 HSW.out.2.1 HSW.out.2.2 hO0) (far_old HR2.out HSW.out.1 HSW.out.2.1 HSW.out.2.2 hO0) HDK.out)
        clear hHeld hgA hgS hbE hbR hO8 hat hb8' hpl hpn hr1 hr2 hgg hO0 hO hb8
        go_wp2_with fail
        obtain ⟨hE1, hE2, hE3, hE4, hE5, hE6⟩ := HEND.out
        exact ⟨⟨k + 1, p', c2', _, by omega, by go_num, hid hE1, hE2, hE3, hid hE4, hE6⟩, by simp [intOf]; omega⟩
      refine AllReadyH.cons (o := Oper.mk _ _ _ _ _ _) rfl (fun K hK => ?_) AllReadyH.nil
      (try rw [if_pos (by kernel_rfl)])
      go_simp
      have hgS := World.grownBy_alloc wy1 (.cells #[.int .i64 kk, .string nm, .slice qp na qc, .bool gg, .slice p1 n1 c1, .slice p2 n2 c2] 64 (0, 0)) none
      have hbR := blk0 wy1 (.cells #[.int .i64 kk, .string nm, .slice qp na qc, .bool gg, .slice p1 n1 c1, .slice p2 n2 c2] 64 (0, 0))
      have hlegr := hgg.size
      replace hgg := grown_trans hgg hgS
      replace hb8 := keepB hb8 hgS
      replace hO := hO.keep hgS
      replace hr1 := hr1.keep hgS
      replace hr2 := hr2.keep hgS
      replace hpl := hpl.keep hgS
      refine hK.out _ _ ?_ (fun hNew => ?_)
      · have hH := hHeld
        (try dsimp only at hH)
        (try dsimp only)
        first | exact hH | exact keepB hH hgS | exact (hgS.block _ (lt_of_block hH) (by simp; omega)).trans hH
      clear hK K hHeld
      have hHeld := hNew
      clear hNew
      (try simp only [Act.put, List.setIfInBounds_toArray, List.set_cons_zero, List.set_cons_succ])
      generalize wy1.heap.size = gr at *
      generalize wy1.alloc _ = wy2 at *
      clear hgS
      refine wpAnyH_ready (rs := [1]) (by kernel_rfl) (by simp) ?_
      refine AllReadyH.cons (o := Oper.mk _ _ _ _ _ _) rfl (fun K hK => ?_) AllReadyH.nil
      (try rw [if_pos (by kernel_rfl)])
      obtain ⟨⟨z0, z1⟩, -⟩ := box2n hb8
      go_simp
      clear z0 z1
      refine hK.out _ _ ?_ (fun hNew => ?_)
      · have hH := hHeld
        (try dsimp only at hH)
        (try dsimp only)
        first | exact hH | exact keepB hH hgS | exact (hgS.block _ (lt_of_block hH) (by simp; omega)).trans hH
      clear hK K hHeld
      have hHeld := hNew
      clear hNew
      (try simp only [Act.put, List.setIfInBounds_toArray, List.set_cons_zero, List.set_cons_succ])
      refine wpAnyH_ready (rs := [14]) (by kernel_rfl) (by simp) ?_
      refine AllReadyH.cons (o := Oper.mk _ _ _ _ _ _) rfl (fun K hK => ?_) AllReadyH.nil
      have hszA := hgg.size
      refine step_sappend_at wy2 rfl (.tmp 43) (.tmp 55) 22 rfl 64 6 (.agg #[.int .i64 0, .string ⟨#[]⟩, .slice none 0 0, .bool false, .slice none 0 0, .slice none 0 0]) 104 Try.underlying22 infoStepP stepZP (by omega) base p k c rows rfl hO _ 1 [.int .i64 kk, .string nm, .slice qp na qc, .bool gg, .slice p1 n1 c1, .slice p2 n2 c2] rfl (one_srdB hbR rfl) (stepOneP _ _ _ _ _ _ _ _ _ _ _ _) (by omega) (by omega) (by omega) ?_
      intro p' c2' wy3 hO8 hgA hat
      have hb8' := (hgA.block b8 (lt_of_block hb8) (fun e => by have := HPB.out _ e.symm; omega)).trans hb8
      refine hK.out _ _ ?_ (fun hNew => ?_)
      · have hH := hHeld
        (try dsimp only at hH)
        (try dsimp only)
        exact (hgA.block b11 (lt_of_block hH) (fun e => by have := HPB.out _ e.symm; omega)).trans hH
      clear hK K hHeld
      have hHeld := hNew
      clear hNew
      (try simp only [Act.put, List.setIfInBounds_toArray, List.set_cons_zero, List.set_cons_succ])
      refine wpAnyH_ready (rs := [15]) (by kernel_rfl) (by simp) ?_
      refine AllReadyH.cons (o := Oper.mk _ _ _ _ _ _) rfl (fun K hK => ?_) AllReadyH.nil
      (try rw [if_pos (by kernel_rfl)])
      go_simp
      refine hK.out _ _ ?_ (fun hNew => ?_)
      · have hH := hHeld
        (try dsimp only at hH)
        (try dsimp only)
        first | exact hH | exact keepB hH hgS | exact (hgS.block _ (lt_of_block hH) (by simp; omega)).trans hH
      clear hK K hHeld
      have hHeld := hNew
      clear hNew
      (try simp only [Act.put, List.setIfInBounds_toArray, List.set_cons_zero, List.set_cons_succ])
      refine wpAnyH_ready (rs := [16]) (by kernel_rfl) (by simp) ?_
      refine AllReadyH.cons (o := Oper.mk _ _ _ _ _ _) rfl (fun K hK => ?_) AllReadyH.nil
      (try rw [if_pos (by kernel_rfl)])
      obtain ⟨⟨z0, z1⟩, zf⟩ := box2n hb8'
      have f0 := zf 0
      go_simp
      have hgS := grown_setCell wy3 ⟨b8, 0, none⟩ (.slice p' (k + 1) c2')
      have hbE := heap_setCell_same wy3 b8 0 _ _ (.slice p' (k + 1) c2') hb8'
      clear z0 z1 zf f0
      refine hK.out _ _ ?_ (fun hNew => ?_)
      · have hH := hHeld
        (try dsimp only at hH)
        (try dsimp only)
        first | exact hH | exact keepB hH hgS | exact (hgS.block _ (lt_of_block hH) (by simp; omega)).trans hH
      clear hK K hHeld
      have hHeld := hNew
      clear hNew
      (try simp only [Act.put, List.setIfInBounds_toArray, List.set_cons_zero, List.set_cons_succ])
      refine wpAnyH_done (by kernel_rfl) ?_ _
      refine NoPanic.normal ?_
      have HEND := hid (prune_round (L := L) (Ψ := fun _ => True) HGR.out hgg hgA hgS hl8 hbw hb8b hbase hbE hO hO8 hat HST.out (fun _ _ => trivial) hpl hr1 hr2 (far_new hb4d hb8d hO0 hpn) (far_old HR1.out HSW.out.1 HSW.out.2.1 HSW.out.2.2 hO0) (far_old HR2.out HSW.out.1 HSW.out.2.1 HSW.out.2.2 hO0) HDK.out)
      clear hHeld hgA hgS hbE hbR hO8 hat hb8' hpl hpn hr1 hr2 hgg hO0 hO hb8
      go_wp2_with fail
      obtain ⟨hE1, hE2, hE3, hE4, hE5, hE6⟩ := HEND.out
      exact ⟨⟨k + 1, p', c2', _, by omega, by go_num, hid hE1, hE2, hE3, hid hE4, hE6⟩, by simp [intOf]; omega⟩
    · obtain rfl : k = nk := by omega
      have B6r := keepB B6.out HGR.out
      have hb4r := keepB HB4.out HGR.out
      go_upto_region 12 with fail
      refine wp_region_noPanic ?_
      refine wp_region_held_drew (S := (fun W => W.heap[b6]? = some (.cells #[.int .i64 kk, .slice pa na ca, .bool gg, .slice p1 n1 c1, .slice p2 n2 c2] 58 (0, 0)))) (by kernel_rfl) ?_ (fun hHeld => ?_)
      · (try dsimp only)
        exact keepB B6r (grown_drew _ none)
      have hgg := grown_drew wr none
      replace hb8 := keepB hb8 hgg
      replace hb4r := keepB hb4r hgg
      replace hO := hO.keep hgg
      replace HST := hid (fun j hj => (HST.out j hj).keep hgg)
      replace HGR := hid (grown_trans HGR.out hgg)
      clear hgg
      generalize wr.drew = wd at *
      have hgg := grown_refl wd none
      have hr1 := r2.keep (grown_trans HW.out HGR.out)
      have hr2 := r3.keep (grown_trans HW.out HGR.out)
      have hl8d := lt_of_block hb8
      have hl4d := lt_of_block hb4r
      refine wpAnyH_take (i := 0) (oi := Oper.mk _ _ _ _ _ _) (v := ?_) rfl (by kernel_rfl) (by kernel_rfl) (by kernel_rfl) (fun _ _ _ h => h) (Or.inl ⟨by kernel_rfl, ?_⟩) hHeld ?_
      rotate_left 1
      · intro W hSw
        (try dsimp only at hSw)
        obtain ⟨⟨h0, h1, h2, h3, h4⟩, -⟩ := box5 hSw
        go_simp
        (try (with_reducible rfl))
      (try simp only [Act.put, List.setIfInBounds_toArray, List.set_cons_zero, List.set_cons_succ])
      refine wpAnyH_take (i := 1) (oi := Oper.mk _ _ _ _ _ _) (v := ?_) rfl (by kernel_rfl) (by kernel_rfl) (by kernel_rfl) (fun _ _ _ h => h) (Or.inl ⟨by kernel_rfl, ?_⟩) hHeld ?_
      rotate_left 1
      · intro W hSw
        (try dsimp only at hSw)
        obtain ⟨⟨h0, h1, h2, h3, h4⟩, -⟩ := box5 hSw
        go_simp
        (try (with_reducible rfl))
      (try simp only [Act.put, List.setIfInBounds_toArray, List.set_cons_zero, List.set_cons_succ])
      refine wpAnyH_take (i := 2) (oi := Oper.mk _ _ _ _ _ _) (v := ?_) rfl (by kernel_rfl) (by kernel_rfl) (by kernel_rfl) (fun _ _ _ h => h) (Or.inl ⟨by kernel_rfl, ?_⟩) hHeld ?_
      rotate_left 1
      · intro W hSw
        (try dsimp only at hSw)
        obtain ⟨⟨h0, h1, h2, h3, h4⟩, -⟩ := box5 hSw
        go_simp
        (try (with_reducible rfl))
      (try simp only [Act.put, List.setIfInBounds_toArray, List.set_cons_zero, List.set_cons_succ])
      refine wpAnyH_take (i := 3) (oi := Oper.mk _ _ _ _ _ _) (v := ?_) rfl (by kernel_rfl) (by kernel_rfl) (by kernel_rfl) (fun _ _ _ h => h) (Or.inl ⟨by kernel_rfl, ?_⟩) hHeld ?_
      rotate_left 1
      · intro W hSw
        (try dsimp only at hSw)
        obtain ⟨⟨h0, h1, h2, h3, h4⟩, -⟩ := box5 hSw
        go_simp
        (try (with_reducible rfl))
      (try simp only [Act.put, List.setIfInBounds_toArray, List.set_cons_zero, List.set_cons_succ])
      refine wpAnyH_take (i := 4) (oi := Oper.mk _ _ _ _ _ _) (v := ?_) rfl (by kernel_rfl) (by kernel_rfl) (by kernel_rfl) (fun _ _ _ h => h) (Or.inl ⟨by kernel_rfl, ?_⟩) hHeld ?_
      rotate_left 1
      · intro W hSw
        (try dsimp only at hSw)
        obtain ⟨⟨h0, h1, h2, h3, h4⟩, -⟩ := box5 hSw
        go_simp
        (try (with_reducible rfl))
      (try simp only [Act.put, List.setIfInBounds_toArray, List.set_cons_zero, List.set_cons_succ])
      refine wpAnyH_take (i := 6) (oi := Oper.mk _ _ _ _ _ _) (v := ?_) rfl (by kernel_rfl) (by kernel_rfl) (by kernel_rfl) (fun _ _ _ h => h) (Or.inl ⟨by kernel_rfl, ?_⟩) hHeld ?_
      rotate_left 1
      · intro W hSw
        (try dsimp only at hSw)
        obtain ⟨⟨h0, h1, h2, h3, h4⟩, -⟩ := box5 hSw
        go_simp
        (try (with_reducible rfl))
      (try simp only [Act.put, List.setIfInBounds_toArray, List.set_cons_zero, List.set_cons_succ])
      refine wpAnyH_take (i := 7) (oi := Oper.mk _ _ _ _ _ _) (v := ?_) rfl (by kernel_rfl) (by kernel_rfl) (by kernel_rfl) (fun _ _ _ h => h) (Or.inl ⟨by kernel_rfl, ?_⟩) hHeld ?_
      rotate_left 1
      · intro W hSw
        (try dsimp only at hSw)
        obtain ⟨⟨h0, h1, h2, h3, h4⟩, -⟩ := box5 hSw
        go_simp
        (try (with_reducible rfl))
      (try simp only [Act.put, List.setIfInBounds_toArray, List.set_cons_zero, List.set_cons_succ])
      refine wpAnyH_ready (rs := [5]) (by kernel_rfl) (by simp) ?_
      refine AllReadyH.cons (o := Oper.mk _ _ _ _ _ _) rfl (fun K hK => ?_) AllReadyH.nil
      (try rw [if_pos (by kernel_rfl)])
      go_simp
      go_at_call 30
      refine (HC1.out _ (grown_trans HGR.out hgg)).mono ?_
      rintro e wy1 ⟨qp, qc, rfl, hso, hgS⟩
      have hpn := fun a (ha : qp = some a) => Nat.le_trans hgg.size (hso.lt a ha).1
      have hpl := ZRd.ofOwn hso
      clear hso
      replace hgg := grown_trans hgg hgS
      replace hb8 := keepB hb8 hgS
      replace hb4r := keepB hb4r hgS
      replace hO := hO.keep hgS
      replace hr1 := hr1.keep hgS
      replace hr2 := hr2.keep hgS
      refine hK.out _ _ ?_ (fun hNew => ?_)
      · have hH := hHeld
        (try dsimp only at hH)
        (try dsimp only)
        first | exact hH | exact keepB hH hgS | exact (hgS.block _ (lt_of_block hH) (by simp; omega)).trans hH
      clear hK K hHeld
      have hHeld := hNew
      clear hNew
      (try simp only [Act.put, List.setIfInBounds_toArray, List.set_cons_zero, List.set_cons_succ])
      clear hgS
      refine wpAnyH_ready (rs := [8]) (by kernel_rfl) (by simp) ?_
      refine AllReadyH.cons (o := Oper.mk _ _ _ _ _ _) rfl (fun K hK => ?_) AllReadyH.nil
      (try rw [if_pos (by kernel_rfl)])
      go_simp
      refine hK.out _ _ ?_ (fun hNew => ?_)
      · have hH := hHeld
        (try dsimp only at hH)
        (try dsimp only)
        first | exact hH | exact keepB hH hgS | exact (hgS.block _ (lt_of_block hH) (by simp; omega)).trans hH
      clear hK K hHeld
      have hHeld := hNew
      clear hNew
      (try simp only [Act.put, List.setIfInBounds_toArray, List.set_cons_zero, List.set_cons_succ])
      refine wpAnyH_ready (rs := [9]) (by kernel_rfl) (by simp) ?_
      refine AllReadyH.cons (o := Oper.mk _ _ _ _ _ _) rfl (fun K hK => ?_) AllReadyH.nil
      (try rw [if_pos (by kernel_rfl)])
      go_simp
      have hgS := World.grownBy_alloc wy1 (.cells #[.int .i64 kk, .slice qp na qc, .bool gg, .slice p1 n1 c1, .slice p2 n2 c2] 58 (0, 0)) none
      have hbR := blk0 wy1 (.cells #[.int .i64 kk, .slice qp na qc, .bool gg, .slice p1 n1 c1, .slice p2 n2 c2] 58 (0, 0))
      have hleg := hgg.size
      replace hgg := grown_trans hgg hgS
      replace hb8 := keepB hb8 hgS
      replace hb4r := keepB hb4r hgS
      replace hO := hO.keep hgS
      replace hr1 := hr1.keep hgS
      replace hr2 := hr2.keep hgS
      replace hpl := hpl.keep hgS
      refine hK.out _ _ ?_ (fun hNew => ?_)
      · have hH := hHeld
        (try dsimp only at hH)
        (try dsimp only)
        first | exact hH | exact keepB hH hgS | exact (hgS.block _ (lt_of_block hH) (by simp; omega)).trans hH
      clear hK K hHeld
      have hHeld := hNew
      clear hNew
      (try simp only [Act.put, List.setIfInBounds_toArray, List.set_cons_zero, List.set_cons_succ])
      generalize wy1.heap.size = g at *
      generalize wy1.alloc _ = wy2 at *
      clear hgS
      refine wpAnyH_ready (rs := [10]) (by kernel_rfl) (by simp) ?_
      refine AllReadyH.cons (o := Oper.mk _ _ _ _ _ _) rfl (fun K hK => ?_) AllReadyH.nil
      (try rw [if_pos (by kernel_rfl)])
      go_simp
      refine hK.out _ _ ?_ (fun hNew => ?_)
      · have hH := hHeld
        (try dsimp only at hH)
        (try dsimp only)
        first | exact hH | exact keepB hH hgS | exact (hgS.block _ (lt_of_block hH) (by simp; omega)).trans hH
      clear hK K hHeld
      have hHeld := hNew
      clear hNew
      (try simp only [Act.put, List.setIfInBounds_toArray, List.set_cons_zero, List.set_cons_succ])
      refine wpAnyH_ready (rs := [11]) (by kernel_rfl) (by simp) ?_
      refine AllReadyH.cons (o := Oper.mk _ _ _ _ _ _) rfl (fun K hK => ?_) AllReadyH.nil
      (try rw [if_pos (by kernel_rfl)])
      obtain ⟨⟨z0, z1⟩, zf⟩ := box2n hb8
      have f1 := zf 1
      go_simp
      have hgS := grown_setCell wy2 ⟨b8, 1, none⟩ (.slice (some ⟨g, 0, none⟩) 1 1)
      have hbE := heap_setCell_same wy2 b8 1 _ _ (.slice (some ⟨g, 0, none⟩) 1 1) hb8
      clear z0 z1 zf f1
      refine hK.out _ _ ?_ (fun hNew => ?_)
      · have hH := hHeld
        (try dsimp only at hH)
        (try dsimp only)
        first | exact hH | exact keepB hH hgS | exact (hgS.block _ (lt_of_block hH) (by simp; omega)).trans hH
      clear hK K hHeld
      have hHeld := hNew
      clear hNew
      (try simp only [Act.put, List.setIfInBounds_toArray, List.set_cons_zero, List.set_cons_succ])
      refine wpAnyH_done (by kernel_rfl) ?_ _
      refine NoPanic.normal ?_
      have HSG := prune_goalR (L := L) (e := ⟨kk, zs, gg, xs, ys⟩) hb4r hb8 hbR (by omega) (by omega) hpl hr1 hr2
      have hgWE := grown_new (grown_trans HGR.out hgg) hgS (fun g' e => by cases e; exact hl8)
      have HSG1 := HSG.kept hgS (fun g' e => by cases e; exact .inr rfl)
      have HST1 := hid fun j (hj : j < rows.length) => ((HST.out j hj).keep hgg).kept hgS (fun g' e => by cases e; exact .inr (.inl rfl))
      have hO1 := hO.kept hgS (.inr fun q hq e => by have := (hO.lt q hq).1; simp at e; omega)
      have hb4E := (hgS.block b4 (lt_of_block hb4r) (by simp; omega)).trans hb4r
      simp only [List.setIfInBounds_toArray, List.set_cons_zero, List.set_cons_succ] at hbE
      clear hHeld hgS hbR hpl hpn hr1 hr2 hgg hb8 hb4r hO
      generalize wy2.setCell _ _ = wS at *
      have hE := set2P_block hb4E (.slice p k c) (.slice (some ⟨g, 0, none⟩) 1 1)
      have gE := set2_grown wS b4 (.slice p k c) (.slice (some ⟨g, 0, none⟩) 1 1)
      obtain ⟨⟨k0, k1⟩, -⟩ := box2n hbE
      obtain ⟨⟨z0, z1⟩, zf⟩ := box2n hb4E
      have f0 := zf 0
      have f1 := zf 1
      clear zf
      have hrd := hO1.rd
      have HO2 := hid (hO1.kept gE (.inr fun q hq e => by have := (hO1.lt q hq).1; simp at e; omega))
      have HST2 := hid fun j (hj : j < rows.length) => ((HST1.out j hj).kept gE (fun g' e => by cases e; exact .inl rfl)).out
      have HSG2 := hid ((HSG1.kept gE (fun g' e => by cases e; exact .inl rfl)).out)
      have HGE := hid (grown_new (grown_trans HW.out hgWE) gE (fun g' e => by cases e; have := HB4E.out; omega))
      have HCP := hid (And.intro hrd.cap hrd.max)
      have HE := hid hE
      clear hrd hE gE hO1 HST HST1 HSG HSG1 hbE hb4E hgWE
      go_wp2_with fail
      generalize (wS.setCell _ _).setCell _ _ = wE at *
      obtain ⟨c0', c1'⟩ := (box2n HE.out).1
      exact bodyPost_ret (v := .tuple #[.agg #[.slice p k c, .slice (some ⟨g, 0, none⟩) 1 1], .int .i64 0]) (by simp [results, Try.results8, go_sem, c0', c1']) rfl ⟨p, c, some ⟨g, 0, none⟩, 1, by rw [hnk], by rw [hnk]; exact HCP.out, ⟨Nat.le_refl _, by omega⟩, by rw [hnk]; exact rows_mem HO2.out HST2.out, HSG2.out, HGE.out⟩
end Go.Proofs.Ytdmlcddieadelaa

set_option linter.unusedVariables false
set_option linter.unusedSimpArgs false
namespace Go.Proofs.Ytdmlcddieadelaa
open Go Go.RowKit Go.Maps _root_.Nm Lx
set_option maxHeartbeats 16000000 in
set_option maxRecDepth 100000 in
theorem sPrune_bad (pS : Option Addr) (nS cS : Nat) (pG : Option Addr) (nG cG : Nat) (w : World) (goal : Int) (h : goal < 0 ∨ (nG : Int) ≤ goal) :
    Calls Try.prog 7 #[.agg #[.slice pS nS cS, .slice pG nG cG], .int .i64 goal] w fun e' w' => e' = .returned (.tuple #[.agg #[.slice none 0 0, .slice none 0 0], .int .i64 2]) ∧ w.grownBy w' none := by
  by_cases h0 : goal < 0
  · clear h
    have gA := World.grownBy_alloc w (.cells #[.slice pS nS cS, .slice pG nG cG] 25 (0, 0)) none
    have gB := World.grownBy_alloc (w.alloc (.cells #[.slice pS nS cS, .slice pG nG cG] 25 (0, 0))) (.cells #[.slice none 0 0, .slice none 0 0] 25 (0, 0)) none
    obtain ⟨⟨k0, k1⟩, -⟩ := box2n (keepB (blk0 w (.cells #[.slice pS nS cS, .slice pG nG cG] 25 (0, 0))) gB)
    have hsz : (w.alloc (.cells #[.slice pS nS cS, .slice pG nG cG] 25 (0, 0))).heap.size = w.heap.size + 1 := by simp
    have B4 := blk0 (w.alloc (.cells #[.slice pS nS cS, .slice pG nG cG] 25 (0, 0))) (.cells #[.slice none 0 0, .slice none 0 0] 25 (0, 0))
    rw [hsz] at B4
    have HW := hid (grown_trans gA gB)
    have hE := hid (set2P_block B4 (.slice none 0 0) (.slice none 0 0))
    obtain ⟨⟨z0, z1⟩, zf⟩ := box2n B4
    have f0 := zf 0; have f1 := zf 1
    clear gA gB hsz zf B4
    go_enter Try.func7, Try.ntmps7
    go_upto_region 1 with fail
    have gE := hid (set2_grown ((w.alloc (.cells #[.slice pS nS cS, .slice pG nG cG] 25 (0, 0))).alloc (.cells #[.slice none 0 0, .slice none 0 0] 25 (0, 0))) (w.heap.size + 1) (.slice none 0 0) (.slice none 0 0))
    generalize ((w.alloc _).alloc _) = w0 at *
    go_wp2_with fail
    generalize (w0.setCell _ _).setCell _ _ = wE at *
    obtain ⟨c0', c1'⟩ := (box2n hE.out).1
    exact bodyPost_ret (v := .tuple #[.agg #[.slice none 0 0, .slice none 0 0], .int .i64 2]) (by simp [results, Try.results7, go_sem, c0', c1']) rfl ⟨rfl, grown_new HW.out gE.out (fun g' e => by cases e; omega)⟩
  · have h1 : (nG : Int) ≤ goal := by omega
    clear h
    have gA := World.grownBy_alloc w (.cells #[.slice pS nS cS, .slice pG nG cG] 25 (0, 0)) none
    have gB := World.grownBy_alloc (w.alloc (.cells #[.slice pS nS cS, .slice pG nG cG] 25 (0, 0))) (.cells #[.slice none 0 0, .slice none 0 0] 25 (0, 0)) none
    obtain ⟨⟨k0, k1⟩, -⟩ := box2n (keepB (blk0 w (.cells #[.slice pS nS cS, .slice pG nG cG] 25 (0, 0))) gB)
    have hsz : (w.alloc (.cells #[.slice pS nS cS, .slice pG nG cG] 25 (0, 0))).heap.size = w.heap.size + 1 := by simp
    have B4 := blk0 (w.alloc (.cells #[.slice pS nS cS, .slice pG nG cG] 25 (0, 0))) (.cells #[.slice none 0 0, .slice none 0 0] 25 (0, 0))
    rw [hsz] at B4
    have HW := hid (grown_trans gA gB)
    have hE := hid (set2P_block B4 (.slice none 0 0) (.slice none 0 0))
    obtain ⟨⟨z0, z1⟩, zf⟩ := box2n B4
    have f0 := zf 0; have f1 := zf 1
    clear gA gB hsz zf B4
    go_enter Try.func7, Try.ntmps7
    go_upto_region 1 with fail
    have gE := hid (set2_grown ((w.alloc (.cells #[.slice pS nS cS, .slice pG nG cG] 25 (0, 0))).alloc (.cells #[.slice none 0 0, .slice none 0 0] 25 (0, 0))) (w.heap.size + 1) (.slice none 0 0) (.slice none 0 0))
    generalize ((w.alloc _).alloc _) = w0 at *
    go_wp2_with fail
    generalize (w0.setCell _ _).setCell _ _ = wE at *
    obtain ⟨c0', c1'⟩ := (box2n hE.out).1
    exact bodyPost_ret (v := .tuple #[.agg #[.slice none 0 0, .slice none 0 0], .int .i64 2]) (by simp [results, Try.results7, go_sem, c0', c1']) rfl ⟨rfl, grown_new HW.out gE.out (fun g' e => by cases e; omega)⟩
set_option maxHeartbeats 16000000 in
set_option maxRecDepth 100000 in
theorem rPrune_bad (pS : Option Addr) (nS cS : Nat) (pG : Option Addr) (nG cG : Nat) (w : World) (goal : Int) (h : goal < 0 ∨ (nG : Int) ≤ goal) :
    Calls Try.prog 8 #[.agg #[.slice pS nS cS, .slice pG nG cG], .int .i64 goal] w fun e' w' => e' = .returned (.tuple #[.agg #[.slice none 0 0, .slice none 0 0], .int .i64 2]) ∧ w.grownBy w' none := by
  by_cases h0 : goal < 0
  · clear h
    have gA := World.grownBy_alloc w (.cells #[.slice pS nS cS, .slice pG nG cG] 25 (0, 0)) none
    have gB := World.grownBy_alloc (w.alloc (.cells #[.slice pS nS cS, .slice pG nG cG] 25 (0, 0))) (.cells #[.slice none 0 0, .slice none 0 0] 25 (0, 0)) none
    obtain ⟨⟨k0, k1⟩, -⟩ := box2n (keepB (blk0 w (.cells #[.slice pS nS cS, .slice pG nG cG] 25 (0, 0))) gB)
    have hsz : (w.alloc (.cells #[.slice pS nS cS, .slice pG nG cG] 25 (0, 0))).heap.size = w.heap.size + 1 := by simp
    have B4 := blk0 (w.alloc (.cells #[.slice pS nS cS, .slice pG nG cG] 25 (0, 0))) (.cells #[.slice none 0 0, .slice none 0 0] 25 (0, 0))
    rw [hsz] at B4
    have HW := hid (grown_trans gA gB)
    have hE := hid (set2P_block B4 (.slice none 0 0) (.slice none 0 0))
    obtain ⟨⟨z0, z1⟩, zf⟩ := box2n B4
    have f0 := zf 0; have f1 := zf 1
    clear gA gB hsz zf B4
    go_enter Try.func8, Try.ntmps8
    go_upto_region 1 with fail
    have gE := hid (set2_grown ((w.alloc (.cells #[.slice pS nS cS, .slice pG nG cG] 25 (0, 0))).alloc (.cells #[.slice none 0 0, .slice none 0 0] 25 (0, 0))) (w.heap.size + 1) (.slice none 0 0) (.slice none 0 0))
    generalize ((w.alloc _).alloc _) = w0 at *
    go_wp2_with fail
    generalize (w0.setCell _ _).setCell _ _ = wE at *
    obtain ⟨c0', c1'⟩ := (box2n hE.out).1
    exact bodyPost_ret (v := .tuple #[.agg #[.slice none 0 0, .slice none 0 0], .int .i64 2]) (by simp [results, Try.results8, go_sem, c0', c1']) rfl ⟨rfl, grown_new HW.out gE.out (fun g' e => by cases e; omega)⟩
  · have h1 : (nG : Int) ≤ goal := by omega
    clear h
    have gA := World.grownBy_alloc w (.cells #[.slice pS nS cS, .slice pG nG cG] 25 (0, 0)) none
    have gB := World.grownBy_alloc (w.alloc (.cells #[.slice pS nS cS, .slice pG nG cG] 25 (0, 0))) (.cells #[.slice none 0 0, .slice none 0 0] 25 (0, 0)) none
    obtain ⟨⟨k0, k1⟩, -⟩ := box2n (keepB (blk0 w (.cells #[.slice pS nS cS, .slice pG nG cG] 25 (0, 0))) gB)
    have hsz : (w.alloc (.cells #[.slice pS nS cS, .slice pG nG cG] 25 (0, 0))).heap.size = w.heap.size + 1 := by simp
    have B4 := blk0 (w.alloc (.cells #[.slice pS nS cS, .slice pG nG cG] 25 (0, 0))) (.cells #[.slice none 0 0, .slice none 0 0] 25 (0, 0))
    rw [hsz] at B4
    have HW := hid (grown_trans gA gB)
    have hE := hid (set2P_block B4 (.slice none 0 0) (.slice none 0 0))
    obtain ⟨⟨z0, z1⟩, zf⟩ := box2n B4
    have f0 := zf 0; have f1 := zf 1
    clear gA gB hsz zf B4
    go_enter Try.func8, Try.ntmps8
    go_upto_region 1 with fail
    have gE := hid (set2_grown ((w.alloc (.cells #[.slice pS nS cS, .slice pG nG cG] 25 (0, 0))).alloc (.cells #[.slice none 0 0, .slice none 0 0] 25 (0, 0))) (w.heap.size + 1) (.slice none 0 0) (.slice none 0 0))
    generalize ((w.alloc _).alloc _) = w0 at *
    go_wp2_with fail
    generalize (w0.setCell _ _).setCell _ _ = wE at *
    obtain ⟨c0', c1'⟩ := (box2n hE.out).1
    exact bodyPost_ret (v := .tuple #[.agg #[.slice none 0 0, .slice none 0 0], .int .i64 2]) (by simp [results, Try.results8, go_sem, c0', c1']) rfl ⟨rfl, grown_new HW.out gE.out (fun g' e => by cases e; omega)⟩
/-- what a Prune returns: a figure, and an error -/
def PrRet (w : World) (m n : Nat) (x : Int) (D : Nat → StD) (E : Nat → GlD) (e' : Ending) (w' : World) : Prop := ∃ (p : Option Addr) (c : Nat) (g : Option Addr) (d' : Nat), e' = .returned (.tuple #[.agg #[.slice p m c, .slice g n d'], .int .i64 x]) ∧ (m ≤ c ∧ c ≤ 9223372036854775807) ∧ (n ≤ d' ∧ d' ≤ 9223372036854775807) ∧ (∀ j, j < m → StM w' p j (D j)) ∧ (∀ j, j < n → GlM w' g j (E j)) ∧ w.grownBy w' none
theorem getD_in {n : Nat} {F : List Bool} {z : Int} (h : z ∈ ndL F n) : ∃ i : Nat, z = (i : Int) ∧ i < n ∧ F.getD i false = true := by
  obtain ⟨i, h1, h2, h3⟩ := (ndL_mem F n z).1 h
  exact ⟨i, h2, h1, h3⟩
/-- both Prunes of a right figure return the same -/
theorem prune_both (pS : Option Addr) (nS cS : Nat) (pG : Option Addr) (nG cG : Nat) (C : Nat → List Value) (P : Nat → ByteArray) (NA N1 N2 : Nat → Nat) (D : Nat → List Value) (MA M1 M2 : Nat → Nat) (w : World) (hcS : nS ≤ cS ∧ cS ≤ 9223372036854775807) (hcG : nG ≤ cG ∧ cG ≤ 9223372036854775807)
    (hS : ∀ i, i < nS → SpAt w pS i (C i) (P i) (NA i) (N1 i) (N2 i) ∧ StB w (C i) (P i) (NA i) (N1 i) (N2 i)) (hG : ∀ i, i < nG → GlAt w pG i (D i) (MA i) (M1 i) (M2 i) ∧ GlB w (D i) (MA i) (M1 i) (M2 i)) (A B : Nat → List Int) (hA : ∀ i, i < nS → StA w (C i) (NA i) (N1 i) (N2 i) (A i)) (hB : ∀ i, i < nG → GlA w (D i) (MA i) (M1 i) (M2 i) (B i))
    (hn40 : nS ≤ 40) (hv : ∀ i, i < nS → NA i ≤ 4 ∧ ∀ j (hj : j < (A i).length), 0 ≤ (A i)[j] ∧ (A i)[j] < (i : Int)) (hvB : ∀ i, i < nG → MA i ≤ 8 ∧ ∀ j (hj : j < (B i).length), 0 ≤ (B i)[j] ∧ (B i)[j] < (nS : Int)) (goal : Int) :
    ∃ (m n : Nat) (x : Int) (DD : Nat → StD) (EE : Nat → GlD), (∀ W, w.grownBy W none → Calls Try.prog 7 #[.agg #[.slice pS nS cS, .slice pG nG cG], .int .i64 goal] W (PrRet W m n x DD EE)) ∧ (∀ W, w.grownBy W none → Calls Try.prog 8 #[.agg #[.slice pS nS cS, .slice pG nG cG], .int .i64 goal] W (PrRet W m n x DD EE)) := by
  by_cases hb : goal < 0 ∨ (nG : Int) ≤ goal
  · refine ⟨0, 0, 2, fun _ => ⟨0, ⟨#[]⟩, [], false, [], []⟩, fun _ => ⟨0, [], false, [], []⟩, fun W hW => (sPrune_bad pS nS cS pG nG cG W goal hb).mono ?_, fun W hW => (rPrune_bad pS nS cS pG nG cG W goal hb).mono ?_⟩
    · rintro e' w' ⟨rfl, hg⟩
      exact ⟨none, 0, none, 0, rfl, ⟨Nat.le_refl _, by omega⟩, ⟨Nat.le_refl _, by omega⟩, fun j hj => absurd hj (Nat.not_lt_zero j), fun j hj => absurd hj (Nat.not_lt_zero j), hg⟩
    · rintro e' w' ⟨rfl, hg⟩
      exact ⟨none, 0, none, 0, rfl, ⟨Nat.le_refl _, by omega⟩, ⟨Nat.le_refl _, by omega⟩, fun j hj => absurd hj (Nat.not_lt_zero j), fun j hj => absurd hj (Nat.not_lt_zero j), hg⟩
  · obtain ⟨q, rfl⟩ : ∃ q : Nat, goal = (q : Int) := ⟨goal.toNat, by omega⟩
    have hq : q < nG := by omega
    have hex : ∀ i, ∃ d : StD, i < nS → d.zs = A i ∧ d.zs.length = NA i ∧ d.xs.length ≤ 1048576 ∧ d.ys.length ≤ 1048576 ∧ StM w pS i d := fun i => by
      by_cases hi : i < nS
      · obtain ⟨d, h1, h2⟩ := (hS i hi).2.mem (hS i hi).1 (hA i hi)
        exact ⟨d, fun _ => h2⟩
      · exact ⟨⟨0, ⟨#[]⟩, [], false, [], []⟩, fun h => absurd h hi⟩
    obtain ⟨d, hd⟩ : ∃ d : Nat → StD, ∀ i, i < nS → (d i).zs = A i ∧ (d i).zs.length = NA i ∧ (d i).xs.length ≤ 1048576 ∧ (d i).ys.length ≤ 1048576 ∧ StM w pS i (d i) := ⟨fun i => Classical.choose (hex i), fun i hi => Classical.choose_spec (hex i) hi⟩
    obtain ⟨e, he, hel, he2, he3, hGm⟩ := (hG q hq).2.mem (hG q hq).1 (hB q hq)
    obtain ⟨L, hL⟩ : ∃ L, L = ndL (ndF A nS (B q)) nS := ⟨_, rfl⟩
    have hLa : L.Pairwise (· < ·) := by rw [hL]; exact ndL_asc _ _
    have hLn : L.length ≤ 60 := by have := ndL_len (ndF A nS (B q)) nS; rw [hL]; omega
    have hLr : ∀ z ∈ L, ∃ i : Nat, z = (i : Int) ∧ i < nS := fun z hz => by
      rw [hL] at hz
      obtain ⟨i, h1, h2, _⟩ := getD_in hz
      exact ⟨i, h1, h2⟩
    have hz : ∀ i, i < nS → (d i).zs.length ≤ 1048576 ∧ (d i).xs.length ≤ 1048576 ∧ (d i).ys.length ≤ 1048576 := fun i hi => by
      have h1 := hd i hi
      have h2 := (hv i hi).1
      exact ⟨by omega, h1.2.2.1, h1.2.2.2.1⟩
    have hsub : ∀ i : Nat, (i : Int) ∈ L → ∀ z ∈ (d i).zs, z ∈ L := fun i hi z hzz => by
      rw [hL] at hi ⊢
      obtain ⟨i', h1, h2, h3⟩ := getD_in hi
      obtain rfl : i = i' := by omega
      rw [(hd i h2).1] at hzz
      obtain ⟨j, hj, rfl⟩ := List.mem_iff_getElem.1 hzz
      have h4 := (hv i h2).2 j hj
      obtain ⟨t, ht⟩ : ∃ t : Nat, (A i)[j] = (t : Int) := ⟨(A i)[j].toNat, by omega⟩
      rw [ht] at hzz h4 ⊢
      exact (ndL_mem _ _ _).2 ⟨t, by omega, rfl, ndF_closed h2 h3 hzz (by omega)⟩
    have hsubG : ∀ z ∈ e.zs, z ∈ L := fun z hzz => by
      rw [he] at hzz
      obtain ⟨j, hj, rfl⟩ := List.mem_iff_getElem.1 hzz
      have h4 := (hvB q hq).2 j hj
      obtain ⟨t, ht⟩ : ∃ t : Nat, (B q)[j] = (t : Int) := ⟨(B q)[j].toNat, by omega⟩
      rw [hL]
      rw [ht] at hzz h4 ⊢
      exact (ndL_mem _ _ _).2 ⟨t, by omega, rfl, ndF_has hzz (by omega)⟩
    have hee : e.zs.length ≤ 1048576 ∧ e.xs.length ≤ 1048576 ∧ e.ys.length ≤ 1048576 := by
      have := (hvB q hq).1
      exact ⟨by omega, he2, he3⟩
    refine ⟨L.length, 1, 0, fun j => mvS L (d (L.getD j 0).toNat), fun _ => mvG L e, fun W hW => ?_, fun W hW => ?_⟩
    · refine (sPrune_n pS nS cS pG nG cG W hcS hcG q hq d e L hLa hLn hLr (fun i hi => (hd i hi).2.2.2.2.keep hW) hz hsub (hGm.keep hW) hee hsubG ?_).mono ?_
      · intro W2 hW2 pa na ca hr
        rw [he] at hr
        rw [hL]
        exact sNeeds_n pS nS cS pG nG cG C P NA N1 N2 A pa na ca (B q) W2 hcS (by omega) (fun i hi => (hS i hi).1.keep (grown_trans hW hW2)) (fun i hi => by obtain ⟨k, nm, pa, ca, g, p1, c1, p2, c2, hck, hz⟩ := hA i hi; exact ⟨k, nm, pa, ca, g, p1, c1, p2, c2, hck, hz.keep (grown_trans hW hW2)⟩) (fun i hi => (hv i hi).2) hr
      · rintro e' w' ⟨p, c, g, d', rfl, hc1, hc2, h1, h2, hg⟩
        exact ⟨p, c, g, d', rfl, hc1, hc2, h1, fun j hj => by obtain rfl : j = 0 := by omega
                                                              exact h2, hg⟩
    · refine (rPrune_n pS nS cS pG nG cG W hcS hcG q hq d e L hLa hLn hLr (fun i hi => (hd i hi).2.2.2.2.keep hW) hz hsub (hGm.keep hW) hee hsubG ?_).mono ?_
      · intro W2 hW2 pa na ca hr
        rw [he] at hr
        rw [hL]
        exact rNeeds_n pS nS cS pG nG cG A pa na ca (B q) W2 hcS (by omega) (fun i hi => ((hA i hi).at (hS i hi).1).keep (grown_trans hW hW2)) (fun i hi => (hv i hi).2) hr
      · rintro e' w' ⟨p, c, g, d', rfl, hc1, hc2, h1, h2, hg⟩
        exact ⟨p, c, g, d', rfl, hc1, hc2, h1, fun j hj => by obtain rfl : j = 0 := by omega
                                                              exact h2, hg⟩
end Go.Proofs.Ytdmlcddieadelaa

set_option linter.unusedVariables false
set_option linter.unusedSimpArgs false
namespace Go.Proofs.Ytdmlcddieadelaa
open Go Go.RowKit Go.Maps _root_.Nm Lx
set_option maxHeartbeats 64000000 in
set_option maxRecDepth 100000 in
theorem lowerPrunes_walk (pS : Option Addr) (nS cS : Nat) (pG : Option Addr) (nG cG : Nat) (goal : Int) (w : World) (x : Int)
    (hx : ∀ W, w.grownBy W none → Calls Try.prog 6 #[.agg #[.slice pS nS cS, .slice pG nG cG]] W fun e w' => e = .returned (.int .i64 x) ∧ W.grownBy w' none)
    (h0 : x = 0 → ∃ (m n : Nat) (x : Int) (DD : Nat → StD) (EE : Nat → GlD), (∀ W, w.grownBy W none → Calls Try.prog 7 #[.agg #[.slice pS nS cS, .slice pG nG cG], .int .i64 goal] W (PrRet W m n x DD EE)) ∧ (∀ W, w.grownBy W none → Calls Try.prog 8 #[.agg #[.slice pS nS cS, .slice pG nG cG], .int .i64 goal] W (PrRet W m n x DD EE))) :
    Calls Try.prog 3 #[.agg #[.slice pS nS cS, .slice pG nG cG], .int .i64 goal] w fun e w' => e = .returned (.bool true) ∧ w.grownBy w' none := by
  have HX := hid hx
  have hW := World.grownBy_alloc w (.cells #[.slice pS nS cS, .slice pG nG cG] 25 (0, 0)) none
  have BX := hid (blk0 w (.cells #[.slice pS nS cS, .slice pG nG cG] 25 (0, 0)))
  obtain ⟨⟨k0, k1⟩, -⟩ := box2n BX.out
  by_cases hx0 : x = 0
  · obtain ⟨m, n, y, DD, EE, h1, h2⟩ := h0 hx0
    subst hx0
    have H1 := hid h1; have H2 := hid h2
    clear hx h1 h2
    go_enter Try.func3, Try.ntmps3
    go_upto_region 1 with fail
    generalize (w.alloc _) = w0 at *
    go_upto_region 3 with (go_at_call 6; (with_reducible refine (HX.out _ hW).mono ?_); rintro e w1 ⟨rfl, hg⟩; replace hW := grown_trans hW hg; replace BX := hid (keepB BX.out hg); replace k0 := hg.cell k0 (by simp); replace k1 := hg.cell k1 (by simp); clear hg)
    obtain ⟨⟨i0, i1⟩, fa⟩ := box2n (blk0 w1 (.cells #[.slice none 0 0, .slice none 0 0] 25 (0, 0)))
    go_upto_region 4 with (go_at_call 7; (with_reducible refine (H1.out _ hW).mono ?_); rintro e w2 ⟨p1, c1, g1, d1, rfl, ⟨hc1, hc2⟩, ⟨hd1, hd2⟩, hs, hgl, hg⟩; replace hW := grown_trans hW hg; replace BX := hid (keepB BX.out hg); replace k0 := hg.cell k0 (by simp); replace k1 := hg.cell k1 (by simp); have HS1 := hid hs; have HG1 := hid hgl; clear hs hgl hg i0 i1 fa; obtain ⟨⟨i0, i1⟩, fa⟩ := box2n (blk0 w2 (.cells #[.slice none 0 0, .slice none 0 0] 25 (0, 0))); have f0 := fa 0; have f1 := fa 1; clear fa)
    clear i0 i1 f0 f1
    have gA := World.grownBy_alloc w2 (.cells #[.slice p1 m c1, .slice g1 n d1] 25 (0, 0)) none
    have B5 := hid (blk0 w2 (.cells #[.slice p1 m c1, .slice g1 n d1] 25 (0, 0)))
    replace hW := grown_trans hW gA
    replace k0 := gA.cell k0 (by simp); replace k1 := gA.cell k1 (by simp)
    replace HS1 := hid (fun j hj => (HS1.out j hj).keep gA)
    replace HG1 := hid (fun j hj => (HG1.out j hj).keep gA)
    clear gA
    generalize w2.heap.size = b5 at *
    generalize (w2.alloc _) = w3 at *
    go_upto_region 5 with (go_at_call 8; (with_reducible refine (H2.out _ hW).mono ?_); rintro e w4 ⟨p2, c2, g2, d2, rfl, ⟨he1, he2⟩, ⟨hf1, hf2⟩, hs, hgl, hg⟩; replace hW := grown_trans hW hg; replace B5 := hid (keepB B5.out hg); have HS2 := hid hs; have HG2 := hid hgl; replace HS1 := hid (fun j hj => (HS1.out j hj).keep hg); replace HG1 := hid (fun j hj => (HG1.out j hj).keep hg); clear hs hgl hg k0 k1; obtain ⟨⟨i0, i1⟩, fa⟩ := box2n (blk0 w4 (.cells #[.slice none 0 0, .slice none 0 0] 25 (0, 0))); have f0 := fa 0; have f1 := fa 1; clear fa)
    clear i0 i1 f0 f1
    have gA := World.grownBy_alloc w4 (.cells #[.slice p2 m c2, .slice g2 n d2] 25 (0, 0)) none
    have B7 := blk0 w4 (.cells #[.slice p2 m c2, .slice g2 n d2] 25 (0, 0))
    replace hW := grown_trans hW gA
    replace B5 := hid (keepB B5.out gA)
    have HSM := hid fun W hg => rSame20_e p1 m c1 g1 n d1 p2 c2 g2 d2 W ⟨hc1, hc2⟩ ⟨he1, he2⟩ ⟨hd1, hd2⟩ ⟨hf1, hf2⟩ (fun i hi => ((((HS1.out i hi).keep gA).two ((HS2.out i hi).keep gA))).keep hg) (fun i hi => ((((HG1.out i hi).keep gA).two ((HG2.out i hi).keep gA))).keep hg)
    clear gA HS1 HG1 HS2 HG2
    generalize w4.heap.size = b7 at *
    generalize (w4.alloc _) = w5 at *
    obtain ⟨⟨k0, k1⟩, -⟩ := box2n B5.out
    obtain ⟨⟨l0, l1⟩, -⟩ := box2n B7
    clear B7
    have hy : (y == y) = true := by simp
    go_wp2_with (go_at_call 9; (with_reducible refine (HSM.out _ (grown_refl _ _)).mono ?_); rintro e w6 ⟨rfl, hg⟩; replace hW := grown_trans hW hg; clear hg k0 k1 l0 l1)
    go_ret
    exact ⟨rfl, hW⟩
  · clear hx h0
    have hq0 : (x == 0) = false := by simp [hx0]
    have hq1 : (x != 0) = true := by simp [hx0]
    go_enter Try.func3, Try.ntmps3
    go_upto_region 1 with fail
    generalize (w.alloc _) = w0 at *
    go_wp2_with (go_at_call 6; (with_reducible refine (HX.out _ hW).mono ?_); rintro e w1 ⟨rfl, hg⟩; replace hW := grown_trans hW hg; clear hg)
    go_ret
    exact ⟨rfl, hW⟩
end Go.Proofs.Ytdmlcddieadelaa
