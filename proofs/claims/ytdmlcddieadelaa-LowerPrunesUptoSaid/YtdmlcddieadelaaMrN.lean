/-
  SRow SOwn NdA NdB NdC NdD NdE NdF, in one text.
-/
import Derived.Test.YtdmlcddieadelaaMem
import Derived.Test.YtdmlcddieadelaaOwn
import Derived.Test.YtdmlcddieadelaaMrF
import Derived.Laws.MakeOwn
import Derived.RangeFuncNested
import Derived.RangeFuncBound
import Derived.RangeFuncCalls
import Derived.RangeFuncLeaves
import Derived.Shelf.Abstract
import Derived.Shelf.RegionOpen
import Derived.WalkKit
import Derived.OwnWalkIn
import Derived.TacticsInMore
import Derived.LoopNIn
import Derived.LoopIn
import Derived.Laws.EntriesVeiled
import Derived.Test.YtdmlcddieadelaaMrR
import Derived.Deep.RegionHeld3

set_option linter.unusedVariables false
set_option linter.unusedSimpArgs false
namespace Nm
open Go Go.RowKit

/-- the address a is the head of elements of k cells that read as l -/
def SCel (w : World) (k : Nat) (a : Option Addr) (l : List (List Value)) : Prop :=
  ∀ i (h : i < l.length) j (hj : j < (l[i]).length), ∃ b o, a = some ⟨b, o, none⟩ ∧ w.cell? ⟨b, o + i * k + j, none⟩ = some (l[i])[j]
/-- .slice a n c is a slice of structs of k cells that reads as l -/
structure SRd (w : World) (k : Nat) (a : Option Addr) (n c : Nat) (l : List (List Value)) : Prop where
  len : l.length = n
  each : ∀ r ∈ l, r.length = k
  cap : n ≤ c
  max : c ≤ 9223372036854775807
  cel : SCel w k a l
section
variable {w w' : World} {k : Nat} {a : Option Addr} {n c : Nat} {l : List (List Value)}
theorem SRd.kept (h : SRd w k a n c l) {row : Option Nat} (hg : w.grownBy w' row) (hne : row = none ∨ ∀ p, a = some p → some p.block ≠ row) : SRd w' k a n c l := by
  refine ⟨h.len, h.each, h.cap, h.max, fun i hi j hj => ?_⟩
  obtain ⟨b, o, rfl, hc⟩ := h.cel i hi j hj
  refine ⟨b, o, rfl, hg.cell hc ?_⟩
  rcases hne with rfl | hne
  · simp
  · exact hne ⟨b, o, none⟩ rfl
theorem SRd.keep (h : SRd w k a n c l) (hg : w.grownBy w' none) : SRd w' k a n c l := h.kept hg (.inl rfl)
theorem SRd.nil (w : World) (k : Nat) : SRd w k none 0 0 [] := ⟨rfl, by simp, Nat.le_refl _, by omega, fun i h => by simp at h⟩
/-- the cells of one element -/
theorem SRd.at (h : SRd w k a n c l) (hk : 0 < k) {i : Nat} (hi : i < l.length) : ∃ b o, a = some ⟨b, o, none⟩ ∧ ∀ j (hj : j < (l[i]).length), w.cell? ⟨b, o + i * k + j, none⟩ = some (l[i])[j] := by
  have hl := h.each l[i] (List.getElem_mem hi)
  obtain ⟨b, o, rfl, _⟩ := h.cel i hi 0 (by omega)
  refine ⟨b, o, rfl, fun j hj => ?_⟩
  obtain ⟨b', o', e, hc⟩ := h.cel i hi j hj
  cases e
  exact hc
end
end Nm

set_option linter.unusedVariables false
set_option linter.unusedSimpArgs false
namespace Nm
open Go Go.RowKit

/-- .slice a n c is nil, or the head of a row of the call's own, from block base on, whose first n elements of k cells are l -/
def SOwn (w : World) (base : Nat) (e : TypeId) (k : Nat) (a : Option Addr) (n c : Nat) (l : List (List Value)) : Prop :=
  l.length = n ∧ (∀ r ∈ l, r.length = k) ∧ w.ownsRow base e k (.slice a n c) n l.flatten

theorem flatten_get {k : Nat} : ∀ {l : List (List Value)} (h : ∀ r ∈ l, r.length = k) (i : Nat) (hi : i < l.length) (j : Nat) (hj : j < (l[i]).length), l.flatten[i * k + j]? = some (l[i])[j]
  | r :: l, h, 0, hi, j, hj => by
    simp only [List.getElem_cons_zero] at hj ⊢
    rw [List.flatten_cons, Nat.zero_mul, Nat.zero_add, List.getElem?_append_left hj]
    simp
  | r :: l, h, i + 1, hi, j, hj => by
    simp only [List.getElem_cons_succ] at hj ⊢
    have hr := h r (by simp)
    rw [List.flatten_cons, List.getElem?_append_right (by rw [hr, Nat.add_mul]; omega), hr]
    have ih := flatten_get (fun r hr => h r (by simp [hr])) i (by simpa using hi) j hj
    rw [show (i + 1) * k + j - k = i * k + j by rw [Nat.add_mul]; omega]
    exact ih

section
variable {w w' : World} {base : Nat} {e : TypeId} {k : Nat} {a : Option Addr} {n c : Nat} {l : List (List Value)}
theorem SOwn.nil (w : World) (base : Nat) (e : TypeId) (k : Nat) : SOwn w base e k none 0 0 [] := ⟨rfl, by simp, World.ownsRow_nil w base e k⟩
theorem SOwn.rd (h : SOwn w base e k a n c l) : SRd w k a n c l := by
  obtain ⟨hl, he, h1, h2 | ⟨g, cap, cur, hv, hb, hg, hn, hm, hs, ht⟩⟩ := h
  · obtain ⟨hv, rfl⟩ := h2
    simp only [Value.slice.injEq, true_and] at hv
    obtain ⟨rfl, rfl⟩ := hv
    obtain rfl : l = [] := List.eq_nil_of_length_eq_zero hl
    exact SRd.nil w k
  · simp only [Value.slice.injEq, true_and] at hv
    obtain ⟨rfl, rfl⟩ := hv
    refine ⟨hl, he, hn, by unfold maxLen at hm; omega, fun i hi j hj => ⟨g, 0, rfl, ?_⟩⟩
    have h3 := World.ownsRow.cells (w := w) (base := base) (e := e) (size := k) (v := .slice (some ⟨g, 0, none⟩) n c) (n := n) (xs := l.flatten) ⟨h1, .inr ⟨g, c, cur, rfl, hb, hg, hn, hm, hs, ht⟩⟩ (g := g) rfl (i * k + j) _ (flatten_get he i hi j hj)
    rw [add_addr] at h3
    rw [Nat.zero_add] at h3
    rw [Nat.zero_add]
    exact h3
theorem SOwn.lt (h : SOwn w base e k a n c l) : ∀ p, a = some p → base ≤ p.block ∧ p.block < w.heap.size := fun p hp => by
  subst hp
  exact h.2.2.lt p.block rfl
theorem SOwn.kept (h : SOwn w base e k a n c l) {row : Option Nat} (hg : w.grownBy w' row) (hne : row = none ∨ ∀ p, a = some p → some p.block ≠ row) : SOwn w' base e k a n c l := by
  refine ⟨h.1, h.2.1, h.2.2.kept hg ?_⟩
  cases a with
  | none => exact .inl rfl
  | some p =>
    rcases hne with rfl | hne
    · exact .inr (by simp [Value.ownBlock])
    · exact .inr (hne p rfl)
theorem SOwn.keep (h : SOwn w base e k a n c l) (hg : w.grownBy w' none) : SOwn w' base e k a n c l := h.kept hg (.inl rfl)
theorem SOwn.alloc (h : SOwn w base e k a n c l) (o : Obj) : SOwn (w.alloc o) base e k a n c l := ⟨h.1, h.2.1, h.2.2.alloc o⟩
end

/-- a new slice of one struct -/
theorem one_srd (w : World) (e : TypeId) (k : Nat) (r : List Value) (hr : r.length = k) (b : Nat) (hb : b = w.heap.size) : SRd (w.alloc (.cells r.toArray e)) k (some ⟨b, 0, none⟩) 1 1 [r] := by
  subst hb
  refine ⟨rfl, by simpa using hr, Nat.le_refl _, by omega, fun i hi j hj => ⟨w.heap.size, 0, rfl, ?_⟩⟩
  simp only [List.length_cons, List.length_nil, Nat.zero_add, Nat.lt_one_iff] at hi
  subst hi
  simp only [List.getElem_cons_zero] at hj ⊢
  rw [cell_of_row _ w.heap.size (0 + 0 * k + j) _ _ _ (heap_alloc_new w _)]
  simp [hj]

section
variable {P : Program} {ops : Array Oper} {rest : List Oper} {o : Oper} {a : Act} {Q : Exit → Act → World → Prop}
/-- append of one struct, a new slice .slice sp 1 c', to a slice of the call's own -/
theorem wls_append (w : World) (hgd : o.guard = none) (s x : Operand) (t : TypeId)
    (ho : o.op = .call { callee := .builtin .append, args := #[s, x], argTypes := #[t, t] })
    (e : TypeId) (k : Nat) (z : Value) (bytes : Nat) (h1 : P.underlying t = some (.slice e)) (h2 : (P.info? e).map (fun i => (i.zero, i.size, i.bytes)) = some (some z, k, bytes)) (hz : z.cells.size = k) (hk : 0 < k)
    (base : Nat) (p : Option Addr) (n c : Nat) (l : List (List Value)) (hs : a.eval s = .slice p n c) (hown : SOwn w base e k p n c l)
    (sp : Option Addr) (c' : Nat) (r : List Value) (hx : a.eval x = .slice sp 1 c') (hrd : SRd w k sp 1 c' [r]) (h1c : ∀ u ∈ r, u.oneCell' = true)
    (b1 : n + 1 ≤ 9223372036854775807) (b2 : (n + 1) * bytes ≤ 140737488355328) (w0 : World) (hg0 : w0.grownBy w none) (hb0 : w0.heap.size ≤ base) (hbase : base ≤ w.heap.size)
    (hK : ∀ p' c2 w', SOwn w' base e k p' (n + 1) c2 (l ++ [r]) → w0.grownBy w' none → (∀ G O, w.heap[G]? = some O → (∀ q, p = some q → q.block ≠ G) → w'.heap[G]? = some O) → wpList P ops Q rest (a.put o.dst (.slice p' (n + 1) c2)) w') : wpList P ops Q (o :: rest) a w := by
  obtain ⟨i, hi, hz0, hz1, hz2⟩ := info_parts h2
  subst hz2
  have hrk : r.length = k := hrd.each r (by simp)
  obtain ⟨b, o', rfl, hc⟩ := hrd.at hk (i := 0) (by simp)
  refine wpList_append_own w hgd s x t ho base e i z k i.bytes h1 hi hz0 hz1 rfl hz hk _ n l.flatten hs hown.2.2 ⟨b, o', none⟩ 1 c' r hx (by simpa using hrk) ?_ h1c (by unfold maxLen; omega) b2 hbase ?_
  · intro j u hu
    obtain ⟨hj, rfl⟩ := List.getElem?_eq_some_iff.1 hu
    have := hc j (by simpa using hj)
    rw [add_addr]
    simpa using this
  · intro v' w' hown' hgr _
    obtain ⟨hl, h3⟩ := hown'
    have hv' : ∃ p' c2, v' = .slice p' (n + 1) c2 := by
      rcases h3 with ⟨rfl, h4⟩ | ⟨g, cap, cur, rfl, _⟩
      · exact ⟨none, 0, by rw [h4]⟩
      · exact ⟨_, _, rfl⟩
    obtain ⟨p', c2, rfl⟩ := hv'
    refine hK p' c2 w' ⟨by simp [hown.1], ?_, by simpa using ⟨hl, h3⟩⟩ (grown_new hg0 hgr fun g hg => ?_) (fun G O hG hne => (hgr.block G (lt_of_block hG) ?_).trans hG)
    · intro q hq
      rcases List.mem_append.1 hq with h | h
      · exact hown.2.1 q h
      · rw [List.mem_singleton.1 h]; exact hrk
    · cases p with
      | none => simp [Value.ownBlock] at hg
      | some q =>
        simp [Value.ownBlock] at hg
        have := (hown.lt q rfl).1
        omega
    · cases p with
      | none => simp [Value.ownBlock]
      | some q =>
        simp only [Value.ownBlock, ne_eq, Option.some.injEq]
        exact fun e => hne q rfl e.symm
end
end Nm

set_option linter.unusedVariables false
set_option linter.unusedSimpArgs false
namespace Go.Proofs.Ytdmlcddieadelaa
open Go.RowKit Go.Maps _root_.Nm Lx
/-- the point z is marked, if it lies ahead of e -/
def mk1 (e : Nat) (bs : List Bool) (z : Int) : List Bool := if 0 ≤ z ∧ z < (e : Int) then bs.set z.toNat true else bs
def mkL (e : Nat) (bs : List Bool) (zs : List Int) : List Bool := zs.foldl (mk1 e) bs
theorem mk1_len (e : Nat) (bs : List Bool) (z : Int) : (mk1 e bs z).length = bs.length := by
  unfold mk1; split <;> simp
theorem mkL_len (e : Nat) : ∀ (zs : List Int) (bs : List Bool), (mkL e bs zs).length = bs.length
  | [], _ => rfl
  | z :: zs, bs => by
    show (mkL e (mk1 e bs z) zs).length = _
    rw [mkL_len e zs, mk1_len]
theorem mkL_step (e : Nat) (bs : List Bool) (zs : List Int) (j : Nat) (hj : j < zs.length) : mkL e bs (zs.take (j + 1)) = mk1 e (mkL e bs (zs.take j)) zs[j] := by
  unfold mkL
  rw [List.take_add_one, List.getElem?_eq_getElem hj, List.foldl_append]
  rfl
/-- one step's part: what it needs is marked if it is marked -/
def stp (A : Nat → List Int) (bs : List Bool) (i : Nat) : List Bool := if bs.getD i false = true then mkL i bs (A i) else bs
def dnF (A : Nat → List Int) : List Bool → Nat → List Bool
  | bs, 0 => bs
  | bs, k + 1 => dnF A (stp A bs k) k
theorem stp_len (A : Nat → List Int) (bs : List Bool) (i : Nat) : (stp A bs i).length = bs.length := by
  unfold stp; split
  · rw [mkL_len]
  · rfl
theorem dnF_len (A : Nat → List Int) : ∀ (k : Nat) (bs : List Bool), (dnF A bs k).length = bs.length
  | 0, _ => rfl
  | k + 1, bs => by
    show (dnF A (stp A bs k) k).length = _
    rw [dnF_len A k, stp_len]
/-- all that the points ps of a figure of n points need -/
def ndF (A : Nat → List Int) (n : Nat) (ps : List Int) : List Bool := dnF A (mkL n (List.replicate n false) ps) n
theorem ndF_len (A : Nat → List Int) (n : Nat) (ps : List Int) : (ndF A n ps).length = n := by
  unfold ndF
  rw [dnF_len, mkL_len, List.length_replicate]
/-- a row of bools -/
def BlRow (w : World) (g : Nat) (L : List Bool) : Prop := w.heap[g]? = some (.cells (L.map Value.bool).toArray 4 (0, 0))
theorem BlRow.set {w : World} {g : Nat} {L : List Bool} (h : BlRow w g L) (j : Nat) (d : Bool) : BlRow (w.setCell ⟨g, j, none⟩ (.bool d)) g (L.set j d) := by
  unfold BlRow at h ⊢
  rw [heap_setCell_same w g j _ _ _ h]
  simp [List.map_set]
theorem BlRow.cell {w : World} {g : Nat} {L : List Bool} (h : BlRow w g L) (j : Nat) (hj : j < L.length) : w.cell? ⟨g, j, none⟩ = some (.bool L[j]) := by
  rw [cell_of_row w g j _ _ _ h]; simp [hj]
theorem BlRow.free {w : World} {g : Nat} {L : List Bool} (h : BlRow w g L) (j : Nat) : w.frozen? ⟨g, j, none⟩ = false := frozen_of_row w g j _ _ h
theorem BlRow.keep {w w' : World} {g : Nat} {L : List Bool} (h : BlRow w g L) (hg : w.grownBy w' none) : BlRow w' g L := keepB h hg
theorem infoBoolT : (Try.prog.info? 4).map (fun i => (i.zero, i.size, i.bytes)) = some (some (.bool false), 1, 1) := by kernel_rfl
theorem run_make_bools (n : Nat) (hn : n ≤ 1000000) (w : World) :
    (Instr.makeSlice 91 (.int .i64 (n : Int)) (.int .i64 (n : Int))).run Try.prog w = .ok (.slice (some ⟨w.heap.size, 0, none⟩) n n) (w.alloc (.cells (Array.replicate n (.bool false)) 4)) := by
  obtain ⟨i, hi, hz0, hz1, hz2⟩ := info_parts infoBoolT
  have hb : (i.bytes : Int) * (n : Int) ≤ 281474976710656 := by rw [hz2]; omega
  have hr := run_make (P := Try.prog) w 91 4 i (.bool false) Try.underlying91 hi hz0 .i64 .i64 n n (by omega) (by omega) hb (by omega)
  simp only [Int.toNat_natCast] at hr
  rw [hr, hz1]
  have e1 : madeCells (Value.bool false).cells (n * 1) = Array.replicate n (.bool false) := by
    rw [Nat.mul_one, ← Array.toList_inj]
    have := toList_madeCells_one (.bool false) n
    simp at this ⊢
    exact this
  rw [e1]
theorem BlRow.made (w : World) (n : Nat) : BlRow (w.alloc (.cells (Array.replicate n (.bool false)) 4)) w.heap.size (List.replicate n false) := by
  have := heap_alloc_new w (.cells (Array.replicate n (.bool false)) 4)
  unfold BlRow
  simpa using this
/-- the arguments of a step in a row of steps -/
def ArgAt (w : World) (p : Option Addr) (i : Nat) (zs : List Int) : Prop := ∃ (b o : Nat) (pa : Option Addr) (na ca : Nat), p = some ⟨b, o, none⟩ ∧ w.cell? ⟨b, o + i * 6 + 2, none⟩ = some (.slice pa na ca) ∧ ZRd w .i64 pa na ca zs
theorem ArgAt.keep {w w' : World} {p : Option Addr} {i : Nat} {zs : List Int} (h : ArgAt w p i zs) (hg : w.grownBy w' none) : ArgAt w' p i zs := by
  obtain ⟨b, o, pa, na, ca, h1, h2, h3⟩ := h
  exact ⟨b, o, pa, na, ca, h1, hg.cell h2 (by simp), h3.keep hg⟩
set_option maxHeartbeats 64000000 in
set_option maxRecDepth 100000 in
theorem marked_n (pS : Option Addr) (nS cS : Nat) (pG : Option Addr) (nG cG : Nat) (A : Nat → List Int) (pp : Option Addr) (m cp : Nat) (ps : List Int) (w : World) (hcS : nS ≤ cS ∧ cS ≤ 9223372036854775807) (hn : nS ≤ 60)
    (hA : ∀ i, i < nS → ArgAt w pS i (A i)) (hv : ∀ i, i < nS → ∀ j (hj : j < (A i).length), 0 ≤ (A i)[j] ∧ (A i)[j] < (i : Int)) (hp : ZRd w .i64 pp m cp ps) :
    Calls Try.prog 63 #[.agg #[.slice pS nS cS, .slice pG nG cG], .slice pp m cp] w fun e w' => ∃ g, e = .returned (.slice (some ⟨g, 0, none⟩) nS nS) ∧ BlRow w' g (ndF A nS ps) ∧ w.grownBy w' none := by
  have HA := hid hA
  have HV := hid hv
  have HP := hid hp
  have hpl := hp.len
  have hpc := hp.cap
  have hpm := hp.max
  obtain ⟨hncS, hcmS⟩ := hcS
  have hmk := run_make_bools nS (by omega)
  clear hA hv hp
  have hW := World.grownBy_alloc w (.cells #[.slice pS nS cS, .slice pG nG cG] 25 (0, 0)) none
  obtain ⟨⟨k0, k1⟩, -⟩ := box2n (blk0 w (.cells #[.slice pS nS cS, .slice pG nG cG] 25 (0, 0)))
  go_enter Try.func63, Try.ntmps63
  go_upto_region 1 with fail
  generalize (w.alloc _) = w0 at *
  have hgB : w.heap.size ≤ w0.heap.size := hW.size
  have HM := hid (BlRow.made w0 nS)
  have hG := World.grownBy_alloc w0 (.cells (Array.replicate nS (.bool false)) 4) none
  have HWM := hid (grown_trans hW hG)
  have HM0 := hid hG
  have HK0 := hid k0
  have HW0 := hid hW
  clear hG
  go_wp2_with fail
  clear k0 k1 hW
  obtain ⟨gB, hgb⟩ : ∃ g, g = w0.heap.size := ⟨_, rfl⟩
  rw [← hgb] at hgB HM
  rw [← hgb]
  have HGB := hid hgb
  clear hgb
  go_loopw [17] (fun y wr => ∃ j : Nat, j ≤ m ∧ y = .int .i64 j ∧ w0.grownBy wr none ∧ BlRow wr gB (mkL nS (List.replicate nS false) (ps.take j))) (fun y _ => m - (intOf y).toNat)
  case atStart => exact ⟨0, Nat.zero_le _, rfl, HM0.out, HM.out⟩
  case round =>
    clear HM HWM HM0
    obtain ⟨j, hj, rfl, hg, hrow⟩ := hrel
    by_cases hlt : j < m
    · obtain ⟨b1, o1, rfl, c0⟩ := (HP.out.keep (grown_trans HW0.out hg)).cel j (by omega)
      have HST := hid (mkL_step nS (List.replicate nS false) ps j (by omega))
      have hll : (mkL nS (List.replicate nS false) (ps.take j)).length = nS := by rw [mkL_len, List.length_replicate]
      generalize mkL nS (List.replicate nS false) (ps.take j) = cur at *
      obtain ⟨z, hz⟩ : ∃ z, z = ps[j]'(by omega) := ⟨_, rfl⟩
      rw [← hz] at c0 HST
      clear hz
      by_cases hz0 : 0 ≤ z
      · by_cases hzn : z < (nS : Int)
        · obtain ⟨q, rfl⟩ : ∃ q : Nat, z = (q : Int) := ⟨z.toNat, by omega⟩
          have hqn : q < nS := by omega
          have r0 := hrow.cell q (by omega)
          have r1 := hrow.free q
          have HR2 := hid (hrow.set q true)
          have HG := hid hg
          clear hg hrow
          go_wp2_with fail
          refine ⟨⟨j + 1, by omega, by go_num, grown_new HG.out (grown_setCell _ ⟨gB, q, none⟩ _) (fun g e => by cases e; rw [HGB.out]; exact Nat.le_refl _), ?_⟩, by simp [intOf]; omega⟩
          rw [HST.out]
          unfold mk1
          rw [if_pos ⟨hz0, hzn⟩]
          exact HR2.out
        · have HG := hid hg
          have HR := hid hrow
          clear hg hrow
          go_wp2_with fail
          refine ⟨⟨j + 1, by omega, by go_num, HG.out, ?_⟩, by simp [intOf]; omega⟩
          rw [HST.out]
          unfold mk1
          rw [if_neg (fun h => hzn h.2)]
          exact HR.out
      · have HG := hid hg
        have HR := hid hrow
        clear hg hrow
        go_wp2_with fail
        refine ⟨⟨j + 1, by omega, by go_num, HG.out, ?_⟩, by simp [intOf]; omega⟩
        rw [HST.out]
        unfold mk1
        rw [if_neg (fun h => hz0 h.1)]
        exact HR.out
    · obtain rfl : j = m := by omega
      rw [List.take_of_length_le (by omega)] at hrow
      have HROW := hid hrow
      have HG := hid hg
      have hl0 : (mkL nS (List.replicate nS false) ps).length = nS := by rw [mkL_len, List.length_replicate]
      obtain ⟨F, hFF⟩ : ∃ F, F = ndF A nS ps := ⟨_, rfl⟩
      have HF : Hid (dnF A (mkL nS (List.replicate nS false) ps) nS = F) := hid hFF.symm
      have HFF := hid hFF
      clear hFF
      generalize mkL nS (List.replicate nS false) ps = c0 at *
      clear hrow hg
      go_wp2_with fail
      go_loopw [8] (fun y wr => ∃ (k : Nat) (z : Int) (cur : List Bool), k ≤ nS ∧ z = (k : Int) - 1 ∧ y = .int .i64 z ∧ w0.grownBy wr none ∧ BlRow wr gB cur ∧ cur.length = nS ∧ Hid (dnF A cur k = F)) (fun y _ => (intOf y + 1).toNat)
      case atStart => exact ⟨nS, (nS : Int) - 1, c0, Nat.le_refl _, rfl, by go_num, HG.out, HROW.out, hl0, HF⟩
      case round =>
        clear HG HROW hl0 HF
        obtain ⟨k, z, cur, hk, hz, rfl, hg, hrow, hlc, hF⟩ := hrel
        have k0 := hg.cell HK0.out (by simp)
        by_cases hk0 : k = 0
        · subst hk0
          obtain rfl : z = -1 := by omega
          clear hz
          have HROW := hid hrow
          have HG := hid hg
          clear hrow hg k0
          go_wp2_with fail
          go_ret
          exact ⟨gB, rfl, by have := HROW.out; rw [show cur = F from hF.out, HFF.out] at this; exact this, grown_trans HW0.out HG.out⟩
        · obtain ⟨i, rfl⟩ : ∃ i, k = i + 1 := ⟨k - 1, by omega⟩
          obtain rfl : z = (i : Int) := by omega
          clear hz hk0
          have hin : i < nS := by omega
          have r0 := hrow.cell i (by omega)
          have HD : Hid (dnF A (stp A cur i) i = F) := hid hF.out
          clear hF
          obtain ⟨v, hv⟩ : ∃ v, v = cur[i]'(by omega) := ⟨_, rfl⟩
          rw [← hv] at r0
          have HVV : Hid (cur.getD i false = v) := hid (by rw [hv]; simp [List.getD, List.getElem?_eq_getElem (show i < cur.length by omega)])
          clear hv
          cases v
          · have HROW := hid hrow
            have HG := hid hg
            clear hrow hg k0
            go_wp2_with fail
            refine ⟨⟨i, (i : Int) - 1, cur, by omega, rfl, by go_num, HG.out, HROW.out, hlc, hid ?_⟩, by simp [intOf]; try omega⟩
            have := HD.out
            unfold stp at this
            rwa [if_neg (by rw [HVV.out]; simp)] at this
          · obtain ⟨bA, oA, pa, na, ca, rfl, a2w, hzr⟩ := HA.out i hin
            have a2 := (grown_trans HW0.out hg).cell a2w (by simp)
            clear a2w
            have hzl := hzr.len
            have hzc := hzr.cap
            have hzm := hzr.max
            have HZ := hid hzr
            have HROW := hid hrow
            have HG := hid hg
            have HVI := hid (HV.out i hin)
            have HD2 : Hid (dnF A (mkL i cur (A i)) i = F) := hid (by
              have := HD.out
              unfold stp at this
              rwa [if_pos HVV.out] at this)
            clear hrow hg HD HVV hzr
            generalize hzs : A i = zs at *
            clear hzs
            go_wp2_with fail
            clear r0 k0 a2
            go_loopw [51] (fun y wi => ∃ (j : Nat), j ≤ na ∧ y = .int .i64 j ∧ w0.grownBy wi none ∧ BlRow wi gB (mkL i cur (zs.take j))) (fun y _ => na - (intOf y).toNat)
            case atStart => exact ⟨0, Nat.zero_le _, rfl, HG.out, HROW.out⟩
            case round =>
              obtain ⟨j, hj, rfl, hg0, hrow⟩ := hrel
              have HG0 := hid hg0
              clear hg0
              by_cases hlt : j < na
              · obtain ⟨b1, o1, rfl, c0⟩ := (HZ.out.keep (grown_trans HW0.out HG0.out)).cel j (by omega)
                have HST := hid (mkL_step i cur zs j (by omega))
                have hll : (mkL i cur (zs.take j)).length = nS := by rw [mkL_len]; exact hlc
                have HB := hid (HVI.out j (by omega))
                generalize mkL i cur (zs.take j) = cu2 at *
                obtain ⟨z, hz⟩ : ∃ z, z = zs[j]'(by omega) := ⟨_, rfl⟩
                rw [← hz] at c0 HST HB
                clear hz
                have hz0 := HB.out.1
                have hzi := HB.out.2
                obtain ⟨q, rfl⟩ : ∃ q : Nat, z = (q : Int) := ⟨z.toNat, by omega⟩
                have hqn : q < nS := by omega
                have r0 := hrow.cell q (by omega)
                have r1 := hrow.free q
                have HR2 := hid (hrow.set q true)
                clear hrow HB
                go_wp2_with fail
                refine ⟨⟨j + 1, by omega, by go_num, grown_new HG0.out (grown_setCell _ ⟨gB, q, none⟩ _) (fun g e => by cases e; rw [HGB.out]; exact Nat.le_refl _), ?_⟩, by simp [intOf]; omega⟩
                rw [HST.out]
                unfold mk1
                rw [if_pos ⟨hz0, hzi⟩]
                exact HR2.out
              · obtain rfl : j = na := by omega
                rw [List.take_of_length_le (by omega)] at hrow
                have HROW2 := hid hrow
                clear hrow
                go_wp2_with fail
                exact ⟨⟨i, (i : Int) - 1, mkL i cur zs, by omega, rfl, by go_num, HG0.out, HROW2.out, by rw [mkL_len]; exact hlc, HD2⟩, by simp [intOf]; try omega⟩
end Go.Proofs.Ytdmlcddieadelaa

set_option linter.unusedVariables false
set_option linter.unusedSimpArgs false
namespace Go.Proofs.Ytdmlcddieadelaa
open Go.RowKit Go.Maps _root_.Nm Lx
/-- the numbers below k that are marked -/
def ndL (F : List Bool) : Nat → List Int
  | 0 => []
  | k + 1 => if F.getD k false = true then ndL F k ++ [(k : Int)] else ndL F k
theorem ndL_len (F : List Bool) : ∀ k, (ndL F k).length ≤ k
  | 0 => Nat.le_refl _
  | k + 1 => by
    have := ndL_len F k
    unfold ndL
    split
    · simp; omega
    · omega
def intR (l : List Int) : List (List Value) := l.map fun z => [Value.int .i64 z]
theorem intR_add (l : List Int) (z : Int) : intR l ++ [[.int .i64 z]] = intR (l ++ [z]) := by simp [intR]
theorem infoIntT : (Try.prog.info? 3).map (fun i => (i.zero, i.size, i.bytes)) = some (some (.int .i64 0), 1, 8) := by kernel_rfl
theorem intZT : (Value.int .i64 0).cells.size = 1 := rfl
theorem one_posI : 0 < 1 := by decide
theorem one_srdI (w : World) (e : TypeId) (x : Value) (b : Nat) (hb : b = w.heap.size) : SRd (w.alloc (.cells #[x] e)) 1 (some ⟨b, 0, none⟩) 1 1 [[x]] := one_srd w e 1 [x] rfl b hb
theorem int_oneT (z : Int) : ∀ u ∈ [Value.int .i64 z], u.oneCell' = true := by
  intro u hu
  rw [List.mem_singleton.1 hu]
  rfl
theorem ZRd.ofOwn {w : World} {base : Nat} {e : TypeId} {p : Option Addr} {n c : Nat} {l : List Int} (h : SOwn w base e 1 p n c (intR l)) : ZRd w .i64 p n c l where
  len := by have := SRd.len h.rd; simpa [intR] using this
  cap := SRd.cap h.rd
  max := SRd.max h.rd
  cel := fun j hj => by
    have hl : j < (intR l).length := by simpa [intR] using hj
    obtain ⟨b, o, hp, hc⟩ := SRd.at h.rd (by decide) (i := j) hl
    refine ⟨b, o, hp, ?_⟩
    have := hc 0 (by simp [intR])
    simpa [intR] using this
set_option maxHeartbeats 64000000 in
set_option maxRecDepth 100000 in
theorem rNeeds_n (pS : Option Addr) (nS cS : Nat) (pG : Option Addr) (nG cG : Nat) (A : Nat → List Int) (pp : Option Addr) (m cp : Nat) (ps : List Int) (w : World) (hcS : nS ≤ cS ∧ cS ≤ 9223372036854775807) (hn : nS ≤ 60)
    (hA : ∀ i, i < nS → ArgAt w pS i (A i)) (hv : ∀ i, i < nS → ∀ j (hj : j < (A i).length), 0 ≤ (A i)[j] ∧ (A i)[j] < (i : Int)) (hp : ZRd w .i64 pp m cp ps) :
    Calls Try.prog 29 #[.agg #[.slice pS nS cS, .slice pG nG cG], .slice pp m cp] w fun e w' => ∃ p n c, e = .returned (.slice p n c) ∧ ZRd w' .i64 p n c (ndL (ndF A nS ps) nS) ∧ w.grownBy w' none := by
  have HM := hid fun w' (hg : w.grownBy w' none) => marked_n pS nS cS pG nG cG A pp m cp ps w' hcS hn (fun i hi => (hA i hi).keep hg) hv (hp.keep hg)
  have hFl := ndF_len A nS ps
  generalize ndF A nS ps = F at *
  clear hA hv hp
  have hW := World.grownBy_alloc w (.cells #[.slice pS nS cS, .slice pG nG cG] 25 (0, 0)) none
  obtain ⟨⟨k0, k1⟩, -⟩ := box2n (blk0 w (.cells #[.slice pS nS cS, .slice pG nG cG] 25 (0, 0)))
  go_enter Try.func29, Try.ntmps29
  go_upto_region 2 with fail
  generalize (w.alloc _) = w0 at *
  go_wp2_with (go_at_call 63; (with_reducible refine (HM.out _ hW).mono ?_); rintro e w3 ⟨gB, rfl, hrow, hg3⟩; replace hW := grown_trans hW hg3; have HROW := hid hrow; clear hrow hg3 k0 k1)
  have HWM := hid hW
  clear hW
  obtain ⟨B0, hB0⟩ : ∃ b, b = w3.heap.size := ⟨_, rfl⟩
  go_loopw [5, 12] (fun z y wr => ∃ (j n c : Nat) (p : Option Addr), j ≤ nS ∧ z = .slice p n c ∧ y = .int .i64 j ∧ n ≤ j ∧ w3.grownBy wr none ∧ SOwn wr B0 3 1 p n c (intR (ndL F j))) (fun z y _ => nS - (intOf y).toNat)
  case atStart => exact ⟨0, 0, 0, none, Nat.zero_le _, rfl, rfl, Nat.le_refl _, grown_refl _ _, SOwn.nil _ _ _ _⟩
  case round =>
    obtain ⟨j, n, c, p, hj, rfl, rfl, hnj, hg, hown⟩ := hrel
    by_cases hlt : j < nS
    · have hgw := grown_trans HWM.out hg
      have hs0 := hg.size
      have HG := hid hgw
      have r0 := (HROW.out.keep hg).cell j (by omega)
      have HO := hid hown
      obtain ⟨v, hv⟩ : ∃ v, v = F[j]'(by omega) := ⟨_, rfl⟩
      rw [← hv] at r0
      have HVV : Hid (F.getD j false = v) := hid (by rw [hv]; simp [List.getD, List.getElem?_eq_getElem (show j < F.length by omega)])
      have HGR := hid hg
      clear hv hown hgw hg
      cases v
      · go_wp2_with fail
        refine ⟨⟨j + 1, n, c, p, by omega, rfl, by go_num, by omega, HGR.out, ?_⟩, by simp [intOf]; omega⟩
        unfold ndL
        rw [if_neg (by rw [HVV.out]; simp)]
        exact HO.out
      · go_wp2_with (with_reducible refine wls_append _ rfl (.tmp 18) (.tmp 20) 36 rfl 3 1 (.int .i64 0) 8 Try.underlying36 infoIntT intZT one_posI B0 _ _ _ (intR (ndL F j)) rfl (SOwn.alloc HO.out _) _ 1 [.int .i64 (j : Int)] rfl (one_srdI _ _ _ _ (by simp)) (int_oneT _) (by omega) (by omega) w3 (grown_trans HGR.out (World.grownBy_alloc _ _ _)) (by omega) (by simp; omega) ?_; intro p' c2 w4 ho2 hg4 hbx; clear hbx)
        refine ⟨⟨j + 1, n + 1, c2, p', by omega, rfl, by go_num, by omega, hg4, ?_⟩, by simp [intOf]; omega⟩
        rw [intR_add] at ho2
        unfold ndL
        rw [if_pos HVV.out]
        exact ho2
    · obtain rfl : j = nS := by omega
      go_wp2_with fail
      go_ret
      exact ⟨p, n, c, rfl, ZRd.ofOwn hown, grown_trans HWM.out hg⟩
end Go.Proofs.Ytdmlcddieadelaa

set_option linter.unusedVariables false
set_option linter.unusedSimpArgs false
namespace Go.Proofs.Ytdmlcddieadelaa
open Go.RowKit Go.Shelf _root_.Nm Lx
attribute [local go_sem] Oper.semAt_some
/-- the first k numbers that come -/
def upB (n k : Nat) : List Nat := (List.range k).map fun t => n - 1 - t
theorem upB_succ (n k : Nat) : upB n (k + 1) = upB n k ++ [n - 1 - k] := by simp [upB, List.range_succ]
theorem upB_len (n k : Nat) : (upB n k).length = k := by simp [upB]
/-- what a round keeps: what lay below n₀, and the iterator's box -/
def KpB (n₀ Bs : Nat) (v : Value) (A B : World) : Prop := Below n₀ A B ∧ (A.cell? ⟨Bs, 0, none⟩ = some v → B.cell? ⟨Bs, 0, none⟩ = some v)
theorem kpB_t {n₀ Bs : Nat} {v : Value} {A B C : World} (h : KpB n₀ Bs v A B) (k : KpB n₀ Bs v B C) : KpB n₀ Bs v A C := ⟨h.1.trans k.1, fun x => k.2 (h.2 x)⟩
theorem kpB_b {n₀ Bs : Nat} {v : Value} {w : World} (hn : n₀ ≤ w.heap.size) (W : World) (l : Nat) (o o' : Obj) (hl : w.heap.size ≤ l) (h : W.heap[l]? = some o) (hc : o.isCells = false) (hw : o.isWalk = false) : KpB n₀ Bs v W (W.putObj l o') :=
  ⟨belowK_b hn W l o o' hl h hc hw, fun x => cell_kept x (grownBy_putObj' W l o') (fun r e => by cases e; exact ⟨o, h, hc⟩)⟩
theorem SpAt.below {A B : World} {n₀ : Nat} {p : Option Addr} {i : Nat} {cs : List Value} {nm : ByteArray} {na n1 n2 : Nat} (h : SpAt A p i cs nm na n1 n2) (hp : ∀ a, p = some a → a.block < n₀) (hB : Below n₀ A B) : SpAt B p i cs nm na n1 n2 := by
  obtain ⟨b, o, k, pa, ca, g, p1, c1, p2, c2, h1, h2, a0, a1, a2, a3, a4, a5⟩ := h
  have hb : b < n₀ := hp _ h1
  exact ⟨b, o, k, pa, ca, g, p1, c1, p2, c2, h1, h2, (hB.cell (p := ⟨b, _, none⟩) hb).trans a0, (hB.cell (p := ⟨b, _, none⟩) hb).trans a1, (hB.cell (p := ⟨b, _, none⟩) hb).trans a2, (hB.cell (p := ⟨b, _, none⟩) hb).trans a3, (hB.cell (p := ⟨b, _, none⟩) hb).trans a4, (hB.cell (p := ⟨b, _, none⟩) hb).trans a5⟩
set_option maxRecDepth 100000 in
set_option maxHeartbeats 8000000 in
theorem bw1_in (n : Nat) (hn : 1 ≤ n) (l Bs n₀ : Nat) (pS : Option Addr) (nS cS : Nat) (C : Nat → List Value) (P : Nat → ByteArray) (NA N1 N2 : Nat → Nat) (hcS : nS ≤ cS ∧ cS ≤ 9223372036854775807) (hp : ∀ a, pS = some a → nS = 0 ∨ a.block < n₀) (J Jx : List (Fin nS) → World → Prop)
    (hY : ∀ pre x W, J pre W → pre.length < nS → YieldAt Fence.wide (n - 1) Try.prog l #[.int .i64 (x.val : Int), .agg (C x.val).toArray] W fun e W' =>
      (e = .returned (.bool true) ∧ J (pre ++ [x]) W' ∧ KpB n₀ Bs (.slice pS nS cS) W W') ∨ (e = .returned (.bool false) ∧ Jx (pre ++ [x]) W'))
    (W : World) (hBs : W.cell? ⟨Bs, 0, none⟩ = some (.slice pS nS cS)) (hS : ∀ i, i < nS → SpAt W pS i (C i) (P i) (NA i) (N1 i) (N2 i)) (h0 : J [] W) :
    CallsIn Fence.wide n Try.prog 90 #[.func (.yield l) #[] #[], .pointer (some ⟨Bs, 0, none⟩)] W fun e W' => (∃ v, e = .returned v) ∧
      ((∃ ys : List (Fin nS), ys.map (·.val) = upB nS nS ∧ J ys W') ∨ (∃ pre, True ∧ Jx pre W')) := by
  have HY := hid hY
  have HS := hid hS
  have HP := hid hp
  have H0 := hid h0
  have HBS := hid hBs
  obtain ⟨hncS, hcmS⟩ := hcS
  clear hY hS hp h0
  refine callsIn_of_wp Try.func90 rfl trivial ?_ rfl
  simp only [Try.ntmps90, List.size_toArray, List.length_cons, List.length_nil, Nat.reduceAdd, Nat.reduceSub, Array.replicate_succ, Array.replicate_zero, List.push_toArray, List.append_toArray, List.nil_append, List.cons_append]
  gi_wp2
  clear hBs
  gi_loopw [3] (fun i wr => ∃ (k : Nat) (z : Int) (pre : List (Fin nS)), k ≤ nS ∧ z = (k : Int) - 1 ∧ i = .int .i64 z ∧ pre.map (·.val) = upB nS (nS - k) ∧ Hid (J pre wr) ∧ Hid (KpB n₀ Bs (.slice pS nS cS) W wr)) (fun i _ => (intOf i + 1).toNat)
  case atStart => exact ⟨nS, (nS : Int) - 1, [], Nat.le_refl _, rfl, by go_num, by simp [upB], H0, hid ⟨Below.refl _ _, fun x => x⟩⟩
  case round =>
    obtain ⟨k, z, pre, hk, hz, rfl, hpre, HJ, HK⟩ := hrel
    have k0 := HK.out.2 HBS.out
    have HPRE := hid hpre
    have hlen : pre.length = nS - k := by have := congrArg List.length hpre; simpa [upB_len] using this
    clear hpre
    by_cases hk0 : k = 0
    · subst hk0
      obtain rfl : z = -1 := by omega
      clear hz
      gi_wp2
      go_end0
      exact ⟨⟨_, rfl⟩, .inl ⟨pre, by have := HPRE.out; simpa using this, HJ.out⟩⟩
    · obtain ⟨i, rfl⟩ : ∃ i, k = i + 1 := ⟨k - 1, by omega⟩
      obtain rfl : z = (i : Int) := by omega
      clear hz hk0
      have hin : i < nS := by omega
      obtain ⟨b, o, kd, pa, ca, g, p1, c1, p2, c2, rfl, hck, a0, a1, a2, a3, a4, a5⟩ := (HS.out i hin).below (fun a ha => (HP.out a ha).resolve_left (by omega)) HK.out.1
      obtain ⟨fn, tmps, assign, body, hy, hR⟩ := HY.out pre ⟨i, hin⟩ wr HJ.out (by omega)
      dsimp only at hy
      rw [hck] at hy
      have HR := hid hR
      clear hR hck
      generalize P i = nm at *
      generalize NA i = na at *
      generalize N1 i = n1 at *
      generalize N2 i = n2 at *
      gi_wp2
      refine HR.out.mono ?_
      rintro e W3 (⟨rfl, hJ3, hk3⟩ | ⟨rfl, hJx3⟩)
      · have HJ3 := hid hJ3
        have HK3 := hid hk3
        clear hJ3 hk3
        gi_wp2
        go_roundw
        case rel => exact ⟨i, (i : Int) - 1, pre ++ [⟨i, hin⟩], by omega, rfl, by go_num, by rw [List.map_append, HPRE.out, show nS - i = (nS - (i + 1)) + 1 by omega, upB_succ]; simp; omega, HJ3, hid (kpB_t HK.out HK3.out)⟩
        case measure => simp [intOf]; try omega
      · gi_wp2
        refine bodyPost_ret (results_none rfl _ _ _) rfl ?_
        exact ⟨⟨_, rfl⟩, .inr ⟨pre ++ [⟨i, hin⟩], trivial, hJx3⟩⟩
set_option maxHeartbeats 1000000 in
theorem bw_in (n : Nat) (a : Option Addr) (len cap : Nat) (w : World) :
    CallsIn Fence.wide n Try.prog 60 #[.slice a len cap] w fun e w' => e = .returned (.func (.func 90) #[] #[.pointer (some ⟨w.heap.size, 0, none⟩)]) ∧ w' = w.alloc (.cells #[.slice a len cap] 22) := by
  refine callsIn_of_wp Try.func60 rfl trivial ?_ rfl
  simp only [Try.ntmps60, List.size_toArray, List.length_cons, List.length_nil, Nat.reduceAdd, Nat.reduceSub, Array.replicate_succ, Array.replicate_zero, List.push_toArray, List.append_toArray, List.nil_append, List.cons_append]
  gi_wp2
  go_ret
  exact ⟨rfl, rfl⟩
theorem bw_stops (n : Nat) (hn : 1 ≤ n) (Bs n₀ : Nat) (pS : Option Addr) (nS cS : Nat) (C : Nat → List Value) (P : Nat → ByteArray) (NA N1 N2 : Nat → Nat) (hcS : nS ≤ cS ∧ cS ≤ 9223372036854775807) (hp : ∀ a, pS = some a → nS = 0 ∨ a.block < n₀) (w : World) (hBs : Bs < w.heap.size) (hn₀ : n₀ ≤ w.heap.size)
    (hc : w.cell? ⟨Bs, 0, none⟩ = some (.slice pS nS cS)) (hS : ∀ i, i < nS → SpAt w pS i (C i) (P i) (NA i) (N1 i) (N2 i)) :
    SeqStopsK Fence.wide n Try.prog 90 #[.pointer (some ⟨Bs, 0, none⟩)] (fun x : Fin nS => #[Value.int .i64 (x.val : Int), .agg (C x.val).toArray]) (KpB n₀ Bs (.slice pS nS cS)) (fun ys => ys.map (·.val) = upB nS nS) (fun _ => True) nS w := fun l J Jx W hW _ _ hY h0 =>
  bw1_in n hn l Bs n₀ pS nS cS C P NA N1 N2 hcS hp J Jx hY W ((hW.cell (p := ⟨Bs, 0, none⟩) hBs).trans hc) (fun i hi => (hS i hi).below (fun a ha => (hp a ha).resolve_left (by omega)) (hW.mono hn₀)) h0
end Go.Proofs.Ytdmlcddieadelaa

set_option linter.unusedVariables false
set_option linter.unusedSimpArgs false
namespace Go.Proofs.Ytdmlcddieadelaa
open Go.RowKit Go.Maps Go.Shelf _root_.Nm Lx
theorem wlsIn_append {F : Fence} {fn : Nat} {P : Program} {ops : Array Oper} {rest : List Oper} {o : Oper} {a : Act} {Q : Exit → Act → World → Prop} (w : World) (hgd : o.guard = none) (s x : Operand) (t : TypeId)
    (ho : o.op = .call { callee := .builtin .append, args := #[s, x], argTypes := #[t, t] })
    (e : TypeId) (k : Nat) (z : Value) (bytes : Nat) (h1 : P.underlying t = some (.slice e)) (h2 : (P.info? e).map (fun i => (i.zero, i.size, i.bytes)) = some (some z, k, bytes)) (hz : z.cells.size = k) (hk : 0 < k)
    (base : Nat) (p : Option Addr) (n c : Nat) (l : List (List Value)) (hs : a.eval s = .slice p n c) (hown : SOwn w base e k p n c l)
    (sp : Option Addr) (c' : Nat) (r : List Value) (hx : a.eval x = .slice sp 1 c') (hrd : SRd w k sp 1 c' [r]) (h1c : ∀ u ∈ r, u.oneCell' = true)
    (b1 : n + 1 ≤ 9223372036854775807) (b2 : (n + 1) * bytes ≤ 140737488355328) (w0 : World) (hg0 : w0.grownBy w none) (hb0 : w0.heap.size ≤ base) (hbase : base ≤ w.heap.size)
    (hK : ∀ p' c2 w', SOwn w' base e k p' (n + 1) c2 (l ++ [r]) → w0.grownBy w' none → (∀ G O, w.heap[G]? = some O → (∀ q, p = some q → q.block ≠ G) → w'.heap[G]? = some O) → wpListIn F fn P ops Q rest (a.put o.dst (.slice p' (n + 1) c2)) w') : wpListIn F fn P ops Q (o :: rest) a w := by
  obtain ⟨i, hi, hz0, hz1, hz2⟩ := info_parts h2
  subst hz2
  have hrk : r.length = k := hrd.each r (by simp)
  obtain ⟨b, o', rfl, hc⟩ := hrd.at hk (i := 0) (by simp)
  refine wpListIn_append_own w hgd s x t ho base e i z k i.bytes h1 hi hz0 hz1 rfl hz hk _ n l.flatten hs hown.2.2 ⟨b, o', none⟩ 1 c' r hx (by simpa using hrk) ?_ h1c (by unfold maxLen; omega) b2 hbase ?_
  · intro j u hu
    obtain ⟨hj, rfl⟩ := List.getElem?_eq_some_iff.1 hu
    have := hc j (by simpa using hj)
    rw [add_addr]
    simpa using this
  · intro v' w' hown' hgr _
    obtain ⟨hl, h3⟩ := hown'
    have hv' : ∃ p' c2, v' = .slice p' (n + 1) c2 := by
      rcases h3 with ⟨rfl, h4⟩ | ⟨g, cap, cur, rfl, _⟩
      · exact ⟨none, 0, by rw [h4]⟩
      · exact ⟨_, _, rfl⟩
    obtain ⟨p', c2, rfl⟩ := hv'
    refine hK p' c2 w' ⟨by simp [hown.1], ?_, by simpa using ⟨hl, h3⟩⟩ (grown_new hg0 hgr fun g hg => ?_) (fun G O hG hne => (hgr.block G (lt_of_block hG) ?_).trans hG)
    · intro q hq
      rcases List.mem_append.1 hq with h | h
      · exact hown.2.1 q h
      · rw [List.mem_singleton.1 h]; exact hrk
    · cases p with
      | none => simp [Value.ownBlock] at hg
      | some q =>
        simp [Value.ownBlock] at hg
        have := (hown.lt q rfl).1
        omega
    · cases p with
      | none => simp [Value.ownBlock]
      | some q =>
        simp only [Value.ownBlock, ne_eq, Option.some.injEq]
        exact fun e => hne q rfl e.symm
set_option maxHeartbeats 64000000 in
set_option maxRecDepth 100000 in
theorem need_any (q : Int) (e : Nat) (Bn gB n : Nat) (L : List Bool) (w : World) (hn : n ≤ 60) (hl : L.length = n) (he : e ≤ n) (hb : w.cell? ⟨Bn, 0, none⟩ = some (.slice (some ⟨gB, 0, none⟩) n n)) (hrow : BlRow w gB L) :
    Calls Try.prog 59 #[.int .i64 q, .int .i64 (e : Int), .pointer (some ⟨Bn, 0, none⟩)] w fun r w' => r = .returned (.tuple #[]) ∧ BlRow w' gB (mk1 e L q) ∧ w.grownBy w' (some gB) := by
  by_cases hz0 : 0 ≤ q
  · by_cases hzn : q < (e : Int)
    · obtain ⟨j, rfl⟩ : ∃ j : Nat, q = (j : Int) := ⟨q.toNat, by omega⟩
      have hjn : j < n := by omega
      have r0 := hrow.cell j (by omega)
      have r1 := hrow.free j
      have HR2 := hid (hrow.set j true)
      have HM : Hid (mk1 e L (j : Int) = L.set j true) := hid (by unfold mk1; rw [if_pos ⟨hz0, hzn⟩]; simp)
      clear hrow
      go_enter Try.func59, Try.ntmps59
      go_wp2_with fail
      go_end0
      exact ⟨rfl, by rw [HM.out]; exact HR2.out, grown_setCell _ ⟨gB, j, none⟩ _⟩
    · have HR := hid hrow
      have HM : Hid (mk1 e L q = L) := hid (by unfold mk1; rw [if_neg (fun h => hzn h.2)])
      clear hrow
      go_enter Try.func59, Try.ntmps59
      go_wp2_with fail
      go_end0
      exact ⟨rfl, by rw [HM.out]; exact HR.out, grown_refl _ _⟩
  · have HR := hid hrow
    have HM : Hid (mk1 e L q = L) := hid (by unfold mk1; rw [if_neg (fun h => hz0 h.1)])
    clear hrow
    go_enter Try.func59, Try.ntmps59
    go_wp2_with fail
    go_end0
    exact ⟨rfl, by rw [HM.out]; exact HR.out, grown_refl _ _⟩
end Go.Proofs.Ytdmlcddieadelaa

set_option linter.unusedVariables false
set_option linter.unusedSimpArgs false
namespace Go.Proofs.Ytdmlcddieadelaa
open Go.RowKit Go.Maps Go.Shelf _root_.Nm Lx
attribute [local go_sem] Oper.semAt_some
/-- a step's cells, and its arguments -/
def StA (w : World) (cs : List Value) (na n1 n2 : Nat) (zs : List Int) : Prop := ∃ (k : Int) (nm : ByteArray) (pa : Option Addr) (ca : Nat) (g : Bool) (p1 : Option Addr) (c1 : Nat) (p2 : Option Addr) (c2 : Nat), cs = [.int .i64 k, .string nm, .slice pa na ca, .bool g, .slice p1 n1 c1, .slice p2 n2 c2] ∧ ZRd w .i64 pa na ca zs
theorem mk1_at (e : Nat) (bs : List Bool) (z : Int) : (mk1 e bs z).getD e false = bs.getD e false := by
  unfold mk1
  split
  · rename_i h
    have : z.toNat ≠ e := by omega
    simp [List.getD, List.getElem?_set, this]
  · rfl
theorem mkL_at (e : Nat) : ∀ (zs : List Int) (bs : List Bool), (mkL e bs zs).getD e false = bs.getD e false
  | [], _ => rfl
  | z :: zs, bs => by
    show (mkL e (mk1 e bs z) zs).getD e false = _
    rw [mkL_at e zs, mk1_at]
theorem stpF_len (A : Nat → List Int) {n : Nat} : ∀ (pre : List (Fin n)) (bs : List Bool), (pre.foldl (fun bs i => stp A bs i.val) bs).length = bs.length
  | [], _ => rfl
  | x :: pre, bs => by
    show (pre.foldl (fun bs i => stp A bs i.val) (stp A bs x.val)).length = _
    rw [stpF_len A pre, stp_len]
theorem upB_zero (n : Nat) : upB (n + 1) (n + 1) = n :: upB n n := by
  unfold upB
  rw [List.range_succ_eq_map]
  simp [Function.comp_def]
  intro a _
  omega
theorem upB_dnF (A : Nat → List Int) : ∀ (n : Nat) (bs : List Bool), (upB n n).foldl (stp A) bs = dnF A bs n
  | 0, _ => rfl
  | n + 1, bs => by
    rw [upB_zero]
    show (upB n n).foldl (stp A) (stp A bs n) = dnF A (stp A bs n) n
    exact upB_dnF A n _
theorem grown_of_below {a b : World} (h : Below a.heap.size a b) : a.grownBy b none := ⟨h.os, h.tape, h.output, h.size, fun k hk _ => h.block k hk⟩
theorem below_of_grown {a b : World} (h : a.grownBy b none) : Below a.heap.size a b := ⟨h.os, h.tape, h.output, h.size, fun k hk => h.block k hk (by simp)⟩
/-- the boxes of lower.Needs: the figure, the row, the closure -/
def NdBx (w W : World) (pS : Option Addr) (nS cS : Nat) : Prop := W.cell? ⟨w.heap.size, 0, none⟩ = some (.slice pS nS cS) ∧ W.cell? ⟨w.heap.size + 1 + 1, 0, none⟩ = some (.slice (some ⟨w.heap.size + 1, 0, none⟩) nS nS) ∧ W.cell? ⟨w.heap.size + 1 + 1 + 1, 0, none⟩ = some (.func (.func 59) #[] #[.pointer (some ⟨w.heap.size + 1 + 1, 0, none⟩)])
theorem NdBx.kept {w W W' : World} {pS : Option Addr} {nS cS : Nat} (h : NdBx w W pS nS cS) (hg : W.grownBy W' (some (w.heap.size + 1))) : NdBx w W' pS nS cS :=
  ⟨hg.cell h.1 (by simp; try omega), hg.cell h.2.1 (by simp; try omega), hg.cell h.2.2 (by simp; try omega)⟩
theorem NdBx.keep {w W W' : World} {pS : Option Addr} {nS cS : Nat} (h : NdBx w W pS nS cS) (hg : W.grownBy W' none) : NdBx w W' pS nS cS :=
  ⟨hg.cell h.1 (by simp), hg.cell h.2.1 (by simp), hg.cell h.2.2 (by simp)⟩
theorem NdBx.own {w : World} {pS : Option Addr} {nS cS : Nat} {X Y : World} {row : Option Nat} (h : NdBx w X pS nS cS) (hg : X.grownBy Y row) (hr : ∀ r, row = some r → ∃ o : Obj, X.heap[r]? = some o ∧ o.isCells = false) : NdBx w Y pS nS cS :=
  ⟨cell_kept h.1 hg hr, cell_kept h.2.1 hg hr, cell_kept h.2.2 hg hr⟩
theorem NdBx.start {w W : World} {pS : Option Addr} {nS cS : Nat} {pG : Option Addr} {nG cG : Nat} (h : (((w.alloc (.cells #[.slice pS nS cS, .slice pG nG cG] 25)).alloc (.cells (Array.replicate nS (.bool false)) 4)).alloc (.cells #[.slice (some ⟨w.heap.size + 1, 0, none⟩) nS nS] 91)).alloc (.cells #[.func (.func 59) #[] #[.pointer (some ⟨w.heap.size + 1 + 1, 0, none⟩)]] 92) = W) : NdBx w W pS nS cS ∧ BlRow W (w.heap.size + 1) (List.replicate nS false) ∧ w.grownBy W none ∧ w.heap.size + 4 = W.heap.size := by
  subst h
  have g1 := World.grownBy_alloc w (.cells #[.slice pS nS cS, .slice pG nG cG] 25) none
  have hA : (w.alloc (.cells #[.slice pS nS cS, .slice pG nG cG] 25)).heap.size = w.heap.size + 1 := by simp
  obtain ⟨⟨k0, k1⟩, -⟩ := box2n (blk0 w (.cells #[.slice pS nS cS, .slice pG nG cG] 25 (0, 0)))
  have r0 := BlRow.made (w.alloc (.cells #[.slice pS nS cS, .slice pG nG cG] 25)) nS
  rw [hA] at r0
  generalize hwA : w.alloc (.cells #[.slice pS nS cS, .slice pG nG cG] 25) = wA at *
  have g2 := World.grownBy_alloc wA (.cells (Array.replicate nS (.bool false)) 4) none
  have hB : (wA.alloc (.cells (Array.replicate nS (.bool false)) 4)).heap.size = w.heap.size + 1 + 1 := by simp [hA]
  generalize wA.alloc (.cells (Array.replicate nS (.bool false)) 4) = wB at *
  have g3 := World.grownBy_alloc wB (.cells #[.slice (some ⟨w.heap.size + 1, 0, none⟩) nS nS] 91) none
  have k2 := cell_of_one (heap_alloc_new wB (.cells #[.slice (some ⟨w.heap.size + 1, 0, none⟩) nS nS] 91))
  rw [hB] at k2
  have hC : (wB.alloc (.cells #[.slice (some ⟨w.heap.size + 1, 0, none⟩) nS nS] 91)).heap.size = w.heap.size + 1 + 1 + 1 := by simp [hB]
  generalize wB.alloc (.cells #[.slice (some ⟨w.heap.size + 1, 0, none⟩) nS nS] 91) = wC at *
  have g4 := World.grownBy_alloc wC (.cells #[.func (.func 59) #[] #[.pointer (some ⟨w.heap.size + 1 + 1, 0, none⟩)]] 92) none
  have k3 := cell_of_one (heap_alloc_new wC (.cells #[.func (.func 59) #[] #[.pointer (some ⟨w.heap.size + 1 + 1, 0, none⟩)]] 92))
  rw [hC] at k3
  have hD : (wC.alloc (.cells #[.func (.func 59) #[] #[.pointer (some ⟨w.heap.size + 1 + 1, 0, none⟩)]] 92)).heap.size = w.heap.size + 4 := by simp [hC]
  exact ⟨⟨g4.cell (g3.cell (g2.cell k0 (by simp)) (by simp)) (by simp), g4.cell k2 (by simp), k3⟩, (r0.keep g3).keep g4, grown_trans (grown_trans (grown_trans g1 g2) g3) g4, hD.symm⟩
set_option maxHeartbeats 64000000 in
set_option maxRecDepth 100000 in
theorem sNeeds_n (pS : Option Addr) (nS cS : Nat) (pG : Option Addr) (nG cG : Nat) (C : Nat → List Value) (P : Nat → ByteArray) (NA N1 N2 : Nat → Nat) (A : Nat → List Int) (pp : Option Addr) (m cp : Nat) (ps : List Int) (w : World) (hcS : nS ≤ cS ∧ cS ≤ 9223372036854775807) (hn : nS ≤ 60)
    (hS : ∀ i, i < nS → SpAt w pS i (C i) (P i) (NA i) (N1 i) (N2 i))
    (hA : ∀ i, i < nS → StA w (C i) (NA i) (N1 i) (N2 i) (A i)) (hv : ∀ i, i < nS → ∀ j (hj : j < (A i).length), 0 ≤ (A i)[j] ∧ (A i)[j] < (i : Int)) (hp : ZRd w .i64 pp m cp ps) :
    Calls Try.prog 26 #[.agg #[.slice pS nS cS, .slice pG nG cG], .slice pp m cp] w fun e w' => ∃ p n c, e = .returned (.slice p n c) ∧ ZRd w' .i64 p n c (ndL (ndF A nS ps) nS) ∧ w.grownBy w' none := by
  have HS := hid hS
  have HA := hid hA
  have HV := hid hv
  have HP := hid hp
  have hpl := hp.len
  have hpc := hp.cap
  have hpm := hp.max
  have HC := hid hcS
  obtain ⟨hncS, hcmS⟩ := hcS
  have hmk := run_make_bools nS (by omega)
  clear hS hA hv hp
  obtain ⟨⟨k0, k1⟩, -⟩ := box2n (blk0 w (.cells #[.slice pS nS cS, .slice pG nG cG] 25 (0, 0)))
  refine (callsIn_wide (n := 9)).1 ?_
  refine callsIn_of_wp_marks Try.func26 rfl trivial ?_ rfl
  simp only [Try.ntmps26, List.size_toArray, List.length_cons, List.length_nil, Nat.reduceAdd, Nat.reduceSub, Array.replicate_succ, Array.replicate_zero, List.push_toArray, List.append_toArray, List.nil_append, List.cons_append]
  gi_wp2
  clear k0 k1
  generalize hW1 : (((w.alloc _).alloc _).alloc _).alloc _ = W1
  obtain ⟨h1, h2, h3, h4⟩ := NdBx.start hW1
  have HB1 := hid h1
  have HR1 := hid h2
  have HG1 := hid h3
  clear h1 h2 h3 hW1 hmk
  gi_loopw [22] (fun y wr => ∃ j : Nat, j ≤ m ∧ y = .int .i64 j ∧ Hid (NdBx w wr pS nS cS) ∧ Hid (BlRow wr (w.heap.size + 1) (mkL nS (List.replicate nS false) (ps.take j))) ∧ Hid (w.grownBy wr none) ∧ w.heap.size + 4 ≤ wr.heap.size) (fun y _ => m - (intOf y).toNat)
  case atStart => exact ⟨0, Nat.zero_le _, rfl, HB1, HR1, HG1, by omega⟩
  case round =>
    clear HB1 HR1 HG1
    obtain ⟨j, hj, rfl, HBX, HROW, HG, hs4⟩ := hrel
    by_cases hlt : j < m
    · obtain ⟨b1, o1, rfl, c0⟩ := (HP.out.keep HG.out).cel j (by omega)
      have HST := hid (mkL_step nS (List.replicate nS false) ps j (by omega))
      have hll : (mkL nS (List.replicate nS false) (ps.take j)).length = nS := by rw [mkL_len, List.length_replicate]
      generalize mkL nS (List.replicate nS false) (ps.take j) = cur at *
      obtain ⟨z, hz⟩ : ∃ z, z = ps[j]'(by omega) := ⟨_, rfl⟩
      rw [← hz] at c0 HST
      clear hz
      have k0 := HBX.out.1
      have k2 := HBX.out.2.2
      gi_wp2_with (refine ⟨trivial, ?_⟩; gi_at_call 59; refine (callsIn_wide.2 (need_any z nS (w.heap.size + 1 + 1) (w.heap.size + 1) nS cur _ hn hll (Nat.le_refl _) HBX.out.2.1 HROW.out)).mono ?_; rintro e w' ⟨rfl, hrow', hg'⟩; have HR2 := hid hrow'; have HG2 := hid hg'; clear hrow' hg')
      have hs5 := HG2.out.size
      refine ⟨⟨j + 1, by omega, by go_num, hid (HBX.out.kept HG2.out), hid (by rw [HST.out]; exact HR2.out), hid (grown_new HG.out HG2.out (fun g e => by cases e; omega)), by omega⟩, by simp [intOf]; omega⟩
    · obtain rfl : j = m := by omega
      have k0 := HBX.out.1
      gi_wp2_with (refine ⟨trivial, ?_⟩; gi_at_call 60; refine (bw_in _ _ _ _ _).mono ?_; rintro e w' ⟨rfl, rfl⟩)
      rw [List.take_of_length_le (by omega)] at HROW
      have hl0 : (mkL nS (List.replicate nS false) ps).length = nS := by rw [mkL_len, List.length_replicate]
      have HF : Hid (dnF A (mkL nS (List.replicate nS false) ps) nS = ndF A nS ps) := hid rfl
      generalize mkL nS (List.replicate nS false) ps = c1 at *
      have gA := World.grownBy_alloc wr (.cells #[.slice pS nS cS] 22) none
      have cB := cell_of_one (heap_alloc_new wr (.cells #[.slice pS nS cS] 22))
      have hs6 : (wr.alloc (.cells #[.slice pS nS cS] 22)).heap.size = wr.heap.size + 1 := by simp
      have hW2 := grown_trans HG.out gA
      have hBX2 := HBX.out.keep gA
      have hR2 := HROW.out.keep gA
      have hB2 := below_of_grown hW2
      have hS2 : ∀ i, i < nS → SpAt (wr.alloc (.cells #[.slice pS nS cS] 22)) pS i (C i) (P i) (NA i) (N1 i) (N2 i) := fun i hi => (HS.out i hi).keep hW2
      have hpb : ∀ a, pS = some a → nS = 0 ∨ a.block < w.heap.size := fun a ha => by
        rcases Nat.eq_zero_or_pos nS with h | h
        · exact .inl h
        · obtain ⟨b, o, _, _, _, _, _, _, _, _, h1, _, a0, _⟩ := HS.out 0 h
          rw [h1] at ha
          cases ha
          exact .inr (World.block_lt_of_cell? _ _ a0)
      clear gA
      generalize wr.alloc (.cells #[.slice pS nS cS] 22) = W2 at *
      have h9 : 1 ≤ 9 := by omega
      refine wpIn_rangeFunc_ownH rfl h9 (gf := 90) (lb := #[.pointer (some ⟨wr.heap.size, 0, none⟩)]) rfl trivial (enters_of Try.func90 (by kernel_rfl) rfl)
        (bw_stops (9 - 1) (by omega) wr.heap.size w.heap.size pS nS cS C P NA N1 N2 HC.out hpb W2 (by omega) hW2.size cB hS2) kpB_t (kpB_b hW2.size) (Below.refl _ _) (fun _ => rfl)
        (fun pre W => (BlRow W (w.heap.size + 1) (pre.foldl (fun bs i => stp A bs i.val) c1) ∧ NdBx w W pS nS cS) ∧ Below w.heap.size w W)
        (fun _ _ _ => False)
        (OwnFrom.and (Own.from (fun s X Y row hs hg hr => ⟨(grownBy_keeps_cells hg hr hs.1 rfl).trans hs.1, hs.2.own hg hr⟩) _) (ownFrom_below (Nat.le_refl _) hW2.size))
        (fun _ _ _ _ _ hs _ _ => hs)
        ⟨⟨hR2, hBX2⟩, hB2⟩
        (fun x a' W => ∃ Bx, w.heap.size + 1 + 1 + 1 < Bx ∧ W.heap[Bx]? = some (.cells (C x.val).toArray 64 (0, 0)) ∧ a' = { tmps := #[.agg #[.slice pS nS cS, .slice pG nG cG], .slice pp j cp, .pointer (some ⟨w.heap.size, 0, none⟩), undef, .slice none 0 0, .pointer (some ⟨w.heap.size + 1 + 1, 0, none⟩), .pointer (some ⟨w.heap.size + 1 + 1 + 1, 0, none⟩), undef, u8, .int .i64 (x.val : Int), .pointer (some ⟨Bx, 0, none⟩), undef, undef, undef, undef, .pointer (some ⟨w.heap.size, 0, none⟩), .slice pS nS cS, .int .i64 (nS : Int), .slice (some ⟨w.heap.size + 1, 0, none⟩) nS nS, .func (.func 59) #[] #[.pointer (some ⟨w.heap.size + 1 + 1, 0, none⟩)], .slice pp j cp, .int .i64 (j : Int), .int .i64 (j : Int), .bool false, u24, u25, u26, u27, u28, u29, u30, u31, u32, .pointer (some ⟨w.heap.size, 0, none⟩), .slice pS nS cS, .func (.func 90) #[] #[.pointer (some ⟨wr.heap.size, 0, none⟩)], .int .i64 (x.val : Int), .agg (C x.val).toArray, undef, undef, undef, undef, undef, undef, undef, undef, undef, undef, undef, undef, undef, undef, undef, undef, undef, undef, undef, undef, undef, undef, undef, undef, undef, undef, undef, undef, undef, undef, undef], defers := [] })
        (fun x a' _ X Y row hs hg hr => by obtain ⟨Bx, h1, h2, h3⟩ := hs; exact ⟨Bx, h1, (grownBy_keeps_cells hg (fun r e => (hr r e).2) h2 rfl).trans h2, h3⟩)
        ?assign ?body ?done ?stop
      case assign =>
        rintro l pre x W K ⟨⟨hrow, hbx⟩, hB⟩ hK
        obtain ⟨kd, nm, pa, ca, g, p1, c1', p2, c2, hck, -⟩ := HA.out x.val x.isLt
        have hlt3 := World.block_lt_of_cell? _ _ hbx.2.2
        have HI := hid (And.intro (And.intro hrow hbx) hB)
        have HK := hid hK
        have HCK := hid hck
        rw [hck]
        clear hrow hbx hB hK hck
        obtain ⟨⟨i0, i1, i2, i3, i4, i5⟩, fa⟩ := box6 (blk0 W (.cells #[.int .i64 0, .string ⟨#[]⟩, .slice none 0 0, .bool false, .slice none 0 0, .slice none 0 0] 64 (0, 0)))
        have f0 := fa 0; have f1 := fa 1; have f2 := fa 2; have f3 := fa 3; have f4 := fa 4; have f5 := fa 5
        clear fa
        gi_wp2
        exact HK.out _ _ ((KeepsOthers.alloc _ _).from _) ⟨(Below.refl _ W).alloc HI.out.2.size _, fun h => (World.grownBy_alloc W _ none).cell h (by simp)⟩ ⟨⟨HI.out.1.1.keep (World.grownBy_alloc W _ none), HI.out.1.2.keep (World.grownBy_alloc W _ none)⟩, HI.out.2.alloc HI.out.2.size _⟩ ⟨W.heap.size, hlt3, by rw [HCK.out]; exact blk0 W _, by rw [HCK.out]⟩
      case body =>
        rintro l pre x a' W hl ⟨r, hr⟩ ⟨⟨hrow, hbx⟩, hB⟩ ⟨Bx, hBx, bX, rfl⟩ hlt
        obtain ⟨kd, nm, pa, ca, g, p1, c1', p2, c2, hck, hzr⟩ := HA.out x.val x.isLt
        obtain ⟨cur, hcur⟩ : ∃ c, c = pre.foldl (fun bs i => stp A bs i.val) c1 := ⟨_, rfl⟩
        rw [← hcur] at hrow
        have hlc : cur.length = nS := by rw [hcur, stpF_len]; exact hl0
        rw [hck] at bX ⊢
        have hxl : x.val < nS := x.isLt
        obtain ⟨i, hxv⟩ : ∃ i, i = x.val := ⟨_, rfl⟩
        rw [← hxv] at bX hzr hxl ⊢
        obtain ⟨zs, hzs⟩ : ∃ z, z = A i := ⟨_, rfl⟩
        rw [← hzs] at hzr
        generalize NA i = na at *
        generalize N1 i = n1 at *
        generalize N2 i = n2 at *
        have hzl := hzr.len
        have hzc := hzr.cap
        have hzm := hzr.max
        obtain ⟨⟨b0, b1, b2, -⟩, -⟩ := box6 bX
        have h1' : 1 ≤ 9 - 1 - 1 := by omega
        have HCUR := hid hcur
        have HXV := hid hxv
        have HZS := hid hzs
        have HZ := hid hzr
        have HB := hid hB
        have HBX := hid hbx
        have HROW := hid hrow
        have hil : i < cur.length := by rw [hlc]; exact hxl
        obtain ⟨v, hv⟩ : ∃ v, v = cur[i]'hil := ⟨_, rfl⟩
        have HV0 := hid hv.symm
        have HVG : Hid (cur.getD i false = v) := hid (by rw [hv]; simp [List.getD, List.getElem?_eq_getElem hil])
        clear hck hcur hzs hzr hB hbx hrow hxv hv bX b0 b1
        gi_wp2
        cases v
        · gi_loopw [41] (fun y wi => ∃ q : Nat, q ≤ na ∧ y = .int .i64 q ∧ Hid (W.grownBy wi (some (w.heap.size + 1))) ∧ Hid (BlRow wi (w.heap.size + 1) (cur))) (fun y _ => na - (intOf y).toNat)
          case atStart => exact ⟨0, Nat.zero_le _, rfl, hid (grown_refl _ _), HROW⟩
          case round =>
            obtain ⟨q, hq, rfl, HGI, HRW⟩ := hrel
            have hbi := HBX.out.kept HGI.out
            have k2 := hbi.2.1
            have kc := hbi.2.2
            have HBI := hid hbi
            clear hbi
            by_cases hlq : q < na
            · have hne : ∀ p, pa = some p → some p.block ≠ some (w.heap.size + 1) := fun p hp e => by
                obtain ⟨b, o, h1, h2, _⟩ := HZ.out.block (by omega)
                rw [h1] at hp
                cases hp
                simp at e
                omega
              obtain ⟨b1, o1, rfl, c0⟩ := ((HZ.out.keep (grown_of_below HB.out)).kept HGI.out (.inr hne)).cel q (by omega)
              clear hne
              have r0 := HRW.out.cell i (by omega)
              rw [HV0.out] at r0
              generalize zs[q]'(by omega) = z at *
              gi_wp2
              go_roundw
              case rel => exact ⟨q + 1, by omega, by go_num, HGI, HRW⟩
              case measure => simp [intOf]; try omega
            · obtain rfl : q = na := by omega
              gi_wp2
              refine ⟨KeepsFrom.of_grownBy HGI.out (fun k e => by cases e; omega), ⟨(Below.refl _ W).grown HGI.out HB.out.size (fun k e => by cases e; omega), fun h => HGI.out.cell h (by simp; omega)⟩, ⟨?_, HBI.out⟩, HB.out.grown HGI.out HB.out.size (fun k e => by cases e; omega)⟩
              rw [List.foldl_append]
              show BlRow _ _ (stp A (pre.foldl _ _) x.val)
              rw [← HCUR.out, ← HXV.out]
              unfold stp
              rw [if_neg (by rw [HVG.out]; simp)]
              have := HRW.out
              exact this
        · gi_loopw [41] (fun y wi => ∃ q : Nat, q ≤ na ∧ y = .int .i64 q ∧ Hid (W.grownBy wi (some (w.heap.size + 1))) ∧ Hid (BlRow wi (w.heap.size + 1) (mkL i cur (zs.take q)))) (fun y _ => na - (intOf y).toNat)
          case atStart => exact ⟨0, Nat.zero_le _, rfl, hid (grown_refl _ _), HROW⟩
          case round =>
            obtain ⟨q, hq, rfl, HGI, HRW⟩ := hrel
            have hbi := HBX.out.kept HGI.out
            have k2 := hbi.2.1
            have kc := hbi.2.2
            have HBI := hid hbi
            clear hbi
            by_cases hlq : q < na
            · have hne : ∀ p, pa = some p → some p.block ≠ some (w.heap.size + 1) := fun p hp e => by
                obtain ⟨b, o, h1, h2, _⟩ := HZ.out.block (by omega)
                rw [h1] at hp
                cases hp
                simp at e
                omega
              obtain ⟨b1, o1, rfl, c0⟩ := ((HZ.out.keep (grown_of_below HB.out)).kept HGI.out (.inr hne)).cel q (by omega)
              clear hne
              have HST := hid (mkL_step i cur zs q (by omega))
              have hll : (mkL i cur (zs.take q)).length = nS := by rw [mkL_len]; exact hlc
              have r0 := HRW.out.cell i (by omega)
              have hat : (mkL i cur (zs.take q))[i]'(by omega) = true := by
                have := mkL_at i (zs.take q) cur
                simp only [List.getD, List.getElem?_eq_getElem (show i < (mkL i cur (zs.take q)).length by omega), List.getElem?_eq_getElem (show i < cur.length by omega), Option.getD_some] at this
                rw [this]
                exact HV0.out
              rw [hat] at r0
              clear hat
              generalize mkL i cur (zs.take q) = cu2 at *
              obtain ⟨z, hz⟩ : ∃ z, z = zs[q]'(by omega) := ⟨_, rfl⟩
              rw [← hz] at c0 HST
              clear hz
              gi_wp2_with (refine ⟨trivial, ?_⟩; gi_at_call 59; refine (CallsIn.inRound l (callsIn_wide.2 (need_any z i (w.heap.size + 1 + 1) (w.heap.size + 1) nS cu2 _ hn hll (Nat.le_of_lt hxl) HBI.out.2.1 HRW.out))).mono ?_; rintro e w' ⟨rfl, hrow', hg'⟩; have HR2 := hid hrow'; have HG2 := hid hg'; clear hrow' hg')
              go_roundw
              case rel => exact ⟨q + 1, by omega, by go_num, hid (grown_trans HGI.out HG2.out), hid (by rw [HST.out]; exact HR2.out)⟩
              case measure => simp [intOf]; try omega
            · obtain rfl : q = na := by omega
              gi_wp2
              refine ⟨KeepsFrom.of_grownBy HGI.out (fun k e => by cases e; omega), ⟨(Below.refl _ W).grown HGI.out HB.out.size (fun k e => by cases e; omega), fun h => HGI.out.cell h (by simp; omega)⟩, ⟨?_, HBI.out⟩, HB.out.grown HGI.out HB.out.size (fun k e => by cases e; omega)⟩
              rw [List.foldl_append]
              show BlRow _ _ (stp A (pre.foldl _ _) x.val)
              rw [← HCUR.out, ← HXV.out]
              unfold stp
              rw [if_pos HVG.out]
              have := HRW.out
              rw [List.take_of_length_le (by omega), HZS.out] at this
              exact this
      case done =>
        rintro D ys W hD hys ⟨⟨hrow, hbx⟩, hB⟩ hK
        have hFE : ys.foldl (fun bs i => stp A bs i.val) c1 = ndF A nS ps := by
          rw [← HF.out, ← upB_dnF, ← hys, List.foldl_map]
        rw [hFE] at hrow
        have hFl := ndF_len A nS ps
        obtain ⟨F, hF⟩ : ∃ F, F = ndF A nS ps := ⟨_, rfl⟩
        rw [← hF] at hrow hFl
        have HFF := hid hF
        have HROW3 := hid hrow
        have HBX3 := hid hbx
        have HB3 := hid hB
        have HK := hid hK
        have hDW : D < W.heap.size := (Array.getElem?_eq_some_iff.1 hK).1
        have k2 := hbx.2.1
        clear hrow hbx hB hK hF hFE
        gi_wp2
        obtain ⟨B0, hB0⟩ : ∃ b, b = W.heap.size := ⟨_, rfl⟩
        gi_loopw [13, 56] (fun z y wr => ∃ (j n c : Nat) (p : Option Addr), j ≤ nS ∧ z = .slice p n c ∧ y = .int .i64 j ∧ n ≤ j ∧ Hid (W.grownBy wr none) ∧ Hid (SOwn wr B0 3 1 p n c (intR (ndL F j)))) (fun z y _ => nS - (intOf y).toNat)
        case atStart => exact ⟨0, 0, 0, none, Nat.zero_le _, rfl, rfl, Nat.le_refl _, hid (grown_refl _ _), hid (SOwn.nil _ _ _ _)⟩
        case round =>
          obtain ⟨q, n, c, p, hq, rfl, rfl, hnj, HG7, HO⟩ := hrel
          have hs7 := HG7.out.size
          have k2' := (HBX3.out.keep HG7.out).2.1
          by_cases hlq : q < nS
          · have r0 := (HROW3.out.keep HG7.out).cell q (by omega)
            obtain ⟨v, hv⟩ : ∃ v, v = F[q]'(by omega) := ⟨_, rfl⟩
            rw [← hv] at r0
            have HVV : Hid (F.getD q false = v) := hid (by rw [hv]; simp [List.getD, List.getElem?_eq_getElem (show q < F.length by omega)])
            clear hv
            cases v
            · gi_wp2
              go_roundw
              case rel => exact ⟨q + 1, n, c, p, by omega, rfl, by go_num, by omega, HG7, hid (by unfold ndL; rw [if_neg (by rw [HVV.out]; simp)]; exact HO.out)⟩
              case measure => simp [intOf]; try omega
            · gi_wp2_with (gi_at_builtin; refine wlsIn_append _ rfl (.tmp 63) (.tmp 65) 36 rfl 3 1 (.int .i64 0) 8 Try.underlying36 infoIntT intZT one_posI B0 _ _ _ (intR (ndL F q)) rfl (SOwn.alloc HO.out _) _ 1 [.int .i64 (q : Int)] rfl (one_srdI _ _ _ _ (by simp)) (int_oneT _) (by omega) (by omega) W (grown_trans HG7.out (World.grownBy_alloc _ _ _)) (by omega) (by simp; omega) ?_; intro p' c2 w4 ho2 hg4 hbx; clear hbx)
              go_roundw
              case rel => exact ⟨q + 1, n + 1, c2, p', by omega, rfl, by go_num, by omega, hid hg4, hid (by rw [intR_add] at ho2; unfold ndL; rw [if_pos HVV.out]; exact ho2)⟩
              case measure => simp [intOf]; try omega
          · obtain rfl : q = nS := by omega
            gi_wp2
            have hK7 := (HG7.out.block D hDW (by simp)).trans HK.out
            refine ⟨by simp, .inl ⟨_, _, rfl, run_takeDeferred hK7, ?_⟩⟩
            refine ⟨_, results_tmp rfl _ _ _, p, n, c, rfl, ?_, ?_⟩
            · rw [← HFF.out]
              refine (ZRd.ofOwn HO.out).kept (grownBy_putObj' _ D (.deferred none)) (.inr fun a ha e => ?_)
              have := (SOwn.lt HO.out a ha).1
              simp at e
              omega
            · exact grown_new (grown_trans (grown_of_below HB3.out) HG7.out) (grownBy_putObj' _ D (.deferred none)) (fun g e => by cases e; have := hW2.size; omega)
      case stop =>
        rintro D c pre W _ _ h _
        exact h.elim
end Go.Proofs.Ytdmlcddieadelaa

set_option linter.unusedVariables false
set_option linter.unusedSimpArgs false
namespace Go.Proofs.Ytdmlcddieadelaa
open Go.RowKit Go.Maps _root_.Nm Lx
theorem ratF_r {w : World} (z g : Bool) {p1 p2 : Option Addr} {n1 c1 n2 c2 : Nat} {xs ys : List Nat} (hr0 : IRd w .u16 p1 n1 c1 xs) (hx : Dg 65536 xs) (hr1 : IRd w .u16 p2 n2 c2 ys) (hy : Dg 65536 ys) (hn : n1 ≤ 1048576) (hm : n2 ≤ 1048576) :
    ∃ R, RatF w z g p1 n1 c1 p2 n2 c2 R := by
  cases z
  · exact ⟨_, { rright := fun h => (by cases h), none := fun _ => rfl }⟩
  · obtain ⟨r, h1, _⟩ := right3_full_r g hr0 hx hr1 hy (by omega) (by omega)
    exact ⟨r, { rright := fun _ => h1, none := fun h => (by cases h) }⟩
theorem ex_boolN (P : Prop) : ∃ b : Bool, b = true ↔ P := by
  by_cases h : P
  · exact ⟨true, by simp [h]⟩
  · exact ⟨false, by simp [h]⟩
noncomputable def stpN (P : Nat → ByteArray) (x : Int) (i : Nat) : Int := if x = 0 then twiceE P i else x
theorem errS_0 {k : Int} {n : Nat} {b R : Bool} {nm : List UInt8} (h : errS k n b R nm = 0) : b = true := by
  cases b
  · exfalso
    unfold errS at h
    split at h
    · omega
    · split at h
      · omega
      · simp at h
  · rfl
theorem scanE_0 {X : Nat → Int} : ∀ {f k : Nat}, scanE X k f = 0 → ∀ i, k ≤ i → i < k + f → X i = 0
  | 0, _, _, i, h1, h2 => by omega
  | f + 1, k, h, i, h1, h2 => by
    unfold scanE at h
    by_cases e : X k = 0
    · rw [if_pos e] at h
      rcases Nat.eq_or_lt_of_le h1 with rfl | h3
      · exact e
      · exact scanE_0 h i h3 (by omega)
    · rw [if_neg e] at h
      exact absurd h e
theorem rightRef (pS : Option Addr) (nS cS : Nat) (pG : Option Addr) (nG cG : Nat) (C : Nat → List Value) (P : Nat → ByteArray) (NA N1 N2 : Nat → Nat) (D : Nat → List Value) (MA M1 M2 : Nat → Nat) (w : World) (hcS : nS ≤ cS ∧ cS ≤ 9223372036854775807) (hcG : nG ≤ cG ∧ cG ≤ 9223372036854775807)
    (hS : ∀ i, i < nS → SpAt w pS i (C i) (P i) (NA i) (N1 i) (N2 i) ∧ StB w (C i) (P i) (NA i) (N1 i) (N2 i)) (hG : ∀ i, i < nG → GlAt w pG i (D i) (MA i) (M1 i) (M2 i) ∧ GlB w (D i) (MA i) (M1 i) (M2 i)) :
    ∃ (x : Int) (A : Nat → List Int), (∀ W, w.grownBy W none → Calls Try.prog 6 #[.agg #[.slice pS nS cS, .slice pG nG cG]] W fun e w' => e = .returned (.int .i64 x) ∧ W.grownBy w' none) ∧ (∀ i, i < nS → StA w (C i) (NA i) (N1 i) (N2 i) (A i)) ∧ (x = 0 → nS ≤ 40 ∧ ∀ i, i < nS → ∀ j (hj : j < (A i).length), 0 ≤ (A i)[j] ∧ (A i)[j] < (i : Int)) := by
  have hone : ∀ i (hi : i < nS), ∃ q : Int × List Int, (∀ W, w.grownBy W none → Calls Try.prog 24 #[.slice pS nS cS, .int .i64 i] W fun e w' => e = .returned (.int .i64 q.1) ∧ W.grownBy w' none) ∧ StA w (C i) (NA i) (N1 i) (N2 i) q.2 ∧ (q.1 = 0 → ∀ j (hj : j < q.2.length), 0 ≤ q.2[j] ∧ q.2[j] < (i : Int)) := by
    intro i hi
    obtain ⟨h1, ⟨k, pa, ca, g, p1, c1, p2, c2, zs, xs, ys, hck, hz, hx, hy, ⟨dx, dy⟩, hnm⟩, b1, b2⟩ := hS i hi
    obtain ⟨R, hR⟩ := ratF_r (decide (k = 2)) g hx dx hy dy b1 b2
    obtain ⟨b, hb⟩ := ex_boolN (∀ j (hj : j < zs.length), 0 ≤ zs[j] ∧ zs[j] < (i : Int))
    refine ⟨(stpN P (errS k (NA i) b R (P i).data.toList) i, zs), fun W hW => ?_, ⟨k, P i, pa, ca, g, p1, c1, p2, c2, hck, hz⟩, fun h => ?_⟩
    · exact rStep_n pS nS cS C P NA N1 N2 i W hcS hi (fun j hj => (hS j hj).1.keep hW) k (P i) pa (NA i) ca g p1 (N1 i) c1 p2 (N2 i) c2 zs b R hck (hz.keep hW) hb (hR.keep hW) _ rfl
    · have he : errS k (NA i) b R (P i).data.toList = 0 := by
        have h : stpN P (errS k (NA i) b R (P i).data.toList) i = 0 := h
        unfold stpN at h
        by_cases e : errS k (NA i) b R (P i).data.toList = 0
        · exact e
        · rw [if_neg e] at h
          exact absurd h e
      exact hb.1 (errS_0 he)
  obtain ⟨Q, hQ⟩ : ∃ Q : Nat → Int × List Int, ∀ i (hi : i < nS), (∀ W, w.grownBy W none → Calls Try.prog 24 #[.slice pS nS cS, .int .i64 i] W fun e w' => e = .returned (.int .i64 (Q i).1) ∧ W.grownBy w' none) ∧ StA w (C i) (NA i) (N1 i) (N2 i) (Q i).2 ∧ ((Q i).1 = 0 → ∀ j (hj : j < (Q i).2.length), 0 ≤ (Q i).2[j] ∧ (Q i).2[j] < (i : Int)) :=
    ⟨fun i => if hi : i < nS then Classical.choose (hone i hi) else (0, []), fun i hi => by
      dsimp only
      rw [dif_pos hi]
      exact Classical.choose_spec (hone i hi)⟩
  have htwo : ∀ i (hi : i < nG), ∃ y : Int, (∀ W, w.grownBy W none → Calls Try.prog 25 #[.agg (D i).toArray, .int .i64 nS] W fun e w' => e = .returned (.int .i64 y) ∧ W.grownBy w' none) := by
    intro i hi
    obtain ⟨h1, ⟨k, pa, ca, g, p1, c1, p2, c2, zs, xs, ys, hck, hz, hx, hy, dx, dy⟩, b1, b2⟩ := hG i hi
    obtain ⟨R, hR⟩ := ratF_r (decide (k = 9)) g hx dx hy dy b1 b2
    obtain ⟨b, hb⟩ := ex_boolN (∀ j (hj : j < zs.length), 0 ≤ zs[j] ∧ zs[j] < (nS : Int))
    refine ⟨errF k (MA i) b R, fun W hW => ?_⟩
    rw [hck]
    exact rRight14_n k pa (MA i) ca g p1 (M1 i) c1 p2 (M2 i) c2 zs nS b R W (hz.keep hW) hb (hR.keep hW)
  obtain ⟨Y, hY⟩ : ∃ Y : Nat → Int, ∀ i (hi : i < nG), (∀ W, w.grownBy W none → Calls Try.prog 25 #[.agg (D i).toArray, .int .i64 nS] W fun e w' => e = .returned (.int .i64 (Y i)) ∧ W.grownBy w' none) :=
    ⟨fun i => if hi : i < nG then Classical.choose (htwo i hi) else 0, fun i hi => by
      dsimp only
      rw [dif_pos hi]
      exact Classical.choose_spec (htwo i hi)⟩
  refine ⟨figE nS nG (fun i => (Q i).1) Y, fun i => (Q i).2, fun W hW => ?_, fun i hi => (hQ i hi).2.1, fun h => ?_⟩
  · exact rRightFig pS nS cS pG nG cG C P NA N1 N2 D MA M1 M2 _ (fun i => (Q i).1) Y W hcS hcG (fun i hi => (hS i hi).1.keep hW) (fun i hi => (hG i hi).1.keep hW) (fun i hi _ W' hW' => (hQ i hi).1 W' (grown_trans hW hW')) (fun i hi W' hW' => hY i hi W' (grown_trans hW hW')) _ rfl
  · unfold figE at h
    by_cases e : 40 < nS ∨ 8 < nG
    · rw [if_pos e] at h
      omega
    · rw [if_neg e] at h
      refine ⟨by omega, fun i hi => (hQ i hi).2.2 ?_⟩
      by_cases e2 : scanE (fun i => (Q i).1) 0 nS = 0
      · exact scanE_0 e2 i (Nat.zero_le _) (by omega)
      · rw [if_neg e2] at h
        exact absurd h e2
theorem StA.at {w : World} {p : Option Addr} {i : Nat} {cs : List Value} {nm : ByteArray} {na n1 n2 : Nat} {zs : List Int} (h : StA w cs na n1 n2 zs) (hp : SpAt w p i cs nm na n1 n2) : ArgAt w p i zs := by
  obtain ⟨k, nm', pa, ca, g, p1, c1, p2, c2, hck, hz⟩ := h
  obtain ⟨b, o, k', pa', ca', g', p1', c1', p2', c2', rfl, hck', _, _, a2, _⟩ := hp
  rw [hck] at hck'
  simp only [List.cons.injEq, Value.slice.injEq, true_and] at hck'
  obtain ⟨_, _, ⟨rfl, rfl⟩, _⟩ := hck'
  exact ⟨b, o, pa, na, ca, rfl, a2, hz⟩
end Go.Proofs.Ytdmlcddieadelaa
