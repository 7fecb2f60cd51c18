/-
  Expressions in memory as trees; contracts of Count and of both functions Depth.
-/
import Derived.Test.YtolpcclobmgneaaAstA
import Derived.Test.YtolpcclobmgneaaBox4
import Derived.IntWalk
set_option linter.unusedVariables false
set_option linter.unusedSimpArgs false
namespace Go.Proofs.Ytolpcclobmgneaa
open Go.RowKit _root_.Nm
/-- a node without its arguments -/
structure Hd where
  k : Int
  nm : ByteArray
  g : Bool
  num : List Nat
  den : List Nat
  pos : Int
inductive Tr where
  | node (h : Hd) (l : List Tr)
/-- the seven cells read as the tree; m bounds the depth -/
def ERd (w : World) : Nat → List Value → Tr → Prop
  | 0, _, _ => False
  | m + 1, cs, .node h l => ∃ (pn : Option Addr) (nn cn : Nat) (pd : Option Addr) (nd cd : Nat) (pa : Option Addr) (na ca : Nat),
      cs = [.int .i64 h.k, .string h.nm, .bool h.g, .slice pn nn cn, .slice pd nd cd, .slice pa na ca, .int .i64 h.pos] ∧ IRd w .u16 pn nn cn h.num ∧ IRd w .u16 pd nd cd h.den ∧
      (l.length = na ∧ na ≤ ca ∧ ca ≤ 9223372036854775807 ∧ h.nm.size ≤ maxLen) ∧
      ∀ i (hi : i < l.length), ∃ b o cs', pa = some ⟨b, o, none⟩ ∧ cs'.length = 7 ∧ (∀ j (hj : j < cs'.length), w.cell? ⟨b, o + i * 7 + j, none⟩ = some cs'[j]) ∧ ERd w m cs' l[i]
theorem ERd.keep {w w' : World} (hg : w.grownBy w' none) : ∀ {m : Nat} {cs : List Value} {t : Tr}, ERd w m cs t → ERd w' m cs t
  | 0, _, _, h => h.elim
  | m + 1, cs, .node h l, ⟨pn, nn, cn, pd, nd, cd, pa, na, ca, h1, h2, h3, h4, h5⟩ => by
    refine ⟨pn, nn, cn, pd, nd, cd, pa, na, ca, h1, h2.keep hg, h3.keep hg, h4, fun i hi => ?_⟩
    obtain ⟨b, o, cs', k1, k2, k3, k4⟩ := h5 i hi
    exact ⟨b, o, cs', k1, k2, fun j hj => hg.cell (k3 j hj) (by simp), k4.keep hg⟩
theorem ERd.shape {w : World} : ∀ {m : Nat} {cs : List Value} {t : Tr}, ERd w m cs t → ∃ (k : Int) (nm : ByteArray) (g : Bool) (pn : Option Addr) (nn cn : Nat) (pd : Option Addr) (nd cd : Nat) (pa : Option Addr) (na ca : Nat) (pos : Int), cs = [.int .i64 k, .string nm, .bool g, .slice pn nn cn, .slice pd nd cd, .slice pa na ca, .int .i64 pos]
  | 0, _, _, h => h.elim
  | m + 1, cs, .node h l, ⟨pn, nn, cn, pd, nd, cd, pa, na, ca, h1, _⟩ => ⟨_, _, _, _, _, _, _, _, _, _, _, _, _, h1⟩
theorem seven {l : List Value} (h : l.length = 7) : ∃ a b c d e f g, l = [a, b, c, d, e, f, g] := by
  match l, h with
  | [a, b, c, d, e, f, g], _ => exact ⟨a, b, c, d, e, f, g, rfl⟩
theorem box7 {w : World} {G : Nat} {a b c d e f g : Value} {T : TypeId} (hb : w.heap[G]? = some (.cells #[a, b, c, d, e, f, g] T (0, 0))) :
    (w.cell? ⟨G, 0, none⟩ = some a ∧ w.cell? ⟨G, 1, none⟩ = some b ∧ w.cell? ⟨G, 2, none⟩ = some c ∧ w.cell? ⟨G, 3, none⟩ = some d ∧ w.cell? ⟨G, 4, none⟩ = some e ∧ w.cell? ⟨G, 5, none⟩ = some f ∧ w.cell? ⟨G, 6, none⟩ = some g) ∧
    w.frozen? ⟨G, 0, none⟩ = false ∧ w.frozen? ⟨G, 1, none⟩ = false ∧ w.frozen? ⟨G, 2, none⟩ = false ∧ w.frozen? ⟨G, 3, none⟩ = false ∧ w.frozen? ⟨G, 4, none⟩ = false ∧ w.frozen? ⟨G, 5, none⟩ = false ∧ w.frozen? ⟨G, 6, none⟩ = false := by
  have k := fun i => cell_of_row w G i _ _ _ hb
  have k0 := k 0
  have k1 := k 1
  have k2 := k 2
  have k3 := k 3
  have k4 := k 4
  have k5 := k 5
  have k6 := k 6
  simp at k0 k1 k2 k3 k4 k5 k6
  have f := fun i => frozen_of_row w G i _ _ hb
  exact ⟨⟨k0, k1, k2, k3, k4, k5, k6⟩, f 0, f 1, f 2, f 3, f 4, f 5, f 6⟩
def zeroE (T : TypeId) : Obj := .cells #[.int .i64 0, .string ⟨#[]⟩, .bool false, .slice none 0 0, .slice none 0 0, .slice none 0 0, .int .i64 0] T (0, 0)

set_option maxHeartbeats 8000000 in
set_option maxRecDepth 100000 in
theorem count_any : ∀ (m : Nat) (cs : List Value) (t : Tr) (w : World), ERd w m cs t → Calls Try.prog 9 #[.agg cs.toArray] w fun e w' => (∃ z, e = .returned (.int .i64 z)) ∧ w.grownBy w' none
  | 0, _, _, _, h => h.elim
  | m + 1, cs, .node h l, w, hE => by
    have IH := hid (count_any m)
    obtain ⟨pn, nn, cn, pd, nd, cd, pa, na, ca, rfl, hn, hd, ⟨hla, hac, hca, hnm⟩, hargs⟩ := hE
    have HX := hid hargs
    clear hargs hn hd
    have HA := hid (World.grownBy_alloc w (.cells #[.int .i64 h.k, .string h.nm, .bool h.g, .slice pn nn cn, .slice pd nd cd, .slice pa na ca, .int .i64 h.pos] 30 (0, 0)) none)
    go_enter Try.func9, Try.ntmps9
    go_wp2_with fail
    go_loopw [3, 9] (fun z x wr => ∃ k : Nat, k ≤ na ∧ (∃ y, z = .int .i64 y) ∧ x = .int .i64 k ∧ w.grownBy wr none) (fun z x _ => na - (intOf x).toNat)
    case atStart => exact ⟨0, Nat.zero_le _, ⟨_, rfl⟩, rfl, HA.out⟩
    case round =>
      obtain ⟨k, hk, ⟨y, rfl⟩, rfl, hg⟩ := hrel
      by_cases hlt : k < na
      · obtain ⟨b, o, cs', rfl, h7, hc, hE⟩ := HX.out k (by omega)
        obtain ⟨e1, e2, e3, pn', nn', cn', pd', nd', cd', pa', na', ca', e7, rfl⟩ := hE.shape
        have c0 := hg.cell (hc 0 (by simp)) (by simp)
        have c1 := hg.cell (hc 1 (by simp)) (by simp)
        have c2 := hg.cell (hc 2 (by simp)) (by simp)
        have c3 := hg.cell (hc 3 (by simp)) (by simp)
        have c4 := hg.cell (hc 4 (by simp)) (by simp)
        have c5 := hg.cell (hc 5 (by simp)) (by simp)
        have c6 := hg.cell (hc 6 (by simp)) (by simp)
        simp only [List.getElem_cons_zero, List.getElem_cons_succ, Nat.add_zero] at c0 c1 c2 c3 c4 c5 c6
        have HE := hid (ERd.keep (grown_trans hg (World.grownBy_alloc wr (.cells #[.int .i64 e1, .string e2, .bool e3, .slice pn' nn' cn', .slice pd' nd' cd', .slice pa' na' ca', .int .i64 e7] 30 (0, 0)) none)) hE)
        clear hc hE h7
        obtain ⟨⟨k0, k1, k2, k3, k4, k5, k6⟩, f0, f1, f2, f3, f4, f5, f6⟩ := box7 (blk0 wr (zeroE 30))
        unfold zeroE at k0 k1 k2 k3 k4 k5 k6 f0 f1 f2 f3 f4 f5 f6
        go_wp2_with (go_at_call 9; refine (IH.out _ _ _ HE.out).mono ?_; rintro e w2 ⟨⟨y2, rfl⟩, hg2⟩)
        exact ⟨⟨k + 1, by omega, ⟨_, rfl⟩, by go_num, grown_trans hg (grown_trans (World.grownBy_alloc _ _ none) hg2)⟩, by simp [intOf]; omega⟩
      · obtain rfl : k = na := by omega
        go_wp2_with fail
        go_ret
        exact ⟨⟨_, rfl⟩, hg⟩
end Go.Proofs.Ytolpcclobmgneaa
