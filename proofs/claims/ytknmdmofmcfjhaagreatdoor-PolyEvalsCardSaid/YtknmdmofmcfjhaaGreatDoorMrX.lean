/-
  PmG PmH PmI PmJ PmL PmM PmK, in one text.
-/
import Derived.Test.YtknmdmofmcfjhaaGreatDoorMrV
import Derived.Test.YtknmdmofmcfjhaaGreatDoorMrS

set_option linter.unusedVariables false
set_option linter.unusedSimpArgs false
namespace Go.Proofs.YtknmdmofmcfjhaaGreatDoor
open Go Go.RowKit _root_.Nm
end Go.Proofs.YtknmdmofmcfjhaaGreatDoor

set_option linter.unusedVariables false
set_option linter.unusedSimpArgs false
namespace Go.Proofs.YtknmdmofmcfjhaaGreatDoor
open Go Go.RowKit _root_.Nm
end Go.Proofs.YtknmdmofmcfjhaaGreatDoor

set_option linter.unusedVariables false
set_option linter.unusedSimpArgs false
namespace Go.Proofs.YtknmdmofmcfjhaaGreatDoor
open Go Go.RowKit _root_.Nm
theorem stay3 {w w' : World} {g1 : Bool} {p1 q1 : Option Addr} {n1 c1 m1 d1 : Nat} {v : Rat} (h : IsV w g1 p1 n1 c1 q1 m1 d1 v) {G : Nat} {x : Bool} {y z : Option Addr} {a b e f : Nat} {T : TypeId} (hb : w.heap[G]? = some (.cells #[.bool x, .slice y a b, .slice z e f] T (0, 0))) (hg : w.grownBy w' (some G)) : IsV w' g1 p1 n1 c1 q1 m1 d1 v :=
  ⟨⟨IsC.other3 h.1.1 hb hg, h.1.2⟩, h.2.other3 hb hg⟩
/-- the valid Rat of v is returned, of whatever length -/
def QPost (w : World) (v : Rat) (e : Ending) (w' : World) : Prop := ∃ (g : Bool) (p : Option Addr) (n c : Nat) (q : Option Addr) (m d : Nat), e = .returned (.agg #[.bool g, .slice p n c, .slice q m d]) ∧ IsV w' g p n c q m d v ∧ w.grownBy w' none
theorem QPost.close {w w5 : World} {G : Nat} {x : Bool} {y z : Option Addr} {a b e f : Nat} {T : TypeId} {g : Bool} {p q : Option Addr} {n c m d : Nat} {v : Rat}
    (hW : w5.heap[G]? = some (.cells #[.bool x, .slice y a b, .slice z e f] T (0, 0))) (hG : w.heap.size ≤ G) (hg : w.grownBy w5 none) (h1 : IsV w5 g p n c q m d v) :
    QPost w v (.returned (.agg #[.bool g, .slice p n c, .slice q m d])) (((w5.setCell ⟨G, 0, none⟩ (.bool g)).setCell ⟨G, 1, none⟩ (.slice p n c)).setCell ⟨G, 2, none⟩ (.slice q m d)) := by
  have hs := set3_grown w5 G (.bool g) (.slice p n c) (.slice q m d)
  exact ⟨g, p, n, c, q, m, d, rfl, stay3 h1 hW hs, grown_new hg hs (fun g e => by cases e; exact hG)⟩
theorem QPost.congr {w w' : World} {u v : Rat} {e : Ending} (h : QPost w u e w') (hu : u = v) : QPost w v e w' := hu ▸ h
end Go.Proofs.YtknmdmofmcfjhaaGreatDoor

set_option linter.unusedVariables false
set_option linter.unusedSimpArgs false
namespace Go.Proofs.YtknmdmofmcfjhaaGreatDoor
open Go Go.RowKit _root_.Nm
def RR (w : World) (cs : List Value) (n1 n2 : Nat) (v : Rat) : Prop := ∃ (g : Bool) (p : Option Addr) (c : Nat) (q : Option Addr) (d : Nat) (xs ys : List Nat),
  cs = [.bool g, .slice p n1 c, .slice q n2 d] ∧ IRd w .u16 p n1 c xs ∧ IRd w .u16 q n2 d ys ∧ (Dg 65536 xs ∧ Dg 65536 ys) ∧ v = mkRat (sg g (V 65536 xs)) (V 65536 ys)
/-- a slice of numbers, valid or not -/
structure IsRR (w : World) (p : Option Addr) (n c : Nat) (L : List Rat) (N1 N2 : Nat → Nat) : Prop where
  len : L.length = n
  cap : n ≤ c
  max : c ≤ 9223372036854775807
  els : ∀ i (hi : i < L.length), ∃ (b o : Nat) (cs : List Value), p = some ⟨b, o, none⟩ ∧ (∀ j (hj : j < cs.length), w.cell? ⟨b, o + i * 3 + j, none⟩ = some cs[j]) ∧ RR w cs (N1 i) (N2 i) L[i]
/-- a slice of valid numbers -/
structure IsRs (w : World) (p : Option Addr) (n c : Nat) (L : List Rat) : Prop where
  len : L.length = n
  cap : n ≤ c
  max : c ≤ 9223372036854775807
  els : ∀ i (hi : i < L.length), ∃ (b o : Nat) (g : Bool) (p1 : Option Addr) (n1 c1 : Nat) (q1 : Option Addr) (m1 d1 : Nat), p = some ⟨b, o, none⟩ ∧ (w.cell? ⟨b, o + i * 3, none⟩ = some (.bool g) ∧ w.cell? ⟨b, o + i * 3 + 1, none⟩ = some (.slice p1 n1 c1) ∧ w.cell? ⟨b, o + i * 3 + 2, none⟩ = some (.slice q1 m1 d1)) ∧ IsV w g p1 n1 c1 q1 m1 d1 L[i]
theorem IsRs.keep {w w' : World} {p : Option Addr} {n c : Nat} {L : List Rat} (h : IsRs w p n c L) (hg : w.grownBy w' none) : IsRs w' p n c L :=
  ⟨h.len, h.cap, h.max, fun i hi => by
    obtain ⟨b, o, g, p1, n1, c1, q1, m1, d1, e, ⟨x0, x1, x2⟩, hV⟩ := h.els i hi
    exact ⟨b, o, g, p1, n1, c1, q1, m1, d1, e, ⟨hg.cell x0 (by simp), hg.cell x1 (by simp), hg.cell x2 (by simp)⟩, hV.keep hg⟩⟩
def RQ (w : World) (p : Option Addr) (i n1 n2 : Nat) (r : Bool) (v : Rat) : Prop := ∃ (b o : Nat) (g : Bool) (p1 : Option Addr) (c1 : Nat) (q1 : Option Addr) (d1 : Nat), p = some ⟨b, o, none⟩ ∧ (w.cell? ⟨b, o + i * 3, none⟩ = some (.bool g) ∧ w.cell? ⟨b, o + i * 3 + 1, none⟩ = some (.slice p1 n1 c1) ∧ w.cell? ⟨b, o + i * 3 + 2, none⟩ = some (.slice q1 n2 d1)) ∧
  (n1 ≤ 9000 → n2 ≤ 9000 → (∀ W, w.grownBy W none → Calls Tryz.prog 19 #[.agg #[.bool g, .slice p1 n1 c1, .slice q1 n2 d1]] W fun e w' => e = .returned (.bool r) ∧ W.grownBy w' none) ∧ (r = true → IsV w g p1 n1 c1 q1 n2 d1 v))
theorem RR.q {w : World} (T : Tb w) {p : Option Addr} {i b o n1 n2 : Nat} {cs : List Value} {v : Rat} (hp : p = some ⟨b, o, none⟩) (hc : ∀ j (hj : j < cs.length), w.cell? ⟨b, o + i * 3 + j, none⟩ = some cs[j]) (h : RR w cs n1 n2 v) : ∃ r, RQ w p i n1 n2 r v := by
  obtain ⟨g, p1, c, q, d, xs, ys, rfl, hx, hy, ⟨dx, dy⟩, hv⟩ := h
  by_cases h12 : n1 ≤ 9000 ∧ n2 ≤ 9000
  · obtain ⟨r, r1, r2, r3⟩ := right3_full T g hx dx hy dy h12.1 h12.2
    exact ⟨r, b, o, g, p1, c, q, d, hp, ⟨hc 0 (by simp), hc 1 (by simp), hc 2 (by simp)⟩, fun _ _ => ⟨r2, fun hr => by rw [hv]; exact r3 hr⟩⟩
  · exact ⟨false, b, o, g, p1, c, q, d, hp, ⟨hc 0 (by simp), hc 1 (by simp), hc 2 (by simp)⟩, fun h1 h2 => absurd ⟨h1, h2⟩ h12⟩
theorem IsRR.q {w : World} (T : Tb w) {p : Option Addr} {n c : Nat} {L : List Rat} {N1 N2 : Nat → Nat} (h : IsRR w p n c L N1 N2) : ∃ R : Nat → Bool, ∀ i (hi : i < L.length), RQ w p i (N1 i) (N2 i) (R i) L[i] := by
  have hex : ∀ i, ∃ r, ∀ hi : i < L.length, RQ w p i (N1 i) (N2 i) r L[i] := fun i => by
    by_cases hi : i < L.length
    · obtain ⟨b, o, cs, e1, e2, e3⟩ := h.els i hi
      obtain ⟨r, hr⟩ := RR.q T e1 e2 e3
      exact ⟨r, fun _ => hr⟩
    · exact ⟨true, fun k => absurd k hi⟩
  exact ⟨fun i => Classical.choose (hex i), fun i hi => Classical.choose_spec (hex i) hi⟩
def okV (N1 N2 : Nat → Nat) (R : Nat → Bool) (i : Nat) : Prop := N1 i ≤ 2 ∧ N2 i ≤ 2 ∧ R i = true
instance (N1 N2 : Nat → Nat) (R : Nat → Bool) (i : Nat) : Decidable (okV N1 N2 R i) := by unfold okV; infer_instance
end Go.Proofs.YtknmdmofmcfjhaaGreatDoor

set_option linter.unusedVariables false
set_option linter.unusedSimpArgs false
namespace Go.Proofs.YtknmdmofmcfjhaaGreatDoor
open Go Go.RowKit _root_.Nm
/-- the value of the monomial's first n variables -/
def mv (V : List Rat) (xs : List Int) : Nat → Rat
  | 0 => 1
  | j + 1 => mv V xs j * (V.getD j 0) ^ ((ex xs j).toNat)
end Go.Proofs.YtknmdmofmcfjhaaGreatDoor

set_option linter.unusedVariables false
set_option linter.unusedSimpArgs false
namespace Go.Proofs.YtknmdmofmcfjhaaGreatDoor
open Go Go.RowKit _root_.Nm
/-- descending terms whose exponents from v on are alike -/
structure Seg (v : Nat) (Q : List Tm) : Prop where
  desc : Q.Pairwise fun s t => 0 < lexL s.1 t.1
  same : ∀ s ∈ Q, ∀ t ∈ Q, ∀ j, v ≤ j → ex s.1 j = ex t.1 j
def sumV (V : List Rat) (v : Nat) : List Tm → Rat
  | [] => 0
  | t :: Q => t.2 * mv V t.1 v + sumV V v Q
theorem sumV_congr {V : List Rat} {v u : Nat} : ∀ {Q : List Tm}, (∀ t ∈ Q, mv V t.1 v = mv V t.1 u) → sumV V v Q = sumV V u Q
  | [], _ => rfl
  | t :: Q, h => by
    show t.2 * mv V t.1 v + sumV V v Q = t.2 * mv V t.1 u + sumV V u Q
    rw [h t (by simp), sumV_congr (Q := Q) fun s hs => h s (by simp [hs])]
theorem lexL_le {xs ys : List Int} {v : Nat} (h : 0 < lexL xs ys) (hs : ∀ j, v + 1 ≤ j → ex xs j = ex ys j) : ex ys v ≤ ex xs v := by
  have h2 : lexL xs ys = lexZ (ex xs) (ex ys) (max (max xs.length ys.length) (v + 1)) := lexL_of xs ys (by omega) (by omega)
  rw [h2, lexZ_more (n := v + 1) (by omega) (fun i hi => hs i hi)] at h
  unfold lexZ at h
  by_cases e : ex xs v = ex ys v
  · omega
  · rw [if_neg e] at h
    unfold cmpZ at h
    by_cases h3 : ex xs v < ex ys v
    · rw [if_pos h3] at h; omega
    · omega
theorem Seg.take {v : Nat} {Q : List Tm} (h : Seg v Q) (i : Nat) : Seg v (Q.take i) := ⟨h.desc.sublist (List.take_sublist i Q), fun s hs t ht => h.same s (List.mem_of_mem_take hs) t (List.mem_of_mem_take ht)⟩
theorem Seg.drop {v : Nat} {Q : List Tm} (h : Seg v Q) (i : Nat) : Seg v (Q.drop i) := ⟨h.desc.sublist (List.drop_sublist i Q), fun s hs t ht => h.same s (List.mem_of_mem_drop hs) t (List.mem_of_mem_drop ht)⟩
/-- the exponents of v fall -/
theorem Seg.fall {v : Nat} {Q : List Tm} (h : Seg (v + 1) Q) {i j : Nat} (hij : i ≤ j) (hj : j < Q.length) : ex Q[j].1 v ≤ ex (Q[i]'(by omega)).1 v := by
  rcases Nat.lt_or_ge i j with h1 | h1
  · exact lexL_le (List.pairwise_iff_getElem.1 h.desc i j (by omega) hj h1) (fun k hk => h.same _ (List.getElem_mem _) _ (List.getElem_mem _) k hk)
  · obtain rfl : i = j := by omega
    exact Int.le_refl _
theorem Seg.down {v : Nat} {Q : List Tm} (h : Seg (v + 1) Q) (e : ∀ s ∈ Q, ∀ t ∈ Q, ex s.1 v = ex t.1 v) : Seg v Q := ⟨h.desc, fun s hs t ht j hj => by
  by_cases hjv : j = v
  · subst hjv; exact e s hs t ht
  · exact h.same s hs t ht j (by omega)⟩
theorem Seg.one {Q : List Tm} (h : Seg 0 Q) : Q.length ≤ 1 := by
  match Q, h with
  | [], _ => simp
  | [_], _ => simp
  | s :: t :: Q, h =>
    exfalso
    have h1 := (List.pairwise_cons.1 h.desc).1 t (by simp)
    have h2 : lexL s.1 t.1 = 0 := (lexZ_zero _ _ _).2 fun i _ => h.same s (by simp) t (by simp) i (by omega)
    omega
/-- a variable that the first term lacks lack all -/
theorem Seg.skip {v : Nat} {Q : List Tm} {V : List Rat} (h : Seg (v + 1) Q) (hQ : 0 < Q.length) (e8 : ExP 8 Q) (h0 : ex Q[0].1 v = 0) : Seg v Q ∧ sumV V (v + 1) Q = sumV V v Q := by
  have hz : ∀ t ∈ Q, ex t.1 v = 0 := fun t ht => by
    obtain ⟨i, hi, rfl⟩ := List.getElem_of_mem ht
    have h1 := h.fall (Nat.zero_le i) hi
    have h2 := ((e8.at hi).ex (by omega) v).1
    omega
  refine ⟨h.down fun s hs t ht => by rw [hz s hs, hz t ht], sumV_congr fun t ht => ?_⟩
  show mv V t.1 v * _ ^ (ex t.1 v).toNat = _
  rw [hz t ht, show (0 : Int).toNat = 0 from rfl, Rat.pow_zero, Rat.mul_one]
end Go.Proofs.YtknmdmofmcfjhaaGreatDoor

set_option linter.unusedVariables false
set_option linter.unusedSimpArgs false
namespace Go.Proofs.YtknmdmofmcfjhaaGreatDoor
open Go.ChangeShapes Go.WideShapes Go.ChangeAt Go.RowKit _root_.Nm
section
variable {H : Type} {enc : TypeId × Value → H} {W : World}
end
end Go.Proofs.YtknmdmofmcfjhaaGreatDoor
