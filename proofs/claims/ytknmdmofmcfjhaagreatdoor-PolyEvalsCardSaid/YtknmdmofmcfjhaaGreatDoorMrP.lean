/-
  PlA PlB PlC PlD PlE PolD, in one text.
-/
import Derived.Test.YtknmdmofmcfjhaaGreatDoorPolC
import Derived.Test.YtknmdmofmcfjhaaGreatDoorPolB
import Derived.Test.YtknmdmofmcfjhaaGreatDoorMrR
import Derived.Test.YtknmdmofmcfjhaaGreatDoorDivN
import Derived.Test.YtknmdmofmcfjhaaGreatDoorMrM
import Derived.Deep.DeepCutAuto
import Derived.Deep.RegionHeld3
import Derived.Deep.AppendLies
import Derived.Lib.SliceRun

set_option linter.unusedVariables false
set_option linter.unusedSimpArgs false
namespace Go.Proofs.YtknmdmofmcfjhaaGreatDoor
open Go Go.RowKit _root_.Nm
/-- numerator and denominator have at most H digits to the base 65536 -/
def Bd (H : Nat) (v : Rat) : Prop := v.num.natAbs < 65536 ^ H ∧ v.den < 65536 ^ H
theorem Bd.mono {a b : Nat} {v : Rat} (h : Bd a v) (hab : a ≤ b) : Bd b v :=
  ⟨Nat.lt_of_lt_of_le h.1 (Nat.pow_le_pow_right (by omega) hab), Nat.lt_of_lt_of_le h.2 (Nat.pow_le_pow_right (by omega) hab)⟩
theorem Bd.mk {N : Int} {D a : Nat} (hD : 0 < D) (h1 : N.natAbs < 65536 ^ a) (h2 : D < 65536 ^ a) : Bd a (mkRat N D) := by
  refine ⟨?_, ?_⟩
  · rw [← rn_q hD]
    unfold rn
    rw [sg_abs]
    exact Nat.lt_of_le_of_lt (Nat.div_le_self _ _) h1
  · rw [← rd_q hD]
    unfold rd
    exact Nat.lt_of_le_of_lt (Nat.div_le_self _ _) h2
theorem mul_lt_pow {x y a b : Nat} (hx : x < 65536 ^ a) (hy : y < 65536 ^ b) : x * y < 65536 ^ (a + b) := by
  rw [Nat.pow_add]
  exact Nat.mul_lt_mul'' hx hy
theorem Bd.mul {a b : Nat} {v u : Rat} (h : Bd a v) (k : Bd b u) : Bd (a + b) (v * u) := by
  have e : v * u = mkRat (v.num * u.num) (v.den * u.den) := by
    have := Rat.mkRat_mul_mkRat v.num u.num v.den u.den
    rwa [Rat.mkRat_self, Rat.mkRat_self] at this
  rw [e]
  refine Bd.mk (Nat.mul_pos v.den_pos u.den_pos) ?_ (mul_lt_pow h.2 k.2)
  rw [Int.natAbs_mul]
  exact mul_lt_pow h.1 k.1
theorem Bd.add {a b : Nat} {v u : Rat} (h : Bd a v) (k : Bd b u) : Bd (a + b + 1) (v + u) := by
  have e : v + u = mkRat (v.num * u.den + u.num * v.den) (v.den * u.den) := by
    have := Rat.mkRat_add_mkRat v.num u.num v.den_nz u.den_nz
    rwa [Rat.mkRat_self, Rat.mkRat_self] at this
  have hp : 65536 ^ (a + b + 1) = 65536 ^ (a + b) * 65536 := Nat.pow_succ ..
  rw [e]
  refine Bd.mk (Nat.mul_pos v.den_pos u.den_pos) ?_ ?_
  · have h1 := mul_lt_pow h.1 k.2
    have h2 := mul_lt_pow k.1 h.2
    have h3 := Int.natAbs_add_le (v.num * u.den) (u.num * v.den)
    rw [Int.natAbs_mul, Int.natAbs_mul, Int.natAbs_natCast, Int.natAbs_natCast] at h3
    rw [Nat.add_comm b a] at h2
    generalize v.num.natAbs * u.den = x at *
    generalize u.num.natAbs * v.den = y at *
    omega
  · have h2 := mul_lt_pow h.2 k.2
    omega
theorem Bd.neg {a : Nat} {v : Rat} (h : Bd a v) : Bd a (-v) := ⟨by simpa using h.1, by simpa using h.2⟩
theorem IsV.lens {w : World} {g : Bool} {p q : Option Addr} {n c m d H : Nat} {v : Rat} (h : IsV w g p n c q m d v) (hb : Bd H v) : n ≤ H ∧ m ≤ H := ⟨h.1.1.len_le hb.1, h.2.len_le hb.2⟩
theorem IsV.bd {w : World} {g : Bool} {p q : Option Addr} {n c m d H : Nat} {v : Rat} (h : IsV w g p n c q m d v) (hn : n ≤ H) (hm : m ≤ H) : Bd H v :=
  ⟨Nat.lt_of_lt_of_le h.1.1.isN.lt (Nat.pow_le_pow_right (by omega) hn), Nat.lt_of_lt_of_le h.2.isN.lt (Nat.pow_le_pow_right (by omega) hm)⟩
/-- the cells of a term -/
def TmC (w : World) (cs : List Value) (t : Tm) : Prop := ∃ (g : Bool) (p : Option Addr) (n c : Nat) (q : Option Addr) (m d : Nat) (a : Option Addr) (k e : Nat),
  cs = [.bool g, .slice p n c, .slice q m d, .slice a k e] ∧ IsV w g p n c q m d t.2 ∧ ZRd w .i64 a k e t.1
theorem TmC.keep {w w' : World} {cs : List Value} {t : Tm} (h : TmC w cs t) (hg : w.grownBy w' none) : TmC w' cs t := by
  obtain ⟨g, p, n, c, q, m, d, a, k, e, h1, h2, h3⟩ := h
  exact ⟨g, p, n, c, q, m, d, a, k, e, h1, h2.keep hg, h3.keep hg⟩
theorem TmC.len {w : World} {cs : List Value} {t : Tm} (h : TmC w cs t) : cs.length = 4 := by
  obtain ⟨g, p, n, c, q, m, d, a, k, e, rfl, _⟩ := h
  rfl
/-- the element i of a row of terms -/
def TmAt (w : World) (p : Option Addr) (i : Nat) (t : Tm) : Prop := ∃ (b o : Nat) (cs : List Value), p = some ⟨b, o, none⟩ ∧ (∀ j (hj : j < cs.length), w.cell? ⟨b, o + i * 4 + j, none⟩ = some cs[j]) ∧ TmC w cs t
theorem TmAt.keep {w w' : World} {p : Option Addr} {i : Nat} {t : Tm} (h : TmAt w p i t) (hg : w.grownBy w' none) : TmAt w' p i t := by
  obtain ⟨b, o, cs, h1, h2, h3⟩ := h
  exact ⟨b, o, cs, h1, fun j hj => hg.cell (h2 j hj) (by simp), h3.keep hg⟩
/-- .slice p n c is a slice of terms that reads as P -/
structure IsP (w : World) (p : Option Addr) (n c : Nat) (P : List Tm) : Prop where
  len : P.length = n
  cap : n ≤ c
  max : c ≤ 9223372036854775807
  tms : ∀ i (hi : i < P.length), TmAt w p i P[i]
theorem IsP.keep {w w' : World} {p : Option Addr} {n c : Nat} {P : List Tm} (h : IsP w p n c P) (hg : w.grownBy w' none) : IsP w' p n c P := ⟨h.len, h.cap, h.max, fun i hi => (h.tms i hi).keep hg⟩
theorem IsP.nil (w : World) : IsP w none 0 0 [] := ⟨rfl, Nat.le_refl _, by omega, fun i hi => absurd hi (Nat.not_lt_zero i)⟩
/-- the cells of the element i, as the walk wants them -/
theorem TmAt.out {w : World} {p : Option Addr} {i : Nat} {t : Tm} (h : TmAt w p i t) : ∃ (b o : Nat) (g : Bool) (p1 : Option Addr) (n1 c1 : Nat) (p2 : Option Addr) (n2 c2 : Nat) (a : Option Addr) (k e : Nat),
    p = some ⟨b, o, none⟩ ∧ (w.cell? ⟨b, o + i * 4, none⟩ = some (.bool g) ∧ w.cell? ⟨b, o + i * 4 + 1, none⟩ = some (.slice p1 n1 c1) ∧ w.cell? ⟨b, o + i * 4 + 2, none⟩ = some (.slice p2 n2 c2) ∧ w.cell? ⟨b, o + i * 4 + 3, none⟩ = some (.slice a k e)) ∧ IsV w g p1 n1 c1 p2 n2 c2 t.2 ∧ ZRd w .i64 a k e t.1 := by
  obtain ⟨b, o, cs, h1, h2, g, p1, n1, c1, p2, n2, c2, a, k, e, rfl, h3, h4⟩ := h
  exact ⟨b, o, g, p1, n1, c1, p2, n2, c2, a, k, e, h1, ⟨h2 0 (by simp), h2 1 (by simp), h2 2 (by simp), h2 3 (by simp)⟩, h3, h4⟩
/-- bounds of the coefficients, and of the exponents -/
def BdP (H : Nat) (P : List Tm) : Prop := ∀ t ∈ P, Bd H t.2
def ExP (B : Int) (P : List Tm) : Prop := ∀ t ∈ P, RightZ B t.1
theorem BdP.mono {a b : Nat} {P : List Tm} (h : BdP a P) (hab : a ≤ b) : BdP b P := fun t ht => (h t ht).mono hab
theorem BdP.at {H : Nat} {P : List Tm} (h : BdP H P) {i : Nat} (hi : i < P.length) : Bd H P[i].2 := h _ (List.getElem_mem hi)
theorem ExP.at {B : Int} {P : List Tm} (h : ExP B P) {i : Nat} (hi : i < P.length) : RightZ B P[i].1 := h _ (List.getElem_mem hi)
theorem BdP.add {a b : Nat} : ∀ {p q : List Tm}, BdP a p → BdP b q → BdP (a + b + 1) (addP p q)
  | [], q, _, h2 => by rw [show addP [] q = q by cases q <;> simp [addP]]; exact h2.mono (by omega)
  | p, [], h1, _ => by rw [addP_nil]; exact h1.mono (by omega)
  | s :: p, t :: q, h1, h2 => by
    have e1 : BdP a p := fun x hx => h1 x (by simp [hx])
    have e2 : BdP b q := fun x hx => h2 x (by simp [hx])
    rw [addP]
    split
    · intro x hx
      rcases List.mem_cons.1 hx with rfl | hx
      · exact (h1 _ (by simp)).mono (by omega)
      · exact BdP.add e1 h2 x hx
    · split
      · intro x hx
        rcases List.mem_cons.1 hx with rfl | hx
        · exact (h2 _ (by simp)).mono (by omega)
        · exact BdP.add h1 e2 x hx
      · split
        · exact BdP.add e1 e2
        · intro x hx
          rcases List.mem_cons.1 hx with rfl | hx
          · exact (h1 _ (by simp)).add (h2 _ (by simp))
          · exact BdP.add e1 e2 x hx
theorem ExP.add {B : Int} {p q : List Tm} (h1 : ExP B p) (h2 : ExP B q) : ExP B (addP p q) := fun u hu => by
  rcases mem_addP p q u hu with ⟨s, hs, e⟩ | ⟨t, ht, e⟩
  · rw [e]; exact h1 s hs
  · rw [e]; exact h2 t ht
end Go.Proofs.YtknmdmofmcfjhaaGreatDoor

set_option linter.unusedVariables false
set_option linter.unusedSimpArgs false
namespace Go.Proofs.YtknmdmofmcfjhaaGreatDoor
open Go Go.RowKit _root_.Nm
theorem noInt4 (g : Bool) (p1 : Option Addr) (n1 c1 : Nat) (p2 : Option Addr) (n2 c2 : Nat) (p3 : Option Addr) (n3 c3 : Nat) : ∀ v ∈ [Value.bool g, .slice p1 n1 c1, .slice p2 n2 c2, .slice p3 n3 c3], NoInt v := by
  intro v hv
  simp only [List.mem_cons, List.not_mem_nil, or_false] at hv
  rcases hv with rfl | rfl | rfl | rfl <;> intro k x h <;> cases h
theorem one4 (g : Bool) (p1 : Option Addr) (n1 c1 : Nat) (p2 : Option Addr) (n2 c2 : Nat) (p3 : Option Addr) (n3 c3 : Nat) : ∀ v ∈ [Value.bool g, .slice p1 n1 c1, .slice p2 n2 c2, .slice p3 n3 c3], v.oneCell' = true := by
  intro v hv
  simp only [List.mem_cons, List.not_mem_nil, or_false] at hv
  rcases hv with rfl | rfl | rfl | rfl <;> rfl
theorem TmC.noInt {w : World} {cs : List Value} {t : Tm} (h : TmC w cs t) : ∀ v ∈ cs, NoInt v := by
  obtain ⟨g, p, n, c, q, m, d, a, k, e, rfl, _⟩ := h
  exact noInt4 _ _ _ _ _ _ _ _ _ _
theorem TmC.one {w : World} {cs : List Value} {t : Tm} (h : TmC w cs t) : ∀ v ∈ cs, v.oneCell' = true := by
  obtain ⟨g, p, n, c, q, m, d, a, k, e, rfl, _⟩ := h
  exact one4 _ _ _ _ _ _ _ _ _ _
/-- a term's slices do not lie in a row of terms -/
theorem TmC.stayQ {w : World} {cs : List Value} {t : Tm} (h : TmC w cs t) {base : Nat} {e : TypeId} {k : Nat} {p : Option Addr} {n c : Nat} {l : List (List Value)} (hq : QOwn w base e k p n c l) : Stay w (fun G => p.map (·.block) = some G) (fun W => TmC W cs t) := by
  obtain ⟨g, p1, n1, c1, q1, m1, d1, a, k1, e1, rfl, ⟨⟨h1, h2⟩, h3⟩, h4⟩ := h
  intro W hW
  exact ⟨g, p1, n1, c1, q1, m1, d1, a, k1, e1, rfl, ⟨⟨Stay.ird h1 (hq.ird h1) W hW, h2⟩, Stay.ird h3 (hq.ird h3) W hW⟩, Stay.zrd h4 (hq.zrd h4) W hW⟩
/-- the terms of a row -/
def RwS (w : World) (p : Option Addr) (rows : List (List Value)) (P : List Tm) : Prop := P.length = rows.length ∧ ∀ i (hi : i < rows.length) (hj : i < P.length), Stay w (fun G => p.map (·.block) = some G) (fun W => TmC W rows[i] P[i])
theorem RwS.nil (w : World) (p : Option Addr) : RwS w p [] [] := ⟨rfl, fun i hi => absurd hi (Nat.not_lt_zero i)⟩
theorem RwS.keep {w w' : World} {p : Option Addr} {rows : List (List Value)} {P : List Tm} (h : RwS w p rows P) (hg : w.grownBy w' none) : RwS w' p rows P := ⟨h.1, fun i hi hj => (h.2 i hi hj).keep hg⟩
theorem RwS.move {w w' : World} {p p' : Option Addr} {rows : List (List Value)} {P : List Tm} (h : RwS w p rows P) (hg : w.grownBy w' (p.map (·.block))) (hat : p'.map (·.block) = p.map (·.block) ∨ p'.map (·.block) = some w.heap.size) : RwS w' p' rows P := by
  refine ⟨h.1, fun i hi hj => (h.2 i hi hj).step fun G O hG hS => ?_⟩
  have hlt := lt_of_block hG
  refine ⟨(hg.block G hlt (fun e => hS e.symm)).trans hG, fun h3 => ?_⟩
  rcases hat with e | e
  · exact hS (by rw [← e, h3])
  · rw [e] at h3
    simp at h3
    omega
theorem RwS.app {w : World} {p : Option Addr} {rows rs : List (List Value)} {P Q : List Tm} (h : RwS w p rows P) (k : RwS w p rs Q) : RwS w p (rows ++ rs) (P ++ Q) := by
  refine ⟨by rw [List.length_append, List.length_append, h.1, k.1], fun i hi hj => ?_⟩
  by_cases hlt : i < rows.length
  · rw [List.getElem_append_left hlt, List.getElem_append_left (by rw [h.1]; exact hlt)]
    exact h.2 i hlt _
  · have := h.1
    rw [List.getElem_append_right (by omega), List.getElem_append_right (by omega)]
    have e : i - P.length = i - rows.length := by omega
    have := k.2 (i - rows.length) (by simp at hi; omega) (by simp at hj; omega)
    simp only [e]
    exact this
/-- one more term -/
theorem RwS.snoc {w w' : World} {p p' : Option Addr} {base : Nat} {e : TypeId} {k n c : Nat} {l : List (List Value)} {rows : List (List Value)} {P : List Tm} (hq : QOwn w base e k p n c l) (h : RwS w p rows P) {cs : List Value} {t : Tm} (ht : TmC w cs t)
    (hg : w.grownBy w' (p.map (·.block))) (hat : p'.map (·.block) = p.map (·.block) ∨ p'.map (·.block) = some w.heap.size) : RwS w' p' (rows ++ [cs]) (P ++ [t]) := by
  have h1 : RwS w p [cs] [t] := ⟨rfl, fun i hi hj => by
    have : i = 0 := by simpa using hi
    subst this
    exact ht.stayQ hq⟩
  exact (h.app h1).move hg hat
/-- a slice of terms as a row of cells -/
theorem IsP.rows {w : World} {p : Option Addr} {n c : Nat} {P : List Tm} (h : IsP w p n c P) : ∃ rs, SRd w 4 p n c rs ∧ rs.length = P.length ∧ ∀ i (hi : i < rs.length) (hj : i < P.length), TmC w rs[i] P[i] := by
  have hex : ∀ i, ∃ cs : List Value, ∀ hi : i < P.length, ∃ b o, p = some ⟨b, o, none⟩ ∧ (∀ j (hj : j < cs.length), w.cell? ⟨b, o + i * 4 + j, none⟩ = some cs[j]) ∧ TmC w cs P[i] := fun i => by
    by_cases hi : i < P.length
    · obtain ⟨b, o, cs, h1, h2, h3⟩ := h.tms i hi
      exact ⟨cs, fun _ => ⟨b, o, h1, h2, h3⟩⟩
    · exact ⟨[], fun h => absurd h hi⟩
  obtain ⟨C, hC⟩ : ∃ C : Nat → List Value, ∀ i (hi : i < P.length), ∃ b o, p = some ⟨b, o, none⟩ ∧ (∀ j (hj : j < (C i).length), w.cell? ⟨b, o + i * 4 + j, none⟩ = some (C i)[j]) ∧ TmC w (C i) P[i] := ⟨fun i => Classical.choose (hex i), fun i => Classical.choose_spec (hex i)⟩
  have hget : ∀ i (hi : i < ((List.range P.length).map C).length), ((List.range P.length).map C)[i] = C i := fun i hi => by simp
  refine ⟨(List.range P.length).map C, ⟨by simp [h.len], fun r hr => ?_, h.cap, h.max, fun i hi j hj => ?_⟩, by simp, fun i hi hj => ?_⟩
  · obtain ⟨i, hi, rfl⟩ := List.mem_map.1 hr
    obtain ⟨b, o, _, _, h3⟩ := hC i (by simpa using hi)
    exact h3.len
  · obtain ⟨b, o, h1, h2, _⟩ := hC i (by simpa using hi)
    have hj' : j < (C i).length := by rw [hget] at hj; exact hj
    refine ⟨b, o, h1, ?_⟩
    rw [h2 j hj']
    congr 1
    simp only [hget]
  · obtain ⟨b, o, _, _, h3⟩ := hC i hj
    rw [hget]
    exact h3
/-- the rest behind the first term -/
theorem IsP.tail {w : World} {b o n c : Nat} {t : Tm} {P : List Tm} (h : IsP w (some ⟨b, o, none⟩) n c (t :: P)) : IsP w (some ⟨b, o + 4, none⟩) (n - 1) (c - 1) P := by
  have hl := h.len
  have hc := h.cap
  have hm := h.max
  simp only [List.length_cons] at hl
  refine ⟨by omega, by omega, by omega, fun i hi => ?_⟩
  obtain ⟨b', o', cs, e, h2, h3⟩ := h.tms (i + 1) (by simp; omega)
  cases e
  refine ⟨b, o + 4, cs, rfl, fun j hj => ?_, by simpa using h3⟩
  have := h2 j hj
  rw [show o + 4 + i * 4 + j = o + (i + 1) * 4 + j by omega]
  exact this
end Go.Proofs.YtknmdmofmcfjhaaGreatDoor

set_option linter.unusedVariables false
set_option linter.unusedSimpArgs false
namespace Go.Proofs.YtknmdmofmcfjhaaGreatDoor
open Go Go.RowKit _root_.Nm
theorem IsP.one {w : World} {G : Nat} {g : Bool} {p : Option Addr} {n c : Nat} {q : Option Addr} {m d : Nat} {a : Option Addr} {k e : Nat} {xs : List Int} {v : Rat} (hb : w.heap[G]? = some (.cells #[.bool g, .slice p n c, .slice q m d, .slice a k e] 33 (0, 0))) (hV : IsV w g p n c q m d v) (hx : ZRd w .i64 a k e xs) : IsP w (some ⟨G, 0, none⟩) 1 1 [(xs, v)] := by
  refine ⟨rfl, Nat.le_refl _, by omega, fun i hi => ?_⟩
  have : i = 0 := by simpa using hi
  subst this
  refine ⟨G, 0, [.bool g, .slice p n c, .slice q m d, .slice a k e], rfl, fun j hj => ?_, g, p, n, c, q, m, d, a, k, e, rfl, hV, hx⟩
  rw [cell_of_row w G (0 + 0 * 4 + j) _ _ _ hb]
  simp only [Nat.zero_add, Nat.zero_mul, List.getElem?_toArray]
  exact List.getElem?_eq_getElem hj
end Go.Proofs.YtknmdmofmcfjhaaGreatDoor

set_option linter.unusedVariables false
set_option linter.unusedSimpArgs false
namespace Go.Proofs.YtknmdmofmcfjhaaGreatDoor
open Go Go.RowKit _root_.Nm
theorem IsV.opp {w : World} {g : Bool} {p q : Option Addr} {n c m d : Nat} {v : Rat} (h : IsV w g p n c q m d v) (hv : v ≠ 0) : IsV w (!g) p n c q m d (-v) := by
  obtain ⟨⟨h1, h2⟩, h3⟩ := h
  have hn : v.num ≠ 0 := by simpa using hv
  refine ⟨⟨by simpa using h1, ?_⟩, by simpa using h3⟩
  rw [h2]
  have : (-v).num = -v.num := by simp
  rw [this]
  by_cases h : v.num < 0
  · rw [decide_eq_true h, decide_eq_false (by omega)]; rfl
  · rw [decide_eq_false h, decide_eq_true (by omega)]; rfl
end Go.Proofs.YtknmdmofmcfjhaaGreatDoor

set_option linter.unusedVariables false
set_option linter.unusedSimpArgs false
namespace Go.Proofs.YtknmdmofmcfjhaaGreatDoor
open Go Go.RowKit _root_.Nm
theorem RwS.many {w w' : World} {p p' : Option Addr} {base : Nat} {e : TypeId} {k n c : Nat} {l : List (List Value)} {rows rs : List (List Value)} {P Q : List Tm} (hq : QOwn w base e k p n c l) (h : RwS w p rows P) (hl : rs.length = Q.length) (ht : ∀ i (hi : i < rs.length) (hj : i < Q.length), TmC w rs[i] Q[i])
    (hg : w.grownBy w' (p.map (·.block))) (hat : p'.map (·.block) = p.map (·.block) ∨ p'.map (·.block) = some w.heap.size) : RwS w' p' (rows ++ rs) (P ++ Q) :=
  (h.app ⟨hl.symm, fun i hi hj => (ht i hi hj).stayQ hq⟩).move hg hat
end Go.Proofs.YtknmdmofmcfjhaaGreatDoor

set_option linter.unusedVariables false
set_option linter.unusedSimpArgs false
namespace Nm
/-- the term i -/
def tmI (P : List Tm) (i : Nat) : Tm := P[i]?.getD ([], 0)
theorem NF.snoc {p : List Tm} {t : Tm} (h : NF p) (hl : ∀ s, p.getLast? = some s → 0 < lexL s.1 t.1) (h2 : t.2 ≠ 0) (h3 : t.1.getLast? ≠ some 0) : NF (p ++ [t]) := by
  refine ⟨List.pairwise_append.2 ⟨h.desc, by simp, fun a ha b hb => ?_⟩, fun s hs => ?_, fun s hs => ?_⟩
  · rw [List.mem_singleton.1 hb]
    rcases List.eq_nil_or_concat p with rfl | ⟨q, s, rfl⟩
    · cases ha
    · rw [List.concat_eq_append] at h hl ha
      have hs := hl s (by simp)
      rcases List.mem_append.1 ha with ha | ha
      · exact lexL_tr ((List.pairwise_append.1 h.desc).2.2 a ha s (by simp)) hs
      · rw [List.mem_singleton.1 ha]; exact hs
  · rcases List.mem_append.1 hs with hs | hs
    · exact h.nz s hs
    · rw [List.mem_singleton.1 hs]; exact h2
  · rcases List.mem_append.1 hs with hs | hs
    · exact h.last s hs
    · rw [List.mem_singleton.1 hs]; exact h3
/-- what a term adds -/
def normT (t : Tm) : List Tm := if RightZ 1048576 (trimZ t.1) then one (trimZ t.1) t.2 else []
theorem NF.normT (t : Tm) : NF (normT t) := by
  unfold Nm.normT
  split
  · exact NF.one (trimZ_last _)
  · exact .nil
/-- the sum of the terms of a list -/
def normP (P : List Tm) : List Tm := totB (fun i => normT (tmI P i)) 0 P.length
theorem NF.normP (P : List Tm) : NF (normP P) := NF.tot fun i _ _ => NF.normT _
end Nm
