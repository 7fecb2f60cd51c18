/-
  PlA PlB PlC PlD PlE PolD, in one text.
-/
import Derived.Test.YtknmdmofmcfjhaaGreatDoorPolC
import Derived.Test.YtknmdmofmcfjhaaGreatDoorPolB
import Derived.Test.YtknmdmofmcfjhaaGreatDoorMrR
import Derived.Test.YtknmdmofmcfjhaaGreatDoorDivN
import Derived.Test.YtknmdmofmcfjhaaGreatDoorMrM
import Derived.Deep.DeepCutAuto
import Derived.Deep.RegionHeld3
import Derived.Deep.AppendLies
import Derived.Lib.SliceRun

set_option linter.unusedVariables false
set_option linter.unusedSimpArgs false
namespace Go.Proofs.YtknmdmofmcfjhaaGreatDoor
open Go Go.RowKit _root_.Nm
/-- numerator and denominator have at most H digits to the base 65536 -/
def Bd (H : Nat) (v : Rat) : Prop := v.num.natAbs < 65536 ^ H ∧ v.den < 65536 ^ H
theorem Bd.mono {a b : Nat} {v : Rat} (h : Bd a v) (hab : a ≤ b) : Bd b v :=
  ⟨Nat.lt_of_lt_of_le h.1 (Nat.pow_le_pow_right (by omega) hab), Nat.lt_of_lt_of_le h.2 (Nat.pow_le_pow_right (by omega) hab)⟩
theorem Bd.mk {N : Int} {D a : Nat} (hD : 0 < D) (h1 : N.natAbs < 65536 ^ a) (h2 : D < 65536 ^ a) : Bd a (mkRat N D) := by
  refine ⟨?_, ?_⟩
  · rw [← rn_q hD]
    unfold rn
    rw [sg_abs]
    exact Nat.lt_of_le_of_lt (Nat.div_le_self _ _) h1
  · rw [← rd_q hD]
    unfold rd
    exact Nat.lt_of_le_of_lt (Nat.div_le_self _ _) h2
theorem mul_lt_pow {x y a b : Nat} (hx : x < 65536 ^ a) (hy : y < 65536 ^ b) : x * y < 65536 ^ (a + b) := by
  rw [Nat.pow_add]
  exact Nat.mul_lt_mul'' hx hy
theorem Bd.mul {a b : Nat} {v u : Rat} (h : Bd a v) (k : Bd b u) : Bd (a + b) (v * u) := by
  have e : v * u = mkRat (v.num * u.num) (v.den * u.den) := by
    have := Rat.mkRat_mul_mkRat v.num u.num v.den u.den
    rwa [Rat.mkRat_self, Rat.mkRat_self] at this
  rw [e]
  refine Bd.mk (Nat.mul_pos v.den_pos u.den_pos) ?_ (mul_lt_pow h.2 k.2)
  rw [Int.natAbs_mul]
  exact mul_lt_pow h.1 k.1
theorem Bd.add {a b : Nat} {v u : Rat} (h : Bd a v) (k : Bd b u) : Bd (a + b + 1) (v + u) := by
  have e : v + u = mkRat (v.num * u.den + u.num * v.den) (v.den * u.den) := by
    have := Rat.mkRat_add_mkRat v.num u.num v.den_nz u.den_nz
    rwa [Rat.mkRat_self, Rat.mkRat_self] at this
  have hp : 65536 ^ (a + b + 1) = 65536 ^ (a + b) * 65536 := Nat.pow_succ ..
  rw [e]
  refine Bd.mk (Nat.mul_pos v.den_pos u.den_pos) ?_ ?_
  · have h1 := mul_lt_pow h.1 k.2
    have h2 := mul_lt_pow k.1 h.2
    have h3 := Int.natAbs_add_le (v.num * u.den) (u.num * v.den)
    rw [Int.natAbs_mul, Int.natAbs_mul, Int.natAbs_natCast, Int.natAbs_natCast] at h3
    rw [Nat.add_comm b a] at h2
    generalize v.num.natAbs * u.den = x at *
    generalize u.num.natAbs * v.den = y at *
    omega
  · have h2 := mul_lt_pow h.2 k.2
    omega
theorem Bd.neg {a : Nat} {v : Rat} (h : Bd a v) : Bd a (-v) := ⟨by simpa using h.1, by simpa using h.2⟩
theorem IsV.lens {w : World} {g : Bool} {p q : Option Addr} {n c m d H : Nat} {v : Rat} (h : IsV w g p n c q m d v) (hb : Bd H v) : n ≤ H ∧ m ≤ H := ⟨h.1.1.len_le hb.1, h.2.len_le hb.2⟩
theorem IsV.bd {w : World} {g : Bool} {p q : Option Addr} {n c m d H : Nat} {v : Rat} (h : IsV w g p n c q m d v) (hn : n ≤ H) (hm : m ≤ H) : Bd H v :=
  ⟨Nat.lt_of_lt_of_le h.1.1.isN.lt (Nat.pow_le_pow_right (by omega) hn), Nat.lt_of_lt_of_le h.2.isN.lt (Nat.pow_le_pow_right (by omega) hm)⟩
/-- the cells of a term -/
def TmC (w : World) (cs : List Value) (t : Tm) : Prop := ∃ (g : Bool) (p : Option Addr) (n c : Nat) (q : Option Addr) (m d : Nat) (a : Option Addr) (k e : Nat),
  cs = [.bool g, .slice p n c, .slice q m d, .slice a k e] ∧ IsV w g p n c q m d t.2 ∧ ZRd w .i64 a k e t.1
theorem TmC.keep {w w' : World} {cs : List Value} {t : Tm} (h : TmC w cs t) (hg : w.grownBy w' none) : TmC w' cs t := by
  obtain ⟨g, p, n, c, q, m, d, a, k, e, h1, h2, h3⟩ := h
  exact ⟨g, p, n, c, q, m, d, a, k, e, h1, h2.keep hg, h3.keep hg⟩
theorem TmC.len {w : World} {cs : List Value} {t : Tm} (h : TmC w cs t) : cs.length = 4 := by
  obtain ⟨g, p, n, c, q, m, d, a, k, e, rfl, _⟩ := h
  rfl
/-- the element i of a row of terms -/
def TmAt (w : World) (p : Option Addr) (i : Nat) (t : Tm) : Prop := ∃ (b o : Nat) (cs : List Value), p = some ⟨b, o, none⟩ ∧ (∀ j (hj : j < cs.length), w.cell? ⟨b, o + i * 4 + j, none⟩ = some cs[j]) ∧ TmC w cs t
theorem TmAt.keep {w w' : World} {p : Option Addr} {i : Nat} {t : Tm} (h : TmAt w p i t) (hg : w.grownBy w' none) : TmAt w' p i t := by
  obtain ⟨b, o, cs, h1, h2, h3⟩ := h
  exact ⟨b, o, cs, h1, fun j hj => hg.cell (h2 j hj) (by simp), h3.keep hg⟩
/-- .slice p n c is a slice of terms that reads as P -/
structure IsP (w : World) (p : Option Addr) (n c : Nat) (P : List Tm) : Prop where
  len : P.length = n
  cap : n ≤ c
  max : c ≤ 9223372036854775807
  tms : ∀ i (hi : i < P.length), TmAt w p i P[i]
theorem IsP.keep {w w' : World} {p : Option Addr} {n c : Nat} {P : List Tm} (h : IsP w p n c P) (hg : w.grownBy w' none) : IsP w' p n c P := ⟨h.len, h.cap, h.max, fun i hi => (h.tms i hi).keep hg⟩
theorem IsP.nil (w : World) : IsP w none 0 0 [] := ⟨rfl, Nat.le_refl _, by omega, fun i hi => absurd hi (Nat.not_lt_zero i)⟩
/-- the cells of the element i, as the walk wants them -/
theorem TmAt.out {w : World} {p : Option Addr} {i : Nat} {t : Tm} (h : TmAt w p i t) : ∃ (b o : Nat) (g : Bool) (p1 : Option Addr) (n1 c1 : Nat) (p2 : Option Addr) (n2 c2 : Nat) (a : Option Addr) (k e : Nat),
    p = some ⟨b, o, none⟩ ∧ (w.cell? ⟨b, o + i * 4, none⟩ = some (.bool g) ∧ w.cell? ⟨b, o + i * 4 + 1, none⟩ = some (.slice p1 n1 c1) ∧ w.cell? ⟨b, o + i * 4 + 2, none⟩ = some (.slice p2 n2 c2) ∧ w.cell? ⟨b, o + i * 4 + 3, none⟩ = some (.slice a k e)) ∧ IsV w g p1 n1 c1 p2 n2 c2 t.2 ∧ ZRd w .i64 a k e t.1 := by
  obtain ⟨b, o, cs, h1, h2, g, p1, n1, c1, p2, n2, c2, a, k, e, rfl, h3, h4⟩ := h
  exact ⟨b, o, g, p1, n1, c1, p2, n2, c2, a, k, e, h1, ⟨h2 0 (by simp), h2 1 (by simp), h2 2 (by simp), h2 3 (by simp)⟩, h3, h4⟩
/-- bounds of the coefficients, and of the exponents -/
def BdP (H : Nat) (P : List Tm) : Prop := ∀ t ∈ P, Bd H t.2
def ExP (B : Int) (P : List Tm) : Prop := ∀ t ∈ P, RightZ B t.1
theorem BdP.mono {a b : Nat} {P : List Tm} (h : BdP a P) (hab : a ≤ b) : BdP b P := fun t ht => (h t ht).mono hab
theorem BdP.at {H : Nat} {P : List Tm} (h : BdP H P) {i : Nat} (hi : i < P.length) : Bd H P[i].2 := h _ (List.getElem_mem hi)
theorem ExP.at {B : Int} {P : List Tm} (h : ExP B P) {i : Nat} (hi : i < P.length) : RightZ B P[i].1 := h _ (List.getElem_mem hi)
theorem BdP.add {a b : Nat} : ∀ {p q : List Tm}, BdP a p → BdP b q → BdP (a + b + 1) (addP p q)
  | [], q, _, h2 => by rw [show addP [] q = q by cases q <;> simp [addP]]; exact h2.mono (by omega)
  | p, [], h1, _ => by rw [addP_nil]; exact h1.mono (by omega)
  | s :: p, t :: q, h1, h2 => by
    have e1 : BdP a p := fun x hx => h1 x (by simp [hx])
    have e2 : BdP b q := fun x hx => h2 x (by simp [hx])
    rw [addP]
    split
    · intro x hx
      rcases List.mem_cons.1 hx with rfl | hx
      · exact (h1 _ (by simp)).mono (by omega)
      · exact BdP.add e1 h2 x hx
    · split
      · intro x hx
        rcases List.mem_cons.1 hx with rfl | hx
        · exact (h2 _ (by simp)).mono (by omega)
        · exact BdP.add h1 e2 x hx
      · split
        · exact BdP.add e1 e2
        · intro x hx
          rcases List.mem_cons.1 hx with rfl | hx
          · exact (h1 _ (by simp)).add (h2 _ (by simp))
          · exact BdP.add e1 e2 x hx
theorem ExP.add {B : Int} {p q : List Tm} (h1 : ExP B p) (h2 : ExP B q) : ExP B (addP p q) := fun u hu => by
  rcases mem_addP p q u hu with ⟨s, hs, e⟩ | ⟨t, ht, e⟩
  · rw [e]; exact h1 s hs
  · rw [e]; exact h2 t ht
end Go.Proofs.YtknmdmofmcfjhaaGreatDoor

set_option linter.unusedVariables false
set_option linter.unusedSimpArgs false
namespace Go.Proofs.YtknmdmofmcfjhaaGreatDoor
open Go Go.RowKit _root_.Nm
theorem infoTm : (Tryz.prog.info? 33).map (fun i => (i.zero, i.size, i.bytes)) = some (some (.agg #[.bool false, .slice none 0 0, .slice none 0 0, .slice none 0 0]), 4, 80) := by kernel_rfl
theorem tmZ : (Value.agg #[.bool false, .slice none 0 0, .slice none 0 0, .slice none 0 0]).cells = #[.bool false, .slice none 0 0, .slice none 0 0, .slice none 0 0] := by kernel_rfl
theorem tmZs : (Value.agg #[.bool false, .slice none 0 0, .slice none 0 0, .slice none 0 0]).cells.size = 4 := by kernel_rfl
theorem four_pos : 0 < 4 := by decide
theorem noInt4 (g : Bool) (p1 : Option Addr) (n1 c1 : Nat) (p2 : Option Addr) (n2 c2 : Nat) (p3 : Option Addr) (n3 c3 : Nat) : ∀ v ∈ [Value.bool g, .slice p1 n1 c1, .slice p2 n2 c2, .slice p3 n3 c3], NoInt v := by
  intro v hv
  simp only [List.mem_cons, List.not_mem_nil, or_false] at hv
  rcases hv with rfl | rfl | rfl | rfl <;> intro k x h <;> cases h
theorem tmZn : ∀ v ∈ (Value.agg #[.bool false, .slice none 0 0, .slice none 0 0, .slice none 0 0]).cells, NoInt v := by
  rw [tmZ]
  intro v hv
  exact noInt4 false none 0 0 none 0 0 none 0 0 v (Array.mem_def.1 hv)
theorem one4 (g : Bool) (p1 : Option Addr) (n1 c1 : Nat) (p2 : Option Addr) (n2 c2 : Nat) (p3 : Option Addr) (n3 c3 : Nat) : ∀ v ∈ [Value.bool g, .slice p1 n1 c1, .slice p2 n2 c2, .slice p3 n3 c3], v.oneCell' = true := by
  intro v hv
  simp only [List.mem_cons, List.not_mem_nil, or_false] at hv
  rcases hv with rfl | rfl | rfl | rfl <;> rfl
theorem TmC.noInt {w : World} {cs : List Value} {t : Tm} (h : TmC w cs t) : ∀ v ∈ cs, NoInt v := by
  obtain ⟨g, p, n, c, q, m, d, a, k, e, rfl, _⟩ := h
  exact noInt4 _ _ _ _ _ _ _ _ _ _
theorem TmC.one {w : World} {cs : List Value} {t : Tm} (h : TmC w cs t) : ∀ v ∈ cs, v.oneCell' = true := by
  obtain ⟨g, p, n, c, q, m, d, a, k, e, rfl, _⟩ := h
  exact one4 _ _ _ _ _ _ _ _ _ _
/-- a term's slices do not lie in a row of terms -/
theorem TmC.stayQ {w : World} {cs : List Value} {t : Tm} (h : TmC w cs t) {base : Nat} {e : TypeId} {k : Nat} {p : Option Addr} {n c : Nat} {l : List (List Value)} (hq : QOwn w base e k p n c l) : Stay w (fun G => p.map (·.block) = some G) (fun W => TmC W cs t) := by
  obtain ⟨g, p1, n1, c1, q1, m1, d1, a, k1, e1, rfl, ⟨⟨h1, h2⟩, h3⟩, h4⟩ := h
  intro W hW
  exact ⟨g, p1, n1, c1, q1, m1, d1, a, k1, e1, rfl, ⟨⟨Stay.ird h1 (hq.ird h1) W hW, h2⟩, Stay.ird h3 (hq.ird h3) W hW⟩, Stay.zrd h4 (hq.zrd h4) W hW⟩
/-- the terms of a row -/
def RwS (w : World) (p : Option Addr) (rows : List (List Value)) (P : List Tm) : Prop := P.length = rows.length ∧ ∀ i (hi : i < rows.length) (hj : i < P.length), Stay w (fun G => p.map (·.block) = some G) (fun W => TmC W rows[i] P[i])
theorem RwS.nil (w : World) (p : Option Addr) : RwS w p [] [] := ⟨rfl, fun i hi => absurd hi (Nat.not_lt_zero i)⟩
theorem RwS.keep {w w' : World} {p : Option Addr} {rows : List (List Value)} {P : List Tm} (h : RwS w p rows P) (hg : w.grownBy w' none) : RwS w' p rows P := ⟨h.1, fun i hi hj => (h.2 i hi hj).keep hg⟩
theorem RwS.move {w w' : World} {p p' : Option Addr} {rows : List (List Value)} {P : List Tm} (h : RwS w p rows P) (hg : w.grownBy w' (p.map (·.block))) (hat : p'.map (·.block) = p.map (·.block) ∨ p'.map (·.block) = some w.heap.size) : RwS w' p' rows P := by
  refine ⟨h.1, fun i hi hj => (h.2 i hi hj).step fun G O hG hS => ?_⟩
  have hlt := lt_of_block hG
  refine ⟨(hg.block G hlt (fun e => hS e.symm)).trans hG, fun h3 => ?_⟩
  rcases hat with e | e
  · exact hS (by rw [← e, h3])
  · rw [e] at h3
    simp at h3
    omega
theorem RwS.app {w : World} {p : Option Addr} {rows rs : List (List Value)} {P Q : List Tm} (h : RwS w p rows P) (k : RwS w p rs Q) : RwS w p (rows ++ rs) (P ++ Q) := by
  refine ⟨by rw [List.length_append, List.length_append, h.1, k.1], fun i hi hj => ?_⟩
  by_cases hlt : i < rows.length
  · rw [List.getElem_append_left hlt, List.getElem_append_left (by rw [h.1]; exact hlt)]
    exact h.2 i hlt _
  · have := h.1
    rw [List.getElem_append_right (by omega), List.getElem_append_right (by omega)]
    have e : i - P.length = i - rows.length := by omega
    have := k.2 (i - rows.length) (by simp at hi; omega) (by simp at hj; omega)
    simp only [e]
    exact this
/-- one more term -/
theorem RwS.snoc {w w' : World} {p p' : Option Addr} {base : Nat} {e : TypeId} {k n c : Nat} {l : List (List Value)} {rows : List (List Value)} {P : List Tm} (hq : QOwn w base e k p n c l) (h : RwS w p rows P) {cs : List Value} {t : Tm} (ht : TmC w cs t)
    (hg : w.grownBy w' (p.map (·.block))) (hat : p'.map (·.block) = p.map (·.block) ∨ p'.map (·.block) = some w.heap.size) : RwS w' p' (rows ++ [cs]) (P ++ [t]) := by
  have h1 : RwS w p [cs] [t] := ⟨rfl, fun i hi hj => by
    have : i = 0 := by simpa using hi
    subst this
    exact ht.stayQ hq⟩
  exact (h.app h1).move hg hat
theorem IsP.ofQ {w : World} {base : Nat} {p : Option Addr} {n c : Nat} {rows : List (List Value)} {P : List Tm} (hq : QOwn w base 33 4 p n c rows) (h : RwS w p rows P) : IsP w p n c P := by
  have hl := hq.len
  refine ⟨by rw [h.1, hl], hq.cap, hq.max, fun i hi => ?_⟩
  obtain ⟨b, o, e, hc⟩ := hq.rd.at (by decide) (i := i) (by rw [← h.1]; exact hi)
  exact ⟨b, o, rows[i]'(by rw [← h.1]; exact hi), e, hc, (h.2 i (by rw [← h.1]; exact hi) hi).out⟩
/-- a slice of terms as a row of cells -/
theorem IsP.rows {w : World} {p : Option Addr} {n c : Nat} {P : List Tm} (h : IsP w p n c P) : ∃ rs, SRd w 4 p n c rs ∧ rs.length = P.length ∧ ∀ i (hi : i < rs.length) (hj : i < P.length), TmC w rs[i] P[i] := by
  have hex : ∀ i, ∃ cs : List Value, ∀ hi : i < P.length, ∃ b o, p = some ⟨b, o, none⟩ ∧ (∀ j (hj : j < cs.length), w.cell? ⟨b, o + i * 4 + j, none⟩ = some cs[j]) ∧ TmC w cs P[i] := fun i => by
    by_cases hi : i < P.length
    · obtain ⟨b, o, cs, h1, h2, h3⟩ := h.tms i hi
      exact ⟨cs, fun _ => ⟨b, o, h1, h2, h3⟩⟩
    · exact ⟨[], fun h => absurd h hi⟩
  obtain ⟨C, hC⟩ : ∃ C : Nat → List Value, ∀ i (hi : i < P.length), ∃ b o, p = some ⟨b, o, none⟩ ∧ (∀ j (hj : j < (C i).length), w.cell? ⟨b, o + i * 4 + j, none⟩ = some (C i)[j]) ∧ TmC w (C i) P[i] := ⟨fun i => Classical.choose (hex i), fun i => Classical.choose_spec (hex i)⟩
  have hget : ∀ i (hi : i < ((List.range P.length).map C).length), ((List.range P.length).map C)[i] = C i := fun i hi => by simp
  refine ⟨(List.range P.length).map C, ⟨by simp [h.len], fun r hr => ?_, h.cap, h.max, fun i hi j hj => ?_⟩, by simp, fun i hi hj => ?_⟩
  · obtain ⟨i, hi, rfl⟩ := List.mem_map.1 hr
    obtain ⟨b, o, _, _, h3⟩ := hC i (by simpa using hi)
    exact h3.len
  · obtain ⟨b, o, h1, h2, _⟩ := hC i (by simpa using hi)
    have hj' : j < (C i).length := by rw [hget] at hj; exact hj
    refine ⟨b, o, h1, ?_⟩
    rw [h2 j hj']
    congr 1
    simp only [hget]
  · obtain ⟨b, o, _, _, h3⟩ := hC i hj
    rw [hget]
    exact h3
/-- the rest behind the first term -/
theorem IsP.tail {w : World} {b o n c : Nat} {t : Tm} {P : List Tm} (h : IsP w (some ⟨b, o, none⟩) n c (t :: P)) : IsP w (some ⟨b, o + 4, none⟩) (n - 1) (c - 1) P := by
  have hl := h.len
  have hc := h.cap
  have hm := h.max
  simp only [List.length_cons] at hl
  refine ⟨by omega, by omega, by omega, fun i hi => ?_⟩
  obtain ⟨b', o', cs, e, h2, h3⟩ := h.tms (i + 1) (by simp; omega)
  cases e
  refine ⟨b, o + 4, cs, rfl, fun j hj => ?_, by simpa using h3⟩
  have := h2 j hj
  rw [show o + 4 + i * 4 + j = o + (i + 1) * 4 + j by omega]
  exact this
/-- a new row of terms, empty -/
theorem made_q (w : World) (N base : Nat) (hb : base ≤ w.heap.size) (hN : N ≤ 9223372036854775807) : QOwn (w.alloc (.cells (madeCells #[.bool false, .slice none 0 0, .slice none 0 0, .slice none 0 0] (N * 4)) 33)) base 33 4 (some ⟨w.heap.size, 0, none⟩) 0 N [] := by
  refine ⟨rfl, by simp, Nat.zero_le _, .inr ⟨w.heap.size, _, rfl, hb, heap_alloc_new w _, by unfold maxLen; omega, size_madeCells _ _, by simp, fun v hv => ?_⟩⟩
  unfold madeCells at hv
  obtain ⟨i, _, rfl⟩ := Array.mem_map.1 hv
  have : i % 4 < 4 := Nat.mod_lt _ (by decide)
  show NoInt (#[Value.bool false, .slice none 0 0, .slice none 0 0, .slice none 0 0][i % 4]!)
  match h : i % 4, this with
  | 0, _ => exact NoInt.bool _
  | 1, _ => exact NoInt.slice _ _ _
  | 2, _ => exact NoInt.slice _ _ _
  | 3, _ => exact NoInt.slice _ _ _
theorem run_make_tms (n : Nat) (hn : n ≤ 2000000) (w : World) :
    (Instr.makeSlice 35 (.int .i64 (n : Int)) (.int .i64 (n : Int))).run Tryz.prog w = .ok (.slice (some ⟨w.heap.size, 0, none⟩) n n) (w.alloc (.cells (madeCells #[.bool false, .slice none 0 0, .slice none 0 0, .slice none 0 0] (n * 4)) 33)) := by
  obtain ⟨i, hi, hz0, hz1, hz2⟩ := info_parts infoTm
  have hb : (i.bytes : Int) * (n : Int) ≤ 281474976710656 := by rw [hz2]; omega
  have hr := run_make (P := Tryz.prog) w 35 33 i (.agg #[.bool false, .slice none 0 0, .slice none 0 0, .slice none 0 0]) Tryz.underlying35 hi hz0 .i64 .i64 n n (by omega) (by omega) hb (by omega)
  simp only [Int.toNat_natCast] at hr
  rw [hr, hz1, tmZ]
theorem run_make_cap (n : Nat) (hn : n ≤ 2000000) (w : World) :
    (Instr.makeSlice 35 (.int .i64 0) (.int .i64 (n : Int))).run Tryz.prog w = .ok (.slice (some ⟨w.heap.size, 0, none⟩) 0 n) (w.alloc (.cells (madeCells #[.bool false, .slice none 0 0, .slice none 0 0, .slice none 0 0] (n * 4)) 33)) := by
  obtain ⟨i, hi, hz0, hz1, hz2⟩ := info_parts infoTm
  have hb : (i.bytes : Int) * (n : Int) ≤ 281474976710656 := by rw [hz2]; omega
  have hr := run_make (P := Tryz.prog) w 35 33 i (.agg #[.bool false, .slice none 0 0, .slice none 0 0, .slice none 0 0]) Tryz.underlying35 hi hz0 .i64 .i64 0 n (by omega) (by omega) hb (by omega)
  simp only [Int.toNat_natCast] at hr
  have h0 : (0 : Int).toNat = 0 := rfl
  rw [hr, hz1, tmZ, h0]
/-- four cells set: one more element -/
theorem _root_.Nm.QOwn.put4 {w : World} {base g i N : Nat} {rows : List (List Value)} (hq : QOwn w base 33 4 (some ⟨g, 0, none⟩) i N rows) (hi : i < N) (x y z u : Value) (hx : NoInt x) (hy : NoInt y) (hz : NoInt z) (hu : NoInt u) :
    QOwn ((((w.setCell ⟨g, i * 4, none⟩ x).setCell ⟨g, i * 4 + 1, none⟩ y).setCell ⟨g, i * 4 + 2, none⟩ z).setCell ⟨g, i * 4 + 3, none⟩ u) base 33 4 (some ⟨g, 0, none⟩) (i + 1) N (rows ++ [[x, y, z, u]]) := by
  have hl := hq.len
  have hfl := hq.flat
  rcases hq.own with ⟨h1, _⟩ | ⟨g', cur, h1, h2, h3, h4, h5, h6, h7⟩
  · cases h1
  · cases h1
    have e1 := heap_setCell_same w g (i * 4) _ _ x h3
    have e2 := heap_setCell_same _ g (i * 4 + 1) _ _ y e1
    have e3 := heap_setCell_same _ g (i * 4 + 2) _ _ z e2
    have e4 := heap_setCell_same _ g (i * 4 + 3) _ _ u e3
    refine ⟨by simp [hl], fun r hr => ?_, by omega, .inr ⟨g, _, rfl, h2, e4, h4, by simpa using h5, ?_, ?_⟩⟩
    · rcases List.mem_append.1 hr with h | h
      · exact hq.each r h
      · rw [List.mem_singleton.1 h]; rfl
    · have hcl : cur.toList.length = N * 4 := by simpa using h5
      apply List.ext_getElem?
      intro j
      simp only [Array.toList_setIfInBounds, List.flatten_append, List.flatten_cons, List.flatten_nil, List.append_nil]
      rw [List.getElem?_take]
      by_cases hj : j < i * 4
      · rw [if_pos (by omega), List.getElem?_append_left (by omega), ← h6, List.getElem?_take, if_pos hj]
        simp only [List.getElem?_set]
        rw [if_neg (by omega), if_neg (by omega), if_neg (by omega), if_neg (by omega)]
      · rw [List.getElem?_append_right (by omega), hfl]
        by_cases hj2 : j < (i + 1) * 4
        · rw [if_pos hj2]
          simp only [List.getElem?_set, List.length_set]
          obtain ⟨r, hr, hr4⟩ : ∃ r, j = i * 4 + r ∧ r < 4 := ⟨j - i * 4, by omega, by omega⟩
          subst hr
          have hjl : i * 4 + r < cur.toList.length := by omega
          match r, hr4 with
          | 0, _ => simp; omega
          | 1, _ => simp; omega
          | 2, _ => simp; omega
          | 3, _ => simp; omega
        · rw [if_neg hj2, List.getElem?_eq_none (by simp; omega)]
    · intro v hv
      have hv := Array.mem_or_eq_of_mem_setIfInBounds hv
      rcases hv with hv | rfl
      · rcases Array.mem_or_eq_of_mem_setIfInBounds hv with hv | rfl
        · rcases Array.mem_or_eq_of_mem_setIfInBounds hv with hv | rfl
          · rcases Array.mem_or_eq_of_mem_setIfInBounds hv with hv | rfl
            · exact h7 v hv
            · exact hx
          · exact hy
        · exact hz
      · exact hu
end Go.Proofs.YtknmdmofmcfjhaaGreatDoor

set_option linter.unusedVariables false
set_option linter.unusedSimpArgs false
namespace Go.Proofs.YtknmdmofmcfjhaaGreatDoor
open Go Go.RowKit _root_.Nm
theorem box3p {w : World} {G : Nat} {a b c : Value} {T : TypeId} (hb : w.heap[G]? = some (.cells #[a, b, c] T (0, 0))) :
    w.cell? ⟨G, 0, none⟩ = some a ∧ w.cell? ⟨G, 1, none⟩ = some b ∧ w.cell? ⟨G, 2, none⟩ = some c := by
  have k := fun i => cell_of_row w G i _ _ _ hb
  have k0 := k 0; have k1 := k 1; have k2 := k 2
  simp at k0 k1 k2
  exact ⟨k0, k1, k2⟩
theorem box4p {w : World} {G : Nat} {a b c d : Value} {T : TypeId} (hb : w.heap[G]? = some (.cells #[a, b, c, d] T (0, 0))) :
    w.cell? ⟨G, 0, none⟩ = some a ∧ w.cell? ⟨G, 1, none⟩ = some b ∧ w.cell? ⟨G, 2, none⟩ = some c ∧ w.cell? ⟨G, 3, none⟩ = some d := by
  have k := fun i => cell_of_row w G i _ _ _ hb
  have k0 := k 0; have k1 := k 1; have k2 := k 2; have k3 := k 3
  simp at k0 k1 k2 k3
  exact ⟨k0, k1, k2, k3⟩
/-- a polynomial is returned -/
def PPost (w : World) (P : List Tm) (e : Ending) (w' : World) : Prop := ∃ (p : Option Addr) (n c : Nat), e = .returned (.slice p n c) ∧ IsP w' p n c P ∧ w.grownBy w' none
theorem IsP.one {w : World} {G : Nat} {g : Bool} {p : Option Addr} {n c : Nat} {q : Option Addr} {m d : Nat} {a : Option Addr} {k e : Nat} {xs : List Int} {v : Rat} (hb : w.heap[G]? = some (.cells #[.bool g, .slice p n c, .slice q m d, .slice a k e] 33 (0, 0))) (hV : IsV w g p n c q m d v) (hx : ZRd w .i64 a k e xs) : IsP w (some ⟨G, 0, none⟩) 1 1 [(xs, v)] := by
  refine ⟨rfl, Nat.le_refl _, by omega, fun i hi => ?_⟩
  have : i = 0 := by simpa using hi
  subst this
  refine ⟨G, 0, [.bool g, .slice p n c, .slice q m d, .slice a k e], rfl, fun j hj => ?_, g, p, n, c, q, m, d, a, k, e, rfl, hV, hx⟩
  rw [cell_of_row w G (0 + 0 * 4 + j) _ _ _ hb]
  simp only [Nat.zero_add, Nat.zero_mul, List.getElem?_toArray]
  exact List.getElem?_eq_getElem hj
set_option maxHeartbeats 16000000 in
set_option maxRecDepth 100000 in
theorem single_v (S : Nat) {w : World} (T : Tb w) {g1 : Bool} {p1 q1 : Option Addr} {n1 c1 m1 d1 : Nat} {v : Rat} (hA : IsQ w g1 p1 n1 c1 q1 m1 d1 v) (hn1 : n1 ≤ S) (hm1 : m1 ≤ S) (hS : S ≤ 30000) {a1 : Option Addr} {k1 e1 : Nat} {xs : List Int} (hx : ZRd w .i64 a1 k1 e1 xs) :
    Calls Tryz.prog 61 #[.agg #[.bool g1, .slice p1 n1 c1, .slice q1 m1 d1], .slice a1 k1 e1] w (PPost w (one xs v)) := by
  have HT := hid T
  have HA := hid hA
  have HX := hid hx
  have hW := World.grownBy_alloc w (.cells #[.bool g1, .slice p1 n1 c1, .slice q1 m1 d1] 29 (0, 0)) none
  have BX := hid (blk0 w (.cells #[.bool g1, .slice p1 n1 c1, .slice q1 m1 d1] 29 (0, 0)))
  obtain ⟨k0, k1', k2⟩ := box3p BX.out
  clear T hA hx
  go_enter Tryz.func61, Tryz.ntmps61
  go_upto_region 1 with fail
  generalize w.alloc _ = w0 at *
  have HSG := hid (ratSign_v S (HA.out.keep hW) hn1 hm1 (by omega))
  by_cases hv : v = 0
  · have hc : cmpR v 0 = 0 := cmpR_zero.2 hv
    rw [hc] at HSG
    go_wp2_with (go_at_call 63; (with_reducible refine HSG.out.mono ?_); rintro e w1 ⟨rfl, hg⟩)
    go_ret
    exact ⟨none, 0, 0, rfl, by unfold one; rw [if_pos hv]; exact IsP.nil _, grown_trans hW hg⟩
  · have HONE : Hid (one xs v = [(xs, v)]) := hid (by unfold one; rw [if_neg hv])
    have hc : (cmpR v 0 == 0) = false := by rw [beq_eq_false_iff_ne]; exact fun h => hv (cmpR_zero.1 h)
    have hc2 : ¬ (cmpR v 0 = 0) := fun h => hv (cmpR_zero.1 h)
    generalize cmpR v 0 = sv at *
    obtain ⟨b0, hb0⟩ : ∃ x, x = w.heap.size := ⟨_, rfl⟩
    rw [← hb0] at BX k0 k1' k2 ⊢
    clear hb0
    go_upto_region 3 with (go_at_call 63; (with_reducible refine HSG.out.mono ?_); rintro e w1 ⟨rfl, hg⟩; replace BX := hid (keepB BX.out hg); replace hW := grown_trans hW hg; clear hg k0 k1' k2)
    have HW := hid hW
    clear hW
    refine wp_region_noPanic ?_
    refine wp_region_held_drew (S := (fun W => W.heap[b0]? = some (.cells #[.bool g1, .slice p1 n1 c1, .slice q1 m1 d1] 29 (0, 0)))) (by kernel_rfl) ?_ (fun hHeld => ?_)
    · (try dsimp only)
      exact keepB BX.out (grown_drew _ none)
    have hgg := grown_drew w1 none
    generalize w1.drew = wd at *
    refine wpAnyH_take (i := 0) (oi := Oper.mk _ _ _ _ _ _) (v := ?_) rfl (by kernel_rfl) (by kernel_rfl) (by kernel_rfl) (fun _ _ _ h => h) (Or.inl ⟨by kernel_rfl, ?_⟩) hHeld ?_
    rotate_left 1
    · intro W hSw
      (try dsimp only at hSw)
      obtain ⟨h0, h1, h2⟩ := box3p hSw
      go_simp
      (try (with_reducible rfl))
    (try simp only [Act.put, List.setIfInBounds_toArray, List.set_cons_zero, List.set_cons_succ])
    refine wpAnyH_take (i := 3) (oi := Oper.mk _ _ _ _ _ _) (v := ?_) rfl (by kernel_rfl) (by kernel_rfl) (by kernel_rfl) (fun _ _ _ h => h) (Or.inl ⟨by kernel_rfl, ?_⟩) hHeld ?_
    rotate_left 1
    · intro W hSw
      (try dsimp only at hSw)
      obtain ⟨h0, h1, h2⟩ := box3p hSw
      go_simp
      (try (with_reducible rfl))
    (try simp only [Act.put, List.setIfInBounds_toArray, List.set_cons_zero, List.set_cons_succ])
    refine wpAnyH_ready (rs := [1]) (by kernel_rfl) (by simp) ?_
    refine AllReadyH.cons (o := Oper.mk _ _ _ _ _ _) rfl (fun K hK => ?_) AllReadyH.nil
    (try rw [if_pos (by kernel_rfl)])
    go_simp
    go_at_call 91
    refine (ratOf_v 1 _ (by omega) (by omega)).mono ?_
    rintro e wy1 ⟨g2, p2, n2, c2, q2, m2, d2, rfl, hV2, hn2, hm2, hgS⟩
    replace hgg := grown_trans hgg hgS
    refine hK.out _ _ ?_ (fun hNew => ?_)
    · have hH := hHeld
      (try dsimp only at hH)
      (try dsimp only)
      first | with_reducible exact hH | with_reducible exact keepB hH hgS | exact (hgS.block _ (lt_of_block hH) (by simp; omega)).trans hH
    clear hK K hHeld
    have hHeld := hNew
    clear hNew
    (try simp only [Act.put, List.setIfInBounds_toArray, List.set_cons_zero, List.set_cons_succ])
    clear hgS
    refine wpAnyH_ready (rs := [2]) (by kernel_rfl) (by simp) ?_
    refine AllReadyH.cons (o := Oper.mk _ _ _ _ _ _) rfl (fun K hK => ?_) AllReadyH.nil
    (try rw [if_pos (by kernel_rfl)])
    go_simp
    go_at_call 51
    refine (ratMul_v (S + 4) (HT.out.keep (grown_trans HW.out hgg)) (HA.out.keep (grown_trans HW.out hgg)) hV2.q (by omega) (by omega) (by omega) (by omega) (by omega)).mono ?_
    rintro e wy2 ⟨g3, p3, n3, c3, q3, m3, d3, rfl, hV3, hn3, hm3, hgS⟩
    replace hgg := grown_trans hgg hgS
    replace hV2 := hV2.keep hgS
    refine hK.out _ _ ?_ (fun hNew => ?_)
    · have hH := hHeld
      (try dsimp only at hH)
      (try dsimp only)
      first | with_reducible exact hH | with_reducible exact keepB hH hgS | exact (hgS.block _ (lt_of_block hH) (by simp; omega)).trans hH
    clear hK K hHeld
    have hHeld := hNew
    clear hNew
    (try simp only [Act.put, List.setIfInBounds_toArray, List.set_cons_zero, List.set_cons_succ])
    clear hgS
    refine wpAnyH_ready (rs := [4]) (by kernel_rfl) (by simp) ?_
    refine AllReadyH.cons (o := Oper.mk _ _ _ _ _ _) rfl (fun K hK => ?_) AllReadyH.nil
    (try rw [if_pos (by kernel_rfl)])
    go_simp
    refine hK.out _ _ ?_ (fun hNew => ?_)
    · have hH := hHeld
      (try dsimp only at hH)
      (try dsimp only)
      first | with_reducible exact hH | with_reducible exact keepB hH hgS | exact (hgS.block _ (lt_of_block hH) (by simp; omega)).trans hH
    clear hK K hHeld
    have hHeld := hNew
    clear hNew
    (try simp only [Act.put, List.setIfInBounds_toArray, List.set_cons_zero, List.set_cons_succ])
    refine wpAnyH_ready (rs := [5]) (by kernel_rfl) (by simp) ?_
    refine AllReadyH.cons (o := Oper.mk _ _ _ _ _ _) rfl (fun K hK => ?_) AllReadyH.nil
    (try rw [if_pos (by kernel_rfl)])
    go_simp
    have hgS := World.grownBy_alloc wy2 (.cells #[.bool g3, .slice p3 n3 c3, .slice q3 m3 d3, .slice a1 k1 e1] 33 (0, 0)) none
    have hbN := blk0 wy2 (.cells #[.bool g3, .slice p3 n3 c3, .slice q3 m3 d3, .slice a1 k1 e1] 33 (0, 0))
    have hlegn := hgg.size
    replace hgg := grown_trans hgg hgS
    replace hV2 := hV2.keep hgS
    replace hV3 := hV3.keep hgS
    refine hK.out _ _ ?_ (fun hNew => ?_)
    · have hH := hHeld
      (try dsimp only at hH)
      (try dsimp only)
      first | with_reducible exact hH | with_reducible exact keepB hH hgS | exact (hgS.block _ (lt_of_block hH) (by simp; omega)).trans hH
    clear hK K hHeld
    have hHeld := hNew
    clear hNew
    (try simp only [Act.put, List.setIfInBounds_toArray, List.set_cons_zero, List.set_cons_succ])
    generalize wy2.heap.size = gn at *
    generalize wy2.alloc _ = wy3 at *
    clear hgS
    refine wpAnyH_ready (rs := [6]) (by kernel_rfl) (by simp) ?_
    refine AllReadyH.cons (o := Oper.mk _ _ _ _ _ _) rfl (fun K hK => ?_) AllReadyH.nil
    (try rw [if_pos (by kernel_rfl)])
    go_simp
    refine hK.out _ _ ?_ (fun hNew => ?_)
    · have hH := hHeld
      (try dsimp only at hH)
      (try dsimp only)
      first | with_reducible exact hH | with_reducible exact keepB hH hgS | exact (hgS.block _ (lt_of_block hH) (by simp; omega)).trans hH
    clear hK K hHeld
    have hHeld := hNew
    clear hNew
    (try simp only [Act.put, List.setIfInBounds_toArray, List.set_cons_zero, List.set_cons_succ])
    refine wpAnyH_done (by kernel_rfl) ?_ _
    refine NoPanic.normal ?_
    clear hHeld
    go_wp2_with fail
    go_ret
    exact ⟨_, _, _, rfl, by rw [HONE.out]; exact IsP.one hbN (by have := hV3; rw [show v * ((1 : Int) : Rat) = v by grind] at this; exact this) (HX.out.keep (grown_trans HW.out hgg)), grown_trans HW.out hgg⟩
set_option maxHeartbeats 4000000 in
set_option maxRecDepth 100000 in
theorem sum1_v {w : World} {g1 : Bool} {p1 q1 : Option Addr} {n1 c1 m1 d1 : Nat} {a1 : Option Addr} {k1 e1 : Nat} {g2 : Bool} {p2 q2 : Option Addr} {n2 c2 m2 d2 : Nat} {a2 : Option Addr} {k2 e2 : Nat} {xs ys : List Int} (hx : ZRd w .i64 a1 k1 e1 xs) (hy : ZRd w .i64 a2 k2 e2 ys) {B : Int} (rx : RightZ B xs) (ry : RightZ B ys) (hB : 0 ≤ B ∧ B ≤ 4294967296) :
    Calls Tryz.prog 136 #[.agg #[.bool g1, .slice p1 n1 c1, .slice q1 m1 d1, .slice a1 k1 e1], .agg #[.bool g2, .slice p2 n2 c2, .slice q2 m2 d2, .slice a2 k2 e2]] w fun e w' => e = .returned (.int .i64 (-(lexL xs ys))) ∧ w.grownBy w' none := by
  have hb := lexZ_bound (ex xs) (ex ys) (max xs.length ys.length)
  have HC := hid fun W (hg : w.grownBy W none) => cmpM_any a1 a2 k1 k2 e1 e2 xs ys 0 W (hx.keep hg) (hy.keep hg) rx ry hB hB
  have ho : ordZ 0 xs ys = lexL xs ys := by unfold ordZ; rw [if_neg (by intro h; have := h.1; omega)]
  rw [ho] at HC
  have hb2 : -1 ≤ lexL xs ys ∧ lexL xs ys ≤ 1 := hb
  clear hx hy rx ry ho hb
  generalize lexL xs ys = x at *
  have hwr : wrap64 (-x) = -x := Go.IntWalk.wrap64_in _ (by omega)
  have hW := grown_trans (World.grownBy_alloc w (.cells #[.bool g1, .slice p1 n1 c1, .slice q1 m1 d1, .slice a1 k1 e1] 33 (0, 0)) none) (World.grownBy_alloc (w.alloc (.cells #[.bool g1, .slice p1 n1 c1, .slice q1 m1 d1, .slice a1 k1 e1] 33 (0, 0))) (.cells #[.bool g2, .slice p2 n2 c2, .slice q2 m2 d2, .slice a2 k2 e2] 33 (0, 0)) none)
  obtain ⟨k0, k1', k2', k3⟩ := box4p (keepB (blk0 w (.cells #[.bool g1, .slice p1 n1 c1, .slice q1 m1 d1, .slice a1 k1 e1] 33 (0, 0))) (World.grownBy_alloc (w.alloc (.cells #[.bool g1, .slice p1 n1 c1, .slice q1 m1 d1, .slice a1 k1 e1] 33 (0, 0))) (.cells #[.bool g2, .slice p2 n2 c2, .slice q2 m2 d2, .slice a2 k2 e2] 33 (0, 0)) none))
  have hsz : (w.alloc (.cells #[.bool g1, .slice p1 n1 c1, .slice q1 m1 d1, .slice a1 k1 e1] 33 (0, 0))).heap.size = w.heap.size + 1 := by simp
  have B2 := blk0 (w.alloc (.cells #[.bool g1, .slice p1 n1 c1, .slice q1 m1 d1, .slice a1 k1 e1] 33 (0, 0))) (.cells #[.bool g2, .slice p2 n2 c2, .slice q2 m2 d2, .slice a2 k2 e2] 33 (0, 0))
  rw [hsz] at B2
  obtain ⟨l0, l1, l2, l3⟩ := box4p B2
  clear hsz B2
  go_enter Tryz.func136, Tryz.ntmps136
  go_upto_region 1 with fail
  generalize ((w.alloc _).alloc _) = w0 at *
  go_wp2_with (go_at_call 79; (with_reducible refine (HC.out _ hW).mono ?_); rintro e w1 ⟨rfl, rfl⟩)
  go_ret
  exact ⟨rfl, hW⟩
/-- a number's slices do not lie in a term's box -/
theorem stay_rat {w w' : World} {g1 : Bool} {p1 q1 : Option Addr} {n1 c1 m1 d1 : Nat} {v : Rat} (h : IsV w g1 p1 n1 c1 q1 m1 d1 v) {G : Nat} {cs : Array Value} {T : TypeId} (hbE : w'.heap[G]? = some (.cells cs T (0, 0))) (hg : w.grownBy w' (some G)) {g : Bool} {p : Option Addr} {n c : Nat} {q : Option Addr} {m d : Nat} {a : Option Addr} {k e : Nat} (hb : w.heap[G]? = some (.cells #[.bool g, .slice p n c, .slice q m d, .slice a k e] T (0, 0))) : IsV w' g1 p1 n1 c1 q1 m1 d1 v := by
  obtain ⟨⟨h1, h2⟩, h3⟩ := h
  have hno : ∀ v ∈ #[Value.bool g, .slice p n c, .slice q m d, .slice a k e], ∀ x, v ≠ .int .u16 x := by simp
  have hS : ∀ G' O, w.heap[G']? = some O → ¬ G' = G → w'.heap[G']? = some O := fun G' O hG' hne => (hg.block G' (lt_of_block hG') (by simpa using hne)).trans hG'
  exact ⟨⟨Stay.ird (S := fun x => x = G) h1 (fun x hx hm e => h1.notIn hb hno x hx hm e) w' hS, h2⟩, Stay.ird (S := fun x => x = G) h3 (fun x hx hm e => h3.notIn hb hno x hx hm e) w' hS⟩
set_option maxHeartbeats 16000000 in
set_option maxRecDepth 100000 in
theorem sum2_v (S : Nat) {w : World} (T : Tb w) {g1 : Bool} {p1 q1 : Option Addr} {n1 c1 m1 d1 : Nat} {a1 : Option Addr} {k1 e1 : Nat} {g2 : Bool} {p2 q2 : Option Addr} {n2 c2 m2 d2 : Nat} {a2 : Option Addr} {k2 e2 : Nat} {v u : Rat} (hA : IsV w g1 p1 n1 c1 q1 m1 d1 v) (hB : IsV w g2 p2 n2 c2 q2 m2 d2 u) (hn1 : n1 ≤ S) (hm1 : m1 ≤ S) (hn2 : n2 ≤ S) (hm2 : m2 ≤ S) (hS : S ≤ 9000) :
    Calls Tryz.prog 138 #[.agg #[.bool g1, .slice p1 n1 c1, .slice q1 m1 d1, .slice a1 k1 e1], .agg #[.bool g2, .slice p2 n2 c2, .slice q2 m2 d2, .slice a2 k2 e2]] w fun e w' => ∃ g3 p3 n3 c3 q3 m3 d3, e = .returned (.tuple #[.agg #[.bool g3, .slice p3 n3 c3, .slice q3 m3 d3, .slice a1 k1 e1], .bool (cmpR (v + u) 0 != 0)]) ∧ IsV w' g3 p3 n3 c3 q3 m3 d3 (v + u) ∧ w.grownBy w' none := by
  have gA := World.grownBy_alloc w (.cells #[.bool g1, .slice p1 n1 c1, .slice q1 m1 d1, .slice a1 k1 e1] 33 (0, 0)) none
  have gB := World.grownBy_alloc (w.alloc (.cells #[.bool g1, .slice p1 n1 c1, .slice q1 m1 d1, .slice a1 k1 e1] 33 (0, 0))) (.cells #[.bool g2, .slice p2 n2 c2, .slice q2 m2 d2, .slice a2 k2 e2] 33 (0, 0)) none
  have gC := World.grownBy_alloc ((w.alloc (.cells #[.bool g1, .slice p1 n1 c1, .slice q1 m1 d1, .slice a1 k1 e1] 33 (0, 0))).alloc (.cells #[.bool g2, .slice p2 n2 c2, .slice q2 m2 d2, .slice a2 k2 e2] 33 (0, 0))) (.cells #[.bool false, .slice none 0 0, .slice none 0 0, .slice none 0 0] 33 (0, 0)) none
  have B2 := hid (keepB (keepB (blk0 w (.cells #[.bool g1, .slice p1 n1 c1, .slice q1 m1 d1, .slice a1 k1 e1] 33 (0, 0))) gB) gC)
  have hsz : (w.alloc (.cells #[.bool g1, .slice p1 n1 c1, .slice q1 m1 d1, .slice a1 k1 e1] 33 (0, 0))).heap.size = w.heap.size + 1 := by simp
  have B3 := keepB (blk0 (w.alloc (.cells #[.bool g1, .slice p1 n1 c1, .slice q1 m1 d1, .slice a1 k1 e1] 33 (0, 0))) (.cells #[.bool g2, .slice p2 n2 c2, .slice q2 m2 d2, .slice a2 k2 e2] 33 (0, 0))) gC
  rw [hsz] at B3
  have hsz2 : ((w.alloc (.cells #[.bool g1, .slice p1 n1 c1, .slice q1 m1 d1, .slice a1 k1 e1] 33 (0, 0))).alloc (.cells #[.bool g2, .slice p2 n2 c2, .slice q2 m2 d2, .slice a2 k2 e2] 33 (0, 0))).heap.size = w.heap.size + 2 := by simp
  have B4 := blk0 ((w.alloc (.cells #[.bool g1, .slice p1 n1 c1, .slice q1 m1 d1, .slice a1 k1 e1] 33 (0, 0))).alloc (.cells #[.bool g2, .slice p2 n2 c2, .slice q2 m2 d2, .slice a2 k2 e2] 33 (0, 0))) (.cells #[.bool false, .slice none 0 0, .slice none 0 0, .slice none 0 0] 33 (0, 0))
  rw [hsz2] at B4
  have hb4 := hid B4
  have hW := grown_trans (grown_trans gA gB) gC
  have HAD := hid fun W (hg : w.grownBy W none) => ratAdd_v S (T.keep hg) (hA.keep hg).q (hB.keep hg).q hn1 hm1 hn2 hm2 (by omega)
  unfold VPost at HAD
  obtain ⟨sv, hsv⟩ : ∃ s, s = cmpR (v + u) 0 := ⟨_, rfl⟩
  have HSG := hid fun W g p n c q m d (h : IsV W g p n c q m d (v + u)) (hn : n ≤ 4 * S + 20) (hm : m ≤ 4 * S + 20) => ratSign_v (4 * S + 20) h.q hn hm (by omega)
  rw [← hsv] at HSG
  have HSV := hid hsv
  obtain ⟨su, hsu⟩ : ∃ s, s = v + u := ⟨_, rfl⟩
  rw [← hsu] at HSG HAD
  have HSU := hid hsu
  clear T hA hB gA gB gC hsz hsz2 B4 hsv hsu
  go_enter Tryz.func138, Tryz.ntmps138
  go_upto_region 1 with fail
  generalize (((w.alloc _).alloc _).alloc _) = w0 at *
  obtain ⟨k0, k1', k2', k3⟩ := box4p B2.out
  obtain ⟨l0, l1, l2, l3⟩ := box4p B3
  clear B3
  go_upto_region 2 with (go_at_call 50; (with_reducible refine (HAD.out _ hW).mono ?_); rintro e w1 ⟨g3, p3, n3, c3, q3, m3, d3, rfl, hV3, hn3, hm3, hg⟩; have HV3 := hid hV3; replace hW := grown_trans hW hg; replace B2 := hid (keepB B2.out hg); replace hb4 := hid (keepB hb4.out hg); have zf := fun o => frozen_of_row w1 w.heap.size o _ _ B2.out; have f0 := zf 0; have f1 := zf 1; have f2 := zf 2; obtain ⟨k0, k1', k2', k3⟩ := box4p B2.out; clear zf hg hV3 l0 l1 l2 l3)
  clear f0 f1 f2 k0 k1' k2' k3
  have gS := set3_grown w1 w.heap.size (.bool g3) (.slice p3 n3 c3) (.slice q3 m3 d3)
  have e1' := heap_setCell_same w1 w.heap.size 0 _ _ (.bool g3) B2.out
  have e2' := heap_setCell_same _ w.heap.size 1 _ _ (.slice p3 n3 c3) e1'
  have e3' := heap_setCell_same _ w.heap.size 2 _ _ (.slice q3 m3 d3) e2'
  simp only [List.setIfInBounds_toArray, List.set_cons_zero, List.set_cons_succ] at e3'
  have hV3 := stay_rat HV3.out e3' gS B2.out
  have hb4n : some (w.heap.size + 2) ≠ some w.heap.size := by simp
  replace hb4 := (gS.block (w.heap.size + 2) (lt_of_block hb4.out) hb4n).trans hb4.out
  have HW := hid (grown_new hW gS (fun g e => by cases e; exact Nat.le_refl _))
  have hszW := HW.out.size
  have B2 := e3'
  clear e1' e2' e3' gS hW HV3
  generalize ((w1.setCell _ _).setCell _ _).setCell _ _ = w3 at *
  obtain ⟨b4, hb4e⟩ : ∃ x, x = w.heap.size + 2 := ⟨_, rfl⟩
  have hb4w : w.heap.size ≤ b4 := by omega
  have hne24 : w.heap.size ≠ b4 := by omega
  rw [← hb4e] at hb4 ⊢
  obtain ⟨b2, hb2e⟩ : ∃ x, x = w.heap.size := ⟨_, rfl⟩
  rw [← hb2e] at B2 hne24 ⊢
  clear hb4e hb4n hb2e
  refine wp_region_noPanic ?_
  refine wp_region_held_drew (S := (fun W => W.heap[b2]? = some (.cells #[.bool g3, .slice p3 n3 c3, .slice q3 m3 d3, .slice a1 k1 e1] 33 (0, 0)))) (by kernel_rfl) ?_ (fun hHeld => ?_)
  · (try dsimp only)
    exact keepB B2 (grown_drew _ none)
  have hgg := grown_drew w3 none
  replace hb4 := keepB hb4 hgg
  replace hV3 := hV3.keep hgg
  generalize w3.drew = wd at *
  refine wpAnyH_take (i := 0) (oi := Oper.mk _ _ _ _ _ _) (v := ?_) rfl (by kernel_rfl) (by kernel_rfl) (by kernel_rfl) (fun _ _ _ h => h) (Or.inl ⟨by kernel_rfl, ?_⟩) hHeld ?_
  rotate_left 1
  · intro W hSw
    (try dsimp only at hSw)
    obtain ⟨h0, h1, h2, h3⟩ := box4p hSw
    go_simp
    (try (with_reducible rfl))
  (try simp only [Act.put, List.setIfInBounds_toArray, List.set_cons_zero, List.set_cons_succ])
  refine wpAnyH_take (i := 1) (oi := Oper.mk _ _ _ _ _ _) (v := ?_) rfl (by kernel_rfl) (by kernel_rfl) (by kernel_rfl) (fun _ _ _ h => h) (Or.inl ⟨by kernel_rfl, ?_⟩) hHeld ?_
  rotate_left 1
  · intro W hSw
    (try dsimp only at hSw)
    obtain ⟨h0, h1, h2, h3⟩ := box4p hSw
    go_simp
    (try (with_reducible rfl))
  (try simp only [Act.put, List.setIfInBounds_toArray, List.set_cons_zero, List.set_cons_succ])
  refine wpAnyH_take (i := 2) (oi := Oper.mk _ _ _ _ _ _) (v := ?_) rfl (by kernel_rfl) (by kernel_rfl) (by kernel_rfl) (fun _ _ _ h => h) (Or.inl ⟨by kernel_rfl, ?_⟩) hHeld ?_
  rotate_left 1
  · intro W hSw
    (try dsimp only at hSw)
    obtain ⟨h0, h1, h2, h3⟩ := box4p hSw
    go_simp
    (try (with_reducible rfl))
  (try simp only [Act.put, List.setIfInBounds_toArray, List.set_cons_zero, List.set_cons_succ])
  refine wpAnyH_ready (rs := [3]) (by kernel_rfl) (by simp) ?_
  refine AllReadyH.cons (o := Oper.mk _ _ _ _ _ _) rfl (fun K hK => ?_) AllReadyH.nil
  (try rw [if_pos (by kernel_rfl)])
  go_simp
  go_at_call 63
  refine (HSG.out _ _ _ _ _ _ _ _ hV3 hn3 hm3).mono ?_
  rintro e wy1 ⟨rfl, hgS⟩
  replace hgg := grown_trans hgg hgS
  replace hb4 := keepB hb4 hgS
  replace hV3 := hV3.keep hgS
  refine hK.out _ _ ?_ (fun hNew => ?_)
  · have hH := hHeld
    (try dsimp only at hH)
    (try dsimp only)
    first | with_reducible exact hH | with_reducible exact keepB hH hgS | exact (hgS.block _ (lt_of_block hH) (by simp; omega)).trans hH
  clear hK K hHeld
  have hHeld := hNew
  clear hNew
  (try simp only [Act.put, List.setIfInBounds_toArray, List.set_cons_zero, List.set_cons_succ])
  clear hgS
  refine wpAnyH_take (i := 4) (oi := Oper.mk _ _ _ _ _ _) (v := ?_) rfl (by kernel_rfl) (by kernel_rfl) (by kernel_rfl) (fun _ _ _ h => h) (Or.inl ⟨by kernel_rfl, ?_⟩) hHeld ?_
  rotate_left 1
  · intro W hSw
    (try dsimp only at hSw)
    obtain ⟨h0, h1, h2, h3⟩ := box4p hSw
    go_simp
    (try (with_reducible rfl))
  (try simp only [Act.put, List.setIfInBounds_toArray, List.set_cons_zero, List.set_cons_succ])
  refine wpAnyH_ready (rs := [5]) (by kernel_rfl) (by simp) ?_
  refine AllReadyH.cons (o := Oper.mk _ _ _ _ _ _) rfl (fun K hK => ?_) AllReadyH.nil
  (try rw [if_pos (by kernel_rfl)])
  obtain ⟨z0, z1, z2, z3⟩ := box4p hb4
  have zf := fun o => frozen_of_row wy1 b4 o _ _ hb4
  have f0 := zf 0
  have f1 := zf 1
  have f2 := zf 2
  have f3 := zf 3
  go_simp
  have hgS := set4_grown wy1 b4 (.bool g3) (.slice p3 n3 c3) (.slice q3 m3 d3) (.slice a1 k1 e1)
  have hbE := set4 hb4 (.bool g3) (.slice p3 n3 c3) (.slice q3 m3 d3) (.slice a1 k1 e1)
  clear z0 z1 z2 z3 zf f0 f1 f2 f3
  refine hK.out _ _ ?_ (fun hNew => ?_)
  · have hH := hHeld
    (try dsimp only at hH)
    (try dsimp only)
    first | with_reducible exact hH | with_reducible exact keepB hH hgS | exact (hgS.block _ (lt_of_block hH) (by simp; omega)).trans hH
  clear hK K hHeld
  have hHeld := hNew
  clear hNew
  (try simp only [Act.put, List.setIfInBounds_toArray, List.set_cons_zero, List.set_cons_succ])
  refine wpAnyH_ready (rs := [6]) (by kernel_rfl) (by simp) ?_
  refine AllReadyH.cons (o := Oper.mk _ _ _ _ _ _) rfl (fun K hK => ?_) AllReadyH.nil
  (try rw [if_pos (by kernel_rfl)])
  go_simp
  refine hK.out _ _ ?_ (fun hNew => ?_)
  · have hH := hHeld
    (try dsimp only at hH)
    (try dsimp only)
    first | with_reducible exact hH | with_reducible exact keepB hH hgS | exact (hgS.block _ (lt_of_block hH) (by simp; omega)).trans hH
  clear hK K hHeld
  have hHeld := hNew
  clear hNew
  (try simp only [Act.put, List.setIfInBounds_toArray, List.set_cons_zero, List.set_cons_succ])
  refine wpAnyH_done (by kernel_rfl) ?_ _
  refine NoPanic.normal ?_
  have HV := hid (stay_rat hV3 hbE hgS hb4)
  have HG := hid (grown_new (grown_trans HW.out hgg) hgS (fun g e => by cases e; exact hb4w))
  have HBE := hid hbE
  clear hHeld hgS hV3 hb4 hbE hgg
  generalize (((wy1.setCell _ _).setCell _ _).setCell _ _).setCell _ _ = wE at *
  obtain ⟨y0, y1, y2, y3⟩ := box4p HBE.out
  go_wp2_with fail
  exact bodyPost_ret (v := .tuple #[.agg #[.bool g3, .slice p3 n3 c3, .slice q3 m3 d3, .slice a1 k1 e1], .bool (sv != 0)]) (by simp [results, Tryz.results138, go_sem, y0, y1, y2, y3]) rfl ⟨g3, p3, n3, c3, q3, m3, d3, by rw [HSV.out], by rw [← HSU.out]; exact HV.out, HG.out⟩
theorem infoU16Pl : (Tryz.prog.info? 116).map (fun i => (i.zero, i.size, i.bytes)) = some (some (.int .u16 0), 1, 2) := by kernel_rfl
set_option maxHeartbeats 1000000 in
theorem clonePl_any (a : Option Addr) (n c : Nat) (xs : List Nat) (w : World) (h : IRd w .u16 a n c xs) (hn : n ≤ 1048576) :
    Calls Tryz.prog 175 #[.slice a n c] w fun e w' => ∃ p c', e = .returned (.slice p n c') ∧ IRd w' .u16 p n c' xs ∧ (∀ a, p = some a → w.heap.size ≤ a.block) ∧ w.grownBy w' none := by
  have HL := hid h.len
  have hcap := h.cap
  have hmax := h.max
  cases a with
  | none =>
    have h0 : n = 0 := by
      rcases Nat.eq_zero_or_pos n with h0 | h0
      · exact h0
      · obtain ⟨b, o, e, _⟩ := h.cel 0 (by rw [HL.out]; exact h0)
        cases e
    subst h0
    obtain rfl : xs = [] := List.eq_nil_of_length_eq_zero HL.out
    have hq : ∀ w : World, (binOp .eql 25 (.slice none 0 c) (.slice none 0 0)).run Tryz.prog w = .ok (.bool true) w := fun w => Lib.run_eql_slice_nil w _ _ _ _ _ _ _ Tryz.underlying25
    go_enter Tryz.func175, Tryz.ntmps175
    go_wp2
    go_ret
    exact ⟨none, 0, rfl, IRd.nil _ _, fun a h => (by cases h), grown_refl _ _⟩
  | some q =>
    have hq : ∀ w : World, (binOp .eql 25 (.slice (some q) n c) (.slice none 0 0)).run Tryz.prog w = .ok (.bool false) w := fun w => Lib.run_eql_slice_nil w _ _ _ _ _ _ _ Tryz.underlying25
    go_enter Tryz.func175, Tryz.ntmps175
    go_wp2_with (refine wl_append _ rfl (.tmp 5) (.tmp 6) 25 rfl 116 .u16 2 Tryz.underlying25 infoU16Pl w.heap.size _ 0 0 [] rfl (IOwn.made w w.heap.size 116 .u16 [] (Nat.le_refl _) (by simp)) _ n c xs rfl (h.keep (World.grownBy_alloc _ _ _)) (by omega) (by omega) w (World.grownBy_alloc _ _ _) (Nat.le_refl _) (by simp) ?_; intro p' c2 w1 ho hg)
    go_ret
    have := ho.rd
    simp only [List.nil_append, Nat.zero_add] at this
    exact ⟨p', c2, by simp, this, fun a h => (ho.lt a h).1, hg⟩

set_option maxHeartbeats 64000000 in
set_option maxRecDepth 100000 in
theorem pFreshRat_n (g : Bool) (p1 : Option Addr) (n1 c1 : Nat) (p2 : Option Addr) (n2 c2 : Nat) (xs ys : List Nat) (w : World) (hx : IRd w .u16 p1 n1 c1 xs) (hy : IRd w .u16 p2 n2 c2 ys) (h1 : n1 ≤ 1048576) (h2 : n2 ≤ 1048576) :
    Calls Tryz.prog 149 #[.agg #[.bool g, .slice p1 n1 c1, .slice p2 n2 c2]] w fun e w' => ∃ q1 d1 q2 d2, e = .returned (.agg #[.bool g, .slice q1 n1 d1, .slice q2 n2 d2]) ∧ IRd w' .u16 q1 n1 d1 xs ∧ IRd w' .u16 q2 n2 d2 ys ∧ (∀ a, q1 = some a → w.heap.size ≤ a.block) ∧ (∀ a, q2 = some a → w.heap.size ≤ a.block) ∧ w.grownBy w' none := by
  have H1 := hid fun W (hg : w.grownBy W none) => clonePl_any p1 n1 c1 xs W (hx.keep hg) h1
  have H2 := hid fun W (hg : w.grownBy W none) => clonePl_any p2 n2 c2 ys W (hy.keep hg) h2
  clear hx hy
  have gA := World.grownBy_alloc w (.cells #[.bool g, .slice p1 n1 c1, .slice p2 n2 c2] 29 (0, 0)) none
  have gB := World.grownBy_alloc (w.alloc (.cells #[.bool g, .slice p1 n1 c1, .slice p2 n2 c2] 29 (0, 0))) (.cells #[.bool false, .slice none 0 0, .slice none 0 0] 29 (0, 0)) none
  have BA := hid (keepB (blk0 w (.cells #[.bool g, .slice p1 n1 c1, .slice p2 n2 c2] 29 (0, 0))) gB)
  have hsz : (w.alloc (.cells #[.bool g, .slice p1 n1 c1, .slice p2 n2 c2] 29 (0, 0))).heap.size = w.heap.size + 1 := by simp
  have BB := blk0 (w.alloc (.cells #[.bool g, .slice p1 n1 c1, .slice p2 n2 c2] 29 (0, 0))) (.cells #[.bool false, .slice none 0 0, .slice none 0 0] 29 (0, 0))
  rw [hsz] at BB
  replace BB := hid BB
  have hW := grown_trans gA gB
  clear gA gB hsz
  go_enter Tryz.func149, Tryz.ntmps149
  go_upto_region 1 with fail
  generalize ((w.alloc _).alloc _) = w0 at *
  obtain ⟨k0, k1, k2⟩ := box3p BA.out
  have hs0 : w.heap.size + 1 < w0.heap.size := lt_of_block BB.out
  go_upto_region 2 with (go_at_call 175; (with_reducible refine (H1.out _ hW).mono ?_); rintro e w1 ⟨q1, d1, rfl, hr1, hq1, hg⟩; have HR1 := hid hr1; have HQ1 := hid hq1; have HW := hid (grown_trans hW hg); have BA1 := hid (keepB BA.out hg); have BB1 := hid (keepB BB.out hg); have f1 := frozen_of_row w1 w.heap.size 1 _ _ BA1.out; have k1' := cell_of_row w1 w.heap.size 1 _ _ _ BA1.out; have hs1 := hg.size; clear hg hr1 hq1 k0 k1 k2)
  clear f1 k1'
  have gS := grown_setCell w1 ⟨w.heap.size, 1, none⟩ (.slice q1 n1 d1)
  have HR1b := hid (HR1.out.kept gS (.inr fun p hp e => by have := HQ1.out p hp; simp at e; omega))
  have BA2 := hid (heap_setCell_same w1 w.heap.size 1 _ _ (.slice q1 n1 d1) BA1.out)
  have BB2 : Hid ((w1.setCell ⟨w.heap.size, 1, none⟩ (.slice q1 n1 d1)).heap[w.heap.size + 1]? = some (.cells #[.bool false, .slice none 0 0, .slice none 0 0] 29 (0, 0))) := hid ((gS.block (w.heap.size + 1) (lt_of_block BB1.out) (by simp)).trans BB1.out)
  have HW2 := hid (grown_new HW.out gS (fun g' e => by cases e; exact Nat.le_refl _))
  have hs2 := gS.size
  clear gS
  generalize w1.setCell _ _ = w2 at *
  have BA2' : Hid (w2.heap[w.heap.size]? = some (.cells #[.bool g, .slice q1 n1 d1, .slice p2 n2 c2] 29 (0, 0))) := BA2
  obtain ⟨k0, k1, k2⟩ := box3p BA2'.out
  go_upto_region 3 with (go_at_call 175; (with_reducible refine (H2.out _ HW2.out).mono ?_); rintro e w3 ⟨q2, d2, rfl, hr2, hq2, hg⟩; have HR2 := hid hr2; have HQ2 := hid hq2; have HR1c := hid (HR1b.out.keep hg); have HW3 := hid (grown_trans HW2.out hg); have BA3 := hid (keepB BA2'.out hg); have BB3 := hid (keepB BB2.out hg); have f2 := frozen_of_row w3 w.heap.size 2 _ _ BA3.out; have k2' := cell_of_row w3 w.heap.size 2 _ _ _ BA3.out; have hs3 := hg.size; clear hg hr2 hq2 k0 k1 k2)
  clear f2 k2'
  have gS := grown_setCell w3 ⟨w.heap.size, 2, none⟩ (.slice q2 n2 d2)
  have HR2b := hid (HR2.out.kept gS (.inr fun p hp e => by have := HQ2.out p hp; simp at e; omega))
  have HR1d := hid (HR1c.out.kept gS (.inr fun p hp e => by have := HQ1.out p hp; simp at e; omega))
  have BA4 := hid (heap_setCell_same w3 w.heap.size 2 _ _ (.slice q2 n2 d2) BA3.out)
  have BB4 : Hid ((w3.setCell ⟨w.heap.size, 2, none⟩ (.slice q2 n2 d2)).heap[w.heap.size + 1]? = some (.cells #[.bool false, .slice none 0 0, .slice none 0 0] 29 (0, 0))) := hid ((gS.block (w.heap.size + 1) (lt_of_block BB3.out) (by simp)).trans BB3.out)
  have HW4 := hid (grown_new HW3.out gS (fun g' e => by cases e; exact Nat.le_refl _))
  clear gS
  generalize w3.setCell _ _ = w4 at *
  have BA4' : Hid (w4.heap[w.heap.size]? = some (.cells #[.bool g, .slice q1 n1 d1, .slice q2 n2 d2] 29 (0, 0))) := BA4
  obtain ⟨k0, k1, k2⟩ := box3p BA4'.out
  obtain ⟨z0, z1, z2⟩ := box3p BB4.out
  have f0 := frozen_of_row w4 (w.heap.size + 1) 0 _ _ BB4.out
  have f1 := frozen_of_row w4 (w.heap.size + 1) 1 _ _ BB4.out
  have f2 := frozen_of_row w4 (w.heap.size + 1) 2 _ _ BB4.out
  have t1 := heap_setCell_same w4 (w.heap.size + 1) 0 _ _ (.bool g) BB4.out
  have t2 := heap_setCell_same _ (w.heap.size + 1) 1 _ _ (.slice q1 n1 d1) t1
  have t3 := heap_setCell_same _ (w.heap.size + 1) 2 _ _ (.slice q2 n2 d2) t2
  have T3 := hid t3
  have g5 := grown_trans (grown_trans (grown_setCell w4 ⟨w.heap.size + 1, 0, none⟩ (.bool g)) (grown_setCell _ ⟨w.heap.size + 1, 1, none⟩ (.slice q1 n1 d1))) (grown_setCell _ ⟨w.heap.size + 1, 2, none⟩ (.slice q2 n2 d2))
  have G5 := hid g5
  clear t1 t2 t3 g5
  go_wp2_with fail
  generalize ((w4.setCell _ _).setCell _ _).setCell _ _ = w5 at *
  have T4 : w5.heap[w.heap.size + 1]? = some (.cells #[.bool g, .slice q1 n1 d1, .slice q2 n2 d2] 29 (0, 0)) := T3.out
  obtain ⟨c0, c1', c2'⟩ := box3p T4
  exact bodyPost_ret (v := .agg #[.bool g, .slice q1 n1 d1, .slice q2 n2 d2]) (by simp [results, Tryz.results149, go_sem, c0, c1', c2']) rfl ⟨q1, d1, q2, d2, rfl, HR1d.out.kept G5.out (.inr fun p hp e => by have := HQ1.out p hp; simp at e; omega), HR2b.out.kept G5.out (.inr fun p hp e => by have := HQ2.out p hp; simp at e; omega), fun a ha => (by have := HQ1.out a ha; omega), fun a ha => (by have := HQ2.out a ha; omega), grown_new HW4.out G5.out (fun g' e => by cases e; exact Nat.le_succ _)⟩
/-- a term's copy is a term -/
theorem fresh_tm {w w' : World} {g1 : Bool} {p3 q3 : Option Addr} {n1 c3 m1 d3 : Nat} {a3 : Option Addr} {e3 : Nat} {xs : List Int} {v : Rat} (hG : g1 = decide (v.num < 0)) (hr1 : IRd w .u16 p3 n1 c3 (dg 65536 v.num.natAbs)) (hr2 : IRd w .u16 q3 m1 d3 (dg 65536 v.den)) (hr3 : ZRd w .i64 a3 xs.length e3 xs) {G : Nat} {T : TypeId} (hb : w.heap[G]? = some (.cells #[.bool false, .slice none 0 0, .slice none 0 0, .slice none 0 0] T (0, 0))) (hg : w.grownBy w' (some G)) :
    IsV w' g1 p3 n1 c3 q3 m1 d3 v ∧ ZRd w' .i64 a3 xs.length e3 xs := by
  have hno : ∀ k, ∀ v ∈ (#[.bool false, .slice none 0 0, .slice none 0 0, .slice none 0 0] : Array Value), ∀ x, v ≠ .int k x := by intro k; simp
  have hS : ∀ G' O, w.heap[G']? = some O → ¬ G' = G → w'.heap[G']? = some O := fun G' O hG' hne => (hg.block G' (lt_of_block hG') (by simpa using hne)).trans hG'
  exact ⟨⟨⟨Stay.ird (S := fun x => x = G) hr1 (fun x hx hm e => hr1.notIn hb (hno _) x hx hm e) w' hS, hG⟩, Stay.ird (S := fun x => x = G) hr2 (fun x hx hm e => hr2.notIn hb (hno _) x hx hm e) w' hS⟩, Stay.zrd (S := fun x => x = G) hr3 (fun x hx hm e => hr3.notIn hb (hno _) x hx hm e) w' hS⟩
set_option maxHeartbeats 16000000 in
set_option maxRecDepth 100000 in
theorem fresh_v {w : World} {g1 : Bool} {p1 q1 : Option Addr} {n1 c1 m1 d1 : Nat} {a1 : Option Addr} {k1 e1 : Nat} {v : Rat} {xs : List Int} (hA : IsV w g1 p1 n1 c1 q1 m1 d1 v) (hx : ZRd w .i64 a1 k1 e1 xs) (hn : n1 ≤ 1000000) (hm : m1 ≤ 1000000) (hk : k1 ≤ 1000000) :
    Calls Tryz.prog 99 #[.agg #[.bool g1, .slice p1 n1 c1, .slice q1 m1 d1, .slice a1 k1 e1]] w fun e w' => ∃ g p n c q m d a k f, e = .returned (.agg #[.bool g, .slice p n c, .slice q m d, .slice a k f]) ∧ IsV w' g p n c q m d v ∧ ZRd w' .i64 a k f xs ∧ w.grownBy w' none := by
  have HGd := hid hA.1.2
  have HF : Hid (∀ W, w.grownBy W none → Calls Tryz.prog 149 #[.agg #[.bool g1, .slice p1 n1 c1, .slice q1 m1 d1]] W fun e w' => ∃ (p : Option Addr) (c : Nat) (q : Option Addr) (d : Nat), e = .returned (.agg #[.bool g1, .slice p n1 c, .slice q m1 d]) ∧ IRd w' .u16 p n1 c (dg 65536 v.num.natAbs) ∧ IRd w' .u16 q m1 d (dg 65536 v.den) ∧ W.grownBy w' none) := hid fun W hg => (pFreshRat_n g1 p1 n1 c1 q1 m1 d1 _ _ W (hA.1.1.keep hg) (hA.2.keep hg) (by omega) (by omega)).mono fun e w' ⟨q1', d1', q2', d2', h1, h2, h3, _, _, h4⟩ => ⟨q1', d1', q2', d2', h1, h2, h3, h4⟩
  have HC := hid fun W (hg : w.grownBy W none) => cloneM_any a1 k1 e1 xs W (hx.keep hg) (by omega)
  unfold ZRes at HC
  have gA := World.grownBy_alloc w (.cells #[.bool g1, .slice p1 n1 c1, .slice q1 m1 d1, .slice a1 k1 e1] 33 (0, 0)) none
  have gB := World.grownBy_alloc (w.alloc (.cells #[.bool g1, .slice p1 n1 c1, .slice q1 m1 d1, .slice a1 k1 e1] 33 (0, 0))) (.cells #[.bool false, .slice none 0 0, .slice none 0 0, .slice none 0 0] 33 (0, 0)) none
  have B1 := hid (keepB (blk0 w (.cells #[.bool g1, .slice p1 n1 c1, .slice q1 m1 d1, .slice a1 k1 e1] 33 (0, 0))) gB)
  have hsz : (w.alloc (.cells #[.bool g1, .slice p1 n1 c1, .slice q1 m1 d1, .slice a1 k1 e1] 33 (0, 0))).heap.size = w.heap.size + 1 := by simp
  have hb2 := blk0 (w.alloc (.cells #[.bool g1, .slice p1 n1 c1, .slice q1 m1 d1, .slice a1 k1 e1] 33 (0, 0))) (.cells #[.bool false, .slice none 0 0, .slice none 0 0, .slice none 0 0] 33 (0, 0))
  rw [hsz] at hb2
  have HWA := hid (grown_trans gA gB)
  clear hA hx gA gB hsz
  go_enter Tryz.func99, Tryz.ntmps99
  go_upto_region 1 with fail
  generalize ((w.alloc _).alloc _) = w0 at *
  replace HF := hid fun W hg => HF.out W (grown_trans HWA.out hg)
  replace HC := hid fun W hg => HC.out W (grown_trans HWA.out hg)
  have HW := HWA
  obtain ⟨b2, hb2e⟩ : ∃ x, x = w.heap.size + 1 := ⟨_, rfl⟩
  have hb2w : w.heap.size ≤ b2 := by omega
  have hne : w.heap.size ≠ b2 := by omega
  rw [← hb2e] at hb2 ⊢
  obtain ⟨b1, hb1e⟩ : ∃ x, x = w.heap.size := ⟨_, rfl⟩
  rw [← hb1e] at B1 hne ⊢
  clear hb2e hb1e
  refine wp_region_noPanic ?_
  refine wp_region_held_drew (S := (fun W => W.heap[b1]? = some (.cells #[.bool g1, .slice p1 n1 c1, .slice q1 m1 d1, .slice a1 k1 e1] 33 (0, 0)))) (by kernel_rfl) ?_ (fun hHeld => ?_)
  · (try dsimp only)
    exact keepB B1.out (grown_drew _ none)
  have hgg := grown_drew w0 none
  replace hb2 := keepB hb2 hgg
  generalize w0.drew = wd at *
  refine wpAnyH_take (i := 0) (oi := Oper.mk _ _ _ _ _ _) (v := ?_) rfl (by kernel_rfl) (by kernel_rfl) (by kernel_rfl) (fun _ _ _ h => h) (Or.inl ⟨by kernel_rfl, ?_⟩) hHeld ?_
  rotate_left 1
  · intro W hSw
    (try dsimp only at hSw)
    obtain ⟨h0, h1, h2, h3⟩ := box4p hSw
    go_simp
    (try (with_reducible rfl))
  (try simp only [Act.put, List.setIfInBounds_toArray, List.set_cons_zero, List.set_cons_succ])
  refine wpAnyH_take (i := 1) (oi := Oper.mk _ _ _ _ _ _) (v := ?_) rfl (by kernel_rfl) (by kernel_rfl) (by kernel_rfl) (fun _ _ _ h => h) (Or.inl ⟨by kernel_rfl, ?_⟩) hHeld ?_
  rotate_left 1
  · intro W hSw
    (try dsimp only at hSw)
    obtain ⟨h0, h1, h2, h3⟩ := box4p hSw
    go_simp
    (try (with_reducible rfl))
  (try simp only [Act.put, List.setIfInBounds_toArray, List.set_cons_zero, List.set_cons_succ])
  refine wpAnyH_take (i := 3) (oi := Oper.mk _ _ _ _ _ _) (v := ?_) rfl (by kernel_rfl) (by kernel_rfl) (by kernel_rfl) (fun _ _ _ h => h) (Or.inl ⟨by kernel_rfl, ?_⟩) hHeld ?_
  rotate_left 1
  · intro W hSw
    (try dsimp only at hSw)
    obtain ⟨h0, h1, h2, h3⟩ := box4p hSw
    go_simp
    (try (with_reducible rfl))
  (try simp only [Act.put, List.setIfInBounds_toArray, List.set_cons_zero, List.set_cons_succ])
  refine wpAnyH_take (i := 4) (oi := Oper.mk _ _ _ _ _ _) (v := ?_) rfl (by kernel_rfl) (by kernel_rfl) (by kernel_rfl) (fun _ _ _ h => h) (Or.inl ⟨by kernel_rfl, ?_⟩) hHeld ?_
  rotate_left 1
  · intro W hSw
    (try dsimp only at hSw)
    obtain ⟨h0, h1, h2, h3⟩ := box4p hSw
    go_simp
    (try (with_reducible rfl))
  (try simp only [Act.put, List.setIfInBounds_toArray, List.set_cons_zero, List.set_cons_succ])
  refine wpAnyH_ready (rs := [2]) (by kernel_rfl) (by simp) ?_
  refine AllReadyH.cons (o := Oper.mk _ _ _ _ _ _) rfl (fun K hK => ?_) AllReadyH.nil
  (try rw [if_pos (by kernel_rfl)])
  go_simp
  go_at_call 149
  refine (HF.out _ hgg).mono ?_
  rintro e wy1 ⟨p3, c3, q3, d3, rfl, hr1, hr2, hgS⟩
  replace hgg := grown_trans hgg hgS
  replace hb2 := keepB hb2 hgS
  refine hK.out _ _ ?_ (fun hNew => ?_)
  · have hH := hHeld
    (try dsimp only at hH)
    (try dsimp only)
    first | with_reducible exact hH | with_reducible exact keepB hH hgS | exact (hgS.block _ (lt_of_block hH) (by simp; omega)).trans hH
  clear hK K hHeld
  have hHeld := hNew
  clear hNew
  (try simp only [Act.put, List.setIfInBounds_toArray, List.set_cons_zero, List.set_cons_succ])
  clear hgS
  refine wpAnyH_ready (rs := [5]) (by kernel_rfl) (by simp) ?_
  refine AllReadyH.cons (o := Oper.mk _ _ _ _ _ _) rfl (fun K hK => ?_) AllReadyH.nil
  (try rw [if_pos (by kernel_rfl)])
  go_simp
  go_at_call 116
  refine (HC.out _ hgg).mono ?_
  rintro e wy2 ⟨a3, e3, rfl, hr3, hgS⟩
  replace hgg := grown_trans hgg hgS
  replace hb2 := keepB hb2 hgS
  replace hr1 := hr1.keep hgS
  replace hr2 := hr2.keep hgS
  refine hK.out _ _ ?_ (fun hNew => ?_)
  · have hH := hHeld
    (try dsimp only at hH)
    (try dsimp only)
    first | with_reducible exact hH | with_reducible exact keepB hH hgS | exact (hgS.block _ (lt_of_block hH) (by simp; omega)).trans hH
  clear hK K hHeld
  have hHeld := hNew
  clear hNew
  (try simp only [Act.put, List.setIfInBounds_toArray, List.set_cons_zero, List.set_cons_succ])
  clear hgS
  refine wpAnyH_ready (rs := [6]) (by kernel_rfl) (by simp) ?_
  refine AllReadyH.cons (o := Oper.mk _ _ _ _ _ _) rfl (fun K hK => ?_) AllReadyH.nil
  (try rw [if_pos (by kernel_rfl)])
  go_simp
  refine hK.out _ _ ?_ (fun hNew => ?_)
  · have hH := hHeld
    (try dsimp only at hH)
    (try dsimp only)
    first | with_reducible exact hH | with_reducible exact keepB hH hgS | exact (hgS.block _ (lt_of_block hH) (by simp; omega)).trans hH
  clear hK K hHeld
  have hHeld := hNew
  clear hNew
  (try simp only [Act.put, List.setIfInBounds_toArray, List.set_cons_zero, List.set_cons_succ])
  refine wpAnyH_ready (rs := [7]) (by kernel_rfl) (by simp) ?_
  refine AllReadyH.cons (o := Oper.mk _ _ _ _ _ _) rfl (fun K hK => ?_) AllReadyH.nil
  (try rw [if_pos (by kernel_rfl)])
  obtain ⟨z0, z1, z2, z3⟩ := box4p hb2
  have zf := fun o => frozen_of_row wy2 b2 o _ _ hb2
  have f0 := zf 0
  have f1 := zf 1
  have f2 := zf 2
  have f3 := zf 3
  go_simp
  have hgS := set4_grown wy2 b2 (.bool g1) (.slice p3 n1 c3) (.slice q3 m1 d3) (.slice a3 xs.length e3)
  have hbE := set4 hb2 (.bool g1) (.slice p3 n1 c3) (.slice q3 m1 d3) (.slice a3 xs.length e3)
  clear z0 z1 z2 z3 zf f0 f1 f2 f3
  refine hK.out _ _ ?_ (fun hNew => ?_)
  · have hH := hHeld
    (try dsimp only at hH)
    (try dsimp only)
    first | with_reducible exact hH | with_reducible exact keepB hH hgS | exact (hgS.block _ (lt_of_block hH) (by simp; omega)).trans hH
  clear hK K hHeld
  have hHeld := hNew
  clear hNew
  (try simp only [Act.put, List.setIfInBounds_toArray, List.set_cons_zero, List.set_cons_succ])
  refine wpAnyH_done (by kernel_rfl) ?_ _
  refine NoPanic.normal ?_
  have HR := hid (fresh_tm HGd.out hr1 hr2 hr3 hb2 hgS)
  have HG := hid (grown_new (grown_trans HW.out hgg) hgS (fun g e => by cases e; exact hb2w))
  have HBE := hid hbE
  clear hHeld hgS hr1 hr2 hr3 hb2 hbE hgg
  generalize (((wy2.setCell _ _).setCell _ _).setCell _ _).setCell _ _ = wE at *
  obtain ⟨y0, y1, y2, y3⟩ := box4p HBE.out
  go_wp2_with fail
  exact bodyPost_ret (v := .agg #[.bool g1, .slice p3 n1 c3, .slice q3 m1 d3, .slice a3 xs.length e3]) (by simp [results, Tryz.results99, go_sem, y0, y1, y2, y3]) rfl ⟨_, _, _, _, _, _, _, _, _, _, rfl, HR.out.1, HR.out.2, HG.out⟩
end Go.Proofs.YtknmdmofmcfjhaaGreatDoor

set_option linter.unusedVariables false
set_option linter.unusedSimpArgs false
namespace Go.Proofs.YtknmdmofmcfjhaaGreatDoor
open Go Go.RowKit _root_.Nm
theorem set4_at (w : World) (G o : Nat) (a b c d : Value) : w.grownBy ((((w.setCell ⟨G, o, none⟩ a).setCell ⟨G, o + 1, none⟩ b).setCell ⟨G, o + 2, none⟩ c).setCell ⟨G, o + 3, none⟩ d) (some G) :=
  grown_trans (grown_setCell w ⟨G, o, none⟩ a) (grown_trans (grown_setCell _ ⟨G, o + 1, none⟩ b) (grown_trans (grown_setCell _ ⟨G, o + 2, none⟩ c) (grown_setCell _ ⟨G, o + 3, none⟩ d)))
theorem _root_.Nm.QOwn.spot {w : World} {base g i N : Nat} {rows : List (List Value)} (hq : QOwn w base 33 4 (some ⟨g, 0, none⟩) i N rows) (j : Nat) (hj : j < N * 4) : (∃ v, w.cell? ⟨g, j, none⟩ = some v) ∧ w.frozen? ⟨g, j, none⟩ = false := by
  rcases hq.own with ⟨h1, _⟩ | ⟨g', cur, h1, _, h3, _, h5, _⟩
  · cases h1
  · cases h1
    refine ⟨⟨cur[j]'(by omega), ?_⟩, frozen_of_row w g j _ _ h3⟩
    rw [cell_of_row w g j _ _ _ h3]
    simp [h5, hj]
theorem IsV.opp {w : World} {g : Bool} {p q : Option Addr} {n c m d : Nat} {v : Rat} (h : IsV w g p n c q m d v) (hv : v ≠ 0) : IsV w (!g) p n c q m d (-v) := by
  obtain ⟨⟨h1, h2⟩, h3⟩ := h
  have hn : v.num ≠ 0 := by simpa using hv
  refine ⟨⟨by simpa using h1, ?_⟩, by simpa using h3⟩
  rw [h2]
  have : (-v).num = -v.num := by simp
  rw [this]
  by_cases h : v.num < 0
  · rw [decide_eq_true h, decide_eq_false (by omega)]; rfl
  · rw [decide_eq_false h, decide_eq_true (by omega)]; rfl
theorem take_snoc {α : Type} (l : List α) (i : Nat) (hi : i < l.length) : l.take i ++ [l[i]] = l.take (i + 1) := by rw [List.take_add_one, List.getElem?_eq_getElem hi]; rfl
set_option maxHeartbeats 16000000 in
set_option maxRecDepth 100000 in
theorem clone_v (H : Nat) (B : Int) {w : World} {p : Option Addr} {n c : Nat} {P : List Tm} (hP : IsP w p n c P) (hH : H ≤ 1000000) (hb : BdP H P) (he : ExP B P) (hn : n ≤ 1000000) :
    Calls Tryz.prog 82 #[.slice p n c] w (PPost w P) := by
  have hl := hP.len
  have hc := hP.cap
  have hmx := hP.max
  have HP := hid hP; have HB := hid hb; have HE := hid he
  have hmk := run_make_tms n (by omega)
  have HQ0 := hid (made_q w n w.heap.size (Nat.le_refl _) (by omega))
  have HG0 := hid (World.grownBy_alloc w (.cells (madeCells #[.bool false, .slice none 0 0, .slice none 0 0, .slice none 0 0] (n * 4)) 33) none)
  have HL := hid hl
  clear hP hb he hl
  go_enter Tryz.func82, Tryz.ntmps82
  go_wp2_with fail
  obtain ⟨g, hg⟩ : ∃ g, g = w.heap.size := ⟨_, rfl⟩
  have hgw : w.heap.size ≤ g := by omega
  rw [← hg] at HQ0 ⊢
  clear hg
  generalize w.alloc _ = w0 at *
  go_loopw [11] (fun x wr => ∃ (i : Nat) (rows : List (List Value)), i ≤ n ∧ x = .int .i64 i ∧ Hid (w.grownBy wr none) ∧ Hid (QOwn wr g 33 4 (some ⟨g, 0, none⟩) i n rows) ∧ Hid (RwS wr (some ⟨g, 0, none⟩) rows (P.take i))) (fun x _ => n - (intOf x).toNat)
  case atStart => exact ⟨0, [], Nat.zero_le _, rfl, HG0, HQ0, hid (by simpa using RwS.nil _ _)⟩
  case round =>
    clear HQ0 HG0
    obtain ⟨i, rows, hi, rfl, HG, HQ, HR⟩ := hrel
    by_cases hlt : i < n
    · have hil : i < P.length := by have := HL.out; omega
      obtain ⟨b, o, g1, p1, n1, c1, q1, m1, d1, a1, k1, e1, rfl, ⟨x0, x1, x2, x3⟩, hV, hX⟩ := ((HP.out.keep HG.out).tms i hil).out
      have hsz := hV.lens (HB.out.at hil)
      have hk64 : k1 ≤ 64 := by have := (HE.out.at hil).len; have := hX.len; omega
      have HTK := hid (take_snoc P i hil)
      obtain ⟨t, ht⟩ : ∃ t, t = P[i] := ⟨_, rfl⟩
      rw [← ht] at HTK hV hX
      obtain ⟨xs, v⟩ := t
      have gA := World.grownBy_alloc wr (.cells #[.bool g1, .slice p1 n1 c1, .slice q1 m1 d1, .slice a1 k1 e1] 33 (0, 0)) none
      have HF := hid fun W (hg : wr.grownBy W none) => fresh_v (hV.keep hg) (hX.keep hg) (by have := hsz.1; omega) (by have := hsz.2; omega) (by omega)
      obtain ⟨i0, i1, i2, i3⟩ := box4p (blk0 wr (.cells #[.bool false, .slice none 0 0, .slice none 0 0, .slice none 0 0] 33 (0, 0)))
      have fa := fun o => frozen_of_row (wr.alloc (.cells #[.bool false, .slice none 0 0, .slice none 0 0, .slice none 0 0] 33 (0, 0))) wr.heap.size o _ _ (blk0 wr (.cells #[.bool false, .slice none 0 0, .slice none 0 0, .slice none 0 0] 33 (0, 0)))
      have f0 := fa 0; have f1 := fa 1; have f2 := fa 2; have f3 := fa 3
      clear fa hV hX ht hsz hk64
      go_upto_region 5 with fail
      clear i0 i1 i2 i3 f0 f1 f2 f3 x0 x1 x2 x3
      obtain ⟨kk0, kk1, kk2, kk3⟩ := box4p (blk0 wr (.cells #[.bool g1, .slice p1 n1 c1, .slice q1 m1 d1, .slice a1 k1 e1] 33 (0, 0)))
      have HGA := hid gA
      replace HG := hid (grown_trans HG.out gA)
      replace HQ := hid (HQ.out.keep gA)
      replace HR := hid (HR.out.keep gA)
      clear gA
      generalize wr.alloc _ = w1 at *
      go_wp2_with (go_at_call 99; (with_reducible refine (HF.out _ HGA.out).mono ?_); rintro e w2 ⟨g3, p3, n3, c3, q3, m3, d3, a3, k3, e3, rfl, hV3, hX3, hg⟩; replace HG := hid (grown_trans HG.out hg); replace HQ := hid (HQ.out.keep hg); replace HR := hid (HR.out.keep hg); have HT3 : Hid (TmC w2 [.bool g3, .slice p3 n3 c3, .slice q3 m3 d3, .slice a3 k3 e3] (xs, v)) := hid ⟨_, _, _, _, _, _, _, _, _, _, rfl, hV3, hX3⟩; obtain ⟨⟨u0, z0⟩, y0⟩ := HQ.out.spot (i * 4) (by omega); obtain ⟨⟨u1, z1⟩, y1⟩ := HQ.out.spot (i * 4 + 1) (by omega); obtain ⟨⟨u2, z2⟩, y2⟩ := HQ.out.spot (i * 4 + 2) (by omega); obtain ⟨⟨u3, z3⟩, y3⟩ := HQ.out.spot (i * 4 + 3) (by omega); clear hg hV3 hX3 kk0 kk1 kk2 kk3)
      have gS := set4_at w2 g (i * 4) (.bool g3) (.slice p3 n3 c3) (.slice q3 m3 d3) (.slice a3 k3 e3)
      refine ⟨⟨i + 1, rows ++ [[.bool g3, .slice p3 n3 c3, .slice q3 m3 d3, .slice a3 k3 e3]], by omega, by go_num, hid (grown_new HG.out gS (fun g' e => by cases e; exact hgw)), hid (HQ.out.put4 hlt _ _ _ _ (NoInt.bool _) (NoInt.slice _ _ _) (NoInt.slice _ _ _) (NoInt.slice _ _ _)), hid ?_⟩, by simp [intOf]; omega⟩
      rw [← HTK.out]
      exact RwS.snoc HQ.out HR.out HT3.out gS (.inl rfl)
    · obtain rfl : i = n := by omega
      have hr := HR.out
      rw [List.take_of_length_le (by have := HL.out; omega)] at hr
      have HR2 := hid hr
      clear hr
      go_wp2_with fail
      go_ret
      exact ⟨_, _, _, rfl, IsP.ofQ HQ.out HR2.out, HG.out⟩
set_option maxHeartbeats 16000000 in
set_option maxRecDepth 100000 in
theorem opposite_v {w : World} {p : Option Addr} {n c : Nat} {P : List Tm} (hP : IsP w p n c P) (hz : ∀ t ∈ P, t.2 ≠ 0) (hn : n ≤ 1000000) :
    Calls Tryz.prog 83 #[.slice p n c] w (PPost w (negP P)) := by
  have hl := hP.len
  have hc := hP.cap
  have hmx := hP.max
  have HP := hid hP; have HZ := hid hz
  have hmk := run_make_tms n (by omega)
  have HQ0 := hid (made_q w n w.heap.size (Nat.le_refl _) (by omega))
  have HG0 := hid (World.grownBy_alloc w (.cells (madeCells #[.bool false, .slice none 0 0, .slice none 0 0, .slice none 0 0] (n * 4)) 33) none)
  have HL := hid hl
  clear hP hz hl
  go_enter Tryz.func83, Tryz.ntmps83
  go_wp2_with fail
  obtain ⟨g, hg⟩ : ∃ g, g = w.heap.size := ⟨_, rfl⟩
  have hgw : w.heap.size ≤ g := by omega
  rw [← hg] at HQ0 ⊢
  clear hg
  generalize w.alloc _ = w0 at *
  go_loopw [11] (fun x wr => ∃ (i : Nat) (rows : List (List Value)), i ≤ n ∧ x = .int .i64 i ∧ Hid (w.grownBy wr none) ∧ Hid (QOwn wr g 33 4 (some ⟨g, 0, none⟩) i n rows) ∧ Hid (RwS wr (some ⟨g, 0, none⟩) rows ((negP P).take i))) (fun x _ => n - (intOf x).toNat)
  case atStart => exact ⟨0, [], Nat.zero_le _, rfl, HG0, HQ0, hid (by simpa using RwS.nil _ _)⟩
  case round =>
    clear HQ0 HG0
    obtain ⟨i, rows, hi, rfl, HG, HQ, HR⟩ := hrel
    have HNL : Hid ((negP P).length = n) := hid (by unfold negP; rw [List.length_map]; exact HL.out)
    by_cases hlt : i < n
    · have hil : i < P.length := by have := HL.out; omega
      obtain ⟨b, o, g1, p1, n1, c1, q1, m1, d1, a1, k1, e1, rfl, ⟨x0, x1, x2, x3⟩, hV, hX⟩ := ((HP.out.keep HG.out).tms i hil).out
      have HTK := hid (take_snoc (negP P) i (by have := HNL.out; omega))
      have hng : (negP P)[i]'(by have := HNL.out; omega) = (P[i].1, -P[i].2) := by simp [negP]
      rw [hng] at HTK
      have hvn := hV.opp (HZ.out _ (List.getElem_mem hil))
      obtain ⟨t, ht⟩ : ∃ t, t = P[i] := ⟨_, rfl⟩
      rw [← ht] at HTK hvn hX
      obtain ⟨xs, v⟩ := t
      dsimp only at HTK hvn hX
      have HV := hid hvn; have HX := hid hX
      obtain ⟨i0, i1, i2, i3⟩ := box4p (blk0 wr (.cells #[.bool false, .slice none 0 0, .slice none 0 0, .slice none 0 0] 33 (0, 0)))
      have fa := fun o => frozen_of_row (wr.alloc (.cells #[.bool false, .slice none 0 0, .slice none 0 0, .slice none 0 0] 33 (0, 0))) wr.heap.size o _ _ (blk0 wr (.cells #[.bool false, .slice none 0 0, .slice none 0 0, .slice none 0 0] 33 (0, 0)))
      have f0 := fa 0; have f1 := fa 1; have f2 := fa 2; have f3 := fa 3
      clear fa hV hvn hX ht hng
      go_upto_region 5 with fail
      clear i0 i1 i2 i3 f0 f1 f2 f3 x0 x1 x2 x3
      have B5 := blk0 wr (.cells #[.bool g1, .slice p1 n1 c1, .slice q1 m1 d1, .slice a1 k1 e1] 33 (0, 0))
      obtain ⟨kk0, kk1, kk2, kk3⟩ := box4p B5
      have f0 := frozen_of_row (wr.alloc (.cells #[.bool g1, .slice p1 n1 c1, .slice q1 m1 d1, .slice a1 k1 e1] 33 (0, 0))) wr.heap.size 0 _ _ B5
      have hst := blk0 wr (.cells #[.bool (!g1), .slice p1 n1 c1, .slice q1 m1 d1, .slice a1 k1 e1] 33 (0, 0))
      have gB := World.grownBy_alloc wr (.cells #[.bool (!g1), .slice p1 n1 c1, .slice q1 m1 d1, .slice a1 k1 e1] 33 (0, 0)) none
      have HST := hid hst; have HGB := hid gB
      clear B5 hst gB
      go_upto_region 6 with fail
      clear f0 kk0 kk1 kk2 kk3
      obtain ⟨kk0, kk1, kk2, kk3⟩ := box4p HST.out
      replace HG := hid (grown_trans HG.out HGB.out)
      replace HQ := hid (HQ.out.keep HGB.out)
      replace HR := hid (HR.out.keep HGB.out)
      have HT3 : Hid (TmC (wr.alloc (.cells #[.bool (!g1), .slice p1 n1 c1, .slice q1 m1 d1, .slice a1 k1 e1] 33 (0, 0))) [.bool (!g1), .slice p1 n1 c1, .slice q1 m1 d1, .slice a1 k1 e1] (xs, -v)) := hid ⟨_, _, _, _, _, _, _, _, _, _, rfl, HV.out.keep HGB.out, HX.out.keep HGB.out⟩
      clear HST HGB HV HX
      generalize wr.alloc _ = w2 at *
      obtain ⟨⟨u0, z0⟩, y0⟩ := HQ.out.spot (i * 4) (by omega)
      obtain ⟨⟨u1, z1⟩, y1⟩ := HQ.out.spot (i * 4 + 1) (by omega)
      obtain ⟨⟨u2, z2⟩, y2⟩ := HQ.out.spot (i * 4 + 2) (by omega)
      obtain ⟨⟨u3, z3⟩, y3⟩ := HQ.out.spot (i * 4 + 3) (by omega)
      go_wp2_with fail
      have gS := set4_at w2 g (i * 4) (.bool (!g1)) (.slice p1 n1 c1) (.slice q1 m1 d1) (.slice a1 k1 e1)
      refine ⟨⟨i + 1, rows ++ [[.bool (!g1), .slice p1 n1 c1, .slice q1 m1 d1, .slice a1 k1 e1]], by omega, by go_num, hid (grown_new HG.out gS (fun g' e => by cases e; exact hgw)), hid (HQ.out.put4 hlt _ _ _ _ (NoInt.bool _) (NoInt.slice _ _ _) (NoInt.slice _ _ _) (NoInt.slice _ _ _)), hid ?_⟩, by simp [intOf]; omega⟩
      rw [← HTK.out]
      exact RwS.snoc HQ.out HR.out HT3.out gS (.inl rfl)
    · obtain rfl : i = n := by omega
      have hr := HR.out
      rw [List.take_of_length_le (by have := HNL.out; omega)] at hr
      have HR2 := hid hr
      clear hr
      go_wp2_with fail
      go_ret
      exact ⟨_, _, _, rfl, IsP.ofQ HQ.out HR2.out, HG.out⟩
end Go.Proofs.YtknmdmofmcfjhaaGreatDoor

set_option linter.unusedVariables false
set_option linter.unusedSimpArgs false
namespace Go.Proofs.YtknmdmofmcfjhaaGreatDoor
open Go Go.RowKit _root_.Nm
theorem lone {φ : Value → Prop} {cs : List Value} (h : ∀ v ∈ cs, φ v) : ∀ r ∈ [cs], ∀ v ∈ r, φ v := fun r hr => by rw [List.mem_singleton.1 hr]; exact h
def lenS : Value → Nat
  | .slice _ n _ => n
  | _ => 0
theorem IsP.tail2 {w : World} {b o n c : Nat} {t : Tm} {P : List Tm} (h : IsP w (some ⟨b, o, none⟩) n c (t :: P)) : IsP w (if c = 1 then some ⟨b, o, none⟩ else some ⟨b, o + 4, none⟩) (n - 1) (c - 1) P := by
  by_cases hc : c = 1
  · rw [if_pos hc]
    have h1 := h.len
    have h2 := h.cap
    simp only [List.length_cons] at h1
    exact ⟨by omega, by omega, by omega, fun i hi => by omega⟩
  · rw [if_neg hc]
    exact h.tail
theorem rows_no {w : World} {rs : List (List Value)} {Q : List Tm} (hl : rs.length = Q.length) (ht : ∀ i (hi : i < rs.length) (hj : i < Q.length), TmC w rs[i] Q[i]) : ∀ r ∈ rs, ∀ v ∈ r, NoInt v := fun r hr => by
  obtain ⟨i, hi, rfl⟩ := List.mem_iff_getElem.1 hr
  exact (ht i hi (by omega)).noInt
theorem rows_one {w : World} {rs : List (List Value)} {Q : List Tm} (hl : rs.length = Q.length) (ht : ∀ i (hi : i < rs.length) (hj : i < Q.length), TmC w rs[i] Q[i]) : ∀ r ∈ rs, ∀ v ∈ r, v.oneCell' = true := fun r hr => by
  obtain ⟨i, hi, rfl⟩ := List.mem_iff_getElem.1 hr
  exact (ht i hi (by omega)).one
theorem RwS.many {w w' : World} {p p' : Option Addr} {base : Nat} {e : TypeId} {k n c : Nat} {l : List (List Value)} {rows rs : List (List Value)} {P Q : List Tm} (hq : QOwn w base e k p n c l) (h : RwS w p rows P) (hl : rs.length = Q.length) (ht : ∀ i (hi : i < rs.length) (hj : i < Q.length), TmC w rs[i] Q[i])
    (hg : w.grownBy w' (p.map (·.block))) (hat : p'.map (·.block) = p.map (·.block) ∨ p'.map (·.block) = some w.heap.size) : RwS w' p' (rows ++ rs) (P ++ Q) :=
  (h.app ⟨hl.symm, fun i hi hj => (ht i hi hj).stayQ hq⟩).move hg hat
theorem addP_gt {s t : Tm} {p q : List Tm} (h : 0 < lexL s.1 t.1) : addP (s :: p) (t :: q) = s :: addP p (t :: q) := by rw [addP, if_pos h]
theorem addP_lt {s t : Tm} {p q : List Tm} (h : lexL s.1 t.1 < 0) : addP (s :: p) (t :: q) = t :: addP (s :: p) q := by rw [addP, if_neg (by omega), if_pos h]
theorem addP_eq {s t : Tm} {p q : List Tm} (h : lexL s.1 t.1 = 0) : addP (s :: p) (t :: q) = if s.2 + t.2 = 0 then addP p q else (s.1, s.2 + t.2) :: addP p q := by rw [addP, if_neg (by omega), if_neg (by omega)]
theorem addP_end {p q : List Tm} (h : p = [] ∨ q = []) : addP p q = p ++ q := by
  rcases h with rfl | rfl
  · cases q <;> simp [addP]
  · rw [addP_nil, List.append_nil]
set_option maxHeartbeats 64000000 in
set_option maxRecDepth 100000 in
theorem merge_v (H : Nat) (B : Int) {w : World} (T : Tb w) {p q : Option Addr} {n c m d : Nat} {P Q : List Tm} (hP : IsP w p n c P) (hQ : IsP w q m d Q) (hH : H ≤ 9000) (bP : BdP H P) (bQ : BdP H Q) (eP : ExP B P) (eQ : ExP B Q) (hB : 0 ≤ B ∧ B ≤ 4294967296) (hn : n + m ≤ 1000000) :
    Calls Tryz.prog 137 #[.slice p n c, .slice q m d, .func (.func 136) #[] #[], .func (.func 138) #[] #[]] w (PPost w (addP P Q)) := by
  have hlP := hP.len; have hcP := hP.cap; have hxP := hP.max
  have hlQ := hQ.len; have hcQ := hQ.cap; have hxQ := hQ.max
  obtain ⟨N, hN⟩ : ∃ N, N = n + m := ⟨_, rfl⟩
  have hmk := run_make_cap N (by omega)
  have hnm : (n : Int) + (m : Int) = (N : Int) := by omega
  have hN2 : N ≤ 1000000 := by omega
  have HT := hid T
  have HP := hid hP; have HQi := hid hQ
  have HBE := hid (And.intro bP (And.intro bQ (And.intro eP eQ)))
  have HQ0 := hid (made_q w N w.heap.size (Nat.le_refl _) (by omega))
  have HG0 := hid (World.grownBy_alloc w (.cells (madeCells #[.bool false, .slice none 0 0, .slice none 0 0, .slice none 0 0] (N * 4)) 33) none)
  have hnN : n ≤ N := by omega
  have hmN : m ≤ N := by omega
  have HN := hid hN
  clear T hP hQ bP bQ eP eQ hN
  go_enter Tryz.func137, Tryz.ntmps137
  go_wp2_with fail
  obtain ⟨g, hg⟩ : ∃ g, g = w.heap.size := ⟨_, rfl⟩
  rw [← hg]
  rw [← hg] at HQ0
  have hgw : w.heap.size ≤ g := by omega
  have HQ1 : Hid (QOwn (w.alloc (.cells (madeCells #[.bool false, .slice none 0 0, .slice none 0 0, .slice none 0 0] (N * 4)) 33)) w.heap.size 33 4 (some ⟨g, 0, none⟩) 0 N []) := hid (by have := HQ0.out; rw [hg] at this; rw [hg]; exact this)
  clear hg HQ0
  generalize w.alloc _ = w0 at *
  go_loopw [0, 1, 9] (fun x y z wr => ∃ (pa : Option Addr) (na ca : Nat) (PA : List Tm) (pb : Option Addr) (nb cb : Nat) (PB : List Tm) (pm : Option Addr) (nm cm : Nat) (rows : List (List Value)) (R : List Tm), x = .slice pa na ca ∧ y = .slice pb nb cb ∧ z = .slice pm nm cm ∧ nm + na + nb ≤ 1000000 ∧ Hid (w.grownBy wr none) ∧ Hid (IsP w pa na ca PA) ∧ Hid (IsP w pb nb cb PB) ∧ Hid (QOwn wr w.heap.size 33 4 pm nm cm rows) ∧ Hid (RwS wr pm rows R) ∧ Hid (R ++ addP PA PB = addP P Q) ∧ Hid (BdP H PA ∧ BdP H PB ∧ ExP B PA ∧ ExP B PB)) (fun x y z wr => lenS x + lenS y)
  case atStart => exact ⟨p, n, c, P, q, m, d, Q, some ⟨g, 0, none⟩, 0, N, [], [], rfl, rfl, rfl, by omega, HG0, HP, HQi, HQ1, hid (RwS.nil _ _), hid rfl, HBE⟩
  case round =>
    clear HG0 HQ1 HBE
    obtain ⟨pa, na, ca, PA, pb, nb, cb, PB, pm, nm, cm, rows, R, rfl, rfl, rfl, hle, HG, HA, HB, HQ, HR, HS, HD⟩ := hrel
    have hca := HA.out.cap; have hma := HA.out.max; have hla := HA.out.len
    have hcb := HB.out.cap; have hmb := HB.out.max; have hlb := HB.out.len
    have hcm := HQ.out.cap; have hmm := HQ.out.max
    have hsw := HG.out.size
    by_cases hna : 0 < na
    · by_cases hnb : 0 < nb
      · cases PA with
        | nil => simp at hla; omega
        | cons s PA =>
        cases PB with
        | nil => simp at hlb; omega
        | cons t PB =>
        obtain ⟨ba, oa, g1, p1, n1, c1, q1, m1, d1, a1, k1, e1, rfl, hxs, hV1, hX1⟩ := ((HA.out.keep HG.out).tms 0 (by simp)).out
        obtain ⟨bb, ob, g2, p2, n2, c2, q2, m2, d2, a2, k2, e2, rfl, hys, hV2, hX2⟩ := ((HB.out.keep HG.out).tms 0 (by simp)).out
        simp only [Nat.zero_mul, Nat.add_zero, List.getElem_cons_zero] at hxs hys hV1 hX1 hV2 hX2
        obtain ⟨x0, x1, x2, x3⟩ := hxs
        obtain ⟨y0, y1, y2, y3⟩ := hys
        obtain ⟨xs, v⟩ := s
        obtain ⟨ys, u⟩ := t
        dsimp only at hV1 hX1 hV2 hX2
        have HTA := hid (HA.out.tail2); have HTB := hid (HB.out.tail2)
        obtain ⟨hd1, hd2, hd3, hd4⟩ := HD.out
        have b1 := hV1.lens (hd1 (xs, v) (by simp)); have b2 := hV2.lens (hd2 (ys, u) (by simp))
        have HC1 := hid fun W (hg : wr.grownBy W none) => sum1_v (g1 := g1) (p1 := p1) (q1 := q1) (n1 := n1) (c1 := c1) (m1 := m1) (d1 := d1) (g2 := g2) (p2 := p2) (q2 := q2) (n2 := n2) (c2 := c2) (m2 := m2) (d2 := d2) (hX1.keep hg) (hX2.keep hg) (hd3 (xs, v) (by simp)) (hd4 (ys, u) (by simp)) hB
        have HC2 := hid fun W (hg : wr.grownBy W none) => sum2_v H (HT.out.keep (grown_trans HG.out hg)) (a1 := a1) (k1 := k1) (e1 := e1) (a2 := a2) (k2 := k2) (e2 := e2) (hV1.keep hg) (hV2.keep hg) b1.1 b1.2 b2.1 b2.2 hH
        have HT1 : Hid (TmC wr [.bool g1, .slice p1 n1 c1, .slice q1 m1 d1, .slice a1 k1 e1] (xs, v)) := hid ⟨_, _, _, _, _, _, _, _, _, _, rfl, hV1, hX1⟩
        have HT2 : Hid (TmC wr [.bool g2, .slice p2 n2 c2, .slice q2 m2 d2, .slice a2 k2 e2] (ys, u)) := hid ⟨_, _, _, _, _, _, _, _, _, _, rfl, hV2, hX2⟩
        have HX1 := hid hX1
        clear hV1 hX1 hV2 hX2 hd1 hd2 hd3 hd4 b1 b2 hla hlb
        have hbnd : -1 ≤ lexL xs ys ∧ lexL xs ys ≤ 1 := lexZ_bound (ex xs) (ex ys) (max xs.length ys.length)
        obtain ⟨z, hz⟩ : ∃ z, z = lexL xs ys := ⟨_, rfl⟩
        rw [← hz] at HC1 hbnd
        have HZ := hid hz
        clear hz
        obtain ⟨su, hsu⟩ : ∃ s, s = v + u := ⟨_, rfl⟩
        rw [← hsu] at HC2
        obtain ⟨bz, hbz⟩ : ∃ b, b = (cmpR su 0 != 0) := ⟨_, rfl⟩
        rw [← hbz] at HC2
        have HSU := hid (And.intro hsu hbz)
        clear hsu hbz
        go_upto_region 3 with fail
        refine wp_region_noPanic ?_
        refine wp_region_held_drew (S := (fun W => W.cell? ⟨ba, oa, none⟩ = some (.bool g1) ∧ W.cell? ⟨ba, oa + 1, none⟩ = some (.slice p1 n1 c1) ∧ W.cell? ⟨ba, oa + 2, none⟩ = some (.slice q1 m1 d1) ∧ W.cell? ⟨ba, oa + 3, none⟩ = some (.slice a1 k1 e1) ∧ W.cell? ⟨bb, ob, none⟩ = some (.bool g2) ∧ W.cell? ⟨bb, ob + 1, none⟩ = some (.slice p2 n2 c2) ∧ W.cell? ⟨bb, ob + 2, none⟩ = some (.slice q2 m2 d2) ∧ W.cell? ⟨bb, ob + 3, none⟩ = some (.slice a2 k2 e2))) (by kernel_rfl) ?_ (fun hHeld => ?_)
        · (try dsimp only)
          exact ⟨(grown_drew _ none).cell x0 (by simp), (grown_drew _ none).cell x1 (by simp), (grown_drew _ none).cell x2 (by simp), (grown_drew _ none).cell x3 (by simp), (grown_drew _ none).cell y0 (by simp), (grown_drew _ none).cell y1 (by simp), (grown_drew _ none).cell y2 (by simp), (grown_drew _ none).cell y3 (by simp)⟩
        have hgg := grown_drew wr none
        generalize wr.drew = wd at *
        refine wpAnyH_take (i := 0) (oi := Oper.mk _ _ _ _ _ _) (v := ?_) rfl (by kernel_rfl) (by kernel_rfl) (by kernel_rfl) (fun _ _ _ h => h) (Or.inl ⟨by kernel_rfl, ?_⟩) hHeld ?_
        rotate_left 1
        · intro W hSw
          (try dsimp only at hSw)
          obtain ⟨h0, h1, h2, h3, h4, h5, h6, h7⟩ := hSw
          go_simp
          (try (with_reducible rfl))
        (try simp only [Act.put, List.setIfInBounds_toArray, List.set_cons_zero, List.set_cons_succ])
        refine wpAnyH_take (i := 1) (oi := Oper.mk _ _ _ _ _ _) (v := ?_) rfl (by kernel_rfl) (by kernel_rfl) (by kernel_rfl) (fun _ _ _ h => h) (Or.inl ⟨by kernel_rfl, ?_⟩) hHeld ?_
        rotate_left 1
        · intro W hSw
          (try dsimp only at hSw)
          obtain ⟨h0, h1, h2, h3, h4, h5, h6, h7⟩ := hSw
          go_simp
          (try (with_reducible rfl))
        (try simp only [Act.put, List.setIfInBounds_toArray, List.set_cons_zero, List.set_cons_succ])
        refine wpAnyH_take (i := 2) (oi := Oper.mk _ _ _ _ _ _) (v := ?_) rfl (by kernel_rfl) (by kernel_rfl) (by kernel_rfl) (fun _ _ _ h => h) (Or.inl ⟨by kernel_rfl, ?_⟩) hHeld ?_
        rotate_left 1
        · intro W hSw
          (try dsimp only at hSw)
          obtain ⟨h0, h1, h2, h3, h4, h5, h6, h7⟩ := hSw
          go_simp
          (try (with_reducible rfl))
        (try simp only [Act.put, List.setIfInBounds_toArray, List.set_cons_zero, List.set_cons_succ])
        refine wpAnyH_take (i := 3) (oi := Oper.mk _ _ _ _ _ _) (v := ?_) rfl (by kernel_rfl) (by kernel_rfl) (by kernel_rfl) (fun _ _ _ h => h) (Or.inl ⟨by kernel_rfl, ?_⟩) hHeld ?_
        rotate_left 1
        · intro W hSw
          (try dsimp only at hSw)
          obtain ⟨h0, h1, h2, h3, h4, h5, h6, h7⟩ := hSw
          go_simp
          (try (with_reducible rfl))
        (try simp only [Act.put, List.setIfInBounds_toArray, List.set_cons_zero, List.set_cons_succ])
        refine wpAnyH_take (i := 4) (oi := Oper.mk _ _ _ _ _ _) (v := ?_) rfl (by kernel_rfl) (by kernel_rfl) (by kernel_rfl) (fun _ _ _ h => h) (Or.inl ⟨by kernel_rfl, ?_⟩) hHeld ?_
        rotate_left 1
        · intro W hSw
          (try dsimp only at hSw)
          obtain ⟨h0, h1, h2, h3, h4, h5, h6, h7⟩ := hSw
          go_simp
          (try (with_reducible rfl))
        (try simp only [Act.put, List.setIfInBounds_toArray, List.set_cons_zero, List.set_cons_succ])
        refine wpAnyH_take (i := 5) (oi := Oper.mk _ _ _ _ _ _) (v := ?_) rfl (by kernel_rfl) (by kernel_rfl) (by kernel_rfl) (fun _ _ _ h => h) (Or.inl ⟨by kernel_rfl, ?_⟩) hHeld ?_
        rotate_left 1
        · intro W hSw
          (try dsimp only at hSw)
          obtain ⟨h0, h1, h2, h3, h4, h5, h6, h7⟩ := hSw
          go_simp
          (try (with_reducible rfl))
        (try simp only [Act.put, List.setIfInBounds_toArray, List.set_cons_zero, List.set_cons_succ])
        refine wpAnyH_take (i := 6) (oi := Oper.mk _ _ _ _ _ _) (v := ?_) rfl (by kernel_rfl) (by kernel_rfl) (by kernel_rfl) (fun _ _ _ h => h) (Or.inl ⟨by kernel_rfl, ?_⟩) hHeld ?_
        rotate_left 1
        · intro W hSw
          (try dsimp only at hSw)
          obtain ⟨h0, h1, h2, h3, h4, h5, h6, h7⟩ := hSw
          go_simp
          (try (with_reducible rfl))
        (try simp only [Act.put, List.setIfInBounds_toArray, List.set_cons_zero, List.set_cons_succ])
        refine wpAnyH_ready (rs := [7]) (by kernel_rfl) (by simp) ?_
        refine AllReadyH.cons (o := Oper.mk _ _ _ _ _ _) rfl (fun K hK => ?_) AllReadyH.nil
        (try rw [if_pos (by kernel_rfl)])
        go_simp
        go_at_call 136
        refine (HC1.out _ hgg).mono ?_
        rintro e wy1 ⟨rfl, hgS⟩
        replace hgg := grown_trans hgg hgS
        refine hK.out _ _ ?_ (fun hNew => ?_)
        · have hH := hHeld
          (try dsimp only at hH)
          (try dsimp only)
          first | with_reducible exact hH | exact ⟨hgS.cell hH.1 (by simp; try omega), hgS.cell hH.2.1 (by simp; try omega), hgS.cell hH.2.2.1 (by simp; try omega), hgS.cell hH.2.2.2.1 (by simp; try omega), hgS.cell hH.2.2.2.2.1 (by simp; try omega), hgS.cell hH.2.2.2.2.2.1 (by simp; try omega), hgS.cell hH.2.2.2.2.2.2.1 (by simp; try omega), hgS.cell hH.2.2.2.2.2.2.2 (by simp; try omega)⟩
        clear hK K hHeld
        have hHeld := hNew
        clear hNew
        (try simp only [Act.put, List.setIfInBounds_toArray, List.set_cons_zero, List.set_cons_succ])
        clear hgS
        refine wpAnyH_ready (rs := [8]) (by kernel_rfl) (by simp) ?_
        refine AllReadyH.cons (o := Oper.mk _ _ _ _ _ _) rfl (fun K hK => ?_) AllReadyH.nil
        (try rw [if_pos (by kernel_rfl)])
        go_simp
        refine hK.out _ _ ?_ (fun hNew => ?_)
        · have hH := hHeld
          (try dsimp only at hH)
          (try dsimp only)
          first | with_reducible exact hH | exact ⟨hgS.cell hH.1 (by simp; try omega), hgS.cell hH.2.1 (by simp; try omega), hgS.cell hH.2.2.1 (by simp; try omega), hgS.cell hH.2.2.2.1 (by simp; try omega), hgS.cell hH.2.2.2.2.1 (by simp; try omega), hgS.cell hH.2.2.2.2.2.1 (by simp; try omega), hgS.cell hH.2.2.2.2.2.2.1 (by simp; try omega), hgS.cell hH.2.2.2.2.2.2.2 (by simp; try omega)⟩
        clear hK K hHeld
        have hHeld := hNew
        clear hNew
        (try simp only [Act.put, List.setIfInBounds_toArray, List.set_cons_zero, List.set_cons_succ])
        refine wpAnyH_done (by kernel_rfl) ?_ _
        refine NoPanic.normal ?_
        clear hHeld
        replace HQ := hid (HQ.out.keep hgg)
        replace HR := hid (HR.out.keep hgg)
        replace HT1 := hid (HT1.out.keep hgg)
        replace HT2 := hid (HT2.out.keep hgg)
        replace HX1 := hid (HX1.out.keep hgg)
        have HWR := hid hgg
        replace HG := hid (grown_trans HG.out hgg)
        have hszg := hgg.size
        have hNx0 := hgg.cell x0 (by simp); have hNx1 := hgg.cell x1 (by simp); have hNx2 := hgg.cell x2 (by simp); have hNx3 := hgg.cell x3 (by simp)
        have hNy0 := hgg.cell y0 (by simp); have hNy1 := hgg.cell y1 (by simp); have hNy2 := hgg.cell y2 (by simp); have hNy3 := hgg.cell y3 (by simp)
        clear x0 x1 x2 x3 y0 y1 y2 y3 hgg
        obtain ⟨y, hy⟩ : ∃ y, y = -z := ⟨_, rfl⟩
        rw [← hy]
        rcases Int.lt_trichotomy z 0 with hz0 | hz0 | hz0
        · have hy1 : ¬ y < 0 := by omega
          have hy2 : 0 < y := by omega
          have hy3 : ¬ y ≤ 0 := by omega
          have hy4 : 0 ≤ y := by omega
          have HZ0 := hid hz0
          clear hy hz0 hbnd
          go_wp2_with (with_reducible refine wlq_append _ rfl (.tmp 45) (.tmp 49) 35 rfl 33 4 (.agg #[.bool false, .slice none 0 0, .slice none 0 0, .slice none 0 0]) 80 Tryz.underlying35 infoTm tmZs four_pos tmZn w.heap.size _ _ _ rows rfl (QOwn.keep HQ.out (World.grownBy_alloc _ _ _)) _ 1 _ [[.bool g2, .slice p2 n2 c2, .slice q2 m2 d2, .slice a2 k2 e2]] rfl (one_srd _ _ 4 _ rfl _ (by simp)) (lone (noInt4 _ _ _ _ _ _ _ _ _ _)) (lone (one4 _ _ _ _ _ _ _ _ _ _)) (by omega) (by omega) (by simp; omega) ?_; intro p' c4 w4 hq4 hg4 hat; have HQ4 := hid hq4; have HR4 := hid (RwS.snoc (QOwn.keep HQ.out (World.grownBy_alloc _ _ _)) (RwS.keep HR.out (World.grownBy_alloc _ _ _)) (TmC.keep HT2.out (World.grownBy_alloc _ _ _)) hg4 hat); have HG4 := hid (grown_new (grown_trans HG.out (World.grownBy_alloc _ _ _)) hg4 (fun g e => by cases hpm : pm with | none => (rw [hpm] at e; simp at e) | some q => (rw [hpm] at e; simp at e; have := (HQ.out.lt q hpm).1; omega))); clear hq4 hg4 hat)
          refine ⟨⟨some ⟨ba, oa, none⟩, na, ca, (xs, v) :: PA, (if cb = 1 then some ⟨bb, ob, none⟩ else some ⟨bb, ob + 4, none⟩), nb - 1, cb - 1, PB, p', nm + 1, c4, rows ++ [[.bool g2, .slice p2 n2 c2, .slice q2 m2 d2, .slice a2 k2 e2]], R ++ [(ys, u)], rfl, by first | rfl | go_num, rfl, by omega, HG4, HA, HTB, HQ4, HR4, hid ?_, hid ?_⟩, by simp [lenS]; omega⟩
          · rw [← HS.out, addP_lt (by show lexL xs ys < 0; rw [← HZ.out]; exact HZ0.out)]
            simp
          · obtain ⟨e1, e2, e3, e4⟩ := HD.out
            exact ⟨e1, fun t ht => e2 t (by simp [ht]), e3, fun t ht => e4 t (by simp [ht])⟩
        · have hy0 : y = 0 := by omega
          subst hy0
          have HZ0 := hid hz0
          clear hy hz0 hbnd
          go_upto_region 8 with fail
          refine wp_region_noPanic ?_
          refine wp_region_held_drew (S := (fun W => W.cell? ⟨ba, oa, none⟩ = some (.bool g1) ∧ W.cell? ⟨ba, oa + 1, none⟩ = some (.slice p1 n1 c1) ∧ W.cell? ⟨ba, oa + 2, none⟩ = some (.slice q1 m1 d1) ∧ W.cell? ⟨ba, oa + 3, none⟩ = some (.slice a1 k1 e1) ∧ W.cell? ⟨bb, ob, none⟩ = some (.bool g2) ∧ W.cell? ⟨bb, ob + 1, none⟩ = some (.slice p2 n2 c2) ∧ W.cell? ⟨bb, ob + 2, none⟩ = some (.slice q2 m2 d2) ∧ W.cell? ⟨bb, ob + 3, none⟩ = some (.slice a2 k2 e2))) (by kernel_rfl) ?_ (fun hHeld => ?_)
          · (try dsimp only)
            exact ⟨(grown_drew _ none).cell hNx0 (by simp), (grown_drew _ none).cell hNx1 (by simp), (grown_drew _ none).cell hNx2 (by simp), (grown_drew _ none).cell hNx3 (by simp), (grown_drew _ none).cell hNy0 (by simp), (grown_drew _ none).cell hNy1 (by simp), (grown_drew _ none).cell hNy2 (by simp), (grown_drew _ none).cell hNy3 (by simp)⟩
          have hgg := grown_drew wy1 none
          generalize wy1.drew = wd2 at *
          refine wpAnyH_take (i := 0) (oi := Oper.mk _ _ _ _ _ _) (v := ?_) rfl (by kernel_rfl) (by kernel_rfl) (by kernel_rfl) (fun _ _ _ h => h) (Or.inl ⟨by kernel_rfl, ?_⟩) hHeld ?_
          rotate_left 1
          · intro W hSw
            (try dsimp only at hSw)
            obtain ⟨h0, h1, h2, h3, h4, h5, h6, h7⟩ := hSw
            go_simp
            (try (with_reducible rfl))
          (try simp only [Act.put, List.setIfInBounds_toArray, List.set_cons_zero, List.set_cons_succ])
          refine wpAnyH_take (i := 1) (oi := Oper.mk _ _ _ _ _ _) (v := ?_) rfl (by kernel_rfl) (by kernel_rfl) (by kernel_rfl) (fun _ _ _ h => h) (Or.inl ⟨by kernel_rfl, ?_⟩) hHeld ?_
          rotate_left 1
          · intro W hSw
            (try dsimp only at hSw)
            obtain ⟨h0, h1, h2, h3, h4, h5, h6, h7⟩ := hSw
            go_simp
            (try (with_reducible rfl))
          (try simp only [Act.put, List.setIfInBounds_toArray, List.set_cons_zero, List.set_cons_succ])
          refine wpAnyH_take (i := 2) (oi := Oper.mk _ _ _ _ _ _) (v := ?_) rfl (by kernel_rfl) (by kernel_rfl) (by kernel_rfl) (fun _ _ _ h => h) (Or.inl ⟨by kernel_rfl, ?_⟩) hHeld ?_
          rotate_left 1
          · intro W hSw
            (try dsimp only at hSw)
            obtain ⟨h0, h1, h2, h3, h4, h5, h6, h7⟩ := hSw
            go_simp
            (try (with_reducible rfl))
          (try simp only [Act.put, List.setIfInBounds_toArray, List.set_cons_zero, List.set_cons_succ])
          refine wpAnyH_take (i := 3) (oi := Oper.mk _ _ _ _ _ _) (v := ?_) rfl (by kernel_rfl) (by kernel_rfl) (by kernel_rfl) (fun _ _ _ h => h) (Or.inl ⟨by kernel_rfl, ?_⟩) hHeld ?_
          rotate_left 1
          · intro W hSw
            (try dsimp only at hSw)
            obtain ⟨h0, h1, h2, h3, h4, h5, h6, h7⟩ := hSw
            go_simp
            (try (with_reducible rfl))
          (try simp only [Act.put, List.setIfInBounds_toArray, List.set_cons_zero, List.set_cons_succ])
          refine wpAnyH_take (i := 4) (oi := Oper.mk _ _ _ _ _ _) (v := ?_) rfl (by kernel_rfl) (by kernel_rfl) (by kernel_rfl) (fun _ _ _ h => h) (Or.inl ⟨by kernel_rfl, ?_⟩) hHeld ?_
          rotate_left 1
          · intro W hSw
            (try dsimp only at hSw)
            obtain ⟨h0, h1, h2, h3, h4, h5, h6, h7⟩ := hSw
            go_simp
            (try (with_reducible rfl))
          (try simp only [Act.put, List.setIfInBounds_toArray, List.set_cons_zero, List.set_cons_succ])
          refine wpAnyH_take (i := 5) (oi := Oper.mk _ _ _ _ _ _) (v := ?_) rfl (by kernel_rfl) (by kernel_rfl) (by kernel_rfl) (fun _ _ _ h => h) (Or.inl ⟨by kernel_rfl, ?_⟩) hHeld ?_
          rotate_left 1
          · intro W hSw
            (try dsimp only at hSw)
            obtain ⟨h0, h1, h2, h3, h4, h5, h6, h7⟩ := hSw
            go_simp
            (try (with_reducible rfl))
          (try simp only [Act.put, List.setIfInBounds_toArray, List.set_cons_zero, List.set_cons_succ])
          refine wpAnyH_take (i := 6) (oi := Oper.mk _ _ _ _ _ _) (v := ?_) rfl (by kernel_rfl) (by kernel_rfl) (by kernel_rfl) (fun _ _ _ h => h) (Or.inl ⟨by kernel_rfl, ?_⟩) hHeld ?_
          rotate_left 1
          · intro W hSw
            (try dsimp only at hSw)
            obtain ⟨h0, h1, h2, h3, h4, h5, h6, h7⟩ := hSw
            go_simp
            (try (with_reducible rfl))
          (try simp only [Act.put, List.setIfInBounds_toArray, List.set_cons_zero, List.set_cons_succ])
          refine wpAnyH_ready (rs := [7, 11]) (by kernel_rfl) (by simp) ?_
          refine AllReadyH.cons (o := Oper.mk _ _ _ _ _ _) rfl (fun K hK => ?_) ?_
          · (try rw [if_pos (by kernel_rfl)])
            go_simp
            go_at_call 138
            refine (HC2.out _ (grown_trans HWR.out hgg)).mono ?_
            rintro e wy11 ⟨g3, p3, n3, c3, q3, m3, d3, rfl, hV3, hgS⟩
            replace hgg := grown_trans hgg hgS
            refine hK.out _ _ ?_ (fun hNew => ?_)
            · have hH := hHeld
              (try dsimp only at hH)
              (try dsimp only)
              first | with_reducible exact hH | exact ⟨hgS.cell hH.1 (by simp; try omega), hgS.cell hH.2.1 (by simp; try omega), hgS.cell hH.2.2.1 (by simp; try omega), hgS.cell hH.2.2.2.1 (by simp; try omega), hgS.cell hH.2.2.2.2.1 (by simp; try omega), hgS.cell hH.2.2.2.2.2.1 (by simp; try omega), hgS.cell hH.2.2.2.2.2.2.1 (by simp; try omega), hgS.cell hH.2.2.2.2.2.2.2 (by simp; try omega)⟩
            clear hK K hHeld
            have hHeld := hNew
            clear hNew
            (try simp only [Act.put, List.setIfInBounds_toArray, List.set_cons_zero, List.set_cons_succ])
            clear hgS
            refine wpAnyH_take (i := 8) (oi := Oper.mk _ _ _ _ _ _) (v := ?_) rfl (by kernel_rfl) (by kernel_rfl) (by kernel_rfl) (fun _ _ _ h => h) (Or.inl ⟨by kernel_rfl, ?_⟩) hHeld ?_
            rotate_left 1
            · intro W hSw
              (try dsimp only at hSw)
              obtain ⟨h0, h1, h2, h3, h4, h5, h6, h7⟩ := hSw
              go_simp
              (try (with_reducible rfl))
            (try simp only [Act.put, List.setIfInBounds_toArray, List.set_cons_zero, List.set_cons_succ])
            refine wpAnyH_take (i := 9) (oi := Oper.mk _ _ _ _ _ _) (v := ?_) rfl (by kernel_rfl) (by kernel_rfl) (by kernel_rfl) (fun _ _ _ h => h) (Or.inl ⟨by kernel_rfl, ?_⟩) hHeld ?_
            rotate_left 1
            · intro W hSw
              (try dsimp only at hSw)
              obtain ⟨h0, h1, h2, h3, h4, h5, h6, h7⟩ := hSw
              go_simp
              (try (with_reducible rfl))
            (try simp only [Act.put, List.setIfInBounds_toArray, List.set_cons_zero, List.set_cons_succ])
            refine wpAnyH_take (i := 10) (oi := Oper.mk _ _ _ _ _ _) (v := ?_) rfl (by kernel_rfl) (by kernel_rfl) (by kernel_rfl) (fun _ _ _ h => h) (Or.inl ⟨by kernel_rfl, ?_⟩) hHeld ?_
            rotate_left 1
            · intro W hSw
              (try dsimp only at hSw)
              obtain ⟨h0, h1, h2, h3, h4, h5, h6, h7⟩ := hSw
              go_simp
              (try (with_reducible rfl))
            (try simp only [Act.put, List.setIfInBounds_toArray, List.set_cons_zero, List.set_cons_succ])
            refine wpAnyH_ready (rs := [11]) (by kernel_rfl) (by simp) ?_
            refine AllReadyH.cons (o := Oper.mk _ _ _ _ _ _) rfl (fun K hK => ?_) AllReadyH.nil
            (try rw [if_pos (by kernel_rfl)])
            go_simp
            have hgS := World.grownBy_alloc wy11 (.cells #[.bool false, .slice none 0 0, .slice none 0 0, .slice none 0 0] 33 (0, 0)) none
            have hb8 := blk0 wy11 (.cells #[.bool false, .slice none 0 0, .slice none 0 0, .slice none 0 0] 33 (0, 0))
            have hleb8 := hgg.size
            replace hgg := grown_trans hgg hgS
            replace hV3 := hV3.keep hgS
            refine hK.out _ _ ?_ (fun hNew => ?_)
            · have hH := hHeld
              (try dsimp only at hH)
              (try dsimp only)
              first | with_reducible exact hH | exact ⟨hgS.cell hH.1 (by simp; try omega), hgS.cell hH.2.1 (by simp; try omega), hgS.cell hH.2.2.1 (by simp; try omega), hgS.cell hH.2.2.2.1 (by simp; try omega), hgS.cell hH.2.2.2.2.1 (by simp; try omega), hgS.cell hH.2.2.2.2.2.1 (by simp; try omega), hgS.cell hH.2.2.2.2.2.2.1 (by simp; try omega), hgS.cell hH.2.2.2.2.2.2.2 (by simp; try omega)⟩
            clear hK K hHeld
            have hHeld := hNew
            clear hNew
            (try simp only [Act.put, List.setIfInBounds_toArray, List.set_cons_zero, List.set_cons_succ])
            generalize wy11.heap.size = b8 at *
            generalize wy11.alloc _ = wy12 at *
            clear hgS
            refine wpAnyH_ready (rs := [12]) (by kernel_rfl) (by simp) ?_
            refine AllReadyH.cons (o := Oper.mk _ _ _ _ _ _) rfl (fun K hK => ?_) AllReadyH.nil
            (try rw [if_pos (by kernel_rfl)])
            obtain ⟨z0, z1, z2, z3⟩ := box4p hb8
            have zf := fun o => frozen_of_row wy12 b8 o _ _ hb8
            have f0 := zf 0
            have f1 := zf 1
            have f2 := zf 2
            have f3 := zf 3
            have hb8lt := lt_of_block hb8
            go_simp
            have hgS := set4_grown wy12 b8 (.bool g3) (.slice p3 n3 c3) (.slice q3 m3 d3) (.slice a1 k1 e1)
            have hbE := set4 hb8 (.bool g3) (.slice p3 n3 c3) (.slice q3 m3 d3) (.slice a1 k1 e1)
            have HV3 := hid (stay_rat hV3 hbE hgS hb8)
            have hggE := hid (grown_new hgg hgS (fun g e => by cases e; exact hleb8))
            clear z0 z1 z2 z3 zf f0 f1 f2 f3
            refine hK.out _ _ ?_ (fun hNew => ?_)
            · have hH := hHeld
              (try dsimp only at hH)
              (try dsimp only)
              exact ⟨hggE.out.cell hNx0 (by simp), hggE.out.cell hNx1 (by simp), hggE.out.cell hNx2 (by simp), hggE.out.cell hNx3 (by simp), hggE.out.cell hNy0 (by simp), hggE.out.cell hNy1 (by simp), hggE.out.cell hNy2 (by simp), hggE.out.cell hNy3 (by simp)⟩
            clear hK K hHeld
            have hHeld := hNew
            clear hNew
            (try simp only [Act.put, List.setIfInBounds_toArray, List.set_cons_zero, List.set_cons_succ])
            generalize (((wy12.setCell _ _).setCell _ _).setCell _ _).setCell _ _ = wE at *
            have HBE := hid hbE
            clear hgS hb8 hV3 hbE hgg
            refine wpAnyH_ready (rs := [13]) (by kernel_rfl) (by simp) ?_
            refine AllReadyH.cons (o := Oper.mk _ _ _ _ _ _) rfl (fun K hK => ?_) AllReadyH.nil
            (try rw [if_pos (by kernel_rfl)])
            go_simp
            refine hK.out _ _ ?_ (fun hNew => ?_)
            · have hH := hHeld
              (try dsimp only at hH)
              (try dsimp only)
              first | with_reducible exact hH | exact ⟨hgS.cell hH.1 (by simp; try omega), hgS.cell hH.2.1 (by simp; try omega), hgS.cell hH.2.2.1 (by simp; try omega), hgS.cell hH.2.2.2.1 (by simp; try omega), hgS.cell hH.2.2.2.2.1 (by simp; try omega), hgS.cell hH.2.2.2.2.2.1 (by simp; try omega), hgS.cell hH.2.2.2.2.2.2.1 (by simp; try omega), hgS.cell hH.2.2.2.2.2.2.2 (by simp; try omega)⟩
            clear hK K hHeld
            have hHeld := hNew
            clear hNew
            (try simp only [Act.put, List.setIfInBounds_toArray, List.set_cons_zero, List.set_cons_succ])
            refine wpAnyH_done (by kernel_rfl) ?_ _
            refine NoPanic.normal ?_
            clear hHeld hNx0 hNx1 hNx2 hNx3 hNy0 hNy1 hNy2 hNy3
            have hszE := hggE.out.size
            replace HQ := hid (HQ.out.keep hggE.out)
            replace HR := hid (HR.out.keep hggE.out)
            replace HG := hid (grown_trans HG.out hggE.out)
            have HT3 : Hid (TmC wE [.bool g3, .slice p3 n3 c3, .slice q3 m3 d3, .slice a1 k1 e1] (xs, su)) := hid ⟨_, _, _, _, _, _, _, _, _, _, rfl, HV3.out, HX1.out.keep hggE.out⟩
            cases bz
            · go_wp2_with fail
              refine ⟨⟨(if ca = 1 then some ⟨ba, oa, none⟩ else some ⟨ba, oa + 4, none⟩), na - 1, ca - 1, PA, (if cb = 1 then some ⟨bb, ob, none⟩ else some ⟨bb, ob + 4, none⟩), nb - 1, cb - 1, PB, pm, nm, cm, rows, R, by first | rfl | go_num, by first | rfl | go_num, rfl, by omega, HG, HTA, HTB, HQ, HR, hid ?_, hid ?_⟩, by simp [lenS]; omega⟩
              · have hsu : v + u = 0 := by
                  obtain ⟨e1, e2⟩ := HSU.out
                  rw [← e1]
                  have : cmpR su 0 = 0 := by simpa using e2.symm
                  exact cmpR_zero.1 this
                rw [← HS.out, addP_eq (by show lexL xs ys = 0; rw [← HZ.out]; exact HZ0.out), if_pos hsu]
              · obtain ⟨e1, e2, e3, e4⟩ := HD.out
                exact ⟨fun t ht => e1 t (by simp [ht]), fun t ht => e2 t (by simp [ht]), fun t ht => e3 t (by simp [ht]), fun t ht => e4 t (by simp [ht])⟩
            · obtain ⟨j0, j1, j2, j3⟩ := box4p HBE.out
              go_wp2_with (with_reducible refine wlq_append _ rfl (.tmp 63) (.tmp 65) 35 rfl 33 4 (.agg #[.bool false, .slice none 0 0, .slice none 0 0, .slice none 0 0]) 80 Tryz.underlying35 infoTm tmZs four_pos tmZn w.heap.size _ _ _ rows rfl (QOwn.keep HQ.out (World.grownBy_alloc _ _ _)) _ 1 _ [[.bool g3, .slice p3 n3 c3, .slice q3 m3 d3, .slice a1 k1 e1]] rfl (one_srd _ _ 4 _ rfl _ (by simp)) (lone (noInt4 _ _ _ _ _ _ _ _ _ _)) (lone (one4 _ _ _ _ _ _ _ _ _ _)) (by omega) (by omega) (by simp; omega) ?_; intro p' c4 w4 hq4 hg4 hat; have HQ4 := hid hq4; have HR4 := hid (RwS.snoc (QOwn.keep HQ.out (World.grownBy_alloc _ _ _)) (RwS.keep HR.out (World.grownBy_alloc _ _ _)) (TmC.keep HT3.out (World.grownBy_alloc _ _ _)) hg4 hat); have HG4 := hid (grown_new (grown_trans HG.out (World.grownBy_alloc _ _ _)) hg4 (fun g e => by cases hpm : pm with | none => (rw [hpm] at e; simp at e) | some q => (rw [hpm] at e; simp at e; have := (HQ.out.lt q hpm).1; omega))); clear hq4 hg4 hat)
              refine ⟨⟨(if ca = 1 then some ⟨ba, oa, none⟩ else some ⟨ba, oa + 4, none⟩), na - 1, ca - 1, PA, (if cb = 1 then some ⟨bb, ob, none⟩ else some ⟨bb, ob + 4, none⟩), nb - 1, cb - 1, PB, p', nm + 1, c4, rows ++ [[.bool g3, .slice p3 n3 c3, .slice q3 m3 d3, .slice a1 k1 e1]], R ++ [(xs, su)], by first | rfl | go_num, by first | rfl | go_num, rfl, by omega, HG4, HTA, HTB, HQ4, HR4, hid ?_, hid ?_⟩, by simp [lenS]; omega⟩
              · have hsu : ¬ (v + u = 0) := by
                  obtain ⟨e1, e2⟩ := HSU.out
                  rw [← e1]
                  intro h
                  rw [h, cmpR_eq] at e2
                  simp at e2
                rw [← HS.out, addP_eq (by show lexL xs ys = 0; rw [← HZ.out]; exact HZ0.out), if_neg hsu, HSU.out.1]
                simp
              · obtain ⟨e1, e2, e3, e4⟩ := HD.out
                exact ⟨fun t ht => e1 t (by simp [ht]), fun t ht => e2 t (by simp [ht]), fun t ht => e3 t (by simp [ht]), fun t ht => e4 t (by simp [ht])⟩
          refine AllReadyH.cons (o := Oper.mk _ _ _ _ _ _) rfl (fun K hK => ?_) AllReadyH.nil
          (try rw [if_pos (by kernel_rfl)])
          go_simp
          have hgS := World.grownBy_alloc wd2 (.cells #[.bool false, .slice none 0 0, .slice none 0 0, .slice none 0 0] 33 (0, 0)) none
          have hb8 := blk0 wd2 (.cells #[.bool false, .slice none 0 0, .slice none 0 0, .slice none 0 0] 33 (0, 0))
          have hleb8 := hgg.size
          replace hgg := grown_trans hgg hgS
          refine hK.out _ _ ?_ (fun hNew => ?_)
          · have hH := hHeld
            (try dsimp only at hH)
            (try dsimp only)
            first | with_reducible exact hH | exact ⟨hgS.cell hH.1 (by simp; try omega), hgS.cell hH.2.1 (by simp; try omega), hgS.cell hH.2.2.1 (by simp; try omega), hgS.cell hH.2.2.2.1 (by simp; try omega), hgS.cell hH.2.2.2.2.1 (by simp; try omega), hgS.cell hH.2.2.2.2.2.1 (by simp; try omega), hgS.cell hH.2.2.2.2.2.2.1 (by simp; try omega), hgS.cell hH.2.2.2.2.2.2.2 (by simp; try omega)⟩
          clear hK K hHeld
          have hHeld := hNew
          clear hNew
          (try simp only [Act.put, List.setIfInBounds_toArray, List.set_cons_zero, List.set_cons_succ])
          generalize wd2.heap.size = b8 at *
          generalize wd2.alloc _ = wy11 at *
          clear hgS
          refine wpAnyH_ready (rs := [7]) (by kernel_rfl) (by simp) ?_
          refine AllReadyH.cons (o := Oper.mk _ _ _ _ _ _) rfl (fun K hK => ?_) AllReadyH.nil
          (try rw [if_pos (by kernel_rfl)])
          go_simp
          go_at_call 138
          refine (HC2.out _ (grown_trans HWR.out hgg)).mono ?_
          rintro e wy12 ⟨g3, p3, n3, c3, q3, m3, d3, rfl, hV3, hgS⟩
          replace hgg := grown_trans hgg hgS
          replace hb8 := keepB hb8 hgS
          refine hK.out _ _ ?_ (fun hNew => ?_)
          · have hH := hHeld
            (try dsimp only at hH)
            (try dsimp only)
            first | with_reducible exact hH | exact ⟨hgS.cell hH.1 (by simp; try omega), hgS.cell hH.2.1 (by simp; try omega), hgS.cell hH.2.2.1 (by simp; try omega), hgS.cell hH.2.2.2.1 (by simp; try omega), hgS.cell hH.2.2.2.2.1 (by simp; try omega), hgS.cell hH.2.2.2.2.2.1 (by simp; try omega), hgS.cell hH.2.2.2.2.2.2.1 (by simp; try omega), hgS.cell hH.2.2.2.2.2.2.2 (by simp; try omega)⟩
          clear hK K hHeld
          have hHeld := hNew
          clear hNew
          (try simp only [Act.put, List.setIfInBounds_toArray, List.set_cons_zero, List.set_cons_succ])
          clear hgS
          refine wpAnyH_take (i := 8) (oi := Oper.mk _ _ _ _ _ _) (v := ?_) rfl (by kernel_rfl) (by kernel_rfl) (by kernel_rfl) (fun _ _ _ h => h) (Or.inl ⟨by kernel_rfl, ?_⟩) hHeld ?_
          rotate_left 1
          · intro W hSw
            (try dsimp only at hSw)
            obtain ⟨h0, h1, h2, h3, h4, h5, h6, h7⟩ := hSw
            go_simp
            (try (with_reducible rfl))
          (try simp only [Act.put, List.setIfInBounds_toArray, List.set_cons_zero, List.set_cons_succ])
          refine wpAnyH_take (i := 9) (oi := Oper.mk _ _ _ _ _ _) (v := ?_) rfl (by kernel_rfl) (by kernel_rfl) (by kernel_rfl) (fun _ _ _ h => h) (Or.inl ⟨by kernel_rfl, ?_⟩) hHeld ?_
          rotate_left 1
          · intro W hSw
            (try dsimp only at hSw)
            obtain ⟨h0, h1, h2, h3, h4, h5, h6, h7⟩ := hSw
            go_simp
            (try (with_reducible rfl))
          (try simp only [Act.put, List.setIfInBounds_toArray, List.set_cons_zero, List.set_cons_succ])
          refine wpAnyH_take (i := 10) (oi := Oper.mk _ _ _ _ _ _) (v := ?_) rfl (by kernel_rfl) (by kernel_rfl) (by kernel_rfl) (fun _ _ _ h => h) (Or.inl ⟨by kernel_rfl, ?_⟩) hHeld ?_
          rotate_left 1
          · intro W hSw
            (try dsimp only at hSw)
            obtain ⟨h0, h1, h2, h3, h4, h5, h6, h7⟩ := hSw
            go_simp
            (try (with_reducible rfl))
          (try simp only [Act.put, List.setIfInBounds_toArray, List.set_cons_zero, List.set_cons_succ])
          refine wpAnyH_ready (rs := [12]) (by kernel_rfl) (by simp) ?_
          refine AllReadyH.cons (o := Oper.mk _ _ _ _ _ _) rfl (fun K hK => ?_) AllReadyH.nil
          (try rw [if_pos (by kernel_rfl)])
          obtain ⟨z0, z1, z2, z3⟩ := box4p hb8
          have zf := fun o => frozen_of_row wy12 b8 o _ _ hb8
          have f0 := zf 0
          have f1 := zf 1
          have f2 := zf 2
          have f3 := zf 3
          have hb8lt := lt_of_block hb8
          go_simp
          have hgS := set4_grown wy12 b8 (.bool g3) (.slice p3 n3 c3) (.slice q3 m3 d3) (.slice a1 k1 e1)
          have hbE := set4 hb8 (.bool g3) (.slice p3 n3 c3) (.slice q3 m3 d3) (.slice a1 k1 e1)
          have HV3 := hid (stay_rat hV3 hbE hgS hb8)
          have hggE := hid (grown_new hgg hgS (fun g e => by cases e; exact hleb8))
          clear z0 z1 z2 z3 zf f0 f1 f2 f3
          refine hK.out _ _ ?_ (fun hNew => ?_)
          · have hH := hHeld
            (try dsimp only at hH)
            (try dsimp only)
            exact ⟨hggE.out.cell hNx0 (by simp), hggE.out.cell hNx1 (by simp), hggE.out.cell hNx2 (by simp), hggE.out.cell hNx3 (by simp), hggE.out.cell hNy0 (by simp), hggE.out.cell hNy1 (by simp), hggE.out.cell hNy2 (by simp), hggE.out.cell hNy3 (by simp)⟩
          clear hK K hHeld
          have hHeld := hNew
          clear hNew
          (try simp only [Act.put, List.setIfInBounds_toArray, List.set_cons_zero, List.set_cons_succ])
          generalize (((wy12.setCell _ _).setCell _ _).setCell _ _).setCell _ _ = wE at *
          have HBE := hid hbE
          clear hgS hb8 hV3 hbE hgg
          refine wpAnyH_ready (rs := [13]) (by kernel_rfl) (by simp) ?_
          refine AllReadyH.cons (o := Oper.mk _ _ _ _ _ _) rfl (fun K hK => ?_) AllReadyH.nil
          (try rw [if_pos (by kernel_rfl)])
          go_simp
          refine hK.out _ _ ?_ (fun hNew => ?_)
          · have hH := hHeld
            (try dsimp only at hH)
            (try dsimp only)
            first | with_reducible exact hH | exact ⟨hgS.cell hH.1 (by simp; try omega), hgS.cell hH.2.1 (by simp; try omega), hgS.cell hH.2.2.1 (by simp; try omega), hgS.cell hH.2.2.2.1 (by simp; try omega), hgS.cell hH.2.2.2.2.1 (by simp; try omega), hgS.cell hH.2.2.2.2.2.1 (by simp; try omega), hgS.cell hH.2.2.2.2.2.2.1 (by simp; try omega), hgS.cell hH.2.2.2.2.2.2.2 (by simp; try omega)⟩
          clear hK K hHeld
          have hHeld := hNew
          clear hNew
          (try simp only [Act.put, List.setIfInBounds_toArray, List.set_cons_zero, List.set_cons_succ])
          refine wpAnyH_done (by kernel_rfl) ?_ _
          refine NoPanic.normal ?_
          clear hHeld hNx0 hNx1 hNx2 hNx3 hNy0 hNy1 hNy2 hNy3
          have hszE := hggE.out.size
          replace HQ := hid (HQ.out.keep hggE.out)
          replace HR := hid (HR.out.keep hggE.out)
          replace HG := hid (grown_trans HG.out hggE.out)
          have HT3 : Hid (TmC wE [.bool g3, .slice p3 n3 c3, .slice q3 m3 d3, .slice a1 k1 e1] (xs, su)) := hid ⟨_, _, _, _, _, _, _, _, _, _, rfl, HV3.out, HX1.out.keep hggE.out⟩
          cases bz
          · go_wp2_with fail
            refine ⟨⟨(if ca = 1 then some ⟨ba, oa, none⟩ else some ⟨ba, oa + 4, none⟩), na - 1, ca - 1, PA, (if cb = 1 then some ⟨bb, ob, none⟩ else some ⟨bb, ob + 4, none⟩), nb - 1, cb - 1, PB, pm, nm, cm, rows, R, by first | rfl | go_num, by first | rfl | go_num, rfl, by omega, HG, HTA, HTB, HQ, HR, hid ?_, hid ?_⟩, by simp [lenS]; omega⟩
            · have hsu : v + u = 0 := by
                obtain ⟨e1, e2⟩ := HSU.out
                rw [← e1]
                have : cmpR su 0 = 0 := by simpa using e2.symm
                exact cmpR_zero.1 this
              rw [← HS.out, addP_eq (by show lexL xs ys = 0; rw [← HZ.out]; exact HZ0.out), if_pos hsu]
            · obtain ⟨e1, e2, e3, e4⟩ := HD.out
              exact ⟨fun t ht => e1 t (by simp [ht]), fun t ht => e2 t (by simp [ht]), fun t ht => e3 t (by simp [ht]), fun t ht => e4 t (by simp [ht])⟩
          · obtain ⟨j0, j1, j2, j3⟩ := box4p HBE.out
            go_wp2_with (with_reducible refine wlq_append _ rfl (.tmp 63) (.tmp 65) 35 rfl 33 4 (.agg #[.bool false, .slice none 0 0, .slice none 0 0, .slice none 0 0]) 80 Tryz.underlying35 infoTm tmZs four_pos tmZn w.heap.size _ _ _ rows rfl (QOwn.keep HQ.out (World.grownBy_alloc _ _ _)) _ 1 _ [[.bool g3, .slice p3 n3 c3, .slice q3 m3 d3, .slice a1 k1 e1]] rfl (one_srd _ _ 4 _ rfl _ (by simp)) (lone (noInt4 _ _ _ _ _ _ _ _ _ _)) (lone (one4 _ _ _ _ _ _ _ _ _ _)) (by omega) (by omega) (by simp; omega) ?_; intro p' c4 w4 hq4 hg4 hat; have HQ4 := hid hq4; have HR4 := hid (RwS.snoc (QOwn.keep HQ.out (World.grownBy_alloc _ _ _)) (RwS.keep HR.out (World.grownBy_alloc _ _ _)) (TmC.keep HT3.out (World.grownBy_alloc _ _ _)) hg4 hat); have HG4 := hid (grown_new (grown_trans HG.out (World.grownBy_alloc _ _ _)) hg4 (fun g e => by cases hpm : pm with | none => (rw [hpm] at e; simp at e) | some q => (rw [hpm] at e; simp at e; have := (HQ.out.lt q hpm).1; omega))); clear hq4 hg4 hat)
            refine ⟨⟨(if ca = 1 then some ⟨ba, oa, none⟩ else some ⟨ba, oa + 4, none⟩), na - 1, ca - 1, PA, (if cb = 1 then some ⟨bb, ob, none⟩ else some ⟨bb, ob + 4, none⟩), nb - 1, cb - 1, PB, p', nm + 1, c4, rows ++ [[.bool g3, .slice p3 n3 c3, .slice q3 m3 d3, .slice a1 k1 e1]], R ++ [(xs, su)], by first | rfl | go_num, by first | rfl | go_num, rfl, by omega, HG4, HTA, HTB, HQ4, HR4, hid ?_, hid ?_⟩, by simp [lenS]; omega⟩
            · have hsu : ¬ (v + u = 0) := by
                obtain ⟨e1, e2⟩ := HSU.out
                rw [← e1]
                intro h
                rw [h, cmpR_eq] at e2
                simp at e2
              rw [← HS.out, addP_eq (by show lexL xs ys = 0; rw [← HZ.out]; exact HZ0.out), if_neg hsu, HSU.out.1]
              simp
            · obtain ⟨e1, e2, e3, e4⟩ := HD.out
              exact ⟨fun t ht => e1 t (by simp [ht]), fun t ht => e2 t (by simp [ht]), fun t ht => e3 t (by simp [ht]), fun t ht => e4 t (by simp [ht])⟩
        · have hy1 : y < 0 := by omega
          have hy3 : y ≤ 0 := by omega
          have hy4 : ¬ 0 ≤ y := by omega
          have HZ0 := hid hz0
          clear hy hz0 hbnd
          go_wp2_with (with_reducible refine wlq_append _ rfl (.tmp 37) (.tmp 41) 35 rfl 33 4 (.agg #[.bool false, .slice none 0 0, .slice none 0 0, .slice none 0 0]) 80 Tryz.underlying35 infoTm tmZs four_pos tmZn w.heap.size _ _ _ rows rfl (QOwn.keep HQ.out (World.grownBy_alloc _ _ _)) _ 1 _ [[.bool g1, .slice p1 n1 c1, .slice q1 m1 d1, .slice a1 k1 e1]] rfl (one_srd _ _ 4 _ rfl _ (by simp)) (lone (noInt4 _ _ _ _ _ _ _ _ _ _)) (lone (one4 _ _ _ _ _ _ _ _ _ _)) (by omega) (by omega) (by simp; omega) ?_; intro p' c4 w4 hq4 hg4 hat; have HQ4 := hid hq4; have HR4 := hid (RwS.snoc (QOwn.keep HQ.out (World.grownBy_alloc _ _ _)) (RwS.keep HR.out (World.grownBy_alloc _ _ _)) (TmC.keep HT1.out (World.grownBy_alloc _ _ _)) hg4 hat); have HG4 := hid (grown_new (grown_trans HG.out (World.grownBy_alloc _ _ _)) hg4 (fun g e => by cases hpm : pm with | none => (rw [hpm] at e; simp at e) | some q => (rw [hpm] at e; simp at e; have := (HQ.out.lt q hpm).1; omega))); clear hq4 hg4 hat)
          refine ⟨⟨(if ca = 1 then some ⟨ba, oa, none⟩ else some ⟨ba, oa + 4, none⟩), na - 1, ca - 1, PA, some ⟨bb, ob, none⟩, nb, cb, (ys, u) :: PB, p', nm + 1, c4, rows ++ [[.bool g1, .slice p1 n1 c1, .slice q1 m1 d1, .slice a1 k1 e1]], R ++ [(xs, v)], by first | rfl | go_num, rfl, rfl, by omega, HG4, HTA, HB, HQ4, HR4, hid ?_, hid ?_⟩, by simp [lenS]; omega⟩
          · rw [← HS.out, addP_gt (by show 0 < lexL xs ys; rw [← HZ.out]; exact HZ0.out)]
            simp
          · obtain ⟨e1, e2, e3, e4⟩ := HD.out
            exact ⟨fun t ht => e1 t (by simp [ht]), e2, fun t ht => e3 t (by simp [ht]), e4⟩
      · have HEND : Hid (PA = [] ∨ PB = []) := hid (by
          first
            | exact .inl (List.eq_nil_of_length_eq_zero (by omega))
            | exact .inr (List.eq_nil_of_length_eq_zero (by omega)))
        obtain ⟨rsA, hsA, hlA, htA⟩ := (HA.out.keep HG.out).rows
        have hnoA := rows_no hlA htA; have h1cA := rows_one hlA htA
        have hna2 : ¬ (0 : Int) < (na : Int) ∨ ¬ (0 : Int) < (nb : Int) := by omega
        clear hna2
        go_wp2_with (first | (with_reducible refine wlq_append _ rfl (.tmp 75) (.tmp 76) 35 rfl 33 4 (.agg #[.bool false, .slice none 0 0, .slice none 0 0, .slice none 0 0]) 80 Tryz.underlying35 infoTm tmZs four_pos tmZn w.heap.size _ _ _ rows rfl HQ.out _ na _ rsA rfl hsA hnoA h1cA (by omega) (by omega) (by omega) ?_; intro p' c4 w4 hq4 hg4 hat; have HQ4 := hid hq4; have HR4 := hid (RwS.many HQ.out HR.out hlA htA hg4 hat); have HG4 := hid (grown_new HG.out hg4 (fun g e => by cases hpm : pm with | none => (rw [hpm] at e; simp at e) | some q => (rw [hpm] at e; simp at e; have := (HQ.out.lt q hpm).1; omega))); have hsz4 := HG4.out.size; obtain ⟨rsB, hsB, hlB, htB⟩ := (HB.out.keep HG4.out).rows; have hnoB := rows_no hlB htB; have h1cB := rows_one hlB htB; clear hq4 hg4 hat) | (with_reducible refine wlq_append _ rfl (.tmp 78) (.tmp 79) 35 rfl 33 4 (.agg #[.bool false, .slice none 0 0, .slice none 0 0, .slice none 0 0]) 80 Tryz.underlying35 infoTm tmZs four_pos tmZn w.heap.size _ _ _ _ rfl HQ4.out _ nb _ rsB rfl hsB hnoB h1cB (by omega) (by omega) (by omega) ?_; intro p6 c6 w6 hq6 hg6 hat6; have HQ6 := hid hq6; have HR6 := hid (RwS.many HQ4.out HR4.out hlB htB hg6 hat6); have HG6 := hid (grown_new HG4.out hg6 (fun g e => by cases hpm : p' with | none => (rw [hpm] at e; simp at e) | some q => (rw [hpm] at e; simp at e; have := (HQ4.out.lt q hpm).1; omega))); clear hq6 hg6 hat6))
        go_ret
        have hfin : R ++ PA ++ PB = addP P Q := by rw [← HS.out, addP_end HEND.out, List.append_assoc]
        exact ⟨_, _, _, rfl, by rw [← hfin]; exact IsP.ofQ HQ6.out HR6.out, HG6.out⟩
    · have HEND : Hid (PA = [] ∨ PB = []) := hid (by
        first
          | exact .inl (List.eq_nil_of_length_eq_zero (by omega))
          | exact .inr (List.eq_nil_of_length_eq_zero (by omega)))
      obtain ⟨rsA, hsA, hlA, htA⟩ := (HA.out.keep HG.out).rows
      have hnoA := rows_no hlA htA; have h1cA := rows_one hlA htA
      have hna2 : ¬ (0 : Int) < (na : Int) ∨ ¬ (0 : Int) < (nb : Int) := by omega
      clear hna2
      go_wp2_with (first | (with_reducible refine wlq_append _ rfl (.tmp 75) (.tmp 76) 35 rfl 33 4 (.agg #[.bool false, .slice none 0 0, .slice none 0 0, .slice none 0 0]) 80 Tryz.underlying35 infoTm tmZs four_pos tmZn w.heap.size _ _ _ rows rfl HQ.out _ na _ rsA rfl hsA hnoA h1cA (by omega) (by omega) (by omega) ?_; intro p' c4 w4 hq4 hg4 hat; have HQ4 := hid hq4; have HR4 := hid (RwS.many HQ.out HR.out hlA htA hg4 hat); have HG4 := hid (grown_new HG.out hg4 (fun g e => by cases hpm : pm with | none => (rw [hpm] at e; simp at e) | some q => (rw [hpm] at e; simp at e; have := (HQ.out.lt q hpm).1; omega))); have hsz4 := HG4.out.size; obtain ⟨rsB, hsB, hlB, htB⟩ := (HB.out.keep HG4.out).rows; have hnoB := rows_no hlB htB; have h1cB := rows_one hlB htB; clear hq4 hg4 hat) | (with_reducible refine wlq_append _ rfl (.tmp 78) (.tmp 79) 35 rfl 33 4 (.agg #[.bool false, .slice none 0 0, .slice none 0 0, .slice none 0 0]) 80 Tryz.underlying35 infoTm tmZs four_pos tmZn w.heap.size _ _ _ _ rfl HQ4.out _ nb _ rsB rfl hsB hnoB h1cB (by omega) (by omega) (by omega) ?_; intro p6 c6 w6 hq6 hg6 hat6; have HQ6 := hid hq6; have HR6 := hid (RwS.many HQ4.out HR4.out hlB htB hg6 hat6); have HG6 := hid (grown_new HG4.out hg6 (fun g e => by cases hpm : p' with | none => (rw [hpm] at e; simp at e) | some q => (rw [hpm] at e; simp at e; have := (HQ4.out.lt q hpm).1; omega))); clear hq6 hg6 hat6))
      go_ret
      have hfin : R ++ PA ++ PB = addP P Q := by rw [← HS.out, addP_end HEND.out, List.append_assoc]
      exact ⟨_, _, _, rfl, by rw [← hfin]; exact IsP.ofQ HQ6.out HR6.out, HG6.out⟩
set_option maxHeartbeats 4000000 in
set_option maxRecDepth 100000 in
theorem sum_v (H : Nat) (B : Int) {w : World} (T : Tb w) {p q : Option Addr} {n c m d : Nat} {P Q : List Tm} (hP : IsP w p n c P) (hQ : IsP w q m d Q) (hH : H ≤ 9000) (bP : BdP H P) (bQ : BdP H Q) (eP : ExP B P) (eQ : ExP B Q) (hB : 0 ≤ B ∧ B ≤ 4294967296) (hn : n + m ≤ 1000000) :
    Calls Tryz.prog 84 #[.slice p n c, .slice q m d] w (PPost w (addP P Q)) := by
  have HM := hid (merge_v H B T hP hQ hH bP bQ eP eQ hB hn)
  unfold PPost at HM
  clear T hP hQ bP bQ eP eQ
  go_enter Tryz.func84, Tryz.ntmps84
  go_wp2_with (go_at_call 137; (with_reducible refine HM.out.mono ?_); rintro e w1 ⟨p1, n1, c1, rfl, hP1, hg⟩; have HP1 := hid hP1; clear hP1)
  go_ret
  exact ⟨p1, n1, c1, rfl, HP1.out, hg⟩
end Go.Proofs.YtknmdmofmcfjhaaGreatDoor

set_option linter.unusedVariables false
set_option linter.unusedSimpArgs false
namespace Nm
/-- the term i -/
def tmI (P : List Tm) (i : Nat) : Tm := P[i]?.getD ([], 0)
theorem tmI_at {P : List Tm} {i : Nat} (hi : i < P.length) : tmI P i = P[i] := by unfold tmI; rw [List.getElem?_eq_getElem hi]; rfl
theorem NF.snoc {p : List Tm} {t : Tm} (h : NF p) (hl : ∀ s, p.getLast? = some s → 0 < lexL s.1 t.1) (h2 : t.2 ≠ 0) (h3 : t.1.getLast? ≠ some 0) : NF (p ++ [t]) := by
  refine ⟨List.pairwise_append.2 ⟨h.desc, by simp, fun a ha b hb => ?_⟩, fun s hs => ?_, fun s hs => ?_⟩
  · rw [List.mem_singleton.1 hb]
    rcases List.eq_nil_or_concat p with rfl | ⟨q, s, rfl⟩
    · cases ha
    · rw [List.concat_eq_append] at h hl ha
      have hs := hl s (by simp)
      rcases List.mem_append.1 ha with ha | ha
      · exact lexL_tr ((List.pairwise_append.1 h.desc).2.2 a ha s (by simp)) hs
      · rw [List.mem_singleton.1 ha]; exact hs
  · rcases List.mem_append.1 hs with hs | hs
    · exact h.nz s hs
    · rw [List.mem_singleton.1 hs]; exact h2
  · rcases List.mem_append.1 hs with hs | hs
    · exact h.last s hs
    · rw [List.mem_singleton.1 hs]; exact h3
/-- what a term adds -/
def normT (t : Tm) : List Tm := if RightZ 1048576 (trimZ t.1) then one (trimZ t.1) t.2 else []
theorem NF.normT (t : Tm) : NF (normT t) := by
  unfold Nm.normT
  split
  · exact NF.one (trimZ_last _)
  · exact .nil
/-- the sum of the terms of a list -/
def normP (P : List Tm) : List Tm := totB (fun i => normT (tmI P i)) 0 P.length
theorem NF.normP (P : List Tm) : NF (normP P) := NF.tot fun i _ _ => NF.normT _
end Nm
