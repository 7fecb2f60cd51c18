/-
  Trees in memory that avoid some blocks: they stay as they are when these blocks are written.
-/
import Derived.Test.YtolpcclobmgneaaEqC
import Derived.Test.YtolpcclobmgneaaAstW
import Derived.Test.YtolpcclobmgneaaSStep
set_option linter.unusedVariables false
set_option linter.unusedSimpArgs false
namespace Go.Proofs.Ytolpcclobmgneaa
open Go.RowKit _root_.Nm
def IRdX (X : Nat → Prop) (w : World) (p : Option Addr) (n c : Nat) (xs : List Nat) : Prop := IRd w .u16 p n c xs ∧ ∀ a, p = some a → 0 < n → ¬ X a.block
theorem IRdX.kept {X : Nat → Prop} {w w' : World} {p : Option Addr} {n c : Nat} {xs : List Nat} (h : IRdX X w p n c xs) {row : Option Nat} (hg : w.grownBy w' row) (hr : ∀ g, row = some g → X g) : IRdX X w' p n c xs := by
  refine ⟨⟨h.1.len, h.1.cap, h.1.max, fun j hj => ?_⟩, h.2⟩
  obtain ⟨b, o, rfl, hc⟩ := h.1.cel j hj
  refine ⟨b, o, rfl, hg.cell hc fun e => ?_⟩
  have hl := h.1.len
  exact h.2 _ rfl (by omega) (hr _ e.symm)
theorem IRdX.more {X X' : Nat → Prop} {w : World} {p : Option Addr} {n c : Nat} {xs : List Nat} (h : IRdX X w p n c xs) (hX : ∀ b, X' b → X b ∨ w.heap.size ≤ b) : IRdX X' w p n c xs := by
  refine ⟨h.1, fun a ha hn hb => ?_⟩
  rcases hX _ hb with h1 | h1
  · exact h.2 a ha hn h1
  · have hl := h.1.len
    obtain ⟨b, o, e, hc⟩ := h.1.cel 0 (by omega)
    rw [ha] at e
    cases e
    have := World.block_lt_of_cell? w _ hc
    simp at this h1
    omega
/-- the tree in memory, none of its memory in the blocks X -/
def ERdX (X : Nat → Prop) (w : World) : Nat → List Value → Tr → Prop
  | 0, _, _ => False
  | m + 1, cs, .node h l => ∃ (pn : Option Addr) (nn cn : Nat) (pd : Option Addr) (nd cd : Nat) (pa : Option Addr) (na ca : Nat),
      cs = [.int .i64 h.k, .string h.nm, .bool h.g, .slice pn nn cn, .slice pd nd cd, .slice pa na ca, .int .i64 h.pos] ∧ IRdX X w pn nn cn h.num ∧ IRdX X w pd nd cd h.den ∧
      (l.length = na ∧ na ≤ ca ∧ ca ≤ 9223372036854775807 ∧ h.nm.size ≤ maxLen) ∧
      ∀ i (hi : i < l.length), ∃ b o cs', pa = some ⟨b, o, none⟩ ∧ ¬ X b ∧ cs'.length = 7 ∧ (∀ j (hj : j < cs'.length), w.cell? ⟨b, o + i * 7 + j, none⟩ = some cs'[j]) ∧ ERdX X w m cs' l[i]
theorem ERdX.erd {X : Nat → Prop} {w : World} : ∀ {m : Nat} {cs : List Value} {t : Tr}, ERdX X w m cs t → ERd w m cs t
  | 0, _, _, h => h.elim
  | m + 1, cs, .node h l, ⟨pn, nn, cn, pd, nd, cd, pa, na, ca, h1, h2, h3, h4, h5⟩ => by
    refine ⟨pn, nn, cn, pd, nd, cd, pa, na, ca, h1, h2.1, h3.1, h4, fun i hi => ?_⟩
    obtain ⟨b, o, cs', k1, _, k2, k3, k4⟩ := h5 i hi
    exact ⟨b, o, cs', k1, k2, k3, k4.erd⟩
theorem ERdX.kept {X : Nat → Prop} {w w' : World} {row : Option Nat} (hg : w.grownBy w' row) (hr : ∀ g, row = some g → X g) : ∀ {m : Nat} {cs : List Value} {t : Tr}, ERdX X w m cs t → ERdX X w' m cs t
  | 0, _, _, h => h.elim
  | m + 1, cs, .node h l, ⟨pn, nn, cn, pd, nd, cd, pa, na, ca, h1, h2, h3, h4, h5⟩ => by
    refine ⟨pn, nn, cn, pd, nd, cd, pa, na, ca, h1, h2.kept hg hr, h3.kept hg hr, h4, fun i hi => ?_⟩
    obtain ⟨b, o, cs', k1, kx, k2, k3, k4⟩ := h5 i hi
    exact ⟨b, o, cs', k1, kx, k2, fun j hj => hg.cell (k3 j hj) (fun e => kx (hr _ e.symm)), k4.kept hg hr⟩
theorem ERdX.keep {X : Nat → Prop} {w w' : World} {m : Nat} {cs : List Value} {t : Tr} (h : ERdX X w m cs t) (hg : w.grownBy w' none) : ERdX X w' m cs t := h.kept hg (fun g e => by cases e)
theorem ERdX.more {X X' : Nat → Prop} {w : World} (hX : ∀ b, X' b → X b ∨ w.heap.size ≤ b) : ∀ {m : Nat} {cs : List Value} {t : Tr}, ERdX X w m cs t → ERdX X' w m cs t
  | 0, _, _, h => h.elim
  | m + 1, cs, .node h l, ⟨pn, nn, cn, pd, nd, cd, pa, na, ca, h1, h2, h3, h4, h5⟩ => by
    refine ⟨pn, nn, cn, pd, nd, cd, pa, na, ca, h1, h2.more hX, h3.more hX, h4, fun i hi => ?_⟩
    obtain ⟨b, o, cs', k1, kx, k2, k3, k4⟩ := h5 i hi
    refine ⟨b, o, cs', k1, fun hb => ?_, k2, k3, k4.more hX⟩
    rcases hX b hb with h | h
    · exact kx h
    · have := World.block_lt_of_cell? w _ (k3 0 (by omega))
      simp at this
      omega
theorem ERd.erdX {w : World} : ∀ {m : Nat} {cs : List Value} {t : Tr}, ERd w m cs t → ERdX (fun _ => False) w m cs t
  | 0, _, _, h => h.elim
  | m + 1, cs, .node h l, ⟨pn, nn, cn, pd, nd, cd, pa, na, ca, h1, h2, h3, h4, h5⟩ => by
    refine ⟨pn, nn, cn, pd, nd, cd, pa, na, ca, h1, ⟨h2, fun _ _ _ h => h⟩, ⟨h3, fun _ _ _ h => h⟩, h4, fun i hi => ?_⟩
    obtain ⟨b, o, cs', k1, k2, k3, k4⟩ := h5 i hi
    exact ⟨b, o, cs', k1, id, k2, k3, k4.erdX⟩
def ARdX (X : Nat → Prop) (w : World) (m : Nat) (pa : Option Addr) (na ca : Nat) (l : List Tr) : Prop :=
  (l.length = na ∧ na ≤ ca ∧ ca ≤ 9223372036854775807) ∧ ∀ i (hi : i < l.length), ∃ b o cs', pa = some ⟨b, o, none⟩ ∧ ¬ X b ∧ cs'.length = 7 ∧ (∀ j (hj : j < cs'.length), w.cell? ⟨b, o + i * 7 + j, none⟩ = some cs'[j]) ∧ ERdX X w m cs' l[i]
theorem ARdX.keep {X : Nat → Prop} {w w' : World} {m : Nat} {pa : Option Addr} {na ca : Nat} {l : List Tr} (hg : w.grownBy w' none) (h : ARdX X w m pa na ca l) : ARdX X w' m pa na ca l := by
  refine ⟨h.1, fun i hi => ?_⟩
  obtain ⟨b, o, cs', k1, kx, k2, k3, k4⟩ := h.2 i hi
  exact ⟨b, o, cs', k1, kx, k2, fun j hj => hg.cell (k3 j hj) (by simp), k4.keep hg⟩
theorem ARdX.more {X X' : Nat → Prop} {w : World} {m : Nat} {pa : Option Addr} {na ca : Nat} {l : List Tr} (hX : ∀ b, X' b → X b ∨ w.heap.size ≤ b) (h : ARdX X w m pa na ca l) : ARdX X' w m pa na ca l := by
  refine ⟨h.1, fun i hi => ?_⟩
  obtain ⟨b, o, cs', k1, kx, k2, k3, k4⟩ := h.2 i hi
  refine ⟨b, o, cs', k1, fun hb => ?_, k2, k3, k4.more hX⟩
  rcases hX b hb with h | h
  · exact kx h
  · have := World.block_lt_of_cell? w _ (k3 0 (by omega))
    simp at this
    omega
theorem ARdX.at {X : Nat → Prop} {w : World} {m : Nat} {pa : Option Addr} {na ca : Nat} {l : List Tr} (h : ARdX X w m pa na ca l) {i : Nat} (hi : i < l.length) :
    ∃ b o e1 e2 e3 p1 n1 c1 p2 n2 c2 p3 n3 c3 e7, pa = some ⟨b, o, none⟩ ∧ ERdX X w m [.int .i64 e1, .string e2, .bool e3, .slice p1 n1 c1, .slice p2 n2 c2, .slice p3 n3 c3, .int .i64 e7] l[i] ∧
      w.cell? ⟨b, o + i * 7, none⟩ = some (.int .i64 e1) ∧ w.cell? ⟨b, o + i * 7 + 1, none⟩ = some (.string e2) ∧ w.cell? ⟨b, o + i * 7 + 2, none⟩ = some (.bool e3) ∧ w.cell? ⟨b, o + i * 7 + 3, none⟩ = some (.slice p1 n1 c1) ∧ w.cell? ⟨b, o + i * 7 + 4, none⟩ = some (.slice p2 n2 c2) ∧ w.cell? ⟨b, o + i * 7 + 5, none⟩ = some (.slice p3 n3 c3) ∧ w.cell? ⟨b, o + i * 7 + 6, none⟩ = some (.int .i64 e7) := by
  obtain ⟨b, o, cs', rfl, _, h7, hc, hE⟩ := h.2 i hi
  obtain ⟨e1, e2, e3, p1, n1, c1, p2, n2, c2, p3, n3, c3, e7, rfl⟩ := hE.erd.shape
  exact ⟨b, o, e1, e2, e3, p1, n1, c1, p2, n2, c2, p3, n3, c3, e7, rfl, hE, hc 0 (by simp), hc 1 (by simp), hc 2 (by simp), hc 3 (by simp), hc 4 (by simp), hc 5 (by simp), hc 6 (by simp)⟩
theorem ARdX.of {X : Nat → Prop} {w : World} {m : Nat} {h : Hd} {l : List Tr} {pa : Option Addr} {na ca : Nat} {k : Int} {nm : ByteArray} {g : Bool} {pn : Option Addr} {nn cn : Nat} {pd : Option Addr} {nd cd : Nat} {pos : Int}
    (hE : ERdX X w (m + 1) [.int .i64 k, .string nm, .bool g, .slice pn nn cn, .slice pd nd cd, .slice pa na ca, .int .i64 pos] (.node h l)) :
    (k = h.k ∧ nm = h.nm ∧ g = h.g ∧ pos = h.pos) ∧ IRdX X w pn nn cn h.num ∧ IRdX X w pd nd cd h.den ∧ ARdX X w m pa na ca l ∧ nm.size ≤ maxLen := by
  obtain ⟨pn', nn', cn', pd', nd', cd', pa', na', ca', h1, h2, h3, h4, h5⟩ := hE
  simp only [List.cons.injEq, Value.int.injEq, true_and, Value.string.injEq, Value.bool.injEq, Value.slice.injEq, and_true] at h1
  obtain ⟨rfl, rfl, rfl, ⟨rfl, rfl, rfl⟩, ⟨rfl, rfl, rfl⟩, ⟨rfl, rfl, rfl⟩, rfl⟩ := h1
  exact ⟨⟨rfl, rfl, rfl, rfl⟩, h2, h3, ⟨⟨h4.1, h4.2.1, h4.2.2.1⟩, h5⟩, h4.2.2.2⟩
theorem ARdX.erdX {X : Nat → Prop} {w : World} {m : Nat} {k : Int} {nm : ByteArray} {g : Bool} {pn : Option Addr} {nn cn : Nat} {pd : Option Addr} {nd cd : Nat} {pa : Option Addr} {na ca : Nat} {pos : Int} {num den : List Nat} {l : List Tr}
    (hn : IRdX X w pn nn cn num) (hd : IRdX X w pd nd cd den) (hA : ARdX X w m pa na ca l) (hs : nm.size ≤ maxLen) :
    ERdX X w (m + 1) [.int .i64 k, .string nm, .bool g, .slice pn nn cn, .slice pd nd cd, .slice pa na ca, .int .i64 pos] (.node ⟨k, nm, g, num, den, pos⟩ l) :=
  ⟨pn, nn, cn, pd, nd, cd, pa, na, ca, rfl, hn, hd, ⟨hA.1.1, hA.1.2.1, hA.1.2.2, hs⟩, hA.2⟩
/-- the rows of a list of trees -/
def RowsE (X : Nat → Prop) (w : World) (m : Nat) (L : List (List Value)) (l : List Tr) : Prop := L.length ≤ l.length ∧ ∀ i (hi : i < L.length) (hi' : i < l.length), ERdX X w m L[i] l[i]
theorem RowsE.kept {X : Nat → Prop} {w w' : World} {m : Nat} {L : List (List Value)} {l : List Tr} (h : RowsE X w m L l) {row : Option Nat} (hg : w.grownBy w' row) (hr : ∀ g, row = some g → X g) : RowsE X w' m L l := ⟨h.1, fun i hi hi' => (h.2 i hi hi').kept hg hr⟩
theorem RowsE.keep {X : Nat → Prop} {w w' : World} {m : Nat} {L : List (List Value)} {l : List Tr} (h : RowsE X w m L l) (hg : w.grownBy w' none) : RowsE X w' m L l := ⟨h.1, fun i hi hi' => (h.2 i hi hi').keep hg⟩
theorem RowsE.more {X X' : Nat → Prop} {w : World} (hX : ∀ b, X' b → X b ∨ w.heap.size ≤ b) {m : Nat} {L : List (List Value)} {l : List Tr} (h : RowsE X w m L l) : RowsE X' w m L l := ⟨h.1, fun i hi hi' => (h.2 i hi hi').more hX⟩
theorem RowsE.snoc {X : Nat → Prop} {w : World} {m : Nat} {L : List (List Value)} {l : List Tr} (h : RowsE X w m L l) {r : List Value} (hk : L.length < l.length) (hr : ERdX X w m r (l[L.length]'hk)) : RowsE X w m (L ++ [r]) l := by
  refine ⟨by simp; omega, fun i hi hi' => ?_⟩
  by_cases hin : i < L.length
  · rw [List.getElem_append_left hin]; exact h.2 i hin hi'
  · have : i = L.length := by simp at hi; omega
    subst this
    rw [List.getElem_append_right (by omega)]
    simpa using hr
theorem RowsE.ard {X X' : Nat → Prop} {w : World} {m base n c : Nat} {p : Option Addr} {L : List (List Value)} {l : List Tr} {e : TypeId} (h : RowsE X' w m L l) (hXX : ∀ b, X b → X' b) (hO : SOwn w base e 7 p n c L) (hl : l.length = n) (hb : ∀ b, X b → b < base) : ARdX X w m p n c l := by
  have hr := hO.rd
  have hLn := hr.len
  refine ⟨⟨hl, hr.cap, hr.max⟩, fun i hi => ?_⟩
  have hlt := hO.lt
  obtain ⟨b, o, rfl, hc⟩ := hr.at (by omega) (i := i) (by omega)
  refine ⟨b, o, _, rfl, fun hx => ?_, hr.each _ (List.getElem_mem (by omega)), hc, (h.2 i (by omega) hi).more fun b hb => .inl (hXX b hb)⟩
  have h1 := hb b hx
  have h2 := (hlt _ rfl).1
  simp at h2
  omega
end Go.Proofs.Ytolpcclobmgneaa
