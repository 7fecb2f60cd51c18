/-
  AbsA AbsB AbsC AbsD AbsE AbsF AbsG AbsH AbsI AbsJ, in one text.
-/
import Derived.Test.YtgbfjneoieadmaaGreatDoorMem
import Derived.LoopN
import Derived.OrdersHeld
import Derived.Laws.Sem
import Derived.Laws.MakeOwn

set_option linter.unusedVariables false
set_option linter.unusedSimpArgs false
namespace Go.Abs
open Go Go.RowKit Nm

/-- a cell that no number's limb is, and that no cell is but itself -/
def okCell : Value → Bool
  | .agg _ => false
  | .tuple _ => false
  | .int .u16 _ => false
  | _ => true

inductive AC where
  | lit (v : Value)
  | sym (i j k : Nat)
  | ptr (b off : Nat)
  | sli (b off n c : Nat)
  | any
inductive AV where
  | any
  | val (a : Bool) (cs : List AC)
  | tup (l : List (Bool × List AC))

/-- where the blocks lie, and what the symbols are -/
structure Env where
  β : Nat → Option Nat
  σ : Nat → Nat → Option (List Value)
def Env.le (E F : Env) : Prop := (∀ i G, E.β i = some G → F.β i = some G) ∧ ∀ i j l, E.σ i j = some l → F.σ i j = some l
theorem Env.le.refl (E : Env) : E.le E := ⟨fun _ _ h => h, fun _ _ _ h => h⟩
theorem Env.le.trans {E F G : Env} (h : E.le F) (k : F.le G) : E.le G := ⟨fun i g e => k.1 i g (h.1 i g e), fun i j l e => k.2 i j l (h.2 i j l e)⟩

/-- two rows, element for element -/
def F2 {α β : Type} (R : α → β → Prop) (l : List α) (m : List β) : Prop := l.length = m.length ∧ ∀ (i : Nat) (a : α) (b : β), l[i]? = some a → m[i]? = some b → R a b
namespace F2
variable {α β : Type} {R R' : α → β → Prop} {l l' : List α} {m m' : List β}
theorem nil : F2 R [] [] := ⟨rfl, fun i a b h => by simp at h⟩
theorem mono (h : F2 R l m) (k : ∀ a b, R a b → R' a b) : F2 R' l m := ⟨h.1, fun i a b h1 h2 => k _ _ (h.2 i a b h1 h2)⟩
theorem cons {a : α} {b : β} (h : R a b) (k : F2 R l m) : F2 R (a :: l) (b :: m) := by
  refine ⟨by simp [k.1], fun i x y h1 h2 => ?_⟩
  cases i with
  | zero => simp at h1 h2; subst h1 h2; exact h
  | succ i => simp at h1 h2; exact k.2 i x y h1 h2
theorem head {a : α} {b : β} (h : F2 R (a :: l) (b :: m)) : R a b := h.2 0 a b rfl rfl
theorem tail {a : α} {b : β} (h : F2 R (a :: l) (b :: m)) : F2 R l m := ⟨by have := h.1; simpa using this, fun i x y h1 h2 => h.2 (i + 1) x y (by simpa using h1) (by simpa using h2)⟩
theorem get (h : F2 R l m) {i : Nat} {a : α} (ha : l[i]? = some a) : ∃ b, m[i]? = some b ∧ R a b := by
  have hi : i < m.length := by rw [← h.1]; exact (List.getElem?_eq_some_iff.1 ha).1
  exact ⟨m[i], by simp [hi], h.2 i a _ ha (by simp [hi])⟩
theorem take (h : F2 R l m) (n : Nat) : F2 R (l.take n) (m.take n) := by
  refine ⟨by simp [h.1], fun i a b h1 h2 => ?_⟩
  rw [List.getElem?_take] at h1 h2
  split at h1
  · rw [if_pos ‹_›] at h2; exact h.2 i a b h1 h2
  · cases h1
theorem drop (h : F2 R l m) (n : Nat) : F2 R (l.drop n) (m.drop n) := by
  refine ⟨by simp [h.1], fun i a b h1 h2 => ?_⟩
  rw [List.getElem?_drop] at h1 h2
  exact h.2 _ a b h1 h2
theorem set (h : F2 R l m) (n : Nat) {a : α} {b : β} (k : R a b) : F2 R (l.set n a) (m.set n b) := by
  refine ⟨by simp [h.1], fun i x y h1 h2 => ?_⟩
  rw [List.getElem?_set] at h1 h2
  by_cases e : n = i
  · rw [if_pos e] at h1 h2
    split at h1
    · rw [if_pos (by rw [← h.1]; assumption)] at h2
      cases h1; cases h2; exact k
    · cases h1
  · rw [if_neg e] at h1 h2
    exact h.2 i x y h1 h2
theorem append (h : F2 R l m) (k : F2 R l' m') : F2 R (l ++ l') (m ++ m') := by
  refine ⟨by simp [h.1, k.1], fun i x y h1 h2 => ?_⟩
  by_cases e : i < l.length
  · rw [List.getElem?_append_left e] at h1
    rw [List.getElem?_append_left (by rw [← h.1]; exact e)] at h2
    exact h.2 i x y h1 h2
  · rw [List.getElem?_append_right (by omega)] at h1
    rw [List.getElem?_append_right (by rw [← h.1]; omega), ← h.1] at h2
    exact k.2 _ x y h1 h2
theorem snoc (h : F2 R l m) {a : α} {b : β} (k : R a b) : F2 R (l ++ [a]) (m ++ [b]) := h.append (cons k nil)
theorem map_left {γ : Type} {f : γ → α} {k : List γ} (h : F2 (fun a b => R (f a) b) k m) : F2 R (k.map f) m := by
  refine ⟨by simp [h.1], fun i x y h1 h2 => ?_⟩
  simp at h1
  obtain ⟨c, hc, rfl⟩ := h1
  exact h.2 i c y hc h2
end F2

def setMany {α : Type} (l : List α) (o : Nat) : List α → List α
  | [] => l
  | v :: vs => setMany (l.set o v) (o + 1) vs
theorem setMany_length {α : Type} : ∀ (vs l : List α) (o : Nat), (setMany l o vs).length = l.length
  | [], _, _ => rfl
  | v :: vs, l, o => by simp [setMany, setMany_length vs]
theorem F2.setMany {α β : Type} {R : α → β → Prop} : ∀ {vs : List α} {us : List β} {l : List α} {m : List β} (o : Nat), F2 R l m → F2 R vs us → F2 R (setMany l o vs) (setMany m o us)
  | [], [], _, _, _, h, _ => h
  | v :: vs, u :: us, l, m, o, h, k => F2.setMany (o + 1) (h.set o k.head) k.tail
  | [], _ :: _, _, _, _, _, k => by have := k.1; simp at this
  | _ :: _, [], _, _, _, _, k => by have := k.1; simp at this

def AC.rel (E : Env) : AC → Value → Prop
  | .lit v, u => u = v ∧ okCell u = true
  | .sym i j k, u => (∃ l, E.σ i j = some l ∧ l[k]? = some u) ∧ okCell u = true
  | .ptr b off, u => ∃ G, E.β b = some G ∧ u = .pointer (some ⟨G, off, none⟩)
  | .sli b off n c, u => ∃ G, E.β b = some G ∧ u = .slice (some ⟨G, off, none⟩) n c
  | .any, u => okCell u = true
theorem AC.rel.ok {E : Env} {c : AC} {u : Value} (h : c.rel E u) : okCell u = true := by
  cases c with
  | lit v => exact h.2
  | sym i j k => exact h.2
  | ptr b off => obtain ⟨G, _, rfl⟩ := h; rfl
  | sli b off n c => obtain ⟨G, _, rfl⟩ := h; rfl
  | any => exact h
theorem AC.rel.mono {E F : Env} {c : AC} {u : Value} (h : c.rel E u) (k : E.le F) : c.rel F u := by
  cases c with
  | lit v => exact h
  | sym i j n => obtain ⟨⟨l, h1, h2⟩, h3⟩ := h; exact ⟨⟨l, k.2 _ _ _ h1, h2⟩, h3⟩
  | ptr b off => obtain ⟨G, h1, h2⟩ := h; exact ⟨G, k.1 _ _ h1, h2⟩
  | sli b off n c => obtain ⟨G, h1, h2⟩ := h; exact ⟨G, k.1 _ _ h1, h2⟩
  | any => exact h
abbrev rels (E : Env) : List AC → List Value → Prop := F2 (AC.rel E)
def orel (E : Env) : Bool × List AC → Value → Prop
  | (true, cs), u => ∃ vs : List Value, u = .agg vs.toArray ∧ rels E cs vs
  | (false, cs), u => ∃ c, cs = [c] ∧ c.rel E u
theorem orel.mono {E F : Env} {x : Bool × List AC} {u : Value} (h : orel E x u) (k : E.le F) : orel F x u := by
  obtain ⟨a, cs⟩ := x
  cases a with
  | true => obtain ⟨vs, h1, h2⟩ := h; exact ⟨vs, h1, h2.mono fun _ _ h => h.mono k⟩
  | false => obtain ⟨c, h1, h2⟩ := h; exact ⟨c, h1, h2.mono k⟩
def AV.rel (E : Env) : AV → Value → Prop
  | .any, _ => True
  | .val a cs, u => orel E (a, cs) u
  | .tup l, u => ∃ vs : List Value, u = .tuple vs.toArray ∧ F2 (orel E) l vs
theorem AV.rel.mono {E F : Env} {x : AV} {u : Value} (h : x.rel E u) (k : E.le F) : x.rel F u := by
  cases x with
  | any => trivial
  | val a cs => exact orel.mono h k
  | tup l => obtain ⟨vs, h1, h2⟩ := h; exact ⟨vs, h1, h2.mono fun _ _ h => h.mono k⟩

/-- the cells of a value -/
def AV.cells? : AV → Option (List AC)
  | .val true cs => some cs
  | .val false (c :: []) => some [c]
  | _ => none
theorem cells_of_ok {u : Value} (h : okCell u = true) : u.cells = #[u] := by cases u <;> first | rfl | (simp [okCell] at h)
theorem AV.cells?_rel {E : Env} {x : AV} {u : Value} {cs : List AC} (h : x.rel E u) (k : x.cells? = some cs) : rels E cs u.cells.toList := by
  match x, k with
  | .val true l, k =>
    simp [AV.cells?] at k; subst k
    obtain ⟨vs, rfl, h2⟩ := h
    simpa [Value.cells] using h2
  | .val false [c], k =>
    simp [AV.cells?] at k; subst k
    obtain ⟨d, h1, h2⟩ := h
    cases h1
    rw [cells_of_ok h2.ok]
    exact F2.cons h2 F2.nil

/-- what is known of a literal -/
def ofV : Value → AV
  | .agg cs => if cs.toList.all okCell then .val true (cs.toList.map .lit) else .any
  | .tuple _ => .any
  | v => if okCell v then .val false [.lit v] else .any
theorem lits_rel (E : Env) : ∀ {l : List Value}, l.all okCell = true → rels E (l.map .lit) l := by
  intro l h
  refine ⟨by simp, fun i c v h1 h2 => ?_⟩
  simp [h2] at h1
  subst h1
  exact ⟨rfl, List.all_eq_true.1 h v (List.mem_of_getElem? h2)⟩
theorem ofV_rel (E : Env) (v : Value) : (ofV v).rel E v := by
  cases v with
  | agg cs =>
    show AV.rel E (if cs.toList.all okCell then .val true (cs.toList.map .lit) else .any) (.agg cs)
    by_cases h : cs.toList.all okCell = true
    · rw [if_pos h]; exact ⟨cs.toList, by simp, lits_rel E h⟩
    · rw [if_neg h]; trivial
  | tuple _ => trivial
  | int k n =>
    show AV.rel E (if okCell (.int k n) then .val false [.lit (.int k n)] else .any) (.int k n)
    by_cases h : okCell (.int k n) = true
    · rw [if_pos h]; exact ⟨_, rfl, rfl, h⟩
    · rw [if_neg h]; trivial
  | _ => exact ⟨_, rfl, rfl, rfl⟩
def litsOf : List AC → Option (List Value)
  | [] => some []
  | .lit v :: cs => (litsOf cs).map (v :: ·)
  | _ :: _ => none
theorem litsOf_rel {E : Env} : ∀ {cs : List AC} {vs us : List Value}, litsOf cs = some vs → rels E cs us → us = vs
  | [], vs, us, h, k => by
    simp [litsOf] at h; subst h
    exact List.eq_nil_of_length_eq_zero (by have := k.1; simpa using this.symm)
  | .lit v :: cs, vs, [], h, k => by have := k.1; simp at this
  | .lit v :: cs, vs, u :: us, h, k => by
    simp [litsOf] at h
    obtain ⟨ws, hw, rfl⟩ := h
    rw [litsOf_rel hw k.tail, k.head.1]
  | .sym _ _ _ :: _, _, _, h, _ => by simp [litsOf] at h
  | .ptr _ _ :: _, _, _, h, _ => by simp [litsOf] at h
  | .sli _ _ _ _ :: _, _, _, h, _ => by simp [litsOf] at h
  | .any :: _, _, _, h, _ => by simp [litsOf] at h
def toV : AV → Option Value
  | .val false [.lit v] => some v
  | .val true cs => (litsOf cs).map fun vs => .agg vs.toArray
  | _ => none
theorem toV_rel {E : Env} {x : AV} {u v : Value} (h : toV x = some v) (k : x.rel E u) : u = v := by
  match x, h with
  | .val false [.lit v'], h => simp [toV] at h; subst h; obtain ⟨c, h1, h2⟩ := k; cases h1; exact h2.1
  | .val true cs, h =>
    simp [toV] at h
    obtain ⟨vs, h1, rfl⟩ := h
    obtain ⟨us, rfl, h2⟩ := k
    rw [litsOf_rel h1 h2]

/-- a run that asks only the program -/
def pr {α : Type} (P : Program) : Sem α → Option α
  | .pure a => some a
  | .program k => pr P (k P)
  | _ => none
theorem pr_run {α : Type} {P : Program} {s : Sem α} {a : α} (h : pr P s = some a) (w : World) : s.run P w = .ok a w := by
  induction s with
  | pure b => simp [pr] at h; subst h; rfl
  | program k ih => exact ih P h
  | _ => simp [pr] at h
end Go.Abs

set_option linter.unusedVariables false
set_option linter.unusedSimpArgs false
namespace Go.Abs
open Go Go.RowKit Nm

/-- what is said of memory: the kinds of symbols; they stay when memory grows, and when a block without limbs is written -/
structure Dom where
  K : Type
  den : K → World → List Value → Prop
  glob : World → Prop
  globKeep : ∀ {w w' : World}, glob w → w.grownBy w' none → glob w'
  keep : ∀ {k : K} {w w' : World} {vs : List Value}, den k w vs → w.grownBy w' none → den k w' vs
  keepB : ∀ {k : K} {w w' : World} {vs cs : List Value} {G : Nat} {T : TypeId}, den k w vs → w.heap[G]? = some (.cells cs.toArray T (0, 0)) → (∀ v ∈ cs, okCell v = true) → w.grownBy w' (some G) → den k w' vs

structure Blk where
  ty : TypeId
  cells : List AC
/-- what is known: slots, blocks, symbols; from which number on blocks are one's own -/
structure Vw (K : Type) where
  sl : Nat → AV
  bl : Nat → Option Blk
  sy : Nat → Nat → Option K
  ob : Nat
structure OpR (K : Type) where
  out : AV
  newb : Option Blk := none
  stb : Option (Nat × Blk) := none
  news : List K := []

def Row (E : Env) (w : World) (i : Nat) (B : Blk) : Prop := ∃ (G : Nat) (vs : List Value), E.β i = some G ∧ w.heap[G]? = some (.cells vs.toArray B.ty (0, 0)) ∧ rels E B.cells vs
structure Fits (E : Env) (w0 w : World) (ob : Nat) : Prop where
  inj : ∀ i j G, E.β i = some G → E.β j = some G → i = j
  low : ∀ i G, E.β i = some G → G < w.heap.size
  own : ∀ i G, ob ≤ i → E.β i = some G → w0.heap.size ≤ G
structure VInv (D : Dom) (V : Vw D.K) (E : Env) (w0 : World) (a : Act) (w : World) : Prop where
  sl : ∀ t, V.sl t = .any ∨ ∃ v, a.tmps[t]? = some v ∧ (V.sl t).rel E v
  df : a.defers = []
  bl : ∀ i B, V.bl i = some B → Row E w i B
  sy : ∀ i m k, V.sy i m = some k → ∃ vs, E.σ i m = some vs ∧ D.den k w vs
  fits : Fits E w0 w V.ob
  grown : w0.grownBy w none

def aeval {K : Type} (V : Vw K) : Operand → AV
  | .tmp t => V.sl t
  | .const v => ofV v
  | _ => .any
theorem aeval_rel {D : Dom} {V : Vw D.K} {E : Env} {w0 w : World} {a : Act} (h : VInv D V E w0 a w) (x : Operand) : (aeval V x).rel E (a.eval x) := by
  cases x with
  | tmp t =>
    rcases h.sl t with e | ⟨v, h1, h2⟩
    · show (V.sl t).rel E _
      rw [e]; trivial
    · show (V.sl t).rel E (a.tmps.getD t undef)
      rw [Array.getD_eq_getD_getElem?, h1]; exact h2
  | const v => exact ofV_rel E v
  | _ => trivial

/-- what an operation leaves -/
structure Out (D : Dom) (E : Env) (w0 w : World) (ob nid : Nat) (r : OpR D.K) (E' : Env) (w' : World) (v : Value) : Prop where
  le : E.le E'
  only : ∀ i, i ≠ nid → E'.β i = E.β i ∧ ∀ m, E'.σ i m = E.σ i m
  fits : Fits E' w0 w' ob
  grown : w0.grownBy w' none
  out : r.out.rel E' v
  newb : ∀ B, r.newb = some B → Row E' w' nid B
  stb : ∀ b B, r.stb = some (b, B) → Row E' w' b B
  old : ∀ i B, (∀ b B', r.stb = some (b, B') → i ≠ b) → Row E w i B → Row E' w' i B
  news : ∀ m k, r.news[m]? = some k → ∃ vs, E'.σ nid m = some vs ∧ D.den k w' vs
  syms : ∀ k vs, D.den k w vs → D.den k w' vs

def New (E : Env) (nid : Nat) : Prop := E.β nid = none ∧ ∀ m, E.σ nid m = none
def Env.addB (E : Env) (nid G : Nat) : Env := { E with β := fun i => if i = nid then some G else E.β i }
def Env.addS (E : Env) (nid : Nat) (l : List (List Value)) : Env := { E with σ := fun i m => if i = nid then l[m]? else E.σ i m }
theorem Env.le_addB {E : Env} {nid G : Nat} (h : New E nid) : E.le (E.addB nid G) := by
  refine ⟨fun i g e => ?_, fun _ _ _ e => e⟩
  show (if i = nid then _ else _) = _
  rw [if_neg (fun e' => by rw [e', h.1] at e; cases e)]; exact e
theorem Env.le_addS {E : Env} {nid : Nat} {l : List (List Value)} (h : New E nid) : E.le (E.addS nid l) := by
  refine ⟨fun _ _ e => e, fun i m l e => ?_⟩
  show (if i = nid then _ else _) = _
  rw [if_neg (fun e' => by rw [e', h.2] at e; cases e)]; exact e

section
variable {D : Dom} {V : Vw D.K} {E : Env} {w0 w : World} {a : Act} {nid : Nat}
theorem Row.mono {E F : Env} {w w' : World} {i : Nat} {B : Blk} (h : Row E w i B) (k : E.le F) (hg : w.grownBy w' none) : Row F w' i B := by
  obtain ⟨G, vs, h1, h2, h3⟩ := h
  exact ⟨G, vs, k.1 _ _ h1, (hg.block G (lt_of_block h2) (by simp)).trans h2, h3.mono fun _ _ h => h.mono k⟩
/-- nothing but a value -/
theorem out_val (h : VInv D V E w0 a w) {out : AV} {v : Value} (hv : out.rel E v) : Out D E w0 w V.ob nid { out := out } E w v :=
  ⟨.refl E, fun _ _ => ⟨rfl, fun _ => rfl⟩, h.fits, h.grown, hv, fun _ e => (by cases e), fun _ _ e => (by cases e), fun _ _ _ h => h, fun _ _ e => (by simp at e), fun _ _ h => h⟩
/-- a new block -/
theorem out_new (h : VInv D V E w0 a w) (hn : New E nid) {cs : List AC} {vs : List Value} (hc : rels E cs vs) (T : TypeId) (out : AV) (v : Value) (ho : out.rel (E.addB nid w.heap.size) v) :
    Out D E w0 w V.ob nid { out := out, newb := some ⟨T, cs⟩ } (E.addB nid w.heap.size) (w.alloc (.cells vs.toArray T)) v := by
  have hA := World.grownBy_alloc w (.cells vs.toArray T) none
  have hle := Env.le_addB (G := w.heap.size) hn
  have hsz : (w.alloc (.cells vs.toArray T)).heap.size = w.heap.size + 1 := by simp [go_sem]
  refine ⟨hle, fun i hi => ⟨if_neg hi, fun _ => rfl⟩, ⟨?_, ?_, ?_⟩, grown_trans h.grown hA, ho, ?_, fun _ _ e => (by cases e), fun i B _ hr => hr.mono hle hA, fun _ _ e => (by simp at e), fun _ _ hk => D.keep hk hA⟩
  · intro i j G h1 h2
    change (if i = nid then _ else _) = _ at h1
    change (if j = nid then _ else _) = _ at h2
    split at h1 <;> split at h2
    · omega
    · cases h1; have := h.fits.low _ _ h2; omega
    · cases h2; have := h.fits.low _ _ h1; omega
    · exact h.fits.inj _ _ _ h1 h2
  · intro i G h1
    change (if i = nid then _ else _) = _ at h1
    split at h1
    · cases h1; omega
    · have := h.fits.low _ _ h1; omega
  · intro i G ho h1
    change (if i = nid then _ else _) = _ at h1
    split at h1
    · cases h1; exact h.grown.size
    · exact h.fits.own _ _ ho h1
  · intro B e
    cases e
    exact ⟨w.heap.size, vs, if_pos rfl, heap_alloc_new w _, hc.mono fun _ _ h => h.mono hle⟩
end
end Go.Abs

set_option linter.unusedVariables false
set_option linter.unusedSimpArgs false
namespace Go.Abs
open Go Go.RowKit Nm

theorem row_cell {w : World} {G : Nat} {vs : List Value} {T : TypeId} (h : w.heap[G]? = some (.cells vs.toArray T (0, 0))) (o : Nat) : w.cell? ⟨G, o, none⟩ = vs[o]? := by
  rw [cell_of_row w G o _ _ _ h]; simp
theorem add_eq (G o n : Nat) : (⟨G, o, none⟩ : Addr).add n = ⟨G, o + n, none⟩ := by
  unfold Addr.add
  split
  · next h => subst h; rfl
  · rfl
theorem run_loadCellsFrom {P : Program} {w : World} {G : Nat} {vs : List Value} {T : TypeId} (h : w.heap[G]? = some (.cells vs.toArray T (0, 0))) (o : Nat) :
    ∀ (n i : Nat) (acc : Array Value), o + i + n ≤ vs.length → (loadCellsFrom ⟨G, o, none⟩ i n acc).run P w = .ok (acc ++ ((vs.drop (o + i)).take n).toArray) w
  | 0, i, acc, _ => by simp [loadCellsFrom, Sem.run_pure]
  | n + 1, i, acc, hn => by
    have hlt : o + i < vs.length := by omega
    have hc : w.cell? ((⟨G, o, none⟩ : Addr).add i) = some vs[o + i] := by rw [add_eq, row_cell h]; simp [hlt]
    have ih := run_loadCellsFrom (P := P) h o n (i + 1) (acc.push vs[o + i]) (by omega)
    have hl : (load ((⟨G, o, none⟩ : Addr).add i)).run P w = .ok vs[o + i] w := by simp [load, Sem.run, hc]
    simp only [loadCellsFrom, Sem.run_bind, hl, Result.andThen_ok]
    rw [ih, List.drop_eq_getElem_cons hlt, List.take_succ_cons]
    congr 1
    rw [← Nat.add_assoc]
    simp
theorem run_loadVar_agg {P : Program} {w : World} {G : Nat} {vs : List Value} {T t : TypeId} (h : w.heap[G]? = some (.cells vs.toArray T (0, 0))) {o n : Nat} (ha : pr P (isAgg t) = some true) (hs : pr P (sizeOf t) = some n) (hn : o + n ≤ vs.length) :
    (loadVar t ⟨G, o, none⟩).run P w = .ok (.agg ((vs.drop o).take n).toArray) w := by
  have := run_loadCellsFrom (P := P) h o n 0 #[] (by omega)
  simp only [loadVar, Sem.run_bind, pr_run ha, Result.andThen_ok, if_true, pr_run hs, loadCells, this, Sem.run_pure]
  simp
theorem run_loadVar_one {P : Program} {w : World} {G : Nat} {vs : List Value} {T t : TypeId} (h : w.heap[G]? = some (.cells vs.toArray T (0, 0))) {o : Nat} {v : Value} (ha : pr P (isAgg t) = some false) (hv : vs[o]? = some v) :
    (loadVar t ⟨G, o, none⟩).run P w = .ok v w := by
  have hc : w.cell? ⟨G, o, none⟩ = some v := by rw [row_cell h]; exact hv
  simp [loadVar, Sem.run_bind, pr_run ha, load, Sem.run, hc]
theorem run_storeCells {P : Program} {G : Nat} {T : TypeId} (o : Nat) :
    ∀ (us : List Value) (i : Nat) (w : World) (vs : List Value), w.heap[G]? = some (.cells vs.toArray T (0, 0)) → (∀ u ∈ us, okCell u = true) → o + i + us.length ≤ vs.length →
      ∃ w', (storeCells ⟨G, o, none⟩ us i).run P w = .ok () w' ∧ w'.heap[G]? = some (.cells (setMany vs (o + i) us).toArray T (0, 0)) ∧ w.grownBy w' (some G)
  | [], i, w, vs, h, _, _ => ⟨w, by simp [storeCells, Sem.run_pure], h, grown_refl _ _⟩
  | u :: us, i, w, vs, h, hok, hn => by
    simp at hn
    have hlt : o + i < vs.length := by omega
    have hc : w.cell? ⟨G, o + i, none⟩ = some vs[o + i] := by rw [row_cell h]; simp [hlt]
    have hf : w.frozen? ⟨G, o + i, none⟩ = false := frozen_of_row w G (o + i) _ _ h
    have h2 := heap_setCell_same w G (o + i) _ _ u h
    have hu := hok u (by simp)
    have e : (vs.toArray.setIfInBounds (o + i) u) = (vs.set (o + i) u).toArray := by simp
    rw [e] at h2
    obtain ⟨w', r1, r2, r3⟩ := run_storeCells (P := P) o us (i + 1) (w.setCell ⟨G, o + i, none⟩ u) (vs.set (o + i) u) h2 (fun x hx => hok x (by simp [hx])) (by simp; omega)
    refine ⟨w', ?_, ?_, grown_trans (grown_setCell w ⟨G, o + i, none⟩ u) r3⟩
    · have hs : (store ((⟨G, o, none⟩ : Addr).add i) u).run P w = .ok () (w.setCell ⟨G, o + i, none⟩ u) := by
        rw [add_eq]
        cases u <;> first | (simp [okCell] at hu; done) | simp [store, Sem.run, hc, hf]
      simp only [storeCells, Sem.run_bind, hs, Result.andThen_ok]
      exact r1
    · rw [r2]; rw [setMany, Nat.add_assoc]
theorem run_storeVar {P : Program} {G : Nat} {T t : TypeId} {w : World} {vs : List Value} {u : Value} {o n : Nat} (h : w.heap[G]? = some (.cells vs.toArray T (0, 0))) (hok : ∀ x ∈ u.cells.toList, okCell x = true) (hs : pr P (sizeOf t) = some n) (hu : u.cells.toList.length = n) (hn : o + n ≤ vs.length) :
    ∃ w', (storeVar t ⟨G, o, none⟩ u).run P w = .ok () w' ∧ w'.heap[G]? = some (.cells (setMany vs o u.cells.toList).toArray T (0, 0)) ∧ w.grownBy w' (some G) := by
  obtain ⟨w', r1, r2, r3⟩ := run_storeCells (P := P) (T := T) o u.cells.toList 0 w vs h hok (by omega)
  refine ⟨w', ?_, r2, r3⟩
  have hz : ¬ (u.cells.size ≠ n) := by simpa using hu
  simp only [storeVar, Sem.run_bind, pr_run hs, Result.andThen_ok, hz, if_false]
  exact r1
theorem rels_ok {E : Env} {cs : List AC} {vs : List Value} (h : rels E cs vs) : ∀ v ∈ vs, okCell v = true := by
  intro v hv
  obtain ⟨i, hi⟩ := List.mem_iff_getElem?.1 hv
  have hl : i < cs.length := by rw [h.1]; exact (List.getElem?_eq_some_iff.1 hi).1
  exact (h.2 i cs[i] v (by simp [hl]) hi).ok

section
variable {D : Dom} {V : Vw D.K} {E : Env} {w0 w : World} {a : Act} {nid : Nat}
/-- a store into a block of one's own -/
theorem out_store (h : VInv D V E w0 a w) {b : Nat} (hob : V.ob ≤ b) {B : Blk} {us : List Value} {cs : List AC} {o G : Nat} {vs : List Value} {w' : World}
    (hG : E.β b = some G) (hw : w.heap[G]? = some (.cells vs.toArray B.ty (0, 0))) (hB : rels E B.cells vs) (hu : rels E cs us)
    (hw' : w'.heap[G]? = some (.cells (setMany vs o us).toArray B.ty (0, 0))) (hg : w.grownBy w' (some G)) (v : Value) :
    Out D E w0 w V.ob nid { out := .any, stb := some (b, ⟨B.ty, setMany B.cells o cs⟩) } E w' v := by
  have hlow := h.fits.own b G hob hG
  refine ⟨.refl E, fun _ _ => ⟨rfl, fun _ => rfl⟩, ⟨h.fits.inj, fun i g e => ?_, h.fits.own⟩, grown_new h.grown hg (fun g e => by cases e; exact hlow), trivial, fun _ e => (by cases e), ?_, ?_, fun _ _ e => (by simp at e), fun k l hk => D.keepB hk hw (rels_ok hB) hg⟩
  · have := h.fits.low i g e; have := hg.size; omega
  · intro b' B' e
    cases e
    exact ⟨G, _, hG, hw', hB.setMany o hu⟩
  · rintro i B' hne ⟨g, us', h1, h2, h3⟩
    have hig : g ≠ G := fun e => by subst e; exact hne b _ rfl (h.fits.inj _ _ _ h1 hG)
    exact ⟨g, us', h1, (hg.block g (lt_of_block h2) (by simp [hig])).trans h2, h3⟩
end
end Go.Abs

set_option linter.unusedVariables false
set_option linter.unusedSimpArgs false
namespace Go.Abs
open Go Go.RowKit Nm

def chk (b : Bool) : Option Unit := match b with | true => some () | false => none
theorem chk_some {b : Bool} {u : Unit} : chk b = some u ↔ b = true := by cases b <;> simp [chk]
def ptr? : AV → Option (Nat × Nat)
  | .val false [.ptr b o] => some (b, o)
  | _ => none
theorem ptr?_rel {E : Env} {x : AV} {u : Value} {b o : Nat} (h : ptr? x = some (b, o)) (k : x.rel E u) : ∃ G, E.β b = some G ∧ u = .pointer (some ⟨G, o, none⟩) := by
  match x, h with
  | .val false [.ptr b' o'], h =>
    simp [ptr?] at h
    obtain ⟨rfl, rfl⟩ := h
    obtain ⟨c, h1, h2⟩ := k
    cases h1; exact h2
def sli? : AV → Option (Nat × Nat × Nat × Nat)
  | .val false [.sli b o n c] => some (b, o, n, c)
  | _ => none
theorem sli?_rel {E : Env} {x : AV} {u : Value} {b o n c : Nat} (h : sli? x = some (b, o, n, c)) (k : x.rel E u) : ∃ G, E.β b = some G ∧ u = .slice (some ⟨G, o, none⟩) n c := by
  match x, h with
  | .val false [.sli b' o' n' c'], h =>
    simp [sli?] at h
    obtain ⟨rfl, rfl, rfl, rfl⟩ := h
    obtain ⟨c, h1, h2⟩ := k
    cases h1; exact h2
def nat? (x : AV) : Option Nat := match toV x with
  | some (.int _ (.ofNat n)) => some n
  | _ => none
theorem nat?_rel {E : Env} {x : AV} {u : Value} {n : Nat} (h : nat? x = some n) (k : x.rel E u) : ∃ kd, u = .int kd (n : Int) := by
  unfold nat? at h
  split at h
  · next kd m e => cases h; exact ⟨kd, toV_rel e k⟩
  · cases h
def bool? (x : AV) : Option Bool := match toV x with
  | some (.bool b) => some b
  | _ => none
theorem bool?_rel {E : Env} {x : AV} {u : Value} {b : Bool} (h : bool? x = some b) (k : x.rel E u) : u = .bool b := by
  unfold bool? at h
  split at h
  · next e => cases h; exact toV_rel e k
  · cases h
def agg? : AV → Option (List AC)
  | .val true cs => some cs
  | _ => none
theorem agg?_rel {E : Env} {x : AV} {u : Value} {cs : List AC} (h : agg? x = some cs) (k : x.rel E u) : ∃ vs : List Value, u = .agg vs.toArray ∧ rels E cs vs := by
  match x, h with
  | .val true l, h => simp [agg?] at h; subst h; exact k

/-- a part of a row: cells from o on, of the type t -/
def aPart (P : Program) (t : TypeId) (cs : List AC) (o : Nat) : Option AV := do
  match ← pr P (isAgg t) with
  | true => do
    let n ← pr P (sizeOf t)
    chk (Nat.ble (o + n) cs.length)
    some (.val true ((cs.drop o).take n))
  | false => do
    let c ← cs[o]?
    some (.val false [c])
theorem aPart_load {P : Program} {t T : TypeId} {cs : List AC} {o G : Nat} {out : AV} {E : Env} {w : World} {vs : List Value} (h : aPart P t cs o = some out) (hw : w.heap[G]? = some (.cells vs.toArray T (0, 0))) (hr : rels E cs vs) :
    ∃ v, (loadVar t ⟨G, o, none⟩).run P w = .ok v w ∧ out.rel E v := by
  simp only [aPart, Option.bind_eq_bind, Option.bind_eq_some_iff] at h
  obtain ⟨ag, hag, h⟩ := h
  cases ag with
  | true =>
    simp only [Option.bind_eq_some_iff] at h
    obtain ⟨n, hn, u, hc, h⟩ := h
    rw [chk_some] at hc
    have hc := Nat.le_of_ble_eq_true hc
    cases h
    exact ⟨_, run_loadVar_agg hw hag hn (by rw [← hr.1]; exact hc), _, rfl, (hr.drop o).take n⟩
  | false =>
    simp only [Option.bind_eq_some_iff] at h
    obtain ⟨c, hc, h⟩ := h
    cases h
    obtain ⟨v, hv, hcv⟩ := hr.get hc
    exact ⟨v, run_loadVar_one hw hag hv, c, rfl, hcv⟩
theorem aPart_part {P : Program} {t : TypeId} {cs : List AC} {o : Nat} {out : AV} {E : Env} {w : World} {vs : List Value} (h : aPart P t cs o = some out) (hr : rels E cs vs) :
    ∃ v, (part t vs.toArray o).run P w = .ok v w ∧ out.rel E v := by
  simp only [aPart, Option.bind_eq_bind, Option.bind_eq_some_iff] at h
  obtain ⟨ag, hag, h⟩ := h
  cases ag with
  | true =>
    simp only [Option.bind_eq_some_iff] at h
    obtain ⟨n, hn, u, hc, h⟩ := h
    cases h
    refine ⟨.agg ((vs.drop o).take n).toArray, ?_, _, rfl, (hr.drop o).take n⟩
    simp only [part, Sem.run_bind, pr_run hag, Result.andThen_ok, if_true, pr_run hn, Sem.run_pure]
    congr 2
    simp [List.extract_eq_take_drop]
  | false =>
    simp only [Option.bind_eq_some_iff] at h
    obtain ⟨c, hc, h⟩ := h
    cases h
    obtain ⟨v, hv, hcv⟩ := hr.get hc
    refine ⟨v, ?_, c, rfl, hcv⟩
    simp [part, Sem.run_bind, pr_run hag, hv, Sem.run_pure]

section
variable {K : Type}
def aLoad (P : Program) (V : Vw K) (t : TypeId) (x : Operand) : Option AV := do
  let (b, o) ← ptr? (aeval V x)
  let B ← V.bl b
  aPart P t B.cells o
def aStore (P : Program) (V : Vw K) (t : TypeId) (x y : Operand) : Option (Nat × Blk) := do
  let (b, o) ← ptr? (aeval V x)
  let B ← V.bl b
  let cs ← (aeval V y).cells?
  let n ← pr P (sizeOf t)
  chk (Nat.ble V.ob b && (Nat.beq cs.length n && Nat.ble (o + n) B.cells.length))
  some (b, ⟨B.ty, setMany B.cells o cs⟩)
def fieldOf (P : Program) (s : TypeId) (f : Nat) : Option Field := do
  match ← pr P (underlying s) with
  | .struct fs => fs[f]?
  | _ => none
def aFieldAddr (P : Program) (V : Vw K) (s : TypeId) (x : Operand) (f : Nat) : Option AV := do
  let (b, o) ← ptr? (aeval V x)
  let fl ← fieldOf P s f
  let n ← pr P (sizeOf fl.type)
  chk (Nat.blt 0 n)
  some (.val false [.ptr b (o + fl.offset)])
def aField (P : Program) (V : Vw K) (s : TypeId) (x : Operand) (f : Nat) : Option AV := do
  let cs ← agg? (aeval V x)
  let fl ← fieldOf P s f
  aPart P fl.type cs fl.offset
def aIndexAddr (P : Program) (V : Vw K) (t : TypeId) (x i : Operand) : Option AV := do
  let n ← nat? (aeval V i)
  match ← pr P (underlying t) with
  | .array len e => do
    let (b, o) ← ptr? (aeval V x)
    let z ← pr P (sizeOf e)
    chk (Nat.blt n len)
    some (.val false [.ptr b (o + n * z)])
  | .slice e => do
    let (b, o, len, _) ← sli? (aeval V x)
    let z ← pr P (sizeOf e)
    chk (Nat.blt n len)
    some (.val false [.ptr b (o + n * z)])
  | _ => none
def aIndex (P : Program) (V : Vw K) (t : TypeId) (x i : Operand) : Option AV := do
  let n ← nat? (aeval V i)
  match ← pr P (underlying t) with
  | .array len e => do
    let cs ← agg? (aeval V x)
    let z ← pr P (sizeOf e)
    chk (Nat.blt n len)
    aPart P e cs (n * z)
  | _ => none
def aExtract (V : Vw K) (x : Operand) (i : Nat) : Option AV :=
  match aeval V x with
  | .tup l => match l[i]? with
    | some (a, cs) => some (.val a cs)
    | none => none
  | _ => none
def aPure (P : Program) (V : Vw K) (o : Oper) : Option AV := do
  chk (o.op.operands.toList.all fun x => (toV (aeval V x)).isSome)
  match ← pr P (execOp (fun x => (toV (aeval V x)).getD undef) o) with
  | .value v => some (ofV v)
  | _ => none
def aLen (P : Program) (V : Vw K) (c : Call) : Option AV := do
  let t ← c.argTypes[0]?
  match ← pr P (underlying t) with
  | .slice _ => do
    let x ← c.args[0]?
    match sli? (aeval V x), toV (aeval V x) with
    | some (_, _, n, _), _ => some (.val false [.lit (goInt n)])
    | _, some (.slice _ n _) => some (.val false [.lit (goInt n)])
    | _, _ => none
  | _ => none
end

section
variable {P : Program} {D : Dom} {V : Vw D.K} {E : Env} {w0 w : World} {a : Act} {out : AV}
theorem aLoad_run (h : VInv D V E w0 a w) {t : TypeId} {x : Operand} (k : aLoad P V t x = some out) : ∃ v, (Instr.loadAt t (a.eval x)).run P w = .ok v w ∧ out.rel E v := by
  simp only [aLoad, Option.bind_eq_bind, Option.bind_eq_some_iff] at k
  obtain ⟨⟨b, o⟩, h1, B, h2, h3⟩ := k
  obtain ⟨G, g1, g2⟩ := ptr?_rel h1 (aeval_rel h x)
  obtain ⟨G', vs, e1, e2, e3⟩ := h.bl b B h2
  rw [g1] at e1; cases e1
  obtain ⟨v, r1, r2⟩ := aPart_load h3 e2 e3
  exact ⟨v, by simp only [g2, Instr.loadAt, Instr.sureAddr, Sem.run_bind, Sem.run_pure, Result.andThen_ok, r1], r2⟩
theorem aStore_run (h : VInv D V E w0 a w) {nid : Nat} {t : TypeId} {x y : Operand} {b : Nat} {B' : Blk} (k : aStore P V t x y = some (b, B')) :
    ∃ w', (Instr.storeAt t (a.eval x) (a.eval y)).run P w = .ok () w' ∧ ∀ v, Out D E w0 w V.ob nid { out := .any, stb := some (b, B') } E w' v := by
  simp only [aStore, Option.bind_eq_bind, Option.bind_eq_some_iff] at k
  obtain ⟨⟨b', o⟩, h1, B, h2, cs, h3, n, h4, u, h5, h6⟩ := k
  cases h6
  rw [chk_some, Bool.and_eq_true, Bool.and_eq_true] at h5
  have hob := Nat.le_of_ble_eq_true h5.1
  have hl := Nat.eq_of_beq_eq_true h5.2.1
  have hb := Nat.le_of_ble_eq_true h5.2.2
  obtain ⟨G, g1, g2⟩ := ptr?_rel h1 (aeval_rel h x)
  obtain ⟨G', vs, e1, e2, e3⟩ := h.bl _ B h2
  rw [g1] at e1; cases e1
  have hu := AV.cells?_rel (aeval_rel h y) h3
  obtain ⟨w', r1, r2, r3⟩ := run_storeVar (P := P) (t := t) (u := a.eval y) (o := o) e2 (rels_ok hu) h4 (by rw [← hu.1]; exact hl) (by rw [← e3.1]; exact hb)
  exact ⟨w', by simp only [g2, Instr.storeAt, Instr.sureAddr, Sem.run_bind, Sem.run_pure, Result.andThen_ok, r1], fun v => out_store h hob g1 e2 e3 hu r2 r3 v⟩
theorem fieldOf_run {s : TypeId} {f : Nat} {fl : Field} (k : fieldOf P s f = some fl) : ∃ fs : Array Field, pr P (underlying s) = some (.struct fs) ∧ fs[f]? = some fl := by
  simp only [fieldOf, Option.bind_eq_bind, Option.bind_eq_some_iff] at k
  obtain ⟨d, hd, k⟩ := k
  split at k
  · exact ⟨_, hd, k⟩
  · cases k
theorem aFieldAddr_run (h : VInv D V E w0 a w) {s : TypeId} {x : Operand} {f : Nat} (k : aFieldAddr P V s x f = some out) : ∃ v, (Instr.fieldAt s (a.eval x) f).run P w = .ok v w ∧ out.rel E v := by
  simp only [aFieldAddr, Option.bind_eq_bind, Option.bind_eq_some_iff] at k
  obtain ⟨⟨b, o⟩, h1, fl, h2, n, h3, u, h4, h5⟩ := k
  cases h5
  rw [chk_some] at h4
  have hn : ¬ n = 0 := by have := Nat.le_of_ble_eq_true h4; omega
  obtain ⟨G, g1, g2⟩ := ptr?_rel h1 (aeval_rel h x)
  obtain ⟨fs, f1, f2⟩ := fieldOf_run h2
  refine ⟨.pointer (some ⟨G, o + fl.offset, none⟩), ?_, _, rfl, G, g1, rfl⟩
  simp only [g2, Instr.fieldAt, Sem.run_bind, pr_run f1, Result.andThen_ok, f2, Instr.sureAddr, Sem.run_pure, fieldPlace, pr_run h3, hn, if_false, add_eq]
theorem aField_run (h : VInv D V E w0 a w) {s : TypeId} {x : Operand} {f : Nat} (k : aField P V s x f = some out) : ∃ v, (Instr.field s (a.eval x) f).run P w = .ok v w ∧ out.rel E v := by
  simp only [aField, Option.bind_eq_bind, Option.bind_eq_some_iff] at k
  obtain ⟨cs, h1, fl, h2, h3⟩ := k
  obtain ⟨vs, g2, g3⟩ := agg?_rel h1 (aeval_rel h x)
  obtain ⟨fs, f1, f2⟩ := fieldOf_run h2
  obtain ⟨v, r1, r2⟩ := aPart_part (w := w) h3 g3
  exact ⟨v, by simp only [g2, Instr.field, Sem.run_bind, pr_run f1, Result.andThen_ok, f2, asAgg, Sem.run_pure, r1], r2⟩
theorem aIndexAddr_run (h : VInv D V E w0 a w) {t : TypeId} {x i : Operand} (k : aIndexAddr P V t x i = some out) : ∃ v, (Instr.indexAt t (a.eval x) (a.eval i)).run P w = .ok v w ∧ out.rel E v := by
  simp only [aIndexAddr, Option.bind_eq_bind, Option.bind_eq_some_iff] at k
  obtain ⟨n, h1, d, h2, k⟩ := k
  obtain ⟨kd, g⟩ := nat?_rel h1 (aeval_rel h i)
  split at k
  · next len e =>
    simp only [Option.bind_eq_some_iff] at k
    obtain ⟨⟨b, o⟩, h3, z, h4, u, h5, h6⟩ := k
    cases h6
    rw [chk_some] at h5
    have hn : n < len := Nat.le_of_ble_eq_true h5
    obtain ⟨G, g1, g2⟩ := ptr?_rel h3 (aeval_rel h x)
    refine ⟨.pointer (some ⟨G, o + n * z, none⟩), ?_, _, rfl, G, g1, rfl⟩
    have hb : (0 : Int) ≤ (n : Int) ∧ (n : Int) < (len : Int) := by omega
    simp only [g, g2, Instr.indexAt, asIntOf, Sem.run_bind, Sem.run_pure, Result.andThen_ok, pr_run h2, Instr.sureAddr, hb, and_self, if_true, pr_run h4, add_eq, Int.toNat_natCast]
  · next e =>
    simp only [Option.bind_eq_some_iff] at k
    obtain ⟨⟨b, o, len, c⟩, h3, z, h4, u, h5, h6⟩ := k
    cases h6
    rw [chk_some] at h5
    have hn : n < len := Nat.le_of_ble_eq_true h5
    obtain ⟨G, g1, g2⟩ := sli?_rel h3 (aeval_rel h x)
    refine ⟨.pointer (some ⟨G, o + n * z, none⟩), ?_, _, rfl, G, g1, rfl⟩
    have hb : (0 : Int) ≤ (n : Int) ∧ (n : Int) < (len : Int) := by omega
    simp only [g, g2, Instr.indexAt, asIntOf, Sem.run_bind, Sem.run_pure, Result.andThen_ok, pr_run h2, hb, and_self, if_true, pr_run h4, add_eq, Int.toNat_natCast]
  · cases k
theorem aIndex_run (h : VInv D V E w0 a w) {t : TypeId} {x i : Operand} (k : aIndex P V t x i = some out) : ∃ v, (Instr.index t (a.eval x) (a.eval i)).run P w = .ok v w ∧ out.rel E v := by
  simp only [aIndex, Option.bind_eq_bind, Option.bind_eq_some_iff] at k
  obtain ⟨n, h1, d, h2, k⟩ := k
  obtain ⟨kd, g⟩ := nat?_rel h1 (aeval_rel h i)
  split at k
  · next len e =>
    simp only [Option.bind_eq_some_iff] at k
    obtain ⟨cs, h3, z, h4, u, h5, h6⟩ := k
    rw [chk_some] at h5
    have hn : n < len := Nat.le_of_ble_eq_true h5
    obtain ⟨vs, g2, g3⟩ := agg?_rel h3 (aeval_rel h x)
    obtain ⟨v, r1, r2⟩ := aPart_part (w := w) h6 g3
    refine ⟨v, ?_, r2⟩
    have hb : (0 : Int) ≤ (n : Int) ∧ (n : Int) < (len : Int) := by omega
    simp only [g, g2, Instr.index, asIntOf, Sem.run_bind, Sem.run_pure, Result.andThen_ok, pr_run h2, hb, and_self, if_true, pr_run h4, Int.toNat_natCast, r1]
  · cases k
theorem aExtract_run (h : VInv D V E w0 a w) {x : Operand} {i : Nat} (k : aExtract V x i = some out) : ∃ v, (Instr.extract (a.eval x) i).run P w = .ok v w ∧ out.rel E v := by
  have hx := aeval_rel h x
  unfold aExtract at k
  split at k
  · next l e =>
    rw [e] at hx
    obtain ⟨vs, h1, h2⟩ := hx
    split at k
    · next ag cs hl =>
      cases k
      obtain ⟨v, hv, hr⟩ := h2.get hl
      exact ⟨v, by simp [h1, Instr.extract, hv, Sem.run_pure], hr⟩
    · cases k
  · cases k
theorem aPure_run (h : VInv D V E w0 a w) {o : Oper} (hs : ∀ cs b, o.op ≠ .select cs b) (k : aPure P V o = some out) : ∃ v, (execOp a.eval o).run P w = .ok (.value v) w ∧ out.rel E v := by
  simp only [aPure, Option.bind_eq_bind, Option.bind_eq_some_iff] at k
  obtain ⟨u, h1, x, h2, k⟩ := k
  rw [chk_some, List.all_eq_true] at h1
  have hc : execOp a.eval o = execOp (fun x => (toV (aeval V x)).getD undef) o := by
    refine execOp_congr o hs fun x hx => ?_
    have := h1 x (Array.mem_toList_iff.2 hx)
    obtain ⟨v, hv⟩ := Option.isSome_iff_exists.1 this
    show a.eval x = (toV (aeval V x)).getD undef
    rw [hv, toV_rel hv (aeval_rel h x)]; rfl
  split at k
  · next v =>
    cases k
    exact ⟨v, by rw [hc]; exact pr_run h2 w, ofV_rel E v⟩
  · cases k
end
end Go.Abs

set_option linter.unusedVariables false
set_option linter.unusedSimpArgs false
namespace Go.Abs
open Go Go.RowKit Nm

/-- what a call yields: its value, the symbols that it makes, and a block of its own that the value may point into -/
structure Res (K : Type) where
  out : AV
  news : List K := []
  nb : Option Blk := none
/-- what a call of a function yields: its arguments, the symbols' kinds, the number that its own symbols get, a number that is free from there on -/
abbrev Ctr (K : Type) := FuncId → List AV → (Nat → Nat → Option K) → (Nat → Option Blk) → Nat → Nat → Option (Res K)
def News (D : Dom) (news : List D.K) (w' : World) (l : List (List Value)) : Prop := ∀ (m : Nat) (k : D.K), news[m]? = some k → ∃ vs, l[m]? = some vs ∧ D.den k w' vs
def FnOK (D : Dom) (P : Program) (f : FuncId) (args : List AV) (sy : Nat → Nat → Option D.K) (bl : Nat → Option Blk) (nid fr : Nat) (r : Res D.K) : Prop :=
  (∀ xs w, (callFunc f xs).run P w = .ok (.enter f xs) w) ∧
  ∀ (E : Env) (w : World) (vals : List Value), F2 (AV.rel E) args vals → (∀ i m k, sy i m = some k → ∃ vs, E.σ i m = some vs ∧ D.den k w vs) → New E nid → (∀ i, fr ≤ i → New E i) → D.glob w → (∀ i B, bl i = some B → Row E w i B) → (∀ i j G, E.β i = some G → E.β j = some G → i = j) → (∀ i G, E.β i = some G → G < w.heap.size) →
    Calls P f vals.toArray w fun e w' => w.grownBy w' none ∧ ∃ (l : List (List Value)) (v : Value), e = .returned v ∧ (∀ (m : Nat) (k : D.K), r.news[m]? = some k → ∃ vs, l[m]? = some vs ∧ D.den k w' vs) ∧
      ((r.nb = none ∧ r.out.rel (E.addS nid l) v) ∨ ∃ (G : Nat) (B : Blk), r.nb = some B ∧ w.heap.size ≤ G ∧ r.out.rel ((E.addB nid G).addS nid l) v ∧ Row ((E.addB nid G).addS nid l) w' nid B)
def CtrOK (D : Dom) (P : Program) (ctr : Ctr D.K) : Prop := ∀ f args sy bl nid fr r, ctr f args sy bl nid fr = some r → FnOK D P f args sy bl nid fr r

section
variable {K : Type}
/-- cells that a literal with named parts has: those of the zero value, some of them replaced -/
def aFill (place : Nat → Option (Nat × Nat)) (cells : List AC) : List (Nat × AV) → Option (List AC)
  | [] => some cells
  | (i, v) :: rest => do
    let (off, size) ← place i
    let cs ← v.cells?
    chk (Nat.beq cs.length size && Nat.ble (off + size) cells.length)
    aFill place (setMany cells off cs) rest
def zeroCells (P : Program) (t : TypeId) : Option (List AC) := do
  let z ← pr P (zeroValue t)
  chk (z.cells.toList.all okCell)
  some (z.cells.toList.map .lit)
def repeatL {α : Type} (cs : List α) : Nat → List α
  | 0 => []
  | n + 1 => cs ++ repeatL cs n
def places (P : Program) (fs : List Field) : Option (List (Nat × Nat)) :=
  match fs with
  | [] => some []
  | f :: fs => do
    let n ← pr P (sizeOf f.type)
    let l ← places P fs
    some ((f.offset, n) :: l)
def aBuild (P : Program) (V : Vw K) (t : TypeId) (parts : List (Nat × Operand)) : Option AV := do
  let z ← zeroCells P t
  match ← pr P (underlying t) with
  | .struct fs => do
    let ps ← places P fs.toList
    let cs ← aFill (ps[·]?) z (parts.map fun p => (p.1, aeval V p.2))
    some (.val true cs)
  | .array _ e => do
    let n ← pr P (sizeOf e)
    let cs ← aFill (fun i => some (i * n, n)) z (parts.map fun p => (p.1, aeval V p.2))
    some (.val true cs)
  | _ => none
def aBuildSlice (P : Program) (V : Vw K) (nid : Nat) (t : TypeId) (len : Nat) (parts : List (Nat × Operand)) : Option (OpR K) := do
  match ← pr P (underlying t) with
  | .slice e => do
    let n ← pr P (sizeOf e)
    chk (Nat.ble (len * n) 16777216 && Nat.blt 0 (len * n))
    let z ← zeroCells P e
    chk (Nat.beq z.length n)
    let cs ← aFill (fun i => some (i * n, n)) (repeatL z len) (parts.map fun p => (p.1, aeval V p.2))
    some { out := .val false [.sli nid 0 len len], newb := some ⟨e, cs⟩ }
  | _ => none
def natLit (x : AV) : Option Nat := match toV x with
  | some (.int .i64 (.ofNat n)) => some n
  | _ => none
def aMake (P : Program) (V : Vw K) (nid : Nat) (t : TypeId) (x y : Operand) : Option (OpR K) := do
  let n ← natLit (aeval V x)
  let m ← natLit (aeval V y)
  chk (Nat.beq n m && Nat.ble n 1000)
  match P.underlying t with
  | some (.slice e) => do
    let i ← P.info? e
    let z ← i.zero
    chk (Nat.ble i.bytes 100000 && (Nat.blt 0 i.size && (Nat.beq z.cells.size i.size && z.cells.toList.all okCell)))
    some { out := .val false [.sli nid 0 n n], newb := some ⟨e, repeatL (z.cells.toList.map .lit) n⟩ }
  | _ => none
/-- the whole of an array as a slice -/
def aSlice (P : Program) (V : Vw K) (t : TypeId) (x : Operand) : Option Operand → Option Operand → Option Operand → Option AV
  | none, none, none => do
    let (b, o) ← ptr? (aeval V x)
    match ← pr P (underlying t) with
    | .array n e => do
      let _ ← pr P (sizeOf e)
      some (.val false [.sli b o n n])
    | _ => none
  | _, _, _ => none
def aCall (P : Program) (ctr : Ctr K) (V : Vw K) (nid fr : Nat) (c : Call) : Option (OpR K) :=
  match c.callee with
  | .value (.func f) => do
    let r ← ctr f (c.args.toList.map (aeval V)) V.sy V.bl nid fr
    some { out := r.out, news := r.news, newb := r.nb }
  | .builtin .len => (aLen P V c).map fun x => { out := x }
  | _ => none
def pickA (b : Bool) (x y : AV) : AV := match b with | true => x | false => y
def aop (P : Program) (ctr : Ctr K) (V : Vw K) (nid fr : Nat) (o : Oper) : Option (OpR K) :=
  match o.op with
  | .move x => some { out := aeval V x }
  | .assign x => some { out := aeval V x }
  | .pick c x y => (bool? (aeval V c)).map fun b => { out := pickA b (aeval V x) (aeval V y) }
  | .alloc e => (zeroCells P e).map fun cs => { out := .val false [.ptr nid 0], newb := some ⟨e, cs⟩ }
  | .box e x => (aeval V x).cells?.map fun cs => { out := .val false [.ptr nid 0], newb := some ⟨e, cs⟩ }
  | .build t ps => (aBuild P V t ps.toList).map fun x => { out := x }
  | .buildSlice t n ps => aBuildSlice P V nid t n ps.toList
  | .makeSlice t x y => aMake P V nid t x y
  | .slice t x lo hi mx => (aSlice P V t x lo hi mx).map fun y => { out := y }
  | .load t x => (aLoad P V t x).map fun y => { out := y }
  | .store t x y => (aStore P V t x y).map fun s => { out := .any, stb := some s }
  | .fieldAddr s x f => (aFieldAddr P V s x f).map fun y => { out := y }
  | .field s x f => (aField P V s x f).map fun y => { out := y }
  | .indexAddr t x i => (aIndexAddr P V t x i).map fun y => { out := y }
  | .index t x i => (aIndex P V t x i).map fun y => { out := y }
  | .extract x i => (aExtract V x i).map fun y => { out := y }
  | .binOp .. => (aPure P V o).map fun y => { out := y }
  | .unOp .. => (aPure P V o).map fun y => { out := y }
  | .convert .. => (aPure P V o).map fun y => { out := y }
  | .call c => aCall P ctr V nid fr c
  | _ => none
end

theorem fold_set : ∀ (us : List Value) (k : Nat) (off : Nat) (cs : Array Value), (us.zipIdx k).foldl (fun cs (x : Value × Nat) => cs.setIfInBounds (off + x.2) x.1) cs = (setMany cs.toList (off + k) us).toArray
  | [], k, off, cs => by simp [setMany]
  | u :: us, k, off, cs => by
    rw [List.zipIdx_cons, List.foldl_cons, fold_set us (k + 1) off]
    simp [setMany, Nat.add_assoc]
theorem aFill_run {E : Env} {place : Nat → Option (Nat × Nat)} : ∀ {parts : List (Nat × AV)} {us : List (Nat × Value)} {cells cs : List AC} {vs : List Value}, aFill place cells parts = some cs → rels E cells vs → F2 (fun (p : Nat × AV) (u : Nat × Value) => p.1 = u.1 ∧ p.2.rel E u.2) parts us →
    ∃ ws : List Value, Instr.fill place vs.toArray us = some ws.toArray ∧ rels E cs ws
  | [], [], cells, cs, vs, h, k, _ => by simp [aFill] at h; subst h; exact ⟨vs, rfl, k⟩
  | [], _ :: _, _, _, _, _, _, m => by have := m.1; simp at this
  | _ :: _, [], _, _, _, _, _, m => by have := m.1; simp at this
  | (i, x) :: parts, (j, u) :: us, cells, cs, vs, h, k, m => by
    obtain ⟨e, hr⟩ := m.head
    simp only at e hr
    subst e
    simp only [aFill, Option.bind_eq_bind, Option.bind_eq_some_iff] at h
    obtain ⟨⟨off, size⟩, h1, cs1, h2, _, h3, h4⟩ := h
    rw [chk_some, Bool.and_eq_true] at h3
    have hl := Nat.eq_of_beq_eq_true h3.1
    have hb := Nat.le_of_ble_eq_true h3.2
    have hu := AV.cells?_rel hr h2
    obtain ⟨ws, r1, r2⟩ := aFill_run h4 (k.setMany off hu) m.tail
    refine ⟨ws, ?_, r2⟩
    have hs : u.cells.size = size := by have := hu.1; simp at this; omega
    have hsz : vs.length = cells.length := k.1.symm
    have hno : ¬ ((u.cells.size ≠ size || off + u.cells.size > vs.toArray.size) = true) := by simp; omega
    unfold Instr.fill
    simp only [h1]
    rw [if_neg hno, ← r1]
    congr 1
    have := fold_set u.cells.toList 0 off vs.toArray
    rw [← Array.foldl_toList, Array.toList_zipIdx]
    simpa using this
theorem zeroCells_run {P : Program} {t : TypeId} {cs : List AC} (h : zeroCells P t = some cs) : ∃ z, pr P (zeroValue t) = some z ∧ ∀ E, rels E cs z.cells.toList := by
  simp only [zeroCells, Option.bind_eq_bind, Option.bind_eq_some_iff] at h
  obtain ⟨z, h1, _, h2, h3⟩ := h
  cases h3
  rw [chk_some] at h2
  exact ⟨z, h1, fun E => lits_rel E h2⟩
theorem places_run {P : Program} : ∀ {fs : List Field} {l : List (Nat × Nat)}, places P fs = some l → ∀ w, (fs.mapM fun f => (do pure (f.offset, ← sizeOf f.type) : Sem (Nat × Nat))).run P w = .ok l w
  | [], l, h, w => by simp [places] at h; subst h; simp [Sem.run_pure]
  | f :: fs, l, h, w => by
    simp only [places, Option.bind_eq_bind, Option.bind_eq_some_iff] at h
    obtain ⟨n, h1, m, h2, h3⟩ := h
    cases h3
    simp only [List.mapM_cons, Sem.run_bind, pr_run h1, Result.andThen_ok, Sem.run_pure, places_run h2]
theorem repeatL_length {α : Type} (cs : List α) : ∀ n, (repeatL cs n).length = n * cs.length
  | 0 => by simp [repeatL]
  | n + 1 => by simp [repeatL, repeatL_length cs n, Nat.add_mul, Nat.add_comm]
theorem repeatL_get {α : Type} (cs : List α) : ∀ (n i : Nat), i < n * cs.length → (repeatL cs n)[i]? = cs[i % cs.length]?
  | 0, i, h => by simp at h
  | n + 1, i, h => by
    simp only [repeatL]
    by_cases hi : i < cs.length
    · rw [List.getElem?_append_left hi, Nat.mod_eq_of_lt hi]
    · rw [List.getElem?_append_right (by omega), repeatL_get cs n _ (by rw [Nat.add_mul] at h; omega)]
      rw [Nat.mod_eq_sub_mod (by omega : i ≥ cs.length)]
theorem F2.repeatL {α β : Type} {R : α → β → Prop} {l : List α} {m : List β} (h : F2 R l m) : ∀ n, F2 R (repeatL l n) (repeatL m n)
  | 0 => F2.nil
  | n + 1 => h.append (F2.repeatL h n)
theorem range_repeat (zero : Array Value) (len : Nat) (h0 : 0 < zero.size) : (Array.range (len * zero.size)).map (fun i => zero[i % zero.size]!) = (repeatL zero.toList len).toArray := by
  apply Array.ext'
  apply List.ext_getElem?
  intro i
  by_cases hi : i < len * zero.size
  · have e := repeatL_get zero.toList len i (by simpa using hi)
    have hm : i % zero.size < zero.size := Nat.mod_lt _ h0
    simp only [Array.length_toList] at e
    rw [List.toList_toArray, e]
    simp [hi, hm]
  · have hl := repeatL_length zero.toList len
    rw [List.toList_toArray, List.getElem?_eq_none (by simp; omega), List.getElem?_eq_none (by rw [hl]; simp; omega)]

section
variable {P : Program} {D : Dom} {V : Vw D.K} {E : Env} {w0 w : World} {a : Act} {out : AV} {nid fr : Nat}
theorem parts_rel (h : VInv D V E w0 a w) (ps : Array (Nat × Operand)) : F2 (fun (p : Nat × AV) (u : Nat × Value) => p.1 = u.1 ∧ p.2.rel E u.2) (ps.toList.map fun p => (p.1, aeval V p.2)) (ps.map fun (i, x) => (i, a.eval x)).toList := by
  refine ⟨by simp, fun i p u h1 h2 => ?_⟩
  simp at h1 h2
  obtain ⟨j, x, hx, rfl⟩ := h1
  obtain ⟨j', x', hx', rfl⟩ := h2
  rw [hx] at hx'; cases hx'
  exact ⟨rfl, aeval_rel h x⟩
theorem aBuild_run (h : VInv D V E w0 a w) {t : TypeId} {ps : Array (Nat × Operand)} (k : aBuild P V t ps.toList = some out) : ∃ v, (Instr.build t (ps.map fun (i, x) => (i, a.eval x))).run P w = .ok v w ∧ out.rel E v := by
  simp only [aBuild, Option.bind_eq_bind, Option.bind_eq_some_iff] at k
  obtain ⟨z, h1, d, h2, k⟩ := k
  obtain ⟨zv, z1, z2⟩ := zeroCells_run h1
  have hz := z2 E
  have hp := parts_rel h ps
  split at k
  · next fs =>
    simp only [Option.bind_eq_some_iff] at k
    obtain ⟨l, h3, cs, h4, h5⟩ := k
    cases h5
    obtain ⟨ws, r1, r2⟩ := aFill_run h4 hz hp
    have hm : (fs.mapM fun f => (do pure (f.offset, ← sizeOf f.type) : Sem (Nat × Nat))).run P w = .ok l.toArray w := by
      rw [Array.mapM_eq_mapM_toList, map_eq_pure_bind, Sem.run_bind, places_run h3 w]
      simp [Sem.run_pure]
    refine ⟨.agg ws.toArray, ?_, ws, rfl, r2⟩
    simp only [Instr.build, Sem.run_bind, pr_run z1, pr_run h2, Result.andThen_ok, hm]
    have e : (fun (i : Nat) => l.toArray[i]?) = (fun (i : Nat) => l[i]?) := by funext i; simp
    have r1' : Instr.fill (fun (i : Nat) => l.toArray[i]?) zv.cells (ps.map fun (i, x) => (i, a.eval x)).toList = some ws.toArray := by rw [e]; simpa using r1
    simp only [r1', Sem.run_pure]
  · next e =>
    simp only [Option.bind_eq_some_iff] at k
    obtain ⟨n, h3, cs, h4, h5⟩ := k
    cases h5
    obtain ⟨ws, r1, r2⟩ := aFill_run h4 hz hp
    refine ⟨.agg ws.toArray, ?_, ws, rfl, r2⟩
    have r1' : Instr.fill (fun i => some (i * n, n)) zv.cells (ps.map fun (i, x) => (i, a.eval x)).toList = some ws.toArray := by simpa using r1
    simp only [Instr.build, Sem.run_bind, pr_run z1, pr_run h2, Result.andThen_ok, pr_run h3, r1', Sem.run_pure]
  · cases k
theorem aBuildSlice_run (h : VInv D V E w0 a w) (hn : New E nid) {t : TypeId} {len : Nat} {ps : Array (Nat × Operand)} {r : OpR D.K} (k : aBuildSlice P V nid t len ps.toList = some r) :
    ∃ E' w' v, (Instr.buildSlice t len (ps.map fun (i, x) => (i, a.eval x))).run P w = .ok v w' ∧ Out D E w0 w V.ob nid r E' w' v := by
  simp only [aBuildSlice, Option.bind_eq_bind, Option.bind_eq_some_iff] at k
  obtain ⟨d, h1, k⟩ := k
  split at k
  · next e =>
    simp only [Option.bind_eq_some_iff] at k
    obtain ⟨n, h2, _, h3, z, h4, _, h5, cs, h6, h7⟩ := k
    cases h7
    rw [chk_some, Bool.and_eq_true] at h3
    rw [chk_some] at h5
    have hle := Nat.le_of_ble_eq_true h3.1
    have hlt : 0 < len * n := Nat.le_of_ble_eq_true h3.2
    have hzn := Nat.eq_of_beq_eq_true h5
    obtain ⟨zv, z1, z2⟩ := zeroCells_run h4
    have hz := z2 E
    have hzs : zv.cells.size = n := by have := hz.1; simp at this; omega
    have hp := parts_rel h ps
    obtain ⟨ws, r1, r2⟩ := aFill_run h6 (hz.repeatL len) hp
    have hr := range_repeat zv.cells len (by rw [hzs]; exact Nat.pos_of_ne_zero (fun e => by rw [e] at hlt; simp at hlt))
    rw [hzs] at hr
    have r1' : Instr.fill (fun i => some (i * n, n)) ((Array.range (len * n)).map (fun i => zv.cells[i % zv.cells.size]!)) (ps.map fun (i, x) => (i, a.eval x)).toList = some ws.toArray := by
      rw [hzs, hr]; simpa using r1
    refine ⟨E.addB nid w.heap.size, w.alloc (.cells ws.toArray e), .slice (some ⟨w.heap.size, 0, none⟩) len len, ?_, out_new h hn r2 e _ _ ⟨_, rfl, w.heap.size, if_pos rfl, rfl⟩⟩
    have c1 : ¬ (len * n > 2 ^ 24) := by omega
    have c2 : ¬ (len * n = 0) := by omega
    simp only [Instr.buildSlice, Sem.run_bind, pr_run h1, pr_run h2, Result.andThen_ok, c1, if_false, c2, pr_run z1, Sem.run_pure, r1', newRow, newObj, Sem.run, World.alloc]
  · cases k
theorem aLen_run (h : VInv D V E w0 a w) {c : Call} (k : aLen P V c = some out) : ∃ v, (Builtin.len_ c.argTypes 0 (c.args.map a.eval)).run P w = .ok v w ∧ out.rel E v := by
  simp only [aLen, Option.bind_eq_bind, Option.bind_eq_some_iff] at k
  obtain ⟨t, h1, d, h2, k⟩ := k
  split at k
  · next e =>
    simp only [Option.bind_eq_some_iff] at k
    obtain ⟨x, h3, k⟩ := k
    have hx : (c.args.map a.eval)[0]? = some (a.eval x) := by simp [h3]
    split at k
    · next _ _ b o n cc hs =>
      cases k
      obtain ⟨G, g1, g2⟩ := sli?_rel hs (aeval_rel h x)
      exact ⟨goInt n, by simp only [Builtin.len_, h1, hx, Sem.run_bind, pr_run h2, Result.andThen_ok, g2, Sem.run_pure], _, rfl, rfl, rfl⟩
    · next _ _ p n cc hs _ =>
      cases k
      have g2 := toV_rel hs (aeval_rel h x)
      exact ⟨goInt n, by simp only [Builtin.len_, h1, hx, Sem.run_bind, pr_run h2, Result.andThen_ok, g2, Sem.run_pure], _, rfl, rfl, rfl⟩
    · cases k
  · cases k

theorem natLit_rel {x : AV} {n : Nat} {u : Value} (h : natLit x = some n) (k : x.rel E u) : u = .int .i64 (n : Int) := by
  unfold natLit at h
  split at h
  · next e => cases h; exact toV_rel e k
  · cases h
theorem aMake_run (h : VInv D V E w0 a w) (hn : New E nid) {t : TypeId} {x y : Operand} {r : OpR D.K} (k : aMake P V nid t x y = some r) :
    ∃ E' w' v, (Instr.makeSlice t (a.eval x) (a.eval y)).run P w = .ok v w' ∧ Out D E w0 w V.ob nid r E' w' v := by
  simp only [aMake, Option.bind_eq_bind, Option.bind_eq_some_iff] at k
  obtain ⟨n, h1, m, h2, _, h3, k⟩ := k
  rw [chk_some, Bool.and_eq_true] at h3
  have e := Nat.eq_of_beq_eq_true h3.1
  have hle := Nat.le_of_ble_eq_true h3.2
  subst e
  have e1 := natLit_rel h1 (aeval_rel h x)
  have e2 := natLit_rel h2 (aeval_rel h y)
  split at k
  · next e he =>
    simp only [Option.bind_eq_some_iff] at k
    obtain ⟨i, hi, z, hz, _, h4, h5⟩ := k
    cases h5
    simp only [chk_some, Bool.and_eq_true] at h4
    obtain ⟨g1, g2, g3, g4⟩ := h4
    have g1 := Nat.le_of_ble_eq_true g1
    have g2 : 0 < i.size := Nat.le_of_ble_eq_true g2
    have g3 := Nat.eq_of_beq_eq_true g3
    have hb : (i.bytes : Int) * (n : Int) ≤ 281474976710656 := by
      have : i.bytes * n ≤ 100000 * 1000 := Nat.mul_le_mul g1 hle
      have h2 : ((i.bytes * n : Nat) : Int) ≤ ((100000 * 1000 : Nat) : Int) := Int.ofNat_le.2 this
      rw [Int.natCast_mul] at h2
      omega
    have hr := run_make (P := P) w t e i z he hi hz .i64 .i64 n n (by omega) (by omega) hb (by omega)
    simp only [Int.toNat_natCast] at hr
    have hm : madeCells z.cells (n * i.size) = (repeatL z.cells.toList n).toArray := by
      rw [← g3]
      exact range_repeat z.cells n (by omega)
    rw [hm] at hr
    refine ⟨E.addB nid w.heap.size, _, _, by rw [e1, e2]; exact hr, ?_⟩
    exact out_new h hn ((lits_rel E g4).repeatL n) e _ _ ⟨_, rfl, w.heap.size, if_pos rfl, rfl⟩
  · cases k
theorem aSlice_run (h : VInv D V E w0 a w) {t : TypeId} {x : Operand} {lo hi mx : Option Operand} (k : aSlice P V t x lo hi mx = some out) :
    ∃ v, (Instr.sliceAt t (a.eval x) (lo.map a.eval) (hi.map a.eval) (mx.map a.eval)).run P w = .ok v w ∧ out.rel E v := by
  cases lo with
  | some _ => simp [aSlice] at k
  | none =>
  cases hi with
  | some _ => simp [aSlice] at k
  | none =>
  cases mx with
  | some _ => simp [aSlice] at k
  | none =>
  simp only [aSlice, Option.bind_eq_bind, Option.bind_eq_some_iff] at k
  obtain ⟨⟨b, o⟩, h1, d, h2, k⟩ := k
  obtain ⟨G, g1, g2⟩ := ptr?_rel h1 (aeval_rel h x)
  split at k
  · next n e =>
    simp only [Option.bind_eq_some_iff] at k
    obtain ⟨sz, h4, h5⟩ := k
    cases h5
    refine ⟨.slice (some ⟨G, o, none⟩) n n, ?_, _, rfl, G, g1, rfl⟩
    have ha : (if n = 0 then (⟨G, o, none⟩ : Addr) else (⟨G, o, none⟩ : Addr).add (0 * sz)) = ⟨G, o, none⟩ := by
      split
      · rfl
      · rw [Nat.zero_mul]; rfl
    simp only [Instr.sliceAt, Instr.sureAddr, g2, Option.map_none, Sem.run_bind, pr_run h2, Result.andThen_ok, Sem.run_pure, Instr.sliceBounds, pr_run h4, ha, Nat.sub_zero]
  · cases k

/-- one operation does what was reckoned -/
theorem aop_sound (h : VInv D V E w0 a w) {ctr : Ctr D.K} (hc : CtrOK D P ctr) (hg : D.glob w0) (hn : New E nid) (hf : ∀ i, fr ≤ i → New E i) {o : Oper} {r : OpR D.K} (k : aop P ctr V nid fr o = some r)
    {K : Act → World → Prop} {Q : Exit → Act → World → Prop} (hK : ∀ E' w' v, Out D E w0 w V.ob nid r E' w' v → K (a.put o.dst v) w') : o.wp P a w K Q := by
  obtain ⟨dst, op, ty, pos, aft, gd⟩ := o
  have val : ∀ (s : Sem Value) (out : AV), (∃ v, s.run P w = .ok v w ∧ out.rel E v) → execOp a.eval ⟨dst, op, ty, pos, aft, gd⟩ = (do pure (.value (← s))) → r = { out := out } → Oper.wp P ⟨dst, op, ty, pos, aft, gd⟩ a w K Q := by
    rintro s out ⟨v, h1, h2⟩ he rfl
    unfold Oper.wp
    rw [he]
    simp only [Sem.run_bind, h1, Result.andThen_ok, Sem.run_pure]
    exact hK E w v (out_val h h2)
  have pur : ∀ out, aPure P V ⟨dst, op, ty, pos, aft, gd⟩ = some out → (∀ cs b, op ≠ .select cs b) → r = { out := out } → Oper.wp P ⟨dst, op, ty, pos, aft, gd⟩ a w K Q := by
    rintro out h1 hs rfl
    obtain ⟨v, h2, h3⟩ := aPure_run h hs h1
    unfold Oper.wp
    rw [h2]
    exact hK E w v (out_val h h3)
  cases op with
  | move x => exact val (pure (a.eval x)) (aeval V x) ⟨_, Sem.run_pure .., aeval_rel h x⟩ rfl (by simpa [aop] using k.symm)
  | assign x => exact val (pure (a.eval x)) (aeval V x) ⟨_, Sem.run_pure .., aeval_rel h x⟩ rfl (by simpa [aop] using k.symm)
  | pick c x y =>
    simp only [aop, Option.map_eq_some_iff] at k
    obtain ⟨b, h1, h2⟩ := k
    have e := bool?_rel h1 (aeval_rel h c)
    clear h1
    refine val (pure (if b then a.eval x else a.eval y)) (pickA b (aeval V x) (aeval V y)) ⟨_, Sem.run_pure .., ?_⟩ ?_ h2.symm
    · cases b
      · exact aeval_rel h y
      · exact aeval_rel h x
    · simp only [execOp, e, asBool]; rfl
  | alloc e =>
    simp only [aop, Option.map_eq_some_iff] at k
    obtain ⟨cs, h1, rfl⟩ := k
    obtain ⟨z, z1, z2⟩ := zeroCells_run h1
    unfold Oper.wp
    simp only [execOp, Instr.alloc, Sem.run_bind, pr_run z1, Result.andThen_ok, newVar, newRow, newObj, Sem.run, Sem.run_pure]
    have := out_new h hn (vs := z.cells.toList) (z2 E) e (.val false [.ptr nid 0]) (.pointer (some ⟨w.heap.size, 0, none⟩)) ⟨_, rfl, w.heap.size, if_pos rfl, rfl⟩
    rw [Array.toArray_toList] at this
    exact hK _ _ _ this
  | box e x =>
    simp only [aop, Option.map_eq_some_iff] at k
    obtain ⟨cs, h1, rfl⟩ := k
    have hx := AV.cells?_rel (aeval_rel h x) h1
    unfold Oper.wp
    simp only [execOp, Instr.box, Sem.run_bind, Result.andThen_ok, newVar, newRow, newObj, Sem.run, Sem.run_pure]
    have := out_new h hn hx e (.val false [.ptr nid 0]) (.pointer (some ⟨w.heap.size, 0, none⟩)) ⟨_, rfl, w.heap.size, if_pos rfl, rfl⟩
    rw [Array.toArray_toList] at this
    exact hK _ _ _ this
  | build t ps =>
    simp only [aop, Option.map_eq_some_iff] at k
    obtain ⟨out, h1, h2⟩ := k
    exact val _ out (aBuild_run h h1) rfl h2.symm
  | buildSlice t n ps =>
    simp only [aop] at k
    obtain ⟨E', w', v, h1, h2⟩ := aBuildSlice_run (P := P) (w0 := w0) h hn k
    unfold Oper.wp
    simp only [execOp, Sem.run_bind, h1, Result.andThen_ok, Sem.run_pure]
    exact hK E' w' v h2
  | makeSlice t x y =>
    simp only [aop] at k
    obtain ⟨E', w', v, h1, h2⟩ := aMake_run (P := P) (w0 := w0) h hn k
    unfold Oper.wp
    simp only [execOp, Sem.run_bind, h1, Result.andThen_ok, Sem.run_pure]
    exact hK E' w' v h2
  | slice t x lo hi mx =>
    simp only [aop, Option.map_eq_some_iff] at k
    obtain ⟨out, h1, h2⟩ := k
    exact val _ out (aSlice_run h h1) rfl h2.symm
  | load t x =>
    simp only [aop, Option.map_eq_some_iff] at k
    obtain ⟨out, h1, h2⟩ := k
    exact val _ out (aLoad_run h h1) rfl h2.symm
  | store t x y =>
    simp only [aop, Option.map_eq_some_iff] at k
    obtain ⟨⟨b, B⟩, h1, rfl⟩ := k
    obtain ⟨w', h2, h3⟩ := aStore_run (nid := nid) h h1
    unfold Oper.wp
    simp only [execOp, Sem.run_bind, h2, Result.andThen_ok, Sem.run_pure]
    exact hK E w' undef (h3 undef)
  | fieldAddr s x f =>
    simp only [aop, Option.map_eq_some_iff] at k
    obtain ⟨out, h1, h2⟩ := k
    exact val _ out (aFieldAddr_run h h1) rfl h2.symm
  | field s x f =>
    simp only [aop, Option.map_eq_some_iff] at k
    obtain ⟨out, h1, h2⟩ := k
    exact val _ out (aField_run h h1) rfl h2.symm
  | indexAddr t x i =>
    simp only [aop, Option.map_eq_some_iff] at k
    obtain ⟨out, h1, h2⟩ := k
    exact val _ out (aIndexAddr_run h h1) rfl h2.symm
  | index t x i =>
    simp only [aop, Option.map_eq_some_iff] at k
    obtain ⟨out, h1, h2⟩ := k
    exact val _ out (aIndex_run h h1) rfl h2.symm
  | extract x i =>
    simp only [aop, Option.map_eq_some_iff] at k
    obtain ⟨out, h1, h2⟩ := k
    exact val _ out (aExtract_run h h1) rfl h2.symm
  | binOp _ _ _ _ _ =>
    simp only [aop, Option.map_eq_some_iff] at k
    obtain ⟨out, h1, h2⟩ := k
    exact pur out h1 (by simp) h2.symm
  | unOp _ _ _ =>
    simp only [aop, Option.map_eq_some_iff] at k
    obtain ⟨out, h1, h2⟩ := k
    exact pur out h1 (by simp) h2.symm
  | convert _ _ _ =>
    simp only [aop, Option.map_eq_some_iff] at k
    obtain ⟨out, h1, h2⟩ := k
    exact pur out h1 (by simp) h2.symm
  | call c =>
    simp only [aop] at k
    unfold aCall at k
    split at k
    · next f hcal =>
      simp only [Option.bind_eq_bind, Option.bind_eq_some_iff] at k
      obtain ⟨r0, h1, h2⟩ := k
      cases h2
      obtain ⟨h3, h4⟩ := hc _ _ _ _ _ _ _ h1
      have hargs : F2 (AV.rel E) (c.args.toList.map (aeval V)) (c.args.map a.eval).toList := by
        refine ⟨by simp, fun i x u e1 e2 => ?_⟩
        simp at e1 e2
        obtain ⟨p, hp, rfl⟩ := e1
        obtain ⟨p', hp', rfl⟩ := e2
        rw [hp] at hp'; cases hp'
        exact aeval_rel h p
      have hcall := h4 E w (c.args.map a.eval).toList hargs h.sy hn hf (D.globKeep hg h.grown) h.bl h.fits.inj h.fits.low
      unfold Oper.wp
      have hx : (execOp a.eval ⟨dst, .call c, ty, pos, aft, gd⟩).run P w = .ok (.enter f (c.args.map a.eval)) w := by
        simp only [execOp, resolve, hcal, Act.eval, Deferred.ofValue, Sem.run_bind, Sem.run_pure, Result.andThen_ok, invoke, Array.append_empty, Array.empty_append, h3]
      rw [hx]
      rw [Array.toArray_toList] at hcall
      refine hcall.mono ?_
      rintro e w' ⟨hgr, l, v, rfl, hnews, hout⟩
      have hsz := hgr.size
      rcases hout with ⟨hnb, hout⟩ | ⟨G, B, hnb, hG, hout, hrow⟩
      · have hle := Env.le_addS (l := l) hn
        refine hK (E.addS nid l) w' v ⟨hle, fun i hi => ⟨rfl, fun m => if_neg hi⟩, ⟨h.fits.inj, fun i G e => ?_, h.fits.own⟩, grown_trans h.grown hgr, hout, fun _ e => (by rw [hnb] at e; cases e), fun _ _ e => (by cases e), fun i B _ hr => hr.mono hle hgr, ?_, fun _ _ hk => D.keep hk hgr⟩
        · have := h.fits.low i G e; omega
        · intro m kd hm
          obtain ⟨vs, e1, e2⟩ := hnews m kd hm
          exact ⟨vs, by show (if nid = nid then _ else _) = _; rw [if_pos rfl]; exact e1, e2⟩
      · have hle : E.le ((E.addB nid G).addS nid l) := ⟨(Env.le_addB (G := G) hn).1, (Env.le_addS (l := l) hn).2⟩
        have hlt : G < w'.heap.size := by
          obtain ⟨G', vs, e1, e2, _⟩ := hrow
          have : (if nid = nid then some G else E.β nid) = some G' := e1
          rw [if_pos rfl] at this
          cases this
          exact lt_of_block e2
        refine hK ((E.addB nid G).addS nid l) w' v ⟨hle, fun i hi => ⟨if_neg hi, fun m => if_neg hi⟩, ⟨?_, ?_, ?_⟩, grown_trans h.grown hgr, hout, fun B' e => ?_, fun _ _ e => (by cases e), fun i B _ hr => hr.mono hle hgr, ?_, fun _ _ hk => D.keep hk hgr⟩
        · intro i j G' h1 h2
          change (if i = nid then _ else _) = _ at h1
          change (if j = nid then _ else _) = _ at h2
          split at h1 <;> split at h2
          · omega
          · cases h1; have := h.fits.low _ _ h2; omega
          · cases h2; have := h.fits.low _ _ h1; omega
          · exact h.fits.inj _ _ _ h1 h2
        · intro i G' h1
          change (if i = nid then _ else _) = _ at h1
          split at h1
          · cases h1; exact hlt
          · have := h.fits.low _ _ h1; omega
        · intro i G' ho h1
          change (if i = nid then _ else _) = _ at h1
          split at h1
          · cases h1; have := h.grown.size; omega
          · exact h.fits.own _ _ ho h1
        · rw [hnb] at e; cases e; exact hrow
        · intro m kd hm
          obtain ⟨vs, e1, e2⟩ := hnews m kd hm
          exact ⟨vs, by show (if nid = nid then _ else _) = _; rw [if_pos rfl]; exact e1, e2⟩
    · next hcal =>
      simp only [Option.map_eq_some_iff] at k
      obtain ⟨out, h1, h2⟩ := k
      obtain ⟨v, h3, h4⟩ := aLen_run (P := P) h h1
      have h3' : (Builtin.len_ c.argTypes ty (c.args.map a.eval)).run P w = .ok v w := by simpa [Builtin.len_] using h3
      refine val _ out ⟨v, h3', h4⟩ ?_ h2.symm
      simp [execOp, resolve, hcal, invoke, builtin]
    · cases k
  | _ => simp [aop] at k
end
end Go.Abs

set_option linter.unusedVariables false
set_option linter.unusedSimpArgs false
namespace Go.Abs
open Go Go.RowKit Nm

structure Vn (K : Type) extends Vw K where
  n : Nat

/-- the operation that writes the slot t -/
def wrFrom (t : Nat) : List Oper → Nat → Option Nat
  | [], _ => none
  | o :: os, i => match o.dst with
    | some d => match Nat.beq d t with
      | true => some i
      | false => wrFrom t os (i + 1)
    | none => wrFrom t os (i + 1)
def wr (ops : List Oper) (t : Nat) : Option Nat := wrFrom t ops 0
theorem wrFrom_spec {t : Nat} : ∀ {ops : List Oper} {i j : Nat}, wrFrom t ops i = some j → i ≤ j ∧ ∃ o, ops[j - i]? = some o ∧ o.dst = some t
  | [], i, j, h => by simp [wrFrom] at h
  | o :: os, i, j, h => by
    have next : wrFrom t os (i + 1) = some j → i ≤ j ∧ ∃ o', (o :: os)[j - i]? = some o' ∧ o'.dst = some t := fun h => by
      obtain ⟨h1, o', h2, h3⟩ := wrFrom_spec h
      refine ⟨by omega, o', ?_, h3⟩
      rw [show j - i = (j - (i + 1)) + 1 by omega]
      simpa using h2
    unfold wrFrom at h
    split at h
    · next d hd =>
      split at h
      · next e => cases h; exact ⟨Nat.le_refl _, o, by simp, by rw [hd, Nat.eq_of_beq_eq_true e]⟩
      · exact next h
    · exact next h
theorem wr_spec {ops : List Oper} {t j : Nat} (h : wr ops t = some j) : ∃ o, ops[j]? = some o ∧ o.dst = some t := by
  obtain ⟨_, h⟩ := wrFrom_spec h
  simpa using h
def find {α : Type} (b : Nat) : List (Nat × α) → Option α
  | [] => none
  | (c, x) :: l => match Nat.beq c b with
    | true => some x
    | false => find b l

structure Rg (K : Type) where
  ops : List Oper
  pre : Nat → Nat → Bool
  base : Nat
  st : List (Nat × Nat)
  R : List (OpR K)
  S : Vn K
section
variable {K : Type}
def Rg.cr (G : Rg K) (d : Nat → Bool) (b : Nat) : Option Blk := match Nat.blt b G.base with
  | true => G.S.bl b
  | false => match d (b - G.base) with
    | true => match G.R[b - G.base]? with
      | some r => r.newb
      | none => none
    | false => none
/-- what is known where the operations d have come up -/
def Rg.at (G : Rg K) (d : Nat → Bool) : Vn K where
  n := G.S.n
  ob := G.S.ob
  sl t := match wr G.ops t with
    | some i => match d i with
      | true => match G.R[i]? with
        | some r => r.out
        | none => .any
      | false => G.S.sl t
    | none => G.S.sl t
  bl b := match find b G.st with
    | some i => match d i with
      | true => match G.R[i]? with
        | some r => match r.stb with
          | some (c, B) => match Nat.beq c b with
            | true => some B
            | false => none
          | none => none
        | none => none
      | false => G.cr d b
    | none => G.cr d b
  sy i m := match Nat.blt i G.base with
    | true => G.S.sy i m
    | false => match d (i - G.base) with
      | true => match G.R[i - G.base]? with
        | some r => r.news[m]?
        | none => none
      | false => none
def Rg.inc (G : Rg K) (j i : Nat) : Bool := !(Nat.beq i j) && (!(G.pre j i) && !(G.pre i j))
/-- what the operation j may rely on -/
def Rg.vw (G : Rg K) (j : Nat) : Vw K where
  sl t := match wr G.ops t with
    | some i => match G.inc j i with
      | true => .any
      | false => (G.at (G.pre j)).sl t
    | none => G.S.sl t
  bl b := match find b G.st with
    | some i => match G.inc j i with
      | true => none
      | false => (G.at (G.pre j)).bl b
    | none => (G.at (G.pre j)).bl b
  sy := (G.at (G.pre j)).sy
  ob := G.S.ob
/-- the value of an operation that was passed over -/
def isTup : AV → Bool
  | .tup _ => true
  | _ => false
theorem isTup_rel {E : Env} {x : AV} {u : Value} (h : isTup x = true) (k : x.rel E u) : ∃ vs, u = .tuple vs := by
  cases x with
  | tup l => obtain ⟨vs, e, _⟩ := k; exact ⟨_, e⟩
  | _ => cases h
theorem undef_rel (E : Env) : AV.rel E (.tup []) undef := ⟨[], rfl, F2.nil⟩
/-- is the operation carried out -/
def Rg.want (G : Rg K) (j : Nat) (o : Oper) : Option Bool := match o.guard with
  | none => some true
  | some (g, b) => match G.ops[g]? with
    | some og => match og.dst with
      | some t => match isTup ((G.vw j).sl t) with
        | true => some false
        | false => match bool? ((G.vw j).sl t) with
          | some c => some (c == b)
          | none => none
      | none => none
    | none => none
structure RgOK (P : Program) (ctr : Ctr K) (G : Rg K) : Prop where
  len : G.R.length = G.ops.length
  op : ∀ (j : Nat) (o : Oper) (r : OpR K), G.ops[j]? = some o → G.R[j]? = some r → (G.want j o = some true ∧ aop P ctr (G.vw j) (G.base + j) (G.base + G.ops.length) o = some r) ∨ (G.want j o = some false ∧ r = { out := .tup [] })
  dst : ∀ (j : Nat) (o : Oper) (t : Nat), G.ops[j]? = some o → o.dst = some t → wr G.ops t = some j ∧ t < G.S.n
  sto : ∀ (j : Nat) (r : OpR K) (b : Nat) (B : Blk), G.R[j]? = some r → r.stb = some (b, B) → find b G.st = some j
  lt : ∀ j i, G.pre j i = true → i < j
end

structure RInv (D : Dom) (V : Vn D.K) (E : Env) (w0 : World) (a : Act) (w : World) : Prop where
  v : VInv D V.toVw E w0 a w
  sz : a.tmps.size = V.n
def plus (d : Nat → Bool) (j : Nat) : Nat → Bool := fun i => d i || Nat.beq i j
theorem plus_ne {d : Nat → Bool} {i j : Nat} (h : i ≠ j) : plus d j i = d i := by
  have : Nat.beq i j = false := by cases e : Nat.beq i j with
    | false => rfl
    | true => exact absurd (Nat.eq_of_beq_eq_true e) h
  simp [plus, this]
theorem plus_self {d : Nat → Bool} {j : Nat} : plus d j j = true := by simp [plus]

section
variable {P : Program} {D : Dom} {ctr : Ctr D.K} {G : Rg D.K} {E : Env} {w0 w : World} {a : Act} {d : Nat → Bool} {j : Nat}
theorem inc_cases {i : Nat} (h : G.inc j i = false) : i = j ∨ G.pre j i = true ∨ G.pre i j = true := by
  unfold Rg.inc at h
  cases h1 : Nat.beq i j with
  | true => exact .inl (Nat.eq_of_beq_eq_true h1)
  | false => cases h2 : G.pre j i with
    | true => exact .inr (.inl rfl)
    | false => cases h3 : G.pre i j with
      | true => exact .inr (.inr rfl)
      | false => simp [h1, h2, h3] at h
/-- of the operations that j may not pass, the same have come up -/
theorem same_of (hO : RgOK P ctr G) (h1 : ∀ i, G.pre j i = true → d i = true) (h2 : ∀ i, G.pre i j = true → d i = false) (hj : d j = false) {i : Nat} (hi : G.inc j i = false) : G.pre j i = d i := by
  rcases inc_cases hi with rfl | h | h
  · rw [hj]
    cases e : G.pre i i with
    | false => rfl
    | true => have := hO.lt _ _ e; omega
  · rw [h, h1 i h]
  · rw [h2 i h]
    cases e : G.pre j i with
    | false => rfl
    | true => have := hO.lt _ _ e; have := hO.lt _ _ h; omega
theorem vw_inv (hO : RgOK P ctr G) (h1 : ∀ i, G.pre j i = true → d i = true) (h2 : ∀ i, G.pre i j = true → d i = false) (hj : d j = false) (h : RInv D (G.at d) E w0 a w) : VInv D (G.vw j) E w0 a w := by
  have same := fun i => same_of (i := i) hO h1 h2 hj
  have cr : ∀ b B, G.cr (G.pre j) b = some B → G.cr d b = some B := by
    intro b B hb
    unfold Rg.cr at hb ⊢
    cases e : Nat.blt b G.base with
    | true => rw [e] at hb; exact hb
    | false =>
      rw [e] at hb
      dsimp only at hb ⊢
      cases e2 : G.pre j (b - G.base) with
      | false => rw [e2] at hb; cases hb
      | true => rw [e2] at hb; rw [h1 _ e2]; exact hb
  refine ⟨fun t => ?_, h.v.df, fun b B hb => h.v.bl b B ?_, fun i m k hk => h.v.sy i m k ?_, h.v.fits, h.v.grown⟩
  · have ht := h.v.sl t
    show (match wr G.ops t with | some i => _ | none => _) = AV.any ∨ ∃ v, a.tmps[t]? = some v ∧ AV.rel E (match wr G.ops t with | some i => _ | none => _) v
    simp only [Rg.at] at ht ⊢
    cases e : wr G.ops t with
    | none => rw [e] at ht; exact ht
    | some i =>
      rw [e] at ht
      dsimp only at ht ⊢
      cases e2 : G.inc j i with
      | true => exact .inl rfl
      | false => dsimp only; rw [same i e2]; exact ht
  · change (match find b G.st with | some i => _ | none => _) = some B at hb
    simp only [Rg.at] at hb ⊢
    cases e : find b G.st with
    | none => rw [e] at hb; exact cr b B hb
    | some i =>
      rw [e] at hb
      dsimp only at hb ⊢
      cases e2 : G.inc j i with
      | true => rw [e2] at hb; cases hb
      | false =>
        rw [e2] at hb
        dsimp only at hb
        rw [same i e2] at hb
        cases e3 : d i with
        | true => rw [e3] at hb; exact hb
        | false => rw [e3] at hb; exact cr b B hb
  · simp only [Rg.vw, Rg.at] at hk ⊢
    cases e : Nat.blt i G.base with
    | true => rw [e] at hk; exact hk
    | false =>
      rw [e] at hk
      dsimp only at hk ⊢
      cases e2 : G.pre j (i - G.base) with
      | false => rw [e2] at hk; cases hk
      | true => rw [e2] at hk; rw [h1 _ e2]; exact hk
/-- behind the operation j -/
theorem at_plus (hO : RgOK P ctr G) (hj : d j = false) (h : RInv D (G.at d) E w0 a w) {o : Oper} {r : OpR D.K} (ho : G.ops[j]? = some o) (hr : G.R[j]? = some r) {E' : Env} {w' : World} {v : Value} (hout : Out D E w0 w G.S.ob (G.base + j) r E' w' v) :
    RInv D (G.at (plus d j)) E' w0 (a.put o.dst v) w' := by
  have hsz : (a.put o.dst v).tmps.size = a.tmps.size := by cases e : o.dst <;> simp [Act.put]
  have cr : ∀ b B, (∀ c B', r.stb = some (c, B') → b ≠ c) → (G.cr d b = some B → Row E w b B) → G.cr (plus d j) b = some B → Row E' w' b B := by
    intro b B hne hold hb
    unfold Rg.cr at hb
    cases e : Nat.blt b G.base with
    | true =>
      rw [e] at hb
      exact hout.old b B hne (hold (by unfold Rg.cr; rw [e]; exact hb))
    | false =>
      rw [e] at hb
      dsimp only at hb
      have hle : G.base ≤ b := by
        rcases Nat.lt_or_ge b G.base with h | h
        · have : Nat.blt b G.base = true := Nat.ble_eq_true_of_le h
          rw [this] at e; cases e
        · exact h
      by_cases hbj : b - G.base = j
      · rw [hbj, plus_self] at hb
        dsimp only at hb
        rw [hr] at hb
        have : b = G.base + j := by omega
        subst this
        exact hout.newb B hb
      · rw [plus_ne hbj] at hb
        exact hout.old b B hne (hold (by unfold Rg.cr; rw [e]; exact hb))
  refine ⟨⟨fun t => ?_, ?_, fun b B hb => ?_, fun i m k hk => ?_, hout.fits, hout.grown⟩, by rw [hsz]; exact h.sz⟩
  · have ht := h.v.sl t
    simp only [Rg.at] at ht ⊢
    have keepslot : o.dst ≠ some t → (a.put o.dst v).tmps[t]? = a.tmps[t]? := by
      intro hne
      cases e : o.dst with
      | none => rfl
      | some x => exact Array.getElem?_setIfInBounds_ne (fun he => hne (by rw [e, he]))
    have old : ∀ X : AV, (X = .any ∨ ∃ u, a.tmps[t]? = some u ∧ X.rel E u) → o.dst ≠ some t → X = .any ∨ ∃ u, (a.put o.dst v).tmps[t]? = some u ∧ X.rel E' u := by
      rintro X (hX | ⟨u, h1, h2⟩) hne
      · exact .inl hX
      · exact .inr ⟨u, by rw [keepslot hne]; exact h1, h2.mono hout.le⟩
    cases e : wr G.ops t with
    | none =>
      rw [e] at ht
      refine old _ ht (fun hd => ?_)
      have := (hO.dst j o t ho hd).1
      rw [e] at this; cases this
    | some i =>
      rw [e] at ht
      dsimp only at ht ⊢
      by_cases hij : i = j
      · subst hij
        rw [plus_self]
        dsimp only
        rw [hr]
        dsimp only
        obtain ⟨o', h1, h2⟩ := wr_spec e
        rw [ho] at h1; cases h1
        refine .inr ⟨v, ?_, hout.out⟩
        have := (hO.dst i o t ho h2).2
        rw [h2]
        show (a.tmps.setIfInBounds t v)[t]? = some v
        have hs := h.sz
        have : t < a.tmps.size := by rw [hs]; exact this
        simp [this]
      · rw [plus_ne hij]
        refine old _ ht (fun hd => ?_)
        have := (hO.dst j o t ho hd).1
        rw [e] at this; cases this; exact hij rfl
  · cases e : o.dst <;> exact h.v.df
  · have hB := h.v.bl b B
    simp only [Rg.at] at hb hB
    cases e : find b G.st with
    | none =>
      rw [e] at hb hB
      refine cr b B (fun c B' hs hbc => ?_) hB hb
      subst hbc
      have := hO.sto j r b B' hr hs
      rw [e] at this; cases this
    | some i =>
      rw [e] at hb hB
      dsimp only at hb hB
      by_cases hij : i = j
      · subst hij
        rw [plus_self] at hb
        dsimp only at hb
        rw [hr] at hb
        dsimp only at hb
        split at hb
        · next c B' hs =>
          split at hb
          · next hc =>
            cases hb
            have := Nat.eq_of_beq_eq_true hc
            subst this
            exact hout.stb _ _ hs
          · cases hb
        · cases hb
      · have hne : ∀ c B', r.stb = some (c, B') → b ≠ c := fun c B' hs hbc => by
          subst hbc
          have := hO.sto j r b B' hr hs
          rw [e] at this; cases this; exact hij rfl
        rw [plus_ne hij] at hb
        cases e3 : d i with
        | true =>
          rw [e3] at hb hB
          exact hout.old b B hne (hB hb)
        | false =>
          rw [e3] at hb hB
          exact cr b B hne hB hb
  · have hk0 := h.v.sy i m k
    simp only [Rg.at] at hk hk0
    have old : (∃ vs, E.σ i m = some vs ∧ D.den k w vs) → ∃ vs, E'.σ i m = some vs ∧ D.den k w' vs := fun ⟨vs, h1, h2⟩ => ⟨vs, hout.le.2 _ _ _ h1, hout.syms _ _ h2⟩
    cases e : Nat.blt i G.base with
    | true => rw [e] at hk hk0; exact old (hk0 hk)
    | false =>
      rw [e] at hk hk0
      dsimp only at hk hk0
      have hle : G.base ≤ i := by
        rcases Nat.lt_or_ge i G.base with h | h
        · have : Nat.blt i G.base = true := Nat.ble_eq_true_of_le h
          rw [this] at e; cases e
        · exact h
      by_cases hij : i - G.base = j
      · rw [hij, plus_self] at hk
        dsimp only at hk
        rw [hr] at hk
        have : i = G.base + j := by omega
        subst this
        exact hout.news m k hk
      · rw [plus_ne hij] at hk
        exact old (hk0 hk)
/-- what is free in the midst of a region -/
def Frees (G : Rg D.K) (d : Nat → Bool) (E : Env) : Prop := (∀ i, i < G.ops.length → d i = false → New E (G.base + i)) ∧ ∀ i, G.base + G.ops.length ≤ i → New E i
/-- one operation of a region -/
theorem rg_step (hO : RgOK P ctr G) (hc : CtrOK D P ctr) (hg : D.glob w0) {ops : Array Oper} (hops : ops.toList = G.ops) (h1 : ∀ i, G.pre j i = true → d i = true) (h2 : ∀ i, G.pre i j = true → d i = false) (hj : d j = false) (hjl : j < G.ops.length) (hf : Frees G d E) (h : RInv D (G.at d) E w0 a w)
    {K : Act → World → Prop} {Q : Exit → Act → World → Prop} (hK : ∀ E' a' w', Frees G (plus d j) E' → RInv D (G.at (plus d j)) E' w0 a' w' → K a' w') : wpOp P ops Q j K a w := by
  have ho : G.ops[j]? = some G.ops[j] := by simp [hjl]
  have hrl : j < G.R.length := by rw [hO.len]; exact hjl
  have hr : G.R[j]? = some G.R[j] := by simp [hrl]
  have hv := vw_inv hO h1 h2 hj h
  have get : ∀ i : Nat, ops[i]? = G.ops[i]? := fun i => by rw [← hops]; simp
  generalize G.ops[j] = o at *
  generalize G.R[j] = r at *
  have fin : ∀ E' w' v, Out D E w0 w G.S.ob (G.base + j) r E' w' v → K (a.put o.dst v) w' := by
    intro E' w' v hout
    refine hK E' _ w' ⟨fun i hi hd => ?_, fun i hi => ?_⟩ (at_plus hO hj h ho hr hout)
    · have hij : i ≠ j := fun e => by subst e; rw [plus_self] at hd; cases hd
      rw [plus_ne hij] at hd
      obtain ⟨n1, n2⟩ := hf.1 i hi hd
      obtain ⟨e1, e2⟩ := hout.only (G.base + i) (by omega)
      exact ⟨by rw [e1]; exact n1, fun m => by rw [e2]; exact n2 m⟩
    · obtain ⟨n1, n2⟩ := hf.2 i hi
      obtain ⟨e1, e2⟩ := hout.only i (by omega)
      exact ⟨by rw [e1]; exact n1, fun m => by rw [e2]; exact n2 m⟩
  have wanted : ∀ b, G.want j o = some b → Region.wanted o (yielded ops a.tmps) = b := by
    intro b hb
    unfold Rg.want at hb
    unfold Region.wanted
    cases eg : o.guard with
    | none => rw [eg] at hb; simpa using hb
    | some gb =>
      obtain ⟨g, want⟩ := gb
      rw [eg] at hb
      dsimp only at hb ⊢
      cases e1 : G.ops[g]? with
      | none => rw [e1] at hb; cases hb
      | some og =>
        rw [e1] at hb
        dsimp only at hb
        cases e2 : og.dst with
        | none => rw [e2] at hb; cases hb
        | some t =>
          rw [e2] at hb
          dsimp only at hb
          cases e0 : isTup ((G.vw j).sl t) with
          | true =>
           rw [e0] at hb
           cases hb
           have hy : yielded ops a.tmps g = none := by
             unfold yielded
             rw [get g, e1]
             simp only [Option.bind_some, e2]
             rcases hv.sl t with hany | ⟨u, h3, h4⟩
             · rw [hany] at e0; cases e0
             · obtain ⟨vs, rfl⟩ := isTup_rel e0 h4
               rw [h3]
           rw [hy]
           cases want <;> rfl
          | false =>
          rw [e0] at hb
          dsimp only at hb
          cases e3 : bool? ((G.vw j).sl t) with
          | none => rw [e3] at hb; cases hb
          | some c =>
            rw [e3] at hb
            cases hb
            have hy : yielded ops a.tmps g = some c := by
              unfold yielded
              rw [get g, e1]
              simp only [Option.bind_some, e2]
              rcases hv.sl t with hany | ⟨u, h3, h4⟩
              · rw [hany] at e3; cases e3
              · rw [h3]
                have := bool?_rel e3 h4
                rw [this]
            rw [hy]
            cases c <;> cases want <;> rfl
  unfold wpOp
  rw [get j, ho]
  dsimp only
  rcases hO.op j o r ho hr with ⟨hw, hop⟩ | ⟨hw, rfl⟩
  · rw [if_pos (wanted _ hw)]
    exact .inl (aop_sound hv hc hg (hf.1 j hjl hj) hf.2 hop fin)
  · rw [if_neg (by rw [wanted _ hw]; simp)]
    exact fin E w undef (out_val hv (undef_rel E))
end
end Go.Abs

set_option linter.unusedVariables false
set_option linter.unusedSimpArgs false
namespace Go.Abs
open Go Go.RowKit Nm

def edges (o : Oper) : List Nat := (o.after.toList.filter (Region.binds .any)).map (·.on)
def maskStep (ms : List Nat) (m e : Nat) : Nat := m ||| ((1 <<< e) ||| ms.getD e 0)
def maskOf (ms es : List Nat) : Nat := es.foldl (maskStep ms) 0
def mkMasks : List Oper → List Nat → List Nat
  | [], ms => ms
  | o :: os, ms => mkMasks os (ms ++ [maskOf ms (edges o)])
theorem mkMasks_length : ∀ (os : List Oper) (ms : List Nat), (mkMasks os ms).length = ms.length + os.length
  | [], ms => by simp [mkMasks]
  | o :: os, ms => by rw [mkMasks, mkMasks_length os]; simp; omega
def preD (ms : List Nat) (j i : Nat) : Bool := (ms.getD j 0).testBit i
def preS (j i : Nat) : Bool := Nat.blt i j
def chkPre (ms : List Nat) : List Oper → Nat → Bool
  | [], _ => true
  | o :: os, j => (edges o).all (fun e => Nat.blt e j) && (Nat.beq (ms.getD j 0) (maskOf ms (edges o)) && chkPre ms os (j + 1))
theorem mask_bit (ms : List Nat) (i : Nat) : ∀ (es : List Nat) (m : Nat), (es.foldl (maskStep ms) m).testBit i = true → m.testBit i = true ∨ ∃ e ∈ es, i = e ∨ (ms.getD e 0).testBit i = true
  | [], m, h => .inl h
  | e :: es, m, h => by
    rcases mask_bit ms i es _ h with h | ⟨e', h1, h2⟩
    · simp only [maskStep, Nat.testBit_or, Bool.or_eq_true] at h
      rcases h with h | h | h
      · exact .inl h
      · rw [Nat.one_shiftLeft, Nat.testBit_two_pow] at h
        exact .inr ⟨e, by simp, .inl (of_decide_eq_true h).symm⟩
      · exact .inr ⟨e, by simp, .inr h⟩
    · exact .inr ⟨e', by simp [h1], h2⟩
theorem chkPre_spec {ms : List Nat} : ∀ {os : List Oper} {j : Nat}, chkPre ms os j = true → ∀ (i : Nat) (o : Oper), os[i]? = some o → (∀ e ∈ edges o, e < j + i) ∧ ms.getD (j + i) 0 = maskOf ms (edges o)
  | [], _, _, i, o, h => by simp at h
  | x :: os, j, h, i, o, ho => by
    simp only [chkPre, Bool.and_eq_true, List.all_eq_true] at h
    obtain ⟨h1, h2, h3⟩ := h
    cases i with
    | zero =>
      simp at ho; subst ho
      exact ⟨fun e he => Nat.le_of_ble_eq_true (h1 e he), Nat.eq_of_beq_eq_true h2⟩
    | succ i =>
      have := chkPre_spec h3 i o (by simpa using ho)
      rw [show j + (i + 1) = j + 1 + i by omega]
      exact this

section
variable {K : Type}
def blkOf (ops : List Oper) (base : Nat) (S : Vw K) : Nat → Operand → Option Nat
  | 0, _ => none
  | f + 1, .tmp t => match wr ops t with
    | some i => match ops[i]? with
      | some o => match o.op with
        | .alloc _ => some (base + i)
        | .box _ _ => some (base + i)
        | .buildSlice _ _ _ => some (base + i)
        | .fieldAddr _ y _ => blkOf ops base S f y
        | .indexAddr _ y _ => blkOf ops base S f y
        | .move y => blkOf ops base S f y
        | _ => none
      | none => none
    | none => match ptr? (S.sl t) with
      | some (b, _) => some b
      | none => match sli? (S.sl t) with
        | some (b, _) => some b
        | none => none
  | _, _ => none
def mkSt (ops : List Oper) (base : Nat) (S : Vw K) : List Oper → Nat → List (Nat × Nat)
  | [], _ => []
  | o :: os, j => match o.op with
    | .store _ x _ => match blkOf ops base S 20 x with
      | some b => (b, j) :: mkSt ops base S os (j + 1)
      | none => mkSt ops base S os (j + 1)
    | _ => mkSt ops base S os (j + 1)
def bld (P : Program) (ctr : Ctr K) (G : Rg K) : List Oper → Nat → List (OpR K) → Option (List (OpR K))
  | [], _, acc => some acc
  | o :: os, j, acc => match ({ G with R := acc } : Rg K).want j o with
    | some true => match aop P ctr (({ G with R := acc } : Rg K).vw j) (G.base + j) (G.base + G.ops.length) o with
      | some r => bld P ctr G os (j + 1) (acc ++ [r])
      | none => none
    | some false => bld P ctr G os (j + 1) (acc ++ [{ out := .tup [] }])
    | none => none
def chkDst (G : Rg K) : List Oper → Nat → Bool
  | [], _ => true
  | o :: os, j => (match o.dst with
    | some t => (match wr G.ops t with | some i => Nat.beq i j | none => false) && Nat.blt t G.S.n
    | none => true) && chkDst G os (j + 1)
def chkSto (G : Rg K) : List (OpR K) → Nat → Bool
  | [], _ => true
  | r :: rs, j => (match r.stb with
    | some (b, _) => (match find b G.st with | some i => Nat.beq i j | none => false)
    | none => true) && chkSto G rs (j + 1)
def rgOf (draw : Bool) (ops : List Oper) (base : Nat) (S : Vn K) (R : List (OpR K)) : Rg K :=
  { ops := ops, pre := match draw with | true => preD (mkMasks ops []) | false => preS, base := base, st := mkSt ops base S.toVw ops 0, R := R, S := S }
def region (P : Program) (ctr : Ctr K) (draw : Bool) (ops : List Oper) (base : Nat) (S : Vn K) : Option (Rg K) :=
  match bld P ctr (rgOf draw ops base S []) ops 0 [] with
  | some R => match (match draw with | true => chkPre (mkMasks ops []) ops 0 | false => true) && (chkDst (rgOf draw ops base S R) ops 0 && chkSto (rgOf draw ops base S R) R 0) with
    | true => some (rgOf draw ops base S R)
    | false => none
  | none => none

theorem at_congr (G : Rg K) {R1 R2 : List (OpR K)} {d : Nat → Bool} (h : ∀ i, d i = true → R1[i]? = R2[i]?) : ({ G with R := R1 } : Rg K).at d = ({ G with R := R2 } : Rg K).at d := by
  have cr : ({ G with R := R1 } : Rg K).cr d = ({ G with R := R2 } : Rg K).cr d := by
    funext b
    unfold Rg.cr
    dsimp only
    cases Nat.blt b G.base with
    | true => rfl
    | false =>
      dsimp only
      cases e : d (b - G.base) with
      | false => rfl
      | true => dsimp only; rw [h _ e]
  unfold Rg.at
  dsimp only
  rw [cr]
  congr 2
  · funext t
    cases wr G.ops t with
    | none => rfl
    | some i =>
      dsimp only
      cases e : d i with
      | false => rfl
      | true => dsimp only; rw [h _ e]
  · funext b
    cases find b G.st with
    | none => rfl
    | some i =>
      dsimp only
      cases e : d i with
      | false => rfl
      | true => dsimp only; rw [h _ e]
  · funext i m
    cases Nat.blt i G.base with
    | true => rfl
    | false =>
      dsimp only
      cases e : d (i - G.base) with
      | false => rfl
      | true => dsimp only; rw [h _ e]
theorem vw_congr (G : Rg K) {R1 R2 : List (OpR K)} {j : Nat} (h : ∀ i, G.pre j i = true → R1[i]? = R2[i]?) : ({ G with R := R1 } : Rg K).vw j = ({ G with R := R2 } : Rg K).vw j := by
  have e := at_congr G (d := G.pre j) h
  unfold Rg.vw
  dsimp only
  rw [show ({ G with R := R1 } : Rg K).pre = G.pre from rfl, show ({ G with R := R2 } : Rg K).pre = G.pre from rfl]
  rw [e]
  rfl
theorem want_congr (G : Rg K) {R1 R2 : List (OpR K)} {j : Nat} (h : ∀ i, G.pre j i = true → R1[i]? = R2[i]?) (o : Oper) : ({ G with R := R1 } : Rg K).want j o = ({ G with R := R2 } : Rg K).want j o := by
  unfold Rg.want
  rw [vw_congr G h]
theorem bld_spec {P : Program} {ctr : Ctr K} (G : Rg K) (hlt : ∀ j i, G.pre j i = true → i < j) : ∀ {os : List Oper} {j : Nat} {acc R : List (OpR K)}, bld P ctr G os j acc = some R → acc.length = j →
    ∃ rest, R = acc ++ rest ∧ rest.length = os.length ∧ ∀ (i : Nat) (o : Oper) (r : OpR K), os[i]? = some o → rest[i]? = some r →
      (({ G with R := R } : Rg K).want (j + i) o = some true ∧ aop P ctr (({ G with R := R } : Rg K).vw (j + i)) (G.base + (j + i)) (G.base + G.ops.length) o = some r) ∨ (({ G with R := R } : Rg K).want (j + i) o = some false ∧ r = { out := .tup [] })
  | [], j, acc, R, h, hl => by
    simp [bld] at h; subst h
    exact ⟨[], by simp, rfl, fun i o r h => by simp at h⟩
  | o :: os, j, acc, R, h, hl => by
    have step : ∀ (r : OpR K), bld P ctr G os (j + 1) (acc ++ [r]) = some R → (∀ R', (∀ i, i < j → acc[i]? = R'[i]?) → (({ G with R := R' } : Rg K).want j o = some true ∧ aop P ctr (({ G with R := R' } : Rg K).vw j) (G.base + j) (G.base + G.ops.length) o = some r) ∨ (({ G with R := R' } : Rg K).want j o = some false ∧ r = { out := .tup [] })) →
        ∃ rest, R = acc ++ rest ∧ rest.length = (o :: os).length ∧ ∀ (i : Nat) (o' : Oper) (r : OpR K), (o :: os)[i]? = some o' → rest[i]? = some r →
          (({ G with R := R } : Rg K).want (j + i) o' = some true ∧ aop P ctr (({ G with R := R } : Rg K).vw (j + i)) (G.base + (j + i)) (G.base + G.ops.length) o' = some r) ∨ (({ G with R := R } : Rg K).want (j + i) o' = some false ∧ r = { out := .tup [] }) := by
      intro r h1 h2
      obtain ⟨rest, e1, e2, e3⟩ := bld_spec G hlt h1 (by simp [hl])
      refine ⟨r :: rest, by rw [e1]; simp, by simp [e2], fun i o' r' h3 h4 => ?_⟩
      cases i with
      | zero =>
        simp at h3 h4; subst h3 h4
        exact h2 R (fun i hi => by rw [e1, List.getElem?_append_left (by simp; omega), List.getElem?_append_left (by omega)])
      | succ i =>
        have := e3 i o' r' (by simpa using h3) (by simpa using h4)
        rw [show j + (i + 1) = j + 1 + i by omega]
        exact this
    unfold bld at h
    split at h
    · next hw =>
      split at h
      · next r hr =>
        refine step r h fun R' hR => .inl ⟨?_, ?_⟩
        · rw [← want_congr G (fun i hi => hR i (hlt _ _ hi))]; exact hw
        · rw [← vw_congr G (fun i hi => hR i (hlt _ _ hi))]; exact hr
      · cases h
    · next hw =>
      refine step _ h fun R' hR => .inr ⟨?_, rfl⟩
      rw [← want_congr G (fun i hi => hR i (hlt _ _ hi))]; exact hw
    · cases h
theorem chkDst_spec {G : Rg K} : ∀ {os : List Oper} {j : Nat}, chkDst G os j = true → ∀ (i : Nat) (o : Oper) (t : Nat), os[i]? = some o → o.dst = some t → wr G.ops t = some (j + i) ∧ t < G.S.n
  | [], _, _, i, o, t, h, _ => by simp at h
  | x :: os, j, h, i, o, t, ho, ht => by
    simp only [chkDst, Bool.and_eq_true] at h
    obtain ⟨h1, h3⟩ := h
    cases i with
    | zero =>
      simp at ho; subst ho
      rw [ht] at h1
      simp only [Bool.and_eq_true] at h1
      obtain ⟨h1, h2⟩ := h1
      refine ⟨?_, Nat.le_of_ble_eq_true h2⟩
      split at h1
      · next i e => rw [e, Nat.eq_of_beq_eq_true h1]; rfl
      · cases h1
    | succ i =>
      have := chkDst_spec h3 i o t (by simpa using ho) ht
      rw [show j + (i + 1) = j + 1 + i by omega]
      exact this
theorem chkSto_spec {G : Rg K} : ∀ {rs : List (OpR K)} {j : Nat}, chkSto G rs j = true → ∀ (i : Nat) (r : OpR K) (b : Nat) (B : Blk), rs[i]? = some r → r.stb = some (b, B) → find b G.st = some (j + i)
  | [], _, _, i, r, b, B, h, _ => by simp at h
  | x :: rs, j, h, i, r, b, B, hr, hb => by
    simp only [chkSto, Bool.and_eq_true] at h
    obtain ⟨h1, h3⟩ := h
    cases i with
    | zero =>
      simp at hr; subst hr
      rw [hb] at h1
      dsimp only at h1
      split at h1
      · next i e => rw [e, Nat.eq_of_beq_eq_true h1]; rfl
      · cases h1
    | succ i =>
      have := chkSto_spec h3 i r b B (by simpa using hr) hb
      rw [show j + (i + 1) = j + 1 + i by omega]
      exact this
theorem preS_lt {j i : Nat} (h : preS j i = true) : i < j := Nat.le_of_ble_eq_true h
/-- a region that was reckoned is right -/
theorem region_ok {P : Program} {ctr : Ctr K} {draw : Bool} {ops : List Oper} {base : Nat} {S : Vn K} {G : Rg K} (h : region P ctr draw ops base S = some G) :
    RgOK P ctr G ∧ (∃ R, G = rgOf draw ops base S R) ∧ (draw = true → chkPre (mkMasks ops []) ops 0 = true) := by
  unfold region at h
  split at h
  · next R hR =>
    split at h
    · next hc =>
      cases h
      simp only [Bool.and_eq_true] at hc
      obtain ⟨hp, hd, hs⟩ := hc
      have hpre : draw = true → chkPre (mkMasks ops []) ops 0 = true := fun e => by subst e; exact hp
      have hlt : ∀ j i, (rgOf draw ops base S ([] : List (OpR K))).pre j i = true → i < j := by
        intro j i hji
        cases draw with
        | false => exact preS_lt hji
        | true =>
          change (mkMasks ops []).getD j 0 |>.testBit i at hji
          have : ∀ n, ∀ j, j < n → ∀ i, ((mkMasks ops []).getD j 0).testBit i = true → i < j := by
            intro n
            induction n with
            | zero => intro j h; omega
            | succ n ih =>
              intro j hj i hb
              cases ho : ops[j]? with
              | none =>
                have hl := mkMasks_length ops []
                have hn : (mkMasks ops []).getD j 0 = 0 := by
                  rw [List.getD_eq_getElem?_getD, List.getElem?_eq_none (by rw [hl]; simpa using List.getElem?_eq_none_iff.1 ho)]; rfl
                rw [hn] at hb
                simp at hb
              | some o =>
                obtain ⟨e1, e2⟩ := chkPre_spec (hpre rfl) j o ho
                simp only [Nat.zero_add] at e1 e2
                rw [e2] at hb
                rcases mask_bit _ i _ _ hb with hb | ⟨e, h1, h2⟩
                · simp at hb
                · have hej := e1 e h1
                  rcases h2 with rfl | h2
                  · exact hej
                  · have := ih e (by omega) i h2; omega
          exact this (j + 1) j (by omega) i hji
      obtain ⟨rest, r1, r2, r3⟩ := bld_spec (rgOf draw ops base S []) hlt hR rfl
      simp only [List.nil_append] at r1
      subst r1
      refine ⟨⟨r2, ?_, ?_, ?_, hlt⟩, ⟨R, rfl⟩, hpre⟩
      · intro j o r ho hr
        have := r3 j o r ho hr
        simp only [Nat.zero_add] at this
        exact this
      · intro j o t ho ht
        have := chkDst_spec hd j o t ho ht
        simpa using this
      · intro j r b B hr hb
        have := chkSto_spec hs j r b B hr hb
        simpa using this
    · cases h
  · cases h
end
end Go.Abs

set_option linter.unusedVariables false
set_option linter.unusedSimpArgs false
namespace Go.Abs
open Go Go.RowKit Nm

section
variable {P : Program} {D : Dom} {ctr : Ctr D.K} {E : Env} {w0 w : World} {a : Act} {S : Vn D.K} {ops : Array Oper} {base : Nat} {G : Rg D.K}
theorem at_none (h : RInv D S E w0 a w) (hG : G.S = S) : RInv D (G.at fun _ => false) E w0 a w := by
  subst hG
  refine ⟨⟨fun t => ?_, h.v.df, fun b B hb => h.v.bl b B ?_, fun i m k hk => h.v.sy i m k ?_, h.v.fits, h.v.grown⟩, h.sz⟩
  · have := h.v.sl t
    simp only [Rg.at]
    cases wr G.ops t <;> exact this
  · simp only [Rg.at] at hb
    have cr : G.cr (fun _ => false) b = some B → G.S.bl b = some B := by
      intro hb
      unfold Rg.cr at hb
      split at hb
      · exact hb
      · cases hb
    cases e : find b G.st with
    | none => rw [e] at hb; exact cr hb
    | some i => rw [e] at hb; exact cr hb
  · simp only [Rg.at] at hk
    split at hk
    · exact hk
    · cases hk
theorem RInv.drew (h : RInv D S E w0 a w) : RInv D S E w0 a w.drew :=
  ⟨⟨h.v.sl, h.v.df, h.v.bl, fun i m k hk => let ⟨vs, h1, h2⟩ := h.v.sy i m k hk; ⟨vs, h1, D.keep h2 (grown_drew w none)⟩, ⟨h.v.fits.inj, h.v.fits.low, h.v.fits.own⟩, grown_trans h.v.grown (grown_drew w none)⟩, h.sz⟩
theorem RInv.weak {V V' : Vn D.K} (h : RInv D V E w0 a w) (hn : V'.n = V.n) (ho : V'.ob = V.ob) (h1 : ∀ t, V'.sl t = .any ∨ V'.sl t = V.sl t) (h2 : ∀ b B, V'.bl b = some B → V.bl b = some B) (h3 : ∀ i m k, V'.sy i m = some k → V.sy i m = some k) : RInv D V' E w0 a w :=
  ⟨⟨fun t => by rcases h1 t with e | e <;> rw [e]; exact .inl rfl; exact h.v.sl t, h.v.df, fun b B hb => h.v.bl b B (h2 b B hb), fun i m k hk => h.v.sy i m k (h3 i m k hk), (by rw [ho]; exact h.v.fits), h.v.grown⟩, by rw [hn]; exact h.sz⟩
theorem at_all {d : Nat → Bool} (h : ∀ i, i < G.ops.length → d i = true) (hl : G.R.length = G.ops.length) (k : RInv D (G.at d) E w0 a w) : RInv D (G.at fun _ => true) E w0 a w := by
  have cr : ∀ b B, G.cr (fun _ => true) b = some B → G.cr d b = some B := by
    intro b B hb
    unfold Rg.cr at hb ⊢
    cases e : Nat.blt b G.base with
    | true => rw [e] at hb; exact hb
    | false =>
      rw [e] at hb
      dsimp only at hb ⊢
      by_cases hi : b - G.base < G.ops.length
      · rw [h _ hi]; exact hb
      · have : G.R[b - G.base]? = none := List.getElem?_eq_none (by omega)
        rw [this] at hb; cases hb
  refine k.weak rfl rfl (fun t => .inr ?_) (fun b B hb => ?_) (fun i m kd hk => ?_)
  · simp only [Rg.at]
    cases e : wr G.ops t with
    | none => rfl
    | some i =>
      obtain ⟨o, ho, _⟩ := wr_spec e
      dsimp only
      rw [h i (List.getElem?_eq_some_iff.1 ho).1]
  · simp only [Rg.at] at hb ⊢
    cases e : find b G.st with
    | none => rw [e] at hb; exact cr b B hb
    | some i =>
      rw [e] at hb
      dsimp only at hb ⊢
      by_cases hi : i < G.ops.length
      · rw [h _ hi]; exact hb
      · have : G.R[i]? = none := List.getElem?_eq_none (by omega)
        rw [this] at hb; cases hb
  · simp only [Rg.at] at hk ⊢
    cases e : Nat.blt i G.base with
    | true => rw [e] at hk; exact hk
    | false =>
      rw [e] at hk
      dsimp only at hk ⊢
      by_cases hi : i - G.base < G.ops.length
      · rw [h _ hi]; exact hk
      · have : G.R[i - G.base]? = none := List.getElem?_eq_none (by omega)
        rw [this] at hk; cases hk

/-- a region in the order of its text -/
theorem wp_region_seq (hO : RgOK P ctr G) (hc : CtrOK D P ctr) (hg : D.glob w0) (hops : ops.toList = G.ops) (hpre : G.pre = preS) (hS : G.S = S) (h : RInv D S E w0 a w) (hf : ∀ i, G.base ≤ i → New E i)
    {Q : Exit → Act → World → Prop} (hQ : ∀ E' a' w', RInv D (G.at fun _ => true) E' w0 a' w' → (∀ i, G.base + ops.size ≤ i → New E' i) → Q .normal a' w') {id : Nat} : (Code.region id ops false).wp P Q a w := by
  have hsz : G.ops.length = ops.size := by rw [← hops]; simp
  refine wp_region ?_
  have key : ∀ (n j : Nat) (E : Env) (a : Act) (w : World), j + n = ops.size → Frees G (fun i => Nat.blt i j) E → RInv D (G.at fun i => Nat.blt i j) E w0 a w → wpOps P ops Q (List.range' j n) a w := by
    intro n
    induction n with
    | zero =>
      intro j E a w hj hf h
      refine hQ E a w (at_all (fun i hi => Nat.ble_eq_true_of_le (by omega)) hO.len h) (fun i hi => hf.2 i (by omega))
    | succ n ih =>
      intro j E a w hj hf h
      rw [List.range'_succ, wpOps_cons]
      have hjj : Nat.blt j j = false := by cases e : Nat.blt j j with
        | false => rfl
        | true => have := Nat.le_of_ble_eq_true e; omega
      refine rg_step (d := fun i => Nat.blt i j) hO hc hg hops (fun i hi => by rw [hpre] at hi; exact hi) (fun i hi => ?_) hjj (by omega) hf h (fun E' a' w' hf' h' => ?_)
      · rw [hpre] at hi
        have : j < i := Nat.le_of_ble_eq_true hi
        cases e : Nat.blt i j with
        | false => rfl
        | true => have := Nat.le_of_ble_eq_true e; omega
      · have e : plus (fun i => Nat.blt i j) j = fun i => Nat.blt i (j + 1) := by
          funext i
          by_cases hij : i = j
          · subst hij
            rw [plus_self]
            exact (Nat.ble_eq_true_of_le (by omega)).symm
          · rw [plus_ne hij]
            cases e1 : Nat.blt i j with
            | true => have := Nat.le_of_ble_eq_true e1; exact (Nat.ble_eq_true_of_le (by omega)).symm
            | false =>
              cases e2 : Nat.blt i (j + 1) with
              | false => rfl
              | true =>
                have h3 := Nat.le_of_ble_eq_true e2
                have : Nat.blt i j = true := Nat.ble_eq_true_of_le (by omega)
                rw [this] at e1; cases e1
        rw [e] at hf' h'
        exact ih (j + 1) E' a' w' (by omega) hf' h'
  rw [List.range_eq_range']
  have e0 : (fun i => Nat.blt i 0) = (fun _ => false : Nat → Bool) := by
    funext i
    cases e : Nat.blt i 0 with
    | false => rfl
    | true => have := Nat.le_of_ble_eq_true e; omega
  refine key ops.size 0 E a w (by omega) ⟨fun i _ _ => hf _ (by omega), fun i hi => hf i (by omega)⟩ ?_
  rw [e0]
  exact at_none h hS

theorem count_set {l : Array Bool} {i : Nat} (h : l.getD i true = false) : (l.setIfInBounds i true).toList.count false + 1 = l.toList.count false := by
  have hi : i < l.size := by
    by_cases hi : i < l.size
    · exact hi
    · simp [Array.getD, hi] at h
  have hl : i < l.toList.length := by simpa using hi
  have he : l.toList[i] = false := by simpa [Array.getD, hi] using h
  rw [Array.toList_setIfInBounds, List.count_set hl, he]
  have : 0 < l.toList.count false := List.count_pos_iff.2 (he ▸ List.getElem_mem hl)
  rw [if_pos (by rfl), if_neg (by decide)]
  omega
theorem wpAny_states {md : Region.Mode} {Q : Exit → Act → World → Prop} (I : Array Bool → Act → World → Prop)
    (h : ∀ listed a w, I listed a w → (Region.ready md ops listed = [] → Q .normal a w) ∧ ∀ i ∈ Region.ready md ops listed, wpOp P ops Q i (fun a' w' => I (listed.setIfInBounds i true) a' w') a w) :
    ∀ fuel listed a w, listed.toList.count false ≤ fuel → I listed a w → wpAny P md ops Q fuel listed a w := by
  intro fuel
  induction fuel with
  | zero =>
    intro listed a w hc hI
    have h0 : Region.ready md ops listed = [] := by
      apply List.eq_nil_iff_forall_not_mem.2
      intro i hi
      have := count_set (mem_ready.1 hi).1
      omega
    exact ⟨h0, (h listed a w hI).1 h0⟩
  | succ fuel ih =>
    intro listed a w hc hI
    obtain ⟨h1, h2⟩ := h listed a w hI
    refine ⟨h1, fun i hi => wpOp_mono (fun a' w' h3 => ih _ a' w' ?_ h3) (h2 i hi)⟩
    have := count_set (mem_ready.1 hi).1
    omega
theorem getD_default {listed : Array Bool} {i : Nat} (h : i < listed.size) (b : Bool) : listed.getD i b = listed.getD i false := by simp [Array.getD, h]
/-- a region in whatever order -/
theorem wp_region_all (hm : P.follows .mixedOrders = true) (hO : RgOK P ctr G) (hc : CtrOK D P ctr) (hg : D.glob w0) (hops : ops.toList = G.ops) (hpre : G.pre = preD (mkMasks G.ops [])) (hchk : chkPre (mkMasks G.ops []) G.ops 0 = true) (hS : G.S = S) (h : RInv D S E w0 a w) (hf : ∀ i, G.base ≤ i → New E i)
    {Q : Exit → Act → World → Prop} (hQ : ∀ E' a' w', RInv D (G.at fun _ => true) E' w0 a' w' → (∀ i, G.base + ops.size ≤ i → New E' i) → Q .normal a' w') {id : Nat} : (Code.region id ops true).wp P Q a w := by
  have hsz : G.ops.length = ops.size := by rw [← hops]; simp
  have get : ∀ i : Nat, ops[i]? = G.ops[i]? := fun i => by rw [← hops]; simp
  have hedge : ∀ (j : Nat) (o : Oper), G.ops[j]? = some o → (∀ e ∈ edges o, e < j) ∧ ∀ i, G.pre j i = true → ∃ e ∈ edges o, i = e ∨ G.pre e i = true := by
    intro j o ho
    obtain ⟨e1, e2⟩ := chkPre_spec hchk j o ho
    simp only [Nat.zero_add] at e1 e2
    refine ⟨e1, fun i hi => ?_⟩
    rw [hpre] at hi ⊢
    unfold preD at hi ⊢
    rw [e2] at hi
    rcases mask_bit _ i _ _ hi with hi | hi
    · simp at hi
    · exact hi
  have medge : ∀ (o : Oper) (e : Edge), e ∈ o.after → Region.binds .any e = true → e.on ∈ edges o := by
    intro o e h1 h2
    unfold edges
    exact List.mem_map.2 ⟨e, List.mem_filter.2 ⟨Array.mem_toList_iff.2 h1, h2⟩, rfl⟩
  have edgem : ∀ (o : Oper) (i : Nat), i ∈ edges o → ∃ e ∈ o.after, Region.binds .any e = true ∧ e.on = i := by
    intro o i hi
    unfold edges at hi
    obtain ⟨e, h1, h2⟩ := List.mem_map.1 hi
    obtain ⟨h3, h4⟩ := List.mem_filter.1 h1
    exact ⟨e, Array.mem_toList_iff.1 h3, h4, h2⟩
  refine wp_region_any hm ?_
  refine wpAny_states (fun listed a w => ∃ E, listed.size = ops.size ∧ (∀ j, listed.getD j false = true → ∀ i, G.pre j i = true → listed.getD i false = true) ∧ Frees G (fun i => listed.getD i false) E ∧ RInv D (G.at fun i => listed.getD i false) E w0 a w) ?_ ops.size (Array.replicate ops.size false) a _ (by simp) ?_
  · rintro listed a w ⟨E, hls, hcl, hfr, hI⟩
    refine ⟨fun h0 => ?_, fun j hj => ?_⟩
    · have hall : ∀ n, ∀ i, i < n → i < ops.size → listed.getD i false = true := by
        intro n
        induction n with
        | zero => intro i h; omega
        | succ n ih =>
          intro i hi his
          cases e : listed.getD i false with
          | true => rfl
          | false =>
            exfalso
            have hri : i ∈ Region.ready .any ops listed := by
              refine mem_ready.2 ⟨by rw [getD_default (by omega)]; exact e, ops[i], by simp [his], fun ed he hb => ?_⟩
              have := (hedge i ops[i] (by rw [← get]; simp [his])).1 _ (medge _ ed he hb)
              exact ih _ (by omega) (by omega)
            rw [h0] at hri
            cases hri
      refine hQ E a w (at_all (fun i hi => hall ops.size i (by omega) (by omega)) hO.len hI) (fun i hi => hfr.2 i (by omega))
    · obtain ⟨hj0, o, ho, hed⟩ := mem_ready.1 hj
      have hjl : j < ops.size := (Array.getElem?_eq_some_iff.1 ho).1
      have hjd : listed.getD j false = false := by rw [← getD_default (by omega) true]; exact hj0
      have hclj : ∀ i, G.pre j i = true → listed.getD i false = true := by
        intro i hi
        obtain ⟨e, h1, h2⟩ := (hedge j o (by rw [← get]; exact ho)).2 i hi
        obtain ⟨ed, h3, h4, h5⟩ := edgem o e h1
        have h6 := hed ed h3 h4
        rw [h5] at h6
        rcases h2 with rfl | h2
        · exact h6
        · exact hcl e h6 i h2
      refine rg_step (d := fun i => listed.getD i false) hO hc hg hops hclj (fun i hi => ?_) hjd (by omega) hfr hI (fun E' a' w' hf' h' => ⟨E', ?_⟩)
      · cases e : listed.getD i false with
        | false => rfl
        | true => have := hcl i e j hi; rw [hjd] at this; cases this
      · have e : plus (fun i => listed.getD i false) j = fun i => (listed.setIfInBounds j true).getD i false := by
          funext i
          by_cases hij : i = j
          · subst hij
            rw [plus_self]
            have : i < listed.size := by omega
            simp [this]
          · rw [plus_ne hij, getD_set_ne false (Ne.symm hij)]
        rw [e] at hf' h'
        refine ⟨by simpa using hls, fun j' hj' i hi => ?_, hf', h'⟩
        by_cases hjj : j' = j
        · subst hjj
          exact getD_set_true (hclj i hi)
        · rw [getD_set_ne false (Ne.symm hjj)] at hj'
          exact getD_set_true (hcl j' hj' i hi)
  · refine ⟨E, by simp, ?_, ?_, ?_⟩
    · intro j hj
      simp [Array.getD] at hj
    · exact ⟨fun i _ _ => hf _ (by omega), fun i hi => hf i (by omega)⟩
    · have e0 : (fun i => (Array.replicate ops.size false).getD i false) = (fun _ => false : Nat → Bool) := by
        funext i; simp [Array.getD]
      rw [e0]
      exact at_none h.drew hS
end
end Go.Abs

set_option linter.unusedVariables false
set_option linter.unusedSimpArgs false
namespace Go.Abs
open Go Go.RowKit Nm

inductive Ext where
  | norm
  | exit (id : Nat)
  | ret
def Ext.to : Ext → Exit
  | .norm => .normal
  | .exit id => .exit id
  | .ret => .ret
structure St (K : Type) where
  x : Ext
  V : Vn K
  b : Nat
section
variable {K : Type}
def iter (f : Vn K → Nat → Option (St K)) : Nat → Vn K → Nat → Option (St K)
  | 0, _, _ => none
  | n + 1, V, b => match f V b with
    | some s => match s.x with
      | .norm => iter f n s.V s.b
      | _ => some s
    | none => none
def acode (P : Program) (ctr : Ctr K) (fuel : Nat) : Code → Vn K → Nat → Option (St K)
  | .skip, V, b => some ⟨.norm, V, b⟩
  | .label _, V, b => some ⟨.norm, V, b⟩
  | .region _ ops draw, V, b => match region P ctr draw ops.toList b V with
    | some G => some ⟨.norm, G.at (fun _ => true), b + ops.size⟩
    | none => none
  | .seq x y, V, b => match acode P ctr fuel x V b with
    | some s => match s.x with
      | .norm => acode P ctr fuel y s.V s.b
      | _ => some s
    | none => none
  | .cond c x y, V, b => match bool? (aeval V.toVw c) with
    | some true => acode P ctr fuel x V b
    | some false => acode P ctr fuel y V b
    | none => none
  | .block id x, V, b => match acode P ctr fuel x V b with
    | some s => match s.x with
      | .exit i => match Nat.beq i id with
        | true => some ⟨.norm, s.V, s.b⟩
        | false => some s
      | _ => some s
    | none => none
  | .loop x, V, b => iter (fun V b => acode P ctr fuel x V b) fuel V b
  | .exit i, V, b => some ⟨.exit i, V, b⟩
  | .ret, V, b => some ⟨.ret, V, b⟩
  | _, _, _ => none
end

section
variable {P : Program} {D : Dom} {ctr : Ctr D.K} {w0 : World}
/-- a statement does what was reckoned -/
theorem acode_sound (hm : P.follows .mixedOrders = true) (hc : CtrOK D P ctr) (hg : D.glob w0) (fuel : Nat) : ∀ (c : Code) (V : Vn D.K) (b : Nat) (s : St D.K), acode P ctr fuel c V b = some s →
    ∀ (E : Env) (a : Act) (w : World), RInv D V E w0 a w → (∀ i, b ≤ i → New E i) → ∀ Q : Exit → Act → World → Prop, (∀ E' a' w', RInv D s.V E' w0 a' w' → (∀ i, s.b ≤ i → New E' i) → Q s.x.to a' w') → c.wp P Q a w := by
  intro c
  induction c with
  | skip => intro V b s k E a w h hf Q hQ; simp [acode] at k; subst k; exact wp_skip (hQ E a w h hf)
  | label l => intro V b s k E a w h hf Q hQ; simp [acode] at k; subst k; exact wp_label (hQ E a w h hf)
  | exit i => intro V b s k E a w h hf Q hQ; simp [acode] at k; subst k; exact wp_exit (hQ E a w h hf)
  | ret => intro V b s k E a w h hf Q hQ; simp [acode] at k; subst k; exact wp_ret (hQ E a w h hf)
  | region id ops draw =>
    intro V b s k E a w h hf Q hQ
    simp only [acode] at k
    split at k
    · next G hG =>
      cases k
      obtain ⟨hO, ⟨R, rfl⟩, hp⟩ := region_ok hG
      cases draw with
      | false => exact wp_region_seq hO hc hg rfl rfl rfl h hf fun E' a' w' h' hf' => hQ E' a' w' h' hf'
      | true => exact wp_region_all hm hO hc hg rfl rfl (hp rfl) rfl h hf fun E' a' w' h' hf' => hQ E' a' w' h' hf'
    · cases k
  | seq x y ihx ihy =>
    intro V b s k E a w h hf Q hQ
    simp only [acode] at k
    split at k
    · next s1 h1 =>
      refine wp_seq (ihx V b s1 h1 E a w h hf _ fun E' a' w' h' hf' => ?_)
      cases e : s1.x with
      | norm =>
        rw [e] at k
        exact ihy _ _ s k E' a' w' h' hf' Q hQ
      | exit i => rw [e] at k; cases k; have := hQ E' a' w' h' hf'; rw [e] at this; exact this
      | ret => rw [e] at k; cases k; have := hQ E' a' w' h' hf'; rw [e] at this; exact this
    · cases k
  | cond c x y ihx ihy =>
    intro V b s k E a w h hf Q hQ
    simp only [acode] at k
    split at k
    · next e => exact wp_cond_true (bool?_rel e (aeval_rel h.v c)) (ihx V b s k E a w h hf Q hQ)
    · next e => exact wp_cond_false (bool?_rel e (aeval_rel h.v c)) (ihy V b s k E a w h hf Q hQ)
    · cases k
  | block id x ihx =>
    intro V b s k E a w h hf Q hQ
    simp only [acode] at k
    split at k
    · next s1 h1 =>
      refine wp_block (ihx V b s1 h1 E a w h hf _ fun E' a' w' h' hf' => ?_)
      cases e : s1.x with
      | norm => rw [e] at k; cases k; have := hQ E' a' w' h' hf'; rw [e] at this; exact this
      | exit i =>
        rw [e] at k
        dsimp only at k
        show (if i = id then Q .normal a' w' else Q (.exit i) a' w')
        cases e2 : Nat.beq i id with
        | true =>
          rw [e2] at k
          cases k
          rw [if_pos (Nat.eq_of_beq_eq_true e2)]
          exact hQ E' a' w' h' hf'
        | false =>
          rw [e2] at k
          cases k
          rw [if_neg (fun e3 => by subst e3; simp at e2)]
          have := hQ E' a' w' h' hf'; rw [e] at this; exact this
      | ret => rw [e] at k; cases k; have := hQ E' a' w' h' hf'; rw [e] at this; exact this
    · cases k
  | loop x ihx =>
    intro V b s k E a w h hf Q hQ
    simp only [acode] at k
    have key : ∀ (n : Nat) (V : Vn D.K) (b : Nat), iter (fun V b => acode P ctr fuel x V b) n V b = some s → ∀ (E : Env) (a : Act) (w : World), RInv D V E w0 a w → (∀ i, b ≤ i → New E i) → Code.rounds P x Q n a w := by
      intro n
      induction n with
      | zero => intro V b k; simp [iter] at k
      | succ n ih =>
        intro V b k E a w h hf
        rw [rounds_succ]
        simp only [iter] at k
        split at k
        · next s1 h1 =>
          refine ihx V b s1 h1 E a w h hf _ fun E' a' w' h' hf' => ?_
          cases e : s1.x with
          | norm => rw [e] at k; exact ih _ _ k E' a' w' h' hf'
          | exit i => rw [e] at k; cases k; have := hQ E' a' w' h' hf'; rw [e] at this; exact this
          | ret => rw [e] at k; cases k; have := hQ E' a' w' h' hf'; rw [e] at this; exact this
        · cases k
    exact wp_loop_rounds fuel (key fuel V b k E a w h hf)
  | _ => intro V b s k; simp [acode] at k
end

section
variable {K : Type}
def aresult (P : Program) (V : Vw K) : ResultVar → Option AV
  | .tmp t => some (V.sl t)
  | .cell t ty => do
    let (b, o) ← ptr? (V.sl t)
    let B ← V.bl b
    aPart P ty B.cells o
def aresults (P : Program) (V : Vw K) : List ResultVar → Option (List AV)
  | [] => some []
  | r :: rs => do
    let x ← aresult P V r
    let l ← aresults P V rs
    some (x :: l)
def pairs : List AV → Option (List (Bool × List AC))
  | [] => some []
  | .val a cs :: l => (pairs l).map ((a, cs) :: ·)
  | _ => none
def joined : List AV → Option AV
  | [x] => some x
  | l => (pairs l).map .tup
/-- the symbols of a result get new numbers -/
def pos (i m : Nat) : List (Nat × Nat) → Nat → Option Nat
  | [], _ => none
  | (j, n) :: l, x => match Nat.beq i j && Nat.beq m n with
    | true => some x
    | false => pos i m l (x + 1)
def symsC (tab : List (Nat × Nat)) : List AC → List (Nat × Nat)
  | [] => tab
  | .sym i m _ :: cs => match pos i m tab 0 with
    | some _ => symsC tab cs
    | none => symsC (tab ++ [(i, m)]) cs
  | _ :: cs => symsC tab cs
def symsP (tab : List (Nat × Nat)) : List (Bool × List AC) → List (Nat × Nat)
  | [] => tab
  | (_, cs) :: l => symsP (symsC tab cs) l
def symsA : AV → List (Nat × Nat)
  | .any => []
  | .val _ cs => symsC [] cs
  | .tup l => symsP [] l
def renC (tab : List (Nat × Nat)) (nid : Nat) : List AC → Option (List AC)
  | [] => some []
  | .lit v :: cs => (renC tab nid cs).map (.lit v :: ·)
  | .sym i m k :: cs => match pos i m tab 0 with
    | some x => (renC tab nid cs).map (.sym nid x k :: ·)
    | none => none
  | _ => none
def renP (tab : List (Nat × Nat)) (nid : Nat) : List (Bool × List AC) → Option (List (Bool × List AC))
  | [] => some []
  | (a, cs) :: l => do
    let cs' ← renC tab nid cs
    let l' ← renP tab nid l
    some ((a, cs') :: l')
def renA (tab : List (Nat × Nat)) (nid : Nat) : AV → Option AV
  | .any => some .any
  | .val a cs => (renC tab nid cs).map (.val a)
  | .tup l => (renP tab nid l).map .tup
def kinds (sy : Nat → Nat → Option K) : List (Nat × Nat) → Option (List K)
  | [] => some []
  | (i, m) :: l => do
    let k ← sy i m
    let ks ← kinds sy l
    some (k :: ks)
def noPtrC : AC → Bool
  | .ptr _ _ => false
  | .sli _ _ _ _ => false
  | _ => true
def noPtr : AV → Bool
  | .any => true
  | .val _ cs => cs.all noPtrC
  | .tup l => l.all fun p => p.2.all noPtrC
def slotOf : List AV → Nat → AV
  | [], _ => .any
  | x :: _, 0 => x
  | _ :: l, t + 1 => slotOf l t
def start (args : List AV) (sy : Nat → Nat → Option K) (bl : Nat → Option Blk) (n ob : Nat) : Vn K := { sl := slotOf args, bl := bl, sy := sy, n := n, ob := ob }
/-- the block that a value points into: a slice, or a tuple that begins with one -/
def slB : AV → Option Nat
  | .val false [.sli b _ _ _] => some b
  | .tup ((false, [.sli b _ _ _]) :: _) => some b
  | _ => none
def renS (tab : List (Nat × Nat)) (nid b : Nat) : AV → Option AV
  | .val false [.sli c o n k] => match Nat.beq c b with
    | true => some (.val false [.sli nid o n k])
    | false => none
  | .tup ((false, [.sli c o n k]) :: l) => match Nat.beq c b with
    | true => (renP tab nid l).map fun l' => .tup ((false, [.sli nid o n k]) :: l')
    | false => none
  | _ => none
/-- a function by its text -/
def afn (P : Program) (ctr : Ctr K) (fuel : Nat) (fn : Func) (args : List AV) (sy : Nat → Nat → Option K) (bl : Nat → Option Blk) (nid fr : Nat) : Option (Res K) := do
  let c ← fn.body
  chk (Nat.ble args.length fn.ntmps)
  let s ← acode P ctr fuel c (start args sy bl fn.ntmps fr) fr
  chk (match s.x with | .exit _ => false | _ => true)
  let l ← aresults P s.V.toVw fn.results.toList
  let x ← joined l
  match slB x with
  | none => do
    let ks ← kinds s.V.sy (symsA x)
    let y ← renA (symsA x) nid x
    some ⟨y, ks, none⟩
  | some b => do
    chk (Nat.ble s.V.ob b)
    let B ← s.V.bl b
    let tab := symsC (symsA x) B.cells
    let ks ← kinds s.V.sy tab
    let y ← renS tab nid b x
    let cs ← renC tab nid B.cells
    some ⟨y, ks, some ⟨B.ty, cs⟩⟩
/-- calls by contract, and of the functions of the table by their text -/
def lev (P : Program) (base : Ctr K) (tab : List (FuncId × Func)) (fuel : Nat) : Nat → Ctr K
  | 0 => base
  | n + 1 => fun f args sy bl nid fr => match find f tab with
    | some fn => afn P (lev P base tab fuel n) fuel fn args sy bl nid fr
    | none => base f args sy bl nid fr
end
theorem find_mem {α : Type} {b : Nat} {x : α} : ∀ {l : List (Nat × α)}, find b l = some x → (b, x) ∈ l
  | [], h => by simp [find] at h
  | (c, y) :: l, h => by
    unfold find at h
    split at h
    · next e => cases h; rw [Nat.eq_of_beq_eq_true e]; simp
    · exact List.mem_cons_of_mem _ (find_mem h)
theorem pos_spec {i m : Nat} : ∀ {l : List (Nat × Nat)} {x y : Nat}, pos i m l x = some y → x ≤ y ∧ l[y - x]? = some (i, m)
  | [], x, y, h => by simp [pos] at h
  | (j, n) :: l, x, y, h => by
    unfold pos at h
    split at h
    · next e =>
      cases h
      simp only [Bool.and_eq_true] at e
      rw [Nat.eq_of_beq_eq_true e.1, Nat.eq_of_beq_eq_true e.2]
      simp
    · obtain ⟨h1, h2⟩ := pos_spec h
      refine ⟨by omega, ?_⟩
      rw [show y - x = (y - (x + 1)) + 1 by omega]
      simpa using h2
theorem slotOf_get : ∀ (l : List AV) (t : Nat), slotOf l t = .any ∨ l[t]? = some (slotOf l t)
  | [], _ => .inl rfl
  | x :: _, 0 => .inr rfl
  | y :: l, t + 1 => by rcases slotOf_get l t with h | h; exact .inl h; exact .inr (by show (y :: l)[t + 1]? = some (slotOf l t); simpa using h)

section
variable {P : Program} {D : Dom}
theorem noPtrC_rel {E : Env} {c : AC} {u : Value} (h : c.rel E u) (k : noPtrC c = true) (β : Nat → Option Nat) : c.rel { E with β := β } u := by
  cases c with
  | lit v => exact h
  | sym i j n => exact h
  | ptr b o => cases k
  | sli b o n c => cases k
  | any => exact h
theorem noPtr_rel {E : Env} {x : AV} {u : Value} (h : x.rel E u) (k : noPtr x = true) (β : Nat → Option Nat) : x.rel { E with β := β } u := by
  have cell : ∀ {cs : List AC} {vs : List Value}, cs.all noPtrC = true → rels E cs vs → rels { E with β := β } cs vs := by
    intro cs vs h1 h2
    exact ⟨h2.1, fun i c v e1 e2 => noPtrC_rel (h2.2 i c v e1 e2) (List.all_eq_true.1 h1 c (List.mem_of_getElem? e1)) β⟩
  have one : ∀ {p : Bool × List AC} {u : Value}, p.2.all noPtrC = true → orel E p u → orel { E with β := β } p u := by
    rintro ⟨a, cs⟩ u h1 h2
    cases a with
    | true => obtain ⟨vs, e1, e2⟩ := h2; exact ⟨vs, e1, cell h1 e2⟩
    | false => obtain ⟨c, rfl, e2⟩ := h2; exact ⟨c, rfl, noPtrC_rel e2 (by simpa using h1) β⟩
  cases x with
  | any => trivial
  | val a cs => exact one (p := (a, cs)) k h
  | tup l =>
    obtain ⟨vs, e1, e2⟩ := h
    exact ⟨vs, e1, e2.1, fun i p v h1 h2 => one (List.all_eq_true.1 k p (List.mem_of_getElem? h1)) (e2.2 i p v h1 h2)⟩
/-- the symbols that a table names, as the caller sees them -/
def rowsOf (E : Env) (tab : List (Nat × Nat)) : List (List Value) := tab.map fun p => (E.σ p.1 p.2).getD []
theorem renC_rel {E F : Env} {tab : List (Nat × Nat)} {nid : Nat} : ∀ {cs cs' : List AC} {vs : List Value}, renC tab nid cs = some cs' → rels E cs vs → rels (F.addS nid (rowsOf E tab)) cs' vs
  | [], cs', vs, h, k => by
    simp [renC] at h; subst h
    have := k.1
    simp at this
    rw [List.eq_nil_of_length_eq_zero this.symm]; exact F2.nil
  | c :: cs, cs', [], h, k => by have := k.1; simp at this
  | .lit v :: cs, cs', u :: us, h, k => by
    simp only [renC, Option.map_eq_some_iff] at h
    obtain ⟨l, h1, rfl⟩ := h
    exact F2.cons k.head (renC_rel h1 k.tail)
  | .sym i m n :: cs, cs', u :: us, h, k => by
    unfold renC at h
    split at h
    · next x hx =>
      simp only [Option.map_eq_some_iff] at h
      obtain ⟨l, h1, rfl⟩ := h
      refine F2.cons ?_ (renC_rel h1 k.tail)
      obtain ⟨⟨r, e1, e2⟩, e3⟩ := k.head
      obtain ⟨_, hp⟩ := pos_spec hx
      simp only [Nat.sub_zero] at hp
      refine ⟨⟨r, ?_, e2⟩, e3⟩
      show (if nid = nid then (rowsOf E tab)[x]? else _) = _
      rw [if_pos rfl]
      simp [rowsOf, hp, e1]
    · cases h
  | .ptr _ _ :: _, _, _ :: _, h, _ => by simp [renC] at h
  | .sli _ _ _ _ :: _, _, _ :: _, h, _ => by simp [renC] at h
  | .any :: _, _, _ :: _, h, _ => by simp [renC] at h
theorem renO_rel {E F : Env} {tab : List (Nat × Nat)} {nid : Nat} {a : Bool} {cs cs' : List AC} {u : Value} (h : renC tab nid cs = some cs') (k : orel E (a, cs) u) : orel (F.addS nid (rowsOf E tab)) (a, cs') u := by
  cases a with
  | true => obtain ⟨vs, e1, e2⟩ := k; exact ⟨vs, e1, renC_rel h e2⟩
  | false =>
    obtain ⟨c, rfl, e2⟩ := k
    have hr : rels E [c] [u] := F2.cons e2 F2.nil
    have := renC_rel (F := F) h hr
    match cs', this with
    | [c'], this => exact ⟨c', rfl, this.head⟩
    | [], this => have := this.1; simp at this
    | _ :: _ :: _, this => have := this.1; simp at this
theorem renP_rel {E F : Env} {tab : List (Nat × Nat)} {nid : Nat} : ∀ {l l' : List (Bool × List AC)} {vs : List Value}, renP tab nid l = some l' → F2 (orel E) l vs → F2 (orel (F.addS nid (rowsOf E tab))) l' vs
  | [], l', vs, h, k => by
    simp [renP] at h; subst h
    have := k.1
    simp at this
    rw [List.eq_nil_of_length_eq_zero this.symm]; exact F2.nil
  | p :: l, l', [], h, k => by have := k.1; simp at this
  | (a, cs) :: l, l', u :: us, h, k => by
    simp only [renP, Option.bind_eq_bind, Option.bind_eq_some_iff] at h
    obtain ⟨cs', h1, l1, h2, h3⟩ := h
    cases h3
    exact F2.cons (renO_rel h1 k.head) (renP_rel h2 k.tail)
theorem renA_rel {E F : Env} {tab : List (Nat × Nat)} {nid : Nat} {x y : AV} {u : Value} (h : renA tab nid x = some y) (k : x.rel E u) : y.rel (F.addS nid (rowsOf E tab)) u := by
  cases x with
  | any => simp [renA] at h; subst h; trivial
  | val a cs =>
    simp only [renA, Option.map_eq_some_iff] at h
    obtain ⟨cs', h1, rfl⟩ := h
    exact renO_rel h1 k
  | tup l =>
    simp only [renA, Option.map_eq_some_iff] at h
    obtain ⟨l', h1, rfl⟩ := h
    obtain ⟨vs, e1, e2⟩ := k
    exact ⟨vs, e1, renP_rel h1 e2⟩
theorem kinds_spec {E : Env} {w : World} {sy : Nat → Nat → Option D.K} (hs : ∀ i m k, sy i m = some k → ∃ vs, E.σ i m = some vs ∧ D.den k w vs) : ∀ {tab : List (Nat × Nat)} {ks : List D.K}, kinds sy tab = some ks → ∀ (x : Nat) (k : D.K), ks[x]? = some k → ∃ vs, (rowsOf E tab)[x]? = some vs ∧ D.den k w vs
  | [], ks, h, x, k, hk => by simp [kinds] at h; subst h; simp at hk
  | (i, m) :: tab, ks, h, x, k, hk => by
    simp only [kinds, Option.bind_eq_bind, Option.bind_eq_some_iff] at h
    obtain ⟨k0, h1, ks', h2, h3⟩ := h
    cases h3
    cases x with
    | zero =>
      simp at hk; subst hk
      obtain ⟨vs, e1, e2⟩ := hs i m k0 h1
      exact ⟨vs, by simp [rowsOf, e1], e2⟩
    | succ x =>
      obtain ⟨vs, e1, e2⟩ := kinds_spec hs h2 x k (by simpa using hk)
      exact ⟨vs, by simpa [rowsOf] using e1, e2⟩
variable {E : Env} {w0 w : World} {a : Act}
def resOf (tmps : Array Value) : ResultVar → Sem Value
  | .tmp t => pure (tmps.getD t undef)
  | .cell t ty => do loadVar ty (← asAddr (tmps.getD t undef))
theorem aresult_run {V : Vw D.K} (h : VInv D V E w0 a w) {r : ResultVar} {x : AV} (k : aresult P V r = some x) :
    ∃ v, (resOf a.tmps r).run P w = .ok v w ∧ x.rel E v := by
  cases r with
  | tmp t =>
    simp [aresult] at k; subst k
    exact ⟨_, Sem.run_pure .., aeval_rel h (.tmp t)⟩
  | cell t ty =>
    simp only [aresult, Option.bind_eq_bind, Option.bind_eq_some_iff] at k
    obtain ⟨⟨b, o⟩, h1, B, h2, h3⟩ := k
    obtain ⟨G, g1, g2⟩ := ptr?_rel h1 (aeval_rel h (.tmp t))
    obtain ⟨G', vs, e1, e2, e3⟩ := h.bl b B h2
    rw [g1] at e1; cases e1
    obtain ⟨v, r1, r2⟩ := aPart_load h3 e2 e3
    have g2' : a.tmps.getD t undef = .pointer (some ⟨G, o, none⟩) := g2
    exact ⟨v, by simp only [resOf, g2', asAddr, Sem.run_bind, Sem.run_pure, Result.andThen_ok, r1], r2⟩
theorem aresults_run {V : Vw D.K} (h : VInv D V E w0 a w) : ∀ {rs : List ResultVar} {l : List AV}, aresults P V rs = some l →
    ∃ vs : List Value, (rs.mapM (resOf a.tmps)).run P w = .ok vs w ∧ F2 (AV.rel E) l vs
  | [], l, k => by simp [aresults] at k; subst k; exact ⟨[], by simp [Sem.run_pure], F2.nil⟩
  | r :: rs, l, k => by
    simp only [aresults, Option.bind_eq_bind, Option.bind_eq_some_iff] at k
    obtain ⟨x, h1, l', h2, h3⟩ := k
    cases h3
    obtain ⟨v, r1, r2⟩ := aresult_run (P := P) h h1
    obtain ⟨vs, r3, r4⟩ := aresults_run h h2
    exact ⟨v :: vs, by simp only [List.mapM_cons, Sem.run_bind, r1, Result.andThen_ok, r3, Sem.run_pure], F2.cons r2 r4⟩
theorem pairs_rel {E : Env} : ∀ {l : List AV} {ps : List (Bool × List AC)} {vs : List Value}, pairs l = some ps → F2 (AV.rel E) l vs → F2 (orel E) ps vs
  | [], ps, vs, h, k => by
    simp [pairs] at h; subst h
    have := k.1; simp at this
    rw [List.eq_nil_of_length_eq_zero this.symm]; exact F2.nil
  | x :: l, ps, [], h, k => by have := k.1; simp at this
  | .val a cs :: l, ps, v :: vs, h, k => by
    simp only [pairs, Option.map_eq_some_iff] at h
    obtain ⟨ps', h1, rfl⟩ := h
    exact F2.cons k.head (pairs_rel h1 k.tail)
  | .any :: _, _, _ :: _, h, _ => by simp [pairs] at h
  | .tup _ :: _, _, _ :: _, h, _ => by simp [pairs] at h
theorem joined_rel {E : Env} {l : List AV} {x : AV} {vs : List Value} (h : joined l = some x) (k : F2 (AV.rel E) l vs) : x.rel E (if h : vs.toArray.size = 1 then vs.toArray[0] else .tuple vs.toArray) := by
  match l, vs, h, k with
  | [y], [v], h, k => simp [joined] at h; subst h; simpa using k.head
  | [], [], h, k =>
    simp only [joined, Option.map_eq_some_iff] at h
    obtain ⟨ps, h1, rfl⟩ := h
    exact ⟨[], by simp, pairs_rel h1 k⟩
  | y :: z :: l, u :: v :: vs, h, k =>
    simp only [joined, Option.map_eq_some_iff] at h
    obtain ⟨ps, h1, rfl⟩ := h
    exact ⟨u :: v :: vs, by simp, pairs_rel h1 k⟩
  | [], _ :: _, _, k => have := k.1; simp at this
  | [_], [], _, k => have := k.1; simp at this
  | [_], _ :: _ :: _, _, k => have := k.1; simp at this
  | _ :: _ :: _, [], _, k => have := k.1; simp at this
  | _ :: _ :: _, [_], _, k => have := k.1; simp at this
theorem renS_rel {E F : Env} {tab : List (Nat × Nat)} {nid b G : Nat} {x y : AV} {u : Value} (hG : E.β b = some G) (h : renS tab nid b x = some y) (k : x.rel E u) : y.rel ((F.addB nid G).addS nid (rowsOf E tab)) u := by
  have one : ∀ {c o n m : Nat} {u : Value}, Nat.beq c b = true → orel E (false, [.sli c o n m]) u → orel ((F.addB nid G).addS nid (rowsOf E tab)) (false, [.sli nid o n m]) u := by
    rintro c o n m u hc ⟨z, hz, hr⟩
    have := Nat.eq_of_beq_eq_true hc
    subst this
    cases hz
    obtain ⟨G', h1, rfl⟩ := hr
    rw [hG] at h1
    cases h1
    exact ⟨_, rfl, G, if_pos rfl, rfl⟩
  unfold renS at h
  split at h
  · split at h
    · next hc => cases h; exact one hc k
    · cases h
  · split at h
    · next hc =>
      simp only [Option.map_eq_some_iff] at h
      obtain ⟨l', h1, rfl⟩ := h
      obtain ⟨vs, e1, e2⟩ := k
      match vs, e2 with
      | v :: vs, e2 => exact ⟨v :: vs, e1, F2.cons (one hc e2.head) (renP_rel h1 e2.tail)⟩
      | [], e2 => have := e2.1; simp at this
    · cases h
  · cases h
theorem afn_ok (hm : P.follows .mixedOrders = true) {ctr : Ctr D.K} (hc : CtrOK D P ctr) {fuel : Nat} {f : FuncId} {fn : Func} (hf : P.funcs[f]? = some fn) (hcall : ∀ xs w, (callFunc f xs).run P w = .ok (.enter f xs) w)
    {args : List AV} {sy : Nat → Nat → Option D.K} {bl : Nat → Option Blk} {nid fr : Nat} {r : Res D.K} (h : afn P ctr fuel fn args sy bl nid fr = some r) : FnOK D P f args sy bl nid fr r := by
  simp only [afn, Option.bind_eq_bind, Option.bind_eq_some_iff] at h
  obtain ⟨c, hb, u1, h1, s, h2, u2, h3, l, h4, x, h5, h⟩ := h
  rw [chk_some] at h1
  rw [chk_some] at h3
  have hle := Nat.le_of_ble_eq_true h1
  refine ⟨hcall, fun E w vals hargs hsy hnid hfr hgl hbl hinj hlow => ?_⟩
  have hlen : vals.length = args.length := hargs.1.symm
  refine calls_of_wp hf hb ?_
  have hinv : RInv D (start args sy bl fn.ntmps fr) E w { tmps := vals.toArray ++ Array.replicate (fn.ntmps - vals.toArray.size) undef, defers := [] } w := by
    refine ⟨⟨fun t => ?_, rfl, hbl, hsy, ⟨hinj, hlow, fun i G hi e => (by rw [(hfr i hi).1] at e; cases e)⟩, grown_refl _ _⟩, by simp [start]; omega⟩
    rcases slotOf_get args t with e | e
    · exact .inl e
    · obtain ⟨v, hv, hr⟩ := hargs.get e
      refine .inr ⟨v, ?_, hr⟩
      have hlt : t < vals.length := (List.getElem?_eq_some_iff.1 hv).1
      rw [Array.getElem?_append_left (by simpa using hlt)]
      simpa using hv
  refine acode_sound hm hc hgl fuel c _ fr s h2 E _ w hinv hfr _ fun E' a' w' hI hN => ?_
  obtain ⟨vs, r1, r2⟩ := aresults_run (P := P) hI.v h4
  have hres : (results fn a'.tmps).run P w' = .ok (if h : vs.toArray.size = 1 then vs.toArray[0] else .tuple vs.toArray) w' := by
    unfold results
    have e : (fun r => (match r with | .tmp t => pure (a'.tmps.getD t undef) | .cell a t => do loadVar t (← asAddr (a'.tmps.getD a undef)) : Sem Value)) = resOf a'.tmps := by
      funext r; cases r <;> rfl
    change (do let vs ← fn.results.mapM (fun r => (match r with | .tmp t => pure (a'.tmps.getD t undef) | .cell a t => do loadVar t (← asAddr (a'.tmps.getD a undef)) : Sem Value)); pure (if h : vs.size = 1 then vs[0] else .tuple vs) : Sem Value).run P w' = _
    rw [e]
    rw [Array.mapM_eq_mapM_toList, map_eq_pure_bind, Sem.run_bind, Sem.run_bind, r1]
    simp only [Result.andThen_ok, Sem.run_pure]
  have hpost : a'.defers = [] ∧ ∃ v, (results fn a'.tmps).run P w' = .ok v w' ∧ w.grownBy w' none ∧ ∃ (l : List (List Value)) (v' : Value), Ending.returned v = .returned v' ∧ (∀ (m : Nat) (k : D.K), r.news[m]? = some k → ∃ vs, l[m]? = some vs ∧ D.den k w' vs) ∧
      ((r.nb = none ∧ r.out.rel (E.addS nid l) v') ∨ ∃ (G : Nat) (B : Blk), r.nb = some B ∧ w.heap.size ≤ G ∧ r.out.rel ((E.addB nid G).addS nid l) v' ∧ Row ((E.addB nid G).addS nid l) w' nid B) := by
    have hj := joined_rel h5 r2
    split at h
    · simp only [Option.bind_eq_some_iff] at h
      obtain ⟨ks, h6, y, h7, h8⟩ := h
      cases h8
      exact ⟨hI.v.df, _, hres, hI.v.grown, rowsOf E' (symsA x), _, rfl, kinds_spec hI.v.sy h6, .inl ⟨rfl, renA_rel h7 hj⟩⟩
    · next b hsl =>
      simp only [Option.bind_eq_some_iff] at h
      obtain ⟨_, k1, B, k2, ks, k3, y, k4, cs, k5, k6⟩ := h
      cases k6
      rw [chk_some] at k1
      obtain ⟨G, vs, g1, g2, g3⟩ := hI.v.bl b B k2
      refine ⟨hI.v.df, _, hres, hI.v.grown, rowsOf E' (symsC (symsA x) B.cells), _, rfl, kinds_spec hI.v.sy k3, .inr ⟨G, _, rfl, hI.v.fits.own b G (Nat.le_of_ble_eq_true k1) g1, ?_, ?_⟩⟩
      · exact renS_rel g1 k4 hj
      · exact ⟨G, vs, if_pos rfl, g2, renC_rel k5 g3⟩
  cases e : s.x with
  | norm => exact hpost
  | ret => exact hpost
  | exit i => rw [e] at h3; cases h3
def TabOK (P : Program) (tab : List (FuncId × Func)) : Prop := ∀ f fn, (f, fn) ∈ tab → P.funcs[f]? = some fn ∧ ∀ xs w, (callFunc f xs).run P w = .ok (.enter f xs) w
theorem lev_ok (hm : P.follows .mixedOrders = true) {base : Ctr D.K} (hc : CtrOK D P base) {tab : List (FuncId × Func)} (ht : TabOK P tab) (fuel : Nat) : ∀ n, CtrOK D P (lev P base tab fuel n)
  | 0 => hc
  | n + 1 => by
    intro f args sy bl nid fr r h
    simp only [lev] at h
    split at h
    · next fn hfn =>
      obtain ⟨h1, h2⟩ := ht f fn (find_mem hfn)
      exact afn_ok hm (lev_ok hm hc ht fuel n) h1 h2 h
    · exact hc _ _ _ _ _ _ _ h
end
end Go.Abs

set_option linter.unusedVariables false
set_option linter.unusedSimpArgs false
namespace Go.Abs
open Go Go.RowKit Nm

section
variable {K : Type}
/-- the first n statements of a row -/
def stepN (P : Program) (ctr : Ctr K) (fuel : Nat) : Nat → Code → Vn K → Nat → Option (St K)
  | 0, _, V, b => some ⟨.norm, V, b⟩
  | n + 1, .seq x y, V, b => match acode P ctr fuel x V b with
    | some s => match s.x with
      | .norm => stepN P ctr fuel n y s.V s.b
      | _ => none
    | none => none
  | _ + 1, _, _, _ => none
def restN : Nat → Code → Code
  | 0, c => c
  | n + 1, .seq _ y => restN n y
  | _ + 1, c => c
/-- what is kept: slots, blocks, blocks of which only the shape is known, symbols -/
structure Keep (K : Type) where
  sl : List (Nat × AV)
  bl : List (Nat × Blk)
  bx : List (Nat × TypeId × Nat)
  ks : List (Nat × Nat × K)
  n : Nat
  ob : Nat
def findS (i m : Nat) : List (Nat × Nat × K) → Option K
  | [] => none
  | (j, n, x) :: l => match Nat.beq j i with
    | true => match Nat.beq n m with
      | true => some x
      | false => findS i m l
    | false => findS i m l
def Keep.vn (k : Keep K) : Vn K where
  sl t := match find t k.sl with
    | some x => x
    | none => .any
  bl b := match find b k.bl with
    | some B => some B
    | none => match find b k.bx with
      | some (T, n) => some ⟨T, List.replicate n .any⟩
      | none => none
  sy i m := findS i m k.ks
  n := k.n
  ob := k.ob
def shapeOf (B : Blk) : TypeId × Nat := (B.ty, B.cells.length)
structure Digest (K : Type) where
  sl : List AV
  bl : List (Option Blk)
  bx : List (Option (TypeId × Nat))
  ks : List (Option K)
  n : Nat
  ob : Nat
  b : Bool
def digest (k : Keep K) (b : Nat) (s : St K) : Digest K := ⟨k.sl.map fun p => s.V.sl p.1, k.bl.map fun p => s.V.bl p.1, k.bx.map fun p => (s.V.bl p.1).map shapeOf, k.ks.map fun p => s.V.sy p.1 p.2.1, s.V.n, s.V.ob, Nat.ble s.b b⟩
def Keep.want (k : Keep K) : Digest K := ⟨k.sl.map (·.2), k.bl.map fun p => some p.2, k.bx.map fun p => some p.2, k.ks.map fun p => some p.2.2, k.n, k.ob, true⟩
end
theorem find_map {α β : Type} {l : List (Nat × α)} {f : Nat → β} {g : α → β} (h : l.map (fun p => f p.1) = l.map (fun p => g p.2)) {b : Nat} {x : α} (hx : find b l = some x) : f b = g x := by
  induction l with
  | nil => cases hx
  | cons p l ih =>
    simp only [List.map_cons, List.cons.injEq] at h
    obtain ⟨c, y⟩ := p
    unfold find at hx
    split at hx
    · next e => cases hx; have := Nat.eq_of_beq_eq_true e; subst this; exact h.1
    · exact ih h.2 hx
theorem findS_map {K : Type} {l : List (Nat × Nat × K)} {f : Nat → Nat → Option K} (h : l.map (fun p => f p.1 p.2.1) = l.map (fun p => some p.2.2)) {i m : Nat} {x : K} (hx : findS i m l = some x) : f i m = some x := by
  induction l with
  | nil => cases hx
  | cons p l ih =>
    simp only [List.map_cons, List.cons.injEq] at h
    obtain ⟨j, n, y⟩ := p
    unfold findS at hx
    split at hx
    · next e1 =>
      split at hx
      · next e2 => cases hx; have := Nat.eq_of_beq_eq_true e1; have := Nat.eq_of_beq_eq_true e2; subst_vars; exact h.1
      · exact ih h.2 hx
    · exact ih h.2 hx
section
variable {P : Program} {D : Dom} {w0 : World}
theorem RInv.any_cells {E : Env} {cs : List AC} {vs : List Value} (h : rels E cs vs) : rels E (List.replicate cs.length .any) vs := by
  refine ⟨by simpa using h.1, fun i c v h1 h2 => ?_⟩
  have hc : c = .any := List.eq_of_mem_replicate (List.mem_of_getElem? h1)
  subst hc
  exact rels_ok h v (List.mem_of_getElem? h2)
theorem keep_inv {k : Keep D.K} {b : Nat} {s : St D.K} (h : digest k b s = k.want) {E : Env} {a : Act} {w : World} (hI : RInv D s.V E w0 a w) : RInv D k.vn E w0 a w := by
  simp only [digest, Keep.want, Digest.mk.injEq] at h
  obtain ⟨h1, h2, h3, h4, h5, h6, -⟩ := h
  refine ⟨⟨fun t => ?_, hI.v.df, fun i B hB => ?_, fun i m kd hk => ?_, ?_, hI.v.grown⟩, ?_⟩
  · show (match find t k.sl with | some x => x | none => AV.any) = AV.any ∨ ∃ v, a.tmps[t]? = some v ∧ AV.rel E (match find t k.sl with | some x => x | none => AV.any) v
    cases e : find t k.sl with
    | none => exact .inl rfl
    | some x =>
      have := find_map (f := s.V.sl) (g := id) h1 e
      have hs := hI.v.sl t
      rw [this] at hs
      exact hs
  · change (match find i k.bl with | some B => some B | none => match find i k.bx with | some (T, n) => some ⟨T, List.replicate n .any⟩ | none => none) = some B at hB
    cases e : find i k.bl with
    | some B' =>
      rw [e] at hB; cases hB
      exact hI.v.bl i B (find_map (f := s.V.bl) (g := some) h2 e)
    | none =>
      rw [e] at hB
      cases e2 : find i k.bx with
      | none => rw [e2] at hB; cases hB
      | some p =>
        obtain ⟨T, n⟩ := p
        rw [e2] at hB; cases hB
        have h := find_map (f := fun i => (s.V.bl i).map shapeOf) (g := some) h3 e2
        simp only [Option.map_eq_some_iff] at h
        obtain ⟨B', hb, hs⟩ := h
        obtain ⟨G, vs, g1, g2, g3⟩ := hI.v.bl i B' hb
        have hT : B'.ty = T := (Prod.mk.inj hs).1
        have hn : B'.cells.length = n := (Prod.mk.inj hs).2
        subst hT hn
        exact ⟨G, vs, g1, g2, RInv.any_cells g3⟩
  · exact hI.v.sy i m kd (findS_map h4 hk)
  · show Fits E w0 w k.ob
    rw [← h6]; exact hI.v.fits
  · show a.tmps.size = k.n
    rw [← h5]; exact hI.sz
theorem stepN_sound (hm : P.follows .mixedOrders = true) {ctr : Ctr D.K} (hc : CtrOK D P ctr) (hg : D.glob w0) (fuel : Nat) : ∀ (n : Nat) (c : Code) (V : Vn D.K) (b : Nat) (s : St D.K), stepN P ctr fuel n c V b = some s →
    ∀ (E : Env) (a : Act) (w : World), RInv D V E w0 a w → (∀ i, b ≤ i → New E i) → ∀ Q : Exit → Act → World → Prop, (∀ E' a' w', RInv D s.V E' w0 a' w' → (∀ i, s.b ≤ i → New E' i) → (restN n c).wp P Q a' w') → c.wp P Q a w := by
  intro n
  induction n with
  | zero => intro c V b s k E a w h hf Q hQ; simp [stepN] at k; subst k; exact hQ E a w h hf
  | succ n ih =>
    intro c V b s k E a w h hf Q hQ
    cases c with
    | seq x y =>
      simp only [stepN] at k
      split at k
      · next s1 h1 =>
        split at k
        · next e =>
          refine wp_seq (acode_sound hm hc hg fuel x V b s1 h1 E a w h hf _ fun E' a' w' h' hf' => ?_)
          rw [e]
          exact ih y s1.V s1.b s k E' a' w' h' hf' Q hQ
        · cases k
      · cases k
    | _ => simp [stepN] at k
/-- a piece: what is kept behind it -/
theorem piece (hm : P.follows .mixedOrders = true) {ctr : Ctr D.K} (hc : CtrOK D P ctr) (hg : D.glob w0) {fuel n : Nat} {c : Code} {V : Vn D.K} {b b' : Nat} {k : Keep D.K} (hk : (stepN P ctr fuel n c V b).map (digest k b') = some k.want)
    {E : Env} {a : Act} {w : World} (h : RInv D V E w0 a w) (hf : ∀ i, b ≤ i → New E i) {Q : Exit → Act → World → Prop} (hQ : ∀ E' a' w', RInv D k.vn E' w0 a' w' → (∀ i, b' ≤ i → New E' i) → (restN n c).wp P Q a' w') : c.wp P Q a w := by
  simp only [Option.map_eq_some_iff] at hk
  obtain ⟨s, h1, h2⟩ := hk
  refine stepN_sound hm hc hg fuel n c V b s h1 E a w h hf Q fun E' a' w' h' hf' => hQ E' a' w' (keep_inv h2 h') fun i hi => hf' i ?_
  have h3 := congrArg Digest.b h2
  simp only [digest, Keep.want] at h3
  have := Nat.le_of_ble_eq_true h3
  omega
end
end Go.Abs
