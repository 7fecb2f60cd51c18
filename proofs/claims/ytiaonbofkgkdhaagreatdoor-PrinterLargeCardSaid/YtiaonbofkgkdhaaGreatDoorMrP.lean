/-
  PrM WrA WrB JoinSh PrE PsA PsB PrF PsC AdF AdG AdH AdJ PsO PrX PsD PsE, in one text.
-/
import Derived.Test.YtiaonbofkgkdhaaGreatDoorMrA
import Derived.Test.YtiaonbofkgkdhaaGreatDoorMrS
import Derived.Test.YtiaonbofkgkdhaaGreatDoorMrX
import Derived.Test.YtiaonbofkgkdhaaGreatDoorProg
import Derived.Test.YtiaonbofkgkdhaaGreatDoorMem
import Derived.Lib.Builder
import Derived.Lib.AppendStr
import Derived.Lib.UnsafeStr
import Derived.Lib.OthersKept
import Derived.Lib.AppendIntMem
import Derived.WalkKit
import Derived.BigCall
import Derived.BigGuard
import Derived.RegionTactic
import Derived.Shelf.Strings.OnBuilder
import Derived.Test.YtiaonbofkgkdhaaGreatDoorMrD
import Derived.Deep.RegionHeld3
import Derived.SliceStrings
import Derived.Test.YtiaonbofkgkdhaaGreatDoorMrL

set_option linter.unusedVariables false
set_option linter.unusedSimpArgs false
namespace Go.Proofs.YtiaonbofkgkdhaaGreatDoor
open Go.RowKit _root_.Nm Ax Lx
/-- kinds with a Ratio -/
def hasR (k : Int) : Bool := decide (k = 11 ∨ k = 68)
/-- the number of a node -/
def rvH (h : Hd) : Rat := mkRat (sg h.g (V 65536 h.num)) (V 65536 h.den)
/-- the texts between the parentheses of a node, from those of its arguments -/
def pzF (h : Hd) (P : List (List UInt8)) : List (List UInt8) := P ++ if hasR h.k then [rtx (rvH h)] else []
def txF : Nat → Tr → List UInt8
  | 0, _ => []
  | m + 1, .node h l => if h.k = 1 then h.nm.data.toList else wrd h.k ++ [40] ++ jn (pzF h (l.map (txF m))) ++ [41]
theorem txF_name {m : Nat} {h : Hd} {l : List Tr} (hk : h.k = 1) : txF (m + 1) (.node h l) = h.nm.data.toList := by unfold txF; rw [if_pos hk]
theorem txF_node {m : Nat} {h : Hd} {l : List Tr} (hk : ¬ h.k = 1) : txF (m + 1) (.node h l) = wrd h.k ++ [40] ++ jn (pzF h (l.map (txF m))) ++ [41] := by
  show (if h.k = 1 then _ else _) = _
  rw [if_neg hk]
theorem tab_w : ∀ e ∈ Ax.tab, e.w.length ≤ 13 := by decide
theorem wrd_len (k : Int) : (wrd k).length ≤ 13 := by
  unfold wrd
  cases h : ent k with
  | none => simp
  | some e => exact tab_w e (ent_mem h).1
end Go.Proofs.YtiaonbofkgkdhaaGreatDoor

set_option linter.unusedVariables false
set_option linter.unusedSimpArgs false
namespace Go.Proofs.YtiaonbofkgkdhaaGreatDoor
open Go.RowKit _root_.Nm
/-- a writer in block b that holds bytes; its row lies from block B on -/
def WrAt (w : World) (B b : Nat) (bs : List UInt8) (lg : Bool) : Prop :=
  B ≤ b ∧ ∃ q v, (q = none ∨ q = some ⟨b, 0, none⟩) ∧ w.heap[b]? = some (.cells #[.pointer q, v, .bool lg] 65 (0, 0)) ∧ w.ownsRow B 5 1 v bs.length (Lib.byteCells bs)
/-- what lies below B stands, and so does every block but b that is no row of bytes -/
def PK (B b : Nat) (w w' : World) : Prop := Below B w w' ∧ Lib.OthersKept 5 (some b) w w'
theorem PK.refl (B b : Nat) (w : World) : PK B b w w := ⟨Below.refl _ _, Lib.OthersKept.refl _ _ _⟩
theorem PK.trans {B b : Nat} {w1 w2 w3 : World} (h : PK B b w1 w2) (k : PK B b w2 w3) : PK B b w1 w3 := ⟨h.1.trans k.1, h.2.trans k.2⟩
theorem PK.ofGrown {B b : Nat} {w w' : World} (hB : B ≤ w.heap.size) (hg : w.grownBy w' none) : PK B b w w' :=
  ⟨⟨hg.os, hg.tape, hg.output, hg.size, fun k hk => hg.block k (by omega) (by simp)⟩, (Lib.OthersKept.refl _ _ _).grown hg (fun g h => by cases h)⟩
theorem PK.size {B b : Nat} {w w' : World} (h : PK B b w w') : w.heap.size ≤ w'.heap.size := h.1.size
/-- a box of another type stands -/
theorem PK.box {B b : Nat} {w w' : World} (h : PK B b w w') {k : Nat} {cs : Array Value} {T : TypeId} {fz : Nat × Nat} (hk : w.heap[k]? = some (.cells cs T fz)) (hb : k ≠ b) (hT : T ≠ 5) : w'.heap[k]? = some (.cells cs T fz) :=
  h.2 k _ hk (by simpa using hb) (fun c f e => by injection e with _ h2 _; exact hT h2)
theorem PK.base {B b : Nat} {w0 w w' : World} (hg : w0.grownBy w none) (h : PK B b w w') (hB : w0.heap.size ≤ B) : w0.grownBy w' none :=
  ⟨h.1.os.trans hg.os, h.1.tape.trans hg.tape, h.1.output.trans hg.output, Nat.le_trans hg.size h.1.size, fun k hk hr => (h.1.block k (by omega)).trans (hg.block k hk hr)⟩
theorem WrAt.lt {w : World} {B b : Nat} {bs : List UInt8} {lg : Bool} (h : WrAt w B b bs lg) : b < w.heap.size := by
  obtain ⟨_, q, v, _, hb, _⟩ := h
  exact (Array.getElem?_eq_some_iff.1 hb).1
theorem WrAt.keep {w w' : World} {B b : Nat} {bs : List UInt8} {lg : Bool} (h : WrAt w B b bs lg) (hg : w.grownBy w' none) : WrAt w' B b bs lg := by
  have hlt := h.lt
  obtain ⟨hB, q, v, hq, hb, ho⟩ := h
  exact ⟨hB, q, v, hq, (hg.block b hlt (by simp)).trans hb, ho.kept hg (by cases hv : v.ownBlock with | none => exact .inl rfl | some g => exact .inr (by simp))⟩
theorem wrNe : 65 ≠ 5 := by decide
/-- a store into the writer's own block -/
theorem own_set {w : World} {B b o : Nat} {v x : Value} {n : Nat} {xs : List Value} (ho : w.ownsRow B 5 1 v n xs) (hne : v.ownBlock ≠ some b) : (w.setCell ⟨b, o, none⟩ x).ownsRow B 5 1 v n xs :=
  ho.kept (row := some b) ⟨rfl, rfl, rfl, by simp [World.setCell], fun k _ hk => Below.heap_setCell _ _ _ _ (fun e => hk (by simp [e]))⟩ (.inr hne)
theorem pk_set {w : World} {B b : Nat} (hB : B ≤ b) (o : Nat) (x : Value) : PK B b w (w.setCell ⟨b, o, none⟩ x) :=
  ⟨(Below.refl B w).setCell (p := ⟨b, o, none⟩) hB _, (Lib.OthersKept.refl _ _ w).setCell ⟨b, o, none⟩ rfl _⟩
theorem WrAt.large {w : World} {B b : Nat} {bs : List UInt8} {lg : Bool} (h : WrAt w B b bs lg) (lg' : Bool) : WrAt (w.setCell ⟨b, 2, none⟩ (.bool lg')) B b bs lg' := by
  obtain ⟨hB, q, v, hq, hb, ho⟩ := h
  refine ⟨hB, q, v, hq, ?_, own_set ho (Lib.ownBlock_ne ho hb wrNe)⟩
  simp [World.setCell, Array.getElem?_modify, hb]
theorem liesWr : liesAt Tryz.prog Tryz.prog.depth 65 (3 / Tryz.prog.cellsOf 65) 0 63 1 = true := by kernel_rfl
theorem sizeBl : (Tryz.prog.info? 63).map (·.size) = some 2 := by kernel_rfl
set_option maxHeartbeats 4000000 in
set_option maxRecDepth 100000 in
theorem wcopy_fresh (b : Nat) (w : World) (v : Value) (lg : Bool) (hb : w.heap[b]? = some (.cells #[.pointer none, v, .bool lg] 65 (0, 0))) :
    Calls Tryz.prog 85 #[.pointer (some ⟨b, 0, none⟩)] w fun e w' => e = .returned (.tuple #[]) ∧ w' = w.setCell ⟨b, 0, none⟩ (.pointer (some ⟨b, 0, none⟩)) := by
  obtain ⟨j, hj, hjs⟩ := Option.map_eq_some_iff.1 sizeBl
  have h0 : w.cell? ⟨b, 0, none⟩ = some (.pointer none) := by rw [Lib.cell_of_heap hb]; rfl
  have hsh : w.shape? b = some (65, 3) := by simp [World.shape?, hb]
  have hfz : w.frozen? ⟨b, 0, none⟩ = false := Lib.frozen_of_heap hb 0
  go_enter Tryz.func85, Tryz.ntmps85
  go_wp2
  rw [Lib.run_to_unsafe w ⟨b, 0, none⟩ Tryz.underlying60 Tryz.underlying149 hj (by rw [hjs]; decide) hsh (Nat.zero_lt_succ 2)]
  simp only [Result.andThen]
  rw [Oper.upon_value]
  go_wp2
  rw [run_callFunc_extern Tryz.func133 (by kernel_rfl) (by kernel_rfl) (by kernel_rfl) (e := Extern.AbiNoEscape.same) (by kernel_rfl)]
  rw [Lib.run_noEscape]
  simp only [Result.andThen]
  rw [Oper.upon_value]
  go_wp2
  rw [Lib.run_from_unsafe w ⟨b, 0, none⟩ Tryz.underlying149 Tryz.underlying60 hj hsh liesWr]
  simp only [Result.andThen]
  rw [Oper.upon_value]
  go_wp2
  go_end0
  exact ⟨rfl, rfl⟩
set_option maxHeartbeats 4000000 in
set_option maxRecDepth 100000 in
theorem wcopy_used (b : Nat) (w : World) (h0 : w.cell? ⟨b, 0, none⟩ = some (.pointer (some ⟨b, 0, none⟩))) :
    Calls Tryz.prog 85 #[.pointer (some ⟨b, 0, none⟩)] w fun e w' => e = .returned (.tuple #[]) ∧ w' = w := by
  obtain ⟨j, hj, _⟩ := Option.map_eq_some_iff.1 sizeBl
  go_enter Tryz.func85, Tryz.ntmps85
  go_wp2
  rw [Lib.run_neq_ptr_same w _ Tryz.underlying60 hj]
  go_wp2
  go_end0
  exact ⟨rfl, rfl⟩
theorem wcopy_any (B b : Nat) (bs : List UInt8) (lg : Bool) (w : World) (h : WrAt w B b bs lg) :
    Calls Tryz.prog 85 #[.pointer (some ⟨b, 0, none⟩)] w fun e w' => e = .returned (.tuple #[]) ∧ (B ≤ b ∧ ∃ v, w'.heap[b]? = some (.cells #[.pointer (some ⟨b, 0, none⟩), v, .bool lg] 65 (0, 0)) ∧ w'.ownsRow B 5 1 v bs.length (Lib.byteCells bs)) ∧ PK B b w w' := by
  obtain ⟨hB, q, v, hq, hb, ho⟩ := h
  rcases hq with rfl | rfl
  · refine (wcopy_fresh b w v lg hb).mono ?_
    rintro e w' ⟨rfl, rfl⟩
    exact ⟨rfl, ⟨hB, v, by simp [World.setCell, Array.getElem?_modify, hb], own_set ho (Lib.ownBlock_ne ho hb wrNe)⟩, pk_set hB 0 _⟩
  · refine (wcopy_used b w (by rw [Lib.cell_of_heap hb]; rfl)).mono ?_
    rintro e w' ⟨rfl, rfl⟩
    exact ⟨rfl, ⟨hB, v, hb, ho⟩, PK.refl _ _ _⟩
theorem infoU8 : (Tryz.prog.info? 5).map (fun i => (i.zero, i.size, i.bytes)) = some (some (.int .u8 0), 1, 1) := by kernel_rfl
set_option maxHeartbeats 4000000 in
set_option maxRecDepth 100000 in
theorem wwrite_any (B b : Nat) (bs : List UInt8) (lg : Bool) (s : ByteArray) (w : World) (h : WrAt w B b bs lg) (hlen : bs.length + s.size ≤ 1000000) (hBw : B ≤ w.heap.size) :
    Calls Tryz.prog 44 #[.pointer (some ⟨b, 0, none⟩), .string s] w fun e w' => e = .returned (.tuple #[.int .i64 s.size, .nilIface]) ∧ WrAt w' B b (bs ++ s.data.toList) lg ∧ PK B b w w' := by
  obtain ⟨i0, hi, hz0, hz1, hz2⟩ := info_parts infoU8
  have HC := hid (wcopy_any B b bs lg w h)
  clear h
  go_enter Tryz.func44, Tryz.ntmps44
  go_wp2_with (go_at_call 85; refine HC.out.mono ?_)
  rintro e w1 ⟨rfl, ⟨hB, v, hbk, hown⟩, hp⟩
  have hne := Lib.ownBlock_ne hown hbk wrNe
  have c1 : w1.cell? ⟨b, 1, none⟩ = some v := by rw [Lib.cell_of_heap hbk]; rfl
  have hsz := hp.size
  go_wp2_with (at_builtin; refine Lib.wpList_append_own_string _ rfl _ _ 61 9 rfl B 5 i0 Tryz.underlying61 Tryz.underlying9 hi hz0 hz1 hz2 _ _ _ rfl hown s rfl ?c3 ?c4 ?c5 ?_)
  case c3 => unfold maxLen; omega
  case c4 => omega
  case c5 => omega
  intro v' w2 hown' hgrow _
  have hlt : b < w1.heap.size := (Array.getElem?_eq_some_iff.1 hbk).1
  have hb2 : w2.heap[b]? = some (.cells #[.pointer (some ⟨b, 0, none⟩), v, .bool lg] 65 (0, 0)) := by
    rw [hgrow.block b hlt (fun e => hne e.symm)]
    exact hbk
  have d1 : w2.cell? ⟨b, 1, none⟩ = some v := by rw [Lib.cell_of_heap hb2]; rfl
  have f1 : w2.frozen? ⟨b, 1, none⟩ = false := Lib.frozen_of_heap hb2 1
  obtain ⟨ao, n', cap, rfl⟩ : ∃ ao n' cap, v' = .slice ao n' cap := by
    rcases hown'.2 with ⟨hv, _⟩ | ⟨g, cap, cur, hv, _⟩
    · exact ⟨_, _, _, hv⟩
    · exact ⟨_, _, _, hv⟩
  go_wp2
  go_ret2
  have hown2 : w2.ownsRow B 5 1 (.slice ao n' cap) (bs ++ s.data.toList).length (Lib.byteCells (bs ++ s.data.toList)) := by
    rw [Lib.byteCells_append, List.length_append, Array.length_toList]
    exact hown'
  refine ⟨rfl, ⟨hB, some ⟨b, 0, none⟩, _, .inr rfl, ?_, own_set hown2 (Lib.ownBlock_ne hown2 hb2 wrNe)⟩, hp.trans (PK.trans ⟨?_, ?_⟩ (pk_set hB 1 _))⟩
  · simp [World.setCell, Array.getElem?_modify, hb2]
  · exact (Below.refl B w1).grown hgrow (by omega) (fun k hk => (hown.lt k hk).1)
  · exact (Lib.OthersKept.refl _ _ w1).grown hgrow (fun g hg => by
      rcases hown.2 with ⟨rfl, _⟩ | ⟨g', cap', cur, rfl, _, hgg, _⟩
      · simp [Value.ownBlock] at hg
      · simp [Value.ownBlock] at hg
        subst hg
        exact ⟨cur, (0, 0), hgg⟩)
set_option maxHeartbeats 4000000 in
set_option maxRecDepth 100000 in
theorem wlen_any (B b : Nat) (bs : List UInt8) (lg : Bool) (w : World) (h : WrAt w B b bs lg) :
    Calls Tryz.prog 104 #[.pointer (some ⟨b, 0, none⟩)] w fun e w' => e = .returned (.int .i64 bs.length) ∧ w' = w := by
  obtain ⟨hB, q, v, hq, hb, ho⟩ := h
  obtain ⟨ao, cap, rfl⟩ : ∃ ao cap, v = .slice ao bs.length cap := by
    rcases ho.2 with ⟨hv, h0⟩ | ⟨g, cap, cur, hv, _⟩
    · exact ⟨none, 0, by rw [hv, h0]⟩
    · exact ⟨_, _, hv⟩
  have c1 : w.cell? ⟨b, 1, none⟩ = some (.slice ao bs.length cap) := by rw [Lib.cell_of_heap hb]; rfl
  go_enter Tryz.func104, Tryz.ntmps104
  go_wp2
  go_ret
  exact ⟨rfl, rfl⟩
/-- what a writer holds behind a text -/
def WPst (B b : Nat) (bs : List UInt8) (lg : Bool) (l : List UInt8) (w' : World) : Prop := ∃ bs' lg', WrAt w' B b bs' lg' ∧ PW bs lg l bs' lg'
set_option maxHeartbeats 8000000 in
set_option maxRecDepth 100000 in
theorem put_any (B b : Nat) (bs : List UInt8) (lg : Bool) (s : ByteArray) (l : List UInt8) (hl : s.data.toList = l) (w : World) (h : WrAt w B b bs lg) (hok : lg = true ∨ bs.length ≤ 20000) (hs : l.length ≤ 100000000) (hBw : B ≤ w.heap.size) :
    Calls Tryz.prog 56 #[.pointer (some ⟨b, 0, none⟩), .string s] w fun e w' => e = .returned (.tuple #[]) ∧ WPst B b bs lg l w' ∧ PK B b w w' := by
  subst hl
  have hss : s.data.toList.length = s.size := Array.length_toList
  have hblk : ∃ q v, w.heap[b]? = some (.cells #[.pointer q, v, .bool lg] 65 (0, 0)) := by
    obtain ⟨hB, q, v, hq, hb, ho⟩ := h
    exact ⟨q, v, hb⟩
  obtain ⟨q, v, hb⟩ := hblk
  have c2 : w.cell? ⟨b, 2, none⟩ = some (.bool lg) := by rw [Lib.cell_of_heap hb]; rfl
  have f2 : w.frozen? ⟨b, 2, none⟩ = false := Lib.frozen_of_heap hb 2
  have hB := h.1
  cases lg with
  | true =>
    have hL := hid (h.large true)
    clear h hb
    go_enter Tryz.func56, Tryz.ntmps56
    go_wp2_with fail
    go_end0
    exact ⟨rfl, ⟨bs, true, hL.out, PW.skip _ _⟩, pk_set hB 2 _⟩
  | false =>
    have hbl : bs.length ≤ 20000 := hok.elim (fun h => by cases h) id
    have HL := hid (wlen_any B b bs false w h)
    by_cases hbig : 20000 < bs.length + s.size
    · have hq1 : (20000 : Int) < (bs.length : Int) + (s.size : Int) := by omega
      have hL := hid (h.large true)
      have HBG := hid hbig
      clear h hb hbig
      go_enter Tryz.func56, Tryz.ntmps56
      go_wp2_with (go_at_call 104; (with_reducible refine HL.out.mono ?_); rintro e w1 ⟨rfl, rfl⟩)
      go_end0
      exact ⟨rfl, ⟨bs, true, hL.out, ⟨by simp; have := HBG.out; omega, by simp, by omega⟩⟩, pk_set hB 2 _⟩
    · have hq1 : ¬ (20000 : Int) < (bs.length : Int) + (s.size : Int) := by omega
      have hd : decide ((20000 : Int) < (bs.length : Int) + (s.size : Int)) = false := decide_eq_false hq1
      have hL := hid (show WrAt (w.setCell ⟨b, 2, none⟩ (.bool (decide ((20000 : Int) < (bs.length : Int) + (s.size : Int))))) B b bs false by rw [hd]; exact h.large false)
      have HBG := hid hbig
      have HW := hid fun W (hW : WrAt W B b bs false) (hBW : B ≤ W.heap.size) => wwrite_any B b bs false s W hW (by omega) hBW
      have hcs : (w.setCell ⟨b, 2, none⟩ (.bool (decide ((20000 : Int) < (bs.length : Int) + (s.size : Int))))).cell? ⟨b, 2, none⟩ = some (.bool (decide ((20000 : Int) < (bs.length : Int) + (s.size : Int)))) := World.cell?_setCell_same _ _ _ c2
      clear h hb hbig hd
      go_enter Tryz.func56, Tryz.ntmps56
      go_wp2_with (first | (go_at_call 104; (with_reducible refine HL.out.mono ?_); rintro e w1 ⟨rfl, rfl⟩) | (go_at_call 44; (with_reducible refine (HW.out _ hL.out (by simpa [World.setCell] using hBw)).mono ?_); rintro e w2 ⟨rfl, hw2, hp2⟩))
      all_goals first
        | (exfalso
           have hc : (!(decide ((20000 : Int) < (bs.length : Int) + (s.size : Int)))) = false := by assumption
           rw [decide_eq_false (by omega)] at hc
           cases hc)
        | (go_end0
           refine ⟨rfl, ⟨_, false, hw2, ⟨?_, fun _ => rfl, by simp⟩⟩, (pk_set hB 2 _).trans hp2⟩
           have := HBG.out
           simp
           omega)
end Go.Proofs.YtiaonbofkgkdhaaGreatDoor

set_option linter.unusedVariables false
set_option linter.unusedSimpArgs false
namespace Go.Proofs.YtiaonbofkgkdhaaGreatDoor
open Go.RowKit _root_.Nm
theorem cellsU8w : Tryz.prog.cellsOf 5 = 1 := by kernel_rfl
set_option maxHeartbeats 4000000 in
set_option maxRecDepth 100000 in
theorem wstring_any (B b : Nat) (l : List UInt8) (h0 : l ≠ []) (w : World) (h : WrAt w B b l false) :
    Calls Tryz.prog 45 #[.pointer (some ⟨b, 0, none⟩)] w fun e w' => e = .returned (str l) ∧ Below B w w' := by
  obtain ⟨hB, q, v, hq, hbk, hown⟩ := h
  have hl0 : l.length ≠ 0 := by simpa using h0
  obtain ⟨g, cap, cur, rfl, hbg, hg, hnc, hcm, hcs, htake⟩ : ∃ g cap cur, v = .slice (some ⟨g, 0, none⟩) l.length cap ∧ B ≤ g ∧ w.heap[g]? = some (.cells cur 5 (0, 0)) ∧ l.length ≤ cap ∧ cap ≤ maxLen ∧ cur.size = cap * 1 ∧ cur.toList.take (l.length * 1) = Lib.byteCells l := by
    rcases hown.2 with ⟨_, hz⟩ | ⟨g, cap, cur, hv, r⟩
    · exact absurd hz hl0
    · exact ⟨g, cap, cur, hv, r⟩
  have c1 : w.drew.cell? ⟨b, 1, none⟩ = some (.slice (some ⟨g, 0, none⟩) l.length cap) := by
    have : w.drew.heap[b]? = some (.cells #[.pointer q, .slice (some ⟨g, 0, none⟩) l.length cap, .bool false] 65 (0, 0)) := hbk
    rw [Lib.cell_of_heap this]; rfl
  have hSD : (Builtin.unsafeSliceData_ #[61] 121 #[.slice (some ⟨g, 0, none⟩) l.length cap]).run Tryz.prog w.drew = .ok (.pointer (some ⟨g, 0, none⟩)) w.drew :=
    Lib.run_unsafeSliceData_row _ _ _ _ _ _ (by omega)
  have hUS : (Builtin.unsafeString_ #[121, 3] 9 #[.pointer (some ⟨g, 0, none⟩), .int .i64 l.length]).run Tryz.prog w.drew = .ok (.string ⟨l.toArray⟩) (w.drew.freeze ⟨g, 0, none⟩ l.length) := by
    refine Lib.run_unsafeString_row w.drew 121 3 9 5 Tryz.underlying121 cellsU8w g cur.size (by have hg' : w.drew.heap[g]? = some (.cells cur 5 (0, 0)) := hg; simp [World.shape?, hg']) l h0 (by omega) (by unfold maxLen at hcm; omega) ?_
    intro j x hx
    have := hown.cells (g := g) rfl j (.int .u8 x.toNat) (by simp [Lib.byteCells, hx])
    exact this
  clear hown htake hcs hcm hnc hg hbk hl0
  go_enter Tryz.func45, Tryz.ntmps45
  go_wp2
  go_region
  all_goals (go_wp2; go_ret; exact ⟨rfl, Lib.below_freeze (Below.drew (Below.refl B w)) (p := ⟨g, 0, none⟩) hbg _⟩)
set_option maxHeartbeats 4000000 in
set_option maxRecDepth 100000 in
theorem wstring_fresh (b : Nat) (w : World) (hbk : w.heap[b]? = some (.cells #[.pointer none, .slice none 0 0, .bool false] 65 (0, 0))) :
    Calls Tryz.prog 45 #[.pointer (some ⟨b, 0, none⟩)] w fun e w' => e = .returned (str []) ∧ w.grownBy w' none := by
  have hUS := fun (W : World) (q : Option Addr) => Lib.run_unsafeString_none (P := Tryz.prog) W 121 3 9 q
  have c1 : w.drew.cell? ⟨b, 1, none⟩ = some (.slice none 0 0) := by
    have : w.drew.heap[b]? = some (.cells #[.pointer none, .slice none 0 0, .bool false] 65 (0, 0)) := hbk
    rw [Lib.cell_of_heap this]; rfl
  have hSD : (Builtin.unsafeSliceData_ #[61] 121 #[.slice none 0 0]).run Tryz.prog w.drew = .ok (.pointer none) w.drew := rfl
  go_enter Tryz.func45, Tryz.ntmps45
  go_wp2
  go_region
  all_goals (go_wp2; go_ret; exact ⟨rfl, grown_drew _ _⟩)
/-- the text of a writer, or the error -/
def txW (bs : List UInt8) (lg : Bool) : Value := .tuple #[str (if lg then [] else bs), .int .i64 (if lg then 4 else 0)]
set_option maxHeartbeats 4000000 in
set_option maxRecDepth 100000 in
theorem text_any (B b : Nat) (bs : List UInt8) (lg : Bool) (h0 : lg = false → bs ≠ []) (w : World) (h : WrAt w B b bs lg) :
    Calls Tryz.prog 26 #[.pointer (some ⟨b, 0, none⟩)] w fun e w' => e = .returned (txW bs lg) ∧ Below B w w' := by
  have c2 : w.cell? ⟨b, 2, none⟩ = some (.bool lg) := by
    obtain ⟨hB, q, v, hq, hb, ho⟩ := h
    rw [Lib.cell_of_heap hb]; rfl
  cases lg with
  | true =>
    clear h
    go_enter Tryz.func26, Tryz.ntmps26
    go_wp2_with fail
    go_ret2
    exact ⟨rfl, Below.refl _ _⟩
  | false =>
    have HS := hid (wstring_any B b bs (h0 rfl) w h)
    clear h h0
    go_enter Tryz.func26, Tryz.ntmps26
    go_wp2_with (go_at_call 45; (with_reducible refine HS.out.mono ?_); rintro e w1 ⟨rfl, hb⟩)
    go_ret2
    exact ⟨rfl, hb⟩
set_option maxHeartbeats 4000000 in
set_option maxRecDepth 100000 in
theorem text_fresh (b : Nat) (w : World) (hbk : w.heap[b]? = some (.cells #[.pointer none, .slice none 0 0, .bool false] 65 (0, 0))) :
    Calls Tryz.prog 26 #[.pointer (some ⟨b, 0, none⟩)] w fun e w' => e = .returned (txW [] false) ∧ w.grownBy w' none := by
  have c2 : w.cell? ⟨b, 2, none⟩ = some (.bool false) := by rw [Lib.cell_of_heap hbk]; rfl
  have HS := hid (wstring_fresh b w hbk)
  clear hbk
  go_enter Tryz.func26, Tryz.ntmps26
  go_wp2_with (go_at_call 45; (with_reducible refine HS.out.mono ?_); rintro e w1 ⟨rfl, hb⟩)
  go_ret2
  exact ⟨rfl, hb⟩
set_option maxHeartbeats 4000000 in
set_option maxRecDepth 100000 in
theorem sep_any (B b : Nat) (bs : List UInt8) (lg : Bool) (i : Nat) (w : World) (h : WrAt w B b bs lg) (hok : lg = true ∨ bs.length ≤ 20000) (hBw : B ≤ w.heap.size) :
    Calls Tryz.prog 62 #[.pointer (some ⟨b, 0, none⟩), .int .i64 i] w fun e w' => e = .returned (.tuple #[]) ∧ WPst B b bs lg (if i = 0 then [] else cms) w' ∧ PK B b w w' := by
  by_cases h0 : i = 0
  · subst h0
    have hp : WPst B b bs lg (if (0 : Nat) = 0 then [] else cms) w := ⟨bs, lg, h, PW.nil _ _ hok⟩
    have HP := hid hp
    clear h hp
    go_enter Tryz.func62, Tryz.ntmps62
    go_wp2_with fail
    go_end0
    exact ⟨rfl, HP.out, PK.refl _ _ _⟩
  · rw [if_neg h0]
    have hq : (0 : Int) < (i : Int) := by omega
    have HP := hid (put_any B b bs lg ⟨#[44, 32]⟩ cms rfl w h hok (by decide) hBw)
    clear h
    go_enter Tryz.func62, Tryz.ntmps62
    go_wp2_with (go_at_call 56; (with_reducible refine HP.out.mono ?_); rintro e w1 ⟨rfl, hb, hk⟩)
    go_end0
    exact ⟨rfl, hb, hk⟩
end Go.Proofs.YtiaonbofkgkdhaaGreatDoor

set_option linter.unusedVariables false
set_option linter.unusedSimpArgs false
namespace Go.Proofs.YtiaonbofkgkdhaaGreatDoor
open Go.Shelf Go.RowKit _root_.Nm
set_option maxRecDepth 100000
def joRen : Ren := ⟨fun n => match n with
    | 156 => 20
    | 165 => 43
    | 166 => 44
    | 169 => 45
    | 240 => 85
    | 241 => 86
    | 276 => 133
    | 277 => 134
    | n => n,
  fun n => match n with
    | 0 => 0
    | 3 => 3
    | 4 => 4
    | 5 => 5
    | 9 => 9
    | 20 => 20
    | 31 => 31
    | 37 => 61
    | 70 => 60
    | 72 => 63
    | 75 => 83
    | 76 => 84
    | 80 => 86
    | 127 => 121
    | 164 => 149
    | n => n,
  fun n => n⟩
theorem shJoin : Lays.n156 Tryz.prog joRen where
  mixed := by kernel_rfl
  f156 := by kernel_rfl
  f165 := by kernel_rfl
  f166 := by kernel_rfl
  f169 := by kernel_rfl
  f240 := by kernel_rfl
  f241 := by kernel_rfl
  f276 := by kernel_rfl
  f277 := by kernel_rfl
  t0 := by kernel_rfl
  a0 := fun _ => by kernel_rfl
  z0 := fun _ => by kernel_rfl
  v0 := fun _ => by kernel_rfl
  t3 := by kernel_rfl
  a3 := fun _ => by kernel_rfl
  z3 := fun _ => by kernel_rfl
  v3 := fun _ => by kernel_rfl
  t4 := by kernel_rfl
  a4 := fun _ => by kernel_rfl
  z4 := fun _ => by kernel_rfl
  v4 := fun _ => by kernel_rfl
  t9 := by kernel_rfl
  a9 := fun _ => by kernel_rfl
  z9 := fun _ => by kernel_rfl
  v9 := fun _ => by kernel_rfl
  t20 := by kernel_rfl
  a20 := fun _ => by kernel_rfl
  z20 := fun _ => by kernel_rfl
  v20 := fun _ => by kernel_rfl
  t31 := by kernel_rfl
  a31 := fun _ => by kernel_rfl
  z31 := fun _ => by kernel_rfl
  v31 := fun _ => by kernel_rfl
  t37 := by kernel_rfl
  a37 := fun _ => by kernel_rfl
  z37 := fun _ => by kernel_rfl
  v37 := fun _ => by kernel_rfl
  t70 := by kernel_rfl
  a70 := fun _ => by kernel_rfl
  z70 := fun _ => by kernel_rfl
  v70 := fun _ => by kernel_rfl
  t72 := by kernel_rfl
  a72 := fun _ => by kernel_rfl
  z72 := fun _ => by kernel_rfl
  v72 := fun _ => by kernel_rfl
  t75 := by kernel_rfl
  a75 := fun _ => by kernel_rfl
  z75 := fun _ => by kernel_rfl
  v75 := fun _ => by kernel_rfl
  t76 := by kernel_rfl
  a76 := fun _ => by kernel_rfl
  z76 := fun _ => by kernel_rfl
  v76 := fun _ => by kernel_rfl
  t127 := by kernel_rfl
  a127 := fun _ => by kernel_rfl
  z127 := fun _ => by kernel_rfl
  v127 := fun _ => by kernel_rfl
  t164 := by kernel_rfl
  a164 := fun _ => by kernel_rfl
  z164 := fun _ => by kernel_rfl
  v164 := fun _ => by kernel_rfl
theorem shJoinX : Builder.Extra Tryz.prog joRen where
  sizeBuilder := by kernel_rfl
  liesBuilder := by kernel_rfl
  t5 := by kernel_rfl
  a5 := fun _ => by kernel_rfl
  z5 := fun _ => by kernel_rfl
  v5 := fun _ => by kernel_rfl
  infoByte := by kernel_rfl
  cellsByte := by kernel_rfl
  sizeByte := by kernel_rfl
  neB5 := by decide
theorem join_any (p : Option Addr) (n c : Nat) (L : List ByteArray) (sep : ByteArray) (w : World) (h : NRd w p n c L) (hlt : ∀ a, p = some a → a.block < w.heap.size)
    (hn : L.length ≤ 1000000) (hlen : (Lib.join (L.map (·.data.toList)) sep.data.toList).length ≤ 140737488355328) :
    Calls Tryz.prog 20 #[.slice p n c, .string sep] w fun e w' => e = .returned (.string ⟨(Lib.join (L.map (·.data.toList)) sep.data.toList).toArray⟩) ∧ w.grownBy w' none := by
  have hl := h.len
  cases L with
  | nil =>
    simp at hl
    subst hl
    refine (Any.strings_Join_none shJoin shJoinX p c sep w).mono ?_
    rintro e w' ⟨rfl, rfl⟩
    exact ⟨rfl, grown_refl _ _⟩
  | cons x r =>
    obtain ⟨b, o, rfl, _⟩ := h.at1 (i := 0) (by simp)
    subst hl
    have hcap := h.cap
    refine (Any.strings_Join shJoin shJoinX b o c (x :: r) sep w ?_ (hlt _ rfl) (by omega) (by simpa using hcap) hlen).mono ?_
    · intro j y hy
      obtain ⟨hj, rfl⟩ := List.getElem?_eq_some_iff.1 hy
      obtain ⟨b', o', h1, h2⟩ := h.at1 (i := j) hj
      cases h1
      exact h2
    · rintro e w' ⟨rfl, hB⟩
      exact ⟨rfl, below_grown hB⟩
end Go.Proofs.YtiaonbofkgkdhaaGreatDoor

set_option linter.unusedVariables false
set_option linter.unusedSimpArgs false
namespace Go.Proofs.YtiaonbofkgkdhaaGreatDoor
open Go.RowKit _root_.Nm Ax Lx
theorem cat_lst (x y : List UInt8) (h : x.length + y.length ≤ 1000000000000000) (w : World) : (Op.stringOp .add ⟨x.toArray⟩ ⟨y.toArray⟩).run Tryz.prog w = .ok (str (x ++ y)) w := by
  rw [run_string_add_sum w _ _ (by show x.toArray.size + y.toArray.size ≤ _; rw [List.size_toArray, List.size_toArray]; omega), ByteArray.mk_append_mk]
theorem exNe : 43 ≠ 5 := by decide
theorem stNe : 49 ≠ 5 := by decide
/-- all numbers of the tree have at most 200 digits -/
def ShT : Nat → Tr → Prop
  | 0, _ => True
  | m + 1, .node h l => (h.num.length ≤ 200 ∧ h.den.length ≤ 200) ∧ ∀ i (hi : i < l.length), ShT m l[i]
theorem WPst.keep {B b : Nat} {bs l : List UInt8} {lg : Bool} {w w' : World} (h : WPst B b bs lg l w) (hg : w.grownBy w' none) : WPst B b bs lg l w' := by
  obtain ⟨bs', lg', hw, hp⟩ := h
  exact ⟨bs', lg', hw.keep hg, hp⟩
theorem WPst.lt {B b : Nat} {bs l : List UInt8} {lg : Bool} {w : World} (h : WPst B b bs lg l w) : b < w.heap.size := by
  obtain ⟨bs', lg', hw, hp⟩ := h
  exact hw.lt
theorem put_st {B b : Nat} {bs acc : List UInt8} {lg : Bool} (s : ByteArray) (l : List UInt8) (hl : s.data.toList = l) (w : World) (h : WPst B b bs lg acc w) (hs : l.length ≤ 100000000) (hBw : B ≤ w.heap.size) :
    Calls Tryz.prog 56 #[.pointer (some ⟨b, 0, none⟩), .string s] w fun e w' => e = .returned (.tuple #[]) ∧ WPst B b bs lg (acc ++ l) w' ∧ PK B b w w' := by
  obtain ⟨bs', lg', hw, hp⟩ := h
  refine (put_any B b bs' lg' s l hl w hw hp.ok hs hBw).mono ?_
  rintro e w' ⟨rfl, ⟨b2, l2, hw2, hp2⟩, hk⟩
  exact ⟨rfl, ⟨b2, l2, hw2, hp.trans hp2⟩, hk⟩
theorem sep_st {B b : Nat} {bs acc : List UInt8} {lg : Bool} (i : Nat) (w : World) (h : WPst B b bs lg acc w) (hBw : B ≤ w.heap.size) :
    Calls Tryz.prog 62 #[.pointer (some ⟨b, 0, none⟩), .int .i64 i] w fun e w' => e = .returned (.tuple #[]) ∧ WPst B b bs lg (acc ++ if i = 0 then [] else cms) w' ∧ PK B b w w' := by
  obtain ⟨bs', lg', hw, hp⟩ := h
  refine (sep_any B b bs' lg' i w hw hp.ok hBw).mono ?_
  rintro e w' ⟨rfl, ⟨b2, l2, hw2, hp2⟩, hk⟩
  exact ⟨rfl, ⟨b2, l2, hw2, hp.trans hp2⟩, hk⟩
set_option maxHeartbeats 4000000 in
theorem hasR_any (k : Int) (w : World) : Calls Tryz.prog 63 #[.int .i64 k] w fun e w' => e = .returned (.bool (hasR k)) ∧ w.grownBy w' none := by
  unfold hasR
  by_cases h1 : k = 11
  · subst h1
    go_enter Tryz.func63, Tryz.ntmps63
    go_wp2_with fail
    go_ret
    exact ⟨by simp, grown_refl _ _⟩
  · have hq : (k == 11) = false := by simpa using h1
    by_cases h2 : k = 68
    · subst h2
      go_enter Tryz.func63, Tryz.ntmps63
      go_wp2_with fail
      go_ret
      exact ⟨by simp, grown_refl _ _⟩
    · have hq2 : (k == 68) = false := by simpa using h2
      go_enter Tryz.func63, Tryz.ntmps63
      go_wp2_with fail
      go_ret
      exact ⟨by simp [h1, h2], grown_refl _ _⟩
/-- whatever the writer holds, the expression's text comes behind it -/
def ExOk (W0 : World) (B b : Nat) (cs : List Value) (T : List UInt8) : Prop := ∀ (w : World) (bs : List UInt8) (lg : Bool) (acc : List UInt8), W0.grownBy w none → B ≤ w.heap.size → WPst B b bs lg acc w →
    Calls Tryz.prog 31 #[.pointer (some ⟨b, 0, none⟩), .agg cs.toArray] w fun e w' => e = .returned (.tuple #[]) ∧ WPst B b bs lg (acc ++ T) w' ∧ PK B b w w'
theorem hasR_prm {k : Int} (h : hasR k = true) : 0 < (prm k).length := by
  unfold hasR at h
  rcases of_decide_eq_true h with rfl | rfl <;> decide
set_option maxHeartbeats 64000000 in
set_option maxRecDepth 100000 in
theorem expr_ok : ∀ (m : Nat) (cs : List Value) (t : Tr) (W0 : World) (B b : Nat), Tb W0 → Tp W0 → ERd W0 m cs t → WfT m t → DgF m t → ShT m t → szF m t ≤ 1048576 → W0.heap.size ≤ B → B ≤ b → ExOk W0 B b cs (txF m t)
  | 0, _, _, _, _, _, _, _, h, _, _, _, _, _, _ => h.elim
  | m + 1, cs, .node h l, W0, B, b, Tq, TP, hE, hWf, hD, hS, hsz, hWB, hBb => by
    have IH := hid (expr_ok m)
    intro w bs lg acc hg0 hBw hI
    obtain ⟨e1, e2, e3, p1, n1, c1, p2, n2, c2, p3, n3, c3, e7, rfl⟩ := hE.shape
    obtain ⟨⟨r1, r2, r3, r7⟩, hn, hd, hA, hnm⟩ := ARd.of hE
    obtain ⟨⟨hla, hca, hma⟩, _⟩ := id hA
    have hn2 : e2.size ≤ 1048576 := by rw [r2]; rw [szF_succ] at hsz; omega
    have hG1 := World.grownBy_alloc w (.cells #[.int .i64 e1, .string e2, .bool e3, .slice p1 n1 c1, .slice p2 n2 c2, .slice p3 n3 c3, .int .i64 e7] 43 (0, 0)) none
    have hbx := blk0 w (.cells #[.int .i64 e1, .string e2, .bool e3, .slice p1 n1 c1, .slice p2 n2 c2, .slice p3 n3 c3, .int .i64 e7] 43 (0, 0))
    have hlt0 := hI.lt
    have hI1 := hI.keep hG1
    have hgw := grown_trans hg0 hG1
    have hPK1 : PK B b w (w.alloc (.cells #[.int .i64 e1, .string e2, .bool e3, .slice p1 n1 c1, .slice p2 n2 c2, .slice p3 n3 c3, .int .i64 e7] 43 (0, 0))) := PK.ofGrown hBw hG1
    have hs1 : (w.alloc (.cells #[.int .i64 e1, .string e2, .bool e3, .slice p1 n1 c1, .slice p2 n2 c2, .slice p3 n3 c3, .int .i64 e7] 43 (0, 0))).heap.size = w.heap.size + 1 := by simp
    obtain ⟨⟨k0, k1, k2, k3, k4, k5, k6⟩, -⟩ := box7 hbx
    have hKb : w.heap.size ≠ b := by omega
    obtain ⟨bs1, lg1, hw1, hp1⟩ := id hI1
    have c2' : (w.alloc (.cells #[.int .i64 e1, .string e2, .bool e3, .slice p1 n1 c1, .slice p2 n2 c2, .slice p3 n3 c3, .int .i64 e7] 43 (0, 0))).cell? ⟨b, 2, none⟩ = some (.bool lg1) := by
      obtain ⟨_, q, v, hq, hb, ho⟩ := hw1
      rw [Lib.cell_of_heap hb]; rfl
    cases lg1 with
    | true =>
      have HR : Hid (WPst B b bs lg (acc ++ txF (m + 1) (.node h l)) (w.alloc (.cells #[.int .i64 e1, .string e2, .bool e3, .slice p1 n1 c1, .slice p2 n2 c2, .slice p3 n3 c3, .int .i64 e7] 43 (0, 0)))) := hid ⟨bs1, true, hw1, hp1.trans (PW.skip _ _)⟩
      have HP := hid hPK1
      clear hI hI1 hw1 hp1 hE hA hn hd hPK1 IH hbx hG1 hs1 r1 r2 r3 r7
      go_enter Tryz.func31, Tryz.ntmps31
      go_upto_region 1 with fail
      generalize (w.alloc _) = wa at *
      go_wp2_with fail
      (try simp only [Exit.inBlock, Exit.then])
      refine bodyPost_ret (results_none rfl _ _ _) rfl ?_
      exact ⟨rfl, HR.out, HP.out⟩
    | false =>
    by_cases hk1 : h.k = 1
    · have he1 : e1 = 1 := r1.trans hk1
      subst he1
      have HPt := hid (put_st e2 (txF (m + 1) (.node h l)) (by rw [txF_name hk1, r2]) _ hI1 (by rw [txF_name hk1, ← r2, Array.length_toList]; exact Nat.le_trans hn2 (by decide)) (by omega))
      have HP := hid hPK1
      clear hI hI1 hw1 hp1 hE hA hn hd hPK1 IH hG1 hs1 r1 r2 r3 r7
      go_enter Tryz.func31, Tryz.ntmps31
      go_upto_region 1 with fail
      generalize (w.alloc _) = wa at *
      go_wp2_with (go_at_call 56; (with_reducible refine HPt.out.mono ?_); rintro e w2 ⟨rfl, hw2, hp2⟩)
      (try simp only [Exit.inBlock, Exit.then])
      refine bodyPost_ret (results_none rfl _ _ _) rfl ?_
      exact ⟨rfl, hw2, HP.out.trans hp2⟩
    · have hq1 : (e1 == 1) = false := by rw [r1]; simpa using hk1
      have hQ := IsQ.of e3 hn hD.1.1 hd hD.1.2
      have hv : mkRat (sg e3 (V 65536 h.num)) (V 65536 h.den) = rvH h := by rw [r3]; rfl
      rw [hv] at hQ
      have hln := hn.len
      have hld := hd.len
      have hS1 := hS.1
      have hrl := rtx_len hQ
      have HT := hid fun W (hW : W0.grownBy W none) => ratText_v (Tq.keep hW) (tp_keep TP hW) (hQ.keep hW) (by omega) (by omega)
      have HEx : Hid (∀ i (hi : i < l.length) (cs' : List Value), ERd W0 m cs' l[i] → ExOk W0 B b cs' (txF m l[i])) := hid (fun i hi cs' hE' => IH.out cs' l[i] W0 B b Tq TP hE' (hWf.2.2.2 i hi) (hD.2 i hi) (hS.2 i hi) (by have := sz_child m h l hi; omega) hWB hBb)
      have HTX := hid (txF_node (m := m) (l := l) hk1)
      have HA := hid hA
      have hwd := wrd_len e1
      obtain ⟨s1, hs1'⟩ : ∃ s1, s1 = wrd e1 ++ [40] := ⟨_, rfl⟩
      have hls1 : s1.length ≤ 14 := by rw [hs1', List.length_append]; exact Nat.add_le_add hwd (Nat.le_refl 1)
      have hcat : ∀ w, (Op.stringOp .add ⟨(wrd e1).toArray⟩ ⟨#[40]⟩).run Tryz.prog w = .ok (str s1) w := fun w => by rw [hs1']; exact cat_lst (wrd e1) [40] (by simp only [List.length_cons, List.length_nil]; omega) w
      have HW1 := hid fun w => astWord_any e1 w
      have HR1 := hid r1
      have hrl9 : (rtx (rvH h)).length ≤ 100000 := by omega
      obtain ⟨rt, hrt⟩ : ∃ rt, rt = rtx (rvH h) := ⟨_, rfl⟩
      rw [← hrt] at HT hrl9
      have HRT := hid hrt
      have HS1 := hid hs1'
      have HN3 : Hid (hasR e1 = true → 0 < n3) := hid (fun h9 => by rw [← hla, hWf.1, ← r1]; exact hasR_prm h9)
      generalize hwg : wrd e1 = wd at HW1 hcat
      have HI1 := hid hI1
      have HPK := hid hPK1
      have HBX := hid hbx
      clear hI hI1 hw1 hp1 hE hA hn hd hPK1 IH hG1 hs1' hwg hwd hv hQ hrl hln hld hS1 r1 r2 r3 r7 hbx hrt
      go_enter Tryz.func31, Tryz.ntmps31
      go_upto_region 1 with fail
      generalize (w.alloc _) = wa at *
      go_wp2_with (first | (go_at_call 61; (with_reducible refine (HW1.out _).mono ?_); rintro e w2 ⟨rfl, hg2⟩; replace HI1 := hid (HI1.out.keep hg2); have hz2 := hg2.size; replace HPK := hid (HPK.out.trans (PK.ofGrown (by omega) hg2)); replace hgw := grown_trans hgw hg2; replace HBX := hid ((hg2.block _ (by omega) (by simp)).trans HBX.out); replace k5 := hg2.cell k5 (by simp); clear hg2) | (go_at_call 56; (with_reducible refine (put_st _ s1 (List.toList_toArray) _ HI1.out (by omega) (by omega)).mono ?_); rintro e w3 ⟨rfl, hw3, hp3⟩; have HBX3 := hp3.box HBX.out hKb exNe; obtain ⟨⟨k0', k1', k2', k3', k4', k5', k6'⟩, -⟩ := box7 HBX3))
      have HI3 := hid hw3
      have HP3 := hid (HPK.out.trans hp3)
      have HB3 := hid HBX3
      have hg3 := PK.base hgw hp3 hWB
      clear hw3 hp3 HBX3 k0' k1' k2' k3' k4' k5' k6' k0 k1 k2 k3 k4 k5 k6 c2' HI1 HPK HBX hgw hcat
      go_loopw [26] (fun z wr => ∃ k : Nat, k ≤ n3 ∧ z = .int .i64 k ∧ W0.grownBy wr none ∧ PK B b w wr ∧ wr.heap[w.heap.size]? = some (.cells #[.int .i64 e1, .string e2, .bool e3, .slice p1 n1 c1, .slice p2 n2 c2, .slice p3 n3 c3, .int .i64 e7] 43 (0, 0)) ∧ WPst B b bs lg (acc ++ s1 ++ jn ((l.map (txF m)).take k)) wr) (fun z _ => n3 - (intOf z).toNat)
      case atStart => exact ⟨0, Nat.zero_le _, rfl, hg3, HP3.out, HB3.out, by rw [List.take_zero, jn_nil, List.append_nil]; exact HI3.out⟩
      case round =>
        obtain ⟨k, hk, rfl, hgr, hPr, hBr, hIr⟩ := hrel
        have hzr := (Array.getElem?_eq_some_iff.1 hBr).1
        by_cases hlt : k < n3
        · obtain ⟨bA, oA, x1, x2, x3, q1, m1, d1, q2, m2, d2, q3, m3, d3, x7, rfl, hE2, b0, b1, b2, b3, b4, b5, b6⟩ := HA.out.at (i := k) (by omega)
          have a0 := hgr.cell b0 (by simp)
          have a1 := hgr.cell b1 (by simp)
          have a2 := hgr.cell b2 (by simp)
          have a3 := hgr.cell b3 (by simp)
          have a4 := hgr.cell b4 (by simp)
          have a5 := hgr.cell b5 (by simp)
          have a6 := hgr.cell b6 (by simp)
          have hG := World.grownBy_alloc wr (.cells #[.int .i64 x1, .string x2, .bool x3, .slice q1 m1 d1, .slice q2 m2 d2, .slice q3 m3 d3, .int .i64 x7] 43 (0, 0)) none
          have hbx2 := blk0 wr (.cells #[.int .i64 x1, .string x2, .bool x3, .slice q1 m1 d1, .slice q2 m2 d2, .slice q3 m3 d3, .int .i64 x7] 43 (0, 0))
          have HSp := hid (sep_st k _ (hIr.keep hG) (by simp; omega))
          have HEk : Hid (∀ (W : World) (acc' : List UInt8), W0.grownBy W none → B ≤ W.heap.size → WPst B b bs lg acc' W → Calls Tryz.prog 31 #[.pointer (some ⟨b, 0, none⟩), .agg #[.int .i64 x1, .string x2, .bool x3, .slice q1 m1 d1, .slice q2 m2 d2, .slice q3 m3 d3, .int .i64 x7]] W fun e w' => e = .returned (.tuple #[]) ∧ WPst B b bs lg (acc' ++ txF m (l[k]'(by omega))) w' ∧ PK B b W w') := hid (fun W acc' h1 h2 h3 => HEx.out k (by omega) _ hE2 W bs lg acc' h1 h2 h3)
          have HPa : Hid (PK B b w (wr.alloc (.cells #[.int .i64 x1, .string x2, .bool x3, .slice q1 m1 d1, .slice q2 m2 d2, .slice q3 m3 d3, .int .i64 x7] 43 (0, 0)))) := hid (hPr.trans (PK.ofGrown (by omega) hG))
          have HBa := hid ((hG.block _ (by omega) (by simp)).trans hBr)
          have HGa := hid (grown_trans hgr hG)
          have HTK : Hid (jn ((l.map (txF m)).take (k + 1)) = jn ((l.map (txF m)).take k) ++ (if k = 0 then [] else cms) ++ txF m (l[k]'(by omega))) := hid (by
            rw [jn_step (P := l.map (txF m)) (k := k) (by simp; omega), List.getElem_map])
          generalize txF m (l[k]'(by omega)) = T9 at HEk HTK
          have HBX2 := hid hbx2
          have hzb : b < wr.heap.size := by omega
          clear hIr hE2 b0 b1 b2 b3 b4 b5 b6 hgr hPr hBr hG hbx2
          go_wp2_with (first | (go_at_call 62; (with_reducible refine HSp.out.mono ?_); rintro e w4 ⟨rfl, hw4, hp4⟩; have hz4 := hp4.size; simp only [World.size_alloc] at hz4; have hbx4 := hp4.box HBX2.out (by omega) exNe; obtain ⟨⟨j0, j1, j2, j3, j4, j5, j6⟩, -⟩ := box7 hbx4; clear hbx4) | (go_at_call 31; (with_reducible refine (HEk.out _ _ (PK.base HGa.out hp4 hWB) (by omega) hw4).mono ?_); rintro e w5 ⟨rfl, hw5, hp5⟩))
          refine ⟨⟨k + 1, by omega, by go_num, PK.base (PK.base HGa.out hp4 hWB) hp5 hWB, (HPa.out.trans hp4).trans hp5, hp5.box (hp4.box HBa.out hKb exNe) hKb exNe, ?_⟩, by simp [intOf]; omega⟩
          rw [HTK.out]
          simpa [List.append_assoc] using hw5
        · obtain rfl : k = n3 := by omega
          rw [List.take_of_length_le (by simp; omega)] at hIr
          obtain ⟨⟨k0, k1, k2, k3, k4, k5, k6⟩, -⟩ := box7 hBr
          have HIR := hid hIr
          have HPR := hid hPr
          have HBR := hid hBr
          have HGR := hid hgr
          have HHR := hid fun w => hasR_any e1 w
          clear hIr hPr hBr hgr
          cases hb : hasR e1 with
          | false =>
            rw [hb] at HHR
            have HFT : Hid (acc ++ txF (m + 1) (.node h l) = acc ++ s1 ++ jn (l.map (txF m)) ++ [41]) := hid (by
              rw [HTX.out, HS1.out, HR1.out]
              unfold pzF
              rw [← HR1.out, hb]
              simp [List.append_assoc])
            clear hb
            go_wp2_with (first | (go_at_call 63; (with_reducible refine (HHR.out _).mono ?_); rintro e w6 ⟨rfl, hg6⟩; have hz6 := hg6.size; have HI6 := hid (HIR.out.keep hg6); have hP6 := HPR.out.trans (PK.ofGrown (by omega) hg6)) | (go_at_call 56; (with_reducible refine (put_st ⟨#[41]⟩ [41] rfl _ HI6.out (by decide) (by omega)).mono ?_); rintro e w7 ⟨rfl, hw7, hp7⟩))
            go_end0
            exact ⟨rfl, by rw [HFT.out]; exact hw7, hP6.trans hp7⟩
          | true =>
            rw [hb] at HHR
            have hn0 := HN3.out hb
            have HFT : Hid (acc ++ txF (m + 1) (.node h l) = acc ++ s1 ++ jn (l.map (txF m)) ++ cms ++ rt ++ [41]) := hid (by
              rw [HTX.out, HS1.out, HR1.out]
              unfold pzF
              rw [← HR1.out, hb, if_pos rfl, jn_snoc _ _ (by
                intro h1
                have h2 := congrArg List.length h1
                rw [List.length_map, hla] at h2
                simp at h2
                omega), ← HRT.out]
              simp [List.append_assoc])
            have hn9 : ¬ k = 0 := by omega
            have HSp : Hid (∀ W, WPst B b bs lg (acc ++ s1 ++ jn (l.map (txF m))) W → B ≤ W.heap.size → Calls Tryz.prog 62 #[.pointer (some ⟨b, 0, none⟩), .int .i64 k] W fun e w' => e = .returned (.tuple #[]) ∧ WPst B b bs lg (acc ++ s1 ++ jn (l.map (txF m)) ++ cms) w' ∧ PK B b W w') := hid (fun W h1 h2 => by
              have := sep_st k W h1 h2
              rwa [if_neg hn9] at this)
            clear hb hn9
            go_wp2_with (first | (go_at_call 63; (with_reducible refine (HHR.out _).mono ?_); rintro e w6 ⟨rfl, hg6⟩; have hz6 := hg6.size; have HI6 := hid (HIR.out.keep hg6); have hP6 := HPR.out.trans (PK.ofGrown (by omega) hg6); have HB6 := hid ((hg6.block _ (by omega) (by simp)).trans HBR.out); obtain ⟨⟨j0, j1, j2, j3, j4, j5, j6⟩, -⟩ := box7 HB6.out; have hg06 := grown_trans HGR.out hg6; clear hg6) | (go_at_call 62; (with_reducible refine (HSp.out _ HI6.out (by omega)).mono ?_); rintro e w7 ⟨rfl, hw7, hp7⟩; have hz7 := hp7.size; have HB7 := hid (hp7.box HB6.out hKb exNe); obtain ⟨⟨i0, i1, i2, i3, i4, i5, i6⟩, -⟩ := box7 HB7.out; have hg07 := PK.base hg06 hp7 hWB) | (go_at_call 18; (with_reducible refine (HT.out _ hg07).mono ?_); rintro e w8 ⟨rfl, hg8⟩; have hz8 := hg8.size; have hw8 := hw7.keep hg8; have hp8 := hp7.trans (PK.ofGrown (by omega) hg8)) | (go_at_call 56; (with_reducible refine (put_st ⟨#[41]⟩ [41] rfl _ hw9 (by decide) (by omega)).mono ?_); rintro e w10 ⟨rfl, hw10, hp10⟩) | (go_at_call 56; (with_reducible refine (put_st _ rt (List.toList_toArray) _ hw8 (by omega) (by omega)).mono ?_); rintro e w9 ⟨rfl, hw9, hp9⟩; have hz9 := hp9.size))
            go_end0
            exact ⟨rfl, by rw [HFT.out]; exact hw10, ((hP6.trans hp8).trans hp9).trans hp10⟩
end Go.Proofs.YtiaonbofkgkdhaaGreatDoor

set_option linter.unusedVariables false
set_option linter.unusedSimpArgs false
namespace Go.Proofs.YtiaonbofkgkdhaaGreatDoor
open Go.RowKit _root_.Nm Ax Lx
def namesB (L : List ByteArray) : List (List UInt8) := L.map fun d => d.data.toList
def nm0 (L : List ByteArray) : List UInt8 := (L.getD 0 ⟨#[]⟩).data.toList
/-- " := " -/
def asg : List UInt8 := [32, 58, 61, 32]
/-- the text of a statement without its end -/
def lnF (k : Int) (L : List ByteArray) (T : List UInt8) : List UInt8 :=
  if k = 1 then [112, 111, 105, 110, 116, 115, 32] ++ jn (namesB L) else if k = 3 then [108, 105, 110, 101, 32] ++ (nm0 L ++ asg ++ T) else if k = 4 then [99, 105, 114, 99, 108, 101, 32] ++ (nm0 L ++ asg ++ T) else if k = 5 then [112, 114, 111, 118, 101, 32] ++ T else nm0 L ++ asg ++ T
/-- what stands in the memory of a statement, as the writer needs it -/
structure StX (W0 : World) (B b : Nat) (k : Int) (pn : Option Addr) (nn cn : Nat) (ce : List Value) (L : List ByteArray) (T : List UInt8) : Prop where
  names : NRd W0 pn nn cn L
  sizes : ∀ i (hi : i < L.length), (L[i]).size ≤ 1048576
  one : k ≠ 1 → k ≠ 5 → 0 < nn
  expr : k ≠ 1 → ExOk W0 B b ce T
set_option maxHeartbeats 32000000 in
set_option maxRecDepth 100000 in
theorem points_ok (W0 : World) (B b : Nat) (hWB : W0.heap.size ≤ B) (k : Int) (pn : Option Addr) (nn cn : Nat) (e1 : Int) (e2 : ByteArray) (e3 : Bool) (p1 : Option Addr) (n1 c1 : Nat) (p2 : Option Addr) (n2 c2 : Nat) (p3 : Option Addr) (n3 c3 : Nat) (e7 o9 : Int) (L : List ByteArray) (hL : NRd W0 pn nn cn L) (hNs : ∀ i (hi : i < L.length), (L[i]).size ≤ 1048576) (w : World) (bs : List UInt8) (lg : Bool) (acc : List UInt8) (hg0 : W0.grownBy w none) (hBw : B ≤ w.heap.size) (hI : WPst B b bs lg acc w) :
    Calls Tryz.prog 99 #[.pointer (some ⟨b, 0, none⟩), .agg #[.int .i64 k, .slice pn nn cn, .int .i64 e1, .string e2, .bool e3, .slice p1 n1 c1, .slice p2 n2 c2, .slice p3 n3 c3, .int .i64 e7, .int .i64 o9]] w fun e w' => e = .returned (.tuple #[]) ∧ WPst B b bs lg (acc ++ ([112, 111, 105, 110, 116, 115, 32] ++ jn (namesB L))) w' ∧ PK B b w w' := by
  have hG1 := World.grownBy_alloc w (.cells #[.int .i64 k, .slice pn nn cn, .int .i64 e1, .string e2, .bool e3, .slice p1 n1 c1, .slice p2 n2 c2, .slice p3 n3 c3, .int .i64 e7, .int .i64 o9] 49 (0, 0)) none
  have hbx := blk0 w (.cells #[.int .i64 k, .slice pn nn cn, .int .i64 e1, .string e2, .bool e3, .slice p1 n1 c1, .slice p2 n2 c2, .slice p3 n3 c3, .int .i64 e7, .int .i64 o9] 49 (0, 0))
  have hlt0 := hI.lt
  have hI1 := hI.keep hG1
  have hgw := grown_trans hg0 hG1
  have hPK1 : PK B b w (w.alloc (.cells #[.int .i64 k, .slice pn nn cn, .int .i64 e1, .string e2, .bool e3, .slice p1 n1 c1, .slice p2 n2 c2, .slice p3 n3 c3, .int .i64 e7, .int .i64 o9] 49 (0, 0))) := PK.ofGrown hBw hG1
  have hs1 : (w.alloc (.cells #[.int .i64 k, .slice pn nn cn, .int .i64 e1, .string e2, .bool e3, .slice p1 n1 c1, .slice p2 n2 c2, .slice p3 n3 c3, .int .i64 e7, .int .i64 o9] 49 (0, 0))).heap.size = w.heap.size + 1 := by simp
  obtain ⟨⟨k0, k1, k2, k3, k4, k5, k6, k7, k8, k9⟩, -⟩ := box10' hbx
  have hKb : w.heap.size ≠ b := by omega
  have hLl := hL.len
  have hLc := hL.cap
  have hLm := hL.max
  have HL := hid hL
  have HNS := hid hNs
  have HI1 := hid hI1
  have HPK := hid hPK1
  have HBX := hid hbx
  clear hL hNs hI hI1 hPK1 hbx hG1
  go_enter Tryz.func99, Tryz.ntmps99
  go_upto_region 1 with fail
  generalize (w.alloc _) = wa at *
  go_wp2_with (go_at_call 56; (with_reducible refine (put_st ⟨#[112, 111, 105, 110, 116, 115, 32]⟩ [112, 111, 105, 110, 116, 115, 32] rfl _ HI1.out (by decide) (by omega)).mono ?_); rintro e w3 ⟨rfl, hw3, hp3⟩; have HBX3 := hp3.box HBX.out hKb stNe; obtain ⟨⟨j0, j1, j2, j3, j4, j5, j6, j7, j8, j9⟩, -⟩ := box10' HBX3)
  have HI3 := hid hw3
  have HP3 := hid (HPK.out.trans hp3)
  have hg3 := PK.base hgw hp3 hWB
  clear hw3 hp3 HBX3 j0 j1 j2 j3 j4 j5 j6 j7 j8 j9 k0 k1 k2 k3 k4 k5 k6 k7 k8 k9 HI1 HPK HBX hgw
  go_loopw [11] (fun z wr => ∃ i : Nat, i ≤ nn ∧ z = .int .i64 i ∧ W0.grownBy wr none ∧ PK B b w wr ∧ WPst B b bs lg (acc ++ [112, 111, 105, 110, 116, 115, 32] ++ jn ((namesB L).take i)) wr) (fun z _ => nn - (intOf z).toNat)
  case atStart => exact ⟨0, Nat.zero_le _, rfl, hg3, HP3.out, by rw [List.take_zero, jn_nil, List.append_nil]; exact HI3.out⟩
  case round =>
    obtain ⟨i, hi, rfl, hgr, hPr, hIr⟩ := hrel
    have hzr := hPr.size
    by_cases hlt : i < nn
    · obtain ⟨bN, oN, rfl, c1'⟩ := (HL.out.keep hgr).at1 (i := i) (by omega)
      have hnd := HNS.out i (by omega)
      have HTK : Hid (jn ((namesB L).take (i + 1)) = jn ((namesB L).take i) ++ (if i = 0 then [] else cms) ++ (L[i]'(by omega)).data.toList) := hid (by
        rw [jn_step (P := namesB L) (k := i) (by simp [namesB]; omega)]
        simp [namesB])
      generalize (L[i]'(by omega)) = nd at *
      have HSp := hid (sep_st i _ hIr (by omega))
      have HPR := hid hPr
      have HGR := hid hgr
      clear hIr hPr hgr
      go_wp2_with (first | (go_at_call 62; (with_reducible refine HSp.out.mono ?_); rintro e w4 ⟨rfl, hw4, hp4⟩; have hz4 := hp4.size) | (go_at_call 56; (with_reducible refine (put_st nd nd.data.toList rfl _ hw4 (by rw [Array.length_toList]; exact Nat.le_trans hnd (by decide)) (by omega)).mono ?_); rintro e w5 ⟨rfl, hw5, hp5⟩))
      refine ⟨⟨i + 1, by omega, by go_num, PK.base (PK.base HGR.out hp4 hWB) hp5 hWB, (HPR.out.trans hp4).trans hp5, ?_⟩, by simp [intOf]; omega⟩
      rw [HTK.out]
      simpa [List.append_assoc] using hw5
    · obtain rfl : i = nn := by omega
      rw [List.take_of_length_le (by simp [namesB]; omega), List.append_assoc] at hIr
      have HIR := hid hIr
      have HPR := hid hPr
      clear hIr hPr hgr
      go_wp2_with fail
      go_end0
      exact ⟨rfl, HIR.out, HPR.out⟩
theorem cat_nd (d : ByteArray) (x : List UInt8) (h : d.size + x.length ≤ 1000000000000000) (w : World) : (Op.stringOp .add d ⟨x.toArray⟩).run Tryz.prog w = .ok (str (d.data.toList ++ x)) w := by
  have h1 : (⟨d.data.toList.toArray⟩ : ByteArray) = d := by rw [Array.toArray_toList]
  have h2 := cat_lst d.data.toList x (by rw [Array.length_toList]; exact h) w
  rwa [h1] at h2
set_option maxHeartbeats 32000000 in
set_option maxRecDepth 100000 in
theorem point_ok (W0 : World) (B b : Nat) (hWB : W0.heap.size ≤ B) (k : Int) (pn : Option Addr) (nn cn : Nat) (e1 : Int) (e2 : ByteArray) (e3 : Bool) (p1 : Option Addr) (n1 c1 : Nat) (p2 : Option Addr) (n2 c2 : Nat) (p3 : Option Addr) (n3 c3 : Nat) (e7 o9 : Int) (L : List ByteArray) (T : List UInt8) (hL : NRd W0 pn nn cn L) (hNs : ∀ i (hi : i < L.length), (L[i]).size ≤ 1048576) (hn0 : 0 < nn) (hEx : ExOk W0 B b [.int .i64 e1, .string e2, .bool e3, .slice p1 n1 c1, .slice p2 n2 c2, .slice p3 n3 c3, .int .i64 e7] T) (w : World) (bs : List UInt8) (lg : Bool) (acc : List UInt8) (hg0 : W0.grownBy w none) (hBw : B ≤ w.heap.size) (hI : WPst B b bs lg acc w) :
    Calls Tryz.prog 103 #[.pointer (some ⟨b, 0, none⟩), .agg #[.int .i64 k, .slice pn nn cn, .int .i64 e1, .string e2, .bool e3, .slice p1 n1 c1, .slice p2 n2 c2, .slice p3 n3 c3, .int .i64 e7, .int .i64 o9]] w fun e w' => e = .returned (.tuple #[]) ∧ WPst B b bs lg (acc ++ (nm0 L ++ asg ++ T)) w' ∧ PK B b w w' := by
  have hG1 := World.grownBy_alloc w (.cells #[.int .i64 k, .slice pn nn cn, .int .i64 e1, .string e2, .bool e3, .slice p1 n1 c1, .slice p2 n2 c2, .slice p3 n3 c3, .int .i64 e7, .int .i64 o9] 49 (0, 0)) none
  have hbx := blk0 w (.cells #[.int .i64 k, .slice pn nn cn, .int .i64 e1, .string e2, .bool e3, .slice p1 n1 c1, .slice p2 n2 c2, .slice p3 n3 c3, .int .i64 e7, .int .i64 o9] 49 (0, 0))
  have hlt0 := hI.lt
  have hI1 := hI.keep hG1
  have hgw := grown_trans hg0 hG1
  have hPK1 : PK B b w (w.alloc (.cells #[.int .i64 k, .slice pn nn cn, .int .i64 e1, .string e2, .bool e3, .slice p1 n1 c1, .slice p2 n2 c2, .slice p3 n3 c3, .int .i64 e7, .int .i64 o9] 49 (0, 0))) := PK.ofGrown hBw hG1
  have hs1 : (w.alloc (.cells #[.int .i64 k, .slice pn nn cn, .int .i64 e1, .string e2, .bool e3, .slice p1 n1 c1, .slice p2 n2 c2, .slice p3 n3 c3, .int .i64 e7, .int .i64 o9] 49 (0, 0))).heap.size = w.heap.size + 1 := by simp
  obtain ⟨⟨k0, k1, k2, k3, k4, k5, k6, k7, k8, k9⟩, -⟩ := box10' hbx
  have hKb : w.heap.size ≠ b := by omega
  have hLl := hL.len
  obtain ⟨bN, oN, rfl, c1'⟩ := (hL.keep hgw).at1 (i := 0) (by omega)
  rw [Nat.add_zero] at c1'
  have hnd := hNs 0 (by omega)
  have HN0 : Hid ((L[0]'(by omega)).data.toList = nm0 L) := hid (by simp [nm0, List.getD, List.getElem?_eq_getElem (show 0 < L.length by omega)])
  generalize (L[0]'(by omega)) = nd at *
  obtain ⟨s1, hs1'⟩ : ∃ s1, s1 = nd.data.toList ++ asg := ⟨_, rfl⟩
  have hl1 : s1.length ≤ 2000000 := by rw [hs1', List.length_append, Array.length_toList]; have : asg.length = 4 := rfl; have : nd.data.size ≤ 1048576 := hnd; omega
  have hcat : ∀ w, (Op.stringOp .add nd ⟨#[32, 58, 61, 32]⟩).run Tryz.prog w = .ok (str s1) w := fun w => by rw [hs1']; exact cat_nd nd asg (by show nd.size + 4 ≤ _; omega) w
  have HS1 : Hid (s1 = nm0 L ++ asg) := hid (by rw [hs1', HN0.out])
  have HEx := hid (fun W acc' h1 h2 h3 => hEx W bs lg acc' h1 h2 h3)
  have HEk : Hid (∀ (W : World) (acc' : List UInt8), W0.grownBy W none → B ≤ W.heap.size → WPst B b bs lg acc' W → Calls Tryz.prog 31 #[.pointer (some ⟨b, 0, none⟩), .agg #[.int .i64 e1, .string e2, .bool e3, .slice p1 n1 c1, .slice p2 n2 c2, .slice p3 n3 c3, .int .i64 e7]] W fun e w' => e = .returned (.tuple #[]) ∧ WPst B b bs lg (acc' ++ T) w' ∧ PK B b W w') := hid HEx.out
  have HI1 := hid hI1
  have HPK := hid hPK1
  have HBX := hid hbx
  clear hL hNs hI hI1 hPK1 hbx hG1 hEx hs1' HEx
  go_enter Tryz.func103, Tryz.ntmps103
  go_upto_region 1 with fail
  generalize (w.alloc _) = wa at *
  go_wp2_with (first | (go_at_call 56; (with_reducible refine (put_st _ s1 (List.toList_toArray) _ HI1.out (by omega) (by omega)).mono ?_); rintro e w3 ⟨rfl, hw3, hp3⟩; have hz3 := hp3.size; have HBX3 := hp3.box HBX.out hKb stNe; obtain ⟨⟨j0, j1, j2, j3, j4, j5, j6, j7, j8, j9⟩, -⟩ := box10' HBX3; clear HBX3) | (go_at_call 31; (with_reducible refine (HEk.out _ _ (PK.base hgw hp3 hWB) (by omega) hw3).mono ?_); rintro e w5 ⟨rfl, hw5, hp5⟩))
  go_end0
  exact ⟨rfl, by rw [HS1.out] at hw5; simpa [List.append_assoc] using hw5, (HPK.out.trans hp3).trans hp5⟩
set_option maxHeartbeats 32000000 in
set_option maxRecDepth 100000 in
theorem line_ok (W0 : World) (B b : Nat) (hWB : W0.heap.size ≤ B) (k : Int) (pn : Option Addr) (nn cn : Nat) (e1 : Int) (e2 : ByteArray) (e3 : Bool) (p1 : Option Addr) (n1 c1 : Nat) (p2 : Option Addr) (n2 c2 : Nat) (p3 : Option Addr) (n3 c3 : Nat) (e7 o9 : Int) (L : List ByteArray) (T : List UInt8) (hL : NRd W0 pn nn cn L) (hNs : ∀ i (hi : i < L.length), (L[i]).size ≤ 1048576) (hn0 : 0 < nn) (hEx : ExOk W0 B b [.int .i64 e1, .string e2, .bool e3, .slice p1 n1 c1, .slice p2 n2 c2, .slice p3 n3 c3, .int .i64 e7] T) (w : World) (bs : List UInt8) (lg : Bool) (acc : List UInt8) (hg0 : W0.grownBy w none) (hBw : B ≤ w.heap.size) (hI : WPst B b bs lg acc w) :
    Calls Tryz.prog 100 #[.pointer (some ⟨b, 0, none⟩), .agg #[.int .i64 k, .slice pn nn cn, .int .i64 e1, .string e2, .bool e3, .slice p1 n1 c1, .slice p2 n2 c2, .slice p3 n3 c3, .int .i64 e7, .int .i64 o9]] w fun e w' => e = .returned (.tuple #[]) ∧ WPst B b bs lg (acc ++ ([108, 105, 110, 101, 32] ++ (nm0 L ++ asg ++ T))) w' ∧ PK B b w w' := by
  have hG1 := World.grownBy_alloc w (.cells #[.int .i64 k, .slice pn nn cn, .int .i64 e1, .string e2, .bool e3, .slice p1 n1 c1, .slice p2 n2 c2, .slice p3 n3 c3, .int .i64 e7, .int .i64 o9] 49 (0, 0)) none
  have hbx := blk0 w (.cells #[.int .i64 k, .slice pn nn cn, .int .i64 e1, .string e2, .bool e3, .slice p1 n1 c1, .slice p2 n2 c2, .slice p3 n3 c3, .int .i64 e7, .int .i64 o9] 49 (0, 0))
  have hlt0 := hI.lt
  have hI1 := hI.keep hG1
  have hgw := grown_trans hg0 hG1
  have hPK1 : PK B b w (w.alloc (.cells #[.int .i64 k, .slice pn nn cn, .int .i64 e1, .string e2, .bool e3, .slice p1 n1 c1, .slice p2 n2 c2, .slice p3 n3 c3, .int .i64 e7, .int .i64 o9] 49 (0, 0))) := PK.ofGrown hBw hG1
  have hs1 : (w.alloc (.cells #[.int .i64 k, .slice pn nn cn, .int .i64 e1, .string e2, .bool e3, .slice p1 n1 c1, .slice p2 n2 c2, .slice p3 n3 c3, .int .i64 e7, .int .i64 o9] 49 (0, 0))).heap.size = w.heap.size + 1 := by simp
  obtain ⟨⟨k0, k1, k2, k3, k4, k5, k6, k7, k8, k9⟩, -⟩ := box10' hbx
  have hKb : w.heap.size ≠ b := by omega
  have HPt := hid (fun W acc' h1 h2 h3 => point_ok W0 B b hWB k pn nn cn e1 e2 e3 p1 n1 c1 p2 n2 c2 p3 n3 c3 e7 o9 L T hL hNs hn0 hEx W bs lg acc' h1 h2 h3)
  have HI1 := hid hI1
  have HPK := hid hPK1
  have HBX := hid hbx
  clear hL hNs hI hI1 hPK1 hbx hG1 hEx
  go_enter Tryz.func100, Tryz.ntmps100
  go_upto_region 1 with fail
  generalize (w.alloc _) = wa at *
  go_wp2_with (first | (go_at_call 56; (with_reducible refine (put_st ⟨#[108, 105, 110, 101, 32]⟩ [108, 105, 110, 101, 32] rfl _ HI1.out (by decide) (by omega)).mono ?_); rintro e w3 ⟨rfl, hw3, hp3⟩; have hz3 := hp3.size; have HBX3 := hp3.box HBX.out hKb stNe; obtain ⟨⟨j0, j1, j2, j3, j4, j5, j6, j7, j8, j9⟩, -⟩ := box10' HBX3; clear HBX3) | (go_at_call 103; (with_reducible refine (HPt.out _ _ (PK.base hgw hp3 hWB) (by omega) hw3).mono ?_); rintro e w5 ⟨rfl, hw5, hp5⟩))
  go_end0
  exact ⟨rfl, by simpa [List.append_assoc] using hw5, (HPK.out.trans hp3).trans hp5⟩
set_option maxHeartbeats 32000000 in
set_option maxRecDepth 100000 in
theorem circle_ok (W0 : World) (B b : Nat) (hWB : W0.heap.size ≤ B) (k : Int) (pn : Option Addr) (nn cn : Nat) (e1 : Int) (e2 : ByteArray) (e3 : Bool) (p1 : Option Addr) (n1 c1 : Nat) (p2 : Option Addr) (n2 c2 : Nat) (p3 : Option Addr) (n3 c3 : Nat) (e7 o9 : Int) (L : List ByteArray) (T : List UInt8) (hL : NRd W0 pn nn cn L) (hNs : ∀ i (hi : i < L.length), (L[i]).size ≤ 1048576) (hn0 : 0 < nn) (hEx : ExOk W0 B b [.int .i64 e1, .string e2, .bool e3, .slice p1 n1 c1, .slice p2 n2 c2, .slice p3 n3 c3, .int .i64 e7] T) (w : World) (bs : List UInt8) (lg : Bool) (acc : List UInt8) (hg0 : W0.grownBy w none) (hBw : B ≤ w.heap.size) (hI : WPst B b bs lg acc w) :
    Calls Tryz.prog 101 #[.pointer (some ⟨b, 0, none⟩), .agg #[.int .i64 k, .slice pn nn cn, .int .i64 e1, .string e2, .bool e3, .slice p1 n1 c1, .slice p2 n2 c2, .slice p3 n3 c3, .int .i64 e7, .int .i64 o9]] w fun e w' => e = .returned (.tuple #[]) ∧ WPst B b bs lg (acc ++ ([99, 105, 114, 99, 108, 101, 32] ++ (nm0 L ++ asg ++ T))) w' ∧ PK B b w w' := by
  have hG1 := World.grownBy_alloc w (.cells #[.int .i64 k, .slice pn nn cn, .int .i64 e1, .string e2, .bool e3, .slice p1 n1 c1, .slice p2 n2 c2, .slice p3 n3 c3, .int .i64 e7, .int .i64 o9] 49 (0, 0)) none
  have hbx := blk0 w (.cells #[.int .i64 k, .slice pn nn cn, .int .i64 e1, .string e2, .bool e3, .slice p1 n1 c1, .slice p2 n2 c2, .slice p3 n3 c3, .int .i64 e7, .int .i64 o9] 49 (0, 0))
  have hlt0 := hI.lt
  have hI1 := hI.keep hG1
  have hgw := grown_trans hg0 hG1
  have hPK1 : PK B b w (w.alloc (.cells #[.int .i64 k, .slice pn nn cn, .int .i64 e1, .string e2, .bool e3, .slice p1 n1 c1, .slice p2 n2 c2, .slice p3 n3 c3, .int .i64 e7, .int .i64 o9] 49 (0, 0))) := PK.ofGrown hBw hG1
  have hs1 : (w.alloc (.cells #[.int .i64 k, .slice pn nn cn, .int .i64 e1, .string e2, .bool e3, .slice p1 n1 c1, .slice p2 n2 c2, .slice p3 n3 c3, .int .i64 e7, .int .i64 o9] 49 (0, 0))).heap.size = w.heap.size + 1 := by simp
  obtain ⟨⟨k0, k1, k2, k3, k4, k5, k6, k7, k8, k9⟩, -⟩ := box10' hbx
  have hKb : w.heap.size ≠ b := by omega
  have HPt := hid (fun W acc' h1 h2 h3 => point_ok W0 B b hWB k pn nn cn e1 e2 e3 p1 n1 c1 p2 n2 c2 p3 n3 c3 e7 o9 L T hL hNs hn0 hEx W bs lg acc' h1 h2 h3)
  have HI1 := hid hI1
  have HPK := hid hPK1
  have HBX := hid hbx
  clear hL hNs hI hI1 hPK1 hbx hG1 hEx
  go_enter Tryz.func101, Tryz.ntmps101
  go_upto_region 1 with fail
  generalize (w.alloc _) = wa at *
  go_wp2_with (first | (go_at_call 56; (with_reducible refine (put_st ⟨#[99, 105, 114, 99, 108, 101, 32]⟩ [99, 105, 114, 99, 108, 101, 32] rfl _ HI1.out (by decide) (by omega)).mono ?_); rintro e w3 ⟨rfl, hw3, hp3⟩; have hz3 := hp3.size; have HBX3 := hp3.box HBX.out hKb stNe; obtain ⟨⟨j0, j1, j2, j3, j4, j5, j6, j7, j8, j9⟩, -⟩ := box10' HBX3; clear HBX3) | (go_at_call 103; (with_reducible refine (HPt.out _ _ (PK.base hgw hp3 hWB) (by omega) hw3).mono ?_); rintro e w5 ⟨rfl, hw5, hp5⟩))
  go_end0
  exact ⟨rfl, by simpa [List.append_assoc] using hw5, (HPK.out.trans hp3).trans hp5⟩
set_option maxHeartbeats 32000000 in
set_option maxRecDepth 100000 in
theorem goal_ok (W0 : World) (B b : Nat) (hWB : W0.heap.size ≤ B) (k : Int) (pn : Option Addr) (nn cn : Nat) (e1 : Int) (e2 : ByteArray) (e3 : Bool) (p1 : Option Addr) (n1 c1 : Nat) (p2 : Option Addr) (n2 c2 : Nat) (p3 : Option Addr) (n3 c3 : Nat) (e7 o9 : Int) (T : List UInt8) (hEx : ExOk W0 B b [.int .i64 e1, .string e2, .bool e3, .slice p1 n1 c1, .slice p2 n2 c2, .slice p3 n3 c3, .int .i64 e7] T) (w : World) (bs : List UInt8) (lg : Bool) (acc : List UInt8) (hg0 : W0.grownBy w none) (hBw : B ≤ w.heap.size) (hI : WPst B b bs lg acc w) :
    Calls Tryz.prog 102 #[.pointer (some ⟨b, 0, none⟩), .agg #[.int .i64 k, .slice pn nn cn, .int .i64 e1, .string e2, .bool e3, .slice p1 n1 c1, .slice p2 n2 c2, .slice p3 n3 c3, .int .i64 e7, .int .i64 o9]] w fun e w' => e = .returned (.tuple #[]) ∧ WPst B b bs lg (acc ++ ([112, 114, 111, 118, 101, 32] ++ T)) w' ∧ PK B b w w' := by
  have hG1 := World.grownBy_alloc w (.cells #[.int .i64 k, .slice pn nn cn, .int .i64 e1, .string e2, .bool e3, .slice p1 n1 c1, .slice p2 n2 c2, .slice p3 n3 c3, .int .i64 e7, .int .i64 o9] 49 (0, 0)) none
  have hbx := blk0 w (.cells #[.int .i64 k, .slice pn nn cn, .int .i64 e1, .string e2, .bool e3, .slice p1 n1 c1, .slice p2 n2 c2, .slice p3 n3 c3, .int .i64 e7, .int .i64 o9] 49 (0, 0))
  have hlt0 := hI.lt
  have hI1 := hI.keep hG1
  have hgw := grown_trans hg0 hG1
  have hPK1 : PK B b w (w.alloc (.cells #[.int .i64 k, .slice pn nn cn, .int .i64 e1, .string e2, .bool e3, .slice p1 n1 c1, .slice p2 n2 c2, .slice p3 n3 c3, .int .i64 e7, .int .i64 o9] 49 (0, 0))) := PK.ofGrown hBw hG1
  have hs1 : (w.alloc (.cells #[.int .i64 k, .slice pn nn cn, .int .i64 e1, .string e2, .bool e3, .slice p1 n1 c1, .slice p2 n2 c2, .slice p3 n3 c3, .int .i64 e7, .int .i64 o9] 49 (0, 0))).heap.size = w.heap.size + 1 := by simp
  obtain ⟨⟨k0, k1, k2, k3, k4, k5, k6, k7, k8, k9⟩, -⟩ := box10' hbx
  have hKb : w.heap.size ≠ b := by omega
  have HEk : Hid (∀ (W : World) (acc' : List UInt8), W0.grownBy W none → B ≤ W.heap.size → WPst B b bs lg acc' W → Calls Tryz.prog 31 #[.pointer (some ⟨b, 0, none⟩), .agg #[.int .i64 e1, .string e2, .bool e3, .slice p1 n1 c1, .slice p2 n2 c2, .slice p3 n3 c3, .int .i64 e7]] W fun e w' => e = .returned (.tuple #[]) ∧ WPst B b bs lg (acc' ++ T) w' ∧ PK B b W w') := hid (fun W acc' h1 h2 h3 => hEx W bs lg acc' h1 h2 h3)
  have HI1 := hid hI1
  have HPK := hid hPK1
  have HBX := hid hbx
  clear hI hI1 hPK1 hbx hG1 hEx
  go_enter Tryz.func102, Tryz.ntmps102
  go_upto_region 1 with fail
  generalize (w.alloc _) = wa at *
  go_wp2_with (first | (go_at_call 56; (with_reducible refine (put_st ⟨#[112, 114, 111, 118, 101, 32]⟩ [112, 114, 111, 118, 101, 32] rfl _ HI1.out (by decide) (by omega)).mono ?_); rintro e w3 ⟨rfl, hw3, hp3⟩; have hz3 := hp3.size; have HBX3 := hp3.box HBX.out hKb stNe; obtain ⟨⟨j0, j1, j2, j3, j4, j5, j6, j7, j8, j9⟩, -⟩ := box10' HBX3; clear HBX3) | (go_at_call 31; (with_reducible refine (HEk.out _ _ (PK.base hgw hp3 hWB) (by omega) hw3).mono ?_); rintro e w5 ⟨rfl, hw5, hp5⟩))
  go_end0
  exact ⟨rfl, by simpa [List.append_assoc] using hw5, (HPK.out.trans hp3).trans hp5⟩
/-- the number of the method for a kind of statements -/
def mtF (k : Int) : Nat := if k = 1 then 99 else if k = 3 then 100 else if k = 4 then 101 else if k = 5 then 102 else 103
set_option maxHeartbeats 8000000 in
theorem methodOf_any (b : Nat) (k : Int) (w : World) : Calls Tryz.prog 55 #[.pointer (some ⟨b, 0, none⟩), .int .i64 k] w fun e w' => e = .returned (.func (.func (mtF k)) #[.pointer (some ⟨b, 0, none⟩)] #[]) ∧ w.grownBy w' none := by
  by_cases h1 : k = 1
  · subst h1
    go_enter Tryz.func55, Tryz.ntmps55
    go_wp2_with fail
    go_ret
    exact ⟨rfl, grown_refl _ _⟩
  have hq1 : (k == 1) = false := by simpa using h1
  by_cases h3 : k = 3
  · subst h3
    go_enter Tryz.func55, Tryz.ntmps55
    go_wp2_with fail
    go_ret
    exact ⟨rfl, grown_refl _ _⟩
  have hq3 : (k == 3) = false := by simpa using h3
  by_cases h4 : k = 4
  · subst h4
    go_enter Tryz.func55, Tryz.ntmps55
    go_wp2_with fail
    go_ret
    exact ⟨rfl, grown_refl _ _⟩
  have hq4 : (k == 4) = false := by simpa using h4
  by_cases h5 : k = 5
  · subst h5
    go_enter Tryz.func55, Tryz.ntmps55
    go_wp2_with fail
    go_ret
    exact ⟨rfl, grown_refl _ _⟩
  have hq5 : (k == 5) = false := by simpa using h5
  have hm : mtF k = 103 := by unfold mtF; rw [if_neg h1, if_neg h3, if_neg h4, if_neg h5]
  rw [hm]
  go_enter Tryz.func55, Tryz.ntmps55
  go_wp2_with fail
  go_ret
  exact ⟨rfl, grown_refl _ _⟩
end Go.Proofs.YtiaonbofkgkdhaaGreatDoor

set_option linter.unusedVariables false
set_option linter.unusedSimpArgs false
namespace Go.Proofs.YtiaonbofkgkdhaaGreatDoor
open Go.RowKit _root_.Nm Ax Lx
theorem lnF_1 (L : List ByteArray) (T : List UInt8) : lnF 1 L T = [112, 111, 105, 110, 116, 115, 32] ++ jn (namesB L) := if_pos rfl
theorem lnF_3 (L : List ByteArray) (T : List UInt8) : lnF 3 L T = [108, 105, 110, 101, 32] ++ (nm0 L ++ asg ++ T) := rfl
theorem lnF_4 (L : List ByteArray) (T : List UInt8) : lnF 4 L T = [99, 105, 114, 99, 108, 101, 32] ++ (nm0 L ++ asg ++ T) := rfl
theorem lnF_5 (L : List ByteArray) (T : List UInt8) : lnF 5 L T = [112, 114, 111, 118, 101, 32] ++ T := rfl
theorem lnF_x {k : Int} (L : List ByteArray) (T : List UInt8) (h1 : k ≠ 1) (h3 : k ≠ 3) (h4 : k ≠ 4) (h5 : k ≠ 5) : lnF k L T = nm0 L ++ asg ++ T := by
  unfold lnF
  rw [if_neg h1, if_neg h3, if_neg h4, if_neg h5]
theorem mtF_x {k : Int} (h1 : k ≠ 1) (h3 : k ≠ 3) (h4 : k ≠ 4) (h5 : k ≠ 5) : mtF k = 103 := by
  unfold mtF
  rw [if_neg h1, if_neg h3, if_neg h4, if_neg h5]
set_option maxHeartbeats 32000000 in
set_option maxRecDepth 100000 in
theorem stmt_ok (W0 : World) (B b : Nat) (hWB : W0.heap.size ≤ B) (k : Int) (pn : Option Addr) (nn cn : Nat) (e1 : Int) (e2 : ByteArray) (e3 : Bool) (p1 : Option Addr) (n1 c1 : Nat) (p2 : Option Addr) (n2 c2 : Nat) (p3 : Option Addr) (n3 c3 : Nat) (e7 o9 : Int) (L : List ByteArray) (T : List UInt8) (hS : StX W0 B b k pn nn cn [.int .i64 e1, .string e2, .bool e3, .slice p1 n1 c1, .slice p2 n2 c2, .slice p3 n3 c3, .int .i64 e7] L T) (w : World) (bs : List UInt8) (lg : Bool) (acc : List UInt8) (hg0 : W0.grownBy w none) (hBw : B ≤ w.heap.size) (hI : WPst B b bs lg acc w) :
    Calls Tryz.prog 25 #[.pointer (some ⟨b, 0, none⟩), .agg #[.int .i64 k, .slice pn nn cn, .int .i64 e1, .string e2, .bool e3, .slice p1 n1 c1, .slice p2 n2 c2, .slice p3 n3 c3, .int .i64 e7, .int .i64 o9]] w fun e w' => e = .returned (.tuple #[]) ∧ WPst B b bs lg (acc ++ (lnF k L T ++ [59, 10])) w' ∧ PK B b w w' := by
  have hG1 := World.grownBy_alloc w (.cells #[.int .i64 k, .slice pn nn cn, .int .i64 e1, .string e2, .bool e3, .slice p1 n1 c1, .slice p2 n2 c2, .slice p3 n3 c3, .int .i64 e7, .int .i64 o9] 49 (0, 0)) none
  have hbx := blk0 w (.cells #[.int .i64 k, .slice pn nn cn, .int .i64 e1, .string e2, .bool e3, .slice p1 n1 c1, .slice p2 n2 c2, .slice p3 n3 c3, .int .i64 e7, .int .i64 o9] 49 (0, 0))
  have hlt0 := hI.lt
  have hI1 := hI.keep hG1
  have hgw := grown_trans hg0 hG1
  have hPK1 : PK B b w (w.alloc (.cells #[.int .i64 k, .slice pn nn cn, .int .i64 e1, .string e2, .bool e3, .slice p1 n1 c1, .slice p2 n2 c2, .slice p3 n3 c3, .int .i64 e7, .int .i64 o9] 49 (0, 0))) := PK.ofGrown hBw hG1
  have hs1 : (w.alloc (.cells #[.int .i64 k, .slice pn nn cn, .int .i64 e1, .string e2, .bool e3, .slice p1 n1 c1, .slice p2 n2 c2, .slice p3 n3 c3, .int .i64 e7, .int .i64 o9] 49 (0, 0))).heap.size = w.heap.size + 1 := by simp
  obtain ⟨⟨k0, k1, k2, k3, k4, k5, k6, k7, k8, k9⟩, -⟩ := box10' hbx
  have hKb : w.heap.size ≠ b := by omega
  have HI1 := hid hI1
  have HPK := hid hPK1
  have HBX := hid hbx
  have HM := hid fun w => methodOf_any b k w
  obtain ⟨s1, s2, s3, s4⟩ := hS
  clear hI hI1 hPK1 hbx hG1
  by_cases h1 : k = 1
  · subst h1
    rw [show mtF 1 = 99 from rfl] at HM
    have HMT : Hid (∀ W acc', W0.grownBy W none → B ≤ W.heap.size → WPst B b bs lg acc' W → Calls Tryz.prog 99 #[.pointer (some ⟨b, 0, none⟩), .agg #[.int .i64 1, .slice pn nn cn, .int .i64 e1, .string e2, .bool e3, .slice p1 n1 c1, .slice p2 n2 c2, .slice p3 n3 c3, .int .i64 e7, .int .i64 o9]] W fun e w' => e = .returned (.tuple #[]) ∧ WPst B b bs lg (acc' ++ lnF 1 L T) w' ∧ PK B b W w') := hid (fun W acc' y1 y2 y3 => by
      rw [lnF_1]
      exact points_ok W0 B b hWB 1 pn nn cn e1 e2 e3 p1 n1 c1 p2 n2 c2 p3 n3 c3 e7 o9 L s1 s2 W bs lg acc' y1 y2 y3)
    generalize lnF 1 L T = TL at *
    clear s1 s2 s3 s4
    go_enter Tryz.func25, Tryz.ntmps25
    go_upto_region 1 with fail
    generalize (w.alloc _) = wa at *
    go_wp2_with (first | (go_at_call 55; (with_reducible refine (HM.out _).mono ?_); rintro e w2 ⟨rfl, hg2⟩; have hz2 := hg2.size; have HI2 := hid (HI1.out.keep hg2); have hP2 := HPK.out.trans (PK.ofGrown (by omega) hg2); have HB2 := hid ((hg2.block _ (by omega) (by simp)).trans HBX.out); obtain ⟨⟨j0, j1, j2, j3, j4, j5, j6, j7, j8, j9⟩, -⟩ := box10' HB2.out; have hg02 := grown_trans hgw hg2; clear hg2) | (go_at_call 99; (with_reducible refine (HMT.out _ _ hg02 (by omega) HI2.out).mono ?_); rintro e w3 ⟨rfl, hw3, hp3⟩; have hz3 := hp3.size) | (go_at_call 56; (with_reducible refine (put_st ⟨#[59, 10]⟩ [59, 10] rfl _ hw3 (by decide) (by omega)).mono ?_); rintro e w4 ⟨rfl, hw4, hp4⟩))
    go_end0
    exact ⟨rfl, by simpa [List.append_assoc] using hw4, (hP2.trans hp3).trans hp4⟩
  by_cases h3 : k = 3
  · subst h3
    rw [show mtF 3 = 100 from rfl] at HM
    have HMT : Hid (∀ W acc', W0.grownBy W none → B ≤ W.heap.size → WPst B b bs lg acc' W → Calls Tryz.prog 100 #[.pointer (some ⟨b, 0, none⟩), .agg #[.int .i64 3, .slice pn nn cn, .int .i64 e1, .string e2, .bool e3, .slice p1 n1 c1, .slice p2 n2 c2, .slice p3 n3 c3, .int .i64 e7, .int .i64 o9]] W fun e w' => e = .returned (.tuple #[]) ∧ WPst B b bs lg (acc' ++ lnF 3 L T) w' ∧ PK B b W w') := hid (fun W acc' y1 y2 y3 => by
      rw [lnF_3]
      exact line_ok W0 B b hWB 3 pn nn cn e1 e2 e3 p1 n1 c1 p2 n2 c2 p3 n3 c3 e7 o9 L T s1 s2 (s3 (by decide) (by decide)) (s4 (by decide)) W bs lg acc' y1 y2 y3)
    generalize lnF 3 L T = TL at *
    clear s1 s2 s3 s4
    go_enter Tryz.func25, Tryz.ntmps25
    go_upto_region 1 with fail
    generalize (w.alloc _) = wa at *
    go_wp2_with (first | (go_at_call 55; (with_reducible refine (HM.out _).mono ?_); rintro e w2 ⟨rfl, hg2⟩; have hz2 := hg2.size; have HI2 := hid (HI1.out.keep hg2); have hP2 := HPK.out.trans (PK.ofGrown (by omega) hg2); have HB2 := hid ((hg2.block _ (by omega) (by simp)).trans HBX.out); obtain ⟨⟨j0, j1, j2, j3, j4, j5, j6, j7, j8, j9⟩, -⟩ := box10' HB2.out; have hg02 := grown_trans hgw hg2; clear hg2) | (go_at_call 100; (with_reducible refine (HMT.out _ _ hg02 (by omega) HI2.out).mono ?_); rintro e w3 ⟨rfl, hw3, hp3⟩; have hz3 := hp3.size) | (go_at_call 56; (with_reducible refine (put_st ⟨#[59, 10]⟩ [59, 10] rfl _ hw3 (by decide) (by omega)).mono ?_); rintro e w4 ⟨rfl, hw4, hp4⟩))
    go_end0
    exact ⟨rfl, by simpa [List.append_assoc] using hw4, (hP2.trans hp3).trans hp4⟩
  by_cases h4 : k = 4
  · subst h4
    rw [show mtF 4 = 101 from rfl] at HM
    have HMT : Hid (∀ W acc', W0.grownBy W none → B ≤ W.heap.size → WPst B b bs lg acc' W → Calls Tryz.prog 101 #[.pointer (some ⟨b, 0, none⟩), .agg #[.int .i64 4, .slice pn nn cn, .int .i64 e1, .string e2, .bool e3, .slice p1 n1 c1, .slice p2 n2 c2, .slice p3 n3 c3, .int .i64 e7, .int .i64 o9]] W fun e w' => e = .returned (.tuple #[]) ∧ WPst B b bs lg (acc' ++ lnF 4 L T) w' ∧ PK B b W w') := hid (fun W acc' y1 y2 y3 => by
      rw [lnF_4]
      exact circle_ok W0 B b hWB 4 pn nn cn e1 e2 e3 p1 n1 c1 p2 n2 c2 p3 n3 c3 e7 o9 L T s1 s2 (s3 (by decide) (by decide)) (s4 (by decide)) W bs lg acc' y1 y2 y3)
    generalize lnF 4 L T = TL at *
    clear s1 s2 s3 s4
    go_enter Tryz.func25, Tryz.ntmps25
    go_upto_region 1 with fail
    generalize (w.alloc _) = wa at *
    go_wp2_with (first | (go_at_call 55; (with_reducible refine (HM.out _).mono ?_); rintro e w2 ⟨rfl, hg2⟩; have hz2 := hg2.size; have HI2 := hid (HI1.out.keep hg2); have hP2 := HPK.out.trans (PK.ofGrown (by omega) hg2); have HB2 := hid ((hg2.block _ (by omega) (by simp)).trans HBX.out); obtain ⟨⟨j0, j1, j2, j3, j4, j5, j6, j7, j8, j9⟩, -⟩ := box10' HB2.out; have hg02 := grown_trans hgw hg2; clear hg2) | (go_at_call 101; (with_reducible refine (HMT.out _ _ hg02 (by omega) HI2.out).mono ?_); rintro e w3 ⟨rfl, hw3, hp3⟩; have hz3 := hp3.size) | (go_at_call 56; (with_reducible refine (put_st ⟨#[59, 10]⟩ [59, 10] rfl _ hw3 (by decide) (by omega)).mono ?_); rintro e w4 ⟨rfl, hw4, hp4⟩))
    go_end0
    exact ⟨rfl, by simpa [List.append_assoc] using hw4, (hP2.trans hp3).trans hp4⟩
  by_cases h5 : k = 5
  · subst h5
    rw [show mtF 5 = 102 from rfl] at HM
    have HMT : Hid (∀ W acc', W0.grownBy W none → B ≤ W.heap.size → WPst B b bs lg acc' W → Calls Tryz.prog 102 #[.pointer (some ⟨b, 0, none⟩), .agg #[.int .i64 5, .slice pn nn cn, .int .i64 e1, .string e2, .bool e3, .slice p1 n1 c1, .slice p2 n2 c2, .slice p3 n3 c3, .int .i64 e7, .int .i64 o9]] W fun e w' => e = .returned (.tuple #[]) ∧ WPst B b bs lg (acc' ++ lnF 5 L T) w' ∧ PK B b W w') := hid (fun W acc' y1 y2 y3 => by
      rw [lnF_5]
      exact goal_ok W0 B b hWB 5 pn nn cn e1 e2 e3 p1 n1 c1 p2 n2 c2 p3 n3 c3 e7 o9 T (s4 (by decide)) W bs lg acc' y1 y2 y3)
    generalize lnF 5 L T = TL at *
    clear s1 s2 s3 s4
    go_enter Tryz.func25, Tryz.ntmps25
    go_upto_region 1 with fail
    generalize (w.alloc _) = wa at *
    go_wp2_with (first | (go_at_call 55; (with_reducible refine (HM.out _).mono ?_); rintro e w2 ⟨rfl, hg2⟩; have hz2 := hg2.size; have HI2 := hid (HI1.out.keep hg2); have hP2 := HPK.out.trans (PK.ofGrown (by omega) hg2); have HB2 := hid ((hg2.block _ (by omega) (by simp)).trans HBX.out); obtain ⟨⟨j0, j1, j2, j3, j4, j5, j6, j7, j8, j9⟩, -⟩ := box10' HB2.out; have hg02 := grown_trans hgw hg2; clear hg2) | (go_at_call 102; (with_reducible refine (HMT.out _ _ hg02 (by omega) HI2.out).mono ?_); rintro e w3 ⟨rfl, hw3, hp3⟩; have hz3 := hp3.size) | (go_at_call 56; (with_reducible refine (put_st ⟨#[59, 10]⟩ [59, 10] rfl _ hw3 (by decide) (by omega)).mono ?_); rintro e w4 ⟨rfl, hw4, hp4⟩))
    go_end0
    exact ⟨rfl, by simpa [List.append_assoc] using hw4, (hP2.trans hp3).trans hp4⟩
  · rw [mtF_x h1 h3 h4 h5] at HM
    have HMT : Hid (∀ W acc', W0.grownBy W none → B ≤ W.heap.size → WPst B b bs lg acc' W → Calls Tryz.prog 103 #[.pointer (some ⟨b, 0, none⟩), .agg #[.int .i64 k, .slice pn nn cn, .int .i64 e1, .string e2, .bool e3, .slice p1 n1 c1, .slice p2 n2 c2, .slice p3 n3 c3, .int .i64 e7, .int .i64 o9]] W fun e w' => e = .returned (.tuple #[]) ∧ WPst B b bs lg (acc' ++ lnF k L T) w' ∧ PK B b W w') := hid (fun W acc' y1 y2 y3 => by
      rw [lnF_x L T h1 h3 h4 h5]
      exact point_ok W0 B b hWB k pn nn cn e1 e2 e3 p1 n1 c1 p2 n2 c2 p3 n3 c3 e7 o9 L T s1 s2 (s3 h1 h5) (s4 h1) W bs lg acc' y1 y2 y3)
    generalize lnF k L T = TL at *
    clear s1 s2 s3 s4
    go_enter Tryz.func25, Tryz.ntmps25
    go_upto_region 1 with fail
    generalize (w.alloc _) = wa at *
    go_wp2_with (first | (go_at_call 55; (with_reducible refine (HM.out _).mono ?_); rintro e w2 ⟨rfl, hg2⟩; have hz2 := hg2.size; have HI2 := hid (HI1.out.keep hg2); have hP2 := HPK.out.trans (PK.ofGrown (by omega) hg2); have HB2 := hid ((hg2.block _ (by omega) (by simp)).trans HBX.out); obtain ⟨⟨j0, j1, j2, j3, j4, j5, j6, j7, j8, j9⟩, -⟩ := box10' HB2.out; have hg02 := grown_trans hgw hg2; clear hg2) | (go_at_call 103; (with_reducible refine (HMT.out _ _ hg02 (by omega) HI2.out).mono ?_); rintro e w3 ⟨rfl, hw3, hp3⟩; have hz3 := hp3.size) | (go_at_call 56; (with_reducible refine (put_st ⟨#[59, 10]⟩ [59, 10] rfl _ hw3 (by decide) (by omega)).mono ?_); rintro e w4 ⟨rfl, hw4, hp4⟩))
    go_end0
    exact ⟨rfl, by simpa [List.append_assoc] using hw4, (hP2.trans hp3).trans hp4⟩
end Go.Proofs.YtiaonbofkgkdhaaGreatDoor

set_option linter.unusedVariables false
set_option linter.unusedSimpArgs false
namespace Go.Proofs.YtiaonbofkgkdhaaGreatDoor
open Go.RowKit _root_.Nm Ax Lx
theorem rtx_hd (h : Hd) (h1 : Dg 65536 h.num) (h2 : Dg 65536 h.den) : (rtx (rvH h)).length ≤ 5 * h.num.length + 5 * h.den.length + 20 := by
  have hN : (mkRat (sg h.g (V 65536 h.num)) (V 65536 h.den)).num.natAbs < 65536 ^ h.num.length := by
    have := mk_num_le (sg h.g (V 65536 h.num)) (V 65536 h.den)
    rw [sg_abs] at this
    exact Nat.lt_of_le_of_lt this h1.lt
  have hD : (mkRat (sg h.g (V 65536 h.num)) (V 65536 h.den)).den < 65536 ^ (h.den.length + 1) := by
    have a := mk_den_le (sg h.g (V 65536 h.num)) (V 65536 h.den)
    have b := h2.lt
    have c : 65536 ^ h.den.length * 1 < 65536 ^ h.den.length * 65536 := Nat.mul_lt_mul_of_pos_left (by decide) (Nat.pow_pos (by decide))
    rw [Nat.pow_succ]
    omega
  have l1 := itx_limbs hN
  have l2 := dec_limbs hD
  unfold rvH rtx
  split
  · omega
  · simp only [List.length_append, List.length_cons, List.length_nil]
    omega
theorem lens_sum {f : Tr → List UInt8} {g : Tr → Nat} : ∀ (l : List Tr), (∀ i (hi : i < l.length), (f l[i]).length + 2 ≤ 3000 * g l[i]) → Lib.lens (l.map f) + 2 * l.length ≤ 3000 * (l.map g).sum
  | [], _ => by simp [Lib.lens]
  | x :: r, h => by
    have h0 := h 0 (by simp)
    have h1 := lens_sum (f := f) (g := g) r fun i hi => h (i + 1) (by simpa using hi)
    simp only [List.getElem_cons_zero] at h0
    simp only [Lib.lens, List.map_cons, List.sum_cons, List.length_cons] at h1 ⊢
    omega
theorem tx_len : ∀ (m : Nat) (t : Tr), WfT m t → DgF m t → ShT m t → (txF m t).length + 2 ≤ 3000 * szF m t
  | 0, _, h, _, _ => h.elim
  | m + 1, .node h l, hW, hD, hS => by
    rw [szF_succ]
    by_cases hk : h.k = 1
    · rw [txF_name hk, Array.length_toList]
      show h.nm.size + 2 ≤ _
      omega
    · rw [txF_node hk]
      have h1 := lens_sum (f := txF m) (g := szF m) l fun i hi => tx_len m l[i] (hW.2.2.2 i hi) (hD.2 i hi) (hS.2 i hi)
      have h2 := rtx_hd h hD.1.1 hD.1.2
      have h3 := hS.1
      have h4 := jn_len (pzF h (l.map (txF m)))
      have h5 : Lib.lens (pzF h (l.map (txF m))) + 2 * (pzF h (l.map (txF m))).length ≤ Lib.lens (l.map (txF m)) + 2 * l.length + 2022 := by
        unfold pzF
        split
        · simp only [Lib.lens, List.map_append, List.sum_append, List.length_append, List.length_map, List.map_cons, List.map_nil, List.sum_cons, List.sum_nil, List.length_cons, List.length_nil]
          omega
        · rw [List.append_nil, List.length_map]
          omega
      have h6 := wrd_len h.k
      simp only [List.length_append, List.length_cons, List.length_nil]
      omega
set_option maxHeartbeats 4000000 in
theorem rHasR_any (k : Int) (w : World) : Calls Tryz.prog 68 #[.int .i64 k] w fun e w' => e = .returned (.bool (hasR k)) ∧ w.grownBy w' none := by
  unfold hasR
  by_cases h1 : k = 11
  · subst h1
    go_enter Tryz.func68, Tryz.ntmps68
    go_wp2_with fail
    go_ret
    exact ⟨by simp, grown_refl _ _⟩
  · have hq : (k == 11) = false := by simpa using h1
    by_cases h2 : k = 68
    · subst h2
      go_enter Tryz.func68, Tryz.ntmps68
      go_wp2_with fail
      go_ret
      exact ⟨by simp, grown_refl _ _⟩
    · have hq2 : (k == 68) = false := by simpa using h2
      go_enter Tryz.func68, Tryz.ntmps68
      go_wp2_with fail
      go_ret
      exact ⟨by simp [h1, h2], grown_refl _ _⟩
set_option maxHeartbeats 64000000 in
set_option maxRecDepth 100000 in
theorem rtext_ok : ∀ (m : Nat) (cs : List Value) (t : Tr) (w : World), ERd w m cs t → WfT m t → DgF m t → ShT m t → szF m t ≤ 1048576 →
    Calls Tryz.prog 34 #[.agg cs.toArray] w fun e w' => e = .returned (str (txF m t)) ∧ w.grownBy w' none
  | 0, _, _, _, h, _, _, _, _ => h.elim
  | m + 1, cs, .node h l, w, hE, hWf, hD, hS, hsz => by
    have IH := hid (rtext_ok m)
    have hTL := tx_len (m + 1) (.node h l) hWf hD hS
    obtain ⟨e1, e2, e3, p1, n1, c1, p2, n2, c2, p3, n3, c3, e7, rfl⟩ := hE.shape
    obtain ⟨⟨r1, r2, r3, r7⟩, hn, hd, hA, hnm⟩ := ARd.of hE
    obtain ⟨⟨hla, hca, hma⟩, _⟩ := id hA
    have hG1 := World.grownBy_alloc w (.cells #[.int .i64 e1, .string e2, .bool e3, .slice p1 n1 c1, .slice p2 n2 c2, .slice p3 n3 c3, .int .i64 e7] 43 (0, 0)) none
    obtain ⟨⟨k0, k1, k2, k3, k4, k5, k6⟩, -⟩ := box7 (blk0 w (.cells #[.int .i64 e1, .string e2, .bool e3, .slice p1 n1 c1, .slice p2 n2 c2, .slice p3 n3 c3, .int .i64 e7] 43 (0, 0)))
    by_cases hk1 : h.k = 1
    · have he1 : e1 = 1 := r1.trans hk1
      subst he1
      have HT0 : Hid (str (txF (m + 1) (.node h l)) = .string e2) := hid (by
        rw [txF_name hk1, r2])
      clear hE hA hn hd IH r1 r2 r3 r7
      go_enter Tryz.func34, Tryz.ntmps34
      go_upto_region 1 with fail
      generalize (w.alloc _) = wa at *
      go_wp2_with fail
      go_ret
      exact ⟨congrArg Ending.returned HT0.out.symm, hG1⟩
    · have hq1 : (e1 == 1) = false := by rw [r1]; simpa using hk1
      have hQ := IsQ.of e3 hn hD.1.1 hd hD.1.2
      have hv : mkRat (sg e3 (V 65536 h.num)) (V 65536 h.den) = rvH h := by rw [r3]; rfl
      rw [hv] at hQ
      have hln := hn.len
      have hld := hd.len
      have hS1 := hS.1
      have hrl := rtx_len hQ
      have HT := hid fun W (hW : w.grownBy W none) => rRatText_v (hQ.keep hW) (by omega) (by omega)
      have HEx : Hid (∀ i (hi : i < l.length) (cs' : List Value) W, ERd W m cs' l[i] → Calls Tryz.prog 34 #[.agg cs'.toArray] W fun e w' => e = .returned (str (txF m l[i])) ∧ W.grownBy w' none) := hid (fun i hi cs' W hE' => IH.out cs' l[i] W hE' (hWf.2.2.2 i hi) (hD.2 i hi) (hS.2 i hi) (by have := sz_child m h l hi; omega))
      have HTX := hid (txF_node (m := m) (l := l) hk1)
      have HJL : Hid (∀ j, (jn ((l.map (txF m)).take j)).length ≤ 3200000000) := hid (fun j => by
        have h1 := lens_sum (f := txF m) (g := szF m) l fun i hi => tx_len m l[i] (hWf.2.2.2 i hi) (hD.2 i hi) (hS.2 i hi)
        have h2 := jn_len ((l.map (txF m)).take j)
        have h3 := Lib.lens_take_le (l.map (txF m)) j
        have h4 : ((l.map (txF m)).take j).length ≤ l.length := by simp; omega
        rw [szF_succ] at hsz
        omega)
      have HTL : Hid (∀ i (hi : i < l.length), (txF m l[i]).length ≤ 3200000000) := hid (fun i hi => by
        have h1 := tx_len m l[i] (hWf.2.2.2 i hi) (hD.2 i hi) (hS.2 i hi)
        have h2 := sz_child m h l hi
        omega)
      have HA := hid hA
      have hwd := wrd_len e1
      obtain ⟨s1, hs1'⟩ : ∃ s1, s1 = wrd e1 ++ [40] := ⟨_, rfl⟩
      have hls1 : s1.length ≤ 14 := by rw [hs1', List.length_append]; exact Nat.add_le_add hwd (Nat.le_refl 1)
      have hcat : ∀ w, (Op.stringOp .add ⟨(wrd e1).toArray⟩ ⟨#[40]⟩).run Tryz.prog w = .ok (str s1) w := fun w => by rw [hs1']; exact cat_lst (wrd e1) [40] (by simp only [List.length_cons, List.length_nil]; omega) w
      have HW1 := hid fun w => rword_any e1 w
      have HR1 := hid r1
      have hrl9 : (rtx (rvH h)).length ≤ 100000 := by omega
      obtain ⟨rt, hrt⟩ : ∃ rt, rt = rtx (rvH h) := ⟨_, rfl⟩
      rw [← hrt] at HT hrl9
      have HRT := hid hrt
      have HS1 := hid hs1'
      have HN3 : Hid (hasR e1 = true → 0 < n3) := hid (fun h9 => by rw [← hla, hWf.1, ← r1]; exact hasR_prm h9)
      generalize hwg : wrd e1 = wd at HW1 hcat
      clear hE hA hn hd IH hs1' hwg hwd hv hQ hrl hln hld hS1 r1 r2 r3 r7 hrt hTL
      go_enter Tryz.func34, Tryz.ntmps34
      go_upto_region 1 with fail
      generalize (w.alloc _) = wa at *
      go_wp2_with (first | (go_at_call 67; (with_reducible refine (HW1.out _).mono ?_); rintro e w2 ⟨rfl, hg2⟩; replace hG1 := grown_trans hG1 hg2; replace k0 := hg2.cell k0 (by simp); replace k2 := hg2.cell k2 (by simp); replace k3 := hg2.cell k3 (by simp); replace k4 := hg2.cell k4 (by simp); replace k5 := hg2.cell k5 (by simp); clear hg2))
      have HG2 := hid hG1
      have K0 := hid k0
      have K2 := hid k2
      have K3 := hid k3
      have K4 := hid k4
      clear hG1 k0 k1 k2 k3 k4 k5 k6 hcat
      go_loopw [3, 18] (fun y z wr => ∃ (k : Nat) (sk : List UInt8), k ≤ n3 ∧ y = str sk ∧ z = .int .i64 k ∧ w2.grownBy wr none ∧ sk = s1 ++ jn ((l.map (txF m)).take k)) (fun _ z _ => n3 - (intOf z).toNat)
      case atStart => exact ⟨0, s1, Nat.zero_le _, rfl, rfl, grown_refl _ _, by rw [List.take_zero, jn_nil, List.append_nil]⟩
      case round =>
        obtain ⟨k, sk, hk, rfl, rfl, hgr, hsk⟩ := hrel
        have hlk : sk.length ≤ 3200001000 := by rw [hsk, List.length_append]; have := HJL.out k; omega
        by_cases hlt : k < n3
        · obtain ⟨bA, oA, x1, x2, x3, q1, m1, d1, q2, m2, d2, q3, m3, d3, x7, rfl, hE2, b0, b1, b2, b3, b4, b5, b6⟩ := HA.out.at (i := k) (by omega)
          have hgw := grown_trans HG2.out hgr
          have a0 := hgw.cell b0 (by simp)
          have a1 := hgw.cell b1 (by simp)
          have a2 := hgw.cell b2 (by simp)
          have a3 := hgw.cell b3 (by simp)
          have a4 := hgw.cell b4 (by simp)
          have a5 := hgw.cell b5 (by simp)
          have a6 := hgw.cell b6 (by simp)
          have hG := World.grownBy_alloc wr (.cells #[.int .i64 x1, .string x2, .bool x3, .slice q1 m1 d1, .slice q2 m2 d2, .slice q3 m3 d3, .int .i64 x7] 43 (0, 0)) none
          have hbx2 := blk0 wr (.cells #[.int .i64 x1, .string x2, .bool x3, .slice q1 m1 d1, .slice q2 m2 d2, .slice q3 m3 d3, .int .i64 x7] 43 (0, 0))
          obtain ⟨⟨j0, j1, j2, j3, j4, j5, j6⟩, -⟩ := box7 hbx2
          have HEk : Hid (Calls Tryz.prog 34 #[.agg #[.int .i64 x1, .string x2, .bool x3, .slice q1 m1 d1, .slice q2 m2 d2, .slice q3 m3 d3, .int .i64 x7]] (wr.alloc (.cells #[.int .i64 x1, .string x2, .bool x3, .slice q1 m1 d1, .slice q2 m2 d2, .slice q3 m3 d3, .int .i64 x7] 43 (0, 0))) fun e w' => e = .returned (str (txF m (l[k]'(by omega)))) ∧ (wr.alloc (.cells #[.int .i64 x1, .string x2, .bool x3, .slice q1 m1 d1, .slice q2 m2 d2, .slice q3 m3 d3, .int .i64 x7] 43 (0, 0))).grownBy w' none) := hid (HEx.out k (by omega) _ _ (hE2.keep (grown_trans hgw hG)))
          have HTK : Hid (jn ((l.map (txF m)).take (k + 1)) = jn ((l.map (txF m)).take k) ++ (if k = 0 then [] else cms) ++ txF m (l[k]'(by omega))) := hid (by
            rw [jn_step (P := l.map (txF m)) (k := k) (by simp; omega), List.getElem_map])
          have hl9 := HTL.out k (by omega)
          generalize txF m (l[k]'(by omega)) = T9 at HEk HTK hl9
          have HGr := hid (grown_trans hgr hG)
          have HSK := hid hsk
          clear hE2 b0 b1 b2 b3 b4 b5 b6 hgr hgw hG hbx2 hsk
          by_cases h0 : k = 0
          · subst h0
            simp only [Nat.zero_mul, Nat.add_zero] at a0 a1 a2 a3 a4 a5 a6
            obtain ⟨t1, ht1⟩ : ∃ t1, t1 = sk ++ T9 := ⟨_, rfl⟩
            have hcat2 : ∀ w, (Op.stringOp .add ⟨sk.toArray⟩ ⟨T9.toArray⟩).run Tryz.prog w = .ok (str t1) w := fun w => by rw [ht1]; exact cat_lst sk T9 (by omega) w
            have HT1 := hid ht1
            clear ht1
            go_wp2_with (go_at_call 34; (with_reducible refine HEk.out.mono ?_); rintro e w5 ⟨rfl, hg5⟩)
            refine ⟨⟨1, t1, by omega, rfl, by go_num, grown_trans HGr.out hg5, ?_⟩, by simp [intOf]; omega⟩
            rw [HTK.out, HT1.out, HSK.out]
            simp [jn_nil]
          · have hq0 : (0 : Int) < (k : Int) := by omega
            obtain ⟨t0, ht0⟩ : ∃ t0, t0 = sk ++ cms := ⟨_, rfl⟩
            have hl0 : t0.length ≤ 3200001002 := by rw [ht0, List.length_append]; exact Nat.add_le_add hlk (Nat.le_refl 2)
            obtain ⟨t1, ht1⟩ : ∃ t1, t1 = t0 ++ T9 := ⟨_, rfl⟩
            have hcat2 : ∀ w, (Op.stringOp .add ⟨sk.toArray⟩ ⟨#[44, 32]⟩).run Tryz.prog w = .ok (str t0) w := fun w => by rw [ht0]; exact cat_lst sk cms (by show sk.length + 2 ≤ _; omega) w
            have hcat3 : ∀ w, (Op.stringOp .add ⟨t0.toArray⟩ ⟨T9.toArray⟩).run Tryz.prog w = .ok (str t1) w := fun w => by rw [ht1]; exact cat_lst t0 T9 (by omega) w
            have HT1 := hid (And.intro ht1 ht0)
            clear ht1 ht0
            go_wp2_with (go_at_call 34; (with_reducible refine HEk.out.mono ?_); rintro e w5 ⟨rfl, hg5⟩)
            refine ⟨⟨k + 1, t1, by omega, rfl, by go_num, grown_trans HGr.out hg5, ?_⟩, by simp [intOf]; omega⟩
            rw [HTK.out, HT1.out.1, HT1.out.2, HSK.out, if_neg h0]
            simp [List.append_assoc]
        · obtain rfl : k = n3 := by omega
          rw [List.take_of_length_le (by simp; omega)] at hsk
          have k0 := hgr.cell K0.out (by simp)
          have k2 := hgr.cell K2.out (by simp)
          have k3 := hgr.cell K3.out (by simp)
          have k4 := hgr.cell K4.out (by simp)
          have hgw := grown_trans HG2.out hgr
          have HHR := hid fun w => rHasR_any e1 w
          have HSK := hid hsk
          clear hsk hgr
          cases hb : hasR e1 with
          | false =>
            rw [hb] at HHR
            obtain ⟨t1, ht1⟩ : ∃ t1, t1 = sk ++ [41] := ⟨_, rfl⟩
            have hcat3 : ∀ w, (Op.stringOp .add ⟨sk.toArray⟩ ⟨#[41]⟩).run Tryz.prog w = .ok (str t1) w := fun w => by rw [ht1]; exact cat_lst sk [41] (by simp only [List.length_cons, List.length_nil]; omega) w
            have HFT : Hid (txF (m + 1) (.node h l) = t1) := hid (by
              rw [HTX.out, ht1, HSK.out, HS1.out, HR1.out]
              unfold pzF
              rw [← HR1.out, hb]
              simp [List.append_assoc])
            clear hb ht1
            go_wp2_with (go_at_call 68; (with_reducible refine (HHR.out _).mono ?_); rintro e w6 ⟨rfl, hg6⟩; replace hgw := grown_trans hgw hg6)
            go_ret
            exact ⟨congrArg (fun x => Ending.returned (str x)) HFT.out.symm, hgw⟩
          | true =>
            rw [hb] at HHR
            have hn0 := HN3.out hb
            obtain ⟨u1, hu1⟩ : ∃ u1, u1 = cms ++ rt := ⟨_, rfl⟩
            have hlu : u1.length ≤ 100002 := by rw [hu1, List.length_append]; have : cms.length = 2 := rfl; omega
            obtain ⟨t0, ht0⟩ : ∃ t0, t0 = sk ++ u1 := ⟨_, rfl⟩
            have hl0 : t0.length ≤ 3200200000 := by rw [ht0, List.length_append]; omega
            obtain ⟨t1, ht1⟩ : ∃ t1, t1 = t0 ++ [41] := ⟨_, rfl⟩
            have hcat1 : ∀ w, (Op.stringOp .add ⟨#[44, 32]⟩ ⟨rt.toArray⟩).run Tryz.prog w = .ok (str u1) w := fun w => by rw [hu1]; exact cat_lst cms rt (by show 2 + rt.length ≤ _; omega) w
            have hcat2 : ∀ w, (Op.stringOp .add ⟨sk.toArray⟩ ⟨u1.toArray⟩).run Tryz.prog w = .ok (str t0) w := fun w => by rw [ht0]; exact cat_lst sk u1 (by omega) w
            have hcat3 : ∀ w, (Op.stringOp .add ⟨t0.toArray⟩ ⟨#[41]⟩).run Tryz.prog w = .ok (str t1) w := fun w => by rw [ht1]; exact cat_lst t0 [41] (by simp only [List.length_cons, List.length_nil]; omega) w
            have HFT : Hid (txF (m + 1) (.node h l) = t1) := hid (by
              rw [HTX.out, ht1, ht0, hu1, HSK.out, HS1.out, HR1.out]
              unfold pzF
              rw [← HR1.out, hb, if_pos rfl, jn_snoc _ _ (by
                intro h1
                have h2 := congrArg List.length h1
                rw [List.length_map, hla] at h2
                simp at h2
                omega), ← HRT.out]
              simp [List.append_assoc])
            clear hb ht1 ht0 hu1
            go_wp2_with (first | (go_at_call 68; (with_reducible refine (HHR.out _).mono ?_); rintro e w6 ⟨rfl, hg6⟩; replace hgw := grown_trans hgw hg6; replace k0 := hg6.cell k0 (by simp); replace k2 := hg6.cell k2 (by simp); replace k3 := hg6.cell k3 (by simp); replace k4 := hg6.cell k4 (by simp); clear hg6) | (go_at_call 23; (with_reducible refine (HT.out _ hgw).mono ?_); rintro e w8 ⟨rfl, hg8⟩; replace hgw := grown_trans hgw hg8))
            go_ret
            exact ⟨congrArg (fun x => Ending.returned (str x)) HFT.out.symm, hgw⟩
end Go.Proofs.YtiaonbofkgkdhaaGreatDoor

set_option linter.unusedVariables false
set_option linter.unusedSimpArgs false
namespace Go.Proofs.YtiaonbofkgkdhaaGreatDoor
open Go.RowKit _root_.Nm Ax Lx
theorem cat_lb (x : List UInt8) (d : ByteArray) (h : x.length + d.size ≤ 1000000000000000) (w : World) : (Op.stringOp .add ⟨x.toArray⟩ d).run Tryz.prog w = .ok (str (x ++ d.data.toList)) w := by
  have h1 : (⟨d.data.toList.toArray⟩ : ByteArray) = d := by rw [Array.toArray_toList]
  have h2 := cat_lst x d.data.toList (by rw [Array.length_toList]; exact h) w
  rwa [h1] at h2
set_option maxHeartbeats 64000000 in
set_option maxRecDepth 100000 in
theorem rline_any (k : Int) (pn : Option Addr) (nn cn : Nat) (e1 : Int) (e2 : ByteArray) (e3 : Bool) (p1 : Option Addr) (n1 c1 : Nat) (p2 : Option Addr) (n2 c2 : Nat) (p3 : Option Addr) (n3 c3 : Nat) (e7 o9 : Int) (L : List ByteArray) (T : List UInt8) (w : World) (hk : 1 ≤ k ∧ k ≤ 5) (hL : NRd w pn nn cn L) (hnn : nn ≤ 1048576) (hNs : ∀ i (hi : i < L.length), (L[i]).size ≤ 1048576) (hn0 : k ≠ 1 → k ≠ 5 → 0 < nn)
    (hT : k ≠ 1 → ∀ W, w.grownBy W none → Calls Tryz.prog 34 #[.agg #[.int .i64 e1, .string e2, .bool e3, .slice p1 n1 c1, .slice p2 n2 c2, .slice p3 n3 c3, .int .i64 e7]] W fun e w' => e = .returned (str T) ∧ W.grownBy w' none) (hTl : T.length ≤ 4000000000) :
    Calls Tryz.prog 28 #[.agg #[.int .i64 k, .slice pn nn cn, .int .i64 e1, .string e2, .bool e3, .slice p1 n1 c1, .slice p2 n2 c2, .slice p3 n3 c3, .int .i64 e7, .int .i64 o9]] w fun e w' => e = .returned (str (lnF k L T)) ∧ w.grownBy w' none := by
  have hW := World.grownBy_alloc w (.cells #[.int .i64 k, .slice pn nn cn, .int .i64 e1, .string e2, .bool e3, .slice p1 n1 c1, .slice p2 n2 c2, .slice p3 n3 c3, .int .i64 e7, .int .i64 o9] 49 (0, 0)) none
  obtain ⟨⟨k0, k1, k2, k3, k4, k5, k6, k7, k8, k9⟩, -⟩ := box10' (blk0 w (.cells #[.int .i64 k, .slice pn nn cn, .int .i64 e1, .string e2, .bool e3, .slice p1 n1 c1, .slice p2 n2 c2, .slice p3 n3 c3, .int .i64 e7, .int .i64 o9] 49 (0, 0)))
  have hLl := hL.len
  have hLc := hL.cap
  have hLm := hL.max
  by_cases h1 : k = 1
  · subst h1
    have HLF := hid (lnF_1 L T)
    have HL := hid hL
    have HNS := hid hNs
    have HG := hid hW
    have HJL : Hid (∀ j, (jn ((namesB L).take j)).length ≤ 2000000000000) := hid (fun j => by
      have h1 : Lib.lens ((namesB L).take j) ≤ 1048576 * ((namesB L).take j).length := lens_le (fun x hx => by
        obtain ⟨d, hd, rfl⟩ := List.mem_map.1 (List.mem_of_mem_take hx)
        obtain ⟨i, hi, rfl⟩ := List.getElem_of_mem hd
        rw [Array.length_toList]
        exact hNs i hi)
      have h2 := jn_len ((namesB L).take j)
      have h3 : ((namesB L).take j).length ≤ nn := by simp [namesB]; omega
      omega)
    clear hL hNs hT hn0
    go_enter Tryz.func28, Tryz.ntmps28
    go_upto_region 1 with fail
    generalize (w.alloc _) = wa at *
    go_wp2_with fail
    clear hW k0 k1 k2 k3 k4 k5 k6 k7 k8 k9
    go_loopw [3, 13] (fun y z wr => ∃ (i : Nat) (sk : List UInt8), i ≤ nn ∧ y = str sk ∧ z = .int .i64 i ∧ wa.grownBy wr none ∧ sk = [112, 111, 105, 110, 116, 115, 32] ++ jn ((namesB L).take i)) (fun _ z _ => nn - (intOf z).toNat)
    case atStart => exact ⟨0, [112, 111, 105, 110, 116, 115, 32], Nat.zero_le _, rfl, rfl, grown_refl _ _, by rw [List.take_zero, jn_nil, List.append_nil]⟩
    case round =>
      obtain ⟨i, sk, hi, rfl, rfl, hgr, hsk⟩ := hrel
      have hlk : sk.length ≤ 2000000000007 := by rw [hsk, List.length_append]; exact Nat.le_trans (Nat.add_le_add (Nat.le_refl 7) (HJL.out i)) (by decide)
      by_cases hlt : i < nn
      · obtain ⟨bN, oN, rfl, c1'⟩ := (HL.out.keep (grown_trans HG.out hgr)).at1 (i := i) (by omega)
        have hnd := HNS.out i (by omega)
        have HTK : Hid (jn ((namesB L).take (i + 1)) = jn ((namesB L).take i) ++ (if i = 0 then [] else cms) ++ (L[i]'(by omega)).data.toList) := hid (by
          rw [jn_step (P := namesB L) (k := i) (by simp [namesB]; omega)]
          simp [namesB])
        generalize (L[i]'(by omega)) = nd at *
        have HGr := hid hgr
        have HSK := hid hsk
        clear hgr hsk
        by_cases h0 : i = 0
        · subst h0
          rw [Nat.add_zero] at c1'
          obtain ⟨t1, ht1⟩ : ∃ t1, t1 = sk ++ nd.data.toList := ⟨_, rfl⟩
          have hcat2 : ∀ w, (Op.stringOp .add ⟨sk.toArray⟩ nd).run Tryz.prog w = .ok (str t1) w := fun w => by rw [ht1]; exact cat_lb sk nd (by omega) w
          have HT1 := hid ht1
          clear ht1
          go_wp2_with fail
          refine ⟨⟨1, t1, by omega, rfl, by go_num, HGr.out, ?_⟩, by simp [intOf]; omega⟩
          rw [HTK.out, HT1.out, HSK.out]
          simp [jn_nil]
        · have hq0 : (0 : Int) < (i : Int) := by omega
          obtain ⟨t0, ht0⟩ : ∃ t0, t0 = sk ++ cms := ⟨_, rfl⟩
          have hl0 : t0.length ≤ 2000000000009 := by rw [ht0, List.length_append]; exact Nat.add_le_add hlk (Nat.le_refl 2)
          obtain ⟨t1, ht1⟩ : ∃ t1, t1 = t0 ++ nd.data.toList := ⟨_, rfl⟩
          have hcat2 : ∀ w, (Op.stringOp .add ⟨sk.toArray⟩ ⟨#[44, 32]⟩).run Tryz.prog w = .ok (str t0) w := fun w => by rw [ht0]; exact cat_lst sk cms (by show sk.length + 2 ≤ _; omega) w
          have hcat3 : ∀ w, (Op.stringOp .add ⟨t0.toArray⟩ nd).run Tryz.prog w = .ok (str t1) w := fun w => by rw [ht1]; exact cat_lb t0 nd (by omega) w
          have HT1 := hid (And.intro ht1 ht0)
          clear ht1 ht0
          go_wp2_with fail
          refine ⟨⟨i + 1, t1, by omega, rfl, by go_num, HGr.out, ?_⟩, by simp [intOf]; omega⟩
          rw [HTK.out, HT1.out.1, HT1.out.2, HSK.out, if_neg h0]
          simp [List.append_assoc]
      · obtain rfl : i = nn := by omega
        rw [List.take_of_length_le (by simp [namesB]; omega)] at hsk
        have HSK := hid (hsk.trans HLF.out.symm)
        have HGr := hid hgr
        clear hgr hsk
        go_wp2_with fail
        go_ret
        exact ⟨congrArg (fun x => Ending.returned (str x)) HSK.out, grown_trans HG.out HGr.out⟩
  by_cases h5 : k = 5
  · subst h5
    have HLF := hid (lnF_5 L T)
    have HT := hid (hT (by decide))
    obtain ⟨t1, ht1⟩ : ∃ t1, t1 = [112, 114, 111, 118, 101, 32] ++ T := ⟨_, rfl⟩
    have hcat2 : ∀ w, (Op.stringOp .add ⟨#[112, 114, 111, 118, 101, 32]⟩ ⟨T.toArray⟩).run Tryz.prog w = .ok (str t1) w := fun w => by rw [ht1]; exact cat_lst [112, 114, 111, 118, 101, 32] T (by show 6 + T.length ≤ _; omega) w
    have HTT := hid (HLF.out.trans ht1.symm)
    clear ht1 hL hNs hT hn0
    go_enter Tryz.func28, Tryz.ntmps28
    go_upto_region 1 with fail
    generalize (w.alloc _) = wa at *
    go_wp2_with (go_at_call 34; (with_reducible refine (HT.out _ hW).mono ?_); rintro e w2 ⟨rfl, hg⟩; replace hW := grown_trans hW hg; clear hg)
    go_ret
    exact ⟨congrArg (fun x => Ending.returned (str x)) HTT.out.symm, hW⟩
  have hn := hn0 h1 h5
  obtain ⟨bN, oN, rfl, c1'⟩ := (hL.keep hW).at1 (i := 0) (by omega)
  rw [Nat.add_zero] at c1'
  have hnd := hNs 0 (by omega)
  have HN0 : Hid ((L[0]'(by omega)).data.toList = nm0 L) := hid (by simp [nm0, List.getD, List.getElem?_eq_getElem (show 0 < L.length by omega)])
  generalize (L[0]'(by omega)) = nd at *
  have HT := hid (hT h1)
  clear hL hNs hT hn0
  by_cases h2 : k = 2
  · subst h2
    obtain ⟨t0, ht0⟩ : ∃ t0, t0 = nd.data.toList ++ asg := ⟨_, rfl⟩
    have hl0 : t0.length ≤ 1048580 := by rw [ht0, List.length_append, Array.length_toList]; exact Nat.add_le_add hnd (Nat.le_refl 4)
    have hcat1 : ∀ w, (Op.stringOp .add nd ⟨#[32, 58, 61, 32]⟩).run Tryz.prog w = .ok (str t0) w := fun w => by rw [ht0]; exact cat_nd nd asg (by show nd.size + 4 ≤ _; omega) w
    obtain ⟨t1, ht1⟩ : ∃ t1, t1 = t0 ++ T := ⟨_, rfl⟩
    have hcat2 : ∀ w, (Op.stringOp .add ⟨t0.toArray⟩ ⟨T.toArray⟩).run Tryz.prog w = .ok (str t1) w := fun w => by rw [ht1]; exact cat_lst t0 T (by omega) w
    have HTT : Hid (lnF 2 L T = t1) := hid (by rw [lnF_x L T (by decide) (by decide) (by decide) (by decide), ht1, ht0, HN0.out])
    clear ht0 ht1
    go_enter Tryz.func28, Tryz.ntmps28
    go_upto_region 1 with fail
    generalize (w.alloc _) = wa at *
    go_upto_region 13 with fail
    go_region_held3 (fun w' => w'.cell? ⟨w.heap.size, 0, none⟩ = some (.int .i64 2) ∧ w'.cell? ⟨w.heap.size, 1, none⟩ = some (.slice (some ⟨bN, oN, none⟩) nn cn) ∧ w'.cell? ⟨w.heap.size, 2, none⟩ = some (.int .i64 e1) ∧ w'.cell? ⟨w.heap.size, 3, none⟩ = some (.string e2) ∧ w'.cell? ⟨w.heap.size, 4, none⟩ = some (.bool e3) ∧ w'.cell? ⟨w.heap.size, 5, none⟩ = some (.slice p1 n1 c1) ∧ w'.cell? ⟨w.heap.size, 6, none⟩ = some (.slice p2 n2 c2) ∧ w'.cell? ⟨w.heap.size, 7, none⟩ = some (.slice p3 n3 c3) ∧ w'.cell? ⟨w.heap.size, 8, none⟩ = some (.int .i64 e7) ∧ w'.cell? ⟨w.heap.size, 9, none⟩ = some (.int .i64 o9) ∧ w'.cell? ⟨bN, oN, none⟩ = some (.string nd) ∧ w.grownBy w' none) ((try go_split_ands) <;> (repeat' apply And.intro) <;> (first | (with_reducible assumption) | (with_reducible refine (grown_drew _ none).cell ?_ (by simp); with_reducible assumption) | (with_reducible refine grown_trans ?_ (grown_drew _ none); with_reducible assumption))) (first | (go_at_call 34; (with_reducible refine (HT.out _ (by first | exact hW | exact grown_trans hW (grown_drew _ none))).mono ?_); rintro e w1 ⟨rfl, hg⟩; (first | replace hW := grown_trans hW hg | replace hW := grown_trans (grown_trans hW (grown_drew _ none)) hg); replace k0 := hg.cell k0 (by simp); replace k1 := hg.cell k1 (by simp); replace k2 := hg.cell k2 (by simp); replace k3 := hg.cell k3 (by simp); replace k4 := hg.cell k4 (by simp); replace k5 := hg.cell k5 (by simp); replace k6 := hg.cell k6 (by simp); replace k7 := hg.cell k7 (by simp); replace k8 := hg.cell k8 (by simp); replace k9 := hg.cell k9 (by simp); replace c1' := hg.cell c1' (by simp); clear hg))
    go_wp2_with fail
    go_ret
    exact ⟨congrArg (fun x => Ending.returned (str x)) HTT.out.symm, by first | exact hW | exact grown_trans hW (grown_drew _ none)⟩
  by_cases h3 : k = 3
  · subst h3
    obtain ⟨t0, ht0⟩ : ∃ t0, t0 = [108, 105, 110, 101, 32] ++ nd.data.toList := ⟨_, rfl⟩
    have hl0 : t0.length ≤ 1048583 := by rw [ht0, List.length_append, Array.length_toList]; exact Nat.le_trans (Nat.add_le_add (Nat.le_refl 5) hnd) (by decide)
    have hcat1 : ∀ w, (Op.stringOp .add ⟨#[108, 105, 110, 101, 32]⟩ nd).run Tryz.prog w = .ok (str t0) w := fun w => by rw [ht0]; exact cat_lb [108, 105, 110, 101, 32] nd (by show 5 + nd.size ≤ _; omega) w
    obtain ⟨t2, ht2⟩ : ∃ t2, t2 = t0 ++ asg := ⟨_, rfl⟩
    have hl2 : t2.length ≤ 1048587 := by rw [ht2, List.length_append]; exact Nat.add_le_add hl0 (Nat.le_refl 4)
    have hcat3 : ∀ w, (Op.stringOp .add ⟨t0.toArray⟩ ⟨#[32, 58, 61, 32]⟩).run Tryz.prog w = .ok (str t2) w := fun w => by rw [ht2]; exact cat_lst t0 asg (by show t0.length + 4 ≤ _; omega) w
    obtain ⟨t1, ht1⟩ : ∃ t1, t1 = t2 ++ T := ⟨_, rfl⟩
    have hcat2 : ∀ w, (Op.stringOp .add ⟨t2.toArray⟩ ⟨T.toArray⟩).run Tryz.prog w = .ok (str t1) w := fun w => by rw [ht1]; exact cat_lst t2 T (by omega) w
    have HTT : Hid (lnF 3 L T = t1) := hid (by rw [lnF_3, ht1, ht2, ht0, HN0.out]; simp [List.append_assoc])
    clear ht0 ht1 ht2
    go_enter Tryz.func28, Tryz.ntmps28
    go_upto_region 1 with fail
    generalize (w.alloc _) = wa at *
    go_upto_region 15 with fail
    go_region_held3 (fun w' => w'.cell? ⟨w.heap.size, 0, none⟩ = some (.int .i64 3) ∧ w'.cell? ⟨w.heap.size, 1, none⟩ = some (.slice (some ⟨bN, oN, none⟩) nn cn) ∧ w'.cell? ⟨w.heap.size, 2, none⟩ = some (.int .i64 e1) ∧ w'.cell? ⟨w.heap.size, 3, none⟩ = some (.string e2) ∧ w'.cell? ⟨w.heap.size, 4, none⟩ = some (.bool e3) ∧ w'.cell? ⟨w.heap.size, 5, none⟩ = some (.slice p1 n1 c1) ∧ w'.cell? ⟨w.heap.size, 6, none⟩ = some (.slice p2 n2 c2) ∧ w'.cell? ⟨w.heap.size, 7, none⟩ = some (.slice p3 n3 c3) ∧ w'.cell? ⟨w.heap.size, 8, none⟩ = some (.int .i64 e7) ∧ w'.cell? ⟨w.heap.size, 9, none⟩ = some (.int .i64 o9) ∧ w'.cell? ⟨bN, oN, none⟩ = some (.string nd) ∧ w.grownBy w' none) ((try go_split_ands) <;> (repeat' apply And.intro) <;> (first | (with_reducible assumption) | (with_reducible refine (grown_drew _ none).cell ?_ (by simp); with_reducible assumption) | (with_reducible refine grown_trans ?_ (grown_drew _ none); with_reducible assumption))) (first | (go_at_call 34; (with_reducible refine (HT.out _ (by first | exact hW | exact grown_trans hW (grown_drew _ none))).mono ?_); rintro e w1 ⟨rfl, hg⟩; (first | replace hW := grown_trans hW hg | replace hW := grown_trans (grown_trans hW (grown_drew _ none)) hg); replace k0 := hg.cell k0 (by simp); replace k1 := hg.cell k1 (by simp); replace k2 := hg.cell k2 (by simp); replace k3 := hg.cell k3 (by simp); replace k4 := hg.cell k4 (by simp); replace k5 := hg.cell k5 (by simp); replace k6 := hg.cell k6 (by simp); replace k7 := hg.cell k7 (by simp); replace k8 := hg.cell k8 (by simp); replace k9 := hg.cell k9 (by simp); replace c1' := hg.cell c1' (by simp); clear hg))
    go_wp2_with fail
    go_ret
    exact ⟨congrArg (fun x => Ending.returned (str x)) HTT.out.symm, by first | exact hW | exact grown_trans hW (grown_drew _ none)⟩
  by_cases h4 : k = 4
  · subst h4
    obtain ⟨t0, ht0⟩ : ∃ t0, t0 = [99, 105, 114, 99, 108, 101, 32] ++ nd.data.toList := ⟨_, rfl⟩
    have hl0 : t0.length ≤ 1048583 := by rw [ht0, List.length_append, Array.length_toList]; exact Nat.le_trans (Nat.add_le_add (Nat.le_refl 7) hnd) (by decide)
    have hcat1 : ∀ w, (Op.stringOp .add ⟨#[99, 105, 114, 99, 108, 101, 32]⟩ nd).run Tryz.prog w = .ok (str t0) w := fun w => by rw [ht0]; exact cat_lb [99, 105, 114, 99, 108, 101, 32] nd (by show 7 + nd.size ≤ _; omega) w
    obtain ⟨t2, ht2⟩ : ∃ t2, t2 = t0 ++ asg := ⟨_, rfl⟩
    have hl2 : t2.length ≤ 1048587 := by rw [ht2, List.length_append]; exact Nat.add_le_add hl0 (Nat.le_refl 4)
    have hcat3 : ∀ w, (Op.stringOp .add ⟨t0.toArray⟩ ⟨#[32, 58, 61, 32]⟩).run Tryz.prog w = .ok (str t2) w := fun w => by rw [ht2]; exact cat_lst t0 asg (by show t0.length + 4 ≤ _; omega) w
    obtain ⟨t1, ht1⟩ : ∃ t1, t1 = t2 ++ T := ⟨_, rfl⟩
    have hcat2 : ∀ w, (Op.stringOp .add ⟨t2.toArray⟩ ⟨T.toArray⟩).run Tryz.prog w = .ok (str t1) w := fun w => by rw [ht1]; exact cat_lst t2 T (by omega) w
    have HTT : Hid (lnF 4 L T = t1) := hid (by rw [lnF_4, ht1, ht2, ht0, HN0.out]; simp [List.append_assoc])
    clear ht0 ht1 ht2
    go_enter Tryz.func28, Tryz.ntmps28
    go_upto_region 1 with fail
    generalize (w.alloc _) = wa at *
    go_upto_region 17 with fail
    go_region_held3 (fun w' => w'.cell? ⟨w.heap.size, 0, none⟩ = some (.int .i64 4) ∧ w'.cell? ⟨w.heap.size, 1, none⟩ = some (.slice (some ⟨bN, oN, none⟩) nn cn) ∧ w'.cell? ⟨w.heap.size, 2, none⟩ = some (.int .i64 e1) ∧ w'.cell? ⟨w.heap.size, 3, none⟩ = some (.string e2) ∧ w'.cell? ⟨w.heap.size, 4, none⟩ = some (.bool e3) ∧ w'.cell? ⟨w.heap.size, 5, none⟩ = some (.slice p1 n1 c1) ∧ w'.cell? ⟨w.heap.size, 6, none⟩ = some (.slice p2 n2 c2) ∧ w'.cell? ⟨w.heap.size, 7, none⟩ = some (.slice p3 n3 c3) ∧ w'.cell? ⟨w.heap.size, 8, none⟩ = some (.int .i64 e7) ∧ w'.cell? ⟨w.heap.size, 9, none⟩ = some (.int .i64 o9) ∧ w'.cell? ⟨bN, oN, none⟩ = some (.string nd) ∧ w.grownBy w' none) ((try go_split_ands) <;> (repeat' apply And.intro) <;> (first | (with_reducible assumption) | (with_reducible refine (grown_drew _ none).cell ?_ (by simp); with_reducible assumption) | (with_reducible refine grown_trans ?_ (grown_drew _ none); with_reducible assumption))) (first | (go_at_call 34; (with_reducible refine (HT.out _ (by first | exact hW | exact grown_trans hW (grown_drew _ none))).mono ?_); rintro e w1 ⟨rfl, hg⟩; (first | replace hW := grown_trans hW hg | replace hW := grown_trans (grown_trans hW (grown_drew _ none)) hg); replace k0 := hg.cell k0 (by simp); replace k1 := hg.cell k1 (by simp); replace k2 := hg.cell k2 (by simp); replace k3 := hg.cell k3 (by simp); replace k4 := hg.cell k4 (by simp); replace k5 := hg.cell k5 (by simp); replace k6 := hg.cell k6 (by simp); replace k7 := hg.cell k7 (by simp); replace k8 := hg.cell k8 (by simp); replace k9 := hg.cell k9 (by simp); replace c1' := hg.cell c1' (by simp); clear hg))
    go_wp2_with fail
    go_ret
    exact ⟨congrArg (fun x => Ending.returned (str x)) HTT.out.symm, by first | exact hW | exact grown_trans hW (grown_drew _ none)⟩
  omega
end Go.Proofs.YtiaonbofkgkdhaaGreatDoor

set_option linter.unusedVariables false
set_option linter.unusedSimpArgs false
namespace Go.Proofs.YtiaonbofkgkdhaaGreatDoor
open Go.RowKit _root_.Nm
/-- the cells of a statement of a list -/
def StAt (w : World) (p : Option Addr) (i : Nat) (cs : List Value) : Prop := ∃ (b o : Nat) (k : Int) (pn : Option Addr) (nn cn : Nat) (e1 : Int) (e2 : ByteArray) (e3 : Bool) (p1 : Option Addr) (n1 c1 : Nat) (p2 : Option Addr) (n2 c2 : Nat) (p3 : Option Addr) (n3 c3 : Nat) (e7 o9 : Int), p = some ⟨b, o, none⟩ ∧ cs = [.int .i64 k, .slice pn nn cn, .int .i64 e1, .string e2, .bool e3, .slice p1 n1 c1, .slice p2 n2 c2, .slice p3 n3 c3, .int .i64 e7, .int .i64 o9] ∧ w.cell? ⟨b, o + i * 10, none⟩ = some (.int .i64 k) ∧ w.cell? ⟨b, o + i * 10 + 1, none⟩ = some (.slice pn nn cn) ∧ w.cell? ⟨b, o + i * 10 + 2, none⟩ = some (.int .i64 e1) ∧ w.cell? ⟨b, o + i * 10 + 3, none⟩ = some (.string e2) ∧ w.cell? ⟨b, o + i * 10 + 4, none⟩ = some (.bool e3) ∧ w.cell? ⟨b, o + i * 10 + 5, none⟩ = some (.slice p1 n1 c1) ∧ w.cell? ⟨b, o + i * 10 + 6, none⟩ = some (.slice p2 n2 c2) ∧ w.cell? ⟨b, o + i * 10 + 7, none⟩ = some (.slice p3 n3 c3) ∧ w.cell? ⟨b, o + i * 10 + 8, none⟩ = some (.int .i64 e7) ∧ w.cell? ⟨b, o + i * 10 + 9, none⟩ = some (.int .i64 o9)
theorem StAt.keep {w w' : World} {p : Option Addr} {i : Nat} {cs : List Value} (h : StAt w p i cs) (hg : w.grownBy w' none) : StAt w' p i cs := by
  obtain ⟨b, o, k, pn, nn, cn, e1, e2, e3, p1, n1, c1, p2, n2, c2, p3, n3, c3, e7, o9, h1, h2, a0, a1, a2, a3, a4, a5, a6, a7, a8, a9⟩ := h
  exact ⟨b, o, k, pn, nn, cn, e1, e2, e3, p1, n1, c1, p2, n2, c2, p3, n3, c3, e7, o9, h1, h2, hg.cell a0 (by simp), hg.cell a1 (by simp), hg.cell a2 (by simp), hg.cell a3 (by simp), hg.cell a4 (by simp), hg.cell a5 (by simp), hg.cell a6 (by simp), hg.cell a7 (by simp), hg.cell a8 (by simp), hg.cell a9 (by simp)⟩
/-- the first statement with an error, and its error -/
def scanP (X : Nat → Int) : Nat → Nat → Int × Int
  | _, 0 => (0, 0)
  | k, f + 1 => if X k = 0 then scanP X (k + 1) f else ((k : Int), X k)
theorem scanP_step {X : Nat → Int} {k n : Nat} (hk : k < n) : scanP X k (n - k) = if X k = 0 then scanP X (k + 1) (n - (k + 1)) else ((k : Int), X k) := by
  rw [show n - k = (n - (k + 1)) + 1 by omega]
  rfl
set_option maxHeartbeats 16000000 in
set_option maxRecDepth 100000 in
theorem checkProgram_n (p : Option Addr) (n c : Nat) (C : Nat → List Value) (X : Nat → Int) (w : World) (hc : n ≤ c ∧ c ≤ 9223372036854775807) (hC : ∀ i, i < n → StAt w p i (C i))
    (hX : ∀ i, i < n → ∀ W, w.grownBy W none → Calls Tryz.prog 54 #[.agg (C i).toArray] W fun e w' => e = .returned (.int .i64 (X i)) ∧ W.grownBy w' none) (r : Int × Int) (hr : scanP X 0 n = r) :
    Calls Tryz.prog 24 #[.agg #[.slice p n c]] w fun e w' => e = .returned (.tuple #[.int .i64 r.1, .int .i64 r.2]) ∧ w.grownBy w' none := by
  have HC := hid hC
  have HX := hid hX
  have HR := hid hr
  obtain ⟨hnc, hcm⟩ := hc
  clear hC hX hr
  have HW := hid (World.grownBy_alloc w (.cells #[.slice p n c] 38 (0, 0)) none)
  go_enter Tryz.func24, Tryz.ntmps24
  go_wp2_with fail
  go_loopw [10] (fun y wr => ∃ k : Nat, k ≤ n ∧ y = .int .i64 k ∧ w.grownBy wr none ∧ Hid (scanP X k (n - k) = r)) (fun y _ => n - (intOf y).toNat)
  case atStart => exact ⟨0, Nat.zero_le _, rfl, HW.out, hid HR.out⟩
  case round =>
    clear HR
    obtain ⟨k0, hk, rfl, hg, hsc⟩ := hrel
    by_cases hlt : k0 < n
    · obtain ⟨b, o, k, pn, nn, cn, e1, e2, e3, p1, n1, c1, p2, n2, c2, p3, n3, c3, e7, o9, rfl, hck, a0, a1, a2, a3, a4, a5, a6, a7, a8, a9⟩ := (HC.out k0 hlt).keep hg
      have hG1 := World.grownBy_alloc wr (.cells #[.int .i64 k, .slice pn nn cn, .int .i64 e1, .string e2, .bool e3, .slice p1 n1 c1, .slice p2 n2 c2, .slice p3 n3 c3, .int .i64 e7, .int .i64 o9] 49 (0, 0)) none
      have HCC := hid (HX.out k0 hlt _ (grown_trans hg hG1))
      rw [hck] at HCC
      rw [scanP_step hlt] at hsc
      have HGG := hid (grown_trans hg hG1)
      clear hck hG1
      generalize X k0 = v at *
      obtain ⟨⟨i0, i1, i2, i3, i4, i5, i6, i7, i8, i9⟩, fa⟩ := box10' (blk0 wr (.cells #[.int .i64 0, .slice none 0 0, .int .i64 0, .string ⟨#[]⟩, .bool false, .slice none 0 0, .slice none 0 0, .slice none 0 0, .int .i64 0, .int .i64 0] 49 (0, 0)))
      have f0 := fa 0; have f1 := fa 1; have f2 := fa 2; have f3 := fa 3; have f4 := fa 4; have f5 := fa 5; have f6 := fa 6; have f7 := fa 7; have f8 := fa 8; have f9 := fa 9
      clear fa
      by_cases hv : v = 0
      · subst hv
        rw [if_pos rfl] at hsc
        go_wp2_with (go_at_call 54; refine HCC.out.mono ?_; rintro e w3 ⟨rfl, hg3⟩)
        exact ⟨⟨k0 + 1, by omega, by go_num, grown_trans HGG.out hg3, hsc⟩, by simp [intOf]; omega⟩
      · rw [if_neg hv] at hsc
        obtain rfl := hsc.out
        go_wp2_with (go_at_call 54; refine HCC.out.mono ?_; rintro e w3 ⟨rfl, hg3⟩)
        go_ret2
        exact ⟨rfl, grown_trans HGG.out hg3⟩
    · obtain rfl : k0 = n := by omega
      obtain rfl : r = (0, 0) := by
        have := hsc.out
        rw [Nat.sub_self] at this
        exact this.symm
      go_wp2_with fail
      go_ret2
      exact ⟨rfl, hg⟩
set_option maxHeartbeats 16000000 in
set_option maxRecDepth 100000 in
theorem rCheckProgram_n (p : Option Addr) (n c : Nat) (C : Nat → List Value) (X : Nat → Int) (w : World) (hc : n ≤ c ∧ c ≤ 9223372036854775807) (hC : ∀ i, i < n → StAt w p i (C i))
    (hX : ∀ i, i < n → ∀ W, w.grownBy W none → Calls Tryz.prog 57 #[.agg (C i).toArray] W fun e w' => e = .returned (.int .i64 (X i)) ∧ W.grownBy w' none) (r : Int × Int) (hr : scanP X 0 n = r) :
    Calls Tryz.prog 27 #[.agg #[.slice p n c]] w fun e w' => e = .returned (.tuple #[.int .i64 r.1, .int .i64 r.2]) ∧ w.grownBy w' none := by
  have HC := hid hC
  have HX := hid hX
  have HR := hid hr
  obtain ⟨hnc, hcm⟩ := hc
  clear hC hX hr
  have HW := hid (World.grownBy_alloc w (.cells #[.slice p n c] 38 (0, 0)) none)
  go_enter Tryz.func27, Tryz.ntmps27
  go_wp2_with fail
  go_loopw [10] (fun y wr => ∃ k : Nat, k ≤ n ∧ y = .int .i64 k ∧ w.grownBy wr none ∧ Hid (scanP X k (n - k) = r)) (fun y _ => n - (intOf y).toNat)
  case atStart => exact ⟨0, Nat.zero_le _, rfl, HW.out, hid HR.out⟩
  case round =>
    clear HR
    obtain ⟨k0, hk, rfl, hg, hsc⟩ := hrel
    by_cases hlt : k0 < n
    · obtain ⟨b, o, k, pn, nn, cn, e1, e2, e3, p1, n1, c1, p2, n2, c2, p3, n3, c3, e7, o9, rfl, hck, a0, a1, a2, a3, a4, a5, a6, a7, a8, a9⟩ := (HC.out k0 hlt).keep hg
      have hG1 := World.grownBy_alloc wr (.cells #[.int .i64 k, .slice pn nn cn, .int .i64 e1, .string e2, .bool e3, .slice p1 n1 c1, .slice p2 n2 c2, .slice p3 n3 c3, .int .i64 e7, .int .i64 o9] 49 (0, 0)) none
      have HCC := hid (HX.out k0 hlt _ (grown_trans hg hG1))
      rw [hck] at HCC
      rw [scanP_step hlt] at hsc
      have HGG := hid (grown_trans hg hG1)
      clear hck hG1
      generalize X k0 = v at *
      obtain ⟨⟨i0, i1, i2, i3, i4, i5, i6, i7, i8, i9⟩, fa⟩ := box10' (blk0 wr (.cells #[.int .i64 0, .slice none 0 0, .int .i64 0, .string ⟨#[]⟩, .bool false, .slice none 0 0, .slice none 0 0, .slice none 0 0, .int .i64 0, .int .i64 0] 49 (0, 0)))
      have f0 := fa 0; have f1 := fa 1; have f2 := fa 2; have f3 := fa 3; have f4 := fa 4; have f5 := fa 5; have f6 := fa 6; have f7 := fa 7; have f8 := fa 8; have f9 := fa 9
      clear fa
      by_cases hv : v = 0
      · subst hv
        rw [if_pos rfl] at hsc
        go_wp2_with (go_at_call 57; refine HCC.out.mono ?_; rintro e w3 ⟨rfl, hg3⟩)
        exact ⟨⟨k0 + 1, by omega, by go_num, grown_trans HGG.out hg3, hsc⟩, by simp [intOf]; omega⟩
      · rw [if_neg hv] at hsc
        obtain rfl := hsc.out
        go_wp2_with (go_at_call 57; refine HCC.out.mono ?_; rintro e w3 ⟨rfl, hg3⟩)
        go_ret2
        exact ⟨rfl, grown_trans HGG.out hg3⟩
    · obtain rfl : k0 = n := by omega
      obtain rfl : r = (0, 0) := by
        have := hsc.out
        rw [Nat.sub_self] at this
        exact this.symm
      go_wp2_with fail
      go_ret2
      exact ⟨rfl, hg⟩
end Go.Proofs.YtiaonbofkgkdhaaGreatDoor

set_option linter.unusedVariables false
set_option linter.unusedSimpArgs false
namespace Go.Proofs.YtiaonbofkgkdhaaGreatDoor
open Go.RowKit _root_.Nm
/-- the number of parts -/
def cntN : Nat → Tr → Nat
  | 0, _ => 0
  | m + 1, .node _ l => 1 + (l.map (cntN m)).sum
theorem cntN_succ (m : Nat) (h : Hd) (l : List Tr) : cntN (m + 1) (.node h l) = 1 + (l.map (cntN m)).sum := rfl
theorem sum_take_succ {l : List Nat} {k : Nat} (hk : k < l.length) : (l.take (k + 1)).sum = (l.take k).sum + l[k] := by
  rw [List.take_add_one, List.getElem?_eq_getElem hk]
  simp only [Option.toList, List.sum_append, List.sum_cons, List.sum_nil, Nat.add_zero]
theorem sum_take_le {l : List Nat} (k : Nat) : (l.take k).sum ≤ l.sum := by
  have := List.sum_append (l₁ := l.take k) (l₂ := l.drop k)
  rw [List.take_append_drop] at this
  omega
def CellB (w : World) (B : Nat) (x : Nat) : Prop := w.heap[B]? = some (.cells #[.int .i64 (x : Nat)] 3 (0, 0))
/-- the other blocks stay -/
def KeepB (w w' : World) (B : Nat) : Prop := (∀ G O, G ≠ B → w.heap[G]? = some O → w'.heap[G]? = some O) ∧ w.heap.size ≤ w'.heap.size
theorem KeepB.trans {w w' w'' : World} {B : Nat} (h : KeepB w w' B) (h' : KeepB w' w'' B) : KeepB w w'' B := ⟨fun G O hG hO => h'.1 G O hG (h.1 G O hG hO), Nat.le_trans h.2 h'.2⟩
theorem KeepB.grown {w w' : World} {B : Nat} (h : w.grownBy w' none) : KeepB w w' B := ⟨fun G O _ hO => keepB hO h, h.size⟩
end Go.Proofs.YtiaonbofkgkdhaaGreatDoor

set_option linter.unusedVariables false
set_option linter.unusedSimpArgs false
namespace Go.Proofs.YtiaonbofkgkdhaaGreatDoor
open Go.RowKit _root_.Nm
theorem box1d {w : World} {G : Nat} {a : Value} {T : TypeId} (hb : w.heap[G]? = some (.cells #[a] T (0, 0))) : w.cell? ⟨G, 0, none⟩ = some a ∧ w.frozen? ⟨G, 0, none⟩ = false := by
  have k0 := cell_of_row w G 0 _ _ _ hb
  simp at k0
  exact ⟨k0, frozen_of_row w G 0 _ _ hb⟩
theorem cntF_cntN : ∀ (m : Nat) (t : Tr), cntN m t ≤ 2000000000 → cntF m t = (cntN m t : Int)
  | 0, _, _ => rfl
  | m + 1, .node h l, hd => by
    rw [cntN_succ] at hd ⊢
    rw [cntF_succ]
    unfold sumC
    have hm : ∀ (L : List Tr) (a : Nat), a + (L.map (cntN m)).sum ≤ 2000000000 → (L.map (cntF m)).foldl (fun a b => wrap64 (a + b)) (a : Int) = ((a + (L.map (cntN m)).sum : Nat) : Int) := by
      intro L
      induction L with
      | nil => intro a _; simp
      | cons x r ih =>
        intro a hL
        rw [List.map_cons, List.sum_cons] at hL
        rw [List.map_cons, List.foldl_cons, List.map_cons, List.sum_cons, cntF_cntN m x (by omega), show wrap64 ((a : Int) + ((cntN m x : Nat) : Int)) = ((a + cntN m x : Nat) : Int) by unfold wrap64; omega, ih _ (by omega)]
        congr 1
        omega
    have := hm l 1 hd
    simpa using this
/-- a list of statements in memory: kinds and trees -/
def StsAt (w : World) (p : Option Addr) (n m : Nat) (K : Nat → Int) (G : Nat → Tr) : Prop := ∀ i, i < n → ∃ (b o : Nat) (pn : Option Addr) (nn cn : Nat) (e1 : Int) (e2 : ByteArray) (e3 : Bool) (p1 : Option Addr) (n1 c1 : Nat) (p2 : Option Addr) (n2 c2 : Nat) (p3 : Option Addr) (n3 c3 : Nat) (e7 o9 : Int), p = some ⟨b, o, none⟩ ∧ ERd w m [.int .i64 e1, .string e2, .bool e3, .slice p1 n1 c1, .slice p2 n2 c2, .slice p3 n3 c3, .int .i64 e7] (G i) ∧ w.cell? ⟨b, o + i * 10, none⟩ = some (.int .i64 (K i)) ∧ w.cell? ⟨b, o + i * 10 + 1, none⟩ = some (.slice pn nn cn) ∧ w.cell? ⟨b, o + i * 10 + 2, none⟩ = some (.int .i64 e1) ∧ w.cell? ⟨b, o + i * 10 + 3, none⟩ = some (.string e2) ∧ w.cell? ⟨b, o + i * 10 + 4, none⟩ = some (.bool e3) ∧ w.cell? ⟨b, o + i * 10 + 5, none⟩ = some (.slice p1 n1 c1) ∧ w.cell? ⟨b, o + i * 10 + 6, none⟩ = some (.slice p2 n2 c2) ∧ w.cell? ⟨b, o + i * 10 + 7, none⟩ = some (.slice p3 n3 c3) ∧ w.cell? ⟨b, o + i * 10 + 8, none⟩ = some (.int .i64 e7) ∧ w.cell? ⟨b, o + i * 10 + 9, none⟩ = some (.int .i64 o9)
/-- the parts of the statements before k -/
def sizS (m : Nat) (K : Nat → Int) (G : Nat → Tr) : Nat → Nat
  | 0 => 0
  | k + 1 => sizS m K G k + if K k = 1 then 0 else cntN m (G k)
theorem sizS_succ (m : Nat) (K : Nat → Int) (G : Nat → Tr) (k : Nat) : sizS m K G (k + 1) = sizS m K G k + if K k = 1 then 0 else cntN m (G k) := rfl
theorem sizS_mono {m : Nat} {K : Nat → Int} {G : Nat → Tr} : ∀ {n k : Nat}, k ≤ n → sizS m K G k ≤ sizS m K G n
  | 0, k, h => by obtain rfl : k = 0 := by omega
                  exact Nat.le_refl _
  | n + 1, k, h => by
    by_cases hk : k = n + 1
    · rw [hk]; exact Nat.le_refl _
    · have := sizS_mono (m := m) (K := K) (G := G) (n := n) (k := k) (by omega)
      rw [sizS_succ]
      omega
end Go.Proofs.YtiaonbofkgkdhaaGreatDoor

set_option linter.unusedVariables false
set_option linter.unusedSimpArgs false
namespace Go.Proofs.YtiaonbofkgkdhaaGreatDoor
open Go.ChangeShapes Go.WideShapes Go.ChangeAt Go.RowKit _root_.Nm
theorem cellsNamesA : Tryz.prog.cellsOf 31 = 1 := by kernel_rfl
theorem cellsStmtA : Tryz.prog.cellsOf 49 = 10 := by kernel_rfl
theorem cellsStmtsA : Tryz.prog.cellsOf 36 = 1 := by kernel_rfl
theorem cntN_sz : ∀ (m : Nat) (t : Tr), cntN m t ≤ szF m t
  | 0, _ => Nat.le_refl _
  | m + 1, .node h l => by
    rw [cntN_succ, szF_succ]
    have : (l.map (cntN m)).sum ≤ (l.map (szF m)).sum := by
      induction l with
      | nil => exact Nat.le_refl _
      | cons x r ih =>
        have := cntN_sz m x
        simp only [List.map_cons, List.sum_cons]
        omega
    omega
section
variable {H : Type} {enc : TypeId × Value → H} {W : World}
theorem open_namesA {fuel : Nat} {cs : List Value} {x : DataW H × List MemPlace} (hf : DataW.trod enc Tryz.prog W 0 (fun _ => true) true fuel 31 cs = some x) :
    ∃ p n c L, cs = [.slice p n c] ∧ NRd W p n c L ∧ ∀ i (hi : i < L.length), (L[i]).size ≤ maxLen := by
  rcases open_strings Tryz.underlying31 Tryz.underlying9 cellsStrA hf with ⟨hcs, _⟩ | ⟨a, len, cap, ss, hcs, _, hl, hm, hz, _, hcell, hwz⟩
  · exact ⟨none, 0, 0, [], hcs, SRd.nil W 1, fun i hi => absurd hi (Nat.not_lt_zero i)⟩
  · simp only [if_true] at hz
    refine ⟨some a, len, cap, ss.take len, hcs, ⟨by simp; omega, fun r hr => by obtain ⟨d, _, rfl⟩ := List.mem_map.1 hr; rfl, hl, by unfold maxLen at hm; omega, fun i hi j hj => ?_⟩, fun i hi => ?_⟩
    · have hi' : i < len := by simp at hi; omega
      have hc := hcell i (by omega)
      have hsp := World.cell?_spot (hcell 0 (by omega))
      obtain ⟨b, o, rfl⟩ : ∃ b o, a = ⟨b, o, none⟩ := ⟨a.block, a.off, by
        cases a with
        | mk b o s => simp [Addr.add] at hsp; simp [hsp]⟩
      refine ⟨b, o, rfl, ?_⟩
      have hj0 : j = 0 := by simp at hj; omega
      subst hj0
      rw [add_addr] at hc
      rw [Nat.mul_one, Nat.add_zero, hc]
      simp [List.getD, List.getElem?_eq_getElem (show i < ss.length by omega)]
    · exact hwz _ (List.mem_of_mem_take (List.getElem_mem hi))
set_option maxRecDepth 100000 in
theorem open_stmtA {fuel : Nat} {cs : List Value} {x : DataW H × List MemPlace} (hf : DataW.trod enc Tryz.prog W 0 (fun _ => true) true (fuel + 1) 49 cs = some x) :
    ∃ k L t, StOk W cs k L ((fuel + 1) / 2) t ∧ DgF ((fuel + 1) / 2) t ∧ szF ((fuel + 1) / 2) t ≤ Rows.uptoBulk x.1 := by
  obtain ⟨xs, m, hm, rfl, hl, hlen, hfs⟩ := DataW.trod_struct Tryz.underlying49 hf
  obtain rfl : m = fuel := by omega
  rw [cellsStmtA] at hl
  match cs, hl, xs, hlen with
  | [c0, c1, c2, c3, c4, c5, c6, c7, c8, c9], _, [y0, y1, y2, y3], _ =>
    have h0 := hfs 0 _ rfl
    have h1 := hfs 1 _ rfl
    have h2 := hfs 2 _ rfl
    have h3 := hfs 3 _ rfl
    clear hfs
    simp [cellsIntA, cellsNamesA, cellsExprA] at h0 h1 h2 h3
    obtain ⟨k, hk, _, _⟩ := DataW.trod_int Tryz.underlying3 h0
    obtain ⟨pn, nn, cn, L, hn, hN, hNs⟩ := open_namesA h1
    obtain ⟨o, ho, _, _⟩ := DataW.trod_int Tryz.underlying3 h3
    obtain ⟨t, hE, hs, hD⟩ := open_exprW _ _ _ h2
    simp at hk hn ho
    subst hk hn ho
    refine ⟨k, L, t, ⟨⟨pn, nn, cn, [c2, c3, c4, c5, c6, c7, c8], o, rfl, hN, hE⟩, hNs⟩, hD, ?_⟩
    simp only [Rows.uptoBulk, List.map_cons, List.map_nil, Rows.uptoBulkAll]
    omega
theorem bulkAll_append {H : Type} : ∀ (a b : List (DataW H)), Rows.uptoBulkAll (a ++ b) = Rows.uptoBulkAll a + Rows.uptoBulkAll b
  | [], b => by simp [Rows.uptoBulkAll]
  | x :: a, b => by
    rw [List.cons_append]
    simp only [Rows.uptoBulkAll]
    rw [bulkAll_append a b]
    omega
theorem sizS_bulk {H : Type} (m : Nat) (K : Nat → Int) (G : Nat → Tr) (ds : List (DataW H)) (hG : ∀ i (hi : i < ds.length), cntN m (G i) ≤ Rows.uptoBulk ds[i]) : ∀ k, k ≤ ds.length → sizS m K G k ≤ Rows.uptoBulkAll (ds.take k)
  | 0, _ => Nat.zero_le _
  | k + 1, hk => by
    have ih := sizS_bulk m K G ds hG k (by omega)
    have h1 := hG k (by omega)
    rw [sizS_succ, List.take_add_one, List.getElem?_eq_getElem (by omega), bulkAll_append]
    simp only [Option.toList, Rows.uptoBulkAll]
    split <;> omega
set_option maxRecDepth 100000 in
theorem open_progA {fuel : Nat} {cs : List Value} {x : DataW H × List MemPlace} (hf : DataW.trod enc Tryz.prog W 0 (fun _ => true) true fuel 38 cs = some x) (hlc : cs.length = 1) (hbk : Rows.uptoBulk x.1 ≤ 1048576) :
    ∃ (p : Option Addr) (n c m : Nat) (K : Nat → Int) (G : Nat → Tr) (C : Nat → List Value), cs = [.slice p n c] ∧ (n ≤ c ∧ c ≤ 9223372036854775807) ∧ (∀ i, i < n → StAt W p i (C i)) ∧ (∀ i, i < n → (∃ L, StOk W (C i) (K i) L m (G i)) ∧ DgF m (G i) ∧ szF m (G i) ≤ 1048576) ∧ StsAt W p n m K G ∧ n + sizS m K G n ≤ 2000000000 := by
  obtain ⟨y0, n1, hx, _, h0⟩ := trod_struct1 Tryz.underlying38 hf
  simp only [cellsStmtsA] at h0
  match cs, hlc with
  | [c0], _ =>
    simp at h0
    rcases DataW.trod_slice Tryz.underlying36 h0 with ⟨hcs, _⟩ | ⟨a, len, cap, elems, rest, n2, _, hcs, hx0, _, hl, hcap, hel, hat, _, _⟩
    · simp at hcs
      subst hcs
      exact ⟨none, 0, 0, 0, fun _ => 0, fun _ => zeroT, fun _ => [], rfl, ⟨Nat.le_refl _, by omega⟩, fun i hi => absurd hi (Nat.not_lt_zero i), fun i hi => absurd hi (Nat.not_lt_zero i), fun i hi => absurd hi (Nat.not_lt_zero i), by simp [sizS]⟩
    · simp at hcs
      subst hcs
      rw [cellsStmtA] at hat
      have hbb : Rows.uptoBulkAll (elems.map (·.1)) ≤ 1048576 := by
        rw [hx, hx0] at hbk
        simp only [Rows.uptoBulk, Rows.uptoBulkAll] at hbk
        omega
      have hn : len ≤ 1048576 := by
        have := bulkAll_len (elems.map (·.1))
        simp at this
        omega
      have hone : ∀ i (hi : i < len), ∃ (ci : List Value) (k : Int) (t : Tr), W.cells? 0 (a.add (i * 10)) 10 = some ci ∧ (∃ L, StOk W ci k L (n2 / 2) t) ∧ DgF (n2 / 2) t ∧ szF (n2 / 2) t ≤ Rows.uptoBulk (elems[i]'(by omega)).1 := by
        intro i hi
        have h := hat i hi
        rw [List.getElem?_eq_getElem (by omega), Option.bind_eq_some_iff] at h
        obtain ⟨ci, hc, ht⟩ := h
        cases n2 with
        | zero => simp [DataW.trod] at ht
        | succ q =>
          obtain ⟨k, L, t, h1, h2, h3⟩ := open_stmtA ht
          exact ⟨ci, k, t, hc, ⟨L, h1⟩, h2, h3⟩
      obtain ⟨C, hC⟩ : ∃ C : Nat → List Value, ∀ i (hi : i < len), ∃ (k : Int) (t : Tr), W.cells? 0 (a.add (i * 10)) 10 = some (C i) ∧ (∃ L, StOk W (C i) k L (n2 / 2) t) ∧ DgF (n2 / 2) t ∧ szF (n2 / 2) t ≤ Rows.uptoBulk (elems[i]'(by omega)).1 :=
        ⟨fun i => if hi : i < len then Classical.choose (hone i hi) else [], fun i hi => by
          dsimp only
          rw [dif_pos hi]
          exact Classical.choose_spec (hone i hi)⟩
      obtain ⟨K, hK⟩ : ∃ K : Nat → Int, ∀ i (hi : i < len), ∃ (t : Tr), W.cells? 0 (a.add (i * 10)) 10 = some (C i) ∧ (∃ L, StOk W (C i) (K i) L (n2 / 2) t) ∧ DgF (n2 / 2) t ∧ szF (n2 / 2) t ≤ Rows.uptoBulk (elems[i]'(by omega)).1 :=
        ⟨fun i => if hi : i < len then Classical.choose (hC i hi) else 0, fun i hi => by
          dsimp only
          rw [dif_pos hi]
          exact Classical.choose_spec (hC i hi)⟩
      obtain ⟨G, hG⟩ : ∃ G : Nat → Tr, ∀ i (hi : i < len), W.cells? 0 (a.add (i * 10)) 10 = some (C i) ∧ (∃ L, StOk W (C i) (K i) L (n2 / 2) (G i)) ∧ DgF (n2 / 2) (G i) ∧ szF (n2 / 2) (G i) ≤ Rows.uptoBulk (elems[i]'(by omega)).1 :=
        ⟨fun i => if hi : i < len then Classical.choose (hK i hi) else zeroT, fun i hi => by
          dsimp only
          rw [dif_pos hi]
          exact Classical.choose_spec (hK i hi)⟩
      have hcell : ∀ i (hi : i < len), ∃ (b o : Nat), a = ⟨b, o, none⟩ ∧ (C i).length = 10 ∧ ∀ j (hj : j < (C i).length), W.cell? ⟨b, o + i * 10 + j, none⟩ = some (C i)[j] := by
        intro i hi
        obtain ⟨h1, _⟩ := hG i hi
        obtain ⟨_, e2, e3⟩ := World.cells?_some h1
        obtain ⟨h1z, _⟩ := hG 0 (by omega)
        obtain ⟨_, z2, z3⟩ := World.cells?_some h1z
        have hc0 : W.cell? ((a.add (0 * 10)).add 0) = some ((C 0)[0]'(by omega)) := by rw [z3 0 (by omega), List.getElem?_eq_getElem (by omega)]
        have hsp := World.cell?_spot hc0
        obtain ⟨b, o, rfl⟩ : ∃ b o, a = ⟨b, o, none⟩ := ⟨a.block, a.off, by
          cases a with
          | mk b o s => simp [Addr.add] at hsp; simp [hsp]⟩
        refine ⟨b, o, rfl, e2, fun j hj => ?_⟩
        have := e3 j (by omega)
        rw [add_addr, add_addr, List.getElem?_eq_getElem (by omega)] at this
        exact this
      have hboth : ∀ i (hi : i < len), StAt W (some a) i (C i) ∧ ∃ (b o : Nat) (pn : Option Addr) (nn cn : Nat) (e1 : Int) (e2 : ByteArray) (e3 : Bool) (p1 : Option Addr) (n1 c1 : Nat) (p2 : Option Addr) (n2' c2 : Nat) (p3 : Option Addr) (n3 c3 : Nat) (e7 o9 : Int), some a = some ⟨b, o, none⟩ ∧ ERd W (n2 / 2) [.int .i64 e1, .string e2, .bool e3, .slice p1 n1 c1, .slice p2 n2' c2, .slice p3 n3 c3, .int .i64 e7] (G i) ∧ W.cell? ⟨b, o + i * 10, none⟩ = some (.int .i64 (K i)) ∧ W.cell? ⟨b, o + i * 10 + 1, none⟩ = some (.slice pn nn cn) ∧ W.cell? ⟨b, o + i * 10 + 2, none⟩ = some (.int .i64 e1) ∧ W.cell? ⟨b, o + i * 10 + 3, none⟩ = some (.string e2) ∧ W.cell? ⟨b, o + i * 10 + 4, none⟩ = some (.bool e3) ∧ W.cell? ⟨b, o + i * 10 + 5, none⟩ = some (.slice p1 n1 c1) ∧ W.cell? ⟨b, o + i * 10 + 6, none⟩ = some (.slice p2 n2' c2) ∧ W.cell? ⟨b, o + i * 10 + 7, none⟩ = some (.slice p3 n3 c3) ∧ W.cell? ⟨b, o + i * 10 + 8, none⟩ = some (.int .i64 e7) ∧ W.cell? ⟨b, o + i * 10 + 9, none⟩ = some (.int .i64 o9) := by
        intro i hi
        obtain ⟨_, ⟨L, hst⟩, _⟩ := hG i hi
        obtain ⟨b, o, rfl, hlen10, hcl⟩ := hcell i hi
        obtain ⟨pn, nn, cn, ce, o9, hce, _, hE⟩ := hst.mem
        obtain ⟨e1, e2, e3, p1, n1, c1, p2, n2', c2, p3, n3, c3, e7, rfl⟩ := hE.shape
        simp only [List.cons_append, List.nil_append] at hce
        rw [hce] at hcl
        have a0 := hcl 0 (by simp); have a1 := hcl 1 (by simp); have a2 := hcl 2 (by simp); have a3 := hcl 3 (by simp); have a4 := hcl 4 (by simp); have a5 := hcl 5 (by simp); have a6 := hcl 6 (by simp); have a7 := hcl 7 (by simp); have a8 := hcl 8 (by simp); have a9 := hcl 9 (by simp)
        simp only [List.getElem_cons_zero, List.getElem_cons_succ, Nat.add_zero] at a0 a1 a2 a3 a4 a5 a6 a7 a8 a9
        exact ⟨⟨b, o, K i, pn, nn, cn, e1, e2, e3, p1, n1, c1, p2, n2', c2, p3, n3, c3, e7, o9, rfl, hce, a0, a1, a2, a3, a4, a5, a6, a7, a8, a9⟩, b, o, pn, nn, cn, e1, e2, e3, p1, n1, c1, p2, n2', c2, p3, n3, c3, e7, o9, rfl, hE, a0, a1, a2, a3, a4, a5, a6, a7, a8, a9⟩
      refine ⟨some a, len, cap, n2 / 2, K, G, C, rfl, ⟨hl, by unfold maxLen at hcap; omega⟩, fun i hi => (hboth i hi).1, fun i hi => ?_, fun i hi => (hboth i hi).2, ?_⟩
      · obtain ⟨_, h2, h3, h4⟩ := hG i hi
        refine ⟨h2, h3, ?_⟩
        have h5 := le_sum (l := (elems.map (·.1)).map Rows.uptoBulk) (i := i) (by simp; omega)
        have h6 : ((elems.map (·.1)).map Rows.uptoBulk).sum = Rows.uptoBulkAll (elems.map (·.1)) := by
          generalize elems.map (·.1) = L
          induction L with
          | nil => simp [Rows.uptoBulkAll]
          | cons x r ih => simp only [List.map_cons, List.sum_cons, Rows.uptoBulkAll, ih]
        rw [h6] at h5
        simp at h5
        omega
      · have h7 := sizS_bulk (n2 / 2) K G (elems.map (·.1)) (fun i hi => by
          obtain ⟨_, _, _, h4⟩ := hG i (by simp at hi; omega)
          have := cntN_sz (n2 / 2) (G i)
          simp
          omega) len (by simp; omega)
        rw [List.take_of_length_le (by simp; omega)] at h7
        omega
end
end Go.Proofs.YtiaonbofkgkdhaaGreatDoor

set_option linter.unusedVariables false
set_option linter.unusedSimpArgs false
namespace Go.Proofs.YtiaonbofkgkdhaaGreatDoor
open Go.ChangeShapes Go.WideShapes Go.ChangeAt Go.RowKit _root_.Nm Lx
theorem isNm_len {l : List UInt8} (h : isNm l = true) : l.length ≤ 20 ∧ l ≠ [] := by
  cases l with
  | nil => cases h
  | cons c r =>
    cases hs : shp (c :: r) with
    | false => rw [isNm_f hs] at h; cases h
    | true =>
      rw [shp_cons] at hs
      simp only [Bool.and_eq_true] at hs
      exact ⟨of_decide_eq_true hs.1, by simp⟩
section
variable {H : Type} {enc : TypeId × Value → H} {W : World}
theorem strs_len : ∀ (ss : List ByteArray), ss.length ≤ Rows.uptoBulkAll (strs (H := H) ss)
  | [] => by simp
  | s :: r => by
    have := strs_len r
    simp only [strs, List.map_cons, Rows.uptoBulkAll, Rows.uptoBulk, List.length_cons] at this ⊢
    omega
theorem open_namesP {fuel : Nat} {cs : List Value} {x : DataW H × List MemPlace} (hf : DataW.trod enc Tryz.prog W 0 (fun _ => true) true fuel 31 cs = some x) :
    ∃ p n c L, cs = [.slice p n c] ∧ NRd W p n c L ∧ (∀ i (hi : i < L.length), (L[i]).size ≤ maxLen) ∧ L.length ≤ Rows.uptoBulk x.1 := by
  obtain ⟨p, n, c, L, h1, h2, h3⟩ := open_namesA hf
  refine ⟨p, n, c, L, h1, h2, h3, ?_⟩
  have hl := h2.len
  rcases open_strings Tryz.underlying31 Tryz.underlying9 cellsStrA hf with ⟨hcs, hx⟩ | ⟨a, len, cap, ss, hcs, _, hlc, hm, hz, hx, _, _⟩
  · rw [h1] at hcs
    simp at hcs
    rw [hl, hcs.2.1]
    exact Nat.zero_le _
  · rw [h1] at hcs
    simp only [List.cons.injEq, Value.slice.injEq, and_true] at hcs
    simp only [if_true] at hz
    have := strs_len (H := H) (ss.take len)
    rw [hl, hcs.2.1, hx]
    simp only [Rows.uptoBulk]
    simp only [List.length_take] at this
    omega
set_option maxRecDepth 100000 in
theorem open_stmtP {fuel : Nat} {cs : List Value} {x : DataW H × List MemPlace} (hf : DataW.trod enc Tryz.prog W 0 (fun _ => true) true (fuel + 1) 49 cs = some x) :
    ∃ k t, (∃ L, StOk W cs k L ((fuel + 1) / 2) t ∧ L.length ≤ Rows.uptoBulk x.1) ∧ DgF ((fuel + 1) / 2) t ∧ szF ((fuel + 1) / 2) t ≤ Rows.uptoBulk x.1 := by
  obtain ⟨xs, m, hm, rfl, hl, hlen, hfs⟩ := DataW.trod_struct Tryz.underlying49 hf
  obtain rfl : m = fuel := by omega
  rw [cellsStmtA] at hl
  match cs, hl, xs, hlen with
  | [c0, c1, c2, c3, c4, c5, c6, c7, c8, c9], _, [y0, y1, y2, y3], _ =>
    have h0 := hfs 0 _ rfl
    have h1 := hfs 1 _ rfl
    have h2 := hfs 2 _ rfl
    have h3 := hfs 3 _ rfl
    clear hfs
    simp [cellsIntA, cellsNamesA, cellsExprA] at h0 h1 h2 h3
    obtain ⟨k, hk, _, _⟩ := DataW.trod_int Tryz.underlying3 h0
    obtain ⟨pn, nn, cn, L, hn, hN, hNs, hNl⟩ := open_namesP h1
    obtain ⟨o, ho, _, _⟩ := DataW.trod_int Tryz.underlying3 h3
    obtain ⟨t, hE, hs, hD⟩ := open_exprW _ _ _ h2
    simp at hk hn ho
    subst hk hn ho
    refine ⟨k, t, ⟨L, ⟨⟨pn, nn, cn, [c2, c3, c4, c5, c6, c7, c8], o, rfl, hN, hE⟩, hNs⟩, ?_⟩, hD, ?_⟩
    all_goals
      simp only [Rows.uptoBulk, List.map_cons, List.map_nil, Rows.uptoBulkAll]
      omega
set_option maxRecDepth 100000 in
theorem open_progP {fuel : Nat} {cs : List Value} {x : DataW H × List MemPlace} (hf : DataW.trod enc Tryz.prog W 0 (fun _ => true) true fuel 38 cs = some x) (hlc : cs.length = 1) (hbk : Rows.uptoBulk x.1 ≤ 1048576) :
    ∃ (p : Option Addr) (n c m : Nat) (K : Nat → Int) (G : Nat → Tr) (C : Nat → List Value), cs = [.slice p n c] ∧ (n ≤ c ∧ c ≤ 9223372036854775807) ∧ (∀ i, i < n → StAt W p i (C i)) ∧ (∀ i, i < n → (∃ L, StOk W (C i) (K i) L m (G i) ∧ L.length ≤ 1048576) ∧ DgF m (G i) ∧ szF m (G i) ≤ 1048576) := by
  obtain ⟨y0, n1, hx, _, h0⟩ := trod_struct1 Tryz.underlying38 hf
  simp only [cellsStmtsA] at h0
  match cs, hlc with
  | [c0], _ =>
    simp at h0
    rcases DataW.trod_slice Tryz.underlying36 h0 with ⟨hcs, _⟩ | ⟨a, len, cap, elems, rest, n2, _, hcs, hx0, _, hl, hcap, hel, hat, _, _⟩
    · simp at hcs
      subst hcs
      exact ⟨none, 0, 0, 0, fun _ => 0, fun _ => zeroT, fun _ => [], rfl, ⟨Nat.le_refl _, by omega⟩, fun i hi => absurd hi (Nat.not_lt_zero i), fun i hi => absurd hi (Nat.not_lt_zero i)⟩
    · simp at hcs
      subst hcs
      rw [cellsStmtA] at hat
      have hbb : Rows.uptoBulkAll (elems.map (·.1)) ≤ 1048576 := by
        rw [hx, hx0] at hbk
        simp only [Rows.uptoBulk, Rows.uptoBulkAll] at hbk
        omega
      have hn : len ≤ 1048576 := by
        have := bulkAll_len (elems.map (·.1))
        simp at this
        omega
      have hone : ∀ i (hi : i < len), ∃ (ci : List Value) (k : Int) (t : Tr), W.cells? 0 (a.add (i * 10)) 10 = some ci ∧ (∃ L, StOk W ci k L (n2 / 2) t ∧ L.length ≤ Rows.uptoBulk (elems[i]'(by omega)).1) ∧ DgF (n2 / 2) t ∧ szF (n2 / 2) t ≤ Rows.uptoBulk (elems[i]'(by omega)).1 := by
        intro i hi
        have h := hat i hi
        rw [List.getElem?_eq_getElem (by omega), Option.bind_eq_some_iff] at h
        obtain ⟨ci, hc, ht⟩ := h
        cases n2 with
        | zero => simp [DataW.trod] at ht
        | succ q =>
          obtain ⟨k, t, h1, h2, h3⟩ := open_stmtP ht
          exact ⟨ci, k, t, hc, h1, h2, h3⟩
      obtain ⟨C, hC⟩ : ∃ C : Nat → List Value, ∀ i (hi : i < len), ∃ (k : Int) (t : Tr), W.cells? 0 (a.add (i * 10)) 10 = some (C i) ∧ (∃ L, StOk W (C i) k L (n2 / 2) t ∧ L.length ≤ Rows.uptoBulk (elems[i]'(by omega)).1) ∧ DgF (n2 / 2) t ∧ szF (n2 / 2) t ≤ Rows.uptoBulk (elems[i]'(by omega)).1 :=
        ⟨fun i => if hi : i < len then Classical.choose (hone i hi) else [], fun i hi => by
          dsimp only
          rw [dif_pos hi]
          exact Classical.choose_spec (hone i hi)⟩
      obtain ⟨K, hK⟩ : ∃ K : Nat → Int, ∀ i (hi : i < len), ∃ (t : Tr), W.cells? 0 (a.add (i * 10)) 10 = some (C i) ∧ (∃ L, StOk W (C i) (K i) L (n2 / 2) t ∧ L.length ≤ Rows.uptoBulk (elems[i]'(by omega)).1) ∧ DgF (n2 / 2) t ∧ szF (n2 / 2) t ≤ Rows.uptoBulk (elems[i]'(by omega)).1 :=
        ⟨fun i => if hi : i < len then Classical.choose (hC i hi) else 0, fun i hi => by
          dsimp only
          rw [dif_pos hi]
          exact Classical.choose_spec (hC i hi)⟩
      obtain ⟨G, hG⟩ : ∃ G : Nat → Tr, ∀ i (hi : i < len), W.cells? 0 (a.add (i * 10)) 10 = some (C i) ∧ (∃ L, StOk W (C i) (K i) L (n2 / 2) (G i) ∧ L.length ≤ Rows.uptoBulk (elems[i]'(by omega)).1) ∧ DgF (n2 / 2) (G i) ∧ szF (n2 / 2) (G i) ≤ Rows.uptoBulk (elems[i]'(by omega)).1 :=
        ⟨fun i => if hi : i < len then Classical.choose (hK i hi) else zeroT, fun i hi => by
          dsimp only
          rw [dif_pos hi]
          exact Classical.choose_spec (hK i hi)⟩
      have hcell : ∀ i (hi : i < len), ∃ (b o : Nat), a = ⟨b, o, none⟩ ∧ (C i).length = 10 ∧ ∀ j (hj : j < (C i).length), W.cell? ⟨b, o + i * 10 + j, none⟩ = some (C i)[j] := by
        intro i hi
        obtain ⟨h1, _⟩ := hG i hi
        obtain ⟨_, e2, e3⟩ := World.cells?_some h1
        obtain ⟨h1z, _⟩ := hG 0 (by omega)
        obtain ⟨_, z2, z3⟩ := World.cells?_some h1z
        have hc0 : W.cell? ((a.add (0 * 10)).add 0) = some ((C 0)[0]'(by omega)) := by rw [z3 0 (by omega), List.getElem?_eq_getElem (by omega)]
        have hsp := World.cell?_spot hc0
        obtain ⟨b, o, rfl⟩ : ∃ b o, a = ⟨b, o, none⟩ := ⟨a.block, a.off, by
          cases a with
          | mk b o s => simp [Addr.add] at hsp; simp [hsp]⟩
        refine ⟨b, o, rfl, e2, fun j hj => ?_⟩
        have := e3 j (by omega)
        rw [add_addr, add_addr, List.getElem?_eq_getElem (by omega)] at this
        exact this
      have hboth : ∀ i (hi : i < len), StAt W (some a) i (C i) := by
        intro i hi
        obtain ⟨_, ⟨L, hst, _⟩, _⟩ := hG i hi
        obtain ⟨b, o, rfl, hlen10, hcl⟩ := hcell i hi
        obtain ⟨pn, nn, cn, ce, o9, hce, _, hE⟩ := hst.mem
        obtain ⟨e1, e2, e3, p1, n1, c1, p2, n2', c2, p3, n3, c3, e7, rfl⟩ := hE.shape
        simp only [List.cons_append, List.nil_append] at hce
        rw [hce] at hcl
        have a0 := hcl 0 (by simp); have a1 := hcl 1 (by simp); have a2 := hcl 2 (by simp); have a3 := hcl 3 (by simp); have a4 := hcl 4 (by simp); have a5 := hcl 5 (by simp); have a6 := hcl 6 (by simp); have a7 := hcl 7 (by simp); have a8 := hcl 8 (by simp); have a9 := hcl 9 (by simp)
        simp only [List.getElem_cons_zero, List.getElem_cons_succ, Nat.add_zero] at a0 a1 a2 a3 a4 a5 a6 a7 a8 a9
        exact ⟨b, o, K i, pn, nn, cn, e1, e2, e3, p1, n1, c1, p2, n2', c2, p3, n3, c3, e7, o9, rfl, hce, a0, a1, a2, a3, a4, a5, a6, a7, a8, a9⟩
      have hbk2 : ∀ i (hi : i < len), Rows.uptoBulk (elems[i]'(by omega)).1 ≤ 1048576 := by
        intro i hi
        have h5 := le_sum (l := (elems.map (·.1)).map Rows.uptoBulk) (i := i) (by simp; omega)
        have h6 : ((elems.map (·.1)).map Rows.uptoBulk).sum = Rows.uptoBulkAll (elems.map (·.1)) := by
          generalize elems.map (·.1) = L
          induction L with
          | nil => simp [Rows.uptoBulkAll]
          | cons x r ih => simp only [List.map_cons, List.sum_cons, Rows.uptoBulkAll, ih]
        rw [h6] at h5
        simp at h5
        omega
      refine ⟨some a, len, cap, n2 / 2, K, G, C, rfl, ⟨hl, by unfold maxLen at hcap; omega⟩, fun i hi => hboth i hi, fun i hi => ?_⟩
      obtain ⟨_, ⟨L, h2, h2l⟩, h3, h4⟩ := hG i hi
      have h9 := hbk2 i hi
      exact ⟨⟨L, h2, by omega⟩, h3, by omega⟩
end
end Go.Proofs.YtiaonbofkgkdhaaGreatDoor

set_option linter.unusedVariables false
set_option linter.unusedSimpArgs false
namespace Go.Proofs.YtiaonbofkgkdhaaGreatDoor
open Go.RowKit _root_.Nm Ax Lx
set_option maxHeartbeats 16000000 in
set_option maxRecDepth 100000 in
theorem short_ok : ∀ (m : Nat) (cs : List Value) (t : Tr) (w : World) (b : Bool), ERd w m cs t → (b = true ↔ ShT m t) →
    Calls Tryz.prog 14 #[.agg cs.toArray] w fun e w' => e = .returned (.bool b) ∧ w.grownBy w' none
  | 0, _, _, _, _, h, _ => h.elim
  | m + 1, cs, .node h l, w, b, hE, hb => by
    have IH := hid (short_ok m)
    obtain ⟨e1, e2, e3, p1, n1, c1, p2, n2, c2, p3, n3, c3, e7, rfl⟩ := hE.shape
    obtain ⟨⟨r1, r2, r3, r7⟩, hn, hd, hA, hnm⟩ := ARd.of hE
    obtain ⟨⟨hla, hca, hma⟩, _⟩ := id hA
    have hln := hn.len
    have hld := hd.len
    have hG1 := World.grownBy_alloc w (.cells #[.int .i64 e1, .string e2, .bool e3, .slice p1 n1 c1, .slice p2 n2 c2, .slice p3 n3 c3, .int .i64 e7] 43 (0, 0)) none
    obtain ⟨⟨k0, k1, k2, k3, k4, k5, k6⟩, -⟩ := box7 (blk0 w (.cells #[.int .i64 e1, .string e2, .bool e3, .slice p1 n1 c1, .slice p2 n2 c2, .slice p3 n3 c3, .int .i64 e7] 43 (0, 0)))
    have HB : Hid (b = true ↔ (n1 ≤ 200 ∧ n2 ≤ 200) ∧ ∀ i (hi : i < l.length), ShT m l[i]) := hid (by rw [hb, ← hln, ← hld]; exact Iff.rfl)
    have HA := hid hA
    have HG2 := hid hG1
    have K3 := hid k3
    have K4 := hid k4
    clear hE hA hn hd hb hln hld r1 r2 r3 r7
    go_enter Tryz.func14, Tryz.ntmps14
    go_upto_region 1 with fail
    generalize (w.alloc _) = wa at *
    go_wp2_with fail
    clear hG1 k0 k1 k2 k3 k4 k5 k6
    go_loopw [8] (fun z wr => ∃ k : Nat, k ≤ n3 ∧ z = .int .i64 k ∧ wa.grownBy wr none ∧ ∀ i (hi : i < l.length), i < k → ShT m l[i]) (fun z _ => n3 - (intOf z).toNat)
    case atStart => exact ⟨0, Nat.zero_le _, rfl, grown_refl _ _, fun i _ h => absurd h (Nat.not_lt_zero i)⟩
    case round =>
      obtain ⟨k, hk, rfl, hgr, hall⟩ := hrel
      have HALL := hid hall
      clear hall
      by_cases hlt : k < n3
      · obtain ⟨bA, oA, x1, x2, x3, q1, m1, d1, q2, m2, d2, q3, m3, d3, x7, rfl, hE2, b0, b1, b2, b3, b4, b5, b6⟩ := HA.out.at (i := k) (by omega)
        have hgw := grown_trans HG2.out hgr
        have a0 := hgw.cell b0 (by simp)
        have a1 := hgw.cell b1 (by simp)
        have a2 := hgw.cell b2 (by simp)
        have a3 := hgw.cell b3 (by simp)
        have a4 := hgw.cell b4 (by simp)
        have a5 := hgw.cell b5 (by simp)
        have a6 := hgw.cell b6 (by simp)
        have hG := World.grownBy_alloc wr (.cells #[.int .i64 x1, .string x2, .bool x3, .slice q1 m1 d1, .slice q2 m2 d2, .slice q3 m3 d3, .int .i64 x7] 43 (0, 0)) none
        obtain ⟨⟨j0, j1, j2, j3, j4, j5, j6⟩, -⟩ := box7 (blk0 wr (.cells #[.int .i64 x1, .string x2, .bool x3, .slice q1 m1 d1, .slice q2 m2 d2, .slice q3 m3 d3, .int .i64 x7] 43 (0, 0)))
        obtain ⟨bq, hbq⟩ := ex_bool (ShT m (l[k]'(by omega)))
        have HEk : Hid (Calls Tryz.prog 14 #[.agg #[.int .i64 x1, .string x2, .bool x3, .slice q1 m1 d1, .slice q2 m2 d2, .slice q3 m3 d3, .int .i64 x7]] (wr.alloc (.cells #[.int .i64 x1, .string x2, .bool x3, .slice q1 m1 d1, .slice q2 m2 d2, .slice q3 m3 d3, .int .i64 x7] 43 (0, 0))) fun e w' => e = .returned (.bool bq) ∧ (wr.alloc (.cells #[.int .i64 x1, .string x2, .bool x3, .slice q1 m1 d1, .slice q2 m2 d2, .slice q3 m3 d3, .int .i64 x7] 43 (0, 0))).grownBy w' none) := hid (IH.out _ _ _ bq (hE2.keep (grown_trans hgw hG)) hbq)
        have HQ := hid hbq
        have HGr := hid (grown_trans hgr hG)
        clear hE2 b0 b1 b2 b3 b4 b5 b6 hgr hgw hG hbq
        cases bq
        · have HBF : Hid (b = false) := hid (by
            rw [← Bool.not_eq_true, HB.out]
            intro h9
            have := HQ.out.2 (h9.2 k (by omega))
            cases this)
          go_wp2_with (go_at_call 14; (with_reducible refine HEk.out.mono ?_); rintro e w5 ⟨rfl, hg5⟩)
          go_ret
          exact ⟨congrArg (fun x => Ending.returned (Value.bool x)) HBF.out.symm, grown_trans HG2.out (grown_trans HGr.out hg5)⟩
        · go_wp2_with (go_at_call 14; (with_reducible refine HEk.out.mono ?_); rintro e w5 ⟨rfl, hg5⟩)
          refine ⟨⟨k + 1, by omega, by go_num, grown_trans HGr.out hg5, fun i hi hik => ?_⟩, by simp [intOf]; omega⟩
          rcases Nat.lt_or_eq_of_le (Nat.le_of_lt_succ hik) with h9 | rfl
          · exact HALL.out i hi h9
          · exact HQ.out.1 (by trivial)
      · obtain rfl : k = n3 := by omega
        have k3 := hgr.cell K3.out (by simp)
        have k4 := hgr.cell K4.out (by simp)
        have hgw := grown_trans HG2.out hgr
        clear hgr
        by_cases h1 : n1 ≤ 200
        · have hq1 : (n1 : Int) ≤ 200 := by omega
          by_cases h2 : n2 ≤ 200
          · have hq2 : (n2 : Int) ≤ 200 := by omega
            have HBT : Hid (b = true) := hid (HB.out.2 ⟨⟨h1, h2⟩, fun i hi => HALL.out i hi (by omega)⟩)
            go_wp2_with fail
            go_ret
            exact ⟨by rw [HBT.out]; simp <;> omega, hgw⟩
          · have hq2 : ¬ (n2 : Int) ≤ 200 := by omega
            have HBF : Hid (b = false) := hid (by rw [← Bool.not_eq_true, HB.out]; omega)
            go_wp2_with fail
            go_ret
            exact ⟨by rw [HBF.out]; simp <;> omega, hgw⟩
        · have hq1 : ¬ (n1 : Int) ≤ 200 := by omega
          have HBF : Hid (b = false) := hid (by rw [← Bool.not_eq_true, HB.out]; omega)
          go_wp2_with fail
          go_ret
          exact ⟨by rw [HBF.out]; simp <;> omega, hgw⟩
theorem fresh_wr (w : World) : WPst w.heap.size w.heap.size [] false [] (w.alloc (.cells #[.pointer none, .slice none 0 0, .bool false] 65 (0, 0))) :=
  ⟨[], false, ⟨Nat.le_refl _, none, .slice none 0 0, .inl rfl, heap_alloc_new w _, World.ownsRow_nil _ _ _ _⟩, PW.nil _ _ (.inr (by simp))⟩
theorem below_base {B : Nat} {w0 w w' : World} (hg : w0.grownBy w none) (h : Below B w w') (hB : w0.heap.size ≤ B) : w0.grownBy w' none :=
  ⟨h.os.trans hg.os, h.tape.trans hg.tape, h.output.trans hg.output, Nat.le_trans hg.size h.size, fun k hk hr => (h.block k (by omega)).trans (hg.block k hk hr)⟩
theorem tx_ne {m : Nat} {t : Tr} (h : WfT m t) : txF m t ≠ [] := by
  cases m with
  | zero => exact h.elim
  | succ m =>
  cases t with
  | node h' l =>
  by_cases hk : h'.k = 1
  · rw [txF_name hk]
    intro h9
    have := h.2.1 hk
    rw [h9] at this
    cases this
  · rw [txF_node hk]
    simp
/-- what both functions answer: the text, and the error -/
def anT (X : Int) (T : List UInt8) : List UInt8 := if X = 0 then (if 20000 < T.length then [] else T) else []
def anE (X : Int) (T : List UInt8) : Int := if X = 0 then (if 20000 < T.length then 4 else 0) else X
theorem text_an {B b : Nat} {T : List UInt8} {w : World} (h : WPst B b [] false ([] ++ T) w) (h0 : T ≠ []) :
    Calls Tryz.prog 26 #[.pointer (some ⟨b, 0, none⟩)] w fun e w' => e = .returned (.tuple #[str (anT 0 T), .int .i64 (anE 0 T)]) ∧ Below B w w' := by
  obtain ⟨bs', lg', hw, hp⟩ := h
  rw [List.nil_append] at hp
  have h2 : lg' = false → bs' = T := fun h => by rw [hp.2.1 h, List.nil_append]
  have h3 : (txW bs' lg' : Value) = .tuple #[str (anT 0 T), .int .i64 (anE 0 T)] := by
    have h1 := hp.1
    simp only [List.length_nil, Nat.zero_add] at h1
    unfold txW anT anE
    rw [if_pos rfl, if_pos rfl]
    cases lg' with
    | true =>
      have := (h1.1 rfl).resolve_left (by simp)
      rw [if_pos this, if_pos this]
      rfl
    | false =>
      have h9 : ¬ 20000 < T.length := fun h => by have := h1.2 (.inr h); cases this
      rw [if_neg h9, if_neg h9, h2 rfl]
      rfl
  refine (text_any B b bs' lg' (fun h => by rw [h2 h]; exact h0) w hw).mono ?_
  rintro e w' ⟨rfl, hb⟩
  exact ⟨by rw [h3], hb⟩
/-- the sort that both functions ask for -/
def sortX (k : Int) : Int := if k = 1 then 1 else (srt k : Nat)
/-- the answer of both checks, 8 where there is no such kind -/
def errX (k X : Int) : Int := if sortX k = 0 then 8 else X
set_option maxHeartbeats 32000000 in
set_option maxRecDepth 100000 in
theorem pExpr_n (T : List UInt8) (e1 : Int) (e2 : ByteArray) (e3 : Bool) (p1 : Option Addr) (n1 c1 : Nat) (p2 : Option Addr) (n2 c2 : Nat) (p3 : Option Addr) (n3 c3 : Nat) (e7 : Int) (X : Int) (w : World)
    (hC : ∀ W, w.grownBy W none → Calls Tryz.prog 30 #[.agg #[.int .i64 e1, .string e2, .bool e3, .slice p1 n1 c1, .slice p2 n2 c2, .slice p3 n3 c3, .int .i64 e7], .int .i64 (sortX e1)] W fun e w' => e = .returned (.int .i64 X) ∧ W.grownBy w' none)
    (HX : X = 0 → ∀ (B b : Nat), w.heap.size ≤ B → B ≤ b → ExOk w B b [.int .i64 e1, .string e2, .bool e3, .slice p1 n1 c1, .slice p2 n2 c2, .slice p3 n3 c3, .int .i64 e7] T) (hT0 : X = 0 → T ≠ []) :
    Calls Tryz.prog 15 #[.agg #[.int .i64 e1, .string e2, .bool e3, .slice p1 n1 c1, .slice p2 n2 c2, .slice p3 n3 c3, .int .i64 e7]] w fun e w' => e = .returned (.tuple #[str (anT (errX e1 X) T), .int .i64 (anE (errX e1 X) T)]) ∧ w.grownBy w' none := by
  have hW := World.grownBy_alloc w (.cells #[.int .i64 e1, .string e2, .bool e3, .slice p1 n1 c1, .slice p2 n2 c2, .slice p3 n3 c3, .int .i64 e7] 43 (0, 0)) none
  obtain ⟨⟨k0, k1, k2, k3, k4, k5, k6⟩, -⟩ := box7 (blk0 w (.cells #[.int .i64 e1, .string e2, .bool e3, .slice p1 n1 c1, .slice p2 n2 c2, .slice p3 n3 c3, .int .i64 e7] 43 (0, 0)))
  have HC := hid hC
  have HSO := hid fun w => sort_any e1 w
  clear hC
  by_cases h1 : e1 = 1
  · subst h1
    have hs0 : ¬ sortX 1 = 0 := by decide
    have HS1 : Hid (sortX 1 = 1) := hid (by decide)
    rw [HS1.out] at HC
    generalize srt 1 = s at HSO
    · skip
      by_cases hX : X = 0
      · subst hX
        have HXX := hid (HX rfl)
        have HT0 := hid (hT0 rfl)
        have HRS : Hid (errX 1 0 = 0) := hid (by unfold errX; rw [if_neg hs0])
        rw [HRS.out]
        clear HX hs0
        go_enter Tryz.func15, Tryz.ntmps15
        go_upto_region 1 with fail
        generalize (w.alloc _) = w0 at *
        go_upto_region 6 with (first | (go_at_call 29; (with_reducible refine (HSO.out _).mono ?_); rintro e w1 ⟨rfl, hg⟩; replace hW := grown_trans hW hg; replace k0 := hg.cell k0 (by simp); replace k1 := hg.cell k1 (by simp); replace k2 := hg.cell k2 (by simp); replace k3 := hg.cell k3 (by simp); replace k4 := hg.cell k4 (by simp); replace k5 := hg.cell k5 (by simp); replace k6 := hg.cell k6 (by simp); clear hg))
        go_upto_region 10 with (go_at_call 30; (with_reducible refine (HC.out _ hW).mono ?_); rintro e w1 ⟨rfl, hg⟩; replace hW := grown_trans hW hg; replace k0 := hg.cell k0 (by simp); replace k1 := hg.cell k1 (by simp); replace k2 := hg.cell k2 (by simp); replace k3 := hg.cell k3 (by simp); replace k4 := hg.cell k4 (by simp); replace k5 := hg.cell k5 (by simp); replace k6 := hg.cell k6 (by simp); clear hg)
        have hfr := fresh_wr w1
        have hG2 := World.grownBy_alloc w1 (.cells #[.pointer none, .slice none 0 0, .bool false] 65 (0, 0)) none
        have hs1 := hW.size
        have hW2 := grown_trans hW hG2
        replace k0 := hG2.cell k0 (by simp); replace k1 := hG2.cell k1 (by simp); replace k2 := hG2.cell k2 (by simp); replace k3 := hG2.cell k3 (by simp); replace k4 := hG2.cell k4 (by simp); replace k5 := hG2.cell k5 (by simp); replace k6 := hG2.cell k6 (by simp)
        have HE2 : Hid (Calls Tryz.prog 31 #[.pointer (some ⟨w1.heap.size, 0, none⟩), .agg #[.int .i64 1, .string e2, .bool e3, .slice p1 n1 c1, .slice p2 n2 c2, .slice p3 n3 c3, .int .i64 e7]] (w1.alloc (.cells #[.pointer none, .slice none 0 0, .bool false] 65 (0, 0))) fun e w' => e = .returned (.tuple #[]) ∧ WPst w1.heap.size w1.heap.size [] false ([] ++ T) w' ∧ PK w1.heap.size w1.heap.size (w1.alloc (.cells #[.pointer none, .slice none 0 0, .bool false] 65 (0, 0))) w') := hid (HXX.out _ _ hs1 (Nat.le_refl _) _ [] false [] hW2 (by simp) hfr)
        clear hfr hG2
        go_wp2_with (first | (go_at_call 31; (with_reducible refine HE2.out.mono ?_); rintro e w2 ⟨rfl, hw2, hp2⟩; have hW3 := PK.base hW2 hp2 hs1) | (go_at_call 26; (with_reducible refine (text_an hw2 HT0.out).mono ?_); rintro e w3 ⟨rfl, hb3⟩))
        go_ret2
        exact ⟨rfl, below_base hW3 hb3 hs1⟩
      · have hq8 : (X != 0) = true := by simpa using hX
        have HAN : Hid (anT (errX 1 X) T = [] ∧ anE (errX 1 X) T = X) := hid (by
          unfold errX
          rw [if_neg hs0]
          exact ⟨by unfold anT; rw [if_neg hX], by unfold anE; rw [if_neg hX]⟩)
        clear HX hX hs0
        go_enter Tryz.func15, Tryz.ntmps15
        go_upto_region 1 with fail
        generalize (w.alloc _) = w0 at *
        go_wp2_with (first | (go_at_call 29; (with_reducible refine (HSO.out _).mono ?_); rintro e w1 ⟨rfl, hg⟩; replace hW := grown_trans hW hg; replace k0 := hg.cell k0 (by simp); replace k1 := hg.cell k1 (by simp); replace k2 := hg.cell k2 (by simp); replace k3 := hg.cell k3 (by simp); replace k4 := hg.cell k4 (by simp); replace k5 := hg.cell k5 (by simp); replace k6 := hg.cell k6 (by simp); clear hg) | (go_at_call 30; (with_reducible refine (HC.out _ hW).mono ?_); rintro e w1 ⟨rfl, hg⟩; replace hW := grown_trans hW hg; replace k0 := hg.cell k0 (by simp); replace k1 := hg.cell k1 (by simp); replace k2 := hg.cell k2 (by simp); replace k3 := hg.cell k3 (by simp); replace k4 := hg.cell k4 (by simp); replace k5 := hg.cell k5 (by simp); replace k6 := hg.cell k6 (by simp); clear hg))
        go_ret2
        exact ⟨by rw [HAN.out.1, HAN.out.2]; rfl, hW⟩
  · have hq1 : (e1 == 1) = false := by simpa using h1
    have HS1 : Hid (sortX e1 = (srt e1 : Nat)) := hid (by unfold sortX; rw [if_neg h1])
    rw [HS1.out] at HC
    by_cases hz : srt e1 = 0
    · have HAN : Hid (anT (errX e1 X) T = [] ∧ anE (errX e1 X) T = 8) := hid (by
        have h8 : errX e1 X = 8 := by unfold errX; rw [HS1.out, hz]; rfl
        rw [h8]
        exact ⟨rfl, rfl⟩)
      rw [hz] at HSO
      clear HX h1 hz
      go_enter Tryz.func15, Tryz.ntmps15
      go_upto_region 1 with fail
      generalize (w.alloc _) = w0 at *
      go_wp2_with (first | (go_at_call 29; (with_reducible refine (HSO.out _).mono ?_); rintro e w1 ⟨rfl, hg⟩; replace hW := grown_trans hW hg; replace k0 := hg.cell k0 (by simp); replace k1 := hg.cell k1 (by simp); replace k2 := hg.cell k2 (by simp); replace k3 := hg.cell k3 (by simp); replace k4 := hg.cell k4 (by simp); replace k5 := hg.cell k5 (by simp); replace k6 := hg.cell k6 (by simp); clear hg))
      go_ret2
      exact ⟨by rw [HAN.out.1, HAN.out.2]; rfl, hW⟩
    · have hs0 : ¬ sortX e1 = 0 := by rw [HS1.out]; omega
      generalize srt e1 = s at *
      have hq2 : ((s : Int) == 0) = false := by simp; omega
      clear h1
      by_cases hX : X = 0
      · subst hX
        have HXX := hid (HX rfl)
        have HT0 := hid (hT0 rfl)
        have HRS : Hid (errX e1 0 = 0) := hid (by unfold errX; rw [if_neg hs0])
        rw [HRS.out]
        clear HX hs0
        go_enter Tryz.func15, Tryz.ntmps15
        go_upto_region 1 with fail
        generalize (w.alloc _) = w0 at *
        go_upto_region 6 with (first | (go_at_call 29; (with_reducible refine (HSO.out _).mono ?_); rintro e w1 ⟨rfl, hg⟩; replace hW := grown_trans hW hg; replace k0 := hg.cell k0 (by simp); replace k1 := hg.cell k1 (by simp); replace k2 := hg.cell k2 (by simp); replace k3 := hg.cell k3 (by simp); replace k4 := hg.cell k4 (by simp); replace k5 := hg.cell k5 (by simp); replace k6 := hg.cell k6 (by simp); clear hg))
        go_upto_region 10 with (go_at_call 30; (with_reducible refine (HC.out _ hW).mono ?_); rintro e w1 ⟨rfl, hg⟩; replace hW := grown_trans hW hg; replace k0 := hg.cell k0 (by simp); replace k1 := hg.cell k1 (by simp); replace k2 := hg.cell k2 (by simp); replace k3 := hg.cell k3 (by simp); replace k4 := hg.cell k4 (by simp); replace k5 := hg.cell k5 (by simp); replace k6 := hg.cell k6 (by simp); clear hg)
        have hfr := fresh_wr w1
        have hG2 := World.grownBy_alloc w1 (.cells #[.pointer none, .slice none 0 0, .bool false] 65 (0, 0)) none
        have hs1 := hW.size
        have hW2 := grown_trans hW hG2
        replace k0 := hG2.cell k0 (by simp); replace k1 := hG2.cell k1 (by simp); replace k2 := hG2.cell k2 (by simp); replace k3 := hG2.cell k3 (by simp); replace k4 := hG2.cell k4 (by simp); replace k5 := hG2.cell k5 (by simp); replace k6 := hG2.cell k6 (by simp)
        have HE2 : Hid (Calls Tryz.prog 31 #[.pointer (some ⟨w1.heap.size, 0, none⟩), .agg #[.int .i64 e1, .string e2, .bool e3, .slice p1 n1 c1, .slice p2 n2 c2, .slice p3 n3 c3, .int .i64 e7]] (w1.alloc (.cells #[.pointer none, .slice none 0 0, .bool false] 65 (0, 0))) fun e w' => e = .returned (.tuple #[]) ∧ WPst w1.heap.size w1.heap.size [] false ([] ++ T) w' ∧ PK w1.heap.size w1.heap.size (w1.alloc (.cells #[.pointer none, .slice none 0 0, .bool false] 65 (0, 0))) w') := hid (HXX.out _ _ hs1 (Nat.le_refl _) _ [] false [] hW2 (by simp) hfr)
        clear hfr hG2
        go_wp2_with (first | (go_at_call 31; (with_reducible refine HE2.out.mono ?_); rintro e w2 ⟨rfl, hw2, hp2⟩; have hW3 := PK.base hW2 hp2 hs1) | (go_at_call 26; (with_reducible refine (text_an hw2 HT0.out).mono ?_); rintro e w3 ⟨rfl, hb3⟩))
        go_ret2
        exact ⟨rfl, below_base hW3 hb3 hs1⟩
      · have hq8 : (X != 0) = true := by simpa using hX
        have HAN : Hid (anT (errX e1 X) T = [] ∧ anE (errX e1 X) T = X) := hid (by
          unfold errX
          rw [if_neg hs0]
          exact ⟨by unfold anT; rw [if_neg hX], by unfold anE; rw [if_neg hX]⟩)
        clear HX hX hs0
        go_enter Tryz.func15, Tryz.ntmps15
        go_upto_region 1 with fail
        generalize (w.alloc _) = w0 at *
        go_wp2_with (first | (go_at_call 29; (with_reducible refine (HSO.out _).mono ?_); rintro e w1 ⟨rfl, hg⟩; replace hW := grown_trans hW hg; replace k0 := hg.cell k0 (by simp); replace k1 := hg.cell k1 (by simp); replace k2 := hg.cell k2 (by simp); replace k3 := hg.cell k3 (by simp); replace k4 := hg.cell k4 (by simp); replace k5 := hg.cell k5 (by simp); replace k6 := hg.cell k6 (by simp); clear hg) | (go_at_call 30; (with_reducible refine (HC.out _ hW).mono ?_); rintro e w1 ⟨rfl, hg⟩; replace hW := grown_trans hW hg; replace k0 := hg.cell k0 (by simp); replace k1 := hg.cell k1 (by simp); replace k2 := hg.cell k2 (by simp); replace k3 := hg.cell k3 (by simp); replace k4 := hg.cell k4 (by simp); replace k5 := hg.cell k5 (by simp); replace k6 := hg.cell k6 (by simp); clear hg))
        go_ret2
        exact ⟨by rw [HAN.out.1, HAN.out.2]; rfl, hW⟩
set_option maxHeartbeats 32000000 in
set_option maxRecDepth 100000 in
theorem rExpr_n (T : List UInt8) (e1 : Int) (e2 : ByteArray) (e3 : Bool) (p1 : Option Addr) (n1 c1 : Nat) (p2 : Option Addr) (n2 c2 : Nat) (p3 : Option Addr) (n3 c3 : Nat) (e7 : Int) (X : Int) (w : World)
    (hC : ∀ W, w.grownBy W none → Calls Tryz.prog 33 #[.agg #[.int .i64 e1, .string e2, .bool e3, .slice p1 n1 c1, .slice p2 n2 c2, .slice p3 n3 c3, .int .i64 e7], .int .i64 (sortX e1)] W fun e w' => e = .returned (.int .i64 X) ∧ W.grownBy w' none)
    (HX : X = 0 → ∀ W, w.grownBy W none → Calls Tryz.prog 34 #[.agg #[.int .i64 e1, .string e2, .bool e3, .slice p1 n1 c1, .slice p2 n2 c2, .slice p3 n3 c3, .int .i64 e7]] W fun e w' => e = .returned (str T) ∧ W.grownBy w' none) :
    Calls Tryz.prog 16 #[.agg #[.int .i64 e1, .string e2, .bool e3, .slice p1 n1 c1, .slice p2 n2 c2, .slice p3 n3 c3, .int .i64 e7]] w fun e w' => e = .returned (.tuple #[str (anT (errX e1 X) T), .int .i64 (anE (errX e1 X) T)]) ∧ w.grownBy w' none := by
  have hW := World.grownBy_alloc w (.cells #[.int .i64 e1, .string e2, .bool e3, .slice p1 n1 c1, .slice p2 n2 c2, .slice p3 n3 c3, .int .i64 e7] 43 (0, 0)) none
  obtain ⟨⟨k0, k1, k2, k3, k4, k5, k6⟩, -⟩ := box7 (blk0 w (.cells #[.int .i64 e1, .string e2, .bool e3, .slice p1 n1 c1, .slice p2 n2 c2, .slice p3 n3 c3, .int .i64 e7] 43 (0, 0)))
  have HC := hid hC
  have HSO := hid fun w => rsort_any e1 w
  clear hC
  by_cases h1 : e1 = 1
  · subst h1
    have hs0 : ¬ sortX 1 = 0 := by decide
    have HS1 : Hid (sortX 1 = 1) := hid (by decide)
    rw [HS1.out] at HC
    generalize srt 1 = s at HSO
    · skip
      by_cases hX : X = 0
      · subst hX
        have HXX := hid (HX rfl)
        skip
        have HRS : Hid (errX 1 0 = 0) := hid (by unfold errX; rw [if_neg hs0])
        rw [HRS.out]
        clear HX hs0
        go_enter Tryz.func16, Tryz.ntmps16
        go_upto_region 1 with fail
        generalize (w.alloc _) = w0 at *
        go_upto_region 6 with (first | (go_at_call 32; (with_reducible refine (HSO.out _).mono ?_); rintro e w1 ⟨rfl, hg⟩; replace hW := grown_trans hW hg; replace k0 := hg.cell k0 (by simp); replace k1 := hg.cell k1 (by simp); replace k2 := hg.cell k2 (by simp); replace k3 := hg.cell k3 (by simp); replace k4 := hg.cell k4 (by simp); replace k5 := hg.cell k5 (by simp); replace k6 := hg.cell k6 (by simp); clear hg))
        have htl : ((⟨T.toArray⟩ : ByteArray).size : Int) = (T.length : Int) := by show ((T.toArray.size : Nat) : Int) = _; rw [List.size_toArray]
        by_cases hbig : 20000 < T.length
        · have hq9 : (20000 : Int) < (T.length : Int) := by omega
          have HAN : Hid (anT 0 T = [] ∧ anE 0 T = 4) := hid ⟨by unfold anT; rw [if_pos rfl, if_pos hbig], by unfold anE; rw [if_pos rfl, if_pos hbig]⟩
          clear hbig
          go_wp2_with (first | (go_at_call 33; (with_reducible refine (HC.out _ hW).mono ?_); rintro e w1 ⟨rfl, hg⟩; replace hW := grown_trans hW hg; replace k0 := hg.cell k0 (by simp); replace k1 := hg.cell k1 (by simp); replace k2 := hg.cell k2 (by simp); replace k3 := hg.cell k3 (by simp); replace k4 := hg.cell k4 (by simp); replace k5 := hg.cell k5 (by simp); replace k6 := hg.cell k6 (by simp); clear hg) | (go_at_call 34; (with_reducible refine (HXX.out _ hW).mono ?_); rintro e w1 ⟨rfl, hg⟩; replace hW := grown_trans hW hg; clear hg))
          go_ret2
          exact ⟨by rw [HAN.out.1, HAN.out.2]; rfl, hW⟩
        · have hq9 : ¬ (20000 : Int) < (T.length : Int) := by omega
          have HAN : Hid (anT 0 T = T ∧ anE 0 T = 0) := hid ⟨by unfold anT; rw [if_pos rfl, if_neg hbig], by unfold anE; rw [if_pos rfl, if_neg hbig]⟩
          clear hbig
          go_wp2_with (first | (go_at_call 33; (with_reducible refine (HC.out _ hW).mono ?_); rintro e w1 ⟨rfl, hg⟩; replace hW := grown_trans hW hg; replace k0 := hg.cell k0 (by simp); replace k1 := hg.cell k1 (by simp); replace k2 := hg.cell k2 (by simp); replace k3 := hg.cell k3 (by simp); replace k4 := hg.cell k4 (by simp); replace k5 := hg.cell k5 (by simp); replace k6 := hg.cell k6 (by simp); clear hg) | (go_at_call 34; (with_reducible refine (HXX.out _ hW).mono ?_); rintro e w1 ⟨rfl, hg⟩; replace hW := grown_trans hW hg; clear hg))
          go_ret2
          exact ⟨by rw [HAN.out.1, HAN.out.2]; rfl, hW⟩
      · have hq8 : (X != 0) = true := by simpa using hX
        have HAN : Hid (anT (errX 1 X) T = [] ∧ anE (errX 1 X) T = X) := hid (by
          unfold errX
          rw [if_neg hs0]
          exact ⟨by unfold anT; rw [if_neg hX], by unfold anE; rw [if_neg hX]⟩)
        clear HX hX hs0
        go_enter Tryz.func16, Tryz.ntmps16
        go_upto_region 1 with fail
        generalize (w.alloc _) = w0 at *
        go_wp2_with (first | (go_at_call 32; (with_reducible refine (HSO.out _).mono ?_); rintro e w1 ⟨rfl, hg⟩; replace hW := grown_trans hW hg; replace k0 := hg.cell k0 (by simp); replace k1 := hg.cell k1 (by simp); replace k2 := hg.cell k2 (by simp); replace k3 := hg.cell k3 (by simp); replace k4 := hg.cell k4 (by simp); replace k5 := hg.cell k5 (by simp); replace k6 := hg.cell k6 (by simp); clear hg) | (go_at_call 33; (with_reducible refine (HC.out _ hW).mono ?_); rintro e w1 ⟨rfl, hg⟩; replace hW := grown_trans hW hg; replace k0 := hg.cell k0 (by simp); replace k1 := hg.cell k1 (by simp); replace k2 := hg.cell k2 (by simp); replace k3 := hg.cell k3 (by simp); replace k4 := hg.cell k4 (by simp); replace k5 := hg.cell k5 (by simp); replace k6 := hg.cell k6 (by simp); clear hg))
        go_ret2
        exact ⟨by rw [HAN.out.1, HAN.out.2]; rfl, hW⟩
  · have hq1 : (e1 == 1) = false := by simpa using h1
    have HS1 : Hid (sortX e1 = (srt e1 : Nat)) := hid (by unfold sortX; rw [if_neg h1])
    rw [HS1.out] at HC
    by_cases hz : srt e1 = 0
    · have HAN : Hid (anT (errX e1 X) T = [] ∧ anE (errX e1 X) T = 8) := hid (by
        have h8 : errX e1 X = 8 := by unfold errX; rw [HS1.out, hz]; rfl
        rw [h8]
        exact ⟨rfl, rfl⟩)
      rw [hz] at HSO
      clear HX h1 hz
      go_enter Tryz.func16, Tryz.ntmps16
      go_upto_region 1 with fail
      generalize (w.alloc _) = w0 at *
      go_wp2_with (first | (go_at_call 32; (with_reducible refine (HSO.out _).mono ?_); rintro e w1 ⟨rfl, hg⟩; replace hW := grown_trans hW hg; replace k0 := hg.cell k0 (by simp); replace k1 := hg.cell k1 (by simp); replace k2 := hg.cell k2 (by simp); replace k3 := hg.cell k3 (by simp); replace k4 := hg.cell k4 (by simp); replace k5 := hg.cell k5 (by simp); replace k6 := hg.cell k6 (by simp); clear hg))
      go_ret2
      exact ⟨by rw [HAN.out.1, HAN.out.2]; rfl, hW⟩
    · have hs0 : ¬ sortX e1 = 0 := by rw [HS1.out]; omega
      generalize srt e1 = s at *
      have hq2 : ((s : Int) == 0) = false := by simp; omega
      clear h1
      by_cases hX : X = 0
      · subst hX
        have HXX := hid (HX rfl)
        skip
        have HRS : Hid (errX e1 0 = 0) := hid (by unfold errX; rw [if_neg hs0])
        rw [HRS.out]
        clear HX hs0
        go_enter Tryz.func16, Tryz.ntmps16
        go_upto_region 1 with fail
        generalize (w.alloc _) = w0 at *
        go_upto_region 6 with (first | (go_at_call 32; (with_reducible refine (HSO.out _).mono ?_); rintro e w1 ⟨rfl, hg⟩; replace hW := grown_trans hW hg; replace k0 := hg.cell k0 (by simp); replace k1 := hg.cell k1 (by simp); replace k2 := hg.cell k2 (by simp); replace k3 := hg.cell k3 (by simp); replace k4 := hg.cell k4 (by simp); replace k5 := hg.cell k5 (by simp); replace k6 := hg.cell k6 (by simp); clear hg))
        have htl : ((⟨T.toArray⟩ : ByteArray).size : Int) = (T.length : Int) := by show ((T.toArray.size : Nat) : Int) = _; rw [List.size_toArray]
        by_cases hbig : 20000 < T.length
        · have hq9 : (20000 : Int) < (T.length : Int) := by omega
          have HAN : Hid (anT 0 T = [] ∧ anE 0 T = 4) := hid ⟨by unfold anT; rw [if_pos rfl, if_pos hbig], by unfold anE; rw [if_pos rfl, if_pos hbig]⟩
          clear hbig
          go_wp2_with (first | (go_at_call 33; (with_reducible refine (HC.out _ hW).mono ?_); rintro e w1 ⟨rfl, hg⟩; replace hW := grown_trans hW hg; replace k0 := hg.cell k0 (by simp); replace k1 := hg.cell k1 (by simp); replace k2 := hg.cell k2 (by simp); replace k3 := hg.cell k3 (by simp); replace k4 := hg.cell k4 (by simp); replace k5 := hg.cell k5 (by simp); replace k6 := hg.cell k6 (by simp); clear hg) | (go_at_call 34; (with_reducible refine (HXX.out _ hW).mono ?_); rintro e w1 ⟨rfl, hg⟩; replace hW := grown_trans hW hg; clear hg))
          go_ret2
          exact ⟨by rw [HAN.out.1, HAN.out.2]; rfl, hW⟩
        · have hq9 : ¬ (20000 : Int) < (T.length : Int) := by omega
          have HAN : Hid (anT 0 T = T ∧ anE 0 T = 0) := hid ⟨by unfold anT; rw [if_pos rfl, if_neg hbig], by unfold anE; rw [if_pos rfl, if_neg hbig]⟩
          clear hbig
          go_wp2_with (first | (go_at_call 33; (with_reducible refine (HC.out _ hW).mono ?_); rintro e w1 ⟨rfl, hg⟩; replace hW := grown_trans hW hg; replace k0 := hg.cell k0 (by simp); replace k1 := hg.cell k1 (by simp); replace k2 := hg.cell k2 (by simp); replace k3 := hg.cell k3 (by simp); replace k4 := hg.cell k4 (by simp); replace k5 := hg.cell k5 (by simp); replace k6 := hg.cell k6 (by simp); clear hg) | (go_at_call 34; (with_reducible refine (HXX.out _ hW).mono ?_); rintro e w1 ⟨rfl, hg⟩; replace hW := grown_trans hW hg; clear hg))
          go_ret2
          exact ⟨by rw [HAN.out.1, HAN.out.2]; rfl, hW⟩
      · have hq8 : (X != 0) = true := by simpa using hX
        have HAN : Hid (anT (errX e1 X) T = [] ∧ anE (errX e1 X) T = X) := hid (by
          unfold errX
          rw [if_neg hs0]
          exact ⟨by unfold anT; rw [if_neg hX], by unfold anE; rw [if_neg hX]⟩)
        clear HX hX hs0
        go_enter Tryz.func16, Tryz.ntmps16
        go_upto_region 1 with fail
        generalize (w.alloc _) = w0 at *
        go_wp2_with (first | (go_at_call 32; (with_reducible refine (HSO.out _).mono ?_); rintro e w1 ⟨rfl, hg⟩; replace hW := grown_trans hW hg; replace k0 := hg.cell k0 (by simp); replace k1 := hg.cell k1 (by simp); replace k2 := hg.cell k2 (by simp); replace k3 := hg.cell k3 (by simp); replace k4 := hg.cell k4 (by simp); replace k5 := hg.cell k5 (by simp); replace k6 := hg.cell k6 (by simp); clear hg) | (go_at_call 33; (with_reducible refine (HC.out _ hW).mono ?_); rintro e w1 ⟨rfl, hg⟩; replace hW := grown_trans hW hg; replace k0 := hg.cell k0 (by simp); replace k1 := hg.cell k1 (by simp); replace k2 := hg.cell k2 (by simp); replace k3 := hg.cell k3 (by simp); replace k4 := hg.cell k4 (by simp); replace k5 := hg.cell k5 (by simp); replace k6 := hg.cell k6 (by simp); clear hg))
        go_ret2
        exact ⟨by rw [HAN.out.1, HAN.out.2]; rfl, hW⟩
end Go.Proofs.YtiaonbofkgkdhaaGreatDoor

set_option linter.unusedVariables false
set_option linter.unusedSimpArgs false
namespace Go.Proofs.YtiaonbofkgkdhaaGreatDoor
open Go.RowKit _root_.Nm Ax Lx
/-- whatever the writer holds, the statement's text comes behind it -/
def StmtOk (W0 : World) (B b : Nat) (cs : List Value) (T : List UInt8) : Prop := ∀ (w : World) (bs : List UInt8) (lg : Bool) (acc : List UInt8), W0.grownBy w none → B ≤ w.heap.size → WPst B b bs lg acc w →
    Calls Tryz.prog 25 #[.pointer (some ⟨b, 0, none⟩), .agg cs.toArray] w fun e w' => e = .returned (.tuple #[]) ∧ WPst B b bs lg (acc ++ T) w' ∧ PK B b w w'
/-- both checks answer X; where it is 0 both sides write the text T -/
structure StP (w : World) (cs : List Value) (X : Int) (T : List UInt8) : Prop where
  chk : ∀ W, w.grownBy W none → Calls Tryz.prog 54 #[.agg cs.toArray] W fun e w' => e = .returned (.int .i64 X) ∧ W.grownBy w' none
  rchk : ∀ W, w.grownBy W none → Calls Tryz.prog 57 #[.agg cs.toArray] W fun e w' => e = .returned (.int .i64 X) ∧ W.grownBy w' none
  wr : X = 0 → ∀ W, w.grownBy W none → ∀ B b, W.heap.size ≤ B → B ≤ b → StmtOk W B b cs (T ++ [59, 10])
  rd : X = 0 → ∀ W, w.grownBy W none → Calls Tryz.prog 28 #[.agg cs.toArray] W fun e w' => e = .returned (str T) ∧ W.grownBy w' none
  len : X = 0 → T.length ≤ 2000000000000
theorem lnF_len {k : Int} {L : List ByteArray} {T : List UInt8} (hL : ∀ i (hi : i < L.length), (L[i]).size ≤ 1048576) (hn : L.length ≤ 1048576) (hT : T.length ≤ 4000000000) : (lnF k L T).length ≤ 2000000000000 := by
  have h1 : Lib.lens (namesB L) ≤ 1048576 * (namesB L).length := lens_le (fun x hx => by
    obtain ⟨d, hd, rfl⟩ := List.mem_map.1 hx
    obtain ⟨i, hi, rfl⟩ := List.getElem_of_mem hd
    rw [Array.length_toList]
    exact hL i hi)
  have h2 := jn_len (namesB L)
  have h3 : (namesB L).length = L.length := by simp [namesB]
  have h4 : (nm0 L).length ≤ 1048576 := by
    unfold nm0
    rw [Array.length_toList]
    cases L with
    | nil => simp
    | cons x r => exact hL 0 (by simp)
  have h5 : asg.length = 4 := rfl
  unfold lnF
  split
  · simp only [List.length_append, List.length_cons, List.length_nil]; omega
  split
  · simp only [List.length_append, List.length_cons, List.length_nil]; omega
  split
  · simp only [List.length_append, List.length_cons, List.length_nil]; omega
  split
  · simp only [List.length_append, List.length_cons, List.length_nil]; omega
  · simp only [List.length_append]; omega
theorem stmt_pack (cs : List Value) (k : Int) (L : List ByteArray) (m : Nat) (t : Tr) (w : World) (Tq : Tb w) (TP : Tp w) (hS : StOk w cs k L m t) (hLl : L.length ≤ 1048576) (hD : DgF m t) (hSh : ShT m t) (hsz : szF m t ≤ 1048576) :
    ∃ (X : Int), StP w cs X (lnF k L (txF m t)) ∧ (X = 0 → StR k L m t) := by
  obtain ⟨X, hX0, h1, h2⟩ := stmt_bothW cs k L m t w Tq hS hD hsz
  obtain ⟨⟨pn, nn, cn, ce, o9, rfl, hL, hE⟩, hN⟩ := hS
  obtain ⟨e1, e2, e3, p1, n1, c1, p2, n2, c2, p3, n3, c3, e7, rfl⟩ := hE.shape
  have hl := hL.len
  have hNs : X = 0 → ∀ i (hi : i < L.length), (L[i]).size ≤ 1048576 := fun h0 i hi => by
    have := (isNm_len ((hX0 h0).2.2.1 i hi)).1
    rw [Array.length_toList] at this
    exact Nat.le_trans this (by decide)
  have hone : X = 0 → k ≠ 1 → k ≠ 5 → 0 < nn := fun h0 g1 g5 => by
    have := (hX0 h0).2.1
    unfold cntS at this
    rw [if_neg g1, if_neg g5] at this
    have := of_decide_eq_true this
    omega
  have hT : X = 0 → k ≠ 1 → WfT m t := fun h0 g1 => ((hX0 h0).2.2.2.2 g1).2
  have htl : (txF m t).length ≤ 4000000000 ∨ k = 1 ∨ X ≠ 0 := by
    by_cases h0 : X = 0
    · by_cases g1 : k = 1
      · exact .inr (.inl g1)
      · have := tx_len m t (hT h0 g1) hD hSh
        exact .inl (by omega)
    · exact .inr (.inr h0)
  -- for StPoints the expression's text plays no part
  have hpt : ∀ T, k = 1 → lnF k L (txF m t) = lnF k L T := fun T g => by subst g; rfl
  refine ⟨X, ⟨h1, h2, fun h0 W hW B b hB hb => ?_, fun h0 W hW => ?_, fun h0 => ?_⟩, hX0⟩
  · intro w' bs lg acc g1 g2 g3
    exact stmt_ok W B b hB k pn nn cn e1 e2 e3 p1 n1 c1 p2 n2 c2 p3 n3 c3 e7 o9 L (txF m t) ⟨hL.keep hW, hNs h0, hone h0, fun gk => expr_ok m _ t W B b (Tq.keep hW) (tp_keep TP hW) (hE.keep hW) (hT h0 gk) hD hSh hsz hB hb⟩ w' bs lg acc g1 g2 g3
  · have hkk := (hX0 h0).1
    by_cases g1 : k = 1
    · rw [hpt [] g1]
      exact rline_any k pn nn cn e1 e2 e3 p1 n1 c1 p2 n2 c2 p3 n3 c3 e7 o9 L [] W hkk (hL.keep hW) (by omega) (hNs h0) (hone h0) (fun gk => absurd g1 gk) (by simp)
    · exact rline_any k pn nn cn e1 e2 e3 p1 n1 c1 p2 n2 c2 p3 n3 c3 e7 o9 L (txF m t) W hkk (hL.keep hW) (by omega) (hNs h0) (hone h0) (fun gk W' hW' => rtext_ok m _ t W' (hE.keep (grown_trans hW hW')) (hT h0 gk) hD hSh hsz) (by
        rcases htl with h | h | h
        · exact h
        · exact absurd h g1
        · exact absurd h0 h)
  · by_cases g1 : k = 1
    · rw [hpt [] g1]
      exact lnF_len (hNs h0) hLl (by simp)
    · exact lnF_len (hNs h0) hLl (by
        rcases htl with h | h | h
        · exact h
        · exact absurd h g1
        · exact absurd h0 h)
set_option maxHeartbeats 32000000 in
set_option maxRecDepth 100000 in
theorem small_ok (p : Option Addr) (n c m : Nat) (K : Nat → Int) (G : Nat → Tr) (C : Nat → List Value) (sm : Bool) (w : World) (hc : n ≤ c ∧ c ≤ 9223372036854775807) (hC : ∀ i, i < n → StAt w p i (C i))
    (hG : ∀ i, i < n → ∃ L, StOk w (C i) (K i) L m (G i)) (hsm : sm = true ↔ (∀ i, i < n → (cntF m (G i) : Int) ≤ 300 ∧ ShT m (G i)) ∧ n ≤ 60) :
    Calls Tryz.prog 10 #[.agg #[.slice p n c]] w fun e w' => e = .returned (.bool sm) ∧ w.grownBy w' none := by
  obtain ⟨hnc, hcm⟩ := hc
  have hG1 := World.grownBy_alloc w (.cells #[.slice p n c] 38 (0, 0)) none
  have hbx := blk0 w (.cells #[.slice p n c] 38 (0, 0))
  have k0 : (w.alloc (.cells #[.slice p n c] 38 (0, 0))).cell? ⟨w.heap.size, 0, none⟩ = some (.slice p n c) := by simp
  have HC := hid hC
  have HGG := hid hG
  have HSM := hid hsm
  have HG1 := hid hG1
  have K0 := hid k0
  clear hC hG hsm hbx
  go_enter Tryz.func10, Tryz.ntmps10
  go_upto_region 1 with fail
  generalize (w.alloc _) = wa at *
  go_wp2_with fail
  clear hG1 k0
  go_loopw [8] (fun z wr => ∃ i : Nat, i ≤ n ∧ z = .int .i64 i ∧ wa.grownBy wr none ∧ ∀ i', i' < i → (cntF m (G i') : Int) ≤ 300 ∧ ShT m (G i')) (fun z _ => n - (intOf z).toNat)
  case atStart => exact ⟨0, Nat.zero_le _, rfl, grown_refl _ _, fun i' h => absurd h (Nat.not_lt_zero i')⟩
  case round =>
    obtain ⟨i, hi, rfl, hgr, hall⟩ := hrel
    have HALL := hid hall
    clear hall
    by_cases hlt : i < n
    · have hgw := grown_trans HG1.out hgr
      obtain ⟨L, hSt⟩ := HGG.out i hlt
      obtain ⟨bA, oA, k, pn, nn, cn, x1, x2, x3, q1, m1, d1, q2, m2, d2, q3, m3, d3, x7, o9, rfl, hce, b0, b1, b2, b3, b4, b5, b6, b7, b8, b9⟩ := HC.out i hlt
      obtain ⟨⟨pn', nn', cn', ce, o9', hce', hL, hE⟩, hN⟩ := hSt
      rw [hce] at hce'
      obtain ⟨y1, y2, y3, z1, z2, z3, z4, z5, z6, z7, z8, z9, z10, hshape⟩ := hE.shape
      subst hshape
      simp only [List.cons_append, List.nil_append, List.cons.injEq, Value.int.injEq, true_and, Value.string.injEq, Value.bool.injEq, Value.slice.injEq, and_true] at hce'
      obtain ⟨-, -, rfl, rfl, rfl, ⟨rfl, rfl, rfl⟩, ⟨rfl, rfl, rfl⟩, ⟨rfl, rfl, rfl⟩, rfl, -⟩ := hce'
      have a0 := hgw.cell b0 (by simp)
      have a1 := hgw.cell b1 (by simp)
      have a2 := hgw.cell b2 (by simp)
      have a3 := hgw.cell b3 (by simp)
      have a4 := hgw.cell b4 (by simp)
      have a5 := hgw.cell b5 (by simp)
      have a6 := hgw.cell b6 (by simp)
      have a7 := hgw.cell b7 (by simp)
      have a8 := hgw.cell b8 (by simp)
      have a9 := hgw.cell b9 (by simp)
      have hGa := World.grownBy_alloc wr (.cells #[.int .i64 k, .slice pn nn cn, .int .i64 x1, .string x2, .bool x3, .slice q1 m1 d1, .slice q2 m2 d2, .slice q3 m3 d3, .int .i64 x7, .int .i64 o9] 49 (0, 0)) none
      obtain ⟨⟨j0, j1, j2, j3, j4, j5, j6, j7, j8, j9⟩, -⟩ := box10' (blk0 wr (.cells #[.int .i64 k, .slice pn nn cn, .int .i64 x1, .string x2, .bool x3, .slice q1 m1 d1, .slice q2 m2 d2, .slice q3 m3 d3, .int .i64 x7, .int .i64 o9] 49 (0, 0)))
      have HCO := hid fun W (hW : w.grownBy W none) => count_e m _ (G i) W (hE.keep hW)
      obtain ⟨bq, hbq⟩ := ex_bool (ShT m (G i))
      have HSH : Hid (∀ W, w.grownBy W none → Calls Tryz.prog 14 #[.agg #[.int .i64 x1, .string x2, .bool x3, .slice q1 m1 d1, .slice q2 m2 d2, .slice q3 m3 d3, .int .i64 x7]] W fun e w' => e = .returned (.bool bq) ∧ W.grownBy w' none) := hid (fun W hW => short_ok m _ (G i) W bq (hE.keep hW) hbq)
      obtain ⟨z, hz⟩ : ∃ z : Int, z = cntF m (G i) := ⟨_, rfl⟩
      have HCO2 : Hid (∀ W, w.grownBy W none → Calls Tryz.prog 13 #[.agg #[.int .i64 x1, .string x2, .bool x3, .slice q1 m1 d1, .slice q2 m2 d2, .slice q3 m3 d3, .int .i64 x7]] W fun e w' => e = .returned (.int .i64 z) ∧ W.grownBy w' none) := hid (fun W hW => by rw [hz]; exact HCO.out W hW)
      have HQ := hid hbq
      have HZ := hid hz
      have hga := grown_trans hgr hGa
      have hgwa := grown_trans hgw hGa
      clear hE hL hN b0 b1 b2 b3 b4 b5 b6 b7 b8 b9 hgr hgw hbq hz hGa HCO hce
      by_cases h3 : 300 < z
      · have HBF : Hid (sm = false) := hid (by
          rw [← Bool.not_eq_true, HSM.out]
          intro h9
          have := (h9.1 i hlt).1
          rw [← HZ.out] at this
          omega)
        go_wp2_with (go_at_call 13; (with_reducible refine (HCO2.out _ hgwa).mono ?_); rintro e w2 ⟨rfl, hg⟩; replace hga := grown_trans hga hg; replace hgwa := grown_trans hgwa hg; replace j0 := hg.cell j0 (by simp); replace j1 := hg.cell j1 (by simp); replace j2 := hg.cell j2 (by simp); replace j3 := hg.cell j3 (by simp); replace j4 := hg.cell j4 (by simp); replace j5 := hg.cell j5 (by simp); replace j6 := hg.cell j6 (by simp); replace j7 := hg.cell j7 (by simp); replace j8 := hg.cell j8 (by simp); replace j9 := hg.cell j9 (by simp); clear hg)
        go_ret
        exact ⟨congrArg (fun x => Ending.returned (Value.bool x)) HBF.out.symm, hgwa⟩
      cases bq
      · have HBF : Hid (sm = false) := hid (by
          rw [← Bool.not_eq_true, HSM.out]
          intro h9
          have := HQ.out.2 (h9.1 i hlt).2
          cases this)
        go_wp2_with (first | (go_at_call 13; (with_reducible refine (HCO2.out _ hgwa).mono ?_); rintro e w2 ⟨rfl, hg⟩; replace hga := grown_trans hga hg; replace hgwa := grown_trans hgwa hg; replace j0 := hg.cell j0 (by simp); replace j1 := hg.cell j1 (by simp); replace j2 := hg.cell j2 (by simp); replace j3 := hg.cell j3 (by simp); replace j4 := hg.cell j4 (by simp); replace j5 := hg.cell j5 (by simp); replace j6 := hg.cell j6 (by simp); replace j7 := hg.cell j7 (by simp); replace j8 := hg.cell j8 (by simp); replace j9 := hg.cell j9 (by simp); clear hg) | (go_at_call 14; (with_reducible refine (HSH.out _ hgwa).mono ?_); rintro e w2 ⟨rfl, hg⟩; replace hga := grown_trans hga hg; replace hgwa := grown_trans hgwa hg; clear hg))
        go_ret
        exact ⟨congrArg (fun x => Ending.returned (Value.bool x)) HBF.out.symm, hgwa⟩
      · go_wp2_with (first | (go_at_call 13; (with_reducible refine (HCO2.out _ hgwa).mono ?_); rintro e w2 ⟨rfl, hg⟩; replace hga := grown_trans hga hg; replace hgwa := grown_trans hgwa hg; replace j0 := hg.cell j0 (by simp); replace j1 := hg.cell j1 (by simp); replace j2 := hg.cell j2 (by simp); replace j3 := hg.cell j3 (by simp); replace j4 := hg.cell j4 (by simp); replace j5 := hg.cell j5 (by simp); replace j6 := hg.cell j6 (by simp); replace j7 := hg.cell j7 (by simp); replace j8 := hg.cell j8 (by simp); replace j9 := hg.cell j9 (by simp); clear hg) | (go_at_call 14; (with_reducible refine (HSH.out _ hgwa).mono ?_); rintro e w2 ⟨rfl, hg⟩; replace hga := grown_trans hga hg; replace hgwa := grown_trans hgwa hg; clear hg))
        refine ⟨⟨i + 1, by omega, by go_num, hga, fun i' hik => ?_⟩, by simp [intOf]; omega⟩
        rcases Nat.lt_or_eq_of_le (Nat.le_of_lt_succ hik) with h9 | rfl
        · exact HALL.out i' h9
        · exact ⟨by rw [← HZ.out]; omega, HQ.out.1 (by trivial)⟩
    · obtain rfl : i = n := by omega
      have k0 := hgr.cell K0.out (by simp)
      have hgw := grown_trans HG1.out hgr
      by_cases h60 : i ≤ 60
      · have hq : (i : Int) ≤ 60 := by omega
        have HBT : Hid (sm = true) := hid (HSM.out.2 ⟨fun i' h => HALL.out i' h, h60⟩)
        clear hgr h60
        go_wp2_with fail
        go_ret
        exact ⟨by rw [HBT.out]; simp <;> omega, hgw⟩
      · have hq : ¬ (i : Int) ≤ 60 := by omega
        have HBF : Hid (sm = false) := hid (by rw [← Bool.not_eq_true, HSM.out]; exact fun h => h60 h.2)
        clear hgr h60
        go_wp2_with fail
        go_ret
        exact ⟨by rw [HBF.out]; simp <;> omega, hgw⟩
end Go.Proofs.YtiaonbofkgkdhaaGreatDoor

set_option linter.unusedVariables false
set_option linter.unusedSimpArgs false
namespace Go.Proofs.YtiaonbofkgkdhaaGreatDoor
open Go.RowKit _root_.Nm Ax Lx
theorem prNe : 38 ≠ 5 := by decide
/-- the text of the first statements -/
def PT (T : Nat → List UInt8) : Nat → List UInt8
  | 0 => []
  | k + 1 => PT T k ++ (T k ++ [59, 10])
theorem PT_ne {T : Nat → List UInt8} : ∀ {n : Nat}, 0 < n → PT T n ≠ []
  | 0, h => absurd h (Nat.lt_irrefl 0)
  | n + 1, _ => by simp [PT]
theorem scanP_zero {X : Nat → Int} {n : Nat} : ∀ (k : Nat), k ≤ n → (scanP X k (n - k)).2 = 0 → ∀ i, k ≤ i → i < n → X i = 0 := by
  intro k hk
  obtain ⟨d, rfl⟩ : ∃ d, n = k + d := ⟨n - k, by omega⟩
  clear hk
  induction d generalizing k with
  | zero => intro _ i h1 h2; omega
  | succ d ih =>
    intro h i h1 h2
    rw [scanP_step (by omega)] at h
    by_cases h0 : X k = 0
    · rw [if_pos h0] at h
      by_cases hi : i = k
      · rw [hi]; exact h0
      · have := ih (k + 1) (by rw [show k + 1 + d = k + (d + 1) by omega]; exact h) i (by omega) (by omega)
        exact this
    · rw [if_neg h0] at h
      exact absurd h h0
set_option maxHeartbeats 32000000 in
set_option maxRecDepth 100000 in
theorem pProgram_n (p : Option Addr) (n c : Nat) (C : Nat → List Value) (X : Nat → Int) (T : Nat → List UInt8) (w : World) (hc : n ≤ c ∧ c ≤ 9223372036854775807) (hC : ∀ i, i < n → StAt w p i (C i)) (hS : ∀ i, i < n → StP w (C i) (X i) (T i)) (r : Int × Int) (hr : scanP X 0 n = r) :
    Calls Tryz.prog 11 #[.agg #[.slice p n c]] w fun e w' => e = .returned (.tuple #[str (anT r.2 (PT T n)), .int .i64 (anE r.2 (PT T n))]) ∧ w.grownBy w' none := by
  obtain ⟨hnc, hcm⟩ := id hc
  have hW := World.grownBy_alloc w (.cells #[.slice p n c] 38 (0, 0)) none
  have k0 : (w.alloc (.cells #[.slice p n c] 38 (0, 0))).cell? ⟨w.heap.size, 0, none⟩ = some (.slice p n c) := by simp
  have HCP := hid fun W (hW : w.grownBy W none) => checkProgram_n p n c C X W hc (fun i hi => (hC i hi).keep hW) (fun i hi W' hW' => (hS i hi).chk W' (grown_trans hW hW')) r hr
  have HC := hid hC
  have HS := hid hS
  have HX0 : Hid (r.2 = 0 → ∀ i, i < n → X i = 0) := hid (fun h0 i hi => scanP_zero (n := n) 0 (Nat.zero_le _) (by rw [Nat.sub_zero, hr]; exact h0) i (Nat.zero_le _) hi)
  obtain ⟨r1, r2⟩ := r
  simp only at HCP HX0 ⊢
  clear hC hS hr hc
  by_cases hX : r2 = 0
  rotate_left
  · have hq : (r2 != 0) = true := by simpa using hX
    have HAN : Hid (anT r2 (PT T n) = [] ∧ anE r2 (PT T n) = r2) := hid ⟨by unfold anT; rw [if_neg hX], by unfold anE; rw [if_neg hX]⟩
    clear hX
    go_enter Tryz.func11, Tryz.ntmps11
    go_upto_region 1 with fail
    generalize (w.alloc _) = w0 at *
    go_wp2_with (go_at_call 24; (with_reducible refine (HCP.out _ hW).mono ?_); rintro e w1 ⟨rfl, hg⟩; replace hW := grown_trans hW hg; clear hg)
    go_ret2
    exact ⟨by rw [HAN.out.1, HAN.out.2]; rfl, hW⟩
  · subst hX
    have HXZ := hid (HX0.out rfl)
    go_enter Tryz.func11, Tryz.ntmps11
    go_upto_region 1 with fail
    generalize (w.alloc _) = w0 at *
    go_upto_region 5 with (go_at_call 24; (with_reducible refine (HCP.out _ hW).mono ?_); rintro e w1 ⟨rfl, hg⟩; replace hW := grown_trans hW hg; replace k0 := hg.cell k0 (by simp); clear hg)
    have hs1 := hW.size
    have hG2 := World.grownBy_alloc w1 (.cells #[.pointer none, .slice none 0 0, .bool false] 65 (0, 0)) none
    have hfr := fresh_wr w1
    have hfb := heap_alloc_new w1 (.cells #[.pointer none, .slice none 0 0, .bool false] 65 (0, 0))
    have hW2 := grown_trans hW hG2
    replace k0 := hG2.cell k0 (by simp)
    have HFR := hid hfr
    have HFB := hid hfb
    have HSO : Hid (∀ i, i < n → StmtOk w w1.heap.size w1.heap.size (C i) (T i ++ [59, 10])) := hid (fun i hi => (HS.out i hi).wr (HXZ.out i hi) w (grown_refl _ _) _ _ hs1 (Nat.le_refl _))
    obtain ⟨B, hB⟩ : ∃ B, B = w1.heap.size := ⟨_, rfl⟩
    have hz2 : B < (w1.alloc (.cells #[.pointer none, .slice none 0 0, .bool false] 65 (0, 0))).heap.size := by rw [hB]; simp
    rw [← hB] at HSO HFR HFB
    have hBs : w.heap.size ≤ B := by rw [hB]; exact hs1
    clear hfr hfb hG2 hs1 HX0
    go_wp2_with fail
    rw [← hB]
    generalize (w1.alloc _) = w2 at *
    clear k0 hB
    go_loopw [20] (fun z wr => ∃ i : Nat, i ≤ n ∧ z = .int .i64 i ∧ w.grownBy wr none ∧ B < wr.heap.size ∧ WPst B B [] false (PT T i) wr ∧ (i = 0 → wr.heap[B]? = some (.cells #[.pointer none, .slice none 0 0, .bool false] 65 (0, 0)))) (fun z _ => n - (intOf z).toNat)
    case atStart => exact ⟨0, Nat.zero_le _, rfl, hW2, hz2, HFR.out, fun _ => HFB.out⟩
    case round =>
      obtain ⟨i, hi, rfl, hgr, hzr, hIr, hfz⟩ := hrel
      by_cases hlt : i < n
      · obtain ⟨bA, oA, k, pn, nn, cn, x1, x2, x3, q1, m1, d1, q2, m2, d2, q3, m3, d3, x7, o9, rfl, hce, b0, b1, b2, b3, b4, b5, b6, b7, b8, b9⟩ := HC.out i hlt
        have a0 := hgr.cell b0 (by simp)
        have a1 := hgr.cell b1 (by simp)
        have a2 := hgr.cell b2 (by simp)
        have a3 := hgr.cell b3 (by simp)
        have a4 := hgr.cell b4 (by simp)
        have a5 := hgr.cell b5 (by simp)
        have a6 := hgr.cell b6 (by simp)
        have a7 := hgr.cell b7 (by simp)
        have a8 := hgr.cell b8 (by simp)
        have a9 := hgr.cell b9 (by simp)
        have hGa := World.grownBy_alloc wr (.cells #[.int .i64 k, .slice pn nn cn, .int .i64 x1, .string x2, .bool x3, .slice q1 m1 d1, .slice q2 m2 d2, .slice q3 m3 d3, .int .i64 x7, .int .i64 o9] 49 (0, 0)) none
        obtain ⟨⟨j0, j1, j2, j3, j4, j5, j6, j7, j8, j9⟩, -⟩ := box10' (blk0 wr (.cells #[.int .i64 k, .slice pn nn cn, .int .i64 x1, .string x2, .bool x3, .slice q1 m1 d1, .slice q2 m2 d2, .slice q3 m3 d3, .int .i64 x7, .int .i64 o9] 49 (0, 0)))
        have HST : Hid (∀ (W : World) (acc' : List UInt8), w.grownBy W none → B ≤ W.heap.size → WPst B B [] false acc' W → Calls Tryz.prog 25 #[.pointer (some ⟨B, 0, none⟩), .agg #[.int .i64 k, .slice pn nn cn, .int .i64 x1, .string x2, .bool x3, .slice q1 m1 d1, .slice q2 m2 d2, .slice q3 m3 d3, .int .i64 x7, .int .i64 o9]] W fun e w' => e = .returned (.tuple #[]) ∧ WPst B B [] false (acc' ++ (T i ++ [59, 10])) w' ∧ PK B B W w') := hid (fun W acc' y1 y2 y3 => by
          have := HSO.out i hlt W [] false acc' y1 y2 y3
          rw [hce] at this
          exact this)
        have HIa := hid (hIr.keep hGa)
        have hga := grown_trans hgr hGa
        clear b0 b1 b2 b3 b4 b5 b6 b7 b8 b9 hce hIr hfz hgr hGa
        go_wp2_with (go_at_call 25; (with_reducible refine (HST.out _ _ hga (by simp; omega) HIa.out).mono ?_); rintro e w3 ⟨rfl, hw3, hp3⟩)
        have hz3 := hp3.size
        simp only [World.size_alloc] at hz3
        exact ⟨⟨i + 1, by omega, by go_num, PK.base hga hp3 hBs, by omega, hw3, fun h => by omega⟩, by simp [intOf]; omega⟩
      · obtain rfl : i = n := by omega
        by_cases h0 : i = 0
        · have HTE : Hid (Calls Tryz.prog 26 #[.pointer (some ⟨B, 0, none⟩)] wr fun e w' => e = .returned (.tuple #[str [], .int .i64 0]) ∧ wr.grownBy w' none) := hid (text_fresh B wr (hfz h0))
          have HPT : Hid (anT 0 (PT T i) = [] ∧ anE 0 (PT T i) = 0) := hid (by subst h0; exact ⟨rfl, rfl⟩)
          clear hIr hfz h0
          go_wp2_with (go_at_call 26; (with_reducible refine HTE.out.mono ?_); rintro e w3 ⟨rfl, hg3⟩)
          go_ret2
          exact ⟨by rw [HPT.out.1, HPT.out.2]; rfl, grown_trans hgr hg3⟩
        · have hIr2 : WPst B B [] false ([] ++ PT T i) wr := by rw [List.nil_append]; exact hIr
          have HTE := hid (text_an hIr2 (PT_ne (by omega)))
          clear hIr hfz hIr2
          go_wp2_with (go_at_call 26; (with_reducible refine HTE.out.mono ?_); rintro e w3 ⟨rfl, hb3⟩)
          go_ret2
          exact ⟨rfl, below_base hgr hb3 hBs⟩
theorem PT_len {T : Nat → List UInt8} {n : Nat} (hT : ∀ i, i < n → (T i).length ≤ 2000000000000) : ∀ k, k ≤ n → (PT T k).length ≤ 2000000000002 * k
  | 0, _ => by simp [PT]
  | k + 1, h => by
    have h1 := PT_len hT k (by omega)
    have h2 := hT k (by omega)
    simp only [PT, List.length_append, List.length_cons, List.length_nil]
    omega
set_option maxHeartbeats 32000000 in
set_option maxRecDepth 100000 in
theorem rProgram_n (p : Option Addr) (n c : Nat) (C : Nat → List Value) (X : Nat → Int) (T : Nat → List UInt8) (w : World) (hc : n ≤ c ∧ c ≤ 9223372036854775807) (hC : ∀ i, i < n → StAt w p i (C i)) (hS : ∀ i, i < n → StP w (C i) (X i) (T i)) (r : Int × Int) (hr : scanP X 0 n = r) (hn60 : n ≤ 60) :
    Calls Tryz.prog 12 #[.agg #[.slice p n c]] w fun e w' => e = .returned (.tuple #[str (anT r.2 (PT T n)), .int .i64 (anE r.2 (PT T n))]) ∧ w.grownBy w' none := by
  obtain ⟨hnc, hcm⟩ := id hc
  have hW := World.grownBy_alloc w (.cells #[.slice p n c] 38 (0, 0)) none
  have k0 : (w.alloc (.cells #[.slice p n c] 38 (0, 0))).cell? ⟨w.heap.size, 0, none⟩ = some (.slice p n c) := by simp
  have HCP := hid fun W (hW : w.grownBy W none) => rCheckProgram_n p n c C X W hc (fun i hi => (hC i hi).keep hW) (fun i hi W' hW' => (hS i hi).rchk W' (grown_trans hW hW')) r hr
  have HC := hid hC
  have HS := hid hS
  have HX0 : Hid (r.2 = 0 → ∀ i, i < n → X i = 0) := hid (fun h0 i hi => scanP_zero (n := n) 0 (Nat.zero_le _) (by rw [Nat.sub_zero, hr]; exact h0) i (Nat.zero_le _) hi)
  obtain ⟨r1, r2⟩ := r
  simp only at HCP HX0 ⊢
  clear hC hS hr hc
  by_cases hX : r2 = 0
  rotate_left
  · have hq : (r2 != 0) = true := by simpa using hX
    have HAN : Hid (anT r2 (PT T n) = [] ∧ anE r2 (PT T n) = r2) := hid ⟨by unfold anT; rw [if_neg hX], by unfold anE; rw [if_neg hX]⟩
    clear hX
    go_enter Tryz.func12, Tryz.ntmps12
    go_upto_region 1 with fail
    generalize (w.alloc _) = w0 at *
    go_wp2_with (go_at_call 27; (with_reducible refine (HCP.out _ hW).mono ?_); rintro e w1 ⟨rfl, hg⟩; replace hW := grown_trans hW hg; clear hg)
    go_ret2
    exact ⟨by rw [HAN.out.1, HAN.out.2]; rfl, hW⟩
  · subst hX
    have HXZ := hid (HX0.out rfl)
    have HPL : Hid (∀ k, k ≤ n → (PT T k).length ≤ 2000000000002 * k) := hid (PT_len (fun i hi => (HS.out i hi).len (HXZ.out i hi)))
    go_enter Tryz.func12, Tryz.ntmps12
    go_upto_region 1 with fail
    generalize (w.alloc _) = w0 at *
    go_wp2_with (go_at_call 27; (with_reducible refine (HCP.out _ hW).mono ?_); rintro e w1 ⟨rfl, hg⟩; replace hW := grown_trans hW hg; replace k0 := hg.cell k0 (by simp); clear hg)
    have hW2 := hW
    clear k0 HX0 hW
    go_loopw [6, 20] (fun y z wr => ∃ (i : Nat) (sk : List UInt8), i ≤ n ∧ y = str sk ∧ z = .int .i64 i ∧ w.grownBy wr none ∧ sk = PT T i) (fun _ z _ => n - (intOf z).toNat)
    case atStart => exact ⟨0, [], Nat.zero_le _, rfl, rfl, hW2, rfl⟩
    case round =>
      obtain ⟨i, sk, hi, rfl, rfl, hgr, hsk⟩ := hrel
      have hlk : sk.length ≤ 120000000000120 := by
        rw [hsk]
        have := HPL.out i hi
        omega
      by_cases hlt : i < n
      · obtain ⟨bA, oA, k, pn, nn, cn, x1, x2, x3, q1, m1, d1, q2, m2, d2, q3, m3, d3, x7, o9, rfl, hce, b0, b1, b2, b3, b4, b5, b6, b7, b8, b9⟩ := HC.out i hlt
        have a0 := hgr.cell b0 (by simp)
        have a1 := hgr.cell b1 (by simp)
        have a2 := hgr.cell b2 (by simp)
        have a3 := hgr.cell b3 (by simp)
        have a4 := hgr.cell b4 (by simp)
        have a5 := hgr.cell b5 (by simp)
        have a6 := hgr.cell b6 (by simp)
        have a7 := hgr.cell b7 (by simp)
        have a8 := hgr.cell b8 (by simp)
        have a9 := hgr.cell b9 (by simp)
        have hGa := World.grownBy_alloc wr (.cells #[.int .i64 k, .slice pn nn cn, .int .i64 x1, .string x2, .bool x3, .slice q1 m1 d1, .slice q2 m2 d2, .slice q3 m3 d3, .int .i64 x7, .int .i64 o9] 49 (0, 0)) none
        obtain ⟨⟨j0, j1, j2, j3, j4, j5, j6, j7, j8, j9⟩, -⟩ := box10' (blk0 wr (.cells #[.int .i64 k, .slice pn nn cn, .int .i64 x1, .string x2, .bool x3, .slice q1 m1 d1, .slice q2 m2 d2, .slice q3 m3 d3, .int .i64 x7, .int .i64 o9] 49 (0, 0)))
        have hTl := (HS.out i hlt).len (HXZ.out i hlt)
        have HLN : Hid (∀ W, w.grownBy W none → Calls Tryz.prog 28 #[.agg #[.int .i64 k, .slice pn nn cn, .int .i64 x1, .string x2, .bool x3, .slice q1 m1 d1, .slice q2 m2 d2, .slice q3 m3 d3, .int .i64 x7, .int .i64 o9]] W fun e w' => e = .returned (str (T i)) ∧ W.grownBy w' none) := hid (fun W y1 => by
          have := (HS.out i hlt).rd (HXZ.out i hlt) W y1
          rw [hce] at this
          exact this)
        have HSK := hid hsk
        obtain ⟨Ti, hTi⟩ : ∃ Ti, Ti = T i := ⟨_, rfl⟩
        rw [← hTi] at HLN hTl
        obtain ⟨t0, ht0⟩ : ∃ t0, t0 = Ti ++ [59, 10] := ⟨_, rfl⟩
        have hl0 : t0.length ≤ 2000000000002 := by rw [ht0, List.length_append]; exact Nat.add_le_add hTl (Nat.le_refl 2)
        obtain ⟨t1, ht1⟩ : ∃ t1, t1 = sk ++ t0 := ⟨_, rfl⟩
        have hcat1 : ∀ w, (Op.stringOp .add ⟨Ti.toArray⟩ ⟨#[59, 10]⟩).run Tryz.prog w = .ok (str t0) w := fun w => by rw [ht0]; exact cat_lst Ti [59, 10] (by show Ti.length + 2 ≤ _; omega) w
        have hcat2 : ∀ w, (Op.stringOp .add ⟨sk.toArray⟩ ⟨t0.toArray⟩).run Tryz.prog w = .ok (str t1) w := fun w => by rw [ht1]; exact cat_lst sk t0 (by omega) w
        have HT1 : Hid (t1 = PT T (i + 1)) := hid (by rw [ht1, ht0, hTi, hsk]; rfl)
        have hga := grown_trans hgr hGa
        clear b0 b1 b2 b3 b4 b5 b6 b7 b8 b9 hce hgr hGa hsk ht0 ht1 hTi
        go_wp2_with (go_at_call 28; (with_reducible refine (HLN.out _ hga).mono ?_); rintro e w3 ⟨rfl, hg3⟩; replace hga := grown_trans hga hg3)
        exact ⟨⟨i + 1, t1, by omega, rfl, by go_num, hga, HT1.out⟩, by simp [intOf]; omega⟩
      · obtain rfl : i = n := by omega
        have htl : ((⟨sk.toArray⟩ : ByteArray).size : Int) = (sk.length : Int) := by show ((sk.toArray.size : Nat) : Int) = _; rw [List.size_toArray]
        by_cases hbig : 20000 < sk.length
        · have hq9 : (20000 : Int) < (sk.length : Int) := by omega
          have HAN : Hid (anT 0 (PT T i) = [] ∧ anE 0 (PT T i) = 4) := hid (by rw [← hsk]; exact ⟨by unfold anT; rw [if_pos rfl, if_pos hbig], by unfold anE; rw [if_pos rfl, if_pos hbig]⟩)
          clear hbig hsk
          go_wp2_with fail
          go_ret2
          exact ⟨by rw [HAN.out.1, HAN.out.2]; rfl, hgr⟩
        · have hq9 : ¬ (20000 : Int) < (sk.length : Int) := by omega
          have HAN : Hid (anT 0 (PT T i) = sk ∧ anE 0 (PT T i) = 0) := hid (by rw [← hsk]; exact ⟨by unfold anT; rw [if_pos rfl, if_neg hbig], by unfold anE; rw [if_pos rfl, if_neg hbig]⟩)
          clear hbig hsk
          go_wp2_with fail
          go_ret2
          exact ⟨by rw [HAN.out.1, HAN.out.2]; rfl, hgr⟩
end Go.Proofs.YtiaonbofkgkdhaaGreatDoor
