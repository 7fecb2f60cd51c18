/-
  PlA PnA PlB, in one text.
-/
import Derived.Test.YtiaonbofkgkdhaaGreatDoorMrP
import Derived.Test.YtiaonbofkgkdhaaGreatDoorMrL

set_option linter.unusedVariables false
set_option linter.unusedSimpArgs false
namespace Go.Proofs.YtiaonbofkgkdhaaGreatDoor
open Go.RowKit _root_.Nm Ax Lx
theorem stE_pts (n : Nat) (hn : 0 < n) (e1 X : Int) : stE 1 n true true e1 X = 0 := by
  unfold stE
  rw [if_neg (by omega), if_neg (by unfold cntS; rw [if_pos rfl]; simp; omega), if_neg (by simp), if_pos rfl, if_pos rfl]
theorem pts_both (pn : Option Addr) (nn cn : Nat) (o9 : Int) (L : List ByteArray) (hn : 0 < nn) (w : World) (Tq : Tb w) (hL : NRd w pn nn cn L) (hN : ∀ i (hi : i < L.length), (L[i]).size ≤ maxLen) (hNm : ∀ i (hi : i < L.length), isNm (L[i]).data.toList = true) :
    (∀ W, w.grownBy W none → Calls Tryz.prog 54 #[.agg #[.int .i64 1, .slice pn nn cn, .int .i64 0, .string ⟨#[]⟩, .bool false, .slice none 0 0, .slice none 0 0, .slice none 0 0, .int .i64 0, .int .i64 o9]] W fun e w' => e = .returned (.int .i64 0) ∧ W.grownBy w' none) ∧
    (∀ W, w.grownBy W none → Calls Tryz.prog 57 #[.agg #[.int .i64 1, .slice pn nn cn, .int .i64 0, .string ⟨#[]⟩, .bool false, .slice none 0 0, .slice none 0 0, .slice none 0 0, .int .i64 0, .int .i64 o9]] W fun e w' => e = .returned (.int .i64 0) ∧ W.grownBy w' none) := by
  have hE := zeroT_rd w
  obtain ⟨X, X0, X1, X2⟩ := check_bothW 1 _ zeroT (sortS 1) w Tq hE ⟨⟨Dg.nil, Dg.nil⟩, fun i hi => absurd hi (Nat.not_lt_zero i)⟩ (by decide)
  have hz : true = true ↔ EqP 1 zeroT zeroT := ⟨fun _ => (eq_zeroT hE).2 ⟨rfl, rfl, ⟨rfl, rfl, rfl⟩, rfl⟩, fun _ => rfl⟩
  have h0 := stE_pts nn hn 0 X
  refine ⟨fun W hW => ?_, fun W hW => ?_⟩
  · have := checkStmt_n 1 pn nn cn 0 ⟨#[]⟩ false none 0 0 none 0 0 none 0 0 0 o9 true true X W (fun W' hW' => allNames_any pn nn cn L W' (hL.keep (grown_trans hW hW')) hN true ⟨fun _ => hNm, fun _ => rfl⟩) (fun W' hW' => checkNone_any 1 _ _ true hz W' (hE.keep (grown_trans hW hW'))) (fun W' hW' => X1 W' (grown_trans hW hW'))
    rw [h0] at this
    exact this
  · have := rCheckStmt_n 1 pn nn cn 0 ⟨#[]⟩ false none 0 0 none 0 0 none 0 0 0 o9 true true X L W (hL.keep hW) hN ⟨fun _ => hNm, fun _ => rfl⟩ (fun W' hW' => empty_any 0 ⟨#[]⟩ false none 0 0 none 0 0 none 0 0 0 true W' ⟨fun _ => ⟨rfl, rfl, ⟨rfl, rfl, rfl⟩, rfl⟩, fun _ => rfl⟩) (fun W' hW' => X2 W' (grown_trans hW hW'))
    rw [h0] at this
    exact this
theorem pts_pack (pn : Option Addr) (nn cn : Nat) (o9 : Int) (L : List ByteArray) (hn : 0 < nn) (hLl : L.length ≤ 1048576) (w : World) (Tq : Tb w) (hL : NRd w pn nn cn L) (hNm : ∀ i (hi : i < L.length), isNm (L[i]).data.toList = true) :
    StP w [.int .i64 1, .slice pn nn cn, .int .i64 0, .string ⟨#[]⟩, .bool false, .slice none 0 0, .slice none 0 0, .slice none 0 0, .int .i64 0, .int .i64 o9] 0 (lnF 1 L []) := by
  have hNs : ∀ i (hi : i < L.length), (L[i]).size ≤ 1048576 := fun i hi => by
    have := (isNm_len (hNm i hi)).1
    rw [Array.length_toList] at this
    exact Nat.le_trans this (by decide)
  obtain ⟨h1, h2⟩ := pts_both pn nn cn o9 L hn w Tq hL (fun i hi => Nat.le_trans (hNs i hi) (by decide)) hNm
  have hl := hL.len
  refine ⟨h1, h2, fun _ W hW B b hB hb => ?_, fun _ W hW => ?_, fun _ => lnF_len hNs hLl (by simp)⟩
  · intro w' bs lg acc g1 g2 g3
    exact stmt_ok W B b hB 1 pn nn cn 0 ⟨#[]⟩ false none 0 0 none 0 0 none 0 0 0 o9 L [] ⟨hL.keep hW, hNs, fun g => absurd rfl g, fun g => absurd rfl g⟩ w' bs lg acc g1 g2 g3
  · exact rline_any 1 pn nn cn 0 ⟨#[]⟩ false none 0 0 none 0 0 none 0 0 0 o9 L [] W (by omega) (hL.keep hW) (by omega) hNs (fun g => absurd rfl g) (fun g => absurd g (by decide)) (by simp)
/-- the row of a statement 'points' whose names lie in block g -/
def rowP (g : Nat) : List Value := [.int .i64 1, .slice (some ⟨g, 0, none⟩) 1 1, .int .i64 0, .string ⟨#[]⟩, .bool false, .slice none 0 0, .slice none 0 0, .slice none 0 0, .int .i64 0, .int .i64 0]
theorem rowP_len (g : Nat) : (rowP g).length = 10 := rfl
theorem rowP_one (g : Nat) : ∀ u ∈ rowP g, u.oneCell' = true := by
  intro u hu
  simp only [rowP, List.mem_cons, List.not_mem_nil, or_false] at hu
  rcases hu with rfl | rfl | rfl | rfl | rfl | rfl | rfl | rfl | rfl | rfl <;> rfl
theorem infoSt : (Tryz.prog.info? 49).map (fun i => (i.zero, i.size, i.bytes)) = some (some (.agg #[.int .i64 0, .slice none 0 0, .int .i64 0, .string ⟨#[]⟩, .bool false, .slice none 0 0, .slice none 0 0, .slice none 0 0, .int .i64 0, .int .i64 0]), 10, 152) := by kernel_rfl
theorem stZ : (Value.agg #[.int .i64 0, .slice none 0 0, .int .i64 0, .string ⟨#[]⟩, .bool false, .slice none 0 0, .slice none 0 0, .slice none 0 0, .int .i64 0, .int .i64 0]).cells.size = 10 := rfl
theorem ten_pos : 0 < 10 := by decide
theorem stAt_of_row {w : World} {p : Option Addr} {n c : Nat} {gs : List Nat} (h : SRd w 10 p n c (gs.map rowP)) (i : Nat) (hi : i < gs.length) : StAt w p i (rowP gs[i]) := by
  obtain ⟨b, o, rfl, hc⟩ := h.at ten_pos (i := i) (by simpa using hi)
  simp only [List.getElem_map] at hc
  exact ⟨b, o, 1, some ⟨gs[i], 0, none⟩, 1, 1, 0, ⟨#[]⟩, false, none, 0, 0, none, 0, 0, none, 0, 0, 0, 0, rfl, rfl, hc 0 (by simp [rowP]), hc 1 (by simp [rowP]), hc 2 (by simp [rowP]), hc 3 (by simp [rowP]), hc 4 (by simp [rowP]), hc 5 (by simp [rowP]), hc 6 (by simp [rowP]), hc 7 (by simp [rowP]), hc 8 (by simp [rowP]), hc 9 (by simp [rowP])⟩
/-- a block that holds one name -/
def NB (w : World) (nm : ByteArray) (g : Nat) : Prop := w.heap[g]? = some (.cells #[.string nm] 9 (0, 0))
theorem NB.rd {w : World} {nm : ByteArray} {g : Nat} (h : NB w nm g) : NRd w (some ⟨g, 0, none⟩) 1 1 [nm] := by
  refine ⟨rfl, fun r hr => by rw [List.mem_singleton.1 hr]; rfl, Nat.le_refl _, by omega, fun i hi j hj => ⟨g, 0, rfl, ?_⟩⟩
  simp only [List.map_cons, List.map_nil, List.length_cons, List.length_nil, Nat.zero_add, Nat.lt_one_iff] at hi
  subst hi
  simp only [List.map_cons, List.map_nil, List.getElem_cons_zero, List.length_cons, List.length_nil, Nat.zero_add, Nat.lt_one_iff] at hj ⊢
  subst hj
  rw [cell_of_row _ g (0 + 0 * 1 + 0) _ _ _ h]
  rfl
/-- the slice's block holds no names -/
theorem SOwn.ne_nb {w : World} {base k : Nat} {a : Option Addr} {n c : Nat} {l : List (List Value)} (h : SOwn w base 49 k a n c l) {nm : ByteArray} {g : Nat} (hg : NB w nm g) : ∀ q, a = some q → q.block ≠ g := by
  intro q hq he
  obtain ⟨_, _, _, ⟨hv, _⟩ | ⟨g', cap, cur, hv, _, hh, _⟩⟩ := h
  · rw [hq] at hv; cases hv
  · rw [hq] at hv
    simp only [Value.slice.injEq, Option.some.injEq] at hv
    obtain ⟨rfl, _, _⟩ := hv
    simp only at he
    subst he
    unfold NB at hg
    rw [hh] at hg
    injection hg with hg
    injection hg with _ h2 _
    exact absurd h2 (by decide)
theorem PT_pts (L : List ByteArray) (T : List UInt8) : ∀ n, (PT (fun _ => T) n).length = n * (T.length + 2)
  | 0 => by simp [PT]
  | n + 1 => by
    rw [show PT (fun _ => T) (n + 1) = PT (fun _ => T) n ++ (T ++ [59, 10]) from rfl, List.length_append, PT_pts L T n, List.length_append, Nat.succ_mul]
    rfl
end Go.Proofs.YtiaonbofkgkdhaaGreatDoor

set_option linter.unusedVariables false
set_option linter.unusedSimpArgs false
namespace Go.Proofs.YtiaonbofkgkdhaaGreatDoor
open Go.RowKit _root_.Nm Ax Lx
/-- no line feed -/
def NL (l : List UInt8) : Prop := (10 : UInt8) ∉ l
theorem NL.app {a b : List UInt8} (h : NL a) (k : NL b) : NL (a ++ b) := fun hc => (List.mem_append.1 hc).elim h k
theorem nl_name {l : List UInt8} (h : isNm l = true) : NL l := by
  cases l with
  | nil => cases h
  | cons c r =>
    cases hs : shp (c :: r) with
    | false => rw [isNm_f hs] at h; cases h
    | true =>
      rw [shp_cons] at hs
      simp only [Bool.and_eq_true] at hs
      have h3 := of_decide_eq_true hs.2.2
      intro hc
      obtain ⟨i, hi, he⟩ := List.getElem_of_mem hc
      have := span_at (ks := [3, 4]) i hi (by omega)
      rw [he] at this
      exact absurd this (by decide)
theorem nl_dg {l : List UInt8} (h : DgS l) : NL l := fun hc => by
  have := (h 10 hc).1
  exact absurd this (by decide)
theorem nl_itx (Z : Int) : NL (itx Z) := by
  unfold itx
  split
  · intro hc
    rcases List.mem_cons.1 hc with h | h
    · cases h
    · exact nl_dg (dec_dgs _) h
  · exact nl_dg (dec_dgs _)
theorem nl_rtx (v : Rat) : NL (rtx v) := by
  unfold rtx
  split
  · exact nl_itx _
  · exact ((nl_itx _).app (by unfold NL; decide)).app (nl_dg (dec_dgs _))
theorem nl_tab : ∀ e ∈ Ax.tab, (10 : UInt8) ∉ e.w := by decide
theorem nl_wrd (k : Int) : NL (wrd k) := by
  unfold wrd
  cases h : ent k with
  | none => unfold NL; simp
  | some e => exact nl_tab e (ent_mem h).1
theorem nl_jn {P : List (List UInt8)} (h : ∀ x ∈ P, NL x) : NL (jn P) := by
  cases P with
  | nil => unfold NL; rw [jn_nil]; simp
  | cons x r =>
    unfold jn
    rw [Lib.join_cons]
    refine (h x (by simp)).app fun hc => ?_
    obtain ⟨y, hy, hc⟩ := List.mem_flatten.1 hc
    obtain ⟨z, hz, rfl⟩ := List.mem_map.1 hy
    rcases List.mem_append.1 hc with h9 | h9
    · revert h9; unfold cms; decide
    · exact h z (by simp [hz]) h9
theorem nl_tx : ∀ (m : Nat) (t : Tr), WfT m t → NL (txF m t)
  | 0, _, h => h.elim
  | m + 1, .node h l, hW => by
    by_cases hk : h.k = 1
    · rw [txF_name hk]
      exact nl_name (hW.2.1 hk)
    · rw [txF_node hk]
      refine (((nl_wrd _).app (by unfold NL; decide)).app (nl_jn fun x hx => ?_)).app (by unfold NL; decide)
      unfold pzF at hx
      rcases List.mem_append.1 hx with h9 | h9
      · obtain ⟨t, ht, rfl⟩ := List.mem_map.1 h9
        obtain ⟨i, hi, rfl⟩ := List.getElem_of_mem ht
        exact nl_tx m _ (hW.2.2.2 i hi)
      · split at h9
        · rw [List.mem_singleton.1 h9]; exact nl_rtx _
        · simp at h9
theorem nl_ln {k : Int} {L : List ByteArray} {m : Nat} {t : Tr} (h : StR k L m t) : NL (lnF k L (txF m t)) := by
  have hN : ∀ x ∈ namesB L, NL x := fun x hx => by
    obtain ⟨d, hd, rfl⟩ := List.mem_map.1 hx
    obtain ⟨i, hi, rfl⟩ := List.getElem_of_mem hd
    exact nl_name (h.2.2.1 i hi)
  have h0 : NL (nm0 L) := by
    unfold nm0
    cases L with
    | nil => unfold NL; simp
    | cons x r => exact hN _ (by simp [namesB])
  have hA : NL asg := by unfold NL asg; decide
  by_cases g1 : k = 1
  · subst g1
    rw [show lnF 1 L (txF m t) = [112, 111, 105, 110, 116, 115, 32] ++ jn (namesB L) from if_pos rfl]
    exact NL.app (by unfold NL; decide) (nl_jn hN)
  · have hT := nl_tx m t (h.2.2.2.2 g1).2
    unfold lnF
    rw [if_neg g1]
    split
    · exact NL.app (by unfold NL; decide) ((h0.app hA).app hT)
    split
    · exact NL.app (by unfold NL; decide) ((h0.app hA).app hT)
    split
    · exact NL.app (by unfold NL; decide) hT
    · exact (h0.app hA).app hT
theorem PT_cnt {T : Nat → List UInt8} : ∀ {n : Nat}, (∀ i, i < n → NL (T i)) → (PT T n).count 10 = n
  | 0, _ => rfl
  | n + 1, h => by
    have h1 := PT_cnt (n := n) fun i hi => h i (by omega)
    have h2 : (T n).count 10 = 0 := List.count_eq_zero.2 (h n (by omega))
    simp only [PT, List.count_append, h1, h2]
    rfl
theorem PT_split {T : Nat → List UInt8} (a : Nat) : ∀ (d : Nat), PT T (a + d) = PT T a ++ PT (fun i => T (a + i)) d
  | 0 => by simp [PT]
  | d + 1 => by
    rw [← Nat.add_assoc]
    show PT T (a + d) ++ _ = PT T a ++ (PT (fun i => T (a + i)) d ++ _)
    rw [PT_split a d, List.append_assoc]
theorem scanP_all {X : Nat → Int} : ∀ (f k : Nat), (∀ i, k ≤ i → i < k + f → X i = 0) → scanP X k f = (0, 0)
  | 0, _, _ => rfl
  | f + 1, k, h => by
    unfold scanP
    rw [if_pos (h k (Nat.le_refl _) (by omega))]
    exact scanP_all f (k + 1) fun i h1 h2 => h i (by omega) (by omega)
/-- the statements of a small program, packed; their texts hold no line feed -/
theorem packsN (n m : Nat) (K : Nat → Int) (G : Nat → Tr) (C : Nat → List Value) (w : World) (Tq : Tb w) (TP : Tp w) (hG : ∀ i, i < n → (∃ L, StOk w (C i) (K i) L m (G i) ∧ L.length ≤ 1048576) ∧ DgF m (G i) ∧ szF m (G i) ≤ 1048576) (hS : ∀ i, i < n → ShT m (G i)) :
    ∃ (X : Nat → Int) (T : Nat → List UInt8), ∀ i, i < n → StP w (C i) (X i) (T i) ∧ (X i = 0 → NL (T i)) := by
  have h : ∀ i, ∃ (X : Int) (T : List UInt8), i < n → StP w (C i) X T ∧ (X = 0 → NL T) := by
    intro i
    by_cases hi : i < n
    · obtain ⟨⟨L, h1, h2⟩, h3, h4⟩ := hG i hi
      obtain ⟨X, h5, h6⟩ := stmt_pack (C i) (K i) L m (G i) w Tq TP h1 h2 h3 (hS i hi) h4
      exact ⟨X, _, fun _ => ⟨h5, fun h0 => nl_ln (h6 h0)⟩⟩
    · exact ⟨0, [], fun h => absurd h hi⟩
  exact ⟨fun i => Classical.choose (h i), fun i => Classical.choose (Classical.choose_spec (h i)), fun i hi => Classical.choose_spec (Classical.choose_spec (h i)) hi⟩
end Go.Proofs.YtiaonbofkgkdhaaGreatDoor

set_option linter.unusedVariables false
set_option linter.unusedSimpArgs false
namespace Go.Proofs.YtiaonbofkgkdhaaGreatDoor
open Go.RowKit _root_.Nm Ax Lx
theorem wrap64_le {n : Int} (h0 : 0 ≤ n) (h1 : n ≤ 1000000) : wrap64 n = n := by unfold wrap64; omega
def ltr : List UInt8 := [97, 98, 99, 100, 101, 102, 103, 104, 105, 106, 107, 108, 109, 110, 111, 112, 113, 114, 115, 116]
theorem ltr_nm : ∀ j, j < 20 → isNm (ltr.take (1 + j)) = true := by decide
theorem slice_t (s : ByteArray) (l : List UInt8) (hl : s.data.toList = l) (k : Nat) (hk : k ≤ l.length) (w : World) :
    (Instr.slice 9 (.string s) none (some (.int .i64 (k : Int))) none).run Tryz.prog w = .ok (.string ⟨(l.take k).toArray⟩) w := by
  subst hl
  have hk' : k ≤ s.size := by rw [Lib.size_eq]; exact hk
  rw [run_slice_string_to_if w 9 s .i64 (k : Int) (by kernel_rfl), if_pos ⟨by omega, by omega⟩, Int.toNat_natCast, Lib.extract_eq]
  simp
set_option maxHeartbeats 32000000 in
set_option maxRecDepth 100000 in
theorem printerLarge_walk (a b : Nat) (ha : a < 65536) (hb : b < 65536) (w : World) (Tq : Tb w) :
    Calls Tryz.prog 6 #[.int .u16 a, .int .u16 b] w fun e w' => e = .returned (.bool true) ∧ w.grownBy w' none := by
  obtain ⟨j, hj⟩ : ∃ j, j = b % 20 := ⟨_, rfl⟩
  have hj20 : j < 20 := by rw [hj]; exact Nat.mod_lt _ (by omega)
  obtain ⟨N, hN⟩ : ∃ N, N = a % 2500 := ⟨_, rfl⟩
  have hN25 : N < 2500 := by rw [hN]; exact Nat.mod_lt _ (by omega)
  have hsl := fun w => slice_t ⟨#[97, 98, 99, 100, 101, 102, 103, 104, 105, 106, 107, 108, 109, 110, 111, 112, 113, 114, 115, 116]⟩ ltr rfl (1 + j) (by show 1 + j ≤ 20; omega) w
  have hbj : ((1 + j : Nat) : Int) = 1 + (b : Int) % 20 := by rw [hj]; simp
  simp only [hbj] at hsl
  have hnm := ltr_nm j hj20
  obtain ⟨nm, hnmd⟩ : ∃ nm : ByteArray, nm = ⟨(ltr.take (1 + j)).toArray⟩ := ⟨_, rfl⟩
  have hnms : nm.size = 1 + j := by rw [hnmd, Lib.size_eq]; show (ltr.take (1 + j)).length = _; rw [List.length_take]; show min (1 + j) 20 = _; omega
  have hnmt : isNm nm.data.toList = true := by rw [hnmd]; exact hnm
  rw [← hnmd] at hsl
  have haN : (a : Int) % 2500 = (N : Int) := by rw [hN]; simp
  have HNM := hid hnmt
  have HT := hid Tq
  clear hj hN hnm hnmd hnmt Tq
  go_enter Tryz.func6, Tryz.ntmps6
  go_upto_region 2 with fail
  clear hsl hbj
  have hW0 := World.grownBy_alloc w (.cells #[.slice none 0 0] 38 (0, 0)) none
  have hbx0 := heap_alloc_new w (.cells #[.slice none 0 0] 38 (0, 0))
  go_wp2_with fail
  rw [haN]
  generalize (w.alloc _) = w0 at *
  clear haN
  have hz0 : w.heap.size < w0.heap.size := lt_of_block hbx0
  have HW := hid hW0
  have HB := hid hbx0
  clear hW0 hbx0
  go_loopw [18] (fun z wr => ∃ (i c : Nat) (p : Option Addr) (gs : List Nat), i ≤ N ∧ z = .int .i64 i ∧ gs.length = i ∧ wr.heap[w.heap.size]? = some (.cells #[.slice p i c] 38 (0, 0)) ∧ SOwn wr (w.heap.size + 1) 49 10 p i c (gs.map rowP) ∧ (∀ g ∈ gs, NB wr nm g) ∧ w.grownBy wr none ∧ w.heap.size < wr.heap.size) (fun z _ => N - (intOf z).toNat)
  case atStart => exact ⟨0, 0, none, [], Nat.zero_le _, rfl, rfl, HB.out, SOwn.nil _ _ _ _, (fun g hg => absurd hg (by simp)), HW.out, hz0⟩
  case round =>
    clear HB HW hz0
    obtain ⟨i, c, p, gs, hi, rfl, hgl, hbx, hO, hNB, hG, hz⟩ := hrel
    by_cases hlt : i < N
    · have k0 := cell_of_one hbx
      have f0 := free_of_one hbx
      have HO := hid hO
      have HNB := hid hNB
      have HG := hid hG
      have HBX := hid hbx
      have hs1 := World.size_alloc wr (.cells #[.string nm] 9 (0, 0))
      clear hO hNB hG hbx
      go_wp2_with (with_reducible refine wls_append _ rfl (.tmp 21) (.tmp 25) 36 rfl 49 10 _ 152 Tryz.underlying36 infoSt stZ ten_pos (w.heap.size + 1) _ _ _ (gs.map rowP) rfl (SOwn.alloc (SOwn.alloc HO.out _) _) _ 1 (rowP wr.heap.size) rfl (one_srd _ _ 10 (rowP wr.heap.size) (rowP_len _) _ (by simp)) (rowP_one _) (by omega) (by omega) w (grown_trans (grown_trans HG.out (World.grownBy_alloc _ _ _)) (World.grownBy_alloc _ _ _)) (by omega) (by simp; omega) ?_; intro p' c2 w2 ho2 hg2 hbx2; have bx := hbx2 w.heap.size _ (keepB (keepB HBX.out (World.grownBy_alloc _ _ _)) (World.grownBy_alloc _ _ _)) (fun q hq => by have := (SOwn.lt HO.out q hq).1; omega); replace k0 := cell_of_one bx; replace f0 := free_of_one bx; have HBX2 := hid bx; have HHB := hid hbx2; have HO2 := hid ho2; have HG2 := hid hg2; clear bx hbx2 ho2 hg2)
      all_goals
        have hst := heap_setCell_same w2 w.heap.size 0 _ _ (.slice p' (i + 1) c2) HBX2.out
        simp at hst
        have hgS := set1_grown HG2.out w.heap.size 0 (.slice p' (i + 1) c2) (Nat.le_refl _)
        have hgs := grown_setCell w2 ⟨w.heap.size, 0, none⟩ (.slice p' (i + 1) c2)
        have hO9 := SOwn.kept HO2.out hgs (.inr fun q hq => by have := (SOwn.lt HO2.out q hq).1; simp; omega)
        have hnb : ∀ g, g ∈ gs ++ [wr.heap.size] → NB w2 nm g := fun g hg => by
          have h1 : NB ((wr.alloc (.cells #[.string nm] 9 (0, 0))).alloc (.cells (rowP wr.heap.size).toArray 49 (0, 0))) nm g := by
            rcases List.mem_append.1 hg with h | h
            · exact keepB (keepB (HNB.out g h) (World.grownBy_alloc _ _ _)) (World.grownBy_alloc _ _ _)
            · rw [List.mem_singleton.1 h]
              exact keepB (heap_alloc_new wr (.cells #[.string nm] 9 (0, 0))) (World.grownBy_alloc _ _ _)
          exact HHB.out g _ h1 (SOwn.ne_nb (SOwn.alloc (SOwn.alloc HO.out _) _) h1)
        have hnb9 : ∀ g, g ∈ gs ++ [wr.heap.size] → NB (w2.setCell ⟨w.heap.size, 0, none⟩ (.slice p' (i + 1) c2)) nm g := fun g hg => by
          have h2 := hnb g hg
          refine (hgs.block g (lt_of_block h2) (fun e => ?_)).trans h2
          have e' : w.heap.size = g := by simpa using e.symm
          subst e'
          have h3 := HBX2.out
          unfold NB at h2
          rw [h2] at h3
          injection h3 with h3
          injection h3 with _ h4 _
          exact absurd h4 (by decide)
        have hss := hgs.size
        have hw2 := lt_of_block HBX2.out
        refine ⟨⟨i + 1, c2, p', gs ++ [wr.heap.size], by omega, by go_num, by simp [hgl], by simpa using hst, by rw [List.map_append]; exact hO9, hnb9, hgS, by omega⟩, by simp [intOf]; omega⟩
    · obtain rfl : i = N := by omega
      have hrd := SOwn.rd hO
      have hcap := hrd.cap
      have hmax := hrd.max
      have Tq := HT.out.keep hG
      obtain ⟨T, hTd⟩ : ∃ T, T = lnF 1 [nm] [] := ⟨_, rfl⟩
      have hTl : T.length = 7 + nm.size := by
        rw [hTd, lnF_1]
        rw [show namesB [nm] = [nm.data.toList] from rfl, jn_one, List.length_append, ← Lib.size_eq]
        rfl
      have hPl := PT_pts [nm] T i
      have HPP := hid (pProgram_n p i c (fun k => rowP (gs.getD k 0)) (fun _ => 0) (fun _ => T) wr ⟨hcap, hmax⟩ (fun k hk => by
        have hk' : k < gs.length := by omega
        have := stAt_of_row hrd k hk'
        rw [show gs[k] = gs.getD k 0 by rw [List.getD, List.getElem?_eq_getElem hk']; rfl] at this
        exact this) (fun k hk => by
        have hk' : k < gs.length := by omega
        have hm : gs.getD k 0 ∈ gs := by rw [List.getD, List.getElem?_eq_getElem hk']; exact List.getElem_mem hk'
        rw [hTd]
        exact pts_pack (some ⟨gs.getD k 0, 0, none⟩) 1 1 0 [nm] (by omega) (by simp) wr Tq (NB.rd (hNB _ hm)) (fun q hq => by
          obtain rfl : q = 0 := by simpa using hq
          exact HNM.out)) (0, 0) (scanP_all i 0 fun _ _ _ => rfl))
      generalize PT (fun _ => T) i = TT at *
      have k0 := cell_of_one hbx
      obtain ⟨S, hS⟩ : ∃ S, S = i * (10 + j) := ⟨_, rfl⟩
      have hS1 : S ≤ 75000 := by
        have := Nat.mul_le_mul (show i ≤ 2500 by omega) (show 10 + j ≤ 30 by omega)
        omega
      have hTT : TT.length = S := by rw [hPl, hTl, hnms, hS]; congr 1; omega
      have hSi : (i : Int) * (9 + (1 + (j : Int))) = (S : Int) := by
        rw [hS, show (9 + (1 + (j : Int))) = ((10 + j : Nat) : Int) by omega]
        simp
      have hwr : wrap64 ((i : Int) * (9 + (1 + (j : Int)))) = (S : Int) := by rw [hSi, wrap64_le (by omega) (by omega)]
      have htl : ((⟨TT.toArray⟩ : ByteArray).size : Int) = (S : Int) := by rw [← hTT]; show ((TT.toArray.size : Nat) : Int) = _; rw [List.size_toArray]
      by_cases hbig : 20000 < S
      · have h20 : 20000 < TT.length := by rw [hTT]; exact hbig
        have hr : anT 0 TT = [] ∧ anE 0 TT = 4 := ⟨by unfold anT; rw [if_pos rfl, if_pos h20], by unfold anE; rw [if_pos rfl, if_pos h20]⟩
        clear h20
        rw [hr.1, hr.2] at HPP
        clear hr hS hTT hSi htl hPl hTl hTd hrd hO hNB hbx
        go_upto_region 8 with fail
        rw [hwr]
        clear hwr
        go_wp2_with (go_at_call 11; (with_reducible refine HPP.out.mono ?_); rintro e w1 ⟨rfl, hg⟩; replace hG := grown_trans hG hg; clear hg)
        all_goals (try go_ret)
        all_goals exact ⟨rfl, hG⟩
      · have h20 : ¬ 20000 < TT.length := by rw [hTT]; exact hbig
        have hr : anT 0 TT = TT ∧ anE 0 TT = 0 := ⟨by unfold anT; rw [if_pos rfl, if_neg h20], by unfold anE; rw [if_pos rfl, if_neg h20]⟩
        clear h20
        rw [hr.1, hr.2] at HPP
        clear hr hS hTT hSi hPl hTl hTd hrd hO hNB hbx
        go_upto_region 8 with fail
        rw [hwr]
        clear hwr
        go_wp2_with (go_at_call 11; (with_reducible refine HPP.out.mono ?_); rintro e w1 ⟨rfl, hg⟩; replace hG := grown_trans hG hg; clear hg)
        all_goals (try go_ret)
        all_goals exact ⟨rfl, hG⟩
end Go.Proofs.YtiaonbofkgkdhaaGreatDoor
