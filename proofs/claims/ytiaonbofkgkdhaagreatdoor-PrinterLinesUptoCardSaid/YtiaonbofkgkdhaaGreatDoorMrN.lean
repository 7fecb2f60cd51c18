/-
  PnA PnB, in one text.
-/
import Derived.Test.YtiaonbofkgkdhaaGreatDoorMrP
import Derived.Test.YtiaonbofkgkdhaaGreatDoorMrL

set_option linter.unusedVariables false
set_option linter.unusedSimpArgs false
namespace Go.Proofs.YtiaonbofkgkdhaaGreatDoor
open Go.RowKit _root_.Nm Ax Lx
/-- no line feed -/
def NL (l : List UInt8) : Prop := (10 : UInt8) ∉ l
theorem NL.app {a b : List UInt8} (h : NL a) (k : NL b) : NL (a ++ b) := fun hc => (List.mem_append.1 hc).elim h k
theorem nl_name {l : List UInt8} (h : isNm l = true) : NL l := by
  cases l with
  | nil => cases h
  | cons c r =>
    cases hs : shp (c :: r) with
    | false => rw [isNm_f hs] at h; cases h
    | true =>
      rw [shp_cons] at hs
      simp only [Bool.and_eq_true] at hs
      have h3 := of_decide_eq_true hs.2.2
      intro hc
      obtain ⟨i, hi, he⟩ := List.getElem_of_mem hc
      have := span_at (ks := [3, 4]) i hi (by omega)
      rw [he] at this
      exact absurd this (by decide)
theorem nl_dg {l : List UInt8} (h : DgS l) : NL l := fun hc => by
  have := (h 10 hc).1
  exact absurd this (by decide)
theorem nl_itx (Z : Int) : NL (itx Z) := by
  unfold itx
  split
  · intro hc
    rcases List.mem_cons.1 hc with h | h
    · cases h
    · exact nl_dg (dec_dgs _) h
  · exact nl_dg (dec_dgs _)
theorem nl_rtx (v : Rat) : NL (rtx v) := by
  unfold rtx
  split
  · exact nl_itx _
  · exact ((nl_itx _).app (by unfold NL; decide)).app (nl_dg (dec_dgs _))
theorem nl_tab : ∀ e ∈ Ax.tab, (10 : UInt8) ∉ e.w := by decide
theorem nl_wrd (k : Int) : NL (wrd k) := by
  unfold wrd
  cases h : ent k with
  | none => unfold NL; simp
  | some e => exact nl_tab e (ent_mem h).1
theorem nl_jn {P : List (List UInt8)} (h : ∀ x ∈ P, NL x) : NL (jn P) := by
  cases P with
  | nil => unfold NL; rw [jn_nil]; simp
  | cons x r =>
    unfold jn
    rw [Lib.join_cons]
    refine (h x (by simp)).app fun hc => ?_
    obtain ⟨y, hy, hc⟩ := List.mem_flatten.1 hc
    obtain ⟨z, hz, rfl⟩ := List.mem_map.1 hy
    rcases List.mem_append.1 hc with h9 | h9
    · revert h9; unfold cms; decide
    · exact h z (by simp [hz]) h9
theorem nl_tx : ∀ (m : Nat) (t : Tr), WfT m t → NL (txF m t)
  | 0, _, h => h.elim
  | m + 1, .node h l, hW => by
    by_cases hk : h.k = 1
    · rw [txF_name hk]
      exact nl_name (hW.2.1 hk)
    · rw [txF_node hk]
      refine (((nl_wrd _).app (by unfold NL; decide)).app (nl_jn fun x hx => ?_)).app (by unfold NL; decide)
      unfold pzF at hx
      rcases List.mem_append.1 hx with h9 | h9
      · obtain ⟨t, ht, rfl⟩ := List.mem_map.1 h9
        obtain ⟨i, hi, rfl⟩ := List.getElem_of_mem ht
        exact nl_tx m _ (hW.2.2.2 i hi)
      · split at h9
        · rw [List.mem_singleton.1 h9]; exact nl_rtx _
        · simp at h9
theorem nl_ln {k : Int} {L : List ByteArray} {m : Nat} {t : Tr} (h : StR k L m t) : NL (lnF k L (txF m t)) := by
  have hN : ∀ x ∈ namesB L, NL x := fun x hx => by
    obtain ⟨d, hd, rfl⟩ := List.mem_map.1 hx
    obtain ⟨i, hi, rfl⟩ := List.getElem_of_mem hd
    exact nl_name (h.2.2.1 i hi)
  have h0 : NL (nm0 L) := by
    unfold nm0
    cases L with
    | nil => unfold NL; simp
    | cons x r => exact hN _ (by simp [namesB])
  have hA : NL asg := by unfold NL asg; decide
  by_cases g1 : k = 1
  · subst g1
    rw [show lnF 1 L (txF m t) = [112, 111, 105, 110, 116, 115, 32] ++ jn (namesB L) from if_pos rfl]
    exact NL.app (by unfold NL; decide) (nl_jn hN)
  · have hT := nl_tx m t (h.2.2.2.2 g1).2
    unfold lnF
    rw [if_neg g1]
    split
    · exact NL.app (by unfold NL; decide) ((h0.app hA).app hT)
    split
    · exact NL.app (by unfold NL; decide) ((h0.app hA).app hT)
    split
    · exact NL.app (by unfold NL; decide) hT
    · exact (h0.app hA).app hT
theorem PT_cnt {T : Nat → List UInt8} : ∀ {n : Nat}, (∀ i, i < n → NL (T i)) → (PT T n).count 10 = n
  | 0, _ => rfl
  | n + 1, h => by
    have h1 := PT_cnt (n := n) fun i hi => h i (by omega)
    have h2 : (T n).count 10 = 0 := List.count_eq_zero.2 (h n (by omega))
    simp only [PT, List.count_append, h1, h2]
    rfl
theorem PT_split {T : Nat → List UInt8} (a : Nat) : ∀ (d : Nat), PT T (a + d) = PT T a ++ PT (fun i => T (a + i)) d
  | 0 => by simp [PT]
  | d + 1 => by
    rw [← Nat.add_assoc]
    show PT T (a + d) ++ _ = PT T a ++ (PT (fun i => T (a + i)) d ++ _)
    rw [PT_split a d, List.append_assoc]
theorem scanP_all {X : Nat → Int} : ∀ (f k : Nat), (∀ i, k ≤ i → i < k + f → X i = 0) → scanP X k f = (0, 0)
  | 0, _, _ => rfl
  | f + 1, k, h => by
    unfold scanP
    rw [if_pos (h k (Nat.le_refl _) (by omega))]
    exact scanP_all f (k + 1) fun i h1 h2 => h i (by omega) (by omega)
/-- the statements of a small program, packed; their texts hold no line feed -/
theorem packsN (n m : Nat) (K : Nat → Int) (G : Nat → Tr) (C : Nat → List Value) (w : World) (Tq : Tb w) (TP : Tp w) (hG : ∀ i, i < n → (∃ L, StOk w (C i) (K i) L m (G i) ∧ L.length ≤ 1048576) ∧ DgF m (G i) ∧ szF m (G i) ≤ 1048576) (hS : ∀ i, i < n → ShT m (G i)) :
    ∃ (X : Nat → Int) (T : Nat → List UInt8), ∀ i, i < n → StP w (C i) (X i) (T i) ∧ (X i = 0 → NL (T i)) := by
  have h : ∀ i, ∃ (X : Int) (T : List UInt8), i < n → StP w (C i) X T ∧ (X = 0 → NL T) := by
    intro i
    by_cases hi : i < n
    · obtain ⟨⟨L, h1, h2⟩, h3, h4⟩ := hG i hi
      obtain ⟨X, h5, h6⟩ := stmt_pack (C i) (K i) L m (G i) w Tq TP h1 h2 h3 (hS i hi) h4
      exact ⟨X, _, fun _ => ⟨h5, fun h0 => nl_ln (h6 h0)⟩⟩
    · exact ⟨0, [], fun h => absurd h hi⟩
  exact ⟨fun i => Classical.choose (h i), fun i => Classical.choose (Classical.choose_spec (h i)), fun i hi => Classical.choose_spec (Classical.choose_spec (h i)) hi⟩
end Go.Proofs.YtiaonbofkgkdhaaGreatDoor

set_option linter.unusedVariables false
set_option linter.unusedSimpArgs false
namespace Go.Proofs.YtiaonbofkgkdhaaGreatDoor
open Go.RowKit _root_.Nm Ax Lx
theorem idxS (l : List UInt8) (k : Nat) (hk : k < l.length) (w : World) :
    (Instr.index 9 (.string ⟨l.toArray⟩) (.int .i64 (k : Int))).run Tryz.prog w = .ok (.int .u8 (l[k].toNat : Int)) w := by
  have hs : k < (⟨l.toArray⟩ : ByteArray).size := by show k < l.toArray.size; rw [List.size_toArray]; exact hk
  rw [run_index_string w 9 ⟨l.toArray⟩ .i64 (k : Int) (by kernel_rfl), dif_pos ⟨by omega, by omega⟩]
  simp only [Int.toNat_natCast]
  rfl
theorem StP.keep {w W : World} {cs : List Value} {X : Int} {T : List UInt8} (h : StP w cs X T) (hW : w.grownBy W none) : StP W cs X T :=
  ⟨fun W' h' => h.chk W' (grown_trans hW h'), fun W' h' => h.rchk W' (grown_trans hW h'), fun h0 W' h' => h.wr h0 W' (grown_trans hW h'), fun h0 W' h' => h.rd h0 W' (grown_trans hW h'), h.len⟩
theorem StAt.drop {w : World} {p : Option Addr} {a i : Nat} {cs : List Value} (h : StAt w p (a + i) cs) : StAt w (Option.map (fun x => x.add (a * 10)) p) i cs := by
  obtain ⟨b, o, k, pn, nn, cn, e1, e2, e3, p1, n1, c1, p2, n2, c2, p3, n3, c3, e7, o9, rfl, h2, a0, a1, a2, a3, a4, a5, a6, a7, a8, a9⟩ := h
  have e : o + (a + i) * 10 = o + a * 10 + i * 10 := by omega
  rw [e] at a0 a1 a2 a3 a4 a5 a6 a7 a8 a9
  exact ⟨b, o + a * 10, k, pn, nn, cn, e1, e2, e3, p1, n1, c1, p2, n2, c2, p3, n3, c3, e7, o9, by rw [Option.map_some, add_addr], h2, a0, a1, a2, a3, a4, a5, a6, a7, a8, a9⟩
theorem cnt_step (l : List UInt8) (k : Nat) (hk : k < l.length) : (l.take (k + 1)).count 10 = (l.take k).count 10 + if l[k] = 10 then 1 else 0 := by
  rw [List.take_succ_eq_append_getElem hk, List.count_append]
  by_cases h : l[k] = 10
  · rw [if_pos h, h]; rfl
  · rw [if_neg h, List.count_eq_zero.2 (fun hc => h (List.mem_singleton.1 hc).symm)]
set_option maxHeartbeats 64000000 in
set_option maxRecDepth 100000 in
theorem printerLines_walk (p : Option Addr) (n c m : Nat) (kk : Nat) (hkk : kk < 256) (K : Nat → Int) (G : Nat → Tr) (C : Nat → List Value) (w : World) (Tq : Tb w) (TP : Tp w) (hc : n ≤ c ∧ c ≤ 9223372036854775807) (hC : ∀ i, i < n → StAt w p i (C i))
    (hG : ∀ i, i < n → (∃ L, StOk w (C i) (K i) L m (G i) ∧ L.length ≤ 1048576) ∧ DgF m (G i) ∧ szF m (G i) ≤ 1048576) :
    Calls Tryz.prog 7 #[.agg #[.slice p n c], .int .u8 kk] w fun e w' => e = .returned (.bool true) ∧ w.grownBy w' none := by
  have hW := World.grownBy_alloc w (.cells #[.slice p n c] 38 (0, 0)) none
  have k0 : (w.alloc (.cells #[.slice p n c] 38 (0, 0))).cell? ⟨w.heap.size, 0, none⟩ = some (.slice p n c) := by simp
  obtain ⟨sm, hsm⟩ := ex_bool ((∀ i, i < n → (cntF m (G i) : Int) ≤ 300 ∧ ShT m (G i)) ∧ n ≤ 60)
  have HSM := hid fun W (hW : w.grownBy W none) => small_ok p n c m K G C sm W hc (fun i hi => (hC i hi).keep hW) (fun i hi => by
    obtain ⟨⟨L, h1, _⟩, _⟩ := hG i hi
    exact ⟨L, h1.keep hW⟩) hsm
  cases sm with
  | false =>
    clear Tq TP hC hG hsm hc
    go_enter Tryz.func7, Tryz.ntmps7
    go_upto_region 1 with fail
    generalize (w.alloc _) = w0 at *
    go_wp2_with (first | (go_at_call 10; (with_reducible refine (HSM.out _ hW).mono ?_); rintro e w1 ⟨rfl, hg⟩; replace hW := grown_trans hW hg; replace k0 := hg.cell k0 (by simp); clear hg))
    go_ret
    exact ⟨rfl, hW⟩
  | true =>
    obtain ⟨hsh, hn60⟩ := hsm.1 rfl
    obtain ⟨X, T, hP⟩ := packsN n m K G C w Tq TP hG (fun i hi => (hsh i hi).2)
    obtain ⟨r, hr⟩ : ∃ r, scanP X 0 n = r := ⟨_, rfl⟩
    have HPP := hid fun W (hW : w.grownBy W none) => pProgram_n p n c C X T W hc (fun i hi => (hC i hi).keep hW) (fun i hi => (hP i hi).1.keep hW) r hr
    obtain ⟨E, hE⟩ : ∃ E, E = anE r.2 (PT T n) := ⟨_, rfl⟩
    rw [← hE] at HPP
    by_cases hE0 : E = 0
    rotate_left
    · have hq : (E != 0) = true := by simpa using hE0
      clear Tq TP hC hG hsm hc hP hr hsh hn60 hE hE0
      go_enter Tryz.func7, Tryz.ntmps7
      go_upto_region 1 with fail
      generalize (w.alloc _) = w0 at *
      go_wp2_with (first | (go_at_call 10; (with_reducible refine (HSM.out _ hW).mono ?_); rintro e w1 ⟨rfl, hg⟩; replace hW := grown_trans hW hg; replace k0 := hg.cell k0 (by simp); clear hg) | (go_at_call 11; (with_reducible refine (HPP.out _ hW).mono ?_); rintro e w1 ⟨rfl, hg⟩; replace hW := grown_trans hW hg; replace k0 := hg.cell k0 (by simp); clear hg))
      go_ret
      exact ⟨rfl, hW⟩
    · rw [hE0] at hE
      have hr2 : r.2 = 0 := by
        by_cases h : r.2 = 0
        · exact h
        · unfold anE at hE; rw [if_neg h] at hE; exact absurd hE.symm h
      have hlen : (PT T n).length ≤ 20000 := by
        unfold anE at hE
        rw [if_pos hr2] at hE
        by_cases h : 20000 < (PT T n).length
        · rw [if_pos h] at hE; cases hE
        · omega
      have hX0 : ∀ i, i < n → X i = 0 := fun i hi => scanP_zero (n := n) 0 (Nat.zero_le _) (by rw [Nat.sub_zero, hr]; exact hr2) i (Nat.zero_le _) hi
      have hcnt : (PT T n).count 10 = n := PT_cnt fun i hi => (hP i hi).2 (hX0 i hi)
      have han : ∀ l : List UInt8, l.length ≤ 20000 → anT 0 l = l ∧ anE 0 l = 0 := fun l hl => ⟨by unfold anT; rw [if_pos rfl, if_neg (by omega)], by unfold anE; rw [if_pos rfl, if_neg (by omega)]⟩
      rw [hr2, (han _ hlen).1, hE0] at HPP
      -- the place
      obtain ⟨at', hat⟩ : ∃ a, a = kk % (n + 1) := ⟨_, rfl⟩
      have hatn : at' ≤ n := by rw [hat]; exact Nat.le_of_lt_succ (Nat.mod_lt _ (Nat.succ_pos _))
      have hsp := PT_split (T := T) at' (n - at')
      rw [show at' + (n - at') = n by omega] at hsp
      have hl1 : (PT T at').length ≤ 20000 := by
        have := congrArg List.length hsp
        rw [List.length_append] at this
        omega
      have hl2 : (PT (fun i => T (at' + i)) (n - at')).length ≤ 20000 := by
        have := congrArg List.length hsp
        rw [List.length_append] at this
        omega
      have HPA : Hid (∀ W, w.grownBy W none → Calls Tryz.prog 11 #[.agg #[.slice p at' c]] W fun e w' => e = .returned (.tuple #[str (PT T at'), .int .i64 0]) ∧ W.grownBy w' none) := hid (fun W hW => by
        have := pProgram_n p at' c C X T W ⟨by omega, hc.2⟩ (fun i hi => (hC i (by omega)).keep hW) (fun i hi => (hP i (by omega)).1.keep hW) (0, 0) (scanP_all at' 0 fun i _ h2 => hX0 i (by omega))
        rw [(han _ hl1).1, (han _ hl1).2] at this
        exact this)
      have HPB : Hid (∀ (q : Option Addr), (∀ i, i < n - at' → StAt w q i (C (at' + i))) → ∀ W, w.grownBy W none → Calls Tryz.prog 11 #[.agg #[.slice q (n - at') (c - at')]] W fun e w' => e = .returned (.tuple #[str (PT (fun i => T (at' + i)) (n - at')), .int .i64 0]) ∧ W.grownBy w' none) := hid (fun q hq W hW => by
        have := pProgram_n q (n - at') (c - at') (fun i => C (at' + i)) (fun i => X (at' + i)) (fun i => T (at' + i)) W ⟨by omega, by omega⟩ (fun i hi => (hq i hi).keep hW) (fun i hi => (hP (at' + i) (by omega)).1.keep hW) (0, 0) (scanP_all (n - at') 0 fun i _ h2 => hX0 (at' + i) (by omega))
        rw [(han _ hl2).1, (han _ hl2).2] at this
        exact this)
      have HP0 : Hid (∀ (q : Option Addr), n - at' = 0 → ∀ W, w.grownBy W none → Calls Tryz.prog 11 #[.agg #[.slice q (n - at') 0]] W fun e w' => e = .returned (.tuple #[str (PT (fun i => T (at' + i)) (n - at')), .int .i64 0]) ∧ W.grownBy w' none) := hid (fun q h0 W hW => by
        have := pProgram_n q (n - at') 0 (fun i => C (at' + i)) (fun i => X (at' + i)) (fun i => T (at' + i)) W ⟨by omega, by omega⟩ (fun i hi => absurd hi (by omega)) (fun i hi => absurd hi (by omega)) (0, 0) (scanP_all (n - at') 0 fun i _ h2 => absurd h2 (by omega))
        rw [(han _ hl2).1, (han _ hl2).2] at this
        exact this)
      have HC := hid hC
      generalize hA : PT T at' = TA at *
      generalize hB : PT (fun i => T (at' + i)) (n - at') = TB at *
      generalize PT T n = TT at *
      have HSP := hid hsp
      have HCN := hid hcnt
      have HAT := hid hat
      have hc1 := hc.1
      have hc2 := hc.2
      clear Tq TP hC hG hsm hc hP hr hsh hE hE0 hr2 hX0 hcnt hsp hat han hA hB
      go_enter Tryz.func7, Tryz.ntmps7
      go_upto_region 1 with fail
      generalize (w.alloc _) = w0 at *
      go_wp2_with (first | (go_at_call 10; (with_reducible refine (HSM.out _ hW).mono ?_); rintro e w1 ⟨rfl, hg⟩; replace hW := grown_trans hW hg; replace k0 := hg.cell k0 (by simp); clear hg) | (go_at_call 11; (with_reducible refine (HPP.out _ hW).mono ?_); rintro e w1 ⟨rfl, hg⟩; replace hW := grown_trans hW hg; replace k0 := hg.cell k0 (by simp); clear hg))
      have htl : ((⟨TT.toArray⟩ : ByteArray).size : Int) = (TT.length : Int) := by show ((TT.toArray.size : Nat) : Int) = _; rw [List.size_toArray]
      have HW := hid hW
      have HK := hid k0
      clear hW k0
      go_loopw [7, 25] (fun y z wr => ∃ i : Nat, i ≤ TT.length ∧ y = .int .i64 ((TT.take i).count 10 : Nat) ∧ z = .int .i64 i ∧ wr = w1) (fun _ z _ => TT.length - (intOf z).toNat)
      case atStart => exact ⟨0, Nat.zero_le _, rfl, rfl, rfl⟩
      case round =>
        obtain ⟨i, hi, rfl, rfl, rfl⟩ := hrel
        by_cases hlt : i < TT.length
        · have hix := fun w => idxS TT i hlt w
          have HST := hid (cnt_step TT i hlt)
          have hcb : (TT.take i).count 10 ≤ 20000 := Nat.le_trans List.count_le_length (by simp; omega)
          generalize (TT.take i).count 10 = cn at *
          by_cases hd : TT[i] = 10
          · have hdn : (TT[i].toNat : Int) = 10 := by rw [hd]; rfl
            rw [hdn] at hix
            rw [if_pos hd] at HST
            clear hd hdn
            go_wp2_with fail
            exact ⟨⟨i + 1, by omega, by rw [HST.out]; go_num, by go_num, by trivial⟩, by simp [intOf]; omega⟩
          · have hdn : ((TT[i].toNat : Int) == 10) = false := by
              rw [beq_eq_false_iff_ne]
              intro h
              exact hd (UInt8.toNat_inj.1 (by have h10 : (10 : UInt8).toNat = 10 := rfl; omega))
            rw [if_neg hd] at HST
            generalize (TT[i].toNat : Int) = dv at *
            clear hd
            go_wp2_with fail
            exact ⟨⟨i + 1, by omega, by rw [HST.out]; rfl, by go_num, by trivial⟩, by simp [intOf]; omega⟩
        · obtain rfl : i = TT.length := by omega
          rw [List.take_of_length_le (Nat.le_refl _), HCN.out]
          have hW := HW.out
          have k0 := HK.out
          go_upto_region 14 with fail
          have hkm : (kk : Int) % ((n : Int) + 1) = (at' : Int) := by rw [HAT.out]; simp
          rw [hkm]
          clear hkm
          have hcat : ∀ w, (Op.stringOp .add ⟨TA.toArray⟩ ⟨TB.toArray⟩).run Tryz.prog w = .ok (str TT) w := fun w => by rw [cat_lst TA TB (by omega) w, HSP.out]
          have HDR : Hid (∀ i, i < n - at' → StAt w (Option.map (fun x => x.add (at' * 10)) p) i (C (at' + i))) := hid (fun i hi => (HC.out (at' + i) (by omega)).drop)
          go_wp2_with (first | (go_at_call 11; (with_reducible refine (HPA.out _ hW).mono ?_); rintro e w1 ⟨rfl, hg⟩; replace hW := grown_trans hW hg; replace k0 := hg.cell k0 (by simp); clear hg) | (go_at_call 11; (with_reducible refine ((HPB.out _ HDR.out) _ hW).mono ?_); rintro e w2 ⟨rfl, hg⟩; replace hW := grown_trans hW hg; replace k0 := hg.cell k0 (by simp); clear hg) | (go_at_call 11; (with_reducible refine (HP0.out _ (by omega) _ hW).mono ?_); rintro e w2 ⟨rfl, hg⟩; replace hW := grown_trans hW hg; replace k0 := hg.cell k0 (by simp); clear hg))
          all_goals (go_ret; exact ⟨rfl, hW⟩)
end Go.Proofs.YtiaonbofkgkdhaaGreatDoor
