/-
  Contract of the reference's Names.
-/
import Derived.Test.YtlkajmfpbgipbaaAstN
import Derived.Maps.AppendAt
set_option linter.unusedVariables false
set_option linter.unusedSimpArgs false
namespace Go.Proofs.Ytlkajmfpbgipbaa
open Go.RowKit _root_.Nm
theorem infoStr : (Try.prog.info? 9).map (fun i => (i.zero, i.size, i.bytes)) = some (some (.string ⟨#[]⟩), 1, 16) := by kernel_rfl
theorem strZ : (Value.string ⟨#[]⟩).cells.size = 1 := rfl
theorem one_pos : 0 < 1 := by decide
theorem one_srd1 (w : World) (e : TypeId) (x : Value) (b : Nat) (hb : b = w.heap.size) : SRd (w.alloc (.cells #[x] e)) 1 (some ⟨b, 0, none⟩) 1 1 [[x]] := one_srd w e 1 [x] rfl b hb
theorem str_one (d : ByteArray) : ∀ u ∈ [Value.string d], u.oneCell' = true := by
  intro u hu
  rw [List.mem_singleton.1 hu]; rfl
theorem NOwn.keepA {w w' : World} {base : Nat} {p : Option Addr} {n c : Nat} {L : List ByteArray} (h : NOwn w base p n c L) (hg : w.grownBy w' none) (O : Obj) : NOwn (w'.alloc O) base p n c L := SOwn.alloc (SOwn.keep h hg) O
/-- beside the own list p lies the list q, which reads as D -/
structure Bes (w : World) (q : Option Addr) (nq cq : Nat) (D : List ByteArray) (p : Option Addr) : Prop where
  rd : NRd w q nq cq D
  lt : ∀ a, q = some a → a.block < w.heap.size
  ne : ∀ a b, q = some a → p = some b → a.block ≠ b.block
theorem Bes.keep {w w' : World} {q p : Option Addr} {nq cq : Nat} {D : List ByteArray} (h : Bes w q nq cq D p) (hg : w.grownBy w' none) : Bes w' q nq cq D p :=
  ⟨h.rd.keep hg, fun a e => Nat.lt_of_lt_of_le (h.lt a e) hg.size, h.ne⟩
section
variable {ops : Array Oper} {rest : List Oper} {o : Oper} {a : Act} {Q : Exit → Act → World → Prop}
/-- append of one string, a new slice, to a list of the call's own; the list beside it stays -/
theorem nls_append (w : World) (hgd : o.guard = none) (s x : Operand) (t : TypeId)
    (ho : o.op = .call { callee := .builtin .append, args := #[s, x], argTypes := #[t, t] }) (h1 : Try.prog.underlying t = some (.slice 9))
    (base : Nat) (p : Option Addr) (n c : Nat) (L : List ByteArray) (hs : a.eval s = .slice p n c) (hown : NOwn w base p n c L)
    (sp : Option Addr) (c' : Nat) (d : ByteArray) (hx : a.eval x = .slice sp 1 c') (hrd : SRd w 1 sp 1 c' [[.string d]])
    (b1 : n + 1 ≤ 9223372036854775807) (b2 : (n + 1) * 16 ≤ 140737488355328) (w0 : World) (hg0 : w0.grownBy w none) (hb0 : w0.heap.size ≤ base) (hbase : base ≤ w.heap.size)
    (q : Option Addr) (nq cq : Nat) (D : List ByteArray) (hb : Bes w q nq cq D p)
    (hK : ∀ p' c2 w', NOwn w' base p' (n + 1) c2 (L ++ [d]) → w0.grownBy w' none → Bes w' q nq cq D p' → wpList Try.prog ops Q rest (a.put o.dst (.slice p' (n + 1) c2)) w') : wpList Try.prog ops Q (o :: rest) a w := by
  obtain ⟨i, hi, hz0, hz1, hz2⟩ := info_parts infoStr
  obtain ⟨b, o', rfl, hc⟩ := hrd.at one_pos (i := 0) (by simp)
  refine wpList_append_own_at w hgd s x t ho base 9 i _ 1 16 h1 hi hz0 hz1 hz2 strZ one_pos _ n (L.map fun d => [Value.string d]).flatten hs hown.2.2 ⟨b, o', none⟩ 1 c' [.string d] hx rfl ?_ (str_one d) (by unfold maxLen; omega) b2 hbase ?_
  · intro j u hu
    obtain ⟨hj, rfl⟩ := List.getElem?_eq_some_iff.1 hu
    have := hc j (by simpa using hj)
    rw [add_addr]
    simpa using this
  · intro v' w' hown' hgr _ hat
    obtain ⟨hl, h3⟩ := hown'
    have hv' : ∃ p' c2, v' = .slice p' (n + 1) c2 := by
      rcases h3 with ⟨rfl, h4⟩ | ⟨g, cap, cur, rfl, _⟩
      · exact ⟨none, 0, by rw [h4]⟩
      · exact ⟨_, _, rfl⟩
    obtain ⟨p', c2, rfl⟩ := hv'
    have hne : ∀ a, q = some a → some a.block ≠ (Value.slice p n c).ownBlock := by
      intro a ha
      cases p with
      | none => simp [Value.ownBlock]
      | some b => simpa [Value.ownBlock] using hb.ne a b ha rfl
    refine hK p' c2 w' ⟨by have := hown.1; simp at this ⊢; exact this, ?_, ?_⟩ (grown_new hg0 hgr fun g hg => ?_) ⟨SRd.kept hb.rd hgr (.inr hne), fun a e => Nat.lt_of_lt_of_le (hb.lt a e) hgr.size, ?_⟩
    · intro r hr
      obtain ⟨d', _, rfl⟩ := List.mem_map.1 hr
      rfl
    · rw [List.map_append, List.flatten_append]
      exact ⟨hl, h3⟩
    · cases p with
      | none => simp [Value.ownBlock] at hg
      | some q' =>
        simp [Value.ownBlock] at hg
        have := (SOwn.lt hown q' rfl).1
        omega
    · intro a b ha hb'
      subst hb'
      rcases hat with h | h
      · have := hne a ha
        rw [← h] at this
        simpa [Value.ownBlock] using this
      · have := hb.lt a ha
        simp [Value.ownBlock] at h
        omega
end
/-- the names of the first k arguments, behind the node's own -/
noncomputable def accN (m : Nat) (h : Hd) (l : List Tr) (k : Nat) : List ByteArray := ded ((if h.k = 1 then [h.nm] else []) ++ ((l.take k).map (preF m)).flatten)
theorem accN_zero (m : Nat) (h : Hd) (l : List Tr) : accN m h l 0 = if h.k = 1 then [h.nm] else [] := by
  unfold accN ded
  by_cases e : h.k = 1
  · rw [if_pos e]; simp [add1]
  · rw [if_neg e]; simp
theorem accN_succ (m : Nat) (h : Hd) (l : List Tr) {k : Nat} (hk : k < l.length) : accN m h l (k + 1) = (ded (preF m l[k])).foldl add1 (accN m h l k) := by
  unfold accN
  rw [List.take_add_one, List.getElem?_eq_getElem hk, List.map_append, List.flatten_append, ← List.append_assoc]
  unfold ded
  rw [List.foldl_append, adds_ded]
  simp
theorem accN_last (m : Nat) (h : Hd) (l : List Tr) {k : Nat} (hk : l.length ≤ k) : accN m h l k = ded (preF (m + 1) (.node h l)) := by
  unfold accN
  rw [List.take_of_length_le hk]
  rfl
theorem pre_len (m : Nat) (h : Hd) (l : List Tr) {k : Nat} (hk : k < l.length) : (preF m l[k]).length ≤ (preF (m + 1) (.node h l)).length := by
  show _ ≤ ((if h.k = 1 then [h.nm] else []) ++ (l.map (preF m)).flatten).length
  rw [List.length_append]
  have : (preF m l[k]) ∈ l.map (preF m) := List.mem_map.2 ⟨_, List.getElem_mem hk, rfl⟩
  have h2 : ∀ (L : List (List ByteArray)) (x : List ByteArray), x ∈ L → x.length ≤ L.flatten.length := by
    intro L
    induction L with
    | nil => intro x hx; cases hx
    | cons a r ih =>
      intro x hx
      rw [List.flatten_cons, List.length_append]
      rcases List.mem_cons.1 hx with e | e
      · subst e; omega
      · have := ih x e; omega
  have := h2 _ _ this
  omega
theorem acc_len (m : Nat) (h : Hd) (l : List Tr) (k : Nat) : (accN m h l k).length ≤ (preF (m + 1) (.node h l)).length := by
  unfold accN
  refine Nat.le_trans (ded_len _) ?_
  show _ ≤ ((if h.k = 1 then [h.nm] else []) ++ (l.map (preF m)).flatten).length
  rw [List.length_append, List.length_append]
  have : ((l.take k).map (preF m)).flatten.length ≤ (l.map (preF m)).flatten.length := by
    have e : (l.map (preF m)).flatten = ((l.take k).map (preF m)).flatten ++ ((l.drop k).map (preF m)).flatten := by
      rw [← List.flatten_append, ← List.map_append, List.take_append_drop]
    rw [e, List.length_append]; omega
  omega

set_option maxHeartbeats 8000000 in
set_option maxRecDepth 100000 in
theorem rnames_any : ∀ (m : Nat) (cs : List Value) (t : Tr) (w : World), ERd w m cs t → (preF m t).length ≤ 1048576 → Calls Try.prog 33 #[.agg cs.toArray] w fun e w' => ∃ p n c, e = .returned (.slice p n c) ∧ NOwn w' w.heap.size p n c (ded (preF m t)) ∧ w.grownBy w' none
  | 0, _, _, _, h, _ => h.elim
  | m + 1, cs, .node h l, w, hE, hlen => by
    have IH := hid (rnames_any m)
    obtain ⟨pn, nn, cn, pd, nd, cd, pa, na, ca, rfl, hn, hd, ⟨hla, hac, hca, hnm⟩, hargs⟩ := hE
    have HX := hid hargs
    have HLEN := hid hlen
    clear hargs hn hd hlen
    have HA := hid (World.grownBy_alloc w (.cells #[.int .i64 h.k, .string h.nm, .bool h.g, .slice pn nn cn, .slice pd nd cd, .slice pa na ca, .int .i64 h.pos] 50 (0, 0)) none)
    go_enter Try.func33, Try.ntmps33
    by_cases hk1 : h.k = 1
    · go_wp2_with (with_reducible refine wls_append _ rfl (.tmp 11) (.tmp 14) 28 rfl 9 1 (.string ⟨#[]⟩) 16 Try.underlying28 infoStr strZ one_pos w.heap.size none 0 0 [] rfl (SOwn.nil _ _ _ _) _ 1 [.string h.nm] rfl (one_srd1 _ _ _ _ (by simp)) (str_one _) (by omega) (by omega) w (grown_trans (World.grownBy_alloc _ _ _) (World.grownBy_alloc _ _ _)) (Nat.le_refl _) (by simp; omega) ?_; intro p' c2 w2 ho2 hg2 hbx; have hbr := hbx _ _ (blk1 w _ _) (fun q hq => by cases hq); obtain ⟨⟨k0, k1, k2, k3, k4, k5, k6⟩, f0, f1, f2, f3, f4, f5, f6⟩ := box7 hbr; clear hbx f0 f1 f2 f3 f4 f5 f6)
      have HS : Hid (NOwn w2 w.heap.size p' 1 c2 (accN m h l 0) ∧ w.grownBy w2 none) := hid ⟨by rw [accN_zero, if_pos hk1]; exact ho2, hg2⟩
      clear ho2 hg2 k0 k1 k2 k3 k4 k5 k6
      clear hbr
      go_loopw [3, 19] (fun z x wr => ∃ (k n c : Nat) (p : Option Addr), k ≤ na ∧ z = .slice p n c ∧ x = .int .i64 k ∧ NOwn wr w.heap.size p n c (accN m h l k) ∧ w.grownBy wr none) (fun z x _ => na - (intOf x).toNat)
      case atStart => exact ⟨0, _, _, _, Nat.zero_le _, rfl, rfl, HS.out.1, HS.out.2⟩
      case round =>
        clear HS
        obtain ⟨k, n, c, p, hk, rfl, rfl, hO, hg⟩ := hrel
        by_cases hlt : k < na
        · obtain ⟨b, o, cs', rfl, h7, hc, hE⟩ := HX.out k (by omega)
          obtain ⟨e1, e2, e3, pn', nn', cn', pd', nd', cd', pa', na', ca', e7, rfl⟩ := hE.shape
          have c0 := hg.cell (hc 0 (by simp)) (by simp)
          have c1 := hg.cell (hc 1 (by simp)) (by simp)
          have c2 := hg.cell (hc 2 (by simp)) (by simp)
          have c3 := hg.cell (hc 3 (by simp)) (by simp)
          have c4 := hg.cell (hc 4 (by simp)) (by simp)
          have c5 := hg.cell (hc 5 (by simp)) (by simp)
          have c6 := hg.cell (hc 6 (by simp)) (by simp)
          simp only [List.getElem_cons_zero, List.getElem_cons_succ, Nat.add_zero] at c0 c1 c2 c3 c4 c5 c6
          have HE := hid (ERd.keep (grown_trans hg (World.grownBy_alloc wr (.cells #[.int .i64 e1, .string e2, .bool e3, .slice pn' nn' cn', .slice pd' nd' cd', .slice pa' na' ca', .int .i64 e7] 50 (0, 0)) none)) hE)
          have hacc : (accN m h l k).length ≤ 1048576 := Nat.le_trans (acc_len m h l k) HLEN.out
          have hpl : (preF m l[k]).length ≤ 1048576 := Nat.le_trans (pre_len m h l (by omega)) HLEN.out
          have HPL := hid hpl
          have HSU := hid (accN_succ m h l (k := k) (by omega))
          have HO := hid hO
          have hszw := hg.size
          clear hc hE h7 hO
          generalize l[k] = t at *
          obtain ⟨⟨k0, k1, k2, k3, k4, k5, k6⟩, f0, f1, f2, f3, f4, f5, f6⟩ := box7 (blk0 wr (zeroE 50))
          unfold zeroE at k0 k1 k2 k3 k4 k5 k6 f0 f1 f2 f3 f4 f5 f6
          go_wp2_with (go_at_call 33; refine (IH.out _ _ _ HE.out HPL.out).mono ?_; rintro e w2 ⟨q, nq, cq, rfl, hD', hg2⟩; have hD : NRd w2 q nq cq (ded (preF m t)) := SOwn.rd hD'; have HB2 := hid (Bes.mk (p := p) hD (fun a e => (SOwn.lt hD' a e).2) (fun a b ha hb' => by have h1 := (SOwn.lt hD' a ha).1; have h2 := (SOwn.lt HO.out b hb').2; simp at h1; omega)); clear hD'; have hdl : (ded (preF m t)).length ≤ 1048576 := Nat.le_trans (ded_len _) HPL.out; have HW2 := hid (grown_trans hg (grown_trans (World.grownBy_alloc wr (.cells #[.int .i64 e1, .string e2, .bool e3, .slice pn' nn' cn', .slice pd' nd' cd', .slice pa' na' ca', .int .i64 e7] 50 (0, 0)) none) hg2)); have HO2 := hid ((HO.out.alloc (.cells #[.int .i64 e1, .string e2, .bool e3, .slice pn' nn' cn', .slice pd' nd' cd', .slice pa' na' ca', .int .i64 e7] 50 (0, 0))).keep hg2); have hs2 := HW2.out.size)
          have hDl := hD.len
          have hDc := SRd.cap hD
          have hDm := SRd.max hD
          clear hD k0 k1 k2 k3 k4 k5 k6 f0 f1 f2 f3 f4 f5 f6 c0 c1 c2 c3 c4 c5 c6
          generalize ded (preF m t) = D at *
          clear HE
          clear HO
          go_loopw [3, 26] (fun z x wi => ∃ (j n c : Nat) (p : Option Addr), j ≤ nq ∧ z = .slice p n c ∧ x = .int .i64 j ∧ NOwn wi w.heap.size p n c ((D.take j).foldl add1 (accN m h l k)) ∧ w.grownBy wi none ∧ Bes wi q nq cq D p) (fun z x _ => nq - (intOf x).toNat)
          case atStart => exact ⟨0, _, _, _, Nat.zero_le _, rfl, rfl, HO2.out, HW2.out, HB2.out⟩
          case round =>
            clear HO2 HB2
            obtain ⟨j, n, c, p, hj, rfl, rfl, hO, hgi, hB⟩ := hrel
            have HBS := hid hB
            clear hB
            by_cases hjl : j < nq
            · obtain ⟨bq, oq, rfl, e1⟩ := HBS.out.rd.at1 (i := j) (by omega)
              have hsi := hgi.size
              have hnl : ((D.take j).foldl add1 (accN m h l k)).length = n := by have := hO.1; simpa using this
              have hnb : n ≤ 2097152 := by
                have := adds_len (D.take j) (accN m h l k)
                rw [List.length_take] at this
                omega
              have HJ : Hid ((D.take (j + 1)).foldl add1 (accN m h l k) = add1 ((D.take j).foldl add1 (accN m h l k)) (D[j]'(by omega))) := hid (by
                rw [List.take_add_one, List.getElem?_eq_getElem (by omega), List.foldl_append]; rfl)
              have HN : Hid (NRd wr p n c ((D.take j).foldl add1 (accN m h l k))) := hid (SOwn.rd hO)
              have HOI := hid hO
              clear hO
              clear hnl
              generalize (D.take j).foldl add1 (accN m h l k) = A at *
              generalize D[j] = y at *
              by_cases hm : y ∈ A
              · have HH := hid (has_any p n c A y true (by simp [hm]))
                rw [add1_old hm] at HJ
                clear hm
                go_wp2_with (go_at_call 58; (with_reducible refine (HH.out _ HN.out).mono ?_); rintro e w3 ⟨rfl, hg3⟩)
                exact ⟨⟨j + 1, n, c, p, by omega, rfl, by go_num, by rw [HJ.out]; exact SOwn.keep HOI.out hg3, grown_trans hgi hg3, HBS.out.keep hg3⟩, by simp [intOf]; omega⟩
              · have HH := hid (has_any p n c A y false (by simp [hm]))
                rw [add1_new hm] at HJ
                clear hm
                go_wp2_with (first | (go_at_call 58; (with_reducible refine (HH.out _ HN.out).mono ?_); rintro e w3 ⟨rfl, hg3⟩; have hs3 := hg3.size) | (with_reducible refine nls_append _ rfl (.tmp 34) (.tmp 36) 28 rfl Try.underlying28 w.heap.size _ _ _ A rfl (HOI.out.keepA hg3 _) _ 1 y rfl (one_srd1 _ _ _ _ (by simp)) (by omega) (by omega) w (grown_trans hgi (grown_trans hg3 (World.grownBy_alloc _ _ _))) (Nat.le_refl _) (by simp; omega) _ nq cq D (HBS.out.keep (grown_trans hg3 (World.grownBy_alloc _ _ _))) ?_; intro p' c2 w2' ho2 hg2' hB2))
                refine ⟨⟨j + 1, n + 1, c2, p', by omega, rfl, by go_num, by rw [HJ.out]; exact ho2, hg2', hB2⟩, by simp [intOf]; omega⟩
            · obtain rfl : j = nq := by omega
              go_wp2_with fail
              rw [List.take_of_length_le (by omega), ← HSU.out] at hO
              skip
              exact ⟨⟨k + 1, n, c, p, by omega, rfl, by go_num, hO, hgi⟩, by simp [intOf]; omega⟩
        · obtain rfl : k = na := by omega
          go_wp2_with fail
          go_ret
          rw [accN_last m h l (by omega)] at hO
          exact ⟨p, n, c, rfl, hO, hg⟩
    · have hbr := blk0 w (.cells #[.int .i64 h.k, .string h.nm, .bool h.g, .slice pn nn cn, .slice pd nd cd, .slice pa na ca, .int .i64 h.pos] 50 (0, 0))
      go_wp2_with fail
      have HS : Hid (NOwn (w.alloc (.cells #[.int .i64 h.k, .string h.nm, .bool h.g, .slice pn nn cn, .slice pd nd cd, .slice pa na ca, .int .i64 h.pos] 50 (0, 0))) w.heap.size none 0 0 (accN m h l 0) ∧ w.grownBy (w.alloc (.cells #[.int .i64 h.k, .string h.nm, .bool h.g, .slice pn nn cn, .slice pd nd cd, .slice pa na ca, .int .i64 h.pos] 50 (0, 0))) none) := hid ⟨by rw [accN_zero, if_neg hk1]; exact SOwn.nil _ _ _ _, HA.out⟩
      rename (h.k == 1) = false => hkf
      clear hkf hk1
      clear hbr
      go_loopw [3, 19] (fun z x wr => ∃ (k n c : Nat) (p : Option Addr), k ≤ na ∧ z = .slice p n c ∧ x = .int .i64 k ∧ NOwn wr w.heap.size p n c (accN m h l k) ∧ w.grownBy wr none) (fun z x _ => na - (intOf x).toNat)
      case atStart => exact ⟨0, _, _, _, Nat.zero_le _, rfl, rfl, HS.out.1, HS.out.2⟩
      case round =>
        clear HS
        obtain ⟨k, n, c, p, hk, rfl, rfl, hO, hg⟩ := hrel
        by_cases hlt : k < na
        · obtain ⟨b, o, cs', rfl, h7, hc, hE⟩ := HX.out k (by omega)
          obtain ⟨e1, e2, e3, pn', nn', cn', pd', nd', cd', pa', na', ca', e7, rfl⟩ := hE.shape
          have c0 := hg.cell (hc 0 (by simp)) (by simp)
          have c1 := hg.cell (hc 1 (by simp)) (by simp)
          have c2 := hg.cell (hc 2 (by simp)) (by simp)
          have c3 := hg.cell (hc 3 (by simp)) (by simp)
          have c4 := hg.cell (hc 4 (by simp)) (by simp)
          have c5 := hg.cell (hc 5 (by simp)) (by simp)
          have c6 := hg.cell (hc 6 (by simp)) (by simp)
          simp only [List.getElem_cons_zero, List.getElem_cons_succ, Nat.add_zero] at c0 c1 c2 c3 c4 c5 c6
          have HE := hid (ERd.keep (grown_trans hg (World.grownBy_alloc wr (.cells #[.int .i64 e1, .string e2, .bool e3, .slice pn' nn' cn', .slice pd' nd' cd', .slice pa' na' ca', .int .i64 e7] 50 (0, 0)) none)) hE)
          have hacc : (accN m h l k).length ≤ 1048576 := Nat.le_trans (acc_len m h l k) HLEN.out
          have hpl : (preF m l[k]).length ≤ 1048576 := Nat.le_trans (pre_len m h l (by omega)) HLEN.out
          have HPL := hid hpl
          have HSU := hid (accN_succ m h l (k := k) (by omega))
          have HO := hid hO
          have hszw := hg.size
          clear hc hE h7 hO
          generalize l[k] = t at *
          obtain ⟨⟨k0, k1, k2, k3, k4, k5, k6⟩, f0, f1, f2, f3, f4, f5, f6⟩ := box7 (blk0 wr (zeroE 50))
          unfold zeroE at k0 k1 k2 k3 k4 k5 k6 f0 f1 f2 f3 f4 f5 f6
          go_wp2_with (go_at_call 33; refine (IH.out _ _ _ HE.out HPL.out).mono ?_; rintro e w2 ⟨q, nq, cq, rfl, hD', hg2⟩; have hD : NRd w2 q nq cq (ded (preF m t)) := SOwn.rd hD'; have HB2 := hid (Bes.mk (p := p) hD (fun a e => (SOwn.lt hD' a e).2) (fun a b ha hb' => by have h1 := (SOwn.lt hD' a ha).1; have h2 := (SOwn.lt HO.out b hb').2; simp at h1; omega)); clear hD'; have hdl : (ded (preF m t)).length ≤ 1048576 := Nat.le_trans (ded_len _) HPL.out; have HW2 := hid (grown_trans hg (grown_trans (World.grownBy_alloc wr (.cells #[.int .i64 e1, .string e2, .bool e3, .slice pn' nn' cn', .slice pd' nd' cd', .slice pa' na' ca', .int .i64 e7] 50 (0, 0)) none) hg2)); have HO2 := hid ((HO.out.alloc (.cells #[.int .i64 e1, .string e2, .bool e3, .slice pn' nn' cn', .slice pd' nd' cd', .slice pa' na' ca', .int .i64 e7] 50 (0, 0))).keep hg2); have hs2 := HW2.out.size)
          have hDl := hD.len
          have hDc := SRd.cap hD
          have hDm := SRd.max hD
          clear hD k0 k1 k2 k3 k4 k5 k6 f0 f1 f2 f3 f4 f5 f6 c0 c1 c2 c3 c4 c5 c6
          generalize ded (preF m t) = D at *
          clear HE
          clear HO
          go_loopw [3, 26] (fun z x wi => ∃ (j n c : Nat) (p : Option Addr), j ≤ nq ∧ z = .slice p n c ∧ x = .int .i64 j ∧ NOwn wi w.heap.size p n c ((D.take j).foldl add1 (accN m h l k)) ∧ w.grownBy wi none ∧ Bes wi q nq cq D p) (fun z x _ => nq - (intOf x).toNat)
          case atStart => exact ⟨0, _, _, _, Nat.zero_le _, rfl, rfl, HO2.out, HW2.out, HB2.out⟩
          case round =>
            clear HO2 HB2
            obtain ⟨j, n, c, p, hj, rfl, rfl, hO, hgi, hB⟩ := hrel
            have HBS := hid hB
            clear hB
            by_cases hjl : j < nq
            · obtain ⟨bq, oq, rfl, e1⟩ := HBS.out.rd.at1 (i := j) (by omega)
              have hsi := hgi.size
              have hnl : ((D.take j).foldl add1 (accN m h l k)).length = n := by have := hO.1; simpa using this
              have hnb : n ≤ 2097152 := by
                have := adds_len (D.take j) (accN m h l k)
                rw [List.length_take] at this
                omega
              have HJ : Hid ((D.take (j + 1)).foldl add1 (accN m h l k) = add1 ((D.take j).foldl add1 (accN m h l k)) (D[j]'(by omega))) := hid (by
                rw [List.take_add_one, List.getElem?_eq_getElem (by omega), List.foldl_append]; rfl)
              have HN : Hid (NRd wr p n c ((D.take j).foldl add1 (accN m h l k))) := hid (SOwn.rd hO)
              have HOI := hid hO
              clear hO
              clear hnl
              generalize (D.take j).foldl add1 (accN m h l k) = A at *
              generalize D[j] = y at *
              by_cases hm : y ∈ A
              · have HH := hid (has_any p n c A y true (by simp [hm]))
                rw [add1_old hm] at HJ
                clear hm
                go_wp2_with (go_at_call 58; (with_reducible refine (HH.out _ HN.out).mono ?_); rintro e w3 ⟨rfl, hg3⟩)
                exact ⟨⟨j + 1, n, c, p, by omega, rfl, by go_num, by rw [HJ.out]; exact SOwn.keep HOI.out hg3, grown_trans hgi hg3, HBS.out.keep hg3⟩, by simp [intOf]; omega⟩
              · have HH := hid (has_any p n c A y false (by simp [hm]))
                rw [add1_new hm] at HJ
                clear hm
                go_wp2_with (first | (go_at_call 58; (with_reducible refine (HH.out _ HN.out).mono ?_); rintro e w3 ⟨rfl, hg3⟩; have hs3 := hg3.size) | (with_reducible refine nls_append _ rfl (.tmp 34) (.tmp 36) 28 rfl Try.underlying28 w.heap.size _ _ _ A rfl (HOI.out.keepA hg3 _) _ 1 y rfl (one_srd1 _ _ _ _ (by simp)) (by omega) (by omega) w (grown_trans hgi (grown_trans hg3 (World.grownBy_alloc _ _ _))) (Nat.le_refl _) (by simp; omega) _ nq cq D (HBS.out.keep (grown_trans hg3 (World.grownBy_alloc _ _ _))) ?_; intro p' c2 w2' ho2 hg2' hB2))
                refine ⟨⟨j + 1, n + 1, c2, p', by omega, rfl, by go_num, by rw [HJ.out]; exact ho2, hg2', hB2⟩, by simp [intOf]; omega⟩
            · obtain rfl : j = nq := by omega
              go_wp2_with fail
              rw [List.take_of_length_le (by omega), ← HSU.out] at hO
              skip
              exact ⟨⟨k + 1, n, c, p, by omega, rfl, by go_num, hO, hgi⟩, by simp [intOf]; omega⟩
        · obtain rfl : k = na := by omega
          go_wp2_with fail
          go_ret
          rw [accN_last m h l (by omega)] at hO
          exact ⟨p, n, c, rfl, hO, hg⟩
end Go.Proofs.Ytlkajmfpbgipbaa
