/-
  The size of a tree in memory; arguments that are expressions, opened with their size and their digits.
-/
import Derived.Test.YtolpcclobmgneaaAstV
import Derived.Test.YtolpcclobmgneaaDig
set_option linter.unusedVariables false
set_option linter.unusedSimpArgs false
namespace Go.Proofs.Ytolpcclobmgneaa
open Go.ChangeShapes Go.WideShapes Go.ChangeAt Go.RowKit _root_.Nm

/-- the size of a tree, up to a depth: its parts, the bytes of its names and the digits of its numbers -/
def szF : Nat → Tr → Nat
  | 0, _ => 0
  | m + 1, .node h l => 1 + h.nm.size + h.num.length + h.den.length + (l.map (szF m)).sum
/-- its digits are digits -/
def DgF : Nat → Tr → Prop
  | 0, _ => True
  | m + 1, .node h l => (Dg 65536 h.num ∧ Dg 65536 h.den) ∧ ∀ i (hi : i < l.length), DgF m l[i]
theorem szF_succ (m : Nat) (h : Hd) (l : List Tr) : szF (m + 1) (.node h l) = 1 + h.nm.size + h.num.length + h.den.length + (l.map (szF m)).sum := rfl
theorem le_sum {l : List Nat} : ∀ {i : Nat} (hi : i < l.length), l[i] ≤ l.sum := by
  induction l with
  | nil => intro i hi; exact absurd hi (Nat.not_lt_zero i)
  | cons x r ih =>
    intro i hi
    rw [List.sum_cons]
    cases i with
    | zero => simp
    | succ i =>
      have := ih (i := i) (by simpa using hi)
      simp only [List.getElem_cons_succ]
      omega
theorem len_sum {l : List Nat} (h : ∀ x ∈ l, 1 ≤ x) : l.length ≤ l.sum := by
  induction l with
  | nil => simp
  | cons x r ih =>
    have h1 := h x (by simp)
    have h2 := ih (fun y hy => h y (by simp [hy]))
    rw [List.sum_cons, List.length_cons]
    omega
theorem sz_child (m : Nat) (h : Hd) (l : List Tr) {i : Nat} (hi : i < l.length) : szF m l[i] + 1 + h.num.length + h.den.length ≤ szF (m + 1) (.node h l) := by
  have := le_sum (l := l.map (szF m)) (i := i) (by simpa using hi)
  rw [List.getElem_map] at this
  rw [szF_succ]
  omega
theorem sz_pos {w : World} {m : Nat} {cs : List Value} {t : Tr} (h : ERd w m cs t) : 1 ≤ szF m t := by
  cases m with
  | zero => exact h.elim
  | succ m =>
    cases t with
    | node h l => rw [szF_succ]; omega
/-- the length of the list of arguments -/
theorem sz_len {w : World} {m : Nat} {cs : List Value} {h : Hd} {l : List Tr} (hE : ERd w (m + 1) cs (.node h l)) : l.length + 1 + h.num.length + h.den.length ≤ szF (m + 1) (.node h l) := by
  obtain ⟨pn, nn, cn, pd, nd, cd, pa, na, ca, h1, h2, h3, h4, h5⟩ := hE
  have : l.length ≤ (l.map (szF m)).sum := by
    have := len_sum (l := l.map (szF m)) (fun x hx => by
      obtain ⟨t, ht, rfl⟩ := List.mem_map.1 hx
      obtain ⟨i, hi, rfl⟩ := List.getElem_of_mem ht
      obtain ⟨_, _, cs', _, _, _, hE⟩ := h5 i hi
      exact sz_pos hE)
    simpa using this
  rw [szF_succ]
  omega
/-- sums that are each at most the bulk of a datum -/
theorem sum_bulk {H : Type} {α : Type} (f : α → Nat) : ∀ (l : List α) (ds : List (DataW H)), l.length = ds.length → (∀ i (h : i < l.length) (h' : i < ds.length), f l[i] ≤ Rows.uptoBulk ds[i]) → (l.map f).sum ≤ Rows.uptoBulkAll ds
  | [], ds, _, _ => by simp
  | x :: l, [], h, _ => by simp at h
  | x :: l, d :: ds, h, hf => by
    have h0 := hf 0 (by simp) (by simp)
    have ih := sum_bulk f l ds (by simpa using h) (fun i h1 h2 => by have := hf (i + 1) (by simp; omega) (by simp; omega); simpa using this)
    simp only [List.getElem_cons_zero] at h0
    rw [List.map_cons, List.sum_cons]
    simp only [Rows.uptoBulkAll]
    omega
theorem bulkAll_len {H : Type} : ∀ (l : List (DataW H)), l.length ≤ Rows.uptoBulkAll l
  | [] => by simp
  | d :: l => by
    have := bulkAll_len l
    have := bulk_oneA d
    simp only [Rows.uptoBulkAll, List.length_cons]
    omega

/-- the names of a tree are at most as many as its parts -/
theorem pre_sz : ∀ (m : Nat) (t : Tr), (preF m t).length ≤ szF m t
  | 0, _ => by simp [preF, szF]
  | m + 1, .node h l => by
    rw [szF_succ]
    have hf : (l.map (preF m)).flatten.length ≤ (l.map (szF m)).sum := by
      induction l with
      | nil => simp
      | cons x r ih =>
        have := pre_sz m x
        simp only [List.map_cons, List.flatten_cons, List.length_append, List.sum_cons]
        omega
    show ((if h.k = 1 then [h.nm] else []) ++ (l.map (preF m)).flatten).length ≤ _
    rw [List.length_append]
    have h1 : (if h.k = 1 then [h.nm] else []).length ≤ 1 := by split <;> simp
    omega
theorem str_bulk {H : Type} (nm : ByteArray) : nm.size + 1 ≤ Rows.uptoBulk (H := H) (.lit (.string nm.data.toList)) := by
  simp only [Rows.uptoBulk, Array.length_toList]
  exact Nat.le_refl _
section
variable {H : Type} {enc : TypeId × Value → H} {W : World}
theorem open_natW {fuel : Nat} {cs : List Value} {x : DataW H × List MemPlace} (hf : DataW.trod enc Try.prog W 0 (fun _ => true) true fuel 23 cs = some x) :
    ∃ a n c xs, cs = [.slice a n c] ∧ IRd W .u16 a n c xs ∧ Dg 65536 xs ∧ n + 1 ≤ Rows.uptoBulk x.1 := by
  rcases open_ints Try.underlying23 Try.underlying48 cells16A hf with ⟨hcs, hx⟩ | ⟨a, len', cap', zs, hcs, _, hl, hm, hz, hx, hcell, hwz⟩
  · exact ⟨none, 0, 0, [], hcs, IRd.nil W _, fun y hy => (by cases hy), by rw [hx]; simp [Rows.uptoBulk]⟩
  · simp only [if_true] at hz
    have hb : ∀ z ∈ zs, 0 ≤ z ∧ z ≤ 65535 := fun z hzm => bounds_u16 (hwz z hzm)
    refine ⟨some a, len', cap', (zs.take len').map Int.toNat, hcs, ⟨by simp; omega, hl, by unfold maxLen at hm; omega, fun j hj => ?_⟩, ?_, ?_⟩
    · have hj' : j < len' := by simp at hj; omega
      have hc := hcell j (by omega)
      have hg : zs.getD j 0 = zs[j]'(by omega) := by simp [List.getD, List.getElem?_eq_getElem (show j < zs.length by omega)]
      have hsp := World.cell?_spot (hcell 0 (by omega))
      have ha : ∃ b o, a = ⟨b, o, none⟩ := ⟨a.block, a.off, by
        cases a with
        | mk b o s => simp [Addr.add] at hsp; simp [hsp]⟩
      obtain ⟨b, o, rfl⟩ := ha
      refine ⟨b, o, rfl, ?_⟩
      rw [add_addr] at hc
      rw [hc, hg]
      have := hb _ (List.getElem_mem (show j < zs.length by omega))
      simp only [List.getElem_map, List.getElem_take]
      congr 2; omega
    · intro y hy
      obtain ⟨z, hzm, rfl⟩ := List.mem_map.1 hy
      have := hb z (List.mem_of_mem_take hzm)
      omega
    · rw [hx]
      have h1 := bulkAll_len (H := H) (lits .u16 (zs.take len'))
      have h2 : (lits (H := H) .u16 (zs.take len')).length = len' := by simp [lits]; omega
      simp only [Rows.uptoBulk]
      omega
set_option maxRecDepth 100000 in
theorem open_ratW {fuel : Nat} {cs : List Value} {x : DataW H × List MemPlace} (hf : DataW.trod enc Try.prog W 0 (fun _ => true) true fuel 27 cs = some x) (hl : cs.length = 3) :
    ∃ g a n c xs b m e ys, cs = [.bool g, .slice a n c, .slice b m e] ∧ IRd W .u16 a n c xs ∧ IRd W .u16 b m e ys ∧ (Dg 65536 xs ∧ Dg 65536 ys) ∧ n + m + 1 ≤ Rows.uptoBulk x.1 := by
  obtain ⟨y0, y1, k, hx, _, h0, h1⟩ := trod_struct2 Try.underlying27 hf
  rw [cellsIA] at h0
  obtain ⟨z0, z1, k', hx', _, g0, g1⟩ := trod_struct2 Try.underlying25 h0
  rw [cellsBoolA] at g0
  rw [cellsNatA] at g1 h1
  match cs, hl with
  | [u, v, t], _ =>
    obtain ⟨b, hbo, _⟩ := DataW.trod_bool Try.underlying4 g0
    obtain ⟨a, n, c, xs, hs, hr, hd, hn⟩ := open_natW g1
    obtain ⟨b', m, e, ys, hs1, hr1, hd1, hm⟩ := open_natW h1
    simp at hbo hs hs1
    subst hbo hs hs1
    refine ⟨b, a, n, c, xs, b', m, e, ys, rfl, hr, hr1, ⟨hd, hd1⟩, ?_⟩
    rw [hx, hx']
    simp only [Rows.uptoBulk, List.map_cons, List.map_nil, Rows.uptoBulkAll]
    omega
set_option maxRecDepth 100000 in
theorem open_exprW : ∀ (fuel : Nat) (cs : List Value) (x : DataW H × List MemPlace), DataW.trod enc Try.prog W 0 (fun _ => true) true fuel 30 cs = some x →
    ∃ t, ERd W ((fuel + 1) / 2) cs t ∧ szF ((fuel + 1) / 2) t ≤ Rows.uptoBulk x.1 ∧ DgF ((fuel + 1) / 2) t := by
  intro fuel
  induction fuel using Nat.strongRecOn with
  | _ fuel ih =>
    intro cs x hf
    obtain ⟨xs, m, rfl, rfl, hl, hlen, hfs⟩ := DataW.trod_struct Try.underlying30 hf
    rw [cellsExprA] at hl
    match cs, hl, xs, hlen with
    | [c0, c1, c2, c3, c4, c5, c6], _, [y0, y1, y2, y3, y4], _ =>
      have h0 := hfs 0 _ rfl
      have h1 := hfs 1 _ rfl
      have h2 := hfs 2 _ rfl
      have h3 := hfs 3 _ rfl
      have h4 := hfs 4 _ rfl
      clear hfs
      simp [cellsIntA, cellsStrA, cellsRatA, cellsArgsA] at h0 h1 h2 h3 h4
      obtain ⟨k, hk, _, _⟩ := DataW.trod_int Try.underlying3 h0
      obtain ⟨nm, hnm, hx1, hnl⟩ := DataW.trod_string Try.underlying9 h1
      obtain ⟨g, pn, nn, cn, num, pd, nd, cd, den, hr, hn, hd, hdg, hrb⟩ := open_ratW h2 rfl
      obtain ⟨pos, hp, _, _⟩ := DataW.trod_int Try.underlying3 h4
      simp at hk hnm hr hp
      obtain ⟨rfl, rfl, rfl⟩ := hr
      subst hk hnm hp
      rcases DataW.trod_slice Try.underlying28 h3 with ⟨hcs, hx3⟩ | ⟨a, len, cap, elems, rest, m', rfl, hcs, hx3, _, hlc, hcap, hel, hat, _, _⟩
      · simp at hcs
        subst hcs
        obtain ⟨q, rfl⟩ : ∃ q, m = q + 1 := by
          cases m with
          | zero => simp [DataW.trod] at h0
          | succ q => exact ⟨q, rfl⟩
        rw [show (q + 1 + 1 + 1) / 2 = (q + 1) / 2 + 1 by omega]
        refine ⟨.node ⟨k, nm, g, num, den, pos⟩ [], ⟨pn, nn, cn, pd, nd, cd, none, 0, 0, rfl, hn, hd, ⟨rfl, Nat.le_refl _, by omega, hnl⟩, fun i hi => absurd hi (Nat.not_lt_zero i)⟩, ?_, hdg, fun i hi => absurd hi (Nat.not_lt_zero i)⟩
        have e1 := hn.len
        have e2 := hd.len
        rw [szF_succ]
        simp only [List.map_nil, List.sum_nil]
        have hy1 : nm.size + 1 ≤ Rows.uptoBulk y1.1 := by
          rw [hx1]
          exact str_bulk nm
        have o0 := bulk_oneA y0.1
        simp only [Rows.uptoBulk, List.map_cons, List.map_nil, Rows.uptoBulkAll]
        omega
      · simp at hcs
        subst hcs
        rw [cellsExprA] at hat
        rw [show (m' + 1 + 1 + 1) / 2 = (m' + 1) / 2 + 1 by omega]
        have hch : ∀ i (hi : i < elems.length), ∃ cs' t, W.cells? 0 (a.add (i * 7)) 7 = some cs' ∧ ERd W ((m' + 1) / 2) cs' t ∧ (szF ((m' + 1) / 2) t ≤ Rows.uptoBulk (elems[i]).1 ∧ DgF ((m' + 1) / 2) t) := by
          intro i hi
          have h := hat i (by omega)
          rw [List.getElem?_eq_getElem hi, Option.bind_eq_some_iff] at h
          obtain ⟨cs', hc, ht⟩ := h
          obtain ⟨t, h1, h2⟩ := ih m' (by omega) cs' _ ht
          exact ⟨cs', t, hc, h1, h2⟩
        have hts : ∃ ts : List Tr, ts.length = elems.length ∧ ∀ i (hi : i < elems.length) (h' : i < ts.length), ∃ cs', W.cells? 0 (a.add (i * 7)) 7 = some cs' ∧ ERd W ((m' + 1) / 2) cs' ts[i] ∧ (szF ((m' + 1) / 2) ts[i] ≤ Rows.uptoBulk (elems[i]).1 ∧ DgF ((m' + 1) / 2) ts[i]) := by
          have : ∀ n, n ≤ elems.length → ∃ ts : List Tr, ts.length = n ∧ ∀ i (hi : i < elems.length) (h' : i < ts.length), ∃ cs', W.cells? 0 (a.add (i * 7)) 7 = some cs' ∧ ERd W ((m' + 1) / 2) cs' ts[i] ∧ (szF ((m' + 1) / 2) ts[i] ≤ Rows.uptoBulk (elems[i]).1 ∧ DgF ((m' + 1) / 2) ts[i]) := by
            intro n
            induction n with
            | zero => intro _; exact ⟨[], rfl, fun i hi h' => absurd h' (Nat.not_lt_zero i)⟩
            | succ n ihn =>
              intro hn'
              obtain ⟨ts, e1, e2⟩ := ihn (by omega)
              obtain ⟨cs', t, k1, k2, k3⟩ := hch n (by omega)
              refine ⟨ts ++ [t], by simp [e1], fun i hi h' => ?_⟩
              by_cases hin : i < ts.length
              · rw [List.getElem_append_left hin]; exact e2 i hi hin
              · have : i = n := by simp at h'; omega
                subst this
                rw [List.getElem_append_right (by omega)]
                simp only [e1, Nat.sub_self, List.getElem_cons_zero]
                exact ⟨cs', k1, k2, k3⟩
          exact this _ (Nat.le_refl _)
        obtain ⟨ts, htl, hts⟩ := hts
        refine ⟨.node ⟨k, nm, g, num, den, pos⟩ ts, ⟨pn, nn, cn, pd, nd, cd, some a, len, cap, rfl, hn, hd, ⟨by omega, hlc, by unfold maxLen at hcap; omega, hnl⟩, fun i hi => ?_⟩, ?_, hdg, fun i hi => ?_⟩
        · obtain ⟨cs', h1', h2', _⟩ := hts i (by omega) hi
          obtain ⟨_, e2, e3⟩ := World.cells?_some h1'
          obtain ⟨cs0, h1z, _, _⟩ := hts 0 (by omega) (by omega)
          obtain ⟨_, z2, z3⟩ := World.cells?_some h1z
          have hc0 : W.cell? ((a.add (0 * 7)).add 0) = some (cs0[0]'(by omega)) := by rw [z3 0 (by omega), List.getElem?_eq_getElem (by omega)]
          have hsp := World.cell?_spot hc0
          obtain ⟨b, o, rfl⟩ : ∃ b o, a = ⟨b, o, none⟩ := ⟨a.block, a.off, by
            cases a with
            | mk b o s => simp [Addr.add] at hsp; simp [hsp]⟩
          refine ⟨b, o, cs', rfl, e2, fun j hj => ?_, h2'⟩
          have := e3 j (by omega)
          rw [add_addr, add_addr, List.getElem?_eq_getElem (by omega)] at this
          exact this
        · have hs := sum_bulk (szF ((m' + 1) / 2)) ts (elems.map (·.1)) (by simp [htl]) (fun i h1' h2' => by
            obtain ⟨_, _, _, h3', _⟩ := hts i (by omega) h1'
            simpa using h3')
          have e1 := hn.len
          have e2 := hd.len
          rw [szF_succ]
          have hy1 : nm.size + 1 ≤ Rows.uptoBulk y1.1 := by
            rw [hx1]
            exact str_bulk nm
          have o0 := bulk_oneA y0.1
          have hy3 : Rows.uptoBulkAll (elems.map (·.1)) ≤ Rows.uptoBulk y3.1 := by
            rw [hx3]
            simp only [Rows.uptoBulk]
            omega
          simp only [Rows.uptoBulk, List.map_cons, List.map_nil, Rows.uptoBulkAll]
          omega
        · obtain ⟨_, _, _, _, h4'⟩ := hts i (by omega) hi
          exact h4'
end
end Go.Proofs.Ytolpcclobmgneaa
