/-
  Arguments that are expressions, opened: the tree in memory, its size at most the bulk.
-/
import Derived.Test.YtolpcclobmgneaaRows
import Derived.Test.YtolpcclobmgneaaAstN
import Derived.WalkKit
import Derived.ProofKit
import Derived.OpenShut
set_option linter.unusedVariables false
set_option linter.unusedSimpArgs false
namespace Go.Proofs.Ytolpcclobmgneaa
open Go.ChangeShapes Go.WideShapes Go.ChangeAt Go.RowKit _root_.Nm

theorem cells16A : Try.prog.cellsOf 48 = 1 := by kernel_rfl
theorem cellsNatA : Try.prog.cellsOf 23 = 1 := by kernel_rfl
theorem cellsBoolA : Try.prog.cellsOf 4 = 1 := by kernel_rfl
theorem cellsIntA : Try.prog.cellsOf 3 = 1 := by kernel_rfl
theorem cellsStrA : Try.prog.cellsOf 9 = 1 := by kernel_rfl
theorem cellsIA : Try.prog.cellsOf 25 = 2 := by kernel_rfl
theorem cellsRatA : Try.prog.cellsOf 27 = 3 := by kernel_rfl
theorem cellsExprA : Try.prog.cellsOf 30 = 7 := by kernel_rfl
theorem cellsArgsA : Try.prog.cellsOf 28 = 1 := by kernel_rfl
theorem bulk_oneA {H : Type} (d : DataW H) : 1 ≤ Rows.uptoBulk d := by
  cases d with
  | lit l => cases l <;> simp [Rows.uptoBulk]
  | _ => simp [Rows.uptoBulk]
theorem bulk_partA {H : Type} {d : DataW H} {l : List (DataW H)} (h : d ∈ l) : Rows.uptoBulk d ≤ Rows.uptoBulkAll l := by
  induction l with
  | nil => cases h
  | cons x r ih =>
    simp only [Rows.uptoBulkAll]
    rcases List.mem_cons.1 h with e | e
    · subst e; omega
    · have := ih e; omega
/-- lists of which each is at most the bulk of its datum -/
theorem bulk_sum {H : Type} {α : Type} (f : α → List ByteArray) : ∀ (l : List α) (ds : List (DataW H)), l.length = ds.length → (∀ i (h : i < l.length) (h' : i < ds.length), (f l[i]).length ≤ Rows.uptoBulk ds[i]) → (l.map f).flatten.length ≤ Rows.uptoBulkAll ds
  | [], ds, _, _ => by simp
  | x :: l, [], h, _ => by simp at h
  | x :: l, d :: ds, h, hf => by
    have h0 := hf 0 (by simp) (by simp)
    have ih := bulk_sum f l ds (by simpa using h) (fun i h1 h2 => by have := hf (i + 1) (by simp; omega) (by simp; omega); simpa using this)
    simp only [List.getElem_cons_zero] at h0
    rw [List.map_cons, List.flatten_cons, List.length_append]
    simp only [Rows.uptoBulkAll]
    omega

section
variable {H : Type} {enc : TypeId × Value → H} {W : World}
set_option maxRecDepth 100000 in
theorem open_natA {fuel : Nat} {cs : List Value} {x : DataW H × List MemPlace} (hf : DataW.trod enc Try.prog W 0 (fun _ => true) true fuel 23 cs = some x) :
    ∃ a n c xs, cs = [.slice a n c] ∧ IRd W .u16 a n c xs := by
  rcases open_ints Try.underlying23 Try.underlying48 cells16A hf with ⟨hcs, hx⟩ | ⟨a, len', cap', zs, hcs, _, hl, hm, hz, hx, hcell, hwz⟩
  · exact ⟨none, 0, 0, [], hcs, IRd.nil W _⟩
  · simp only [if_true] at hz
    have hb : ∀ z ∈ zs, 0 ≤ z ∧ z ≤ 65535 := fun z hzm => bounds_u16 (hwz z hzm)
    refine ⟨some a, len', cap', (zs.take len').map Int.toNat, hcs, ⟨by simp; omega, hl, by unfold maxLen at hm; omega, fun j hj => ?_⟩⟩
    have hj' : j < len' := by simp at hj; omega
    have hc := hcell j (by omega)
    have hg : zs.getD j 0 = zs[j]'(by omega) := by simp [List.getD, List.getElem?_eq_getElem (show j < zs.length by omega)]
    have hsp := World.cell?_spot (hcell 0 (by omega))
    have ha : ∃ b o, a = ⟨b, o, none⟩ := ⟨a.block, a.off, by
      cases a with
      | mk b o s => simp [Addr.add] at hsp; simp [hsp]⟩
    obtain ⟨b, o, rfl⟩ := ha
    refine ⟨b, o, rfl, ?_⟩
    rw [add_addr] at hc
    rw [hc, hg]
    have := hb _ (List.getElem_mem (show j < zs.length by omega))
    simp only [List.getElem_map, List.getElem_take]
    congr 2; omega
set_option maxRecDepth 100000 in
theorem open_ratA {fuel : Nat} {cs : List Value} {x : DataW H × List MemPlace} (hf : DataW.trod enc Try.prog W 0 (fun _ => true) true fuel 27 cs = some x) (hl : cs.length = 3) :
    ∃ g a n c xs b m e ys, cs = [.bool g, .slice a n c, .slice b m e] ∧ IRd W .u16 a n c xs ∧ IRd W .u16 b m e ys := by
  obtain ⟨y0, y1, k, hx, _, h0, h1⟩ := trod_struct2 Try.underlying27 hf
  rw [cellsIA] at h0
  obtain ⟨z0, z1, k', hx', _, g0, g1⟩ := trod_struct2 Try.underlying25 h0
  rw [cellsBoolA] at g0
  rw [cellsNatA] at g1 h1
  match cs, hl with
  | [u, v, t], _ =>
    obtain ⟨b, hbo, _⟩ := DataW.trod_bool Try.underlying4 g0
    obtain ⟨a, n, c, xs, hs, hr⟩ := open_natA g1
    obtain ⟨b', m, e, ys, hs1, hr1⟩ := open_natA h1
    simp at hbo hs hs1
    subst hbo hs hs1
    exact ⟨b, a, n, c, xs, b', m, e, ys, rfl, hr, hr1⟩
set_option maxRecDepth 100000 in
theorem open_exprA : ∀ (fuel : Nat) (cs : List Value) (x : DataW H × List MemPlace), DataW.trod enc Try.prog W 0 (fun _ => true) true fuel 30 cs = some x →
    ∃ t, ERd W ((fuel + 1) / 2) cs t ∧ (preF ((fuel + 1) / 2) t).length ≤ Rows.uptoBulk x.1 := by
  intro fuel
  induction fuel using Nat.strongRecOn with
  | _ fuel ih =>
    intro cs x hf
    obtain ⟨xs, m, rfl, rfl, hl, hlen, hfs⟩ := DataW.trod_struct Try.underlying30 hf
    rw [cellsExprA] at hl
    match cs, hl, xs, hlen with
    | [c0, c1, c2, c3, c4, c5, c6], _, [y0, y1, y2, y3, y4], _ =>
      have h0 := hfs 0 _ rfl
      have h1 := hfs 1 _ rfl
      have h2 := hfs 2 _ rfl
      have h3 := hfs 3 _ rfl
      have h4 := hfs 4 _ rfl
      clear hfs
      simp [cellsIntA, cellsStrA, cellsRatA, cellsArgsA] at h0 h1 h2 h3 h4
      obtain ⟨k, hk, _, _⟩ := DataW.trod_int Try.underlying3 h0
      obtain ⟨nm, hnm, hx1, hnl⟩ := DataW.trod_string Try.underlying9 h1
      obtain ⟨g, pn, nn, cn, num, pd, nd, cd, den, hr, hn, hd⟩ := open_ratA h2 rfl
      obtain ⟨pos, hp, _, _⟩ := DataW.trod_int Try.underlying3 h4
      simp at hk hnm hr hp
      obtain ⟨rfl, rfl, rfl⟩ := hr
      subst hk hnm hp
      rcases DataW.trod_slice Try.underlying28 h3 with ⟨hcs, hx3⟩ | ⟨a, len, cap, elems, rest, m', rfl, hcs, hx3, _, hlc, hcap, hel, hat, _, _⟩
      · simp at hcs
        subst hcs
        obtain ⟨q, rfl⟩ : ∃ q, m = q + 1 := by
          cases m with
          | zero => simp [DataW.trod] at h0
          | succ q => exact ⟨q, rfl⟩
        rw [show (q + 1 + 1 + 1) / 2 = (q + 1) / 2 + 1 by omega]
        refine ⟨.node ⟨k, nm, g, num, den, pos⟩ [], ⟨pn, nn, cn, pd, nd, cd, none, 0, 0, rfl, hn, hd, ⟨rfl, Nat.le_refl _, by omega, hnl⟩, fun i hi => absurd hi (Nat.not_lt_zero i)⟩, ?_⟩
        simp only [preF, List.map_nil, List.flatten_nil, List.append_nil]
        have := bulk_oneA (DataW.agg ([y0, y1, y2, y3, y4].map (·.1)))
        split <;> simp at this ⊢ <;> omega
      · simp at hcs
        subst hcs
        rw [cellsExprA] at hat
        rw [show (m' + 1 + 1 + 1) / 2 = (m' + 1) / 2 + 1 by omega]
        have hch : ∀ i (hi : i < elems.length), ∃ cs' t, W.cells? 0 (a.add (i * 7)) 7 = some cs' ∧ ERd W ((m' + 1) / 2) cs' t ∧ (preF ((m' + 1) / 2) t).length ≤ Rows.uptoBulk (elems[i]).1 := by
          intro i hi
          have h := hat i (by omega)
          rw [List.getElem?_eq_getElem hi, Option.bind_eq_some_iff] at h
          obtain ⟨cs', hc, ht⟩ := h
          obtain ⟨t, h1, h2⟩ := ih m' (by omega) cs' _ ht
          exact ⟨cs', t, hc, h1, h2⟩
        have hts : ∃ ts : List Tr, ts.length = elems.length ∧ ∀ i (hi : i < elems.length) (h' : i < ts.length), ∃ cs', W.cells? 0 (a.add (i * 7)) 7 = some cs' ∧ ERd W ((m' + 1) / 2) cs' ts[i] ∧ (preF ((m' + 1) / 2) ts[i]).length ≤ Rows.uptoBulk (elems[i]).1 := by
          have : ∀ n, n ≤ elems.length → ∃ ts : List Tr, ts.length = n ∧ ∀ i (hi : i < elems.length) (h' : i < ts.length), ∃ cs', W.cells? 0 (a.add (i * 7)) 7 = some cs' ∧ ERd W ((m' + 1) / 2) cs' ts[i] ∧ (preF ((m' + 1) / 2) ts[i]).length ≤ Rows.uptoBulk (elems[i]).1 := by
            intro n
            induction n with
            | zero => intro _; exact ⟨[], rfl, fun i hi h' => absurd h' (Nat.not_lt_zero i)⟩
            | succ n ihn =>
              intro hn'
              obtain ⟨ts, e1, e2⟩ := ihn (by omega)
              obtain ⟨cs', t, k1, k2, k3⟩ := hch n (by omega)
              refine ⟨ts ++ [t], by simp [e1], fun i hi h' => ?_⟩
              by_cases hin : i < ts.length
              · rw [List.getElem_append_left hin]; exact e2 i hi hin
              · have : i = n := by simp at h'; omega
                subst this
                rw [List.getElem_append_right (by omega)]
                simp only [e1, Nat.sub_self, List.getElem_cons_zero]
                exact ⟨cs', k1, k2, k3⟩
          exact this _ (Nat.le_refl _)
        obtain ⟨ts, htl, hts⟩ := hts
        refine ⟨.node ⟨k, nm, g, num, den, pos⟩ ts, ⟨pn, nn, cn, pd, nd, cd, some a, len, cap, rfl, hn, hd, ⟨by omega, hlc, by unfold maxLen at hcap; omega, hnl⟩, fun i hi => ?_⟩, ?_⟩
        · obtain ⟨cs', h1', h2', _⟩ := hts i (by omega) hi
          obtain ⟨_, e2, e3⟩ := World.cells?_some h1'
          obtain ⟨cs0, h1z, _, _⟩ := hts 0 (by omega) (by omega)
          obtain ⟨_, z2, z3⟩ := World.cells?_some h1z
          have hc0 : W.cell? ((a.add (0 * 7)).add 0) = some (cs0[0]'(by omega)) := by rw [z3 0 (by omega), List.getElem?_eq_getElem (by omega)]
          have hsp := World.cell?_spot hc0
          obtain ⟨b, o, rfl⟩ : ∃ b o, a = ⟨b, o, none⟩ := ⟨a.block, a.off, by
            cases a with
            | mk b o s => simp [Addr.add] at hsp; simp [hsp]⟩
          refine ⟨b, o, cs', rfl, e2, fun j hj => ?_, h2'⟩
          have := e3 j (by omega)
          rw [add_addr, add_addr, List.getElem?_eq_getElem (by omega)] at this
          exact this
        · have hs := bulk_sum (preF ((m' + 1) / 2)) ts (elems.map (·.1)) (by simp [htl]) (fun i h1' h2' => by
            obtain ⟨_, _, _, h3'⟩ := hts i (by omega) h1'
            simpa using h3')
          show ((if k = 1 then [nm] else []) ++ (ts.map (preF ((m' + 1) / 2))).flatten).length ≤ _
          rw [List.length_append, hx3]
          have hi1 : (if k = 1 then [nm] else []).length ≤ 1 := by split <;> simp
          simp only [Rows.uptoBulk, List.map_cons, List.map_nil, Rows.uptoBulkAll]
          omega
end
end Go.Proofs.Ytolpcclobmgneaa
