/-
  Plain facts: tokens with other blanks and comments between them. No program is mentioned here.
-/
import Derived.Test.YtlkajmfpbgipbaaLexN
set_option linter.unusedVariables false
set_option linter.unusedSimpArgs false
namespace Lx

/-- closed blanks and comments are skipped whole -/
theorem sk_app : ∀ (b : Bool) (x r : List UInt8), br b x = some false → sk b (x ++ r) = x.length + sk false r
  | b, [], r, h => by
    have : b = false := by simpa [br] using h
    subst this; simp
  | b, c :: x, r, h => by
    rw [List.cons_append, List.length_cons]
    by_cases h10 : c.toNat = 10
    · rw [br_feed h10] at h
      have ih := sk_app false x r h
      cases b with
      | true => rw [sk_feed h10, sk_blank ((kd_blank _).2 (by omega)), ih]; omega
      | false => rw [sk_blank ((kd_blank _).2 (by omega)), ih]; omega
    cases b with
    | true =>
      rw [br_same h10 (.inl rfl)] at h
      rw [sk_in h10, sk_app true x r h]; omega
    | false =>
      by_cases hb : c.toNat = 32 ∨ c.toNat = 9 ∨ c.toNat = 13
      · rw [br_same h10 (.inr hb)] at h
        rw [sk_blank ((kd_blank _).2 (by omega)), sk_app false x r h]; omega
      by_cases hh : c.toNat = 35
      · rw [br_hash hh] at h
        rw [sk_hash ((kd_hash _).2 hh), sk_app true x r h]; omega
      · rw [br_none h10 (fun h' => h'.elim (fun h => by cases h) hb) hh] at h
        cases h
/-- what may follow a token -/
def Stop (y : List UInt8) : Prop := ∀ c, y.head? = some c → kd c.toNat = 1 ∨ kd c.toNat = 2
theorem span_app {ks : List Nat} (h1 : 1 ∉ ks) (h2 : 2 ∉ ks) : ∀ (r y : List UInt8), Stop y → span ks (r.take (span ks r) ++ y) = span ks r
  | [], y, hy => by
    rw [span_nil]
    cases y with
    | nil => rfl
    | cons c y =>
      have := hy c rfl
      show span ks (c :: y) = 0
      rw [span_no]
      rcases this with h | h <;> rw [h] <;> assumption
  | c :: r, y, hy => by
    by_cases hc : kd c.toNat ∈ ks
    · rw [span_yes hc, List.take_succ_cons, List.cons_append, span_yes hc, span_app h1 h2 r y hy]
    · rw [span_no hc]
      cases y with
      | nil => rfl
      | cons d y =>
        have := hy d rfl
        show span ks (d :: y) = 0
        rw [span_no]
        rcases this with h | h <;> rw [h] <;> assumption
/-- a token that is cut out is that token -/
theorem tok_cut : ∀ (r y : List UInt8), (tokAt r).e = 0 → Stop y → tokAt (r.take (tokAt r).n ++ y) = tokAt r
  | [], y, h, _ => by simp [tokAt] at h
  | c :: r, y, h, hy => by
    by_cases h3 : kd c.toNat = 3
    · have e := tok_name h3 r
      rw [e]
      show tokAt ((c :: r).take (span [3, 4] (c :: r)) ++ y) = _
      have hs := span_yes (ks := [3, 4]) (c := c) (by simp [h3]) r
      have ha := span_app (ks := [3, 4]) (by decide) (by decide) (c :: r) y hy
      rw [hs, List.take_succ_cons, List.cons_append] at ha ⊢
      rw [tok_name h3, ha]
    by_cases h4 : kd c.toNat = 4
    · have e := tok_num h4 r
      rw [e]
      show tokAt ((c :: r).take (span [4] (c :: r)) ++ y) = _
      have hs := span_yes (ks := [4]) (c := c) (by simp [h4]) r
      have ha := span_app (ks := [4]) (by decide) (by decide) (c :: r) y hy
      rw [hs, List.take_succ_cons, List.cons_append] at ha ⊢
      rw [tok_num h4, ha]
    by_cases h5 : kd c.toNat = 5
    · rw [tok_sign h5]
      exact tok_sign h5 _
    by_cases h6 : kd c.toNat = 6 ∧ r.head? = some 61
    · rw [tok_colon h6.1 h6.2]
      refine tok_colon h6.1 ?_
      cases r with
      | nil => simp at h6
      | cons d r => simpa using h6.2
    · rw [tok_bad h3 h4 h5 (fun h h' => h6 ⟨h, h'⟩)] at h; simp at h
theorem tok_head : ∀ (r : List UInt8), (tokAt r).e = 0 → ∃ c r', r = c :: r' ∧ kd c.toNat ≠ 1 ∧ kd c.toNat ≠ 2
  | [], h => by simp [tokAt] at h
  | c :: r, h => by
    refine ⟨c, r, rfl, fun h1 => ?_, fun h2 => ?_⟩
    · rw [tok_bad (by omega) (by omega) (by omega) (fun h => by omega)] at h; simp at h
    · rw [tok_bad (by omega) (by omega) (by omega) (fun h => by omega)] at h; simp at h

/-- a token: kind, text, and what follows it -/
abbrev Pt := Nat × List UInt8 × List UInt8
def Val (t : Pt) : Prop := (∀ y, Stop y → tokAt (t.2.1 ++ y) = ⟨t.1, t.2.1.length, 0⟩) ∧ br false t.2.2 = some false ∧ t.2.2 ≠ []
def joinT : List Pt → List UInt8
  | [] => []
  | t :: r => t.2.1 ++ (t.2.2 ++ joinT r)
theorem br_stop {b : List UInt8} (h : br false b = some false) (h2 : b ≠ []) (y : List UInt8) : Stop (b ++ y) := by
  cases b with
  | nil => exact absurd rfl h2
  | cons c b =>
    intro d hd
    simp at hd
    subst hd
    by_cases h10 : c.toNat = 10
    · exact .inl ((kd_blank _).2 (by omega))
    by_cases hb : c.toNat = 32 ∨ c.toNat = 9 ∨ c.toNat = 13
    · exact .inl ((kd_blank _).2 (by omega))
    by_cases hh : c.toNat = 35
    · exact .inr ((kd_hash _).2 hh)
    · rw [br_none h10 (fun h' => h'.elim (fun h => by cases h) hb) hh] at h
      cases h
/-- the same kinds and texts -/
def Same (T : List UInt8) : List (Nat × Nat × Nat) → List (Nat × List UInt8) → Prop
  | [], [] => True
  | (k, i, n) :: r, (k', x) :: r' => k = k' ∧ (T.drop i).take n = x ∧ Same T r r'
  | _, _ => False
theorem lexW_join (T e : List UInt8) (he : br false e = some false) : ∀ (L : List Pt) (p : Nat), p ≤ T.length → T.drop p = joinT L ++ e → (∀ t ∈ L, Val t) →
    (lexW T (p + sk false (T.drop p))).2 = (0, 0) ∧ Same T (lexW T (p + sk false (T.drop p))).1 (L.map (fun t => (t.1, t.2.1)) ++ [(0, [])])
  | [], p, hp, hd, _ => by
    have hs : sk false (T.drop p) = e.length := by
      rw [hd]
      have := sk_app false e [] he
      rw [List.append_nil, sk_nil] at this
      exact this
    have hl : e.length = T.length - p := by
      have := congrArg List.length hd
      simpa [joinT] using this.symm
    rw [lexW_end (by omega)]
    exact ⟨rfl, rfl, by simp, trivial⟩
  | t :: L, p, hp, hd, hv => by
    obtain ⟨k, x, b⟩ := t
    obtain ⟨v1, v2, v3⟩ := hv (k, x, b) (by simp)
    dsimp only at v1 v2 v3
    have hd' : T.drop p = x ++ (b ++ (joinT L ++ e)) := by rw [hd]; simp [joinT]
    have ht : tokAt (T.drop p) = ⟨k, x.length, 0⟩ := by rw [hd']; exact v1 _ (br_stop v2 v3 _)
    have hs : sk false (T.drop p) = 0 := by
      obtain ⟨c, r', e1, e2, e3⟩ := tok_head (T.drop p) (by rw [ht])
      rw [e1, sk_none e2 e3]
    have hlen := congrArg List.length hd'
    simp only [List.length_drop, List.length_append] at hlen
    have hx : 0 < x.length := by have := tok_pos (T.drop p); rw [ht] at this; exact this
    have hlt : p < T.length := by omega
    have hdx : T.drop (p + x.length) = b ++ (joinT L ++ e) := by
      rw [← List.drop_drop, hd', List.drop_left]
    have hdb : T.drop (p + x.length + b.length) = joinT L ++ e := by
      rw [← List.drop_drop, hdx, List.drop_left]
    have hsb := sk_app false b (joinT L ++ e) v2
    obtain ⟨i1, i2⟩ := lexW_join T e he L (p + x.length + b.length) (by omega) hdb (fun t ht => hv t (by simp [ht]))
    rw [hdb] at i1 i2
    have hw := lexW_ok (l := T) (i := p) hlt (by rw [ht])
    rw [ht] at hw
    dsimp only at hw
    rw [hdx, hsb, ← Nat.add_assoc] at hw
    rw [hs, Nat.add_zero, hw]
    unfold glue
    rw [i1]
    refine ⟨rfl, rfl, ?_, i2⟩
    rw [hd', List.take_left]
/-- the whole -/
theorem lexAll_join (e0 e : List UInt8) (L : List Pt) (h0 : br false e0 = some false) (he : br false e = some false) (hv : ∀ t ∈ L, Val t) (hlen : (e0 ++ (joinT L ++ e)).length ≤ 20000) :
    (lexAll (e0 ++ (joinT L ++ e))).2 = (0, 0) ∧ Same (e0 ++ (joinT L ++ e)) (lexAll (e0 ++ (joinT L ++ e))).1 (L.map (fun t => (t.1, t.2.1)) ++ [(0, [])]) := by
  have hj := lexW_join (e0 ++ (joinT L ++ e)) e he L e0.length (by simp) (by rw [List.drop_left]) hv
  rw [List.drop_left] at hj
  have hs := sk_app false e0 (joinT L ++ e) h0
  have e1 : lexAll (e0 ++ (joinT L ++ e)) = fin [] (lexW (e0 ++ (joinT L ++ e)) (sk false (e0 ++ (joinT L ++ e)))) := if_neg (by omega)
  rw [e1, hs]
  unfold fin
  rw [hj.1]
  exact ⟨rfl, by simpa using hj.2⟩
/-- the tokens of a source are tokens that can be cut out -/
theorem lexW_val (l : List UInt8) : ∀ (k i : Nat), l.length - i ≤ k → (lexW l i).2.2 = 0 → ∃ ts, (lexW l i).1 = ts ++ [(0, l.length, 0)] ∧ ∀ t ∈ ts, ∀ y, Stop y → tokAt ((l.drop t.2.1).take t.2.2 ++ y) = ⟨t.1, ((l.drop t.2.1).take t.2.2).length, 0⟩ := by
  intro k
  induction k with
  | zero => intro i hk he; rw [lexW_end (by omega)]; exact ⟨[], rfl, by simp⟩
  | succ k ih =>
    intro i hk he
    by_cases hlt : i < l.length
    · by_cases h0 : (tokAt (l.drop i)).e = 0
      · have hpos := tok_pos (l.drop i)
        have hnl := next_le hlt
        have e := lexW_ok hlt h0
        rw [e, glue_snd] at he
        obtain ⟨ts, h1, h2⟩ := ih _ (by omega) he
        rw [e]
        unfold glue
        rw [if_pos he, h1]
        refine ⟨((tokAt (l.drop i)).k, i, (tokAt (l.drop i)).n) :: ts, rfl, fun t ht => ?_⟩
        rcases List.mem_cons.1 ht with rfl | ht
        · intro y hy
          dsimp only
          rw [tok_cut _ _ h0 hy, List.length_take, List.length_drop, Nat.min_eq_left (by omega)]
          generalize tokAt (l.drop i) = q at h0 ⊢
          obtain ⟨a, b, c⟩ := q
          simp at h0 ⊢
          exact h0
        · exact h2 t ht
      · rw [lexW_bad hlt h0] at he; exact absurd he h0
    · rw [lexW_end (by omega)]
      exact ⟨[], rfl, by simp⟩
theorem lexAll_val {l : List UInt8} (h : (lexAll l).2.2 = 0) : ∃ ts, (lexAll l).1 = ts ++ [(0, l.length, 0)] ∧ ∀ t ∈ ts, ∀ y, Stop y → tokAt ((l.drop t.2.1).take t.2.2 ++ y) = ⟨t.1, ((l.drop t.2.1).take t.2.2).length, 0⟩ := by
  by_cases hb : 20000 < l.length
  · have e : lexAll l = ([], 0, 4) := if_pos hb
    rw [e] at h; cases h
  · have e : lexAll l = fin [] (lexW l (sk false l)) := if_neg hb
    rw [e, fin_snd] at h
    obtain ⟨ts, h1, h2⟩ := lexW_val l _ _ (Nat.le_refl _) h
    refine ⟨ts, ?_, h2⟩
    rw [e]
    unfold fin
    rw [if_pos h]
    simpa using h1

/-- what the law puts between tokens -/
def seps : List (List UInt8) := [[32], [10], [9, 13, 32], [35, 10], [32, 35, 32, 97, 32, 58, 61, 32, 40, 32, 10, 10]]
def sepAt (i : Nat) : List UInt8 := seps.getD (i % 5) []
theorem sep_ok (i : Nat) : br false (sepAt i) = some false ∧ sepAt i ≠ [] ∧ (sepAt i).length ≤ 12 := by
  have h : ∀ j, j < 5 → br false (seps.getD j []) = some false ∧ seps.getD j [] ≠ [] ∧ (seps.getD j []).length ≤ 12 := by decide
  exact h _ (Nat.mod_lt _ (by decide))
/-- the parts, numbered from j on -/
def parts (l : List UInt8) : Nat → List (Nat × Nat × Nat) → List Pt
  | _, [] => []
  | j, t :: r => (t.1, (l.drop t.2.1).take t.2.2, sepAt j) :: parts l (j + 1) r
theorem parts_val {l : List UInt8} : ∀ (ts : List (Nat × Nat × Nat)) (j : Nat), (∀ t ∈ ts, ∀ y, Stop y → tokAt ((l.drop t.2.1).take t.2.2 ++ y) = ⟨t.1, ((l.drop t.2.1).take t.2.2).length, 0⟩) → ∀ t ∈ parts l j ts, Val t
  | [], j, h, t, ht => by simp [parts] at ht
  | u :: ts, j, h, t, ht => by
    rcases List.mem_cons.1 ht with rfl | ht
    · exact ⟨h u (by simp), (sep_ok j).1, (sep_ok j).2.1⟩
    · exact parts_val ts (j + 1) (fun t ht => h t (by simp [ht])) t ht
theorem parts_map {l : List UInt8} : ∀ (ts : List (Nat × Nat × Nat)) (j : Nat), (parts l j ts).map (fun t => (t.1, t.2.1)) = ts.map fun t => (t.1, (l.drop t.2.1).take t.2.2)
  | [], j => rfl
  | u :: ts, j => by simp [parts, parts_map ts (j + 1)]
theorem joinT_append : ∀ (a b : List Pt), joinT (a ++ b) = joinT a ++ joinT b
  | [], b => rfl
  | t :: a, b => by simp [joinT, joinT_append a b]
theorem parts_append {l : List UInt8} : ∀ (a b : List (Nat × Nat × Nat)) (j : Nat), parts l j (a ++ b) = parts l j a ++ parts l (j + a.length) b
  | [], b, j => by simp [parts]
  | t :: a, b, j => by
    simp only [List.cons_append, parts, parts_append a b (j + 1), List.length_cons]
    rw [show j + 1 + a.length = j + (a.length + 1) by omega]
/-- the source that the law makes of the first m tokens -/
def madeT (l : List UInt8) (k : Nat) (ts : List (Nat × Nat × Nat)) : List UInt8 := sepAt k ++ joinT (parts l k ts)
theorem madeT_snoc (l : List UInt8) (k : Nat) (ts : List (Nat × Nat × Nat)) (t : Nat × Nat × Nat) : madeT l k (ts ++ [t]) = madeT l k ts ++ (((l.drop t.2.1).take t.2.2) ++ sepAt (k + ts.length)) := by
  unfold madeT
  rw [parts_append, joinT_append]
  simp [parts, joinT]
theorem same_len : ∀ {T : List UInt8} {a : List (Nat × Nat × Nat)} {b : List (Nat × List UInt8)}, Same T a b → a.length = b.length
  | T, [], [], _ => rfl
  | T, (k, i, n) :: a, (k', x) :: b, h => by have := same_len h.2.2; simpa using this
theorem same_get : ∀ {T : List UInt8} {a : List (Nat × Nat × Nat)} {b : List (Nat × List UInt8)}, Same T a b → ∀ j (h1 : j < a.length) (h2 : j < b.length), (a[j]).1 = (b[j]).1 ∧ (T.drop (a[j]).2.1).take (a[j]).2.2 = (b[j]).2
  | T, (k, i, n) :: a, (k', x) :: b, h, 0, _, _ => ⟨h.1, h.2.1⟩
  | T, (k, i, n) :: a, (k', x) :: b, h, j + 1, h1, h2 => same_get h.2.2 j (by simpa using h1) (by simpa using h2)
/-- the law, in plain words -/
theorem blanks_made {l : List UInt8} (h : (lexAll l).2.2 = 0) (k : Nat) (hlen : (madeT l k (lexAll l).1).length ≤ 20000) :
    (lexAll (madeT l k (lexAll l).1)).2 = (0, 0) ∧ (lexAll (madeT l k (lexAll l).1)).1.length = (lexAll l).1.length ∧
    ∀ j (h1 : j < (lexAll (madeT l k (lexAll l).1)).1.length) (h2 : j < (lexAll l).1.length), ((lexAll (madeT l k (lexAll l).1)).1[j]).1 = ((lexAll l).1[j]).1 ∧
      ((madeT l k (lexAll l).1).drop ((lexAll (madeT l k (lexAll l).1)).1[j]).2.1).take ((lexAll (madeT l k (lexAll l).1)).1[j]).2.2 = (l.drop ((lexAll l).1[j]).2.1).take ((lexAll l).1[j]).2.2 := by
  obtain ⟨ts, h1, h2⟩ := lexAll_val h
  generalize hR : (lexAll l).1 = R at *
  have hm : madeT l k R = sepAt k ++ (joinT (parts l k ts) ++ sepAt (k + ts.length)) := by
    rw [h1, madeT_snoc]
    unfold madeT
    simp
  obtain ⟨j1, j2⟩ := lexAll_join (sepAt k) (sepAt (k + ts.length)) (parts l k ts) (sep_ok k).1 (sep_ok _).1 (parts_val ts k h2) (by rw [← hm]; exact hlen)
  rw [← hm] at j1 j2
  rw [parts_map] at j2
  have hb : R.map (fun t => (t.1, (l.drop t.2.1).take t.2.2)) = ts.map (fun t => (t.1, (l.drop t.2.1).take t.2.2)) ++ [(0, [])] := by
    rw [h1]; simp
  rw [← hb] at j2
  have hl := same_len j2
  rw [List.length_map] at hl
  refine ⟨j1, hl, fun j a1 a2 => ?_⟩
  have := same_get j2 j a1 (by rw [List.length_map]; exact a2)
  simpa using this
end Lx
