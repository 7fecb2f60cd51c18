/-
  Contract of the function that Names hands to walk: a name is noted once.
-/
import Derived.Test.YtlkajmfpbgipbaaAstO
import Derived.Maps.Own
import Derived.Maps.Views
import Derived.WalkKit
set_option linter.unusedVariables false
set_option linter.unusedSimpArgs false
namespace Go.Proofs.Ytlkajmfpbgipbaa
open Go.RowKit Go.Maps _root_.Nm
/-- the names met so far: the map's variable Bm, the list's variable Bs, the map bm; what lies from B0 on is the list's own -/
structure Vis (w : World) (Bm Bs bm B0 : Nat) (L : List ByteArray) : Prop where
  hm : w.heap[Bm]? = some (.cells #[.map (some bm)] 82 (0, 0))
  hs : ∃ (p : Option Addr) (n c : Nat), w.heap[Bs]? = some (.cells #[.slice p n c] 28 (0, 0)) ∧ NOwn w B0 p n c L
  mp : ∃ D : DataW Unit, Maps.IsMap D ∧ w.ownsMap Try.prog 9 (plainElem Try.prog 4) bm L.length D ∧ (∀ x, x ∈ L → D.atKey (.string x.toList) (.lit (.bool false)) = .lit (.bool true)) ∧ ∀ x, ¬ x ∈ L → D.atKey (.string x.toList) (.lit (.bool false)) = .lit (.bool false)
  lo : Bm < B0 ∧ Bs < B0 ∧ bm < B0 ∧ Bm ≠ Bs ∧ Bs ≠ bm ∧ Bm ≠ bm
theorem Vis.keep {w w' : World} {Bm Bs bm B0 : Nat} {L : List ByteArray} (h : Vis w Bm Bs bm B0 L) (hg : w.grownBy w' none) : Vis w' Bm Bs bm B0 L := by
  obtain ⟨p, n, c, h1, h2⟩ := h.hs
  obtain ⟨D, h3, h4, h5⟩ := h.mp
  exact ⟨keepB h.hm hg, ⟨p, n, c, keepB h1 hg, SOwn.keep h2 hg⟩, ⟨D, h3, h4.kept hg (by simp), h5⟩, h.lo⟩
theorem key_str (d : ByteArray) (h : d.size ≤ maxLen) : keyOf Try.prog 9 (.string d) = some (.string d.toList) := by
  rw [Lib.toList_data]
  exact WideMaps.keyOf_string_mk Try.underlying9 h
theorem zeroBool (w : World) : (zeroValue 4).run Try.prog w = .ok (.bool false) w := by kernel_rfl
set_option maxRecDepth 100000 in
/-- the look-up of a name -/
theorem Vis.look {w : World} {Bm Bs bm B0 : Nat} {L : List ByteArray} (h : Vis w Bm Bs bm B0 L) (d : ByteArray) (hd : d.size ≤ maxLen) :
    (d ∈ L → (Instr.lookup 82 (.map (some bm)) (.string d) false).run Try.prog w = .ok (.bool true) w) ∧ (¬ d ∈ L → (Instr.lookup 82 (.map (some bm)) (.string d) false).run Try.prog w = .ok (.bool false) w) := by
  obtain ⟨D, h3, h4, h5, h6⟩ := h.mp
  obtain ⟨v, ps, hrun, hv⟩ := h4.lookup (string_keyed Try.underlying9) Try.underlying82 (zeroBool w) (plainElem_bool Try.underlying4 false) (key_str d hd)
  have inv : ∀ b, plainElem (H := Unit) Try.prog 4 v = some (.lit (.bool b), ps) → v = .bool b := by
    intro b hb
    unfold plainElem at hb
    rw [Try.underlying4] at hb
    cases v <;> simp at hb
    rw [hb.1]
  constructor
  · intro hm
    rw [h5 d hm] at hv
    rw [hrun, inv true hv]
  · intro hm
    rw [h6 d hm] at hv
    rw [hrun, inv false hv]
set_option maxRecDepth 100000 in
/-- a new name is put into the map -/
theorem Vis.note {w : World} {Bm Bs bm B0 : Nat} {L : List ByteArray} (h : Vis w Bm Bs bm B0 L) (d : ByteArray) (hd : d.size ≤ maxLen) (hn : ¬ d ∈ L) (hl : L.length ≤ 1048576) :
    ∃ w', (Instr.mapUpdate 82 (.map (some bm)) (.string d) (.bool true)).run Try.prog w = .ok () w' ∧ w.grownBy w' (some bm) ∧ w.heap.size ≤ w'.heap.size ∧
      w'.heap[Bm]? = some (.cells #[.map (some bm)] 82 (0, 0)) ∧ (∃ (p : Option Addr) (n c : Nat), w'.heap[Bs]? = some (.cells #[.slice p n c] 28 (0, 0)) ∧ NOwn w' B0 p n c L) ∧
      ∃ D : DataW Unit, Maps.IsMap D ∧ w'.ownsMap Try.prog 9 (plainElem Try.prog 4) bm (L ++ [d]).length D ∧ (∀ x, x ∈ L ++ [d] → D.atKey (.string x.toList) (.lit (.bool false)) = .lit (.bool true)) ∧ ∀ x, ¬ x ∈ L ++ [d] → D.atKey (.string x.toList) (.lit (.bool false)) = .lit (.bool false) := by
  obtain ⟨D, h3, h4, h5, h6⟩ := h.mp
  obtain ⟨lo1, lo2, lo3, lo4, lo5, lo6⟩ := h.lo
  obtain ⟨w', hrun, hown, hg⟩ := h4.update (string_keyed Try.underlying9) Try.underlying82 (by unfold maxLen; omega) (key_str d hd) (plainElem_bool Try.underlying4 true)
  obtain ⟨p, n, c, h7, h8⟩ := h.hs
  refine ⟨w', hrun, hg, hg.size, (hg.block Bm (lt_of_block h.hm) (by simpa using lo6)).trans h.hm, ⟨p, n, c, (hg.block Bs (lt_of_block h7) (by simpa using lo5)).trans h7, SOwn.kept h8 hg (.inr fun q hq => ?_)⟩, _, h3.put _ _, by rw [List.length_append]; exact hown, ?_, ?_⟩
  · have := (SOwn.lt h8 q hq).1
    simp; omega
  · intro x hx
    by_cases e : x = d
    · subst e
      exact atKey_put_same h3 (by simp [WideAt.IsKeyLit]) _ _
    · rw [atKey_put_other (by intro e2; exact e (bytes_eq.1 (by simpa using e2)))]
      exact h5 x ((List.mem_append.1 hx).elim id fun h => absurd (by simpa using h) e)
  · intro x hx
    have e : ¬ x = d := fun e => hx (by simp [e])
    rw [atKey_put_other (by intro e2; exact e (bytes_eq.1 (by simpa using e2)))]
    exact h6 x fun h => hx (by simp [h])

/-- what a visit leaves alone: expressions in boxes -/
def BoxK (w w' : World) : Prop := ∀ (G : Nat) (cs : Array Value), w.heap[G]? = some (.cells cs 50 (0, 0)) → w'.heap[G]? = some (.cells cs 50 (0, 0))
theorem BoxK.refl (w : World) : BoxK w w := fun _ _ h => h
theorem BoxK.trans {a b c : World} (h : BoxK a b) (k : BoxK b c) : BoxK a c := fun G cs e => k G cs (h G cs e)
theorem BoxK.grown {a b : World} (h : a.grownBy b none) : BoxK a b := fun G cs e => keepB e h
/-- the state behind a visit -/
structure VisP (w0 w w' : World) (Bm Bs bm B0 : Nat) (L : List ByteArray) : Prop where
  vis : Vis w' Bm Bs bm B0 L
  gr : w0.grownBy w' none
  box : BoxK w w'
  sz : w.heap.size ≤ w'.heap.size
noncomputable def visL (k : Int) (nm : ByteArray) (L : List ByteArray) : List ByteArray := if k = 1 then add1 L nm else L
set_option maxHeartbeats 8000000 in
set_option maxRecDepth 100000 in
theorem visit_any (Bm Bs bm B0 : Nat) (k : Int) (nm : ByteArray) (g : Bool) (pn : Option Addr) (nn cn : Nat) (pd : Option Addr) (nd cd : Nat) (pa : Option Addr) (na ca : Nat) (pos : Int) (L : List ByteArray) (w0 w : World) (hnm : nm.size ≤ maxLen) (hl : L.length ≤ 1048576) (h0 : w0.grownBy w none) (hB : w0.heap.size ≤ Bm ∧ w0.heap.size ≤ Bs ∧ w0.heap.size ≤ bm) (hsz : B0 ≤ w.heap.size) (hV : Vis w Bm Bs bm B0 L) :
    Calls Try.prog 57 #[.agg #[.int .i64 k, .string nm, .bool g, .slice pn nn cn, .slice pd nd cd, .slice pa na ca, .int .i64 pos], .pointer (some ⟨Bm, 0, none⟩), .pointer (some ⟨Bs, 0, none⟩)] w fun e w' => e = .returned (.tuple #[]) ∧ VisP w0 w w' Bm Bs bm B0 (visL k nm L) := by
  have hkk : k = 1 ∨ ¬ k = 1 := Decidable.em _
  have HA := hid (World.grownBy_alloc w (.cells #[.int .i64 k, .string nm, .bool g, .slice pn nn cn, .slice pd nd cd, .slice pa na ca, .int .i64 pos] 50 (0, 0)) none)
  have hbx := blk0 w (.cells #[.int .i64 k, .string nm, .bool g, .slice pn nn cn, .slice pd nd cd, .slice pa na ca, .int .i64 pos] 50 (0, 0))
  have hV1 := hV.keep HA.out
  rcases hkk with rfl | hk
  · have hlk := hV1.look nm hnm
    have cM := cell_of_one hV1.hm
    by_cases hm : nm ∈ L
    · have hlk1 := hlk.1 hm
      have HF : Hid (VisP w0 w (w.alloc (.cells #[.int .i64 1, .string nm, .bool g, .slice pn nn cn, .slice pd nd cd, .slice pa na ca, .int .i64 pos] 50 (0, 0))) Bm Bs bm B0 (visL 1 nm L)) := hid ⟨by unfold visL; rw [if_pos rfl, add1_old hm]; exact hV1, grown_trans h0 HA.out, BoxK.grown HA.out, HA.out.size⟩
      clear hV hV1 hlk hm hl hB h0
      obtain ⟨⟨k0, k1, k2, k3, k4, k5, k6⟩, f0, f1, f2, f3, f4, f5, f6⟩ := box7 hbx
      clear hbx
      go_enter Try.func57, Try.ntmps57
      go_wp2_with fail
      go_end0
      exact ⟨rfl, HF.out⟩
    · have hlk1 := hlk.2 hm
      obtain ⟨w1, hrun, hg1, hs1, hM1, ⟨p, n, c, hS1, hO1⟩, hD1⟩ := hV1.note nm hnm hm hl
      obtain ⟨lo1, lo2, lo3, lo4, lo5, lo6⟩ := hV.lo
      have hbx1 := (hg1.block w.heap.size (lt_of_block hbx) (by simp; omega)).trans hbx
      have cS1 := cell_of_one hS1
      have fS1 := free_of_one hS1
      have hln : L.length = n := by have := hO1.1; simpa using this
      have HN := hid hm
      have HO1 : Hid (SOwn w1 B0 9 1 p n c (L.map fun d => [.string d])) := hid hO1
      have HD1 := hid hD1
      have HM1 := hid hM1
      have HS1 := hid hS1
      have HG1 := hid hg1
      have HV := hid hV
      have H0 := hid h0
      have HB := hid hB
      have hs0 := h0.size
      have hsB : w0.heap.size ≤ B0 := by omega
      have HG01 : Hid (w0.grownBy w1 none) := hid (grown_new (grown_trans h0 HA.out) hg1 (fun g e => by cases e; exact hB.2.2))
      have HBM : Hid (∃ es cl, (w.alloc (.cells #[.int .i64 1, .string nm, .bool g, .slice pn nn cn, .slice pd nd cd, .slice pa na ca, .int .i64 pos] 50 (0, 0))).heap[bm]? = some (.map es cl)) := hid (by obtain ⟨D, _, ⟨es, cl, hb, _⟩, _⟩ := hV1.mp; exact ⟨es, cl, hb⟩)
      simp at hs1
      clear hV hV1 hlk hm hB h0 hO1 hD1 hM1 hS1 hg1
      obtain ⟨⟨k0, k1, k2, k3, k4, k5, k6⟩, f0, f1, f2, f3, f4, f5, f6⟩ := box7 hbx
      obtain ⟨⟨l0, l1, l2, l3, l4, l5, l6⟩, g0, g1, g2, g3, g4, g5, g6⟩ := box7 hbx1
      have HX1 := hid hbx1
      clear hbx hbx1
      go_enter Try.func57, Try.ntmps57
      go_wp2_with (with_reducible refine wls_append _ rfl (.tmp 17) (.tmp 20) 28 rfl 9 1 (.string ⟨#[]⟩) 16 Try.underlying28 infoStr strZ one_pos B0 _ _ _ (L.map fun d => [.string d]) rfl (SOwn.alloc HO1.out _) _ 1 [.string nm] rfl (one_srd1 _ _ _ _ (by simp)) (str_one _) (by omega) (by omega) w0 (grown_trans HG01.out (World.grownBy_alloc _ _ _)) (by omega) (by simp; omega) ?_; intro p' c2 w2 ho2 hg2 hbx; have HKX := hid hbx; have hS2 := hbx Bs _ (keepB HS1.out (World.grownBy_alloc _ _ _)) (fun q hq => by have := (SOwn.lt HO1.out q hq).1; omega); have cS2 := cell_of_one hS2; have fS2 := free_of_one hS2)
      go_end0
      refine ⟨rfl, ?_⟩
      have hp : ∀ q, p = some q → B0 ≤ q.block := fun q hq => (SOwn.lt HO1.out q hq).1
      have hp' : ∀ q, p' = some q → B0 ≤ q.block := fun q hq => (SOwn.lt ho2 q hq).1
      have hX2 := HKX.out _ _ (keepB HX1.out (World.grownBy_alloc _ _ _)) (fun q hq => by
        intro e
        obtain ⟨_, _, _, h2 | ⟨g', cap', cur', hv', hb', hg', _⟩⟩ := HO1.out
        · obtain ⟨hv, _⟩ := h2
          rw [hq] at hv; simp at hv
        · rw [hq] at hv'
          simp only [Value.slice.injEq, Option.some.injEq] at hv'
          obtain ⟨rfl, _⟩ := hv'
          have := HX1.out
          rw [← e] at this
          simp only at this
          rw [hg'] at this
          simp at this)
      have hM2 := HKX.out Bm _ (keepB HM1.out (World.grownBy_alloc _ _ _)) (fun q hq => by have := hp q hq; omega)
      refine ⟨⟨?_, ⟨p', n + 1, c2, one_setCell hS2, ?_⟩, ?_, ⟨lo1, lo2, lo3, lo4, lo5, lo6⟩⟩, ?_, ?_, ?_⟩
      · exact ((grown_setCell w2 ⟨Bs, 0, none⟩ _).block Bm (lt_of_block hM2) (by simpa using lo4)).trans hM2
      · unfold visL
        rw [if_pos rfl, add1_new HN.out]
        refine SOwn.kept (l := (L ++ [nm]).map fun d => [.string d]) ?_ (grown_setCell w2 ⟨Bs, 0, none⟩ _) (.inr fun q hq => by have := hp' q hq; simp; omega)
        rw [List.map_append]
        exact ho2
      · obtain ⟨D, d1, ⟨es, cl, hb, F, hsz', hD⟩, d3, d4⟩ := HD1.out
        unfold visL
        rw [if_pos rfl, add1_new HN.out]
        have hb2 := HKX.out bm _ (keepB hb (World.grownBy_alloc _ _ _)) (fun q hq => by have := hp q hq; omega)
        exact ⟨D, d1, ⟨es, cl, ((grown_setCell w2 ⟨Bs, 0, none⟩ _).block bm (lt_of_block hb2) (by simp; omega)).trans hb2, F, hsz', hD⟩, d3, d4⟩
      · exact grown_new hg2 (grown_setCell w2 ⟨Bs, 0, none⟩ _) fun g e => by cases e; exact HB.out.2.1
      · intro G cs hG
        have hGA := keepB hG HA.out
        have n1 : G ≠ bm := by
          rintro rfl
          obtain ⟨es, cl, hb⟩ := HBM.out
          rw [hb] at hGA; simp at hGA
        have hG1 := (HG1.out.block G (lt_of_block hGA) (by simpa using n1)).trans hGA
        have n2 : G ≠ Bs := by
          rintro rfl
          have := HS1.out
          rw [hG1] at this; simp at this
        have hG2 := HKX.out G _ (keepB hG1 (World.grownBy_alloc _ _ _)) (fun q hq => by
          intro e
          obtain ⟨_, _, _, h2 | ⟨g', cap', cur', hv', hb', hg', _⟩⟩ := HO1.out
          · obtain ⟨hv, _⟩ := h2
            rw [hq] at hv; simp at hv
          · rw [hq] at hv'
            simp only [Value.slice.injEq, Option.some.injEq] at hv'
            obtain ⟨rfl, _⟩ := hv'
            simp only at e
            subst e
            rw [hg'] at hG1
            simp at hG1)
        exact ((grown_setCell w2 ⟨Bs, 0, none⟩ _).block G (lt_of_block hG2) (by simpa using n2)).trans hG2
      · have := lt_of_block hX2
        simp
        omega
  · have HF : Hid (VisP w0 w (w.alloc (.cells #[.int .i64 k, .string nm, .bool g, .slice pn nn cn, .slice pd nd cd, .slice pa na ca, .int .i64 pos] 50 (0, 0))) Bm Bs bm B0 (visL k nm L)) := hid ⟨by unfold visL; rw [if_neg hk]; exact hV1, grown_trans h0 HA.out, BoxK.grown HA.out, HA.out.size⟩
    clear hV hV1 hl hB h0 hbx
    go_enter Try.func57, Try.ntmps57
    go_wp2_with fail
    go_end0
    exact ⟨rfl, HF.out⟩
end Go.Proofs.Ytlkajmfpbgipbaa
