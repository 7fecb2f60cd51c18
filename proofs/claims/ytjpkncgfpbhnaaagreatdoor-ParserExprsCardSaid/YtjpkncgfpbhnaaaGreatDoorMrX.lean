/-
  PeB PeC PeD PeA PeE, in one text.
-/
import Derived.Test.YtjpkncgfpbhnaaaGreatDoorMrP
import Derived.Test.YtjpkncgfpbhnaaaGreatDoorMrE
import Derived.Test.YtjpkncgfpbhnaaaGreatDoorMrL
import Derived.Test.YtjpkncgfpbhnaaaGreatDoorMrO
import Derived.Test.YtjpkncgfpbhnaaaGreatDoorMrD
set_option linter.unusedVariables false
set_option linter.unusedSimpArgs false
set_option maxRecDepth 100000
namespace Go.Proofs.YtjpkncgfpbhnaaaGreatDoor
open Go.RowKit _root_.Nm Lx Px
theorem tab_one : ∀ e ∈ Ax.tab, ∀ e' ∈ Ax.tab, e.w = e'.w → e.s ∈ [1, 2, 3] → e'.s ∈ [1, 2, 3] → e.s = e'.s := by decide +kernel
theorem kwS_zero {q : Nat → Bool} {w : List UInt8} (h : kwS q w = 0) : ∀ e ∈ Ax.tab, e.w = w → q e.s = false := by
  intro e he hw
  unfold kwS at h
  cases hf : Ax.tab.find? fun e => decide (e.w = w) && q e.s with
  | none =>
    have := List.find?_eq_none.1 hf e he
    simpa [hw] using this
  | some e' =>
    rw [hf] at h
    exact absurd h (tab_prm e' (List.mem_of_find?_eq_some hf)).2
theorem kO_pick {t : Tok} {s : Nat} (hs : s ∈ [1, 2, 3]) (h : kO [s] t ≠ 0) : kO [1, 2, 3] t = kO [s] t := by
  obtain ⟨e0, he0, hw, hq, -⟩ := kwS_mem h
  have hq : e0.s = s := by simpa using hq
  unfold kO kwS
  rw [find_congr (p' := fun e => decide (e.w = t.d.data.toList) && decide (e.s ∈ [s])) fun e he => ?_]
  by_cases h1 : e.w = t.d.data.toList
  · by_cases h2 : e.s ∈ [1, 2, 3]
    · have := tab_one e he e0 he0 (h1.trans hw.symm) h2 (by rw [hq]; exact hs)
      simp [h1, h2, this, hq]
      exact by simpa using hs
    · have h3 : ¬ e.s = s := fun h3 => h2 (by rw [h3]; exact hs)
      simp only [List.mem_singleton, h3, decide_false, Bool.and_false]
      simp [h2]
  · simp [h1]
theorem kO_rest {t : Tok} (h2 : kO [2] t = 0) (h3 : kO [3] t = 0) : kO [1, 2, 3] t = kO [1] t := by
  unfold kO kwS
  rw [find_congr (p' := fun e => decide (e.w = t.d.data.toList) && decide (e.s ∈ [1])) fun e he => ?_]
  by_cases h1 : e.w = t.d.data.toList
  · have k2 := kwS_zero h2 e he h1
    have k3 := kwS_zero h3 e he h1
    simp at k2 k3
    simp [h1, k2, k3]
  · simp [h1]
theorem conM_congr {V : List UInt8 → Rat} {rec : Nat → List Nat → Rs Tr} {L : List Tok} {i : Nat} {xs ys : List Nat} (h : kO xs (tk L i) = kO ys (tk L i)) : conM V rec L i xs = conM V rec L i ys := by
  unfold conM
  rw [h]
theorem argM_congr {V : List UInt8 → Rat} {L : List Tok} {i : Nat} {xs ys : List Nat} (h : kO xs (tk L i) = kO ys (tk L i)) : ∀ f, argM V L f i xs = argM V L f i ys
  | 0 => by unfold argM; rw [h]
  | f + 1 => by unfold argM; rw [h, conM_congr h]
def zTr : Tr := .node ⟨0, ⟨#[]⟩, false, [], [], 0⟩ []
def xprL (L : List Tok) (r : Rs Tr) : Tr × Nat × Int := match r with
  | .ok t j => if (tk L j).k = 0 then (t, 0, 0) else (zTr, (tk L j).pos, 5)
  | .bad j e => (zTr, (tk L j).pos, e)
def xprV (l : List UInt8) : Tr × Nat × Int := if (lexAll l).2.2 = 0 then xprL (toks l) (argM rqV (toks l) 20 0 [1, 2, 3]) else (zTr, (lexAll l).2.1, ((lexAll l).2.2 : Nat))
def XrP (V : Tr × Nat × Int) (w : World) (e : Ending) (w' : World) : Prop :=
  ∃ (y1 : Int) (y2 : ByteArray) (y3 : Bool) (s1 : Option Addr) (r1 k1 : Nat) (s2 : Option Addr) (r2 k2 : Nat) (s3 : Option Addr) (r3 k3 : Nat) (y7 : Int),
    e = .returned (.tuple #[.agg #[.int .i64 y1, .string y2, .bool y3, .slice s1 r1 k1, .slice s2 r2 k2, .slice s3 r3 k3, .int .i64 y7], .int .i64 (V.2.1 : Nat), .int .i64 V.2.2]) ∧ w.grownBy w' none ∧
    ERd w' 20 [.int .i64 y1, .string y2, .bool y3, .slice s1 r1 k1, .slice s2 r2 k2, .slice s3 r3 k3, .int .i64 y7] V.1
theorem zTr_rd {X : Nat → Prop} (w : World) (m : Nat) : ERdX X w (m + 1) [.int .i64 0, .string ⟨#[]⟩, .bool false, .slice none 0 0, .slice none 0 0, .slice none 0 0, .int .i64 0] zTr :=
  ⟨none, 0, 0, none, 0, 0, none, 0, 0, rfl, ⟨IRd.nil _ _, fun a h => by cases h⟩, ⟨IRd.nil _ _, fun a h => by cases h⟩, ⟨rfl, Nat.le_refl _, by omega, by decide⟩, fun i hi => absurd hi (Nat.not_lt_zero i)⟩
theorem XrP.bad {G : Nat} {w w5 : World} {V : Tr × Nat × Int} {j : Nat} {x : Int} (a b c d e f g : Value) (hg : w.grownBy w5 none) (hG : w.heap.size ≤ G) (hV : V = (zTr, j, x)) :
  XrP V w (.returned (.tuple #[.agg #[.int .i64 0, .string ⟨#[]⟩, .bool false, .slice none 0 0, .slice none 0 0, .slice none 0 0, .int .i64 0], .int .i64 (j : Nat), .int .i64 x])) (((((((w5.setCell ⟨G, 0, none⟩ a).setCell ⟨G, 1, none⟩ b).setCell ⟨G, 2, none⟩ c).setCell ⟨G, 3, none⟩ d).setCell ⟨G, 4, none⟩ e).setCell ⟨G, 5, none⟩ f).setCell ⟨G, 6, none⟩ g) := by
 subst hV
 exact ⟨0, ⟨#[]⟩, false, none, 0, 0, none, 0, 0, none, 0, 0, 0, rfl, grown_new hg (set7_gr w5 G a b c d e f g) (fun g e => by cases e; exact hG), (zTr_rd (X := fun _ => False) _ 19).erd⟩
theorem XrP.ok {G : Nat} {w w5 : World} {V : Tr × Nat × Int} {t : Tr} {y1 : Int} {y2 : ByteArray} {y3 : Bool} {s1 : Option Addr} {r1 k1 : Nat} {s2 : Option Addr} {r2 k2 : Nat} {s3 : Option Addr} {r3 k3 : Nat} {y7 : Int} (hg : w.grownBy w5 none) (hG : w.heap.size ≤ G) (hV : V = (t, 0, 0)) (hE : ERdX (fun k => k = G) w5 20 [.int .i64 y1, .string y2, .bool y3, .slice s1 r1 k1, .slice s2 r2 k2, .slice s3 r3 k3, .int .i64 y7] t) :
  XrP V w (.returned (.tuple #[.agg #[.int .i64 y1, .string y2, .bool y3, .slice s1 r1 k1, .slice s2 r2 k2, .slice s3 r3 k3, .int .i64 y7], .int .i64 0, .int .i64 0])) (((((((w5.setCell ⟨G, 0, none⟩ (.int .i64 y1)).setCell ⟨G, 1, none⟩ (.string y2)).setCell ⟨G, 2, none⟩ (.bool y3)).setCell ⟨G, 3, none⟩ (.slice s1 r1 k1)).setCell ⟨G, 4, none⟩ (.slice s2 r2 k2)).setCell ⟨G, 5, none⟩ (.slice s3 r3 k3)).setCell ⟨G, 6, none⟩ (.int .i64 y7)) := by
 subst hV
 have hs := set7_gr w5 G (.int .i64 y1) (.string y2) (.bool y3) (.slice s1 r1 k1) (.slice s2 r2 k2) (.slice s3 r3 k3) (.int .i64 y7)
 exact ⟨y1, y2, y3, s1, r1, k1, s2, r2, k2, s3, r3, k3, y7, rfl, grown_new hg hs (fun g e => by cases e; exact hG), (hE.kept hs (fun g e => by cases e; rfl)).erd⟩
theorem toks_rows (l : List UInt8) : (lexAll l).1.map (cells l) = (toks l).map Tok.row := by
 unfold toks
 rw [List.map_map]
 rfl
theorem tok_not_expr {w : World} {p : Option Addr} {c : Nat} {L : List Tok} (h : SRd w 4 p L.length c (L.map Tok.row)) (hn : 0 < L.length) {G : Nat} {k pos : Int} {nm : ByteArray} {g : Bool} {pn pd pa : Option Addr} {nn cn nd cd na ca : Nat} {T : TypeId} {z : Nat × Nat}
  (hb : w.heap[G]? = some (.cells #[.int .i64 k, .string nm, .bool g, .slice pn nn cn, .slice pd nd cd, .slice pa na ca, .int .i64 pos] T z)) : ∀ q, p = some q → q.block ≠ G := by
 rintro q rfl rfl
 obtain ⟨b, o, e, hc⟩ := h.at (by decide) (i := 0) (by simpa using hn)
 cases e
 have h0 := hc 0 (by simp [Tok.row])
 have h1 := hc 1 (by simp [Tok.row])
 rw [cell_of_row w b _ _ _ _ hb] at h0 h1
 simp only [List.getElem_map, Tok.row, List.getElem_cons_zero, List.getElem_cons_succ] at h0 h1
 match o, h0, h1 with
 | 0, _, h1 => simp at h1
 | 1, h0, _ => simp at h0
 | 2, h0, _ => simp at h0
 | 3, h0, _ => simp at h0
 | 4, h0, _ => simp at h0
 | 5, h0, _ => simp at h0
 | 6, _, h1 => simp at h1
 | o + 7, h0, _ => simp at h0
set_option maxHeartbeats 32000000 in
theorem pExpr_any (s : ByteArray) (l : List UInt8) (hl : s.data.toList = l) (w : World) (Tq : Tb w) :
  Calls Tryz.prog 14 #[.string s] w (XrP (xprV l) w) := by
 have HLX := hid fun W => lexAll_any s l hl W
 obtain ⟨wB, hwB⟩ : ∃ wB, wB = w.alloc (.cells #[.int .i64 0, .string ⟨#[]⟩, .bool false, .slice none 0 0, .slice none 0 0, .slice none 0 0, .int .i64 0] 38 (0, 0)) := ⟨_, rfl⟩
 have gB : w.grownBy wB none := by rw [hwB]; exact World.grownBy_alloc _ _ _
 have BR : Hid (wB.heap[w.heap.size]? = some (.cells #[.int .i64 0, .string ⟨#[]⟩, .bool false, .slice none 0 0, .slice none 0 0, .slice none 0 0, .int .i64 0] 38 (0, 0))) := hid (by rw [hwB]; exact blk0 w _)
 have HW := hid gB
 have HT := hid (Tq.keep gB)
 replace hwB := hid hwB
 have HSZ := hid (Nat.le_refl w.heap.size)
 clear Tq gB hl
 by_cases h0 : (lexAll l).2.2 = 0
 ·obtain ⟨L, hL⟩ : ∃ L, toks l = L := ⟨_, rfl⟩
  have HLK : Hid (LkOk L) := hid (by rw [← hL]; exact toks_ok h0)
  have HV : Hid (xprV l = xprL L (argM rqV L 20 0 [1, 2, 3])) := hid (by unfold xprV; rw [if_pos h0, hL])
  have HTR := hid (toks_rows l)
  rw [hL] at HTR
  have hLl := HLK.out.len
  have hLn := HLK.out.ne
  generalize xprV l = V at *
  have h00 : (((lexAll l).2.2 : Nat) : Int) = 0 := by omega
  clear hL h0
  go_enter Tryz.func14, Tryz.ntmps14
  go_upto_region 1 with fail
  rw [← hwB.out]
  go_upto_region 4 with (go_at_call 32; (with_reducible refine (HLX.out _).mono ?_); rintro e w1 ⟨p, n, c, rfl, hr, hg⟩; have HR := hid hr; replace HW := hid (grown_trans HW.out hg); replace HT := hid (HT.out.keep hg); replace BR := hid (keepB BR.out hg); clear hg hr)
  have BR0 := hid BR.out
  rw [HTR.out] at HR
  obtain rfl : n = L.length := by have := HR.out.len; simpa using this.symm
  clear HTR HLX h00
  have hgD := grown_trans (World.grownBy_alloc w1 (.cells #[.slice p L.length c, .int .i64 0, .int .i64 0, .int .i64 0] 70 (0, 0)) none) (World.grownBy_alloc _ (.cells #[.pointer (some ⟨w1.heap.size, 0, none⟩)] 79 (0, 0)) none)
  have bC := keepB (blk0 w1 (.cells #[.slice p L.length c, .int .i64 0, .int .i64 0, .int .i64 0] 70 (0, 0))) (World.grownBy_alloc _ (.cells #[.pointer (some ⟨w1.heap.size, 0, none⟩)] 79 (0, 0)) none)
  have bE := blk0 (w1.alloc (.cells #[.slice p L.length c, .int .i64 0, .int .i64 0, .int .i64 0] 70 (0, 0))) (.cells #[.pointer (some ⟨w1.heap.size, 0, none⟩)] 79 (0, 0))
  rw [show (w1.alloc (.cells #[.slice p L.length c, .int .i64 0, .int .i64 0, .int .i64 0] 70 (0, 0))).heap.size = w1.heap.size + 1 by simp] at bE
  have hpne : ∀ q, p = some q → q.block ≠ w1.heap.size := fun q hq => by
   obtain ⟨g, o, e, hc⟩ := HR.out.at (by decide) (i := 0) (by simpa using hLn)
   have := World.block_lt_of_cell? w1 _ (hc 0 (by simp [Tok.row]))
   rw [hq] at e
   cases e
   simp at this ⊢
   omega
  have HC := hid (show CurAt _ w1.heap.size p c L 0 0 0 from ⟨bC, HR.out.keep hgD, hpne⟩)
  replace BR := hid (keepB BR.out hgD); replace HT := hid (HT.out.keep hgD); replace HW2 := hid (grown_trans HW.out hgD)
  have hwK : w.heap.size < w1.heap.size := by have := lt_of_block (show w1.heap[w.heap.size]? = _ from BR0.out); exact this
  have BE := hid bE
  have BE0 := hid bE
  clear bC bE hpne HR HW BR0
  go_upto_region 5 with fail
  generalize w1.heap.size = K at *
  clear hgD
  generalize (w1.alloc _).alloc _ = w2 at *
  have gS := World.grownBy_alloc w2 (.cells #[.int .i64 1, .int .i64 2, .int .i64 3] 3) none
  have b3 := heap_alloc_new w2 (.cells #[.int .i64 1, .int .i64 2, .int .i64 3] 3)
  have hI : IRd (w2.alloc (.cells #[.int .i64 1, .int .i64 2, .int .i64 3] 3)) .i64 (some ⟨w2.heap.size, 0, none⟩) 3 3 [1, 2, 3] := ⟨rfl, Nat.le_refl _, by omega, fun i hi => ⟨w2.heap.size, 0, rfl, by
   rw [cell_of_row _ w2.heap.size (0 + i) _ _ _ b3]
   match i, hi with
   | 0, _ => rfl
   | 1, _ => rfl
   | 2, _ => rfl⟩⟩
  have hlK := HC.out.lt
  have HA := hid (argC_any HLK.out 20 1 rfl (by omega) (w2.alloc (.cells #[.int .i64 1, .int .i64 2, .int .i64 3] 3)) (fun k => k = w.heap.size ∨ k = K) K p c 0 0 0 [1, 2, 3] (some ⟨w2.heap.size, 0, none⟩) 3 3
   (fun k hk => by have := gS.size; rcases hk with rfl | rfl; have := lt_of_block BR.out; omega; omega) (.inr rfl) (HT.out.keep gS)
   (fun k hk => by rcases hk with rfl | rfl; exact nu7 (keepB BR.out gS); exact (HC.out.keep gS).nu) (HC.out.keep gS) hLn hI (fun a ha => by cases ha; simp; omega))
  replace BR := hid (keepB BR.out gS); replace BE := hid (keepB BE.out gS); replace HW2 := hid (grown_trans HW2.out gS)
  have hx0 := (box1e (show w2.heap[K + 1]? = _ from BE0.out)).1
  clear gS b3 hI hlK HC BE0
  go_upto_region 6 with (go_at_call 36; (with_reducible refine HA.out.mono ?_); rintro e w3 ⟨y1, y2, y3, s1, r1, k1, s2, r2, k2, s3, r3, k3, y7, ok, rfl, hg, hO⟩; have HO := hid hO; have HG3 := hid (grown_newr (show w.grownBy _ none from HW2.out) hg (by omega)); have BR3 := hid ((hg.block w.heap.size (lt_of_block BR.out) (by simp; omega)).trans BR.out); have BE3 := hid ((hg.block (K + 1) (lt_of_block BE.out) (by simp)).trans BE.out); clear hg hO HA; obtain ⟨⟨z0, z1, z2, z3, z4, z5, z6⟩, y0, q1, q2, q3, q4, q5, q6⟩ := box7 BR3.out)
  have gS4 := set7_gr w3 w.heap.size (.int .i64 y1) (.string y2) (.bool y3) (.slice s1 r1 k1) (.slice s2 r2 k2) (.slice s3 r3 k3) (.int .i64 y7)
  have BR4 := hid (set7_blk BR3.out (.int .i64 y1) (.string y2) (.bool y3) (.slice s1 r1 k1) (.slice s2 r2 k2) (.slice s3 r3 k3) (.int .i64 y7))
  have HG4 := hid (grown_newr HG3.out gS4 (Nat.le_refl _))
  have BE4 := hid ((gS4.block (K + 1) (lt_of_block BE3.out) (by simp; omega)).trans BE3.out)
  have HGS := hid gS4
  clear z0 z1 z2 z3 z4 z5 z6 y0 q1 q2 q3 q4 q5 q6 hx0 BR BE HW2 HT gS4
  generalize ((((((w3.setCell _ _).setCell _ _).setCell _ _).setCell _ _).setCell _ _).setCell _ _).setCell _ _ = w4 at *
  have hx0 := (box1e BE4.out).1
  cases ok with
  | true =>
   obtain ⟨t, j', hr, hj', hE, hC⟩ := HO.out.get rfl
   have HE := hid (hE.kept HGS.out (fun g e => by cases e; exact .inl rfl))
   have HC := hid (hC.keptr HGS.out (by simp; omega) (fun q hq => by simpa using tok_not_expr hC.rd hLn BR3.out q hq))
   obtain ⟨f, hf⟩ : ∃ f : Bool, f = true ↔ (L[j']).k = 0 := ex_bool _
   have HEN := hid (curEnd_any HC.out hj' f hf)
   clear HO hE hC
   cases f with
   | true =>
    have HVV : Hid (V = (t, 0, 0)) := hid (by rw [HV.out, hr]; show (if (tk L j').k = 0 then _ else _) = _; rw [tk_at hj', if_pos (hf.1 rfl)])
    clear hf hr HV
    go_upto_region 8 with (go_at_call 37; (with_reducible refine HEN.out.mono ?_); rintro e w5 ⟨rfl, hC, hg⟩; have HG5 := hid (grown_newr HG4.out hg (by omega)); have BR5 := hid ((hg.block w.heap.size (lt_of_block BR4.out) (by simp; omega)).trans BR4.out); have HE5 := hid (HE.out.kept hg (fun g e => by cases e; exact .inr rfl)); clear hg hC HEN)
    obtain ⟨⟨z0, z1, z2, z3, z4, z5, z6⟩, y0, q1, q2, q3, q4, q5, q6⟩ := box7 BR5.out
    have HP := hid (XrP.ok (V := V) HG5.out (Nat.le_refl _) HVV.out (HE5.out.more (fun b hb => .inl (.inl hb))))
    obtain ⟨⟨l0, l1, l2, l3, l4, l5, l6⟩, -⟩ := box7 (set7_blk BR5.out (.int .i64 y1) (.string y2) (.bool y3) (.slice s1 r1 k1) (.slice s2 r2 k2) (.slice s3 r3 k3) (.int .i64 y7))
    go_wp2_with fail
    exact bodyPost_ret (v := .tuple #[.agg #[.int .i64 y1, .string y2, .bool y3, .slice s1 r1 k1, .slice s2 r2 k2, .slice s3 r3 k3, .int .i64 y7], .int .i64 0, .int .i64 0]) (by simp [results, Tryz.results14, go_sem, l0, l1, l2, l3, l4, l5, l6]) rfl HP.out
   | false =>
    have HVV : Hid (V = (zTr, (tk L j').pos, 5)) := hid (by rw [HV.out, hr]; show (if (tk L j').k = 0 then _ else _) = _; rw [tk_at hj', if_neg (fun h => by have := hf.2 h; cases this)])
    simp only [Bool.false_eq_true, ↓reduceIte] at HEN
    rw [← tk_at hj'] at HEN
    clear hr HV hf
    go_upto_region 7 with (go_at_call 37; (with_reducible refine HEN.out.mono ?_); rintro e w5 ⟨rfl, hC, hg⟩; have HG5 := hid (grown_newr HG4.out hg (by omega)); have BR5 := hid ((hg.block w.heap.size (lt_of_block BR4.out) (by simp; omega)).trans BR4.out); have BE5 := hid ((hg.block (K + 1) (lt_of_block BE4.out) (by simp)).trans BE4.out); have HC5 := hid hC; clear hg hC HEN)
    clear hx0
    obtain ⟨⟨c0, c1, c2, c3⟩, -⟩ := box4 HC5.out.box
    have hx0 := (box1e BE5.out).1
    have BRx := BR5.out
    have HCS := hid fun W (hSw : w5.grownBy W (some w.heap.size)) => And.intro (hSw.cell c2 (by simp; omega)) (And.intro (hSw.cell c3 (by simp; omega)) (hSw.cell hx0 (by simp; omega)))
    refine wp_region_noPanic ?_
    refine wp_region_held_drew (S := (fun W' => w5.grownBy W' (some w.heap.size))) (by kernel_rfl) ?_ (fun hHeld => ?_)
    ·(try dsimp only)
     exact grown_some (grown_drew _ none) _
    have hgg := grown_drew w5 none
    have BRd := keepB BRx hgg
    generalize w5.drew = wd at *
    refine tkH (v := ?_) 0 rfl hHeld ?_ ?_; rotate_left 1
    ·intro W hSw; obtain ⟨r2, r3, rx⟩ := HCS.out W hSw; go_simp; (try (with_reducible rfl))
    (try simp only [Act.put, pu1, pu2, pu3])
    refine tkH (v := ?_) 1 rfl hHeld ?_ ?_; rotate_left 1
    ·intro W hSw; obtain ⟨r2, r3, rx⟩ := HCS.out W hSw; go_simp; (try (with_reducible rfl))
    (try simp only [Act.put, pu1, pu2, pu3])
    refine tkH (v := ?_) 2 rfl hHeld ?_ ?_; rotate_left 1
    ·intro W hSw; obtain ⟨r2, r3, rx⟩ := HCS.out W hSw; go_simp; (try (with_reducible rfl))
    (try simp only [Act.put, pu1, pu2, pu3])
    refine tkH (v := ?_) 3 rfl hHeld ?_ ?_; rotate_left 1
    ·intro W hSw; obtain ⟨r2, r3, rx⟩ := HCS.out W hSw; go_simp; (try (with_reducible rfl))
    (try simp only [Act.put, pu1, pu2, pu3])
    refine tkH (v := ?_) 4 rfl hHeld ?_ ?_; rotate_left 1
    ·intro W hSw; obtain ⟨r2, r3, rx⟩ := HCS.out W hSw; go_simp; (try (with_reducible rfl))
    (try simp only [Act.put, pu1, pu2, pu3])
    refine tkH (v := ?_) 5 rfl hHeld ?_ ?_; rotate_left 1
    ·intro W hSw; obtain ⟨r2, r3, rx⟩ := HCS.out W hSw; go_simp; (try (with_reducible rfl))
    (try simp only [Act.put, pu1, pu2, pu3])
    refine tkH (v := ?_) 6 rfl hHeld ?_ ?_; rotate_left 1
    ·intro W hSw; obtain ⟨r2, r3, rx⟩ := HCS.out W hSw; go_simp; (try (with_reducible rfl))
    (try simp only [Act.put, pu1, pu2, pu3])
    refine tkH (v := ?_) 7 rfl hHeld ?_ ?_; rotate_left 1
    ·intro W hSw; obtain ⟨r2, r3, rx⟩ := HCS.out W hSw; go_simp; (try (with_reducible rfl))
    (try simp only [Act.put, pu1, pu2, pu3])
    refine tkH (v := ?_) 8 rfl hHeld ?_ ?_; rotate_left 1
    ·intro W hSw; obtain ⟨r2, r3, rx⟩ := HCS.out W hSw; go_simp; (try (with_reducible rfl))
    (try simp only [Act.put, pu1, pu2, pu3])
    refine tkH (v := ?_) 9 rfl hHeld ?_ ?_; rotate_left 1
    ·intro W hSw; obtain ⟨r2, r3, rx⟩ := HCS.out W hSw; go_simp; (try (with_reducible rfl))
    (try simp only [Act.put, pu1, pu2, pu3])
    refine tkH (v := ?_) 10 rfl hHeld ?_ ?_; rotate_left 1
    ·intro W hSw; obtain ⟨r2, r3, rx⟩ := HCS.out W hSw; go_simp; (try (with_reducible rfl))
    (try simp only [Act.put, pu1, pu2, pu3])
    refine wpAnyH_ready (rs := [11]) (by kernel_rfl) (by simp) ?_
    refine aR1 rfl fun K hK => ?_
    (try rw [if_pos (by kernel_rfl)])
    obtain ⟨⟨z0, z1, z2, z3, z4, z5, z6⟩, y0, q1, q2, q3, q4, q5, q6⟩ := box7 BRd
    go_simp
    have hgS := set7_gr wd w.heap.size (.int .i64 0) (.string ⟨#[]⟩) (.bool false) (.slice none 0 0) (.slice none 0 0) (.slice none 0 0) (.int .i64 0)
    refine hK.out _ _ ?_ (fun hNew => ?_)
    ·first | with_reducible exact hHeld | with_reducible exact grown_trans hHeld hgS
    clear hK K hHeld
    have hHeld := hNew
    clear hNew
    (try simp only [Act.put, pu1, pu2, pu3])
    clear z0 z1 z2 z3 z4 z5 z6 y0 q1 q2 q3 q4 q5 q6
    refine wpAnyH_ready (rs := [12]) (by kernel_rfl) (by simp) ?_
    refine aR1 rfl fun K hK => ?_
    (try rw [if_pos (by kernel_rfl)])
    go_simp
    refine hK.out _ _ ?_ (fun hNew => ?_)
    ·first | with_reducible exact hHeld | with_reducible exact grown_trans hHeld hgS
    clear hK K hHeld
    have hHeld := hNew
    clear hNew
    (try simp only [Act.put, pu1, pu2, pu3])
    refine wpAnyH_ready (rs := [13]) (by kernel_rfl) (by simp) ?_
    refine aR1 rfl fun K hK => ?_
    (try rw [if_pos (by kernel_rfl)])
    go_simp
    refine hK.out _ _ ?_ (fun hNew => ?_)
    ·first | with_reducible exact hHeld | with_reducible exact grown_trans hHeld hgS
    clear hK K hHeld
    have hHeld := hNew
    clear hNew
    (try simp only [Act.put, pu1, pu2, pu3])
    refine wpAnyH_done (by kernel_rfl) ?_ _
    refine NoPanic.normal ?_
    have HP := hid (XrP.bad (V := V) (.int .i64 0) (.string ⟨#[]⟩) (.bool false) (.slice none 0 0) (.slice none 0 0) (.slice none 0 0) (.int .i64 0) (grown_trans HG5.out hgg) (Nat.le_refl _) HVV.out)
    obtain ⟨⟨l0, l1, l2, l3, l4, l5, l6⟩, -⟩ := box7 (set7_blk BRd (.int .i64 0) (.string ⟨#[]⟩) (.bool false) (.slice none 0 0) (.slice none 0 0) (.slice none 0 0) (.int .i64 0))
    go_wp2_with fail
    exact bodyPost_ret (v := .tuple #[.agg #[.int .i64 0, .string ⟨#[]⟩, .bool false, .slice none 0 0, .slice none 0 0, .slice none 0 0, .int .i64 0], .int .i64 ((tk L j').pos : Nat), .int .i64 5]) (by simp [results, Tryz.results14, go_sem, l0, l1, l2, l3, l4, l5, l6]) rfl HP.out
  | false =>
   obtain ⟨j', er', nx, hr, hj', hC⟩ := HO.out.bad (by simp)
   have HC5 := hid (hC.keptr HGS.out (by simp; omega) (fun q hq => by simpa using tok_not_expr hC.rd hLn BR3.out q hq))
   have HVV : Hid (V = (zTr, (tk L j').pos, er')) := hid (by rw [HV.out, hr]; rfl)
   have BR5 := BR4; have HG5 := HG4; have BE5 := BE4
   clear HO hr hC HV hx0
   go_upto_region 7 with fail
   obtain ⟨⟨c0, c1, c2, c3⟩, -⟩ := box4 HC5.out.box
   have hx0 := (box1e BE5.out).1
   have BRx := BR5.out
   have HCS := hid fun W (hSw : w4.grownBy W (some w.heap.size)) => And.intro (hSw.cell c2 (by simp; omega)) (And.intro (hSw.cell c3 (by simp; omega)) (hSw.cell hx0 (by simp; omega)))
   refine wp_region_noPanic ?_
   refine wp_region_held_drew (S := (fun W' => w4.grownBy W' (some w.heap.size))) (by kernel_rfl) ?_ (fun hHeld => ?_)
   ·(try dsimp only)
    exact grown_some (grown_drew _ none) _
   have hgg := grown_drew w4 none
   have BRd := keepB BRx hgg
   generalize w4.drew = wd at *
   refine tkH (v := ?_) 0 rfl hHeld ?_ ?_; rotate_left 1
   ·intro W hSw; obtain ⟨r2, r3, rx⟩ := HCS.out W hSw; go_simp; (try (with_reducible rfl))
   (try simp only [Act.put, pu1, pu2, pu3])
   refine tkH (v := ?_) 1 rfl hHeld ?_ ?_; rotate_left 1
   ·intro W hSw; obtain ⟨r2, r3, rx⟩ := HCS.out W hSw; go_simp; (try (with_reducible rfl))
   (try simp only [Act.put, pu1, pu2, pu3])
   refine tkH (v := ?_) 2 rfl hHeld ?_ ?_; rotate_left 1
   ·intro W hSw; obtain ⟨r2, r3, rx⟩ := HCS.out W hSw; go_simp; (try (with_reducible rfl))
   (try simp only [Act.put, pu1, pu2, pu3])
   refine tkH (v := ?_) 3 rfl hHeld ?_ ?_; rotate_left 1
   ·intro W hSw; obtain ⟨r2, r3, rx⟩ := HCS.out W hSw; go_simp; (try (with_reducible rfl))
   (try simp only [Act.put, pu1, pu2, pu3])
   refine tkH (v := ?_) 4 rfl hHeld ?_ ?_; rotate_left 1
   ·intro W hSw; obtain ⟨r2, r3, rx⟩ := HCS.out W hSw; go_simp; (try (with_reducible rfl))
   (try simp only [Act.put, pu1, pu2, pu3])
   refine tkH (v := ?_) 5 rfl hHeld ?_ ?_; rotate_left 1
   ·intro W hSw; obtain ⟨r2, r3, rx⟩ := HCS.out W hSw; go_simp; (try (with_reducible rfl))
   (try simp only [Act.put, pu1, pu2, pu3])
   refine tkH (v := ?_) 6 rfl hHeld ?_ ?_; rotate_left 1
   ·intro W hSw; obtain ⟨r2, r3, rx⟩ := HCS.out W hSw; go_simp; (try (with_reducible rfl))
   (try simp only [Act.put, pu1, pu2, pu3])
   refine tkH (v := ?_) 7 rfl hHeld ?_ ?_; rotate_left 1
   ·intro W hSw; obtain ⟨r2, r3, rx⟩ := HCS.out W hSw; go_simp; (try (with_reducible rfl))
   (try simp only [Act.put, pu1, pu2, pu3])
   refine tkH (v := ?_) 8 rfl hHeld ?_ ?_; rotate_left 1
   ·intro W hSw; obtain ⟨r2, r3, rx⟩ := HCS.out W hSw; go_simp; (try (with_reducible rfl))
   (try simp only [Act.put, pu1, pu2, pu3])
   refine tkH (v := ?_) 9 rfl hHeld ?_ ?_; rotate_left 1
   ·intro W hSw; obtain ⟨r2, r3, rx⟩ := HCS.out W hSw; go_simp; (try (with_reducible rfl))
   (try simp only [Act.put, pu1, pu2, pu3])
   refine tkH (v := ?_) 10 rfl hHeld ?_ ?_; rotate_left 1
   ·intro W hSw; obtain ⟨r2, r3, rx⟩ := HCS.out W hSw; go_simp; (try (with_reducible rfl))
   (try simp only [Act.put, pu1, pu2, pu3])
   refine wpAnyH_ready (rs := [11]) (by kernel_rfl) (by simp) ?_
   refine aR1 rfl fun K hK => ?_
   (try rw [if_pos (by kernel_rfl)])
   obtain ⟨⟨z0, z1, z2, z3, z4, z5, z6⟩, y0, q1, q2, q3, q4, q5, q6⟩ := box7 BRd
   go_simp
   have hgS := set7_gr wd w.heap.size (.int .i64 0) (.string ⟨#[]⟩) (.bool false) (.slice none 0 0) (.slice none 0 0) (.slice none 0 0) (.int .i64 0)
   refine hK.out _ _ ?_ (fun hNew => ?_)
   ·first | with_reducible exact hHeld | with_reducible exact grown_trans hHeld hgS
   clear hK K hHeld
   have hHeld := hNew
   clear hNew
   (try simp only [Act.put, pu1, pu2, pu3])
   clear z0 z1 z2 z3 z4 z5 z6 y0 q1 q2 q3 q4 q5 q6
   refine wpAnyH_ready (rs := [12]) (by kernel_rfl) (by simp) ?_
   refine aR1 rfl fun K hK => ?_
   (try rw [if_pos (by kernel_rfl)])
   go_simp
   refine hK.out _ _ ?_ (fun hNew => ?_)
   ·first | with_reducible exact hHeld | with_reducible exact grown_trans hHeld hgS
   clear hK K hHeld
   have hHeld := hNew
   clear hNew
   (try simp only [Act.put, pu1, pu2, pu3])
   refine wpAnyH_ready (rs := [13]) (by kernel_rfl) (by simp) ?_
   refine aR1 rfl fun K hK => ?_
   (try rw [if_pos (by kernel_rfl)])
   go_simp
   refine hK.out _ _ ?_ (fun hNew => ?_)
   ·first | with_reducible exact hHeld | with_reducible exact grown_trans hHeld hgS
   clear hK K hHeld
   have hHeld := hNew
   clear hNew
   (try simp only [Act.put, pu1, pu2, pu3])
   refine wpAnyH_done (by kernel_rfl) ?_ _
   refine NoPanic.normal ?_
   have HP := hid (XrP.bad (V := V) (.int .i64 0) (.string ⟨#[]⟩) (.bool false) (.slice none 0 0) (.slice none 0 0) (.slice none 0 0) (.int .i64 0) (grown_trans HG5.out hgg) (Nat.le_refl _) HVV.out)
   obtain ⟨⟨l0, l1, l2, l3, l4, l5, l6⟩, -⟩ := box7 (set7_blk BRd (.int .i64 0) (.string ⟨#[]⟩) (.bool false) (.slice none 0 0) (.slice none 0 0) (.slice none 0 0) (.int .i64 0))
   go_wp2_with fail
   exact bodyPost_ret (v := .tuple #[.agg #[.int .i64 0, .string ⟨#[]⟩, .bool false, .slice none 0 0, .slice none 0 0, .slice none 0 0, .int .i64 0], .int .i64 ((tk L j').pos : Nat), .int .i64 er']) (by simp [results, Tryz.results14, go_sem, l0, l1, l2, l3, l4, l5, l6]) rfl HP.out
 ·have HV : Hid (xprV l = (zTr, (lexAll l).2.1, (((lexAll l).2.2 : Nat) : Int))) := hid (by unfold xprV; rw [if_neg h0])
  have h00 : ¬ (((lexAll l).2.2 : Nat) : Int) = 0 := by omega
  generalize xprV l = V at *
  go_enter Tryz.func14, Tryz.ntmps14
  go_upto_region 1 with fail
  rw [← hwB.out]
  go_upto_region 3 with (go_at_call 32; (with_reducible refine (HLX.out _).mono ?_); rintro e w1 ⟨p, n, c, rfl, hr, hg⟩; replace HW := hid (grown_trans HW.out hg); replace BR := hid (keepB BR.out hg); clear hg hr)
  generalize (lexAll l).2.2 = e0 at *
  generalize (lexAll l).2.1 = a0 at *
  obtain ⟨⟨z0, z1, z2, z3, z4, z5, z6⟩, y0, q1, q2, q3, q4, q5, q6⟩ := box7 BR.out
  have HP := hid (XrP.bad (V := V) (.int .i64 0) (.string ⟨#[]⟩) (.bool false) (.slice none 0 0) (.slice none 0 0) (.slice none 0 0) (.int .i64 0) HW.out (Nat.le_refl _) HV.out)
  obtain ⟨⟨l0, l1, l2, l3, l4, l5, l6⟩, -⟩ := box7 (set7_blk BR.out (.int .i64 0) (.string ⟨#[]⟩) (.bool false) (.slice none 0 0) (.slice none 0 0) (.slice none 0 0) (.int .i64 0))
  go_wp2_with fail
  exact bodyPost_ret (v := .tuple #[.agg #[.int .i64 0, .string ⟨#[]⟩, .bool false, .slice none 0 0, .slice none 0 0, .slice none 0 0, .int .i64 0], .int .i64 (a0 : Nat), .int .i64 (e0 : Nat)]) (by simp [results, Tryz.results14, go_sem, l0, l1, l2, l3, l4, l5, l6]) rfl HP.out
theorem raC_any {L : List Tok} (hL : LkOk L) : ∀ (f : Nat) (dep : Int), dep = 21 - (f : Int) → f ≤ 21 → RaC (argM rqV L f) dep L f
 | 0, dep, hd, _ => fun w X p c j so hX hNU h hj => by
  have h2 := rArg_any (m := 0) (dep := dep) hL (by omega) (by omega) h X hX hNU hj so (argM rqV L 0 j (soP so)) (.bad 0 0)
   ⟨fun h => if_pos h, fun h _ => if_neg h, fun h => absurd (show dep > 20 by omega) h, fun h => absurd (show dep > 20 by omega) h⟩ (fun h => absurd (show dep > 20 by omega) h)
  refine h2.mono ?_
  rintro e w' ⟨y1, y2, y3, s1, r1, k1, s2, r2, k2, s3, r3, k3, y7, j', x, he, hg, hO⟩
  refine ⟨y1, y2, y3, s1, r1, k1, s2, r2, k2, s3, r3, k3, y7, j', x, he, hg, ?_⟩
  rcases hO with ⟨h0, t, h1, _⟩ | h
  ·unfold argM at h1
   split at h1 <;> cases h1
  ·exact .inr h
 | f + 1, dep, hd, hf => fun w X p c j so hX hNU h hj =>
  rArg_any (m := f) (dep := dep) hL (by omega) (by omega) h X hX hNU hj so (argM rqV L (f + 1) j (soP so)) (conM rqV (argM rqV L f) L j (soP so))
   ⟨fun h => if_pos h, fun _ h => absurd h (by omega), fun _ h => by unfold argM; rw [if_neg (fun h' => by rw [h] at h'; cases h'.1), if_pos h], fun _ h h2 => by unfold argM; rw [if_neg (fun h' => h2 h'.2), if_neg (by rw [h]; simp)]⟩
   (fun _ Y W hY hNY hTW => rCon_any hL (raC_any hL f (dep + 1) (by omega) (by omega)) (by omega) (by omega) (fun j xs hj => argM_in hL f j xs hj) hTW Y hY hNY hj so)
def pkS (t : Tok) : Nat → Nat
 | 0 => 1
 | 1 => if kO [2] t = 0 then 1 else 2
 | _ => if kO [3] t = 0 then (if kO [2] t = 0 then 1 else 2) else 3
theorem pkS_kO (t : Tok) : kO [1, 2, 3] t = kO (soP (pkS t 2)) t := by
 unfold pkS
 by_cases h3 : kO [3] t = 0
 ·rw [if_pos h3]
  by_cases h2 : kO [2] t = 0
  ·rw [if_pos h2]
   exact kO_rest h2 h3
  ·rw [if_neg h2]
   exact kO_pick (s := 2) (by decide) h2
 ·rw [if_neg h3]
  exact kO_pick (s := 3) (by decide) h3
theorem TokRd.keptE {w w' : World} {p : Option Addr} {c : Nat} {L : List Tok} (h : TokRd w p c L) {G : Nat} (hg : w.grownBy w' (some G)) (hp : ∀ q, p = some q → q.block ≠ G) : TokRd w' p c L := SRd.kept h hg (.inr fun q hq => by simpa using hp q hq)
set_option maxHeartbeats 32000000 in
theorem rExpr_any (s : ByteArray) (l : List UInt8) (hl : s.data.toList = l) (w : World) :
  Calls Tryz.prog 15 #[.string s] w (XrP (xprV l) w) := by
 have HLX := hid fun W => rAll_any s l hl W
 obtain ⟨wB, hwB⟩ : ∃ wB, wB = w.alloc (.cells #[.int .i64 0, .string ⟨#[]⟩, .bool false, .slice none 0 0, .slice none 0 0, .slice none 0 0, .int .i64 0] 38 (0, 0)) := ⟨_, rfl⟩
 have gB : w.grownBy wB none := by rw [hwB]; exact World.grownBy_alloc _ _ _
 have BR : Hid (wB.heap[w.heap.size]? = some (.cells #[.int .i64 0, .string ⟨#[]⟩, .bool false, .slice none 0 0, .slice none 0 0, .slice none 0 0, .int .i64 0] 38 (0, 0))) := hid (by rw [hwB]; exact blk0 w _)
 have HW := hid gB
 replace hwB := hid hwB
 have HSZ := hid (Nat.le_refl w.heap.size)
 clear gB hl
 by_cases h0 : (lexAll l).2.2 = 0
 ·obtain ⟨L, hL⟩ : ∃ L, toks l = L := ⟨_, rfl⟩
  have HLK : Hid (LkOk L) := hid (by rw [← hL]; exact toks_ok h0)
  have HV : Hid (xprV l = xprL L (argM rqV L 20 0 [1, 2, 3])) := hid (by unfold xprV; rw [if_pos h0, hL])
  have HTR := hid (toks_rows l)
  rw [hL] at HTR
  have hLl := HLK.out.len
  have hLn := HLK.out.ne
  generalize xprV l = V at *
  have h00 : (((lexAll l).2.2 : Nat) : Int) = 0 := by omega
  clear hL h0
  go_enter Tryz.func15, Tryz.ntmps15
  go_upto_region 1 with fail
  rw [← hwB.out]
  go_upto_region 4 with (go_at_call 34; (with_reducible refine (HLX.out _).mono ?_); rintro e w1 ⟨p, n, c, rfl, hr, hg⟩; have HR := hid hr; replace HW := hid (grown_trans HW.out hg); replace BR := hid (keepB BR.out hg); clear hg hr)
  rw [HTR.out] at HR
  obtain rfl : n = L.length := by have := HR.out.len; simpa using this.symm
  have HTK : Hid (TokRd w1 p c L) := hid HR.out
  clear HTR HLX h00 HR
  generalize (lexAll l).2.1 = a0 at *
  go_upto_region 6 with fail
  have gS := World.grownBy_alloc w1 (.cells #[.int .i64 2, .int .i64 3] 3) none
  have b3 := heap_alloc_new w1 (.cells #[.int .i64 2, .int .i64 3] 3)
  replace HTK := hid (HTK.out.keep gS); replace HW := hid (grown_trans HW.out gS); replace BR := hid (keepB BR.out gS)
  have s0 : (w1.alloc (.cells #[.int .i64 2, .int .i64 3] 3)).cell? ⟨w1.heap.size, 0, none⟩ = some (.int .i64 2) := by rw [cell_of_row _ w1.heap.size 0 _ _ _ b3]; rfl
  have s1 : (w1.alloc (.cells #[.int .i64 2, .int .i64 3] 3)).cell? ⟨w1.heap.size, 1, none⟩ = some (.int .i64 3) := by rw [cell_of_row _ w1.heap.size 1 _ _ _ b3]; rfl
  clear gS b3
  generalize w1.heap.size = KS at *
  generalize (w1.alloc _) = w2 at *
  have hpe := tok_not_expr HTK.out hLn BR.out
  obtain ⟨g, o, rfl, -⟩ := tok_at HTK.out hLn
  have HPE := hid hpe
  have hTk : TkOk (tk L 0) := by rw [tk_at hLn]; exact HLK.out.ok 0 hLn
  obtain ⟨t0, t1, t2, t3⟩ := tok_cells HTK.out hLn
  simp only [Nat.zero_mul, Nat.add_zero] at t0 t1 t2 t3
  have T0 := hid (And.intro s0 (And.intro s1 (And.intro t0 (And.intro t1 (And.intro t2 t3)))))
  have HPK := hid (pkS_kO (tk L 0))
  obtain ⟨ka, hk2⟩ : ∃ k, kO [2] (tk L 0) = k := ⟨_, rfl⟩
  obtain ⟨kb, hk3⟩ : ∃ k, kO [3] (tk L 0) = k := ⟨_, rfl⟩
  have HK2 : Hid (∀ W, Calls Tryz.prog 38 #[.agg #[.int .i64 (tk L 0).k, .int .i64 (tk L 0).pos, .int .i64 (tk L 0).en, .string (tk L 0).d], .int .i64 2] W fun e w' => e = .returned (.int .i64 (ka : Nat)) ∧ W.grownBy w' none) := hid fun W => by rw [← hk2]; exact rKindOf_any hTk 2 W
  have HK3 : Hid (∀ W, Calls Tryz.prog 38 #[.agg #[.int .i64 (tk L 0).k, .int .i64 (tk L 0).pos, .int .i64 (tk L 0).en, .string (tk L 0).d], .int .i64 3] W fun e w' => e = .returned (.int .i64 (kb : Nat)) ∧ W.grownBy w' none) := hid fun W => by rw [← hk3]; exact rKindOf_any hTk 3 W
  have HP1 : Hid (pkS (tk L 0) 1 = if ka = 0 then 1 else 2) := hid (by rw [← hk2]; rfl)
  have HP2 : Hid (pkS (tk L 0) 2 = if kb = 0 then pkS (tk L 0) 1 else 3) := hid (by rw [← hk3]; rfl)
  have HS := hid hTk
  clear hpe hTk hk2 hk3 s0 s1 t0 t1 t2 t3
  go_loopw [6, 23] (fun x y wr => ∃ i so : Nat, x = .int .i64 so ∧ y = .int .i64 i ∧ i ≤ 2 ∧ Hid (so = pkS (tk L 0) i) ∧ w2.grownBy wr none) (fun _ y _ => 2 - (intOf y).toNat)
  case atStart => exact ⟨0, 1, rfl, rfl, by omega, hid rfl, grown_refl _ _⟩
  case round =>
   obtain ⟨i, so, rfl, rfl, hi, HSO, hgr⟩ := hrel
   have hi3 : i = 0 ∨ i = 1 ∨ i = 2 := by omega
   rcases hi3 with rfl | rfl | rfl
   ·obtain ⟨s0, s1, t0, t1, t2, t3⟩ := T0.out
    replace s0 := hgr.cell s0 (by simp); replace s1 := hgr.cell s1 (by simp); replace t0 := hgr.cell t0 (by simp); replace t1 := hgr.cell t1 (by simp); replace t2 := hgr.cell t2 (by simp); replace t3 := hgr.cell t3 (by simp)
    by_cases hz : ka = 0
    ·have hz1 : (ka : Int) = 0 := by omega
     have HSN : Hid (so = pkS (tk L 0) 1) := hid (by rw [HSO.out, HP1.out, if_pos hz]; rfl)
     clear hz
     go_wp2_with (go_at_call 38; (with_reducible refine (HK2.out _).mono ?_); rintro e wk ⟨rfl, hgk⟩; have hgn := grown_trans hgr hgk; clear hgk)
     exact ⟨⟨1, so, rfl, by go_num, by omega, HSN, hgn⟩, by simp [intOf]⟩
    ·have hz1 : ¬ (ka : Int) = 0 := by omega
     have HSN : Hid (2 = pkS (tk L 0) 1) := hid (by rw [HP1.out, if_neg hz])
     clear hz
     go_wp2_with (go_at_call 38; (with_reducible refine (HK2.out _).mono ?_); rintro e wk ⟨rfl, hgk⟩; have hgn := grown_trans hgr hgk; clear hgk)
     exact ⟨⟨1, 2, rfl, by go_num, by omega, HSN, hgn⟩, by simp [intOf]⟩
   ·obtain ⟨s0, s1, t0, t1, t2, t3⟩ := T0.out
    replace s0 := hgr.cell s0 (by simp); replace s1 := hgr.cell s1 (by simp); replace t0 := hgr.cell t0 (by simp); replace t1 := hgr.cell t1 (by simp); replace t2 := hgr.cell t2 (by simp); replace t3 := hgr.cell t3 (by simp)
    by_cases hz : kb = 0
    ·have hz1 : (kb : Int) = 0 := by omega
     have HSN : Hid (so = pkS (tk L 0) 2) := hid (by rw [HSO.out, HP2.out, if_pos hz])
     clear hz
     go_wp2_with (go_at_call 38; (with_reducible refine (HK3.out _).mono ?_); rintro e wk ⟨rfl, hgk⟩; have hgn := grown_trans hgr hgk; clear hgk)
     exact ⟨⟨2, so, rfl, by go_num, by omega, HSN, hgn⟩, by simp [intOf]⟩
    ·have hz1 : ¬ (kb : Int) = 0 := by omega
     have HSN : Hid (3 = pkS (tk L 0) 2) := hid (by rw [HP2.out, if_neg hz])
     clear hz
     go_wp2_with (go_at_call 38; (with_reducible refine (HK3.out _).mono ?_); rintro e wk ⟨rfl, hgk⟩; have hgn := grown_trans hgr hgk; clear hgk)
     exact ⟨⟨2, 3, rfl, by go_num, by omega, HSN, hgn⟩, by simp [intOf]⟩
   ·have HWr := hid (grown_trans HW.out hgr)
    have HTr := hid (HTK.out.keep hgr)
    have BRr := hid (keepB BR.out hgr)
    have HA : Hid (∀ W, wr.grownBy W none → Calls Tryz.prog 39 #[.slice (some ⟨g, o, none⟩) L.length c, .int .i64 0, .int .i64 so, .int .i64 1] W (RxP (fun k => k = w.heap.size) W 20 (argM rqV L 20 0 [1, 2, 3]))) := hid fun W hg => by
     have h := raC_any HLK.out 20 1 rfl (by omega) W (fun k => k = w.heap.size) (some ⟨g, o, none⟩) c 0 so (fun k hk => by subst hk; exact lt_of_block (keepB BRr.out hg)) (fun k hk => by subst hk; exact nu7 (keepB BRr.out hg)) (HTr.out.keep hg) hLn
     rw [argM_congr (ys := soP so) (by rw [HSO.out]; exact HPK.out) 20]
     exact h
    have HGr := hid (grown_refl wr none)
    clear HSO HPK HK2 HK3 HP1 HP2 HS T0 hgr HW HTK BR
    go_upto_region 12 with (go_at_call 39; (with_reducible refine (HA.out _ HGr.out).mono ?_); rintro e w3 ⟨y1, y2, y3, s1, r1, k1, s2, r2, k2, s3, r3, k3, y7, j', x, rfl, hg, hO⟩; have HO := hid hO; have HG3 := hid (grown_trans HWr.out hg); have BR3 := hid (keepB BRr.out hg); have HT3 := hid (HTr.out.keep hg); clear hg hO HA; obtain ⟨⟨z0, z1, z2, z3, z4, z5, z6⟩, y0, q1, q2, q3, q4, q5, q6⟩ := box7 BR3.out)
    have gS4 := set7_gr w3 w.heap.size (.int .i64 y1) (.string y2) (.bool y3) (.slice s1 r1 k1) (.slice s2 r2 k2) (.slice s3 r3 k3) (.int .i64 y7)
    have BR4 := hid (set7_blk BR3.out (.int .i64 y1) (.string y2) (.bool y3) (.slice s1 r1 k1) (.slice s2 r2 k2) (.slice s3 r3 k3) (.int .i64 y7))
    have HG4 := hid (grown_newr HG3.out gS4 (Nat.le_refl _))
    have HT4 := hid (TokRd.keptE HT3.out gS4 HPE.out)
    have HGS := hid gS4
    clear z0 z1 z2 z3 z4 z5 z6 y0 q1 q2 q3 q4 q5 q6 gS4
    generalize ((((((w3.setCell _ _).setCell _ _).setCell _ _).setCell _ _).setCell _ _).setCell _ _).setCell _ _ = w4 at *
    have HGO : Hid (g ≠ w.heap.size) := hid (by simpa using HPE.out _ rfl)
    have hgo := HGO.out
    have hj' : j' < L.length := by
     have h := argM_in HLK.out (V := rqV) 20 0 [1, 2, 3] hLn
     rcases HO.out with ⟨-, t, hr, -⟩ | ⟨-, hr⟩
     ·rw [hr] at h; exact h
     ·rw [hr] at h; exact h
    obtain ⟨t0, t1, t2, t3⟩ := tok_cells HT4.out hj'
    rcases HO.out with ⟨hx, t, hr, hE⟩ | ⟨hx, hr⟩
    ·subst hx
     have HE := hid (hE.kept HGS.out (fun g e => by cases e; rfl))
     by_cases hk : (tk L j').k = 0
     ·have HVV : Hid (V = (t, 0, 0)) := hid (by rw [HV.out, hr]; exact if_pos hk)
      have hk1 : (((tk L j').k : Nat) : Int) = 0 := by omega
      clear hE hr HO HV hk
      generalize tk L j' = tj at *
      go_upto_region 16 with fail
      obtain ⟨⟨z0, z1, z2, z3, z4, z5, z6⟩, y0, q1, q2, q3, q4, q5, q6⟩ := box7 BR4.out
      have HP := hid (XrP.ok (V := V) HG4.out (Nat.le_refl _) HVV.out HE.out)
      obtain ⟨⟨l0, l1, l2, l3, l4, l5, l6⟩, -⟩ := box7 (set7_blk BR4.out (.int .i64 y1) (.string y2) (.bool y3) (.slice s1 r1 k1) (.slice s2 r2 k2) (.slice s3 r3 k3) (.int .i64 y7))
      go_wp2_with fail
      exact bodyPost_ret (v := .tuple #[.agg #[.int .i64 y1, .string y2, .bool y3, .slice s1 r1 k1, .slice s2 r2 k2, .slice s3 r3 k3, .int .i64 y7], .int .i64 0, .int .i64 0]) (by simp [results, Tryz.results15, go_sem, l0, l1, l2, l3, l4, l5, l6]) rfl HP.out
     ·have HVV : Hid (V = (zTr, (tk L j').pos, 5)) := hid (by rw [HV.out, hr]; exact if_neg hk)
      have hk1 : ¬ (((tk L j').k : Nat) : Int) = 0 := by omega
      clear hE hr HO HV hk HE
      generalize tk L j' = tj at *
      go_upto_region 15 with fail
      have BRx := BR4.out
      refine wp_region_noPanic ?_
      refine wp_region_held_drew (S := (fun W' => w4.grownBy W' (some w.heap.size))) (by kernel_rfl) ?_ (fun hHeld => ?_)
      ·(try dsimp only)
       exact grown_some (grown_drew _ none) _
      have hgg := grown_drew w4 none
      have BRd := keepB BRx hgg
      generalize w4.drew = wd at *
      refine tkH (v := ?_) 0 rfl hHeld ?_ ?_; rotate_left 1
      ·intro W hSw; (try dsimp only at hSw); have r1 := hSw.cell t1 (by simp; omega); go_simp; (try (with_reducible rfl))
      (try simp only [Act.put, pu1, pu2, pu3])
      refine tkH (v := ?_) 1 rfl hHeld ?_ ?_; rotate_left 1
      ·intro W hSw; (try dsimp only at hSw); have r1 := hSw.cell t1 (by simp; omega); go_simp; (try (with_reducible rfl))
      (try simp only [Act.put, pu1, pu2, pu3])
      refine tkH (v := ?_) 2 rfl hHeld ?_ ?_; rotate_left 1
      ·intro W hSw; (try dsimp only at hSw); have r1 := hSw.cell t1 (by simp; omega); go_simp; (try (with_reducible rfl))
      (try simp only [Act.put, pu1, pu2, pu3])
      refine tkH (v := ?_) 3 rfl hHeld ?_ ?_; rotate_left 1
      ·intro W hSw; (try dsimp only at hSw); have r1 := hSw.cell t1 (by simp; omega); go_simp; (try (with_reducible rfl))
      (try simp only [Act.put, pu1, pu2, pu3])
      refine tkH (v := ?_) 4 rfl hHeld ?_ ?_; rotate_left 1
      ·intro W hSw; (try dsimp only at hSw); have r1 := hSw.cell t1 (by simp; omega); go_simp; (try (with_reducible rfl))
      (try simp only [Act.put, pu1, pu2, pu3])
      refine tkH (v := ?_) 5 rfl hHeld ?_ ?_; rotate_left 1
      ·intro W hSw; (try dsimp only at hSw); have r1 := hSw.cell t1 (by simp; omega); go_simp; (try (with_reducible rfl))
      (try simp only [Act.put, pu1, pu2, pu3])
      refine tkH (v := ?_) 6 rfl hHeld ?_ ?_; rotate_left 1
      ·intro W hSw; (try dsimp only at hSw); have r1 := hSw.cell t1 (by simp; omega); go_simp; (try (with_reducible rfl))
      (try simp only [Act.put, pu1, pu2, pu3])
      refine wpAnyH_ready (rs := [7]) (by kernel_rfl) (by simp) ?_
      refine aR1 rfl fun K hK => ?_
      (try rw [if_pos (by kernel_rfl)])
      obtain ⟨⟨z0, z1, z2, z3, z4, z5, z6⟩, y0, q1, q2, q3, q4, q5, q6⟩ := box7 BRd
      go_simp
      have hgS := set7_gr wd w.heap.size (.int .i64 0) (.string ⟨#[]⟩) (.bool false) (.slice none 0 0) (.slice none 0 0) (.slice none 0 0) (.int .i64 0)
      refine hK.out _ _ ?_ (fun hNew => ?_)
      ·first | with_reducible exact hHeld | with_reducible exact grown_trans hHeld hgS
      clear hK K hHeld
      have hHeld := hNew
      clear hNew
      (try simp only [Act.put, pu1, pu2, pu3])
      clear z0 z1 z2 z3 z4 z5 z6 y0 q1 q2 q3 q4 q5 q6
      refine wpAnyH_ready (rs := [8]) (by kernel_rfl) (by simp) ?_
      refine aR1 rfl fun K hK => ?_
      (try rw [if_pos (by kernel_rfl)])
      go_simp
      refine hK.out _ _ ?_ (fun hNew => ?_)
      ·first | with_reducible exact hHeld | with_reducible exact grown_trans hHeld hgS
      clear hK K hHeld
      have hHeld := hNew
      clear hNew
      (try simp only [Act.put, pu1, pu2, pu3])
      refine wpAnyH_ready (rs := [9]) (by kernel_rfl) (by simp) ?_
      refine aR1 rfl fun K hK => ?_
      (try rw [if_pos (by kernel_rfl)])
      go_simp
      refine hK.out _ _ ?_ (fun hNew => ?_)
      ·first | with_reducible exact hHeld | with_reducible exact grown_trans hHeld hgS
      clear hK K hHeld
      have hHeld := hNew
      clear hNew
      (try simp only [Act.put, pu1, pu2, pu3])
      refine wpAnyH_done (by kernel_rfl) ?_ _
      refine NoPanic.normal ?_
      have HP := hid (XrP.bad (V := V) (.int .i64 0) (.string ⟨#[]⟩) (.bool false) (.slice none 0 0) (.slice none 0 0) (.slice none 0 0) (.int .i64 0) (grown_trans HG4.out hgg) (Nat.le_refl _) HVV.out)
      obtain ⟨⟨l0, l1, l2, l3, l4, l5, l6⟩, -⟩ := box7 (set7_blk BRd (.int .i64 0) (.string ⟨#[]⟩) (.bool false) (.slice none 0 0) (.slice none 0 0) (.slice none 0 0) (.int .i64 0))
      go_wp2_with fail
      exact bodyPost_ret (v := .tuple #[.agg #[.int .i64 0, .string ⟨#[]⟩, .bool false, .slice none 0 0, .slice none 0 0, .slice none 0 0, .int .i64 0], .int .i64 (tj.pos : Nat), .int .i64 5]) (by simp [results, Tryz.results15, go_sem, l0, l1, l2, l3, l4, l5, l6]) rfl HP.out
    ·have HVV : Hid (V = (zTr, (tk L j').pos, x)) := hid (by rw [HV.out, hr]; rfl)
     have hx1 : (x == 0) = false := by simpa using hx
     have hx2 : (x != 0) = true := by simpa using hx
     clear hr HO HV hx
     generalize tk L j' = tj at *
     go_upto_region 15 with fail
     have BRx := BR4.out
     refine wp_region_noPanic ?_
     refine wp_region_held_drew (S := (fun W' => w4.grownBy W' (some w.heap.size))) (by kernel_rfl) ?_ (fun hHeld => ?_)
     ·(try dsimp only)
      exact grown_some (grown_drew _ none) _
     have hgg := grown_drew w4 none
     have BRd := keepB BRx hgg
     generalize w4.drew = wd at *
     refine tkH (v := ?_) 0 rfl hHeld ?_ ?_; rotate_left 1
     ·intro W hSw; (try dsimp only at hSw); have r1 := hSw.cell t1 (by simp; omega); go_simp; (try (with_reducible rfl))
     (try simp only [Act.put, pu1, pu2, pu3])
     refine tkH (v := ?_) 1 rfl hHeld ?_ ?_; rotate_left 1
     ·intro W hSw; (try dsimp only at hSw); have r1 := hSw.cell t1 (by simp; omega); go_simp; (try (with_reducible rfl))
     (try simp only [Act.put, pu1, pu2, pu3])
     refine tkH (v := ?_) 2 rfl hHeld ?_ ?_; rotate_left 1
     ·intro W hSw; (try dsimp only at hSw); have r1 := hSw.cell t1 (by simp; omega); go_simp; (try (with_reducible rfl))
     (try simp only [Act.put, pu1, pu2, pu3])
     refine tkH (v := ?_) 3 rfl hHeld ?_ ?_; rotate_left 1
     ·intro W hSw; (try dsimp only at hSw); have r1 := hSw.cell t1 (by simp; omega); go_simp; (try (with_reducible rfl))
     (try simp only [Act.put, pu1, pu2, pu3])
     refine tkH (v := ?_) 4 rfl hHeld ?_ ?_; rotate_left 1
     ·intro W hSw; (try dsimp only at hSw); have r1 := hSw.cell t1 (by simp; omega); go_simp; (try (with_reducible rfl))
     (try simp only [Act.put, pu1, pu2, pu3])
     refine tkH (v := ?_) 5 rfl hHeld ?_ ?_; rotate_left 1
     ·intro W hSw; (try dsimp only at hSw); have r1 := hSw.cell t1 (by simp; omega); go_simp; (try (with_reducible rfl))
     (try simp only [Act.put, pu1, pu2, pu3])
     refine tkH (v := ?_) 6 rfl hHeld ?_ ?_; rotate_left 1
     ·intro W hSw; (try dsimp only at hSw); have r1 := hSw.cell t1 (by simp; omega); go_simp; (try (with_reducible rfl))
     (try simp only [Act.put, pu1, pu2, pu3])
     refine wpAnyH_ready (rs := [7]) (by kernel_rfl) (by simp) ?_
     refine aR1 rfl fun K hK => ?_
     (try rw [if_pos (by kernel_rfl)])
     obtain ⟨⟨z0, z1, z2, z3, z4, z5, z6⟩, y0, q1, q2, q3, q4, q5, q6⟩ := box7 BRd
     go_simp
     have hgS := set7_gr wd w.heap.size (.int .i64 0) (.string ⟨#[]⟩) (.bool false) (.slice none 0 0) (.slice none 0 0) (.slice none 0 0) (.int .i64 0)
     refine hK.out _ _ ?_ (fun hNew => ?_)
     ·first | with_reducible exact hHeld | with_reducible exact grown_trans hHeld hgS
     clear hK K hHeld
     have hHeld := hNew
     clear hNew
     (try simp only [Act.put, pu1, pu2, pu3])
     clear z0 z1 z2 z3 z4 z5 z6 y0 q1 q2 q3 q4 q5 q6
     refine wpAnyH_ready (rs := [8]) (by kernel_rfl) (by simp) ?_
     refine aR1 rfl fun K hK => ?_
     (try rw [if_pos (by kernel_rfl)])
     go_simp
     refine hK.out _ _ ?_ (fun hNew => ?_)
     ·first | with_reducible exact hHeld | with_reducible exact grown_trans hHeld hgS
     clear hK K hHeld
     have hHeld := hNew
     clear hNew
     (try simp only [Act.put, pu1, pu2, pu3])
     refine wpAnyH_ready (rs := [9]) (by kernel_rfl) (by simp) ?_
     refine aR1 rfl fun K hK => ?_
     (try rw [if_pos (by kernel_rfl)])
     go_simp
     refine hK.out _ _ ?_ (fun hNew => ?_)
     ·first | with_reducible exact hHeld | with_reducible exact grown_trans hHeld hgS
     clear hK K hHeld
     have hHeld := hNew
     clear hNew
     (try simp only [Act.put, pu1, pu2, pu3])
     refine wpAnyH_done (by kernel_rfl) ?_ _
     refine NoPanic.normal ?_
     have HP := hid (XrP.bad (V := V) (.int .i64 0) (.string ⟨#[]⟩) (.bool false) (.slice none 0 0) (.slice none 0 0) (.slice none 0 0) (.int .i64 0) (grown_trans HG4.out hgg) (Nat.le_refl _) HVV.out)
     obtain ⟨⟨l0, l1, l2, l3, l4, l5, l6⟩, -⟩ := box7 (set7_blk BRd (.int .i64 0) (.string ⟨#[]⟩) (.bool false) (.slice none 0 0) (.slice none 0 0) (.slice none 0 0) (.int .i64 0))
     go_wp2_with fail
     exact bodyPost_ret (v := .tuple #[.agg #[.int .i64 0, .string ⟨#[]⟩, .bool false, .slice none 0 0, .slice none 0 0, .slice none 0 0, .int .i64 0], .int .i64 (tj.pos : Nat), .int .i64 x]) (by simp [results, Tryz.results15, go_sem, l0, l1, l2, l3, l4, l5, l6]) rfl HP.out
 ·have HV : Hid (xprV l = (zTr, (lexAll l).2.1, (((lexAll l).2.2 : Nat) : Int))) := hid (by unfold xprV; rw [if_neg h0])
  have h00 : ¬ (((lexAll l).2.2 : Nat) : Int) = 0 := by omega
  generalize xprV l = V at *
  go_enter Tryz.func15, Tryz.ntmps15
  go_upto_region 1 with fail
  rw [← hwB.out]
  go_upto_region 3 with (go_at_call 34; (with_reducible refine (HLX.out _).mono ?_); rintro e w1 ⟨p, n, c, rfl, hr, hg⟩; replace HW := hid (grown_trans HW.out hg); replace BR := hid (keepB BR.out hg); clear hg hr)
  generalize (lexAll l).2.2 = e0 at *
  generalize (lexAll l).2.1 = a0 at *
  obtain ⟨⟨z0, z1, z2, z3, z4, z5, z6⟩, y0, q1, q2, q3, q4, q5, q6⟩ := box7 BR.out
  have HP := hid (XrP.bad (V := V) (.int .i64 0) (.string ⟨#[]⟩) (.bool false) (.slice none 0 0) (.slice none 0 0) (.slice none 0 0) (.int .i64 0) HW.out (Nat.le_refl _) HV.out)
  obtain ⟨⟨l0, l1, l2, l3, l4, l5, l6⟩, -⟩ := box7 (set7_blk BR.out (.int .i64 0) (.string ⟨#[]⟩) (.bool false) (.slice none 0 0) (.slice none 0 0) (.slice none 0 0) (.int .i64 0))
  go_wp2_with fail
  exact bodyPost_ret (v := .tuple #[.agg #[.int .i64 0, .string ⟨#[]⟩, .bool false, .slice none 0 0, .slice none 0 0, .slice none 0 0, .int .i64 0], .int .i64 (a0 : Nat), .int .i64 (e0 : Nat)]) (by simp [results, Tryz.results15, go_sem, l0, l1, l2, l3, l4, l5, l6]) rfl HP.out
end Go.Proofs.YtjpkncgfpbhnaaaGreatDoor
namespace Go.Proofs.YtjpkncgfpbhnaaaGreatDoor
open Go.RowKit _root_.Nm
theorem EqP.self {w : World} : ∀ {m : Nat} {cs : List Value} {t : Tr}, ERd w m cs t → EqP m t t
  | 0, _, _, h => h.elim
  | m + 1, cs, .node h l, ⟨pn, nn, cn, pd, nd, cd, pa, na, ca, h1, h2, h3, h4, h5⟩ => by
    refine ⟨⟨rfl, rfl, rfl, rfl, rfl⟩, rfl, fun i hi hi' => ?_⟩
    obtain ⟨b, o, cs', k1, k2, k3, k4⟩ := h5 i hi
    exact EqP.self k4
set_option maxHeartbeats 16000000 in
set_option maxRecDepth 100000 in
theorem rSameExpr_ok : ∀ (m : Nat), ∀ (m' : Nat) (cs cs' : List Value) (t : Tr) (w : World), ERd w m cs t → ERd w m' cs' t →
    Calls Tryz.prog 16 #[.agg cs.toArray, .agg cs'.toArray] w fun e w' => e = .returned (.bool true) ∧ w.grownBy w' none
  | 0 => fun _ _ _ _ _ h _ => h.elim
  | m + 1 => fun m' cs cs' t w hE hE' => by
    have IH := hid (rSameExpr_ok m)
    cases m' with
    | zero => exact hE'.elim
    | succ q =>
    cases t with
    | node h l =>
    have HEQ := hid fun w' (hg : w.grownBy w' none) => rEqualExpr_ok (m + 1) (q + 1) cs cs' (.node h l) (.node h l) true w' (hE.keep hg) (hE'.keep hg) ⟨fun _ => EqP.self hE, fun _ => rfl⟩
    obtain ⟨e1, e2, e3, p1, n1, c1, p2, n2, c2, p3, n3, c3, e7, rfl⟩ := hE.shape
    obtain ⟨x1, x2, x3, q1, m1, d1, q2, m2, d2, q3, m3, d3, x7, rfl⟩ := hE'.shape
    obtain ⟨⟨-, -, -, r4⟩, -, -, hA, -⟩ := ARd.of hE
    obtain ⟨⟨-, -, -, s4⟩, -, -, hA', -⟩ := ARd.of hE'
    obtain rfl : e7 = x7 := by rw [r4, s4]
    obtain ⟨⟨hla, hca, hma⟩, _⟩ := id hA
    obtain ⟨⟨hlb, hcb, hmb⟩, _⟩ := id hA'
    obtain rfl : n3 = m3 := by omega
    have HA := hid hA
    have HA' := hid hA'
    clear hE hE' hA hA' r4 s4
    obtain ⟨⟨k0, k1, k2, k3, k4, k5, k6⟩, -⟩ := box7 (blk1 w (.cells #[.int .i64 e1, .string e2, .bool e3, .slice p1 n1 c1, .slice p2 n2 c2, .slice p3 n3 c3, .int .i64 e7] 38 (0, 0)) (.cells #[.int .i64 x1, .string x2, .bool x3, .slice q1 m1 d1, .slice q2 m2 d2, .slice q3 n3 d3, .int .i64 e7] 38 (0, 0)))
    have bx := blk0 (w.alloc (.cells #[.int .i64 e1, .string e2, .bool e3, .slice p1 n1 c1, .slice p2 n2 c2, .slice p3 n3 c3, .int .i64 e7] 38 (0, 0))) (.cells #[.int .i64 x1, .string x2, .bool x3, .slice q1 m1 d1, .slice q2 m2 d2, .slice q3 n3 d3, .int .i64 e7] 38 (0, 0))
    rw [show (w.alloc (.cells #[.int .i64 e1, .string e2, .bool e3, .slice p1 n1 c1, .slice p2 n2 c2, .slice p3 n3 c3, .int .i64 e7] 38 (0, 0))).heap.size = w.heap.size + 1 by simp] at bx
    obtain ⟨⟨j0, j1, j2, j3, j4, j5, j6⟩, -⟩ := box7 bx
    clear bx
    have hW := grown_trans (World.grownBy_alloc w (.cells #[.int .i64 e1, .string e2, .bool e3, .slice p1 n1 c1, .slice p2 n2 c2, .slice p3 n3 c3, .int .i64 e7] 38 (0, 0)) none) (World.grownBy_alloc _ (.cells #[.int .i64 x1, .string x2, .bool x3, .slice q1 m1 d1, .slice q2 m2 d2, .slice q3 n3 d3, .int .i64 e7] 38 (0, 0)) none)
    go_enter Tryz.func16, Tryz.ntmps16
    go_upto_region 1 with fail
    generalize ((w.alloc _).alloc _) = w0 at *
    go_wp2_with (first
      | (go_at_call 30; (with_reducible refine (HEQ.out _ hW).mono ?_); rintro e w1 ⟨rfl, hg⟩; replace hW := grown_trans hW hg; replace k0 := hg.cell k0 (by simp); replace j0 := hg.cell j0 (by simp); replace k1 := hg.cell k1 (by simp); replace j1 := hg.cell j1 (by simp); replace k2 := hg.cell k2 (by simp); replace j2 := hg.cell j2 (by simp); replace k3 := hg.cell k3 (by simp); replace j3 := hg.cell j3 (by simp); replace k4 := hg.cell k4 (by simp); replace j4 := hg.cell j4 (by simp); replace k5 := hg.cell k5 (by simp); replace j5 := hg.cell j5 (by simp); replace k6 := hg.cell k6 (by simp); replace j6 := hg.cell j6 (by simp); clear HEQ hg))
    have HW1 := hid hW
    have K5 := hid k5
    have J5 := hid j5
    go_loopw [20] (fun x wr => ∃ k : Nat, k ≤ n3 ∧ x = .int .i64 k ∧ w1.grownBy wr none) (fun x _ => n3 - (intOf x).toNat)
    case atStart => exact ⟨0, Nat.zero_le _, rfl, grown_refl _ _⟩
    case round =>
      clear k0 k1 k2 k3 k4 k5 k6 j0 j1 j2 j3 j4 j5 j6 hW
      obtain ⟨k, hk, rfl, hg⟩ := hrel
      have hgr := grown_trans HW1.out hg
      by_cases hlt : k < n3
      · have k5 := hg.cell K5.out (by simp)
        have j5 := hg.cell J5.out (by simp)
        obtain ⟨bA, oA, u1, u2, u3, y1, r1, s1, y2, r2, s2, y3, r3, s3, u7, rfl, hE1, a0, a1, a2, a3, a4, a5, a6⟩ := (HA.out.keep hgr).at (i := k) (by omega)
        obtain ⟨bB, oB, o1, o2, o3, z1, i1, f1, z2, i2, f2, z3, i3, f3, o7, rfl, hE2, b0, b1, b2, b3, b4, b5, b6⟩ := (HA'.out.keep hgr).at (i := k) (by omega)
        have HC := hid fun w' (hg : wr.grownBy w' none) => IH.out q _ _ _ w' (hE1.keep hg) (hE2.keep hg)
        have HWR := hid hgr
        clear hE1 hE2
        replace hgr := grown_refl wr none
        go_wp2_with fail
        go_region_held3 (fun w' => w'.cell? ⟨w.heap.size, 5, none⟩ = some (.slice (some ⟨bA, oA, none⟩) n3 c3) ∧ w'.cell? ⟨w.heap.size + 1, 5, none⟩ = some (.slice (some ⟨bB, oB, none⟩) n3 d3) ∧ w'.cell? ⟨bA, oA + k * 7, none⟩ = some (.int .i64 u1) ∧ w'.cell? ⟨bA, oA + k * 7 + 1, none⟩ = some (.string u2) ∧ w'.cell? ⟨bA, oA + k * 7 + 2, none⟩ = some (.bool u3) ∧ w'.cell? ⟨bA, oA + k * 7 + 3, none⟩ = some (.slice y1 r1 s1) ∧ w'.cell? ⟨bA, oA + k * 7 + 4, none⟩ = some (.slice y2 r2 s2) ∧ w'.cell? ⟨bA, oA + k * 7 + 5, none⟩ = some (.slice y3 r3 s3) ∧ w'.cell? ⟨bA, oA + k * 7 + 6, none⟩ = some (.int .i64 u7) ∧ w'.cell? ⟨bB, oB + k * 7, none⟩ = some (.int .i64 o1) ∧ w'.cell? ⟨bB, oB + k * 7 + 1, none⟩ = some (.string o2) ∧ w'.cell? ⟨bB, oB + k * 7 + 2, none⟩ = some (.bool o3) ∧ w'.cell? ⟨bB, oB + k * 7 + 3, none⟩ = some (.slice z1 i1 f1) ∧ w'.cell? ⟨bB, oB + k * 7 + 4, none⟩ = some (.slice z2 i2 f2) ∧ w'.cell? ⟨bB, oB + k * 7 + 5, none⟩ = some (.slice z3 i3 f3) ∧ w'.cell? ⟨bB, oB + k * 7 + 6, none⟩ = some (.int .i64 o7) ∧ wr.grownBy w' none) ((try go_split_ands) <;> (repeat' apply And.intro) <;> (first | (with_reducible assumption) | (with_reducible refine (grown_drew _ none).cell ?_ (by simp); with_reducible assumption) | (with_reducible refine grown_trans ?_ (grown_drew _ none); with_reducible assumption))) (first
            | (go_at_call 16; (first | refine (HC.out _ hgr).mono ?_ | refine (HC.out _ (grown_drew _ none)).mono ?_); rintro e w2 ⟨rfl, hg2⟩; (first | replace hgr := grown_trans hgr hg2 | replace hgr := grown_trans (grown_trans hgr (grown_drew _ none)) hg2); replace k5 := hg2.cell k5 (by simp); replace j5 := hg2.cell j5 (by simp); replace a0 := hg2.cell a0 (by simp); replace a1 := hg2.cell a1 (by simp); replace a2 := hg2.cell a2 (by simp); replace a3 := hg2.cell a3 (by simp); replace a4 := hg2.cell a4 (by simp); replace a5 := hg2.cell a5 (by simp); replace a6 := hg2.cell a6 (by simp); replace b0 := hg2.cell b0 (by simp); replace b1 := hg2.cell b1 (by simp); replace b2 := hg2.cell b2 (by simp); replace b3 := hg2.cell b3 (by simp); replace b4 := hg2.cell b4 (by simp); replace b5 := hg2.cell b5 (by simp); replace b6 := hg2.cell b6 (by simp)))
        go_wp2_with fail
        exact ⟨⟨k + 1, by omega, by go_num, grown_trans hg hgr⟩, by simp [intOf]; omega⟩
      · obtain rfl : k = n3 := by omega
        go_wp2_with fail
        go_ret
        exact ⟨rfl, hgr⟩
end Go.Proofs.YtjpkncgfpbhnaaaGreatDoor
namespace Go.Proofs.YtjpkncgfpbhnaaaGreatDoor
open Go.RowKit _root_.Nm Lx Px
set_option maxHeartbeats 32000000 in
theorem parserExprs_walk (s : ByteArray) {w : World} (Tq : Tb w) :
    Calls Tryz.prog 4 #[.string s] w fun e w' => e = .returned (.bool true) ∧ w.grownBy w' none := by
  have H1 := hid (pExpr_any s _ rfl w Tq)
  have H2 := hid fun W => rExpr_any s _ rfl W
  obtain ⟨V, hV⟩ : ∃ V, xprV s.data.toList = V := ⟨_, rfl⟩
  rw [hV] at H1 H2
  obtain ⟨t, a, x⟩ := V
  clear hV Tq
  go_enter Tryz.func4, Tryz.ntmps4
  go_upto_region 2 with (go_at_call 14; (with_reducible refine H1.out.mono ?_); rintro e w1 ⟨y1a, y2a, y3a, s1a, r1a, k1a, s2a, r2a, k2a, s3a, r3a, k3a, y7a, rfl, hg, hE⟩; have HE1 := hid hE; have HG := hid hg; clear hg hE; obtain ⟨⟨i0, i1, i2, i3, i4, i5, i6⟩, f0, f1, f2, f3, f4, f5, f6⟩ := box7 (blk0 w1 (.cells #[.int .i64 0, .string ⟨#[]⟩, .bool false, .slice none 0 0, .slice none 0 0, .slice none 0 0, .int .i64 0] 38 (0, 0))))
  clear i0 i1 i2 i3 i4 i5 i6 f0 f1 f2 f3 f4 f5 f6 H1
  have gB := World.grownBy_alloc w1 (.cells #[.int .i64 y1a, .string y2a, .bool y3a, .slice s1a r1a k1a, .slice s2a r2a k2a, .slice s3a r3a k3a, .int .i64 y7a] 38 (0, 0)) none
  have B1 := hid (blk0 w1 (.cells #[.int .i64 y1a, .string y2a, .bool y3a, .slice s1a r1a k1a, .slice s2a r2a k2a, .slice s3a r3a k3a, .int .i64 y7a] 38 (0, 0)))
  replace HG := hid (grown_trans HG.out gB); replace HE1 := hid (HE1.out.keep gB)
  clear gB
  generalize w1.heap.size = K1 at *
  generalize (w1.alloc _) = w2 at *
  go_upto_region 3 with (go_at_call 15; (with_reducible refine (H2.out _).mono ?_); rintro e w3 ⟨y1b, y2b, y3b, s1b, r1b, k1b, s2b, r2b, k2b, s3b, r3b, k3b, y7b, rfl, hg, hE⟩; have HE2 := hid hE; replace HG := hid (grown_trans HG.out hg); replace HE1 := hid (HE1.out.keep hg); replace B1 := hid (keepB B1.out hg); clear hg hE; obtain ⟨⟨i0, i1, i2, i3, i4, i5, i6⟩, f0, f1, f2, f3, f4, f5, f6⟩ := box7 (blk0 w3 (.cells #[.int .i64 0, .string ⟨#[]⟩, .bool false, .slice none 0 0, .slice none 0 0, .slice none 0 0, .int .i64 0] 38 (0, 0))))
  clear i0 i1 i2 i3 i4 i5 i6 f0 f1 f2 f3 f4 f5 f6 H2
  have gB := World.grownBy_alloc w3 (.cells #[.int .i64 y1b, .string y2b, .bool y3b, .slice s1b r1b k1b, .slice s2b r2b k2b, .slice s3b r3b k3b, .int .i64 y7b] 38 (0, 0)) none
  have B2 := hid (blk0 w3 (.cells #[.int .i64 y1b, .string y2b, .bool y3b, .slice s1b r1b k1b, .slice s2b r2b k2b, .slice s3b r3b k3b, .int .i64 y7b] 38 (0, 0)))
  replace HG := hid (grown_trans HG.out gB); replace HE1 := hid (HE1.out.keep gB); replace HE2 := hid (HE2.out.keep gB); replace B1 := hid (keepB B1.out gB)
  clear gB
  generalize w3.heap.size = K2 at *
  generalize (w3.alloc _) = w4 at *
  obtain ⟨⟨i0, i1, i2, i3, i4, i5, i6⟩, -⟩ := box7 B1.out
  obtain ⟨⟨j0, j1, j2, j3, j4, j5, j6⟩, -⟩ := box7 B2.out
  have HS := hid fun W (hg : w4.grownBy W none) => rSameExpr_ok 20 20 _ _ t W (HE1.out.keep hg) (HE2.out.keep hg)
  have HR := hid (grown_refl w4 none)
  clear HE1 HE2 B1 B2
  go_wp2_with (go_at_call 16; (with_reducible refine (HS.out _ HR.out).mono ?_); rintro e w5 ⟨rfl, hg⟩; replace HR := hid (grown_trans HR.out hg); clear hg)
  go_ret
  exact ⟨rfl, grown_trans HG.out HR.out⟩
end Go.Proofs.YtjpkncgfpbhnaaaGreatDoor
