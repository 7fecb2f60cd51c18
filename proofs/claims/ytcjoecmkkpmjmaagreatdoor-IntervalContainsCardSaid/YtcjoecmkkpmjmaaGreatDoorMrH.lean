/-
  IvJ RatX IvL IvH IvK IvOpen, in one text.
-/
import Derived.Test.YtcjoecmkkpmjmaaGreatDoorMrD
import Derived.Test.YtcjoecmkkpmjmaaGreatDoorMrO
import Derived.Test.YtcjoecmkkpmjmaaGreatDoorMrG
import Derived.Test.YtcjoecmkkpmjmaaGreatDoorMrA

set_option linter.unusedVariables false
set_option linter.unusedSimpArgs false
namespace Go.Proofs.YtcjoecmkkpmjmaaGreatDoor
open Go.RowKit Nm

theorem minR_self (x : Rat) (l : List Rat) : minR x (x :: l) = minR x l := by
  show minR (if x < x then x else x) l = _
  simp
theorem maxR_self (x : Rat) (l : List Rat) : maxR x (x :: l) = maxR x l := by
  show maxR (if x < x then x else x) l = _
  simp


set_option maxRecDepth 20000 in
set_option maxHeartbeats 4000000 in
theorem rGreatest_v (S : Nat) {w : World} {G cp : Nat} (r0 : RV) (l : List RV) (L : Nat) (hL : (r0 :: l).length = L) (hl : RVs w G (r0 :: l)) (hG : G < w.heap.size) (hsz : ∀ r ∈ r0 :: l, r.n ≤ S ∧ r.m ≤ S) (hS : S ≤ 40000) (hL2 : L ≤ 1000) :
    Calls Tryz.prog 47 #[.slice (some ⟨G, 0, none⟩) L cp] w (VPost w (maxR r0.v (l.map RV.v)) S) := by
  have h0L : 0 < L := by rw [← hL]; simp
  have hFin : maxR r0.v ((r0 :: l).map RV.v) = maxR r0.v (l.map RV.v) := maxR_self _ _
  have hM1 : maxR r0.v (((r0 :: l).take 1).map RV.v) = r0.v := maxR_self _ []
  obtain ⟨a0, a1, a2, hI⟩ := hl 0 (by simp)
  simp only [List.getElem_cons_zero, Nat.zero_mul, Nat.zero_add] at a0 a1 a2 hI
  obtain ⟨hn1, hm1⟩ := hsz r0 (by simp)
  obtain ⟨ls, hls⟩ : ∃ ls, ls = r0 :: l := ⟨_, rfl⟩
  rw [← hls] at hL hl hsz hFin hM1
  have HL := hid hL
  have HS := hid hsz
  clear hsz hL hls
  obtain ⟨g1, p1, n1, c1, q1, m1, d1, v⟩ := r0
  simp only [] at a0 a1 a2 hn1 hm1 hFin hM1 ⊢
  have HF := hid hFin
  have HM1 := hid hM1
  clear hFin hM1
  generalize hfin : maxR v (l.map RV.v) = fin at *
  clear hfin
  replace hI : IsV w g1 p1 n1 c1 q1 m1 d1 v := hI
  have h0i : (0 : Int) < (L : Int) := by omega
  have ma0 := (World.grownBy_alloc w (.cells #[.bool false, .slice none 0 0, .slice none 0 0] 27) none).cell a0 (by simp); have ma1 := (World.grownBy_alloc w (.cells #[.bool false, .slice none 0 0, .slice none 0 0] 27) none).cell a1 (by simp); have ma2 := (World.grownBy_alloc w (.cells #[.bool false, .slice none 0 0, .slice none 0 0] 27) none).cell a2 (by simp)
  clear a0 a1 a2
  have hW := (grown_trans (World.grownBy_alloc w (.cells #[.bool false, .slice none 0 0, .slice none 0 0] 27) none) (World.grownBy_alloc _ (.cells #[.bool g1, .slice p1 n1 c1, .slice q1 m1 d1] 27) none))
  have bx0 : ((w.alloc (.cells #[.bool false, .slice none 0 0, .slice none 0 0] 27)).alloc (.cells #[.bool g1, .slice p1 n1 c1, .slice q1 m1 d1] 27)).heap[w.heap.size]? = some (.cells #[.bool false, .slice none 0 0, .slice none 0 0] 27 (0, 0)) := by
    have h0 := heap_alloc_new w (.cells #[.bool false, .slice none 0 0, .slice none 0 0] 27)
    have h1 := (World.grownBy_alloc (w.alloc (.cells #[.bool false, .slice none 0 0, .slice none 0 0] 27)) (.cells #[.bool g1, .slice p1 n1 c1, .slice q1 m1 d1] 27) none).block _ (lt_of_block h0) (by simp)
    have h2 := h1.trans h0
    simpa using h2
  have bx1 : ((w.alloc (.cells #[.bool false, .slice none 0 0, .slice none 0 0] 27)).alloc (.cells #[.bool g1, .slice p1 n1 c1, .slice q1 m1 d1] 27)).heap[w.heap.size + 1]? = some (.cells #[.bool g1, .slice p1 n1 c1, .slice q1 m1 d1] 27 (0, 0)) := by
    have := heap_alloc_new (w.alloc (.cells #[.bool false, .slice none 0 0, .slice none 0 0] 27)) (.cells #[.bool g1, .slice p1 n1 c1, .slice q1 m1 d1] 27)
    simpa using this
  replace hl := hl.keep hW; replace hI := hI.keep hW
  have hGK : G ≠ w.heap.size + 1 := by omega
  go_enter Tryz.func47, Tryz.ntmps47
  go_wp2_with fail
  generalize ((w.alloc (.cells #[.bool false, .slice none 0 0, .slice none 0 0] 27)).alloc (.cells #[.bool g1, .slice p1 n1 c1, .slice q1 m1 d1] 27)) = w0 at *
  clear ma0 ma1 ma2
  go_loopw [4] (fun i wr => ∃ (k : Nat) (g : Bool) (p : Option Addr) (n c : Nat) (q : Option Addr) (m d : Nat), k ≤ L ∧ i = .int .i64 k ∧ wr.heap[w.heap.size + 1]? = some (.cells #[.bool g, .slice p n c, .slice q m d] 27 (0, 0)) ∧ IsV wr g p n c q m d (maxR v ((ls.take k).map RV.v)) ∧ n ≤ S ∧ m ≤ S ∧ w0.grownBy wr (some (w.heap.size + 1))) (fun i _ => L - (intOf i).toNat)
  case atStart => exact ⟨1, g1, p1, n1, c1, q1, m1, d1, by omega, rfl, bx1, by rw [HM1.out]; exact hI, hn1, hm1, grown_refl _ _⟩
  case round =>
    obtain ⟨k, g, p, n, c, q, m, d, hk, rfl, bK, hC, hn, hm, hgr⟩ := hrel
    replace hl := hl.o3 bx1 hgr hGK
    clear hI hn1 hm1
    by_cases hlt : k < L
    · have hkv : k < ls.length := by rw [HL.out]; exact hlt
      obtain ⟨y0, y1, y2, hR⟩ := hl k hkv
      have HM := hid (maxR_take (x := v) hkv)
      have hsz := HS.out ls[k] (List.getElem_mem hkv)
      obtain ⟨r, hr⟩ : ∃ r, r = ls[k] := ⟨_, rfl⟩
      rw [← hr] at y0 y1 y2 hR HM hsz
      obtain ⟨g2, p2, n2, c2, q2, m2, d2, u⟩ := r
      simp only [] at y0 y1 y2 HM hsz
      replace hR : IsV wr g2 p2 n2 c2 q2 m2 d2 u := hR
      obtain ⟨hn2, hm2⟩ := hsz
      generalize maxR v ((ls.take k).map RV.v) = cur at *
      have HR := hid hr
      clear hr hl
      have hki : (k : Int) < (L : Int) := by omega
      obtain ⟨x0, x1, x2, fx0, fx1, fx2⟩ := ratbox_facts bK
      have hKlt := lt_of_block bK
      go_wp2_with fail
      have hg := grown_drew wr none
      replace bK := (hg.block _ (lt_of_block bK) (by simp)).trans bK; replace hC := hC.keep hg; replace hR := hR.keep hg; replace hgr := grown_none hgr hg; replace y0 := hg.cell y0 (by simp); replace y1 := hg.cell y1 (by simp); replace y2 := hg.cell y2 (by simp); replace x0 := hg.cell x0 (by simp); replace x1 := hg.cell x1 (by simp); replace x2 := hg.cell x2 (by simp)
      clear hg fx0 fx1 fx2 hKlt
      go_region_held3 (fun w' => w'.cell? ⟨G, k * 3, none⟩ = some (.bool g2) ∧ w'.cell? ⟨G, k * 3 + 1, none⟩ = some (.slice p2 n2 c2) ∧ w'.cell? ⟨G, k * 3 + 2, none⟩ = some (.slice q2 m2 d2) ∧ w'.cell? ⟨w.heap.size + 1, 0, none⟩ = some (.bool g) ∧ w'.cell? ⟨w.heap.size + 1, 1, none⟩ = some (.slice p n c) ∧ w'.cell? ⟨w.heap.size + 1, 2, none⟩ = some (.slice q m d)) ((try go_split_ands) <;> (repeat' apply And.intro) <;> (repeat (first | (with_reducible assumption) | (with_reducible refine (grown_setCell _ _ _).cell ?_ (by first | (simp; omega) | simp)) | (with_reducible refine (World.grownBy_alloc _ _ none).cell ?_ (by simp)) | (with_reducible refine (grown_drew _ none).cell ?_ (by simp)))))
        (first
          | (go_at_call 49; (with_reducible refine (rCmp3_v S hR.q hC.q hn2 hm2 hn hm (by omega)).mono ?_); rintro ee w2 ⟨rfl, hg⟩; replace bK := (hg.block _ (lt_of_block bK) (by simp)).trans bK; replace hC := hC.keep hg; replace hR := hR.keep hg; replace hgr := grown_none hgr hg; replace y0 := hg.cell y0 (by simp); replace y1 := hg.cell y1 (by simp); replace y2 := hg.cell y2 (by simp); replace x0 := hg.cell x0 (by simp); replace x1 := hg.cell x1 (by simp); replace x2 := hg.cell x2 (by simp); clear hg))
      by_cases hu : cur < u
      · rw [cmpR_gt hu]
        replace HM := HM.out
        rw [if_pos hu] at HM
        replace HM := hid HM
        clear x0 x1 x2
        obtain ⟨x0, x1, x2, fx0, fx1, fx2⟩ := ratbox_facts bK
        have hs := set3_grown w2 (w.heap.size + 1) (.bool g2) (.slice p2 n2 c2) (.slice q2 m2 d2)
        have bn := setC_block bK g2 p2 n2 c2 q2 m2 d2
        go_wp2_with fail
        exact ⟨⟨k + 1, g2, p2, n2, c2, q2, m2, d2, by omega, rfl, bn, HM.out ▸ hR.o3 bK hs, hn2, hm2, grown_trans hgr hs⟩, by simp [intOf]; omega⟩
      · have hcc : ¬ (0 < cmpR u cur) := cmpR_np hu
        replace HM := HM.out
        rw [if_neg hu] at HM
        replace HM := hid HM
        go_wp2_with fail
        exact ⟨⟨k + 1, g, p, n, c, q, m, d, by omega, rfl, bK, HM.out ▸ hC, hn, hm, hgr⟩, by simp [intOf]; omega⟩
    · obtain rfl : k = L := by omega
      have HT2 := hid (show ls.take k = ls from List.take_of_length_le (by rw [HL.out]; exact Nat.le_refl _))
      rw [HT2.out, HF.out] at hC
      replace bx0 := (hgr.block _ (lt_of_block bx0) (by simp)).trans bx0
      replace hW := grown_new hW hgr (fun g e => by cases e; omega)
      obtain ⟨x0, x1, x2, _, _, _⟩ := ratbox_facts bK
      obtain ⟨l0, l1, l2, f0, f1, f2⟩ := ratbox_facts bx0
      clear hl
      go_wp2_with fail
      exact bodyPost_ret (v := .agg #[.bool g, .slice p n c, .slice q m d]) (by simp [results, Tryz.results47, go_sem, l0, l1, l2, f0, f1, f2]) rfl
        (VPost.close bx0 (by omega) hW hC hn hm)

end Go.Proofs.YtcjoecmkkpmjmaaGreatDoor

set_option linter.unusedVariables false
set_option linter.unusedSimpArgs false
namespace Go.Proofs.YtcjoecmkkpmjmaaGreatDoor
open Go.RowKit Nm

/-- block u is a new struct of the type api.Rat -/
def RBoxAt (w : World) (u : Nat) : Prop := w.heap[u]? = some (.cells #[.bool false, .slice none 0 0, .slice none 0 0] 27 (0, 0))
abbrev RZ : Obj := .cells #[.bool false, .slice none 0 0, .slice none 0 0] 27
theorem RBoxAt.new (w : World) : RBoxAt (w.alloc (.cells #[.bool false, .slice none 0 0, .slice none 0 0] 27)) w.heap.size := heap_alloc_new w _
theorem RBoxAt.new2 (w : World) (o : Obj) : RBoxAt ((w.alloc o).alloc (.cells #[.bool false, .slice none 0 0, .slice none 0 0] 27)) (w.heap.size + 1) := by
  have := RBoxAt.new (w.alloc o)
  simpa using this
theorem RBoxAt.grown {w w' : World} {u : Nat} (h : RBoxAt w u) (hg : w.grownBy w' none) : RBoxAt w' u := (hg.block u (lt_of_block h) (by simp)).trans h
theorem RBoxAt.alloc {w : World} {u : Nat} (h : RBoxAt w u) (o : Obj) : RBoxAt (w.alloc o) u := h.grown (World.grownBy_alloc w o none)
theorem RBoxAt.drew {w : World} {u : Nat} (h : RBoxAt w u) : RBoxAt w.drew u := h
theorem RBoxAt.facts {w : World} {u : Nat} (h : RBoxAt w u) : w.cell? ⟨u, 0, none⟩ = some (.bool false) ∧ w.cell? ⟨u, 1, none⟩ = some (.slice none 0 0) ∧ w.cell? ⟨u, 2, none⟩ = some (.slice none 0 0) ∧ w.frozen? ⟨u, 0, none⟩ = false ∧ w.frozen? ⟨u, 1, none⟩ = false ∧ w.frozen? ⟨u, 2, none⟩ = false ∧ u < w.heap.size :=
  ⟨(ratbox_facts h).1, (ratbox_facts h).2.1, (ratbox_facts h).2.2.1, (ratbox_facts h).2.2.2.1, (ratbox_facts h).2.2.2.2.1, (ratbox_facts h).2.2.2.2.2, lt_of_block h⟩

def RPair (A B : Rat) (b : Nat) (w0 : World) (s7 s8 : Value) (wx : World) : Prop :=
  ∃ (u v : Nat) (g1 g2 : Bool) (p1 p2 q1 q2 : Option Addr) (n1 c1 m1 d1 n2 c2 m2 d2 : Nat), s7 = .pointer (some ⟨u, 0, none⟩) ∧ s8 = .pointer (some ⟨v, 0, none⟩) ∧
    wx.cell? ⟨u, 0, none⟩ = some (.bool g1) ∧ wx.cell? ⟨u, 1, none⟩ = some (.slice p1 n1 c1) ∧ wx.cell? ⟨u, 2, none⟩ = some (.slice q1 m1 d1) ∧
    wx.cell? ⟨v, 0, none⟩ = some (.bool g2) ∧ wx.cell? ⟨v, 1, none⟩ = some (.slice p2 n2 c2) ∧ wx.cell? ⟨v, 2, none⟩ = some (.slice q2 m2 d2) ∧
    IsV wx g1 p1 n1 c1 q1 m1 d1 A ∧ IsV wx g2 p2 n2 c2 q2 m2 d2 B ∧ (n1 ≤ b ∧ m1 ≤ b) ∧ (n2 ≤ b ∧ m2 ≤ b) ∧ w0.grownBy wx none

/-- the block's three cells were written -/
def RSet (w w' : World) (u : Nat) (g : Bool) (p : Option Addr) (n c : Nat) (q : Option Addr) (m d : Nat) : Prop :=
  w.grownBy w' (some u) ∧ w'.heap.size = w.heap.size ∧ w'.cell? ⟨u, 0, none⟩ = some (.bool g) ∧ w'.cell? ⟨u, 1, none⟩ = some (.slice p n c) ∧ w'.cell? ⟨u, 2, none⟩ = some (.slice q m d)
theorem rbox_set {w : World} {u : Nat} (h : RBoxAt w u) (g : Bool) (p : Option Addr) (n c : Nat) (q : Option Addr) (m d : Nat) :
    RSet w (((w.setCell ⟨u, 0, none⟩ (.bool g)).setCell ⟨u, 1, none⟩ (.slice p n c)).setCell ⟨u, 2, none⟩ (.slice q m d)) u g p n c q m d := by
  obtain ⟨a, b, e, f0, f1, f2, hl⟩ := h.facts
  refine ⟨set3_grown w u _ _ _, by simp, ?_, ?_, ?_⟩
  · simp [go_sem, a, b, e, f0, f1, f2]
  · simp [go_sem, a, b, e, f0, f1, f2]
  · simp [go_sem, a, b, e, f0, f1, f2]
theorem IsV.other {w w' : World} {g : Bool} {p q : Option Addr} {n c m d G : Nat} {v : Rat} {x : Bool} {y z : Option Addr} {a b e f : Nat} {T : TypeId} (h : IsV w g p n c q m d v) (hb : w.heap[G]? = some (.cells #[.bool x, .slice y a b, .slice z e f] T (0, 0))) (hg : w.grownBy w' (some G)) : IsV w' g p n c q m d v :=
  ⟨⟨IsC.other3 h.1.1 hb hg, h.1.2⟩, h.2.other3 hb hg⟩

section
variable {A B : Rat} {b : Nat} {w0 w2 : World} {g1 g2 : Bool} {p1 p2 q1 q2 : Option Addr} {n1 c1 m1 d1 n2 c2 m2 d2 u v : Nat}
theorem rleaf_alloc (h1 : IsV w2 g1 p1 n1 c1 q1 m1 d1 A) (h2 : IsV w2 g2 p2 n2 c2 q2 m2 d2 B) (b1 : n1 ≤ b ∧ m1 ≤ b) (b2 : n2 ≤ b ∧ m2 ≤ b) (hg : w0.grownBy w2 none) :
    RPair A B b w0 (.pointer (some ⟨w2.heap.size, 0, none⟩)) (.pointer (some ⟨w2.heap.size + 1, 0, none⟩)) ((w2.alloc (.cells #[.bool g1, .slice p1 n1 c1, .slice q1 m1 d1] 27)).alloc (.cells #[.bool g2, .slice p2 n2 c2, .slice q2 m2 d2] 27)) := by
  have hA := grown_trans (World.grownBy_alloc w2 (.cells #[.bool g1, .slice p1 n1 c1, .slice q1 m1 d1] 27) none) (World.grownBy_alloc _ (.cells #[.bool g2, .slice p2 n2 c2, .slice q2 m2 d2] 27) none)
  exact ⟨_, _, g1, g2, p1, p2, q1, q2, n1, c1, m1, d1, n2, c2, m2, d2, rfl, rfl, by simp [go_sem], by simp [go_sem], by simp [go_sem], by simp [go_sem], by simp [go_sem], by simp [go_sem], h1.keep hA, h2.keep hA, b1, b2, grown_trans hg hA⟩
theorem rleaf_alloc' (h1 : IsV w2 g1 p1 n1 c1 q1 m1 d1 A) (h2 : IsV w2 g2 p2 n2 c2 q2 m2 d2 B) (b1 : n1 ≤ b ∧ m1 ≤ b) (b2 : n2 ≤ b ∧ m2 ≤ b) (hg : w0.grownBy w2 none) :
    RPair A B b w0 (.pointer (some ⟨w2.heap.size + 1, 0, none⟩)) (.pointer (some ⟨w2.heap.size, 0, none⟩)) ((w2.alloc (.cells #[.bool g2, .slice p2 n2 c2, .slice q2 m2 d2] 27)).alloc (.cells #[.bool g1, .slice p1 n1 c1, .slice q1 m1 d1] 27)) := by
  have hA := grown_trans (World.grownBy_alloc w2 (.cells #[.bool g2, .slice p2 n2 c2, .slice q2 m2 d2] 27) none) (World.grownBy_alloc _ (.cells #[.bool g1, .slice p1 n1 c1, .slice q1 m1 d1] 27) none)
  exact ⟨_, _, g1, g2, p1, p2, q1, q2, n1, c1, m1, d1, n2, c2, m2, d2, rfl, rfl, by simp [go_sem], by simp [go_sem], by simp [go_sem], by simp [go_sem], by simp [go_sem], by simp [go_sem], h1.keep hA, h2.keep hA, b1, b2, grown_trans hg hA⟩
theorem rleaf_set1 (h1 : IsV w2 g1 p1 n1 c1 q1 m1 d1 A) (h2 : IsV w2 g2 p2 n2 c2 q2 m2 d2 B) (b1 : n1 ≤ b ∧ m1 ≤ b) (b2 : n2 ≤ b ∧ m2 ≤ b) (hg : w0.grownBy w2 none) (hb : RBoxAt w2 u) (hu : w0.heap.size ≤ u) :
    RPair A B b w0 (.pointer (some ⟨u, 0, none⟩)) (.pointer (some ⟨w2.heap.size, 0, none⟩)) ((((w2.setCell ⟨u, 0, none⟩ (.bool g1)).setCell ⟨u, 1, none⟩ (.slice p1 n1 c1)).setCell ⟨u, 2, none⟩ (.slice q1 m1 d1)).alloc (.cells #[.bool g2, .slice p2 n2 c2, .slice q2 m2 d2] 27)) := by
  have k := rbox_set hb g1 p1 n1 c1 q1 m1 d1
  have hG := grown_new hg k.1 (fun g e => by cases e; exact hu)
  have r1 := h1.other hb k.1
  have r2 := h2.other hb k.1
  obtain ⟨hS, hz, k0, k1, k2⟩ := k
  rw [← hz]
  generalize ((w2.setCell ⟨u, 0, none⟩ (.bool g1)).setCell ⟨u, 1, none⟩ (.slice p1 n1 c1)).setCell ⟨u, 2, none⟩ (.slice q1 m1 d1) = w3 at *
  have hA := World.grownBy_alloc w3 (.cells #[.bool g2, .slice p2 n2 c2, .slice q2 m2 d2] 27) none
  exact ⟨_, _, g1, g2, p1, p2, q1, q2, n1, c1, m1, d1, n2, c2, m2, d2, rfl, rfl, hA.cell k0 (by simp), hA.cell k1 (by simp), hA.cell k2 (by simp), by simp [go_sem], by simp [go_sem], by simp [go_sem], r1.keep hA, r2.keep hA, b1, b2, grown_trans hG hA⟩
theorem rleaf_set2 (h1 : IsV w2 g1 p1 n1 c1 q1 m1 d1 A) (h2 : IsV w2 g2 p2 n2 c2 q2 m2 d2 B) (b1 : n1 ≤ b ∧ m1 ≤ b) (b2 : n2 ≤ b ∧ m2 ≤ b) (hg : w0.grownBy w2 none) (hb : RBoxAt w2 u) (hu : w0.heap.size ≤ u) :
    RPair A B b w0 (.pointer (some ⟨w2.heap.size, 0, none⟩)) (.pointer (some ⟨u, 0, none⟩)) ((((w2.setCell ⟨u, 0, none⟩ (.bool g2)).setCell ⟨u, 1, none⟩ (.slice p2 n2 c2)).setCell ⟨u, 2, none⟩ (.slice q2 m2 d2)).alloc (.cells #[.bool g1, .slice p1 n1 c1, .slice q1 m1 d1] 27)) := by
  have k := rbox_set hb g2 p2 n2 c2 q2 m2 d2
  have hG := grown_new hg k.1 (fun g e => by cases e; exact hu)
  have r1 := h1.other hb k.1
  have r2 := h2.other hb k.1
  obtain ⟨hS, hz, k0, k1, k2⟩ := k
  rw [← hz]
  generalize ((w2.setCell ⟨u, 0, none⟩ (.bool g2)).setCell ⟨u, 1, none⟩ (.slice p2 n2 c2)).setCell ⟨u, 2, none⟩ (.slice q2 m2 d2) = w3 at *
  have hA := World.grownBy_alloc w3 (.cells #[.bool g1, .slice p1 n1 c1, .slice q1 m1 d1] 27) none
  exact ⟨_, _, g1, g2, p1, p2, q1, q2, n1, c1, m1, d1, n2, c2, m2, d2, rfl, rfl, by simp [go_sem], by simp [go_sem], by simp [go_sem], hA.cell k0 (by simp), hA.cell k1 (by simp), hA.cell k2 (by simp), r1.keep hA, r2.keep hA, b1, b2, grown_trans hG hA⟩
theorem rleaf_sets (h1 : IsV w2 g1 p1 n1 c1 q1 m1 d1 A) (h2 : IsV w2 g2 p2 n2 c2 q2 m2 d2 B) (b1 : n1 ≤ b ∧ m1 ≤ b) (b2 : n2 ≤ b ∧ m2 ≤ b) (hg : w0.grownBy w2 none) (hb : RBoxAt w2 u) (hc : RBoxAt w2 v) (hu : w0.heap.size ≤ u) (hv : w0.heap.size ≤ v) (hne : v ≠ u) :
    RPair A B b w0 (.pointer (some ⟨u, 0, none⟩)) (.pointer (some ⟨v, 0, none⟩)) ((((((w2.setCell ⟨u, 0, none⟩ (.bool g1)).setCell ⟨u, 1, none⟩ (.slice p1 n1 c1)).setCell ⟨u, 2, none⟩ (.slice q1 m1 d1)).setCell ⟨v, 0, none⟩ (.bool g2)).setCell ⟨v, 1, none⟩ (.slice p2 n2 c2)).setCell ⟨v, 2, none⟩ (.slice q2 m2 d2)) := by
  have k := rbox_set hb g1 p1 n1 c1 q1 m1 d1
  have hG := grown_new hg k.1 (fun g e => by cases e; exact hu)
  have r1 := h1.other hb k.1
  have r2 := h2.other hb k.1
  obtain ⟨hS, hz, k0, k1, k2⟩ := k
  have hc3 : RBoxAt (((w2.setCell ⟨u, 0, none⟩ (.bool g1)).setCell ⟨u, 1, none⟩ (.slice p1 n1 c1)).setCell ⟨u, 2, none⟩ (.slice q1 m1 d1)) v := (hS.block v (lt_of_block hc) (by simpa using hne)).trans hc
  generalize ((w2.setCell ⟨u, 0, none⟩ (.bool g1)).setCell ⟨u, 1, none⟩ (.slice p1 n1 c1)).setCell ⟨u, 2, none⟩ (.slice q1 m1 d1) = w3 at *
  have l := rbox_set hc3 g2 p2 n2 c2 q2 m2 d2
  have hG' := grown_new hG l.1 (fun g e => by cases e; exact hv)
  have r1' := r1.other hc3 l.1
  have r2' := r2.other hc3 l.1
  obtain ⟨hS', hz', l0, l1, l2⟩ := l
  exact ⟨_, _, g1, g2, p1, p2, q1, q2, n1, c1, m1, d1, n2, c2, m2, d2, rfl, rfl, hS'.cell k0 (by simpa using Ne.symm hne), hS'.cell k1 (by simpa using Ne.symm hne), hS'.cell k2 (by simpa using Ne.symm hne), l0, l1, l2, r1', r2', b1, b2, hG'⟩
end
end Go.Proofs.YtcjoecmkkpmjmaaGreatDoor

set_option linter.unusedVariables false
set_option linter.unusedSimpArgs false
namespace Go.Proofs.YtcjoecmkkpmjmaaGreatDoor
open Go.RowKit Nm

theorem rvs2 {w : World} {G : Nat} {T : TypeId} {a b : RV} (hbk : w.heap[G]? = some (.cells #[.bool a.g, .slice a.p a.n a.c, .slice a.q a.m a.d, .bool b.g, .slice b.p b.n b.c, .slice b.q b.m b.d] T (0, 0))) (ha : a.is w) (hb : b.is w) : RVs w G [a, b] := fun j hj => by
  have k0 := cell_of_row w G 0 _ _ _ hbk
  have k1 := cell_of_row w G 1 _ _ _ hbk
  have k2 := cell_of_row w G 2 _ _ _ hbk
  have k3 := cell_of_row w G 3 _ _ _ hbk
  have k4 := cell_of_row w G 4 _ _ _ hbk
  have k5 := cell_of_row w G 5 _ _ _ hbk
  simp at k0 k1 k2 k3 k4 k5
  match j, hj with
  | 0, _ => exact ⟨k0, k1, k2, ha⟩
  | 1, _ => exact ⟨k3, k4, k5, hb⟩
theorem rvs4 {w : World} {G : Nat} {T : TypeId} {a b c d : RV} (hbk : w.heap[G]? = some (.cells #[.bool a.g, .slice a.p a.n a.c, .slice a.q a.m a.d, .bool b.g, .slice b.p b.n b.c, .slice b.q b.m b.d, .bool c.g, .slice c.p c.n c.c, .slice c.q c.m c.d, .bool d.g, .slice d.p d.n d.c, .slice d.q d.m d.d] T (0, 0))) (ha : a.is w) (hb : b.is w) (hc : c.is w) (hd : d.is w) : RVs w G [a, b, c, d] := fun j hj => by
  have k0 := cell_of_row w G 0 _ _ _ hbk
  have k1 := cell_of_row w G 1 _ _ _ hbk
  have k2 := cell_of_row w G 2 _ _ _ hbk
  have k3 := cell_of_row w G 3 _ _ _ hbk
  have k4 := cell_of_row w G 4 _ _ _ hbk
  have k5 := cell_of_row w G 5 _ _ _ hbk
  have k6 := cell_of_row w G 6 _ _ _ hbk
  have k7 := cell_of_row w G 7 _ _ _ hbk
  have k8 := cell_of_row w G 8 _ _ _ hbk
  have k9 := cell_of_row w G 9 _ _ _ hbk
  have k10 := cell_of_row w G 10 _ _ _ hbk
  have k11 := cell_of_row w G 11 _ _ _ hbk
  simp at k0 k1 k2 k3 k4 k5 k6 k7 k8 k9 k10 k11
  match j, hj with
  | 0, _ => exact ⟨k0, k1, k2, ha⟩
  | 1, _ => exact ⟨k3, k4, k5, hb⟩
  | 2, _ => exact ⟨k6, k7, k8, hc⟩
  | 3, _ => exact ⟨k9, k10, k11, hd⟩
theorem two_sz {a b : RV} {B : Nat} (ha : a.n ≤ B ∧ a.m ≤ B) (hb : b.n ≤ B ∧ b.m ≤ B) : ∀ r ∈ [a, b], r.n ≤ B ∧ r.m ≤ B := fun r hr => by
  simp at hr
  rcases hr with rfl | rfl
  · exact ha
  · exact hb
theorem four_sz {a b c d : RV} {B : Nat} (ha : a.n ≤ B ∧ a.m ≤ B) (hb : b.n ≤ B ∧ b.m ≤ B) (hc : c.n ≤ B ∧ c.m ≤ B) (hd : d.n ≤ B ∧ d.m ≤ B) : ∀ r ∈ [a, b, c, d], r.n ≤ B ∧ r.m ≤ B := fun r hr => by
  simp at hr
  rcases hr with rfl | rfl | rfl | rfl
  · exact ha
  · exact hb
  · exact hc
  · exact hd
theorem sgbox_facts {w : World} {G : Nat} {x y : Value} {T : TypeId} (hb : w.heap[G]? = some (.cells #[x, y] T (0, 0))) :
    w.cell? ⟨G, 0, none⟩ = some x ∧ w.cell? ⟨G, 1, none⟩ = some y ∧ w.frozen? ⟨G, 0, none⟩ = false ∧ w.frozen? ⟨G, 1, none⟩ = false := by
  have k0 := cell_of_row w G 0 _ _ _ hb
  have k1 := cell_of_row w G 1 _ _ _ hb
  simp at k0 k1
  exact ⟨k0, k1, frozen_of_row w G 0 _ _ hb, frozen_of_row w G 1 _ _ hb⟩
theorem set2_any (w : World) (G : Nat) (a b : Value) : w.grownBy ((w.setCell ⟨G, 0, none⟩ a).setCell ⟨G, 1, none⟩ b) (some G) :=
  grown_trans (grown_setCell _ ⟨G, 0, none⟩ a) (grown_setCell _ ⟨G, 1, none⟩ b)
theorem both_v {w : World} (s : Int) :
    Calls Tryz.prog 65 #[.int .i64 s] w fun e w' => e = .returned (.agg #[.int .i64 s, .int .i64 s]) ∧ w.grownBy w' none := by
  have hb2 := World.grownBy_alloc w (.cells #[.int .i64 s, .int .i64 s] 82) none
  go_enter Tryz.func65, Tryz.ntmps65
  go_wp2
  exact bodyPost_ret (v := .agg #[.int .i64 s, .int .i64 s]) (by simp [results, Tryz.results65, go_sem]) rfl ⟨rfl, hb2⟩

set_option maxRecDepth 20000 in
set_option maxHeartbeats 4000000 in
theorem signsOf_v (S : Nat) {w : World} {g1 g2 : Bool} {p1 q1 p2 q2 : Option Addr} {n1 c1 m1 d1 n2 c2 m2 d2 : Nat} {A B : Rat} (hA : IsQ w g1 p1 n1 c1 q1 m1 d1 A) (hB : IsQ w g2 p2 n2 c2 q2 m2 d2 B) (hn1 : n1 ≤ S) (hm1 : m1 ≤ S) (hn2 : n2 ≤ S) (hm2 : m2 ≤ S) (hS : S ≤ 40000) :
    Calls Tryz.prog 64 #[.agg #[.bool g1, .slice p1 n1 c1, .slice q1 m1 d1, .bool g2, .slice p2 n2 c2, .slice q2 m2 d2]] w fun e w' => e = .returned (.agg #[.int .i64 (cmpR A 0), .int .i64 (cmpR B 0)]) ∧ w.grownBy w' none := by
  have hW := (grown_trans (World.grownBy_alloc w (.cells #[.bool g1, .slice p1 n1 c1, .slice q1 m1 d1, .bool g2, .slice p2 n2 c2, .slice q2 m2 d2] 29) none) (World.grownBy_alloc _ (.cells #[.int .i64 0, .int .i64 0] 82) none))
  have bx0 : ((w.alloc (.cells #[.bool g1, .slice p1 n1 c1, .slice q1 m1 d1, .bool g2, .slice p2 n2 c2, .slice q2 m2 d2] 29)).alloc (.cells #[.int .i64 0, .int .i64 0] 82)).heap[w.heap.size]? = some (.cells #[.bool g1, .slice p1 n1 c1, .slice q1 m1 d1, .bool g2, .slice p2 n2 c2, .slice q2 m2 d2] 29 (0, 0)) := by
    have h0 := heap_alloc_new w (.cells #[.bool g1, .slice p1 n1 c1, .slice q1 m1 d1, .bool g2, .slice p2 n2 c2, .slice q2 m2 d2] 29)
    have h1 := (World.grownBy_alloc (w.alloc (.cells #[.bool g1, .slice p1 n1 c1, .slice q1 m1 d1, .bool g2, .slice p2 n2 c2, .slice q2 m2 d2] 29)) (.cells #[.int .i64 0, .int .i64 0] 82) none).block _ (lt_of_block h0) (by simp)
    have h2 := h1.trans h0
    simpa using h2
  have bx1 : ((w.alloc (.cells #[.bool g1, .slice p1 n1 c1, .slice q1 m1 d1, .bool g2, .slice p2 n2 c2, .slice q2 m2 d2] 29)).alloc (.cells #[.int .i64 0, .int .i64 0] 82)).heap[w.heap.size + 1]? = some (.cells #[.int .i64 0, .int .i64 0] 82 (0, 0)) := by
    have := heap_alloc_new (w.alloc (.cells #[.bool g1, .slice p1 n1 c1, .slice q1 m1 d1, .bool g2, .slice p2 n2 c2, .slice q2 m2 d2] 29)) (.cells #[.int .i64 0, .int .i64 0] 82)
    simpa using this
  replace hA := hA.keep hW; replace hB := hB.keep hW
  obtain ⟨⟨x0, x1, x2, x3, x4, x5⟩, _⟩ := ivbox_facts bx0
  clear bx0
  go_enter Tryz.func64, Tryz.ntmps64
  go_wp2_with fail
  generalize ((w.alloc (.cells #[.bool g1, .slice p1 n1 c1, .slice q1 m1 d1, .bool g2, .slice p2 n2 c2, .slice q2 m2 d2] 29)).alloc (.cells #[.int .i64 0, .int .i64 0] 82)) = w0 at *
  have hg := grown_drew w0 none
  replace hA := hA.keep hg; replace hB := hB.keep hg; replace x0 := hg.cell x0 (by simp); replace x1 := hg.cell x1 (by simp)
  replace x2 := hg.cell x2 (by simp); replace x3 := hg.cell x3 (by simp); replace x4 := hg.cell x4 (by simp); replace x5 := hg.cell x5 (by simp)
  replace bx1 := (hg.block _ (lt_of_block bx1) (by simp)).trans bx1; replace hW := grown_trans hW hg
  clear hg
  skip
  go_region_held3 (fun w' => w'.cell? ⟨w.heap.size, 0, none⟩ = some (.bool g1) ∧ w'.cell? ⟨w.heap.size, 1, none⟩ = some (.slice p1 n1 c1) ∧ w'.cell? ⟨w.heap.size, 2, none⟩ = some (.slice q1 m1 d1) ∧ w'.cell? ⟨w.heap.size, 3, none⟩ = some (.bool g2) ∧ w'.cell? ⟨w.heap.size, 4, none⟩ = some (.slice p2 n2 c2) ∧ w'.cell? ⟨w.heap.size, 5, none⟩ = some (.slice q2 m2 d2)) ((try go_split_ands) <;> (repeat' apply And.intro) <;> (repeat (first | (with_reducible assumption) | (with_reducible refine (grown_setCell _ _ _).cell ?_ (by first | (simp; omega) | simp)) | (with_reducible refine (World.grownBy_alloc _ _ none).cell ?_ (by simp)) | (with_reducible refine (grown_drew _ none).cell ?_ (by simp)))))
    (first
      | (go_at_call 24; (with_reducible refine (ratSign_v S hA hn1 hm1 hS).mono ?_); rintro ee v1 ⟨rfl, hg⟩; replace hA := hA.keep hg; replace hB := hB.keep hg; replace x0 := hg.cell x0 (by simp); replace x1 := hg.cell x1 (by simp); replace x2 := hg.cell x2 (by simp); replace x3 := hg.cell x3 (by simp); replace x4 := hg.cell x4 (by simp); replace x5 := hg.cell x5 (by simp); replace bx1 := (hg.block _ (lt_of_block bx1) (by simp)).trans bx1; replace hW := grown_trans hW hg; clear hg)
      | (go_at_call 24; (with_reducible refine (ratSign_v S hB hn2 hm2 hS).mono ?_); rintro ee v2 ⟨rfl, hg⟩; replace hA := hA.keep hg; replace hB := hB.keep hg; replace x0 := hg.cell x0 (by simp); replace x1 := hg.cell x1 (by simp); replace x2 := hg.cell x2 (by simp); replace x3 := hg.cell x3 (by simp); replace x4 := hg.cell x4 (by simp); replace x5 := hg.cell x5 (by simp); replace bx1 := (hg.block _ (lt_of_block bx1) (by simp)).trans bx1; replace hW := grown_trans hW hg; clear hg; obtain ⟨l0, l1, f0, f1⟩ := sgbox_facts bx1))
  have hs := set2_any v2 (w.heap.size + 1) (.int .i64 (cmpR A 0)) (.int .i64 (cmpR B 0))
  replace hW := grown_new hW hs (fun g e => by cases e; omega)
  go_wp2_with fail
  exact bodyPost_ret (v := .agg #[.int .i64 (cmpR A 0), .int .i64 (cmpR B 0)]) (by simp [results, Tryz.results64, go_sem, l0, l1, f0, f1]) rfl ⟨rfl, hW⟩

end Go.Proofs.YtcjoecmkkpmjmaaGreatDoor

set_option linter.unusedVariables false
set_option linter.unusedSimpArgs false
namespace Go.Proofs.YtcjoecmkkpmjmaaGreatDoor
open Go.RowKit Nm

/-- lo <= x <= hi -/
def inI (lo hi x : Rat) : Bool := decide (lo ≤ x ∧ x ≤ hi)
theorem cmpR_le_iff {v u : Rat} : cmpR v u ≤ 0 ↔ v ≤ u := by
  constructor
  · intro h
    by_cases h2 : v ≤ u
    · exact h2
    · have := cmpR_pos h2; omega
  · exact cmpR_le

set_option maxRecDepth 20000 in
set_option maxHeartbeats 4000000 in
theorem has_v (S : Nat) {w : World} {g1 g2 g3 : Bool} {p1 q1 p2 q2 p3 q3 : Option Addr} {n1 c1 m1 d1 n2 c2 m2 d2 n3 c3 m3 d3 : Nat} {lo hi x : Rat} (hA : IsQ w g1 p1 n1 c1 q1 m1 d1 lo) (hB : IsQ w g2 p2 n2 c2 q2 m2 d2 hi) (hX : IsQ w g3 p3 n3 c3 q3 m3 d3 x) (hn1 : n1 ≤ S) (hm1 : m1 ≤ S) (hn2 : n2 ≤ S) (hm2 : m2 ≤ S) (hn3 : n3 ≤ S) (hm3 : m3 ≤ S) (hS : S ≤ 40000) :
    Calls Tryz.prog 14 #[.agg #[.bool g1, .slice p1 n1 c1, .slice q1 m1 d1, .bool g2, .slice p2 n2 c2, .slice q2 m2 d2], .agg #[.bool g3, .slice p3 n3 c3, .slice q3 m3 d3]] w fun e w' => e = .returned (.bool (inI lo hi x)) ∧ w.grownBy w' none := by
  by_cases h : lo ≤ x
  · have h1 := cmpR_le h
    have H2 := hid (show decide (cmpR x hi ≤ 0) = inI lo hi x by
      unfold inI
      by_cases h3 : x ≤ hi
      · rw [decide_eq_true (cmpR_le h3), decide_eq_true ⟨h, h3⟩]
      · rw [decide_eq_false (fun k => h3 (cmpR_le_iff.1 k)), decide_eq_false (fun k => h3 k.2)])
    clear h
    have hW := (grown_trans (World.grownBy_alloc w (.cells #[.bool g1, .slice p1 n1 c1, .slice q1 m1 d1, .bool g2, .slice p2 n2 c2, .slice q2 m2 d2] 29) none) (World.grownBy_alloc _ (.cells #[.bool g3, .slice p3 n3 c3, .slice q3 m3 d3] 27) none))
    have bx0 : ((w.alloc (.cells #[.bool g1, .slice p1 n1 c1, .slice q1 m1 d1, .bool g2, .slice p2 n2 c2, .slice q2 m2 d2] 29)).alloc (.cells #[.bool g3, .slice p3 n3 c3, .slice q3 m3 d3] 27)).heap[w.heap.size]? = some (.cells #[.bool g1, .slice p1 n1 c1, .slice q1 m1 d1, .bool g2, .slice p2 n2 c2, .slice q2 m2 d2] 29 (0, 0)) := by
      have h0 := heap_alloc_new w (.cells #[.bool g1, .slice p1 n1 c1, .slice q1 m1 d1, .bool g2, .slice p2 n2 c2, .slice q2 m2 d2] 29)
      have h1 := (World.grownBy_alloc (w.alloc (.cells #[.bool g1, .slice p1 n1 c1, .slice q1 m1 d1, .bool g2, .slice p2 n2 c2, .slice q2 m2 d2] 29)) (.cells #[.bool g3, .slice p3 n3 c3, .slice q3 m3 d3] 27) none).block _ (lt_of_block h0) (by simp)
      have h2 := h1.trans h0
      simpa using h2
    have bx1 : ((w.alloc (.cells #[.bool g1, .slice p1 n1 c1, .slice q1 m1 d1, .bool g2, .slice p2 n2 c2, .slice q2 m2 d2] 29)).alloc (.cells #[.bool g3, .slice p3 n3 c3, .slice q3 m3 d3] 27)).heap[w.heap.size + 1]? = some (.cells #[.bool g3, .slice p3 n3 c3, .slice q3 m3 d3] 27 (0, 0)) := by
      have := heap_alloc_new (w.alloc (.cells #[.bool g1, .slice p1 n1 c1, .slice q1 m1 d1, .bool g2, .slice p2 n2 c2, .slice q2 m2 d2] 29)) (.cells #[.bool g3, .slice p3 n3 c3, .slice q3 m3 d3] 27)
      simpa using this
    obtain ⟨y0, y1, y2, _, _, _⟩ := ratbox_facts bx1
    clear bx1
    replace hA := hA.keep hW; replace hB := hB.keep hW; replace hX := hX.keep hW
    obtain ⟨⟨x0, x1, x2, x3, x4, x5⟩, _⟩ := ivbox_facts bx0
    clear bx0
    go_enter Tryz.func14, Tryz.ntmps14
    go_wp2_with fail
    generalize ((w.alloc (.cells #[.bool g1, .slice p1 n1 c1, .slice q1 m1 d1, .bool g2, .slice p2 n2 c2, .slice q2 m2 d2] 29)).alloc (.cells #[.bool g3, .slice p3 n3 c3, .slice q3 m3 d3] 27)) = w0 at *
    refine (ratCmp_v S hA hX hn1 hm1 hn3 hm3 hS).mono ?_
    rintro ee v1 ⟨rfl, hg⟩
    replace hA := hA.keep hg; replace hB := hB.keep hg; replace hX := hX.keep hg; replace x0 := hg.cell x0 (by simp)
    replace x1 := hg.cell x1 (by simp); replace x2 := hg.cell x2 (by simp); replace x3 := hg.cell x3 (by simp); replace x4 := hg.cell x4 (by simp)
    replace x5 := hg.cell x5 (by simp); replace y0 := hg.cell y0 (by simp); replace y1 := hg.cell y1 (by simp); replace y2 := hg.cell y2 (by simp)
    replace hW := grown_trans hW hg
    clear hg
    go_wp2_with fail
    refine (ratCmp_v S hX hB hn3 hm3 hn2 hm2 hS).mono ?_
    rintro ee v2 ⟨rfl, hg⟩
    replace hA := hA.keep hg; replace hB := hB.keep hg; replace hX := hX.keep hg; replace x0 := hg.cell x0 (by simp)
    replace x1 := hg.cell x1 (by simp); replace x2 := hg.cell x2 (by simp); replace x3 := hg.cell x3 (by simp); replace x4 := hg.cell x4 (by simp)
    replace x5 := hg.cell x5 (by simp); replace y0 := hg.cell y0 (by simp); replace y1 := hg.cell y1 (by simp); replace y2 := hg.cell y2 (by simp)
    replace hW := grown_trans hW hg
    clear hg
    go_wp2_with fail
    go_ret
    exact ⟨congrArg Ending.returned (congrArg Value.bool H2.out), hW⟩
  · have h1 : ¬ (cmpR lo x ≤ 0) := fun k => h (cmpR_le_iff.1 k)
    have H2 := hid (show false = inI lo hi x from (decide_eq_false (fun k => h k.1)).symm)
    clear h
    have hW := (grown_trans (World.grownBy_alloc w (.cells #[.bool g1, .slice p1 n1 c1, .slice q1 m1 d1, .bool g2, .slice p2 n2 c2, .slice q2 m2 d2] 29) none) (World.grownBy_alloc _ (.cells #[.bool g3, .slice p3 n3 c3, .slice q3 m3 d3] 27) none))
    have bx0 : ((w.alloc (.cells #[.bool g1, .slice p1 n1 c1, .slice q1 m1 d1, .bool g2, .slice p2 n2 c2, .slice q2 m2 d2] 29)).alloc (.cells #[.bool g3, .slice p3 n3 c3, .slice q3 m3 d3] 27)).heap[w.heap.size]? = some (.cells #[.bool g1, .slice p1 n1 c1, .slice q1 m1 d1, .bool g2, .slice p2 n2 c2, .slice q2 m2 d2] 29 (0, 0)) := by
      have h0 := heap_alloc_new w (.cells #[.bool g1, .slice p1 n1 c1, .slice q1 m1 d1, .bool g2, .slice p2 n2 c2, .slice q2 m2 d2] 29)
      have h1 := (World.grownBy_alloc (w.alloc (.cells #[.bool g1, .slice p1 n1 c1, .slice q1 m1 d1, .bool g2, .slice p2 n2 c2, .slice q2 m2 d2] 29)) (.cells #[.bool g3, .slice p3 n3 c3, .slice q3 m3 d3] 27) none).block _ (lt_of_block h0) (by simp)
      have h2 := h1.trans h0
      simpa using h2
    have bx1 : ((w.alloc (.cells #[.bool g1, .slice p1 n1 c1, .slice q1 m1 d1, .bool g2, .slice p2 n2 c2, .slice q2 m2 d2] 29)).alloc (.cells #[.bool g3, .slice p3 n3 c3, .slice q3 m3 d3] 27)).heap[w.heap.size + 1]? = some (.cells #[.bool g3, .slice p3 n3 c3, .slice q3 m3 d3] 27 (0, 0)) := by
      have := heap_alloc_new (w.alloc (.cells #[.bool g1, .slice p1 n1 c1, .slice q1 m1 d1, .bool g2, .slice p2 n2 c2, .slice q2 m2 d2] 29)) (.cells #[.bool g3, .slice p3 n3 c3, .slice q3 m3 d3] 27)
      simpa using this
    obtain ⟨y0, y1, y2, _, _, _⟩ := ratbox_facts bx1
    clear bx1
    replace hA := hA.keep hW; replace hB := hB.keep hW; replace hX := hX.keep hW
    obtain ⟨⟨x0, x1, x2, x3, x4, x5⟩, _⟩ := ivbox_facts bx0
    clear bx0
    go_enter Tryz.func14, Tryz.ntmps14
    go_wp2_with fail
    generalize ((w.alloc (.cells #[.bool g1, .slice p1 n1 c1, .slice q1 m1 d1, .bool g2, .slice p2 n2 c2, .slice q2 m2 d2] 29)).alloc (.cells #[.bool g3, .slice p3 n3 c3, .slice q3 m3 d3] 27)) = w0 at *
    refine (ratCmp_v S hA hX hn1 hm1 hn3 hm3 hS).mono ?_
    rintro ee v1 ⟨rfl, hg⟩
    replace hA := hA.keep hg; replace hB := hB.keep hg; replace hX := hX.keep hg; replace x0 := hg.cell x0 (by simp)
    replace x1 := hg.cell x1 (by simp); replace x2 := hg.cell x2 (by simp); replace x3 := hg.cell x3 (by simp); replace x4 := hg.cell x4 (by simp)
    replace x5 := hg.cell x5 (by simp); replace y0 := hg.cell y0 (by simp); replace y1 := hg.cell y1 (by simp); replace y2 := hg.cell y2 (by simp)
    replace hW := grown_trans hW hg
    clear hg
    go_wp2_with fail
    go_ret
    exact ⟨congrArg Ending.returned (congrArg Value.bool H2.out), hW⟩


set_option maxRecDepth 20000 in
set_option maxHeartbeats 8000000 in
theorem ivAdd_v (S : Nat) {w : World} (T : Tb w) {g1 g2 g3 g4 : Bool} {p1 q1 p2 q2 p3 q3 p4 q4 : Option Addr} {n1 c1 m1 d1 n2 c2 m2 d2 n3 c3 m3 d3 n4 c4 m4 d4 : Nat} {A B X Y : Rat} (hA : IsV w g1 p1 n1 c1 q1 m1 d1 A) (hB : IsV w g2 p2 n2 c2 q2 m2 d2 B) (hX : IsV w g3 p3 n3 c3 q3 m3 d3 X) (hY : IsV w g4 p4 n4 c4 q4 m4 d4 Y) (hn1 : n1 ≤ S) (hm1 : m1 ≤ S) (hn2 : n2 ≤ S) (hm2 : m2 ≤ S) (hn3 : n3 ≤ S) (hm3 : m3 ≤ S) (hn4 : n4 ≤ S) (hm4 : m4 ≤ S) (hS : S ≤ 8000) :
    Calls Tryz.prog 15 #[.agg #[.bool g1, .slice p1 n1 c1, .slice q1 m1 d1, .bool g2, .slice p2 n2 c2, .slice q2 m2 d2], .agg #[.bool g3, .slice p3 n3 c3, .slice q3 m3 d3, .bool g4, .slice p4 n4 c4, .slice q4 m4 d4]] w (WPost w (A + X) (B + Y) (4 * S + 20)) := by
  have HT := hid T
  clear T
  have hW := (grown_trans (grown_trans (World.grownBy_alloc w (.cells #[.bool g1, .slice p1 n1 c1, .slice q1 m1 d1, .bool g2, .slice p2 n2 c2, .slice q2 m2 d2] 29) none) (World.grownBy_alloc _ (.cells #[.bool g3, .slice p3 n3 c3, .slice q3 m3 d3, .bool g4, .slice p4 n4 c4, .slice q4 m4 d4] 29) none)) (World.grownBy_alloc _ (.cells #[.bool false, .slice none 0 0, .slice none 0 0, .bool false, .slice none 0 0, .slice none 0 0] 29) none))
  have bx0 : (((w.alloc (.cells #[.bool g1, .slice p1 n1 c1, .slice q1 m1 d1, .bool g2, .slice p2 n2 c2, .slice q2 m2 d2] 29)).alloc (.cells #[.bool g3, .slice p3 n3 c3, .slice q3 m3 d3, .bool g4, .slice p4 n4 c4, .slice q4 m4 d4] 29)).alloc (.cells #[.bool false, .slice none 0 0, .slice none 0 0, .bool false, .slice none 0 0, .slice none 0 0] 29)).heap[w.heap.size]? = some (.cells #[.bool g1, .slice p1 n1 c1, .slice q1 m1 d1, .bool g2, .slice p2 n2 c2, .slice q2 m2 d2] 29 (0, 0)) := by
    have h0 := heap_alloc_new w (.cells #[.bool g1, .slice p1 n1 c1, .slice q1 m1 d1, .bool g2, .slice p2 n2 c2, .slice q2 m2 d2] 29)
    have h1 := (grown_trans (World.grownBy_alloc (w.alloc (.cells #[.bool g1, .slice p1 n1 c1, .slice q1 m1 d1, .bool g2, .slice p2 n2 c2, .slice q2 m2 d2] 29)) (.cells #[.bool g3, .slice p3 n3 c3, .slice q3 m3 d3, .bool g4, .slice p4 n4 c4, .slice q4 m4 d4] 29) none) (World.grownBy_alloc _ (.cells #[.bool false, .slice none 0 0, .slice none 0 0, .bool false, .slice none 0 0, .slice none 0 0] 29) none)).block _ (lt_of_block h0) (by simp)
    have h2 := h1.trans h0
    simpa using h2
  have bx1 : (((w.alloc (.cells #[.bool g1, .slice p1 n1 c1, .slice q1 m1 d1, .bool g2, .slice p2 n2 c2, .slice q2 m2 d2] 29)).alloc (.cells #[.bool g3, .slice p3 n3 c3, .slice q3 m3 d3, .bool g4, .slice p4 n4 c4, .slice q4 m4 d4] 29)).alloc (.cells #[.bool false, .slice none 0 0, .slice none 0 0, .bool false, .slice none 0 0, .slice none 0 0] 29)).heap[w.heap.size + 1]? = some (.cells #[.bool g3, .slice p3 n3 c3, .slice q3 m3 d3, .bool g4, .slice p4 n4 c4, .slice q4 m4 d4] 29 (0, 0)) := by
    have h0 := heap_alloc_new (w.alloc (.cells #[.bool g1, .slice p1 n1 c1, .slice q1 m1 d1, .bool g2, .slice p2 n2 c2, .slice q2 m2 d2] 29)) (.cells #[.bool g3, .slice p3 n3 c3, .slice q3 m3 d3, .bool g4, .slice p4 n4 c4, .slice q4 m4 d4] 29)
    have h1 := (World.grownBy_alloc ((w.alloc (.cells #[.bool g1, .slice p1 n1 c1, .slice q1 m1 d1, .bool g2, .slice p2 n2 c2, .slice q2 m2 d2] 29)).alloc (.cells #[.bool g3, .slice p3 n3 c3, .slice q3 m3 d3, .bool g4, .slice p4 n4 c4, .slice q4 m4 d4] 29)) (.cells #[.bool false, .slice none 0 0, .slice none 0 0, .bool false, .slice none 0 0, .slice none 0 0] 29) none).block _ (lt_of_block h0) (by simp)
    have h2 := h1.trans h0
    simpa using h2
  have bx2 : (((w.alloc (.cells #[.bool g1, .slice p1 n1 c1, .slice q1 m1 d1, .bool g2, .slice p2 n2 c2, .slice q2 m2 d2] 29)).alloc (.cells #[.bool g3, .slice p3 n3 c3, .slice q3 m3 d3, .bool g4, .slice p4 n4 c4, .slice q4 m4 d4] 29)).alloc (.cells #[.bool false, .slice none 0 0, .slice none 0 0, .bool false, .slice none 0 0, .slice none 0 0] 29)).heap[w.heap.size + 1 + 1]? = some (.cells #[.bool false, .slice none 0 0, .slice none 0 0, .bool false, .slice none 0 0, .slice none 0 0] 29 (0, 0)) := by
    have := heap_alloc_new ((w.alloc (.cells #[.bool g1, .slice p1 n1 c1, .slice q1 m1 d1, .bool g2, .slice p2 n2 c2, .slice q2 m2 d2] 29)).alloc (.cells #[.bool g3, .slice p3 n3 c3, .slice q3 m3 d3, .bool g4, .slice p4 n4 c4, .slice q4 m4 d4] 29)) (.cells #[.bool false, .slice none 0 0, .slice none 0 0, .bool false, .slice none 0 0, .slice none 0 0] 29)
    simpa using this
  replace hA := hA.keep hW; replace hB := hB.keep hW; replace hX := hX.keep hW; replace hY := hY.keep hW
  obtain ⟨⟨x0, x1, x2, x3, x4, x5⟩, _⟩ := ivbox_facts bx0
  obtain ⟨⟨y0, y1, y2, y3, y4, y5⟩, _⟩ := ivbox_facts bx1
  clear bx0 bx1
  go_enter Tryz.func15, Tryz.ntmps15
  go_wp2_with fail
  generalize (((w.alloc (.cells #[.bool g1, .slice p1 n1 c1, .slice q1 m1 d1, .bool g2, .slice p2 n2 c2, .slice q2 m2 d2] 29)).alloc (.cells #[.bool g3, .slice p3 n3 c3, .slice q3 m3 d3, .bool g4, .slice p4 n4 c4, .slice q4 m4 d4] 29)).alloc (.cells #[.bool false, .slice none 0 0, .slice none 0 0, .bool false, .slice none 0 0, .slice none 0 0] 29)) = w0 at *
  have hg := grown_drew w0 none
  replace hA := hA.keep hg; replace hB := hB.keep hg; replace hX := hX.keep hg; replace hY := hY.keep hg
  replace x0 := hg.cell x0 (by simp); replace x1 := hg.cell x1 (by simp); replace x2 := hg.cell x2 (by simp); replace x3 := hg.cell x3 (by simp)
  replace x4 := hg.cell x4 (by simp); replace x5 := hg.cell x5 (by simp); replace y0 := hg.cell y0 (by simp); replace y1 := hg.cell y1 (by simp)
  replace y2 := hg.cell y2 (by simp); replace y3 := hg.cell y3 (by simp); replace y4 := hg.cell y4 (by simp); replace y5 := hg.cell y5 (by simp)
  replace bx2 := (hg.block _ (lt_of_block bx2) (by simp)).trans bx2; replace hW := grown_trans hW hg
  clear hg
  go_region_held3 (fun w' => w'.cell? ⟨w.heap.size, 0, none⟩ = some (.bool g1) ∧ w'.cell? ⟨w.heap.size, 1, none⟩ = some (.slice p1 n1 c1) ∧ w'.cell? ⟨w.heap.size, 2, none⟩ = some (.slice q1 m1 d1) ∧ w'.cell? ⟨w.heap.size, 3, none⟩ = some (.bool g2) ∧ w'.cell? ⟨w.heap.size, 4, none⟩ = some (.slice p2 n2 c2) ∧ w'.cell? ⟨w.heap.size, 5, none⟩ = some (.slice q2 m2 d2) ∧ w'.cell? ⟨w.heap.size + 1, 0, none⟩ = some (.bool g3) ∧ w'.cell? ⟨w.heap.size + 1, 1, none⟩ = some (.slice p3 n3 c3) ∧ w'.cell? ⟨w.heap.size + 1, 2, none⟩ = some (.slice q3 m3 d3) ∧ w'.cell? ⟨w.heap.size + 1, 3, none⟩ = some (.bool g4) ∧ w'.cell? ⟨w.heap.size + 1, 4, none⟩ = some (.slice p4 n4 c4) ∧ w'.cell? ⟨w.heap.size + 1, 5, none⟩ = some (.slice q4 m4 d4)) ((try go_split_ands) <;> (repeat' apply And.intro) <;> (repeat (first | (with_reducible assumption) | (with_reducible refine (grown_setCell _ _ _).cell ?_ (by first | (simp; omega) | simp)) | (with_reducible refine (World.grownBy_alloc _ _ none).cell ?_ (by simp)) | (with_reducible refine (grown_drew _ none).cell ?_ (by simp)))))
    (first
      | (go_at_call 16; (with_reducible refine (ratAdd_v S (HT.out.keep hW) hA.q hX.q (by omega) (by omega) (by omega) (by omega) (by omega)).mono ?_); rintro ee v5 ⟨g5, p5, n5, c5, q5, m5, d5, rfl, hM, hn5, hm5, hg⟩; replace hA := hA.keep hg; replace hB := hB.keep hg; replace hX := hX.keep hg; replace hY := hY.keep hg; replace x0 := hg.cell x0 (by simp); replace x1 := hg.cell x1 (by simp); replace x2 := hg.cell x2 (by simp); replace x3 := hg.cell x3 (by simp); replace x4 := hg.cell x4 (by simp); replace x5 := hg.cell x5 (by simp); replace y0 := hg.cell y0 (by simp); replace y1 := hg.cell y1 (by simp); replace y2 := hg.cell y2 (by simp); replace y3 := hg.cell y3 (by simp); replace y4 := hg.cell y4 (by simp); replace y5 := hg.cell y5 (by simp); replace bx2 := (hg.block _ (lt_of_block bx2) (by simp)).trans bx2; replace hW := grown_trans hW hg; clear hg)
      | (go_at_call 16; (with_reducible refine (ratAdd_v S (HT.out.keep hW) hB.q hY.q (by omega) (by omega) (by omega) (by omega) (by omega)).mono ?_); rintro ee v6 ⟨g6, p6, n6, c6, q6, m6, d6, rfl, hN, hn6, hm6, hg⟩; replace hA := hA.keep hg; replace hB := hB.keep hg; replace hX := hX.keep hg; replace hY := hY.keep hg; replace hM := hM.keep hg; replace x0 := hg.cell x0 (by simp); replace x1 := hg.cell x1 (by simp); replace x2 := hg.cell x2 (by simp); replace x3 := hg.cell x3 (by simp); replace x4 := hg.cell x4 (by simp); replace x5 := hg.cell x5 (by simp); replace y0 := hg.cell y0 (by simp); replace y1 := hg.cell y1 (by simp); replace y2 := hg.cell y2 (by simp); replace y3 := hg.cell y3 (by simp); replace y4 := hg.cell y4 (by simp); replace y5 := hg.cell y5 (by simp); replace bx2 := (hg.block _ (lt_of_block bx2) (by simp)).trans bx2; replace hW := grown_trans hW hg; clear hg; have ff := ivbox_facts bx2; obtain ⟨⟨l0, l1, l2, l3, l4, l5⟩, f0, f1, f2, f3, f4, f5⟩ := ff))
  go_wp2_with fail
  exact bodyPost_ret (v := .agg #[.bool g5, .slice p5 n5 c5, .slice q5 m5 d5, .bool g6, .slice p6 n6 c6, .slice q6 m6 d6]) (by simp [results, Tryz.results15, go_sem, l0, l1, l2, l3, l4, l5, f0, f1, f2, f3, f4, f5]) rfl
    (WPost.close bx2 (by omega) hW hM hN ⟨by omega, by omega⟩ ⟨by omega, by omega⟩)

set_option maxRecDepth 20000 in
set_option maxHeartbeats 8000000 in
theorem ivSub_v (S : Nat) {w : World} (T : Tb w) {g1 g2 g3 g4 : Bool} {p1 q1 p2 q2 p3 q3 p4 q4 : Option Addr} {n1 c1 m1 d1 n2 c2 m2 d2 n3 c3 m3 d3 n4 c4 m4 d4 : Nat} {A B X Y : Rat} (hA : IsV w g1 p1 n1 c1 q1 m1 d1 A) (hB : IsV w g2 p2 n2 c2 q2 m2 d2 B) (hX : IsV w g3 p3 n3 c3 q3 m3 d3 X) (hY : IsV w g4 p4 n4 c4 q4 m4 d4 Y) (hn1 : n1 ≤ S) (hm1 : m1 ≤ S) (hn2 : n2 ≤ S) (hm2 : m2 ≤ S) (hn3 : n3 ≤ S) (hm3 : m3 ≤ S) (hn4 : n4 ≤ S) (hm4 : m4 ≤ S) (hS : S ≤ 8000) :
    Calls Tryz.prog 17 #[.agg #[.bool g1, .slice p1 n1 c1, .slice q1 m1 d1, .bool g2, .slice p2 n2 c2, .slice q2 m2 d2], .agg #[.bool g3, .slice p3 n3 c3, .slice q3 m3 d3, .bool g4, .slice p4 n4 c4, .slice q4 m4 d4]] w (WPost w (A - Y) (B - X) (4 * S + 20)) := by
  have HT := hid T
  clear T
  have hW := (grown_trans (grown_trans (World.grownBy_alloc w (.cells #[.bool g1, .slice p1 n1 c1, .slice q1 m1 d1, .bool g2, .slice p2 n2 c2, .slice q2 m2 d2] 29) none) (World.grownBy_alloc _ (.cells #[.bool g3, .slice p3 n3 c3, .slice q3 m3 d3, .bool g4, .slice p4 n4 c4, .slice q4 m4 d4] 29) none)) (World.grownBy_alloc _ (.cells #[.bool false, .slice none 0 0, .slice none 0 0, .bool false, .slice none 0 0, .slice none 0 0] 29) none))
  have bx0 : (((w.alloc (.cells #[.bool g1, .slice p1 n1 c1, .slice q1 m1 d1, .bool g2, .slice p2 n2 c2, .slice q2 m2 d2] 29)).alloc (.cells #[.bool g3, .slice p3 n3 c3, .slice q3 m3 d3, .bool g4, .slice p4 n4 c4, .slice q4 m4 d4] 29)).alloc (.cells #[.bool false, .slice none 0 0, .slice none 0 0, .bool false, .slice none 0 0, .slice none 0 0] 29)).heap[w.heap.size]? = some (.cells #[.bool g1, .slice p1 n1 c1, .slice q1 m1 d1, .bool g2, .slice p2 n2 c2, .slice q2 m2 d2] 29 (0, 0)) := by
    have h0 := heap_alloc_new w (.cells #[.bool g1, .slice p1 n1 c1, .slice q1 m1 d1, .bool g2, .slice p2 n2 c2, .slice q2 m2 d2] 29)
    have h1 := (grown_trans (World.grownBy_alloc (w.alloc (.cells #[.bool g1, .slice p1 n1 c1, .slice q1 m1 d1, .bool g2, .slice p2 n2 c2, .slice q2 m2 d2] 29)) (.cells #[.bool g3, .slice p3 n3 c3, .slice q3 m3 d3, .bool g4, .slice p4 n4 c4, .slice q4 m4 d4] 29) none) (World.grownBy_alloc _ (.cells #[.bool false, .slice none 0 0, .slice none 0 0, .bool false, .slice none 0 0, .slice none 0 0] 29) none)).block _ (lt_of_block h0) (by simp)
    have h2 := h1.trans h0
    simpa using h2
  have bx1 : (((w.alloc (.cells #[.bool g1, .slice p1 n1 c1, .slice q1 m1 d1, .bool g2, .slice p2 n2 c2, .slice q2 m2 d2] 29)).alloc (.cells #[.bool g3, .slice p3 n3 c3, .slice q3 m3 d3, .bool g4, .slice p4 n4 c4, .slice q4 m4 d4] 29)).alloc (.cells #[.bool false, .slice none 0 0, .slice none 0 0, .bool false, .slice none 0 0, .slice none 0 0] 29)).heap[w.heap.size + 1]? = some (.cells #[.bool g3, .slice p3 n3 c3, .slice q3 m3 d3, .bool g4, .slice p4 n4 c4, .slice q4 m4 d4] 29 (0, 0)) := by
    have h0 := heap_alloc_new (w.alloc (.cells #[.bool g1, .slice p1 n1 c1, .slice q1 m1 d1, .bool g2, .slice p2 n2 c2, .slice q2 m2 d2] 29)) (.cells #[.bool g3, .slice p3 n3 c3, .slice q3 m3 d3, .bool g4, .slice p4 n4 c4, .slice q4 m4 d4] 29)
    have h1 := (World.grownBy_alloc ((w.alloc (.cells #[.bool g1, .slice p1 n1 c1, .slice q1 m1 d1, .bool g2, .slice p2 n2 c2, .slice q2 m2 d2] 29)).alloc (.cells #[.bool g3, .slice p3 n3 c3, .slice q3 m3 d3, .bool g4, .slice p4 n4 c4, .slice q4 m4 d4] 29)) (.cells #[.bool false, .slice none 0 0, .slice none 0 0, .bool false, .slice none 0 0, .slice none 0 0] 29) none).block _ (lt_of_block h0) (by simp)
    have h2 := h1.trans h0
    simpa using h2
  have bx2 : (((w.alloc (.cells #[.bool g1, .slice p1 n1 c1, .slice q1 m1 d1, .bool g2, .slice p2 n2 c2, .slice q2 m2 d2] 29)).alloc (.cells #[.bool g3, .slice p3 n3 c3, .slice q3 m3 d3, .bool g4, .slice p4 n4 c4, .slice q4 m4 d4] 29)).alloc (.cells #[.bool false, .slice none 0 0, .slice none 0 0, .bool false, .slice none 0 0, .slice none 0 0] 29)).heap[w.heap.size + 1 + 1]? = some (.cells #[.bool false, .slice none 0 0, .slice none 0 0, .bool false, .slice none 0 0, .slice none 0 0] 29 (0, 0)) := by
    have := heap_alloc_new ((w.alloc (.cells #[.bool g1, .slice p1 n1 c1, .slice q1 m1 d1, .bool g2, .slice p2 n2 c2, .slice q2 m2 d2] 29)).alloc (.cells #[.bool g3, .slice p3 n3 c3, .slice q3 m3 d3, .bool g4, .slice p4 n4 c4, .slice q4 m4 d4] 29)) (.cells #[.bool false, .slice none 0 0, .slice none 0 0, .bool false, .slice none 0 0, .slice none 0 0] 29)
    simpa using this
  replace hA := hA.keep hW; replace hB := hB.keep hW; replace hX := hX.keep hW; replace hY := hY.keep hW
  obtain ⟨⟨x0, x1, x2, x3, x4, x5⟩, _⟩ := ivbox_facts bx0
  obtain ⟨⟨y0, y1, y2, y3, y4, y5⟩, _⟩ := ivbox_facts bx1
  clear bx0 bx1
  go_enter Tryz.func17, Tryz.ntmps17
  go_wp2_with fail
  generalize (((w.alloc (.cells #[.bool g1, .slice p1 n1 c1, .slice q1 m1 d1, .bool g2, .slice p2 n2 c2, .slice q2 m2 d2] 29)).alloc (.cells #[.bool g3, .slice p3 n3 c3, .slice q3 m3 d3, .bool g4, .slice p4 n4 c4, .slice q4 m4 d4] 29)).alloc (.cells #[.bool false, .slice none 0 0, .slice none 0 0, .bool false, .slice none 0 0, .slice none 0 0] 29)) = w0 at *
  have hg := grown_drew w0 none
  replace hA := hA.keep hg; replace hB := hB.keep hg; replace hX := hX.keep hg; replace hY := hY.keep hg
  replace x0 := hg.cell x0 (by simp); replace x1 := hg.cell x1 (by simp); replace x2 := hg.cell x2 (by simp); replace x3 := hg.cell x3 (by simp)
  replace x4 := hg.cell x4 (by simp); replace x5 := hg.cell x5 (by simp); replace y0 := hg.cell y0 (by simp); replace y1 := hg.cell y1 (by simp)
  replace y2 := hg.cell y2 (by simp); replace y3 := hg.cell y3 (by simp); replace y4 := hg.cell y4 (by simp); replace y5 := hg.cell y5 (by simp)
  replace bx2 := (hg.block _ (lt_of_block bx2) (by simp)).trans bx2; replace hW := grown_trans hW hg
  clear hg
  go_region_held3 (fun w' => w'.cell? ⟨w.heap.size, 0, none⟩ = some (.bool g1) ∧ w'.cell? ⟨w.heap.size, 1, none⟩ = some (.slice p1 n1 c1) ∧ w'.cell? ⟨w.heap.size, 2, none⟩ = some (.slice q1 m1 d1) ∧ w'.cell? ⟨w.heap.size, 3, none⟩ = some (.bool g2) ∧ w'.cell? ⟨w.heap.size, 4, none⟩ = some (.slice p2 n2 c2) ∧ w'.cell? ⟨w.heap.size, 5, none⟩ = some (.slice q2 m2 d2) ∧ w'.cell? ⟨w.heap.size + 1, 0, none⟩ = some (.bool g3) ∧ w'.cell? ⟨w.heap.size + 1, 1, none⟩ = some (.slice p3 n3 c3) ∧ w'.cell? ⟨w.heap.size + 1, 2, none⟩ = some (.slice q3 m3 d3) ∧ w'.cell? ⟨w.heap.size + 1, 3, none⟩ = some (.bool g4) ∧ w'.cell? ⟨w.heap.size + 1, 4, none⟩ = some (.slice p4 n4 c4) ∧ w'.cell? ⟨w.heap.size + 1, 5, none⟩ = some (.slice q4 m4 d4)) ((try go_split_ands) <;> (repeat' apply And.intro) <;> (repeat (first | (with_reducible assumption) | (with_reducible refine (grown_setCell _ _ _).cell ?_ (by first | (simp; omega) | simp)) | (with_reducible refine (World.grownBy_alloc _ _ none).cell ?_ (by simp)) | (with_reducible refine (grown_drew _ none).cell ?_ (by simp)))))
    (first
      | (go_at_call 18; (with_reducible refine (ratSub_v S (HT.out.keep hW) hA.q hY.q (by omega) (by omega) (by omega) (by omega) (by omega)).mono ?_); rintro ee v5 ⟨g5, p5, n5, c5, q5, m5, d5, rfl, hM, hn5, hm5, hg⟩; replace hA := hA.keep hg; replace hB := hB.keep hg; replace hX := hX.keep hg; replace hY := hY.keep hg; replace x0 := hg.cell x0 (by simp); replace x1 := hg.cell x1 (by simp); replace x2 := hg.cell x2 (by simp); replace x3 := hg.cell x3 (by simp); replace x4 := hg.cell x4 (by simp); replace x5 := hg.cell x5 (by simp); replace y0 := hg.cell y0 (by simp); replace y1 := hg.cell y1 (by simp); replace y2 := hg.cell y2 (by simp); replace y3 := hg.cell y3 (by simp); replace y4 := hg.cell y4 (by simp); replace y5 := hg.cell y5 (by simp); replace bx2 := (hg.block _ (lt_of_block bx2) (by simp)).trans bx2; replace hW := grown_trans hW hg; clear hg)
      | (go_at_call 18; (with_reducible refine (ratSub_v S (HT.out.keep hW) hB.q hX.q (by omega) (by omega) (by omega) (by omega) (by omega)).mono ?_); rintro ee v6 ⟨g6, p6, n6, c6, q6, m6, d6, rfl, hN, hn6, hm6, hg⟩; replace hA := hA.keep hg; replace hB := hB.keep hg; replace hX := hX.keep hg; replace hY := hY.keep hg; replace hM := hM.keep hg; replace x0 := hg.cell x0 (by simp); replace x1 := hg.cell x1 (by simp); replace x2 := hg.cell x2 (by simp); replace x3 := hg.cell x3 (by simp); replace x4 := hg.cell x4 (by simp); replace x5 := hg.cell x5 (by simp); replace y0 := hg.cell y0 (by simp); replace y1 := hg.cell y1 (by simp); replace y2 := hg.cell y2 (by simp); replace y3 := hg.cell y3 (by simp); replace y4 := hg.cell y4 (by simp); replace y5 := hg.cell y5 (by simp); replace bx2 := (hg.block _ (lt_of_block bx2) (by simp)).trans bx2; replace hW := grown_trans hW hg; clear hg; have ff := ivbox_facts bx2; obtain ⟨⟨l0, l1, l2, l3, l4, l5⟩, f0, f1, f2, f3, f4, f5⟩ := ff))
  go_wp2_with fail
  exact bodyPost_ret (v := .agg #[.bool g5, .slice p5 n5 c5, .slice q5 m5 d5, .bool g6, .slice p6 n6 c6, .slice q6 m6 d6]) (by simp [results, Tryz.results17, go_sem, l0, l1, l2, l3, l4, l5, f0, f1, f2, f3, f4, f5]) rfl
    (WPost.close bx2 (by omega) hW hM hN ⟨by omega, by omega⟩ ⟨by omega, by omega⟩)


end Go.Proofs.YtcjoecmkkpmjmaaGreatDoor

set_option linter.unusedVariables false
set_option linter.unusedSimpArgs false
namespace Go.Proofs.YtcjoecmkkpmjmaaGreatDoor
open Go.RowKit Nm

theorem rRt_full (S : Nat) {w : World} {g1 g2 : Bool} {p1 q1 p2 q2 : Option Addr} {n1 c1 m1 d1 n2 c2 m2 d2 : Nat} {v u : Rat} (HR1 : ∃ r : Bool, (∀ W, w.grownBy W none → Calls Tryz.prog 70 #[.agg #[.bool g1, .slice p1 n1 c1, .slice q1 m1 d1]] W fun e w' => e = .returned (.bool r) ∧ W.grownBy w' none) ∧ (r = true → IsV w g1 p1 n1 c1 q1 m1 d1 v)) (HR2 : ∃ r : Bool, (∀ W, w.grownBy W none → Calls Tryz.prog 70 #[.agg #[.bool g2, .slice p2 n2 c2, .slice q2 m2 d2]] W fun e w' => e = .returned (.bool r) ∧ W.grownBy w' none) ∧ (r = true → IsV w g2 p2 n2 c2 q2 m2 d2 u)) (hn1 : n1 ≤ S) (hm1 : m1 ≤ S) (hn2 : n2 ≤ S) (hm2 : m2 ≤ S) (hS : S ≤ 40000) :
    ∃ r : Bool, (∀ W, w.grownBy W none → Calls Tryz.prog 27 #[.agg #[.bool g1, .slice p1 n1 c1, .slice q1 m1 d1, .bool g2, .slice p2 n2 c2, .slice q2 m2 d2]] W fun e w' => e = .returned (.bool r) ∧ W.grownBy w' none) ∧ (r = true → IsV w g1 p1 n1 c1 q1 m1 d1 v ∧ IsV w g2 p2 n2 c2 q2 m2 d2 u ∧ v ≤ u) := by
  obtain ⟨r, A2, AV⟩ := HR1
  obtain ⟨s, B2, BV⟩ := HR2
  cases r
  · exact ⟨false, fun W hW => rRt_f1 (fun W' h => A2 W' (grown_trans hW h)), fun h => by cases h⟩
  cases s
  · exact ⟨false, fun W hW => rRt_f2 (fun W' h => A2 W' (grown_trans hW h)) (fun W' h => B2 W' (grown_trans hW h)), fun h => by cases h⟩
  have hV := AV rfl
  have hU := BV rfl
  by_cases hle : v ≤ u
  · exact ⟨true, fun W hW => rRt_f4 S (fun W' h => A2 W' (grown_trans hW h)) (fun W' h => B2 W' (grown_trans hW h)) (hV.keep hW).q (hU.keep hW).q hle hn1 hm1 hn2 hm2 hS, fun _ => ⟨hV, hU, hle⟩⟩
  · exact ⟨false, fun W hW => rRt_f3 S (fun W' h => A2 W' (grown_trans hW h)) (fun W' h => B2 W' (grown_trans hW h)) (hV.keep hW).q (hU.keep hW).q hle hn1 hm1 hn2 hm2 hS, fun h => by cases h⟩

/-- an interval as it lies in memory -/
structure IW where
  g1 : Bool
  p1 : Option Addr
  n1 : Nat
  c1 : Nat
  q1 : Option Addr
  m1 : Nat
  d1 : Nat
  g2 : Bool
  p2 : Option Addr
  n2 : Nat
  c2 : Nat
  q2 : Option Addr
  m2 : Nat
  d2 : Nat
abbrev IW.ok (x : IW) : Prop := x.n1 ≤ 8 ∧ x.m1 ≤ 8 ∧ x.n2 ≤ 8 ∧ x.m2 ≤ 8
def IW.at (x : IW) (w : World) (G j : Nat) : Prop := w.cell? ⟨G, j * 6, none⟩ = some (.bool x.g1) ∧ w.cell? ⟨G, j * 6 + 1, none⟩ = some (.slice x.p1 x.n1 x.c1) ∧ w.cell? ⟨G, j * 6 + 2, none⟩ = some (.slice x.q1 x.m1 x.d1) ∧ w.cell? ⟨G, j * 6 + 3, none⟩ = some (.bool x.g2) ∧ w.cell? ⟨G, j * 6 + 4, none⟩ = some (.slice x.p2 x.n2 x.c2) ∧ w.cell? ⟨G, j * 6 + 5, none⟩ = some (.slice x.q2 x.m2 x.d2)
def IW.rt (x : IW) (w : World) (r : Bool) : Prop := x.ok → ∀ W, w.grownBy W none → Calls Tryz.prog 27 #[.agg #[.bool x.g1, .slice x.p1 x.n1 x.c1, .slice x.q1 x.m1 x.d1, .bool x.g2, .slice x.p2 x.n2 x.c2, .slice x.q2 x.m2 x.d2]] W fun e w' => e = .returned (.bool r) ∧ W.grownBy w' none

set_option maxRecDepth 20000 in
set_option maxHeartbeats 4000000 in
theorem small4_any (G cp : Nat) (vs : List IW) (r : Nat → Bool) (w : World) (hn : vs.length ≤ 1000)
    (h : ∀ j (hj : j < vs.length), vs[j].at w G j ∧ vs[j].rt w (r j)) :
    Calls Tryz.prog 6 #[.slice (some ⟨G, 0, none⟩) vs.length cp] w fun e w' => e = .returned (.bool (decide (∀ j (hj : j < vs.length), vs[j].ok ∧ r j = true))) ∧ w.grownBy w' none := by
  obtain ⟨n, hnn⟩ : ∃ n, n = vs.length := ⟨_, rfl⟩
  rw [← hnn] at hn
  have H := hid h
  have HN := hid hnn
  have D := hid (fun (k : Nat) (hk : k < vs.length) (hf : ¬ (vs[k].ok ∧ r k = true)) => decide_eq_false (p := ∀ j (hj : j < vs.length), vs[j].ok ∧ r j = true) (fun hh => hf (hh k hk)))
  have E := hid (fun (hh : ∀ j (hj : j < vs.length), vs[j].ok ∧ r j = true) => decide_eq_true (p := ∀ j (hj : j < vs.length), vs[j].ok ∧ r j = true) hh)
  generalize decide (∀ j (hj : j < vs.length), vs[j].ok ∧ r j = true) = res at *
  rw [← hnn]
  clear h hnn
  go_enter Tryz.func6, Tryz.ntmps6
  go_wp2_with fail
  go_loopw [3] (fun i wr => ∃ k : Nat, k ≤ n ∧ i = .int .i64 k ∧ w.grownBy wr none ∧ Hid (∀ j (hj : j < vs.length), j < k → vs[j].ok ∧ r j = true)) (fun i _ => n - (intOf i).toNat)
  case atStart => exact ⟨0, Nat.zero_le _, rfl, grown_refl _ _, hid fun j _ h => by omega⟩
  case round =>
    obtain ⟨k, hk, rfl, hW, HK⟩ := hrel
    by_cases hlt : k < n
    · have hkv : k < vs.length := by rw [← HN.out]; exact hlt
      obtain ⟨⟨a0, a1, a2, a3, a4, a5⟩, hrt⟩ := H.out k hkv
      replace D := hid (D.out k hkv)
      obtain ⟨v, hv⟩ : ∃ v, v = vs[k] := ⟨_, rfl⟩
      obtain ⟨rk, hrk⟩ : ∃ b, b = r k := ⟨_, rfl⟩
      rw [← hv] at a0 a1 a2 a3 a4 a5 hrt D
      rw [← hrk] at hrt D
      have HRK := hid hrk
      clear hrk
      obtain ⟨g1, p1, n1, c1, q1, m1, d1, g2, p2, n2, c2, q2, m2, d2⟩ := v
      have HV := hid hv
      clear hv
      have HRT := hid hrt
      clear hrt
      simp only [] at a0 a1 a2 a3 a4 a5
      replace a0 := hW.cell a0 (by simp); replace a1 := hW.cell a1 (by simp); replace a2 := hW.cell a2 (by simp); replace a3 := hW.cell a3 (by simp); replace a4 := hW.cell a4 (by simp); replace a5 := hW.cell a5 (by simp)
      have hki : (k : Int) < (n : Int) := by omega
      by_cases h1 : n1 ≤ 8
      · have h1' : ¬ ((8 : Int) < (n1 : Int)) := by omega
        by_cases h2 : m1 ≤ 8
        · have h2' : ¬ ((8 : Int) < (m1 : Int)) := by omega
          by_cases h3 : n2 ≤ 8
          · have h3' : ¬ ((8 : Int) < (n2 : Int)) := by omega
            by_cases h4 : m2 ≤ 8
            · have h4' : ¬ ((8 : Int) < (m2 : Int)) := by omega
              have HC := hid (HRT.out ⟨h1, h2, h3, h4⟩ wr hW)
              clear HRT
              go_wp2_with fail
              refine HC.out.mono ?_
              rintro ee w2 ⟨rfl, hg⟩
              replace hW := grown_trans hW hg
              cases rk
              · go_wp2_with fail
                go_ret
                exact ⟨congrArg Ending.returned (congrArg Value.bool (Eq.symm (D.out (fun hh => by cases hh.2)))), hW⟩
              · go_wp2_with fail
                refine ⟨⟨k + 1, by omega, rfl, hW, hid fun j hj hjk => ?_⟩, by simp [intOf]; omega⟩
                by_cases e : j = k
                · subst e; rw [← HV.out]; exact ⟨⟨h1, h2, h3, h4⟩, HRK.out.symm⟩
                · exact HK.out j hj (by omega)
            · have h4' : ((8 : Int) < (m2 : Int)) := by omega
              go_wp2_with fail
              go_ret
              exact ⟨congrArg Ending.returned (congrArg Value.bool (Eq.symm (D.out (fun hh => h4 hh.1.2.2.2)))), hW⟩
          · have h3' : ((8 : Int) < (n2 : Int)) := by omega
            go_wp2_with fail
            go_ret
            exact ⟨congrArg Ending.returned (congrArg Value.bool (Eq.symm (D.out (fun hh => h3 hh.1.2.2.1)))), hW⟩
        · have h2' : ((8 : Int) < (m1 : Int)) := by omega
          go_wp2_with fail
          go_ret
          exact ⟨congrArg Ending.returned (congrArg Value.bool (Eq.symm (D.out (fun hh => h2 hh.1.2.1)))), hW⟩
      · have h1' : ((8 : Int) < (n1 : Int)) := by omega
        go_wp2_with fail
        go_ret
        exact ⟨congrArg Ending.returned (congrArg Value.bool (Eq.symm (D.out (fun hh => h1 hh.1.1)))), hW⟩
    · obtain rfl : k = n := by omega
      go_wp2_with fail
      go_ret
      exact ⟨congrArg Ending.returned (congrArg Value.bool (Eq.symm (E.out (fun j hj => HK.out j hj (by rw [HN.out]; exact hj))))), hW⟩
end Go.Proofs.YtcjoecmkkpmjmaaGreatDoor

set_option linter.unusedVariables false
set_option linter.unusedSimpArgs false
namespace Go.Proofs.YtcjoecmkkpmjmaaGreatDoor
open Go.ChangeShapes Go.WideShapes Go.ChangeAt Go.RowKit Nm

theorem readIv : Tryz.prog.readableRec 29 = true := by kernel_rfl
theorem rowIv : 29 < Tryz.prog.types.size := of_decide_eq_true (by kernel_rfl)
theorem cellsIv : Tryz.prog.cellsOf 29 = 6 := by kernel_rfl

section
variable {H : Type} {enc : TypeId × Value → H} {W : World} {v : Value} {d : DataW H} {ps : List MemPlace}
set_option maxRecDepth 100000 in
theorem open_Ratcs {fuel : Nat} {cs : List Value} {x : DataW H × List MemPlace} (hf : DataW.trod enc Tryz.prog W 0 (fun _ => true) true fuel 27 cs = some x) (hl : cs.length = 3) :
    ∃ g a n c xs b m e ys, cs = [.bool g, .slice a n c, .slice b m e] ∧ IRd W .u16 a n c xs ∧ Dg 65536 xs ∧ IRd W .u16 b m e ys ∧ Dg 65536 ys := by
  obtain ⟨y0, y1, k, hx, _, h0, h1⟩ := trod_struct2 Tryz.underlying27 hf
  rw [cellsInt] at h0
  match cs, hl with
  | [u, v, t], _ =>
    obtain ⟨g, a, n, c, xs, hs, hr, hd⟩ := open_Intcs h0 (by simp)
    obtain ⟨b, m, e, ys, hs1, hr1, hd1⟩ := open_natcs h1
    rw [cellsNat] at hs1
    simp at hs hs1
    refine ⟨g, a, n, c, xs, b, m, e, ys, ?_, hr, hd, hr1, hd1⟩
    obtain ⟨rfl, rfl⟩ := hs
    rw [hs1]

set_option maxRecDepth 100000 in
theorem open_Iv (hval : Value.okWide Tryz.prog W .any 0 29 v) (h0 : DataW.Trod enc Tryz.prog W 0 (fun _ => true) true 29 v d ps) :
    ∃ g a n c xs b m e ys g2 a2 n2 c2 xs2 b2 m2 e2 ys2, v = .agg #[.bool g, .slice a n c, .slice b m e, .bool g2, .slice a2 n2 c2, .slice b2 m2 e2] ∧ IRd W .u16 a n c xs ∧ Dg 65536 xs ∧ IRd W .u16 b m e ys ∧ Dg 65536 ys ∧ IRd W .u16 a2 n2 c2 xs2 ∧ Dg 65536 xs2 ∧ IRd W .u16 b2 m2 e2 ys2 ∧ Dg 65536 ys2 := by
  obtain ⟨cs, rfl, hsz⟩ := okWide_struct Tryz.underlying29 hval
  obtain ⟨fuel, hf⟩ := h0
  obtain ⟨y0, y1, k, hx, hl, h0, h1⟩ := trod_struct2 Tryz.underlying29 hf
  rw [cellsIv] at hl
  rw [cellsRat] at h0 h1
  simp only [Value.cells] at hl h0 h1
  obtain ⟨l⟩ := cs
  match l, hl with
  | [u, v, t, u2, v2, t2], _ =>
    obtain ⟨g, a, n, c, xs, b, m, e, ys, hs, hr, hd, hr1, hd1⟩ := open_Ratcs h0 (by simp)
    obtain ⟨g2, a2, n2, c2, xs2, b2, m2, e2, ys2, hs2, hr2, hd2, hr3, hd3⟩ := open_Ratcs h1 (by simp)
    simp at hs hs2
    refine ⟨g, a, n, c, xs, b, m, e, ys, g2, a2, n2, c2, xs2, b2, m2, e2, ys2, ?_, hr, hd, hr1, hd1, hr2, hd2, hr3, hd3⟩
    obtain ⟨rfl, rfl, rfl⟩ := hs
    obtain ⟨rfl, rfl, rfl⟩ := hs2
    rfl
end
end Go.Proofs.YtcjoecmkkpmjmaaGreatDoor
