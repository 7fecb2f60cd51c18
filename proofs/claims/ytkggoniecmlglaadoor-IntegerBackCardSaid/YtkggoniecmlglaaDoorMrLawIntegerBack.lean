/-
  Whatever the arguments are, the Go function IntegerBack returns true and leaves them as they are. Condition: the tables of packages math/bits and internal/strconv, and the two errors of strconv, hold what the program's text lays (the card ties them).
-/
import Derived.Test.YtkggoniecmlglaaDoorMrI
import Derived.Test.YtkggoniecmlglaaDoorMrT
import Derived.Test.YtkggoniecmlglaaDoorTiedK
import Derived.ChangeMaps5
import Derived.Deep.RegionHeld3
import Derived.Deep.DeepCutAuto

set_option linter.unusedVariables false
set_option linter.unusedSimpArgs false
namespace Go.Proofs.YtkggoniecmlglaaDoor
open Go.RowKit _root_.Nm

/-- what a division by 0 returns -/
def DmIE (w : World) (e : Ending) (w' : World) : Prop := e = .returned (.tuple #[.agg #[.bool false, .slice none 0 0], .agg #[.bool false, .slice none 0 0], .int .i64 3]) ∧ w.grownBy w' none
theorem DmIE.close {w W w5 : World} {G G2 : Nat} (hg3 : w.grownBy W none) (hG : w.heap.size ≤ G) (hG2 : w.heap.size ≤ G2) (hg35 : W.grownBy w5 none) (a b c d : Value) :
    DmIE w (.returned (.tuple #[.agg #[.bool false, .slice none 0 0], .agg #[.bool false, .slice none 0 0], .int .i64 3])) ((((w5.setCell ⟨G, 0, none⟩ a).setCell ⟨G, 1, none⟩ b).setCell ⟨G2, 0, none⟩ c).setCell ⟨G2, 1, none⟩ d) := by
  have h := grown_trans hg3 hg35
  have h1 : w.grownBy ((w5.setCell ⟨G, 0, none⟩ a).setCell ⟨G, 1, none⟩ b) none := grown_new h (grown_trans (grown_setCell w5 ⟨G, 0, none⟩ a) (grown_setCell _ ⟨G, 1, none⟩ b)) (fun g e => by cases e; exact hG)
  exact ⟨rfl, grown_new h1 (grown_trans (grown_setCell _ ⟨G2, 0, none⟩ c) (grown_setCell _ ⟨G2, 1, none⟩ d)) (fun g e => by cases e; exact hG2)⟩
theorem intDivMod_e {w : World} {ga gb : Bool} {p q : Option Addr} {n m c d N : Nat} (hA : IsN w p n c N) (hB : IsN w q m d 0) (hn : n ≤ 300000) (hm : m ≤ 300000) :
    Calls Tryd.prog 28 #[.agg #[.bool ga, .slice p n c], .agg #[.bool gb, .slice q m d]] w (DmIE w) := by
  have hg4 := grown_trans (grown_trans (grown_trans (World.grownBy_alloc w (.cells #[.bool ga, .slice p n c] 41) none) (World.grownBy_alloc _ (.cells #[.bool gb, .slice q m d] 41) none)) (World.grownBy_alloc _ (.cells #[.bool false, .slice none 0 0] 41) none)) (World.grownBy_alloc _ (.cells #[.bool false, .slice none 0 0] 41) none)
  have HD := hid (natDivMod_e (hA.keep hg4) (hB.keep hg4))
  go_enter Tryd.func28, Tryd.ntmps28
  go_wp2_with fail
  refine HD.out.mono ?_
  rintro e w1 ⟨rfl, hg⟩
  have hc := gcell hg
  have hf := gfree hg
  have hz := hg.size
  simp at hz
  go_wp2_with fail
  exact bodyPost_ret (v := .tuple #[.agg #[.bool false, .slice none 0 0], .agg #[.bool false, .slice none 0 0], .int .i64 3]) (by simp [results, Tryd.results28, go_sem, hc]) rfl
    (DmIE.close hg4 (by omega) (by omega) hg _ _ _ _)

theorem natDivMod_p {w : World} {p q : Option Addr} {n m c d N M : Nat} (hA : IsN w p n c N) (hB : IsN w q m d M) (hn : n ≤ 800000) (hm : m ≤ 800000) (hpos : 0 < M) :
    Calls Tryd.prog 33 #[.slice p n c, .slice q m d] w (DmPost w N M) := by
  obtain ⟨L, h1, h2, rfl⟩ := hA
  obtain ⟨K, k1, k2, rfl⟩ := hB
  exact natDivMod_any p q n m c d L K w h1 k1 h2 k2 hn hm hpos

theorem rZ_lt (ga : Bool) (N M : Nat) (hM : 0 < M) : rZ ga N M < M := by
  have := Nat.mod_lt N hM
  unfold rZ
  split <;> omega
theorem qr_eq (ga gb : Bool) (N M : Nat) (hM : 0 < M) : qZ ga gb N M * sg gb M + (rZ ga N M : Nat) = sg ga N := by
  have h := Nat.div_add_mod N M
  have h2 := Nat.mod_lt N hM
  have hz : ((M : Int) * ((N / M : Nat) : Int)) + ((N % M : Nat) : Int) = (N : Int) := by exact_mod_cast h
  unfold qZ rZ
  generalize hq : N / M = q at *
  generalize hr : N % M = r at *
  have hc : ((q : Int) * (M : Int)) = (M : Int) * (q : Int) := Int.mul_comm _ _
  by_cases hg : ga = true ∧ 0 < r
  · rw [if_pos hg, if_pos hg]
    obtain ⟨rfl, hr0⟩ := hg
    have hs : ((M - r : Nat) : Int) = (M : Int) - (r : Int) := by omega
    cases gb <;> simp [sg, Int.neg_mul, Int.mul_neg, Int.add_mul, hs] <;> omega
  · rw [if_neg hg, if_neg hg]
    cases ga
    · cases gb <;> simp [sg, Int.neg_mul, Int.mul_neg] <;> omega
    · have hr0 : r = 0 := by
        rcases Nat.eq_zero_or_pos r with h0 | h0
        · exact h0
        · exact absurd ⟨rfl, h0⟩ hg
      subst hr0
      cases gb <;> simp [sg, Int.neg_mul, Int.mul_neg] <;> omega
end Go.Proofs.YtkggoniecmlglaaDoor

set_option linter.unusedVariables false
set_option linter.unusedSimpArgs false
namespace Go.Proofs.YtkggoniecmlglaaDoor
open Go.ChangeShapes Go.WideShapes Go.ChangeAt Go.RowKit _root_.Nm
open Go Go.ChangeMaps

theorem small2_two (ga gb : Bool) (a b : Option Addr) (n c m d : Nat) (w : World) (G : Nat) (hG : G = w.heap.size) :
    Calls Tryd.prog 20 #[.slice (some ⟨G, 0, none⟩) 2 2] (w.alloc (.cells #[.bool ga, .slice a n c, .bool gb, .slice b m d] 41)) fun e w' =>
      e = .returned (.bool (decide (n ≤ 24 ∧ m ≤ 24))) ∧ w.grownBy w' none := by
  subst hG
  have := small2_any w.heap.size 2 [(a, n, c), (b, m, d)] (w.alloc (.cells #[.bool ga, .slice a n c, .bool gb, .slice b m d] 41)) (by simp) (fun j hj => by
    match j, hj with
    | 0, _ => simp
    | 1, _ => simp)
  refine this.mono fun e w' ⟨h1, h2⟩ => ⟨by simpa using h1, h2 ▸ World.grownBy_alloc w _ none⟩
theorem ibox_facts {w : World} {G : Nat} {x : Bool} {y : Option Addr} {a b : Nat} {T : TypeId} (hb : w.heap[G]? = some (.cells #[.bool x, .slice y a b] T (0, 0))) :
    w.cell? ⟨G, 0, none⟩ = some (.bool x) ∧ w.cell? ⟨G, 1, none⟩ = some (.slice y a b) ∧ w.frozen? ⟨G, 0, none⟩ = false ∧ w.frozen? ⟨G, 1, none⟩ = false := by
  have k0 := cell_of_row w G 0 _ _ _ hb
  have k1 := cell_of_row w G 1 _ _ _ hb
  simp at k0 k1
  exact ⟨k0, k1, frozen_of_row w G 0 _ _ hb, frozen_of_row w G 1 _ _ hb⟩

theorem dec_ne (N : Nat) : Lib.decDigits N ≠ [] := by
  obtain ⟨_, _, c, r, e, _⟩ := dec_spec N
  rw [e]; simp
theorem dec_len {N n : Nat} (h : N < 65536 ^ n) (hn : n ≤ 100) : (Lib.decDigits N).length ≤ 1000 := by
  have := dec_limbs h; omega
theorem rdE_dec {N n : Nat} (h : N < 65536 ^ n) (hn : n ≤ 100) : rdE (Lib.decDigits N) = 0 := rdE_ok (dec_ne N) (dec_len h hn) (dec_numl N)
theorem rdV_dec {N n : Nat} (h : N < 65536 ^ n) (hn : n ≤ 100) : rdV (Lib.decDigits N) = N := by rw [rdV_ok (rdE_dec h hn), dec_num]
theorem dec_head (N : Nat) : (Lib.decDigits N).head? ≠ some 45 := by
  obtain ⟨h1, _, c, r, e, _⟩ := dec_spec N
  rw [e]
  intro h
  simp only [List.head?_cons, Option.some.injEq] at h
  have := h1 c (by rw [e]; simp)
  rw [h] at this
  exact absurd this.1 (by decide)
theorem ri_itx {Z : Int} {n : Nat} (h : Z.natAbs < 65536 ^ n) (hn : n ≤ 100) : riE (itx Z) = 0 ∧ riV (itx Z) = Z := by
  by_cases hz : Z < 0
  · have ht : riT (itx Z) = Lib.decDigits Z.natAbs := by rw [itx_neg hz]; rfl
    have hh : (itx Z).head? = some 45 := by rw [itx_neg hz]; rfl
    have hE : riE (itx Z) = 0 := by
      unfold riE
      rw [ht, rdE_dec h hn, rdV_dec h hn, if_neg (by simp), if_neg (by omega)]
    refine ⟨hE, ?_⟩
    unfold riV
    rw [if_pos hE, ht, rdV_dec h hn, decide_eq_true hh]
    simp [sg]; omega
  · have hh : (itx Z).head? ≠ some 45 := by rw [itx_pos hz]; exact dec_head _
    have ht : riT (itx Z) = Lib.decDigits Z.natAbs := by unfold riT; rw [if_neg hh, itx_pos hz]
    have hE : riE (itx Z) = 0 := by
      unfold riE
      rw [ht, rdE_dec h hn, if_neg (by simp), if_neg (fun g => hh g.1)]
    refine ⟨hE, ?_⟩
    unfold riV
    rw [if_pos hE, ht, rdV_dec h hn, decide_eq_false hh]
    simp [sg]; omega
theorem itx_len {Z : Int} {n : Nat} (h : Z.natAbs < 65536 ^ n) (hn : n ≤ 100) : (itx Z).length ≤ 1001 := by
  have := dec_len h hn
  by_cases hz : Z < 0
  · rw [itx_neg hz]; simp; omega
  · rw [itx_pos hz]; omega
/-- reading a text back -/
theorem iread_back {Z : Int} {n : Nat} (h : Z.natAbs < 65536 ^ n) (hn : n ≤ 100) (w : World) :
    Calls Tryd.prog 22 #[str (itx Z)] w fun e w' => ∃ g p k c, e = .returned (.tuple #[.agg #[.bool g, .slice p k c], .int .i64 0]) ∧ IsI w' g p k c Z ∧ k ≤ n ∧ w.grownBy w' none :=
  (intRead_any ⟨(itx Z).toArray⟩ _ rfl (by have := itx_len h hn; rw [Lib.size_eq]; show (itx Z).length ≤ _; omega) w).mono fun e w' ⟨g, p, k, c, he, hC, hk, hg⟩ => by
    obtain ⟨e1, e2⟩ := ri_itx h hn
    rw [show (⟨(itx Z).toArray⟩ : ByteArray).data.toList = itx Z from rfl, e2] at hC
    rw [show (⟨(itx Z).toArray⟩ : ByteArray).data.toList = itx Z from rfl, e1] at he
    exact ⟨g, p, k, c, he, hC, hC.1.len_le h, hg⟩
theorem isI_abs {w : World} {g : Bool} {p : Option Addr} {n c : Nat} {Z : Int} (h : IsI w g p n c Z) : IsI w false p n c (Z.natAbs : Int) := ⟨by simpa using h.1, by simp⟩
theorem two_new (w : World) (T : TypeId) (g h : Bool) (p q : Option Addr) (n c m d : Nat) :
    ((w.alloc (.cells #[.bool g, .slice p n c] T)).alloc (.cells #[.bool h, .slice q m d] T)).cell? ⟨w.heap.size, 0, none⟩ = some (.bool g) ∧
    ((w.alloc (.cells #[.bool g, .slice p n c] T)).alloc (.cells #[.bool h, .slice q m d] T)).cell? ⟨w.heap.size, 1, none⟩ = some (.slice p n c) ∧
    ((w.alloc (.cells #[.bool g, .slice p n c] T)).alloc (.cells #[.bool h, .slice q m d] T)).cell? ⟨w.heap.size + 1, 0, none⟩ = some (.bool h) ∧
    ((w.alloc (.cells #[.bool g, .slice p n c] T)).alloc (.cells #[.bool h, .slice q m d] T)).cell? ⟨w.heap.size + 1, 1, none⟩ = some (.slice q m d) ∧
    w.grownBy ((w.alloc (.cells #[.bool g, .slice p n c] T)).alloc (.cells #[.bool h, .slice q m d] T)) none := by
  have h1 : (w.alloc (.cells #[.bool g, .slice p n c] T)).heap[w.heap.size]? = some (.cells #[.bool g, .slice p n c] T (0, 0)) := heap_alloc_new w _
  have h2 : ((w.alloc (.cells #[.bool g, .slice p n c] T)).alloc (.cells #[.bool h, .slice q m d] T)).heap[w.heap.size + 1]? = some (.cells #[.bool h, .slice q m d] T (0, 0)) := by
    have := heap_alloc_new (w.alloc (.cells #[.bool g, .slice p n c] T)) (.cells #[.bool h, .slice q m d] T)
    simpa using this
  have hg2 := World.grownBy_alloc (w.alloc (.cells #[.bool g, .slice p n c] T)) (.cells #[.bool h, .slice q m d] T) none
  have h3 := (hg2.block w.heap.size (by simp) (by simp)).trans h1
  refine ⟨?_, ?_, ?_, ?_, grown_trans (World.grownBy_alloc w _ none) hg2⟩
  · rw [cell_of_row _ _ 0 _ _ _ h3]; rfl
  · rw [cell_of_row _ _ 1 _ _ _ h3]; rfl
  · rw [cell_of_row _ _ 0 _ _ _ h2]; rfl
  · rw [cell_of_row _ _ 1 _ _ _ h2]; rfl

set_option maxRecDepth 100000 in
set_option maxHeartbeats 16000000 in
theorem integerBack_walk (ga gb : Bool) (a b : Option Addr) (n c m d : Nat) (A B : Int) (w : World) (T : Tp w) (hA : IsZ w ga a n c A) (hB : IsZ w gb b m d B) :
    Calls Tryd.prog 6 #[.agg #[.bool ga, .slice a n c], .agg #[.bool gb, .slice b m d]] w fun e w' => e = .returned (.bool true) ∧ w.grownBy w' none := by
  have hW3 := grown_trans (World.grownBy_alloc w (.cells #[.bool ga, .slice a n c] 41) none) (World.grownBy_alloc _ (.cells #[.bool gb, .slice b m d] 41) none)
  have HS := hid (small2_two ga gb a b n c m d ((w.alloc (.cells #[.bool ga, .slice a n c] 41)).alloc (.cells #[.bool gb, .slice b m d] 41)) (w.heap.size + 1 + 1) (by simp))
  by_cases h24 : n ≤ 24 ∧ m ≤ 24
  rotate_left
  · rw [decide_eq_false h24] at HS
    go_enter Tryd.func6, Tryd.ntmps6
    go_wp2_with fail
    refine HS.out.mono ?_
    rintro e w0 ⟨rfl, hg⟩
    replace hW := grown_trans hW3 hg
    go_wp2_with fail
    refine (alive2 _).mono ?_
    rintro e w1 ⟨rfl, hg⟩
    go_wp2_with fail
    go_ret
    exact ⟨rfl, grown_trans hW hg⟩
  rw [decide_eq_true h24] at HS
  obtain ⟨hn, hm⟩ := h24
  have hA65 := hA.1.lt
  have H65 := hid (Nat.lt_of_lt_of_le hA65 (Nat.pow_le_pow_right (n := 65536) (by omega) hn))
  clear hA65
  by_cases hB0 : B = 0
  · subst hB0
    have HB0 := hid (cmpI_eq 0)
    go_enter Tryd.func6, Tryd.ntmps6
    go_wp2_with fail
    refine HS.out.mono ?_
    rintro e w0 ⟨rfl, hg⟩
    have x0 : w0.cell? ⟨w.heap.size, 0, none⟩ = some (.bool ga) := hg.cell (by simp [go_sem, World.cell?_alloc_past]) (by simp)
    have x1 : w0.cell? ⟨w.heap.size, 1, none⟩ = some (.slice a n c) := hg.cell (by simp [go_sem, World.cell?_alloc_past]) (by simp)
    have x2 : w0.cell? ⟨w.heap.size + 1, 0, none⟩ = some (.bool gb) := hg.cell (by simp [go_sem, World.cell?_alloc_past]) (by simp)
    have x3 : w0.cell? ⟨w.heap.size + 1, 1, none⟩ = some (.slice b m d) := hg.cell (by simp [go_sem, World.cell?_alloc_past]) (by simp)
    replace hg := grown_trans hW3 hg
    replace hA := hA.keep hg; replace hB := hB.keep hg; replace T := tp_keep T hg
    have hW := hg
    clear hg HS hW3
    go_wp2_with fail
    refine (intText_n hA (by omega) T).mono ?_
    rintro e v1 ⟨rfl, hg⟩
    replace T := tp_keep T hg; replace hA := hA.keep hg; replace hB := hB.keep hg; replace x0 := hg.cell x0 (by simp); replace x1 := hg.cell x1 (by simp); replace x2 := hg.cell x2 (by simp); replace x3 := hg.cell x3 (by simp); replace hW := grown_trans hW hg; clear hg
    go_wp2_with fail
    refine (iread_back H65.out (by omega) _).mono ?_
    rintro e v2 ⟨g1, p1, n1, c1, rfl, h1, hn1, hg⟩
    replace T := tp_keep T hg; replace hA := hA.keep hg; replace hB := hB.keep hg; replace x0 := hg.cell x0 (by simp); replace x1 := hg.cell x1 (by simp); replace x2 := hg.cell x2 (by simp); replace x3 := hg.cell x3 (by simp); replace hW := grown_trans hW hg; clear hg
    have hg := World.grownBy_alloc v2 (.cells #[.bool g1, .slice p1 n1 c1] 41) none
    have hb := heap_alloc_new v2 (.cells #[.bool g1, .slice p1 n1 c1] 41)
    replace T := tp_keep T hg; replace hA := hA.keep hg; replace hB := hB.keep hg; replace h1 := h1.keep hg; replace x0 := hg.cell x0 (by simp); replace x1 := hg.cell x1 (by simp); replace x2 := hg.cell x2 (by simp); replace x3 := hg.cell x3 (by simp); replace hW := grown_trans hW hg; clear hg
    obtain ⟨y0, y1, yf0, yf1⟩ := ibox_facts hb
    clear hb
    go_wp2_with fail
    generalize v2.alloc (.cells #[.bool g1, .slice p1 n1 c1] 41) = uy at *
    generalize v2.heap.size = Ky at *
    have hg := grown_drew uy none
    replace T := tp_keep T hg; replace hA := hA.keep hg; replace hB := hB.keep hg; replace h1 := h1.keep hg; replace x0 := hg.cell x0 (by simp); replace x1 := hg.cell x1 (by simp); replace x2 := hg.cell x2 (by simp); replace x3 := hg.cell x3 (by simp); replace y0 := hg.cell y0 (by simp); replace y1 := hg.cell y1 (by simp); replace hW := grown_trans hW hg; clear hg
    go_region_held3 (fun w' => w'.cell? ⟨w.heap.size, 0, none⟩ = some (.bool ga) ∧ w'.cell? ⟨w.heap.size, 1, none⟩ = some (.slice a n c) ∧ w'.cell? ⟨w.heap.size + 1, 0, none⟩ = some (.bool gb) ∧ w'.cell? ⟨w.heap.size + 1, 1, none⟩ = some (.slice b m d) ∧ w'.cell? ⟨Ky, 0, none⟩ = some (.bool g1) ∧ w'.cell? ⟨Ky, 1, none⟩ = some (.slice p1 n1 c1)) ((try go_split_ands) <;> (repeat' apply And.intro) <;> (repeat (first | (with_reducible assumption) | (with_reducible refine (grown_setCell _ _ _).cell ?_ (by simp; omega)) | (with_reducible refine (World.grownBy_alloc _ _ none).cell ?_ (by simp)) | (with_reducible refine (grown_drew _ none).cell ?_ (by simp)))))
      (first
        | (go_at_call 27; (with_reducible refine (intNorm_any hA (by omega)).mono ?_); rintro e v3 ⟨g2, p2, n2, c2, rfl, hN, hn2, hg⟩; replace T := tp_keep T hg; replace hA := hA.keep hg; replace hB := hB.keep hg; replace h1 := h1.keep hg; replace x0 := hg.cell x0 (by simp); replace x1 := hg.cell x1 (by simp); replace x2 := hg.cell x2 (by simp); replace x3 := hg.cell x3 (by simp); replace y0 := hg.cell y0 (by simp); replace y1 := hg.cell y1 (by simp); replace hW := grown_trans hW hg; clear hg)
        | (go_at_call 26; (with_reducible refine (same2_any h1 hN rfl).mono ?_); rintro e v4 ⟨rfl, hg⟩; replace T := tp_keep T hg; replace hA := hA.keep hg; replace hB := hB.keep hg; replace h1 := h1.keep hg; replace hN := hN.keep hg; replace x0 := hg.cell x0 (by simp); replace x1 := hg.cell x1 (by simp); replace x2 := hg.cell x2 (by simp); replace x3 := hg.cell x3 (by simp); replace y0 := hg.cell y0 (by simp); replace y1 := hg.cell y1 (by simp); replace hW := grown_trans hW hg; clear hg))
    go_wp2_with fail
    refine (intDivMod_e hA.1 hB.1 (by omega) (by omega)).mono ?_
    rintro e v5 ⟨rfl, hg⟩
    replace T := tp_keep T hg; replace hA := hA.keep hg; replace hB := hB.keep hg; replace h1 := h1.keep hg; replace hN := hN.keep hg; replace x0 := hg.cell x0 (by simp); replace x1 := hg.cell x1 (by simp); replace x2 := hg.cell x2 (by simp); replace x3 := hg.cell x3 (by simp); replace y0 := hg.cell y0 (by simp); replace y1 := hg.cell y1 (by simp); replace hW := grown_trans hW hg; clear hg
    obtain ⟨q0, q1, r0, r1, hg⟩ := two_new v5 41 false false none none 0 0 0 0
    replace T := tp_keep T hg; replace hA := hA.keep hg; replace hB := hB.keep hg; replace h1 := h1.keep hg; replace hN := hN.keep hg; replace x0 := hg.cell x0 (by simp); replace x1 := hg.cell x1 (by simp); replace x2 := hg.cell x2 (by simp); replace x3 := hg.cell x3 (by simp); replace y0 := hg.cell y0 (by simp); replace y1 := hg.cell y1 (by simp); replace hW := grown_trans hW hg; clear hg
    go_wp2_with fail
    generalize (v5.alloc (.cells #[.bool false, .slice none 0 0] 41)).alloc (.cells #[.bool false, .slice none 0 0] 41) = uq at *
    generalize v5.heap.size = Kq at *
    refine (intSign_any hB (by omega)).mono ?_
    rintro e v6 ⟨rfl, hg⟩
    rw [HB0.out]
    replace T := tp_keep T hg; replace hA := hA.keep hg; replace hB := hB.keep hg; replace h1 := h1.keep hg; replace hN := hN.keep hg; replace x0 := hg.cell x0 (by simp); replace x1 := hg.cell x1 (by simp); replace x2 := hg.cell x2 (by simp); replace x3 := hg.cell x3 (by simp); replace y0 := hg.cell y0 (by simp); replace y1 := hg.cell y1 (by simp); replace q0 := hg.cell q0 (by simp); replace q1 := hg.cell q1 (by simp); replace r0 := hg.cell r0 (by simp); replace r1 := hg.cell r1 (by simp); replace hW := grown_trans hW hg; clear hg
    go_wp2_with fail
    refine (alive2 _).mono ?_
    rintro e w1 ⟨rfl, hg⟩
    go_wp2_with fail
    go_ret
    exact ⟨rfl, grown_trans hW hg⟩
  have hM0 : 0 < B.natAbs := by omega
  have HM := hid hM0
  have hq := qr_eq ga gb A.natAbs B.natAbs hM0
  have hr := rZ_lt ga A.natAbs B.natAbs hM0
  rw [sg_z hA, sg_z hB] at hq
  obtain ⟨Q, hQe⟩ : ∃ Q, qZ ga gb A.natAbs B.natAbs = Q := ⟨_, rfl⟩
  obtain ⟨R, hRe⟩ : ∃ R, rZ ga A.natAbs B.natAbs = R := ⟨_, rfl⟩
  have HQE := hid hQe
  have HRE := hid hRe
  rw [hQe, hRe] at hq
  rw [hRe] at hr
  have HEQ := hid hq
  obtain ⟨sb, hsb, hsbe⟩ : ∃ sb : Int, (sb == 0) = false ∧ cmpI B 0 = sb := by
    rcases Int.lt_or_gt_of_ne hB0 with h | h
    · exact ⟨-1, by decide, if_pos h⟩
    · exact ⟨1, by decide, by unfold cmpI; rw [if_neg (by omega), if_pos (by omega)]⟩
  have HSB := hid hsbe
  obtain ⟨sr, hsr, hsre⟩ : ∃ sr : Int, 0 ≤ sr ∧ cmpI (R : Int) 0 = sr := ⟨_, by
    unfold cmpI
    rw [if_neg (by omega)]
    split <;> omega, rfl⟩
  have HSR := hid hsre
  have HCM : Hid (cmpI (R : Int) (B.natAbs : Int) = -1) := hid (if_pos (by omega))
  clear hq hr hQe hRe hsbe hsre hM0 hB0
  go_enter Tryd.func6, Tryd.ntmps6
  go_wp2_with fail
  refine HS.out.mono ?_
  rintro e w0 ⟨rfl, hg⟩
  have x0 : w0.cell? ⟨w.heap.size, 0, none⟩ = some (.bool ga) := hg.cell (by simp [go_sem, World.cell?_alloc_past]) (by simp)
  have x1 : w0.cell? ⟨w.heap.size, 1, none⟩ = some (.slice a n c) := hg.cell (by simp [go_sem, World.cell?_alloc_past]) (by simp)
  have x2 : w0.cell? ⟨w.heap.size + 1, 0, none⟩ = some (.bool gb) := hg.cell (by simp [go_sem, World.cell?_alloc_past]) (by simp)
  have x3 : w0.cell? ⟨w.heap.size + 1, 1, none⟩ = some (.slice b m d) := hg.cell (by simp [go_sem, World.cell?_alloc_past]) (by simp)
  replace hg := grown_trans hW3 hg
  replace hA := hA.keep hg; replace hB := hB.keep hg; replace T := tp_keep T hg
  have hW := hg
  clear hg HS hW3
  go_wp2_with fail
  refine (intText_n hA (by omega) T).mono ?_
  rintro e v1 ⟨rfl, hg⟩
  replace T := tp_keep T hg; replace hA := hA.keep hg; replace hB := hB.keep hg; replace x0 := hg.cell x0 (by simp); replace x1 := hg.cell x1 (by simp); replace x2 := hg.cell x2 (by simp); replace x3 := hg.cell x3 (by simp); replace hW := grown_trans hW hg; clear hg
  go_wp2_with fail
  refine (iread_back H65.out (by omega) _).mono ?_
  rintro e v2 ⟨g1, p1, n1, c1, rfl, h1, hn1, hg⟩
  replace T := tp_keep T hg; replace hA := hA.keep hg; replace hB := hB.keep hg; replace x0 := hg.cell x0 (by simp); replace x1 := hg.cell x1 (by simp); replace x2 := hg.cell x2 (by simp); replace x3 := hg.cell x3 (by simp); replace hW := grown_trans hW hg; clear hg
  have hg := World.grownBy_alloc v2 (.cells #[.bool g1, .slice p1 n1 c1] 41) none
  have hb := heap_alloc_new v2 (.cells #[.bool g1, .slice p1 n1 c1] 41)
  replace T := tp_keep T hg; replace hA := hA.keep hg; replace hB := hB.keep hg; replace h1 := h1.keep hg; replace x0 := hg.cell x0 (by simp); replace x1 := hg.cell x1 (by simp); replace x2 := hg.cell x2 (by simp); replace x3 := hg.cell x3 (by simp); replace hW := grown_trans hW hg; clear hg
  obtain ⟨y0, y1, yf0, yf1⟩ := ibox_facts hb
  clear hb
  go_wp2_with fail
  generalize v2.alloc (.cells #[.bool g1, .slice p1 n1 c1] 41) = uy at *
  generalize v2.heap.size = Ky at *
  have hg := grown_drew uy none
  replace T := tp_keep T hg; replace hA := hA.keep hg; replace hB := hB.keep hg; replace h1 := h1.keep hg; replace x0 := hg.cell x0 (by simp); replace x1 := hg.cell x1 (by simp); replace x2 := hg.cell x2 (by simp); replace x3 := hg.cell x3 (by simp); replace y0 := hg.cell y0 (by simp); replace y1 := hg.cell y1 (by simp); replace hW := grown_trans hW hg; clear hg
  go_region_held3 (fun w' => w'.cell? ⟨w.heap.size, 0, none⟩ = some (.bool ga) ∧ w'.cell? ⟨w.heap.size, 1, none⟩ = some (.slice a n c) ∧ w'.cell? ⟨w.heap.size + 1, 0, none⟩ = some (.bool gb) ∧ w'.cell? ⟨w.heap.size + 1, 1, none⟩ = some (.slice b m d) ∧ w'.cell? ⟨Ky, 0, none⟩ = some (.bool g1) ∧ w'.cell? ⟨Ky, 1, none⟩ = some (.slice p1 n1 c1)) ((try go_split_ands) <;> (repeat' apply And.intro) <;> (repeat (first | (with_reducible assumption) | (with_reducible refine (grown_setCell _ _ _).cell ?_ (by simp; omega)) | (with_reducible refine (World.grownBy_alloc _ _ none).cell ?_ (by simp)) | (with_reducible refine (grown_drew _ none).cell ?_ (by simp)))))
    (first
      | (go_at_call 27; (with_reducible refine (intNorm_any hA (by omega)).mono ?_); rintro e v3 ⟨g2, p2, n2, c2, rfl, hN, hn2, hg⟩; replace T := tp_keep T hg; replace hA := hA.keep hg; replace hB := hB.keep hg; replace h1 := h1.keep hg; replace x0 := hg.cell x0 (by simp); replace x1 := hg.cell x1 (by simp); replace x2 := hg.cell x2 (by simp); replace x3 := hg.cell x3 (by simp); replace y0 := hg.cell y0 (by simp); replace y1 := hg.cell y1 (by simp); replace hW := grown_trans hW hg; clear hg)
      | (go_at_call 26; (with_reducible refine (same2_any h1 hN rfl).mono ?_); rintro e v4 ⟨rfl, hg⟩; replace T := tp_keep T hg; replace hA := hA.keep hg; replace hB := hB.keep hg; replace h1 := h1.keep hg; replace hN := hN.keep hg; replace x0 := hg.cell x0 (by simp); replace x1 := hg.cell x1 (by simp); replace x2 := hg.cell x2 (by simp); replace x3 := hg.cell x3 (by simp); replace y0 := hg.cell y0 (by simp); replace y1 := hg.cell y1 (by simp); replace hW := grown_trans hW hg; clear hg))
  go_wp2_with fail
  refine (intDivMod_any (ga := ga) (gb := gb) hA.1 hB.1 HM.out (by omega) (by omega) (fun W h => natDivMod_p (hA.1.keep h) (hB.1.keep h) (by omega) (by omega) HM.out)).mono ?_
  rintro e v5 ⟨gq, pq, nq, cq, gr, pr, nr, cr, rfl, hQ, hR, hnq, hnr, hg⟩
  rw [HQE.out] at hQ
  rw [HRE.out] at hR
  replace T := tp_keep T hg; replace hA := hA.keep hg; replace hB := hB.keep hg; replace h1 := h1.keep hg; replace hN := hN.keep hg; replace x0 := hg.cell x0 (by simp); replace x1 := hg.cell x1 (by simp); replace x2 := hg.cell x2 (by simp); replace x3 := hg.cell x3 (by simp); replace y0 := hg.cell y0 (by simp); replace y1 := hg.cell y1 (by simp); replace hW := grown_trans hW hg; clear hg
  obtain ⟨q0, q1, r0, r1, hg⟩ := two_new v5 41 gq gr pq pr nq cq nr cr
  replace T := tp_keep T hg; replace hA := hA.keep hg; replace hB := hB.keep hg; replace h1 := h1.keep hg; replace hN := hN.keep hg; replace hQ := hQ.keep hg; replace hR := hR.keep hg; replace x0 := hg.cell x0 (by simp); replace x1 := hg.cell x1 (by simp); replace x2 := hg.cell x2 (by simp); replace x3 := hg.cell x3 (by simp); replace y0 := hg.cell y0 (by simp); replace y1 := hg.cell y1 (by simp); replace hW := grown_trans hW hg; clear hg
  go_wp2_with fail
  generalize (v5.alloc (.cells #[.bool gq, .slice pq nq cq] 41)).alloc (.cells #[.bool gr, .slice pr nr cr] 41) = uq at *
  generalize v5.heap.size = Kq at *
  refine (intSign_any hB (by omega)).mono ?_
  rintro e v6 ⟨rfl, hg⟩
  rw [HSB.out]
  replace T := tp_keep T hg; replace hA := hA.keep hg; replace hB := hB.keep hg; replace h1 := h1.keep hg; replace hN := hN.keep hg; replace hQ := hQ.keep hg; replace hR := hR.keep hg; replace x0 := hg.cell x0 (by simp); replace x1 := hg.cell x1 (by simp); replace x2 := hg.cell x2 (by simp); replace x3 := hg.cell x3 (by simp); replace y0 := hg.cell y0 (by simp); replace y1 := hg.cell y1 (by simp); replace q0 := hg.cell q0 (by simp); replace q1 := hg.cell q1 (by simp); replace r0 := hg.cell r0 (by simp); replace r1 := hg.cell r1 (by simp); replace hW := grown_trans hW hg; clear hg
  go_wp2_with fail
  refine (intNorm_any hB (by omega)).mono ?_
  rintro e v7 ⟨gM, pM, nM, cM, rfl, hM, hnM, hg⟩
  replace T := tp_keep T hg; replace hA := hA.keep hg; replace hB := hB.keep hg; replace h1 := h1.keep hg; replace hN := hN.keep hg; replace hQ := hQ.keep hg; replace hR := hR.keep hg; replace x0 := hg.cell x0 (by simp); replace x1 := hg.cell x1 (by simp); replace x2 := hg.cell x2 (by simp); replace x3 := hg.cell x3 (by simp); replace y0 := hg.cell y0 (by simp); replace y1 := hg.cell y1 (by simp); replace q0 := hg.cell q0 (by simp); replace q1 := hg.cell q1 (by simp); replace r0 := hg.cell r0 (by simp); replace r1 := hg.cell r1 (by simp); replace hW := grown_trans hW hg; clear hg
  have hg := World.grownBy_alloc v7 (.cells #[.bool false, .slice pM nM cM] 41) none
  have hb := heap_alloc_new v7 (.cells #[.bool false, .slice pM nM cM] 41)
  replace T := tp_keep T hg; replace hA := hA.keep hg; replace hB := hB.keep hg; replace h1 := h1.keep hg; replace hN := hN.keep hg; replace hQ := hQ.keep hg; replace hR := hR.keep hg; replace hM := hM.keep hg; replace x0 := hg.cell x0 (by simp); replace x1 := hg.cell x1 (by simp); replace x2 := hg.cell x2 (by simp); replace x3 := hg.cell x3 (by simp); replace y0 := hg.cell y0 (by simp); replace y1 := hg.cell y1 (by simp); replace q0 := hg.cell q0 (by simp); replace q1 := hg.cell q1 (by simp); replace r0 := hg.cell r0 (by simp); replace r1 := hg.cell r1 (by simp); replace hW := grown_trans hW hg; clear hg
  obtain ⟨t0, t1, tf0, tf1⟩ := ibox_facts hb
  clear hb
  go_wp2_with fail
  generalize v7.alloc (.cells #[.bool false, .slice pM nM cM] 41) = ut at *
  generalize v7.heap.size = Kt at *
  have hg := grown_drew ut none
  replace T := tp_keep T hg; replace hA := hA.keep hg; replace hB := hB.keep hg; replace h1 := h1.keep hg; replace hN := hN.keep hg; replace hQ := hQ.keep hg; replace hR := hR.keep hg; replace hM := hM.keep hg; replace x0 := hg.cell x0 (by simp); replace x1 := hg.cell x1 (by simp); replace x2 := hg.cell x2 (by simp); replace x3 := hg.cell x3 (by simp); replace y0 := hg.cell y0 (by simp); replace y1 := hg.cell y1 (by simp); replace q0 := hg.cell q0 (by simp); replace q1 := hg.cell q1 (by simp); replace r0 := hg.cell r0 (by simp); replace r1 := hg.cell r1 (by simp); replace t0 := hg.cell t0 (by simp); replace t1 := hg.cell t1 (by simp); replace hW := grown_trans hW hg; clear hg
  go_region_held3 (fun w' => w'.cell? ⟨w.heap.size, 0, none⟩ = some (.bool ga) ∧ w'.cell? ⟨w.heap.size, 1, none⟩ = some (.slice a n c) ∧ w'.cell? ⟨w.heap.size + 1, 0, none⟩ = some (.bool gb) ∧ w'.cell? ⟨w.heap.size + 1, 1, none⟩ = some (.slice b m d) ∧ w'.cell? ⟨Ky, 0, none⟩ = some (.bool g1) ∧ w'.cell? ⟨Ky, 1, none⟩ = some (.slice p1 n1 c1) ∧ w'.cell? ⟨Kq, 0, none⟩ = some (.bool gq) ∧ w'.cell? ⟨Kq, 1, none⟩ = some (.slice pq nq cq) ∧ w'.cell? ⟨Kq + 1, 0, none⟩ = some (.bool gr) ∧ w'.cell? ⟨Kq + 1, 1, none⟩ = some (.slice pr nr cr) ∧ w'.cell? ⟨Kt, 0, none⟩ = some (.bool false) ∧ w'.cell? ⟨Kt, 1, none⟩ = some (.slice pM nM cM)) ((try go_split_ands) <;> (repeat' apply And.intro) <;> (repeat (first | (with_reducible assumption) | (with_reducible refine (grown_setCell _ _ _).cell ?_ (by simp; omega)) | (with_reducible refine (World.grownBy_alloc _ _ none).cell ?_ (by simp)) | (with_reducible refine (grown_drew _ none).cell ?_ (by simp)))))
    (first
      | (go_at_call 31; (with_reducible refine (intMul_any hQ.z hB (by omega) (by omega)).mono ?_); rintro e v8 ⟨g3, p3, n3, c3, rfl, hP, hn3, hg⟩; replace T := tp_keep T hg; replace hA := hA.keep hg; replace hB := hB.keep hg; replace h1 := h1.keep hg; replace hN := hN.keep hg; replace hQ := hQ.keep hg; replace hR := hR.keep hg; replace hM := hM.keep hg; replace x0 := hg.cell x0 (by simp); replace x1 := hg.cell x1 (by simp); replace x2 := hg.cell x2 (by simp); replace x3 := hg.cell x3 (by simp); replace y0 := hg.cell y0 (by simp); replace y1 := hg.cell y1 (by simp); replace q0 := hg.cell q0 (by simp); replace q1 := hg.cell q1 (by simp); replace r0 := hg.cell r0 (by simp); replace r1 := hg.cell r1 (by simp); replace t0 := hg.cell t0 (by simp); replace t1 := hg.cell t1 (by simp); replace hW := grown_trans hW hg; clear hg)
      | (go_at_call 30; (with_reducible refine (intAdd_any hP.z hR.z (by omega) (by omega)).mono ?_); rintro e v9 ⟨g4, p4, n4, c4, rfl, hS, hn4, hg⟩; replace T := tp_keep T hg; replace hA := hA.keep hg; replace hB := hB.keep hg; replace h1 := h1.keep hg; replace hN := hN.keep hg; replace hQ := hQ.keep hg; replace hR := hR.keep hg; replace hM := hM.keep hg; replace hP := hP.keep hg; replace x0 := hg.cell x0 (by simp); replace x1 := hg.cell x1 (by simp); replace x2 := hg.cell x2 (by simp); replace x3 := hg.cell x3 (by simp); replace y0 := hg.cell y0 (by simp); replace y1 := hg.cell y1 (by simp); replace q0 := hg.cell q0 (by simp); replace q1 := hg.cell q1 (by simp); replace r0 := hg.cell r0 (by simp); replace r1 := hg.cell r1 (by simp); replace t0 := hg.cell t0 (by simp); replace t1 := hg.cell t1 (by simp); replace hW := grown_trans hW hg; clear hg)
      | (go_at_call 26; (with_reducible refine (same2_any hS h1 HEQ.out).mono ?_); rintro e v10 ⟨rfl, hg⟩; replace T := tp_keep T hg; replace hA := hA.keep hg; replace hB := hB.keep hg; replace h1 := h1.keep hg; replace hN := hN.keep hg; replace hQ := hQ.keep hg; replace hR := hR.keep hg; replace hM := hM.keep hg; replace hP := hP.keep hg; replace hS := hS.keep hg; replace x0 := hg.cell x0 (by simp); replace x1 := hg.cell x1 (by simp); replace x2 := hg.cell x2 (by simp); replace x3 := hg.cell x3 (by simp); replace y0 := hg.cell y0 (by simp); replace y1 := hg.cell y1 (by simp); replace q0 := hg.cell q0 (by simp); replace q1 := hg.cell q1 (by simp); replace r0 := hg.cell r0 (by simp); replace r1 := hg.cell r1 (by simp); replace t0 := hg.cell t0 (by simp); replace t1 := hg.cell t1 (by simp); replace hW := grown_trans hW hg; clear hg)
      | (go_at_call 29; (with_reducible refine (intSign_any hR.z (by omega)).mono ?_); rintro e v11 ⟨rfl, hg⟩; rw [HSR.out]; replace T := tp_keep T hg; replace hA := hA.keep hg; replace hB := hB.keep hg; replace h1 := h1.keep hg; replace hN := hN.keep hg; replace hQ := hQ.keep hg; replace hR := hR.keep hg; replace hM := hM.keep hg; replace hP := hP.keep hg; replace hS := hS.keep hg; replace x0 := hg.cell x0 (by simp); replace x1 := hg.cell x1 (by simp); replace x2 := hg.cell x2 (by simp); replace x3 := hg.cell x3 (by simp); replace y0 := hg.cell y0 (by simp); replace y1 := hg.cell y1 (by simp); replace q0 := hg.cell q0 (by simp); replace q1 := hg.cell q1 (by simp); replace r0 := hg.cell r0 (by simp); replace r1 := hg.cell r1 (by simp); replace t0 := hg.cell t0 (by simp); replace t1 := hg.cell t1 (by simp); replace hW := grown_trans hW hg; clear hg)
      | (go_at_call 32; (with_reducible refine (intCmp_any hR.z (isI_abs hM).z (by omega) (by omega)).mono ?_); rintro e v12 ⟨rfl, hg⟩; rw [HCM.out]; replace T := tp_keep T hg; replace hA := hA.keep hg; replace hB := hB.keep hg; replace h1 := h1.keep hg; replace hN := hN.keep hg; replace hQ := hQ.keep hg; replace hR := hR.keep hg; replace hM := hM.keep hg; replace hP := hP.keep hg; replace hS := hS.keep hg; replace x0 := hg.cell x0 (by simp); replace x1 := hg.cell x1 (by simp); replace x2 := hg.cell x2 (by simp); replace x3 := hg.cell x3 (by simp); replace y0 := hg.cell y0 (by simp); replace y1 := hg.cell y1 (by simp); replace q0 := hg.cell q0 (by simp); replace q1 := hg.cell q1 (by simp); replace r0 := hg.cell r0 (by simp); replace r1 := hg.cell r1 (by simp); replace t0 := hg.cell t0 (by simp); replace t1 := hg.cell t1 (by simp); replace hW := grown_trans hW hg; clear hg)
      | (go_at_call 21; (with_reducible refine (alive2 _).mono ?_); rintro e v13 ⟨rfl, hg⟩; replace T := tp_keep T hg; replace hA := hA.keep hg; replace hB := hB.keep hg; replace h1 := h1.keep hg; replace hN := hN.keep hg; replace hQ := hQ.keep hg; replace hR := hR.keep hg; replace hM := hM.keep hg; replace hP := hP.keep hg; replace hS := hS.keep hg; replace x0 := hg.cell x0 (by simp); replace x1 := hg.cell x1 (by simp); replace x2 := hg.cell x2 (by simp); replace x3 := hg.cell x3 (by simp); replace y0 := hg.cell y0 (by simp); replace y1 := hg.cell y1 (by simp); replace q0 := hg.cell q0 (by simp); replace q1 := hg.cell q1 (by simp); replace r0 := hg.cell r0 (by simp); replace r1 := hg.cell r1 (by simp); replace t0 := hg.cell t0 (by simp); replace t1 := hg.cell t1 (by simp); replace hW := grown_trans hW hg; clear hg))
  go_wp2_with fail
  go_ret
  exact ⟨rfl, hW⟩

theorem integerBack_door (os : Os) (args : Array Value) : laidMetH Tryd.prog [("math/bits.deBruijn32tab", Rows.laid_math_bits_deBruijn32tab), ("math/bits.deBruijn64tab", Rows.laid_math_bits_deBruijn64tab), ("internal/strconv.uint64pow10", Rows.laid_internal_strconv_uint64pow10), ("strconv.ErrRange", Rows.laid_strconv_ErrRange), ("strconv.ErrSyntax", Rows.laid_strconv_ErrSyntax)] ((World.doorLaid Tryd.prog 400 os).forCall (fun _ _ => 0) ⟨#[], args, []⟩).memory :=
  laidMetH_of_parts3 (fuel := 8) (laidMet_of_run' 8 (by kernel_rfl) (by kernel_rfl)) (by kernel_rfl) (by kernel_rfl)

set_option maxRecDepth 100000 in
theorem integerBack_lifted (os : Os) (started : os.Started) (H : Type) (enc : TypeId × Value → H) :
    ReturnsInHanded {} Tryd.checked os 6 .any (fun w args => (Rows.integerBackSpec.pre enc Tryd.prog Tryd.f6 [] false w args ∧ laidMetH Tryd.prog [("math/bits.deBruijn32tab", Rows.laid_math_bits_deBruijn32tab), ("math/bits.deBruijn64tab", Rows.laid_math_bits_deBruijn64tab), ("internal/strconv.uint64pow10", Rows.laid_internal_strconv_uint64pow10), ("strconv.ErrRange", Rows.laid_strconv_ErrRange), ("strconv.ErrSyntax", Rows.laid_strconv_ErrSyntax)] w) ∧ sizedMet enc Tryd.prog Tryd.f6 (OpenSpec.ofChange Rows.integerBackSpec) false w args)
      (Rows.integerBackSpec.post enc Tryd.prog Tryd.f6 false true false false) := by
  refine returnsInHanded_of_change_and (C := Tryd.checked) (X := fun w _ => laidMetH Tryd.prog [("math/bits.deBruijn32tab", Rows.laid_math_bits_deBruijn32tab), ("math/bits.deBruijn64tab", Rows.laid_math_bits_deBruijn64tab), ("internal/strconv.uint64pow10", Rows.laid_internal_strconv_uint64pow10), ("strconv.ErrRange", Rows.laid_strconv_ErrRange), ("strconv.ErrSyntax", Rows.laid_strconv_ErrSyntax)] w) (fun _ _ _ hh h => h.of_heap hh) own1 started (by kernel_rfl) Tryd.func6
    (ChangeSpec.witness_shaped (enc := enc) (C := Tryd.checked) (os := os) (X := fun w _ => laidMetH Tryd.prog [("math/bits.deBruijn32tab", Rows.laid_math_bits_deBruijn32tab), ("math/bits.deBruijn64tab", Rows.laid_math_bits_deBruijn64tab), ("internal/strconv.uint64pow10", Rows.laid_internal_strconv_uint64pow10), ("strconv.ErrRange", Rows.laid_strconv_ErrRange), ("strconv.ErrSyntax", Rows.laid_strconv_ErrSyntax)] w) false (World.doorLaid Tryd.prog 400 os) #[.agg #[.bool false, .slice none 0 0], .agg #[.bool false, .slice none 0 0]] 8 rfl (World.shaped_of_RefB (by kernel_rfl) (by kernel_rfl)) (by kernel_rfl) (by kernel_rfl) (by kernel_rfl) (integerBack_door os _)) ?_
  intro W base args ds gs before hval0 hW _ _ hL _
  have hval : ∀ (j : Nat) t v, Tryd.f6.params[j]? = some t → args[j]? = some v → Value.okWide Tryd.prog W .any base t v := hval0
  have hW' := hW
  obtain ⟨p, q, hA0, hV, rfl, hfz, hnd⟩ := hW
  have hA : DataW.TrodAll enc Tryd.prog W 0 (fun _ => true) true Tryd.f6.params.toList args.toList ds p := hA0
  rw [Tryd.params6] at hA hval
  obtain ⟨v0, v1, d0, d1, p0, p1, rfl, rfl, rfl, h0, h1⟩ := trodAll_two hA
  obtain ⟨rfl, rfl⟩ := trodVars_none hV
  have hlt : ∀ x ∈ p0 ++ (p1), x.block < W.heap.size := fun x hx => hW'.lt x (by simpa using hx)
  obtain ⟨g0, a, n, c, xs, rfl, hr0, hx0⟩ := open_Int (hval 0 41 v0 rfl rfl) h0
  obtain ⟨g1, b, m, d, ys, rfl, hr1, hx1⟩ := open_Int (hval 1 41 v1 rfl rfl) h1
  refine (integerBack_walk g0 g1 a b n c m d _ _ W (tp_of_laid hL) (IsZ.of g0 hr0 hx0) (IsZ.of g1 hr1 hx1)).mono fun e W' ⟨he, hg⟩ => ?_
  subst he
  have hB := grown_below hg
  exact ⟨_, rfl, _, _, _, [], _, [], hW', trodAll_mk1 (shut_bool Tryd.underlying4 true),
    trodAll_mk2 (Below.trod laidOut1 readInt rowInt h0 hB fun x hx => hlt x (by simp [hx])) (Below.trod laidOut1 readInt rowInt h1 hB fun x hx => hlt x (by simp [hx])), rfl, hB.frame _, fun h => by cases h⟩

theorem integerBack_holds : Rows.IntegerBackSaid :=
  OpenClaim.holds_of_wide 6 Tryd.f6 rfl rfl rfl rfl rfl rfl rfl ⟨rfl, rfl, rfl, rfl, rfl⟩ rfl rfl rfl rfl rfl (by kernel_rfl) Tryd.func6 (by kernel_rfl)
    (of_decide_eq_true (by kernel_rfl)) (by unfold Func.isWrapper; first | (rw [if_pos (by decide +kernel)]; kernel_rfl) | (rw [if_neg (by decide +kernel)]; exact ⟨rfl, rfl⟩))
    (fun os started H enc _ => integerBack_lifted os started H enc)

theorem integerBack_card : Rows.IntegerBackCardSaid :=
  Claim7.holds_tied_plain_at .later [] [.data, .data, .data, .sentinel, .sentinel] true _ true
    integerBack_holds (fun _ h => by cases h) (by kernel_rfl) (fun _ h => by cases h) integerBack_row_tie rfl ⟨rfl, rfl⟩ (by kernel_rfl) rfl
    (fun f fn hf hfn => by
      obtain rfl : f = 6 := Option.some.inj ((show Tryd.prog.funcNamed "geoprover/geoproverlaw02.IntegerBack" = some 6 by kernel_rfl).symm.trans hf) |>.symm
      obtain rfl : fn = Tryd.f6 := (Option.some.inj (Tryd.func6.symm.trans hfn)).symm
      exact ⟨by kernel_rfl, fun j t ht => by
        rw [Tryd.params6] at ht
        have hm : t ∈ [41, 41] := by simpa using Array.mem_of_getElem? ht
        have hall : ([41, 41].all fun u => !Tryd.prog.wantsStandIn u) = true := by kernel_rfl
        exact (show Tryd.prog.wantsStandIn t = false by simpa using List.all_eq_true.1 hall t hm)⟩)
    (by kernel_rfl)

end Go.Proofs.YtkggoniecmlglaaDoor
