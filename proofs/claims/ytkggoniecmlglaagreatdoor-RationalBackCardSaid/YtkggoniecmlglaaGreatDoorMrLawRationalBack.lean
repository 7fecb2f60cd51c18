/-
  Whatever the arguments are, the Go function RationalBack returns true and leaves them as they are. Condition: the tables of packages math/bits and internal/strconv, and the two errors of strconv, hold what the program's text lays (the card ties them).
-/
import Derived.Test.YtkggoniecmlglaaGreatDoorMrQ
import Derived.Test.YtkggoniecmlglaaGreatDoorMrV
import Derived.Test.YtkggoniecmlglaaGreatDoorMrF
import Derived.Test.YtkggoniecmlglaaGreatDoorMrA
import Derived.Test.YtkggoniecmlglaaGreatDoorMrP
import Derived.Test.YtkggoniecmlglaaGreatDoorMrS
import Derived.Test.YtkggoniecmlglaaGreatDoorMrB
import Derived.ChangeMaps5
import Derived.Deep.RegionHeld3
import Derived.Deep.DeepCutAuto

set_option linter.unusedVariables false
set_option linter.unusedSimpArgs false
namespace Go.Proofs.YtkggoniecmlglaaGreatDoor
open Go.RowKit _root_.Nm

theorem sq_num (A : Rat) : (A * A).num = A.num * A.num ∧ (A * A).den = A.den * A.den := by
  have h := A.reduced
  have hc : Nat.gcd (A.num * A.num).natAbs (A.den * A.den) = 1 := by
    rw [Int.natAbs_mul]
    exact Nat.Coprime.mul_left (Nat.Coprime.mul_right h h) (Nat.Coprime.mul_right h h)
  rw [Rat.num_mul, Rat.den_mul, hc]
  simp
/-- the absolute value -/
def absR (A : Rat) : Rat := if A < 0 then -A else A
theorem sq_root {A x : Rat} (h : x * x = A * A) (h0 : 0 ≤ x) : x = absR A := by
  have h1 : (x - A) * (x + A) = 0 := by grind
  unfold absR
  rcases Rat.mul_eq_zero.1 h1 with h2 | h2
  · have : x = A := by grind
    subst this
    rw [if_neg (by grind)]
  · have : x = -A := by grind
    by_cases hA : A < 0
    · rw [if_pos hA]; exact this
    · rw [if_neg hA]; grind
theorem mk_nonneg {Z : Int} {V : Nat} (h : 0 ≤ Z) (hV : 0 < V) : 0 ≤ mkRat Z V := by
  rw [← Rat.num_nonneg, ← rn_q hV]
  unfold rn
  rw [decide_eq_false (by omega)]
  exact Int.natCast_nonneg _
theorem root_val {A : Rat} {Z : Int} {V : Nat} {ok : Bool} (h : SqSpec (A * A).num (A * A).den Z V ok) : ok = true ∧ mkRat Z V = absR A := by
  obtain ⟨e1, e2⟩ := sq_num A
  rcases h with ⟨rfl, h1, h2, h3⟩ | ⟨_, _, _, h1⟩
  · refine ⟨rfl, sq_root ?_ (mk_nonneg h1 ?_)⟩
    · rw [Rat.mkRat_mul_mkRat, h2, h3, Rat.mkRat_self]
    · rcases Nat.eq_zero_or_pos V with h0 | h0
      · have := (A * A).den_pos
        rw [h0] at h3; simp at h3; omega
      · exact h0
  · exact absurd ⟨A.num.natAbs, A.den, by rw [e1, Int.natAbs_mul_self'], e2.symm⟩ h1
theorem root_sq {A : Rat} {Z : Int} {V : Nat} (h : SqSpec A.num A.den Z V true) : 0 ≤ mkRat Z V ∧ mkRat Z V * mkRat Z V = A := by
  rcases h with ⟨_, h1, h2, h3⟩ | ⟨h0, _⟩
  · refine ⟨mk_nonneg h1 ?_, by rw [Rat.mkRat_mul_mkRat, h2, h3, Rat.mkRat_self]⟩
    rcases Nat.eq_zero_or_pos V with h0 | h0
    · have := A.den_pos
      rw [h0] at h3; simp at h3; omega
    · exact h0
  · cases h0
/-- the sizes of a root -/
theorem root_len {w : World} {g : Bool} {p q : Option Addr} {n c m d k : Nat} {X Z : Int} {Y V : Nat} {ok : Bool} (h : SqSpec X Y Z V ok) (h1 : IsI w g p n c Z) (h2 : IsC w q m d V) (hX : X.natAbs < 65536 ^ k) (hY : Y < 65536 ^ k) : n ≤ k ∧ m ≤ k := by
  have hz : Z.natAbs ≤ X.natAbs ∧ V ≤ Y := by
    rcases h with ⟨_, _, e1, e2⟩ | ⟨_, e1, e2, _⟩
    · constructor
      · rw [← e1, Int.natAbs_mul]
        rcases Nat.eq_zero_or_pos Z.natAbs with h0 | h0
        · omega
        · exact Nat.le_mul_of_pos_left _ h0
      · rw [← e2]
        rcases Nat.eq_zero_or_pos V with h0 | h0
        · omega
        · exact Nat.le_mul_of_pos_left _ h0
    · subst e1 e2; simp
  exact ⟨h1.1.len_le (by omega), h2.len_le (by omega)⟩

/-- the square root, by value -/
theorem ratSqrt_v {w : World} (T : Tb w) {g : Bool} {p q : Option Addr} {n c m d : Nat} {v : Rat} (hA : IsQ w g p n c q m d v) (hn : n ≤ 9000) (hm : m ≤ 9000) :
    Calls Tryz.prog 12 #[.agg #[.bool g, .slice p n c, .slice q m d]] w (SqPost w v.num v.den) := by
  obtain ⟨N, D, h1, h2, rfl⟩ := hA
  have := ratSqrt_any T h1 h2 hn hm
  rwa [rn_q (pd_pos D), rd_q (pd_pos D), pq] at this

theorem isQ_mk {w : World} {g : Bool} {p q : Option Addr} {n c m d : Nat} {Z : Int} {V : Nat} (h1 : IsI w g p n c Z) (h2 : IsC w q m d V) : IsQ w g p n c q m d (mkRat Z V) := ⟨Z, V, h1.z, h2.isN, rfl⟩
theorem lim_q {w : World} {g : Bool} {p q : Option Addr} {n c m d k : Nat} {v : Rat} (h : IsQ w g p n c q m d v) (hn : n ≤ k) (hm : m ≤ k) (hk : 0 < k) : v.num.natAbs < 65536 ^ k ∧ v.den < 65536 ^ k := by
  obtain ⟨N, D, h1, h2, rfl⟩ := h
  have l1 := Nat.lt_of_lt_of_le h1.1.lt (Nat.pow_le_pow_right (n := 65536) (by omega) hn)
  have l2 := Nat.lt_of_lt_of_le h2.lt (Nat.pow_le_pow_right (n := 65536) (by omega) hm)
  have l3 : 1 < 65536 ^ k := Nat.one_lt_pow (by omega) (by omega)
  rcases Nat.eq_zero_or_pos D with h0 | h0
  · subst h0
    simp
    omega
  · rw [← rn_q h0, ← rd_q h0]
    unfold rn rd
    rw [sg_abs]
    exact ⟨Nat.lt_of_le_of_lt (Nat.div_le_self _ _) l1, Nat.lt_of_le_of_lt (Nat.div_le_self _ _) l2⟩

/-! ### reading a text back -/
theorem dec_ne (N : Nat) : Lib.decDigits N ≠ [] := by
  obtain ⟨_, _, c, r, e, _⟩ := dec_spec N
  rw [e]; simp
theorem dec_len {N n : Nat} (h : N < 65536 ^ n) (hn : n ≤ 100) : (Lib.decDigits N).length ≤ 1000 := by
  have := dec_limbs h; omega
theorem rdE_dec {N n : Nat} (h : N < 65536 ^ n) (hn : n ≤ 100) : rdE (Lib.decDigits N) = 0 := rdE_ok (dec_ne N) (dec_len h hn) (dec_numl N)
theorem rdV_dec {N n : Nat} (h : N < 65536 ^ n) (hn : n ≤ 100) : rdV (Lib.decDigits N) = N := by rw [rdV_ok (rdE_dec h hn), dec_num]
theorem dec_head (N : Nat) : (Lib.decDigits N).head? ≠ some 45 := by
  obtain ⟨h1, _, c, r, e, _⟩ := dec_spec N
  rw [e]
  intro h
  simp only [List.head?_cons, Option.some.injEq] at h
  have := h1 c (by rw [e]; simp)
  rw [h] at this
  exact absurd this.1 (by decide)
theorem ri_itx {Z : Int} {n : Nat} (h : Z.natAbs < 65536 ^ n) (hn : n ≤ 100) : riE (itx Z) = 0 ∧ riV (itx Z) = Z := by
  by_cases hz : Z < 0
  · have ht : riT (itx Z) = Lib.decDigits Z.natAbs := by rw [itx_neg hz]; rfl
    have hh : (itx Z).head? = some 45 := by rw [itx_neg hz]; rfl
    have hE : riE (itx Z) = 0 := by
      unfold riE
      rw [ht, rdE_dec h hn, rdV_dec h hn, if_neg (by simp), if_neg (by omega)]
    refine ⟨hE, ?_⟩
    unfold riV
    rw [if_pos hE, ht, rdV_dec h hn, decide_eq_true hh]
    simp [sg]; omega
  · have hh : (itx Z).head? ≠ some 45 := by rw [itx_pos hz]; exact dec_head _
    have ht : riT (itx Z) = Lib.decDigits Z.natAbs := by unfold riT; rw [if_neg hh, itx_pos hz]
    have hE : riE (itx Z) = 0 := by
      unfold riE
      rw [ht, rdE_dec h hn, if_neg (by simp), if_neg (fun g => hh g.1)]
    refine ⟨hE, ?_⟩
    unfold riV
    rw [if_pos hE, ht, rdV_dec h hn, decide_eq_false hh]
    simp [sg]; omega
theorem itx_no {Z : Int} : ∀ c ∈ itx Z, c ≠ 47 := by
  have hd : ∀ c ∈ Lib.decDigits Z.natAbs, c ≠ 47 := fun c hc e => by
    have := dec_dgs _ c hc
    rw [e] at this
    exact absurd this.1 (by decide)
  by_cases hz : Z < 0
  · rw [itx_neg hz]
    intro c hc
    rcases List.mem_cons.1 hc with rfl | h
    · decide
    · exact hd c h
  · rw [itx_pos hz]; exact hd
theorem cuB_all : ∀ (t : List UInt8), (∀ c ∈ t, c ≠ 47) → cuB t = t := by
  intro t
  induction t with
  | nil => intro _; rfl
  | cons c t ih =>
    intro h
    have hc : c ≠ 47 := h c (by simp)
    have e : cuB (c :: t) = c :: cuB t := by simp [cuB, hc]
    rw [e, ih (fun x hx => h x (by simp [hx]))]
theorem cuB_app : ∀ (t r : List UInt8), (∀ c ∈ t, c ≠ 47) → cuB (t ++ 47 :: r) = t := by
  intro t
  induction t with
  | nil => intro r _; simp [cuB]
  | cons c t ih =>
    intro r h
    have hc : c ≠ 47 := h c (by simp)
    have e : cuB (c :: (t ++ 47 :: r)) = c :: cuB (t ++ 47 :: r) := by simp [cuB, hc]
    rw [List.cons_append, e, ih r (fun x hx => h x (by simp [hx]))]
theorem rq_rtx {A : Rat} {n : Nat} (h1 : A.num.natAbs < 65536 ^ n) (h2 : A.den < 65536 ^ n) (hn : n ≤ 100) : rqE (rtx A) = 0 ∧ rqV (rtx A) = A := by
  obtain ⟨i1, i2⟩ := ri_itx h1 hn
  by_cases hd : A.den = 1
  · have e : rtx A = itx A.num := if_pos hd
    have eB : cuB (rtx A) = itx A.num := by rw [e]; exact cuB_all _ itx_no
    have eF : cuF (rtx A) = false := by unfold cuF; rw [eB, e]; simp
    have hE : rqE (rtx A) = 0 := by unfold rqE; rw [eB, if_neg (by simpa using i1), if_neg (by rw [eF]; decide)]
    refine ⟨hE, ?_⟩
    unfold rqV rqD
    rw [eB, i2, if_neg (by rw [eF]; decide), ← hd, Rat.mkRat_self]
  · have e : rtx A = itx A.num ++ 47 :: Lib.decDigits A.den := by unfold rtx; rw [if_neg hd, List.append_assoc]; rfl
    have eB : cuB (rtx A) = itx A.num := by rw [e]; exact cuB_app _ _ itx_no
    have eA : cuA (rtx A) = Lib.decDigits A.den := by unfold cuA; rw [eB, e]; simp
    have eF : cuF (rtx A) = true := by unfold cuF; rw [eB, e]; simp
    have hE : rqE (rtx A) = 0 := by
      unfold rqE
      rw [eB, eA, if_neg (by simpa using i1), if_pos eF, rdE_dec h2 hn, rdV_dec h2 hn, if_neg (by simp), if_neg (by have := A.den_pos; omega)]
    refine ⟨hE, ?_⟩
    unfold rqV rqD
    rw [eB, eA, i2, if_pos eF, rdV_dec h2 hn, Rat.mkRat_self]
theorem rtx_len {A : Rat} {n : Nat} (h1 : A.num.natAbs < 65536 ^ n) (h2 : A.den < 65536 ^ n) (hn : n ≤ 100) : (rtx A).length ≤ 10000 := by
  have l1 := itx_limbs h1
  have l2 := dec_limbs h2
  unfold rtx
  split
  · omega
  · simp; omega
theorem qread_back {A : Rat} {n : Nat} (h1 : A.num.natAbs < 65536 ^ n) (h2 : A.den < 65536 ^ n) (hn : n ≤ 100) (w : World) (T : Tb w) :
    Calls Tryz.prog 7 #[str (rtx A)] w (MPost w A 260) :=
  (ratRead_any ⟨(rtx A).toArray⟩ (rtx A) rfl (by have := rtx_len h1 h2 hn; rw [Lib.size_eq]; show (rtx A).length ≤ _; omega) w T).mono fun e w' h => by
    obtain ⟨e1, e2⟩ := rq_rtx h1 h2 hn
    have := h.2 e1
    rwa [e2] at this
end Go.Proofs.YtkggoniecmlglaaGreatDoor

set_option linter.unusedVariables false
set_option linter.unusedSimpArgs false
namespace Go.Proofs.YtkggoniecmlglaaGreatDoor
open Go.ChangeShapes Go.WideShapes Go.ChangeAt Go.RowKit _root_.Nm
open Go Go.ChangeMaps

theorem small3_one (ga : Bool) (sa ta : Option Addr) (na ca ma da : Nat) (w : World) (G : Nat) (hG : G = w.heap.size) :
    Calls Tryz.prog 5 #[.slice (some ⟨G, 0, none⟩) 1 1] (w.alloc (.cells #[.bool ga, .slice sa na ca, .slice ta ma da] 27)) fun e w' =>
      e = .returned (.bool (decide (na ≤ 12 ∧ ma ≤ 12))) ∧ w.grownBy w' none := by
  subst hG
  have := small3_any w.heap.size 1 [((sa, na, ca), (ta, ma, da))] (w.alloc (.cells #[.bool ga, .slice sa na ca, .slice ta ma da] 27)) (by simp) (fun j hj => by
    match j, hj with
    | 0, _ => simp)
  refine this.mono fun e w' ⟨h1, h2⟩ => ⟨by simpa using h1, h2 ▸ World.grownBy_alloc w _ none⟩

theorem unwanted_step {c : Prop} [Decidable c] {A B : Prop} (h : ¬ c) (hb : B) : if c then A else B := by rw [if_neg h]; exact hb

set_option maxRecDepth 100000 in
set_option maxHeartbeats 16000000 in
theorem rationalBack_walk (ga : Bool) (sa ta : Option Addr) (na ca ma da : Nat) (A : Rat) (w : World) (T : Tb w) (TP : Tp w) (ha : IsQ w ga sa na ca ta ma da A) :
    Calls Tryz.prog 4 #[.agg #[.bool ga, .slice sa na ca, .slice ta ma da]] w fun e w' => e = .returned (.bool true) ∧ w.grownBy w' none := by
  have hW3 := World.grownBy_alloc w (.cells #[.bool ga, .slice sa na ca, .slice ta ma da] 27) none
  have HS := small3_one ga sa ta na ca ma da (w.alloc (.cells #[.bool ga, .slice sa na ca, .slice ta ma da] 27)) (w.heap.size + 1) (by simp)
  by_cases h12 : na ≤ 12 ∧ ma ≤ 12
  rotate_left
  · rw [decide_eq_false h12] at HS
    replace HS := hid HS
    go_enter Tryz.func4, Tryz.ntmps4
    go_wp2_with fail
    refine HS.out.mono ?_
    rintro e w0 ⟨rfl, hg⟩
    have hW := grown_trans hW3 hg
    go_wp2_with fail
    refine (alive3 (T.keep hW)).mono ?_
    rintro e w1 ⟨rfl, hg⟩
    go_wp2_with fail
    go_ret
    exact ⟨rfl, grown_trans hW hg⟩
  rw [decide_eq_true h12] at HS
  replace HS := hid HS
  obtain ⟨hna, hma⟩ := h12
  have hl := lim_q (k := 12) ha hna hma (by omega)
  have HL := hid hl
  have HB := hid (fun W (T : Tb W) => qread_back hl.1 hl.2 (by omega) W T)
  unfold MPost at HB
  clear hl
  by_cases hA : A < 0
  · have HSG : Hid (cmpR A 0 = -1) := hid (if_pos hA)
    have HEA : Hid (decide (absR A = -A) = true) := hid (decide_eq_true (by unfold absR; rw [if_pos hA]))
    clear hA
    go_enter Tryz.func4, Tryz.ntmps4
    go_wp2_with fail
    refine HS.out.mono ?_
    rintro e w0 ⟨rfl, hg⟩
    have x0 : w0.cell? ⟨w.heap.size, 0, none⟩ = some (.bool ga) := hg.cell (by simp [go_sem, World.cell?_alloc_past]) (by simp)
    have x1 : w0.cell? ⟨w.heap.size, 1, none⟩ = some (.slice sa na ca) := hg.cell (by simp [go_sem, World.cell?_alloc_past]) (by simp)
    have x2 : w0.cell? ⟨w.heap.size, 2, none⟩ = some (.slice ta ma da) := hg.cell (by simp [go_sem, World.cell?_alloc_past]) (by simp)
    have hz0 := hg.size; simp at hz0
    replace hg := grown_trans hW3 hg
    replace ha := ha.keep hg; replace T := T.keep hg; replace TP := tp_keep TP hg
    have hW := hg
    clear hg HS hW3
    go_wp2_with fail
    refine (ratText_v T TP ha (by omega) (by omega)).mono ?_
    rintro e v1 ⟨rfl, hg⟩
    replace T := T.keep hg; replace TP := tp_keep TP hg; replace ha := ha.keep hg; replace x0 := hg.cell x0 (by simp); replace x1 := hg.cell x1 (by simp); replace x2 := hg.cell x2 (by simp); replace hW := grown_trans hW hg; clear hg
    go_wp2_with fail
    refine (HB.out _ T).mono ?_
    rintro e v2 ⟨g1, p1, n1, c1, q1, m1, d1, rfl, h1, hn1, hm1, hg⟩
    replace T := T.keep hg; replace TP := tp_keep TP hg; replace ha := ha.keep hg; replace x0 := hg.cell x0 (by simp); replace x1 := hg.cell x1 (by simp); replace x2 := hg.cell x2 (by simp); replace hW := grown_trans hW hg; clear hg
    have hg := World.grownBy_alloc v2 (.cells #[.bool g1, .slice p1 n1 c1, .slice q1 m1 d1] 27) none
    have hb := heap_alloc_new v2 (.cells #[.bool g1, .slice p1 n1 c1, .slice q1 m1 d1] 27)
    replace T := T.keep hg; replace TP := tp_keep TP hg; replace ha := ha.keep hg; replace h1 := h1.keep hg; replace x0 := hg.cell x0 (by simp); replace x1 := hg.cell x1 (by simp); replace x2 := hg.cell x2 (by simp); replace hW := grown_trans hW hg; clear hg
    obtain ⟨y0, y1, y2, yf0, yf1, yf2⟩ := ratbox_facts hb
    clear hb
    go_wp2_with fail
    generalize v2.alloc (.cells #[.bool g1, .slice p1 n1 c1, .slice q1 m1 d1] 27) = uy at *
    generalize v2.heap.size = Ky at *
    refine (ratMul_v 12 T ha ha (by omega) (by omega) (by omega) (by omega) (by omega)).mono ?_
    rintro e v3 ⟨g2, p2, n2, c2, q2, m2, d2, rfl, h2, hn2, hm2, hg⟩
    have hl2 := lim_q (k := 68) h2.q (by omega) (by omega) (by omega)
    replace T := T.keep hg; replace TP := tp_keep TP hg; replace ha := ha.keep hg; replace h1 := h1.keep hg; replace x0 := hg.cell x0 (by simp); replace x1 := hg.cell x1 (by simp); replace x2 := hg.cell x2 (by simp); replace y0 := hg.cell y0 (by simp); replace y1 := hg.cell y1 (by simp); replace y2 := hg.cell y2 (by simp); replace hW := grown_trans hW hg; clear hg
    go_wp2_with fail
    refine (ratSqrt_v T h2.q (by omega) (by omega)).mono ?_
    rintro e v4 ⟨g3, p3, n3, c3, q3, m3, d3, Z3, V3, ok3, rfl, h3, k3, hs, hg⟩
    obtain ⟨hn3, hm3⟩ := root_len hs h3 k3 hl2.1 hl2.2
    obtain ⟨rfl, hr⟩ := root_val hs
    have hx := isQ_mk h3 k3
    rw [hr] at hx
    clear hr hs h3 k3 hl2
    replace T := T.keep hg; replace TP := tp_keep TP hg; replace ha := ha.keep hg; replace h1 := h1.keep hg; replace h2 := h2.keep hg; replace x0 := hg.cell x0 (by simp); replace x1 := hg.cell x1 (by simp); replace x2 := hg.cell x2 (by simp); replace y0 := hg.cell y0 (by simp); replace y1 := hg.cell y1 (by simp); replace y2 := hg.cell y2 (by simp); replace hW := grown_trans hW hg; clear hg
    clear h2
    have hg := World.grownBy_alloc v4 (.cells #[.bool g3, .slice p3 n3 c3, .slice q3 m3 d3] 27) none
    have hb := heap_alloc_new v4 (.cells #[.bool g3, .slice p3 n3 c3, .slice q3 m3 d3] 27)
    replace T := T.keep hg; replace TP := tp_keep TP hg; replace ha := ha.keep hg; replace h1 := h1.keep hg; replace hx := hx.keep hg; replace x0 := hg.cell x0 (by simp); replace x1 := hg.cell x1 (by simp); replace x2 := hg.cell x2 (by simp); replace y0 := hg.cell y0 (by simp); replace y1 := hg.cell y1 (by simp); replace y2 := hg.cell y2 (by simp); replace hW := grown_trans hW hg; clear hg
    obtain ⟨r0, r1, r2, rf0, rf1, rf2⟩ := ratbox_facts hb
    clear hb
    have FT := hid T; have FTP := hid TP; have Fa := hid ha; have F1 := hid h1; have Fx := hid hx; have FW := hid hW
    have Fx0 := hid x0
    have Fx1 := hid x1
    have Fx2 := hid x2
    have Fy0 := hid y0
    have Fy1 := hid y1
    have Fy2 := hid y2
    have Fr0 := hid r0
    have Fr1 := hid r1
    have Fr2 := hid r2
    have hsz : (v4.alloc (.cells #[.bool g3, .slice p3 n3 c3, .slice q3 m3 d3] 27)).heap.size = v4.heap.size + 1 := by simp
    have hg := World.grownBy_alloc (v4.alloc (.cells #[.bool g3, .slice p3 n3 c3, .slice q3 m3 d3] 27)) (.cells #[.bool ga, .slice sa na ca, .slice ta ma da] 27) none
    have bB := heap_alloc_new (v4.alloc (.cells #[.bool g3, .slice p3 n3 c3, .slice q3 m3 d3] 27)) (.cells #[.bool ga, .slice sa na ca, .slice ta ma da] 27)
    rw [hsz] at bB
    have hP := hg
    have e0 := x0; have e1 := x1; have e2 := x2
    replace T := T.keep hg; replace TP := tp_keep TP hg; replace ha := ha.keep hg; replace h1 := h1.keep hg; replace hx := hx.keep hg; replace x0 := hg.cell x0 (by simp); replace x1 := hg.cell x1 (by simp); replace x2 := hg.cell x2 (by simp); replace y0 := hg.cell y0 (by simp); replace y1 := hg.cell y1 (by simp); replace y2 := hg.cell y2 (by simp); replace r0 := hg.cell r0 (by simp); replace r1 := hg.cell r1 (by simp); replace r2 := hg.cell r2 (by simp); replace hW := grown_trans hW hg; clear hg
    obtain ⟨b0, b1, b2, bf0, bf1, bf2⟩ := ratbox_facts bB
    go_wp2_with fail
    generalize v4.alloc (.cells #[.bool g3, .slice p3 n3 c3, .slice q3 m3 d3] 27) = ur at *
    generalize v4.heap.size = Kr at *
    generalize ur.alloc (.cells #[.bool ga, .slice sa na ca, .slice ta ma da] 27) = ub at *
    clear e0 e1 e2
    refine (ratSign_v 12 ha (by omega) (by omega) (by omega)).mono ?_
    rintro e v5 ⟨rfl, hg⟩
    rw [HSG.out]
    replace T := T.keep hg; replace TP := tp_keep TP hg; replace ha := ha.keep hg; replace h1 := h1.keep hg; replace hx := hx.keep hg; replace x0 := hg.cell x0 (by simp); replace x1 := hg.cell x1 (by simp); replace x2 := hg.cell x2 (by simp); replace y0 := hg.cell y0 (by simp); replace y1 := hg.cell y1 (by simp); replace y2 := hg.cell y2 (by simp); replace r0 := hg.cell r0 (by simp); replace r1 := hg.cell r1 (by simp); replace r2 := hg.cell r2 (by simp); replace b0 := hg.cell b0 (by simp); replace b1 := hg.cell b1 (by simp); replace b2 := hg.cell b2 (by simp); replace bB := (hg.block _ (lt_of_block bB) (by simp)).trans bB; replace hP := grown_trans hP hg; replace hW := grown_trans hW hg; clear hg
    go_wp2_with fail
    refine (ratNeg_v 12 T ha (by omega) (by omega) (by omega)).mono ?_
    rintro e v6 ⟨g5, p5, n5, c5, q5, m5, d5, rfl, h5, hn5, hm5, hg⟩
    replace T := T.keep hg; replace TP := tp_keep TP hg; replace ha := ha.keep hg; replace h1 := h1.keep hg; replace hx := hx.keep hg; replace x0 := hg.cell x0 (by simp); replace x1 := hg.cell x1 (by simp); replace x2 := hg.cell x2 (by simp); replace y0 := hg.cell y0 (by simp); replace y1 := hg.cell y1 (by simp); replace y2 := hg.cell y2 (by simp); replace r0 := hg.cell r0 (by simp); replace r1 := hg.cell r1 (by simp); replace r2 := hg.cell r2 (by simp); replace b0 := hg.cell b0 (by simp); replace b1 := hg.cell b1 (by simp); replace b2 := hg.cell b2 (by simp); replace bB := (hg.block _ (lt_of_block bB) (by simp)).trans bB; replace hP := grown_trans hP hg; replace hW := grown_trans hW hg; clear hg
    obtain ⟨b0, b1, b2, bf0, bf1, bf2⟩ := ratbox_facts bB
    have hS := set3_grown v6 (Kr + 1) (.bool g5) (.slice p5 n5 c5) (.slice q5 m5 d5)
    have hg := grown_new hP hS (fun g e => by cases e; omega)
    have N5 := hid (show IsV _ g5 p5 n5 c5 q5 m5 d5 (-A) from ⟨⟨IsC.other3 h5.1.1 bB hS, h5.1.2⟩, h5.2.other3 bB hS⟩)
    have NT := hid (FT.out.keep hg); have NP := hid (tp_keep FTP.out hg); have Na := hid (Fa.out.keep hg); have N1 := hid (F1.out.keep hg); have Nx := hid (Fx.out.keep hg); have NW := hid (grown_trans FW.out hg)
    have Nx0 := hg.cell Fx0.out (by simp)
    have Nx1 := hg.cell Fx1.out (by simp)
    have Nx2 := hg.cell Fx2.out (by simp)
    have Ny0 := hg.cell Fy0.out (by simp)
    have Ny1 := hg.cell Fy1.out (by simp)
    have Ny2 := hg.cell Fy2.out (by simp)
    have Nr0 := hg.cell Fr0.out (by simp)
    have Nr1 := hg.cell Fr1.out (by simp)
    have Nr2 := hg.cell Fr2.out (by simp)
    obtain ⟨Nb0, Nb1, Nb2, Nf0, Nf1, Nf2⟩ := ratbox_facts (set3_block bB (.bool g5) (.slice p5 n5 c5) (.slice q5 m5 d5))
    clear hg hS hP FT FTP Fa F1 Fx FW Fx0 Fx1 Fx2 Fy0 Fy1 Fy2 Fr0 Fr1 Fr2
    go_wp2_with fail
    clear T TP ha h1 hx h5 hW bB b0 b1 b2 bf0 bf1 bf2 x0 x1 x2 y0 y1 y2 r0 r1 r2
    have T := NT.out; have TP := NP.out; have ha := Na.out; have h1 := N1.out; have hx := Nx.out; have h5 := N5.out; have hW := NW.out
    have x0 := Nx0; have x1 := Nx1; have x2 := Nx2; have y0 := Ny0; have y1 := Ny1; have y2 := Ny2; have r0 := Nr0; have r1 := Nr1; have r2 := Nr2; have b0 := Nb0; have b1 := Nb1; have b2 := Nb2
    clear NT NP Na N1 Nx N5 NW Nb0 Nb1 Nb2 Nf0 Nf1 Nf2 Nx0 Nx1 Nx2 Ny0 Ny1 Ny2 Nr0 Nr1 Nr2
    generalize (((v6.setCell ⟨Kr + 1, 0, none⟩ (.bool g5)).setCell ⟨Kr + 1, 1, none⟩ (.slice p5 n5 c5)).setCell ⟨Kr + 1, 2, none⟩ (.slice q5 m5 d5)) = us at *
    refine (ratRight_v 260 T h1 (by omega) (by omega) (by omega)).mono ?_
    rintro e v7 ⟨rfl, hg⟩
    replace T := T.keep hg; replace TP := tp_keep TP hg; replace ha := ha.keep hg; replace h1 := h1.keep hg; replace hx := hx.keep hg; replace h5 := h5.keep hg; replace x0 := hg.cell x0 (by simp); replace x1 := hg.cell x1 (by simp); replace x2 := hg.cell x2 (by simp); replace y0 := hg.cell y0 (by simp); replace y1 := hg.cell y1 (by simp); replace y2 := hg.cell y2 (by simp); replace r0 := hg.cell r0 (by simp); replace r1 := hg.cell r1 (by simp); replace r2 := hg.cell r2 (by simp); replace b0 := hg.cell b0 (by simp); replace b1 := hg.cell b1 (by simp); replace b2 := hg.cell b2 (by simp); replace hW := grown_trans hW hg; clear hg
    go_wp2_with fail
    refine (ratEqual_v 260 h1.q ha (by omega) (by omega) (by omega) (by omega) (by omega)).mono ?_
    rintro e v8 ⟨rfl, hg⟩
    rw [decide_eq_true (rfl : A = A)]
    replace T := T.keep hg; replace TP := tp_keep TP hg; replace ha := ha.keep hg; replace h1 := h1.keep hg; replace hx := hx.keep hg; replace h5 := h5.keep hg; replace x0 := hg.cell x0 (by simp); replace x1 := hg.cell x1 (by simp); replace x2 := hg.cell x2 (by simp); replace y0 := hg.cell y0 (by simp); replace y1 := hg.cell y1 (by simp); replace y2 := hg.cell y2 (by simp); replace r0 := hg.cell r0 (by simp); replace r1 := hg.cell r1 (by simp); replace r2 := hg.cell r2 (by simp); replace b0 := hg.cell b0 (by simp); replace b1 := hg.cell b1 (by simp); replace b2 := hg.cell b2 (by simp); replace hW := grown_trans hW hg; clear hg
    go_wp2_with fail
    refine (ratEqual_v 260 hx h5.q (by omega) (by omega) (by omega) (by omega) (by omega)).mono ?_
    rintro e v9 ⟨rfl, hg⟩
    rw [HEA.out]
    replace T := T.keep hg; replace TP := tp_keep TP hg; replace ha := ha.keep hg; replace h1 := h1.keep hg; replace hx := hx.keep hg; replace h5 := h5.keep hg; replace x0 := hg.cell x0 (by simp); replace x1 := hg.cell x1 (by simp); replace x2 := hg.cell x2 (by simp); replace y0 := hg.cell y0 (by simp); replace y1 := hg.cell y1 (by simp); replace y2 := hg.cell y2 (by simp); replace r0 := hg.cell r0 (by simp); replace r1 := hg.cell r1 (by simp); replace r2 := hg.cell r2 (by simp); replace b0 := hg.cell b0 (by simp); replace b1 := hg.cell b1 (by simp); replace b2 := hg.cell b2 (by simp); replace hW := grown_trans hW hg; clear hg
    go_wp2_with fail
    refine (ratSqrt_v T ha (by omega) (by omega)).mono ?_
    rintro e v10 ⟨g6, p6, n6, c6, q6, m6, d6, Z6, V6, ok6, rfl, h6, k6, hs, hg⟩
    obtain ⟨hn6, hm6⟩ := root_len hs h6 k6 HL.out.1 HL.out.2
    have hy := isQ_mk h6 k6
    clear h6 k6
    replace T := T.keep hg; replace TP := tp_keep TP hg; replace ha := ha.keep hg; replace h1 := h1.keep hg; replace hx := hx.keep hg; replace h5 := h5.keep hg; replace x0 := hg.cell x0 (by simp); replace x1 := hg.cell x1 (by simp); replace x2 := hg.cell x2 (by simp); replace y0 := hg.cell y0 (by simp); replace y1 := hg.cell y1 (by simp); replace y2 := hg.cell y2 (by simp); replace r0 := hg.cell r0 (by simp); replace r1 := hg.cell r1 (by simp); replace r2 := hg.cell r2 (by simp); replace b0 := hg.cell b0 (by simp); replace b1 := hg.cell b1 (by simp); replace b2 := hg.cell b2 (by simp); replace hW := grown_trans hW hg; clear hg
    have hg := World.grownBy_alloc v10 (.cells #[.bool g6, .slice p6 n6 c6, .slice q6 m6 d6] 27) none
    have hb := heap_alloc_new v10 (.cells #[.bool g6, .slice p6 n6 c6, .slice q6 m6 d6] 27)
    replace T := T.keep hg; replace TP := tp_keep TP hg; replace ha := ha.keep hg; replace h1 := h1.keep hg; replace hx := hx.keep hg; replace h5 := h5.keep hg; replace hy := hy.keep hg; replace x0 := hg.cell x0 (by simp); replace x1 := hg.cell x1 (by simp); replace x2 := hg.cell x2 (by simp); replace y0 := hg.cell y0 (by simp); replace y1 := hg.cell y1 (by simp); replace y2 := hg.cell y2 (by simp); replace r0 := hg.cell r0 (by simp); replace r1 := hg.cell r1 (by simp); replace r2 := hg.cell r2 (by simp); replace b0 := hg.cell b0 (by simp); replace b1 := hg.cell b1 (by simp); replace b2 := hg.cell b2 (by simp); replace hW := grown_trans hW hg; clear hg
    obtain ⟨u0, u1, u2, uf0, uf1, uf2⟩ := ratbox_facts hb
    clear hb
    cases ok6
    · skip
      clear hs
      go_upto_region 11 with fail
      generalize v10.alloc (.cells #[.bool g6, .slice p6 n6 c6, .slice q6 m6 d6] 27) = uu at *
      generalize v10.heap.size = Ku at *
      have hg := grown_drew uu none
      replace T := T.keep hg; replace TP := tp_keep TP hg; replace ha := ha.keep hg; replace h1 := h1.keep hg; replace hx := hx.keep hg; replace h5 := h5.keep hg; replace hy := hy.keep hg; replace x0 := hg.cell x0 (by simp); replace x1 := hg.cell x1 (by simp); replace x2 := hg.cell x2 (by simp); replace y0 := hg.cell y0 (by simp); replace y1 := hg.cell y1 (by simp); replace y2 := hg.cell y2 (by simp); replace r0 := hg.cell r0 (by simp); replace r1 := hg.cell r1 (by simp); replace r2 := hg.cell r2 (by simp); replace b0 := hg.cell b0 (by simp); replace b1 := hg.cell b1 (by simp); replace b2 := hg.cell b2 (by simp); replace u0 := hg.cell u0 (by simp); replace u1 := hg.cell u1 (by simp); replace u2 := hg.cell u2 (by simp); replace hW := grown_trans hW hg; clear hg
      refine wp_region_held_drew (S := fun _ => True) (by kernel_rfl) trivial (fun hHeld => ?_)
      (refine wpAnyH_take (i := 0) (oi := Oper.mk _ _ _ _ _ _) (v := ?_) rfl (by kernel_rfl) (by kernel_rfl) (by kernel_rfl) (fun _ _ _ h => h) (Or.inl ⟨by kernel_rfl, ?_⟩) trivial ?_; rotate_left 1; focus (intro w hSw; go_simp; (try (with_reducible rfl)); done); (try simp only [Act.put, List.setIfInBounds_toArray, List.set_cons_zero, List.set_cons_succ]))
      (refine wpAnyH_take (i := 1) (oi := Oper.mk _ _ _ _ _ _) (v := ?_) rfl (by kernel_rfl) (by kernel_rfl) (by kernel_rfl) (fun _ _ _ h => h) (Or.inl ⟨by kernel_rfl, ?_⟩) trivial ?_; rotate_left 1; focus (intro w hSw; go_simp; (try (with_reducible rfl)); done); (try simp only [Act.put, List.setIfInBounds_toArray, List.set_cons_zero, List.set_cons_succ]))
      (refine wpAnyH_take (i := 2) (oi := Oper.mk _ _ _ _ _ _) (v := ?_) rfl (by kernel_rfl) (by kernel_rfl) (by kernel_rfl) (fun _ _ _ h => h) (Or.inl ⟨by kernel_rfl, ?_⟩) trivial ?_; rotate_left 1; focus (intro w hSw; go_simp; (try (with_reducible rfl)); done); (try simp only [Act.put, List.setIfInBounds_toArray, List.set_cons_zero, List.set_cons_succ]))
      (refine wpAnyH_take (i := 3) (oi := Oper.mk _ _ _ _ _ _) (v := undef) rfl (by kernel_rfl) (by kernel_rfl) (by kernel_rfl) (fun _ _ _ h => h) (Or.inr ⟨by kernel_rfl, rfl⟩) trivial ?_; (try simp only [Act.put, List.setIfInBounds_toArray, List.set_cons_zero, List.set_cons_succ]))
      (refine wpAnyH_take (i := 4) (oi := Oper.mk _ _ _ _ _ _) (v := undef) rfl (by kernel_rfl) (by kernel_rfl) (by kernel_rfl) (fun _ _ _ h => h) (Or.inr ⟨by kernel_rfl, rfl⟩) trivial ?_; (try simp only [Act.put, List.setIfInBounds_toArray, List.set_cons_zero, List.set_cons_succ]))
      (refine wpAnyH_take (i := 5) (oi := Oper.mk _ _ _ _ _ _) (v := undef) rfl (by kernel_rfl) (by kernel_rfl) (by kernel_rfl) (fun _ _ _ h => h) (Or.inr ⟨by kernel_rfl, rfl⟩) trivial ?_; (try simp only [Act.put, List.setIfInBounds_toArray, List.set_cons_zero, List.set_cons_succ]))
      (refine wpAnyH_take (i := 6) (oi := Oper.mk _ _ _ _ _ _) (v := undef) rfl (by kernel_rfl) (by kernel_rfl) (by kernel_rfl) (fun _ _ _ h => h) (Or.inr ⟨by kernel_rfl, rfl⟩) trivial ?_; (try simp only [Act.put, List.setIfInBounds_toArray, List.set_cons_zero, List.set_cons_succ]))
      (refine wpAnyH_take (i := 7) (oi := Oper.mk _ _ _ _ _ _) (v := undef) rfl (by kernel_rfl) (by kernel_rfl) (by kernel_rfl) (fun _ _ _ h => h) (Or.inr ⟨by kernel_rfl, rfl⟩) trivial ?_; (try simp only [Act.put, List.setIfInBounds_toArray, List.set_cons_zero, List.set_cons_succ]))
      (refine wpAnyH_take (i := 8) (oi := Oper.mk _ _ _ _ _ _) (v := undef) rfl (by kernel_rfl) (by kernel_rfl) (by kernel_rfl) (fun _ _ _ h => h) (Or.inr ⟨by kernel_rfl, rfl⟩) trivial ?_; (try simp only [Act.put, List.setIfInBounds_toArray, List.set_cons_zero, List.set_cons_succ]))
      (refine wpAnyH_take (i := 9) (oi := Oper.mk _ _ _ _ _ _) (v := undef) rfl (by kernel_rfl) (by kernel_rfl) (by kernel_rfl) (fun _ _ _ h => h) (Or.inr ⟨by kernel_rfl, rfl⟩) trivial ?_; (try simp only [Act.put, List.setIfInBounds_toArray, List.set_cons_zero, List.set_cons_succ]))
      (refine wpAnyH_take (i := 10) (oi := Oper.mk _ _ _ _ _ _) (v := undef) rfl (by kernel_rfl) (by kernel_rfl) (by kernel_rfl) (fun _ _ _ h => h) (Or.inr ⟨by kernel_rfl, rfl⟩) trivial ?_; (try simp only [Act.put, List.setIfInBounds_toArray, List.set_cons_zero, List.set_cons_succ]))
      (refine wpAnyH_take (i := 11) (oi := Oper.mk _ _ _ _ _ _) (v := undef) rfl (by kernel_rfl) (by kernel_rfl) (by kernel_rfl) (fun _ _ _ h => h) (Or.inr ⟨by kernel_rfl, rfl⟩) trivial ?_; (try simp only [Act.put, List.setIfInBounds_toArray, List.set_cons_zero, List.set_cons_succ]))
      (refine wpAnyH_take (i := 12) (oi := Oper.mk _ _ _ _ _ _) (v := undef) rfl (by kernel_rfl) (by kernel_rfl) (by kernel_rfl) (fun _ _ _ h => h) (Or.inr ⟨by kernel_rfl, rfl⟩) trivial ?_; (try simp only [Act.put, List.setIfInBounds_toArray, List.set_cons_zero, List.set_cons_succ]))
      (refine wpAnyH_take (i := 13) (oi := Oper.mk _ _ _ _ _ _) (v := ?_) rfl (by kernel_rfl) (by kernel_rfl) (by kernel_rfl) (fun _ _ _ h => h) (Or.inl ⟨by kernel_rfl, ?_⟩) trivial ?_; rotate_left 1; focus (intro w hSw; go_simp; (try (with_reducible rfl)); done); (try simp only [Act.put, List.setIfInBounds_toArray, List.set_cons_zero, List.set_cons_succ]))
      (refine wpAnyH_take (i := 14) (oi := Oper.mk _ _ _ _ _ _) (v := ?_) rfl (by kernel_rfl) (by kernel_rfl) (by kernel_rfl) (fun _ _ _ h => h) (Or.inl ⟨by kernel_rfl, ?_⟩) trivial ?_; rotate_left 1; focus (intro w hSw; go_simp; (try (with_reducible rfl)); done); (try simp only [Act.put, List.setIfInBounds_toArray, List.set_cons_zero, List.set_cons_succ]))
      refine wpAnyH_ready (rs := [15]) (by kernel_rfl) (by simp) ?_
      refine AllReadyH.cons (o := Oper.mk _ _ _ _ _ _) rfl (fun K hK => ?_) AllReadyH.nil
      (try rw [if_pos (by kernel_rfl)])
      (first | (go_at_call 6; (with_reducible refine (alive3 T).mono ?_); rintro e vE ⟨rfl, hg⟩; replace hW := grown_trans hW hg; clear hg) | (go_simp; (go_at_call 6; (with_reducible refine (alive3 T).mono ?_); rintro e vE ⟨rfl, hg⟩; replace hW := grown_trans hW hg; clear hg)))
      refine hK.out _ _ trivial (fun _ => ?_)
      clear hK K
      (try simp only [Act.put, List.setIfInBounds_toArray, List.set_cons_zero, List.set_cons_succ])
      (refine wpAnyH_take (i := 16) (oi := Oper.mk _ _ _ _ _ _) (v := ?_) rfl (by kernel_rfl) (by kernel_rfl) (by kernel_rfl) (fun _ _ _ h => h) (Or.inl ⟨by kernel_rfl, ?_⟩) trivial ?_; rotate_left 1; focus (intro w hSw; go_simp; (try (with_reducible rfl)); done); (try simp only [Act.put, List.setIfInBounds_toArray, List.set_cons_zero, List.set_cons_succ]))
      (refine wpAnyH_take (i := 17) (oi := Oper.mk _ _ _ _ _ _) (v := ?_) rfl (by kernel_rfl) (by kernel_rfl) (by kernel_rfl) (fun _ _ _ h => h) (Or.inl ⟨by kernel_rfl, ?_⟩) trivial ?_; rotate_left 1; focus (intro w hSw; go_simp; (try (with_reducible rfl)); done); (try simp only [Act.put, List.setIfInBounds_toArray, List.set_cons_zero, List.set_cons_succ]))
      refine wpAnyH_done (by kernel_rfl) ?_ _
      all_goals go_wp2_with fail
      all_goals go_ret
      all_goals exact ⟨rfl, hW⟩
    · skip
      obtain ⟨hp6, hq6⟩ := root_sq hs
      have HQ := hid hq6
      obtain ⟨sY, hsY, hsYe⟩ : ∃ sY : Int, 0 ≤ sY ∧ cmpR (mkRat Z6 V6) 0 = sY := ⟨_, by unfold cmpR; rw [if_neg (by grind)]; split <;> omega, rfl⟩
      have HSY := hid hsYe
      clear hs hp6 hq6 hsYe
      generalize mkRat Z6 V6 = Y at *
      go_upto_region 11 with fail
      generalize v10.alloc (.cells #[.bool g6, .slice p6 n6 c6, .slice q6 m6 d6] 27) = uu at *
      generalize v10.heap.size = Ku at *
      have hg := grown_drew uu none
      replace T := T.keep hg; replace TP := tp_keep TP hg; replace ha := ha.keep hg; replace h1 := h1.keep hg; replace hx := hx.keep hg; replace h5 := h5.keep hg; replace hy := hy.keep hg; replace x0 := hg.cell x0 (by simp); replace x1 := hg.cell x1 (by simp); replace x2 := hg.cell x2 (by simp); replace y0 := hg.cell y0 (by simp); replace y1 := hg.cell y1 (by simp); replace y2 := hg.cell y2 (by simp); replace r0 := hg.cell r0 (by simp); replace r1 := hg.cell r1 (by simp); replace r2 := hg.cell r2 (by simp); replace b0 := hg.cell b0 (by simp); replace b1 := hg.cell b1 (by simp); replace b2 := hg.cell b2 (by simp); replace u0 := hg.cell u0 (by simp); replace u1 := hg.cell u1 (by simp); replace u2 := hg.cell u2 (by simp); replace hW := grown_trans hW hg; clear hg
      go_region_held3 (fun w' => w'.cell? ⟨w.heap.size, 0, none⟩ = some (.bool ga) ∧ w'.cell? ⟨w.heap.size, 1, none⟩ = some (.slice sa na ca) ∧ w'.cell? ⟨w.heap.size, 2, none⟩ = some (.slice ta ma da) ∧ w'.cell? ⟨Ky, 0, none⟩ = some (.bool g1) ∧ w'.cell? ⟨Ky, 1, none⟩ = some (.slice p1 n1 c1) ∧ w'.cell? ⟨Ky, 2, none⟩ = some (.slice q1 m1 d1) ∧ w'.cell? ⟨Kr, 0, none⟩ = some (.bool g3) ∧ w'.cell? ⟨Kr, 1, none⟩ = some (.slice p3 n3 c3) ∧ w'.cell? ⟨Kr, 2, none⟩ = some (.slice q3 m3 d3) ∧ w'.cell? ⟨Kr + 1, 0, none⟩ = some (.bool g5) ∧ w'.cell? ⟨Kr + 1, 1, none⟩ = some (.slice p5 n5 c5) ∧ w'.cell? ⟨Kr + 1, 2, none⟩ = some (.slice q5 m5 d5) ∧ w'.cell? ⟨Ku, 0, none⟩ = some (.bool g6) ∧ w'.cell? ⟨Ku, 1, none⟩ = some (.slice p6 n6 c6) ∧ w'.cell? ⟨Ku, 2, none⟩ = some (.slice q6 m6 d6)) ((try go_split_ands) <;> (repeat' apply And.intro) <;> (repeat (first | (with_reducible assumption) | (with_reducible refine (grown_setCell _ _ _).cell ?_ (by simp; omega)) | (with_reducible refine (World.grownBy_alloc _ _ none).cell ?_ (by simp)) | (with_reducible refine (grown_drew _ none).cell ?_ (by simp)))))
        (first
          | (go_at_call 14; (with_reducible refine (ratSign_v 12 hy (by omega) (by omega) (by omega)).mono ?_); rintro e v11 ⟨rfl, hg⟩; rw [HSY.out]; replace T := T.keep hg; replace TP := tp_keep TP hg; replace ha := ha.keep hg; replace h1 := h1.keep hg; replace hx := hx.keep hg; replace h5 := h5.keep hg; replace hy := hy.keep hg; replace x0 := hg.cell x0 (by simp); replace x1 := hg.cell x1 (by simp); replace x2 := hg.cell x2 (by simp); replace y0 := hg.cell y0 (by simp); replace y1 := hg.cell y1 (by simp); replace y2 := hg.cell y2 (by simp); replace r0 := hg.cell r0 (by simp); replace r1 := hg.cell r1 (by simp); replace r2 := hg.cell r2 (by simp); replace b0 := hg.cell b0 (by simp); replace b1 := hg.cell b1 (by simp); replace b2 := hg.cell b2 (by simp); replace u0 := hg.cell u0 (by simp); replace u1 := hg.cell u1 (by simp); replace u2 := hg.cell u2 (by simp); replace hW := grown_trans hW hg; clear hg)
          | (go_at_call 13; (with_reducible refine (ratMul_v 12 T hy hy (by omega) (by omega) (by omega) (by omega) (by omega)).mono ?_); rintro e v12 ⟨g8, p8, n8, c8, q8, m8, d8, rfl, h8, hn8, hm8, hg⟩; rw [HQ.out] at h8; replace T := T.keep hg; replace TP := tp_keep TP hg; replace ha := ha.keep hg; replace h1 := h1.keep hg; replace hx := hx.keep hg; replace h5 := h5.keep hg; replace hy := hy.keep hg; replace x0 := hg.cell x0 (by simp); replace x1 := hg.cell x1 (by simp); replace x2 := hg.cell x2 (by simp); replace y0 := hg.cell y0 (by simp); replace y1 := hg.cell y1 (by simp); replace y2 := hg.cell y2 (by simp); replace r0 := hg.cell r0 (by simp); replace r1 := hg.cell r1 (by simp); replace r2 := hg.cell r2 (by simp); replace b0 := hg.cell b0 (by simp); replace b1 := hg.cell b1 (by simp); replace b2 := hg.cell b2 (by simp); replace u0 := hg.cell u0 (by simp); replace u1 := hg.cell u1 (by simp); replace u2 := hg.cell u2 (by simp); replace hW := grown_trans hW hg; clear hg)
          | (go_at_call 17; (with_reducible refine (ratEqual_v 68 h8.q ha (by omega) (by omega) (by omega) (by omega) (by omega)).mono ?_); rintro e v13 ⟨rfl, hg⟩; rw [decide_eq_true (rfl : A = A)]; replace T := T.keep hg; replace TP := tp_keep TP hg; replace ha := ha.keep hg; replace h1 := h1.keep hg; replace hx := hx.keep hg; replace h5 := h5.keep hg; replace hy := hy.keep hg; replace h8 := h8.keep hg; replace x0 := hg.cell x0 (by simp); replace x1 := hg.cell x1 (by simp); replace x2 := hg.cell x2 (by simp); replace y0 := hg.cell y0 (by simp); replace y1 := hg.cell y1 (by simp); replace y2 := hg.cell y2 (by simp); replace r0 := hg.cell r0 (by simp); replace r1 := hg.cell r1 (by simp); replace r2 := hg.cell r2 (by simp); replace b0 := hg.cell b0 (by simp); replace b1 := hg.cell b1 (by simp); replace b2 := hg.cell b2 (by simp); replace u0 := hg.cell u0 (by simp); replace u1 := hg.cell u1 (by simp); replace u2 := hg.cell u2 (by simp); replace hW := grown_trans hW hg; clear hg)
          | (go_at_call 6; (with_reducible refine (alive3 T).mono ?_); rintro e v14 ⟨rfl, hg⟩; replace T := T.keep hg; replace TP := tp_keep TP hg; replace ha := ha.keep hg; replace h1 := h1.keep hg; replace hx := hx.keep hg; replace h5 := h5.keep hg; replace hy := hy.keep hg; replace h8 := h8.keep hg; replace x0 := hg.cell x0 (by simp); replace x1 := hg.cell x1 (by simp); replace x2 := hg.cell x2 (by simp); replace y0 := hg.cell y0 (by simp); replace y1 := hg.cell y1 (by simp); replace y2 := hg.cell y2 (by simp); replace r0 := hg.cell r0 (by simp); replace r1 := hg.cell r1 (by simp); replace r2 := hg.cell r2 (by simp); replace b0 := hg.cell b0 (by simp); replace b1 := hg.cell b1 (by simp); replace b2 := hg.cell b2 (by simp); replace u0 := hg.cell u0 (by simp); replace u1 := hg.cell u1 (by simp); replace u2 := hg.cell u2 (by simp); replace hW := grown_trans hW hg; clear hg))
      go_wp2_with fail
      go_ret
      exact ⟨rfl, hW⟩
  · obtain ⟨sA, hsA, hsAe⟩ : ∃ sA : Int, ¬ sA < 0 ∧ cmpR A 0 = sA := ⟨_, by unfold cmpR; rw [if_neg hA]; split <;> omega, rfl⟩
    have HSG := hid hsAe
    have HEA : Hid (decide (absR A = A) = true) := hid (decide_eq_true (by unfold absR; rw [if_neg hA]))
    clear hA hsAe
    go_enter Tryz.func4, Tryz.ntmps4
    go_wp2_with fail
    refine HS.out.mono ?_
    rintro e w0 ⟨rfl, hg⟩
    have x0 : w0.cell? ⟨w.heap.size, 0, none⟩ = some (.bool ga) := hg.cell (by simp [go_sem, World.cell?_alloc_past]) (by simp)
    have x1 : w0.cell? ⟨w.heap.size, 1, none⟩ = some (.slice sa na ca) := hg.cell (by simp [go_sem, World.cell?_alloc_past]) (by simp)
    have x2 : w0.cell? ⟨w.heap.size, 2, none⟩ = some (.slice ta ma da) := hg.cell (by simp [go_sem, World.cell?_alloc_past]) (by simp)
    have hz0 := hg.size; simp at hz0
    replace hg := grown_trans hW3 hg
    replace ha := ha.keep hg; replace T := T.keep hg; replace TP := tp_keep TP hg
    have hW := hg
    clear hg HS hW3
    go_wp2_with fail
    refine (ratText_v T TP ha (by omega) (by omega)).mono ?_
    rintro e v1 ⟨rfl, hg⟩
    replace T := T.keep hg; replace TP := tp_keep TP hg; replace ha := ha.keep hg; replace x0 := hg.cell x0 (by simp); replace x1 := hg.cell x1 (by simp); replace x2 := hg.cell x2 (by simp); replace hW := grown_trans hW hg; clear hg
    go_wp2_with fail
    refine (HB.out _ T).mono ?_
    rintro e v2 ⟨g1, p1, n1, c1, q1, m1, d1, rfl, h1, hn1, hm1, hg⟩
    replace T := T.keep hg; replace TP := tp_keep TP hg; replace ha := ha.keep hg; replace x0 := hg.cell x0 (by simp); replace x1 := hg.cell x1 (by simp); replace x2 := hg.cell x2 (by simp); replace hW := grown_trans hW hg; clear hg
    have hg := World.grownBy_alloc v2 (.cells #[.bool g1, .slice p1 n1 c1, .slice q1 m1 d1] 27) none
    have hb := heap_alloc_new v2 (.cells #[.bool g1, .slice p1 n1 c1, .slice q1 m1 d1] 27)
    replace T := T.keep hg; replace TP := tp_keep TP hg; replace ha := ha.keep hg; replace h1 := h1.keep hg; replace x0 := hg.cell x0 (by simp); replace x1 := hg.cell x1 (by simp); replace x2 := hg.cell x2 (by simp); replace hW := grown_trans hW hg; clear hg
    obtain ⟨y0, y1, y2, yf0, yf1, yf2⟩ := ratbox_facts hb
    clear hb
    go_wp2_with fail
    generalize v2.alloc (.cells #[.bool g1, .slice p1 n1 c1, .slice q1 m1 d1] 27) = uy at *
    generalize v2.heap.size = Ky at *
    refine (ratMul_v 12 T ha ha (by omega) (by omega) (by omega) (by omega) (by omega)).mono ?_
    rintro e v3 ⟨g2, p2, n2, c2, q2, m2, d2, rfl, h2, hn2, hm2, hg⟩
    have hl2 := lim_q (k := 68) h2.q (by omega) (by omega) (by omega)
    replace T := T.keep hg; replace TP := tp_keep TP hg; replace ha := ha.keep hg; replace h1 := h1.keep hg; replace x0 := hg.cell x0 (by simp); replace x1 := hg.cell x1 (by simp); replace x2 := hg.cell x2 (by simp); replace y0 := hg.cell y0 (by simp); replace y1 := hg.cell y1 (by simp); replace y2 := hg.cell y2 (by simp); replace hW := grown_trans hW hg; clear hg
    go_wp2_with fail
    refine (ratSqrt_v T h2.q (by omega) (by omega)).mono ?_
    rintro e v4 ⟨g3, p3, n3, c3, q3, m3, d3, Z3, V3, ok3, rfl, h3, k3, hs, hg⟩
    obtain ⟨hn3, hm3⟩ := root_len hs h3 k3 hl2.1 hl2.2
    obtain ⟨rfl, hr⟩ := root_val hs
    have hx := isQ_mk h3 k3
    rw [hr] at hx
    clear hr hs h3 k3 hl2
    replace T := T.keep hg; replace TP := tp_keep TP hg; replace ha := ha.keep hg; replace h1 := h1.keep hg; replace h2 := h2.keep hg; replace x0 := hg.cell x0 (by simp); replace x1 := hg.cell x1 (by simp); replace x2 := hg.cell x2 (by simp); replace y0 := hg.cell y0 (by simp); replace y1 := hg.cell y1 (by simp); replace y2 := hg.cell y2 (by simp); replace hW := grown_trans hW hg; clear hg
    clear h2
    have hg := World.grownBy_alloc v4 (.cells #[.bool g3, .slice p3 n3 c3, .slice q3 m3 d3] 27) none
    have hb := heap_alloc_new v4 (.cells #[.bool g3, .slice p3 n3 c3, .slice q3 m3 d3] 27)
    replace T := T.keep hg; replace TP := tp_keep TP hg; replace ha := ha.keep hg; replace h1 := h1.keep hg; replace hx := hx.keep hg; replace x0 := hg.cell x0 (by simp); replace x1 := hg.cell x1 (by simp); replace x2 := hg.cell x2 (by simp); replace y0 := hg.cell y0 (by simp); replace y1 := hg.cell y1 (by simp); replace y2 := hg.cell y2 (by simp); replace hW := grown_trans hW hg; clear hg
    obtain ⟨r0, r1, r2, rf0, rf1, rf2⟩ := ratbox_facts hb
    clear hb
    have hsz : (v4.alloc (.cells #[.bool g3, .slice p3 n3 c3, .slice q3 m3 d3] 27)).heap.size = v4.heap.size + 1 := by simp
    have hg := World.grownBy_alloc (v4.alloc (.cells #[.bool g3, .slice p3 n3 c3, .slice q3 m3 d3] 27)) (.cells #[.bool ga, .slice sa na ca, .slice ta ma da] 27) none
    have bB := heap_alloc_new (v4.alloc (.cells #[.bool g3, .slice p3 n3 c3, .slice q3 m3 d3] 27)) (.cells #[.bool ga, .slice sa na ca, .slice ta ma da] 27)
    rw [hsz] at bB
    have e0 := x0; have e1 := x1; have e2 := x2
    replace T := T.keep hg; replace TP := tp_keep TP hg; replace ha := ha.keep hg; replace h1 := h1.keep hg; replace hx := hx.keep hg; replace x0 := hg.cell x0 (by simp); replace x1 := hg.cell x1 (by simp); replace x2 := hg.cell x2 (by simp); replace y0 := hg.cell y0 (by simp); replace y1 := hg.cell y1 (by simp); replace y2 := hg.cell y2 (by simp); replace r0 := hg.cell r0 (by simp); replace r1 := hg.cell r1 (by simp); replace r2 := hg.cell r2 (by simp); replace hW := grown_trans hW hg; clear hg
    obtain ⟨b0, b1, b2, bf0, bf1, bf2⟩ := ratbox_facts bB
    go_wp2_with fail
    generalize v4.alloc (.cells #[.bool g3, .slice p3 n3 c3, .slice q3 m3 d3] 27) = ur at *
    generalize v4.heap.size = Kr at *
    generalize ur.alloc (.cells #[.bool ga, .slice sa na ca, .slice ta ma da] 27) = ub at *
    clear e0 e1 e2
    refine (ratSign_v 12 ha (by omega) (by omega) (by omega)).mono ?_
    rintro e v5 ⟨rfl, hg⟩
    rw [HSG.out]
    replace T := T.keep hg; replace TP := tp_keep TP hg; replace ha := ha.keep hg; replace h1 := h1.keep hg; replace hx := hx.keep hg; replace x0 := hg.cell x0 (by simp); replace x1 := hg.cell x1 (by simp); replace x2 := hg.cell x2 (by simp); replace y0 := hg.cell y0 (by simp); replace y1 := hg.cell y1 (by simp); replace y2 := hg.cell y2 (by simp); replace r0 := hg.cell r0 (by simp); replace r1 := hg.cell r1 (by simp); replace r2 := hg.cell r2 (by simp); replace b0 := hg.cell b0 (by simp); replace b1 := hg.cell b1 (by simp); replace b2 := hg.cell b2 (by simp); replace bB := (hg.block _ (lt_of_block bB) (by simp)).trans bB; replace hW := grown_trans hW hg; clear hg
    go_wp2_with fail
    refine (ratRight_v 260 T h1 (by omega) (by omega) (by omega)).mono ?_
    rintro e v6 ⟨rfl, hg⟩
    replace T := T.keep hg; replace TP := tp_keep TP hg; replace ha := ha.keep hg; replace h1 := h1.keep hg; replace hx := hx.keep hg; replace x0 := hg.cell x0 (by simp); replace x1 := hg.cell x1 (by simp); replace x2 := hg.cell x2 (by simp); replace y0 := hg.cell y0 (by simp); replace y1 := hg.cell y1 (by simp); replace y2 := hg.cell y2 (by simp); replace r0 := hg.cell r0 (by simp); replace r1 := hg.cell r1 (by simp); replace r2 := hg.cell r2 (by simp); replace b0 := hg.cell b0 (by simp); replace b1 := hg.cell b1 (by simp); replace b2 := hg.cell b2 (by simp); replace hW := grown_trans hW hg; clear hg
    go_wp2_with fail
    refine (ratEqual_v 260 h1.q ha (by omega) (by omega) (by omega) (by omega) (by omega)).mono ?_
    rintro e v7 ⟨rfl, hg⟩
    rw [decide_eq_true (rfl : A = A)]
    replace T := T.keep hg; replace TP := tp_keep TP hg; replace ha := ha.keep hg; replace h1 := h1.keep hg; replace hx := hx.keep hg; replace x0 := hg.cell x0 (by simp); replace x1 := hg.cell x1 (by simp); replace x2 := hg.cell x2 (by simp); replace y0 := hg.cell y0 (by simp); replace y1 := hg.cell y1 (by simp); replace y2 := hg.cell y2 (by simp); replace r0 := hg.cell r0 (by simp); replace r1 := hg.cell r1 (by simp); replace r2 := hg.cell r2 (by simp); replace b0 := hg.cell b0 (by simp); replace b1 := hg.cell b1 (by simp); replace b2 := hg.cell b2 (by simp); replace hW := grown_trans hW hg; clear hg
    go_wp2_with fail
    refine (ratEqual_v 260 hx ha (by omega) (by omega) (by omega) (by omega) (by omega)).mono ?_
    rintro e v8 ⟨rfl, hg⟩
    rw [HEA.out]
    replace T := T.keep hg; replace TP := tp_keep TP hg; replace ha := ha.keep hg; replace h1 := h1.keep hg; replace hx := hx.keep hg; replace x0 := hg.cell x0 (by simp); replace x1 := hg.cell x1 (by simp); replace x2 := hg.cell x2 (by simp); replace y0 := hg.cell y0 (by simp); replace y1 := hg.cell y1 (by simp); replace y2 := hg.cell y2 (by simp); replace r0 := hg.cell r0 (by simp); replace r1 := hg.cell r1 (by simp); replace r2 := hg.cell r2 (by simp); replace b0 := hg.cell b0 (by simp); replace b1 := hg.cell b1 (by simp); replace b2 := hg.cell b2 (by simp); replace hW := grown_trans hW hg; clear hg
    go_wp2_with fail
    refine (ratSqrt_v T ha (by omega) (by omega)).mono ?_
    rintro e v9 ⟨g6, p6, n6, c6, q6, m6, d6, Z6, V6, ok6, rfl, h6, k6, hs, hg⟩
    obtain ⟨hn6, hm6⟩ := root_len hs h6 k6 HL.out.1 HL.out.2
    have hy := isQ_mk h6 k6
    clear h6 k6
    replace T := T.keep hg; replace TP := tp_keep TP hg; replace ha := ha.keep hg; replace h1 := h1.keep hg; replace hx := hx.keep hg; replace x0 := hg.cell x0 (by simp); replace x1 := hg.cell x1 (by simp); replace x2 := hg.cell x2 (by simp); replace y0 := hg.cell y0 (by simp); replace y1 := hg.cell y1 (by simp); replace y2 := hg.cell y2 (by simp); replace r0 := hg.cell r0 (by simp); replace r1 := hg.cell r1 (by simp); replace r2 := hg.cell r2 (by simp); replace b0 := hg.cell b0 (by simp); replace b1 := hg.cell b1 (by simp); replace b2 := hg.cell b2 (by simp); replace hW := grown_trans hW hg; clear hg
    have hg := World.grownBy_alloc v9 (.cells #[.bool g6, .slice p6 n6 c6, .slice q6 m6 d6] 27) none
    have hb := heap_alloc_new v9 (.cells #[.bool g6, .slice p6 n6 c6, .slice q6 m6 d6] 27)
    replace T := T.keep hg; replace TP := tp_keep TP hg; replace ha := ha.keep hg; replace h1 := h1.keep hg; replace hx := hx.keep hg; replace hy := hy.keep hg; replace x0 := hg.cell x0 (by simp); replace x1 := hg.cell x1 (by simp); replace x2 := hg.cell x2 (by simp); replace y0 := hg.cell y0 (by simp); replace y1 := hg.cell y1 (by simp); replace y2 := hg.cell y2 (by simp); replace r0 := hg.cell r0 (by simp); replace r1 := hg.cell r1 (by simp); replace r2 := hg.cell r2 (by simp); replace b0 := hg.cell b0 (by simp); replace b1 := hg.cell b1 (by simp); replace b2 := hg.cell b2 (by simp); replace hW := grown_trans hW hg; clear hg
    obtain ⟨u0, u1, u2, uf0, uf1, uf2⟩ := ratbox_facts hb
    clear hb
    cases ok6
    · skip
      clear hs
      go_upto_region 11 with fail
      generalize v9.alloc (.cells #[.bool g6, .slice p6 n6 c6, .slice q6 m6 d6] 27) = uu at *
      generalize v9.heap.size = Ku at *
      have hg := grown_drew uu none
      replace T := T.keep hg; replace TP := tp_keep TP hg; replace ha := ha.keep hg; replace h1 := h1.keep hg; replace hx := hx.keep hg; replace hy := hy.keep hg; replace x0 := hg.cell x0 (by simp); replace x1 := hg.cell x1 (by simp); replace x2 := hg.cell x2 (by simp); replace y0 := hg.cell y0 (by simp); replace y1 := hg.cell y1 (by simp); replace y2 := hg.cell y2 (by simp); replace r0 := hg.cell r0 (by simp); replace r1 := hg.cell r1 (by simp); replace r2 := hg.cell r2 (by simp); replace b0 := hg.cell b0 (by simp); replace b1 := hg.cell b1 (by simp); replace b2 := hg.cell b2 (by simp); replace u0 := hg.cell u0 (by simp); replace u1 := hg.cell u1 (by simp); replace u2 := hg.cell u2 (by simp); replace hW := grown_trans hW hg; clear hg
      refine wp_region_held_drew (S := fun _ => True) (by kernel_rfl) trivial (fun hHeld => ?_)
      (refine wpAnyH_take (i := 0) (oi := Oper.mk _ _ _ _ _ _) (v := ?_) rfl (by kernel_rfl) (by kernel_rfl) (by kernel_rfl) (fun _ _ _ h => h) (Or.inl ⟨by kernel_rfl, ?_⟩) trivial ?_; rotate_left 1; focus (intro w hSw; go_simp; (try (with_reducible rfl)); done); (try simp only [Act.put, List.setIfInBounds_toArray, List.set_cons_zero, List.set_cons_succ]))
      (refine wpAnyH_take (i := 1) (oi := Oper.mk _ _ _ _ _ _) (v := ?_) rfl (by kernel_rfl) (by kernel_rfl) (by kernel_rfl) (fun _ _ _ h => h) (Or.inl ⟨by kernel_rfl, ?_⟩) trivial ?_; rotate_left 1; focus (intro w hSw; go_simp; (try (with_reducible rfl)); done); (try simp only [Act.put, List.setIfInBounds_toArray, List.set_cons_zero, List.set_cons_succ]))
      (refine wpAnyH_take (i := 2) (oi := Oper.mk _ _ _ _ _ _) (v := ?_) rfl (by kernel_rfl) (by kernel_rfl) (by kernel_rfl) (fun _ _ _ h => h) (Or.inl ⟨by kernel_rfl, ?_⟩) trivial ?_; rotate_left 1; focus (intro w hSw; go_simp; (try (with_reducible rfl)); done); (try simp only [Act.put, List.setIfInBounds_toArray, List.set_cons_zero, List.set_cons_succ]))
      (refine wpAnyH_take (i := 3) (oi := Oper.mk _ _ _ _ _ _) (v := undef) rfl (by kernel_rfl) (by kernel_rfl) (by kernel_rfl) (fun _ _ _ h => h) (Or.inr ⟨by kernel_rfl, rfl⟩) trivial ?_; (try simp only [Act.put, List.setIfInBounds_toArray, List.set_cons_zero, List.set_cons_succ]))
      (refine wpAnyH_take (i := 4) (oi := Oper.mk _ _ _ _ _ _) (v := undef) rfl (by kernel_rfl) (by kernel_rfl) (by kernel_rfl) (fun _ _ _ h => h) (Or.inr ⟨by kernel_rfl, rfl⟩) trivial ?_; (try simp only [Act.put, List.setIfInBounds_toArray, List.set_cons_zero, List.set_cons_succ]))
      (refine wpAnyH_take (i := 5) (oi := Oper.mk _ _ _ _ _ _) (v := undef) rfl (by kernel_rfl) (by kernel_rfl) (by kernel_rfl) (fun _ _ _ h => h) (Or.inr ⟨by kernel_rfl, rfl⟩) trivial ?_; (try simp only [Act.put, List.setIfInBounds_toArray, List.set_cons_zero, List.set_cons_succ]))
      (refine wpAnyH_take (i := 6) (oi := Oper.mk _ _ _ _ _ _) (v := undef) rfl (by kernel_rfl) (by kernel_rfl) (by kernel_rfl) (fun _ _ _ h => h) (Or.inr ⟨by kernel_rfl, rfl⟩) trivial ?_; (try simp only [Act.put, List.setIfInBounds_toArray, List.set_cons_zero, List.set_cons_succ]))
      (refine wpAnyH_take (i := 7) (oi := Oper.mk _ _ _ _ _ _) (v := undef) rfl (by kernel_rfl) (by kernel_rfl) (by kernel_rfl) (fun _ _ _ h => h) (Or.inr ⟨by kernel_rfl, rfl⟩) trivial ?_; (try simp only [Act.put, List.setIfInBounds_toArray, List.set_cons_zero, List.set_cons_succ]))
      (refine wpAnyH_take (i := 8) (oi := Oper.mk _ _ _ _ _ _) (v := undef) rfl (by kernel_rfl) (by kernel_rfl) (by kernel_rfl) (fun _ _ _ h => h) (Or.inr ⟨by kernel_rfl, rfl⟩) trivial ?_; (try simp only [Act.put, List.setIfInBounds_toArray, List.set_cons_zero, List.set_cons_succ]))
      (refine wpAnyH_take (i := 9) (oi := Oper.mk _ _ _ _ _ _) (v := undef) rfl (by kernel_rfl) (by kernel_rfl) (by kernel_rfl) (fun _ _ _ h => h) (Or.inr ⟨by kernel_rfl, rfl⟩) trivial ?_; (try simp only [Act.put, List.setIfInBounds_toArray, List.set_cons_zero, List.set_cons_succ]))
      (refine wpAnyH_take (i := 10) (oi := Oper.mk _ _ _ _ _ _) (v := undef) rfl (by kernel_rfl) (by kernel_rfl) (by kernel_rfl) (fun _ _ _ h => h) (Or.inr ⟨by kernel_rfl, rfl⟩) trivial ?_; (try simp only [Act.put, List.setIfInBounds_toArray, List.set_cons_zero, List.set_cons_succ]))
      (refine wpAnyH_take (i := 11) (oi := Oper.mk _ _ _ _ _ _) (v := undef) rfl (by kernel_rfl) (by kernel_rfl) (by kernel_rfl) (fun _ _ _ h => h) (Or.inr ⟨by kernel_rfl, rfl⟩) trivial ?_; (try simp only [Act.put, List.setIfInBounds_toArray, List.set_cons_zero, List.set_cons_succ]))
      (refine wpAnyH_take (i := 12) (oi := Oper.mk _ _ _ _ _ _) (v := undef) rfl (by kernel_rfl) (by kernel_rfl) (by kernel_rfl) (fun _ _ _ h => h) (Or.inr ⟨by kernel_rfl, rfl⟩) trivial ?_; (try simp only [Act.put, List.setIfInBounds_toArray, List.set_cons_zero, List.set_cons_succ]))
      (refine wpAnyH_take (i := 13) (oi := Oper.mk _ _ _ _ _ _) (v := ?_) rfl (by kernel_rfl) (by kernel_rfl) (by kernel_rfl) (fun _ _ _ h => h) (Or.inl ⟨by kernel_rfl, ?_⟩) trivial ?_; rotate_left 1; focus (intro w hSw; go_simp; (try (with_reducible rfl)); done); (try simp only [Act.put, List.setIfInBounds_toArray, List.set_cons_zero, List.set_cons_succ]))
      (refine wpAnyH_take (i := 14) (oi := Oper.mk _ _ _ _ _ _) (v := ?_) rfl (by kernel_rfl) (by kernel_rfl) (by kernel_rfl) (fun _ _ _ h => h) (Or.inl ⟨by kernel_rfl, ?_⟩) trivial ?_; rotate_left 1; focus (intro w hSw; go_simp; (try (with_reducible rfl)); done); (try simp only [Act.put, List.setIfInBounds_toArray, List.set_cons_zero, List.set_cons_succ]))
      refine wpAnyH_ready (rs := [15]) (by kernel_rfl) (by simp) ?_
      refine AllReadyH.cons (o := Oper.mk _ _ _ _ _ _) rfl (fun K hK => ?_) AllReadyH.nil
      (try rw [if_pos (by kernel_rfl)])
      (first | (go_at_call 6; (with_reducible refine (alive3 T).mono ?_); rintro e vE ⟨rfl, hg⟩; replace hW := grown_trans hW hg; clear hg) | (go_simp; (go_at_call 6; (with_reducible refine (alive3 T).mono ?_); rintro e vE ⟨rfl, hg⟩; replace hW := grown_trans hW hg; clear hg)))
      refine hK.out _ _ trivial (fun _ => ?_)
      clear hK K
      (try simp only [Act.put, List.setIfInBounds_toArray, List.set_cons_zero, List.set_cons_succ])
      (refine wpAnyH_take (i := 16) (oi := Oper.mk _ _ _ _ _ _) (v := ?_) rfl (by kernel_rfl) (by kernel_rfl) (by kernel_rfl) (fun _ _ _ h => h) (Or.inl ⟨by kernel_rfl, ?_⟩) trivial ?_; rotate_left 1; focus (intro w hSw; go_simp; (try (with_reducible rfl)); done); (try simp only [Act.put, List.setIfInBounds_toArray, List.set_cons_zero, List.set_cons_succ]))
      (refine wpAnyH_take (i := 17) (oi := Oper.mk _ _ _ _ _ _) (v := ?_) rfl (by kernel_rfl) (by kernel_rfl) (by kernel_rfl) (fun _ _ _ h => h) (Or.inl ⟨by kernel_rfl, ?_⟩) trivial ?_; rotate_left 1; focus (intro w hSw; go_simp; (try (with_reducible rfl)); done); (try simp only [Act.put, List.setIfInBounds_toArray, List.set_cons_zero, List.set_cons_succ]))
      refine wpAnyH_done (by kernel_rfl) ?_ _
      all_goals go_wp2_with fail
      all_goals go_ret
      all_goals exact ⟨rfl, hW⟩
    · skip
      obtain ⟨hp6, hq6⟩ := root_sq hs
      have HQ := hid hq6
      obtain ⟨sY, hsY, hsYe⟩ : ∃ sY : Int, 0 ≤ sY ∧ cmpR (mkRat Z6 V6) 0 = sY := ⟨_, by unfold cmpR; rw [if_neg (by grind)]; split <;> omega, rfl⟩
      have HSY := hid hsYe
      clear hs hp6 hq6 hsYe
      generalize mkRat Z6 V6 = Y at *
      go_upto_region 11 with fail
      generalize v9.alloc (.cells #[.bool g6, .slice p6 n6 c6, .slice q6 m6 d6] 27) = uu at *
      generalize v9.heap.size = Ku at *
      have hg := grown_drew uu none
      replace T := T.keep hg; replace TP := tp_keep TP hg; replace ha := ha.keep hg; replace h1 := h1.keep hg; replace hx := hx.keep hg; replace hy := hy.keep hg; replace x0 := hg.cell x0 (by simp); replace x1 := hg.cell x1 (by simp); replace x2 := hg.cell x2 (by simp); replace y0 := hg.cell y0 (by simp); replace y1 := hg.cell y1 (by simp); replace y2 := hg.cell y2 (by simp); replace r0 := hg.cell r0 (by simp); replace r1 := hg.cell r1 (by simp); replace r2 := hg.cell r2 (by simp); replace b0 := hg.cell b0 (by simp); replace b1 := hg.cell b1 (by simp); replace b2 := hg.cell b2 (by simp); replace u0 := hg.cell u0 (by simp); replace u1 := hg.cell u1 (by simp); replace u2 := hg.cell u2 (by simp); replace hW := grown_trans hW hg; clear hg
      go_region_held3 (fun w' => w'.cell? ⟨w.heap.size, 0, none⟩ = some (.bool ga) ∧ w'.cell? ⟨w.heap.size, 1, none⟩ = some (.slice sa na ca) ∧ w'.cell? ⟨w.heap.size, 2, none⟩ = some (.slice ta ma da) ∧ w'.cell? ⟨Ky, 0, none⟩ = some (.bool g1) ∧ w'.cell? ⟨Ky, 1, none⟩ = some (.slice p1 n1 c1) ∧ w'.cell? ⟨Ky, 2, none⟩ = some (.slice q1 m1 d1) ∧ w'.cell? ⟨Kr, 0, none⟩ = some (.bool g3) ∧ w'.cell? ⟨Kr, 1, none⟩ = some (.slice p3 n3 c3) ∧ w'.cell? ⟨Kr, 2, none⟩ = some (.slice q3 m3 d3) ∧ w'.cell? ⟨Kr + 1, 0, none⟩ = some (.bool ga) ∧ w'.cell? ⟨Kr + 1, 1, none⟩ = some (.slice sa na ca) ∧ w'.cell? ⟨Kr + 1, 2, none⟩ = some (.slice ta ma da) ∧ w'.cell? ⟨Ku, 0, none⟩ = some (.bool g6) ∧ w'.cell? ⟨Ku, 1, none⟩ = some (.slice p6 n6 c6) ∧ w'.cell? ⟨Ku, 2, none⟩ = some (.slice q6 m6 d6)) ((try go_split_ands) <;> (repeat' apply And.intro) <;> (repeat (first | (with_reducible assumption) | (with_reducible refine (grown_setCell _ _ _).cell ?_ (by simp; omega)) | (with_reducible refine (World.grownBy_alloc _ _ none).cell ?_ (by simp)) | (with_reducible refine (grown_drew _ none).cell ?_ (by simp)))))
        (first
          | (go_at_call 14; (with_reducible refine (ratSign_v 12 hy (by omega) (by omega) (by omega)).mono ?_); rintro e v10 ⟨rfl, hg⟩; rw [HSY.out]; replace T := T.keep hg; replace TP := tp_keep TP hg; replace ha := ha.keep hg; replace h1 := h1.keep hg; replace hx := hx.keep hg; replace hy := hy.keep hg; replace x0 := hg.cell x0 (by simp); replace x1 := hg.cell x1 (by simp); replace x2 := hg.cell x2 (by simp); replace y0 := hg.cell y0 (by simp); replace y1 := hg.cell y1 (by simp); replace y2 := hg.cell y2 (by simp); replace r0 := hg.cell r0 (by simp); replace r1 := hg.cell r1 (by simp); replace r2 := hg.cell r2 (by simp); replace b0 := hg.cell b0 (by simp); replace b1 := hg.cell b1 (by simp); replace b2 := hg.cell b2 (by simp); replace u0 := hg.cell u0 (by simp); replace u1 := hg.cell u1 (by simp); replace u2 := hg.cell u2 (by simp); replace hW := grown_trans hW hg; clear hg)
          | (go_at_call 13; (with_reducible refine (ratMul_v 12 T hy hy (by omega) (by omega) (by omega) (by omega) (by omega)).mono ?_); rintro e v11 ⟨g8, p8, n8, c8, q8, m8, d8, rfl, h8, hn8, hm8, hg⟩; rw [HQ.out] at h8; replace T := T.keep hg; replace TP := tp_keep TP hg; replace ha := ha.keep hg; replace h1 := h1.keep hg; replace hx := hx.keep hg; replace hy := hy.keep hg; replace x0 := hg.cell x0 (by simp); replace x1 := hg.cell x1 (by simp); replace x2 := hg.cell x2 (by simp); replace y0 := hg.cell y0 (by simp); replace y1 := hg.cell y1 (by simp); replace y2 := hg.cell y2 (by simp); replace r0 := hg.cell r0 (by simp); replace r1 := hg.cell r1 (by simp); replace r2 := hg.cell r2 (by simp); replace b0 := hg.cell b0 (by simp); replace b1 := hg.cell b1 (by simp); replace b2 := hg.cell b2 (by simp); replace u0 := hg.cell u0 (by simp); replace u1 := hg.cell u1 (by simp); replace u2 := hg.cell u2 (by simp); replace hW := grown_trans hW hg; clear hg)
          | (go_at_call 17; (with_reducible refine (ratEqual_v 68 h8.q ha (by omega) (by omega) (by omega) (by omega) (by omega)).mono ?_); rintro e v12 ⟨rfl, hg⟩; rw [decide_eq_true (rfl : A = A)]; replace T := T.keep hg; replace TP := tp_keep TP hg; replace ha := ha.keep hg; replace h1 := h1.keep hg; replace hx := hx.keep hg; replace hy := hy.keep hg; replace h8 := h8.keep hg; replace x0 := hg.cell x0 (by simp); replace x1 := hg.cell x1 (by simp); replace x2 := hg.cell x2 (by simp); replace y0 := hg.cell y0 (by simp); replace y1 := hg.cell y1 (by simp); replace y2 := hg.cell y2 (by simp); replace r0 := hg.cell r0 (by simp); replace r1 := hg.cell r1 (by simp); replace r2 := hg.cell r2 (by simp); replace b0 := hg.cell b0 (by simp); replace b1 := hg.cell b1 (by simp); replace b2 := hg.cell b2 (by simp); replace u0 := hg.cell u0 (by simp); replace u1 := hg.cell u1 (by simp); replace u2 := hg.cell u2 (by simp); replace hW := grown_trans hW hg; clear hg)
          | (go_at_call 6; (with_reducible refine (alive3 T).mono ?_); rintro e v13 ⟨rfl, hg⟩; replace T := T.keep hg; replace TP := tp_keep TP hg; replace ha := ha.keep hg; replace h1 := h1.keep hg; replace hx := hx.keep hg; replace hy := hy.keep hg; replace h8 := h8.keep hg; replace x0 := hg.cell x0 (by simp); replace x1 := hg.cell x1 (by simp); replace x2 := hg.cell x2 (by simp); replace y0 := hg.cell y0 (by simp); replace y1 := hg.cell y1 (by simp); replace y2 := hg.cell y2 (by simp); replace r0 := hg.cell r0 (by simp); replace r1 := hg.cell r1 (by simp); replace r2 := hg.cell r2 (by simp); replace b0 := hg.cell b0 (by simp); replace b1 := hg.cell b1 (by simp); replace b2 := hg.cell b2 (by simp); replace u0 := hg.cell u0 (by simp); replace u1 := hg.cell u1 (by simp); replace u2 := hg.cell u2 (by simp); replace hW := grown_trans hW hg; clear hg))
      go_wp2_with fail
      go_ret
      exact ⟨rfl, hW⟩

theorem rationalBack_door (os : Os) (args : Array Value) : laidMetH Tryz.prog [("math/bits.deBruijn32tab", Rows.laid_math_bits_deBruijn32tab), ("math/bits.deBruijn64tab", Rows.laid_math_bits_deBruijn64tab), ("internal/strconv.uint64pow10", Rows.laid_internal_strconv_uint64pow10), ("strconv.ErrRange", Rows.laid_strconv_ErrRange), ("strconv.ErrSyntax", Rows.laid_strconv_ErrSyntax)] ((World.doorLaid Tryz.prog 400 os).forCall (fun _ _ => 0) ⟨#[], args, []⟩).memory :=
  laidMetH_of_parts3 (fuel := 8) (laidMet_of_run' 8 (by kernel_rfl) (by kernel_rfl)) (by kernel_rfl) (by kernel_rfl)

set_option maxRecDepth 100000 in
theorem rationalBack_lifted (os : Os) (started : os.Started) (H : Type) (enc : TypeId × Value → H) :
    ReturnsInHanded {} Tryz.checked os 4 .any (fun w args => (Rows.rationalBackSpec.pre enc Tryz.prog Tryz.f4 [] false w args ∧ laidMetH Tryz.prog [("math/bits.deBruijn32tab", Rows.laid_math_bits_deBruijn32tab), ("math/bits.deBruijn64tab", Rows.laid_math_bits_deBruijn64tab), ("internal/strconv.uint64pow10", Rows.laid_internal_strconv_uint64pow10), ("strconv.ErrRange", Rows.laid_strconv_ErrRange), ("strconv.ErrSyntax", Rows.laid_strconv_ErrSyntax)] w) ∧ sizedMet enc Tryz.prog Tryz.f4 (OpenSpec.ofChange Rows.rationalBackSpec) false w args)
      (Rows.rationalBackSpec.post enc Tryz.prog Tryz.f4 false true false false) := by
  refine returnsInHanded_of_change_and (C := Tryz.checked) (X := fun w _ => laidMetH Tryz.prog [("math/bits.deBruijn32tab", Rows.laid_math_bits_deBruijn32tab), ("math/bits.deBruijn64tab", Rows.laid_math_bits_deBruijn64tab), ("internal/strconv.uint64pow10", Rows.laid_internal_strconv_uint64pow10), ("strconv.ErrRange", Rows.laid_strconv_ErrRange), ("strconv.ErrSyntax", Rows.laid_strconv_ErrSyntax)] w) (fun _ _ _ hh h => h.of_heap hh) own1 started (by kernel_rfl) Tryz.func4
    (ChangeSpec.witness_shaped (enc := enc) (C := Tryz.checked) (os := os) (X := fun w _ => laidMetH Tryz.prog [("math/bits.deBruijn32tab", Rows.laid_math_bits_deBruijn32tab), ("math/bits.deBruijn64tab", Rows.laid_math_bits_deBruijn64tab), ("internal/strconv.uint64pow10", Rows.laid_internal_strconv_uint64pow10), ("strconv.ErrRange", Rows.laid_strconv_ErrRange), ("strconv.ErrSyntax", Rows.laid_strconv_ErrSyntax)] w) false (World.doorLaid Tryz.prog 400 os) #[.agg #[.bool false, .slice none 0 0, .slice none 0 0]] 8 rfl (World.shaped_of_RefB (by kernel_rfl) (by kernel_rfl)) (by kernel_rfl) (by kernel_rfl) (by kernel_rfl) (rationalBack_door os _)) ?_
  intro W base args ds gs before hval0 hW _ _ hL _
  have hval : ∀ (j : Nat) t v, Tryz.f4.params[j]? = some t → args[j]? = some v → Value.okWide Tryz.prog W .any base t v := hval0
  have hW' := hW
  obtain ⟨p, q, hA0, hV, rfl, hfz, hnd⟩ := hW
  have hA : DataW.TrodAll enc Tryz.prog W 0 (fun _ => true) true Tryz.f4.params.toList args.toList ds p := hA0
  rw [Tryz.params4] at hA hval
  obtain ⟨v0, d0, rfl, rfl, h0⟩ := trodAll_one hA
  obtain ⟨rfl, rfl⟩ := trodVars_none hV
  have hlt : ∀ x ∈ p, x.block < W.heap.size := fun x hx => hW'.lt x (by simpa using hx)
  obtain ⟨g0, a, n, c, xs, a', n', c', xs', rfl, hr0, hx0, hs0, hy0⟩ := open_Rat (hval 0 27 v0 rfl rfl) h0
  refine (rationalBack_walk g0 a a' n c n' c' _ W (tb_of_laid5 hL) (tp_of_laid hL) (IsQ.of g0 hr0 hx0 hs0 hy0)).mono fun e W' ⟨he, hg⟩ => ?_
  subst he
  have hB := grown_below hg
  exact ⟨_, rfl, _, _, _, [], _, [], hW', trodAll_mk1 (shut_bool Tryz.underlying4 true),
    trodAll_mk1 (Below.trod laidOut1 readRat rowRat h0 hB fun x hx => hlt x (by simp [hx])), rfl, hB.frame _, fun h => by cases h⟩

theorem rationalBack_holds : Rows.RationalBackSaid :=
  OpenClaim.holds_of_wide 4 Tryz.f4 rfl rfl rfl rfl rfl rfl rfl ⟨rfl, rfl, rfl, rfl, rfl⟩ rfl rfl rfl rfl rfl (by kernel_rfl) Tryz.func4 (by kernel_rfl)
    (of_decide_eq_true (by kernel_rfl)) (by unfold Func.isWrapper; first | (rw [if_pos (by decide +kernel)]; kernel_rfl) | (rw [if_neg (by decide +kernel)]; exact ⟨rfl, rfl⟩))
    (fun os started H enc _ => rationalBack_lifted os started H enc)

theorem rationalBack_card : Rows.RationalBackCardSaid :=
  Claim7.holds_tied_plain_at .later [] [.data, .data, .data, .sentinel, .sentinel] true _ true
    rationalBack_holds (fun _ h => by cases h) (by kernel_rfl) (fun _ h => by cases h) rationalBack_row_tie rfl ⟨rfl, rfl⟩ (by kernel_rfl) rfl
    (fun f fn hf hfn => by
      obtain rfl : f = 4 := Option.some.inj ((show Tryz.prog.funcNamed "geoprover/geoproverlaw03.RationalBack" = some 4 by kernel_rfl).symm.trans hf) |>.symm
      obtain rfl : fn = Tryz.f4 := (Option.some.inj (Tryz.func4.symm.trans hfn)).symm
      exact ⟨by kernel_rfl, fun j t ht => by
        rw [Tryz.params4] at ht
        have hm : t ∈ [27] := by simpa using Array.mem_of_getElem? ht
        have hall : ([27].all fun u => !Tryz.prog.wantsStandIn u) = true := by kernel_rfl
        exact (show Tryz.prog.wantsStandIn t = false by simpa using List.all_eq_true.1 hall t hm)⟩)
    (by kernel_rfl)

end Go.Proofs.YtkggoniecmlglaaGreatDoor
