/-
  Qread, in one text.
-/
import Derived.Test.YtkggoniecmlglaaGreatDoorMrT
import Derived.Test.YtkggoniecmlglaaGreatDoorShelfC
import Derived.Test.YtkggoniecmlglaaGreatDoorMrF
import Derived.Test.YtkggoniecmlglaaGreatDoorMrO
import Derived.Test.YtkggoniecmlglaaGreatDoorMrR
import Derived.Deep.RegionHeld3
import Derived.Deep.DeepCutAuto

set_option linter.unusedVariables false
set_option linter.unusedSimpArgs false
namespace Go.Proofs.YtkggoniecmlglaaGreatDoor
open Go.RowKit _root_.Nm

/-- the error of reading a rational number -/
def rqE (l : List UInt8) : Nat := if riE (cuB l) ≠ 0 then riE (cuB l) else if cuF l = true then (if rdE (cuA l) ≠ 0 then rdE (cuA l) else if rdV (cuA l) = 0 then 3 else 0) else 0
/-- the denominator that is read -/
def rqD (l : List UInt8) : Nat := if cuF l = true then rdV (cuA l) else 1
/-- the number that is read -/
def rqV (l : List UInt8) : Rat := mkRat (riV (cuB l)) (rqD l)

theorem cuA_len (l : List UInt8) : (cuA l).length ≤ l.length := by unfold cuA; simp
theorem div_mk (N : Int) (D : Nat) : (N : Rat) / ((D : Int) : Rat) = mkRat N D := by
  rw [Rat.mkRat_eq_div]; rfl
theorem isZ_nat {w : World} {p : Option Addr} {n c D : Nat} (h : IsC w p n c D) : IsZ w false p n c (D : Int) := ⟨by simpa using h.isN, by simp [sg]⟩
theorem natOne (w : World) : Calls Tryz.prog 22 #[.int .u64 1] w fun e w' => ∃ p n c, e = .returned (.slice p n c) ∧ IsC w' p n c 1 ∧ n ≤ 4 ∧ w.grownBy w' none :=
  (of_any 1 (by decide) w).mono fun e w' ⟨a', c', he, hr, hg⟩ => ⟨a', _, c', he, hr, dg_length_le (by omega) (by decide), hg⟩

section
variable {s : ByteArray} {l : List UInt8}
theorem cutQ (hl : s.data.toList = l) (hmax : s.size ≤ 2000000) (w : World) :
    Calls Tryz.prog 20 #[.string s, .string ⟨#[47]⟩] w fun e w' => e = .returned (.tuple #[str (cuB l), str (cuA l), .bool (cuF l)]) ∧ w.grownBy w' none := cut_any s l hl (by omega) w
theorem iRd_ok (t : List UInt8) (ht : t.length ≤ 2000000) (w : World) (h : riE t = 0) :
    Calls Tryz.prog 21 #[str t] w fun e w' => ∃ g p n c, e = .returned (.tuple #[.agg #[.bool g, .slice p n c], .int .i64 0]) ∧ IsI w' g p n c (riV t) ∧ n ≤ 250 ∧ w.grownBy w' none :=
  (intRead_any ⟨t.toArray⟩ t rfl (by rw [Lib.size_eq]; show t.length ≤ _; omega) w).mono fun e w' ⟨g, p, n, c, he, h1, h2, h3⟩ => ⟨g, p, n, c, by rw [h] at he; exact he, h1, h2, h3⟩
theorem iRd_bad (t : List UInt8) (ht : t.length ≤ 2000000) (w : World) :
    Calls Tryz.prog 21 #[str t] w fun e w' => ∃ g p n c, e = .returned (.tuple #[.agg #[.bool g, .slice p n c], .int .i64 (riE t : Nat)]) ∧ w.grownBy w' none :=
  (intRead_any ⟨t.toArray⟩ t rfl (by rw [Lib.size_eq]; show t.length ≤ _; omega) w).mono fun e w' ⟨g, p, n, c, he, h1, h2, h3⟩ => ⟨g, p, n, c, he, h3⟩
theorem nRd_ok (t : List UInt8) (ht : t.length ≤ 2000000) (w : World) (h : rdE t = 0) :
    Calls Tryz.prog 23 #[str t] w fun e w' => ∃ p n c, e = .returned (.tuple #[.slice p n c, .int .i64 0]) ∧ IsC w' p n c (rdV t) ∧ n ≤ 250 ∧ w.grownBy w' none :=
  (natRead_any ⟨t.toArray⟩ t rfl (by rw [Lib.size_eq]; show t.length ≤ _; omega) w).mono fun e w' ⟨p, n, c, he, h1, h2, h3⟩ => ⟨p, n, c, by rw [h] at he; exact he, h1, h2, h3⟩
theorem nRd_bad (t : List UInt8) (ht : t.length ≤ 2000000) (w : World) :
    Calls Tryz.prog 23 #[str t] w fun e w' => ∃ p n c, e = .returned (.tuple #[.slice p n c, .int .i64 (rdE t : Nat)]) ∧ w.grownBy w' none :=
  (natRead_any ⟨t.toArray⟩ t rfl (by rw [Lib.size_eq]; show t.length ≤ _; omega) w).mono fun e w' ⟨p, n, c, he, h1, h2, h3⟩ => ⟨p, n, c, he, h3⟩
theorem riRd_ok (t : List UInt8) (ht : t.length ≤ 2000000) (w : World) (h : riE t = 0) :
    Calls Tryz.prog 25 #[str t] w fun e w' => ∃ g p n c, e = .returned (.tuple #[.agg #[.bool g, .slice p n c], .int .i64 0]) ∧ IsI w' g p n c (riV t) ∧ n ≤ 250 ∧ w.grownBy w' none :=
  (rRead_any ⟨t.toArray⟩ t rfl (by rw [Lib.size_eq]; show t.length ≤ _; omega) w).mono fun e w' ⟨g, p, n, c, he, h1, h2, h3⟩ => ⟨g, p, n, c, by rw [h] at he; exact he, h1, h2, h3⟩
theorem riRd_bad (t : List UInt8) (ht : t.length ≤ 2000000) (w : World) :
    Calls Tryz.prog 25 #[str t] w fun e w' => ∃ g p n c, e = .returned (.tuple #[.agg #[.bool g, .slice p n c], .int .i64 (riE t : Nat)]) ∧ w.grownBy w' none :=
  (rRead_any ⟨t.toArray⟩ t rfl (by rw [Lib.size_eq]; show t.length ≤ _; omega) w).mono fun e w' ⟨g, p, n, c, he, h1, h2, h3⟩ => ⟨g, p, n, c, he, h3⟩
theorem nrRd_ok (t : List UInt8) (ht : t.length ≤ 2000000) (w : World) (h : rdE t = 0) :
    Calls Tryz.prog 28 #[str t] w fun e w' => ∃ p n c, e = .returned (.tuple #[.slice p n c, .int .i64 0]) ∧ IsC w' p n c (rdV t) ∧ n ≤ 250 ∧ w.grownBy w' none :=
  (refRead_any ⟨t.toArray⟩ t rfl (by rw [Lib.size_eq]; show t.length ≤ _; omega) w).mono fun e w' ⟨p, n, c, he, h1, h2, h3⟩ => ⟨p, n, c, by rw [h] at he; exact he, h1, h2, h3⟩
theorem nrRd_bad (t : List UInt8) (ht : t.length ≤ 2000000) (w : World) :
    Calls Tryz.prog 28 #[str t] w fun e w' => ∃ p n c, e = .returned (.tuple #[.slice p n c, .int .i64 (rdE t : Nat)]) ∧ w.grownBy w' none :=
  (refRead_any ⟨t.toArray⟩ t rfl (by rw [Lib.size_eq]; show t.length ≤ _; omega) w).mono fun e w' ⟨p, n, c, he, h1, h2, h3⟩ => ⟨p, n, c, he, h3⟩
end

set_option maxHeartbeats 2000000 in
theorem ratRead_e1 (s : ByteArray) (l : List UInt8) (hl : s.data.toList = l) (hmax : s.size ≤ 2000000) (w : World) (h : riE (cuB l) ≠ 0) :
    Calls Tryz.prog 7 #[.string s] w (EPost w (riE (cuB l) : Nat)) := by
  have hsz : s.size = l.length := by rw [Lib.size_eq, hl]
  have hlb : (cuB l).length ≤ 2000000 := by have := cuB_len l; omega
  have hla : (cuA l).length ≤ 2000000 := by have := cuA_len l; omega
  have hb := heap_alloc_new w (.cells #[.bool false, .slice none 0 0, .slice none 0 0] 27)
  have hW := World.grownBy_alloc w (.cells #[.bool false, .slice none 0 0, .slice none 0 0] 27) none
  have bR := hb
  clear hb
  go_enter Tryz.func7, Tryz.ntmps7
  have HC := hid (cutQ hl hmax)
  have HI := hid (iRd_bad (cuB l) hlb)
  generalize riE (cuB l) = E at *
  have he : ((E : Int) != 0) = true := by simp; omega
  clear hl hsz hlb hla h
  go_wp2_with fail
  refine (HC.out _).mono ?_
  rintro e v1 ⟨rfl, hg⟩
  replace bR := (hg.block _ (lt_of_block bR) (by simp)).trans bR; replace hW := grown_trans hW hg; clear hg
  go_wp2_with fail
  refine (HI.out _).mono ?_
  rintro e v2 ⟨g1, p1, n1, c1, rfl, hg⟩
  replace bR := (hg.block _ (lt_of_block bR) (by simp)).trans bR; replace hW := grown_trans hW hg; clear hg
  have hlty := lt_of_block bR
  have hg := World.grownBy_alloc v2 (.cells #[.bool g1, .slice p1 n1 c1] 25) none
  have hb := heap_alloc_new v2 (.cells #[.bool g1, .slice p1 n1 c1] 25)
  replace bR := (hg.block _ (lt_of_block bR) (by simp)).trans bR; replace hW := grown_trans hW hg; clear hg
  obtain ⟨y0, y1, yf0, yf1⟩ := intbox_facts hb
  clear hb
  go_upto_region 3 with fail
  generalize v2.alloc (.cells #[.bool g1, .slice p1 n1 c1] 25) = uy at *
  generalize v2.heap.size = Ky at *
  obtain ⟨z0, z1, z2, f0, f1, f2⟩ := ratbox_facts bR
  go_wp2_with fail
  exact bodyPost_ret (v := .tuple #[.agg #[.bool false, .slice none 0 0, .slice none 0 0], .int .i64 (E : Int)]) (by simp [results, Tryz.results7, go_sem, z0, z1, z2]) rfl (EPost.close (Nat.le_refl _) hW _ _ _ _)

set_option maxHeartbeats 2000000 in
theorem ratRead_e2 (s : ByteArray) (l : List UInt8) (hl : s.data.toList = l) (hmax : s.size ≤ 2000000) (w : World) (h : riE (cuB l) = 0) (hf : cuF l = true) (h2 : rdE (cuA l) ≠ 0) :
    Calls Tryz.prog 7 #[.string s] w (EPost w (rdE (cuA l) : Nat)) := by
  have hsz : s.size = l.length := by rw [Lib.size_eq, hl]
  have hlb : (cuB l).length ≤ 2000000 := by have := cuB_len l; omega
  have hla : (cuA l).length ≤ 2000000 := by have := cuA_len l; omega
  have hb := heap_alloc_new w (.cells #[.bool false, .slice none 0 0, .slice none 0 0] 27)
  have hW := World.grownBy_alloc w (.cells #[.bool false, .slice none 0 0, .slice none 0 0] 27) none
  have bR := hb
  clear hb
  go_enter Tryz.func7, Tryz.ntmps7
  have HC := hid (cutQ hl hmax)
  rw [hf] at HC
  have HI := hid (fun W => iRd_ok (cuB l) hlb W h)
  have HN := hid (nRd_bad (cuA l) hla)
  generalize rdE (cuA l) = E at *
  have he : ((E : Int) != 0) = true := by simp; omega
  clear hl hsz hlb hla h h2
  go_wp2_with fail
  refine (HC.out _).mono ?_
  rintro e v1 ⟨rfl, hg⟩
  replace bR := (hg.block _ (lt_of_block bR) (by simp)).trans bR; replace hW := grown_trans hW hg; clear hg
  go_wp2_with fail
  refine (HI.out _).mono ?_
  rintro e v2 ⟨g1, p1, n1, c1, rfl, hI, hn1, hg⟩
  replace bR := (hg.block _ (lt_of_block bR) (by simp)).trans bR; replace hW := grown_trans hW hg; clear hg
  have hlty := lt_of_block bR
  have hg := World.grownBy_alloc v2 (.cells #[.bool g1, .slice p1 n1 c1] 25) none
  have hb := heap_alloc_new v2 (.cells #[.bool g1, .slice p1 n1 c1] 25)
  replace hI := hI.keep hg; replace bR := (hg.block _ (lt_of_block bR) (by simp)).trans bR; replace hW := grown_trans hW hg; clear hg
  obtain ⟨y0, y1, yf0, yf1⟩ := intbox_facts hb
  clear hb
  go_wp2_with fail
  generalize v2.alloc (.cells #[.bool g1, .slice p1 n1 c1] 25) = uy at *
  generalize v2.heap.size = Ky at *
  refine (natOne _).mono ?_
  rintro e v3 ⟨p2, n2, c2, rfl, hO, hn2, hg⟩
  replace hI := hI.keep hg; replace y0 := hg.cell y0 (by simp); replace y1 := hg.cell y1 (by simp); replace bR := (hg.block _ (lt_of_block bR) (by simp)).trans bR; replace hW := grown_trans hW hg; clear hg
  go_wp2_with fail
  refine (HN.out _).mono ?_
  rintro e v4 ⟨p3, n3, c3, rfl, hg⟩
  replace hI := hI.keep hg; replace y0 := hg.cell y0 (by simp); replace y1 := hg.cell y1 (by simp); replace bR := (hg.block _ (lt_of_block bR) (by simp)).trans bR; replace hW := grown_trans hW hg; clear hg
  obtain ⟨z0, z1, z2, f0, f1, f2⟩ := ratbox_facts bR
  go_wp2_with fail
  exact bodyPost_ret (v := .tuple #[.agg #[.bool false, .slice none 0 0, .slice none 0 0], .int .i64 (E : Int)]) (by simp [results, Tryz.results7, go_sem, z0, z1, z2]) rfl (EPost.close (Nat.le_refl _) hW _ _ _ _)

set_option maxHeartbeats 4000000 in
set_option maxRecDepth 100000 in
theorem ratRead_e3 (s : ByteArray) (l : List UInt8) (hl : s.data.toList = l) (hmax : s.size ≤ 2000000) (w : World) (T : Tb w) (h : riE (cuB l) = 0) (hf : cuF l = true) (h2 : rdE (cuA l) = 0) (h3 : rdV (cuA l) = 0) :
    Calls Tryz.prog 7 #[.string s] w (EPost w 3) := by
  have hsz : s.size = l.length := by rw [Lib.size_eq, hl]
  have hlb : (cuB l).length ≤ 2000000 := by have := cuB_len l; omega
  have hla : (cuA l).length ≤ 2000000 := by have := cuA_len l; omega
  have hb := heap_alloc_new w (.cells #[.bool false, .slice none 0 0, .slice none 0 0] 27)
  have hW := World.grownBy_alloc w (.cells #[.bool false, .slice none 0 0, .slice none 0 0] 27) none
  replace T := T.keep hW
  have bR := hb
  clear hb
  go_enter Tryz.func7, Tryz.ntmps7
  have HC := hid (cutQ hl hmax)
  rw [hf] at HC
  have HI := hid (fun W => iRd_ok (cuB l) hlb W h)
  have HN := hid (fun W => nRd_ok (cuA l) hla W h2)
  rw [h3] at HN
  clear hl hsz hlb hla h h2 h3
  go_wp2_with fail
  refine (HC.out _).mono ?_
  rintro e v1 ⟨rfl, hg⟩
  replace T := T.keep hg; replace bR := (hg.block _ (lt_of_block bR) (by simp)).trans bR; replace hW := grown_trans hW hg; clear hg
  go_wp2_with fail
  refine (HI.out _).mono ?_
  rintro e v2 ⟨g1, p1, n1, c1, rfl, hI, hn1, hg⟩
  replace T := T.keep hg; replace bR := (hg.block _ (lt_of_block bR) (by simp)).trans bR; replace hW := grown_trans hW hg; clear hg
  have hlty := lt_of_block bR
  have hg := World.grownBy_alloc v2 (.cells #[.bool g1, .slice p1 n1 c1] 25) none
  have hb := heap_alloc_new v2 (.cells #[.bool g1, .slice p1 n1 c1] 25)
  replace T := T.keep hg; replace hI := hI.keep hg; replace bR := (hg.block _ (lt_of_block bR) (by simp)).trans bR; replace hW := grown_trans hW hg; clear hg
  obtain ⟨y0, y1, yf0, yf1⟩ := intbox_facts hb
  clear hb
  go_wp2_with fail
  generalize v2.alloc (.cells #[.bool g1, .slice p1 n1 c1] 25) = uy at *
  generalize v2.heap.size = Ky at *
  refine (natOne _).mono ?_
  rintro e v3 ⟨p2, n2, c2, rfl, hO, hn2, hg⟩
  replace T := T.keep hg; replace hI := hI.keep hg; replace y0 := hg.cell y0 (by simp); replace y1 := hg.cell y1 (by simp); replace bR := (hg.block _ (lt_of_block bR) (by simp)).trans bR; replace hW := grown_trans hW hg; clear hg
  go_wp2_with fail
  refine (HN.out _).mono ?_
  rintro e v4 ⟨p3, n3, c3, rfl, hD, hn3, hg⟩
  replace T := T.keep hg; replace hI := hI.keep hg; replace y0 := hg.cell y0 (by simp); replace y1 := hg.cell y1 (by simp); replace bR := (hg.block _ (lt_of_block bR) (by simp)).trans bR; replace hW := grown_trans hW hg; clear hg
  go_upto_region 10 with fail
  have hg := grown_drew v4 none
  replace T := T.keep hg; replace hI := hI.keep hg; replace hD := hD.keep hg; replace y0 := hg.cell y0 (by simp); replace y1 := hg.cell y1 (by simp); replace bR := (hg.block _ (lt_of_block bR) (by simp)).trans bR; replace hW := grown_trans hW hg; clear hg
  go_region_held3 (fun w' => w'.cell? ⟨Ky, 0, none⟩ = some (.bool g1) ∧ w'.cell? ⟨Ky, 1, none⟩ = some (.slice p1 n1 c1)) ((try go_split_ands) <;> (repeat' apply And.intro) <;> (repeat (first | (with_reducible assumption) | (with_reducible refine (grown_setCell _ _ _).cell ?_ (by simp; omega)) | (with_reducible refine (World.grownBy_alloc _ _ none).cell ?_ (by simp)) | (with_reducible refine (grown_drew _ none).cell ?_ (by simp)))))
    (first
      | (go_at_call 24; (with_reducible refine (wholeR_any _ _ _).mono ?_); rintro e v5 ⟨rfl, hg⟩; replace T := T.keep hg; replace hI := hI.keep hg; replace hD := hD.keep hg; replace y0 := hg.cell y0 (by simp); replace y1 := hg.cell y1 (by simp); replace bR := (hg.block _ (lt_of_block bR) (by simp)).trans bR; replace hW := grown_trans hW hg; clear hg)
      | (go_at_call 18; (with_reducible refine (ratMake_e hI.z (isZ_nat hD) (by omega) (by omega)).mono ?_); rintro e v6 ⟨rfl, hg⟩; replace T := T.keep hg; replace hI := hI.keep hg; replace hD := hD.keep hg; replace y0 := hg.cell y0 (by simp); replace y1 := hg.cell y1 (by simp); replace bR := (hg.block _ (lt_of_block bR) (by simp)).trans bR; replace hW := grown_trans hW hg; obtain ⟨z0, z1, z2, f0, f1, f2⟩ := ratbox_facts bR; clear hg))
  go_wp2_with fail
  exact bodyPost_ret (v := .tuple #[.agg #[.bool false, .slice none 0 0, .slice none 0 0], .int .i64 3]) (by simp [results, Tryz.results7, go_sem, z0, z1, z2]) rfl (EPost.close (Nat.le_refl _) hW _ _ _ _)

set_option maxHeartbeats 4000000 in
set_option maxRecDepth 100000 in
theorem ratRead_s (s : ByteArray) (l : List UInt8) (hl : s.data.toList = l) (hmax : s.size ≤ 2000000) (w : World) (T : Tb w) (h : riE (cuB l) = 0) (hf : cuF l = true) (h2 : rdE (cuA l) = 0) (h3 : rdV (cuA l) ≠ 0) :
    Calls Tryz.prog 7 #[.string s] w (MPost w (rqV l) 260) := by
  have hsz : s.size = l.length := by rw [Lib.size_eq, hl]
  have hlb : (cuB l).length ≤ 2000000 := by have := cuB_len l; omega
  have hla : (cuA l).length ≤ 2000000 := by have := cuA_len l; omega
  have hb := heap_alloc_new w (.cells #[.bool false, .slice none 0 0, .slice none 0 0] 27)
  have hW := World.grownBy_alloc w (.cells #[.bool false, .slice none 0 0, .slice none 0 0] 27) none
  replace T := T.keep hW
  have bR := hb
  clear hb
  go_enter Tryz.func7, Tryz.ntmps7
  have HC := hid (cutQ hl hmax)
  rw [hf] at HC
  have HI := hid (fun W => iRd_ok (cuB l) hlb W h)
  have HN := hid (fun W => nRd_ok (cuA l) hla W h2)
  have hv : ((riV (cuB l) : Int) : Rat) / (((rdV (cuA l) : Nat) : Int) : Rat) = rqV l := by rw [div_mk]; unfold rqV rqD; rw [if_pos hf]
  have h0 : ((rdV (cuA l) : Nat) : Int) ≠ 0 := by omega
  have HV := hid hv
  generalize rqV l = v at *
  clear hl hsz hlb hla h h2 h3 hv
  go_wp2_with fail
  refine (HC.out _).mono ?_
  rintro e v1 ⟨rfl, hg⟩
  replace T := T.keep hg; replace bR := (hg.block _ (lt_of_block bR) (by simp)).trans bR; replace hW := grown_trans hW hg; clear hg
  go_wp2_with fail
  refine (HI.out _).mono ?_
  rintro e v2 ⟨g1, p1, n1, c1, rfl, hI, hn1, hg⟩
  replace T := T.keep hg; replace bR := (hg.block _ (lt_of_block bR) (by simp)).trans bR; replace hW := grown_trans hW hg; clear hg
  have hlty := lt_of_block bR
  have hg := World.grownBy_alloc v2 (.cells #[.bool g1, .slice p1 n1 c1] 25) none
  have hb := heap_alloc_new v2 (.cells #[.bool g1, .slice p1 n1 c1] 25)
  replace T := T.keep hg; replace hI := hI.keep hg; replace bR := (hg.block _ (lt_of_block bR) (by simp)).trans bR; replace hW := grown_trans hW hg; clear hg
  obtain ⟨y0, y1, yf0, yf1⟩ := intbox_facts hb
  clear hb
  go_wp2_with fail
  generalize v2.alloc (.cells #[.bool g1, .slice p1 n1 c1] 25) = uy at *
  generalize v2.heap.size = Ky at *
  refine (natOne _).mono ?_
  rintro e v3 ⟨p2, n2, c2, rfl, hO, hn2, hg⟩
  replace T := T.keep hg; replace hI := hI.keep hg; replace y0 := hg.cell y0 (by simp); replace y1 := hg.cell y1 (by simp); replace bR := (hg.block _ (lt_of_block bR) (by simp)).trans bR; replace hW := grown_trans hW hg; clear hg
  go_wp2_with fail
  refine (HN.out _).mono ?_
  rintro e v4 ⟨p3, n3, c3, rfl, hD, hn3, hg⟩
  replace T := T.keep hg; replace hI := hI.keep hg; replace y0 := hg.cell y0 (by simp); replace y1 := hg.cell y1 (by simp); replace bR := (hg.block _ (lt_of_block bR) (by simp)).trans bR; replace hW := grown_trans hW hg; clear hg
  go_upto_region 10 with fail
  have hg := grown_drew v4 none
  replace T := T.keep hg; replace hI := hI.keep hg; replace hD := hD.keep hg; replace y0 := hg.cell y0 (by simp); replace y1 := hg.cell y1 (by simp); replace bR := (hg.block _ (lt_of_block bR) (by simp)).trans bR; replace hW := grown_trans hW hg; clear hg
  go_region_held3 (fun w' => w'.cell? ⟨Ky, 0, none⟩ = some (.bool g1) ∧ w'.cell? ⟨Ky, 1, none⟩ = some (.slice p1 n1 c1)) ((try go_split_ands) <;> (repeat' apply And.intro) <;> (repeat (first | (with_reducible assumption) | (with_reducible refine (grown_setCell _ _ _).cell ?_ (by simp; omega)) | (with_reducible refine (World.grownBy_alloc _ _ none).cell ?_ (by simp)) | (with_reducible refine (grown_drew _ none).cell ?_ (by simp)))))
    (first
      | (go_at_call 24; (with_reducible refine (wholeR_any _ _ _).mono ?_); rintro e v5 ⟨rfl, hg⟩; replace T := T.keep hg; replace hI := hI.keep hg; replace hD := hD.keep hg; replace y0 := hg.cell y0 (by simp); replace y1 := hg.cell y1 (by simp); replace bR := (hg.block _ (lt_of_block bR) (by simp)).trans bR; replace hW := grown_trans hW hg; clear hg)
      | (go_at_call 18; (with_reducible refine (make_v 260 T hI.z (isZ_nat hD) h0 HV.out (by omega) (by omega) (by omega)).mono ?_); rintro e v6 ⟨g9, p9, n9, c9, q9, m9, d9, rfl, hV, hn9, hm9, hg⟩; replace T := T.keep hg; replace hI := hI.keep hg; replace hD := hD.keep hg; replace y0 := hg.cell y0 (by simp); replace y1 := hg.cell y1 (by simp); replace bR := (hg.block _ (lt_of_block bR) (by simp)).trans bR; replace hW := grown_trans hW hg; obtain ⟨z0, z1, z2, f0, f1, f2⟩ := ratbox_facts bR; clear hg))
  go_wp2_with fail
  exact bodyPost_ret (v := .tuple #[.agg #[.bool g9, .slice p9 n9 c9, .slice q9 m9 d9], .int .i64 0]) (by simp [results, Tryz.results7, go_sem, z0, z1, z2]) rfl (MPost.close bR (Nat.le_refl _) hW hV (by omega) (by omega))

set_option maxHeartbeats 4000000 in
set_option maxRecDepth 100000 in
theorem ratRead_p (s : ByteArray) (l : List UInt8) (hl : s.data.toList = l) (hmax : s.size ≤ 2000000) (w : World) (T : Tb w) (h : riE (cuB l) = 0) (hf : cuF l = false) :
    Calls Tryz.prog 7 #[.string s] w (MPost w (rqV l) 260) := by
  have hsz : s.size = l.length := by rw [Lib.size_eq, hl]
  have hlb : (cuB l).length ≤ 2000000 := by have := cuB_len l; omega
  have hla : (cuA l).length ≤ 2000000 := by have := cuA_len l; omega
  have hb := heap_alloc_new w (.cells #[.bool false, .slice none 0 0, .slice none 0 0] 27)
  have hW := World.grownBy_alloc w (.cells #[.bool false, .slice none 0 0, .slice none 0 0] 27) none
  replace T := T.keep hW
  have bR := hb
  clear hb
  go_enter Tryz.func7, Tryz.ntmps7
  have HC := hid (cutQ hl hmax)
  rw [hf] at HC
  have HI := hid (fun W => iRd_ok (cuB l) hlb W h)
  have hv : ((riV (cuB l) : Int) : Rat) / (((1 : Nat) : Int) : Rat) = rqV l := by rw [div_mk]; unfold rqV rqD; rw [if_neg (by rw [hf]; decide)]
  have h0 : ((1 : Nat) : Int) ≠ 0 := by decide
  have HV := hid hv
  generalize rqV l = v at *
  clear hl hsz hlb hla h hv
  go_wp2_with fail
  refine (HC.out _).mono ?_
  rintro e v1 ⟨rfl, hg⟩
  replace T := T.keep hg; replace bR := (hg.block _ (lt_of_block bR) (by simp)).trans bR; replace hW := grown_trans hW hg; clear hg
  go_wp2_with fail
  refine (HI.out _).mono ?_
  rintro e v2 ⟨g1, p1, n1, c1, rfl, hI, hn1, hg⟩
  replace T := T.keep hg; replace bR := (hg.block _ (lt_of_block bR) (by simp)).trans bR; replace hW := grown_trans hW hg; clear hg
  have hlty := lt_of_block bR
  have hg := World.grownBy_alloc v2 (.cells #[.bool g1, .slice p1 n1 c1] 25) none
  have hb := heap_alloc_new v2 (.cells #[.bool g1, .slice p1 n1 c1] 25)
  replace T := T.keep hg; replace hI := hI.keep hg; replace bR := (hg.block _ (lt_of_block bR) (by simp)).trans bR; replace hW := grown_trans hW hg; clear hg
  obtain ⟨y0, y1, yf0, yf1⟩ := intbox_facts hb
  clear hb
  go_wp2_with fail
  generalize v2.alloc (.cells #[.bool g1, .slice p1 n1 c1] 25) = uy at *
  generalize v2.heap.size = Ky at *
  refine (natOne _).mono ?_
  rintro e v3 ⟨p2, n2, c2, rfl, hO, hn2, hg⟩
  replace T := T.keep hg; replace hI := hI.keep hg; replace y0 := hg.cell y0 (by simp); replace y1 := hg.cell y1 (by simp); replace bR := (hg.block _ (lt_of_block bR) (by simp)).trans bR; replace hW := grown_trans hW hg; clear hg
  go_upto_region 10 with fail
  have hg := grown_drew v3 none
  replace T := T.keep hg; replace hI := hI.keep hg; replace hO := hO.keep hg; replace y0 := hg.cell y0 (by simp); replace y1 := hg.cell y1 (by simp); replace bR := (hg.block _ (lt_of_block bR) (by simp)).trans bR; replace hW := grown_trans hW hg; clear hg
  go_region_held3 (fun w' => w'.cell? ⟨Ky, 0, none⟩ = some (.bool g1) ∧ w'.cell? ⟨Ky, 1, none⟩ = some (.slice p1 n1 c1)) ((try go_split_ands) <;> (repeat' apply And.intro) <;> (repeat (first | (with_reducible assumption) | (with_reducible refine (grown_setCell _ _ _).cell ?_ (by simp; omega)) | (with_reducible refine (World.grownBy_alloc _ _ none).cell ?_ (by simp)) | (with_reducible refine (grown_drew _ none).cell ?_ (by simp)))))
    (first
      | (go_at_call 24; (with_reducible refine (wholeR_any _ _ _).mono ?_); rintro e v4 ⟨rfl, hg⟩; replace T := T.keep hg; replace hI := hI.keep hg; replace hO := hO.keep hg; replace y0 := hg.cell y0 (by simp); replace y1 := hg.cell y1 (by simp); replace bR := (hg.block _ (lt_of_block bR) (by simp)).trans bR; replace hW := grown_trans hW hg; clear hg)
      | (go_at_call 18; (with_reducible refine (make_v 260 T hI.z (isZ_nat hO) h0 HV.out (by omega) (by omega) (by omega)).mono ?_); rintro e v5 ⟨g9, p9, n9, c9, q9, m9, d9, rfl, hV, hn9, hm9, hg⟩; replace T := T.keep hg; replace hI := hI.keep hg; replace hO := hO.keep hg; replace y0 := hg.cell y0 (by simp); replace y1 := hg.cell y1 (by simp); replace bR := (hg.block _ (lt_of_block bR) (by simp)).trans bR; replace hW := grown_trans hW hg; obtain ⟨z0, z1, z2, f0, f1, f2⟩ := ratbox_facts bR; clear hg))
  go_wp2_with fail
  exact bodyPost_ret (v := .tuple #[.agg #[.bool g9, .slice p9 n9 c9, .slice q9 m9 d9], .int .i64 0]) (by simp [results, Tryz.results7, go_sem, z0, z1, z2]) rfl (MPost.close bR (Nat.le_refl _) hW hV (by omega) (by omega))

end Go.Proofs.YtkggoniecmlglaaGreatDoor
