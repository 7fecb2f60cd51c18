/-
  PmG PmH PmI PmJ PmL PmM PmK, in one text.
-/
import Derived.Test.YtknmdmofmcfjhaaGreatDoorMrV
import Derived.Test.YtknmdmofmcfjhaaGreatDoorMrS

set_option linter.unusedVariables false
set_option linter.unusedSimpArgs false
namespace Go.Proofs.YtknmdmofmcfjhaaGreatDoor
open Go Go.RowKit _root_.Nm
theorem half_odd {k : Nat} (h : k % 2 = 1) : k = 2 * (k / 2) + 1 := by omega
theorem half_even {k : Nat} (h : ¬ k % 2 = 1) : k = 2 * (k / 2) := by omega
theorem pow_odd {X Y Z : Nat} {k : Nat} (h : X * Y ^ k = Z) (h1 : k % 2 = 1) : (X * Y) * (Y * Y) ^ (k / 2) = Z := by
  rw [half_odd h1, Nat.pow_succ, Nat.pow_mul] at h
  rw [← h, show Y * Y = Y ^ 2 by rw [Nat.pow_succ, Nat.pow_one]]
  rw [Nat.mul_assoc, Nat.mul_comm Y]
theorem pow_even {X Y Z : Nat} {k : Nat} (h : X * Y ^ k = Z) (h1 : ¬ k % 2 = 1) : X * (Y * Y) ^ (k / 2) = Z := by
  rw [half_even h1, Nat.pow_mul] at h
  rw [← h, show Y * Y = Y ^ 2 by rw [Nat.pow_succ, Nat.pow_one]]
theorem ipow_odd {X Y Z : Int} {k : Nat} (h : X * Y ^ k = Z) (h1 : k % 2 = 1) : (X * Y) * (Y * Y) ^ (k / 2) = Z := by
  rw [half_odd h1, Int.pow_succ, Int.pow_mul] at h
  rw [← h, show Y * Y = Y ^ 2 by rw [Int.pow_succ, Int.pow_succ, Int.pow_zero, Int.one_mul]]
  rw [Int.mul_assoc, Int.mul_comm Y]
theorem ipow_even {X Y Z : Int} {k : Nat} (h : X * Y ^ k = Z) (h1 : ¬ k % 2 = 1) : X * (Y * Y) ^ (k / 2) = Z := by
  rw [half_even h1, Int.pow_mul] at h
  rw [← h, show Y * Y = Y ^ 2 by rw [Int.pow_succ, Int.pow_succ, Int.pow_zero, Int.one_mul]]
theorem siz_odd {a b k S : Nat} (h : a + b * k ≤ S) (h1 : k % 2 = 1) : (a + b) + (b + b) * (k / 2) ≤ S ∧ a + b ≤ S := by
  rw [half_odd h1, Nat.mul_add, ← Nat.mul_assoc, Nat.mul_comm b 2] at h
  have e : (b + b) * (k / 2) = 2 * b * (k / 2) := by rw [Nat.two_mul]
  omega
theorem siz_even {a b k S : Nat} (h : a + b * k ≤ S) (h1 : ¬ k % 2 = 1) : a + (b + b) * (k / 2) ≤ S := by
  rw [half_even h1, ← Nat.mul_assoc, Nat.mul_comm b 2] at h
  have e : (b + b) * (k / 2) = 2 * b * (k / 2) := by rw [Nat.two_mul]
  omega
theorem siz_le {a b k S : Nat} (h : a + b * k ≤ S) (h1 : 0 < k) : b ≤ S := by
  have : b * 1 ≤ b * k := Nat.mul_le_mul_left _ h1
  omega
set_option maxHeartbeats 16000000 in
set_option maxRecDepth 100000 in
theorem repN_v (S : Nat) {w : World} {p1 : Option Addr} {n1 c1 : Nat} {p2 : Option Addr} {n2 c2 : Nat} {X Y : Nat} {k : Nat} (hX : IsC w p1 n1 c1 X) (hY : IsC w p2 n2 c2 Y) (hk : k ≤ 8) (hs : n1 + n2 * k ≤ S) (hS : S ≤ 9000) :
    Calls Tryz.prog 177 #[.slice p1 n1 c1, .slice p2 n2 c2, .int .i64 k, .func (.func 158) #[] #[]] w fun e w' => ∃ p n c, e = .returned (.slice p n c) ∧ IsC w' p n c (X * Y ^ k) ∧ n ≤ S ∧ w.grownBy w' none := by
  obtain ⟨Z, hZ⟩ : ∃ Z, X * Y ^ k = Z := ⟨_, rfl⟩
  rw [hZ]
  have HX := hid hX; have HY := hid hY
  clear hX hY
  go_enter Tryz.func177, Tryz.ntmps177
  go_wp2_with fail
  go_loopw [0, 1, 2] (fun x y z wr => ∃ (k : Nat) (p1 : Option Addr) (n1 c1 : Nat) (p2 : Option Addr) (n2 c2 : Nat) (X Y : Nat), x = .slice p1 n1 c1 ∧ y = .slice p2 n2 c2 ∧ z = .int .i64 k ∧ k ≤ 8 ∧ n1 + n2 * k ≤ S ∧ X * Y ^ k = Z ∧ Hid (w.grownBy wr none) ∧ Hid (IsC wr p1 n1 c1 X) ∧ Hid (IsC wr p2 n2 c2 Y)) (fun _ _ z _ => (intOf z).toNat)
  case atStart => exact ⟨k, p1, n1, c1, p2, n2, c2, X, Y, rfl, rfl, rfl, hk, hs, hZ, hid (grown_refl _ _), HX, HY⟩
  case round =>
    clear HX HY hk hs hZ
    obtain ⟨k, p1, n1, c1, p2, n2, c2, X, Y, rfl, rfl, rfl, hk, hs, hZ, HG, HX, HY⟩ := hrel
    have HZ := hid hZ; have HS := hid hs
    by_cases hk0 : 0 < k
    · have hb := siz_le hs hk0
      have ha : n1 ≤ S := by omega
      have hkd : IntKind.i64.wrap ((k : Int).tdiv 2) = ((k / 2 : Nat) : Int) := by rw [Int.tdiv_eq_ediv_of_nonneg (by omega)]; rw [IntKind.wrap_i64]; omega
      by_cases hod : k % 2 = 1
      · obtain ⟨hs1, hs2⟩ := siz_odd hs hod
        have hm : ((k : Int).tmod 2 == 1) = true := by rw [Int.tmod_eq_emod_of_nonneg (by omega)]; simp; omega
        clear hs hZ
        by_cases hk1 : 1 < k
        · go_wp2_with (first | (go_at_call 158; (with_reducible refine (natMul_n HX.out.isN HY.out.isN (by omega) (by omega)).mono ?_); rintro e w3 ⟨p3, n3, c3, rfl, hC3, hn3, hg⟩; have HC3 := hid hC3; replace HG := hid (grown_trans HG.out hg); replace HY := hid (HY.out.keep hg); clear hC3 hg) | (go_at_call 158; (with_reducible refine (natMul_n HY.out.isN HY.out.isN (by omega) (by omega)).mono ?_); rintro e w4 ⟨p4, n4, c4, rfl, hC4, hn4, hg⟩; have HC4 := hid hC4; replace HG := hid (grown_trans HG.out hg); replace HC3 := hid (HC3.out.keep hg); clear hC4 hg))
          exact ⟨⟨k / 2, p3, n3, c3, p4, n4, c4, X * Y, Y * Y, rfl, rfl, by go_num, by omega, Nat.le_trans (Nat.add_le_add hn3 (Nat.mul_le_mul_right _ hn4)) hs1, pow_odd HZ.out hod, HG, HC3, HC4⟩, by simp [intOf]; omega⟩
        · go_wp2_with (go_at_call 158; (with_reducible refine (natMul_n HX.out.isN HY.out.isN (by omega) (by omega)).mono ?_); rintro e w3 ⟨p3, n3, c3, rfl, hC3, hn3, hg⟩; have HC3 := hid hC3; replace HG := hid (grown_trans HG.out hg); replace HY := hid (HY.out.keep hg); clear hC3 hg)
          obtain rfl : k = 1 := by omega
          exact ⟨⟨0, p3, n3, c3, p2, n2, c2, X * Y, Y, rfl, rfl, by go_num, by omega, by omega, by rw [Nat.pow_zero, Nat.mul_one]; rw [← HZ.out, Nat.pow_one], HG, HC3, HY⟩, by simp [intOf]⟩
      · have hm : ((k : Int).tmod 2 == 1) = false := by rw [Int.tmod_eq_emod_of_nonneg (by omega)]; simp; omega
        have hs1 := siz_even hs hod
        have hk1 : 1 < k := by omega
        clear hs hZ
        go_wp2_with (go_at_call 158; (with_reducible refine (natMul_n HY.out.isN HY.out.isN (by omega) (by omega)).mono ?_); rintro e w4 ⟨p4, n4, c4, rfl, hC4, hn4, hg⟩; have HC4 := hid hC4; replace HG := hid (grown_trans HG.out hg); replace HX := hid (HX.out.keep hg); clear hC4 hg)
        exact ⟨⟨k / 2, p1, n1, c1, p4, n4, c4, X, Y * Y, rfl, rfl, by go_num, by omega, Nat.le_trans (Nat.add_le_add_left (Nat.mul_le_mul_right _ hn4) _) hs1, pow_even HZ.out hod, HG, HX, HC4⟩, by simp [intOf]; omega⟩
    · obtain rfl : k = 0 := by omega
      have e : X = Z := by rw [← hZ, Nat.pow_zero, Nat.mul_one]
      clear hs hZ HZ
      go_wp2_with fail
      go_ret
      exact ⟨p1, n1, c1, rfl, by rw [← e]; exact HX.out, by have := HS.out; omega, HG.out⟩
end Go.Proofs.YtknmdmofmcfjhaaGreatDoor

set_option linter.unusedVariables false
set_option linter.unusedSimpArgs false
namespace Go.Proofs.YtknmdmofmcfjhaaGreatDoor
open Go Go.RowKit _root_.Nm
theorem stay_int {w w' : World} {g : Bool} {p : Option Addr} {n c : Nat} {X : Int} (h : IsI w g p n c X) {G : Nat} {x : Bool} {y : Option Addr} {a b : Nat} {T : TypeId} (hb : w.heap[G]? = some (.cells #[.bool x, .slice y a b] T (0, 0))) (hg : w.grownBy w' (some G)) : IsI w' g p n c X :=
  ⟨IRd.other h.1 hb (fun j z => two_cells x y a b j _ z) hg, h.2⟩
set_option maxHeartbeats 16000000 in
set_option maxRecDepth 100000 in
theorem repI_v (S : Nat) {w : World} {g1 : Bool} {p1 : Option Addr} {n1 c1 : Nat} {g2 : Bool} {p2 : Option Addr} {n2 c2 : Nat} {X Y : Int} {k : Nat} (hX : IsI w g1 p1 n1 c1 X) (hY : IsI w g2 p2 n2 c2 Y) (hk : k ≤ 8) (hs : n1 + n2 * k ≤ S) (hS : S ≤ 9000) :
    Calls Tryz.prog 176 #[.agg #[.bool g1, .slice p1 n1 c1], .agg #[.bool g2, .slice p2 n2 c2], .int .i64 k, .func (.func 110) #[] #[]] w (IPost w (X * Y ^ k) S) := by
  obtain ⟨Z, hZ⟩ : ∃ Z, X * Y ^ k = Z := ⟨_, rfl⟩
  rw [hZ]
  have gA := World.grownBy_alloc w (.cells #[.bool g1, .slice p1 n1 c1] 27 (0, 0)) none
  have gB := World.grownBy_alloc (w.alloc (.cells #[.bool g1, .slice p1 n1 c1] 27 (0, 0))) (.cells #[.bool g2, .slice p2 n2 c2] 27 (0, 0)) none
  have gR := World.grownBy_alloc ((w.alloc (.cells #[.bool g1, .slice p1 n1 c1] 27 (0, 0))).alloc (.cells #[.bool g2, .slice p2 n2 c2] 27 (0, 0))) (.cells #[.bool false, .slice none 0 0] 27 (0, 0)) none
  have HG := hid (grown_trans (grown_trans gA gB) gR)
  have BP := hid (keepB (keepB (blk0 w (.cells #[.bool g1, .slice p1 n1 c1] 27 (0, 0))) gB) gR)
  have hsz : (w.alloc (.cells #[.bool g1, .slice p1 n1 c1] 27 (0, 0))).heap.size = w.heap.size + 1 := by simp
  have hsz2 : ((w.alloc (.cells #[.bool g1, .slice p1 n1 c1] 27 (0, 0))).alloc (.cells #[.bool g2, .slice p2 n2 c2] 27 (0, 0))).heap.size = w.heap.size + 2 := by simp
  have b1 := keepB (blk0 (w.alloc (.cells #[.bool g1, .slice p1 n1 c1] 27 (0, 0))) (.cells #[.bool g2, .slice p2 n2 c2] 27 (0, 0))) gR
  rw [hsz] at b1
  have b2 := blk0 ((w.alloc (.cells #[.bool g1, .slice p1 n1 c1] 27 (0, 0))).alloc (.cells #[.bool g2, .slice p2 n2 c2] 27 (0, 0))) (.cells #[.bool false, .slice none 0 0] 27 (0, 0))
  rw [hsz2] at b2
  have BX := hid b1; have BR := hid b2
  have HX := hid (hX.keep HG.out); have HY := hid (hY.keep HG.out)
  clear gA gB gR hsz hsz2 b1 b2 hX hY
  go_enter Tryz.func176, Tryz.ntmps176
  go_upto_region 1 with fail
  obtain ⟨bp, hbp⟩ : ∃ x, x = w.heap.size := ⟨_, rfl⟩
  obtain ⟨bx, hbx⟩ : ∃ x, x = w.heap.size + 1 := ⟨_, rfl⟩
  obtain ⟨br, hbr⟩ : ∃ x, x = w.heap.size + 2 := ⟨_, rfl⟩
  have hpw : w.heap.size ≤ bp := by omega
  have hxw : w.heap.size ≤ bx := by omega
  have hrw : w.heap.size ≤ br := by omega
  have hpx : bp ≠ bx := by omega
  have hpr : bp ≠ br := by omega
  have hxr : bx ≠ br := by omega
  rw [← hbr] at BR ⊢
  rw [← hbx] at BX ⊢
  rw [← hbp] at BP ⊢
  clear hbp hbx hbr
  generalize (((w.alloc _).alloc _).alloc _) = w0 at *
  go_loopw [2] (fun z wr => ∃ (k : Nat) (g1 : Bool) (p1 : Option Addr) (n1 c1 : Nat) (g2 : Bool) (p2 : Option Addr) (n2 c2 : Nat) (X Y : Int), z = .int .i64 k ∧ k ≤ 8 ∧ n1 + n2 * k ≤ S ∧ X * Y ^ k = Z ∧ Hid (w.grownBy wr none) ∧ Hid (wr.heap[bp]? = some (.cells #[.bool g1, .slice p1 n1 c1] 27 (0, 0))) ∧ Hid (wr.heap[bx]? = some (.cells #[.bool g2, .slice p2 n2 c2] 27 (0, 0))) ∧ Hid (wr.heap[br]? = some (.cells #[.bool false, .slice none 0 0] 27 (0, 0))) ∧ Hid (IsI wr g1 p1 n1 c1 X) ∧ Hid (IsI wr g2 p2 n2 c2 Y)) (fun z _ => (intOf z).toNat)
  case atStart => exact ⟨k, g1, p1, n1, c1, g2, p2, n2, c2, X, Y, rfl, hk, hs, hZ, HG, BP, BX, BR, HX, HY⟩
  case round =>
    clear HX HY BP BX BR HG hk hs hZ
    obtain ⟨k, g1, p1, n1, c1, g2, p2, n2, c2, X, Y, rfl, hk, hs, hZ, HG, BP, BX, BR, HX, HY⟩ := hrel
    have HZ := hid hZ; have HS := hid hs
    obtain ⟨i0, i1, -, -⟩ := intbox_facts BP.out
    obtain ⟨j0, j1, -, -⟩ := intbox_facts BX.out
    by_cases hk0 : 0 < k
    · have hb := siz_le hs hk0
      have ha : n1 ≤ S := by omega
      have hkd : IntKind.i64.wrap ((k : Int).tdiv 2) = ((k / 2 : Nat) : Int) := by rw [Int.tdiv_eq_ediv_of_nonneg (by omega)]; rw [IntKind.wrap_i64]; omega
      by_cases hod : k % 2 = 1
      · obtain ⟨hs1, hs2⟩ := siz_odd hs hod
        have hm : ((k : Int).tmod 2 == 1) = true := by rw [Int.tmod_eq_emod_of_nonneg (by omega)]; simp; omega
        clear hs hZ
        go_upto_region 5 with (go_at_call 110; (with_reducible refine (intMul_any HX.out.z HY.out.z (by omega) (by omega)).mono ?_); rintro e w3 ⟨g3, p3, n3, c3, rfl, hI3, hn3, hg⟩; have hbb := keepB BP.out hg; obtain ⟨z0, z1, f0, f1⟩ := intbox_facts hbb; have hgS := set2_grown w3 bp (.bool g3) (.slice p3 n3 c3); have BPE := hid (set2_block hbb g3 p3 n3 c3); have HGE := hid (grown_new (grown_trans HG.out hg) hgS (fun g' e => by cases e; exact hpw)); have HI3 := hid (stay_int hI3 hbb hgS); have BXE := hid ((hgS.block bx (lt_of_block (keepB BX.out hg)) (by simp; omega)).trans (keepB BX.out hg)); have BRE := hid ((hgS.block br (lt_of_block (keepB BR.out hg)) (by simp; omega)).trans (keepB BR.out hg)); have HYE := hid (stay_int (HY.out.keep hg) hbb hgS); clear hI3 hbb hgS hg)
        clear i0 i1 j0 j1 z0 z1 f0 f1 BP BX BR HG HX HY
        generalize (w3.setCell _ _).setCell _ _ = wE at *
        have BP := BPE; have BX := BXE; have BR := BRE; have HG := HGE; have HX := HI3; have HY := HYE
        clear BPE BXE BRE HGE HI3 HYE
        obtain ⟨j0, j1, -, -⟩ := intbox_facts BX.out
        by_cases hk1 : 1 < k
        · go_wp2_with (go_at_call 110; (with_reducible refine (intMul_any HY.out.z HY.out.z (by omega) (by omega)).mono ?_); rintro e w4 ⟨g4, p4, n4, c4, rfl, hI4, hn4, hg⟩; have hbb := keepB BX.out hg; obtain ⟨z0, z1, f0, f1⟩ := intbox_facts hbb; have hgS := set2_grown w4 bx (.bool g4) (.slice p4 n4 c4); have BXE := hid (set2_block hbb g4 p4 n4 c4); have HGE := hid (grown_new (grown_trans HG.out hg) hgS (fun g' e => by cases e; exact hxw)); have HI4 := hid (stay_int hI4 hbb hgS); have BPE := hid ((hgS.block bp (lt_of_block (keepB BP.out hg)) (by simp; omega)).trans (keepB BP.out hg)); have BRE := hid ((hgS.block br (lt_of_block (keepB BR.out hg)) (by simp; omega)).trans (keepB BR.out hg)); have HXE := hid (stay_int (HX.out.keep hg) hbb hgS); clear hI4 hbb hgS hg)
          exact ⟨⟨k / 2, g3, p3, n3, c3, g4, p4, n4, c4, X * Y, Y * Y, by go_num, by omega, Nat.le_trans (Nat.add_le_add hn3 (Nat.mul_le_mul_right _ hn4)) hs1, ipow_odd HZ.out hod, HGE, BPE, BXE, BRE, HXE, HI4⟩, by simp [intOf]; omega⟩
        · go_wp2_with fail
          obtain rfl : k = 1 := by omega
          exact ⟨⟨0, g3, p3, n3, c3, g2, p2, n2, c2, X * Y, Y, by go_num, by omega, by omega, by rw [Int.pow_zero, Int.mul_one]; rw [← HZ.out, Int.pow_succ, Int.pow_zero, Int.one_mul], HG, BP, BX, BR, HX, HY⟩, by simp [intOf]⟩
      · have hm : ((k : Int).tmod 2 == 1) = false := by rw [Int.tmod_eq_emod_of_nonneg (by omega)]; simp; omega
        have hs1 := siz_even hs hod
        have hk1 : 1 < k := by omega
        clear hs hZ
        go_wp2_with (go_at_call 110; (with_reducible refine (intMul_any HY.out.z HY.out.z (by omega) (by omega)).mono ?_); rintro e w4 ⟨g4, p4, n4, c4, rfl, hI4, hn4, hg⟩; have hbb := keepB BX.out hg; obtain ⟨z0, z1, f0, f1⟩ := intbox_facts hbb; have hgS := set2_grown w4 bx (.bool g4) (.slice p4 n4 c4); have BXE := hid (set2_block hbb g4 p4 n4 c4); have HGE := hid (grown_new (grown_trans HG.out hg) hgS (fun g' e => by cases e; exact hxw)); have HI4 := hid (stay_int hI4 hbb hgS); have BPE := hid ((hgS.block bp (lt_of_block (keepB BP.out hg)) (by simp; omega)).trans (keepB BP.out hg)); have BRE := hid ((hgS.block br (lt_of_block (keepB BR.out hg)) (by simp; omega)).trans (keepB BR.out hg)); have HXE := hid (stay_int (HX.out.keep hg) hbb hgS); clear hI4 hbb hgS hg)
        exact ⟨⟨k / 2, g1, p1, n1, c1, g4, p4, n4, c4, X, Y * Y, by go_num, by omega, Nat.le_trans (Nat.add_le_add_left (Nat.mul_le_mul_right _ hn4) _) hs1, ipow_even HZ.out hod, HGE, BPE, BXE, BRE, HXE, HI4⟩, by simp [intOf]; omega⟩
    · obtain rfl : k = 0 := by omega
      have e : X = Z := by rw [← hZ, Int.pow_zero, Int.mul_one]
      have hn1 : n1 ≤ S := by omega
      clear hs hZ HZ j0 j1
      have hIP := hid (IPost.close (x := false) (y := none) (a := 0) (b := 0) HG.out BR.out hrw (grown_refl _ _) HX.out hn1)
      have hbE := hid (set2_block BR.out g1 p1 n1 c1)
      obtain ⟨z0, z1, f0, f1⟩ := intbox_facts BR.out
      go_wp2_with fail
      clear i0 i1 z0 z1 f0 f1 BP BX BR HG HX HY
      generalize (wr.setCell _ _).setCell _ _ = wE at *
      obtain ⟨l0, l1, -, -⟩ := intbox_facts hbE.out
      rw [← e]
      exact bodyPost_ret (v := .agg #[.bool g1, .slice p1 n1 c1]) (by simp [results, Tryz.results176, go_sem, l0, l1]) rfl hIP.out
set_option maxHeartbeats 16000000 in
set_option maxRecDepth 100000 in
theorem power6_v {w : World} {g1 : Bool} {p1 q1 : Option Addr} {n1 c1 m1 d1 : Nat} {v : Rat} (hA : IsV w g1 p1 n1 c1 q1 m1 d1 v) (hn1 : n1 ≤ 2) (hm1 : m1 ≤ 2) {k : Nat} (hk : k ≤ 8) :
    Calls Tryz.prog 150 #[.agg #[.bool g1, .slice p1 n1 c1, .slice q1 m1 d1], .int .i64 k] w (VPost w (v ^ k) 20) := by
  have l1 : (dg 65536 1).length = 1 := by rw [dg_step 1 (by omega)]; simp [dg_zero]
  have gA := World.grownBy_alloc w (.cells #[.bool g1, .slice p1 n1 c1, .slice q1 m1 d1] 29 (0, 0)) none
  have gB := World.grownBy_alloc (w.alloc (.cells #[.bool g1, .slice p1 n1 c1, .slice q1 m1 d1] 29 (0, 0))) (.cells #[.bool false, .slice none 0 0, .slice none 0 0] 29 (0, 0)) none
  have HW := hid (grown_trans gA gB)
  have B1 := hid (keepB (blk0 w (.cells #[.bool g1, .slice p1 n1 c1, .slice q1 m1 d1] 29 (0, 0))) gB)
  have hsz : (w.alloc (.cells #[.bool g1, .slice p1 n1 c1, .slice q1 m1 d1] 29 (0, 0))).heap.size = w.heap.size + 1 := by simp
  have hb2 := blk0 (w.alloc (.cells #[.bool g1, .slice p1 n1 c1, .slice q1 m1 d1] 29 (0, 0))) (.cells #[.bool false, .slice none 0 0, .slice none 0 0] 29 (0, 0))
  rw [hsz] at hb2
  have hA2 := hA.keep HW.out
  have HIO := hid fun W => intOf_any 1 W (by omega) (by omega)
  have HNO := hid fun W : World => of_at 1 1 rfl (by decide) W
  have hs3 : 4 + n1 * k ≤ 20 := by have := Nat.mul_le_mul hn1 hk; omega
  have hs5 : 1 + m1 * k ≤ 20 := by have := Nat.mul_le_mul hm1 hk; omega
  have HRI := hid fun W (hg : ((w.alloc (.cells #[.bool g1, .slice p1 n1 c1, .slice q1 m1 d1] 29 (0, 0))).alloc (.cells #[.bool false, .slice none 0 0, .slice none 0 0] 29 (0, 0))).grownBy W none) g p n c (h : IsI W g p n c 1) (hn : n ≤ 4) => show Calls Tryz.prog 176 #[.agg #[.bool g, .slice p n c], .agg #[.bool g1, .slice p1 n1 c1], .int .i64 k, .func (.func 110) #[] #[]] W (IPost W (v ^ k).num 20) from by
    have := repI_v 20 h ((hA2.keep hg).1) hk (by omega) (by omega)
    rw [Int.one_mul] at this
    rw [Rat.num_pow]
    exact this
  have HRN := hid fun W (hg : ((w.alloc (.cells #[.bool g1, .slice p1 n1 c1, .slice q1 m1 d1] 29 (0, 0))).alloc (.cells #[.bool false, .slice none 0 0, .slice none 0 0] 29 (0, 0))).grownBy W none) p c (h : IRd W .u16 p (dg 65536 1).length c (dg 65536 1)) => show Calls Tryz.prog 177 #[.slice p (dg 65536 1).length c, .slice q1 m1 d1, .int .i64 k, .func (.func 158) #[] #[]] W (fun e w' => ∃ p n c, e = .returned (.slice p n c) ∧ IsC w' p n c (v ^ k).den ∧ n ≤ 20 ∧ W.grownBy w' none) from by
    have := repN_v 20 (show IsC W p (dg 65536 1).length c 1 from h) ((hA2.keep hg).2) hk (by omega) (by omega)
    rw [Nat.one_mul] at this
    rw [Rat.den_pow]
    exact this
  unfold IPost at HIO HRI
  clear hA hA2 gA gB hsz hs3 hs5 l1
  go_enter Tryz.func150, Tryz.ntmps150
  go_upto_region 1 with fail
  obtain ⟨b1, hb1⟩ : ∃ x, x = w.heap.size := ⟨_, rfl⟩
  obtain ⟨b2, hbb2⟩ : ∃ x, x = w.heap.size + 1 := ⟨_, rfl⟩
  have hb2w : w.heap.size ≤ b2 := by omega
  have hne : b1 ≠ b2 := by omega
  rw [← hbb2] at hb2 ⊢
  rw [← hb1] at B1 ⊢
  clear hb1 hbb2
  generalize ((w.alloc _).alloc _) = w0 at *
  refine wp_region_noPanic ?_
  refine wp_region_held_drew (S := (fun W => W.heap[b1]? = some (.cells #[.bool g1, .slice p1 n1 c1, .slice q1 m1 d1] 29 (0, 0)))) (by kernel_rfl) ?_ (fun hHeld => ?_)
  · (try dsimp only)
    exact keepB B1.out (grown_drew _ none)
  have hgg := grown_drew w0 none
  replace hb2 := keepB hb2 hgg
  generalize w0.drew = wd at *
  refine wpAnyH_take (i := 1) (oi := Oper.mk _ _ _ _ _ _) (v := ?_) rfl (by kernel_rfl) (by kernel_rfl) (by kernel_rfl) (fun _ _ _ h => h) (Or.inl ⟨by kernel_rfl, ?_⟩) hHeld ?_
  rotate_left 1
  · intro W hSw
    (try dsimp only at hSw)
    obtain ⟨h0, h1, h2⟩ := box3p hSw
    go_simp
    (try (with_reducible rfl))
  (try simp only [Act.put, List.setIfInBounds_toArray, List.set_cons_zero, List.set_cons_succ])
  refine wpAnyH_take (i := 2) (oi := Oper.mk _ _ _ _ _ _) (v := ?_) rfl (by kernel_rfl) (by kernel_rfl) (by kernel_rfl) (fun _ _ _ h => h) (Or.inl ⟨by kernel_rfl, ?_⟩) hHeld ?_
  rotate_left 1
  · intro W hSw
    (try dsimp only at hSw)
    obtain ⟨h0, h1, h2⟩ := box3p hSw
    go_simp
    (try (with_reducible rfl))
  (try simp only [Act.put, List.setIfInBounds_toArray, List.set_cons_zero, List.set_cons_succ])
  refine wpAnyH_take (i := 3) (oi := Oper.mk _ _ _ _ _ _) (v := ?_) rfl (by kernel_rfl) (by kernel_rfl) (by kernel_rfl) (fun _ _ _ h => h) (Or.inl ⟨by kernel_rfl, ?_⟩) hHeld ?_
  rotate_left 1
  · intro W hSw
    (try dsimp only at hSw)
    obtain ⟨h0, h1, h2⟩ := box3p hSw
    go_simp
    (try (with_reducible rfl))
  (try simp only [Act.put, List.setIfInBounds_toArray, List.set_cons_zero, List.set_cons_succ])
  refine wpAnyH_take (i := 6) (oi := Oper.mk _ _ _ _ _ _) (v := ?_) rfl (by kernel_rfl) (by kernel_rfl) (by kernel_rfl) (fun _ _ _ h => h) (Or.inl ⟨by kernel_rfl, ?_⟩) hHeld ?_
  rotate_left 1
  · intro W hSw
    (try dsimp only at hSw)
    obtain ⟨h0, h1, h2⟩ := box3p hSw
    go_simp
    (try (with_reducible rfl))
  (try simp only [Act.put, List.setIfInBounds_toArray, List.set_cons_zero, List.set_cons_succ])
  refine wpAnyH_take (i := 7) (oi := Oper.mk _ _ _ _ _ _) (v := ?_) rfl (by kernel_rfl) (by kernel_rfl) (by kernel_rfl) (fun _ _ _ h => h) (Or.inl ⟨by kernel_rfl, ?_⟩) hHeld ?_
  rotate_left 1
  · intro W hSw
    (try dsimp only at hSw)
    obtain ⟨h0, h1, h2⟩ := box3p hSw
    go_simp
    (try (with_reducible rfl))
  (try simp only [Act.put, List.setIfInBounds_toArray, List.set_cons_zero, List.set_cons_succ])
  refine wpAnyH_take (i := 8) (oi := Oper.mk _ _ _ _ _ _) (v := ?_) rfl (by kernel_rfl) (by kernel_rfl) (by kernel_rfl) (fun _ _ _ h => h) (Or.inl ⟨by kernel_rfl, ?_⟩) hHeld ?_
  rotate_left 1
  · intro W hSw
    (try dsimp only at hSw)
    obtain ⟨h0, h1, h2⟩ := box3p hSw
    go_simp
    (try (with_reducible rfl))
  (try simp only [Act.put, List.setIfInBounds_toArray, List.set_cons_zero, List.set_cons_succ])
  refine wpAnyH_ready (rs := [0]) (by kernel_rfl) (by simp) ?_
  refine AllReadyH.cons (o := Oper.mk _ _ _ _ _ _) rfl (fun K hK => ?_) AllReadyH.nil
  (try rw [if_pos (by kernel_rfl)])
  go_simp
  go_at_call 143
  refine (HIO.out _).mono ?_
  rintro e wy1 ⟨g3, p3, n3, c3, rfl, hI3, hn3, hgS⟩
  replace hgg := grown_trans hgg hgS
  replace hb2 := keepB hb2 hgS
  refine hK.out _ _ ?_ (fun hNew => ?_)
  · have hH := hHeld
    (try dsimp only at hH)
    (try dsimp only)
    first | with_reducible exact hH | with_reducible exact keepB hH hgS | exact (hgS.block _ (lt_of_block hH) (by simp; omega)).trans hH
  clear hK K hHeld
  have hHeld := hNew
  clear hNew
  (try simp only [Act.put, List.setIfInBounds_toArray, List.set_cons_zero, List.set_cons_succ])
  clear hgS
  refine wpAnyH_ready (rs := [4]) (by kernel_rfl) (by simp) ?_
  refine AllReadyH.cons (o := Oper.mk _ _ _ _ _ _) rfl (fun K hK => ?_) AllReadyH.nil
  (try rw [if_pos (by kernel_rfl)])
  go_simp
  go_at_call 176
  refine (HRI.out _ hgg _ _ _ _ hI3 hn3).mono ?_
  rintro e wy2 ⟨g4, p4, n4, c4, rfl, hI4, hn4, hgS⟩
  replace hgg := grown_trans hgg hgS
  replace hb2 := keepB hb2 hgS
  replace hI3 := hI3.keep hgS
  refine hK.out _ _ ?_ (fun hNew => ?_)
  · have hH := hHeld
    (try dsimp only at hH)
    (try dsimp only)
    first | with_reducible exact hH | with_reducible exact keepB hH hgS | exact (hgS.block _ (lt_of_block hH) (by simp; omega)).trans hH
  clear hK K hHeld
  have hHeld := hNew
  clear hNew
  (try simp only [Act.put, List.setIfInBounds_toArray, List.set_cons_zero, List.set_cons_succ])
  clear hgS
  refine wpAnyH_ready (rs := [5]) (by kernel_rfl) (by simp) ?_
  refine AllReadyH.cons (o := Oper.mk _ _ _ _ _ _) rfl (fun K hK => ?_) AllReadyH.nil
  (try rw [if_pos (by kernel_rfl)])
  go_simp
  go_at_call 144
  refine (HNO.out _).mono ?_
  rintro e wy3 ⟨p5, c5, rfl, hC5, hgS⟩
  replace hgg := grown_trans hgg hgS
  replace hb2 := keepB hb2 hgS
  replace hI3 := hI3.keep hgS
  replace hI4 := hI4.keep hgS
  refine hK.out _ _ ?_ (fun hNew => ?_)
  · have hH := hHeld
    (try dsimp only at hH)
    (try dsimp only)
    first | with_reducible exact hH | with_reducible exact keepB hH hgS | exact (hgS.block _ (lt_of_block hH) (by simp; omega)).trans hH
  clear hK K hHeld
  have hHeld := hNew
  clear hNew
  (try simp only [Act.put, List.setIfInBounds_toArray, List.set_cons_zero, List.set_cons_succ])
  clear hgS
  refine wpAnyH_ready (rs := [9]) (by kernel_rfl) (by simp) ?_
  refine AllReadyH.cons (o := Oper.mk _ _ _ _ _ _) rfl (fun K hK => ?_) AllReadyH.nil
  (try rw [if_pos (by kernel_rfl)])
  go_simp
  go_at_call 177
  refine (HRN.out _ hgg _ _ hC5).mono ?_
  rintro e wy4 ⟨p6, n6, c6, rfl, hC6, hn6, hgS⟩
  replace hgg := grown_trans hgg hgS
  replace hb2 := keepB hb2 hgS
  replace hI3 := hI3.keep hgS
  replace hI4 := hI4.keep hgS
  replace hC5 := hC5.keep hgS
  refine hK.out _ _ ?_ (fun hNew => ?_)
  · have hH := hHeld
    (try dsimp only at hH)
    (try dsimp only)
    first | with_reducible exact hH | with_reducible exact keepB hH hgS | exact (hgS.block _ (lt_of_block hH) (by simp; omega)).trans hH
  clear hK K hHeld
  have hHeld := hNew
  clear hNew
  (try simp only [Act.put, List.setIfInBounds_toArray, List.set_cons_zero, List.set_cons_succ])
  clear hgS
  refine wpAnyH_ready (rs := [10]) (by kernel_rfl) (by simp) ?_
  refine AllReadyH.cons (o := Oper.mk _ _ _ _ _ _) rfl (fun K hK => ?_) AllReadyH.nil
  (try rw [if_pos (by kernel_rfl)])
  go_simp
  refine hK.out _ _ ?_ (fun hNew => ?_)
  · have hH := hHeld
    (try dsimp only at hH)
    (try dsimp only)
    first | with_reducible exact hH | with_reducible exact keepB hH hgS | exact (hgS.block _ (lt_of_block hH) (by simp; omega)).trans hH
  clear hK K hHeld
  have hHeld := hNew
  clear hNew
  (try simp only [Act.put, List.setIfInBounds_toArray, List.set_cons_zero, List.set_cons_succ])
  refine wpAnyH_ready (rs := [11]) (by kernel_rfl) (by simp) ?_
  refine AllReadyH.cons (o := Oper.mk _ _ _ _ _ _) rfl (fun K hK => ?_) AllReadyH.nil
  (try rw [if_pos (by kernel_rfl)])
  obtain ⟨z0, z1, z2⟩ := box3p hb2
  have zf := fun o => frozen_of_row wy4 b2 o _ _ hb2
  have f0 := zf 0
  have f1 := zf 1
  have f2 := zf 2
  go_simp
  have HVP := hid (VPost.close (v := v ^ k) hb2 hb2w (grown_trans HW.out hgg) ⟨hI4, hC6⟩ (show n4 ≤ 20 from hn4) (show n6 ≤ 20 from hn6))
  have hgS := set3_grown wy4 b2 (.bool g4) (.slice p4 n4 c4) (.slice p6 n6 c6)
  have HBE := hid (set3_block hb2 g4 p4 n4 c4 p6 n6 c6)
  clear z0 z1 z2 zf f0 f1 f2
  refine hK.out _ _ ?_ (fun hNew => ?_)
  · have hH := hHeld
    (try dsimp only at hH)
    (try dsimp only)
    first | with_reducible exact hH | with_reducible exact keepB hH hgS | exact (hgS.block _ (lt_of_block hH) (by simp; omega)).trans hH
  clear hK K hHeld
  have hHeld := hNew
  clear hNew
  (try simp only [Act.put, List.setIfInBounds_toArray, List.set_cons_zero, List.set_cons_succ])
  refine wpAnyH_done (by kernel_rfl) ?_ _
  refine NoPanic.normal ?_
  clear hHeld hgS hI4 hC6 hb2 hgg hn3 hn4 hn6
  generalize ((wy4.setCell _ _).setCell _ _).setCell _ _ = wE at *
  obtain ⟨y0, y1, y2⟩ := box3p HBE.out
  go_wp2_with fail
  exact bodyPost_ret (v := .agg #[.bool g4, .slice p4 n4 c4, .slice p6 n6 c6]) (by simp [results, Tryz.results150, go_sem, y0, y1, y2]) rfl HVP.out
end Go.Proofs.YtknmdmofmcfjhaaGreatDoor

set_option linter.unusedVariables false
set_option linter.unusedSimpArgs false
namespace Go.Proofs.YtknmdmofmcfjhaaGreatDoor
open Go Go.RowKit _root_.Nm
theorem stay3 {w w' : World} {g1 : Bool} {p1 q1 : Option Addr} {n1 c1 m1 d1 : Nat} {v : Rat} (h : IsV w g1 p1 n1 c1 q1 m1 d1 v) {G : Nat} {x : Bool} {y z : Option Addr} {a b e f : Nat} {T : TypeId} (hb : w.heap[G]? = some (.cells #[.bool x, .slice y a b, .slice z e f] T (0, 0))) (hg : w.grownBy w' (some G)) : IsV w' g1 p1 n1 c1 q1 m1 d1 v :=
  ⟨⟨IsC.other3 h.1.1 hb hg, h.1.2⟩, h.2.other3 hb hg⟩
/-- the valid Rat of v is returned, of whatever length -/
def QPost (w : World) (v : Rat) (e : Ending) (w' : World) : Prop := ∃ (g : Bool) (p : Option Addr) (n c : Nat) (q : Option Addr) (m d : Nat), e = .returned (.agg #[.bool g, .slice p n c, .slice q m d]) ∧ IsV w' g p n c q m d v ∧ w.grownBy w' none
theorem QPost.close {w w5 : World} {G : Nat} {x : Bool} {y z : Option Addr} {a b e f : Nat} {T : TypeId} {g : Bool} {p q : Option Addr} {n c m d : Nat} {v : Rat}
    (hW : w5.heap[G]? = some (.cells #[.bool x, .slice y a b, .slice z e f] T (0, 0))) (hG : w.heap.size ≤ G) (hg : w.grownBy w5 none) (h1 : IsV w5 g p n c q m d v) :
    QPost w v (.returned (.agg #[.bool g, .slice p n c, .slice q m d])) (((w5.setCell ⟨G, 0, none⟩ (.bool g)).setCell ⟨G, 1, none⟩ (.slice p n c)).setCell ⟨G, 2, none⟩ (.slice q m d)) := by
  have hs := set3_grown w5 G (.bool g) (.slice p n c) (.slice q m d)
  exact ⟨g, p, n, c, q, m, d, rfl, stay3 h1 hW hs, grown_new hg hs (fun g e => by cases e; exact hG)⟩
theorem QPost.congr {w w' : World} {u v : Rat} {e : Ending} (h : QPost w u e w') (hu : u = v) : QPost w v e w' := hu ▸ h
theorem rat_sq {v : Rat} : ∀ j : Nat, (v * v) ^ j = v ^ (2 * j)
  | 0 => by rw [Nat.mul_zero, Rat.pow_zero, Rat.pow_zero]
  | j + 1 => by rw [Rat.pow_succ, rat_sq j, show 2 * (j + 1) = 2 * j + 1 + 1 by omega, Rat.pow_succ, Rat.pow_succ, Rat.mul_assoc]
theorem rat_pow_odd {v : Rat} {k : Nat} (h : k % 2 = 1) : (v * v) ^ (k / 2) * v = v ^ k := by
  rw [rat_sq, ← Rat.pow_succ, show 2 * (k / 2) + 1 = k by omega]
theorem rat_pow_even {v : Rat} {k : Nat} (h : ¬ k % 2 = 1) : (v * v) ^ (k / 2) = v ^ k := by
  rw [rat_sq, show 2 * (k / 2) = k by omega]
theorem bd_pow {H : Nat} {v : Rat} (h : Bd H v) : ∀ k, Bd (H * k + 1) (v ^ k)
  | 0 => by rw [Rat.pow_zero]; exact (show Bd 1 (1 : Rat) from ⟨by decide, by decide⟩).mono (by omega)
  | k + 1 => by
    rw [Rat.pow_succ]
    exact ((bd_pow h k).mul h).mono (by rw [Nat.mul_succ]; omega)
set_option maxHeartbeats 16000000 in
set_option maxRecDepth 100000 in
theorem rpow0_v {w : World} {g1 : Bool} {p1 q1 : Option Addr} {n1 c1 m1 d1 : Nat} :
    Calls Tryz.prog 104 #[.agg #[.bool g1, .slice p1 n1 c1, .slice q1 m1 d1], .int .i64 0] w (QPost w 1) := by
  have gA := World.grownBy_alloc w (.cells #[.bool g1, .slice p1 n1 c1, .slice q1 m1 d1] 29 (0, 0)) none
  have gB := World.grownBy_alloc (w.alloc (.cells #[.bool g1, .slice p1 n1 c1, .slice q1 m1 d1] 29 (0, 0))) (.cells #[.bool false, .slice none 0 0, .slice none 0 0] 29 (0, 0)) none
  have HG := hid (grown_trans gA gB)
  have B1 := hid (keepB (blk0 w (.cells #[.bool g1, .slice p1 n1 c1, .slice q1 m1 d1] 29 (0, 0))) gB)
  have hsz : (w.alloc (.cells #[.bool g1, .slice p1 n1 c1, .slice q1 m1 d1] 29 (0, 0))).heap.size = w.heap.size + 1 := by simp
  have hb4 := blk0 (w.alloc (.cells #[.bool g1, .slice p1 n1 c1, .slice q1 m1 d1] 29 (0, 0))) (.cells #[.bool false, .slice none 0 0, .slice none 0 0] 29 (0, 0))
  rw [hsz] at hb4
  have B4 := hid hb4
  clear gA gB hsz hb4
  have HO := hid fun W : World => rOf3_v (w := W) 1 (by omega) (by omega)
  rw [show ((1 : Int) : Rat) = 1 from rfl] at HO
  unfold VPost at HO
  go_enter Tryz.func104, Tryz.ntmps104
  go_upto_region 1 with fail
  obtain ⟨b1, hb1⟩ : ∃ x, x = w.heap.size := ⟨_, rfl⟩
  obtain ⟨b4, hb4⟩ : ∃ x, x = w.heap.size + 1 := ⟨_, rfl⟩
  have h4w : w.heap.size ≤ b4 := by omega
  have h14 : b1 ≠ b4 := by omega
  rw [← hb4] at B4 ⊢
  rw [← hb1] at B1 ⊢
  clear hb1 hb4
  generalize ((w.alloc _).alloc _) = w0 at *
  obtain ⟨z0, z1, z2⟩ := box3p B4.out
  go_wp2_with (go_at_call 55; (with_reducible refine (HO.out _).mono ?_); rintro e w2 ⟨g2, p2, n2, c2, q2, m2, d2, rfl, hV2, -, -, hg⟩; have hbb := keepB B4.out hg; have HQ := hid (QPost.close hbb h4w (grown_trans HG.out hg) hV2); have HBE := hid (set3_block hbb g2 p2 n2 c2 q2 m2 d2); clear z0 z1 z2; obtain ⟨z0, z1, z2⟩ := box3p hbb; have fa := fun o => frozen_of_row w2 b4 o _ _ hbb; have f0 := fa 0; have f1 := fa 1; have f2 := fa 2; clear fa hbb hV2 hg)
  clear z0 z1 z2 f0 f1 f2
  generalize ((w2.setCell _ _).setCell _ _).setCell _ _ = wE at *
  obtain ⟨l0, l1, l2⟩ := box3p HBE.out
  exact bodyPost_ret (v := .agg #[.bool g2, .slice p2 n2 c2, .slice q2 m2 d2]) (by simp [results, Tryz.results104, go_sem, l0, l1, l2]) rfl HQ.out
set_option maxHeartbeats 32000000 in
set_option maxRecDepth 100000 in
theorem rpow6_v : ∀ (j : Nat) {w : World} {g1 : Bool} {p1 q1 : Option Addr} {n1 c1 m1 d1 : Nat} {v : Rat} (hA : IsV w g1 p1 n1 c1 q1 m1 d1 v) {H : Nat} (hb : Bd H v) {k : Nat} (hk : k < 2 ^ j) (hk9 : k ≤ 100) (hH : H * 2 ^ j ≤ 2000),
    Calls Tryz.prog 104 #[.agg #[.bool g1, .slice p1 n1 c1, .slice q1 m1 d1], .int .i64 k] w (QPost w (v ^ k)) := by
  intro j
  induction j with
  | zero =>
    intro w g1 p1 q1 n1 c1 m1 d1 v hA H hb k hk hk9 hH
    obtain rfl : k = 0 := by simpa using hk
    rw [Rat.pow_zero]
    exact rpow0_v
  | succ j ih =>
    intro w g1 p1 q1 n1 c1 m1 d1 v hA H hb k hk hk9 hH
    by_cases hk0 : k = 0
    · subst hk0
      rw [Rat.pow_zero]
      exact rpow0_v
    rw [Nat.pow_succ] at hk hH
    have hk1 : (k : Int) ≠ 0 := by omega
    have hk2 : k / 2 < 2 ^ j := by omega
    have hH2 : (H + H) * 2 ^ j ≤ 2000 := by rw [Nat.add_mul]; rw [← Nat.mul_assoc] at hH; omega
    have hHs : H ≤ 2000 := by have := Nat.mul_le_mul_left H (Nat.one_le_two_pow (n := j)); rw [← Nat.mul_assoc] at hH; omega
    have HREC := hid fun W (hg : w.grownBy W none) g p n c q m d (h : IsV W g p n c q m d (v * v)) => show Calls Tryz.prog 104 #[.agg #[.bool g, .slice p n c, .slice q m d], .int .i64 ((k : Int) / 2)] W (QPost W ((v * v) ^ (k / 2))) from by
      have := ih h (hb.mul hb) hk2 (by omega) hH2
      rw [show ((k / 2 : Nat) : Int) = (k : Int) / 2 by omega] at this
      exact this
    have HMU := hid fun W (hg : w.grownBy W none) => rMul3_v 2000 (hA.keep hg).q (hA.keep hg).q (by have := (hA.lens hb).1; omega) (by have := (hA.lens hb).2; omega) (by have := (hA.lens hb).1; omega) (by have := (hA.lens hb).2; omega) (by omega)
    have hbp : Bd 4001 ((v * v) ^ (k / 2)) := (bd_pow (hb.mul hb) (k / 2)).mono (by have := Nat.mul_le_mul_left (H + H) (Nat.le_of_lt hk2); omega)
    have HMV := hid fun W (hg : w.grownBy W none) g p n c q m d (h : IsV W g p n c q m d ((v * v) ^ (k / 2))) => rMul3_v 4001 h.q (hA.keep hg).q (h.lens hbp).1 (h.lens hbp).2 (by have := (hA.lens hb).1; omega) (by have := (hA.lens hb).2; omega) (by omega)
    unfold QPost at HREC
    unfold VPost at HMU HMV
    clear ih hH hH2 hHs hbp hk
    have gA := World.grownBy_alloc w (.cells #[.bool g1, .slice p1 n1 c1, .slice q1 m1 d1] 29 (0, 0)) none
    have gB := World.grownBy_alloc (w.alloc (.cells #[.bool g1, .slice p1 n1 c1, .slice q1 m1 d1] 29 (0, 0))) (.cells #[.bool false, .slice none 0 0, .slice none 0 0] 29 (0, 0)) none
    have HG := hid (grown_trans gA gB)
    have B1 := hid (keepB (blk0 w (.cells #[.bool g1, .slice p1 n1 c1, .slice q1 m1 d1] 29 (0, 0))) gB)
    have hsz : (w.alloc (.cells #[.bool g1, .slice p1 n1 c1, .slice q1 m1 d1] 29 (0, 0))).heap.size = w.heap.size + 1 := by simp
    have hb4 := blk0 (w.alloc (.cells #[.bool g1, .slice p1 n1 c1, .slice q1 m1 d1] 29 (0, 0))) (.cells #[.bool false, .slice none 0 0, .slice none 0 0] 29 (0, 0))
    rw [hsz] at hb4
    have B4 := hid hb4
    clear gA gB hsz hb4
    have HA := hid (hA.keep HG.out)
    clear hA
    go_enter Tryz.func104, Tryz.ntmps104
    go_upto_region 1 with fail
    obtain ⟨b1, hb1⟩ : ∃ x, x = w.heap.size := ⟨_, rfl⟩
    obtain ⟨b4, hb4⟩ : ∃ x, x = w.heap.size + 1 := ⟨_, rfl⟩
    have h4w : w.heap.size ≤ b4 := by omega
    have h14 : b1 ≠ b4 := by omega
    rw [← hb4] at B4 ⊢
    rw [← hb1] at B1 ⊢
    clear hb1 hb4
    generalize ((w.alloc _).alloc _) = w0 at *
    obtain ⟨k0, k1, k2⟩ := box3p B1.out
    go_upto_region 4 with (first | (go_at_call 89; (with_reducible refine (HMU.out _ HG.out).mono ?_); rintro e w2 ⟨g2, p2, n2, c2, q2, m2, d2, rfl, hV2, -, -, hg⟩; have HV2 := hid hV2; replace HG := hid (grown_trans HG.out hg); replace B1 := hid (keepB B1.out hg); replace B4 := hid (keepB B4.out hg); replace HA := hid (HA.out.keep hg); clear hV2 hg) | (go_at_call 104; (with_reducible refine (HREC.out _ HG.out _ _ _ _ _ _ _ HV2.out).mono ?_); rintro e w3 ⟨g3, p3, n3, c3, q3, m3, d3, rfl, hV3, hg⟩; have HV3 := hid hV3; replace HG := hid (grown_trans HG.out hg); replace B1 := hid (keepB B1.out hg); replace B4 := hid (keepB B4.out hg); replace HA := hid (HA.out.keep hg); clear hV3 hg HV2; have gB := World.grownBy_alloc w3 (.cells #[.bool g3, .slice p3 n3 c3, .slice q3 m3 d3] 29 (0, 0)) none; have BB := hid (blk0 w3 (.cells #[.bool g3, .slice p3 n3 c3, .slice q3 m3 d3] 29 (0, 0))); obtain ⟨i0, i1, i2⟩ := box3p (blk0 w3 (.cells #[.bool false, .slice none 0 0, .slice none 0 0] 29 (0, 0))); have fa := fun o => frozen_of_row (w3.alloc (.cells #[.bool false, .slice none 0 0, .slice none 0 0] 29 (0, 0))) w3.heap.size o _ _ (blk0 w3 (.cells #[.bool false, .slice none 0 0, .slice none 0 0] 29 (0, 0))); have f0 := fa 0; have f1 := fa 1; have f2 := fa 2; clear fa))
    clear i0 i1 i2 f0 f1 f2 k0 k1 k2
    obtain ⟨b5, hb5⟩ : ∃ x, x = w3.heap.size := ⟨_, rfl⟩
    have h5w : w.heap.size ≤ b5 := by have := HG.out.size; omega
    have h54 : b4 < b5 := by have := lt_of_block B4.out; omega
    rw [← hb5] at BB ⊢
    replace HG := hid (grown_trans HG.out gB); replace B1 := hid (keepB B1.out gB); replace B4 := hid (keepB B4.out gB); replace HA := hid (HA.out.keep gB); replace HV3 := hid (HV3.out.keep gB)
    have B5 := BB
    clear gB BB hb5
    generalize w3.alloc _ = w3b at *
    obtain ⟨k0, k1, k2⟩ := box3p B1.out
    obtain ⟨l0, l1, l2⟩ := box3p B5.out
    by_cases hod : k % 2 = 1
    · have hm : ((k : Int).tmod 2 == 1) = true := by rw [Int.tmod_eq_emod_of_nonneg (by omega)]; simp; omega
      go_upto_region 6 with (go_at_call 89; (with_reducible refine (HMV.out _ HG.out _ _ _ _ _ _ _ HV3.out).mono ?_); rintro e w4 ⟨g4, p4, n4, c4, q4, m4, d4, rfl, hV4, -, -, hg⟩; have hbb := keepB B5.out hg; obtain ⟨z0, z1, z2⟩ := box3p hbb; have fa := fun o => frozen_of_row w4 b5 o _ _ hbb; have f0 := fa 0; have f1 := fa 1; have f2 := fa 2; have hgS := set3_grown w4 b5 (.bool g4) (.slice p4 n4 c4) (.slice q4 m4 d4); have B5E := hid (set3_block hbb g4 p4 n4 c4 q4 m4 d4); have HGE := hid (grown_new (grown_trans HG.out hg) hgS (fun g' e => by cases e; exact h5w)); have B4E := hid ((hgS.block b4 (lt_of_block (keepB B4.out hg)) (by simp; omega)).trans (keepB B4.out hg)); have HV4 := hid (stay3 hV4 hbb hgS); clear hV4 hbb fa hgS hg)
      clear k0 k1 k2 l0 l1 l2 z0 z1 z2 f0 f1 f2 B1 B4 B5 HG HA HV3
      generalize ((w4.setCell _ _).setCell _ _).setCell _ _ = w5 at *
      obtain ⟨k0, k1, k2⟩ := box3p B5E.out
      have HQ := hid (QPost.close B4E.out h4w HGE.out HV4.out)
      have HBE := hid (set3_block B4E.out g4 p4 n4 c4 q4 m4 d4)
      obtain ⟨z0, z1, z2⟩ := box3p B4E.out
      have fa := fun o => frozen_of_row w5 b4 o _ _ B4E.out
      have f0 := fa 0; have f1 := fa 1; have f2 := fa 2
      clear fa
      go_wp2_with fail
      clear z0 z1 z2 f0 f1 f2
      generalize ((w5.setCell _ _).setCell _ _).setCell _ _ = wE at *
      obtain ⟨l0, l1, l2⟩ := box3p HBE.out
      exact bodyPost_ret (v := .agg #[.bool g4, .slice p4 n4 c4, .slice q4 m4 d4]) (by simp [results, Tryz.results104, go_sem, l0, l1, l2]) rfl (QPost.congr HQ.out (rat_pow_odd hod))
    · have hm : ((k : Int).tmod 2 == 1) = false := by rw [Int.tmod_eq_emod_of_nonneg (by omega)]; simp; omega
      go_upto_region 6 with fail
      have HQ := hid (QPost.close B4.out h4w HG.out HV3.out)
      have HBE := hid (set3_block B4.out g3 p3 n3 c3 q3 m3 d3)
      obtain ⟨z0, z1, z2⟩ := box3p B4.out
      have fa := fun o => frozen_of_row w3b b4 o _ _ B4.out
      have f0 := fa 0; have f1 := fa 1; have f2 := fa 2
      clear fa
      go_wp2_with fail
      clear z0 z1 z2 f0 f1 f2
      generalize ((w3b.setCell _ _).setCell _ _).setCell _ _ = wE at *
      obtain ⟨l0, l1, l2⟩ := box3p HBE.out
      exact bodyPost_ret (v := .agg #[.bool g3, .slice p3 n3 c3, .slice q3 m3 d3]) (by simp [results, Tryz.results104, go_sem, l0, l1, l2]) rfl (QPost.congr HQ.out (rat_pow_even hod))
end Go.Proofs.YtknmdmofmcfjhaaGreatDoor

set_option linter.unusedVariables false
set_option linter.unusedSimpArgs false
namespace Go.Proofs.YtknmdmofmcfjhaaGreatDoor
open Go Go.RowKit _root_.Nm
def RR (w : World) (cs : List Value) (n1 n2 : Nat) (v : Rat) : Prop := ∃ (g : Bool) (p : Option Addr) (c : Nat) (q : Option Addr) (d : Nat) (xs ys : List Nat),
  cs = [.bool g, .slice p n1 c, .slice q n2 d] ∧ IRd w .u16 p n1 c xs ∧ IRd w .u16 q n2 d ys ∧ (Dg 65536 xs ∧ Dg 65536 ys) ∧ v = mkRat (sg g (V 65536 xs)) (V 65536 ys)
/-- a slice of numbers, valid or not -/
structure IsRR (w : World) (p : Option Addr) (n c : Nat) (L : List Rat) (N1 N2 : Nat → Nat) : Prop where
  len : L.length = n
  cap : n ≤ c
  max : c ≤ 9223372036854775807
  els : ∀ i (hi : i < L.length), ∃ (b o : Nat) (cs : List Value), p = some ⟨b, o, none⟩ ∧ (∀ j (hj : j < cs.length), w.cell? ⟨b, o + i * 3 + j, none⟩ = some cs[j]) ∧ RR w cs (N1 i) (N2 i) L[i]
/-- a slice of valid numbers -/
structure IsRs (w : World) (p : Option Addr) (n c : Nat) (L : List Rat) : Prop where
  len : L.length = n
  cap : n ≤ c
  max : c ≤ 9223372036854775807
  els : ∀ i (hi : i < L.length), ∃ (b o : Nat) (g : Bool) (p1 : Option Addr) (n1 c1 : Nat) (q1 : Option Addr) (m1 d1 : Nat), p = some ⟨b, o, none⟩ ∧ (w.cell? ⟨b, o + i * 3, none⟩ = some (.bool g) ∧ w.cell? ⟨b, o + i * 3 + 1, none⟩ = some (.slice p1 n1 c1) ∧ w.cell? ⟨b, o + i * 3 + 2, none⟩ = some (.slice q1 m1 d1)) ∧ IsV w g p1 n1 c1 q1 m1 d1 L[i]
theorem IsRs.keep {w w' : World} {p : Option Addr} {n c : Nat} {L : List Rat} (h : IsRs w p n c L) (hg : w.grownBy w' none) : IsRs w' p n c L :=
  ⟨h.len, h.cap, h.max, fun i hi => by
    obtain ⟨b, o, g, p1, n1, c1, q1, m1, d1, e, ⟨x0, x1, x2⟩, hV⟩ := h.els i hi
    exact ⟨b, o, g, p1, n1, c1, q1, m1, d1, e, ⟨hg.cell x0 (by simp), hg.cell x1 (by simp), hg.cell x2 (by simp)⟩, hV.keep hg⟩⟩
def RQ (w : World) (p : Option Addr) (i n1 n2 : Nat) (r : Bool) (v : Rat) : Prop := ∃ (b o : Nat) (g : Bool) (p1 : Option Addr) (c1 : Nat) (q1 : Option Addr) (d1 : Nat), p = some ⟨b, o, none⟩ ∧ (w.cell? ⟨b, o + i * 3, none⟩ = some (.bool g) ∧ w.cell? ⟨b, o + i * 3 + 1, none⟩ = some (.slice p1 n1 c1) ∧ w.cell? ⟨b, o + i * 3 + 2, none⟩ = some (.slice q1 n2 d1)) ∧
  (n1 ≤ 9000 → n2 ≤ 9000 → (∀ W, w.grownBy W none → Calls Tryz.prog 19 #[.agg #[.bool g, .slice p1 n1 c1, .slice q1 n2 d1]] W fun e w' => e = .returned (.bool r) ∧ W.grownBy w' none) ∧ (r = true → IsV w g p1 n1 c1 q1 n2 d1 v))
theorem RR.q {w : World} (T : Tb w) {p : Option Addr} {i b o n1 n2 : Nat} {cs : List Value} {v : Rat} (hp : p = some ⟨b, o, none⟩) (hc : ∀ j (hj : j < cs.length), w.cell? ⟨b, o + i * 3 + j, none⟩ = some cs[j]) (h : RR w cs n1 n2 v) : ∃ r, RQ w p i n1 n2 r v := by
  obtain ⟨g, p1, c, q, d, xs, ys, rfl, hx, hy, ⟨dx, dy⟩, hv⟩ := h
  by_cases h12 : n1 ≤ 9000 ∧ n2 ≤ 9000
  · obtain ⟨r, r1, r2, r3⟩ := right3_full T g hx dx hy dy h12.1 h12.2
    exact ⟨r, b, o, g, p1, c, q, d, hp, ⟨hc 0 (by simp), hc 1 (by simp), hc 2 (by simp)⟩, fun _ _ => ⟨r2, fun hr => by rw [hv]; exact r3 hr⟩⟩
  · exact ⟨false, b, o, g, p1, c, q, d, hp, ⟨hc 0 (by simp), hc 1 (by simp), hc 2 (by simp)⟩, fun h1 h2 => absurd ⟨h1, h2⟩ h12⟩
theorem IsRR.q {w : World} (T : Tb w) {p : Option Addr} {n c : Nat} {L : List Rat} {N1 N2 : Nat → Nat} (h : IsRR w p n c L N1 N2) : ∃ R : Nat → Bool, ∀ i (hi : i < L.length), RQ w p i (N1 i) (N2 i) (R i) L[i] := by
  have hex : ∀ i, ∃ r, ∀ hi : i < L.length, RQ w p i (N1 i) (N2 i) r L[i] := fun i => by
    by_cases hi : i < L.length
    · obtain ⟨b, o, cs, e1, e2, e3⟩ := h.els i hi
      obtain ⟨r, hr⟩ := RR.q T e1 e2 e3
      exact ⟨r, fun _ => hr⟩
    · exact ⟨true, fun k => absurd k hi⟩
  exact ⟨fun i => Classical.choose (hex i), fun i hi => Classical.choose_spec (hex i) hi⟩
def okV (N1 N2 : Nat → Nat) (R : Nat → Bool) (i : Nat) : Prop := N1 i ≤ 2 ∧ N2 i ≤ 2 ∧ R i = true
instance (N1 N2 : Nat → Nat) (R : Nat → Bool) (i : Nat) : Decidable (okV N1 N2 R i) := by unfold okV; infer_instance
set_option maxHeartbeats 8000000 in
set_option maxRecDepth 100000 in
theorem values_w {w : World} {p : Option Addr} {n c : Nat} {L : List Rat} {N1 N2 : Nat → Nat} {R : Nat → Bool} (hl : L.length = n) (hc : n ≤ c) (hmx : c ≤ 9223372036854775807) (hQ : ∀ i (hi : i < L.length), RQ w p i (N1 i) (N2 i) (R i) L[i]) (W0 : World) (hW0 : w.grownBy W0 none) :
    Calls Tryz.prog 44 #[.slice p n c] W0 fun e w' => e = .returned (.bool (decide ((∀ i, i < n → okV N1 N2 R i) ∧ n ≤ 6))) ∧ W0.grownBy w' none := by
  have HQ := hid hQ; have HL := hid hl; have HW0 := hid hW0
  clear hQ hl hW0
  have HF : Hid (∀ i, i < n → ¬ okV N1 N2 R i → decide ((∀ i, i < n → okV N1 N2 R i) ∧ n ≤ 6) = false) := hid fun i hi h => decide_eq_false fun h2 => h (h2.1 i hi)
  obtain ⟨ans, hans⟩ : ∃ x, x = decide ((∀ i, i < n → okV N1 N2 R i) ∧ n ≤ 6) := ⟨_, rfl⟩
  rw [← hans] at HF ⊢
  have HANS := hid hans
  clear hans
  go_enter Tryz.func44, Tryz.ntmps44
  go_wp2_with fail
  go_loopw [3] (fun x wr => ∃ (i : Nat), i ≤ n ∧ x = .int .i64 i ∧ Hid (W0.grownBy wr none) ∧ Hid (∀ j, j < i → okV N1 N2 R j)) (fun x _ => n - (intOf x).toNat)
  case atStart => exact ⟨0, Nat.zero_le _, rfl, hid (grown_refl _ _), hid fun j h => absurd h (Nat.not_lt_zero j)⟩
  case round =>
    obtain ⟨i, hi, rfl, HG, HS⟩ := hrel
    by_cases hlt : i < n
    · have hil : i < L.length := by have := HL.out; omega
      obtain ⟨b, o, g, p1, c1, q1, d1, rfl, ⟨x0, x1, x2⟩, hR⟩ := HQ.out i hil
      have HRR := hid hR
      have hgw := grown_trans HW0.out HG.out
      replace x0 := hgw.cell x0 (by simp); replace x1 := hgw.cell x1 (by simp); replace x2 := hgw.cell x2 (by simp)
      have HFi := hid (HF.out i hlt)
      obtain ⟨u1, hu1⟩ : ∃ x, x = N1 i := ⟨_, rfl⟩
      obtain ⟨u2, hu2⟩ : ∃ x, x = N2 i := ⟨_, rfl⟩
      obtain ⟨r, hr⟩ : ∃ x, x = R i := ⟨_, rfl⟩
      have HOK : Hid (okV N1 N2 R i ↔ (u1 ≤ 2 ∧ u2 ≤ 2 ∧ r = true)) := hid (by rw [hu1, hu2, hr]; exact Iff.rfl)
      rw [← hu1, ← hu2, ← hr] at hR
      rw [← hu1] at x1
      rw [← hu2] at x2
      clear HRR hu1 hu2 hr hgw
      by_cases h1 : 2 < u1
      · clear hR
        go_wp2_with fail
        go_ret
        exact ⟨ret_eq (congrArg Value.bool (HFi.out fun h => by have := HOK.out.1 h; omega).symm), HG.out⟩
      by_cases h2 : 2 < u2
      · clear hR
        go_wp2_with fail
        go_ret
        exact ⟨ret_eq (congrArg Value.bool (HFi.out fun h => by have := HOK.out.1 h; omega).symm), HG.out⟩
      have HR := hid fun W (hg : W0.grownBy W none) => (hR (by omega) (by omega)).1 W (grown_trans HW0.out hg)
      clear hR
      cases r
      · go_wp2_with (go_at_call 19; (with_reducible refine (HR.out _ HG.out).mono ?_); rintro e w1 ⟨rfl, hg⟩; replace HG := hid (grown_trans HG.out hg); clear hg)
        go_ret
        exact ⟨ret_eq (congrArg Value.bool (HFi.out fun h => by have := HOK.out.1 h; simp at this).symm), HG.out⟩
      · go_wp2_with (go_at_call 19; (with_reducible refine (HR.out _ HG.out).mono ?_); rintro e w1 ⟨rfl, hg⟩; replace HG := hid (grown_trans HG.out hg); clear hg)
        exact ⟨⟨i + 1, by omega, by go_num, HG, hid fun j hj => by
          by_cases hj2 : j = i
          · subst hj2; exact HOK.out.2 ⟨by omega, by omega, by simp⟩
          · exact HS.out j (by omega)⟩, by simp [intOf]; omega⟩
    · obtain rfl : i = n := by omega
      go_wp2_with fail
      go_ret
      have e : ans = decide ((i : Int) ≤ 6) := by
        rw [HANS.out]
        by_cases h6 : i ≤ 6
        · rw [decide_eq_true (⟨HS.out, h6⟩), decide_eq_true (by omega)]
        · rw [decide_eq_false (fun h => h6 h.2), decide_eq_false (by omega)]
      exact ⟨ret_eq (congrArg Value.bool e.symm), HG.out⟩
theorem values6_v {w : World} (T : Tb w) {p : Option Addr} {n c : Nat} {L : List Rat} {N1 N2 : Nat → Nat} (h : IsRR w p n c L N1 N2) :
    ∃ b : Bool, (∀ W, w.grownBy W none → Calls Tryz.prog 44 #[.slice p n c] W fun e w' => e = .returned (.bool b) ∧ W.grownBy w' none) ∧
      (b = true → n ≤ 6 ∧ IsRs w p n c L ∧ ∀ v ∈ L, Bd 2 v) := by
  obtain ⟨R, hR⟩ := h.q T
  refine ⟨_, fun W hW => values_w h.len h.cap h.max hR W hW, fun hb => ?_⟩
  obtain ⟨h1, h2⟩ := of_decide_eq_true hb
  have hall : ∀ i (hi : i < L.length), ∃ (b o : Nat) (g : Bool) (p1 : Option Addr) (n1 c1 : Nat) (q1 : Option Addr) (m1 d1 : Nat), (p = some ⟨b, o, none⟩ ∧ (w.cell? ⟨b, o + i * 3, none⟩ = some (.bool g) ∧ w.cell? ⟨b, o + i * 3 + 1, none⟩ = some (.slice p1 n1 c1) ∧ w.cell? ⟨b, o + i * 3 + 2, none⟩ = some (.slice q1 m1 d1)) ∧ IsV w g p1 n1 c1 q1 m1 d1 L[i]) ∧ n1 ≤ 2 ∧ m1 ≤ 2 := fun i hi => by
    obtain ⟨o1, o2, o3⟩ := h1 i (by rw [← h.len]; exact hi)
    obtain ⟨b, o, g, p1, c1, q1, d1, e, hx, hh⟩ := hR i hi
    exact ⟨b, o, g, p1, _, c1, q1, _, d1, ⟨e, hx, (hh (by omega) (by omega)).2 o3⟩, o1, o2⟩
  refine ⟨h2, ⟨h.len, h.cap, h.max, fun i hi => ?_⟩, fun v hv => ?_⟩
  · obtain ⟨b, o, g, p1, n1, c1, q1, m1, d1, k, -⟩ := hall i hi
    exact ⟨b, o, g, p1, n1, c1, q1, m1, d1, k⟩
  · obtain ⟨i, hi, rfl⟩ := List.getElem_of_mem hv
    obtain ⟨b, o, g, p1, n1, c1, q1, m1, d1, k, k1, k2⟩ := hall i hi
    exact k.2.2.bd k1 k2
end Go.Proofs.YtknmdmofmcfjhaaGreatDoor

set_option linter.unusedVariables false
set_option linter.unusedSimpArgs false
namespace Go.Proofs.YtknmdmofmcfjhaaGreatDoor
open Go Go.RowKit _root_.Nm
/-- the value of the monomial's first n variables -/
def mv (V : List Rat) (xs : List Int) : Nat → Rat
  | 0 => 1
  | j + 1 => mv V xs j * (V.getD j 0) ^ ((ex xs j).toNat)
/-- the value of the first i terms -/
def sm (V : List Rat) (P : List Tm) : Nat → Rat
  | 0 => 0
  | i + 1 => sm V P i + (tmI P i).2 * mv V (tmI P i).1 (tmI P i).1.length
theorem getD_in {V : List Rat} {j : Nat} (hj : j < V.length) : V.getD j 0 = V[j] := by simp [List.getD, List.getElem?_eq_getElem hj]
theorem getD_bd {V : List Rat} (h : ∀ v ∈ V, Bd 2 v) {j : Nat} : Bd 2 (V.getD j 0) := by
  by_cases hj : j < V.length
  · rw [getD_in hj]; exact h _ (List.getElem_mem hj)
  · rw [show V.getD j 0 = 0 by simp [List.getD, List.getElem?_eq_none (show V.length ≤ j by omega)]]; exact ⟨by decide, by decide⟩
theorem mv_bd {V : List Rat} (h : ∀ v ∈ V, Bd 2 v) {xs : List Int} (hx : RightZ 8 xs) : ∀ j, Bd (17 * j + 1) (mv V xs j)
  | 0 => (show Bd 1 (1 : Rat) from ⟨by decide, by decide⟩)
  | j + 1 => by
    have h1 := bd_pow (getD_bd h (j := j)) ((ex xs j).toNat)
    have h2 := hx.ex (by omega) j
    exact ((mv_bd h hx j).mul h1).mono (by omega)
theorem sm_bd {V : List Rat} (h : ∀ v ∈ V, Bd 2 v) {P : List Tm} (bP : BdP 4 P) (eP : ExP 8 P) (hl : ∀ t ∈ P, t.1.length ≤ 5) : ∀ i, i ≤ P.length → Bd (100 * i + 1) (sm V P i)
  | 0, _ => (show Bd 1 (0 : Rat) from ⟨by decide, by decide⟩)
  | i + 1, hi => by
    have h1 := sm_bd h bP eP hl i (by omega)
    have hm : tmI P i ∈ P := by rw [tmI_at (by omega)]; exact List.getElem_mem _
    have h2 := (bP _ hm).mul (mv_bd h (eP _ hm) (tmI P i).1.length)
    have h3 := hl _ hm
    exact (Bd.add h1 h2).mono (by omega)
set_option maxHeartbeats 32000000 in
set_option maxRecDepth 100000 in
theorem rEval6_v {w : World} {p : Option Addr} {n c : Nat} {P : List Tm} (hP : IsP w p n c P) (bP : BdP 4 P) (eP : ExP 8 P) (hl5 : ∀ t ∈ P, t.1.length ≤ 5) (hn8 : n ≤ 8) {pv : Option Addr} {nv cv : Nat} {V : List Rat} (hV : IsRs w pv nv cv V) (bV : ∀ v ∈ V, Bd 2 v) (hok : ∀ t ∈ P, t.1.length ≤ nv) :
    Calls Tryz.prog 46 #[.slice p n c, .slice pv nv cv] w fun e w' => ∃ g1 p1 n1 c1 q1 m1 d1, e = .returned (.tuple #[.agg #[.bool g1, .slice p1 n1 c1, .slice q1 m1 d1], .int .i64 0]) ∧ IsV w' g1 p1 n1 c1 q1 m1 d1 (sm V P n) ∧ w.grownBy w' none := by
  have hl := hP.len; have hc := hP.cap; have hmx := hP.max; have hlv := hV.len; have hcv := hV.cap; have hmv := hV.max
  have HP := hid hP; have HL := hid hl; have HV := hid hV; have HLV := hid hlv; have HOK := hid hok
  have HBT := hid fun i (hi : i < P.length) j (hj : j ≤ P[i].1.length) => show Bd 100 (P[i].2 * mv V P[i].1 j) from ((bP.at hi).mul (mv_bd bV (eP.at hi) j)).mono (by have := hl5 _ (List.getElem_mem hi); omega)
  have HBS := hid fun i (hi : i < P.length) => show Bd 901 (sm V P i) from (sm_bd bV bP eP hl5 i (by omega)).mono (by omega)
  have HEX := hid eP
  have HBV := hid bV
  have HO := hid fun W : World => rOf3_v (w := W) 0 (by omega) (by omega)
  rw [show ((0 : Int) : Rat) = 0 from rfl] at HO
  have HML := hid fun W (v u : Rat) (hv : Bd 100 v) (hu : Bd 17 u) g p n c q m d g2 p2 n2 c2 q2 m2 d2 (h : IsV W g p n c q m d v) (k : IsV W g2 p2 n2 c2 q2 m2 d2 u) => rMul3_v 100 h.q k.q (h.lens hv).1 (h.lens hv).2 (by have := (k.lens hu).1; omega) (by have := (k.lens hu).2; omega) (by omega)
  have HAD := hid fun W (v u : Rat) (hv : Bd 901 v) (hu : Bd 100 u) g p n c q m d g2 p2 n2 c2 q2 m2 d2 (h : IsV W g p n c q m d v) (k : IsV W g2 p2 n2 c2 q2 m2 d2 u) => rAdd3_v 901 h.q k.q (h.lens hv).1 (h.lens hv).2 (by have := (k.lens hu).1; omega) (by have := (k.lens hu).2; omega) (by omega)
  unfold VPost at HO
  have gA := World.grownBy_alloc w (.cells #[.bool false, .slice none 0 0, .slice none 0 0] 29 (0, 0)) none
  have HG := hid gA
  have B4 := hid (blk0 w (.cells #[.bool false, .slice none 0 0, .slice none 0 0] 29 (0, 0)))
  clear hP hl hV hlv hok bP eP hl5 bV gA
  go_enter Tryz.func46, Tryz.ntmps46
  go_upto_region 1 with fail
  obtain ⟨b4, hb4⟩ : ∃ x, x = w.heap.size := ⟨_, rfl⟩
  have h4w : w.heap.size ≤ b4 := by omega
  rw [← hb4] at B4 ⊢
  clear hb4
  generalize w.alloc _ = w0 at *
  go_upto_region 2 with (go_at_call 55; (with_reducible refine (HO.out _).mono ?_); rintro e w1 ⟨g6, p6, n6, c6, q6, m6, d6, rfl, hV6, -, -, hg⟩; have HV6 := hid hV6; replace HG := hid (grown_trans HG.out hg); replace B4 := hid (keepB B4.out hg); clear hV6 hg; have gB := World.grownBy_alloc w1 (.cells #[.bool g6, .slice p6 n6 c6, .slice q6 m6 d6] 29 (0, 0)) none; have BB := hid (blk0 w1 (.cells #[.bool g6, .slice p6 n6 c6, .slice q6 m6 d6] 29 (0, 0))); obtain ⟨i0, i1, i2⟩ := box3p (blk0 w1 (.cells #[.bool false, .slice none 0 0, .slice none 0 0] 29 (0, 0))); have fa := fun o => frozen_of_row (w1.alloc (.cells #[.bool false, .slice none 0 0, .slice none 0 0] 29 (0, 0))) w1.heap.size o _ _ (blk0 w1 (.cells #[.bool false, .slice none 0 0, .slice none 0 0] 29 (0, 0))); have f0 := fa 0; have f1 := fa 1; have f2 := fa 2; clear fa)
  clear i0 i1 i2 f0 f1 f2
  obtain ⟨b6, hb6⟩ : ∃ x, x = w1.heap.size := ⟨_, rfl⟩
  have h6w : w.heap.size ≤ b6 := by have := HG.out.size; omega
  have h46 : b4 < b6 := by have := lt_of_block B4.out; omega
  rw [← hb6] at BB ⊢
  replace HG := hid (grown_trans HG.out gB); replace B4 := hid (keepB B4.out gB); replace HV6 := hid (HV6.out.keep gB)
  have B6 := BB
  clear gB BB hb6
  generalize w1.alloc _ = w1b at *
  go_upto_region 3 with fail
  go_loop [7] (fun i => ∃ k : Nat, k ≤ n ∧ i = .int .i64 k) (fun i => n - (intOf i).toNat)
  case atStart => exact ⟨0, Nat.zero_le _, rfl⟩
  case round =>
    obtain ⟨i, hi, rfl⟩ := hrel
    by_cases hlt : i < n
    · have hil : i < P.length := by have := HL.out; omega
      obtain ⟨b, o, g1, p1, n1, c1, q1, m1, d1, a1, k1, e1, rfl, ⟨x0, x1, x2, x3⟩, hVx, hX⟩ := ((HP.out.keep HG.out).tms i hil).out
      have hk := HOK.out _ (List.getElem_mem hil)
      have hkl := hX.len
      have hk1 : k1 ≤ nv := by omega
      have hkc := hX.cap; have hkm := hX.max
      clear hVx hX x0 x1 x2 hk hkl
      go_wp2_with fail
      exact ⟨⟨i + 1, by omega, by go_num⟩, by simp [intOf]; omega⟩
    · obtain rfl : n = i := by omega
      go_upto_region 8 with fail
      go_loopw [8] (fun x wr => ∃ (i : Nat) (g6 : Bool) (p6 : Option Addr) (n6 c6 : Nat) (q6 : Option Addr) (m6 d6 : Nat), i ≤ n ∧ x = .int .i64 i ∧ Hid (w.grownBy wr none) ∧ Hid (wr.heap[b4]? = some (.cells #[.bool false, .slice none 0 0, .slice none 0 0] 29 (0, 0))) ∧ Hid (wr.heap[b6]? = some (.cells #[.bool g6, .slice p6 n6 c6, .slice q6 m6 d6] 29 (0, 0))) ∧ Hid (IsV wr g6 p6 n6 c6 q6 m6 d6 (sm V P i))) (fun x _ => n - (intOf x).toNat)
      case atStart => exact ⟨0, g6, p6, n6, c6, q6, m6, d6, Nat.zero_le _, rfl, HG, B4, B6, HV6⟩
      case round =>
        clear HG B4 B6 HV6
        obtain ⟨i, g6, p6, n6, c6, q6, m6, d6, hi, rfl, HG, B4, B6, HV6⟩ := hrel
        by_cases hlt : i < n
        · have hil : i < P.length := by have := HL.out; omega
          obtain ⟨b, o, g1, p1, n1, c1, q1, m1, d1, a1, k1, e1, rfl, ⟨x0, x1, x2, x3⟩, hV1, hX⟩ := (HP.out.tms i hil).out
          have HSM : Hid (sm V P (i + 1) = sm V P i + P[i].2 * mv V P[i].1 P[i].1.length) := hid (by show sm V P i + (tmI P i).2 * mv V (tmI P i).1 (tmI P i).1.length = _; rw [tmI_at hil])
          have HBTi := hid (HBT.out i hil)
          have HBSi := hid (HBS.out i hil)
          have hE := HEX.out.at hil
          have hkv := HOK.out _ (List.getElem_mem hil)
          obtain ⟨t, ht⟩ : ∃ t, t = P[i] := ⟨_, rfl⟩
          rw [← ht] at HSM HBTi hE hkv hV1 hX
          obtain ⟨xs, u⟩ := t
          dsimp only at HSM HBTi hE hkv hV1 hX
          obtain ⟨sv, hsv⟩ : ∃ x, x = sm V P i := ⟨_, rfl⟩
          rw [← hsv] at HSM HBSi HV6
          have hxl := hX.len; have hxc := hX.cap; have hxm := hX.max
          have HX := hid hX; have HE := hid hE; have HV1 := hid hV1; have HXL := hid hxl
          have y0 := HG.out.cell x0 (by simp); have y1 := HG.out.cell x1 (by simp); have y2 := HG.out.cell x2 (by simp)
          have hk1v : k1 ≤ nv := by omega
          clear ht hsv hX hE hkv hV1 hxl x0 x1 x2
          have gB := World.grownBy_alloc wr (.cells #[.bool g1, .slice p1 n1 c1, .slice q1 m1 d1] 29 (0, 0)) none; have BB := hid (blk0 wr (.cells #[.bool g1, .slice p1 n1 c1, .slice q1 m1 d1] 29 (0, 0))); obtain ⟨i0, i1, i2⟩ := box3p (blk0 wr (.cells #[.bool false, .slice none 0 0, .slice none 0 0] 29 (0, 0))); have fa := fun o => frozen_of_row (wr.alloc (.cells #[.bool false, .slice none 0 0, .slice none 0 0] 29 (0, 0))) wr.heap.size o _ _ (blk0 wr (.cells #[.bool false, .slice none 0 0, .slice none 0 0] 29 (0, 0))); have f0 := fa 0; have f1 := fa 1; have f2 := fa 2; clear fa
          go_upto_region 11 with fail
          clear i0 i1 i2 f0 f1 f2 y0 y1 y2
          obtain ⟨b9, hb9⟩ : ∃ x, x = wr.heap.size := ⟨_, rfl⟩
          have h9w : w.heap.size ≤ b9 := by have := HG.out.size; omega
          have h69 : b6 < b9 := by have := lt_of_block B6.out; omega
          rw [← hb9] at BB ⊢
          replace HG := hid (grown_trans HG.out gB); replace B4 := hid (keepB B4.out gB); replace B6 := hid (keepB B6.out gB); replace HV6 := hid (HV6.out.keep gB)
          have B9 := BB
          have HV9 := hid (HV1.out.keep HG.out)
          clear gB BB hb9
          generalize wr.alloc _ = wb at *
          go_upto_region 12 with fail
          go_loopw [10] (fun x w2 => ∃ (j : Nat) (g9 : Bool) (p9 : Option Addr) (n9 c9 : Nat) (q9 : Option Addr) (m9 d9 : Nat), j ≤ k1 ∧ x = .int .i64 j ∧ Hid (w.grownBy w2 none) ∧ Hid (w2.heap[b4]? = some (.cells #[.bool false, .slice none 0 0, .slice none 0 0] 29 (0, 0))) ∧ Hid (w2.heap[b6]? = some (.cells #[.bool g6, .slice p6 n6 c6, .slice q6 m6 d6] 29 (0, 0))) ∧ Hid (w2.heap[b9]? = some (.cells #[.bool g9, .slice p9 n9 c9, .slice q9 m9 d9] 29 (0, 0))) ∧ Hid (IsV w2 g6 p6 n6 c6 q6 m6 d6 sv) ∧ Hid (IsV w2 g9 p9 n9 c9 q9 m9 d9 (u * mv V xs j))) (fun x _ => k1 - (intOf x).toNat)
          case atStart => exact ⟨0, g1, p1, n1, c1, q1, m1, d1, Nat.zero_le _, rfl, HG, B4, B6, B9, HV6, hid (by show IsV _ _ _ _ _ _ _ _ (u * 1); rw [Rat.mul_one]; exact HV9.out)⟩
          case round =>
            clear HG B4 B6 B9 HV6 HV9
            obtain ⟨j, g9, p9, n9, c9, q9, m9, d9, hj, rfl, HG, B4, B6, B9, HV6, HV9⟩ := hrel
            have y3 := HG.out.cell x3 (by simp)
            by_cases hjk : j < k1
            · have hjx : j < xs.length := by have := HXL.out; omega
              obtain ⟨ba, oa, rfl, hcj⟩ := HX.out.cel j hjx
              obtain ⟨bv, ov, gv, pv1, nv1, cv1, qv1, mv1, dv1, rfl, ⟨v0, v1, v2⟩, hVv⟩ := HV.out.els j (by have := HLV.out; omega)
              have hxb := HE.out.bound _ (List.getElem_mem hjx)
              have hbv := HBV.out _ (List.getElem_mem (show j < V.length by have := HLV.out; omega))
              have hex : ex xs j = xs[j] := ex_lt hjx
              obtain ⟨k, hk⟩ : ∃ k : Nat, xs[j] = (k : Int) := ⟨xs[j].toNat, by omega⟩
              have hk8 : k ≤ 8 := by omega
              have hjnv : j < nv := by omega
              rw [hk] at hcj hex
              have hmv : mv V xs (j + 1) = mv V xs j * (V[j]'(by have := HLV.out; omega)) ^ k := by
                show mv V xs j * (V.getD j 0) ^ ((ex xs j).toNat) = _
                rw [getD_in (by have := HLV.out; omega), hex]
                rfl
              obtain ⟨vj, hvj⟩ : ∃ x, x = V[j]'(by have := HLV.out; omega) := ⟨_, rfl⟩
              rw [← hvj] at hVv hbv hmv
              obtain ⟨a, ha⟩ : ∃ x, x = u * mv V xs j := ⟨_, rfl⟩
              obtain ⟨z, hz⟩ : ∃ x, x = vj ^ k := ⟨_, rfl⟩
              obtain ⟨s, hs⟩ : ∃ x, x = a * z := ⟨_, rfl⟩
              have hba : Bd 100 a := by rw [ha]; exact HBTi.out j (by have := HXL.out; omega)
              have hbz : Bd 17 z := by rw [hz]; exact (bd_pow hbv k).mono (by omega)
              have HPW : Hid (∀ W, w.grownBy W none → Calls Tryz.prog 104 #[.agg #[.bool gv, .slice pv1 nv1 cv1, .slice qv1 mv1 dv1], .int .i64 k] W (QPost W z)) := hid fun W hg => by rw [hz]; exact rpow6_v 4 (hVv.keep hg) hbv (by omega) (by omega) (by omega)
              have HMLi : Hid (∀ W g p n c q m d g2 p2 n2 c2 q2 m2 d2, IsV W g p n c q m d a → IsV W g2 p2 n2 c2 q2 m2 d2 z → Calls Tryz.prog 89 #[.agg #[.bool g, .slice p n c, .slice q m d], .agg #[.bool g2, .slice p2 n2 c2, .slice q2 m2 d2]] W (VPost W s 420)) := hid fun W g p n c q m d g2 p2 n2 c2 q2 m2 d2 h k => by rw [hs]; exact HML.out W a z hba hbz _ _ _ _ _ _ _ _ _ _ _ _ _ _ h k
              have HS : Hid (u * mv V xs (j + 1) = s) := hid (by rw [hmv, ← Rat.mul_assoc, ← ha, ← hz, hs])
              rw [← ha] at HV9
              unfold QPost at HPW
              unfold VPost at HMLi
              clear ha hz hs hba hbz hmv hvj hbv hVv hex hk hxb
              go_upto_region 14 with fail
              refine wp_region_noPanic ?_
              refine wp_region_held_drew (S := (fun W => w.grownBy W none)) (by kernel_rfl) ?_ (fun hHeld => ?_)
              · (try dsimp only)
                exact grown_trans HG.out (grown_drew _ none)
              have hgg := grown_trans HG.out (grown_drew wr none)
              have hb4 := keepB B4.out (grown_drew wr none)
              have hb6 := keepB B6.out (grown_drew wr none)
              have hb9 := keepB B9.out (grown_drew wr none)
              have hV6 := HV6.out.keep (grown_drew wr none)
              have hV9 := HV9.out.keep (grown_drew wr none)
              clear HG B4 B6 B9 HV6 HV9
              generalize wr.drew = wd at *
              refine wpAnyH_take (i := 1) (oi := Oper.mk _ _ _ _ _ _) (v := ?_) rfl (by kernel_rfl) (by kernel_rfl) (by kernel_rfl) (fun _ _ _ h => h) (Or.inl ⟨by kernel_rfl, ?_⟩) hHeld ?_
              rotate_left 1
              · intro W hSw
                (try dsimp only at hSw)
                have e3 := hSw.cell x3 (by simp)
                have ej := hSw.cell hcj (by simp)
                have e0 := hSw.cell v0 (by simp)
                have e1' := hSw.cell v1 (by simp)
                have e2 := hSw.cell v2 (by simp)
                go_simp
                (try (with_reducible rfl))
              (try simp only [Act.put, List.setIfInBounds_toArray, List.set_cons_zero, List.set_cons_succ])
              refine wpAnyH_take (i := 2) (oi := Oper.mk _ _ _ _ _ _) (v := ?_) rfl (by kernel_rfl) (by kernel_rfl) (by kernel_rfl) (fun _ _ _ h => h) (Or.inl ⟨by kernel_rfl, ?_⟩) hHeld ?_
              rotate_left 1
              · intro W hSw
                (try dsimp only at hSw)
                have e3 := hSw.cell x3 (by simp)
                have ej := hSw.cell hcj (by simp)
                have e0 := hSw.cell v0 (by simp)
                have e1' := hSw.cell v1 (by simp)
                have e2 := hSw.cell v2 (by simp)
                go_simp
                (try (with_reducible rfl))
              (try simp only [Act.put, List.setIfInBounds_toArray, List.set_cons_zero, List.set_cons_succ])
              refine wpAnyH_take (i := 3) (oi := Oper.mk _ _ _ _ _ _) (v := ?_) rfl (by kernel_rfl) (by kernel_rfl) (by kernel_rfl) (fun _ _ _ h => h) (Or.inl ⟨by kernel_rfl, ?_⟩) hHeld ?_
              rotate_left 1
              · intro W hSw
                (try dsimp only at hSw)
                have e3 := hSw.cell x3 (by simp)
                have ej := hSw.cell hcj (by simp)
                have e0 := hSw.cell v0 (by simp)
                have e1' := hSw.cell v1 (by simp)
                have e2 := hSw.cell v2 (by simp)
                go_simp
                (try (with_reducible rfl))
              (try simp only [Act.put, List.setIfInBounds_toArray, List.set_cons_zero, List.set_cons_succ])
              refine wpAnyH_take (i := 4) (oi := Oper.mk _ _ _ _ _ _) (v := ?_) rfl (by kernel_rfl) (by kernel_rfl) (by kernel_rfl) (fun _ _ _ h => h) (Or.inl ⟨by kernel_rfl, ?_⟩) hHeld ?_
              rotate_left 1
              · intro W hSw
                (try dsimp only at hSw)
                have e3 := hSw.cell x3 (by simp)
                have ej := hSw.cell hcj (by simp)
                have e0 := hSw.cell v0 (by simp)
                have e1' := hSw.cell v1 (by simp)
                have e2 := hSw.cell v2 (by simp)
                go_simp
                (try (with_reducible rfl))
              (try simp only [Act.put, List.setIfInBounds_toArray, List.set_cons_zero, List.set_cons_succ])
              refine wpAnyH_take (i := 5) (oi := Oper.mk _ _ _ _ _ _) (v := ?_) rfl (by kernel_rfl) (by kernel_rfl) (by kernel_rfl) (fun _ _ _ h => h) (Or.inl ⟨by kernel_rfl, ?_⟩) hHeld ?_
              rotate_left 1
              · intro W hSw
                (try dsimp only at hSw)
                have e3 := hSw.cell x3 (by simp)
                have ej := hSw.cell hcj (by simp)
                have e0 := hSw.cell v0 (by simp)
                have e1' := hSw.cell v1 (by simp)
                have e2 := hSw.cell v2 (by simp)
                go_simp
                (try (with_reducible rfl))
              (try simp only [Act.put, List.setIfInBounds_toArray, List.set_cons_zero, List.set_cons_succ])
              refine wpAnyH_take (i := 6) (oi := Oper.mk _ _ _ _ _ _) (v := ?_) rfl (by kernel_rfl) (by kernel_rfl) (by kernel_rfl) (fun _ _ _ h => h) (Or.inl ⟨by kernel_rfl, ?_⟩) hHeld ?_
              rotate_left 1
              · intro W hSw
                (try dsimp only at hSw)
                have e3 := hSw.cell x3 (by simp)
                have ej := hSw.cell hcj (by simp)
                have e0 := hSw.cell v0 (by simp)
                have e1' := hSw.cell v1 (by simp)
                have e2 := hSw.cell v2 (by simp)
                go_simp
                (try (with_reducible rfl))
              (try simp only [Act.put, List.setIfInBounds_toArray, List.set_cons_zero, List.set_cons_succ])
              refine wpAnyH_take (i := 7) (oi := Oper.mk _ _ _ _ _ _) (v := ?_) rfl (by kernel_rfl) (by kernel_rfl) (by kernel_rfl) (fun _ _ _ h => h) (Or.inl ⟨by kernel_rfl, ?_⟩) hHeld ?_
              rotate_left 1
              · intro W hSw
                (try dsimp only at hSw)
                have e3 := hSw.cell x3 (by simp)
                have ej := hSw.cell hcj (by simp)
                have e0 := hSw.cell v0 (by simp)
                have e1' := hSw.cell v1 (by simp)
                have e2 := hSw.cell v2 (by simp)
                go_simp
                (try (with_reducible rfl))
              (try simp only [Act.put, List.setIfInBounds_toArray, List.set_cons_zero, List.set_cons_succ])
              refine wpAnyH_take (i := 8) (oi := Oper.mk _ _ _ _ _ _) (v := ?_) rfl (by kernel_rfl) (by kernel_rfl) (by kernel_rfl) (fun _ _ _ h => h) (Or.inl ⟨by kernel_rfl, ?_⟩) hHeld ?_
              rotate_left 1
              · intro W hSw
                (try dsimp only at hSw)
                have e3 := hSw.cell x3 (by simp)
                have ej := hSw.cell hcj (by simp)
                have e0 := hSw.cell v0 (by simp)
                have e1' := hSw.cell v1 (by simp)
                have e2 := hSw.cell v2 (by simp)
                go_simp
                (try (with_reducible rfl))
              (try simp only [Act.put, List.setIfInBounds_toArray, List.set_cons_zero, List.set_cons_succ])
              refine wpAnyH_take (i := 9) (oi := Oper.mk _ _ _ _ _ _) (v := ?_) rfl (by kernel_rfl) (by kernel_rfl) (by kernel_rfl) (fun _ _ _ h => h) (Or.inl ⟨by kernel_rfl, ?_⟩) hHeld ?_
              rotate_left 1
              · intro W hSw
                (try dsimp only at hSw)
                have e3 := hSw.cell x3 (by simp)
                have ej := hSw.cell hcj (by simp)
                have e0 := hSw.cell v0 (by simp)
                have e1' := hSw.cell v1 (by simp)
                have e2 := hSw.cell v2 (by simp)
                go_simp
                (try (with_reducible rfl))
              (try simp only [Act.put, List.setIfInBounds_toArray, List.set_cons_zero, List.set_cons_succ])
              refine wpAnyH_take (i := 10) (oi := Oper.mk _ _ _ _ _ _) (v := ?_) rfl (by kernel_rfl) (by kernel_rfl) (by kernel_rfl) (fun _ _ _ h => h) (Or.inl ⟨by kernel_rfl, ?_⟩) hHeld ?_
              rotate_left 1
              · intro W hSw
                (try dsimp only at hSw)
                have e3 := hSw.cell x3 (by simp)
                have ej := hSw.cell hcj (by simp)
                have e0 := hSw.cell v0 (by simp)
                have e1' := hSw.cell v1 (by simp)
                have e2 := hSw.cell v2 (by simp)
                go_simp
                (try (with_reducible rfl))
              (try simp only [Act.put, List.setIfInBounds_toArray, List.set_cons_zero, List.set_cons_succ])
              refine wpAnyH_take (i := 11) (oi := Oper.mk _ _ _ _ _ _) (v := ?_) rfl (by kernel_rfl) (by kernel_rfl) (by kernel_rfl) (fun _ _ _ h => h) (Or.inl ⟨by kernel_rfl, ?_⟩) hHeld ?_
              rotate_left 1
              · intro W hSw
                (try dsimp only at hSw)
                have e3 := hSw.cell x3 (by simp)
                have ej := hSw.cell hcj (by simp)
                have e0 := hSw.cell v0 (by simp)
                have e1' := hSw.cell v1 (by simp)
                have e2 := hSw.cell v2 (by simp)
                go_simp
                (try (with_reducible rfl))
              (try simp only [Act.put, List.setIfInBounds_toArray, List.set_cons_zero, List.set_cons_succ])
              refine wpAnyH_take (i := 12) (oi := Oper.mk _ _ _ _ _ _) (v := ?_) rfl (by kernel_rfl) (by kernel_rfl) (by kernel_rfl) (fun _ _ _ h => h) (Or.inl ⟨by kernel_rfl, ?_⟩) hHeld ?_
              rotate_left 1
              · intro W hSw
                (try dsimp only at hSw)
                have e3 := hSw.cell x3 (by simp)
                have ej := hSw.cell hcj (by simp)
                have e0 := hSw.cell v0 (by simp)
                have e1' := hSw.cell v1 (by simp)
                have e2 := hSw.cell v2 (by simp)
                go_simp
                (try (with_reducible rfl))
              (try simp only [Act.put, List.setIfInBounds_toArray, List.set_cons_zero, List.set_cons_succ])
              refine wpAnyH_ready (rs := [0, 13]) (by kernel_rfl) (by simp) ?_
              refine AllReadyH.cons (o := Oper.mk _ _ _ _ _ _) rfl (fun K hK => ?_) ?_
              · (try rw [if_pos (by kernel_rfl)])
                obtain ⟨z0, z1, z2⟩ := box3p hb9
                go_simp
                refine hK.out _ _ ?_ (fun hNew => ?_)
                · have hH := hHeld
                  (try dsimp only at hH)
                  (try dsimp only)
                  first | with_reducible exact grown_trans hH hgS | with_reducible exact grown_new hH hgS (fun g' e => by cases e; exact h9w) | with_reducible exact hH
                clear hK K hHeld
                have hHeld := hNew
                clear hNew
                (try simp only [Act.put, List.setIfInBounds_toArray, List.set_cons_zero, List.set_cons_succ])
                refine wpAnyH_ready (rs := [13]) (by kernel_rfl) (by simp) ?_
                refine AllReadyH.cons (o := Oper.mk _ _ _ _ _ _) rfl (fun K hK => ?_) AllReadyH.nil
                (try rw [if_pos (by kernel_rfl)])
                go_simp
                go_at_call 104
                refine (HPW.out _ hgg).mono ?_
                rintro e wy1 ⟨g3, p3, n3, c3, q3, m3, d3, rfl, hV3, hgS⟩
                replace hgg := grown_trans hgg hgS
                replace hb4 := keepB hb4 hgS
                replace hb6 := keepB hb6 hgS
                replace hb9 := keepB hb9 hgS
                replace hV6 := hV6.keep hgS
                replace hV9 := hV9.keep hgS
                refine hK.out _ _ ?_ (fun hNew => ?_)
                · have hH := hHeld
                  (try dsimp only at hH)
                  (try dsimp only)
                  first | with_reducible exact grown_trans hH hgS | with_reducible exact grown_new hH hgS (fun g' e => by cases e; exact h9w) | with_reducible exact hH
                clear hK K hHeld
                have hHeld := hNew
                clear hNew
                (try simp only [Act.put, List.setIfInBounds_toArray, List.set_cons_zero, List.set_cons_succ])
                clear hgS
                refine wpAnyH_ready (rs := [14]) (by kernel_rfl) (by simp) ?_
                refine AllReadyH.cons (o := Oper.mk _ _ _ _ _ _) rfl (fun K hK => ?_) AllReadyH.nil
                (try rw [if_pos (by kernel_rfl)])
                go_simp
                go_at_call 89
                refine (HMLi.out _ _ _ _ _ _ _ _ _ _ _ _ _ _ _ hV9 hV3).mono ?_
                rintro e wy2 ⟨g5, p5, n5, c5, q5, m5, d5, rfl, hV5, -, -, hgS⟩
                replace hgg := grown_trans hgg hgS
                replace hb4 := keepB hb4 hgS
                replace hb6 := keepB hb6 hgS
                replace hb9 := keepB hb9 hgS
                replace hV6 := hV6.keep hgS
                replace hV9 := hV9.keep hgS
                replace hV3 := hV3.keep hgS
                refine hK.out _ _ ?_ (fun hNew => ?_)
                · have hH := hHeld
                  (try dsimp only at hH)
                  (try dsimp only)
                  first | with_reducible exact grown_trans hH hgS | with_reducible exact grown_new hH hgS (fun g' e => by cases e; exact h9w) | with_reducible exact hH
                clear hK K hHeld
                have hHeld := hNew
                clear hNew
                (try simp only [Act.put, List.setIfInBounds_toArray, List.set_cons_zero, List.set_cons_succ])
                clear hgS
                refine wpAnyH_ready (rs := [15]) (by kernel_rfl) (by simp) ?_
                refine AllReadyH.cons (o := Oper.mk _ _ _ _ _ _) rfl (fun K hK => ?_) AllReadyH.nil
                (try rw [if_pos (by kernel_rfl)])
                obtain ⟨z0, z1, z2⟩ := box3p hb9
                have zf := fun o => frozen_of_row wy2 b9 o _ _ hb9
                have f0 := zf 0
                have f1 := zf 1
                have f2 := zf 2
                go_simp
                have hgS := set3_grown wy2 b9 (.bool g5) (.slice p5 n5 c5) (.slice q5 m5 d5)
                have B9E := hid (set3_block hb9 g5 p5 n5 c5 q5 m5 d5)
                have HGE := hid (grown_new hgg hgS (fun g' e => by cases e; exact h9w))
                have HV5E := hid (stay3 hV5 hb9 hgS)
                have HV6E := hid (stay3 hV6 hb9 hgS)
                have B4E := hid ((hgS.block b4 (lt_of_block hb4) (by simp; omega)).trans hb4)
                have B6E := hid ((hgS.block b6 (lt_of_block hb6) (by simp; omega)).trans hb6)
                clear z0 z1 z2 zf f0 f1 f2
                refine hK.out _ _ ?_ (fun hNew => ?_)
                · have hH := hHeld
                  (try dsimp only at hH)
                  (try dsimp only)
                  first | with_reducible exact grown_trans hH hgS | with_reducible exact grown_new hH hgS (fun g' e => by cases e; exact h9w) | with_reducible exact hH
                clear hK K hHeld
                have hHeld := hNew
                clear hNew
                (try simp only [Act.put, List.setIfInBounds_toArray, List.set_cons_zero, List.set_cons_succ])
                refine wpAnyH_done (by kernel_rfl) ?_ _
                refine NoPanic.normal ?_
                clear hHeld hgS hV3 hV5 hV6 hV9 hb4 hb6 hb9 hgg
                generalize ((wy2.setCell _ _).setCell _ _).setCell _ _ = wE at *
                go_wp2_with fail
                exact ⟨⟨j + 1, g5, p5, n5, c5, q5, m5, d5, by omega, by go_num, HGE, B4E, B6E, B9E, HV6E, hid (by rw [HS.out]; exact HV5E.out)⟩, by simp [intOf]; omega⟩
              refine AllReadyH.cons (o := Oper.mk _ _ _ _ _ _) rfl (fun K hK => ?_) AllReadyH.nil
              (try rw [if_pos (by kernel_rfl)])
              go_simp
              go_at_call 104
              refine (HPW.out _ hgg).mono ?_
              rintro e wy1 ⟨g3, p3, n3, c3, q3, m3, d3, rfl, hV3, hgS⟩
              replace hgg := grown_trans hgg hgS
              replace hb4 := keepB hb4 hgS
              replace hb6 := keepB hb6 hgS
              replace hb9 := keepB hb9 hgS
              replace hV6 := hV6.keep hgS
              replace hV9 := hV9.keep hgS
              refine hK.out _ _ ?_ (fun hNew => ?_)
              · have hH := hHeld
                (try dsimp only at hH)
                (try dsimp only)
                first | with_reducible exact grown_trans hH hgS | with_reducible exact grown_new hH hgS (fun g' e => by cases e; exact h9w) | with_reducible exact hH
              clear hK K hHeld
              have hHeld := hNew
              clear hNew
              (try simp only [Act.put, List.setIfInBounds_toArray, List.set_cons_zero, List.set_cons_succ])
              clear hgS
              refine wpAnyH_ready (rs := [0]) (by kernel_rfl) (by simp) ?_
              refine AllReadyH.cons (o := Oper.mk _ _ _ _ _ _) rfl (fun K hK => ?_) AllReadyH.nil
              (try rw [if_pos (by kernel_rfl)])
              obtain ⟨z0, z1, z2⟩ := box3p hb9
              go_simp
              refine hK.out _ _ ?_ (fun hNew => ?_)
              · have hH := hHeld
                (try dsimp only at hH)
                (try dsimp only)
                first | with_reducible exact grown_trans hH hgS | with_reducible exact grown_new hH hgS (fun g' e => by cases e; exact h9w) | with_reducible exact hH
              clear hK K hHeld
              have hHeld := hNew
              clear hNew
              (try simp only [Act.put, List.setIfInBounds_toArray, List.set_cons_zero, List.set_cons_succ])
              refine wpAnyH_ready (rs := [14]) (by kernel_rfl) (by simp) ?_
              refine AllReadyH.cons (o := Oper.mk _ _ _ _ _ _) rfl (fun K hK => ?_) AllReadyH.nil
              (try rw [if_pos (by kernel_rfl)])
              go_simp
              go_at_call 89
              refine (HMLi.out _ _ _ _ _ _ _ _ _ _ _ _ _ _ _ hV9 hV3).mono ?_
              rintro e wy2 ⟨g5, p5, n5, c5, q5, m5, d5, rfl, hV5, -, -, hgS⟩
              replace hgg := grown_trans hgg hgS
              replace hb4 := keepB hb4 hgS
              replace hb6 := keepB hb6 hgS
              replace hb9 := keepB hb9 hgS
              replace hV6 := hV6.keep hgS
              replace hV9 := hV9.keep hgS
              replace hV3 := hV3.keep hgS
              refine hK.out _ _ ?_ (fun hNew => ?_)
              · have hH := hHeld
                (try dsimp only at hH)
                (try dsimp only)
                first | with_reducible exact grown_trans hH hgS | with_reducible exact grown_new hH hgS (fun g' e => by cases e; exact h9w) | with_reducible exact hH
              clear hK K hHeld
              have hHeld := hNew
              clear hNew
              (try simp only [Act.put, List.setIfInBounds_toArray, List.set_cons_zero, List.set_cons_succ])
              clear hgS
              refine wpAnyH_ready (rs := [15]) (by kernel_rfl) (by simp) ?_
              refine AllReadyH.cons (o := Oper.mk _ _ _ _ _ _) rfl (fun K hK => ?_) AllReadyH.nil
              (try rw [if_pos (by kernel_rfl)])
              obtain ⟨z0, z1, z2⟩ := box3p hb9
              have zf := fun o => frozen_of_row wy2 b9 o _ _ hb9
              have f0 := zf 0
              have f1 := zf 1
              have f2 := zf 2
              go_simp
              have hgS := set3_grown wy2 b9 (.bool g5) (.slice p5 n5 c5) (.slice q5 m5 d5)
              have B9E := hid (set3_block hb9 g5 p5 n5 c5 q5 m5 d5)
              have HGE := hid (grown_new hgg hgS (fun g' e => by cases e; exact h9w))
              have HV5E := hid (stay3 hV5 hb9 hgS)
              have HV6E := hid (stay3 hV6 hb9 hgS)
              have B4E := hid ((hgS.block b4 (lt_of_block hb4) (by simp; omega)).trans hb4)
              have B6E := hid ((hgS.block b6 (lt_of_block hb6) (by simp; omega)).trans hb6)
              clear z0 z1 z2 zf f0 f1 f2
              refine hK.out _ _ ?_ (fun hNew => ?_)
              · have hH := hHeld
                (try dsimp only at hH)
                (try dsimp only)
                first | with_reducible exact grown_trans hH hgS | with_reducible exact grown_new hH hgS (fun g' e => by cases e; exact h9w) | with_reducible exact hH
              clear hK K hHeld
              have hHeld := hNew
              clear hNew
              (try simp only [Act.put, List.setIfInBounds_toArray, List.set_cons_zero, List.set_cons_succ])
              refine wpAnyH_done (by kernel_rfl) ?_ _
              refine NoPanic.normal ?_
              clear hHeld hgS hV3 hV5 hV6 hV9 hb4 hb6 hb9 hgg
              generalize ((wy2.setCell _ _).setCell _ _).setCell _ _ = wE at *
              go_wp2_with fail
              exact ⟨⟨j + 1, g5, p5, n5, c5, q5, m5, d5, by omega, by go_num, HGE, B4E, B6E, B9E, HV6E, hid (by rw [HS.out]; exact HV5E.out)⟩, by simp [intOf]; omega⟩
            · obtain rfl : k1 = j := by omega
              obtain ⟨l0, l1, l2⟩ := box3p B9.out
              obtain ⟨r0, r1, r2⟩ := box3p B6.out
              obtain ⟨a, ha⟩ : ∃ x, x = u * mv V xs k1 := ⟨_, rfl⟩
              have HS : Hid (sm V P (i + 1) = sv + a) := hid (by rw [HSM.out, ha, HXL.out])
              obtain ⟨s, hs⟩ : ∃ x, x = sv + a := ⟨_, rfl⟩
              have hba : Bd 100 a := by rw [ha]; exact HBTi.out k1 (by have := HXL.out; omega)
              have HADi : Hid (∀ W g p n c q m d g2 p2 n2 c2 q2 m2 d2, IsV W g p n c q m d sv → IsV W g2 p2 n2 c2 q2 m2 d2 a → Calls Tryz.prog 85 #[.agg #[.bool g, .slice p n c, .slice q m d], .agg #[.bool g2, .slice p2 n2 c2, .slice q2 m2 d2]] W (VPost W s 7268)) := hid fun W g p n c q m d g2 p2 n2 c2 q2 m2 d2 h k => by rw [hs]; exact HAD.out W sv a HBSi.out hba _ _ _ _ _ _ _ _ _ _ _ _ _ _ h k
              rw [← ha] at HV9
              rw [← hs] at HS
              unfold VPost at HADi
              clear ha hs hba
              go_wp2_with (go_at_call 85; (with_reducible refine (HADi.out _ _ _ _ _ _ _ _ _ _ _ _ _ _ _ HV6.out HV9.out).mono ?_); rintro e w4 ⟨g5, p5, n5, c5, q5, m5, d5, rfl, hV5, -, -, hg⟩; have hbb := keepB B6.out hg; obtain ⟨z0, z1, z2⟩ := box3p hbb; have fa := fun o => frozen_of_row w4 b6 o _ _ hbb; have f0 := fa 0; have f1 := fa 1; have f2 := fa 2; have hgS := set3_grown w4 b6 (.bool g5) (.slice p5 n5 c5) (.slice q5 m5 d5); have B6E := hid (set3_block hbb g5 p5 n5 c5 q5 m5 d5); have HGE := hid (grown_new (grown_trans HG.out hg) hgS (fun g' e => by cases e; exact h6w)); have HV5E := hid (stay3 hV5 hbb hgS); have B4E := hid ((hgS.block b4 (lt_of_block (keepB B4.out hg)) (by simp; omega)).trans (keepB B4.out hg)); clear hbb fa hgS hV5 hg)
              exact ⟨⟨i + 1, g5, p5, n5, c5, q5, m5, d5, by omega, by go_num, HGE, B4E, B6E, hid (by rw [HS.out]; exact HV5E.out)⟩, by simp [intOf]; omega⟩
        · obtain rfl : n = i := by omega
          obtain ⟨r0, r1, r2⟩ := box3p B6.out
          have HQ := hid (QPost.close B4.out h4w HG.out HV6.out)
          have HBE := hid (set3_block B4.out g6 p6 n6 c6 q6 m6 d6)
          obtain ⟨z0, z1, z2⟩ := box3p B4.out
          have fa := fun o => frozen_of_row wr b4 o _ _ B4.out
          have f0 := fa 0; have f1 := fa 1; have f2 := fa 2
          clear fa
          go_wp2_with fail
          clear z0 z1 z2 f0 f1 f2 r0 r1 r2
          generalize ((wr.setCell _ _).setCell _ _).setCell _ _ = wE at *
          obtain ⟨l0, l1, l2⟩ := box3p HBE.out
          obtain ⟨g, p, n', c, q, m, d, he, hVq, hgq⟩ := HQ.out
          cases he
          exact bodyPost_ret (v := .tuple #[.agg #[.bool g6, .slice p6 n6 c6, .slice q6 m6 d6], .int .i64 0]) (by simp [results, Tryz.results46, go_sem, l0, l1, l2]) rfl ⟨_, _, _, _, _, _, _, rfl, hVq, hgq⟩
end Go.Proofs.YtknmdmofmcfjhaaGreatDoor

set_option linter.unusedVariables false
set_option linter.unusedSimpArgs false
namespace Go.Proofs.YtknmdmofmcfjhaaGreatDoor
open Go Go.RowKit _root_.Nm
/-- descending terms whose exponents from v on are alike -/
structure Seg (v : Nat) (Q : List Tm) : Prop where
  desc : Q.Pairwise fun s t => 0 < lexL s.1 t.1
  same : ∀ s ∈ Q, ∀ t ∈ Q, ∀ j, v ≤ j → ex s.1 j = ex t.1 j
def sumV (V : List Rat) (v : Nat) : List Tm → Rat
  | [] => 0
  | t :: Q => t.2 * mv V t.1 v + sumV V v Q
theorem sumV_append (V : List Rat) (v : Nat) : ∀ A B, sumV V v (A ++ B) = sumV V v A + sumV V v B
  | [], B => by rw [List.nil_append]; show _ = 0 + _; rw [Rat.zero_add]
  | t :: A, B => by
    show _ + sumV V v (A ++ B) = (_ + sumV V v A) + _
    rw [sumV_append V v A B, Rat.add_assoc]
theorem sumV_congr {V : List Rat} {v u : Nat} : ∀ {Q : List Tm}, (∀ t ∈ Q, mv V t.1 v = mv V t.1 u) → sumV V v Q = sumV V u Q
  | [], _ => rfl
  | t :: Q, h => by
    show t.2 * mv V t.1 v + sumV V v Q = t.2 * mv V t.1 u + sumV V u Q
    rw [h t (by simp), sumV_congr (Q := Q) fun s hs => h s (by simp [hs])]
theorem sm_sumV {V : List Rat} {P : List Tm} : ∀ i, i ≤ P.length → (∀ t ∈ P, t.1.length ≤ V.length) → sm V P i = sumV V V.length (P.take i)
  | 0, _, _ => by rw [List.take_zero]; rfl
  | i + 1, hi, h => by
    have hlt : i < P.length := by omega
    show sm V P i + _ = _
    rw [sm_sumV i (by omega) h, ← take_snoc P i hlt, sumV_append, tmI_at hlt]
    have e : mv V P[i].1 P[i].1.length = mv V P[i].1 V.length := by
      have hl := h _ (List.getElem_mem hlt)
      obtain ⟨d, hd⟩ : ∃ d, V.length = P[i].1.length + d := ⟨V.length - P[i].1.length, by omega⟩
      rw [hd]
      clear hd hl
      induction d with
      | zero => rfl
      | succ d ih =>
        show _ = mv V P[i].1 (P[i].1.length + d) * _ ^ (ex P[i].1 (P[i].1.length + d)).toNat
        rw [ex_ge (by omega), ← ih, show (0 : Int).toNat = 0 from rfl, Rat.pow_zero, Rat.mul_one]
    show _ + _ = _ + (_ + 0)
    rw [Rat.add_zero, e]
theorem lexL_le {xs ys : List Int} {v : Nat} (h : 0 < lexL xs ys) (hs : ∀ j, v + 1 ≤ j → ex xs j = ex ys j) : ex ys v ≤ ex xs v := by
  have h2 : lexL xs ys = lexZ (ex xs) (ex ys) (max (max xs.length ys.length) (v + 1)) := lexL_of xs ys (by omega) (by omega)
  rw [h2, lexZ_more (n := v + 1) (by omega) (fun i hi => hs i hi)] at h
  unfold lexZ at h
  by_cases e : ex xs v = ex ys v
  · omega
  · rw [if_neg e] at h
    unfold cmpZ at h
    by_cases h3 : ex xs v < ex ys v
    · rw [if_pos h3] at h; omega
    · omega
theorem Seg.take {v : Nat} {Q : List Tm} (h : Seg v Q) (i : Nat) : Seg v (Q.take i) := ⟨h.desc.sublist (List.take_sublist i Q), fun s hs t ht => h.same s (List.mem_of_mem_take hs) t (List.mem_of_mem_take ht)⟩
theorem Seg.drop {v : Nat} {Q : List Tm} (h : Seg v Q) (i : Nat) : Seg v (Q.drop i) := ⟨h.desc.sublist (List.drop_sublist i Q), fun s hs t ht => h.same s (List.mem_of_mem_drop hs) t (List.mem_of_mem_drop ht)⟩
/-- the exponents of v fall -/
theorem Seg.fall {v : Nat} {Q : List Tm} (h : Seg (v + 1) Q) {i j : Nat} (hij : i ≤ j) (hj : j < Q.length) : ex Q[j].1 v ≤ ex (Q[i]'(by omega)).1 v := by
  rcases Nat.lt_or_ge i j with h1 | h1
  · exact lexL_le (List.pairwise_iff_getElem.1 h.desc i j (by omega) hj h1) (fun k hk => h.same _ (List.getElem_mem _) _ (List.getElem_mem _) k hk)
  · obtain rfl : i = j := by omega
    exact Int.le_refl _
theorem Seg.down {v : Nat} {Q : List Tm} (h : Seg (v + 1) Q) (e : ∀ s ∈ Q, ∀ t ∈ Q, ex s.1 v = ex t.1 v) : Seg v Q := ⟨h.desc, fun s hs t ht j hj => by
  by_cases hjv : j = v
  · subst hjv; exact e s hs t ht
  · exact h.same s hs t ht j (by omega)⟩
theorem Seg.one {Q : List Tm} (h : Seg 0 Q) : Q.length ≤ 1 := by
  match Q, h with
  | [], _ => simp
  | [_], _ => simp
  | s :: t :: Q, h =>
    exfalso
    have h1 := (List.pairwise_cons.1 h.desc).1 t (by simp)
    have h2 : lexL s.1 t.1 = 0 := (lexZ_zero _ _ _).2 fun i _ => h.same s (by simp) t (by simp) i (by omega)
    omega
/-- a variable that the first term lacks lack all -/
theorem Seg.skip {v : Nat} {Q : List Tm} {V : List Rat} (h : Seg (v + 1) Q) (hQ : 0 < Q.length) (e8 : ExP 8 Q) (h0 : ex Q[0].1 v = 0) : Seg v Q ∧ sumV V (v + 1) Q = sumV V v Q := by
  have hz : ∀ t ∈ Q, ex t.1 v = 0 := fun t ht => by
    obtain ⟨i, hi, rfl⟩ := List.getElem_of_mem ht
    have h1 := h.fall (Nat.zero_le i) hi
    have h2 := ((e8.at hi).ex (by omega) v).1
    omega
  refine ⟨h.down fun s hs t ht => by rw [hz s hs, hz t ht], sumV_congr fun t ht => ?_⟩
  show mv V t.1 v * _ ^ (ex t.1 v).toNat = _
  rw [hz t ht, show (0 : Int).toNat = 0 from rfl, Rat.pow_zero, Rat.mul_one]
/-- the exponent of v of the term i, 0 behind the end -/
def eI (Q : List Tm) (v i : Nat) : Nat := if i < Q.length then (ex (tmI Q i).1 v).toNat else 0
/-- what horner's loop holds before the term i -/
def hI (V : List Rat) (v : Nat) (Q : List Tm) (e : Nat) : List Tm → Rat
  | [] => 0
  | t :: R => t.2 * mv V t.1 v * (V.getD v 0) ^ ((ex t.1 v).toNat - e) + hI V v Q e R
theorem hI_append (V : List Rat) (v : Nat) (Q : List Tm) (e : Nat) : ∀ A B, hI V v Q e (A ++ B) = hI V v Q e A + hI V v Q e B
  | [], B => by rw [List.nil_append]; show _ = 0 + _; rw [Rat.zero_add]
  | t :: A, B => by
    show _ + hI V v Q e (A ++ B) = (_ + hI V v Q e A) + _
    rw [hI_append V v Q e A B, Rat.add_assoc]
theorem hI_end (V : List Rat) (v : Nat) (Q : List Tm) : ∀ A, hI V v Q 0 A = sumV V (v + 1) A
  | [] => rfl
  | t :: A => by
    show t.2 * mv V t.1 v * _ ^ ((ex t.1 v).toNat - 0) + hI V v Q 0 A = t.2 * (mv V t.1 v * _ ^ (ex t.1 v).toNat) + sumV V (v + 1) A
    rw [hI_end V v Q A, Nat.sub_zero, Rat.mul_assoc]
theorem rat_pow_add (v : Rat) (a : Nat) : ∀ b, v ^ (a + b) = v ^ a * v ^ b
  | 0 => by rw [Nat.add_zero, Rat.pow_zero, Rat.mul_one]
  | b + 1 => by rw [show a + (b + 1) = (a + b) + 1 by omega, Rat.pow_succ, rat_pow_add v a b, Rat.pow_succ, Rat.mul_assoc]
theorem hI_step (V : List Rat) (v : Nat) (Q : List Tm) {d e : Nat} (hd : e ≤ d) : ∀ A, (∀ t ∈ A, d ≤ (ex t.1 v).toNat) → hI V v Q d A * (V.getD v 0) ^ (d - e) = hI V v Q e A
  | [], _ => by show 0 * _ = 0; rw [Rat.zero_mul]
  | t :: A, h => by
    show (t.2 * mv V t.1 v * (V.getD v 0) ^ ((ex t.1 v).toNat - d) + hI V v Q d A) * _ = t.2 * mv V t.1 v * (V.getD v 0) ^ ((ex t.1 v).toNat - e) + hI V v Q e A
    have h1 := h t (by simp)
    rw [Rat.add_mul, hI_step V v Q hd A (fun s hs => h s (by simp [hs])), Rat.mul_assoc, ← rat_pow_add, show (ex t.1 v).toNat - d + (d - e) = (ex t.1 v).toNat - e by omega]
theorem hI_group (V : List Rat) (v : Nat) (Q : List Tm) {d : Nat} : ∀ A, (∀ t ∈ A, (ex t.1 v).toNat = d) → hI V v Q d A = sumV V v A
  | [], _ => rfl
  | t :: A, h => by
    show t.2 * mv V t.1 v * _ ^ ((ex t.1 v).toNat - d) + hI V v Q d A = t.2 * mv V t.1 v + sumV V v A
    rw [h t (by simp), Nat.sub_self, Rat.pow_zero, Rat.mul_one, hI_group V v Q A fun s hs => h s (by simp [hs])]
end Go.Proofs.YtknmdmofmcfjhaaGreatDoor

set_option linter.unusedVariables false
set_option linter.unusedSimpArgs false
namespace Go.Proofs.YtknmdmofmcfjhaaGreatDoor
open Go.ChangeShapes Go.WideShapes Go.ChangeAt Go.RowKit _root_.Nm
section
variable {H : Type} {enc : TypeId × Value → H} {W : World}
set_option maxRecDepth 100000 in
/-- a slice of numbers, by its type's number and what the type is -/
theorem open_ratsP {T : TypeId} (hT : Tryz.prog.underlying T = some (.slice 29)) {fuel : Nat} {cs : List Value} {x : DataW H × List MemPlace} (hf : DataW.trod enc Tryz.prog W 0 (fun _ => true) true fuel T cs = some x) :
    ∃ (p : Option Addr) (n c : Nat) (L : List Rat) (N1 N2 : Nat → Nat), cs = [.slice p n c] ∧ IsRR W p n c L N1 N2 := by
  rcases DataW.trod_slice hT hf with ⟨hcs, _⟩ | ⟨a, len, cap, elems, rest, n2, _, hcs, hx0, _, hl, hcap, hel, hat, _, _⟩
  · exact ⟨none, 0, 0, [], fun _ => 0, fun _ => 0, hcs, ⟨rfl, Nat.le_refl _, by omega, fun i hi => absurd hi (Nat.not_lt_zero i)⟩⟩
  · rw [cellsRat] at hat
    have hone : ∀ i (hi : i < len), ∃ q : List Value × Nat × Nat × Rat, W.cells? 0 (a.add (i * 3)) 3 = some q.1 ∧ RR W q.1 q.2.1 q.2.2.1 q.2.2.2 := by
      intro i hi
      have h := hat i hi
      rw [List.getElem?_eq_getElem (by omega), Option.bind_eq_some_iff] at h
      obtain ⟨ci, hc, ht⟩ := h
      obtain ⟨g, p1, n1, c1, xs, q1, m1, d1, ys, e, hx, hy, dd⟩ := open_ratP ht (World.cells?_some hc).2.1
      exact ⟨(ci, n1, m1, mkRat (sg g (V 65536 xs)) (V 65536 ys)), hc, g, p1, c1, q1, d1, xs, ys, e, hx, hy, dd, rfl⟩
    obtain ⟨Q, hQ⟩ : ∃ Q : Nat → List Value × Nat × Nat × Rat, ∀ i (hi : i < len), W.cells? 0 (a.add (i * 3)) 3 = some (Q i).1 ∧ RR W (Q i).1 (Q i).2.1 (Q i).2.2.1 (Q i).2.2.2 :=
      ⟨fun i => if hi : i < len then Classical.choose (hone i hi) else ([], 0, 0, 0), fun i hi => by
        dsimp only
        rw [dif_pos hi]
        exact Classical.choose_spec (hone i hi)⟩
    refine ⟨some a, len, cap, (List.range len).map fun i => (Q i).2.2.2, fun i => (Q i).2.1, fun i => (Q i).2.2.1, hcs, ⟨by simp, hl, by unfold maxLen at hcap; omega, fun i hi => ?_⟩⟩
    have hi' : i < len := by simpa using hi
    obtain ⟨b, o, ha, _, hc⟩ := atP (n := len) (fun i hi => (hQ i hi).1) (by omega) i hi'
    exact ⟨b, o, (Q i).1, by rw [ha], hc, by simpa using (hQ i hi').2⟩
end
end Go.Proofs.YtknmdmofmcfjhaaGreatDoor
