/-
  Qrread, in one text.
-/
import Derived.Test.YtkggoniecmlglaaGreatDoorMrU
import Derived.Test.YtkggoniecmlglaaGreatDoorMrA

set_option linter.unusedVariables false
set_option linter.unusedSimpArgs false
namespace Go.Proofs.YtkggoniecmlglaaGreatDoor
open Go.RowKit _root_.Nm

/-- a call returns what reading the rational number l gives -/
def RqPost (w : World) (l : List UInt8) (e : Ending) (w' : World) : Prop := (rqE l ≠ 0 → EPost w (rqE l : Nat) e w') ∧ (rqE l = 0 → MPost w (rqV l) 260 e w')

theorem ratRead_any (s : ByteArray) (l : List UInt8) (hl : s.data.toList = l) (hmax : s.size ≤ 2000000) (w : World) (T : Tb w) : Calls Tryz.prog 7 #[.string s] w (RqPost w l) := by
  by_cases h1 : riE (cuB l) = 0
  rotate_left
  · have e : rqE l = riE (cuB l) := if_pos h1
    refine (ratRead_e1 s l hl hmax w h1).mono fun x w' h => ⟨fun _ => by rw [e]; exact h, fun h0 => absurd (e ▸ h0) h1⟩
  by_cases hf : cuF l = true
  rotate_left
  · have e : rqE l = 0 := by unfold rqE; rw [if_neg (by simpa using h1), if_neg hf]
    exact (ratRead_p s l hl hmax w T h1 (by simpa using hf)).mono fun x w' h => ⟨fun h0 => absurd e h0, fun _ => h⟩
  have e0 : rqE l = if rdE (cuA l) ≠ 0 then rdE (cuA l) else if rdV (cuA l) = 0 then 3 else 0 := by unfold rqE; rw [if_neg (by simpa using h1), if_pos hf]
  by_cases h2 : rdE (cuA l) = 0
  rotate_left
  · have e : rqE l = rdE (cuA l) := by rw [e0, if_pos h2]
    exact (ratRead_e2 s l hl hmax w h1 hf h2).mono fun x w' h => ⟨fun _ => by rw [e]; exact h, fun h0 => absurd (e ▸ h0) h2⟩
  by_cases h3 : rdV (cuA l) = 0
  · have e : rqE l = 3 := by rw [e0, if_neg (by simpa using h2), if_pos h3]
    exact (ratRead_e3 s l hl hmax w T h1 hf h2 h3).mono fun x w' h => ⟨fun _ => by rw [e]; exact h, fun h0 => absurd (e ▸ h0) (by decide)⟩
  · have e : rqE l = 0 := by rw [e0, if_neg (by simpa using h2), if_neg h3]
    exact (ratRead_s s l hl hmax w T h1 hf h2 h3).mono fun x w' h => ⟨fun h0 => absurd e h0, fun _ => h⟩

theorem cuB_get : ∀ (l : List UInt8) (k : Nat) (h : k < (cuB l).length) (h2 : k < l.length), l[k] ≠ 47 := by
  intro l
  induction l with
  | nil => intro k h; simp [cuB] at h
  | cons c l ih =>
    intro k h h2
    by_cases hc : c = 47
    · subst hc; simp [cuB] at h
    · have e : cuB (c :: l) = c :: cuB l := by simp [cuB, hc]
      rw [e] at h
      cases k with
      | zero => simpa using hc
      | succ k => simpa using ih k (by simpa using h) (by simpa using h2)
theorem cuB_end : ∀ (l : List UInt8) (h : (cuB l).length < l.length), l[(cuB l).length] = 47 := by
  intro l
  induction l with
  | nil => intro h; simp at h
  | cons c l ih =>
    intro h
    by_cases hc : c = 47
    · subst hc; simp [cuB]
    · have e : cuB (c :: l) = c :: cuB l := by simp [cuB, hc]
      have h' : (cuB l).length < l.length := by rw [e] at h; simpa using h
      have := ih h'
      simp only [e, List.length_cons, List.getElem_cons_succ]
      exact this
theorem refOneQ (w : World) : Calls Tryz.prog 27 #[.int .u64 1] w fun e w' => ∃ p n c, e = .returned (.slice p n c) ∧ IsC w' p n c 1 ∧ n ≤ 4 ∧ w.grownBy w' none := refOf_c 1 (by decide) w

set_option maxHeartbeats 8000000 in
set_option maxRecDepth 100000 in
theorem rRatRead_any (s : ByteArray) (l : List UInt8) (hl : s.data.toList = l) (hmax : s.size ≤ 2000000) (w : World) : Calls Tryz.prog 8 #[.string s] w (RqPost w l) := by
  have hsz : s.size = l.length := by rw [Lib.size_eq, hl]
  have hlb : (cuB l).length ≤ 2000000 := by have := cuB_len l; omega
  have hla : (cuA l).length ≤ 2000000 := by have := cuA_len l; omega
  have hb := heap_alloc_new w (.cells #[.bool false, .slice none 0 0, .slice none 0 0] 27)
  have hW := World.grownBy_alloc w (.cells #[.bool false, .slice none 0 0, .slice none 0 0] 27) none
  have bR := hb
  clear hb
  have hbl := cuB_len l
  have htk := cuB_take l
  have HG := hid (cuB_get l)
  have HEnd := hid (cuB_end l)
  have HIX := hid (idx_str s l hl)
  have hx1 : s.extract 0 (cuB l).length = ⟨(cuB l).toArray⟩ := by rw [Lib.extract_eq, hl]; simp [← htk]
  have hx2 : s.extract ((cuB l).length + 1) l.length = ⟨(cuA l).toArray⟩ := by rw [Lib.extract_eq, hl, List.take_of_length_le (by rw [List.length_drop]; omega)]; rfl
  obtain ⟨b, hbe⟩ : ∃ b, b = (cuB l).length := ⟨_, rfl⟩
  rw [← hbe] at hbl hx1 hx2
  have HB := hid hbe
  have HTK := hid htk
  have HL := hid hl
  clear htk hl hbe
  go_enter Tryz.func8, Tryz.ntmps8
  go_wp2_with fail
  go_loop [4] (fun i => ∃ k : Nat, k ≤ b ∧ i = .int .i64 k) (fun i => b - (intOf i).toNat)
  case atStart => exact ⟨0, Nat.zero_le _, rfl⟩
  case round =>
    obtain ⟨k, hk, rfl⟩ := hrel
    by_cases hlt : k < b
    · have hkl : k < l.length := by omega
      have hix := HIX.out k hkl
      have hne := HG.out k (by rw [← HB.out]; exact hlt) hkl
      obtain ⟨v, hv⟩ : ∃ v, v = l[k].toNat := ⟨_, rfl⟩
      rw [← hv] at hix
      have hv47 : ((v : Int) != 47) = true := by
        have : v ≠ 47 := fun e => hne (UInt8.toNat_inj.1 (by rw [← hv, e]; rfl))
        simp; omega
      have hks : (k : Int) < (l.length : Int) := by omega
      clear hv hne hkl
      go_wp2_with fail
      exact ⟨⟨k + 1, by omega, rfl⟩, by simp [intOf]; omega⟩
    obtain rfl : k = b := by omega
    clear hlt hk
    generalize w.alloc (.cells #[.bool false, .slice none 0 0, .slice none 0 0] 27) = W0 at *
    by_cases hf : cuF l = true
    · have hblt : k < l.length := by rw [HB.out]; simpa [cuF] using hf
      have hix := HIX.out k hblt
      have h47 : l[k] = 47 := by
        have := HEnd.out (by rw [← HB.out]; exact hblt)
        simpa [← HB.out] using this
      rw [h47] at hix
      have hix2 : ∀ w, (Instr.index 9 (.string s) (.int .i64 (k : Int))).run Tryz.prog w = .ok (.int .u8 47) w := hix
      have hks : (k : Int) < (l.length : Int) := by omega
      have hks1 : (k : Int) + 1 ≤ (l.length : Int) := by omega
      have hkn : ((k : Int) == (l.length : Int)) = false := by simp; omega
      have hl2 : (l.length : Int) ≤ 2000000 := by omega
      clear hix h47 hblt
      by_cases h1 : riE (cuB l) = 0
      rotate_left
      · skip
        have HI := hid (riRd_bad (cuB l) hlb)
        have HP : Hid (∀ e w', EPost w (riE (cuB l) : Nat) e w' → RqPost w l e w') := hid (fun e w' h => ⟨fun _ => by rw [show rqE l = riE (cuB l) from if_pos h1]; exact h, fun h0 => absurd ((show rqE l = riE (cuB l) from if_pos h1) ▸ h0) h1⟩)
        generalize riE (cuB l) = E at *
        have he : ((E : Int) != 0) = true := by simp; omega
        clear h1
        go_wp2_with fail
        refine (HI.out _).mono ?_
        rintro e v1 ⟨g1, p1, n1, c1, rfl, hg⟩
        replace bR := (hg.block _ (lt_of_block bR) (by simp)).trans bR; replace hW := grown_trans hW hg; clear hg
        have hlty := lt_of_block bR
        have hg := World.grownBy_alloc v1 (.cells #[.bool g1, .slice p1 n1 c1] 25) none
        have hb := heap_alloc_new v1 (.cells #[.bool g1, .slice p1 n1 c1] 25)
        replace bR := (hg.block _ (lt_of_block bR) (by simp)).trans bR; replace hW := grown_trans hW hg; clear hg
        obtain ⟨y0, y1, yf0, yf1⟩ := intbox_facts hb
        clear hb
        go_upto_region 5 with fail
        generalize v1.alloc (.cells #[.bool g1, .slice p1 n1 c1] 25) = uy at *
        generalize v1.heap.size = Ky at *
        obtain ⟨z0, z1, z2, f0, f1, f2⟩ := ratbox_facts bR
        go_wp2_with fail
        exact bodyPost_ret (v := .tuple #[.agg #[.bool false, .slice none 0 0, .slice none 0 0], .int .i64 (E : Int)]) (by simp [results, Tryz.results8, go_sem, z0, z1, z2]) rfl (HP.out _ _ (EPost.close (Nat.le_refl _) hW _ _ _ _))
      have e0 : rqE l = if rdE (cuA l) ≠ 0 then rdE (cuA l) else if rdV (cuA l) = 0 then 3 else 0 := by unfold rqE; rw [if_neg (by simpa using h1), if_pos hf]
      by_cases h2 : rdE (cuA l) = 0
      rotate_left
      · skip
        have HI := hid (fun W => riRd_ok (cuB l) hlb W h1)
        have HN := hid (nrRd_bad (cuA l) hla)
        have HP : Hid (∀ e w', EPost w (rdE (cuA l) : Nat) e w' → RqPost w l e w') := hid (fun e w' h => ⟨fun _ => by rw [show rqE l = rdE (cuA l) by rw [e0, if_pos h2]]; exact h, fun h0 => absurd ((show rqE l = rdE (cuA l) by rw [e0, if_pos h2]) ▸ h0) h2⟩)
        generalize rdE (cuA l) = E at *
        have he : ((E : Int) != 0) = true := by simp; omega
        clear h1 h2 e0
        go_wp2_with fail
        refine (HI.out _).mono ?_
        rintro e v1 ⟨g1, p1, n1, c1, rfl, hI, hn1, hg⟩
        replace bR := (hg.block _ (lt_of_block bR) (by simp)).trans bR; replace hW := grown_trans hW hg; clear hg
        have hlty := lt_of_block bR
        have hg := World.grownBy_alloc v1 (.cells #[.bool g1, .slice p1 n1 c1] 25) none
        have hb := heap_alloc_new v1 (.cells #[.bool g1, .slice p1 n1 c1] 25)
        replace hI := hI.keep hg; replace bR := (hg.block _ (lt_of_block bR) (by simp)).trans bR; replace hW := grown_trans hW hg; clear hg
        obtain ⟨y0, y1, yf0, yf1⟩ := intbox_facts hb
        clear hb
        go_wp2_with fail
        generalize v1.alloc (.cells #[.bool g1, .slice p1 n1 c1] 25) = uy at *
        generalize v1.heap.size = Ky at *
        refine (HN.out _).mono ?_
        rintro e v2 ⟨p3, n3, c3, rfl, hg⟩
        replace hI := hI.keep hg; replace y0 := hg.cell y0 (by simp); replace y1 := hg.cell y1 (by simp); replace bR := (hg.block _ (lt_of_block bR) (by simp)).trans bR; replace hW := grown_trans hW hg; clear hg
        obtain ⟨z0, z1, z2, f0, f1, f2⟩ := ratbox_facts bR
        go_wp2_with fail
        exact bodyPost_ret (v := .tuple #[.agg #[.bool false, .slice none 0 0, .slice none 0 0], .int .i64 (E : Int)]) (by simp [results, Tryz.results8, go_sem, z0, z1, z2]) rfl (HP.out _ _ (EPost.close (Nat.le_refl _) hW _ _ _ _))
      by_cases h3 : rdV (cuA l) = 0
      · skip
        have HI := hid (fun W => riRd_ok (cuB l) hlb W h1)
        have HN := hid (fun W => nrRd_ok (cuA l) hla W h2)
        rw [h3] at HN
        have HP : Hid (∀ e w', EPost w 3 e w' → RqPost w l e w') := hid (fun e w' h => ⟨fun _ => by rw [show rqE l = 3 by rw [e0, if_neg (by simpa using h2), if_pos h3]]; exact h, fun h0 => absurd ((show rqE l = 3 by rw [e0, if_neg (by simpa using h2), if_pos h3]) ▸ h0) (by decide)⟩)
        clear h1 h2 h3 e0
        go_wp2_with fail
        refine (HI.out _).mono ?_
        rintro e v1 ⟨g1, p1, n1, c1, rfl, hI, hn1, hg⟩
        replace bR := (hg.block _ (lt_of_block bR) (by simp)).trans bR; replace hW := grown_trans hW hg; clear hg
        have hlty := lt_of_block bR
        have hg := World.grownBy_alloc v1 (.cells #[.bool g1, .slice p1 n1 c1] 25) none
        have hb := heap_alloc_new v1 (.cells #[.bool g1, .slice p1 n1 c1] 25)
        replace hI := hI.keep hg; replace bR := (hg.block _ (lt_of_block bR) (by simp)).trans bR; replace hW := grown_trans hW hg; clear hg
        obtain ⟨y0, y1, yf0, yf1⟩ := intbox_facts hb
        clear hb
        go_wp2_with fail
        generalize v1.alloc (.cells #[.bool g1, .slice p1 n1 c1] 25) = uy at *
        generalize v1.heap.size = Ky at *
        refine (HN.out _).mono ?_
        rintro e v2 ⟨p3, n3, c3, rfl, hD, hn3, hg⟩
        have hz3 : n3 = 0 := by have := hD.zlen; omega
        subst hz3
        clear hD hn3
        replace hI := hI.keep hg; replace y0 := hg.cell y0 (by simp); replace y1 := hg.cell y1 (by simp); replace bR := (hg.block _ (lt_of_block bR) (by simp)).trans bR; replace hW := grown_trans hW hg; clear hg
        obtain ⟨z0, z1, z2, f0, f1, f2⟩ := ratbox_facts bR
        go_wp2_with fail
        exact bodyPost_ret (v := .tuple #[.agg #[.bool false, .slice none 0 0, .slice none 0 0], .int .i64 3]) (by simp [results, Tryz.results8, go_sem, z0, z1, z2]) rfl (HP.out _ _ (EPost.close (Nat.le_refl _) hW _ _ _ _))
      · skip
        have HI := hid (fun W => riRd_ok (cuB l) hlb W h1)
        have HN := hid (fun W => nrRd_ok (cuA l) hla W h2)
        have hr0 : rqE l = 0 := by rw [e0, if_neg (by simpa using h2), if_neg h3]
        have hv : mkRat (riV (cuB l)) (rdV (cuA l)) = rqV l := by unfold rqV rqD; rw [if_pos hf]
        have HP : Hid (∀ e w', MPost w (rqV l) 260 e w' → RqPost w l e w') := hid (fun e w' h => ⟨fun h0 => absurd hr0 h0, fun _ => h⟩)
        have HV := hid hv
        generalize rqV l = v at *
        clear hv h1 h2 hr0 e0
        go_wp2_with fail
        refine (HI.out _).mono ?_
        rintro e v1 ⟨g1, p1, n1, c1, rfl, hI, hn1, hg⟩
        replace bR := (hg.block _ (lt_of_block bR) (by simp)).trans bR; replace hW := grown_trans hW hg; clear hg
        have hlty := lt_of_block bR
        have hg := World.grownBy_alloc v1 (.cells #[.bool g1, .slice p1 n1 c1] 25) none
        have hb := heap_alloc_new v1 (.cells #[.bool g1, .slice p1 n1 c1] 25)
        replace hI := hI.keep hg; replace bR := (hg.block _ (lt_of_block bR) (by simp)).trans bR; replace hW := grown_trans hW hg; clear hg
        obtain ⟨y0, y1, yf0, yf1⟩ := intbox_facts hb
        clear hb
        go_wp2_with fail
        generalize v1.alloc (.cells #[.bool g1, .slice p1 n1 c1] 25) = uy at *
        generalize v1.heap.size = Ky at *
        refine (HN.out _).mono ?_
        rintro e v2 ⟨p3, n3, c3, rfl, hD, hn3, hg⟩
        have hz3 : ((n3 : Int) == 0) = false := by (have := hD.zlen; simp; omega)
        replace hI := hI.keep hg; replace y0 := hg.cell y0 (by simp); replace y1 := hg.cell y1 (by simp); replace bR := (hg.block _ (lt_of_block bR) (by simp)).trans bR; replace hW := grown_trans hW hg; clear hg
        go_wp2_with fail
        refine (over_v 260 hI.z hD.isN HV.out (by omega) (by omega) (by omega)).mono ?_
        rintro e v3 ⟨g9, p9, n9, c9, q9, m9, d9, rfl, hV, hn9, hm9, hg⟩
        replace hI := hI.keep hg; replace hD := hD.keep hg; replace y0 := hg.cell y0 (by simp); replace y1 := hg.cell y1 (by simp); replace bR := (hg.block _ (lt_of_block bR) (by simp)).trans bR; replace hW := grown_trans hW hg; clear hg
        obtain ⟨z0, z1, z2, f0, f1, f2⟩ := ratbox_facts bR
        go_wp2_with fail
        exact bodyPost_ret (v := .tuple #[.agg #[.bool g9, .slice p9 n9 c9, .slice q9 m9 d9], .int .i64 0]) (by simp [results, Tryz.results8, go_sem, z0, z1, z2]) rfl (HP.out _ _ (MPost.close bR (Nat.le_refl _) hW hV (by omega) (by omega)))
    · have hf : cuF l = false := by simpa using hf
      have hble : k = l.length := by
        have : ¬ k < l.length := by rw [HB.out]; simpa [cuF] using hf
        omega
      have hks : ¬ ((k : Int) < (l.length : Int)) := by omega
      have hkn : ((k : Int) == (l.length : Int)) = true := by simp; omega
      have hkle : (k : Int) ≤ (l.length : Int) := by omega
      have hl2 : (l.length : Int) ≤ 2000000 := by omega
      clear hble
      by_cases h1 : riE (cuB l) = 0
      rotate_left
      · skip
        have HI := hid (riRd_bad (cuB l) hlb)
        have HP : Hid (∀ e w', EPost w (riE (cuB l) : Nat) e w' → RqPost w l e w') := hid (fun e w' h => ⟨fun _ => by rw [show rqE l = riE (cuB l) from if_pos h1]; exact h, fun h0 => absurd ((show rqE l = riE (cuB l) from if_pos h1) ▸ h0) h1⟩)
        generalize riE (cuB l) = E at *
        have he : ((E : Int) != 0) = true := by simp; omega
        clear h1
        go_wp2_with fail
        refine (HI.out _).mono ?_
        rintro e v1 ⟨g1, p1, n1, c1, rfl, hg⟩
        replace bR := (hg.block _ (lt_of_block bR) (by simp)).trans bR; replace hW := grown_trans hW hg; clear hg
        have hlty := lt_of_block bR
        have hg := World.grownBy_alloc v1 (.cells #[.bool g1, .slice p1 n1 c1] 25) none
        have hb := heap_alloc_new v1 (.cells #[.bool g1, .slice p1 n1 c1] 25)
        replace bR := (hg.block _ (lt_of_block bR) (by simp)).trans bR; replace hW := grown_trans hW hg; clear hg
        obtain ⟨y0, y1, yf0, yf1⟩ := intbox_facts hb
        clear hb
        go_upto_region 5 with fail
        generalize v1.alloc (.cells #[.bool g1, .slice p1 n1 c1] 25) = uy at *
        generalize v1.heap.size = Ky at *
        obtain ⟨z0, z1, z2, f0, f1, f2⟩ := ratbox_facts bR
        go_wp2_with fail
        exact bodyPost_ret (v := .tuple #[.agg #[.bool false, .slice none 0 0, .slice none 0 0], .int .i64 (E : Int)]) (by simp [results, Tryz.results8, go_sem, z0, z1, z2]) rfl (HP.out _ _ (EPost.close (Nat.le_refl _) hW _ _ _ _))
      skip
      have HI := hid (fun W => riRd_ok (cuB l) hlb W h1)
      have hr0 : rqE l = 0 := by unfold rqE; rw [if_neg (by simpa using h1), if_neg (by rw [hf]; decide)]
      have hv : mkRat (riV (cuB l)) 1 = rqV l := by unfold rqV rqD; rw [if_neg (by rw [hf]; decide)]
      have HP : Hid (∀ e w', MPost w (rqV l) 260 e w' → RqPost w l e w') := hid (fun e w' h => ⟨fun h0 => absurd hr0 h0, fun _ => h⟩)
      have HV := hid hv
      generalize rqV l = v at *
      clear hv h1 hr0
      go_wp2_with fail
      refine (HI.out _).mono ?_
      rintro e v1 ⟨g1, p1, n1, c1, rfl, hI, hn1, hg⟩
      replace bR := (hg.block _ (lt_of_block bR) (by simp)).trans bR; replace hW := grown_trans hW hg; clear hg
      have hlty := lt_of_block bR
      have hg := World.grownBy_alloc v1 (.cells #[.bool g1, .slice p1 n1 c1] 25) none
      have hb := heap_alloc_new v1 (.cells #[.bool g1, .slice p1 n1 c1] 25)
      replace hI := hI.keep hg; replace bR := (hg.block _ (lt_of_block bR) (by simp)).trans bR; replace hW := grown_trans hW hg; clear hg
      obtain ⟨y0, y1, yf0, yf1⟩ := intbox_facts hb
      clear hb
      go_upto_region 8 with fail
      generalize v1.alloc (.cells #[.bool g1, .slice p1 n1 c1] 25) = uy at *
      generalize v1.heap.size = Ky at *
      have hg := grown_drew uy none
      replace hI := hI.keep hg; replace y0 := hg.cell y0 (by simp); replace y1 := hg.cell y1 (by simp); replace bR := (hg.block _ (lt_of_block bR) (by simp)).trans bR; replace hW := grown_trans hW hg; clear hg
      go_region_held3 (fun w' => w'.cell? ⟨Ky, 0, none⟩ = some (.bool g1) ∧ w'.cell? ⟨Ky, 1, none⟩ = some (.slice p1 n1 c1)) ((try go_split_ands) <;> (repeat' apply And.intro) <;> (repeat (first | (with_reducible assumption) | (with_reducible refine (grown_setCell _ _ _).cell ?_ (by simp; omega)) | (with_reducible refine (World.grownBy_alloc _ _ none).cell ?_ (by simp)) | (with_reducible refine (grown_drew _ none).cell ?_ (by simp)))))
        (first
          | (go_at_call 27; (with_reducible refine (refOneQ _).mono ?_); rintro e v2 ⟨p2, n2, c2, rfl, hO, hn2, hg⟩; replace hI := hI.keep hg; replace y0 := hg.cell y0 (by simp); replace y1 := hg.cell y1 (by simp); replace bR := (hg.block _ (lt_of_block bR) (by simp)).trans bR; replace hW := grown_trans hW hg; clear hg)
          | (go_at_call 26; (with_reducible refine (over_v 260 hI.z hO.isN HV.out (by omega) (by omega) (by omega)).mono ?_); rintro e v3 ⟨g9, p9, n9, c9, q9, m9, d9, rfl, hV, hn9, hm9, hg⟩; replace hI := hI.keep hg; replace hO := hO.keep hg; replace y0 := hg.cell y0 (by simp); replace y1 := hg.cell y1 (by simp); replace bR := (hg.block _ (lt_of_block bR) (by simp)).trans bR; replace hW := grown_trans hW hg; obtain ⟨z0, z1, z2, f0, f1, f2⟩ := ratbox_facts bR; clear hg))
      go_wp2_with fail
      exact bodyPost_ret (v := .tuple #[.agg #[.bool g9, .slice p9 n9 c9, .slice q9 m9 d9], .int .i64 0]) (by simp [results, Tryz.results8, go_sem, z0, z1, z2]) rfl (HP.out _ _ (MPost.close bR (Nat.le_refl _) hW hV (by omega) (by omega)))

end Go.Proofs.YtkggoniecmlglaaGreatDoor
