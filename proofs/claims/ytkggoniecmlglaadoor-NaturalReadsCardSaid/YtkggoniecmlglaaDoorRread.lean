/-
  Contract of the reference's Read.
-/
import Derived.Test.YtkggoniecmlglaaDoorNread
import Derived.Test.YtkggoniecmlglaaDoorRefDiv
import Derived.Deep.RegionHeld3
import Derived.Deep.DeepCutAuto
set_option linter.unusedVariables false
set_option linter.unusedSimpArgs false
namespace Go.Proofs.YtkggoniecmlglaaDoor
open Go.RowKit _root_.Nm

/-- what the first k bytes show -/
def Seen (l : List UInt8) (k : Nat) : Prop := (∀ j (h : j < l.length), j < k → 48 ≤ l[j].toNat ∧ l[j].toNat ≤ 57) ∧ (2 ≤ k → l.head? ≠ some 48)

theorem Seen.dgs {l : List UInt8} {k : Nat} (h : Seen l k) : DgS (l.take k) := fun c hc => by
  obtain ⟨j, hj, rfl⟩ := List.getElem_of_mem hc
  rw [List.length_take] at hj
  rw [List.getElem_take]
  exact h.1 j (by omega) (by omega)

theorem refTen (w : World) : Calls Tryd.prog 41 #[.int .u64 10] w fun e w' => ∃ p n c, e = .returned (.slice p n c) ∧ IsC w' p n c 10 ∧ n ≤ 4 ∧ w.grownBy w' none := refOf_c 10 (by decide) w

set_option maxHeartbeats 4000000 in
set_option maxRecDepth 100000 in
theorem refRead_any (s : ByteArray) (l : List UInt8) (hl : s.data.toList = l) (hmax : s.size ≤ 9223372036854775807) (w : World) :
    Calls Tryd.prog 10 #[.string s] w (RdPost w l) := by
  have hsz : s.size = l.length := by rw [Lib.size_eq, hl]
  by_cases h0 : l = []
  · have hP : Hid (∀ w', w.grownBy w' none → RdPost w l (.returned (.tuple #[.slice none 0 0, .int .i64 10])) w') := hid fun w' hg => rdPost_bad (k := 10) (by rw [h0]; rfl) (by omega) hg
    have hs := str_eq (hl.trans h0)
    subst hs
    clear hl hmax hsz
    go_enter Tryd.func10, Tryd.ntmps10
    go_wp2_with fail
    go_ret2
    exact hP.out _ (grown_refl _ _)
  have hemp := ne_str (by rw [hl]; exact h0 : s.data.toList ≠ [])
  by_cases h1 : 1000 < l.length
  · have hP : Hid (∀ w', w.grownBy w' none → RdPost w l (.returned (.tuple #[.slice none 0 0, .int .i64 4])) w') := hid fun w' hg => rdPost_bad (k := 4) (rdE_large h1) (by omega) hg
    have h1' : (1000 : Int) < (s.size : Int) := by omega
    clear hl hsz
    go_enter Tryd.func10, Tryd.ntmps10
    go_wp2_with fail
    go_ret2
    exact hP.out _ (grown_refl _ _)
  have h1' : ¬ ((1000 : Int) < (s.size : Int)) := by omega
  have hP : Hid (¬ Numl l → ∀ w', w.grownBy w' none → RdPost w l (.returned (.tuple #[.slice none 0 0, .int .i64 9])) w') := hid fun h2 w' hg => rdPost_bad (k := 9) (rdE_form h0 (by omega) h2) (by omega) hg
  have hpos : 0 < l.length := List.length_pos_iff.2 h0
  have HIX := hid (idx_str s l hl)
  have HL := hid (And.intro hl (And.intro h0 (And.intro hpos (show l.length ≤ 1000 by omega))))
  clear hl h0 hpos
  go_enter Tryd.func10, Tryd.ntmps10
  go_wp2_with fail
  clear hemp h1' hmax
  go_loopw [4, 5] (fun x y wr => ∃ (k n c : Nat) (p : Option Addr), x = .slice p n c ∧ y = .int .i64 k ∧ k ≤ l.length ∧ IsC wr p n c (numF 0 (l.take k)) ∧ w.grownBy wr none ∧ Hid (Seen l k)) (fun _ y _ => l.length - (intOf y).toNat)
  case atStart => exact ⟨0, 0, 0, none, rfl, rfl, Nat.zero_le _, IsC.nil _, grown_refl _ _, hid ⟨fun j h hj => by omega, fun h => by omega⟩⟩
  case round =>
    obtain ⟨k, n, c, p, rfl, rfl, hk, hC, hW, HS⟩ := hrel
    by_cases hlt : k < l.length
    · have hn := hC.len_le (k := 250) (num_limbs HS.out.dgs (by rw [List.length_take]; have := HL.out.2.2.2; omega))
      have hix := HIX.out k hlt
      have hix0 := HIX.out 0 HL.out.2.2.1
      have hkl : (k : Int) < (s.size : Int) := by omega
      have hk1000 : (k : Int) < 1000 := by have := HL.out.2.2.2; omega
      obtain ⟨ch, hc⟩ : ∃ ch, ch = l[k] := ⟨_, rfl⟩
      obtain ⟨c0, hc0⟩ : ∃ c0, c0 = l[0]'(HL.out.2.2.1) := ⟨_, rfl⟩
      rw [← hc] at hix
      rw [← hc0] at hix0
      have hh : l.head? = some c0 := by rw [hc0, List.head?_eq_getElem?, List.getElem?_eq_getElem HL.out.2.2.1]
      have hix0' : ∀ w, (Instr.index 9 (.string s) (.int .i64 0)).run Tryd.prog w = .ok (.int .u8 (c0.toNat : Int)) w := hix0
      have hcm : ch ∈ l := by rw [hc]; exact List.getElem_mem hlt
      have hbad : ¬ (48 ≤ ch.toNat ∧ ch.toNat ≤ 57) → ¬ Numl l := fun h g => h (g.1 ch hcm)
      have hbad0 : k = 1 → c0.toNat = 48 → ¬ Numl l := fun h1 h2 g => by
        rcases g.2 with h3 | h3
        · omega
        · exact h3 (by rw [hh]; congr 1; exact UInt8.toNat_inj.1 h2)
      have hnext : 48 ≤ ch.toNat ∧ ch.toNat ≤ 57 → ¬ (k = 1 ∧ c0.toNat = 48) → Seen l (k + 1) := fun h1 h2 => ⟨fun j h hj => by
          by_cases hjk : j = k
          · subst hjk; rw [← hc]; exact h1
          · exact HS.out.1 j h (by omega), fun h3 e => by
          rw [hh] at e
          simp only [Option.some.injEq] at e
          by_cases hk1 : k = 1
          · exact h2 ⟨hk1, by rw [e]; rfl⟩
          · exact HS.out.2 (by omega) (by rw [hh, e])⟩
      have hval : numF 0 (l.take k) * 10 + (ch.toNat - 48) = numF 0 (l.take (k + 1)) := by
        rw [List.take_succ_eq_append_getElem hlt, numF_append, ← hc, numF_cons, numF_nil]
      obtain ⟨N, hN⟩ : ∃ N, N = numF 0 (l.take k) := ⟨_, rfl⟩
      rw [← hN] at hC hval
      obtain ⟨v, hv⟩ : ∃ v, v = ch.toNat := ⟨_, rfl⟩
      have hv256 : v < 256 := by rw [hv]; exact ch.toNat_lt
      rw [← hv] at hix hbad hnext hval
      obtain ⟨v0, hv0⟩ : ∃ v0, v0 = c0.toNat := ⟨_, rfl⟩
      rw [← hv0] at hix0' hbad0 hnext
      have HB := hid (And.intro hbad (And.intro hbad0 (And.intro hnext hval)))
      clear hbad hbad0 hnext hval hix0 hh hcm hc hc0 hN hv hv0 HS
      by_cases hd : 48 ≤ v ∧ v ≤ 57
      · obtain ⟨hd1, hd2⟩ := hd
        have hd1' : ¬ ((v : Int) < 48) := by omega
        have hd2' : ¬ ((57 : Int) < (v : Int)) := by omega
        by_cases hz : k = 1 ∧ v0 = 48
        · have HBB := hid (HB.out.2.1 hz.1 hz.2)
          have hz1 : ((k : Int) == 1) = true := by simp; omega
          have hz2 : ((v0 : Int) == 48) = true := by simp; omega
          clear hz HB
          go_wp2_with fail
          go_ret2
          exact hP.out HBB.out _ hW
        · have HNX := hid (And.intro (HB.out.2.2.1 ⟨hd1, hd2⟩ hz) HB.out.2.2.2)
          have hz' : (((k : Int) == 1) = false) ∨ (((k : Int) == 1) = true ∧ ((v0 : Int) == 48) = false) := by
            by_cases hk1 : k = 1
            · right; exact ⟨by simp; omega, by simp; omega⟩
            · left; simp; omega
          obtain ⟨d, hd⟩ : ∃ d, d = v - 48 := ⟨_, rfl⟩
          have hvd : (v : Int) - 48 = (d : Int) := by omega
          have hdv : N * 10 + d = numF 0 (l.take (k + 1)) := by rw [hd]; exact HNX.out.2
          have HDV := hid hdv
          have hd10 : d < 10 := by omega
          have hod := fun W => refOf_c d (by unfold W64; omega) W
          have hwr : IntKind.u64.wrap (IntKind.u8.wrap (d : Int)) = (d : Int) := by rw [IntKind.wrap_u8, IntKind.wrap_u64]; omega
          have hod2 : ∀ W, Calls Tryd.prog 41 #[.int .u64 ((v : Int) - 48)] W fun e w' => ∃ p n c, e = .returned (.slice p n c) ∧ IsC w' p n c d ∧ n ≤ 4 ∧ W.grownBy w' none := by rw [hvd]; exact hod
          have hod3 : ∀ W, Calls Tryd.prog 41 #[.int .u64 (IntKind.u64.wrap (IntKind.u8.wrap (d : Int)))] W fun e w' => ∃ p n c, e = .returned (.slice p n c) ∧ IsC w' p n c d ∧ n ≤ 4 ∧ W.grownBy w' none := by rw [hwr]; exact hod
          have HOD := hid (And.intro hod (And.intro hod2 hod3))
          clear hod hod2 hod3 hwr
          clear hdv hd hz HB
          rcases hz' with hz1 | ⟨hz1, hz2⟩
          all_goals
            go_upto_region 11 with fail
            go_region_held3 (fun _ => True) (exact trivial) (first
              | (go_at_call 41; (with_reducible refine (refTen _).mono ?_); rintro e wA ⟨pT, nT, cT, rfl, hT, hnT, hg⟩; (try first | replace hC := hC.keep hg | replace hC := hC.keep (grown_trans (grown_drew _ none) hg)); (try replace hD := hD.keep hg); (first | replace hW := grown_trans hW hg | replace hW := grown_trans hW (grown_trans (grown_drew _ none) hg)); clear hg)
              | (go_at_call 41; (first | with_reducible refine (HOD.out.1 _).mono ?_ | with_reducible refine (HOD.out.2.1 _).mono ?_ | with_reducible refine (HOD.out.2.2 _).mono ?_); rintro e wB ⟨pD, nD, cD, rfl, hD, hnD, hg⟩; (try first | replace hC := hC.keep hg | replace hC := hC.keep (grown_trans (grown_drew _ none) hg)); (try replace hT := hT.keep hg); (try replace hM := hM.keep hg); (first | replace hW := grown_trans hW hg | replace hW := grown_trans hW (grown_trans (grown_drew _ none) hg)); clear hg)
              | (go_at_call 40; (with_reducible refine (refMul_n hC.isN hT.isN (by omega) (by omega)).mono ?_); rintro e wC ⟨pM, nM, cM, rfl, hM, hnM, hg⟩; clear hC hT; (try replace hD := hD.keep hg); (first | replace hW := grown_trans hW hg | replace hW := grown_trans hW (grown_trans (grown_drew _ none) hg)); clear hg)
              | (go_at_call 39; (with_reducible refine (refAdd_n hM.isN hD.isN (by omega) (by omega)).mono ?_); rintro e wE ⟨pS, nS, cS, rfl, hS, hnS, hg⟩; (first | replace hW := grown_trans hW hg | replace hW := grown_trans hW (grown_trans (grown_drew _ none) hg)); clear hg))
            all_goals
              go_wp2_with fail
              exact ⟨⟨k + 1, nS, cS, pS, rfl, rfl, by omega, by rw [← HDV.out]; exact hS, hW, hid HNX.out.1⟩, by simp [intOf]; omega⟩
      · have hs : ((v : Int) < 48) ∨ (¬ ((v : Int) < 48) ∧ (57 : Int) < (v : Int)) := by omega
        have HBB := hid (HB.out.1 hd)
        clear hd HB
        rcases hs with h2 | ⟨h2, h3⟩
        all_goals
          go_wp2_with fail
          go_ret2
          exact hP.out HBB.out _ hW
    · obtain rfl : k = l.length := by omega
      have hS := HS.out
      have hnum : Numl l := ⟨by have := hS.dgs; rwa [List.take_of_length_le (Nat.le_refl _)] at this, by
        by_cases h2 : l.length = 1
        · exact .inl h2
        · exact .inr (hS.2 (by have := HL.out.2.2.1; omega))⟩
      rw [List.take_of_length_le (Nat.le_refl _)] at hC
      have HE := hid (rdE_ok HL.out.2.1 HL.out.2.2.2 hnum)
      have HD := hid hnum.1
      have hC' := hC
      have HC := hid hC'
      clear hC' hS hnum HS
      go_wp2_with fail
      go_ret2
      refine ⟨p, n, c, by rw [HE.out]; rfl, ?_, ?_, hW⟩
      · rw [rdV_ok HE.out]; exact HC.out
      · exact HC.out.len_le (num_limbs HD.out HL.out.2.2.2)
end Go.Proofs.YtkggoniecmlglaaDoor
