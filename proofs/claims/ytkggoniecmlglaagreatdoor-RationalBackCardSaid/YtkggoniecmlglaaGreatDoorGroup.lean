/-
  Contracts of natural.appendGroup and natural.isNumeral.
-/
import Derived.Test.YtkggoniecmlglaaGreatDoorFmt
import Derived.Test.YtkggoniecmlglaaGreatDoorOwn
import Derived.Test.YtkggoniecmlglaaGreatDoorMul
set_option linter.unusedVariables false
set_option linter.unusedSimpArgs false
namespace Go.Proofs.YtkggoniecmlglaaGreatDoor
open Go.RowKit _root_.Nm

theorem info64 : (Tryz.prog.info? 51).map (fun i => (i.zero, i.size, i.bytes)) = some (some (.int .u64 0), 1, 8) := by kernel_rfl

theorem own_setv {w : World} {base g : Nat} {e : TypeId} {k : IntKind} {n c : Nat} {xs : List Nat} (h : IOwn w base e k (some ⟨g, 0, none⟩) n c xs) (j : Nat) (v : Int) (y : Nat) (hv : v = (y : Int)) :
    IOwn (w.setCell ⟨g, j, none⟩ (.int k v)) base e k (some ⟨g, 0, none⟩) n c (xs.set j y) := by
  subst hv
  exact ⟨by simpa using h.1, by have := (World.ownsRow.stored h.2 j (.int k (y : Int))).1; rwa [List.map_set]⟩

set_option maxHeartbeats 2000000 in
set_option maxRecDepth 100000 in
theorem appGroup_any (w0 : World) (base : Nat) (p : Option Addr) (n c gr : Nat) (xs : List Nat) (w : World) (h : IOwn w base 51 .u64 p n c xs) (hd : Dg W64 xs) (hn : n ≤ 100000) (hgr : gr < W64)
    (hb0 : w0.heap.size ≤ base) (hb : base ≤ w.heap.size) (hw0 : w0.grownBy w none) :
    Calls Tryz.prog 56 #[.slice p n c, .int .u64 gr] w fun e w' => ∃ p' c' ys, e = .returned (.slice p' (n + 1) c') ∧ IOwn w' base 51 .u64 p' (n + 1) c' ys ∧ w0.grownBy w' none ∧
      Hid (Dg W64 ys ∧ V W64 ys = V W64 xs * 10000000000000000000 + gr) := by
  obtain ⟨B, hB⟩ : ∃ B, B = 10000000000000000000 := ⟨_, rfl⟩
  have hBw : B < W64 := by rw [hB]; decide
  have hcap := h.rd.cap
  have hmax := h.rd.max
  have HL := hid h.1
  have HB := hid hB
  clear hB
  go_enter Tryz.func56, Tryz.ntmps56
  go_wp2_with fail
  go_loopw [5, 14] (fun s5 i wr => ∃ (k cy : Nat) (cu : List Nat), k ≤ n ∧ i = .int .i64 k ∧ s5 = .int .u64 cy ∧ cy < W64 ∧ IOwn wr base 51 .u64 p n c cu ∧ w0.grownBy wr none ∧ base ≤ wr.heap.size ∧
      Hid (Dg W64 cu ∧ V W64 (cu.take k) + W64 ^ k * cy = V W64 (xs.take k) * B + gr ∧ ∀ j, k ≤ j → cu[j]? = xs[j]?)) (fun _ i _ => n - (intOf i).toNat)
  case atStart => exact ⟨0, gr, xs, Nat.zero_le _, rfl, rfl, hgr, h, hw0, hb, hid ⟨hd, by simp, fun _ _ => rfl⟩⟩
  case round =>
    clear hw0 hb h
    obtain ⟨k, cy, cu, hk, rfl, rfl, hcy, hO, hgw, hbw, HC⟩ := hrel
    by_cases hlt : k < n
    · obtain ⟨g, rfl⟩ : ∃ g, p = some ⟨g, 0, none⟩ := by
        obtain ⟨_, h1, ⟨h2, h3⟩ | ⟨g, cap, cur, hv, _⟩⟩ := hO
        · omega
        · simp only [Value.slice.injEq, true_and] at hv
          exact ⟨g, hv.1⟩
      have hcl : k < cu.length := by rw [hO.1]; exact hlt
      have hcc : wr.cell? ⟨g, k, none⟩ = some (.int .u64 (cu[k] : Nat)) := by
        rw [World.ownsRow.cellAt hO.2 k (by omega)]; simp [List.getElem?_eq_getElem hcl]
      have hfr := World.ownsRow.frozenAt hO.2 k
      obtain ⟨x, hx⟩ : ∃ x, x = cu[k] := ⟨_, rfl⟩
      rw [← hx] at hcc
      have hxb : x < W64 := by rw [hx]; exact HC.out.1.get _ hcl
      have HX := hid hx
      clear hx
      have hM := fun W => mul64_any x 10000000000000000000 hxb (by decide) W
      have HM' := hid hM
      clear hM
      go_wp2_with (first
        | (go_at_call 89; refine (HM'.out _).mono ?_; rintro e w' ⟨hi, lo, rfl, hhi, hlo, HM, rfl⟩)
        | (with_reducible refine wl_add64 _ rfl (.tmp 25) (.tmp 26) _ _ rfl _ _ 0 rfl rfl rfl hlo hcy (by omega) ?_; intro s2 c2 hs2 hc2 H2))
      have hm := mul_step x B lo hi 0 lo 0 cy s2 c2 hxb hBw (by decide) hcy (by rw [HB.out]; exact HM.out) (by omega) H2.out
      have hwr : IntKind.u64.wrap ((hi : Int) + c2) = ((hi + c2 : Nat) : Int) := by
        have h2 : hi + 0 + c2 < 18446744073709551616 := hm.2
        rw [IntKind.wrap_u64]; omega
      refine ⟨⟨k + 1, hi + c2, _, by omega, rfl, by rw [hwr], by have := hm.2; omega, own_setv hO k _ s2 rfl, grown_new hgw (grown_setCell _ _ _) (fun g' e => by simp at e; have := (hO.lt _ rfl).1; simp at this; omega), by simpa using hbw,
        hid ⟨HC.out.1.set _ _ hs2, ?_, fun j hj => ?_⟩⟩, by simp [intOf]; omega⟩
      · have hxl : k < xs.length := by rw [HL.out]; exact hlt
        have hxk : xs[k] = x := by
          have := HC.out.2.2 k (Nat.le_refl _)
          rw [List.getElem?_eq_getElem hcl, List.getElem?_eq_getElem hxl] at this
          simp only [Option.some.injEq] at this
          rw [HX.out, this]
        rw [V_take_succ (B := W64) xs k hxl, hxk, V_take_succ (B := W64) (cu.set k s2) k (by simpa using hcl), List.getElem_set_self, List.take_set_of_le (Nat.le_refl _), Nat.add_mul, Nat.mul_assoc, Nat.pow_succ, Nat.mul_assoc]
        have h0 := HC.out.2.1
        have h3 := hm.1
        have h4 := congrArg (W64 ^ k * ·) h3
        simp only [Nat.mul_add, Nat.mul_zero, Nat.zero_add, Nat.add_zero] at h4 ⊢
        omega
      · rw [List.getElem?_set_ne (by omega)]
        exact HC.out.2.2 j (by omega)
    · obtain rfl : k = n := by omega
      have hVf := HC.out.2.1
      have hcl := hO.1
      rw [List.take_of_length_le (by omega), List.take_of_length_le (by rw [HL.out]; exact Nat.le_refl _), HB.out] at hVf
      have HF := hid (And.intro HC.out.1 hVf)
      clear hVf HC
      go_wp2_with (with_reducible refine wl_append _ rfl (.tmp 38) (.tmp 40) 78 rfl 51 .u64 8 Tryz.underlying78 info64 base _ _ _ cu rfl (hO.alloc _) _ 1 1 [cy] rfl (one_rd _ _ _ _ _ rfl) (by omega) (by omega) w0 (grown_trans hgw (World.grownBy_alloc _ _ _)) hb0 (by simp; omega) ?_; intro p' c2 w2 ho2 hg2)
      go_ret
      refine ⟨p', c2, _, rfl, ho2, hg2, hid ⟨HF.out.1.append (dg1 cy hcy), ?_⟩⟩
      rw [V_append, hcl, V_cons, V_nil, Nat.mul_zero, Nat.add_zero]
      exact HF.out.2

theorem idx_str (s : ByteArray) (l : List UInt8) (hl : s.data.toList = l) (k : Nat) (hk : k < l.length) (w : World) :
    (Instr.index 9 (.string s) (.int .i64 (k : Int))).run Tryz.prog w = .ok (.int .u8 (l[k].toNat : Int)) w := by
  subst hl
  have hs : k < s.size := by rw [Lib.size_eq]; exact hk
  rw [run_index_string w 9 s .i64 (k : Int) (by kernel_rfl), dif_pos ⟨by omega, by omega⟩]
  simp only [Int.toNat_natCast]
  rfl

set_option maxHeartbeats 1000000 in
theorem isNum_any (s : ByteArray) (l : List UInt8) (hl : s.data.toList = l) (hne : l ≠ []) (hn : l.length ≤ 1000000) (w : World) :
    Calls Tryz.prog 54 #[.string s] w fun e w' => e = .returned (.bool (decide (Numl l))) ∧ w = w' := by
  have hsz : s.size = l.length := by rw [Lib.size_eq, hl]
  have hpos : 0 < l.length := List.length_pos_iff.2 hne
  have hix := idx_str s l hl
  have H0 : Hid (∃ h : 0 < l.length, ∀ w, (Instr.index 9 (.string s) (.int .i64 0)).run Tryz.prog w = .ok (.int .u8 (l[0].toNat : Int)) w) := hid ⟨hpos, hix 0 hpos⟩
  have HIX := hid hix
  clear hl hix hpos
  go_enter Tryz.func54, Tryz.ntmps54
  go_wp2_with fail
  go_loop [6] (fun i => ∃ k : Nat, k ≤ l.length ∧ i = .int .i64 k ∧ Hid (∀ j (h : j < l.length), j < k → 48 ≤ l[j].toNat ∧ l[j].toNat ≤ 57)) (fun i => l.length - (intOf i).toNat)
  case atStart => exact ⟨0, Nat.zero_le _, rfl, hid fun j h hj => by omega⟩
  case round =>
    obtain ⟨k, hk, rfl, HC⟩ := hrel
    by_cases hlt : k < l.length
    · have hix := HIX.out k hlt
      obtain ⟨c, hc⟩ : ∃ c, c = l[k].toNat := ⟨_, rfl⟩
      rw [← hc] at hix
      have HCC := hid hc
      clear hc
      by_cases hd : 48 ≤ c ∧ c ≤ 57
      · obtain ⟨hd1, hd2⟩ := hd
        go_wp2_with fail
        exact ⟨⟨k + 1, by omega, rfl, hid fun j h hj => by
          by_cases hjk : j = k
          · subst hjk; rw [← HCC.out]; omega
          · exact HC.out j h (by omega)⟩, by simp [intOf]; omega⟩
      · have hbad : decide (Numl l) = false := decide_eq_false fun h => by
          have := h.1 l[k] (List.getElem_mem hlt)
          rw [← HCC.out] at this
          exact hd this
        have HB := hid hbad
        have hs : (c : Int) < 48 ∨ (¬ ((c : Int) < 48) ∧ (57 : Int) < (c : Int)) := by omega
        clear hbad hd
        rcases hs with h1 | ⟨h1, h2⟩
        all_goals
          go_wp2_with fail
          go_ret
          exact ⟨by rw [HB.out]; rfl, rfl⟩
    · obtain rfl : k = l.length := by omega
      have hD : DgS l := fun c hc => by
        obtain ⟨j, hj, rfl⟩ := List.getElem_of_mem hc
        exact HC.out j hj hj
      obtain ⟨hp0, hix⟩ := H0.out
      obtain ⟨c, hc⟩ : ∃ c, c = l[0] := ⟨_, rfl⟩
      rw [← hc] at hix
      have hh : l.head? = some c := by rw [hc, List.head?_eq_getElem?, List.getElem?_eq_getElem hp0]
      have hix' : ∀ w, (Instr.index 9 (.string s) (.int .i64 0)).run Tryz.prog w = .ok (.int .u8 (c.toNat : Int)) w := hix
      have hnum : decide (Numl l) = (decide (l.length = 1) || decide (c.toNat ≠ 48)) := by
        rw [← Bool.decide_or]
        refine decide_eq_decide.2 ⟨fun h => ?_, fun h => ⟨hD, ?_⟩⟩
        · rcases h.2 with h1 | h1
          · exact .inl h1
          · refine .inr fun e => h1 ?_
            rw [hh]; congr 1; exact UInt8.toNat_inj.1 e
        · rcases h with h1 | h1
          · exact .inl h1
          · refine .inr fun e => h1 ?_
            rw [hh] at e; simp only [Option.some.injEq] at e; rw [e]; rfl
      by_cases h1 : l.length = 1
      · have h1' : ((l.length : Int) == 1) = true := by simp; omega
        have HN : Hid (decide (Numl l) = true) := hid (by rw [hnum, decide_eq_true h1]; rfl)
        clear hnum hh hc hD hix HC HIX H0
        go_wp2_with fail
        go_ret
        exact ⟨by rw [HN.out]; rfl, rfl⟩
      · have h1' : ((l.length : Int) == 1) = false := by simp; omega
        by_cases h48 : c.toNat = 48
        · have HN : Hid (decide (Numl l) = false) := hid (by rw [hnum, decide_eq_false h1, h48]; rfl)
          rw [h48] at hix'
          clear hnum hh hc hD hix HC HIX H0
          go_wp2_with fail
          go_ret
          exact ⟨by rw [HN.out]; rfl, rfl⟩
        · have HN : Hid (decide (Numl l) = true) := hid (by rw [hnum, decide_eq_false h1, decide_eq_true h48]; rfl)
          have h48' : ((c.toNat : Int) != 48) = true := by simp; omega
          clear hnum hh hc hD hix HC HIX H0
          go_wp2_with fail
          go_ret
          exact ⟨by rw [HN.out]; rfl, rfl⟩
end Go.Proofs.YtkggoniecmlglaaGreatDoor
