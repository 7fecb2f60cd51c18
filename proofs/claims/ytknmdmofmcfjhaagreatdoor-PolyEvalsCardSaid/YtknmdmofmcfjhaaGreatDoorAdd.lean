/-
  Contract of natural.Add.
-/
import Derived.Test.YtknmdmofmcfjhaaGreatDoorCmp
import Derived.Deep.DeepCutAuto
set_option linter.unusedVariables false
set_option linter.unusedSimpArgs false
namespace Go.Proofs.YtknmdmofmcfjhaaGreatDoor
open Go.RowKit Nm

theorem splice_zeros (xs : List Nat) (n : Nat) (h : xs.length ≤ n) : splice (List.replicate n 0) 0 xs = xs ++ List.replicate (n - xs.length) 0 := by
  simp [splice]

theorem add_lt {ps qs : List Nat} (hp : Dg 65536 ps) (hq : Dg 65536 qs) (h : qs.length ≤ ps.length) : V 65536 ps + V 65536 qs < 65536 ^ (ps.length + 1) := by
  have h1 := hp.lt
  have h2 := hq.lt
  have h3 : 65536 ^ qs.length ≤ 65536 ^ ps.length := Nat.pow_le_pow_right (by omega) h
  rw [Nat.pow_succ]; omega

/-- a carry at place k of a sum that has no more than l places -/
theorem carry_place {B v k c N l : Nat} (e : v + B ^ k * c = N) (hN : N < B ^ l) (hc : c ≠ 0) (hB : 1 < B) : k < l := by
  refine Nat.lt_of_not_le fun h => ?_
  have h1 : B ^ l ≤ B ^ k := Nat.pow_le_pow_right (by omega) h
  have h2 : B ^ k * 1 ≤ B ^ k * c := Nat.mul_le_mul_left _ (by omega)
  omega

set_option maxHeartbeats 2000000 in
theorem natAdd_any (a b : Option Addr) (n m c d : Nat) (xs ys : List Nat) (w : World) (h : IRd w .u16 a n c xs) (k : IRd w .u16 b m d ys) (hx : Dg 65536 xs) (hy : Dg 65536 ys) (hn : n ≤ 900000) (hm : m ≤ 900000) :
    Calls Tryz.prog 199 #[.slice a n c, .slice b m d] w fun e w' => ∃ a' c', e = .returned (.slice a' (dg 65536 (V 65536 xs + V 65536 ys)).length c') ∧
      IRd w' .u16 a' (dg 65536 (V 65536 xs + V 65536 ys)).length c' (dg 65536 (V 65536 xs + V 65536 ys)) ∧ w.grownBy w' none := by
  have hmax := h.max
  have hcap := h.cap
  have kmax := k.max
  have kcap := k.cap
  have ht := h.take (trimR xs).length (by rw [← h.len]; exact trimR_length_le xs)
  have kt := k.take (trimR ys).length (by rw [← k.len]; exact trimR_length_le ys)
  rw [← trimR_eq_take] at ht kt
  have hcx := Can_trimR hx
  have hcy := Can_trimR hy
  have hvx := V_trimR (B := 65536) xs
  have hvy := V_trimR (B := 65536) ys
  have R1 := hid (trim16 a n c xs w h)
  have R2 := hid (trim16 b m d ys w k)
  have hnl : (trimR xs).length ≤ n := by rw [← h.len]; exact trimR_length_le xs
  have hml : (trimR ys).length ≤ m := by rw [← k.len]; exact trimR_length_le ys
  obtain ⟨N, hN⟩ : ∃ N, N = V 65536 xs + V 65536 ys := ⟨_, rfl⟩
  rw [← hN]
  rw [← hvx, ← hvy] at hN
  generalize trimR xs = us at *
  generalize trimR ys = vs at *
  have HN := hid hN
  clear hvx hvy h k hN
  go_enter Tryz.func199, Tryz.ntmps199
  go_upto_if 18 with (first
      | (go_at_call 179; (with_reducible refine (R1.out).mono ?_); rintro e w' ⟨rfl, rfl⟩)
      | (go_at_call 179; (with_reducible refine (R2.out).mono ?_); rintro e w' ⟨rfl, rfl⟩))
  go_cut [0, 1] (fun s0 s1 wx => ∃ (p q : Option Addr) (ps qs : List Nat) (c1 c2 : Nat), s0 = .slice p ps.length c1 ∧ s1 = .slice q qs.length c2 ∧ IRd wx .u16 p ps.length c1 ps ∧ IRd wx .u16 q qs.length c2 qs ∧
    qs.length ≤ ps.length ∧ ps.length ≤ 900000 ∧ Hid (N = V 65536 ps + V 65536 qs ∧ Dg 65536 ps ∧ Dg 65536 qs) ∧ w.grownBy wx none)
  case first =>
    by_cases hlt : us.length < vs.length
    · go_wp2
      go_meet
      exact ⟨b, a, vs, us, d, c, rfl, rfl, kt, ht, by omega, by omega, hid ⟨by rw [HN.out]; omega, hcy.1, hcx.1⟩, grown_refl _ _⟩
    · go_wp2
      go_meet
      exact ⟨a, b, us, vs, c, d, rfl, rfl, ht, kt, by omega, by omega, hid ⟨HN.out, hcx.1, hcy.1⟩, grown_refl _ _⟩
  case rest =>
    obtain ⟨p, q, ps, qs, c1, c2, rfl, rfl, hp, hq, hle, hpb, HN', hgx⟩ := hcut
    have HL := hid hp.len
    have hpc := hp.cap
    have hpm := hp.max
    have hqm := hq.max
    have hqc := hq.cap
    have hNl : N < 65536 ^ (ps.length + 1) := by rw [HN'.out.1]; exact add_lt HN'.out.2.1 HN'.out.2.2 hle
    have HNL := hid hNl
    clear hNl
    obtain ⟨g, hg⟩ : ∃ g, g = wc.heap.size := ⟨_, rfl⟩
    go_wp2_with (first
      | (at_make; refine wl_make _ rfl _ _ 25 rfl 116 .u16 2 Tryz.underlying25 (by kernel_rfl) _ _ _ _ rfl rfl (ps.length + 1) (by omega) (by omega) (by omega) (by omega) ?_; intro w1 hr1 hg1)
      | (with_reducible refine wl_copy _ rfl (.tmp 25) (.tmp 26) 25 25 rfl 116 Tryz.underlying25 (by kernel_rfl) .u16 _ _ _ _ _ _ rfl rfl wc.heap.size 0 116 _ ps hr1 (fun _ => rfl) (hp.keep hg1) (by simp) ?_; intro w2 hr2 hg2))
    rw [List.take_of_length_le (by omega), splice_zeros _ _ (by omega)] at hr2
    rw [← hg] at hr2 hg2 ⊢
    have hg3 : wc.grownBy w2 none := grown_new hg1 hg2 (fun g' e => by cases e; rw [hg]; exact Nat.le_refl _)
    have HG := hid hg
    clear hg hr1 hg2
    go_loopw [6, 30] (fun s6 i wr => ∃ (k cy : Nat) (cur : List Nat), k ≤ qs.length ∧ i = .int .i64 k ∧ s6 = .int .u32 cy ∧ cy ≤ 1 ∧ IRow wr g 116 .u16 cur ∧ w2.grownBy wr (some g) ∧
        Hid (cur.length = ps.length + 1 ∧ Dg 65536 cur ∧ V 65536 cur + 65536 ^ k * cy = V 65536 ps + V 65536 (qs.take k))) (fun _ i _ => qs.length - (intOf i).toNat)
    case atStart => exact ⟨0, 0, _, Nat.zero_le _, rfl, rfl, by omega, hr2, grown_refl _ _, hid ⟨by simp, HN'.out.2.1.append (Dg.zeros (by omega) _), by simp [V_append, V_zeros]⟩⟩
    case round =>
      obtain ⟨k, cy, cur, hk, rfl, rfl, hcy1, hrow, hgr, HC⟩ := hrel
      by_cases hlt : k < qs.length
      · obtain ⟨b', o', rfl, hc1⟩ := hq.cel k hlt
        have hbl := World.block_lt_of_cell? _ _ hc1
        have hc2 := hgr.cell (hg3.cell hc1 (by simp)) (by intro e; have := HG.out; simp at e hbl; omega)
        obtain ⟨y, hy⟩ : ∃ y, y = qs[k] := ⟨_, rfl⟩
        rw [← hy] at hc2
        have hyb : y < 65536 := by rw [hy]; exact HN'.out.2.2.get k hlt
        have hcl : k < cur.length := by rw [HC.out.1]; omega
        have hcc := hrow.cell k hcl
        have hfr := hrow.free k
        obtain ⟨x, hx⟩ : ∃ x, x = cur[k] := ⟨_, rfl⟩
        rw [← hx] at hcc
        have hxb : x < 65536 := by rw [hx]; exact HC.out.2.1.get k hcl
        have HX := hid hx
        have HY := hid hy
        clear hx hy hc1 hbl
        have hk1 : (k : Int) < (ps.length : Int) + 1 := by omega
        go_wp2
        have hs := step_add (B := 65536) cur k ((cy + (x + y)) % 65536) ((cy + (x + y)) / 65536) (cy + y) hcl (by rw [← HX.out]; omega)
        have hv := V_take_succ (B := 65536) qs k hlt
        rw [← HY.out] at hv
        refine ⟨⟨k + 1, (cy + (x + y)) / 65536, _, by omega, rfl, by congr 1, by omega, hrow.setv k _ ((cy + (x + y)) % 65536) (by rw [IntKind.wrap_u16]; omega), grown_trans hgr (grown_setCell _ _ _),
          hid ⟨by simpa using HC.out.1, HC.out.2.1.set _ _ (Nat.mod_lt _ (by omega)), ?_⟩⟩, by simp [intOf]; omega⟩
        rw [hs, hv, Nat.mul_add]
        have := HC.out.2.2
        omega
      · obtain rfl : k = qs.length := by omega
        have HC' : Hid (cur.length = ps.length + 1 ∧ Dg 65536 cur ∧ V 65536 cur + 65536 ^ qs.length * cy = N) := hid ⟨HC.out.1, HC.out.2.1, by
          have := HC.out.2.2
          rw [List.take_of_length_le (Nat.le_refl _)] at this
          rw [HN'.out.1]; exact this⟩
        clear HC
        go_wp2_with fail
        go_loopw [6, 9] (fun s6 i wq => ∃ (k cy : Nat) (cur : List Nat), k ≤ ps.length + 1 ∧ i = .int .i64 k ∧ s6 = .int .u32 cy ∧ cy ≤ 1 ∧ IRow wq g 116 .u16 cur ∧ w2.grownBy wq (some g) ∧
            Hid (cur.length = ps.length + 1 ∧ Dg 65536 cur ∧ V 65536 cur + 65536 ^ k * cy = N)) (fun _ i _ => ps.length + 1 - (intOf i).toNat)
        case atStart => exact ⟨qs.length, cy, cur, by omega, rfl, rfl, hcy1, hrow, hgr, HC'⟩
        case round =>
          obtain ⟨k, cy, cur, hk, rfl, rfl, hcy1, hrow, hgr, HC⟩ := hrel
          by_cases hz : cy = 0
          · have hne : (((cy : Int) != 0) = false) := by simp [hz]
            have hrd := hrow.rd0 (by rw [HC.out.1]; omega)
            rw [HC.out.1] at hrd
            have HR := hid (trim16 _ _ _ cur _ hrd)
            have HD := hid (hrd.take (trimR cur).length (by rw [← HC.out.1]; exact trimR_length_le cur))
            clear hrd
            go_wp2_with (go_at_call 179; refine HR.out.mono ?_; rintro e w' ⟨rfl, rfl⟩)
            go_ret
            have e1 : trimR cur = dg 65536 N := by
              rw [trimR_dg (by omega) HC.out.2.1]
              have := HC.out.2.2
              rw [hz, Nat.mul_zero, Nat.add_zero] at this
              rw [this]
            have hd := HD.out
            rw [← trimR_eq_take, e1] at hd
            rw [← e1] at hd ⊢
            exact ⟨_, _, rfl, hd, grown_new (grown_trans hgx hg3) hgr (fun g' e' => by cases e'; rw [HG.out]; exact hgx.size)⟩
          · have hkl := carry_place HC.out.2.2 HNL.out hz (by omega)
            have hne : (((cy : Int) != 0) = true) := by simp; omega
            have hcl : k < cur.length := by rw [HC.out.1]; exact hkl
            have hcc := hrow.cell k hcl
            have hfr := hrow.free k
            obtain ⟨x, hx⟩ : ∃ x, x = cur[k] := ⟨_, rfl⟩
            rw [← hx] at hcc
            have hxb : x < 65536 := by rw [hx]; exact HC.out.2.1.get k hcl
            have HX := hid hx
            clear hx
            have hk1 : (k : Int) < (ps.length : Int) + 1 := by omega
            go_wp2
            have hs := step_add (B := 65536) cur k ((cy + x) % 65536) ((cy + x) / 65536) cy hcl (by rw [← HX.out]; omega)
            refine ⟨⟨k + 1, (cy + x) / 65536, _, by omega, rfl, by congr 1, by omega, hrow.setv k _ ((cy + x) % 65536) (by rw [IntKind.wrap_u16]; omega), grown_trans hgr (grown_setCell _ _ _),
              hid ⟨by simpa using HC.out.1, HC.out.2.1.set _ _ (Nat.mod_lt _ (by omega)), by rw [hs]; exact HC.out.2.2⟩⟩, by simp [intOf]; omega⟩
end Go.Proofs.YtknmdmofmcfjhaaGreatDoor
