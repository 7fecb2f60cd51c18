/-
  Whatever the arguments are, the Go function NaturalForms returns true and leaves them as they are. No condition.
-/
import Derived.Test.YtjollejmgpfhmaaAliveA
import Derived.Test.YtjollejmgpfhmaaSmallA
import Derived.Test.YtjollejmgpfhmaaOpen
set_option linter.unusedVariables false
set_option linter.unusedSimpArgs false
namespace Go.Proofs.Ytjollejmgpfhmaa
open Go.ChangeShapes Go.WideShapes Go.ChangeAt Go.RowKit Nm

theorem small1_two (a b : Option Addr) (n c m d : Nat) (w : World) :
    Calls Try.prog 12 #[.slice (some ⟨w.heap.size, 0, none⟩) 2 2] (w.alloc (.cells #[.slice a n c, .slice b m d] 23)) fun e w' =>
      e = .returned (.bool (decide (n ≤ 24 ∧ m ≤ 24))) ∧ w.alloc (.cells #[.slice a n c, .slice b m d] 23) = w' := by
  have := small1_any w.heap.size 2 [(a, n, c), (b, m, d)] (w.alloc (.cells #[.slice a n c, .slice b m d] 23)) (by simp) (fun j hj => by
    match j, hj with
    | 0, _ => simp
    | 1, _ => simp)
  simpa using this

set_option maxHeartbeats 4000000 in
theorem naturalForms_walk (a b : Option Addr) (n c m d x : Nat) (xs ys : List Nat) (w : World) (ha : IRd w .u16 a n c xs) (hb : IRd w .u16 b m d ys) (hx : Dg 65536 xs) (hy : Dg 65536 ys) (hxb : x < W64) :
    Calls Try.prog 3 #[.slice a n c, .slice b m d, .int .u64 x] w fun e w' => e = .returned (.bool true) ∧ w.grownBy w' none := by
  have hS := small1_two a b n c m d w
  by_cases h24 : n ≤ 24 ∧ m ≤ 24
  · rw [decide_eq_true h24] at hS
    obtain ⟨hn, hm⟩ := h24
    have HS := hid hS
    clear hS
    obtain ⟨U, hU⟩ : ∃ U : Nat, U = if (trimR xs).length ≤ 4 then V 65536 xs else 0 := ⟨_, rfl⟩
    obtain ⟨B, hB⟩ : ∃ B : Bool, B = decide ((trimR xs).length ≤ 4) := ⟨_, rfl⟩
    have u1 := fun W (h : IRd W .u16 a n c xs) => natUint_any a n c xs W h hx
    have u2 := fun W (h : IRd W .u16 a n c xs) => refUint_any a n c xs W h hx (by omega)
    rw [← hU, ← hB] at u1 u2
    have HU1 := hid u1
    have HU2 := hid u2
    have hOx : trimR (dg 65536 x) = dg 65536 x := by rw [trimR_dg (by omega) (Can_dg (by omega) x).1, V_dg (by omega)]
    have u3 := fun W p c' (h : IRd W .u16 p (dg 65536 x).length c' (dg 65536 x)) => natUint_any p (dg 65536 x).length c' (dg 65536 x) W h (Can_dg (by omega) x).1
    have hlx : (dg 65536 x).length ≤ 4 := dg_length_le (by omega) (by rw [← W64_eq]; exact hxb)
    rw [hOx, decide_eq_true hlx, if_pos hlx, V_dg (by omega)] at u3
    have HU3 := hid u3
    clear hU hB u1 u2 u3 hOx
    have HN1 := hid (fun W (h : IRd W .u16 a n c xs) => natNorm_any a n c xs W h (by omega))
    have HN2 := hid (fun W (h : IRd W .u16 a n c xs) => refNorm_any a n c xs W h (by omega))
    have HB1 := hid (fun W (h : IRd W .u16 a n c xs) => natBits_any a n c xs W h hx (by omega))
    have HB2 := hid (fun W (h : IRd W .u16 a n c xs) => refBits_any a n c xs W h hx (by omega))
    have HC1 := hid (fun W (h : IRd W .u16 a n c xs) (k : IRd W .u16 b m d ys) => natCmp_any a b n m c d xs ys W h k hx hy)
    have HC2 := hid (fun W (h : IRd W .u16 a n c xs) (k : IRd W .u16 b m d ys) => refCmp_any a b n m c d xs ys W h k hx hy)
    have HO1 := hid (fun W => of_any x hxb W)
    have HO2 := hid (fun W => refOf_any x hxb W)
    have HAL := hid (fun W => alive1 W)
    generalize trimR xs = us at *
    generalize dg 65536 x = zs at *
    generalize cmpI (V 65536 xs : Nat) (V 65536 ys : Nat) = sgn at *
    have hW : w.grownBy w none := grown_refl _ _
    go_enter Try.func3, Try.ntmps3
    go_wp2_with (first
      | (go_at_call 12; refine HS.out.mono ?_; rintro e w1 ⟨rfl, rfl⟩; replace ha := ha.keep (World.grownBy_alloc w (.cells #[.slice a n c, .slice b m d] 23) none); replace hb := hb.keep (World.grownBy_alloc w (.cells #[.slice a n c, .slice b m d] 23) none); replace hW := grown_trans hW (World.grownBy_alloc w (.cells #[.slice a n c, .slice b m d] 23) none))
      | (go_at_call 14; (with_reducible refine (HU1.out _ ha).mono ?_); rintro e w1 ⟨rfl, rfl⟩)
      | (go_at_call 15; (with_reducible refine (HU2.out _ ha).mono ?_); rintro e w2 ⟨rfl, hg⟩; replace ha := ha.keep hg; replace hb := hb.keep hg; replace hW := grown_trans hW hg; clear hg)
      | (go_at_call 17; (with_reducible refine (HN1.out _ ha).mono ?_); rintro e w3 ⟨p1, d1, rfl, hr1, hg⟩; replace ha := ha.keep hg; replace hb := hb.keep hg; replace hW := grown_trans hW hg; clear hg)
      | (go_at_call 18; (with_reducible refine (HN2.out _ ha).mono ?_); rintro e w4 ⟨p2, d2, rfl, hr2, hg⟩; replace ha := ha.keep hg; replace hb := hb.keep hg; replace hr1 := hr1.keep hg; replace hW := grown_trans hW hg; clear hg)
      | (go_at_call 16; (with_reducible refine (same_any p1 p2 _ d1 d2 _ _ hr1 hr2).mono ?_); rintro e w5 ⟨rfl, hg⟩; replace ha := ha.keep hg; replace hb := hb.keep hg; replace hW := grown_trans hW hg; clear hg hr1 hr2)
      | (go_at_call 19; (with_reducible refine (HB1.out _ ha).mono ?_); rintro e w6 ⟨b1, hb1, rfl, HI1, rfl⟩)
      | (go_at_call 20; (with_reducible refine (HB2.out _ ha).mono ?_); rintro e w7 ⟨b2, rfl, HI2, hg⟩; obtain rfl := IsBits.unique HI1.out HI2.out; replace ha := ha.keep hg; replace hb := hb.keep hg; replace hW := grown_trans hW hg; clear hg)
      | (go_at_call 21; (with_reducible refine (HC1.out _ ha hb).mono ?_); rintro e w8 ⟨rfl, hg⟩; replace ha := ha.keep hg; replace hb := hb.keep hg; replace hW := grown_trans hW hg; clear hg)
      | (go_at_call 22; (with_reducible refine (HC2.out _ ha hb).mono ?_); rintro e w9 ⟨rfl, rfl⟩)
      | (go_at_call 23; (with_reducible refine (HO1.out _).mono ?_); rintro e w10 ⟨q1, f1, rfl, ho1, hg⟩; replace hW := grown_trans hW hg; clear hg)
      | (go_at_call 14; (with_reducible refine (HU3.out _ q1 f1 ho1).mono ?_); rintro e w11 ⟨rfl, rfl⟩)
      | (go_at_call 24; (with_reducible refine (HO2.out _).mono ?_); rintro e w12 ⟨q2, f2, rfl, ho2, hg⟩; replace ho1 := ho1.keep hg; replace hW := grown_trans hW hg; clear hg)
      | (go_at_call 16; (with_reducible refine (same_any q1 q2 _ f1 f2 _ _ ho1 ho2).mono ?_); rintro e w13 ⟨rfl, hg⟩; replace hW := grown_trans hW hg; clear hg)
      | (go_at_call 13; (with_reducible refine (HAL.out _).mono ?_); rintro e w14 ⟨rfl, hg⟩; replace hW := grown_trans hW hg; clear hg))
    go_ret
    exact ⟨rfl, hW⟩
  · rw [decide_eq_false h24] at hS
    have HS := hid hS
    have HAL := hid (fun W => alive1 W)
    clear hS h24
    go_enter Try.func3, Try.ntmps3
    go_wp2_with (first
      | (go_at_call 12; refine HS.out.mono ?_; rintro e w1 ⟨rfl, rfl⟩)
      | (go_at_call 13; (with_reducible refine (HAL.out _).mono ?_); rintro e w14 ⟨rfl, hg⟩))
    go_ret
    exact ⟨rfl, grown_trans (World.grownBy_alloc w (.cells #[.slice a n c, .slice b m d] 23) none) hg⟩

set_option maxRecDepth 100000 in
theorem naturalForms_lifted (os : Os) (started : os.Started) (H : Type) (enc : TypeId × Value → H) :
    ReturnsInHanded {} Try.checked os 3 .any (Rows.naturalFormsSpec.pre6 enc Try.prog Try.f3 Rows.naturalFormsRow.domain false) (Rows.naturalFormsSpec.post enc Try.prog Try.f3 false true false false) := by
  refine returnsInHanded_of_change (C := Try.checked) own1 started (by kernel_rfl) Try.func3
    (ChangeSpec.witness6 (enc := enc) (C := Try.checked) false ⟨#[], #[.slice none 0 0, .slice none 0 0, .int .u64 0], []⟩ 8 (by kernel_rfl) (by kernel_rfl) (by kernel_rfl) (by kernel_rfl)) ?_
  intro W base args ds gs before hval0 hW hcnd _
  have hval : ∀ (j : Nat) t v, Try.f3.params[j]? = some t → args[j]? = some v → Value.okWide Try.prog W .any base t v := hval0
  have hW' := hW
  obtain ⟨p, q, hA0, hV, rfl, hfz, hnd⟩ := hW
  have hA : DataW.TrodAll enc Try.prog W 0 (fun _ => true) true Try.f3.params.toList args.toList ds p := hA0
  rw [Try.params3] at hA hval
  obtain ⟨v0, v1, v2, d0, d1, d2, p0, p1, p2, rfl, rfl, rfl, h0, h1, h2⟩ := trodAll_three hA
  obtain ⟨rfl, rfl⟩ := trodVars_none hV
  have hlt : ∀ x ∈ p0 ++ (p1 ++ p2), x.block < W.heap.size := fun x hx => hW'.lt x (by simpa using hx)
  obtain ⟨a, n, c, xs, rfl, ha, hx⟩ := open_nat (hval 0 23 v0 rfl rfl) h0
  obtain ⟨b, m, d, ys, rfl, hb, hy⟩ := open_nat (hval 1 23 v1 rfl rfl) h1
  obtain ⟨z, rfl, rfl, rfl, wz⟩ := open_int Try.underlying24 (hval 2 24 v2 rfl rfl) h2
  have hz := bounds_u64 wz
  obtain ⟨x, rfl⟩ := Int.eq_ofNat_of_zero_le hz.1
  refine (naturalForms_walk a b n c m d x xs ys W ha hb hx hy (by show x < 18446744073709551616; omega)).mono fun e W' ⟨he, hg⟩ => ?_
  subst he
  have hB := grown_below hg
  exact ⟨_, rfl, _, _, _, [], _, [], hW', trodAll_mk1 (shut_bool Try.underlying4 true),
    trodAll_mk3 (Below.trod laidOut1 readNat rowNat h0 hB fun x hx => hlt x (by simp [hx])) (Below.trod laidOut1 readNat rowNat h1 hB fun x hx => hlt x (by simp [hx])) (shut_int Try.underlying24 wz), rfl, hB.frame _, fun h => by cases h⟩

theorem naturalForms_holds : Rows.NaturalFormsSaid :=
  OpenClaim.holds_of_wide 3 Try.f3 rfl rfl rfl rfl rfl rfl rfl ⟨rfl, rfl, rfl, rfl, rfl⟩ rfl rfl rfl rfl rfl (by kernel_rfl) Try.func3 (by kernel_rfl)
    (of_decide_eq_true (by kernel_rfl)) (by unfold Func.isWrapper; first | (rw [if_pos (by decide +kernel)]; kernel_rfl) | (rw [if_neg (by decide +kernel)]; exact ⟨rfl, rfl⟩))
    (fun os started H enc _ => naturalForms_lifted os started H enc)
end Go.Proofs.Ytjollejmgpfhmaa
