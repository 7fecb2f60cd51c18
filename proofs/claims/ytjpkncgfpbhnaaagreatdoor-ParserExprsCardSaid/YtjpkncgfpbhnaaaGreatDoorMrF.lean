/-
  Txt Shelf Fmt Group Nread Rread Rtext Iread ShelfC Qread Qrread TiedK TiedR, in one text.
-/
import Derived.Lib.ItoaNum
import Derived.Lib.AtoiAll
import Derived.Lib.Strings
import Derived.Test.YtjpkncgfpbhnaaaGreatDoorMrL
import Derived.Test.YtjpkncgfpbhnaaaGreatDoorProg
import Derived.Test.YtjpkncgfpbhnaaaGreatDoorMrN
import Derived.Shelf.Strconv.Itoa2
import Derived.Shelf.Strconv.Itoa1
import Derived.Shelf.Pu.ParseUint10b64
import Derived.Shelf.Small.Wraps
import Derived.Lib.ItoaMem
import Derived.WalkKit
import Derived.BigCall
import Derived.BigGuard
import Derived.Deep.RegionHeld3
import Derived.Deep.DeepCutAuto
import Derived.Deep.LoopGhost
import Derived.Laws.IdiomStrings
import Derived.Test.YtjpkncgfpbhnaaaGreatDoorMrI
import Derived.Shelf.Strings.Search2
import Derived.Orders
import Derived.Test.YtjpkncgfpbhnaaaGreatDoorMrR
import Derived.Test.YtjpkncgfpbhnaaaGreatDoorMrS
import Derived.Test.YtjpkncgfpbhnaaaGreatDoorTie
import Derived.Test.YtjpkncgfpbhnaaaGreatDoorCards
import Derived.LaidMore
import Derived.Lib.LaidTab
import Derived.Stop.Joined
import Derived.Stop.LaidErr
import Derived.SevenTiedAt
set_option linter.unusedVariables false
set_option linter.unusedSimpArgs false
set_option maxRecDepth 100000
namespace Nm
open Go.Lib (decDigits parseUint10)
def dgc (d : Nat) : UInt8 := UInt8.ofNat (48 + d)
theorem dgc_toNat {d : Nat} (h : d < 10) : (dgc d).toNat = 48 + d := by
  unfold dgc
  rw [UInt8.toNat_ofNat']
  omega
def dd (n : Nat) : List UInt8 := if n = 0 then [] else decDigits n
def DgS (l : List UInt8) : Prop := ∀ c ∈ l, 48 ≤ c.toNat ∧ c.toNat ≤ 57
theorem DgS.nil : DgS [] := fun _ h => by simp at h
theorem DgS.append {l m : List UInt8} (h : DgS l) (k : DgS m) : DgS (l ++ m) := fun c hc => (List.mem_append.1 hc).elim (h c) (k c)
theorem DgS.one {d : Nat} (h : d < 10) : DgS [dgc d] := fun c hc => by
  rw [List.mem_singleton.1 hc, dgc_toNat h]; omega
theorem DgS.take {l : List UInt8} (h : DgS l) (n : Nat) : DgS (l.take n) := fun c hc => h c (List.mem_of_mem_take hc)
theorem DgS.drop {l : List UInt8} (h : DgS l) (n : Nat) : DgS (l.drop n) := fun c hc => h c (List.mem_of_mem_drop hc)
def dv (c : UInt8) : Nat := c.toNat - 48
theorem dv_eq (c : UInt8) : dv c = c.toNat - 48 := rfl
def numS (a d : Nat) : Nat := a * 10 + d
theorem numS_eq (a d : Nat) : numS a d = a * 10 + d := rfl
def numF : Nat → List UInt8 → Nat
  | a, [] => a
  | a, c :: l => numF (numS a (dv c)) l
theorem numF_nil (a : Nat) : numF a [] = a := rfl
theorem numF_cons (a : Nat) (c : UInt8) (l : List UInt8) : numF a (c :: l) = numF (a * 10 + (c.toNat - 48)) l := by rw [← dv_eq, ← numS_eq]; rfl
theorem numF_append : ∀ (l : List UInt8) (a : Nat) (m : List UInt8), numF a (l ++ m) = numF (numF a l) m := by
  intro l
  induction l with
  | nil => intro a m; rw [numF_nil]; rfl
  | cons c l ih => intro a m; rw [List.cons_append, numF_cons, numF_cons, ih]
theorem numF_eq : ∀ (l : List UInt8) (a : Nat), numF a l = a * 10 ^ l.length + numF 0 l := by
  intro l
  induction l with
  | nil => intro a; rw [numF_nil, numF_nil]; simp
  | cons c l ih =>
    intro a
    rw [numF_cons, numF_cons]
    generalize c.toNat - 48 = d
    rw [ih (a * 10 + d), ih (0 * 10 + d), List.length_cons, Nat.pow_succ, Nat.add_mul, Nat.zero_mul, Nat.zero_add, Nat.mul_assoc, Nat.mul_comm 10]
    omega
theorem numF_ge : ∀ (l : List UInt8) (a : Nat), a ≤ numF a l := by
  intro l
  induction l with
  | nil => intro a; exact Nat.le_refl _
  | cons c l ih => intro a; rw [numF_cons]; have := ih (a * 10 + (c.toNat - 48)); omega
theorem numF_lt : ∀ (l : List UInt8), DgS l → numF 0 l < 10 ^ l.length := by
  intro l
  induction l with
  | nil => intro _; rw [numF_nil]; simp
  | cons c l ih =>
    intro h
    have h1 := h c (by simp)
    have h2 := ih (fun x hx => h x (by simp [hx]))
    rw [numF_cons, numF_eq, List.length_cons, Nat.pow_succ]
    have h3 : (0 * 10 + (c.toNat - 48)) * 10 ^ l.length ≤ 9 * 10 ^ l.length := Nat.mul_le_mul_right _ (by omega)
    omega
theorem parse_ok : ∀ (l : List UInt8) (a : Nat), DgS l → numF a l < 18446744073709551616 → parseUint10 a l = .ok (numF a l) := by
  intro l
  induction l with
  | nil => intro a _ _; rfl
  | cons c l ih =>
    intro a h hb
    have h1 := h c (by simp)
    rw [numF_cons] at hb ⊢
    have h2 := numF_ge l (a * 10 + (c.toNat - 48))
    rw [parseUint10, if_pos h1, if_neg (by omega), if_neg (by omega)]
    exact ih _ (fun x hx => h x (by simp [hx])) hb
def Numl (l : List UInt8) : Prop := DgS l ∧ (l.length = 1 ∨ l.head? ≠ some 48)
instance (l : List UInt8) : Decidable (DgS l) := by unfold DgS; infer_instance
instance (l : List UInt8) : Decidable (Numl l) := by unfold Numl; infer_instance
def rdE (l : List UInt8) : Nat := if l = [] then 10 else if 1000 < l.length then 4 else if Numl l then 0 else 9
def rdV (l : List UInt8) : Nat := if rdE l = 0 then numF 0 l else 0
theorem rdE_large {l : List UInt8} (h : 1000 < l.length) : rdE l = 4 := by
  unfold rdE
  rw [if_neg (by intro e; subst e; simp at h), if_pos h]
theorem rdE_form {l : List UInt8} (h0 : l ≠ []) (h : l.length ≤ 1000) (hn : ¬ Numl l) : rdE l = 9 := by
  unfold rdE
  rw [if_neg h0, if_neg (by omega), if_neg hn]
theorem rdE_ok {l : List UInt8} (h0 : l ≠ []) (h : l.length ≤ 1000) (hn : Numl l) : rdE l = 0 := by
  unfold rdE
  rw [if_neg h0, if_neg (by omega), if_pos hn]
theorem rdV_ok {l : List UInt8} (h : rdE l = 0) : rdV l = numF 0 l := if_pos h
theorem rdV_bad {l : List UInt8} (h : rdE l ≠ 0) : rdV l = 0 := if_neg h
theorem num_limbs {l : List UInt8} (h : DgS l) (hl : l.length ≤ 1000) : numF 0 l < 65536 ^ 250 := by
  refine Nat.lt_of_lt_of_le (numF_lt l h) (Nat.le_trans (Nat.pow_le_pow_right (n := 10) (by omega) hl) ?_)
  obtain ⟨k, hk⟩ : ∃ k, k = 250 := ⟨_, rfl⟩
  rw [← hk, show 1000 = 4 * k by omega, Nat.pow_mul]
  exact Nat.pow_le_pow_left (by decide) _
abbrev str (l : List UInt8) : Go.Value := .string ⟨l.toArray⟩
end Nm
namespace Go.Proofs.YtjpkncgfpbhnaaaGreatDoor
open Go.Shelf Go.RowKit Go.Sort _root_.Nm
def shRen : Ren := ⟨fun n => match n with
    | 103 => 218
    | 129 => 252
    | 206 => 154
    | 210 => 251
    | 283 => 270
    | 284 => 271
    | 285 => 272
    | 317 => 292
    | 318 => 293
    | n => n,
  fun n => match n with
    | 0 => 0
    | 3 => 3
    | 4 => 4
    | 5 => 5
    | 9 => 9
    | 24 => 189
    | 37 => 97
    | 46 => 192
    | 51 => 294
    | 53 => 213
    | 212 => 298
    | n => n,
  fun n => match n with
    | 17 => 6
    | n => n⟩
def puRen : Ren := ⟨fun n => match n with
    | 16 => 253
    | 19 => 281
    | 20 => 282
    | n => n,
  fun n => match n with
    | 0 => 0
    | 3 => 3
    | 4 => 4
    | 5 => 5
    | 9 => 9
    | 21 => 21
    | 22 => 213
    | 24 => 176
    | 34 => 286
    | 36 => 192
    | 37 => 97
    | 67 => 141
    | n => n,
  fun n => n⟩
theorem sh103 : Lays.n103 Tryz.prog shRen where
  mixed := by kernel_rfl
  f103 := by kernel_rfl
  f206 := by kernel_rfl
  f210 := by kernel_rfl
  t3 := by kernel_rfl
  a3 := fun _ => by kernel_rfl
  z3 := fun _ => by kernel_rfl
  v3 := fun _ => by kernel_rfl
  t4 := by kernel_rfl
  a4 := fun _ => by kernel_rfl
  z4 := fun _ => by kernel_rfl
  v4 := fun _ => by kernel_rfl
  t9 := by kernel_rfl
  a9 := fun _ => by kernel_rfl
  z9 := fun _ => by kernel_rfl
  v9 := fun _ => by kernel_rfl
  t24 := by kernel_rfl
  a24 := fun _ => by kernel_rfl
  z24 := fun _ => by kernel_rfl
  v24 := fun _ => by kernel_rfl
theorem pu16 : LaysPu.n16 Tryz.prog puRen where
  mixed := by kernel_rfl
  f16 := by kernel_rfl
  f19 := by kernel_rfl
  f20 := by kernel_rfl
  t0 := by kernel_rfl
  a0 := fun _ => by kernel_rfl
  z0 := fun _ => by kernel_rfl
  v0 := fun _ => by kernel_rfl
  i0 := by kernel_rfl
  t3 := by kernel_rfl
  a3 := fun _ => by kernel_rfl
  z3 := fun _ => by kernel_rfl
  v3 := fun _ => by kernel_rfl
  i3 := by kernel_rfl
  t4 := by kernel_rfl
  a4 := fun _ => by kernel_rfl
  z4 := fun _ => by kernel_rfl
  v4 := fun _ => by kernel_rfl
  i4 := by kernel_rfl
  t5 := by kernel_rfl
  a5 := fun _ => by kernel_rfl
  z5 := fun _ => by kernel_rfl
  v5 := fun _ => by kernel_rfl
  i5 := by kernel_rfl
  t9 := by kernel_rfl
  a9 := fun _ => by kernel_rfl
  z9 := fun _ => by kernel_rfl
  v9 := fun _ => by kernel_rfl
  i9 := by kernel_rfl
  t21 := by kernel_rfl
  a21 := fun _ => by kernel_rfl
  z21 := fun _ => by kernel_rfl
  v21 := fun _ => by kernel_rfl
  i21 := by kernel_rfl
  t22 := by kernel_rfl
  a22 := fun _ => by kernel_rfl
  z22 := fun _ => by kernel_rfl
  v22 := fun _ => by kernel_rfl
  i22 := by kernel_rfl
  t24 := by kernel_rfl
  a24 := fun _ => by kernel_rfl
  z24 := fun _ => by kernel_rfl
  v24 := fun _ => by kernel_rfl
  i24 := by kernel_rfl
  t34 := by kernel_rfl
  a34 := fun _ => by kernel_rfl
  z34 := fun _ => by kernel_rfl
  v34 := fun _ => by kernel_rfl
  i34 := by kernel_rfl
  c34 := by kernel_rfl
  t36 := by kernel_rfl
  a36 := fun _ => by kernel_rfl
  z36 := fun _ => by kernel_rfl
  v36 := fun _ => by kernel_rfl
  i36 := by kernel_rfl
  t37 := by kernel_rfl
  a37 := fun _ => by kernel_rfl
  z37 := fun _ => by kernel_rfl
  v37 := fun _ => by kernel_rfl
  i37 := by kernel_rfl
  t67 := by kernel_rfl
  a67 := fun _ => by kernel_rfl
  z67 := fun _ => by kernel_rfl
  v67 := fun _ => by kernel_rfl
  i67 := by kernel_rfl
theorem parseUint_sh (t : ByteArray) (hne : t.size ≠ 0) (hmax : t.size ≤ 9223372036854775806) (w : World) :
    Calls Tryz.prog 253 #[.string t, .int .i64 10, .int .i64 64] w fun e w' => e = .returned (Lib.uintTuple 286 (Lib.parseUint10 0 t.data.toList)) ∧ w' = Lib.bytesWorld w 5 t := AnyPu.internal_strconv_ParseUint_10_b64 pu16 t hne hmax w
theorem cutPrefix_sh (s p : ByteArray) (w : World) :
    Calls Tryz.prog 218 #[.string s, .string p] w fun e w' => e = .returned (.tuple #[.string ⟨(Lib.trimPrefix s.data.toList p.data.toList).toArray⟩, .bool (Lib.hasPrefix s.data.toList p.data.toList)]) ∧ w' = w := Any.strings_CutPrefix sh103 s p w
end Go.Proofs.YtjpkncgfpbhnaaaGreatDoor
namespace Go.Proofs.YtjpkncgfpbhnaaaGreatDoor
open Go.RowKit Go.Sort _root_.Nm
theorem bytesWorld_grown (w : World) (e : TypeId) (s : ByteArray) : w.grownBy (Lib.bytesWorld w e s) none := by
  exact ⟨rfl, rfl, rfl, by rw [Lib.bytesWorld_size]; omega, fun i hi _ => Lib.bytesWorld_at_old w e s i hi⟩
set_option maxHeartbeats 1000000 in
theorem parseU_any (s : ByteArray) (hne : s.size ≠ 0) (hl : s.size ≤ 19) (hd : DgS s.data.toList) (w : World) :
    Calls Tryz.prog 222 #[.string s, .int .i64 10, .int .i64 64] w fun e w' => e = .returned (.tuple #[.int .u64 (numF 0 s.data.toList : Nat), .nilIface]) ∧ w.grownBy w' none := by
  have hlt := numF_lt _ hd
  have hls : s.data.toList.length ≤ 19 := by rw [← Lib.size_eq]; exact hl
  have h19 : 10 ^ s.data.toList.length ≤ 10 ^ 19 := Nat.pow_le_pow_right (by omega) hls
  have hp := parse_ok s.data.toList 0 hd (Nat.lt_of_lt_of_le hlt (Nat.le_trans h19 (by decide)))
  have H := parseUint_sh s hne (by omega) w
  rw [hp] at H
  obtain ⟨n, hn⟩ : ∃ n, n = numF 0 s.data.toList := ⟨_, rfl⟩
  rw [← hn] at H ⊢
  rw [show Lib.uintTuple 286 (.ok n) = .tuple #[.int .u64 n, .nilIface] from rfl] at H
  have HH := Lib.hid H
  have hgw := bytesWorld_grown w 5 s
  clear hlt hls h19 hp H hn
  go_enter Tryz.func222, Tryz.ntmps222
  go_wp2_with (go_at_call 253; refine HH.out.mono ?_; rintro e w' ⟨rfl, rfl⟩)
  go_ret2
  exact ⟨rfl, hgw⟩
end Go.Proofs.YtjpkncgfpbhnaaaGreatDoor
namespace Go.Proofs.YtjpkncgfpbhnaaaGreatDoor
open Go.RowKit _root_.Nm
theorem info64 : (Tryz.prog.info? 213).map (fun i => (i.zero, i.size, i.bytes)) = some (some (.int .u64 0), 1, 8) := by kernel_rfl
theorem own_setv {w : World} {base g : Nat} {e : TypeId} {k : IntKind} {n c : Nat} {xs : List Nat} (h : IOwn w base e k (some ⟨g, 0, none⟩) n c xs) (j : Nat) (v : Int) (y : Nat) (hv : v = (y : Int)) :
    IOwn (w.setCell ⟨g, j, none⟩ (.int k v)) base e k (some ⟨g, 0, none⟩) n c (xs.set j y) := by
  subst hv
  exact ⟨by simpa using h.1, by have := (World.ownsRow.stored h.2 j (.int k (y : Int))).1; rwa [List.map_set]⟩
set_option maxHeartbeats 2000000 in
set_option maxRecDepth 100000 in
theorem appGroup_any (w0 : World) (base : Nat) (p : Option Addr) (n c gr : Nat) (xs : List Nat) (w : World) (h : IOwn w base 213 .u64 p n c xs) (hd : Dg W64 xs) (hn : n ≤ 100000) (hgr : gr < W64)
    (hb0 : w0.heap.size ≤ base) (hb : base ≤ w.heap.size) (hw0 : w0.grownBy w none) :
    Calls Tryz.prog 223 #[.slice p n c, .int .u64 gr] w fun e w' => ∃ p' c' ys, e = .returned (.slice p' (n + 1) c') ∧ IOwn w' base 213 .u64 p' (n + 1) c' ys ∧ w0.grownBy w' none ∧
      Hid (Dg W64 ys ∧ V W64 ys = V W64 xs * 10000000000000000000 + gr) := by
  obtain ⟨B, hB⟩ : ∃ B, B = 10000000000000000000 := ⟨_, rfl⟩
  have hBw : B < W64 := by rw [hB]; decide
  have hcap := h.rd.cap
  have hmax := h.rd.max
  have HL := hid h.1
  have HB := hid hB
  clear hB
  go_enter Tryz.func223, Tryz.ntmps223
  go_wp2_with fail
  go_loopw [5, 14] (fun s5 i wr => ∃ (k cy : Nat) (cu : List Nat), k ≤ n ∧ i = .int .i64 k ∧ s5 = .int .u64 cy ∧ cy < W64 ∧ IOwn wr base 213 .u64 p n c cu ∧ w0.grownBy wr none ∧ base ≤ wr.heap.size ∧
      Hid (Dg W64 cu ∧ V W64 (cu.take k) + W64 ^ k * cy = V W64 (xs.take k) * B + gr ∧ ∀ j, k ≤ j → cu[j]? = xs[j]?)) (fun _ i _ => n - (intOf i).toNat)
  case atStart => exact ⟨0, gr, xs, Nat.zero_le _, rfl, rfl, hgr, h, hw0, hb, hid ⟨hd, by simp, fun _ _ => rfl⟩⟩
  case round =>
    clear hw0 hb h
    obtain ⟨k, cy, cu, hk, rfl, rfl, hcy, hO, hgw, hbw, HC⟩ := hrel
    by_cases hlt : k < n
    · obtain ⟨g, rfl⟩ : ∃ g, p = some ⟨g, 0, none⟩ := by
        obtain ⟨_, h1, ⟨h2, h3⟩ | ⟨g, cap, cur, hv, _⟩⟩ := hO
        · omega
        · simp only [Value.slice.injEq, true_and] at hv
          exact ⟨g, hv.1⟩
      have hcl : k < cu.length := by rw [hO.1]; exact hlt
      have hcc : wr.cell? ⟨g, k, none⟩ = some (.int .u64 (cu[k] : Nat)) := by
        rw [World.ownsRow.cellAt hO.2 k (by omega)]; simp [List.getElem?_eq_getElem hcl]
      have hfr := World.ownsRow.frozenAt hO.2 k
      obtain ⟨x, hx⟩ : ∃ x, x = cu[k] := ⟨_, rfl⟩
      rw [← hx] at hcc
      have hxb : x < W64 := by rw [hx]; exact HC.out.1.get _ hcl
      have HX := hid hx
      clear hx
      have hM := fun W => mul64_any x 10000000000000000000 hxb (by decide) W
      have HM' := hid hM
      clear hM
      go_wp2_with (first
        | (go_at_call 255; refine (HM'.out _).mono ?_; rintro e w' ⟨hi, lo, rfl, hhi, hlo, HM, rfl⟩)
        | (with_reducible refine wl_add64 _ rfl (.tmp 25) (.tmp 26) _ _ rfl _ _ 0 rfl rfl rfl hlo hcy (by omega) ?_; intro s2 c2 hs2 hc2 H2))
      have hm := mul_step x B lo hi 0 lo 0 cy s2 c2 hxb hBw (by decide) hcy (by rw [HB.out]; exact HM.out) (by omega) H2.out
      have hwr : IntKind.u64.wrap ((hi : Int) + c2) = ((hi + c2 : Nat) : Int) := by
        have h2 : hi + 0 + c2 < 18446744073709551616 := hm.2
        rw [IntKind.wrap_u64]; omega
      refine ⟨⟨k + 1, hi + c2, _, by omega, rfl, by rw [hwr], by have := hm.2; omega, own_setv hO k _ s2 rfl, grown_new hgw (grown_setCell _ _ _) (fun g' e => by simp at e; have := (hO.lt _ rfl).1; simp at this; omega), by simpa using hbw,
        hid ⟨HC.out.1.set _ _ hs2, ?_, fun j hj => ?_⟩⟩, by simp [intOf]; omega⟩
      · have hxl : k < xs.length := by rw [HL.out]; exact hlt
        have hxk : xs[k] = x := by
          have := HC.out.2.2 k (Nat.le_refl _)
          rw [List.getElem?_eq_getElem hcl, List.getElem?_eq_getElem hxl] at this
          simp only [Option.some.injEq] at this
          rw [HX.out, this]
        rw [V_take_succ (B := W64) xs k hxl, hxk, V_take_succ (B := W64) (cu.set k s2) k (by simpa using hcl), List.getElem_set_self, List.take_set_of_le (Nat.le_refl _), Nat.add_mul, Nat.mul_assoc, Nat.pow_succ, Nat.mul_assoc]
        have h0 := HC.out.2.1
        have h3 := hm.1
        have h4 := congrArg (W64 ^ k * ·) h3
        simp only [Nat.mul_add, Nat.mul_zero, Nat.zero_add, Nat.add_zero] at h4 ⊢
        omega
      · rw [List.getElem?_set_ne (by omega)]
        exact HC.out.2.2 j (by omega)
    · obtain rfl : k = n := by omega
      have hVf := HC.out.2.1
      have hcl := hO.1
      rw [List.take_of_length_le (by omega), List.take_of_length_le (by rw [HL.out]; exact Nat.le_refl _), HB.out] at hVf
      have HF := hid (And.intro HC.out.1 hVf)
      clear hVf HC
      go_wp2_with (with_reducible refine wl_append _ rfl (.tmp 38) (.tmp 40) 229 rfl 213 .u64 8 Tryz.underlying229 info64 base _ _ _ cu rfl (hO.alloc _) _ 1 1 [cy] rfl (one_rd _ _ _ _ _ rfl) (by omega) (by omega) w0 (grown_trans hgw (World.grownBy_alloc _ _ _)) hb0 (by simp; omega) ?_; intro p' c2 w2 ho2 hg2)
      go_ret
      refine ⟨p', c2, _, rfl, ho2, hg2, hid ⟨HF.out.1.append (dg1 cy hcy), ?_⟩⟩
      rw [V_append, hcl, V_cons, V_nil, Nat.mul_zero, Nat.add_zero]
      exact HF.out.2
theorem idx_str (s : ByteArray) (l : List UInt8) (hl : s.data.toList = l) (k : Nat) (hk : k < l.length) (w : World) :
    (Instr.index 9 (.string s) (.int .i64 (k : Int))).run Tryz.prog w = .ok (.int .u8 (l[k].toNat : Int)) w := by
  subst hl
  have hs : k < s.size := by rw [Lib.size_eq]; exact hk
  rw [run_index_string w 9 s .i64 (k : Int) (by kernel_rfl), dif_pos ⟨by omega, by omega⟩]
  simp only [Int.toNat_natCast]
  rfl
set_option maxHeartbeats 1000000 in
theorem isNum_any (s : ByteArray) (l : List UInt8) (hl : s.data.toList = l) (hne : l ≠ []) (hn : l.length ≤ 1000000) (w : World) :
    Calls Tryz.prog 221 #[.string s] w fun e w' => e = .returned (.bool (decide (Numl l))) ∧ w = w' := by
  have hsz : s.size = l.length := by rw [Lib.size_eq, hl]
  have hpos : 0 < l.length := List.length_pos_iff.2 hne
  have hix := idx_str s l hl
  have H0 : Hid (∃ h : 0 < l.length, ∀ w, (Instr.index 9 (.string s) (.int .i64 0)).run Tryz.prog w = .ok (.int .u8 (l[0].toNat : Int)) w) := hid ⟨hpos, hix 0 hpos⟩
  have HIX := hid hix
  clear hl hix hpos
  go_enter Tryz.func221, Tryz.ntmps221
  go_wp2_with fail
  go_loop [6] (fun i => ∃ k : Nat, k ≤ l.length ∧ i = .int .i64 k ∧ Hid (∀ j (h : j < l.length), j < k → 48 ≤ l[j].toNat ∧ l[j].toNat ≤ 57)) (fun i => l.length - (intOf i).toNat)
  case atStart => exact ⟨0, Nat.zero_le _, rfl, hid fun j h hj => by omega⟩
  case round =>
    obtain ⟨k, hk, rfl, HC⟩ := hrel
    by_cases hlt : k < l.length
    · have hix := HIX.out k hlt
      obtain ⟨c, hc⟩ : ∃ c, c = l[k].toNat := ⟨_, rfl⟩
      rw [← hc] at hix
      have HCC := hid hc
      clear hc
      by_cases hd : 48 ≤ c ∧ c ≤ 57
      · obtain ⟨hd1, hd2⟩ := hd
        go_wp2_with fail
        exact ⟨⟨k + 1, by omega, rfl, hid fun j h hj => by
          by_cases hjk : j = k
          · subst hjk; rw [← HCC.out]; omega
          · exact HC.out j h (by omega)⟩, by simp [intOf]; omega⟩
      · have hbad : decide (Numl l) = false := decide_eq_false fun h => by
          have := h.1 l[k] (List.getElem_mem hlt)
          rw [← HCC.out] at this
          exact hd this
        have HB := hid hbad
        have hs : (c : Int) < 48 ∨ (¬ ((c : Int) < 48) ∧ (57 : Int) < (c : Int)) := by omega
        clear hbad hd
        rcases hs with h1 | ⟨h1, h2⟩
        all_goals
          go_wp2_with fail
          go_ret
          exact ⟨by rw [HB.out]; rfl, rfl⟩
    · obtain rfl : k = l.length := by omega
      have hD : DgS l := fun c hc => by
        obtain ⟨j, hj, rfl⟩ := List.getElem_of_mem hc
        exact HC.out j hj hj
      obtain ⟨hp0, hix⟩ := H0.out
      obtain ⟨c, hc⟩ : ∃ c, c = l[0] := ⟨_, rfl⟩
      rw [← hc] at hix
      have hh : l.head? = some c := by rw [hc, List.head?_eq_getElem?, List.getElem?_eq_getElem hp0]
      have hix' : ∀ w, (Instr.index 9 (.string s) (.int .i64 0)).run Tryz.prog w = .ok (.int .u8 (c.toNat : Int)) w := hix
      have hnum : decide (Numl l) = (decide (l.length = 1) || decide (c.toNat ≠ 48)) := by
        rw [← Bool.decide_or]
        refine decide_eq_decide.2 ⟨fun h => ?_, fun h => ⟨hD, ?_⟩⟩
        · rcases h.2 with h1 | h1
          · exact .inl h1
          · refine .inr fun e => h1 ?_
            rw [hh]; congr 1; exact UInt8.toNat_inj.1 e
        · rcases h with h1 | h1
          · exact .inl h1
          · refine .inr fun e => h1 ?_
            rw [hh] at e; simp only [Option.some.injEq] at e; rw [e]; rfl
      by_cases h1 : l.length = 1
      · have h1' : ((l.length : Int) == 1) = true := by simp; omega
        have HN : Hid (decide (Numl l) = true) := hid (by rw [hnum, decide_eq_true h1]; rfl)
        clear hnum hh hc hD hix HC HIX H0
        go_wp2_with fail
        go_ret
        exact ⟨by rw [HN.out]; rfl, rfl⟩
      · have h1' : ((l.length : Int) == 1) = false := by simp; omega
        by_cases h48 : c.toNat = 48
        · have HN : Hid (decide (Numl l) = false) := hid (by rw [hnum, decide_eq_false h1, h48]; rfl)
          rw [h48] at hix'
          clear hnum hh hc hD hix HC HIX H0
          go_wp2_with fail
          go_ret
          exact ⟨by rw [HN.out]; rfl, rfl⟩
        · have HN : Hid (decide (Numl l) = true) := hid (by rw [hnum, decide_eq_false h1, decide_eq_true h48]; rfl)
          have h48' : ((c.toNat : Int) != 48) = true := by simp; omega
          clear hnum hh hc hD hix HC HIX H0
          go_wp2_with fail
          go_ret
          exact ⟨by rw [HN.out]; rfl, rfl⟩
def RdPost (w : World) (l : List UInt8) (e : Ending) (w' : World) : Prop :=
  ∃ p n c, e = .returned (.tuple #[.slice p n c, .int .i64 (rdE l : Nat)]) ∧ IsC w' p n c (rdV l) ∧ n ≤ 250 ∧ w.grownBy w' none
theorem rdPost_bad {w w' : World} {l : List UInt8} {k : Nat} (h : rdE l = k) (hk : k ≠ 0) (hg : w.grownBy w' none) : RdPost w l (.returned (.tuple #[.slice none 0 0, .int .i64 (k : Int)])) w' := by
  subst h
  exact ⟨none, 0, 0, rfl, by rw [rdV_bad hk]; exact IsC.nil _, by omega, hg⟩
theorem str_eq {s : ByteArray} {l : List UInt8} (h : s.data.toList = l) : s = ⟨l.toArray⟩ := by subst h; exact (Lib.mk_data s).symm
theorem ne_str {s : ByteArray} (h : s.data.toList ≠ []) : s.toList.isEmpty = false := by
  rw [Lib.toList_data]
  cases e : s.data.toList with
  | nil => exact absurd e h
  | cons c r => rfl
set_option maxHeartbeats 2000000 in
set_option maxRecDepth 100000 in
theorem natRead_any (s : ByteArray) (l : List UInt8) (hl : s.data.toList = l) (hmax : s.size ≤ 9223372036854775807) (w : World) :
    Calls Tryz.prog 183 #[.string s] w (RdPost w l) := by
  have hsz : s.size = l.length := by rw [Lib.size_eq, hl]
  by_cases h0 : l = []
  · have hP : Hid (∀ w', w.grownBy w' none → RdPost w l (.returned (.tuple #[.slice none 0 0, .int .i64 10])) w') := hid fun w' hg => rdPost_bad (k := 10) (by rw [h0]; rfl) (by omega) hg
    have hs := str_eq (hl.trans h0)
    subst hs
    clear hl hmax hsz
    go_enter Tryz.func183, Tryz.ntmps183
    go_wp2_with fail
    go_ret2
    exact hP.out _ (grown_refl _ _)
  have hemp := ne_str (by rw [hl]; exact h0 : s.data.toList ≠ [])
  by_cases h1 : 1000 < l.length
  · have hP : Hid (∀ w', w.grownBy w' none → RdPost w l (.returned (.tuple #[.slice none 0 0, .int .i64 4])) w') := hid fun w' hg => rdPost_bad (k := 4) (rdE_large h1) (by omega) hg
    have h1' : (1000 : Int) < (s.size : Int) := by omega
    clear hl hsz
    go_enter Tryz.func183, Tryz.ntmps183
    go_wp2_with fail
    go_ret2
    exact hP.out _ (grown_refl _ _)
  have h1' : ¬ ((1000 : Int) < (s.size : Int)) := by omega
  have HN := isNum_any s l hl h0 (by omega) w
  by_cases h2 : Numl l
  rotate_left
  · have hP : Hid (∀ w', w.grownBy w' none → RdPost w l (.returned (.tuple #[.slice none 0 0, .int .i64 9])) w') := hid fun w' hg => rdPost_bad (k := 9) (rdE_form h0 (by omega) h2) (by omega) hg
    rw [decide_eq_false h2] at HN
    have HN' := hid HN
    clear hl hsz HN
    go_enter Tryz.func183, Tryz.ntmps183
    go_wp2_with (go_at_call 221; refine (HN'.out).mono ?_; rintro e w' ⟨rfl, rfl⟩)
    go_ret2
    exact hP.out _ (grown_refl _ _)
  rw [decide_eq_true h2] at HN
  have HN' := hid HN
  have hE := rdE_ok h0 (by omega) h2
  have HE := hid hE
  have HD := hid h2.1
  have HL := hid (And.intro hl (show l.length ≤ 1000 by omega))
  clear hl hsz HN hE h2
  go_enter Tryz.func183, Tryz.ntmps183
  go_wp2_with (go_at_call 221; refine (HN'.out).mono ?_; rintro e w' ⟨rfl, rfl⟩)
  clear HN' hemp h1' h1 h0 hmax
  go_loopw [0, 4] (fun x y wr => ∃ (t : ByteArray) (k n c : Nat) (p : Option Addr) (xs : List Nat), x = .string t ∧ y = .slice p n c ∧ k ≤ l.length ∧ n ≤ k ∧ IOwn wr w.heap.size 213 .u64 p n c xs ∧ w.grownBy wr none ∧
      Hid (t.data.toList = l.drop k ∧ Dg W64 xs ∧ V W64 xs = numF 0 (l.take k) ∧ (k ≠ 0 → (l.length - k) % 19 = 0))) (fun x _ _ => match x with | .string t => t.size | _ => 0)
  case atStart => exact ⟨s, 0, 0, 0, none, [], rfl, rfl, Nat.zero_le _, Nat.le_refl _, IOwn.nil _ _ _ _, grown_refl _ _, hid ⟨HL.out.1, Dg.nil, rfl, fun h => absurd rfl h⟩⟩
  case round =>
    obtain ⟨t, k, n, c, p, xs, rfl, rfl, hk, hn, hO, hgw, HI⟩ := hrel
    have hts : t.size = l.length - k := by rw [Lib.size_eq, HI.out.1, List.length_drop]
    by_cases hlt : k < l.length
    · obtain ⟨r, hr⟩ : ∃ r, t.size = r + 1 := ⟨l.length - k - 1, by omega⟩
      obtain ⟨q, hq⟩ : ∃ q, q = r % 19 := ⟨_, rfl⟩
      have hq1 : (r : Int) % 19 = (q : Int) := by omega
      have hq2 : (r : Int).tmod 19 = (q : Int) := by rw [Int.tmod_eq_emod_of_nonneg (by omega)]; omega
      have hr1000 : r ≤ 1000 := by have := HL.out.2; omega
      have hqr : q ≤ r := by rw [hq]; exact Nat.mod_le _ _
      have hq18 : q ≤ 18 := by omega
      have hx1 : t.extract 0 (q + 1) = ⟨(t.data.toList.take (q + 1)).toArray⟩ := by rw [Lib.extract_eq]; simp
      have hx2 : t.extract (q + 1) (r + 1) = ⟨(t.data.toList.drop (q + 1)).toArray⟩ := by rw [Lib.extract_eq, List.take_of_length_le (by rw [List.length_drop, ← Lib.size_eq]; omega)]
      obtain ⟨l1, hl1⟩ : ∃ l1, l1 = t.data.toList.take (q + 1) := ⟨_, rfl⟩
      obtain ⟨l2, hl2⟩ : ∃ l2, l2 = t.data.toList.drop (q + 1) := ⟨_, rfl⟩
      rw [← hl1] at hx1
      rw [← hl2] at hx2
      have hl1n : l1.length = q + 1 := by rw [hl1, List.length_take, ← Lib.size_eq]; omega
      have hd1 : DgS l1 := by rw [hl1, HI.out.1]; exact (HD.out.drop k).take _
      have hl2e : l2 = l.drop (k + (q + 1)) := by rw [hl2, HI.out.1, List.drop_drop]
      have hl2n : l2.length = r - q := by rw [hl2, List.length_drop, ← Lib.size_eq]; omega
      have hpu := fun W => parseU_any ⟨l1.toArray⟩ (by rw [Lib.size_eq]; show l1.length ≠ 0; omega) (by rw [Lib.size_eq]; show l1.length ≤ 19; omega) hd1 W
      have hv1 : numF 0 l1 < 10000000000000000000 := by
        have h3 := numF_lt l1 hd1
        have h4 : 10 ^ l1.length ≤ 10 ^ 19 := Nat.pow_le_pow_right (by omega) (by omega)
        omega
      have hnew : V W64 xs * 10000000000000000000 + numF 0 l1 = numF 0 (l.take (k + (q + 1))) := by
        have e1 : l.take (k + (q + 1)) = l.take k ++ l1 := by rw [hl1, HI.out.1, List.take_add]
        rw [e1, numF_append, numF_eq l1 (numF 0 (l.take k)), ← HI.out.2.2.1, hl1n]
        congr 1
        by_cases hk0 : k = 0
        · have : V W64 xs = 0 := by rw [HI.out.2.2.1, hk0]; rfl
          rw [this, Nat.zero_mul, Nat.zero_mul]
        · have := HI.out.2.2.2 hk0
          have : q = 18 := by omega
          rw [this]
      obtain ⟨v, hv⟩ : ∃ v, v = numF 0 l1 := ⟨_, rfl⟩
      have hpu' : ∀ W, Calls Tryz.prog 222 #[str l1, .int .i64 10, .int .i64 64] W fun e w' => e = .returned (.tuple #[.int .u64 (v : Nat), .nilIface]) ∧ W.grownBy w' none := by rw [hv]; exact hpu
      rw [← hv] at hv1 hnew
      have HPU := hid hpu'
      have hmod : k + (q + 1) ≠ 0 → (l.length - (k + (q + 1))) % 19 = 0 := fun _ => by omega
      have HNEW := hid (And.intro hnew (And.intro hl2e hmod))
      have hkq : k + (q + 1) ≤ l.length := by omega
      have hvw : v < W64 := by unfold W64; omega
      have HDX := hid HI.out.2.1
      have HL1 := HL.out.2
      clear hpu hpu' hv hl1 hl2 hl2e hd1 hnew hmod hq hts HI hl1n hv1 hlt
      have hGR := fun (W : World) (hW : w.grownBy W none) (hO : IOwn W w.heap.size 213 .u64 p n c xs) => appGroup_any w w.heap.size p n c v xs W hO HDX.out (by omega) hvw (Nat.le_refl _) hW.size hW
      have HGR := hid hGR
      clear hGR
      go_wp2_with (first
        | (go_at_call 222; (with_reducible refine (HPU.out _).mono ?_); rintro e w3 ⟨rfl, hg3⟩)
        | (go_at_call 223; (with_reducible refine (HGR.out _ (grown_trans hgw hg3) (hO.kept hg3 (.inl rfl))).mono ?_); rintro e w4 ⟨p', c', ys, rfl, hO4, hg4, HY⟩))
      refine ⟨⟨⟨l2.toArray⟩, k + (q + 1), n + 1, c', p', ys, rfl, rfl, hkq, by omega, hO4, hg4, hid ⟨HNEW.out.2.1, HY.out.1, HY.out.2.trans HNEW.out.1, HNEW.out.2.2⟩⟩, ?_⟩
      show (⟨l2.toArray⟩ : ByteArray).size < t.size
      rw [Lib.size_eq]
      show l2.length < t.size
      omega
    · obtain rfl : k = l.length := by omega
      have hts0 : t.size = 0 := by omega
      have hV := HI.out.2.2.1
      rw [List.take_of_length_le (Nat.le_refl _)] at hV
      have hU := unpack_any p n c xs wr hO.rd HI.out.2.1 (by have := HL.out.2; omega)
      rw [hV] at hU
      have HU := hid hU
      clear hU hV hts HI
      go_wp2_with fail
      refine HU.out.mono ?_
      rintro e w5 ⟨a', c', rfl, h1, h2⟩
      go_wp2_with fail
      go_ret2
      refine ⟨a', _, c', by rw [HE.out]; rfl, ?_, ?_, grown_trans hgw h2⟩
      · rw [rdV_ok HE.out]; exact h1
      · exact dg_length_le (by omega) (num_limbs HD.out HL.out.2)
def Seen (l : List UInt8) (k : Nat) : Prop := (∀ j (h : j < l.length), j < k → 48 ≤ l[j].toNat ∧ l[j].toNat ≤ 57) ∧ (2 ≤ k → l.head? ≠ some 48)
theorem Seen.dgs {l : List UInt8} {k : Nat} (h : Seen l k) : DgS (l.take k) := fun c hc => by
  obtain ⟨j, hj, rfl⟩ := List.getElem_of_mem hc
  rw [List.length_take] at hj
  rw [List.getElem_take]
  exact h.1 j (by omega) (by omega)
theorem refTen (w : World) : Calls Tryz.prog 240 #[.int .u64 10] w fun e w' => ∃ p n c, e = .returned (.slice p n c) ∧ IsC w' p n c 10 ∧ n ≤ 4 ∧ w.grownBy w' none := refOf_c 10 (by decide) w
set_option maxHeartbeats 4000000 in
set_option maxRecDepth 100000 in
theorem refRead_any (s : ByteArray) (l : List UInt8) (hl : s.data.toList = l) (hmax : s.size ≤ 9223372036854775807) (w : World) :
    Calls Tryz.prog 241 #[.string s] w (RdPost w l) := by
  have hsz : s.size = l.length := by rw [Lib.size_eq, hl]
  by_cases h0 : l = []
  · have hP : Hid (∀ w', w.grownBy w' none → RdPost w l (.returned (.tuple #[.slice none 0 0, .int .i64 10])) w') := hid fun w' hg => rdPost_bad (k := 10) (by rw [h0]; rfl) (by omega) hg
    have hs := str_eq (hl.trans h0)
    subst hs
    clear hl hmax hsz
    go_enter Tryz.func241, Tryz.ntmps241
    go_wp2_with fail
    go_ret2
    exact hP.out _ (grown_refl _ _)
  have hemp := ne_str (by rw [hl]; exact h0 : s.data.toList ≠ [])
  by_cases h1 : 1000 < l.length
  · have hP : Hid (∀ w', w.grownBy w' none → RdPost w l (.returned (.tuple #[.slice none 0 0, .int .i64 4])) w') := hid fun w' hg => rdPost_bad (k := 4) (rdE_large h1) (by omega) hg
    have h1' : (1000 : Int) < (s.size : Int) := by omega
    clear hl hsz
    go_enter Tryz.func241, Tryz.ntmps241
    go_wp2_with fail
    go_ret2
    exact hP.out _ (grown_refl _ _)
  have h1' : ¬ ((1000 : Int) < (s.size : Int)) := by omega
  have hP : Hid (¬ Numl l → ∀ w', w.grownBy w' none → RdPost w l (.returned (.tuple #[.slice none 0 0, .int .i64 9])) w') := hid fun h2 w' hg => rdPost_bad (k := 9) (rdE_form h0 (by omega) h2) (by omega) hg
  have hpos : 0 < l.length := List.length_pos_iff.2 h0
  have HIX := hid (idx_str s l hl)
  have HL := hid (And.intro hl (And.intro h0 (And.intro hpos (show l.length ≤ 1000 by omega))))
  clear hl h0 hpos
  go_enter Tryz.func241, Tryz.ntmps241
  go_wp2_with fail
  clear hemp h1' hmax
  go_loopw [4, 5] (fun x y wr => ∃ (k n c : Nat) (p : Option Addr), x = .slice p n c ∧ y = .int .i64 k ∧ k ≤ l.length ∧ IsC wr p n c (numF 0 (l.take k)) ∧ w.grownBy wr none ∧ Hid (Seen l k)) (fun _ y _ => l.length - (intOf y).toNat)
  case atStart => exact ⟨0, 0, 0, none, rfl, rfl, Nat.zero_le _, IsC.nil _, grown_refl _ _, hid ⟨fun j h hj => by omega, fun h => by omega⟩⟩
  case round =>
    obtain ⟨k, n, c, p, rfl, rfl, hk, hC, hW, HS⟩ := hrel
    by_cases hlt : k < l.length
    · have hn := hC.len_le (k := 250) (num_limbs HS.out.dgs (by rw [List.length_take]; have := HL.out.2.2.2; omega))
      have hix := HIX.out k hlt
      have hix0 := HIX.out 0 HL.out.2.2.1
      have hkl : (k : Int) < (s.size : Int) := by omega
      have hk1000 : (k : Int) < 1000 := by have := HL.out.2.2.2; omega
      obtain ⟨ch, hc⟩ : ∃ ch, ch = l[k] := ⟨_, rfl⟩
      obtain ⟨c0, hc0⟩ : ∃ c0, c0 = l[0]'(HL.out.2.2.1) := ⟨_, rfl⟩
      rw [← hc] at hix
      rw [← hc0] at hix0
      have hh : l.head? = some c0 := by rw [hc0, List.head?_eq_getElem?, List.getElem?_eq_getElem HL.out.2.2.1]
      have hix0' : ∀ w, (Instr.index 9 (.string s) (.int .i64 0)).run Tryz.prog w = .ok (.int .u8 (c0.toNat : Int)) w := hix0
      have hcm : ch ∈ l := by rw [hc]; exact List.getElem_mem hlt
      have hbad : ¬ (48 ≤ ch.toNat ∧ ch.toNat ≤ 57) → ¬ Numl l := fun h g => h (g.1 ch hcm)
      have hbad0 : k = 1 → c0.toNat = 48 → ¬ Numl l := fun h1 h2 g => by
        rcases g.2 with h3 | h3
        · omega
        · exact h3 (by rw [hh]; congr 1; exact UInt8.toNat_inj.1 h2)
      have hnext : 48 ≤ ch.toNat ∧ ch.toNat ≤ 57 → ¬ (k = 1 ∧ c0.toNat = 48) → Seen l (k + 1) := fun h1 h2 => ⟨fun j h hj => by
          by_cases hjk : j = k
          · subst hjk; rw [← hc]; exact h1
          · exact HS.out.1 j h (by omega), fun h3 e => by
          rw [hh] at e
          simp only [Option.some.injEq] at e
          by_cases hk1 : k = 1
          · exact h2 ⟨hk1, by rw [e]; rfl⟩
          · exact HS.out.2 (by omega) (by rw [hh, e])⟩
      have hval : numF 0 (l.take k) * 10 + (ch.toNat - 48) = numF 0 (l.take (k + 1)) := by
        rw [List.take_succ_eq_append_getElem hlt, numF_append, ← hc, numF_cons, numF_nil]
      obtain ⟨N, hN⟩ : ∃ N, N = numF 0 (l.take k) := ⟨_, rfl⟩
      rw [← hN] at hC hval
      obtain ⟨v, hv⟩ : ∃ v, v = ch.toNat := ⟨_, rfl⟩
      have hv256 : v < 256 := by rw [hv]; exact ch.toNat_lt
      rw [← hv] at hix hbad hnext hval
      obtain ⟨v0, hv0⟩ : ∃ v0, v0 = c0.toNat := ⟨_, rfl⟩
      rw [← hv0] at hix0' hbad0 hnext
      have HB := hid (And.intro hbad (And.intro hbad0 (And.intro hnext hval)))
      clear hbad hbad0 hnext hval hix0 hh hcm hc hc0 hN hv hv0 HS
      by_cases hd : 48 ≤ v ∧ v ≤ 57
      · obtain ⟨hd1, hd2⟩ := hd
        have hd1' : ¬ ((v : Int) < 48) := by omega
        have hd2' : ¬ ((57 : Int) < (v : Int)) := by omega
        by_cases hz : k = 1 ∧ v0 = 48
        · have HBB := hid (HB.out.2.1 hz.1 hz.2)
          have hz1 : ((k : Int) == 1) = true := by simp; omega
          have hz2 : ((v0 : Int) == 48) = true := by simp; omega
          clear hz HB
          go_wp2_with fail
          go_ret2
          exact hP.out HBB.out _ hW
        · have HNX := hid (And.intro (HB.out.2.2.1 ⟨hd1, hd2⟩ hz) HB.out.2.2.2)
          have hz' : (((k : Int) == 1) = false) ∨ (((k : Int) == 1) = true ∧ ((v0 : Int) == 48) = false) := by
            by_cases hk1 : k = 1
            · right; exact ⟨by simp; omega, by simp; omega⟩
            · left; simp; omega
          obtain ⟨d, hd⟩ : ∃ d, d = v - 48 := ⟨_, rfl⟩
          have hvd : (v : Int) - 48 = (d : Int) := by omega
          have hdv : N * 10 + d = numF 0 (l.take (k + 1)) := by rw [hd]; exact HNX.out.2
          have HDV := hid hdv
          have hd10 : d < 10 := by omega
          have hod := fun W => refOf_c d (by unfold W64; omega) W
          have hwr : IntKind.u64.wrap (IntKind.u8.wrap (d : Int)) = (d : Int) := by rw [IntKind.wrap_u8, IntKind.wrap_u64]; omega
          have hod2 : ∀ W, Calls Tryz.prog 240 #[.int .u64 ((v : Int) - 48)] W fun e w' => ∃ p n c, e = .returned (.slice p n c) ∧ IsC w' p n c d ∧ n ≤ 4 ∧ W.grownBy w' none := by rw [hvd]; exact hod
          have hod3 : ∀ W, Calls Tryz.prog 240 #[.int .u64 (IntKind.u64.wrap (IntKind.u8.wrap (d : Int)))] W fun e w' => ∃ p n c, e = .returned (.slice p n c) ∧ IsC w' p n c d ∧ n ≤ 4 ∧ W.grownBy w' none := by rw [hwr]; exact hod
          have HOD := hid (And.intro hod (And.intro hod2 hod3))
          clear hod hod2 hod3 hwr
          clear hdv hd hz HB
          rcases hz' with hz1 | ⟨hz1, hz2⟩
          all_goals
            go_upto_region 11 with fail
            go_region_held3 (fun _ => True) (exact trivial) (first
              | (go_at_call 240; (with_reducible refine (refTen _).mono ?_); rintro e wA ⟨pT, nT, cT, rfl, hT, hnT, hg⟩; (try first | replace hC := hC.keep hg | replace hC := hC.keep (grown_trans (grown_drew _ none) hg)); (try replace hD := hD.keep hg); (first | replace hW := grown_trans hW hg | replace hW := grown_trans hW (grown_trans (grown_drew _ none) hg)); clear hg)
              | (go_at_call 240; (first | with_reducible refine (HOD.out.1 _).mono ?_ | with_reducible refine (HOD.out.2.1 _).mono ?_ | with_reducible refine (HOD.out.2.2 _).mono ?_); rintro e wB ⟨pD, nD, cD, rfl, hD, hnD, hg⟩; (try first | replace hC := hC.keep hg | replace hC := hC.keep (grown_trans (grown_drew _ none) hg)); (try replace hT := hT.keep hg); (try replace hM := hM.keep hg); (first | replace hW := grown_trans hW hg | replace hW := grown_trans hW (grown_trans (grown_drew _ none) hg)); clear hg)
              | (go_at_call 248; (with_reducible refine (refMul_n hC.isN hT.isN (by omega) (by omega)).mono ?_); rintro e wC ⟨pM, nM, cM, rfl, hM, hnM, hg⟩; clear hC hT; (try replace hD := hD.keep hg); (first | replace hW := grown_trans hW hg | replace hW := grown_trans hW (grown_trans (grown_drew _ none) hg)); clear hg)
              | (go_at_call 275; (with_reducible refine (refAdd_n hM.isN hD.isN (by omega) (by omega)).mono ?_); rintro e wE ⟨pS, nS, cS, rfl, hS, hnS, hg⟩; (first | replace hW := grown_trans hW hg | replace hW := grown_trans hW (grown_trans (grown_drew _ none) hg)); clear hg))
            all_goals
              go_wp2_with fail
              exact ⟨⟨k + 1, nS, cS, pS, rfl, rfl, by omega, by rw [← HDV.out]; exact hS, hW, hid HNX.out.1⟩, by simp [intOf]; omega⟩
      · have hs : ((v : Int) < 48) ∨ (¬ ((v : Int) < 48) ∧ (57 : Int) < (v : Int)) := by omega
        have HBB := hid (HB.out.1 hd)
        clear hd HB
        rcases hs with h2 | ⟨h2, h3⟩
        all_goals
          go_wp2_with fail
          go_ret2
          exact hP.out HBB.out _ hW
    · obtain rfl : k = l.length := by omega
      have hS := HS.out
      have hnum : Numl l := ⟨by have := hS.dgs; rwa [List.take_of_length_le (Nat.le_refl _)] at this, by
        by_cases h2 : l.length = 1
        · exact .inl h2
        · exact .inr (hS.2 (by have := HL.out.2.2.1; omega))⟩
      rw [List.take_of_length_le (Nat.le_refl _)] at hC
      have HE := hid (rdE_ok HL.out.2.1 HL.out.2.2.2 hnum)
      have HD := hid hnum.1
      have hC' := hC
      have HC := hid hC'
      clear hC' hS hnum HS
      go_wp2_with fail
      go_ret2
      refine ⟨p, n, c, by rw [HE.out]; rfl, ?_, ?_, hW⟩
      · rw [rdV_ok HE.out]; exact HC.out
      · exact HC.out.len_le (num_limbs HD.out HL.out.2.2.2)
theorem IsC.zlen {w : World} {p : Option Addr} {n c N : Nat} (h : IsC w p n c N) : (n = 0 ∧ N = 0) ∨ (0 < n ∧ 0 < N) := by
  have hl := h.len
  rcases Nat.eq_zero_or_pos N with h0 | h0
  · subst h0
    rw [dg_zero] at hl
    exact .inl ⟨by simpa using hl.symm, rfl⟩
  · refine .inr ⟨?_, h0⟩
    rcases Nat.eq_zero_or_pos n with h1 | h1
    · have e := V_dg (B := 65536) (by omega) N
      rw [List.eq_nil_of_length_eq_zero (hl.trans h1)] at e
      simp at e; omega
    · exact h1
def riT (l : List UInt8) : List UInt8 := if l.head? = some 45 then l.tail else l
def riE (l : List UInt8) : Nat := if rdE (riT l) ≠ 0 then rdE (riT l) else if l.head? = some 45 ∧ rdV (riT l) = 0 then 9 else 0
def riV (l : List UInt8) : Int := if riE l = 0 then sg (decide (l.head? = some 45)) (rdV (riT l)) else 0
def RiPost (w : World) (l : List UInt8) (e : Ending) (w' : World) : Prop :=
  ∃ g p n c, e = .returned (.tuple #[.agg #[.bool g, .slice p n c], .int .i64 (riE l : Nat)]) ∧ IsI w' g p n c (riV l) ∧ n ≤ 250 ∧ w.grownBy w' none
theorem isI_nil (w : World) : IsI w false none 0 0 0 := ⟨IsC.nil w, rfl⟩
theorem ri_bad {w w1 : World} {l : List UInt8} {k : Nat} {G : Nat} (h : riE l = k) (hk : k ≠ 0) (hg : w.grownBy w1 none) (hG : w.heap.size ≤ G) :
    RiPost w l (.returned (.tuple #[.agg #[.bool false, .slice none 0 0], .int .i64 (k : Int)])) ((w1.setCell ⟨G, 0, none⟩ (.bool false)).setCell ⟨G, 1, none⟩ (.slice none 0 0)) := by
  subst h
  refine ⟨false, none, 0, 0, rfl, ?_, by omega, grown_new hg (grown_trans (grown_setCell _ _ _) (grown_setCell _ ⟨G, 1, none⟩ _)) (fun g e => by cases e; exact hG)⟩
  have : riV l = 0 := if_neg hk
  rw [this]; exact isI_nil _
theorem ri_ok {w w1 : World} {l : List UInt8} {G : Nat} {x : Bool} {y : Option Addr} {a b : Nat} {T : TypeId} {g : Bool} {p : Option Addr} {n c : Nat} (h : riE l = 0) (hI : IsI w1 g p n c (riV l)) (hb : w1.heap[G]? = some (.cells #[.bool x, .slice y a b] T (0, 0))) (hn : n ≤ 250) (hg : w.grownBy w1 none) (hG : w.heap.size ≤ G) :
    RiPost w l (.returned (.tuple #[.agg #[.bool g, .slice p n c], .int .i64 0])) ((w1.setCell ⟨G, 0, none⟩ (.bool g)).setCell ⟨G, 1, none⟩ (.slice p n c)) := by
  have h56 : w1.grownBy ((w1.setCell ⟨G, 0, none⟩ (.bool g)).setCell ⟨G, 1, none⟩ (.slice p n c)) (some G) := grown_trans (grown_setCell _ _ _) (grown_setCell _ ⟨G, 1, none⟩ _)
  exact ⟨g, p, n, c, by rw [h]; rfl, ⟨IRd.other hI.1 hb (fun j z => two_cells x y a b j _ z) h56, hI.2⟩, hn, grown_new hg h56 (fun g e => by cases e; exact hG)⟩
theorem prefix_minus (l : List UInt8) : Lib.hasPrefix l [45] = decide (l.head? = some 45) := by
  cases l with
  | nil => rfl
  | cons c r =>
    by_cases h : c = 45
    · subst h; rfl
    · have h' : (45 == c) = false := by simp; exact fun e => h e.symm
      have h2 : decide ((c :: r).head? = some 45) = false := decide_eq_false (by simpa using h)
      rw [h2]
      simp [Lib.hasPrefix, List.isPrefixOf, h']
theorem trim_minus (l : List UInt8) : Lib.trimPrefix l [45] = riT l := by
  unfold Lib.trimPrefix riT
  rw [prefix_minus]
  by_cases h : l.head? = some 45
  · rw [decide_eq_true h, if_pos h]; simp
  · rw [decide_eq_false h, if_neg h]; rfl
theorem cutMinus_any (s : ByteArray) (l : List UInt8) (hl : s.data.toList = l) (w : World) :
    Calls Tryz.prog 218 #[.string s, .string ⟨#[45]⟩] w fun e w' => e = .returned (.tuple #[str (riT l), .bool (decide (l.head? = some 45))]) ∧ w = w' := by
  subst hl
  exact (cutPrefix_sh s ⟨#[45]⟩ w).mono fun e w' ⟨he, hw⟩ => by
    rw [show (⟨#[45]⟩ : ByteArray).data.toList = [45] from rfl, prefix_minus, trim_minus] at he
    exact ⟨he, hw.symm⟩
set_option maxHeartbeats 2000000 in
theorem intRead_any (s : ByteArray) (l : List UInt8) (hl : s.data.toList = l) (hmax : s.size ≤ 9223372036854775807) (w : World) :
    Calls Tryz.prog 181 #[.string s] w (RiPost w l) := by
  have hsz : (riT l).length ≤ 9223372036854775807 := by
    have h1 : s.size = l.length := by rw [Lib.size_eq, hl]
    have h2 : (riT l).length ≤ l.length := by unfold riT; split <;> simp
    omega
  have hgA := World.grownBy_alloc w (.cells #[.bool false, .slice none 0 0] 33) none
  have HC := hid (cutMinus_any s l hl)
  have hR := fun W => natRead_any ⟨(riT l).toArray⟩ (riT l) rfl (by rw [Lib.size_eq]; exact hsz) W
  unfold RdPost at hR
  have hE : riE l = if rdE (riT l) ≠ 0 then rdE (riT l) else if l.head? = some 45 ∧ rdV (riT l) = 0 then 9 else 0 := rfl
  have hV : riE l = 0 → riV l = sg (decide (l.head? = some 45)) (rdV (riT l)) := fun h => if_pos h
  generalize rdE (riT l) = E at *
  generalize rdV (riT l) = N at *
  generalize riT l = t at *
  have HR := hid hR
  have HE := hid (And.intro hE hV)
  clear hR hE hV hsz
  go_enter Tryz.func181, Tryz.ntmps181
  go_wp2_with fail
  refine (HC.out _).mono ?_
  rintro e w0 ⟨rfl, rfl⟩
  go_wp2_with fail
  refine (HR.out _).mono ?_
  rintro e w1 ⟨p, n, c, rfl, h1, hn, hg⟩
  have hc := gcell hg
  have hf := gfree hg
  have hz := hg.size
  simp at hz
  have hb1 : w1.heap[w.heap.size]? = some (.cells #[.bool false, .slice none 0 0] 33 (0, 0)) := (hg.block _ (by simp) (by simp)).trans (heap_alloc_new w _)
  have hgw := grown_trans hgA hg
  have HP := hid (fun k (h : riE l = k) hk => ri_bad (G := w.heap.size) h hk hgw (Nat.le_refl _))
  by_cases hE0 : E = 0
  rotate_left
  · have hE1 : ((E : Int) != 0) = true := by simp; omega
    have HQ := hid (HP.out E (by rw [HE.out.1, if_pos hE0]) hE0)
    clear hE0 hb1 h1
    go_wp2_with fail
    exact bodyPost_ret (v := .tuple #[.agg #[.bool false, .slice none 0 0], .int .i64 (E : Int)]) (by simp [results, Tryz.results181, go_sem, hc]) rfl HQ.out
  subst hE0
  have hlen := h1.zlen
  by_cases hbad : l.head? = some 45 ∧ N = 0
  · have HQ := hid (HP.out 9 (by rw [HE.out.1, if_neg (by simp), if_pos hbad]) (by omega))
    obtain ⟨hb, hN⟩ := hbad
    have hn0 : n = 0 := by omega
    subst hn0
    rw [decide_eq_true hb]
    clear h1 hb1 hlen hb hN
    go_wp2_with fail
    exact bodyPost_ret (v := .tuple #[.agg #[.bool false, .slice none 0 0], .int .i64 9]) (by simp [results, Tryz.results181, go_sem, hc]) rfl HQ.out
  · have hok : riE l = 0 := by rw [HE.out.1, if_neg (by simp), if_neg hbad]
    have hv := HE.out.2 hok
    have hsplit : (decide (l.head? = some 45) = false) ∨ (decide (l.head? = some 45) = true ∧ ((n : Int) == 0) = false) := by
      by_cases hb : l.head? = some 45
      · refine .inr ⟨decide_eq_true hb, ?_⟩
        have : N ≠ 0 := fun h => hbad ⟨hb, h⟩
        simp; omega
      · exact .inl (decide_eq_false hb)
    have hS := fun g => signed_any h1 g
    unfold SPost at hS
    generalize decide (l.head? = some 45) = b at *
    have HS := hid hS
    have HV := hid hv
    have HO := hid hok
    clear hS hv hok hbad h1 hlen
    rcases hsplit with rfl | ⟨rfl, hn0⟩
    all_goals
      go_wp2_with fail
      refine (HS.out _).mono ?_
      rintro e w2 ⟨g2, rfl, h2, hg2⟩
      have hc2 := gcell (grown_trans hg hg2)
      have hf2 := gfree (grown_trans hg hg2)
      have hz2 := hg2.size
      have hb2 := (hg2.block _ (lt_of_block hb1) (by simp)).trans hb1
      rw [← HV.out] at h2
      have HQ := hid (ri_ok (w := w) HO.out h2 hb2 hn (grown_trans hgw hg2) (Nat.le_refl _))
      clear h2 hb1 hb2 hc hf
      go_wp2_with fail
      exact bodyPost_ret (v := .tuple #[.agg #[.bool g2, .slice p n c], .int .i64 0]) (by simp [results, Tryz.results181, go_sem, hc2]) rfl HQ.out
theorem rRead_any (s : ByteArray) (l : List UInt8) (hl : s.data.toList = l) (hmax : s.size ≤ 9223372036854775807) (w : World) :
    Calls Tryz.prog 239 #[.string s] w (RiPost w l) := by
  have hsz : s.size = l.length := by rw [Lib.size_eq, hl]
  have hgA := World.grownBy_alloc w (.cells #[.bool false, .slice none 0 0] 33) none
  have hE : riE l = if rdE (riT l) ≠ 0 then rdE (riT l) else if l.head? = some 45 ∧ rdV (riT l) = 0 then 9 else 0 := rfl
  have hV : riE l = 0 → riV l = sg (decide (l.head? = some 45)) (rdV (riT l)) := fun h => if_pos h
  by_cases hb : l.head? = some 45
  · have hpos : 0 < l.length := by
      rcases Nat.eq_zero_or_pos l.length with h | h
      · rw [List.eq_nil_of_length_eq_zero h] at hb; simp at hb
      · exact h
    have hpos' : (0 : Int) < (s.size : Int) := by omega
    have h0 : l[0] = 45 := by
      rw [List.head?_eq_getElem?, List.getElem?_eq_getElem hpos] at hb
      simpa using hb
    have hix0 := idx_str s l hl 0 hpos
    rw [h0] at hix0
    have hix : ∀ w, (Instr.index 9 (.string s) (.int .i64 0)).run Tryz.prog w = .ok (.int .u8 45) w := hix0
    have ht : riT l = l.tail := if_pos hb
    have hx : s.extract 1 s.size = ⟨(riT l).toArray⟩ := by
      rw [Lib.extract_eq, hl, List.take_of_length_le (by rw [List.length_drop]; omega), ht, List.drop_one]
    have h1s : (1 : Int) ≤ (s.size : Int) := by omega
    have hR := fun W => refRead_any ⟨(riT l).toArray⟩ (riT l) rfl (by rw [Lib.size_eq, ht]; show l.tail.length ≤ _; simp; omega) W
    unfold RdPost at hR
    have hcond : ∀ N, (l.head? = some 45 ∧ N = 0) ↔ N = 0 := fun N => ⟨fun h => h.2, fun h => ⟨hb, h⟩⟩
    rw [decide_eq_true hb] at hV
    have HCN := hid hcond
    generalize rdE (riT l) = E at *
    generalize rdV (riT l) = N at *
    generalize riT l = t at *
    have HR := hid hR
    have HE := hid (And.intro hE hV)
    clear hR hE hV hcond ht hix0 h0 hpos hb hsz hl
    go_enter Tryz.func239, Tryz.ntmps239
    go_wp2_with fail
    refine (HR.out _).mono ?_
    rintro e w1 ⟨p, n, c, rfl, h1, hn, hg⟩
    have hc := gcell hg
    have hf := gfree hg
    have hz := hg.size
    simp at hz
    have hb1 : w1.heap[w.heap.size]? = some (.cells #[.bool false, .slice none 0 0] 33 (0, 0)) := (hg.block _ (by simp) (by simp)).trans (heap_alloc_new w _)
    have hgw := grown_trans hgA hg
    have HP := hid (fun k (h : riE l = k) hk => ri_bad (G := w.heap.size) h hk hgw (Nat.le_refl _))
    by_cases hE0 : E = 0
    rotate_left
    · have hE1 : ((E : Int) != 0) = true := by simp; omega
      have HQ := hid (HP.out E (by rw [HE.out.1, if_pos hE0]) hE0)
      clear hE0 hb1 h1
      go_wp2_with fail
      exact bodyPost_ret (v := .tuple #[.agg #[.bool false, .slice none 0 0], .int .i64 (E : Int)]) (by simp [results, Tryz.results239, go_sem, hc]) rfl HQ.out
    subst hE0
    have hlen := h1.zlen
    by_cases hbad : N = 0
    · have HQ := hid (HP.out 9 (by rw [HE.out.1, if_neg (by simp), if_pos ((HCN.out N).2 hbad)]) (by omega))
      have hn0 : n = 0 := by omega
      subst hn0
      clear h1 hb1 hlen hbad
      go_wp2_with fail
      exact bodyPost_ret (v := .tuple #[.agg #[.bool false, .slice none 0 0], .int .i64 9]) (by simp [results, Tryz.results239, go_sem, hc]) rfl HQ.out
    have hok : riE l = 0 := by rw [HE.out.1, if_neg (by simp), if_neg (fun h => hbad ((HCN.out N).1 h))]
    have hn0 : ((n : Int) == 0) = false := by simp; omega
    clear hbad
    have hS := rOf_any true h1.isN (by omega)
    unfold IPost at hS
    have HS := hid hS
    have HV := hid (HE.out.2 hok)
    have HO := hid hok
    clear hS hok h1 hlen
    go_wp2_with fail
    refine (HS.out).mono ?_
    rintro e w2 ⟨g2, p2, n2, c2, rfl, h2, hn2, hg2⟩
    have hc2 := gcell (grown_trans hg hg2)
    have hf2 := gfree (grown_trans hg hg2)
    have hz2 := hg2.size
    have hb2 := (hg2.block _ (lt_of_block hb1) (by simp)).trans hb1
    rw [← HV.out] at h2
    have HQ := hid (ri_ok (w := w) HO.out h2 hb2 (by omega) (grown_trans hgw hg2) (Nat.le_refl _))
    clear h2 hb1 hb2 hc hf
    go_wp2_with fail
    exact bodyPost_ret (v := .tuple #[.agg #[.bool g2, .slice p2 n2 c2], .int .i64 0]) (by simp [results, Tryz.results239, go_sem, hc2]) rfl HQ.out
  · have ht : riT l = l := if_neg hb
    have hR := fun W => refRead_any s (riT l) (by rw [ht]; exact hl) hmax W
    unfold RdPost at hR
    have hcond : ∀ N, ¬ (l.head? = some 45 ∧ N = 0) := fun N h => hb h.1
    rw [decide_eq_false hb] at hV
    have HCN := hid hcond
    have hsplit : (¬ ((0 : Int) < (s.size : Int))) ∨ (((0 : Int) < (s.size : Int)) ∧ ∃ v : Nat, (∀ w, (Instr.index 9 (.string s) (.int .i64 0)).run Tryz.prog w = .ok (.int .u8 (v : Int)) w) ∧ ((v : Int) == 45) = false) := by
      rcases Nat.eq_zero_or_pos l.length with h | h
      · exact .inl (by omega)
      · refine .inr ⟨by omega, l[0].toNat, idx_str s l hl 0 h, ?_⟩
        rw [List.head?_eq_getElem?, List.getElem?_eq_getElem h] at hb
        simp only [Option.some.injEq] at hb
        simp
        intro e
        exact hb (UInt8.toNat_inj.1 (show l[0].toNat = 45 by omega))
    generalize rdE (riT l) = E at *
    generalize rdV (riT l) = N at *
    generalize riT l = t at *
    have HR := hid hR
    have HE := hid (And.intro hE hV)
    clear hR hE hV hcond ht hb hl hsz hmax
    rcases hsplit with hpos | ⟨hpos, v, hix, hv45⟩
    all_goals
      go_enter Tryz.func239, Tryz.ntmps239
      go_wp2_with fail
      refine (HR.out _).mono ?_
      rintro e w1 ⟨p, n, c, rfl, h1, hn, hg⟩
      have hc := gcell hg
      have hf := gfree hg
      have hz := hg.size
      simp at hz
      have hb1 : w1.heap[w.heap.size]? = some (.cells #[.bool false, .slice none 0 0] 33 (0, 0)) := (hg.block _ (by simp) (by simp)).trans (heap_alloc_new w _)
      have hgw := grown_trans hgA hg
      have HP := hid (fun k (h : riE l = k) hk => ri_bad (G := w.heap.size) h hk hgw (Nat.le_refl _))
      by_cases hE0 : E = 0
      rotate_left
      · have hE1 : ((E : Int) != 0) = true := by simp; omega
        have HQ := hid (HP.out E (by rw [HE.out.1, if_pos hE0]) hE0)
        clear hE0 hb1 h1
        go_wp2_with fail
        exact bodyPost_ret (v := .tuple #[.agg #[.bool false, .slice none 0 0], .int .i64 (E : Int)]) (by simp [results, Tryz.results239, go_sem, hc]) rfl HQ.out
      subst hE0
      have hlen := h1.zlen
      have hok : riE l = 0 := by rw [HE.out.1, if_neg (by simp), if_neg (HCN.out N)]
      have hS := rOf_any false h1.isN (by omega)
      unfold IPost at hS
      have HS := hid hS
      have HV := hid (HE.out.2 hok)
      have HO := hid hok
      clear hS hok h1 hlen
      go_wp2_with fail
      refine (HS.out).mono ?_
      rintro e w2 ⟨g2, p2, n2, c2, rfl, h2, hn2, hg2⟩
      have hc2 := gcell (grown_trans hg hg2)
      have hf2 := gfree (grown_trans hg hg2)
      have hz2 := hg2.size
      have hb2 := (hg2.block _ (lt_of_block hb1) (by simp)).trans hb1
      rw [← HV.out] at h2
      have HQ := hid (ri_ok (w := w) HO.out h2 hb2 (by omega) (grown_trans hgw hg2) (Nat.le_refl _))
      clear h2 hb1 hb2 hc hf
      go_wp2_with fail
      exact bodyPost_ret (v := .tuple #[.agg #[.bool g2, .slice p2 n2 c2], .int .i64 0]) (by simp [results, Tryz.results239, go_sem, hc2]) rfl HQ.out
end Go.Proofs.YtjpkncgfpbhnaaaGreatDoor
namespace Go.Proofs.YtjpkncgfpbhnaaaGreatDoor
open Go.Shelf Go.RowKit _root_.Nm
def cuRen : Ren := ⟨fun n => match n with
    | 217 => 200
    | 219 => 250
    | 224 => 215
    | 225 => 216
    | 266 => 237
    | 267 => 280
    | 314 => 298
    | n => n,
  fun n => match n with
    | 3 => 3
    | 4 => 4
    | 5 => 5
    | 9 => 9
    | 46 => 192
    | 51 => 294
    | 146 => 295
    | n => n,
  fun n => match n with
    | 1 => 0
    | n => n⟩
theorem sh219 : Lays.n219 Tryz.prog cuRen where
  mixed := by kernel_rfl
  f217 := by kernel_rfl
  f219 := by kernel_rfl
  f224 := by kernel_rfl
  f225 := by kernel_rfl
  f266 := by kernel_rfl
  f267 := by kernel_rfl
  f314 := by kernel_rfl
  t3 := by kernel_rfl
  a3 := fun _ => by kernel_rfl
  z3 := fun _ => by kernel_rfl
  v3 := fun _ => by kernel_rfl
  t4 := by kernel_rfl
  a4 := fun _ => by kernel_rfl
  z4 := fun _ => by kernel_rfl
  v4 := fun _ => by kernel_rfl
  t5 := by kernel_rfl
  a5 := fun _ => by kernel_rfl
  z5 := fun _ => by kernel_rfl
  v5 := fun _ => by kernel_rfl
  t9 := by kernel_rfl
  a9 := fun _ => by kernel_rfl
  z9 := fun _ => by kernel_rfl
  v9 := fun _ => by kernel_rfl
  t46 := by kernel_rfl
  a46 := fun _ => by kernel_rfl
  z46 := fun _ => by kernel_rfl
  v46 := fun _ => by kernel_rfl
  t51 := by kernel_rfl
  a51 := fun _ => by kernel_rfl
  z51 := fun _ => by kernel_rfl
  v51 := fun _ => by kernel_rfl
  t146 := by kernel_rfl
  a146 := fun _ => by kernel_rfl
  z146 := fun _ => by kernel_rfl
  v146 := fun _ => by kernel_rfl
  g1 := by kernel_rfl
theorem index_sh (s : ByteArray) (c : UInt8) (w : World) :
    Calls Tryz.prog 250 #[.string s, .string ⟨#[c]⟩] w fun e w' => e = .returned (.int .i64 (Lib.indexByte s.data.toList c)) ∧ w' = w := Any.stringslite_Index_one sh219 s c w
def cuB (l : List UInt8) : List UInt8 := l.takeWhile (· ≠ 47)
def cuA (l : List UInt8) : List UInt8 := l.drop ((cuB l).length + 1)
def cuF (l : List UInt8) : Bool := decide ((cuB l).length < l.length)
theorem cuB_len (l : List UInt8) : (cuB l).length ≤ l.length := by
  have := (List.takeWhile_prefix (l := l) (fun x : UInt8 => decide (x ≠ 47))).length_le
  exact this
theorem cuB_take (l : List UInt8) : cuB l = l.take (cuB l).length := by
  have := List.takeWhile_prefix (l := l) (fun x : UInt8 => decide (x ≠ 47))
  exact (List.prefix_iff_eq_take.1 this)
theorem idx_cut : ∀ l : List UInt8, Lib.indexByte l 47 = if (cuB l).length < l.length then ((cuB l).length : Int) else -1 := by
  intro l
  induction l with
  | nil => rfl
  | cons c l ih =>
    by_cases h : c = 47
    · subst h; simp [Lib.indexByte, cuB]
    · have e : cuB (c :: l) = c :: cuB l := by simp [cuB, h]
      rw [e]
      have hb : (c == 47) = false := by simpa using h
      simp only [Lib.indexByte, List.length_cons, hb, ih]
      rw [if_neg (show ¬ (false = true) by decide)]
      by_cases hlt : (cuB l).length < l.length
      · have hn : ¬ ((((cuB l).length : Int) == -1) = true) := by first | (simp; done) | (simp; omega)
        rw [if_pos hlt, if_pos (show (cuB l).length + 1 < l.length + 1 by omega), if_neg hn]
        simp
      · rw [if_neg hlt, if_neg (show ¬ ((cuB l).length + 1 < l.length + 1) by omega)]
        rfl
theorem strOf {s : ByteArray} {l : List UInt8} (h : s.data.toList = l) : s = ⟨l.toArray⟩ := by subst h; exact (Lib.mk_data s).symm
theorem cutIn_any (s : ByteArray) (l : List UInt8) (hl : s.data.toList = l) (hmax : s.size ≤ 9223372036854775806) (w : World) :
    Calls Tryz.prog 217 #[.string s, .string ⟨#[47]⟩] w fun e w' => e = .returned (.tuple #[str (cuB l), str (cuA l), .bool (cuF l)]) ∧ w.grownBy w' none := by
  have hsz : s.size = l.length := by rw [Lib.size_eq, hl]
  have hI := index_sh s 47
  rw [hl, idx_cut] at hI
  have hbl := cuB_len l
  have htk := cuB_take l
  obtain ⟨k, hk⟩ : ∃ k, k = (cuB l).length := ⟨_, rfl⟩
  have hA : cuA l = l.drop (k + 1) := by rw [hk]; rfl
  have hF : cuF l = decide (k < l.length) := by rw [hk]; rfl
  rw [← hk] at hI hbl htk
  by_cases hlt : k < l.length
  · rw [if_pos hlt] at hI
    rw [decide_eq_true hlt] at hF
    have hx1 : s.extract 0 k = ⟨(l.take k).toArray⟩ := by rw [Lib.extract_eq, hl]; simp
    have hx2 : s.extract (k + 1) s.size = ⟨(l.drop (k + 1)).toArray⟩ := by rw [Lib.extract_eq, hl, List.take_of_length_le (by rw [List.length_drop]; omega)]
    have h1 : (k : Int) ≤ (s.size : Int) := by omega
    have h2 : (k : Int) + 1 ≤ (s.size : Int) := by omega
    have h3 : (s.size : Int) ≤ 9223372036854775806 := by omega
    have h4 : IntKind.i64.wrap ((k : Int) + 1) = (k : Int) + 1 := by rw [IntKind.wrap_i64]; omega
    have h5 : ((k : Int) + 1).toNat = k + 1 := by omega
    have HI := hid hI
    have HR := hid (And.intro htk (And.intro hA hF))
    clear hI hbl htk hk hA hF hlt hsz hl
    go_enter Tryz.func217, Tryz.ntmps217
    go_wp2_with (go_at_call 250; refine (HI.out _).mono ?_; rintro e w' ⟨rfl, rfl⟩)
    go_region
    all_goals go_wp2
    go_ret3
    exact ⟨by rw [HR.out.1, HR.out.2.1, HR.out.2.2]; rfl, grown_drew _ none⟩
  · rw [if_neg hlt] at hI
    rw [decide_eq_false hlt] at hF
    have hAe : cuA l = [] := by rw [hA]; exact List.drop_eq_nil_of_le (by omega)
    have hBe : cuB l = l := by rw [htk]; exact List.take_of_length_le (by omega)
    have hs := strOf hl
    subst hs
    have HI := hid hI
    have HR := hid (And.intro hBe (And.intro hAe hF))
    clear hI hbl htk hk hA hF hlt hsz hl
    go_enter Tryz.func217, Tryz.ntmps217
    go_wp2_with (go_at_call 250; refine (HI.out _).mono ?_; rintro e w' ⟨rfl, rfl⟩)
    go_ret3
    exact ⟨by rw [HR.out.1, HR.out.2.1, HR.out.2.2]; rfl, grown_refl _ _⟩
theorem cut_any (s : ByteArray) (l : List UInt8) (hl : s.data.toList = l) (hmax : s.size ≤ 9223372036854775806) (w : World) :
    Calls Tryz.prog 180 #[.string s, .string ⟨#[47]⟩] w fun e w' => e = .returned (.tuple #[str (cuB l), str (cuA l), .bool (cuF l)]) ∧ w.grownBy w' none := by
  have HI := hid (cutIn_any s l hl hmax)
  go_enter Tryz.func180, Tryz.ntmps180
  go_wp2_with (go_at_call 217; refine (HI.out _).mono ?_; rintro e w' ⟨rfl, hg⟩)
  first
    | go_ret3
    | go_ret
  exact ⟨rfl, hg⟩
end Go.Proofs.YtjpkncgfpbhnaaaGreatDoor
namespace Go.Proofs.YtjpkncgfpbhnaaaGreatDoor
open Go.RowKit _root_.Nm
def rqE (l : List UInt8) : Nat := if riE (cuB l) ≠ 0 then riE (cuB l) else if cuF l = true then (if rdE (cuA l) ≠ 0 then rdE (cuA l) else if rdV (cuA l) = 0 then 3 else 0) else 0
def rqD (l : List UInt8) : Nat := if cuF l = true then rdV (cuA l) else 1
def rqV (l : List UInt8) : Rat := mkRat (riV (cuB l)) (rqD l)
theorem cuA_len (l : List UInt8) : (cuA l).length ≤ l.length := by unfold cuA; simp
theorem div_mk (N : Int) (D : Nat) : (N : Rat) / ((D : Int) : Rat) = mkRat N D := by
  rw [Rat.mkRat_eq_div]; rfl
theorem isZ_nat {w : World} {p : Option Addr} {n c D : Nat} (h : IsC w p n c D) : IsZ w false p n c (D : Int) := ⟨by simpa using h.isN, by simp [sg]⟩
theorem natOne (w : World) : Calls Tryz.prog 182 #[.int .u64 1] w fun e w' => ∃ p n c, e = .returned (.slice p n c) ∧ IsC w' p n c 1 ∧ n ≤ 4 ∧ w.grownBy w' none :=
  (of_any 1 (by decide) w).mono fun e w' ⟨a', c', he, hr, hg⟩ => ⟨a', _, c', he, hr, dg_length_le (by omega) (by decide), hg⟩
section
variable {s : ByteArray} {l : List UInt8}
theorem cutQ (hl : s.data.toList = l) (hmax : s.size ≤ 2000000) (w : World) :
    Calls Tryz.prog 180 #[.string s, .string ⟨#[47]⟩] w fun e w' => e = .returned (.tuple #[str (cuB l), str (cuA l), .bool (cuF l)]) ∧ w.grownBy w' none := cut_any s l hl (by omega) w
theorem iRd_ok (t : List UInt8) (ht : t.length ≤ 2000000) (w : World) (h : riE t = 0) :
    Calls Tryz.prog 181 #[str t] w fun e w' => ∃ g p n c, e = .returned (.tuple #[.agg #[.bool g, .slice p n c], .int .i64 0]) ∧ IsI w' g p n c (riV t) ∧ n ≤ 250 ∧ w.grownBy w' none :=
  (intRead_any ⟨t.toArray⟩ t rfl (by rw [Lib.size_eq]; show t.length ≤ _; omega) w).mono fun e w' ⟨g, p, n, c, he, h1, h2, h3⟩ => ⟨g, p, n, c, by rw [h] at he; exact he, h1, h2, h3⟩
theorem iRd_bad (t : List UInt8) (ht : t.length ≤ 2000000) (w : World) :
    Calls Tryz.prog 181 #[str t] w fun e w' => ∃ g p n c, e = .returned (.tuple #[.agg #[.bool g, .slice p n c], .int .i64 (riE t : Nat)]) ∧ w.grownBy w' none :=
  (intRead_any ⟨t.toArray⟩ t rfl (by rw [Lib.size_eq]; show t.length ≤ _; omega) w).mono fun e w' ⟨g, p, n, c, he, h1, h2, h3⟩ => ⟨g, p, n, c, he, h3⟩
theorem nRd_ok (t : List UInt8) (ht : t.length ≤ 2000000) (w : World) (h : rdE t = 0) :
    Calls Tryz.prog 183 #[str t] w fun e w' => ∃ p n c, e = .returned (.tuple #[.slice p n c, .int .i64 0]) ∧ IsC w' p n c (rdV t) ∧ n ≤ 250 ∧ w.grownBy w' none :=
  (natRead_any ⟨t.toArray⟩ t rfl (by rw [Lib.size_eq]; show t.length ≤ _; omega) w).mono fun e w' ⟨p, n, c, he, h1, h2, h3⟩ => ⟨p, n, c, by rw [h] at he; exact he, h1, h2, h3⟩
theorem nRd_bad (t : List UInt8) (ht : t.length ≤ 2000000) (w : World) :
    Calls Tryz.prog 183 #[str t] w fun e w' => ∃ p n c, e = .returned (.tuple #[.slice p n c, .int .i64 (rdE t : Nat)]) ∧ w.grownBy w' none :=
  (natRead_any ⟨t.toArray⟩ t rfl (by rw [Lib.size_eq]; show t.length ≤ _; omega) w).mono fun e w' ⟨p, n, c, he, h1, h2, h3⟩ => ⟨p, n, c, he, h3⟩
theorem riRd_ok (t : List UInt8) (ht : t.length ≤ 2000000) (w : World) (h : riE t = 0) :
    Calls Tryz.prog 239 #[str t] w fun e w' => ∃ g p n c, e = .returned (.tuple #[.agg #[.bool g, .slice p n c], .int .i64 0]) ∧ IsI w' g p n c (riV t) ∧ n ≤ 250 ∧ w.grownBy w' none :=
  (rRead_any ⟨t.toArray⟩ t rfl (by rw [Lib.size_eq]; show t.length ≤ _; omega) w).mono fun e w' ⟨g, p, n, c, he, h1, h2, h3⟩ => ⟨g, p, n, c, by rw [h] at he; exact he, h1, h2, h3⟩
theorem riRd_bad (t : List UInt8) (ht : t.length ≤ 2000000) (w : World) :
    Calls Tryz.prog 239 #[str t] w fun e w' => ∃ g p n c, e = .returned (.tuple #[.agg #[.bool g, .slice p n c], .int .i64 (riE t : Nat)]) ∧ w.grownBy w' none :=
  (rRead_any ⟨t.toArray⟩ t rfl (by rw [Lib.size_eq]; show t.length ≤ _; omega) w).mono fun e w' ⟨g, p, n, c, he, h1, h2, h3⟩ => ⟨g, p, n, c, he, h3⟩
theorem nrRd_ok (t : List UInt8) (ht : t.length ≤ 2000000) (w : World) (h : rdE t = 0) :
    Calls Tryz.prog 241 #[str t] w fun e w' => ∃ p n c, e = .returned (.tuple #[.slice p n c, .int .i64 0]) ∧ IsC w' p n c (rdV t) ∧ n ≤ 250 ∧ w.grownBy w' none :=
  (refRead_any ⟨t.toArray⟩ t rfl (by rw [Lib.size_eq]; show t.length ≤ _; omega) w).mono fun e w' ⟨p, n, c, he, h1, h2, h3⟩ => ⟨p, n, c, by rw [h] at he; exact he, h1, h2, h3⟩
theorem nrRd_bad (t : List UInt8) (ht : t.length ≤ 2000000) (w : World) :
    Calls Tryz.prog 241 #[str t] w fun e w' => ∃ p n c, e = .returned (.tuple #[.slice p n c, .int .i64 (rdE t : Nat)]) ∧ w.grownBy w' none :=
  (refRead_any ⟨t.toArray⟩ t rfl (by rw [Lib.size_eq]; show t.length ≤ _; omega) w).mono fun e w' ⟨p, n, c, he, h1, h2, h3⟩ => ⟨p, n, c, he, h3⟩
end
set_option maxHeartbeats 2000000 in
theorem ratRead_e1 (s : ByteArray) (l : List UInt8) (hl : s.data.toList = l) (hmax : s.size ≤ 2000000) (w : World) (h : riE (cuB l) ≠ 0) :
    Calls Tryz.prog 132 #[.string s] w (EPost w (riE (cuB l) : Nat)) := by
  have hsz : s.size = l.length := by rw [Lib.size_eq, hl]
  have hlb : (cuB l).length ≤ 2000000 := by have := cuB_len l; omega
  have hla : (cuA l).length ≤ 2000000 := by have := cuA_len l; omega
  have hb := heap_alloc_new w (.cells #[.bool false, .slice none 0 0, .slice none 0 0] 35)
  have hW := World.grownBy_alloc w (.cells #[.bool false, .slice none 0 0, .slice none 0 0] 35) none
  have bR := hb
  clear hb
  go_enter Tryz.func132, Tryz.ntmps132
  have HC := hid (cutQ hl hmax)
  have HI := hid (iRd_bad (cuB l) hlb)
  generalize riE (cuB l) = E at *
  have he : ((E : Int) != 0) = true := by simp; omega
  clear hl hsz hlb hla h
  go_wp2_with fail
  refine (HC.out _).mono ?_
  rintro e v1 ⟨rfl, hg⟩
  replace bR := (hg.block _ (lt_of_block bR) (by simp)).trans bR; replace hW := grown_trans hW hg; clear hg
  go_wp2_with fail
  refine (HI.out _).mono ?_
  rintro e v2 ⟨g1, p1, n1, c1, rfl, hg⟩
  replace bR := (hg.block _ (lt_of_block bR) (by simp)).trans bR; replace hW := grown_trans hW hg; clear hg
  have hlty := lt_of_block bR
  have hg := World.grownBy_alloc v2 (.cells #[.bool g1, .slice p1 n1 c1] 33) none
  have hb := heap_alloc_new v2 (.cells #[.bool g1, .slice p1 n1 c1] 33)
  replace bR := (hg.block _ (lt_of_block bR) (by simp)).trans bR; replace hW := grown_trans hW hg; clear hg
  obtain ⟨y0, y1, yf0, yf1⟩ := intbox_facts hb
  clear hb
  go_upto_region 3 with fail
  generalize v2.alloc (.cells #[.bool g1, .slice p1 n1 c1] 33) = uy at *
  generalize v2.heap.size = Ky at *
  obtain ⟨z0, z1, z2, f0, f1, f2⟩ := ratbox_facts bR
  go_wp2_with fail
  exact bodyPost_ret (v := .tuple #[.agg #[.bool false, .slice none 0 0, .slice none 0 0], .int .i64 (E : Int)]) (by simp [results, Tryz.results132, go_sem, z0, z1, z2]) rfl (EPost.close (Nat.le_refl _) hW _ _ _ _)
set_option maxHeartbeats 2000000 in
theorem ratRead_e2 (s : ByteArray) (l : List UInt8) (hl : s.data.toList = l) (hmax : s.size ≤ 2000000) (w : World) (h : riE (cuB l) = 0) (hf : cuF l = true) (h2 : rdE (cuA l) ≠ 0) :
    Calls Tryz.prog 132 #[.string s] w (EPost w (rdE (cuA l) : Nat)) := by
  have hsz : s.size = l.length := by rw [Lib.size_eq, hl]
  have hlb : (cuB l).length ≤ 2000000 := by have := cuB_len l; omega
  have hla : (cuA l).length ≤ 2000000 := by have := cuA_len l; omega
  have hb := heap_alloc_new w (.cells #[.bool false, .slice none 0 0, .slice none 0 0] 35)
  have hW := World.grownBy_alloc w (.cells #[.bool false, .slice none 0 0, .slice none 0 0] 35) none
  have bR := hb
  clear hb
  go_enter Tryz.func132, Tryz.ntmps132
  have HC := hid (cutQ hl hmax)
  rw [hf] at HC
  have HI := hid (fun W => iRd_ok (cuB l) hlb W h)
  have HN := hid (nRd_bad (cuA l) hla)
  generalize rdE (cuA l) = E at *
  have he : ((E : Int) != 0) = true := by simp; omega
  clear hl hsz hlb hla h h2
  go_wp2_with fail
  refine (HC.out _).mono ?_
  rintro e v1 ⟨rfl, hg⟩
  replace bR := (hg.block _ (lt_of_block bR) (by simp)).trans bR; replace hW := grown_trans hW hg; clear hg
  go_wp2_with fail
  refine (HI.out _).mono ?_
  rintro e v2 ⟨g1, p1, n1, c1, rfl, hI, hn1, hg⟩
  replace bR := (hg.block _ (lt_of_block bR) (by simp)).trans bR; replace hW := grown_trans hW hg; clear hg
  have hlty := lt_of_block bR
  have hg := World.grownBy_alloc v2 (.cells #[.bool g1, .slice p1 n1 c1] 33) none
  have hb := heap_alloc_new v2 (.cells #[.bool g1, .slice p1 n1 c1] 33)
  replace hI := hI.keep hg; replace bR := (hg.block _ (lt_of_block bR) (by simp)).trans bR; replace hW := grown_trans hW hg; clear hg
  obtain ⟨y0, y1, yf0, yf1⟩ := intbox_facts hb
  clear hb
  go_wp2_with fail
  generalize v2.alloc (.cells #[.bool g1, .slice p1 n1 c1] 33) = uy at *
  generalize v2.heap.size = Ky at *
  refine (natOne _).mono ?_
  rintro e v3 ⟨p2, n2, c2, rfl, hO, hn2, hg⟩
  replace hI := hI.keep hg; replace y0 := hg.cell y0 (by simp); replace y1 := hg.cell y1 (by simp); replace bR := (hg.block _ (lt_of_block bR) (by simp)).trans bR; replace hW := grown_trans hW hg; clear hg
  go_wp2_with fail
  refine (HN.out _).mono ?_
  rintro e v4 ⟨p3, n3, c3, rfl, hg⟩
  replace hI := hI.keep hg; replace y0 := hg.cell y0 (by simp); replace y1 := hg.cell y1 (by simp); replace bR := (hg.block _ (lt_of_block bR) (by simp)).trans bR; replace hW := grown_trans hW hg; clear hg
  obtain ⟨z0, z1, z2, f0, f1, f2⟩ := ratbox_facts bR
  go_wp2_with fail
  exact bodyPost_ret (v := .tuple #[.agg #[.bool false, .slice none 0 0, .slice none 0 0], .int .i64 (E : Int)]) (by simp [results, Tryz.results132, go_sem, z0, z1, z2]) rfl (EPost.close (Nat.le_refl _) hW _ _ _ _)
set_option maxHeartbeats 4000000 in
set_option maxRecDepth 100000 in
theorem ratRead_e3 (s : ByteArray) (l : List UInt8) (hl : s.data.toList = l) (hmax : s.size ≤ 2000000) (w : World) (T : Tb w) (h : riE (cuB l) = 0) (hf : cuF l = true) (h2 : rdE (cuA l) = 0) (h3 : rdV (cuA l) = 0) :
    Calls Tryz.prog 132 #[.string s] w (EPost w 3) := by
  have hsz : s.size = l.length := by rw [Lib.size_eq, hl]
  have hlb : (cuB l).length ≤ 2000000 := by have := cuB_len l; omega
  have hla : (cuA l).length ≤ 2000000 := by have := cuA_len l; omega
  have hb := heap_alloc_new w (.cells #[.bool false, .slice none 0 0, .slice none 0 0] 35)
  have hW := World.grownBy_alloc w (.cells #[.bool false, .slice none 0 0, .slice none 0 0] 35) none
  replace T := T.keep hW
  have bR := hb
  clear hb
  go_enter Tryz.func132, Tryz.ntmps132
  have HC := hid (cutQ hl hmax)
  rw [hf] at HC
  have HI := hid (fun W => iRd_ok (cuB l) hlb W h)
  have HN := hid (fun W => nRd_ok (cuA l) hla W h2)
  rw [h3] at HN
  clear hl hsz hlb hla h h2 h3
  go_wp2_with fail
  refine (HC.out _).mono ?_
  rintro e v1 ⟨rfl, hg⟩
  replace T := T.keep hg; replace bR := (hg.block _ (lt_of_block bR) (by simp)).trans bR; replace hW := grown_trans hW hg; clear hg
  go_wp2_with fail
  refine (HI.out _).mono ?_
  rintro e v2 ⟨g1, p1, n1, c1, rfl, hI, hn1, hg⟩
  replace T := T.keep hg; replace bR := (hg.block _ (lt_of_block bR) (by simp)).trans bR; replace hW := grown_trans hW hg; clear hg
  have hlty := lt_of_block bR
  have hg := World.grownBy_alloc v2 (.cells #[.bool g1, .slice p1 n1 c1] 33) none
  have hb := heap_alloc_new v2 (.cells #[.bool g1, .slice p1 n1 c1] 33)
  replace T := T.keep hg; replace hI := hI.keep hg; replace bR := (hg.block _ (lt_of_block bR) (by simp)).trans bR; replace hW := grown_trans hW hg; clear hg
  obtain ⟨y0, y1, yf0, yf1⟩ := intbox_facts hb
  clear hb
  go_wp2_with fail
  generalize v2.alloc (.cells #[.bool g1, .slice p1 n1 c1] 33) = uy at *
  generalize v2.heap.size = Ky at *
  refine (natOne _).mono ?_
  rintro e v3 ⟨p2, n2, c2, rfl, hO, hn2, hg⟩
  replace T := T.keep hg; replace hI := hI.keep hg; replace y0 := hg.cell y0 (by simp); replace y1 := hg.cell y1 (by simp); replace bR := (hg.block _ (lt_of_block bR) (by simp)).trans bR; replace hW := grown_trans hW hg; clear hg
  go_wp2_with fail
  refine (HN.out _).mono ?_
  rintro e v4 ⟨p3, n3, c3, rfl, hD, hn3, hg⟩
  replace T := T.keep hg; replace hI := hI.keep hg; replace y0 := hg.cell y0 (by simp); replace y1 := hg.cell y1 (by simp); replace bR := (hg.block _ (lt_of_block bR) (by simp)).trans bR; replace hW := grown_trans hW hg; clear hg
  go_upto_region 10 with fail
  have hg := grown_drew v4 none
  replace T := T.keep hg; replace hI := hI.keep hg; replace hD := hD.keep hg; replace y0 := hg.cell y0 (by simp); replace y1 := hg.cell y1 (by simp); replace bR := (hg.block _ (lt_of_block bR) (by simp)).trans bR; replace hW := grown_trans hW hg; clear hg
  go_region_held3 (fun w' => w'.cell? ⟨Ky, 0, none⟩ = some (.bool g1) ∧ w'.cell? ⟨Ky, 1, none⟩ = some (.slice p1 n1 c1)) ((try go_split_ands) <;> (repeat' apply And.intro) <;> (repeat (first | (with_reducible assumption) | (with_reducible refine (grown_setCell _ _ _).cell ?_ (by simp; omega)) | (with_reducible refine (World.grownBy_alloc _ _ none).cell ?_ (by simp)) | (with_reducible refine (grown_drew _ none).cell ?_ (by simp)))))
    (first
      | (go_at_call 133; (with_reducible refine (wholeR_any _ _ _).mono ?_); rintro e v5 ⟨rfl, hg⟩; replace T := T.keep hg; replace hI := hI.keep hg; replace hD := hD.keep hg; replace y0 := hg.cell y0 (by simp); replace y1 := hg.cell y1 (by simp); replace bR := (hg.block _ (lt_of_block bR) (by simp)).trans bR; replace hW := grown_trans hW hg; clear hg)
      | (go_at_call 184; (with_reducible refine (ratMake_e hI.z (isZ_nat hD) (by omega) (by omega)).mono ?_); rintro e v6 ⟨rfl, hg⟩; replace T := T.keep hg; replace hI := hI.keep hg; replace hD := hD.keep hg; replace y0 := hg.cell y0 (by simp); replace y1 := hg.cell y1 (by simp); replace bR := (hg.block _ (lt_of_block bR) (by simp)).trans bR; replace hW := grown_trans hW hg; obtain ⟨z0, z1, z2, f0, f1, f2⟩ := ratbox_facts bR; clear hg))
  go_wp2_with fail
  exact bodyPost_ret (v := .tuple #[.agg #[.bool false, .slice none 0 0, .slice none 0 0], .int .i64 3]) (by simp [results, Tryz.results132, go_sem, z0, z1, z2]) rfl (EPost.close (Nat.le_refl _) hW _ _ _ _)
set_option maxHeartbeats 4000000 in
set_option maxRecDepth 100000 in
theorem ratRead_s (s : ByteArray) (l : List UInt8) (hl : s.data.toList = l) (hmax : s.size ≤ 2000000) (w : World) (T : Tb w) (h : riE (cuB l) = 0) (hf : cuF l = true) (h2 : rdE (cuA l) = 0) (h3 : rdV (cuA l) ≠ 0) :
    Calls Tryz.prog 132 #[.string s] w (MPost w (rqV l) 260) := by
  have hsz : s.size = l.length := by rw [Lib.size_eq, hl]
  have hlb : (cuB l).length ≤ 2000000 := by have := cuB_len l; omega
  have hla : (cuA l).length ≤ 2000000 := by have := cuA_len l; omega
  have hb := heap_alloc_new w (.cells #[.bool false, .slice none 0 0, .slice none 0 0] 35)
  have hW := World.grownBy_alloc w (.cells #[.bool false, .slice none 0 0, .slice none 0 0] 35) none
  replace T := T.keep hW
  have bR := hb
  clear hb
  go_enter Tryz.func132, Tryz.ntmps132
  have HC := hid (cutQ hl hmax)
  rw [hf] at HC
  have HI := hid (fun W => iRd_ok (cuB l) hlb W h)
  have HN := hid (fun W => nRd_ok (cuA l) hla W h2)
  have hv : ((riV (cuB l) : Int) : Rat) / (((rdV (cuA l) : Nat) : Int) : Rat) = rqV l := by rw [div_mk]; unfold rqV rqD; rw [if_pos hf]
  have h0 : ((rdV (cuA l) : Nat) : Int) ≠ 0 := by omega
  have HV := hid hv
  generalize rqV l = v at *
  clear hl hsz hlb hla h h2 h3 hv
  go_wp2_with fail
  refine (HC.out _).mono ?_
  rintro e v1 ⟨rfl, hg⟩
  replace T := T.keep hg; replace bR := (hg.block _ (lt_of_block bR) (by simp)).trans bR; replace hW := grown_trans hW hg; clear hg
  go_wp2_with fail
  refine (HI.out _).mono ?_
  rintro e v2 ⟨g1, p1, n1, c1, rfl, hI, hn1, hg⟩
  replace T := T.keep hg; replace bR := (hg.block _ (lt_of_block bR) (by simp)).trans bR; replace hW := grown_trans hW hg; clear hg
  have hlty := lt_of_block bR
  have hg := World.grownBy_alloc v2 (.cells #[.bool g1, .slice p1 n1 c1] 33) none
  have hb := heap_alloc_new v2 (.cells #[.bool g1, .slice p1 n1 c1] 33)
  replace T := T.keep hg; replace hI := hI.keep hg; replace bR := (hg.block _ (lt_of_block bR) (by simp)).trans bR; replace hW := grown_trans hW hg; clear hg
  obtain ⟨y0, y1, yf0, yf1⟩ := intbox_facts hb
  clear hb
  go_wp2_with fail
  generalize v2.alloc (.cells #[.bool g1, .slice p1 n1 c1] 33) = uy at *
  generalize v2.heap.size = Ky at *
  refine (natOne _).mono ?_
  rintro e v3 ⟨p2, n2, c2, rfl, hO, hn2, hg⟩
  replace T := T.keep hg; replace hI := hI.keep hg; replace y0 := hg.cell y0 (by simp); replace y1 := hg.cell y1 (by simp); replace bR := (hg.block _ (lt_of_block bR) (by simp)).trans bR; replace hW := grown_trans hW hg; clear hg
  go_wp2_with fail
  refine (HN.out _).mono ?_
  rintro e v4 ⟨p3, n3, c3, rfl, hD, hn3, hg⟩
  replace T := T.keep hg; replace hI := hI.keep hg; replace y0 := hg.cell y0 (by simp); replace y1 := hg.cell y1 (by simp); replace bR := (hg.block _ (lt_of_block bR) (by simp)).trans bR; replace hW := grown_trans hW hg; clear hg
  go_upto_region 10 with fail
  have hg := grown_drew v4 none
  replace T := T.keep hg; replace hI := hI.keep hg; replace hD := hD.keep hg; replace y0 := hg.cell y0 (by simp); replace y1 := hg.cell y1 (by simp); replace bR := (hg.block _ (lt_of_block bR) (by simp)).trans bR; replace hW := grown_trans hW hg; clear hg
  go_region_held3 (fun w' => w'.cell? ⟨Ky, 0, none⟩ = some (.bool g1) ∧ w'.cell? ⟨Ky, 1, none⟩ = some (.slice p1 n1 c1)) ((try go_split_ands) <;> (repeat' apply And.intro) <;> (repeat (first | (with_reducible assumption) | (with_reducible refine (grown_setCell _ _ _).cell ?_ (by simp; omega)) | (with_reducible refine (World.grownBy_alloc _ _ none).cell ?_ (by simp)) | (with_reducible refine (grown_drew _ none).cell ?_ (by simp)))))
    (first
      | (go_at_call 133; (with_reducible refine (wholeR_any _ _ _).mono ?_); rintro e v5 ⟨rfl, hg⟩; replace T := T.keep hg; replace hI := hI.keep hg; replace hD := hD.keep hg; replace y0 := hg.cell y0 (by simp); replace y1 := hg.cell y1 (by simp); replace bR := (hg.block _ (lt_of_block bR) (by simp)).trans bR; replace hW := grown_trans hW hg; clear hg)
      | (go_at_call 184; (with_reducible refine (make_v 260 T hI.z (isZ_nat hD) h0 HV.out (by omega) (by omega) (by omega)).mono ?_); rintro e v6 ⟨g9, p9, n9, c9, q9, m9, d9, rfl, hV, hn9, hm9, hg⟩; replace T := T.keep hg; replace hI := hI.keep hg; replace hD := hD.keep hg; replace y0 := hg.cell y0 (by simp); replace y1 := hg.cell y1 (by simp); replace bR := (hg.block _ (lt_of_block bR) (by simp)).trans bR; replace hW := grown_trans hW hg; obtain ⟨z0, z1, z2, f0, f1, f2⟩ := ratbox_facts bR; clear hg))
  go_wp2_with fail
  exact bodyPost_ret (v := .tuple #[.agg #[.bool g9, .slice p9 n9 c9, .slice q9 m9 d9], .int .i64 0]) (by simp [results, Tryz.results132, go_sem, z0, z1, z2]) rfl (MPost.close bR (Nat.le_refl _) hW hV (by omega) (by omega))
set_option maxHeartbeats 4000000 in
set_option maxRecDepth 100000 in
theorem ratRead_p (s : ByteArray) (l : List UInt8) (hl : s.data.toList = l) (hmax : s.size ≤ 2000000) (w : World) (T : Tb w) (h : riE (cuB l) = 0) (hf : cuF l = false) :
    Calls Tryz.prog 132 #[.string s] w (MPost w (rqV l) 260) := by
  have hsz : s.size = l.length := by rw [Lib.size_eq, hl]
  have hlb : (cuB l).length ≤ 2000000 := by have := cuB_len l; omega
  have hla : (cuA l).length ≤ 2000000 := by have := cuA_len l; omega
  have hb := heap_alloc_new w (.cells #[.bool false, .slice none 0 0, .slice none 0 0] 35)
  have hW := World.grownBy_alloc w (.cells #[.bool false, .slice none 0 0, .slice none 0 0] 35) none
  replace T := T.keep hW
  have bR := hb
  clear hb
  go_enter Tryz.func132, Tryz.ntmps132
  have HC := hid (cutQ hl hmax)
  rw [hf] at HC
  have HI := hid (fun W => iRd_ok (cuB l) hlb W h)
  have hv : ((riV (cuB l) : Int) : Rat) / (((1 : Nat) : Int) : Rat) = rqV l := by rw [div_mk]; unfold rqV rqD; rw [if_neg (by rw [hf]; decide)]
  have h0 : ((1 : Nat) : Int) ≠ 0 := by decide
  have HV := hid hv
  generalize rqV l = v at *
  clear hl hsz hlb hla h hv
  go_wp2_with fail
  refine (HC.out _).mono ?_
  rintro e v1 ⟨rfl, hg⟩
  replace T := T.keep hg; replace bR := (hg.block _ (lt_of_block bR) (by simp)).trans bR; replace hW := grown_trans hW hg; clear hg
  go_wp2_with fail
  refine (HI.out _).mono ?_
  rintro e v2 ⟨g1, p1, n1, c1, rfl, hI, hn1, hg⟩
  replace T := T.keep hg; replace bR := (hg.block _ (lt_of_block bR) (by simp)).trans bR; replace hW := grown_trans hW hg; clear hg
  have hlty := lt_of_block bR
  have hg := World.grownBy_alloc v2 (.cells #[.bool g1, .slice p1 n1 c1] 33) none
  have hb := heap_alloc_new v2 (.cells #[.bool g1, .slice p1 n1 c1] 33)
  replace T := T.keep hg; replace hI := hI.keep hg; replace bR := (hg.block _ (lt_of_block bR) (by simp)).trans bR; replace hW := grown_trans hW hg; clear hg
  obtain ⟨y0, y1, yf0, yf1⟩ := intbox_facts hb
  clear hb
  go_wp2_with fail
  generalize v2.alloc (.cells #[.bool g1, .slice p1 n1 c1] 33) = uy at *
  generalize v2.heap.size = Ky at *
  refine (natOne _).mono ?_
  rintro e v3 ⟨p2, n2, c2, rfl, hO, hn2, hg⟩
  replace T := T.keep hg; replace hI := hI.keep hg; replace y0 := hg.cell y0 (by simp); replace y1 := hg.cell y1 (by simp); replace bR := (hg.block _ (lt_of_block bR) (by simp)).trans bR; replace hW := grown_trans hW hg; clear hg
  go_upto_region 10 with fail
  have hg := grown_drew v3 none
  replace T := T.keep hg; replace hI := hI.keep hg; replace hO := hO.keep hg; replace y0 := hg.cell y0 (by simp); replace y1 := hg.cell y1 (by simp); replace bR := (hg.block _ (lt_of_block bR) (by simp)).trans bR; replace hW := grown_trans hW hg; clear hg
  go_region_held3 (fun w' => w'.cell? ⟨Ky, 0, none⟩ = some (.bool g1) ∧ w'.cell? ⟨Ky, 1, none⟩ = some (.slice p1 n1 c1)) ((try go_split_ands) <;> (repeat' apply And.intro) <;> (repeat (first | (with_reducible assumption) | (with_reducible refine (grown_setCell _ _ _).cell ?_ (by simp; omega)) | (with_reducible refine (World.grownBy_alloc _ _ none).cell ?_ (by simp)) | (with_reducible refine (grown_drew _ none).cell ?_ (by simp)))))
    (first
      | (go_at_call 133; (with_reducible refine (wholeR_any _ _ _).mono ?_); rintro e v4 ⟨rfl, hg⟩; replace T := T.keep hg; replace hI := hI.keep hg; replace hO := hO.keep hg; replace y0 := hg.cell y0 (by simp); replace y1 := hg.cell y1 (by simp); replace bR := (hg.block _ (lt_of_block bR) (by simp)).trans bR; replace hW := grown_trans hW hg; clear hg)
      | (go_at_call 184; (with_reducible refine (make_v 260 T hI.z (isZ_nat hO) h0 HV.out (by omega) (by omega) (by omega)).mono ?_); rintro e v5 ⟨g9, p9, n9, c9, q9, m9, d9, rfl, hV, hn9, hm9, hg⟩; replace T := T.keep hg; replace hI := hI.keep hg; replace hO := hO.keep hg; replace y0 := hg.cell y0 (by simp); replace y1 := hg.cell y1 (by simp); replace bR := (hg.block _ (lt_of_block bR) (by simp)).trans bR; replace hW := grown_trans hW hg; obtain ⟨z0, z1, z2, f0, f1, f2⟩ := ratbox_facts bR; clear hg))
  go_wp2_with fail
  exact bodyPost_ret (v := .tuple #[.agg #[.bool g9, .slice p9 n9 c9, .slice q9 m9 d9], .int .i64 0]) (by simp [results, Tryz.results132, go_sem, z0, z1, z2]) rfl (MPost.close bR (Nat.le_refl _) hW hV (by omega) (by omega))
def RqPost (w : World) (l : List UInt8) (e : Ending) (w' : World) : Prop := (rqE l ≠ 0 → EPost w (rqE l : Nat) e w') ∧ (rqE l = 0 → MPost w (rqV l) 260 e w')
theorem ratRead_any (s : ByteArray) (l : List UInt8) (hl : s.data.toList = l) (hmax : s.size ≤ 2000000) (w : World) (T : Tb w) : Calls Tryz.prog 132 #[.string s] w (RqPost w l) := by
  by_cases h1 : riE (cuB l) = 0
  rotate_left
  · have e : rqE l = riE (cuB l) := if_pos h1
    refine (ratRead_e1 s l hl hmax w h1).mono fun x w' h => ⟨fun _ => by rw [e]; exact h, fun h0 => absurd (e ▸ h0) h1⟩
  by_cases hf : cuF l = true
  rotate_left
  · have e : rqE l = 0 := by unfold rqE; rw [if_neg (by simpa using h1), if_neg hf]
    exact (ratRead_p s l hl hmax w T h1 (by simpa using hf)).mono fun x w' h => ⟨fun h0 => absurd e h0, fun _ => h⟩
  have e0 : rqE l = if rdE (cuA l) ≠ 0 then rdE (cuA l) else if rdV (cuA l) = 0 then 3 else 0 := by unfold rqE; rw [if_neg (by simpa using h1), if_pos hf]
  by_cases h2 : rdE (cuA l) = 0
  rotate_left
  · have e : rqE l = rdE (cuA l) := by rw [e0, if_pos h2]
    exact (ratRead_e2 s l hl hmax w h1 hf h2).mono fun x w' h => ⟨fun _ => by rw [e]; exact h, fun h0 => absurd (e ▸ h0) h2⟩
  by_cases h3 : rdV (cuA l) = 0
  · have e : rqE l = 3 := by rw [e0, if_neg (by simpa using h2), if_pos h3]
    exact (ratRead_e3 s l hl hmax w T h1 hf h2 h3).mono fun x w' h => ⟨fun _ => by rw [e]; exact h, fun h0 => absurd (e ▸ h0) (by decide)⟩
  · have e : rqE l = 0 := by rw [e0, if_neg (by simpa using h2), if_neg h3]
    exact (ratRead_s s l hl hmax w T h1 hf h2 h3).mono fun x w' h => ⟨fun h0 => absurd e h0, fun _ => h⟩
theorem cuB_get : ∀ (l : List UInt8) (k : Nat) (h : k < (cuB l).length) (h2 : k < l.length), l[k] ≠ 47 := by
  intro l
  induction l with
  | nil => intro k h; simp [cuB] at h
  | cons c l ih =>
    intro k h h2
    by_cases hc : c = 47
    · subst hc; simp [cuB] at h
    · have e : cuB (c :: l) = c :: cuB l := by simp [cuB, hc]
      rw [e] at h
      cases k with
      | zero => simpa using hc
      | succ k => simpa using ih k (by simpa using h) (by simpa using h2)
theorem cuB_end : ∀ (l : List UInt8) (h : (cuB l).length < l.length), l[(cuB l).length] = 47 := by
  intro l
  induction l with
  | nil => intro h; simp at h
  | cons c l ih =>
    intro h
    by_cases hc : c = 47
    · subst hc; simp [cuB]
    · have e : cuB (c :: l) = c :: cuB l := by simp [cuB, hc]
      have h' : (cuB l).length < l.length := by rw [e] at h; simpa using h
      have := ih h'
      simp only [e, List.length_cons, List.getElem_cons_succ]
      exact this
theorem refOneQ (w : World) : Calls Tryz.prog 240 #[.int .u64 1] w fun e w' => ∃ p n c, e = .returned (.slice p n c) ∧ IsC w' p n c 1 ∧ n ≤ 4 ∧ w.grownBy w' none := refOf_c 1 (by decide) w
set_option maxHeartbeats 8000000 in
set_option maxRecDepth 100000 in
theorem rRatRead_any (s : ByteArray) (l : List UInt8) (hl : s.data.toList = l) (hmax : s.size ≤ 2000000) (w : World) : Calls Tryz.prog 204 #[.string s] w (RqPost w l) := by
  have hsz : s.size = l.length := by rw [Lib.size_eq, hl]
  have hlb : (cuB l).length ≤ 2000000 := by have := cuB_len l; omega
  have hla : (cuA l).length ≤ 2000000 := by have := cuA_len l; omega
  have hb := heap_alloc_new w (.cells #[.bool false, .slice none 0 0, .slice none 0 0] 35)
  have hW := World.grownBy_alloc w (.cells #[.bool false, .slice none 0 0, .slice none 0 0] 35) none
  have bR := hb
  clear hb
  have hbl := cuB_len l
  have htk := cuB_take l
  have HG := hid (cuB_get l)
  have HEnd := hid (cuB_end l)
  have HIX := hid (idx_str s l hl)
  have hx1 : s.extract 0 (cuB l).length = ⟨(cuB l).toArray⟩ := by rw [Lib.extract_eq, hl]; simp [← htk]
  have hx2 : s.extract ((cuB l).length + 1) l.length = ⟨(cuA l).toArray⟩ := by rw [Lib.extract_eq, hl, List.take_of_length_le (by rw [List.length_drop]; omega)]; rfl
  obtain ⟨b, hbe⟩ : ∃ b, b = (cuB l).length := ⟨_, rfl⟩
  rw [← hbe] at hbl hx1 hx2
  have HB := hid hbe
  have HTK := hid htk
  have HL := hid hl
  clear htk hl hbe
  go_enter Tryz.func204, Tryz.ntmps204
  go_wp2_with fail
  go_loop [4] (fun i => ∃ k : Nat, k ≤ b ∧ i = .int .i64 k) (fun i => b - (intOf i).toNat)
  case atStart => exact ⟨0, Nat.zero_le _, rfl⟩
  case round =>
    obtain ⟨k, hk, rfl⟩ := hrel
    by_cases hlt : k < b
    · have hkl : k < l.length := by omega
      have hix := HIX.out k hkl
      have hne := HG.out k (by rw [← HB.out]; exact hlt) hkl
      obtain ⟨v, hv⟩ : ∃ v, v = l[k].toNat := ⟨_, rfl⟩
      rw [← hv] at hix
      have hv47 : ((v : Int) != 47) = true := by
        have : v ≠ 47 := fun e => hne (UInt8.toNat_inj.1 (by rw [← hv, e]; rfl))
        simp; omega
      have hks : (k : Int) < (l.length : Int) := by omega
      clear hv hne hkl
      go_wp2_with fail
      exact ⟨⟨k + 1, by omega, rfl⟩, by simp [intOf]; omega⟩
    obtain rfl : k = b := by omega
    clear hlt hk
    generalize w.alloc (.cells #[.bool false, .slice none 0 0, .slice none 0 0] 35) = W0 at *
    by_cases hf : cuF l = true
    · have hblt : k < l.length := by rw [HB.out]; simpa [cuF] using hf
      have hix := HIX.out k hblt
      have h47 : l[k] = 47 := by
        have := HEnd.out (by rw [← HB.out]; exact hblt)
        simpa [← HB.out] using this
      rw [h47] at hix
      have hix2 : ∀ w, (Instr.index 9 (.string s) (.int .i64 (k : Int))).run Tryz.prog w = .ok (.int .u8 47) w := hix
      have hks : (k : Int) < (l.length : Int) := by omega
      have hks1 : (k : Int) + 1 ≤ (l.length : Int) := by omega
      have hkn : ((k : Int) == (l.length : Int)) = false := by simp; omega
      have hl2 : (l.length : Int) ≤ 2000000 := by omega
      clear hix h47 hblt
      by_cases h1 : riE (cuB l) = 0
      rotate_left
      · skip
        have HI := hid (riRd_bad (cuB l) hlb)
        have HP : Hid (∀ e w', EPost w (riE (cuB l) : Nat) e w' → RqPost w l e w') := hid (fun e w' h => ⟨fun _ => by rw [show rqE l = riE (cuB l) from if_pos h1]; exact h, fun h0 => absurd ((show rqE l = riE (cuB l) from if_pos h1) ▸ h0) h1⟩)
        generalize riE (cuB l) = E at *
        have he : ((E : Int) != 0) = true := by simp; omega
        clear h1
        go_wp2_with fail
        refine (HI.out _).mono ?_
        rintro e v1 ⟨g1, p1, n1, c1, rfl, hg⟩
        replace bR := (hg.block _ (lt_of_block bR) (by simp)).trans bR; replace hW := grown_trans hW hg; clear hg
        have hlty := lt_of_block bR
        have hg := World.grownBy_alloc v1 (.cells #[.bool g1, .slice p1 n1 c1] 33) none
        have hb := heap_alloc_new v1 (.cells #[.bool g1, .slice p1 n1 c1] 33)
        replace bR := (hg.block _ (lt_of_block bR) (by simp)).trans bR; replace hW := grown_trans hW hg; clear hg
        obtain ⟨y0, y1, yf0, yf1⟩ := intbox_facts hb
        clear hb
        go_upto_region 5 with fail
        generalize v1.alloc (.cells #[.bool g1, .slice p1 n1 c1] 33) = uy at *
        generalize v1.heap.size = Ky at *
        obtain ⟨z0, z1, z2, f0, f1, f2⟩ := ratbox_facts bR
        go_wp2_with fail
        exact bodyPost_ret (v := .tuple #[.agg #[.bool false, .slice none 0 0, .slice none 0 0], .int .i64 (E : Int)]) (by simp [results, Tryz.results204, go_sem, z0, z1, z2]) rfl (HP.out _ _ (EPost.close (Nat.le_refl _) hW _ _ _ _))
      have e0 : rqE l = if rdE (cuA l) ≠ 0 then rdE (cuA l) else if rdV (cuA l) = 0 then 3 else 0 := by unfold rqE; rw [if_neg (by simpa using h1), if_pos hf]
      by_cases h2 : rdE (cuA l) = 0
      rotate_left
      · skip
        have HI := hid (fun W => riRd_ok (cuB l) hlb W h1)
        have HN := hid (nrRd_bad (cuA l) hla)
        have HP : Hid (∀ e w', EPost w (rdE (cuA l) : Nat) e w' → RqPost w l e w') := hid (fun e w' h => ⟨fun _ => by rw [show rqE l = rdE (cuA l) by rw [e0, if_pos h2]]; exact h, fun h0 => absurd ((show rqE l = rdE (cuA l) by rw [e0, if_pos h2]) ▸ h0) h2⟩)
        generalize rdE (cuA l) = E at *
        have he : ((E : Int) != 0) = true := by simp; omega
        clear h1 h2 e0
        go_wp2_with fail
        refine (HI.out _).mono ?_
        rintro e v1 ⟨g1, p1, n1, c1, rfl, hI, hn1, hg⟩
        replace bR := (hg.block _ (lt_of_block bR) (by simp)).trans bR; replace hW := grown_trans hW hg; clear hg
        have hlty := lt_of_block bR
        have hg := World.grownBy_alloc v1 (.cells #[.bool g1, .slice p1 n1 c1] 33) none
        have hb := heap_alloc_new v1 (.cells #[.bool g1, .slice p1 n1 c1] 33)
        replace hI := hI.keep hg; replace bR := (hg.block _ (lt_of_block bR) (by simp)).trans bR; replace hW := grown_trans hW hg; clear hg
        obtain ⟨y0, y1, yf0, yf1⟩ := intbox_facts hb
        clear hb
        go_wp2_with fail
        generalize v1.alloc (.cells #[.bool g1, .slice p1 n1 c1] 33) = uy at *
        generalize v1.heap.size = Ky at *
        refine (HN.out _).mono ?_
        rintro e v2 ⟨p3, n3, c3, rfl, hg⟩
        replace hI := hI.keep hg; replace y0 := hg.cell y0 (by simp); replace y1 := hg.cell y1 (by simp); replace bR := (hg.block _ (lt_of_block bR) (by simp)).trans bR; replace hW := grown_trans hW hg; clear hg
        obtain ⟨z0, z1, z2, f0, f1, f2⟩ := ratbox_facts bR
        go_wp2_with fail
        exact bodyPost_ret (v := .tuple #[.agg #[.bool false, .slice none 0 0, .slice none 0 0], .int .i64 (E : Int)]) (by simp [results, Tryz.results204, go_sem, z0, z1, z2]) rfl (HP.out _ _ (EPost.close (Nat.le_refl _) hW _ _ _ _))
      by_cases h3 : rdV (cuA l) = 0
      · skip
        have HI := hid (fun W => riRd_ok (cuB l) hlb W h1)
        have HN := hid (fun W => nrRd_ok (cuA l) hla W h2)
        rw [h3] at HN
        have HP : Hid (∀ e w', EPost w 3 e w' → RqPost w l e w') := hid (fun e w' h => ⟨fun _ => by rw [show rqE l = 3 by rw [e0, if_neg (by simpa using h2), if_pos h3]]; exact h, fun h0 => absurd ((show rqE l = 3 by rw [e0, if_neg (by simpa using h2), if_pos h3]) ▸ h0) (by decide)⟩)
        clear h1 h2 h3 e0
        go_wp2_with fail
        refine (HI.out _).mono ?_
        rintro e v1 ⟨g1, p1, n1, c1, rfl, hI, hn1, hg⟩
        replace bR := (hg.block _ (lt_of_block bR) (by simp)).trans bR; replace hW := grown_trans hW hg; clear hg
        have hlty := lt_of_block bR
        have hg := World.grownBy_alloc v1 (.cells #[.bool g1, .slice p1 n1 c1] 33) none
        have hb := heap_alloc_new v1 (.cells #[.bool g1, .slice p1 n1 c1] 33)
        replace hI := hI.keep hg; replace bR := (hg.block _ (lt_of_block bR) (by simp)).trans bR; replace hW := grown_trans hW hg; clear hg
        obtain ⟨y0, y1, yf0, yf1⟩ := intbox_facts hb
        clear hb
        go_wp2_with fail
        generalize v1.alloc (.cells #[.bool g1, .slice p1 n1 c1] 33) = uy at *
        generalize v1.heap.size = Ky at *
        refine (HN.out _).mono ?_
        rintro e v2 ⟨p3, n3, c3, rfl, hD, hn3, hg⟩
        have hz3 : n3 = 0 := by have := hD.zlen; omega
        subst hz3
        clear hD hn3
        replace hI := hI.keep hg; replace y0 := hg.cell y0 (by simp); replace y1 := hg.cell y1 (by simp); replace bR := (hg.block _ (lt_of_block bR) (by simp)).trans bR; replace hW := grown_trans hW hg; clear hg
        obtain ⟨z0, z1, z2, f0, f1, f2⟩ := ratbox_facts bR
        go_wp2_with fail
        exact bodyPost_ret (v := .tuple #[.agg #[.bool false, .slice none 0 0, .slice none 0 0], .int .i64 3]) (by simp [results, Tryz.results204, go_sem, z0, z1, z2]) rfl (HP.out _ _ (EPost.close (Nat.le_refl _) hW _ _ _ _))
      · skip
        have HI := hid (fun W => riRd_ok (cuB l) hlb W h1)
        have HN := hid (fun W => nrRd_ok (cuA l) hla W h2)
        have hr0 : rqE l = 0 := by rw [e0, if_neg (by simpa using h2), if_neg h3]
        have hv : mkRat (riV (cuB l)) (rdV (cuA l)) = rqV l := by unfold rqV rqD; rw [if_pos hf]
        have HP : Hid (∀ e w', MPost w (rqV l) 260 e w' → RqPost w l e w') := hid (fun e w' h => ⟨fun h0 => absurd hr0 h0, fun _ => h⟩)
        have HV := hid hv
        generalize rqV l = v at *
        clear hv h1 h2 hr0 e0
        go_wp2_with fail
        refine (HI.out _).mono ?_
        rintro e v1 ⟨g1, p1, n1, c1, rfl, hI, hn1, hg⟩
        replace bR := (hg.block _ (lt_of_block bR) (by simp)).trans bR; replace hW := grown_trans hW hg; clear hg
        have hlty := lt_of_block bR
        have hg := World.grownBy_alloc v1 (.cells #[.bool g1, .slice p1 n1 c1] 33) none
        have hb := heap_alloc_new v1 (.cells #[.bool g1, .slice p1 n1 c1] 33)
        replace hI := hI.keep hg; replace bR := (hg.block _ (lt_of_block bR) (by simp)).trans bR; replace hW := grown_trans hW hg; clear hg
        obtain ⟨y0, y1, yf0, yf1⟩ := intbox_facts hb
        clear hb
        go_wp2_with fail
        generalize v1.alloc (.cells #[.bool g1, .slice p1 n1 c1] 33) = uy at *
        generalize v1.heap.size = Ky at *
        refine (HN.out _).mono ?_
        rintro e v2 ⟨p3, n3, c3, rfl, hD, hn3, hg⟩
        have hz3 : ((n3 : Int) == 0) = false := by (have := hD.zlen; simp; omega)
        replace hI := hI.keep hg; replace y0 := hg.cell y0 (by simp); replace y1 := hg.cell y1 (by simp); replace bR := (hg.block _ (lt_of_block bR) (by simp)).trans bR; replace hW := grown_trans hW hg; clear hg
        go_wp2_with fail
        refine (over_v 260 hI.z hD.isN HV.out (by omega) (by omega) (by omega)).mono ?_
        rintro e v3 ⟨g9, p9, n9, c9, q9, m9, d9, rfl, hV, hn9, hm9, hg⟩
        replace hI := hI.keep hg; replace hD := hD.keep hg; replace y0 := hg.cell y0 (by simp); replace y1 := hg.cell y1 (by simp); replace bR := (hg.block _ (lt_of_block bR) (by simp)).trans bR; replace hW := grown_trans hW hg; clear hg
        obtain ⟨z0, z1, z2, f0, f1, f2⟩ := ratbox_facts bR
        go_wp2_with fail
        exact bodyPost_ret (v := .tuple #[.agg #[.bool g9, .slice p9 n9 c9, .slice q9 m9 d9], .int .i64 0]) (by simp [results, Tryz.results204, go_sem, z0, z1, z2]) rfl (HP.out _ _ (MPost.close bR (Nat.le_refl _) hW hV (by omega) (by omega)))
    · have hf : cuF l = false := by simpa using hf
      have hble : k = l.length := by
        have : ¬ k < l.length := by rw [HB.out]; simpa [cuF] using hf
        omega
      have hks : ¬ ((k : Int) < (l.length : Int)) := by omega
      have hkn : ((k : Int) == (l.length : Int)) = true := by simp; omega
      have hkle : (k : Int) ≤ (l.length : Int) := by omega
      have hl2 : (l.length : Int) ≤ 2000000 := by omega
      clear hble
      by_cases h1 : riE (cuB l) = 0
      rotate_left
      · skip
        have HI := hid (riRd_bad (cuB l) hlb)
        have HP : Hid (∀ e w', EPost w (riE (cuB l) : Nat) e w' → RqPost w l e w') := hid (fun e w' h => ⟨fun _ => by rw [show rqE l = riE (cuB l) from if_pos h1]; exact h, fun h0 => absurd ((show rqE l = riE (cuB l) from if_pos h1) ▸ h0) h1⟩)
        generalize riE (cuB l) = E at *
        have he : ((E : Int) != 0) = true := by simp; omega
        clear h1
        go_wp2_with fail
        refine (HI.out _).mono ?_
        rintro e v1 ⟨g1, p1, n1, c1, rfl, hg⟩
        replace bR := (hg.block _ (lt_of_block bR) (by simp)).trans bR; replace hW := grown_trans hW hg; clear hg
        have hlty := lt_of_block bR
        have hg := World.grownBy_alloc v1 (.cells #[.bool g1, .slice p1 n1 c1] 33) none
        have hb := heap_alloc_new v1 (.cells #[.bool g1, .slice p1 n1 c1] 33)
        replace bR := (hg.block _ (lt_of_block bR) (by simp)).trans bR; replace hW := grown_trans hW hg; clear hg
        obtain ⟨y0, y1, yf0, yf1⟩ := intbox_facts hb
        clear hb
        go_upto_region 5 with fail
        generalize v1.alloc (.cells #[.bool g1, .slice p1 n1 c1] 33) = uy at *
        generalize v1.heap.size = Ky at *
        obtain ⟨z0, z1, z2, f0, f1, f2⟩ := ratbox_facts bR
        go_wp2_with fail
        exact bodyPost_ret (v := .tuple #[.agg #[.bool false, .slice none 0 0, .slice none 0 0], .int .i64 (E : Int)]) (by simp [results, Tryz.results204, go_sem, z0, z1, z2]) rfl (HP.out _ _ (EPost.close (Nat.le_refl _) hW _ _ _ _))
      skip
      have HI := hid (fun W => riRd_ok (cuB l) hlb W h1)
      have hr0 : rqE l = 0 := by unfold rqE; rw [if_neg (by simpa using h1), if_neg (by rw [hf]; decide)]
      have hv : mkRat (riV (cuB l)) 1 = rqV l := by unfold rqV rqD; rw [if_neg (by rw [hf]; decide)]
      have HP : Hid (∀ e w', MPost w (rqV l) 260 e w' → RqPost w l e w') := hid (fun e w' h => ⟨fun h0 => absurd hr0 h0, fun _ => h⟩)
      have HV := hid hv
      generalize rqV l = v at *
      clear hv h1 hr0
      go_wp2_with fail
      refine (HI.out _).mono ?_
      rintro e v1 ⟨g1, p1, n1, c1, rfl, hI, hn1, hg⟩
      replace bR := (hg.block _ (lt_of_block bR) (by simp)).trans bR; replace hW := grown_trans hW hg; clear hg
      have hlty := lt_of_block bR
      have hg := World.grownBy_alloc v1 (.cells #[.bool g1, .slice p1 n1 c1] 33) none
      have hb := heap_alloc_new v1 (.cells #[.bool g1, .slice p1 n1 c1] 33)
      replace hI := hI.keep hg; replace bR := (hg.block _ (lt_of_block bR) (by simp)).trans bR; replace hW := grown_trans hW hg; clear hg
      obtain ⟨y0, y1, yf0, yf1⟩ := intbox_facts hb
      clear hb
      go_upto_region 8 with fail
      generalize v1.alloc (.cells #[.bool g1, .slice p1 n1 c1] 33) = uy at *
      generalize v1.heap.size = Ky at *
      have hg := grown_drew uy none
      replace hI := hI.keep hg; replace y0 := hg.cell y0 (by simp); replace y1 := hg.cell y1 (by simp); replace bR := (hg.block _ (lt_of_block bR) (by simp)).trans bR; replace hW := grown_trans hW hg; clear hg
      go_region_held3 (fun w' => w'.cell? ⟨Ky, 0, none⟩ = some (.bool g1) ∧ w'.cell? ⟨Ky, 1, none⟩ = some (.slice p1 n1 c1)) ((try go_split_ands) <;> (repeat' apply And.intro) <;> (repeat (first | (with_reducible assumption) | (with_reducible refine (grown_setCell _ _ _).cell ?_ (by simp; omega)) | (with_reducible refine (World.grownBy_alloc _ _ none).cell ?_ (by simp)) | (with_reducible refine (grown_drew _ none).cell ?_ (by simp)))))
        (first
          | (go_at_call 240; (with_reducible refine (refOneQ _).mono ?_); rintro e v2 ⟨p2, n2, c2, rfl, hO, hn2, hg⟩; replace hI := hI.keep hg; replace y0 := hg.cell y0 (by simp); replace y1 := hg.cell y1 (by simp); replace bR := (hg.block _ (lt_of_block bR) (by simp)).trans bR; replace hW := grown_trans hW hg; clear hg)
          | (go_at_call 205; (with_reducible refine (over_v 260 hI.z hO.isN HV.out (by omega) (by omega) (by omega)).mono ?_); rintro e v3 ⟨g9, p9, n9, c9, q9, m9, d9, rfl, hV, hn9, hm9, hg⟩; replace hI := hI.keep hg; replace hO := hO.keep hg; replace y0 := hg.cell y0 (by simp); replace y1 := hg.cell y1 (by simp); replace bR := (hg.block _ (lt_of_block bR) (by simp)).trans bR; replace hW := grown_trans hW hg; obtain ⟨z0, z1, z2, f0, f1, f2⟩ := ratbox_facts bR; clear hg))
      go_wp2_with fail
      exact bodyPost_ret (v := .tuple #[.agg #[.bool g9, .slice p9 n9 c9, .slice q9 m9 d9], .int .i64 0]) (by simp [results, Tryz.results204, go_sem, z0, z1, z2]) rfl (HP.out _ _ (MPost.close bR (Nat.le_refl _) hW hV (by omega) (by omega)))
end Go.Proofs.YtjpkncgfpbhnaaaGreatDoor
namespace Go.Proofs.YtjpkncgfpbhnaaaGreatDoor
open Go.ChangeShapes Go.WideShapes Go.ChangeAt Go.RowKit _root_.Nm
theorem tb_of_laid5 {W : World} (h : laidMetH Tryz.prog [("math/bits.deBruijn32tab", Rows.laid_math_bits_deBruijn32tab), ("math/bits.deBruijn64tab", Rows.laid_math_bits_deBruijn64tab), ("internal/strconv.uint64pow10", Rows.laid_internal_strconv_uint64pow10), ("strconv.ErrRange", Rows.laid_strconv_ErrRange), ("strconv.ErrSyntax", Rows.laid_strconv_ErrSyntax)] W) : Tb W := by
  rw [MakeChecks.laidMetH_plain _ _ _ (by kernel_rfl), tab_data] at h
  exact tb_of_tab (Lib.tabIs_of_head gTab tTab Tryz.underlying292 Tryz.underlying5 (by kernel_rfl) (by kernel_rfl) h.tail)
end Go.Proofs.YtjpkncgfpbhnaaaGreatDoor
