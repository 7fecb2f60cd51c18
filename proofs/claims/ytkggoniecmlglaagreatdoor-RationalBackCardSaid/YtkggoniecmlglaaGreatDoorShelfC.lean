/-
  strings.Cut at a separator of one byte.
-/
import Derived.Test.YtkggoniecmlglaaGreatDoorTxt
import Derived.Test.YtkggoniecmlglaaGreatDoorMem
import Derived.Test.YtkggoniecmlglaaGreatDoorProg
import Derived.Shelf.Strings.Search2
import Derived.BigCall
import Derived.Orders
set_option linter.unusedVariables false
set_option linter.unusedSimpArgs false
namespace Go.Proofs.YtkggoniecmlglaaGreatDoor
open Go.Shelf Go.RowKit _root_.Nm
set_option maxRecDepth 100000
def cuRen : Ren := ⟨fun n => match n with
    | 217 => 107
    | 219 => 84
    | 224 => 109
    | 225 => 108
    | 266 => 135
    | 267 => 110
    | 314 => 136
    | n => n,
  fun n => match n with
    | 3 => 3
    | 4 => 4
    | 5 => 5
    | 9 => 9
    | 46 => 100
    | 51 => 122
    | 146 => 147
    | n => n,
  fun n => match n with
    | 1 => 0
    | n => n⟩
theorem sh219 : Lays.n219 Tryz.prog cuRen where
  mixed := by kernel_rfl
  f217 := by kernel_rfl
  f219 := by kernel_rfl
  f224 := by kernel_rfl
  f225 := by kernel_rfl
  f266 := by kernel_rfl
  f267 := by kernel_rfl
  f314 := by kernel_rfl
  t3 := by kernel_rfl
  a3 := fun _ => by kernel_rfl
  z3 := fun _ => by kernel_rfl
  v3 := fun _ => by kernel_rfl
  t4 := by kernel_rfl
  a4 := fun _ => by kernel_rfl
  z4 := fun _ => by kernel_rfl
  v4 := fun _ => by kernel_rfl
  t5 := by kernel_rfl
  a5 := fun _ => by kernel_rfl
  z5 := fun _ => by kernel_rfl
  v5 := fun _ => by kernel_rfl
  t9 := by kernel_rfl
  a9 := fun _ => by kernel_rfl
  z9 := fun _ => by kernel_rfl
  v9 := fun _ => by kernel_rfl
  t46 := by kernel_rfl
  a46 := fun _ => by kernel_rfl
  z46 := fun _ => by kernel_rfl
  v46 := fun _ => by kernel_rfl
  t51 := by kernel_rfl
  a51 := fun _ => by kernel_rfl
  z51 := fun _ => by kernel_rfl
  v51 := fun _ => by kernel_rfl
  t146 := by kernel_rfl
  a146 := fun _ => by kernel_rfl
  z146 := fun _ => by kernel_rfl
  v146 := fun _ => by kernel_rfl
  g1 := by kernel_rfl

theorem index_sh (s : ByteArray) (c : UInt8) (w : World) :
    Calls Tryz.prog 84 #[.string s, .string ⟨#[c]⟩] w fun e w' => e = .returned (.int .i64 (Lib.indexByte s.data.toList c)) ∧ w' = w := Any.stringslite_Index_one sh219 s c w

/-- before the first 47, behind it, and whether there is one -/
def cuB (l : List UInt8) : List UInt8 := l.takeWhile (· ≠ 47)
def cuA (l : List UInt8) : List UInt8 := l.drop ((cuB l).length + 1)
def cuF (l : List UInt8) : Bool := decide ((cuB l).length < l.length)
theorem cuB_len (l : List UInt8) : (cuB l).length ≤ l.length := by
  have := (List.takeWhile_prefix (l := l) (fun x : UInt8 => decide (x ≠ 47))).length_le
  exact this
theorem cuB_take (l : List UInt8) : cuB l = l.take (cuB l).length := by
  have := List.takeWhile_prefix (l := l) (fun x : UInt8 => decide (x ≠ 47))
  exact (List.prefix_iff_eq_take.1 this)
theorem idx_cut : ∀ l : List UInt8, Lib.indexByte l 47 = if (cuB l).length < l.length then ((cuB l).length : Int) else -1 := by
  intro l
  induction l with
  | nil => rfl
  | cons c l ih =>
    by_cases h : c = 47
    · subst h; simp [Lib.indexByte, cuB]
    · have e : cuB (c :: l) = c :: cuB l := by simp [cuB, h]
      rw [e]
      have hb : (c == 47) = false := by simpa using h
      simp only [Lib.indexByte, List.length_cons, hb, ih]
      rw [if_neg (show ¬ (false = true) by decide)]
      by_cases hlt : (cuB l).length < l.length
      · have hn : ¬ ((((cuB l).length : Int) == -1) = true) := by first | (simp; done) | (simp; omega)
        rw [if_pos hlt, if_pos (show (cuB l).length + 1 < l.length + 1 by omega), if_neg hn]
        simp
      · rw [if_neg hlt, if_neg (show ¬ ((cuB l).length + 1 < l.length + 1) by omega)]
        rfl
theorem strOf {s : ByteArray} {l : List UInt8} (h : s.data.toList = l) : s = ⟨l.toArray⟩ := by subst h; exact (Lib.mk_data s).symm

theorem cutIn_any (s : ByteArray) (l : List UInt8) (hl : s.data.toList = l) (hmax : s.size ≤ 9223372036854775806) (w : World) :
    Calls Tryz.prog 50 #[.string s, .string ⟨#[47]⟩] w fun e w' => e = .returned (.tuple #[str (cuB l), str (cuA l), .bool (cuF l)]) ∧ w.grownBy w' none := by
  have hsz : s.size = l.length := by rw [Lib.size_eq, hl]
  have hI := index_sh s 47
  rw [hl, idx_cut] at hI
  have hbl := cuB_len l
  have htk := cuB_take l
  obtain ⟨k, hk⟩ : ∃ k, k = (cuB l).length := ⟨_, rfl⟩
  have hA : cuA l = l.drop (k + 1) := by rw [hk]; rfl
  have hF : cuF l = decide (k < l.length) := by rw [hk]; rfl
  rw [← hk] at hI hbl htk
  by_cases hlt : k < l.length
  · rw [if_pos hlt] at hI
    rw [decide_eq_true hlt] at hF
    have hx1 : s.extract 0 k = ⟨(l.take k).toArray⟩ := by rw [Lib.extract_eq, hl]; simp
    have hx2 : s.extract (k + 1) s.size = ⟨(l.drop (k + 1)).toArray⟩ := by rw [Lib.extract_eq, hl, List.take_of_length_le (by rw [List.length_drop]; omega)]
    have h1 : (k : Int) ≤ (s.size : Int) := by omega
    have h2 : (k : Int) + 1 ≤ (s.size : Int) := by omega
    have h3 : (s.size : Int) ≤ 9223372036854775806 := by omega
    have h4 : IntKind.i64.wrap ((k : Int) + 1) = (k : Int) + 1 := by rw [IntKind.wrap_i64]; omega
    have h5 : ((k : Int) + 1).toNat = k + 1 := by omega
    have HI := hid hI
    have HR := hid (And.intro htk (And.intro hA hF))
    clear hI hbl htk hk hA hF hlt hsz hl
    go_enter Tryz.func50, Tryz.ntmps50
    go_wp2_with (go_at_call 84; refine (HI.out _).mono ?_; rintro e w' ⟨rfl, rfl⟩)
    go_region
    all_goals go_wp2
    go_ret3
    exact ⟨by rw [HR.out.1, HR.out.2.1, HR.out.2.2]; rfl, grown_drew _ none⟩
  · rw [if_neg hlt] at hI
    rw [decide_eq_false hlt] at hF
    have hAe : cuA l = [] := by rw [hA]; exact List.drop_eq_nil_of_le (by omega)
    have hBe : cuB l = l := by rw [htk]; exact List.take_of_length_le (by omega)
    have hs := strOf hl
    subst hs
    have HI := hid hI
    have HR := hid (And.intro hBe (And.intro hAe hF))
    clear hI hbl htk hk hA hF hlt hsz hl
    go_enter Tryz.func50, Tryz.ntmps50
    go_wp2_with (go_at_call 84; refine (HI.out _).mono ?_; rintro e w' ⟨rfl, rfl⟩)
    go_ret3
    exact ⟨by rw [HR.out.1, HR.out.2.1, HR.out.2.2]; rfl, grown_refl _ _⟩

theorem cut_any (s : ByteArray) (l : List UInt8) (hl : s.data.toList = l) (hmax : s.size ≤ 9223372036854775806) (w : World) :
    Calls Tryz.prog 20 #[.string s, .string ⟨#[47]⟩] w fun e w' => e = .returned (.tuple #[str (cuB l), str (cuA l), .bool (cuF l)]) ∧ w.grownBy w' none := by
  have HI := hid (cutIn_any s l hl hmax)
  go_enter Tryz.func20, Tryz.ntmps20
  go_wp2_with (go_at_call 50; refine (HI.out _).mono ?_; rintro e w' ⟨rfl, hg⟩)
  first
    | go_ret3
    | go_ret
  exact ⟨rfl, hg⟩
end Go.Proofs.YtkggoniecmlglaaGreatDoor
