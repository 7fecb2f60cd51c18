/-
  The library's functions of this program are those that the shelf's contracts speak of: strings.HasPrefix, slices.BinarySearch.
-/
import Derived.Test.YtlkajmfpbgipbaaProg
import Derived.Test.YtlkajmfpbgipbaaMem
import Derived.Shelf.Strings.Prefix
import Derived.Shelf.Spec.SearchS
set_option linter.unusedVariables false
namespace Go.Proofs.Ytlkajmfpbgipbaa
open Go.Shelf Go.RowKit _root_.Nm
set_option maxRecDepth 100000
def lxRen : Ren := ⟨fun n => match n with
    | 99 => 67
    | 206 => 80
    | n => n,
  fun n => match n with
    | 0 => 0
    | 3 => 3
    | 4 => 4
    | 9 => 9
    | n => n,
  fun n => n⟩
def lxRen2 : Ren := ⟨fun n => match n with
    | 26 => 51
    | 33 => 70
    | 34 => 71
    | 38 => 82
    | n => n,
  fun n => match n with
    | 0 => 0
    | 3 => 3
    | 4 => 4
    | 9 => 9
    | 24 => 28
    | 40 => 92
    | n => n,
  fun n => n⟩
theorem lx99 : Lays.n99 Try.prog lxRen where
  mixed := by kernel_rfl
  f99 := by kernel_rfl
  f206 := by kernel_rfl
  t3 := by kernel_rfl
  a3 := fun _ => by kernel_rfl
  z3 := fun _ => by kernel_rfl
  v3 := fun _ => by kernel_rfl
  t4 := by kernel_rfl
  a4 := fun _ => by kernel_rfl
  z4 := fun _ => by kernel_rfl
  v4 := fun _ => by kernel_rfl
  t9 := by kernel_rfl
  a9 := fun _ => by kernel_rfl
  z9 := fun _ => by kernel_rfl
  v9 := fun _ => by kernel_rfl
theorem lx26 : Lays2.n26 Try.prog lxRen2 where
  mixed := by kernel_rfl
  f26 := by kernel_rfl
  f33 := by kernel_rfl
  f34 := by kernel_rfl
  f38 := by kernel_rfl
  t0 := by kernel_rfl
  a0 := fun _ => by kernel_rfl
  z0 := fun _ => by kernel_rfl
  v0 := fun _ => by kernel_rfl
  t3 := by kernel_rfl
  a3 := fun _ => by kernel_rfl
  z3 := fun _ => by kernel_rfl
  v3 := fun _ => by kernel_rfl
  t4 := by kernel_rfl
  a4 := fun _ => by kernel_rfl
  z4 := fun _ => by kernel_rfl
  v4 := fun _ => by kernel_rfl
  t9 := by kernel_rfl
  a9 := fun _ => by kernel_rfl
  z9 := fun _ => by kernel_rfl
  v9 := fun _ => by kernel_rfl
  t24 := by kernel_rfl
  a24 := fun _ => by kernel_rfl
  z24 := fun _ => by kernel_rfl
  v24 := fun _ => by kernel_rfl
  t40 := by kernel_rfl
  a40 := fun _ => by kernel_rfl
  z40 := fun _ => by kernel_rfl
  v40 := fun _ => by kernel_rfl
theorem hasPrefix_any (s p : ByteArray) (w : World) : Calls Try.prog 67 #[.string s, .string p] w fun e w' => e = .returned (.bool (Lib.hasPrefix s.data.toList p.data.toList)) ∧ w = w' :=
  (Any.strings_HasPrefix lx99 s p w).mono fun _ _ ⟨h, h2⟩ => ⟨h, h2.symm⟩
theorem binSearch_any (b off n c : Nat) (Sx : Nat → ByteArray) (x : ByteArray) (w : World) (hbig : n < 4611686018427387904) (hc : ∀ j, j < n → w.cell? ⟨b, off + j, none⟩ = some (.string (Sx j))) :
    Calls Try.prog 51 #[.slice (some ⟨b, off, none⟩) n c, .string x] w fun e w' =>
      e = .returned (.tuple #[.int .i64 (Lib.bsGo (fun t => Op.bytesLess (Sx t).toList x.toList) n 0 n : Nat), .bool (decide (Lib.bsGo (fun t => Op.bytesLess (Sx t).toList x.toList) n 0 n < n ∧ Sx (Lib.bsGo (fun t => Op.bytesLess (Sx t).toList x.toList) n 0 n) = x))]) ∧ ∃ q, w' = w.drewN q :=
  Any2.slices_BinarySearch_string lx26 b off n c Sx x w hbig hc
end Go.Proofs.Ytlkajmfpbgipbaa
