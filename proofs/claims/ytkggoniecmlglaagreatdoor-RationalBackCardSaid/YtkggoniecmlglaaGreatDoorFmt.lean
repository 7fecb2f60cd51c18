/-
  Contracts of strconv.FormatUint and strconv.ParseUint in base 10.
-/
import Derived.Test.YtkggoniecmlglaaGreatDoorShelf
import Derived.Shelf.Strconv.Itoa2
import Derived.Lib.ItoaMem
import Derived.WalkKit
import Derived.BigCall
import Derived.BigGuard
set_option linter.unusedVariables false
set_option linter.unusedSimpArgs false
namespace Go.Proofs.YtkggoniecmlglaaGreatDoor
open Go.RowKit Go.Sort _root_.Nm

theorem zero_row (w : World) (T : TypeId) (nd : Nat) (hs : nd ≤ 24) : Holds (fun (b : UInt8) => Value.int .u8 (b.toNat : Int)) (w.alloc (.cells Lib.zeros24 T)) w.heap.size 0 (Array.replicate nd (0 : UInt8)) := fun j hj => by
  have hj' : j < nd := by simpa using hj
  refine ⟨?_, World.frozen?_alloc_new _ _ _ _⟩
  rw [World.cell?_alloc_new, Lib.zeros24_at _ (by omega), getElem!_pos _ j hj]
  simp

theorem fin_fmt (w : World) (o : Obj) (dk : Array UInt8) (k : Nat) : w.grownBy ((putRow (fun (b : UInt8) => Value.int .u8 (b.toNat : Int)) (w.alloc o) w.heap.size 0 dk).drewN k) none := by
  rw [alloc_eq_grow]
  obtain ⟨os', _, e⟩ := putRow_grow_new (fun (b : UInt8) => Value.int .u8 (b.toNat : Int)) w #[o] w.heap.size 0 dk (Nat.le_refl _)
  rw [e]
  exact ⟨rfl, rfl, rfl, by show _ ≤ ((grow w os').heap).size; simp, fun i hi _ => heap_grow_old w os' hi⟩

set_option maxHeartbeats 6400000 in
set_option maxRecDepth 100000 in
theorem fmtIn_any (u : Nat) (hu64 : u < 18446744073709551616) (w : World) (T : Tp w) :
    Calls Tryz.prog 102 #[.int .u64 u, .int .i64 10] w fun e w' => e = .returned (str (Lib.decDigits u)) ∧ w.grownBy w' none := by
  by_cases hs : u < 100
  · go_enter Tryz.func102, Tryz.ntmps102
    go_wp2_with (go_at_call 131; refine (small_sh u hs _).mono ?_; rintro e w' ⟨rfl, rfl⟩)
    go_ret
    exact ⟨rfl, grown_refl _ _⟩
  · have hu1 : 1 ≤ u := by omega
    have hnd20 : Lib.nDigits u ≤ 20 := by have := Lib.numDigits_eq u hu1 hu64; split at this <;> omega
    have hb3 : Lib.nDigits u ≤ 24 := by omega
    have hal : Tryz.prog.arrayLen 143 = 24 := by kernel_rfl
    have hsl1 : ∀ W, (Instr.sliceAt 143 (.pointer (some ⟨w.heap.size, 0, none⟩)) none (some (.int .i64 (Lib.nDigits u : Int))) none).run Tryz.prog W = .ok (.slice (some ⟨w.heap.size, 0, none⟩) (Lib.nDigits u) 24) W := fun W => by
      rw [run_sliceAt_array_h W 143 ⟨w.heap.size, 0, none⟩ (by kernel_rfl) .i64 (Lib.nDigits u : Int) (by omega) (by rw [hal]; omega)]
      go_simp
    have hH0 := zero_row w 143 (Lib.nDigits u) (by omega)
    have hfmt := format10_sh w.heap.size 0 24 u (Array.replicate (Lib.nDigits u) 0) (w.alloc (.cells Lib.zeros24 143)) hH0 (by rw [Array.size_replicate]; exact Lib.lt_pow_nDigits u) hu64 (by rw [Array.size_replicate]; omega)
    rw [Array.size_replicate] at hfmt
    have HH0 := Lib.hid hH0
    have T1 := Lib.tabIs_alloc T (.cells Lib.zeros24 143)
    clear hH0 hal
    go_enter Tryz.func102, Tryz.ntmps102
    go_wp2_with (first
      | (go_at_call 132; refine (numDigits_sh u hu1 hu64 _ T1).mono ?_; rintro e w' ⟨rfl, rfl⟩))
    go_at_call 133
    refine hfmt.mono ?_
    rintro e w' ⟨rfl, k, v', dk, rfl, hF⟩
    have hcv : (convert 96 9 (.slice (some ⟨w.heap.size, 0, none⟩) (Lib.nDigits u) 24)).run Tryz.prog ((putRow (fun (b : UInt8) => Value.int .u8 (b.toNat : Int)) (w.alloc (.cells Lib.zeros24 143)) w.heap.size 0 dk).drewN k) = .ok (.string ⟨(Lib.decDigits u).toArray⟩) ((putRow (fun (b : UInt8) => Value.int .u8 (b.toNat : Int)) (w.alloc (.cells Lib.zeros24 143)) w.heap.size 0 dk).drewN k) := by
      have h := run_convert_bytes_back (P := Tryz.prog) ((putRow (fun (b : UInt8) => Value.int .u8 (b.toNat : Int)) (w.alloc (.cells Lib.zeros24 143)) w.heap.size 0 dk).drewN k) 96 9 5 ⟨w.heap.size, 0, none⟩ 24 (Lib.decDigits u) (by kernel_rfl) (by kernel_rfl) (by kernel_rfl) (fun j hj => by
        rw [Lib.row_is_numeral hF j hj, Lib.add_plain, World.cell?_drewN]
        exact cell?_putRow (fun (b : UInt8) => Value.int .u8 (b.toNat : Int)) _ w.heap.size 0 _ dk HH0.out (by rw [hF.size, Array.size_replicate]) j (by rw [hF.size]; rw [Lib.decDigits_length] at hj; exact hj))
      rw [Lib.decDigits_length] at h
      exact h
    have hfin := fin_fmt w (.cells Lib.zeros24 143) dk k
    go_wp2
    go_ret
    exact ⟨rfl, hfin⟩

theorem fmtU_any (u : Nat) (hu64 : u < 18446744073709551616) (w : World) (T : Tp w) :
    Calls Tryz.prog 71 #[.int .u64 u, .int .i64 10] w fun e w' => e = .returned (str (Lib.decDigits u)) ∧ w.grownBy w' none := by
  have H := Lib.hid (fmtIn_any u hu64 w T)
  go_enter Tryz.func71, Tryz.ntmps71
  go_wp2_with (go_at_call 102; refine H.out.mono ?_; rintro e w' ⟨rfl, hg⟩)
  go_ret
  exact ⟨rfl, hg⟩

theorem bytesWorld_grown (w : World) (e : TypeId) (s : ByteArray) : w.grownBy (Lib.bytesWorld w e s) none := by
  exact ⟨rfl, rfl, rfl, by rw [Lib.bytesWorld_size]; omega, fun i hi _ => Lib.bytesWorld_at_old w e s i hi⟩

set_option maxHeartbeats 1000000 in
theorem parseU_any (s : ByteArray) (hne : s.size ≠ 0) (hl : s.size ≤ 19) (hd : DgS s.data.toList) (w : World) :
    Calls Tryz.prog 55 #[.string s, .int .i64 10, .int .i64 64] w fun e w' => e = .returned (.tuple #[.int .u64 (numF 0 s.data.toList : Nat), .nilIface]) ∧ w.grownBy w' none := by
  have hlt := numF_lt _ hd
  have hls : s.data.toList.length ≤ 19 := by rw [← Lib.size_eq]; exact hl
  have h19 : 10 ^ s.data.toList.length ≤ 10 ^ 19 := Nat.pow_le_pow_right (by omega) hls
  have hp := parse_ok s.data.toList 0 hd (Nat.lt_of_lt_of_le hlt (Nat.le_trans h19 (by decide)))
  have H := parseUint_sh s hne (by omega) w
  rw [hp] at H
  obtain ⟨n, hn⟩ : ∃ n, n = numF 0 s.data.toList := ⟨_, rfl⟩
  rw [← hn] at H ⊢
  rw [show Lib.uintTuple 127 (.ok n) = .tuple #[.int .u64 n, .nilIface] from rfl] at H
  have HH := Lib.hid H
  have hgw := bytesWorld_grown w 5 s
  clear hlt hls h19 hp H hn
  go_enter Tryz.func55, Tryz.ntmps55
  go_wp2_with (go_at_call 87; refine HH.out.mono ?_; rintro e w' ⟨rfl, rfl⟩)
  go_ret2
  exact ⟨rfl, hgw⟩
end Go.Proofs.YtkggoniecmlglaaGreatDoor
