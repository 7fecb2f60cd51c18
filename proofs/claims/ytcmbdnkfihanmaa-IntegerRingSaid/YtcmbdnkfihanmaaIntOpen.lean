/-
  Arguments that are integers (a sign and a slice of limbs), opened.
-/
import Derived.Test.YtcmbdnkfihanmaaIntD
import Derived.Test.YtcmbdnkfihanmaaOpen
set_option linter.unusedVariables false
set_option linter.unusedSimpArgs false
namespace Go.Proofs.Ytcmbdnkfihanmaa
open Go.ChangeShapes Go.WideShapes Go.ChangeAt Go.RowKit Nm

theorem readInt : Try.prog.readableRec 25 = true := by kernel_rfl
theorem rowInt : 25 < Try.prog.types.size := of_decide_eq_true (by kernel_rfl)
theorem cellsInt : Try.prog.cellsOf 25 = 2 := by kernel_rfl
theorem cellsNat : Try.prog.cellsOf 23 = 1 := by kernel_rfl
theorem cellsBool : Try.prog.cellsOf 4 = 1 := by kernel_rfl

section
variable {H : Type} {enc : TypeId × Value → H} {W : World} {v : Value} {d : DataW H} {ps : List MemPlace}
set_option maxRecDepth 100000 in
theorem open_natcs {fuel : Nat} {cs : List Value} {x : DataW H × List MemPlace} (hf : DataW.trod enc Try.prog W 0 (fun _ => true) true fuel 23 cs = some x) :
    ∃ a n c xs, cs = [.slice a n c] ∧ IRd W .u16 a n c xs ∧ Dg 65536 xs := by
  rcases open_ints Try.underlying23 Try.underlying54 cells16 hf with ⟨hcs, hx⟩ | ⟨a, len', cap', zs, hcs, _, hl, hm, hz, hx, hcell, hwz⟩
  · exact ⟨none, 0, 0, [], hcs, IRd.nil W _, Dg.nil⟩
  · simp only [if_true] at hz
    have hb : ∀ z ∈ zs, 0 ≤ z ∧ z ≤ 65535 := fun z hzm => bounds_u16 (hwz z hzm)
    refine ⟨some a, len', cap', (zs.take len').map Int.toNat, hcs, ⟨by simp; omega, hl, by unfold maxLen at hm; omega, fun j hj => ?_⟩, fun x hx' => ?_⟩
    · have hj' : j < len' := by simp at hj; omega
      have hc := hcell j (by omega)
      have hg : zs.getD j 0 = zs[j]'(by omega) := by simp [List.getD, List.getElem?_eq_getElem (show j < zs.length by omega)]
      have hsp := World.cell?_spot (hcell 0 (by omega))
      have ha : ∃ b o, a = ⟨b, o, none⟩ := ⟨a.block, a.off, by
        cases a with
        | mk b o s => simp [Addr.add] at hsp; simp [hsp]⟩
      obtain ⟨b, o, rfl⟩ := ha
      refine ⟨b, o, rfl, ?_⟩
      rw [add_addr] at hc
      rw [hc, hg]
      have := hb _ (List.getElem_mem (show j < zs.length by omega))
      simp only [List.getElem_map, List.getElem_take]
      congr 2; omega
    · obtain ⟨z, hz1, rfl⟩ := List.mem_map.1 hx'
      have := hb z (List.mem_of_mem_take hz1)
      omega

set_option maxRecDepth 100000 in
theorem open_Int (hval : Value.okWide Try.prog W .any 0 25 v) (h0 : DataW.Trod enc Try.prog W 0 (fun _ => true) true 25 v d ps) :
    ∃ g a n c xs, v = .agg #[.bool g, .slice a n c] ∧ IRd W .u16 a n c xs ∧ Dg 65536 xs := by
  obtain ⟨cs, rfl, hsz⟩ := okWide_struct Try.underlying25 hval
  obtain ⟨fuel, hf⟩ := h0
  obtain ⟨y0, y1, k, hx, hl, h0, h1⟩ := trod_struct2 Try.underlying25 hf
  rw [cellsInt] at hl
  obtain ⟨b, hb, _⟩ := DataW.trod_bool Try.underlying4 h0
  obtain ⟨a, n, c, xs, hs, hr, hd⟩ := open_natcs h1
  rw [cellsBool] at hb
  rw [cellsNat] at hs
  refine ⟨b, a, n, c, xs, ?_, hr, hd⟩
  simp only [Value.cells] at hl hb hs
  obtain ⟨l⟩ := cs
  match l, hl with
  | [u, v], _ =>
    simp at hb hs
    rw [hb, hs]
end
end Go.Proofs.Ytcmbdnkfihanmaa
