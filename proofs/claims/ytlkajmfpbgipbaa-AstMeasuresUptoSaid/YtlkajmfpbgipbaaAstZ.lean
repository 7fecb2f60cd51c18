/-
  Contract of Names.
-/
import Derived.Test.YtlkajmfpbgipbaaAstY
set_option linter.unusedVariables false
set_option linter.unusedSimpArgs false
namespace Go.Proofs.Ytlkajmfpbgipbaa
open Go.RowKit Go.Maps _root_.Nm
theorem vis_start (w : World) (X : Obj) : Vis ((((w.alloc X).alloc (.cells #[.slice none 0 0] 28 (0, 0))).alloc (.map #[] 0)).alloc (.cells #[.map (some (w.heap.size + 1 + 1))] 82 (0, 0))) (w.heap.size + 1 + 1 + 1) (w.heap.size + 1) (w.heap.size + 1 + 1) (w.heap.size + 4) [] := by
  have e1 : (w.alloc X).heap.size = w.heap.size + 1 := by simp
  have e2 : ((w.alloc X).alloc (.cells #[.slice none 0 0] 28 (0, 0))).heap.size = w.heap.size + 1 + 1 := by simp
  have e3 : (((w.alloc X).alloc (.cells #[.slice none 0 0] 28 (0, 0))).alloc (.map #[] 0)).heap.size = w.heap.size + 1 + 1 + 1 := by simp
  refine ⟨?_, ⟨none, 0, 0, ?_, SOwn.nil _ _ _ _⟩, ⟨.map [], isMap_empty, ?_, fun x hx => by simp at hx, fun x _ => rfl⟩, by omega⟩
  · rw [← e3]; exact blk0 _ _
  · rw [← e1]; exact blk2 _ _ _ _
  · rw [← e2]; exact (World.ownsMap_made _ _ _ _).alloc _
set_option maxHeartbeats 8000000 in
set_option maxRecDepth 100000 in
theorem names_any (m : Nat) (cs : List Value) (t : Tr) (w : World) (hE : ERd w m cs t) (hlen : (preF m t).length ≤ 1048576) :
    Calls Try.prog 32 #[.agg cs.toArray] w fun e w' => ∃ p n c, e = .returned (.slice p n c) ∧ NRd w' p n c (ded (preF m t)) ∧ w.grownBy w' none := by
  obtain ⟨k, nm, g, pn, nn, cn, pd, nd, cd, pa, na, ca, pos, rfl⟩ := hE.shape
  have hmm := @run_makeMap Try.prog
  have hmf : ∀ (fn : Fn) (first cap : Array Value) (w : World), (Instr.makeFunc fn first cap).run Try.prog w = .ok (.func fn first cap) w := fun _ _ _ _ => rfl
  have HC := hid (walk_any w (w.heap.size + 1 + 1 + 1) (w.heap.size + 1) (w.heap.size + 1 + 1) (w.heap.size + 4) (by omega) m _ t [] _ hE (by simpa using hlen) (grown_trans (World.grownBy_alloc _ _ none) (grown_trans (World.grownBy_alloc _ _ none) (grown_trans (World.grownBy_alloc _ _ none) (World.grownBy_alloc _ _ none)))) (by simp) (vis_start w (.cells #[.int .i64 k, .string nm, .bool g, .slice pn nn cn, .slice pd nd cd, .slice pa na ca, .int .i64 pos] 50 (0, 0))))
  clear hE hlen
  go_enter Try.func32, Try.ntmps32
  go_wp2_with (go_at_call 56; refine HC.out.mono ?_; rintro e w2 ⟨rfl, hP⟩; obtain ⟨p, n, c, hS, hO⟩ := hP.vis.hs; have cS := cell_of_one hS)
  go_ret
  exact ⟨p, n, c, rfl, SOwn.rd hO, hP.gr⟩
end Go.Proofs.Ytlkajmfpbgipbaa
