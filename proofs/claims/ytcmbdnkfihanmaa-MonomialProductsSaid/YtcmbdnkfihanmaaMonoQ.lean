/-
  Contract of the specification of Quo.
-/
import Derived.Test.YtcmbdnkfihanmaaProg
import Derived.Test.YtcmbdnkfihanmaaMonoG
import Derived.Test.YtcmbdnkfihanmaaMonoP
import Derived.Deep.RegionHeld3
import Derived.Deep.AppendLies
import Derived.IntWalk
set_option linter.unusedVariables false
set_option linter.unusedSimpArgs false
namespace Go.Proofs.Ytcmbdnkfihanmaa
open Go.RowKit Nm

end Go.Proofs.Ytcmbdnkfihanmaa
namespace Nm
open Go Go.RowKit
/-- append of numbers to a slice of the call's own, in a region that draws its order -/
theorem step_zappend {P : Program} {ops : Array Oper} {o : Oper} {a : Act} {K : Act → World → Prop} {Q : Exit → Act → World → Prop} {E : Prop} (w : World) (hgd : o.guard = none) (s x : Operand) (t : TypeId)
    (ho : o.op = .call { callee := .builtin .append, args := #[s, x], argTypes := #[t, t] })
    (e : TypeId) (k : IntKind) (bytes : Nat) (h1 : P.underlying t = some (.slice e)) (h2 : (P.info? e).map (fun i => (i.zero, i.size, i.bytes)) = some (some (.int k 0), 1, bytes))
    (base : Nat) (p : Option Addr) (n c : Nat) (xs : List Int) (hs : a.eval s = .slice p n c) (hown : ZOwn w base e k p n c xs)
    (sp : Addr) (m c' : Nat) (ys : List Int) (hx : a.eval x = .slice (some sp) m c') (hrd : ZRd w k (some sp) m c' ys) (hm : 0 < m)
    (b1 : n + m ≤ 9223372036854775807) (b2 : (n + m) * bytes ≤ 140737488355328) (w0 : World) (hg0 : w0.grownBy w none) (hb0 : w0.heap.size ≤ base) (hbase : base ≤ w.heap.size)
    (hK : ∀ p' c2 w', ZOwn w' base e k p' (n + m) c2 (xs ++ ys) → w0.grownBy w' none → K (a.put o.dst (.slice p' (n + m) c2)) w') :
    if Region.wanted o (yielded ops a.tmps) = true then Oper.wp P o a w K Q else E := by
  obtain ⟨i, hi, hz0, hz1, hz2⟩ := info_parts h2
  subst hz2
  obtain ⟨b, o', hb, _, hc⟩ := hrd.block hm
  cases hb
  refine step_append_lies w hgd s x t ho base e i (.int k 0) 1 i.bytes h1 hi hz0 hz1 rfl (by rfl) (by decide) _ n (xs.map (zv k)) hs hown.2 ⟨b, o', none⟩ m c' (ys.map (zv k)) hx (by simp [hrd.len]) ?_ ?_ hm (by unfold maxLen; omega) b2 hbase _ rfl ?_
  · intro j u hu
    obtain ⟨hj, rfl⟩ := List.getElem?_eq_some_iff.1 hu
    have hj' : j < ys.length := by simpa using hj
    rw [add_addr, hc j hj']; simp
  · intro u hu
    obtain ⟨z, _, rfl⟩ := List.mem_map.1 hu
    rfl
  · intro g cap w' hown' hgr _ _
    refine hK _ cap w' ⟨by rw [List.length_append, hown.1, hrd.len], by simpa using hown'⟩ (grown_new hg0 hgr fun g hg => ?_)
    cases p with
    | none => simp [Value.ownBlock] at hg
    | some q =>
      simp [Value.ownBlock] at hg
      have := (hown.lt q rfl).1
      omega
end Nm
namespace Go.Proofs.Ytcmbdnkfihanmaa
open Go.RowKit Nm
/-- the first j differences -/
def dif (xs ys : List Int) (j : Nat) : List Int := (List.range j).map fun i => ex xs i - ex ys i
theorem dif_succ (xs ys : List Int) (j : Nat) : dif xs ys (j + 1) = dif xs ys j ++ [ex xs j - ex ys j] := by simp [dif, List.range_succ]
theorem dif_length (xs ys : List Int) (j : Nat) : (dif xs ys j).length = j := by simp [dif]
theorem dif_quo {xs ys : List Int} {B : Int} (hB : 0 ≤ B) (hx : RightZ B xs) (hy : RightZ B ys) (h : dvdB ys xs = true) : trimZ (dif xs ys xs.length) = trimZ (combZ (· - ·) xs ys) := by
  have hd := (dvdB_iff hB hx).1 h
  refine ext_ex (trimZ_last _) (trimZ_last _) fun i => ?_
  rw [ex_trimZ, ex_quoZ]
  rcases Nat.lt_or_ge i xs.length with hi | hi
  · rw [ex_lt (by rw [dif_length]; exact hi)]; simp [dif]
  · rw [ex_ge (by rw [dif_length]; exact hi)]
    have h1 := hd i
    have h2 := (hy.ex hB i).1
    rw [ex_ge hi] at h1 ⊢
    omega
set_option maxRecDepth 100000 in
set_option maxHeartbeats 1000000 in
theorem rquo_any (a b : Option Addr) (n m c d : Nat) (xs ys : List Int) (w : World) (h : ZRd w .i64 a n c xs) (k : ZRd w .i64 b m d ys) {B : Int} (hx : RightZ B xs) (hy : RightZ B ys) (hB : 0 ≤ B ∧ B ≤ 1099511627776) :
    Calls Try.prog 33 #[.slice a n c, .slice b m d] w (ZRes2 w (quoZ xs ys) (dvdB ys xs)) := by
  have HL := hid h.len
  have KL := hid k.len
  have hcap := h.cap
  have hmax := h.max
  have hn : n ≤ 64 := by rw [← HL.out]; exact hx.len
  have HQ := hid (fun h => dif_quo hB.1 hx hy h)
  have XB := hid (fun i => hx.room hB i)
  have YB := hid (fun i => hy.room hB i)
  have D := hid (rdivides_any b a m n d c ys xs w k h)
  unfold quoZ
  generalize dvdB ys xs = q at *
  cases q
  · rw [if_neg (by simp)]
    go_enter Try.func33, Try.ntmps33
    go_wp2_with fail
    refine (D.out).mono ?_
    rintro e w1 ⟨rfl, hg⟩
    go_wp2
    go_ret2
    exact ⟨none, 0, rfl, ZRd.nil _ _, hg⟩
  · rw [if_pos rfl]
    go_enter Try.func33, Try.ntmps33
    go_wp2_with fail
    refine (D.out).mono ?_
    rintro e w1 ⟨rfl, hg0⟩
    go_wp2
    have R2 := hid (fun (wr : World) (hg : w.grownBy wr none) i => rexp_nat b m d ys wr (k.keep hg) i)
    clear k hx hy
    go_loopw [6, 7] (fun s i wr => ∃ (j : Nat) (p : Option Addr) (cc : Nat), j ≤ n ∧ i = .int .i64 j ∧ s = .slice p j cc ∧ ZOwn wr w.heap.size 3 .i64 p j cc (dif xs ys j) ∧ w.grownBy wr none) (fun _ i _ => n - (intOf i).toNat)
    case atStart => exact ⟨0, none, 0, Nat.zero_le _, rfl, rfl, ZOwn.nil _ _ _ _, hg0⟩
    case round =>
      obtain ⟨j, p, cc, hj, rfl, rfl, ho, hgr⟩ := hrel
      by_cases hlt : j < n
      · have hi : j < xs.length := by rw [HL.out]; exact hlt
        have hgd : w.grownBy wr.drew none := grown_trans hgr (grown_drew _ _)
        obtain ⟨bb, oo, rfl, hc0⟩ := h.cel j hi
        rw [← ex_lt hi] at hc0
        have hc1 := hgd.cell hc0 (by simp)
        have HC0 := hid hc0
        have L2 := R2.out wr.drew hgd j
        have B1 := XB.out j
        have B2 := YB.out j
        have HS := hid (dif_succ xs ys j)
        have hji : (j : Int) < (n : Int) := by omega
        generalize ex xs j = x at *
        generalize ex ys j = y at *
        obtain ⟨b1, b2⟩ := B1
        obtain ⟨b3, b4⟩ := B2
        have H2 := hid L2
        have hok : w.heap.size ≤ wr.heap.size := hgr.size
        have ho1 : ZOwn wr.drew w.heap.size 3 .i64 p j cc (dif xs ys j) := ho.kept (grown_drew _ none) (.inl rfl)
        clear hc0 L2 h hgr ho
        generalize dif xs ys j = zs at *
        go_wp2
        have hwr : IntKind.i64.wrap (x - y) = x - y := IntWalk.i64_in _ (by omega)
        go_region_held3 (fun w' => w'.cell? ⟨bb, oo + j, none⟩ = some (.int .i64 x)) (first | assumption | (exact hg2.cell HC0.out (by simp)) | (refine (World.grownBy_alloc _ _ none).cell ?_ (by simp); assumption))
          (first
            | (go_at_call 29; (with_reducible refine (H2.out).mono ?_); rintro e w' ⟨rfl, rfl⟩)
            | (refine step_zappend _ rfl (.tmp 18) (.tmp 27) 35 rfl 3 .i64 8 Try.underlying35 infoInt w.heap.size _ _ _ zs rfl (ho1.kept (row := none) (World.grownBy_alloc _ _ _) (.inl rfl)) _ 1 1 [x - y] rfl ((zone_rd wr _ _ _ _ rfl).drew) (by omega) (by omega) (by omega) w (grown_trans hgd (World.grownBy_alloc _ _ _)) (Nat.le_refl _) (by simp; omega) ?_; intro p2 c2 w2 ho2 hg2))
        go_wp2
        exact ⟨⟨j + 1, _, _, by omega, rfl, rfl, by rw [HS.out]; exact ho2, hg2⟩, by simp [intOf]; omega⟩
      · obtain rfl : j = n := by omega
        have R := hid (cut_any p j cc _ wr ho.rd (by omega))
        have e : trimZ (dif xs ys j) = trimZ (combZ (· - ·) xs ys) := by have := HQ.out (by trivial); rwa [HL.out] at this
        rw [e] at R
        clear e
        go_wp2_with fail
        refine (R.out).mono ?_
        rintro e w2 ⟨p2, c2, rfl, hr2, hg2⟩
        go_wp2
        go_ret2
        exact ⟨p2, c2, rfl, hr2, grown_trans hgr hg2⟩
end Go.Proofs.Ytcmbdnkfihanmaa
