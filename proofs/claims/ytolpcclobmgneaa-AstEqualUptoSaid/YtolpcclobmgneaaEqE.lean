/-
  Contract of the law's moved: the tree with other positions, in new memory.
-/
import Derived.Test.YtolpcclobmgneaaEqX
import Derived.Deep.RegionLaw
set_option linter.unusedVariables false
set_option linter.unusedSimpArgs false
namespace Go.Proofs.Ytolpcclobmgneaa
open Go.RowKit _root_.Nm
theorem infoExpr : (Try.prog.info? 30).map (fun i => (i.zero, i.size, i.bytes)) = some (some (.agg #[.int .i64 0, .string ⟨#[]⟩, .bool false, .slice none 0 0, .slice none 0 0, .slice none 0 0, .int .i64 0]), 7, 112) := by kernel_rfl
theorem wrap_eq (x : Int) : wrap64 x = IntKind.i64.wrap x := (IntWalk.i64_left x).symm
theorem set7_block {w : World} {G : Nat} {a b c d e f g : Value} {T : TypeId} (hb : w.heap[G]? = some (.cells #[a, b, c, d, e, f, g] T (0, 0))) (a' b' c' d' e' f' g' : Value) :
    (((((((w.setCell ⟨G, 0, none⟩ a').setCell ⟨G, 1, none⟩ b').setCell ⟨G, 2, none⟩ c').setCell ⟨G, 3, none⟩ d').setCell ⟨G, 4, none⟩ e').setCell ⟨G, 5, none⟩ f').setCell ⟨G, 6, none⟩ g').heap[G]? = some (.cells #[a', b', c', d', e', f', g'] T (0, 0)) := by
  have h1 := heap_setCell_same w G 0 _ _ a' hb
  have h2 := heap_setCell_same _ G 1 _ _ b' h1
  have h3 := heap_setCell_same _ G 2 _ _ c' h2
  have h4 := heap_setCell_same _ G 3 _ _ d' h3
  have h5 := heap_setCell_same _ G 4 _ _ e' h4
  have h6 := heap_setCell_same _ G 5 _ _ f' h5
  have h7 := heap_setCell_same _ G 6 _ _ g' h6
  simpa using h7
theorem set7_grown (w : World) (G : Nat) (a' b' c' d' e' f' g' : Value) : w.grownBy (((((((w.setCell ⟨G, 0, none⟩ a').setCell ⟨G, 1, none⟩ b').setCell ⟨G, 2, none⟩ c').setCell ⟨G, 3, none⟩ d').setCell ⟨G, 4, none⟩ e').setCell ⟨G, 5, none⟩ f').setCell ⟨G, 6, none⟩ g') (some G) :=
  grown_trans (grown_setCell w ⟨G, 0, none⟩ a') (grown_trans (grown_setCell _ ⟨G, 1, none⟩ b') (grown_trans (grown_setCell _ ⟨G, 2, none⟩ c') (grown_trans (grown_setCell _ ⟨G, 3, none⟩ d') (grown_trans (grown_setCell _ ⟨G, 4, none⟩ e') (grown_trans (grown_setCell _ ⟨G, 5, none⟩ f') (grown_setCell _ ⟨G, 6, none⟩ g'))))))
theorem exprZ : (Value.agg #[.int .i64 0, .string ⟨#[]⟩, .bool false, .slice none 0 0, .slice none 0 0, .slice none 0 0, .int .i64 0]).cells.size = 7 := by kernel_rfl
theorem oneCells {k : Int} {nm : ByteArray} {g : Bool} {pn : Option Addr} {nn cn : Nat} {pd : Option Addr} {nd cd : Nat} {pa : Option Addr} {na ca : Nat} {pos : Int} :
    ∀ u ∈ [Value.int .i64 k, .string nm, .bool g, .slice pn nn cn, .slice pd nd cd, .slice pa na ca, .int .i64 pos], u.oneCell' = true := by
  intro u hu
  simp only [List.mem_cons, List.not_mem_nil, or_false] at hu
  rcases hu with rfl | rfl | rfl | rfl | rfl | rfl | rfl <;> rfl

set_option maxHeartbeats 16000000 in
set_option maxRecDepth 100000 in
theorem moved_any : ∀ (m : Nat) (X : Nat → Prop) (cs : List Value) (t : Tr) (d : Int) (w : World), (∀ b, X b → b < w.heap.size) → ERdX X w m cs t → szF m t ≤ 1048576 →
    Calls Try.prog 7 #[.agg cs.toArray, .int .i64 d] w fun e w' => ∃ cs', e = .returned (.agg cs'.toArray) ∧ ERdX X w' m cs' (movF m d t) ∧ w.grownBy w' none
  | 0, _, _, _, _, _, _, h, _ => h.elim
  | m + 1, X, cs, .node h l, d, w, hXs, hE, hsz => by
    have IH := hid (moved_any m)
    obtain ⟨e1, e2, e3, p1, n1, c1, p2, n2, c2, pa, na, ca, e7, rfl⟩ := hE.erd.shape
    have hlen := sz_len hE.erd
    have HSZ : Hid (∀ i (hi : i < l.length), szF m l[i] ≤ 1048576) := hid fun i hi => by have := sz_child m h l hi; omega
    have hlN : l.length ≤ 1048576 := by omega
    obtain ⟨⟨r1, r2, r3, r7⟩, hn, hd, hA, hnm⟩ := ARdX.of hE
    obtain ⟨⟨hla, hca, hma⟩, _⟩ := id hA
    have HXX := hid hXs
    have HA := hid (ARdX.more (X' := fun b => X b ∨ w.heap.size ≤ b) (fun b hb => hb) hA)
    have hml : (l.map (movF m (wrap64 (d + 1)))).length = l.length := by simp
    have HMG : Hid (∀ i (hi : i < l.length) (hi' : i < (l.map (movF m (wrap64 (d + 1)))).length), (l.map (movF m (wrap64 (d + 1))))[i] = movF m (wrap64 (d + 1)) l[i]) := hid fun i hi hi' => by rw [List.getElem_map]
    have HFIN : Hid (∀ (w' : World), w.grownBy w' none → ∀ p c, ARdX X w' m p na c (l.map (movF m (wrap64 (d + 1)))) → ERdX X w' (m + 1) [.int .i64 e1, .string e2, .bool e3, .slice p1 n1 c1, .slice p2 n2 c2, .slice p na c, .int .i64 (wrap64 (e7 + d))] (movF (m + 1) d (.node h l))) := hid fun w' hg p c hA' => by
      rw [movF_succ, ← r7]
      have := ARdX.erdX (k := e1) (nm := e2) (g := e3) (pos := wrap64 (e7 + d)) (hn.kept hg (fun g e => by cases e)) (hd.kept hg (fun g e => by cases e)) hA' hnm
      rw [r1, r2, r3] at this ⊢
      exact this
    generalize l.map (movF m (wrap64 (d + 1))) = ml at *
    clear hE hn hd hA hsz r1 r2 r3 r7 hlen hnm hXs
    have hW := grown_trans (World.grownBy_alloc w (.cells #[.int .i64 e1, .string e2, .bool e3, .slice p1 n1 c1, .slice p2 n2 c2, .slice pa na ca, .int .i64 e7] 30 (0, 0)) none) (World.grownBy_alloc _ (.cells #[.int .i64 0, .string ⟨#[]⟩, .bool false, .slice none 0 0, .slice none 0 0, .slice none 0 0, .int .i64 0] 30 (0, 0)) none)
    obtain ⟨⟨k0, k1, k2, k3, k4, k5, k6⟩, -⟩ := box7 (blk1 w (.cells #[.int .i64 e1, .string e2, .bool e3, .slice p1 n1 c1, .slice p2 n2 c2, .slice pa na ca, .int .i64 e7] 30 (0, 0)) (.cells #[.int .i64 0, .string ⟨#[]⟩, .bool false, .slice none 0 0, .slice none 0 0, .slice none 0 0, .int .i64 0] 30 (0, 0)))
    have bz := blk0 (w.alloc (.cells #[.int .i64 e1, .string e2, .bool e3, .slice p1 n1 c1, .slice p2 n2 c2, .slice pa na ca, .int .i64 e7] 30 (0, 0))) (.cells #[.int .i64 0, .string ⟨#[]⟩, .bool false, .slice none 0 0, .slice none 0 0, .slice none 0 0, .int .i64 0] 30 (0, 0))
    rw [show (w.alloc (.cells #[.int .i64 e1, .string e2, .bool e3, .slice p1 n1 c1, .slice p2 n2 c2, .slice pa na ca, .int .i64 e7] 30 (0, 0))).heap.size = w.heap.size + 1 by simp] at bz
    have hs0 : ((w.alloc (.cells #[.int .i64 e1, .string e2, .bool e3, .slice p1 n1 c1, .slice p2 n2 c2, .slice pa na ca, .int .i64 e7] 30 (0, 0))).alloc (.cells #[.int .i64 0, .string ⟨#[]⟩, .bool false, .slice none 0 0, .slice none 0 0, .slice none 0 0, .int .i64 0] 30 (0, 0))).heap.size = w.heap.size + 2 := by simp
    go_enter Try.func7, Try.ntmps7
    go_upto_region 1 with fail
    generalize ((w.alloc _).alloc _) = w0 at *
    obtain ⟨⟨o0, o1, o2, o3, o4, o5, o6⟩, f0, f1, f2, f3, f4, f5, f6⟩ := box7 (blk0 w0 (zeroE 30))
    unfold zeroE at o0 o1 o2 o3 o4 o5 o6 f0 f1 f2 f3 f4 f5 f6
    go_upto_region 2 with fail
    have bx := blk0 w0 (.cells #[.int .i64 e1, .string e2, .bool e3, .slice p1 n1 c1, .slice p2 n2 c2, .slice none 0 0, .int .i64 (wrap64 (e7 + d))] 30 (0, 0))
    rw [hs0] at bx
    have hz1 := (World.grownBy_alloc w0 (.cells #[.int .i64 e1, .string e2, .bool e3, .slice p1 n1 c1, .slice p2 n2 c2, .slice none 0 0, .int .i64 (wrap64 (e7 + d))] 30 (0, 0)) none)
    have hs1 : (w0.alloc (.cells #[.int .i64 e1, .string e2, .bool e3, .slice p1 n1 c1, .slice p2 n2 c2, .slice none 0 0, .int .i64 (wrap64 (e7 + d))] 30 (0, 0))).heap.size = w.heap.size + 3 := by simp [hs0]
    replace bz := keepB bz hz1
    replace k5 := hz1.cell k5 (by simp)
    replace hW := grown_trans hW hz1
    clear hz1 hs0 o0 o1 o2 o3 o4 o5 o6 f0 f1 f2 f3 f4 f5 f6 k0 k1 k2 k3 k4 k6
    generalize (w0.alloc _) = w1 at *
    go_wp2_with fail
    have HW1 := hid hW
    have BX := hid bx
    have BZ := hid bz
    clear k5 hW bx bz
    go_loopw [22] (fun x wr => ∃ (k : Nat) (p : Option Addr) (c : Nat) (L : List (List Value)), k ≤ na ∧ x = .int .i64 k ∧ wr.heap[w.heap.size + 2]? = some (.cells #[.int .i64 e1, .string e2, .bool e3, .slice p1 n1 c1, .slice p2 n2 c2, .slice p k c, .int .i64 (wrap64 (e7 + d))] 30 (0, 0)) ∧ wr.heap[w.heap.size + 1]? = some (.cells #[.int .i64 0, .string ⟨#[]⟩, .bool false, .slice none 0 0, .slice none 0 0, .slice none 0 0, .int .i64 0] 30 (0, 0)) ∧ SOwn wr (w.heap.size + 3) 30 7 p k c L ∧ w.grownBy wr none ∧ RowsE (fun b => X b ∨ b = w.heap.size + 1 ∨ b = w.heap.size + 2 ∨ p.map (·.block) = some b) wr m L ml ∧ w.heap.size + 3 ≤ wr.heap.size) (fun x _ => na - (intOf x).toNat)
    case atStart => exact ⟨0, none, 0, [], Nat.zero_le _, rfl, BX.out, BZ.out, SOwn.nil _ _ _ _, HW1.out, ⟨Nat.zero_le _, fun i hi => absurd hi (Nat.not_lt_zero i)⟩, by omega⟩
    case round =>
      clear BX BZ
      obtain ⟨k, p, c, L, hk, rfl, hbx, hbz, hO, hgr, hR, hsz⟩ := hrel
      have HR := hid hR
      have HBZ := hid hbz
      have HNE : Hid (∀ q, p = some q → q.block ≠ w.heap.size + 2 ∧ q.block ≠ w.heap.size + 1) := hid fun q hq => by have := (hO.lt q hq).1; omega
      have hLk := hO.1
      have HPB : Hid (∀ b, p.map (·.block) = some b → w.heap.size + 3 ≤ b ∧ b < wr.heap.size) := hid fun b hb => by
        cases p with
        | none => simp at hb
        | some q => simp at hb; have := hO.lt q rfl; omega
      clear hR hbz
      by_cases hlt : k < na
      · obtain ⟨bA, oA, x1, x2, x3, q1, m1, d1, q2, m2, d2, q3, m3, d3, x7, rfl, hE2, a0, a1, a2, a3, a4, a5, a6⟩ := (HA.out.keep hgr).at (i := k) (by omega)
        have hG1 := World.grownBy_alloc wr (.cells #[.int .i64 x1, .string x2, .bool x3, .slice q1 m1 d1, .slice q2 m2 d2, .slice q3 m3 d3, .int .i64 x7] 30 (0, 0)) none
        have HC := hid fun w' (hg : (wr.alloc (.cells #[.int .i64 x1, .string x2, .bool x3, .slice q1 m1 d1, .slice q2 m2 d2, .slice q3 m3 d3, .int .i64 x7] 30 (0, 0))).grownBy w' none) => IH.out (fun b => X b ∨ b = w.heap.size + 1 ∨ b = w.heap.size + 2 ∨ p.map (·.block) = some b) _ _ (wrap64 (d + 1)) w' (fun b hb => by have h1 := hg.size; have h2 := hG1.size; rcases hb with h | h | h | h; have := HXX.out b h; omega; omega; omega; have := HPB.out b h; omega) ((hE2.more (fun b hb => .inl (by rcases hb with h | h | h | h; exact .inl h; exact .inr (by omega); exact .inr (by omega); exact .inr (by have := HPB.out b h; omega)))).keep (grown_trans hG1 hg)) (HSZ.out k (by omega))
        rw [show wrap64 (d + 1) = IntKind.i64.wrap (d + 1) from wrap_eq _] at HC
        have HGR := hid (grown_trans hgr hG1)
        clear hE2
        obtain ⟨⟨o0, o1, o2, o3, o4, o5, o6⟩, f0, f1, f2, f3, f4, f5, f6⟩ := box7 (blk0 wr (zeroE 30))
        unfold zeroE at o0 o1 o2 o3 o4 o5 o6 f0 f1 f2 f3 f4 f5 f6
        go_upto_region 5 with fail
        clear o0 o1 o2 o3 o4 o5 o6 f0 f1 f2 f3 f4 f5 f6 a0 a1 a2 a3 a4 a5 a6
        obtain ⟨⟨a0, a1, a2, a3, a4, a5, a6⟩, -⟩ := box7 (blk0 wr (.cells #[.int .i64 x1, .string x2, .bool x3, .slice q1 m1 d1, .slice q2 m2 d2, .slice q3 m3 d3, .int .i64 x7] 30 (0, 0)))
        replace hbx := keepB hbx hG1
        have hbz := keepB HBZ.out hG1
        replace hO := hO.keep hG1
        have hR5 := HR.out.keep hG1
        have hsz5 := hG1.size
        generalize (wr.alloc _) = w5 at *
        obtain ⟨⟨k0, k1, k2, k3, k4, k5, k6⟩, f0, f1, f2, f3, f4, f5, f6⟩ := box7 hbx
        have hs5 : w.heap.size + 3 ≤ w5.heap.size := by omega
        have hgg := grown_refl w5 none
        clear hsz5
        refine wp_region_any (by kernel_rfl) ?_
        change wpAny _ _ _ _ _ _ _ (World.drew _)
        have hgd := grown_drew w5 none
        replace hbx := keepB hbx hgd
        replace hbz := keepB hbz hgd
        replace hO := hO.keep hgd
        replace hR5 := hR5.keep hgd
        replace hgg := hgd
        replace a0 := hgd.cell a0 (by simp)
        replace a1 := hgd.cell a1 (by simp)
        replace a2 := hgd.cell a2 (by simp)
        replace a3 := hgd.cell a3 (by simp)
        replace a4 := hgd.cell a4 (by simp)
        replace a5 := hgd.cell a5 (by simp)
        replace a6 := hgd.cell a6 (by simp)
        have hsd := hgd.size
        clear k0 k1 k2 k3 k4 k5 k6 f0 f1 f2 f3 f4 f5 f6
        obtain ⟨⟨k0, k1, k2, k3, k4, k5, k6⟩, f0, f1, f2, f3, f4, f5, f6⟩ := box7 hbx
        generalize w5.drew = wd at *
        refine wpAny_take (i := 0) (oi := Oper.mk _ _ _ _ _ _) (v := ?_) rfl (by kernel_rfl) (by kernel_rfl) (by kernel_rfl) (fun _ _ _ h => h) (Or.inl ⟨by kernel_rfl, ?_⟩) ?_
        rotate_left 1
        · intro w
          go_simp
          try (with_reducible rfl)
        try simp only [Act.put, List.setIfInBounds_toArray, List.set_cons_zero, List.set_cons_succ]
        refine wpAny_take (i := 3) (oi := Oper.mk _ _ _ _ _ _) (v := ?_) rfl (by kernel_rfl) (by kernel_rfl) (by kernel_rfl) (fun _ _ _ h => h) (Or.inl ⟨by kernel_rfl, ?_⟩) ?_
        rotate_left 1
        · intro w
          go_simp
          try (with_reducible rfl)
        try simp only [Act.put, List.setIfInBounds_toArray, List.set_cons_zero, List.set_cons_succ]
        refine wpAny_take (i := 4) (oi := Oper.mk _ _ _ _ _ _) (v := ?_) rfl (by kernel_rfl) (by kernel_rfl) (by kernel_rfl) (fun _ _ _ h => h) (Or.inl ⟨by kernel_rfl, ?_⟩) ?_
        rotate_left 1
        · intro w
          go_simp
          try (with_reducible rfl)
        try simp only [Act.put, List.setIfInBounds_toArray, List.set_cons_zero, List.set_cons_succ]
        refine wpAny_ready (rs := [1, 2]) (by kernel_rfl) (by simp) ?_
        refine AllReady.cons (o := Oper.mk _ _ _ _ _ _) rfl (fun K hK => ?_) ?_
        · refine step_go rfl ?_
          go_simp
          refine hK _ _ ?_
          clear hK K
          try simp only [Act.put, List.setIfInBounds_toArray, List.set_cons_zero, List.set_cons_succ]
          refine wpAny_ready (rs := [2]) (by kernel_rfl) (by simp) ?_
          refine AllReady.cons (o := Oper.mk _ _ _ _ _ _) rfl (fun K hK => ?_) ?_
          rotate_left 1
          · exact AllReady.nil
          refine step_go rfl ?_
          go_simp
          refine hK _ _ ?_
          clear hK K
          try simp only [Act.put, List.setIfInBounds_toArray, List.set_cons_zero, List.set_cons_succ]
          refine wpAny_ready (rs := [5]) (by kernel_rfl) (by simp) ?_
          refine AllReady.cons (o := Oper.mk _ _ _ _ _ _) rfl (fun K hK => ?_) ?_
          rotate_left 1
          · exact AllReady.nil
          refine step_go rfl ?_
          go_simp
          go_at_call 7
          refine (HC.out _ hgg).mono ?_
          rintro e w6 ⟨cs6, rfl, hE6, hg6⟩
          obtain ⟨y1, y2, y3, s1, r1, t1, s2, r2, t2, s3, r3, t3, y7, rfl⟩ := hE6.erd.shape
          replace hbx := keepB hbx hg6
          replace hbz := keepB hbz hg6
          replace hR5 := hR5.keep hg6
          replace hO := hO.keep hg6
          have hs6 := hg6.size
          replace hgg := grown_trans hgg hg6
          clear k0 k1 k2 k3 k4 k5 k6 f0 f1 f2 f3 f4 f5 f6
          obtain ⟨⟨k0, k1, k2, k3, k4, k5, k6⟩, f0, f1, f2, f3, f4, f5, f6⟩ := box7 hbx
          refine hK _ _ ?_
          clear hK K
          try simp only [Act.put, List.setIfInBounds_toArray, List.set_cons_zero, List.set_cons_succ]
          refine wpAny_ready (rs := [6]) (by kernel_rfl) (by simp) ?_
          refine AllReady.cons (o := Oper.mk _ _ _ _ _ _) rfl (fun K hK => ?_) ?_
          rotate_left 1
          · exact AllReady.nil
          refine step_go rfl ?_
          go_simp
          refine hK _ _ ?_
          clear hK K
          try simp only [Act.put, List.setIfInBounds_toArray, List.set_cons_zero, List.set_cons_succ]
          have hgB := World.grownBy_alloc w6 (.cells #[.int .i64 y1, .string y2, .bool y3, .slice s1 r1 t1, .slice s2 r2 t2, .slice s3 r3 t3, .int .i64 y7] 30 (0, 0)) none
          have hrd := one_srd w6 30 7 [.int .i64 y1, .string y2, .bool y3, .slice s1 r1 t1, .slice s2 r2 t2, .slice s3 r3 t3, .int .i64 y7] rfl w6.heap.size rfl
          replace hbx := keepB hbx hgB
          replace hbz := keepB hbz hgB
          replace hR5 := hR5.keep hgB
          replace hO := hO.keep hgB
          replace hE6 := hE6.keep hgB
          replace hgg := grown_trans hgg hgB
          have hsB := hgB.size
          generalize (w6.alloc _) = w7 at *
          generalize w6.heap.size = K6 at *
          clear k0 k1 k2 k3 k4 k5 k6 f0 f1 f2 f3 f4 f5 f6
          obtain ⟨⟨k0, k1, k2, k3, k4, k5, k6⟩, f0, f1, f2, f3, f4, f5, f6⟩ := box7 hbx
          refine wpAny_ready (rs := [7]) (by kernel_rfl) (by simp) ?_
          refine AllReady.cons (o := Oper.mk _ _ _ _ _ _) rfl (fun K hK => ?_) ?_
          rotate_left 1
          · exact AllReady.nil
          refine step_sappend_at w7 rfl (.tmp 27) (.tmp 32) 28 rfl 30 7 (.agg #[.int .i64 0, .string ⟨#[]⟩, .bool false, .slice none 0 0, .slice none 0 0, .slice none 0 0, .int .i64 0]) 112 Try.underlying28 infoExpr exprZ (by omega) (w.heap.size + 3) p k c L rfl hO _ 1 [.int .i64 y1, .string y2, .bool y3, .slice s1 r1 t1, .slice s2 r2 t2, .slice s3 r3 t3, .int .i64 y7] rfl hrd oneCells (by omega) (by omega) (by omega) ?_
          intro p' c2 w8 hO8 hg8 hat
          have hbx7 := hbx
          replace hbx := (hg8.block (w.heap.size + 2) (lt_of_block hbx) (fun e => by have := HPB.out _ e.symm; omega)).trans hbx
          replace hbz := (hg8.block (w.heap.size + 1) (lt_of_block hbz) (fun e => by have := HPB.out _ e.symm; omega)).trans hbz
          clear hbx7 k0 k1 k2 k3 k4 k5 k6 f0 f1 f2 f3 f4 f5 f6
          obtain ⟨⟨k0, k1, k2, k3, k4, k5, k6⟩, f0, f1, f2, f3, f4, f5, f6⟩ := box7 hbx
          refine hK _ _ ?_
          clear hK K
          try simp only [Act.put, List.setIfInBounds_toArray, List.set_cons_zero, List.set_cons_succ]
          refine wpAny_ready (rs := [8]) (by kernel_rfl) (by simp) ?_
          refine AllReady.cons (o := Oper.mk _ _ _ _ _ _) rfl (fun K hK => ?_) ?_
          rotate_left 1
          · exact AllReady.nil
          refine step_go rfl ?_
          go_simp
          refine hK _ _ ?_
          clear hK K
          try simp only [Act.put, List.setIfInBounds_toArray, List.set_cons_zero, List.set_cons_succ]
          refine wpAny_ready (rs := [9]) (by kernel_rfl) (by simp) ?_
          refine AllReady.cons (o := Oper.mk _ _ _ _ _ _) rfl (fun K hK => ?_) ?_
          rotate_left 1
          · exact AllReady.nil
          refine step_go rfl ?_
          go_simp
          refine hK _ _ ?_
          clear hK K
          try simp only [Act.put, List.setIfInBounds_toArray, List.set_cons_zero, List.set_cons_succ]
          refine wpAny_done (by kernel_rfl) ?_ _
          have hst := heap_setCell_same w8 (w.heap.size + 2) 5 _ _ (.slice p' (k + 1) c2) hbx
          simp at hst
          have hgw8 : w.grownBy w8 none := grown_new (grown_trans HGR.out hgg) hg8 (fun g e => by have := HPB.out g e; omega)
          have hgS := set1_grown hgw8 (w.heap.size + 2) 5 (.slice p' (k + 1) c2) (by omega)
          have hgs := grown_setCell w8 ⟨w.heap.size + 2, 5, none⟩ (.slice p' (k + 1) c2)
          have hO9 := hO8.kept hgs (.inr fun q hq => by have := (hO8.lt q hq).1; simp; omega)
          have hbz9 := (hgs.block (w.heap.size + 1) (lt_of_block hbz) (by simp)).trans hbz
          have hss := hgs.size
          have hsg := hg8.size
          have hRA := RowsE.snoc hR5 (by omega) (by have h1 := HMG.out k (by omega) (by omega); simp only [hLk]; rw [h1, wrap_eq]; exact hE6)
          have hRB := hRA.more (X' := fun b => X b ∨ b = w.heap.size + 1 ∨ b = w.heap.size + 2 ∨ p.map (·.block) = some b ∨ b = w7.heap.size) (fun b hb => by rcases hb with h | h | h | h | h; exact .inl (.inl h); exact .inl (.inr (.inl h)); exact .inl (.inr (.inr (.inl h))); exact .inl (.inr (.inr (.inr h))); exact .inr (by omega))
          have hRC := (hRB.kept hg8 (fun g e => .inr (.inr (.inr (.inl e))))).kept hgs (fun g e => by cases e; exact .inr (.inr (.inl rfl)))
          have hRD := hRC.more (X' := fun b => X b ∨ b = w.heap.size + 1 ∨ b = w.heap.size + 2 ∨ p'.map (·.block) = some b) (fun b hb => by rcases hb with h | h | h | h; exact .inl (.inl h); exact .inl (.inr (.inl h)); exact .inl (.inr (.inr (.inl h))); rcases hat with h2 | h2; exact .inl (.inr (.inr (.inr (.inl (h2 ▸ h))))); exact .inl (.inr (.inr (.inr (.inr (by rw [h2] at h; simpa using h.symm))))))
          have HEND := hid (And.intro hst (And.intro hgS (And.intro hO9 (And.intro hbz9 (And.intro hRD (show w.heap.size + 3 ≤ (w8.setCell ⟨w.heap.size + 2, 5, none⟩ (.slice p' (k + 1) c2)).heap.size by omega))))))
          clear hst hgS hgs hO9 k0 k1 k2 k3 k4 k5 k6 f0 f1 f2 f3 f4 f5 f6 a0 a1 a2 a3 a4 a5 a6 hbx hO8 hRA hRB hRC hRD hbz9 hbz hR5 hgw8 hss hsg
          go_wp2_with fail
          exact ⟨⟨k + 1, p', c2, L ++ [[.int .i64 y1, .string y2, .bool y3, .slice s1 r1 t1, .slice s2 r2 t2, .slice s3 r3 t3, .int .i64 y7]], by omega, by go_num, HEND.out.1, HEND.out.2.2.2.1, HEND.out.2.2.1, HEND.out.2.1, HEND.out.2.2.2.2.1, HEND.out.2.2.2.2.2⟩, by simp [intOf]; omega⟩
        refine AllReady.cons (o := Oper.mk _ _ _ _ _ _) rfl (fun K hK => ?_) ?_
        · refine step_go rfl ?_
          go_simp
          refine hK _ _ ?_
          clear hK K
          try simp only [Act.put, List.setIfInBounds_toArray, List.set_cons_zero, List.set_cons_succ]
          refine wpAny_ready (rs := [1, 5]) (by kernel_rfl) (by simp) ?_
          refine AllReady.cons (o := Oper.mk _ _ _ _ _ _) rfl (fun K hK => ?_) ?_
          · refine step_go rfl ?_
            go_simp
            refine hK _ _ ?_
            clear hK K
            try simp only [Act.put, List.setIfInBounds_toArray, List.set_cons_zero, List.set_cons_succ]
            refine wpAny_ready (rs := [5]) (by kernel_rfl) (by simp) ?_
            refine AllReady.cons (o := Oper.mk _ _ _ _ _ _) rfl (fun K hK => ?_) ?_
            rotate_left 1
            · exact AllReady.nil
            refine step_go rfl ?_
            go_simp
            go_at_call 7
            refine (HC.out _ hgg).mono ?_
            rintro e w6 ⟨cs6, rfl, hE6, hg6⟩
            obtain ⟨y1, y2, y3, s1, r1, t1, s2, r2, t2, s3, r3, t3, y7, rfl⟩ := hE6.erd.shape
            replace hbx := keepB hbx hg6
            replace hbz := keepB hbz hg6
            replace hR5 := hR5.keep hg6
            replace hO := hO.keep hg6
            have hs6 := hg6.size
            replace hgg := grown_trans hgg hg6
            clear k0 k1 k2 k3 k4 k5 k6 f0 f1 f2 f3 f4 f5 f6
            obtain ⟨⟨k0, k1, k2, k3, k4, k5, k6⟩, f0, f1, f2, f3, f4, f5, f6⟩ := box7 hbx
            refine hK _ _ ?_
            clear hK K
            try simp only [Act.put, List.setIfInBounds_toArray, List.set_cons_zero, List.set_cons_succ]
            refine wpAny_ready (rs := [6]) (by kernel_rfl) (by simp) ?_
            refine AllReady.cons (o := Oper.mk _ _ _ _ _ _) rfl (fun K hK => ?_) ?_
            rotate_left 1
            · exact AllReady.nil
            refine step_go rfl ?_
            go_simp
            refine hK _ _ ?_
            clear hK K
            try simp only [Act.put, List.setIfInBounds_toArray, List.set_cons_zero, List.set_cons_succ]
            have hgB := World.grownBy_alloc w6 (.cells #[.int .i64 y1, .string y2, .bool y3, .slice s1 r1 t1, .slice s2 r2 t2, .slice s3 r3 t3, .int .i64 y7] 30 (0, 0)) none
            have hrd := one_srd w6 30 7 [.int .i64 y1, .string y2, .bool y3, .slice s1 r1 t1, .slice s2 r2 t2, .slice s3 r3 t3, .int .i64 y7] rfl w6.heap.size rfl
            replace hbx := keepB hbx hgB
            replace hbz := keepB hbz hgB
            replace hR5 := hR5.keep hgB
            replace hO := hO.keep hgB
            replace hE6 := hE6.keep hgB
            replace hgg := grown_trans hgg hgB
            have hsB := hgB.size
            generalize (w6.alloc _) = w7 at *
            generalize w6.heap.size = K6 at *
            clear k0 k1 k2 k3 k4 k5 k6 f0 f1 f2 f3 f4 f5 f6
            obtain ⟨⟨k0, k1, k2, k3, k4, k5, k6⟩, f0, f1, f2, f3, f4, f5, f6⟩ := box7 hbx
            refine wpAny_ready (rs := [7]) (by kernel_rfl) (by simp) ?_
            refine AllReady.cons (o := Oper.mk _ _ _ _ _ _) rfl (fun K hK => ?_) ?_
            rotate_left 1
            · exact AllReady.nil
            refine step_sappend_at w7 rfl (.tmp 27) (.tmp 32) 28 rfl 30 7 (.agg #[.int .i64 0, .string ⟨#[]⟩, .bool false, .slice none 0 0, .slice none 0 0, .slice none 0 0, .int .i64 0]) 112 Try.underlying28 infoExpr exprZ (by omega) (w.heap.size + 3) p k c L rfl hO _ 1 [.int .i64 y1, .string y2, .bool y3, .slice s1 r1 t1, .slice s2 r2 t2, .slice s3 r3 t3, .int .i64 y7] rfl hrd oneCells (by omega) (by omega) (by omega) ?_
            intro p' c2 w8 hO8 hg8 hat
            have hbx7 := hbx
            replace hbx := (hg8.block (w.heap.size + 2) (lt_of_block hbx) (fun e => by have := HPB.out _ e.symm; omega)).trans hbx
            replace hbz := (hg8.block (w.heap.size + 1) (lt_of_block hbz) (fun e => by have := HPB.out _ e.symm; omega)).trans hbz
            clear hbx7 k0 k1 k2 k3 k4 k5 k6 f0 f1 f2 f3 f4 f5 f6
            obtain ⟨⟨k0, k1, k2, k3, k4, k5, k6⟩, f0, f1, f2, f3, f4, f5, f6⟩ := box7 hbx
            refine hK _ _ ?_
            clear hK K
            try simp only [Act.put, List.setIfInBounds_toArray, List.set_cons_zero, List.set_cons_succ]
            refine wpAny_ready (rs := [8]) (by kernel_rfl) (by simp) ?_
            refine AllReady.cons (o := Oper.mk _ _ _ _ _ _) rfl (fun K hK => ?_) ?_
            rotate_left 1
            · exact AllReady.nil
            refine step_go rfl ?_
            go_simp
            refine hK _ _ ?_
            clear hK K
            try simp only [Act.put, List.setIfInBounds_toArray, List.set_cons_zero, List.set_cons_succ]
            refine wpAny_ready (rs := [9]) (by kernel_rfl) (by simp) ?_
            refine AllReady.cons (o := Oper.mk _ _ _ _ _ _) rfl (fun K hK => ?_) ?_
            rotate_left 1
            · exact AllReady.nil
            refine step_go rfl ?_
            go_simp
            refine hK _ _ ?_
            clear hK K
            try simp only [Act.put, List.setIfInBounds_toArray, List.set_cons_zero, List.set_cons_succ]
            refine wpAny_done (by kernel_rfl) ?_ _
            have hst := heap_setCell_same w8 (w.heap.size + 2) 5 _ _ (.slice p' (k + 1) c2) hbx
            simp at hst
            have hgw8 : w.grownBy w8 none := grown_new (grown_trans HGR.out hgg) hg8 (fun g e => by have := HPB.out g e; omega)
            have hgS := set1_grown hgw8 (w.heap.size + 2) 5 (.slice p' (k + 1) c2) (by omega)
            have hgs := grown_setCell w8 ⟨w.heap.size + 2, 5, none⟩ (.slice p' (k + 1) c2)
            have hO9 := hO8.kept hgs (.inr fun q hq => by have := (hO8.lt q hq).1; simp; omega)
            have hbz9 := (hgs.block (w.heap.size + 1) (lt_of_block hbz) (by simp)).trans hbz
            have hss := hgs.size
            have hsg := hg8.size
            have hRA := RowsE.snoc hR5 (by omega) (by have h1 := HMG.out k (by omega) (by omega); simp only [hLk]; rw [h1, wrap_eq]; exact hE6)
            have hRB := hRA.more (X' := fun b => X b ∨ b = w.heap.size + 1 ∨ b = w.heap.size + 2 ∨ p.map (·.block) = some b ∨ b = w7.heap.size) (fun b hb => by rcases hb with h | h | h | h | h; exact .inl (.inl h); exact .inl (.inr (.inl h)); exact .inl (.inr (.inr (.inl h))); exact .inl (.inr (.inr (.inr h))); exact .inr (by omega))
            have hRC := (hRB.kept hg8 (fun g e => .inr (.inr (.inr (.inl e))))).kept hgs (fun g e => by cases e; exact .inr (.inr (.inl rfl)))
            have hRD := hRC.more (X' := fun b => X b ∨ b = w.heap.size + 1 ∨ b = w.heap.size + 2 ∨ p'.map (·.block) = some b) (fun b hb => by rcases hb with h | h | h | h; exact .inl (.inl h); exact .inl (.inr (.inl h)); exact .inl (.inr (.inr (.inl h))); rcases hat with h2 | h2; exact .inl (.inr (.inr (.inr (.inl (h2 ▸ h))))); exact .inl (.inr (.inr (.inr (.inr (by rw [h2] at h; simpa using h.symm))))))
            have HEND := hid (And.intro hst (And.intro hgS (And.intro hO9 (And.intro hbz9 (And.intro hRD (show w.heap.size + 3 ≤ (w8.setCell ⟨w.heap.size + 2, 5, none⟩ (.slice p' (k + 1) c2)).heap.size by omega))))))
            clear hst hgS hgs hO9 k0 k1 k2 k3 k4 k5 k6 f0 f1 f2 f3 f4 f5 f6 a0 a1 a2 a3 a4 a5 a6 hbx hO8 hRA hRB hRC hRD hbz9 hbz hR5 hgw8 hss hsg
            go_wp2_with fail
            exact ⟨⟨k + 1, p', c2, L ++ [[.int .i64 y1, .string y2, .bool y3, .slice s1 r1 t1, .slice s2 r2 t2, .slice s3 r3 t3, .int .i64 y7]], by omega, by go_num, HEND.out.1, HEND.out.2.2.2.1, HEND.out.2.2.1, HEND.out.2.1, HEND.out.2.2.2.2.1, HEND.out.2.2.2.2.2⟩, by simp [intOf]; omega⟩
          refine AllReady.cons (o := Oper.mk _ _ _ _ _ _) rfl (fun K hK => ?_) ?_
          · refine step_go rfl ?_
            go_simp
            go_at_call 7
            refine (HC.out _ hgg).mono ?_
            rintro e w6 ⟨cs6, rfl, hE6, hg6⟩
            obtain ⟨y1, y2, y3, s1, r1, t1, s2, r2, t2, s3, r3, t3, y7, rfl⟩ := hE6.erd.shape
            replace hbx := keepB hbx hg6
            replace hbz := keepB hbz hg6
            replace hR5 := hR5.keep hg6
            replace hO := hO.keep hg6
            have hs6 := hg6.size
            replace hgg := grown_trans hgg hg6
            clear k0 k1 k2 k3 k4 k5 k6 f0 f1 f2 f3 f4 f5 f6
            obtain ⟨⟨k0, k1, k2, k3, k4, k5, k6⟩, f0, f1, f2, f3, f4, f5, f6⟩ := box7 hbx
            refine hK _ _ ?_
            clear hK K
            try simp only [Act.put, List.setIfInBounds_toArray, List.set_cons_zero, List.set_cons_succ]
            refine wpAny_ready (rs := [1, 6]) (by kernel_rfl) (by simp) ?_
            refine AllReady.cons (o := Oper.mk _ _ _ _ _ _) rfl (fun K hK => ?_) ?_
            · refine step_go rfl ?_
              go_simp
              refine hK _ _ ?_
              clear hK K
              try simp only [Act.put, List.setIfInBounds_toArray, List.set_cons_zero, List.set_cons_succ]
              refine wpAny_ready (rs := [6]) (by kernel_rfl) (by simp) ?_
              refine AllReady.cons (o := Oper.mk _ _ _ _ _ _) rfl (fun K hK => ?_) ?_
              rotate_left 1
              · exact AllReady.nil
              refine step_go rfl ?_
              go_simp
              refine hK _ _ ?_
              clear hK K
              try simp only [Act.put, List.setIfInBounds_toArray, List.set_cons_zero, List.set_cons_succ]
              have hgB := World.grownBy_alloc w6 (.cells #[.int .i64 y1, .string y2, .bool y3, .slice s1 r1 t1, .slice s2 r2 t2, .slice s3 r3 t3, .int .i64 y7] 30 (0, 0)) none
              have hrd := one_srd w6 30 7 [.int .i64 y1, .string y2, .bool y3, .slice s1 r1 t1, .slice s2 r2 t2, .slice s3 r3 t3, .int .i64 y7] rfl w6.heap.size rfl
              replace hbx := keepB hbx hgB
              replace hbz := keepB hbz hgB
              replace hR5 := hR5.keep hgB
              replace hO := hO.keep hgB
              replace hE6 := hE6.keep hgB
              replace hgg := grown_trans hgg hgB
              have hsB := hgB.size
              generalize (w6.alloc _) = w7 at *
              generalize w6.heap.size = K6 at *
              clear k0 k1 k2 k3 k4 k5 k6 f0 f1 f2 f3 f4 f5 f6
              obtain ⟨⟨k0, k1, k2, k3, k4, k5, k6⟩, f0, f1, f2, f3, f4, f5, f6⟩ := box7 hbx
              refine wpAny_ready (rs := [7]) (by kernel_rfl) (by simp) ?_
              refine AllReady.cons (o := Oper.mk _ _ _ _ _ _) rfl (fun K hK => ?_) ?_
              rotate_left 1
              · exact AllReady.nil
              refine step_sappend_at w7 rfl (.tmp 27) (.tmp 32) 28 rfl 30 7 (.agg #[.int .i64 0, .string ⟨#[]⟩, .bool false, .slice none 0 0, .slice none 0 0, .slice none 0 0, .int .i64 0]) 112 Try.underlying28 infoExpr exprZ (by omega) (w.heap.size + 3) p k c L rfl hO _ 1 [.int .i64 y1, .string y2, .bool y3, .slice s1 r1 t1, .slice s2 r2 t2, .slice s3 r3 t3, .int .i64 y7] rfl hrd oneCells (by omega) (by omega) (by omega) ?_
              intro p' c2 w8 hO8 hg8 hat
              have hbx7 := hbx
              replace hbx := (hg8.block (w.heap.size + 2) (lt_of_block hbx) (fun e => by have := HPB.out _ e.symm; omega)).trans hbx
              replace hbz := (hg8.block (w.heap.size + 1) (lt_of_block hbz) (fun e => by have := HPB.out _ e.symm; omega)).trans hbz
              clear hbx7 k0 k1 k2 k3 k4 k5 k6 f0 f1 f2 f3 f4 f5 f6
              obtain ⟨⟨k0, k1, k2, k3, k4, k5, k6⟩, f0, f1, f2, f3, f4, f5, f6⟩ := box7 hbx
              refine hK _ _ ?_
              clear hK K
              try simp only [Act.put, List.setIfInBounds_toArray, List.set_cons_zero, List.set_cons_succ]
              refine wpAny_ready (rs := [8]) (by kernel_rfl) (by simp) ?_
              refine AllReady.cons (o := Oper.mk _ _ _ _ _ _) rfl (fun K hK => ?_) ?_
              rotate_left 1
              · exact AllReady.nil
              refine step_go rfl ?_
              go_simp
              refine hK _ _ ?_
              clear hK K
              try simp only [Act.put, List.setIfInBounds_toArray, List.set_cons_zero, List.set_cons_succ]
              refine wpAny_ready (rs := [9]) (by kernel_rfl) (by simp) ?_
              refine AllReady.cons (o := Oper.mk _ _ _ _ _ _) rfl (fun K hK => ?_) ?_
              rotate_left 1
              · exact AllReady.nil
              refine step_go rfl ?_
              go_simp
              refine hK _ _ ?_
              clear hK K
              try simp only [Act.put, List.setIfInBounds_toArray, List.set_cons_zero, List.set_cons_succ]
              refine wpAny_done (by kernel_rfl) ?_ _
              have hst := heap_setCell_same w8 (w.heap.size + 2) 5 _ _ (.slice p' (k + 1) c2) hbx
              simp at hst
              have hgw8 : w.grownBy w8 none := grown_new (grown_trans HGR.out hgg) hg8 (fun g e => by have := HPB.out g e; omega)
              have hgS := set1_grown hgw8 (w.heap.size + 2) 5 (.slice p' (k + 1) c2) (by omega)
              have hgs := grown_setCell w8 ⟨w.heap.size + 2, 5, none⟩ (.slice p' (k + 1) c2)
              have hO9 := hO8.kept hgs (.inr fun q hq => by have := (hO8.lt q hq).1; simp; omega)
              have hbz9 := (hgs.block (w.heap.size + 1) (lt_of_block hbz) (by simp)).trans hbz
              have hss := hgs.size
              have hsg := hg8.size
              have hRA := RowsE.snoc hR5 (by omega) (by have h1 := HMG.out k (by omega) (by omega); simp only [hLk]; rw [h1, wrap_eq]; exact hE6)
              have hRB := hRA.more (X' := fun b => X b ∨ b = w.heap.size + 1 ∨ b = w.heap.size + 2 ∨ p.map (·.block) = some b ∨ b = w7.heap.size) (fun b hb => by rcases hb with h | h | h | h | h; exact .inl (.inl h); exact .inl (.inr (.inl h)); exact .inl (.inr (.inr (.inl h))); exact .inl (.inr (.inr (.inr h))); exact .inr (by omega))
              have hRC := (hRB.kept hg8 (fun g e => .inr (.inr (.inr (.inl e))))).kept hgs (fun g e => by cases e; exact .inr (.inr (.inl rfl)))
              have hRD := hRC.more (X' := fun b => X b ∨ b = w.heap.size + 1 ∨ b = w.heap.size + 2 ∨ p'.map (·.block) = some b) (fun b hb => by rcases hb with h | h | h | h; exact .inl (.inl h); exact .inl (.inr (.inl h)); exact .inl (.inr (.inr (.inl h))); rcases hat with h2 | h2; exact .inl (.inr (.inr (.inr (.inl (h2 ▸ h))))); exact .inl (.inr (.inr (.inr (.inr (by rw [h2] at h; simpa using h.symm))))))
              have HEND := hid (And.intro hst (And.intro hgS (And.intro hO9 (And.intro hbz9 (And.intro hRD (show w.heap.size + 3 ≤ (w8.setCell ⟨w.heap.size + 2, 5, none⟩ (.slice p' (k + 1) c2)).heap.size by omega))))))
              clear hst hgS hgs hO9 k0 k1 k2 k3 k4 k5 k6 f0 f1 f2 f3 f4 f5 f6 a0 a1 a2 a3 a4 a5 a6 hbx hO8 hRA hRB hRC hRD hbz9 hbz hR5 hgw8 hss hsg
              go_wp2_with fail
              exact ⟨⟨k + 1, p', c2, L ++ [[.int .i64 y1, .string y2, .bool y3, .slice s1 r1 t1, .slice s2 r2 t2, .slice s3 r3 t3, .int .i64 y7]], by omega, by go_num, HEND.out.1, HEND.out.2.2.2.1, HEND.out.2.2.1, HEND.out.2.1, HEND.out.2.2.2.2.1, HEND.out.2.2.2.2.2⟩, by simp [intOf]; omega⟩
            refine AllReady.cons (o := Oper.mk _ _ _ _ _ _) rfl (fun K hK => ?_) ?_
            · refine step_go rfl ?_
              go_simp
              refine hK _ _ ?_
              clear hK K
              try simp only [Act.put, List.setIfInBounds_toArray, List.set_cons_zero, List.set_cons_succ]
              have hgB := World.grownBy_alloc w6 (.cells #[.int .i64 y1, .string y2, .bool y3, .slice s1 r1 t1, .slice s2 r2 t2, .slice s3 r3 t3, .int .i64 y7] 30 (0, 0)) none
              have hrd := one_srd w6 30 7 [.int .i64 y1, .string y2, .bool y3, .slice s1 r1 t1, .slice s2 r2 t2, .slice s3 r3 t3, .int .i64 y7] rfl w6.heap.size rfl
              replace hbx := keepB hbx hgB
              replace hbz := keepB hbz hgB
              replace hR5 := hR5.keep hgB
              replace hO := hO.keep hgB
              replace hE6 := hE6.keep hgB
              replace hgg := grown_trans hgg hgB
              have hsB := hgB.size
              generalize (w6.alloc _) = w7 at *
              generalize w6.heap.size = K6 at *
              clear k0 k1 k2 k3 k4 k5 k6 f0 f1 f2 f3 f4 f5 f6
              obtain ⟨⟨k0, k1, k2, k3, k4, k5, k6⟩, f0, f1, f2, f3, f4, f5, f6⟩ := box7 hbx
              refine wpAny_ready (rs := [1]) (by kernel_rfl) (by simp) ?_
              refine AllReady.cons (o := Oper.mk _ _ _ _ _ _) rfl (fun K hK => ?_) ?_
              rotate_left 1
              · exact AllReady.nil
              refine step_go rfl ?_
              go_simp
              refine hK _ _ ?_
              clear hK K
              try simp only [Act.put, List.setIfInBounds_toArray, List.set_cons_zero, List.set_cons_succ]
              refine wpAny_ready (rs := [7]) (by kernel_rfl) (by simp) ?_
              refine AllReady.cons (o := Oper.mk _ _ _ _ _ _) rfl (fun K hK => ?_) ?_
              rotate_left 1
              · exact AllReady.nil
              refine step_sappend_at w7 rfl (.tmp 27) (.tmp 32) 28 rfl 30 7 (.agg #[.int .i64 0, .string ⟨#[]⟩, .bool false, .slice none 0 0, .slice none 0 0, .slice none 0 0, .int .i64 0]) 112 Try.underlying28 infoExpr exprZ (by omega) (w.heap.size + 3) p k c L rfl hO _ 1 [.int .i64 y1, .string y2, .bool y3, .slice s1 r1 t1, .slice s2 r2 t2, .slice s3 r3 t3, .int .i64 y7] rfl hrd oneCells (by omega) (by omega) (by omega) ?_
              intro p' c2 w8 hO8 hg8 hat
              have hbx7 := hbx
              replace hbx := (hg8.block (w.heap.size + 2) (lt_of_block hbx) (fun e => by have := HPB.out _ e.symm; omega)).trans hbx
              replace hbz := (hg8.block (w.heap.size + 1) (lt_of_block hbz) (fun e => by have := HPB.out _ e.symm; omega)).trans hbz
              clear hbx7 k0 k1 k2 k3 k4 k5 k6 f0 f1 f2 f3 f4 f5 f6
              obtain ⟨⟨k0, k1, k2, k3, k4, k5, k6⟩, f0, f1, f2, f3, f4, f5, f6⟩ := box7 hbx
              refine hK _ _ ?_
              clear hK K
              try simp only [Act.put, List.setIfInBounds_toArray, List.set_cons_zero, List.set_cons_succ]
              refine wpAny_ready (rs := [8]) (by kernel_rfl) (by simp) ?_
              refine AllReady.cons (o := Oper.mk _ _ _ _ _ _) rfl (fun K hK => ?_) ?_
              rotate_left 1
              · exact AllReady.nil
              refine step_go rfl ?_
              go_simp
              refine hK _ _ ?_
              clear hK K
              try simp only [Act.put, List.setIfInBounds_toArray, List.set_cons_zero, List.set_cons_succ]
              refine wpAny_ready (rs := [9]) (by kernel_rfl) (by simp) ?_
              refine AllReady.cons (o := Oper.mk _ _ _ _ _ _) rfl (fun K hK => ?_) ?_
              rotate_left 1
              · exact AllReady.nil
              refine step_go rfl ?_
              go_simp
              refine hK _ _ ?_
              clear hK K
              try simp only [Act.put, List.setIfInBounds_toArray, List.set_cons_zero, List.set_cons_succ]
              refine wpAny_done (by kernel_rfl) ?_ _
              have hst := heap_setCell_same w8 (w.heap.size + 2) 5 _ _ (.slice p' (k + 1) c2) hbx
              simp at hst
              have hgw8 : w.grownBy w8 none := grown_new (grown_trans HGR.out hgg) hg8 (fun g e => by have := HPB.out g e; omega)
              have hgS := set1_grown hgw8 (w.heap.size + 2) 5 (.slice p' (k + 1) c2) (by omega)
              have hgs := grown_setCell w8 ⟨w.heap.size + 2, 5, none⟩ (.slice p' (k + 1) c2)
              have hO9 := hO8.kept hgs (.inr fun q hq => by have := (hO8.lt q hq).1; simp; omega)
              have hbz9 := (hgs.block (w.heap.size + 1) (lt_of_block hbz) (by simp)).trans hbz
              have hss := hgs.size
              have hsg := hg8.size
              have hRA := RowsE.snoc hR5 (by omega) (by have h1 := HMG.out k (by omega) (by omega); simp only [hLk]; rw [h1, wrap_eq]; exact hE6)
              have hRB := hRA.more (X' := fun b => X b ∨ b = w.heap.size + 1 ∨ b = w.heap.size + 2 ∨ p.map (·.block) = some b ∨ b = w7.heap.size) (fun b hb => by rcases hb with h | h | h | h | h; exact .inl (.inl h); exact .inl (.inr (.inl h)); exact .inl (.inr (.inr (.inl h))); exact .inl (.inr (.inr (.inr h))); exact .inr (by omega))
              have hRC := (hRB.kept hg8 (fun g e => .inr (.inr (.inr (.inl e))))).kept hgs (fun g e => by cases e; exact .inr (.inr (.inl rfl)))
              have hRD := hRC.more (X' := fun b => X b ∨ b = w.heap.size + 1 ∨ b = w.heap.size + 2 ∨ p'.map (·.block) = some b) (fun b hb => by rcases hb with h | h | h | h; exact .inl (.inl h); exact .inl (.inr (.inl h)); exact .inl (.inr (.inr (.inl h))); rcases hat with h2 | h2; exact .inl (.inr (.inr (.inr (.inl (h2 ▸ h))))); exact .inl (.inr (.inr (.inr (.inr (by rw [h2] at h; simpa using h.symm))))))
              have HEND := hid (And.intro hst (And.intro hgS (And.intro hO9 (And.intro hbz9 (And.intro hRD (show w.heap.size + 3 ≤ (w8.setCell ⟨w.heap.size + 2, 5, none⟩ (.slice p' (k + 1) c2)).heap.size by omega))))))
              clear hst hgS hgs hO9 k0 k1 k2 k3 k4 k5 k6 f0 f1 f2 f3 f4 f5 f6 a0 a1 a2 a3 a4 a5 a6 hbx hO8 hRA hRB hRC hRD hbz9 hbz hR5 hgw8 hss hsg
              go_wp2_with fail
              exact ⟨⟨k + 1, p', c2, L ++ [[.int .i64 y1, .string y2, .bool y3, .slice s1 r1 t1, .slice s2 r2 t2, .slice s3 r3 t3, .int .i64 y7]], by omega, by go_num, HEND.out.1, HEND.out.2.2.2.1, HEND.out.2.2.1, HEND.out.2.1, HEND.out.2.2.2.2.1, HEND.out.2.2.2.2.2⟩, by simp [intOf]; omega⟩
            exact AllReady.nil
          exact AllReady.nil
        exact AllReady.nil
      · obtain rfl : k = na := by omega
        obtain ⟨⟨k0, k1, k2, k3, k4, k5, k6⟩, f0, f1, f2, f3, f4, f5, f6⟩ := box7 hbx
        obtain ⟨⟨z0, z1, z2, z3, z4, z5, z6⟩, g0, g1, g2, g3, g4, g5, g6⟩ := box7 HBZ.out
        clear f0 f1 f2 f3 f4 f5 f6
        go_wp2_with fail
        have hgs := set7_grown wr (w.heap.size + 1) (.int .i64 e1) (.string e2) (.bool e3) (.slice p1 n1 c1) (.slice p2 n2 c2) (.slice p k c) (.int .i64 (wrap64 (e7 + d)))
        have hgE : w.grownBy _ none := grown_new hgr hgs (fun g e => by cases e; omega)
        have hRE := (HR.out.kept hgs (fun g e => by cases e; exact .inr (.inl rfl))).ard (X := X) (fun b hb => .inl hb) (hO.kept hgs (.inr fun q hq => by have := (hO.lt q hq).1; simp; omega)) (by omega) (fun b hb => by have := HXX.out b hb; omega)
        have HF := HFIN.out _ hgE p c hRE
        obtain ⟨⟨l0, l1, l2, l3, l4, l5, l6⟩, -⟩ := box7 (set7_block HBZ.out (.int .i64 e1) (.string e2) (.bool e3) (.slice p1 n1 c1) (.slice p2 n2 c2) (.slice p k c) (.int .i64 (wrap64 (e7 + d))))
        generalize ((((((wr.setCell _ _).setCell _ _).setCell _ _).setCell _ _).setCell _ _).setCell _ _).setCell _ _ = w9 at *
        exact bodyPost_ret (v := .agg #[.int .i64 e1, .string e2, .bool e3, .slice p1 n1 c1, .slice p2 n2 c2, .slice p k c, .int .i64 (wrap64 (e7 + d))]) (by simp [results, Try.results7, go_sem, l0, l1, l2, l3, l4, l5, l6]) rfl ⟨_, rfl, HF, hgE⟩
end Go.Proofs.Ytolpcclobmgneaa
