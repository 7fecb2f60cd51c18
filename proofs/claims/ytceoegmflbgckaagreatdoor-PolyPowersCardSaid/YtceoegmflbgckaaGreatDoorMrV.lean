/-
  PlT PlU PlV PlW, in one text.
-/
import Derived.Test.YtceoegmflbgckaaGreatDoorMrS
import Derived.Deep.RegionHeld3

set_option linter.unusedVariables false
set_option linter.unusedSimpArgs false
namespace Go.Proofs.YtceoegmflbgckaaGreatDoor
open Go Go.RowKit _root_.Nm
theorem srdQ {w : World} {gr : Nat} {x y z u : Value} {T : TypeId} (h : w.heap[gr]? = some (.cells #[x, y, z, u] T (0, 0))) : SRd w 4 (some ⟨gr, 0, none⟩) 1 1 [[x, y, z, u]] := by
  obtain ⟨h0, h1, h2, h3⟩ := box4p h
  refine ⟨rfl, fun r hr => by rw [List.mem_singleton.1 hr]; rfl, Nat.le_refl _, by omega, fun i hi j hj => ⟨gr, 0, rfl, ?_⟩⟩
  have hi0 : i = 0 := by simpa using hi
  subst hi0
  simp only [List.getElem_cons_zero] at hj ⊢
  match j, hj with
  | 0, _ => simpa using h0
  | 1, _ => simpa using h1
  | 2, _ => simpa using h2
  | 3, _ => simpa using h3
def timP (P : List Tm) (t : Tm) : List Tm := P.map fun u => (mulM u.1 t.1, u.2 * t.2)
theorem tim_mulT (P : List Tm) (t : Tm) : timP P t = mulT t P := by
  unfold timP mulT
  exact List.map_congr_left fun u _ => by rw [mulM_comm, Rat.mul_comm]
theorem combZ_id {B C : Int} {f : Int → Int → Int} {xs ys : List Int} (hx : RightZ B xs) (hy : RightZ C ys) (hB : 0 ≤ B) (hC : 0 ≤ C)
    (hf : ∀ x y, 0 ≤ x → 0 ≤ y → f x y = 0 → x = 0 ∧ y = 0) : trimZ (combZ f xs ys) = combZ f xs ys := by
  refine trimZ_id fun e => ?_
  rw [List.getLast?_eq_getElem?, combZ_length] at e
  obtain ⟨hl, e⟩ := List.getElem?_eq_some_iff.1 e
  rw [combZ_length] at hl
  have e2 : f (ex xs (max xs.length ys.length - 1)) (ex ys (max xs.length ys.length - 1)) = 0 := by rw [← e]; simp [combZ]
  obtain ⟨z1, z2⟩ := hf _ _ (hx.ex hB _).1 (hy.ex hC _).1 e2
  rcases Nat.le_total xs.length ys.length with h | h
  · have e3 : max xs.length ys.length = ys.length := by omega
    rw [e3] at z2 hl
    exact last_ex hy.last (by omega) z2
  · have e3 : max xs.length ys.length = xs.length := by omega
    rw [e3] at z1 hl
    exact last_ex hx.last (by omega) z1
theorem rmulM_v (a b : Option Addr) (n m c d : Nat) (xs ys : List Int) (w : World) (h : ZRd w .i64 a n c xs) (k : ZRd w .i64 b m d ys) {B : Int} (hx : RightZ B xs) (hy : RightZ B ys) (hB : 0 ≤ B ∧ B ≤ 4294967296) :
    Calls Tryz.prog 52 #[.slice a n c, .slice b m d] w fun e w' => ∃ p c, e = .returned (.slice p (mulM xs ys).length c) ∧ ZRd w' .i64 p (mulM xs ys).length c (mulM xs ys) ∧ w.grownBy w' none := by
  have := rmul_any a b n m c d xs ys w h k hx hy ⟨hB.1, by omega⟩ ⟨hB.1, by omega⟩
  rw [← combZ_id hx hy hB.1 hB.1 (f := (· + ·)) fun x y _ _ e => by have e : x + y = 0 := e; omega] at this
  exact this
set_option maxHeartbeats 16000000 in
set_option maxRecDepth 100000 in
theorem rtimes6_v (H : Nat) (B : Int) {w : World} {p : Option Addr} {n c : Nat} {P : List Tm} (hP : IsP w p n c P) (bP : BdP H P) (eP : ExP B P) {g1 : Bool} {p1 q1 : Option Addr} {n1 c1 m1 d1 : Nat} {a1 : Option Addr} {k1 e1 : Nat} {v : Rat} {xs : List Int} (hA : IsV w g1 p1 n1 c1 q1 m1 d1 v) (hA1 : ZRd w .i64 a1 k1 e1 xs) (bA : Bd H v) (eA : RightZ B xs) (hB : 0 ≤ B ∧ B ≤ 4294967296) (hH : H ≤ 9000) (hn : n ≤ 1000000) :
    Calls Tryz.prog 87 #[.slice p n c, .agg #[.bool g1, .slice p1 n1 c1, .slice q1 m1 d1, .slice a1 k1 e1]] w (PPost w (mulT (xs, v) P)) := by
  rw [← tim_mulT]
  have hl := hP.len; have hc := hP.cap; have hmx := hP.max
  have hlen := hA.lens bA
  have HMU := hid fun W (hg : w.grownBy W none) g2 p2 n2 c2 q2 m2 d2 u (hU : IsV W g2 p2 n2 c2 q2 m2 d2 u) (h1 : n2 ≤ H) (h2 : m2 ≤ H) => rMul3_v 9000 hU.q (hA.keep hg).q (by omega) (by omega) (by omega) (by omega) (by omega)
  have HMO := hid fun W (hg : w.grownBy W none) a2 k2 e2 ys (hY : ZRd W .i64 a2 k2 e2 ys) (eY : RightZ B ys) => rmulM_v a2 a1 k2 k1 e2 e1 ys xs W hY (hA1.keep hg) eY eA hB
  have HP := hid hP; have HB := hid (And.intro bP eP); have HL := hid hl
  have gA := World.grownBy_alloc w (.cells #[.bool g1, .slice p1 n1 c1, .slice q1 m1 d1, .slice a1 k1 e1] 33 (0, 0)) none
  have BT := hid (blk0 w (.cells #[.bool g1, .slice p1 n1 c1, .slice q1 m1 d1, .slice a1 k1 e1] 33 (0, 0)))
  clear hP bP hA hA1 bA eA eP hl hlen
  go_enter Tryz.func87, Tryz.ntmps87
  go_upto_region 3 with fail
  have hbt0 := lt_of_block BT.out
  obtain ⟨bt, hbt⟩ : ∃ x, x = w.heap.size := ⟨_, rfl⟩
  have hbtw : w.heap.size ≤ bt := by omega
  rw [← hbt] at BT hbt0 ⊢
  have hlow : ∀ x, x < w.heap.size → x < bt := fun x hx => by omega
  have HLOW := hid hlow
  clear hbt hlow
  have HW := hid gA
  clear gA
  generalize w.alloc _ = w0 at *
  obtain ⟨base, hbase⟩ : ∃ x, x = bt + 1 := ⟨_, rfl⟩
  have hbtb : bt < base := by omega
  have HBS := hid (show ∀ W : World, bt < W.heap.size → base ≤ W.heap.size from fun W h => by omega)
  clear hbase hbt0
  obtain ⟨tp, htp⟩ : ∃ tp, tp = timP P (xs, v) := ⟨_, rfl⟩
  have HTP := hid htp
  go_loopw [5, 6] (fun x y wr => ∃ (i : Nat) (pm : Option Addr) (cm : Nat) (rows : List (List Value)), i ≤ n ∧ x = .slice pm i cm ∧ y = .int .i64 i ∧ Hid (w.grownBy wr none) ∧ Hid (wr.heap[bt]? = some (.cells #[.bool g1, .slice p1 n1 c1, .slice q1 m1 d1, .slice a1 k1 e1] 33 (0, 0))) ∧ Hid (QOwn wr base 33 4 pm i cm rows) ∧ Hid (RwS wr pm rows (tp.take i))) (fun _ y _ => n - (intOf y).toNat)
  case atStart => exact ⟨0, none, 0, [], Nat.zero_le _, rfl, rfl, HW, BT, hid (QOwn.nil _ _ _ _), hid (by rw [List.take_zero]; exact RwS.nil _ _)⟩
  case round =>
    clear HW BT htp
    obtain ⟨i, pm, cm, rows, hi, rfl, rfl, HG, BT, HQ, HR⟩ := hrel
    have hcm := HQ.out.cap; have hmm := HQ.out.max
    have HNL : Hid (tp.length = n) := hid (by rw [HTP.out]; unfold timP; rw [List.length_map]; exact HL.out)
    by_cases hlt : i < n
    · have hil : i < P.length := by have := HL.out; omega
      obtain ⟨b, o, g2, p2, n2, c2, q2, m2, d2, a2, k2, e2, rfl, ⟨y0, y1, y2, y3⟩, hU, hX⟩ := (HP.out.tms i hil).out
      have hbw : b < w.heap.size := World.block_lt_of_cell? w _ y0
      have hbt1 := HLOW.out _ hbw
      have HTK := hid (take_snoc tp i (by have := HNL.out; omega))
      have hng : tp[i]'(by have := HNL.out; omega) = (mulM P[i].1 xs, P[i].2 * v) := by simp [HTP.out, timP]
      rw [hng] at HTK
      have hu := hU.lens (HB.out.1.at hil)
      have he := HB.out.2.at hil
      obtain ⟨t, ht⟩ : ∃ t, t = P[i] := ⟨_, rfl⟩
      rw [← ht] at HTK hU hX he
      obtain ⟨zs, u⟩ := t
      dsimp only at HTK hU hX he
      have HM3 := hid fun W (hg : wr.grownBy W none) => HMU.out W (grown_trans HG.out hg) g2 p2 n2 c2 q2 m2 d2 u (hU.keep (grown_trans HG.out hg)) hu.1 hu.2
      have HM5 := hid fun W (hg : wr.grownBy W none) => HMO.out W (grown_trans HG.out hg) a2 k2 e2 zs (hX.keep (grown_trans HG.out hg)) he
      unfold VPost at HM3
      obtain ⟨pr, hpr⟩ : ∃ pr, pr = u * v := ⟨_, rfl⟩
      rw [← hpr] at HM3 HTK
      obtain ⟨mz, hmz⟩ : ∃ mz, mz = mulM zs xs := ⟨_, rfl⟩
      rw [← hmz] at HM5 HTK
      obtain ⟨nz, hnz⟩ : ∃ nz, nz = mz.length := ⟨_, rfl⟩
      rw [← hnz] at HM5
      have HX := hid (hX.keep HG.out)
      replace y0 := HG.out.cell y0 (by simp); replace y1 := HG.out.cell y1 (by simp); replace y2 := HG.out.cell y2 (by simp); replace y3 := HG.out.cell y3 (by simp)
      have HPB : Hid (∀ g, pm.map (·.block) = some g → base ≤ g) := hid fun g e => by
        cases hpm : pm with
        | none => rw [hpm] at e; simp at e
        | some q => rw [hpm] at e; simp at e; have := (HQ.out.lt q hpm).1; omega
      obtain ⟨k0, k1', k2', k3⟩ := box4p BT.out
      clear hU hX ht hng hu hpr hmz hnz he
      go_upto_region 5 with fail
      have hszw := HG.out.size
      have hszb : base ≤ wr.heap.size := HBS.out _ (lt_of_block BT.out)
      refine wp_region_noPanic ?_
      refine wp_region_held_drew (S := (fun W => W.heap[bt]? = some (.cells #[.bool g1, .slice p1 n1 c1, .slice q1 m1 d1, .slice a1 k1 e1] 33 (0, 0)) ∧ W.cell? ⟨b, o + i * 4, none⟩ = some (.bool g2) ∧ W.cell? ⟨b, o + i * 4 + 1, none⟩ = some (.slice p2 n2 c2) ∧ W.cell? ⟨b, o + i * 4 + 2, none⟩ = some (.slice q2 m2 d2) ∧ W.cell? ⟨b, o + i * 4 + 3, none⟩ = some (.slice a2 k2 e2))) (by kernel_rfl) ?_ (fun hHeld => ?_)
      · (try dsimp only)
        exact ⟨keepB BT.out (grown_drew _ none), (grown_drew _ none).cell y0 (by simp), (grown_drew _ none).cell y1 (by simp), (grown_drew _ none).cell y2 (by simp), (grown_drew _ none).cell y3 (by simp)⟩
      have hgg := grown_drew wr none
      have hO := HQ.out.keep hgg
      have hR := HR.out.keep hgg
      have hX := HX.out.keep hgg
      generalize wr.drew = wd at *
      refine wpAnyH_take (i := 0) (oi := Oper.mk _ _ _ _ _ _) (v := ?_) rfl (by kernel_rfl) (by kernel_rfl) (by kernel_rfl) (fun _ _ _ h => h) (Or.inl ⟨by kernel_rfl, ?_⟩) hHeld ?_
      rotate_left 1
      · intro W hSw
        (try dsimp only at hSw)
        obtain ⟨hb, h0, h1, h2, h3⟩ := hSw
        obtain ⟨j0, j1, j2, j3⟩ := box4p hb
        go_simp
        (try (with_reducible rfl))
      (try simp only [Act.put, List.setIfInBounds_toArray, List.set_cons_zero, List.set_cons_succ])
      refine wpAnyH_take (i := 1) (oi := Oper.mk _ _ _ _ _ _) (v := ?_) rfl (by kernel_rfl) (by kernel_rfl) (by kernel_rfl) (fun _ _ _ h => h) (Or.inl ⟨by kernel_rfl, ?_⟩) hHeld ?_
      rotate_left 1
      · intro W hSw
        (try dsimp only at hSw)
        obtain ⟨hb, h0, h1, h2, h3⟩ := hSw
        obtain ⟨j0, j1, j2, j3⟩ := box4p hb
        go_simp
        (try (with_reducible rfl))
      (try simp only [Act.put, List.setIfInBounds_toArray, List.set_cons_zero, List.set_cons_succ])
      refine wpAnyH_take (i := 2) (oi := Oper.mk _ _ _ _ _ _) (v := ?_) rfl (by kernel_rfl) (by kernel_rfl) (by kernel_rfl) (fun _ _ _ h => h) (Or.inl ⟨by kernel_rfl, ?_⟩) hHeld ?_
      rotate_left 1
      · intro W hSw
        (try dsimp only at hSw)
        obtain ⟨hb, h0, h1, h2, h3⟩ := hSw
        obtain ⟨j0, j1, j2, j3⟩ := box4p hb
        go_simp
        (try (with_reducible rfl))
      (try simp only [Act.put, List.setIfInBounds_toArray, List.set_cons_zero, List.set_cons_succ])
      refine wpAnyH_take (i := 3) (oi := Oper.mk _ _ _ _ _ _) (v := ?_) rfl (by kernel_rfl) (by kernel_rfl) (by kernel_rfl) (fun _ _ _ h => h) (Or.inl ⟨by kernel_rfl, ?_⟩) hHeld ?_
      rotate_left 1
      · intro W hSw
        (try dsimp only at hSw)
        obtain ⟨hb, h0, h1, h2, h3⟩ := hSw
        obtain ⟨j0, j1, j2, j3⟩ := box4p hb
        go_simp
        (try (with_reducible rfl))
      (try simp only [Act.put, List.setIfInBounds_toArray, List.set_cons_zero, List.set_cons_succ])
      refine wpAnyH_take (i := 4) (oi := Oper.mk _ _ _ _ _ _) (v := ?_) rfl (by kernel_rfl) (by kernel_rfl) (by kernel_rfl) (fun _ _ _ h => h) (Or.inl ⟨by kernel_rfl, ?_⟩) hHeld ?_
      rotate_left 1
      · intro W hSw
        (try dsimp only at hSw)
        obtain ⟨hb, h0, h1, h2, h3⟩ := hSw
        obtain ⟨j0, j1, j2, j3⟩ := box4p hb
        go_simp
        (try (with_reducible rfl))
      (try simp only [Act.put, List.setIfInBounds_toArray, List.set_cons_zero, List.set_cons_succ])
      refine wpAnyH_take (i := 5) (oi := Oper.mk _ _ _ _ _ _) (v := ?_) rfl (by kernel_rfl) (by kernel_rfl) (by kernel_rfl) (fun _ _ _ h => h) (Or.inl ⟨by kernel_rfl, ?_⟩) hHeld ?_
      rotate_left 1
      · intro W hSw
        (try dsimp only at hSw)
        obtain ⟨hb, h0, h1, h2, h3⟩ := hSw
        obtain ⟨j0, j1, j2, j3⟩ := box4p hb
        go_simp
        (try (with_reducible rfl))
      (try simp only [Act.put, List.setIfInBounds_toArray, List.set_cons_zero, List.set_cons_succ])
      refine wpAnyH_take (i := 6) (oi := Oper.mk _ _ _ _ _ _) (v := ?_) rfl (by kernel_rfl) (by kernel_rfl) (by kernel_rfl) (fun _ _ _ h => h) (Or.inl ⟨by kernel_rfl, ?_⟩) hHeld ?_
      rotate_left 1
      · intro W hSw
        (try dsimp only at hSw)
        obtain ⟨hb, h0, h1, h2, h3⟩ := hSw
        obtain ⟨j0, j1, j2, j3⟩ := box4p hb
        go_simp
        (try (with_reducible rfl))
      (try simp only [Act.put, List.setIfInBounds_toArray, List.set_cons_zero, List.set_cons_succ])
      refine wpAnyH_take (i := 7) (oi := Oper.mk _ _ _ _ _ _) (v := ?_) rfl (by kernel_rfl) (by kernel_rfl) (by kernel_rfl) (fun _ _ _ h => h) (Or.inl ⟨by kernel_rfl, ?_⟩) hHeld ?_
      rotate_left 1
      · intro W hSw
        (try dsimp only at hSw)
        obtain ⟨hb, h0, h1, h2, h3⟩ := hSw
        obtain ⟨j0, j1, j2, j3⟩ := box4p hb
        go_simp
        (try (with_reducible rfl))
      (try simp only [Act.put, List.setIfInBounds_toArray, List.set_cons_zero, List.set_cons_succ])
      refine wpAnyH_take (i := 9) (oi := Oper.mk _ _ _ _ _ _) (v := ?_) rfl (by kernel_rfl) (by kernel_rfl) (by kernel_rfl) (fun _ _ _ h => h) (Or.inl ⟨by kernel_rfl, ?_⟩) hHeld ?_
      rotate_left 1
      · intro W hSw
        (try dsimp only at hSw)
        obtain ⟨hb, h0, h1, h2, h3⟩ := hSw
        obtain ⟨j0, j1, j2, j3⟩ := box4p hb
        go_simp
        (try (with_reducible rfl))
      (try simp only [Act.put, List.setIfInBounds_toArray, List.set_cons_zero, List.set_cons_succ])
      refine wpAnyH_take (i := 10) (oi := Oper.mk _ _ _ _ _ _) (v := ?_) rfl (by kernel_rfl) (by kernel_rfl) (by kernel_rfl) (fun _ _ _ h => h) (Or.inl ⟨by kernel_rfl, ?_⟩) hHeld ?_
      rotate_left 1
      · intro W hSw
        (try dsimp only at hSw)
        obtain ⟨hb, h0, h1, h2, h3⟩ := hSw
        obtain ⟨j0, j1, j2, j3⟩ := box4p hb
        go_simp
        (try (with_reducible rfl))
      (try simp only [Act.put, List.setIfInBounds_toArray, List.set_cons_zero, List.set_cons_succ])
      refine wpAnyH_take (i := 11) (oi := Oper.mk _ _ _ _ _ _) (v := ?_) rfl (by kernel_rfl) (by kernel_rfl) (by kernel_rfl) (fun _ _ _ h => h) (Or.inl ⟨by kernel_rfl, ?_⟩) hHeld ?_
      rotate_left 1
      · intro W hSw
        (try dsimp only at hSw)
        obtain ⟨hb, h0, h1, h2, h3⟩ := hSw
        obtain ⟨j0, j1, j2, j3⟩ := box4p hb
        go_simp
        (try (with_reducible rfl))
      (try simp only [Act.put, List.setIfInBounds_toArray, List.set_cons_zero, List.set_cons_succ])
      refine wpAnyH_take (i := 12) (oi := Oper.mk _ _ _ _ _ _) (v := ?_) rfl (by kernel_rfl) (by kernel_rfl) (by kernel_rfl) (fun _ _ _ h => h) (Or.inl ⟨by kernel_rfl, ?_⟩) hHeld ?_
      rotate_left 1
      · intro W hSw
        (try dsimp only at hSw)
        obtain ⟨hb, h0, h1, h2, h3⟩ := hSw
        obtain ⟨j0, j1, j2, j3⟩ := box4p hb
        go_simp
        (try (with_reducible rfl))
      (try simp only [Act.put, List.setIfInBounds_toArray, List.set_cons_zero, List.set_cons_succ])
      refine wpAnyH_take (i := 13) (oi := Oper.mk _ _ _ _ _ _) (v := ?_) rfl (by kernel_rfl) (by kernel_rfl) (by kernel_rfl) (fun _ _ _ h => h) (Or.inl ⟨by kernel_rfl, ?_⟩) hHeld ?_
      rotate_left 1
      · intro W hSw
        (try dsimp only at hSw)
        obtain ⟨hb, h0, h1, h2, h3⟩ := hSw
        obtain ⟨j0, j1, j2, j3⟩ := box4p hb
        go_simp
        (try (with_reducible rfl))
      (try simp only [Act.put, List.setIfInBounds_toArray, List.set_cons_zero, List.set_cons_succ])
      refine wpAnyH_take (i := 14) (oi := Oper.mk _ _ _ _ _ _) (v := ?_) rfl (by kernel_rfl) (by kernel_rfl) (by kernel_rfl) (fun _ _ _ h => h) (Or.inl ⟨by kernel_rfl, ?_⟩) hHeld ?_
      rotate_left 1
      · intro W hSw
        (try dsimp only at hSw)
        obtain ⟨hb, h0, h1, h2, h3⟩ := hSw
        obtain ⟨j0, j1, j2, j3⟩ := box4p hb
        go_simp
        (try (with_reducible rfl))
      (try simp only [Act.put, List.setIfInBounds_toArray, List.set_cons_zero, List.set_cons_succ])
      refine wpAnyH_take (i := 15) (oi := Oper.mk _ _ _ _ _ _) (v := ?_) rfl (by kernel_rfl) (by kernel_rfl) (by kernel_rfl) (fun _ _ _ h => h) (Or.inl ⟨by kernel_rfl, ?_⟩) hHeld ?_
      rotate_left 1
      · intro W hSw
        (try dsimp only at hSw)
        obtain ⟨hb, h0, h1, h2, h3⟩ := hSw
        obtain ⟨j0, j1, j2, j3⟩ := box4p hb
        go_simp
        (try (with_reducible rfl))
      (try simp only [Act.put, List.setIfInBounds_toArray, List.set_cons_zero, List.set_cons_succ])
      refine wpAnyH_ready (rs := [8]) (by kernel_rfl) (by simp) ?_
      refine AllReadyH.cons (o := Oper.mk _ _ _ _ _ _) rfl (fun K hK => ?_) AllReadyH.nil
      (try rw [if_pos (by kernel_rfl)])
      go_simp
      go_at_call 89
      refine (HM3.out _ hgg).mono ?_
      rintro e wy1 ⟨g3, p3, n3, c3, q3, m3, d3, rfl, hV3, hn3, hm3, hgS⟩
      replace hgg := grown_trans hgg hgS
      replace hO := hO.keep hgS
      replace hR := hR.keep hgS
      replace hX := hX.keep hgS
      refine hK.out _ _ ?_ (fun hNew => ?_)
      · have hH := hHeld
        (try dsimp only at hH)
        (try dsimp only)
        first | with_reducible exact hH | exact ⟨keepB hH.1 hgS, hgS.cell hH.2.1 (by simp), hgS.cell hH.2.2.1 (by simp), hgS.cell hH.2.2.2.1 (by simp), hgS.cell hH.2.2.2.2 (by simp)⟩
      clear hK K hHeld
      have hHeld := hNew
      clear hNew
      (try simp only [Act.put, List.setIfInBounds_toArray, List.set_cons_zero, List.set_cons_succ])
      clear hgS
      refine wpAnyH_ready (rs := [16]) (by kernel_rfl) (by simp) ?_
      refine AllReadyH.cons (o := Oper.mk _ _ _ _ _ _) rfl (fun K hK => ?_) AllReadyH.nil
      (try rw [if_pos (by kernel_rfl)])
      go_simp
      go_at_call 52
      refine (HM5.out _ hgg).mono ?_
      rintro e wy2 ⟨a3, e3, rfl, hX3, hgS⟩
      replace hgg := grown_trans hgg hgS
      replace hO := hO.keep hgS
      replace hR := hR.keep hgS
      replace hX := hX.keep hgS
      replace hV3 := hV3.keep hgS
      refine hK.out _ _ ?_ (fun hNew => ?_)
      · have hH := hHeld
        (try dsimp only at hH)
        (try dsimp only)
        first | with_reducible exact hH | exact ⟨keepB hH.1 hgS, hgS.cell hH.2.1 (by simp), hgS.cell hH.2.2.1 (by simp), hgS.cell hH.2.2.2.1 (by simp), hgS.cell hH.2.2.2.2 (by simp)⟩
      clear hK K hHeld
      have hHeld := hNew
      clear hNew
      (try simp only [Act.put, List.setIfInBounds_toArray, List.set_cons_zero, List.set_cons_succ])
      clear hgS
      refine wpAnyH_ready (rs := [17]) (by kernel_rfl) (by simp) ?_
      refine AllReadyH.cons (o := Oper.mk _ _ _ _ _ _) rfl (fun K hK => ?_) AllReadyH.nil
      (try rw [if_pos (by kernel_rfl)])
      go_simp
      refine hK.out _ _ ?_ (fun hNew => ?_)
      · have hH := hHeld
        (try dsimp only at hH)
        (try dsimp only)
        first | with_reducible exact hH | exact ⟨keepB hH.1 hgS, hgS.cell hH.2.1 (by simp), hgS.cell hH.2.2.1 (by simp), hgS.cell hH.2.2.2.1 (by simp), hgS.cell hH.2.2.2.2 (by simp)⟩
      clear hK K hHeld
      have hHeld := hNew
      clear hNew
      (try simp only [Act.put, List.setIfInBounds_toArray, List.set_cons_zero, List.set_cons_succ])
      refine wpAnyH_ready (rs := [18]) (by kernel_rfl) (by simp) ?_
      refine AllReadyH.cons (o := Oper.mk _ _ _ _ _ _) rfl (fun K hK => ?_) AllReadyH.nil
      (try rw [if_pos (by kernel_rfl)])
      go_simp
      have hgS := World.grownBy_alloc wy2 (.cells #[.bool g3, .slice p3 n3 c3, .slice q3 m3 d3, .slice a3 nz e3] 33 (0, 0)) none
      have hbR := blk0 wy2 (.cells #[.bool g3, .slice p3 n3 c3, .slice q3 m3 d3, .slice a3 nz e3] 33 (0, 0))
      have hlegr := hgg.size
      replace hgg := grown_trans hgg hgS
      replace hO := hO.keep hgS
      replace hR := hR.keep hgS
      replace hX := hX.keep hgS
      replace hV3 := hV3.keep hgS
      replace hX3 := hX3.keep hgS
      refine hK.out _ _ ?_ (fun hNew => ?_)
      · have hH := hHeld
        (try dsimp only at hH)
        (try dsimp only)
        first | with_reducible exact hH | exact ⟨keepB hH.1 hgS, hgS.cell hH.2.1 (by simp), hgS.cell hH.2.2.1 (by simp), hgS.cell hH.2.2.2.1 (by simp), hgS.cell hH.2.2.2.2 (by simp)⟩
      clear hK K hHeld
      have hHeld := hNew
      clear hNew
      (try simp only [Act.put, List.setIfInBounds_toArray, List.set_cons_zero, List.set_cons_succ])
      generalize wy2.heap.size = gr at *
      generalize wy2.alloc _ = wy3 at *
      clear hgS
      refine wpAnyH_ready (rs := [19]) (by kernel_rfl) (by simp) ?_
      refine AllReadyH.cons (o := Oper.mk _ _ _ _ _ _) rfl (fun K hK => ?_) AllReadyH.nil
      have hszA := hgg.size
      have hT : TmC wy3 [.bool g3, .slice p3 n3 c3, .slice q3 m3 d3, .slice a3 nz e3] (mz, pr) := ⟨_, _, _, _, _, _, _, _, _, _, rfl, hV3, hX3⟩
      refine step_qappend wy3 rfl (.tmp 13) (.tmp 31) 35 rfl 33 4 (.agg #[.bool false, .slice none 0 0, .slice none 0 0, .slice none 0 0]) 80 Tryz.underlying35 infoTm tmZs four_pos tmZn base pm i cm rows rfl hO _ 1 _ [[.bool g3, .slice p3 n3 c3, .slice q3 m3 d3, .slice a3 nz e3]] rfl (srdQ hbR) (lone (noInt4 _ _ _ _ _ _ _ _ _ _)) (lone (one4 _ _ _ _ _ _ _ _ _ _)) (by omega) (by omega) (by omega) ?_
      intro p' c4 wy4 hq4 hgA hat
      refine hK.out _ _ ?_ (fun hNew => ?_)
      · have hH := hHeld
        (try dsimp only at hH)
        (try dsimp only)
        exact ⟨(hgA.block bt (lt_of_block hH.1) (fun e => by have := HPB.out _ e.symm; omega)).trans hH.1, hgA.cell hH.2.1 (fun e => by have := HPB.out _ e.symm; simp at this; omega), hgA.cell hH.2.2.1 (fun e => by have := HPB.out _ e.symm; simp at this; omega), hgA.cell hH.2.2.2.1 (fun e => by have := HPB.out _ e.symm; simp at this; omega), hgA.cell hH.2.2.2.2 (fun e => by have := HPB.out _ e.symm; simp at this; omega)⟩
      clear hK K hHeld
      have hHeld := hNew
      clear hNew
      (try simp only [Act.put, List.setIfInBounds_toArray, List.set_cons_zero, List.set_cons_succ])
      have HR4 := hid (RwS.snoc hO hR hT hgA hat)
      have HG4 := hid (grown_new (grown_trans HG.out hgg) hgA (fun g' e => by have := HPB.out _ e; omega))
      refine wpAnyH_ready (rs := [20]) (by kernel_rfl) (by simp) ?_
      refine AllReadyH.cons (o := Oper.mk _ _ _ _ _ _) rfl (fun K hK => ?_) AllReadyH.nil
      (try rw [if_pos (by kernel_rfl)])
      go_simp
      refine hK.out _ _ ?_ (fun hNew => ?_)
      · have hH := hHeld
        (try dsimp only at hH)
        (try dsimp only)
        first | with_reducible exact hH | exact ⟨keepB hH.1 hgS, hgS.cell hH.2.1 (by simp), hgS.cell hH.2.2.1 (by simp), hgS.cell hH.2.2.2.1 (by simp), hgS.cell hH.2.2.2.2 (by simp)⟩
      clear hK K hHeld
      have hHeld := hNew
      clear hNew
      (try simp only [Act.put, List.setIfInBounds_toArray, List.set_cons_zero, List.set_cons_succ])
      refine wpAnyH_done (by kernel_rfl) ?_ _
      refine NoPanic.normal ?_
      obtain ⟨hE1, -⟩ := hHeld
      (try dsimp only at hE1)
      have HE1 := hid hE1
      have HQ4 := hid hq4
      clear hE1 hq4 hgA hat hT hbR hO hR hX hgg
      go_wp2_with fail
      refine ⟨⟨i + 1, p', c4, _, by omega, by go_num, by go_num, HG4, HE1, HQ4, hid ?_⟩, by simp [intOf]; omega⟩
      rw [← HTK.out]
      exact HR4.out
    · obtain rfl : i = n := by omega
      go_wp2_with fail
      go_ret
      refine ⟨_, _, _, rfl, ?_, HG.out⟩
      have := HR.out
      rw [List.take_of_length_le (by have := HNL.out; omega)] at this
      first | exact IsP.ofQ HQ.out this | (rw [← HTP.out]; exact IsP.ofQ HQ.out this)
end Go.Proofs.YtceoegmflbgckaaGreatDoor

set_option linter.unusedVariables false
set_option linter.unusedSimpArgs false
namespace Go.Proofs.YtceoegmflbgckaaGreatDoor
open Go Go.RowKit _root_.Nm
set_option maxHeartbeats 64000000 in
set_option maxRecDepth 100000 in
theorem rAdd6_v (H : Nat) (B : Int) {w : World} {p q : Option Addr} {n c m d : Nat} {P Q : List Tm} (hP : IsP w p n c P) (hQ : IsP w q m d Q) (hH : H ≤ 9000) (bP : BdP H P) (bQ : BdP H Q) (eP : ExP B P) (eQ : ExP B Q) (hB : 0 ≤ B ∧ B ≤ 4294967296) (hn : n + m ≤ 1000000) :
    Calls Tryz.prog 26 #[.slice p n c, .slice q m d] w (PPost w (addP P Q)) := by
  have hlP := hP.len; have hcP := hP.cap; have hxP := hP.max
  have hlQ := hQ.len; have hcQ := hQ.cap; have hxQ := hQ.max
  have HPi := hid hP; have HQi := hid hQ
  have HBD := hid (And.intro bP (And.intro bQ (And.intro eP eQ)))
  clear hP hQ bP bQ eP eQ
  go_enter Tryz.func26, Tryz.ntmps26
  go_wp2_with fail
  go_loopw [5, 6, 7] (fun x y z wr => ∃ (i k : Nat) (pm : Option Addr) (nm cm : Nat) (rows : List (List Value)) (R : List Tm), i ≤ n ∧ k ≤ m ∧ nm + (n - i) + (m - k) ≤ 1000000 ∧ x = .slice pm nm cm ∧ y = .int .i64 i ∧ z = .int .i64 k ∧ Hid (w.grownBy wr none) ∧ Hid (QOwn wr w.heap.size 33 4 pm nm cm rows) ∧ Hid (RwS wr pm rows R) ∧ Hid (R ++ addP (P.drop i) (Q.drop k) = addP P Q)) (fun _ y z _ => (n - (intOf y).toNat) + (m - (intOf z).toNat))
  case atStart => exact ⟨0, 0, none, 0, 0, [], [], Nat.zero_le _, Nat.zero_le _, by omega, rfl, rfl, rfl, hid (grown_refl _ _), hid (QOwn.nil _ _ _ _), hid (RwS.nil _ _), hid rfl⟩
  case round =>
    obtain ⟨i, k, pm, nm, cm, rows, R, hi, hk, hle, rfl, rfl, rfl, HG, HQ, HR, HS⟩ := hrel
    have hcm := HQ.out.cap; have hmm := HQ.out.max
    have hsw := HG.out.size
    have HPB : Hid (∀ g, pm.map (·.block) = some g → w.heap.size ≤ g) := hid fun g e => by
      cases hpm : pm with
      | none => rw [hpm] at e; simp at e
      | some q => rw [hpm] at e; simp at e; have := (HQ.out.lt q hpm).1; omega
    by_cases hin : i < n
    · have hil : i < P.length := by omega
      obtain ⟨ba, oa, g1, p1, n1, c1, q1, m1, d1, a1, k1, e1, rfl, hxs, hV1, hX1⟩ := (HPi.out.tms i hil).out
      have hbaw : ba < w.heap.size := World.block_lt_of_cell? w _ hxs.1
      have HDP := hid (drop_at hil)
      obtain ⟨d1', d3'⟩ := And.intro (HBD.out.1.at hil) (HBD.out.2.2.1.at hil)
      obtain ⟨s, hs⟩ : ∃ s, s = P[i] := ⟨_, rfl⟩
      rw [← hs] at hV1 hX1 HDP d1' d3'
      obtain ⟨xs, v⟩ := s
      dsimp only at hV1 hX1 HDP d1' d3'
      replace hV1 := hV1.keep HG.out; replace hX1 := hX1.keep HG.out
      have x0 := HG.out.cell hxs.1 (by simp); have x1 := HG.out.cell hxs.2.1 (by simp); have x2 := HG.out.cell hxs.2.2.1 (by simp); have x3 := HG.out.cell hxs.2.2.2 (by simp)
      have HT1 : Hid (TmC wr [.bool g1, .slice p1 n1 c1, .slice q1 m1 d1, .slice a1 k1 e1] (xs, v)) := hid ⟨_, _, _, _, _, _, _, _, _, _, rfl, hV1, hX1⟩
      clear hxs hs
      by_cases hkm : k < m
      · have hkl : k < Q.length := by omega
        obtain ⟨bb, ob, g2, p2, n2, c2, q2, m2, d2, a2, k2, e2, rfl, hys, hV2, hX2⟩ := (HQi.out.tms k hkl).out
        have hbbw : bb < w.heap.size := World.block_lt_of_cell? w _ hys.1
        have HDQ := hid (drop_at hkl)
        obtain ⟨d2', d4'⟩ := And.intro (HBD.out.2.1.at hkl) (HBD.out.2.2.2.at hkl)
        obtain ⟨t, ht⟩ : ∃ t, t = Q[k] := ⟨_, rfl⟩
        rw [← ht] at hV2 hX2 HDQ d2' d4'
        obtain ⟨ys, u⟩ := t
        dsimp only at hV2 hX2 HDQ d2' d4'
        replace hV2 := hV2.keep HG.out; replace hX2 := hX2.keep HG.out
        have y0 := HG.out.cell hys.1 (by simp); have y1 := HG.out.cell hys.2.1 (by simp); have y2 := HG.out.cell hys.2.2.1 (by simp); have y3 := HG.out.cell hys.2.2.2 (by simp)
        have HT2 : Hid (TmC wr [.bool g2, .slice p2 n2 c2, .slice q2 m2 d2, .slice a2 k2 e2] (ys, u)) := hid ⟨_, _, _, _, _, _, _, _, _, _, rfl, hV2, hX2⟩
        clear hys ht
        have l1 := hV1.lens d1'; have l2 := hV2.lens d2'
        have HC5 := hid fun W (hg : wr.grownBy W none) => rcmpM_any a1 a2 k1 k2 e1 e2 xs ys 0 W (hX1.keep hg) (hX2.keep hg) d3' d4' hB hB
        have ho : ordZ 0 xs ys = lexL xs ys := by unfold ordZ; rw [if_neg (by intro h; have := h.1; omega)]
        rw [ho] at HC5
        have HA3 := hid fun W (hg : wr.grownBy W none) => rAdd3_v 9000 (hV1.keep hg).q (hV2.keep hg).q (by omega) (by omega) (by omega) (by omega) (by omega)
        have bsu := (HBD.out.1.at hil)
        obtain ⟨su, hsu⟩ : ∃ s, s = v + u := ⟨_, rfl⟩
        have hbsu : Bd 20000 su := by rw [hsu]; exact (d1'.add d2').mono (by omega)
        rw [← hsu] at HA3
        obtain ⟨sz, hsz⟩ : ∃ s, s = cmpR su 0 := ⟨_, rfl⟩
        have HSQ := hid fun W (hg : W.grownBy W none) g p n c q m d (h : IsV W g p n c q m d su) => rSign3_v 20000 h.q (h.lens hbsu).1 (h.lens hbsu).2 (by omega)
        rw [← hsz] at HSQ
        have hbnd : -1 ≤ lexL xs ys ∧ lexL xs ys ≤ 1 := lexZ_bound (ex xs) (ex ys) (max xs.length ys.length)
        obtain ⟨z, hz⟩ : ∃ z, z = lexL xs ys := ⟨_, rfl⟩
        rw [← hz] at HC5 hbnd
        have HZ := hid hz
        have HX1 := hid hX1
        have HSU := hid (And.intro hsu hsz)
        clear hz ho hV1 hX1 hV2 hX2 hsu hsz d1' d2' d3' d4' l1 l2 bsu hbsu
        unfold VPost at HA3
        go_upto_region 8 with fail
        refine wp_region_noPanic ?_
        refine wp_region_held_drew (S := (fun W => W.cell? ⟨ba, oa + i * 4, none⟩ = some (.bool g1) ∧ W.cell? ⟨ba, oa + i * 4 + 1, none⟩ = some (.slice p1 n1 c1) ∧ W.cell? ⟨ba, oa + i * 4 + 2, none⟩ = some (.slice q1 m1 d1) ∧ W.cell? ⟨ba, oa + i * 4 + 3, none⟩ = some (.slice a1 k1 e1) ∧ W.cell? ⟨bb, ob + k * 4, none⟩ = some (.bool g2) ∧ W.cell? ⟨bb, ob + k * 4 + 1, none⟩ = some (.slice p2 n2 c2) ∧ W.cell? ⟨bb, ob + k * 4 + 2, none⟩ = some (.slice q2 m2 d2) ∧ W.cell? ⟨bb, ob + k * 4 + 3, none⟩ = some (.slice a2 k2 e2))) (by kernel_rfl) ?_ (fun hHeld => ?_)
        · (try dsimp only)
          exact ⟨(grown_drew _ none).cell x0 (by simp), (grown_drew _ none).cell x1 (by simp), (grown_drew _ none).cell x2 (by simp), (grown_drew _ none).cell x3 (by simp), (grown_drew _ none).cell y0 (by simp), (grown_drew _ none).cell y1 (by simp), (grown_drew _ none).cell y2 (by simp), (grown_drew _ none).cell y3 (by simp)⟩
        have hgg := grown_drew wr none
        generalize wr.drew = wd at *
        refine wpAnyH_take (i := 0) (oi := Oper.mk _ _ _ _ _ _) (v := ?_) rfl (by kernel_rfl) (by kernel_rfl) (by kernel_rfl) (fun _ _ _ h => h) (Or.inl ⟨by kernel_rfl, ?_⟩) hHeld ?_
        rotate_left 1
        · intro W hSw
          (try dsimp only at hSw)
          obtain ⟨h0, h1, h2, h3, h4, h5, h6, h7⟩ := hSw
          go_simp
          (try (with_reducible rfl))
        (try simp only [Act.put, List.setIfInBounds_toArray, List.set_cons_zero, List.set_cons_succ])
        refine wpAnyH_take (i := 1) (oi := Oper.mk _ _ _ _ _ _) (v := ?_) rfl (by kernel_rfl) (by kernel_rfl) (by kernel_rfl) (fun _ _ _ h => h) (Or.inl ⟨by kernel_rfl, ?_⟩) hHeld ?_
        rotate_left 1
        · intro W hSw
          (try dsimp only at hSw)
          obtain ⟨h0, h1, h2, h3, h4, h5, h6, h7⟩ := hSw
          go_simp
          (try (with_reducible rfl))
        (try simp only [Act.put, List.setIfInBounds_toArray, List.set_cons_zero, List.set_cons_succ])
        refine wpAnyH_take (i := 2) (oi := Oper.mk _ _ _ _ _ _) (v := ?_) rfl (by kernel_rfl) (by kernel_rfl) (by kernel_rfl) (fun _ _ _ h => h) (Or.inl ⟨by kernel_rfl, ?_⟩) hHeld ?_
        rotate_left 1
        · intro W hSw
          (try dsimp only at hSw)
          obtain ⟨h0, h1, h2, h3, h4, h5, h6, h7⟩ := hSw
          go_simp
          (try (with_reducible rfl))
        (try simp only [Act.put, List.setIfInBounds_toArray, List.set_cons_zero, List.set_cons_succ])
        refine wpAnyH_take (i := 3) (oi := Oper.mk _ _ _ _ _ _) (v := ?_) rfl (by kernel_rfl) (by kernel_rfl) (by kernel_rfl) (fun _ _ _ h => h) (Or.inl ⟨by kernel_rfl, ?_⟩) hHeld ?_
        rotate_left 1
        · intro W hSw
          (try dsimp only at hSw)
          obtain ⟨h0, h1, h2, h3, h4, h5, h6, h7⟩ := hSw
          go_simp
          (try (with_reducible rfl))
        (try simp only [Act.put, List.setIfInBounds_toArray, List.set_cons_zero, List.set_cons_succ])
        refine wpAnyH_take (i := 4) (oi := Oper.mk _ _ _ _ _ _) (v := ?_) rfl (by kernel_rfl) (by kernel_rfl) (by kernel_rfl) (fun _ _ _ h => h) (Or.inl ⟨by kernel_rfl, ?_⟩) hHeld ?_
        rotate_left 1
        · intro W hSw
          (try dsimp only at hSw)
          obtain ⟨h0, h1, h2, h3, h4, h5, h6, h7⟩ := hSw
          go_simp
          (try (with_reducible rfl))
        (try simp only [Act.put, List.setIfInBounds_toArray, List.set_cons_zero, List.set_cons_succ])
        refine wpAnyH_take (i := 5) (oi := Oper.mk _ _ _ _ _ _) (v := ?_) rfl (by kernel_rfl) (by kernel_rfl) (by kernel_rfl) (fun _ _ _ h => h) (Or.inl ⟨by kernel_rfl, ?_⟩) hHeld ?_
        rotate_left 1
        · intro W hSw
          (try dsimp only at hSw)
          obtain ⟨h0, h1, h2, h3, h4, h5, h6, h7⟩ := hSw
          go_simp
          (try (with_reducible rfl))
        (try simp only [Act.put, List.setIfInBounds_toArray, List.set_cons_zero, List.set_cons_succ])
        refine wpAnyH_take (i := 6) (oi := Oper.mk _ _ _ _ _ _) (v := ?_) rfl (by kernel_rfl) (by kernel_rfl) (by kernel_rfl) (fun _ _ _ h => h) (Or.inl ⟨by kernel_rfl, ?_⟩) hHeld ?_
        rotate_left 1
        · intro W hSw
          (try dsimp only at hSw)
          obtain ⟨h0, h1, h2, h3, h4, h5, h6, h7⟩ := hSw
          go_simp
          (try (with_reducible rfl))
        (try simp only [Act.put, List.setIfInBounds_toArray, List.set_cons_zero, List.set_cons_succ])
        refine wpAnyH_take (i := 7) (oi := Oper.mk _ _ _ _ _ _) (v := ?_) rfl (by kernel_rfl) (by kernel_rfl) (by kernel_rfl) (fun _ _ _ h => h) (Or.inl ⟨by kernel_rfl, ?_⟩) hHeld ?_
        rotate_left 1
        · intro W hSw
          (try dsimp only at hSw)
          obtain ⟨h0, h1, h2, h3, h4, h5, h6, h7⟩ := hSw
          go_simp
          (try (with_reducible rfl))
        (try simp only [Act.put, List.setIfInBounds_toArray, List.set_cons_zero, List.set_cons_succ])
        refine wpAnyH_take (i := 8) (oi := Oper.mk _ _ _ _ _ _) (v := ?_) rfl (by kernel_rfl) (by kernel_rfl) (by kernel_rfl) (fun _ _ _ h => h) (Or.inl ⟨by kernel_rfl, ?_⟩) hHeld ?_
        rotate_left 1
        · intro W hSw
          (try dsimp only at hSw)
          obtain ⟨h0, h1, h2, h3, h4, h5, h6, h7⟩ := hSw
          go_simp
          (try (with_reducible rfl))
        (try simp only [Act.put, List.setIfInBounds_toArray, List.set_cons_zero, List.set_cons_succ])
        refine wpAnyH_take (i := 9) (oi := Oper.mk _ _ _ _ _ _) (v := ?_) rfl (by kernel_rfl) (by kernel_rfl) (by kernel_rfl) (fun _ _ _ h => h) (Or.inl ⟨by kernel_rfl, ?_⟩) hHeld ?_
        rotate_left 1
        · intro W hSw
          (try dsimp only at hSw)
          obtain ⟨h0, h1, h2, h3, h4, h5, h6, h7⟩ := hSw
          go_simp
          (try (with_reducible rfl))
        (try simp only [Act.put, List.setIfInBounds_toArray, List.set_cons_zero, List.set_cons_succ])
        refine wpAnyH_ready (rs := [10]) (by kernel_rfl) (by simp) ?_
        refine AllReadyH.cons (o := Oper.mk _ _ _ _ _ _) rfl (fun K hK => ?_) AllReadyH.nil
        (try rw [if_pos (by kernel_rfl)])
        go_simp
        go_at_call 68
        refine (HC5.out _ hgg).mono ?_
        rintro e _ ⟨rfl, rfl⟩
        refine hK.out _ _ ?_ (fun hNew => ?_)
        · have hH := hHeld
          (try dsimp only at hH)
          (try dsimp only)
          first | with_reducible exact hH | exact ⟨hgS.cell hH.1 (by simp; try omega), hgS.cell hH.2.1 (by simp; try omega), hgS.cell hH.2.2.1 (by simp; try omega), hgS.cell hH.2.2.2.1 (by simp; try omega), hgS.cell hH.2.2.2.2.1 (by simp; try omega), hgS.cell hH.2.2.2.2.2.1 (by simp; try omega), hgS.cell hH.2.2.2.2.2.2.1 (by simp; try omega), hgS.cell hH.2.2.2.2.2.2.2 (by simp; try omega)⟩
        clear hK K hHeld
        have hHeld := hNew
        clear hNew
        (try simp only [Act.put, List.setIfInBounds_toArray, List.set_cons_zero, List.set_cons_succ])
        refine wpAnyH_ready (rs := [11]) (by kernel_rfl) (by simp) ?_
        refine AllReadyH.cons (o := Oper.mk _ _ _ _ _ _) rfl (fun K hK => ?_) AllReadyH.nil
        (try rw [if_pos (by kernel_rfl)])
        go_simp
        refine hK.out _ _ ?_ (fun hNew => ?_)
        · have hH := hHeld
          (try dsimp only at hH)
          (try dsimp only)
          first | with_reducible exact hH | exact ⟨hgS.cell hH.1 (by simp; try omega), hgS.cell hH.2.1 (by simp; try omega), hgS.cell hH.2.2.1 (by simp; try omega), hgS.cell hH.2.2.2.1 (by simp; try omega), hgS.cell hH.2.2.2.2.1 (by simp; try omega), hgS.cell hH.2.2.2.2.2.1 (by simp; try omega), hgS.cell hH.2.2.2.2.2.2.1 (by simp; try omega), hgS.cell hH.2.2.2.2.2.2.2 (by simp; try omega)⟩
        clear hK K hHeld
        have hHeld := hNew
        clear hNew
        (try simp only [Act.put, List.setIfInBounds_toArray, List.set_cons_zero, List.set_cons_succ])
        refine wpAnyH_done (by kernel_rfl) ?_ _
        refine NoPanic.normal ?_
        clear hHeld
        replace HQ := hid (HQ.out.keep hgg)
        replace HR := hid (HR.out.keep hgg)
        replace HT1 := hid (HT1.out.keep hgg)
        replace HT2 := hid (HT2.out.keep hgg)
        replace HX1 := hid (HX1.out.keep hgg)
        have HA3 := hid fun W (hg : wd.grownBy W none) => HA3.out W (grown_trans hgg hg)
        replace HG := hid (grown_trans HG.out hgg)
        have hszg := hgg.size
        replace x0 := hgg.cell x0 (by simp); replace x1 := hgg.cell x1 (by simp); replace x2 := hgg.cell x2 (by simp); replace x3 := hgg.cell x3 (by simp)
        replace y0 := hgg.cell y0 (by simp); replace y1 := hgg.cell y1 (by simp); replace y2 := hgg.cell y2 (by simp); replace y3 := hgg.cell y3 (by simp)
        clear hgg
        rcases Int.lt_trichotomy z 0 with hz0 | hz0 | hz0
        · have hzn : ¬ 0 < z := by omega
          have HZ0 := hid (show lexL xs ys < 0 by rw [← HZ.out]; exact hz0)
          clear hbnd
          go_wp2_with (with_reducible refine wlq_append _ rfl (.tmp 82) (.tmp 87) 35 rfl 33 4 (.agg #[.bool false, .slice none 0 0, .slice none 0 0, .slice none 0 0]) 80 Tryz.underlying35 infoTm tmZs four_pos tmZn w.heap.size _ _ _ rows rfl (QOwn.keep HQ.out (World.grownBy_alloc _ _ _)) _ 1 _ [[.bool g2, .slice p2 n2 c2, .slice q2 m2 d2, .slice a2 k2 e2]] rfl (one_srd _ _ 4 _ rfl _ (by simp)) (lone (noInt4 _ _ _ _ _ _ _ _ _ _)) (lone (one4 _ _ _ _ _ _ _ _ _ _)) (by omega) (by omega) (by simp; omega) ?_; intro p' c4 w4 hq4 hg4 hat; have HQ4 := hid hq4; have HR4 := hid (RwS.snoc (QOwn.keep HQ.out (World.grownBy_alloc _ _ _)) (RwS.keep HR.out (World.grownBy_alloc _ _ _)) (TmC.keep HT2.out (World.grownBy_alloc _ _ _)) hg4 hat); have HG4 := hid (grown_new (grown_trans HG.out (World.grownBy_alloc _ _ _)) hg4 (fun g e => by have := HPB.out _ e; omega)); clear hq4 hg4 hat)
          refine ⟨⟨i, k + 1, p', nm + 1, c4, rows ++ [[.bool g2, .slice p2 n2 c2, .slice q2 m2 d2, .slice a2 k2 e2]], R ++ [(ys, u)], by omega, by omega, by omega, by go_num, by first | rfl | go_num, by first | rfl | go_num, HG4, HQ4, HR4, hid ?_⟩, by simp [intOf]; omega⟩
          have := HS.out
          rw [HDP.out, HDQ.out, addP_lt HZ0.out, ← HDP.out] at this
          rw [← this]
          simp
        · subst hz0
          have HZ0 := hid (show lexL xs ys = 0 by rw [← HZ.out])
          clear hbnd
          go_upto_region 9 with fail
          have hwvs := HG.out.size
          refine wp_region_noPanic ?_
          refine wp_region_held_drew (S := (fun W => W.cell? ⟨ba, oa + i * 4, none⟩ = some (.bool g1) ∧ W.cell? ⟨ba, oa + i * 4 + 1, none⟩ = some (.slice p1 n1 c1) ∧ W.cell? ⟨ba, oa + i * 4 + 2, none⟩ = some (.slice q1 m1 d1) ∧ W.cell? ⟨ba, oa + i * 4 + 3, none⟩ = some (.slice a1 k1 e1) ∧ W.cell? ⟨bb, ob + k * 4, none⟩ = some (.bool g2) ∧ W.cell? ⟨bb, ob + k * 4 + 1, none⟩ = some (.slice p2 n2 c2) ∧ W.cell? ⟨bb, ob + k * 4 + 2, none⟩ = some (.slice q2 m2 d2) ∧ W.cell? ⟨bb, ob + k * 4 + 3, none⟩ = some (.slice a2 k2 e2))) (by kernel_rfl) ?_ (fun hHeld => ?_)
          · (try dsimp only)
            exact ⟨(grown_drew _ none).cell x0 (by simp), (grown_drew _ none).cell x1 (by simp), (grown_drew _ none).cell x2 (by simp), (grown_drew _ none).cell x3 (by simp), (grown_drew _ none).cell y0 (by simp), (grown_drew _ none).cell y1 (by simp), (grown_drew _ none).cell y2 (by simp), (grown_drew _ none).cell y3 (by simp)⟩
          have hgg := grown_drew wd none
          have hbav : ba < wd.heap.size := by omega
          have hbbv : bb < wd.heap.size := by omega
          generalize wd.drew = wd2 at *
          refine wpAnyH_take (i := 0) (oi := Oper.mk _ _ _ _ _ _) (v := ?_) rfl (by kernel_rfl) (by kernel_rfl) (by kernel_rfl) (fun _ _ _ h => h) (Or.inl ⟨by kernel_rfl, ?_⟩) hHeld ?_
          rotate_left 1
          · intro W hSw
            (try dsimp only at hSw)
            obtain ⟨h0, h1, h2, h3, h4, h5, h6, h7⟩ := hSw
            go_simp
            (try (with_reducible rfl))
          (try simp only [Act.put, List.setIfInBounds_toArray, List.set_cons_zero, List.set_cons_succ])
          refine wpAnyH_take (i := 1) (oi := Oper.mk _ _ _ _ _ _) (v := ?_) rfl (by kernel_rfl) (by kernel_rfl) (by kernel_rfl) (fun _ _ _ h => h) (Or.inl ⟨by kernel_rfl, ?_⟩) hHeld ?_
          rotate_left 1
          · intro W hSw
            (try dsimp only at hSw)
            obtain ⟨h0, h1, h2, h3, h4, h5, h6, h7⟩ := hSw
            go_simp
            (try (with_reducible rfl))
          (try simp only [Act.put, List.setIfInBounds_toArray, List.set_cons_zero, List.set_cons_succ])
          refine wpAnyH_take (i := 2) (oi := Oper.mk _ _ _ _ _ _) (v := ?_) rfl (by kernel_rfl) (by kernel_rfl) (by kernel_rfl) (fun _ _ _ h => h) (Or.inl ⟨by kernel_rfl, ?_⟩) hHeld ?_
          rotate_left 1
          · intro W hSw
            (try dsimp only at hSw)
            obtain ⟨h0, h1, h2, h3, h4, h5, h6, h7⟩ := hSw
            go_simp
            (try (with_reducible rfl))
          (try simp only [Act.put, List.setIfInBounds_toArray, List.set_cons_zero, List.set_cons_succ])
          refine wpAnyH_take (i := 3) (oi := Oper.mk _ _ _ _ _ _) (v := ?_) rfl (by kernel_rfl) (by kernel_rfl) (by kernel_rfl) (fun _ _ _ h => h) (Or.inl ⟨by kernel_rfl, ?_⟩) hHeld ?_
          rotate_left 1
          · intro W hSw
            (try dsimp only at hSw)
            obtain ⟨h0, h1, h2, h3, h4, h5, h6, h7⟩ := hSw
            go_simp
            (try (with_reducible rfl))
          (try simp only [Act.put, List.setIfInBounds_toArray, List.set_cons_zero, List.set_cons_succ])
          refine wpAnyH_take (i := 4) (oi := Oper.mk _ _ _ _ _ _) (v := ?_) rfl (by kernel_rfl) (by kernel_rfl) (by kernel_rfl) (fun _ _ _ h => h) (Or.inl ⟨by kernel_rfl, ?_⟩) hHeld ?_
          rotate_left 1
          · intro W hSw
            (try dsimp only at hSw)
            obtain ⟨h0, h1, h2, h3, h4, h5, h6, h7⟩ := hSw
            go_simp
            (try (with_reducible rfl))
          (try simp only [Act.put, List.setIfInBounds_toArray, List.set_cons_zero, List.set_cons_succ])
          refine wpAnyH_take (i := 5) (oi := Oper.mk _ _ _ _ _ _) (v := ?_) rfl (by kernel_rfl) (by kernel_rfl) (by kernel_rfl) (fun _ _ _ h => h) (Or.inl ⟨by kernel_rfl, ?_⟩) hHeld ?_
          rotate_left 1
          · intro W hSw
            (try dsimp only at hSw)
            obtain ⟨h0, h1, h2, h3, h4, h5, h6, h7⟩ := hSw
            go_simp
            (try (with_reducible rfl))
          (try simp only [Act.put, List.setIfInBounds_toArray, List.set_cons_zero, List.set_cons_succ])
          refine wpAnyH_take (i := 6) (oi := Oper.mk _ _ _ _ _ _) (v := ?_) rfl (by kernel_rfl) (by kernel_rfl) (by kernel_rfl) (fun _ _ _ h => h) (Or.inl ⟨by kernel_rfl, ?_⟩) hHeld ?_
          rotate_left 1
          · intro W hSw
            (try dsimp only at hSw)
            obtain ⟨h0, h1, h2, h3, h4, h5, h6, h7⟩ := hSw
            go_simp
            (try (with_reducible rfl))
          (try simp only [Act.put, List.setIfInBounds_toArray, List.set_cons_zero, List.set_cons_succ])
          refine wpAnyH_take (i := 7) (oi := Oper.mk _ _ _ _ _ _) (v := ?_) rfl (by kernel_rfl) (by kernel_rfl) (by kernel_rfl) (fun _ _ _ h => h) (Or.inl ⟨by kernel_rfl, ?_⟩) hHeld ?_
          rotate_left 1
          · intro W hSw
            (try dsimp only at hSw)
            obtain ⟨h0, h1, h2, h3, h4, h5, h6, h7⟩ := hSw
            go_simp
            (try (with_reducible rfl))
          (try simp only [Act.put, List.setIfInBounds_toArray, List.set_cons_zero, List.set_cons_succ])
          refine wpAnyH_take (i := 8) (oi := Oper.mk _ _ _ _ _ _) (v := ?_) rfl (by kernel_rfl) (by kernel_rfl) (by kernel_rfl) (fun _ _ _ h => h) (Or.inl ⟨by kernel_rfl, ?_⟩) hHeld ?_
          rotate_left 1
          · intro W hSw
            (try dsimp only at hSw)
            obtain ⟨h0, h1, h2, h3, h4, h5, h6, h7⟩ := hSw
            go_simp
            (try (with_reducible rfl))
          (try simp only [Act.put, List.setIfInBounds_toArray, List.set_cons_zero, List.set_cons_succ])
          refine wpAnyH_take (i := 9) (oi := Oper.mk _ _ _ _ _ _) (v := ?_) rfl (by kernel_rfl) (by kernel_rfl) (by kernel_rfl) (fun _ _ _ h => h) (Or.inl ⟨by kernel_rfl, ?_⟩) hHeld ?_
          rotate_left 1
          · intro W hSw
            (try dsimp only at hSw)
            obtain ⟨h0, h1, h2, h3, h4, h5, h6, h7⟩ := hSw
            go_simp
            (try (with_reducible rfl))
          (try simp only [Act.put, List.setIfInBounds_toArray, List.set_cons_zero, List.set_cons_succ])
          refine wpAnyH_ready (rs := [10, 11]) (by kernel_rfl) (by simp) ?_
          refine AllReadyH.cons (o := Oper.mk _ _ _ _ _ _) rfl (fun K hK => ?_) ?_
          · (try rw [if_pos (by kernel_rfl)])
            go_simp
            go_at_call 85
            refine (HA3.out _ hgg).mono ?_
            rintro e wy11 ⟨g3, p3, n3, c3, q3, m3, d3, rfl, hV3, hn3, hm3, hgS⟩
            replace hgg := grown_trans hgg hgS
            refine hK.out _ _ ?_ (fun hNew => ?_)
            · have hH := hHeld
              (try dsimp only at hH)
              (try dsimp only)
              first | with_reducible exact hH | exact ⟨hgS.cell hH.1 (by simp; try omega), hgS.cell hH.2.1 (by simp; try omega), hgS.cell hH.2.2.1 (by simp; try omega), hgS.cell hH.2.2.2.1 (by simp; try omega), hgS.cell hH.2.2.2.2.1 (by simp; try omega), hgS.cell hH.2.2.2.2.2.1 (by simp; try omega), hgS.cell hH.2.2.2.2.2.2.1 (by simp; try omega), hgS.cell hH.2.2.2.2.2.2.2 (by simp; try omega)⟩
            clear hK K hHeld
            have hHeld := hNew
            clear hNew
            (try simp only [Act.put, List.setIfInBounds_toArray, List.set_cons_zero, List.set_cons_succ])
            clear hgS
            refine wpAnyH_ready (rs := [11]) (by kernel_rfl) (by simp) ?_
            refine AllReadyH.cons (o := Oper.mk _ _ _ _ _ _) rfl (fun K hK => ?_) AllReadyH.nil
            (try rw [if_pos (by kernel_rfl)])
            go_simp
            have hgS := World.grownBy_alloc wy11 (.cells #[.bool false, .slice none 0 0, .slice none 0 0] 29 (0, 0)) none
            have hb9 := blk0 wy11 (.cells #[.bool false, .slice none 0 0, .slice none 0 0] 29 (0, 0))
            have hleb9 := hgg.size
            replace hgg := grown_trans hgg hgS
            replace hV3 := hV3.keep hgS
            refine hK.out _ _ ?_ (fun hNew => ?_)
            · have hH := hHeld
              (try dsimp only at hH)
              (try dsimp only)
              first | with_reducible exact hH | exact ⟨hgS.cell hH.1 (by simp; try omega), hgS.cell hH.2.1 (by simp; try omega), hgS.cell hH.2.2.1 (by simp; try omega), hgS.cell hH.2.2.2.1 (by simp; try omega), hgS.cell hH.2.2.2.2.1 (by simp; try omega), hgS.cell hH.2.2.2.2.2.1 (by simp; try omega), hgS.cell hH.2.2.2.2.2.2.1 (by simp; try omega), hgS.cell hH.2.2.2.2.2.2.2 (by simp; try omega)⟩
            clear hK K hHeld
            have hHeld := hNew
            clear hNew
            (try simp only [Act.put, List.setIfInBounds_toArray, List.set_cons_zero, List.set_cons_succ])
            generalize wy11.heap.size = b9 at *
            generalize wy11.alloc _ = wy12 at *
            clear hgS
            refine wpAnyH_ready (rs := [12]) (by kernel_rfl) (by simp) ?_
            refine AllReadyH.cons (o := Oper.mk _ _ _ _ _ _) rfl (fun K hK => ?_) AllReadyH.nil
            (try rw [if_pos (by kernel_rfl)])
            obtain ⟨z0, z1, z2⟩ := box3p hb9
            have zf := fun o => frozen_of_row wy12 b9 o _ _ hb9
            have f0 := zf 0
            have f1 := zf 1
            have f2 := zf 2
            have hb9lt := lt_of_block hb9
            go_simp
            have hgS := set3_grown wy12 b9 (.bool g3) (.slice p3 n3 c3) (.slice q3 m3 d3)
            have hbE := set3_block hb9 g3 p3 n3 c3 q3 m3 d3
            have HV3 := hid (hV3.other3 hb9 hgS)
            have hggE := hid (grown_new hgg hgS (fun g' e => by cases e; exact hleb9))
            clear z0 z1 z2 zf f0 f1 f2
            refine hK.out _ _ ?_ (fun hNew => ?_)
            · have hH := hHeld
              (try dsimp only at hH)
              (try dsimp only)
              exact ⟨hgS.cell hH.1 (by simp; omega), hgS.cell hH.2.1 (by simp; omega), hgS.cell hH.2.2.1 (by simp; omega), hgS.cell hH.2.2.2.1 (by simp; omega), hgS.cell hH.2.2.2.2.1 (by simp; omega), hgS.cell hH.2.2.2.2.2.1 (by simp; omega), hgS.cell hH.2.2.2.2.2.2.1 (by simp; omega), hgS.cell hH.2.2.2.2.2.2.2 (by simp; omega)⟩
            clear hK K hHeld
            have hHeld := hNew
            clear hNew
            (try simp only [Act.put, List.setIfInBounds_toArray, List.set_cons_zero, List.set_cons_succ])
            generalize ((wy12.setCell _ _).setCell _ _).setCell _ _ = wE at *
            have HBE := hid hbE
            clear hgS hb9 hV3 hbE hgg
            refine wpAnyH_done (by kernel_rfl) ?_ _
            refine NoPanic.normal ?_
            obtain ⟨h0, h1, h2, h3, h4, h5, h6, h7⟩ := hHeld
            (try dsimp only at h0 h1 h2 h3 h4 h5 h6 h7)
            clear x0 x1 x2 x3 y0 y1 y2 y3
            have x3 := h3
            clear h3 h0 h1 h2 h4 h5 h6 h7
            have hszE := hggE.out.size
            have HNE : Hid (¬ pm.map (·.block) = some b9) := hid fun e => by
              cases hpm : pm with
              | none => rw [hpm] at e; simp at e
              | some q => rw [hpm] at e; simp at e; have := (HQ.out.lt q hpm).2; omega
            replace HQ := hid (HQ.out.keep hggE.out)
            replace HR := hid (HR.out.keep hggE.out)
            replace HX1 := hid (HX1.out.keep hggE.out)
            replace HG := hid (grown_trans HG.out hggE.out)
            have HSG2 := hid (HSQ.out _ (grown_refl wE none) g3 p3 n3 c3 q3 m3 d3 HV3.out)
            obtain ⟨j0, j1, j2⟩ := box3p HBE.out
            by_cases hsz : sz = 0
            · subst hsz
              go_wp2_with (go_at_call 66; (with_reducible refine HSG2.out.mono ?_); rintro e w5 ⟨rfl, hg⟩; replace HG := hid (grown_trans HG.out hg); replace HQ := hid (HQ.out.keep hg); replace HR := hid (HR.out.keep hg); clear hg j0 j1 j2)
              refine ⟨⟨i + 1, k + 1, pm, nm, cm, rows, R, by omega, by omega, by omega, by go_num, by first | rfl | go_num, by first | rfl | go_num, HG, HQ, HR, hid ?_⟩, by simp [intOf]; omega⟩
              have := HS.out
              rw [HDP.out, HDQ.out, addP_eq HZ0.out, if_pos (by show v + u = 0; rw [← HSU.out.1]; exact cmpR_zero.1 HSU.out.2.symm)] at this
              exact this
            · have hszn : (sz != 0) = true := by simpa using hsz
              have HSNZ := hid hsz
              go_upto_region 11 with (go_at_call 66; (with_reducible refine HSG2.out.mono ?_); rintro e wq ⟨rfl, hg⟩; replace HG := hid (grown_trans HG.out hg); replace HQ := hid (HQ.out.keep hg); replace HR := hid (HR.out.keep hg); replace HX1 := hid (HX1.out.keep hg); replace HV3 := hid (HV3.out.keep hg); replace HBE := hid (keepB HBE.out hg); replace x3 := hg.cell x3 (by simp); clear hg j0 j1 j2)
              have hwqs := HG.out.size
              refine wp_region_noPanic ?_
              refine wp_region_held_drew (S := (fun W => W.heap[b9]? = some (.cells #[.bool g3, .slice p3 n3 c3, .slice q3 m3 d3] 29 (0, 0)) ∧ W.cell? ⟨ba, oa + i * 4 + 3, none⟩ = some (.slice a1 k1 e1))) (by kernel_rfl) ?_ (fun hHeld => ?_)
              · (try dsimp only)
                exact ⟨keepB HBE.out (grown_drew _ none), (grown_drew _ none).cell x3 (by simp)⟩
              have hgg := grown_drew wq none
              have hO := HQ.out.keep hgg
              have hR := HR.out.keep hgg
              have hX := HX1.out.keep hgg
              have hV3 := HV3.out.keep hgg
              generalize wq.drew = wd3 at *
              refine wpAnyH_take (i := 0) (oi := Oper.mk _ _ _ _ _ _) (v := ?_) rfl (by kernel_rfl) (by kernel_rfl) (by kernel_rfl) (fun _ _ _ h => h) (Or.inl ⟨by kernel_rfl, ?_⟩) hHeld ?_
              rotate_left 1
              · intro W hSw
                (try dsimp only at hSw)
                obtain ⟨hb, h3⟩ := hSw
                obtain ⟨j0, j1, j2⟩ := box3p hb
                go_simp
                (try (with_reducible rfl))
              (try simp only [Act.put, List.setIfInBounds_toArray, List.set_cons_zero, List.set_cons_succ])
              refine wpAnyH_take (i := 1) (oi := Oper.mk _ _ _ _ _ _) (v := ?_) rfl (by kernel_rfl) (by kernel_rfl) (by kernel_rfl) (fun _ _ _ h => h) (Or.inl ⟨by kernel_rfl, ?_⟩) hHeld ?_
              rotate_left 1
              · intro W hSw
                (try dsimp only at hSw)
                obtain ⟨hb, h3⟩ := hSw
                obtain ⟨j0, j1, j2⟩ := box3p hb
                go_simp
                (try (with_reducible rfl))
              (try simp only [Act.put, List.setIfInBounds_toArray, List.set_cons_zero, List.set_cons_succ])
              refine wpAnyH_take (i := 2) (oi := Oper.mk _ _ _ _ _ _) (v := ?_) rfl (by kernel_rfl) (by kernel_rfl) (by kernel_rfl) (fun _ _ _ h => h) (Or.inl ⟨by kernel_rfl, ?_⟩) hHeld ?_
              rotate_left 1
              · intro W hSw
                (try dsimp only at hSw)
                obtain ⟨hb, h3⟩ := hSw
                obtain ⟨j0, j1, j2⟩ := box3p hb
                go_simp
                (try (with_reducible rfl))
              (try simp only [Act.put, List.setIfInBounds_toArray, List.set_cons_zero, List.set_cons_succ])
              refine wpAnyH_take (i := 3) (oi := Oper.mk _ _ _ _ _ _) (v := ?_) rfl (by kernel_rfl) (by kernel_rfl) (by kernel_rfl) (fun _ _ _ h => h) (Or.inl ⟨by kernel_rfl, ?_⟩) hHeld ?_
              rotate_left 1
              · intro W hSw
                (try dsimp only at hSw)
                obtain ⟨hb, h3⟩ := hSw
                obtain ⟨j0, j1, j2⟩ := box3p hb
                go_simp
                (try (with_reducible rfl))
              (try simp only [Act.put, List.setIfInBounds_toArray, List.set_cons_zero, List.set_cons_succ])
              refine wpAnyH_take (i := 4) (oi := Oper.mk _ _ _ _ _ _) (v := ?_) rfl (by kernel_rfl) (by kernel_rfl) (by kernel_rfl) (fun _ _ _ h => h) (Or.inl ⟨by kernel_rfl, ?_⟩) hHeld ?_
              rotate_left 1
              · intro W hSw
                (try dsimp only at hSw)
                obtain ⟨hb, h3⟩ := hSw
                obtain ⟨j0, j1, j2⟩ := box3p hb
                go_simp
                (try (with_reducible rfl))
              (try simp only [Act.put, List.setIfInBounds_toArray, List.set_cons_zero, List.set_cons_succ])
              refine wpAnyH_take (i := 5) (oi := Oper.mk _ _ _ _ _ _) (v := ?_) rfl (by kernel_rfl) (by kernel_rfl) (by kernel_rfl) (fun _ _ _ h => h) (Or.inl ⟨by kernel_rfl, ?_⟩) hHeld ?_
              rotate_left 1
              · intro W hSw
                (try dsimp only at hSw)
                obtain ⟨hb, h3⟩ := hSw
                obtain ⟨j0, j1, j2⟩ := box3p hb
                go_simp
                (try (with_reducible rfl))
              (try simp only [Act.put, List.setIfInBounds_toArray, List.set_cons_zero, List.set_cons_succ])
              refine wpAnyH_take (i := 6) (oi := Oper.mk _ _ _ _ _ _) (v := ?_) rfl (by kernel_rfl) (by kernel_rfl) (by kernel_rfl) (fun _ _ _ h => h) (Or.inl ⟨by kernel_rfl, ?_⟩) hHeld ?_
              rotate_left 1
              · intro W hSw
                (try dsimp only at hSw)
                obtain ⟨hb, h3⟩ := hSw
                obtain ⟨j0, j1, j2⟩ := box3p hb
                go_simp
                (try (with_reducible rfl))
              (try simp only [Act.put, List.setIfInBounds_toArray, List.set_cons_zero, List.set_cons_succ])
              refine wpAnyH_ready (rs := [7]) (by kernel_rfl) (by simp) ?_
              refine AllReadyH.cons (o := Oper.mk _ _ _ _ _ _) rfl (fun K hK => ?_) AllReadyH.nil
              (try rw [if_pos (by kernel_rfl)])
              go_simp
              refine hK.out _ _ ?_ (fun hNew => ?_)
              · have hH := hHeld
                (try dsimp only at hH)
                (try dsimp only)
                first | with_reducible exact hH | exact ⟨keepB hH.1 hgS, hgS.cell hH.2 (by simp)⟩
              clear hK K hHeld
              have hHeld := hNew
              clear hNew
              (try simp only [Act.put, List.setIfInBounds_toArray, List.set_cons_zero, List.set_cons_succ])
              refine wpAnyH_ready (rs := [8]) (by kernel_rfl) (by simp) ?_
              refine AllReadyH.cons (o := Oper.mk _ _ _ _ _ _) rfl (fun K hK => ?_) AllReadyH.nil
              (try rw [if_pos (by kernel_rfl)])
              go_simp
              have hgS := World.grownBy_alloc wd3 (.cells #[.bool g3, .slice p3 n3 c3, .slice q3 m3 d3, .slice a1 k1 e1] 33 (0, 0)) none
              have hbR := blk0 wd3 (.cells #[.bool g3, .slice p3 n3 c3, .slice q3 m3 d3, .slice a1 k1 e1] 33 (0, 0))
              have hlegr := hgg.size
              replace hgg := grown_trans hgg hgS
              replace hO := hO.keep hgS
              replace hR := hR.keep hgS
              replace hX := hX.keep hgS
              replace hV3 := hV3.keep hgS
              refine hK.out _ _ ?_ (fun hNew => ?_)
              · have hH := hHeld
                (try dsimp only at hH)
                (try dsimp only)
                first | with_reducible exact hH | exact ⟨keepB hH.1 hgS, hgS.cell hH.2 (by simp)⟩
              clear hK K hHeld
              have hHeld := hNew
              clear hNew
              (try simp only [Act.put, List.setIfInBounds_toArray, List.set_cons_zero, List.set_cons_succ])
              generalize wd3.heap.size = gr at *
              generalize wd3.alloc _ = wy21 at *
              clear hgS
              refine wpAnyH_ready (rs := [9]) (by kernel_rfl) (by simp) ?_
              refine AllReadyH.cons (o := Oper.mk _ _ _ _ _ _) rfl (fun K hK => ?_) AllReadyH.nil
              have hszA := hgg.size
              have hT : TmC wy21 [.bool g3, .slice p3 n3 c3, .slice q3 m3 d3, .slice a1 k1 e1] (xs, su) := ⟨_, _, _, _, _, _, _, _, _, _, rfl, hV3, hX⟩
              refine step_qappend wy21 rfl (.tmp 53) (.tmp 61) 35 rfl 33 4 (.agg #[.bool false, .slice none 0 0, .slice none 0 0, .slice none 0 0]) 80 Tryz.underlying35 infoTm tmZs four_pos tmZn w.heap.size pm nm cm rows rfl hO _ 1 _ [[.bool g3, .slice p3 n3 c3, .slice q3 m3 d3, .slice a1 k1 e1]] rfl (srdQ hbR) (lone (noInt4 _ _ _ _ _ _ _ _ _ _)) (lone (one4 _ _ _ _ _ _ _ _ _ _)) (by omega) (by omega) (by omega) ?_
              intro p' c4 wy22 hq4 hgA hat
              refine hK.out _ _ ?_ (fun hNew => ?_)
              · have hH := hHeld
                (try dsimp only at hH)
                (try dsimp only)
                exact ⟨(hgA.block b9 (lt_of_block hH.1) (fun e => HNE.out e.symm)).trans hH.1, hgA.cell hH.2 (fun e => by have := HPB.out _ e.symm; simp at this; omega)⟩
              clear hK K hHeld
              have hHeld := hNew
              clear hNew
              (try simp only [Act.put, List.setIfInBounds_toArray, List.set_cons_zero, List.set_cons_succ])
              have HR4 := hid (RwS.snoc hO hR hT hgA hat)
              have HG4 := hid (grown_new (grown_trans HG.out hgg) hgA (fun g' e => by have := HPB.out _ e; omega))
              refine wpAnyH_ready (rs := [10]) (by kernel_rfl) (by simp) ?_
              refine AllReadyH.cons (o := Oper.mk _ _ _ _ _ _) rfl (fun K hK => ?_) AllReadyH.nil
              (try rw [if_pos (by kernel_rfl)])
              go_simp
              refine hK.out _ _ ?_ (fun hNew => ?_)
              · have hH := hHeld
                (try dsimp only at hH)
                (try dsimp only)
                first | with_reducible exact hH | exact ⟨keepB hH.1 hgS, hgS.cell hH.2 (by simp)⟩
              clear hK K hHeld
              have hHeld := hNew
              clear hNew
              (try simp only [Act.put, List.setIfInBounds_toArray, List.set_cons_zero, List.set_cons_succ])
              refine wpAnyH_done (by kernel_rfl) ?_ _
              refine NoPanic.normal ?_
              clear hHeld
              have HQ4 := hid hq4
              clear hq4 hgA hat hT hbR hO hR hX hV3 hgg
              go_wp2_with fail
              refine ⟨⟨i + 1, k + 1, p', nm + 1, c4, _, R ++ [(xs, su)], by omega, by omega, by omega, by go_num, by first | rfl | go_num, by first | rfl | go_num, HG4, HQ4, HR4, hid ?_⟩, by simp [intOf]; omega⟩
              have := HS.out
              rw [HDP.out, HDQ.out, addP_eq HZ0.out, if_neg (by show ¬ v + u = 0; rw [← HSU.out.1]; intro h; exact HSNZ.out (by rw [HSU.out.2, h, cmpR_eq])), ← HSU.out.1] at this
              rw [← this]
              simp
          refine AllReadyH.cons (o := Oper.mk _ _ _ _ _ _) rfl (fun K hK => ?_) AllReadyH.nil
          (try rw [if_pos (by kernel_rfl)])
          go_simp
          have hgS := World.grownBy_alloc wd2 (.cells #[.bool false, .slice none 0 0, .slice none 0 0] 29 (0, 0)) none
          have hb9 := blk0 wd2 (.cells #[.bool false, .slice none 0 0, .slice none 0 0] 29 (0, 0))
          have hleb9 := hgg.size
          replace hgg := grown_trans hgg hgS
          refine hK.out _ _ ?_ (fun hNew => ?_)
          · have hH := hHeld
            (try dsimp only at hH)
            (try dsimp only)
            first | with_reducible exact hH | exact ⟨hgS.cell hH.1 (by simp; try omega), hgS.cell hH.2.1 (by simp; try omega), hgS.cell hH.2.2.1 (by simp; try omega), hgS.cell hH.2.2.2.1 (by simp; try omega), hgS.cell hH.2.2.2.2.1 (by simp; try omega), hgS.cell hH.2.2.2.2.2.1 (by simp; try omega), hgS.cell hH.2.2.2.2.2.2.1 (by simp; try omega), hgS.cell hH.2.2.2.2.2.2.2 (by simp; try omega)⟩
          clear hK K hHeld
          have hHeld := hNew
          clear hNew
          (try simp only [Act.put, List.setIfInBounds_toArray, List.set_cons_zero, List.set_cons_succ])
          generalize wd2.heap.size = b9 at *
          generalize wd2.alloc _ = wy11 at *
          clear hgS
          refine wpAnyH_ready (rs := [10]) (by kernel_rfl) (by simp) ?_
          refine AllReadyH.cons (o := Oper.mk _ _ _ _ _ _) rfl (fun K hK => ?_) AllReadyH.nil
          (try rw [if_pos (by kernel_rfl)])
          go_simp
          go_at_call 85
          refine (HA3.out _ hgg).mono ?_
          rintro e wy12 ⟨g3, p3, n3, c3, q3, m3, d3, rfl, hV3, hn3, hm3, hgS⟩
          replace hgg := grown_trans hgg hgS
          replace hb9 := keepB hb9 hgS
          refine hK.out _ _ ?_ (fun hNew => ?_)
          · have hH := hHeld
            (try dsimp only at hH)
            (try dsimp only)
            first | with_reducible exact hH | exact ⟨hgS.cell hH.1 (by simp; try omega), hgS.cell hH.2.1 (by simp; try omega), hgS.cell hH.2.2.1 (by simp; try omega), hgS.cell hH.2.2.2.1 (by simp; try omega), hgS.cell hH.2.2.2.2.1 (by simp; try omega), hgS.cell hH.2.2.2.2.2.1 (by simp; try omega), hgS.cell hH.2.2.2.2.2.2.1 (by simp; try omega), hgS.cell hH.2.2.2.2.2.2.2 (by simp; try omega)⟩
          clear hK K hHeld
          have hHeld := hNew
          clear hNew
          (try simp only [Act.put, List.setIfInBounds_toArray, List.set_cons_zero, List.set_cons_succ])
          clear hgS
          refine wpAnyH_ready (rs := [12]) (by kernel_rfl) (by simp) ?_
          refine AllReadyH.cons (o := Oper.mk _ _ _ _ _ _) rfl (fun K hK => ?_) AllReadyH.nil
          (try rw [if_pos (by kernel_rfl)])
          obtain ⟨z0, z1, z2⟩ := box3p hb9
          have zf := fun o => frozen_of_row wy12 b9 o _ _ hb9
          have f0 := zf 0
          have f1 := zf 1
          have f2 := zf 2
          have hb9lt := lt_of_block hb9
          go_simp
          have hgS := set3_grown wy12 b9 (.bool g3) (.slice p3 n3 c3) (.slice q3 m3 d3)
          have hbE := set3_block hb9 g3 p3 n3 c3 q3 m3 d3
          have HV3 := hid (hV3.other3 hb9 hgS)
          have hggE := hid (grown_new hgg hgS (fun g' e => by cases e; exact hleb9))
          clear z0 z1 z2 zf f0 f1 f2
          refine hK.out _ _ ?_ (fun hNew => ?_)
          · have hH := hHeld
            (try dsimp only at hH)
            (try dsimp only)
            exact ⟨hgS.cell hH.1 (by simp; omega), hgS.cell hH.2.1 (by simp; omega), hgS.cell hH.2.2.1 (by simp; omega), hgS.cell hH.2.2.2.1 (by simp; omega), hgS.cell hH.2.2.2.2.1 (by simp; omega), hgS.cell hH.2.2.2.2.2.1 (by simp; omega), hgS.cell hH.2.2.2.2.2.2.1 (by simp; omega), hgS.cell hH.2.2.2.2.2.2.2 (by simp; omega)⟩
          clear hK K hHeld
          have hHeld := hNew
          clear hNew
          (try simp only [Act.put, List.setIfInBounds_toArray, List.set_cons_zero, List.set_cons_succ])
          generalize ((wy12.setCell _ _).setCell _ _).setCell _ _ = wE at *
          have HBE := hid hbE
          clear hgS hb9 hV3 hbE hgg
          refine wpAnyH_done (by kernel_rfl) ?_ _
          refine NoPanic.normal ?_
          obtain ⟨h0, h1, h2, h3, h4, h5, h6, h7⟩ := hHeld
          (try dsimp only at h0 h1 h2 h3 h4 h5 h6 h7)
          clear x0 x1 x2 x3 y0 y1 y2 y3
          have x3 := h3
          clear h3 h0 h1 h2 h4 h5 h6 h7
          have hszE := hggE.out.size
          have HNE : Hid (¬ pm.map (·.block) = some b9) := hid fun e => by
            cases hpm : pm with
            | none => rw [hpm] at e; simp at e
            | some q => rw [hpm] at e; simp at e; have := (HQ.out.lt q hpm).2; omega
          replace HQ := hid (HQ.out.keep hggE.out)
          replace HR := hid (HR.out.keep hggE.out)
          replace HX1 := hid (HX1.out.keep hggE.out)
          replace HG := hid (grown_trans HG.out hggE.out)
          have HSG2 := hid (HSQ.out _ (grown_refl wE none) g3 p3 n3 c3 q3 m3 d3 HV3.out)
          obtain ⟨j0, j1, j2⟩ := box3p HBE.out
          by_cases hsz : sz = 0
          · subst hsz
            go_wp2_with (go_at_call 66; (with_reducible refine HSG2.out.mono ?_); rintro e w5 ⟨rfl, hg⟩; replace HG := hid (grown_trans HG.out hg); replace HQ := hid (HQ.out.keep hg); replace HR := hid (HR.out.keep hg); clear hg j0 j1 j2)
            refine ⟨⟨i + 1, k + 1, pm, nm, cm, rows, R, by omega, by omega, by omega, by go_num, by first | rfl | go_num, by first | rfl | go_num, HG, HQ, HR, hid ?_⟩, by simp [intOf]; omega⟩
            have := HS.out
            rw [HDP.out, HDQ.out, addP_eq HZ0.out, if_pos (by show v + u = 0; rw [← HSU.out.1]; exact cmpR_zero.1 HSU.out.2.symm)] at this
            exact this
          · have hszn : (sz != 0) = true := by simpa using hsz
            have HSNZ := hid hsz
            go_upto_region 11 with (go_at_call 66; (with_reducible refine HSG2.out.mono ?_); rintro e wq ⟨rfl, hg⟩; replace HG := hid (grown_trans HG.out hg); replace HQ := hid (HQ.out.keep hg); replace HR := hid (HR.out.keep hg); replace HX1 := hid (HX1.out.keep hg); replace HV3 := hid (HV3.out.keep hg); replace HBE := hid (keepB HBE.out hg); replace x3 := hg.cell x3 (by simp); clear hg j0 j1 j2)
            have hwqs := HG.out.size
            refine wp_region_noPanic ?_
            refine wp_region_held_drew (S := (fun W => W.heap[b9]? = some (.cells #[.bool g3, .slice p3 n3 c3, .slice q3 m3 d3] 29 (0, 0)) ∧ W.cell? ⟨ba, oa + i * 4 + 3, none⟩ = some (.slice a1 k1 e1))) (by kernel_rfl) ?_ (fun hHeld => ?_)
            · (try dsimp only)
              exact ⟨keepB HBE.out (grown_drew _ none), (grown_drew _ none).cell x3 (by simp)⟩
            have hgg := grown_drew wq none
            have hO := HQ.out.keep hgg
            have hR := HR.out.keep hgg
            have hX := HX1.out.keep hgg
            have hV3 := HV3.out.keep hgg
            generalize wq.drew = wd3 at *
            refine wpAnyH_take (i := 0) (oi := Oper.mk _ _ _ _ _ _) (v := ?_) rfl (by kernel_rfl) (by kernel_rfl) (by kernel_rfl) (fun _ _ _ h => h) (Or.inl ⟨by kernel_rfl, ?_⟩) hHeld ?_
            rotate_left 1
            · intro W hSw
              (try dsimp only at hSw)
              obtain ⟨hb, h3⟩ := hSw
              obtain ⟨j0, j1, j2⟩ := box3p hb
              go_simp
              (try (with_reducible rfl))
            (try simp only [Act.put, List.setIfInBounds_toArray, List.set_cons_zero, List.set_cons_succ])
            refine wpAnyH_take (i := 1) (oi := Oper.mk _ _ _ _ _ _) (v := ?_) rfl (by kernel_rfl) (by kernel_rfl) (by kernel_rfl) (fun _ _ _ h => h) (Or.inl ⟨by kernel_rfl, ?_⟩) hHeld ?_
            rotate_left 1
            · intro W hSw
              (try dsimp only at hSw)
              obtain ⟨hb, h3⟩ := hSw
              obtain ⟨j0, j1, j2⟩ := box3p hb
              go_simp
              (try (with_reducible rfl))
            (try simp only [Act.put, List.setIfInBounds_toArray, List.set_cons_zero, List.set_cons_succ])
            refine wpAnyH_take (i := 2) (oi := Oper.mk _ _ _ _ _ _) (v := ?_) rfl (by kernel_rfl) (by kernel_rfl) (by kernel_rfl) (fun _ _ _ h => h) (Or.inl ⟨by kernel_rfl, ?_⟩) hHeld ?_
            rotate_left 1
            · intro W hSw
              (try dsimp only at hSw)
              obtain ⟨hb, h3⟩ := hSw
              obtain ⟨j0, j1, j2⟩ := box3p hb
              go_simp
              (try (with_reducible rfl))
            (try simp only [Act.put, List.setIfInBounds_toArray, List.set_cons_zero, List.set_cons_succ])
            refine wpAnyH_take (i := 3) (oi := Oper.mk _ _ _ _ _ _) (v := ?_) rfl (by kernel_rfl) (by kernel_rfl) (by kernel_rfl) (fun _ _ _ h => h) (Or.inl ⟨by kernel_rfl, ?_⟩) hHeld ?_
            rotate_left 1
            · intro W hSw
              (try dsimp only at hSw)
              obtain ⟨hb, h3⟩ := hSw
              obtain ⟨j0, j1, j2⟩ := box3p hb
              go_simp
              (try (with_reducible rfl))
            (try simp only [Act.put, List.setIfInBounds_toArray, List.set_cons_zero, List.set_cons_succ])
            refine wpAnyH_take (i := 4) (oi := Oper.mk _ _ _ _ _ _) (v := ?_) rfl (by kernel_rfl) (by kernel_rfl) (by kernel_rfl) (fun _ _ _ h => h) (Or.inl ⟨by kernel_rfl, ?_⟩) hHeld ?_
            rotate_left 1
            · intro W hSw
              (try dsimp only at hSw)
              obtain ⟨hb, h3⟩ := hSw
              obtain ⟨j0, j1, j2⟩ := box3p hb
              go_simp
              (try (with_reducible rfl))
            (try simp only [Act.put, List.setIfInBounds_toArray, List.set_cons_zero, List.set_cons_succ])
            refine wpAnyH_take (i := 5) (oi := Oper.mk _ _ _ _ _ _) (v := ?_) rfl (by kernel_rfl) (by kernel_rfl) (by kernel_rfl) (fun _ _ _ h => h) (Or.inl ⟨by kernel_rfl, ?_⟩) hHeld ?_
            rotate_left 1
            · intro W hSw
              (try dsimp only at hSw)
              obtain ⟨hb, h3⟩ := hSw
              obtain ⟨j0, j1, j2⟩ := box3p hb
              go_simp
              (try (with_reducible rfl))
            (try simp only [Act.put, List.setIfInBounds_toArray, List.set_cons_zero, List.set_cons_succ])
            refine wpAnyH_take (i := 6) (oi := Oper.mk _ _ _ _ _ _) (v := ?_) rfl (by kernel_rfl) (by kernel_rfl) (by kernel_rfl) (fun _ _ _ h => h) (Or.inl ⟨by kernel_rfl, ?_⟩) hHeld ?_
            rotate_left 1
            · intro W hSw
              (try dsimp only at hSw)
              obtain ⟨hb, h3⟩ := hSw
              obtain ⟨j0, j1, j2⟩ := box3p hb
              go_simp
              (try (with_reducible rfl))
            (try simp only [Act.put, List.setIfInBounds_toArray, List.set_cons_zero, List.set_cons_succ])
            refine wpAnyH_ready (rs := [7]) (by kernel_rfl) (by simp) ?_
            refine AllReadyH.cons (o := Oper.mk _ _ _ _ _ _) rfl (fun K hK => ?_) AllReadyH.nil
            (try rw [if_pos (by kernel_rfl)])
            go_simp
            refine hK.out _ _ ?_ (fun hNew => ?_)
            · have hH := hHeld
              (try dsimp only at hH)
              (try dsimp only)
              first | with_reducible exact hH | exact ⟨keepB hH.1 hgS, hgS.cell hH.2 (by simp)⟩
            clear hK K hHeld
            have hHeld := hNew
            clear hNew
            (try simp only [Act.put, List.setIfInBounds_toArray, List.set_cons_zero, List.set_cons_succ])
            refine wpAnyH_ready (rs := [8]) (by kernel_rfl) (by simp) ?_
            refine AllReadyH.cons (o := Oper.mk _ _ _ _ _ _) rfl (fun K hK => ?_) AllReadyH.nil
            (try rw [if_pos (by kernel_rfl)])
            go_simp
            have hgS := World.grownBy_alloc wd3 (.cells #[.bool g3, .slice p3 n3 c3, .slice q3 m3 d3, .slice a1 k1 e1] 33 (0, 0)) none
            have hbR := blk0 wd3 (.cells #[.bool g3, .slice p3 n3 c3, .slice q3 m3 d3, .slice a1 k1 e1] 33 (0, 0))
            have hlegr := hgg.size
            replace hgg := grown_trans hgg hgS
            replace hO := hO.keep hgS
            replace hR := hR.keep hgS
            replace hX := hX.keep hgS
            replace hV3 := hV3.keep hgS
            refine hK.out _ _ ?_ (fun hNew => ?_)
            · have hH := hHeld
              (try dsimp only at hH)
              (try dsimp only)
              first | with_reducible exact hH | exact ⟨keepB hH.1 hgS, hgS.cell hH.2 (by simp)⟩
            clear hK K hHeld
            have hHeld := hNew
            clear hNew
            (try simp only [Act.put, List.setIfInBounds_toArray, List.set_cons_zero, List.set_cons_succ])
            generalize wd3.heap.size = gr at *
            generalize wd3.alloc _ = wy21 at *
            clear hgS
            refine wpAnyH_ready (rs := [9]) (by kernel_rfl) (by simp) ?_
            refine AllReadyH.cons (o := Oper.mk _ _ _ _ _ _) rfl (fun K hK => ?_) AllReadyH.nil
            have hszA := hgg.size
            have hT : TmC wy21 [.bool g3, .slice p3 n3 c3, .slice q3 m3 d3, .slice a1 k1 e1] (xs, su) := ⟨_, _, _, _, _, _, _, _, _, _, rfl, hV3, hX⟩
            refine step_qappend wy21 rfl (.tmp 53) (.tmp 61) 35 rfl 33 4 (.agg #[.bool false, .slice none 0 0, .slice none 0 0, .slice none 0 0]) 80 Tryz.underlying35 infoTm tmZs four_pos tmZn w.heap.size pm nm cm rows rfl hO _ 1 _ [[.bool g3, .slice p3 n3 c3, .slice q3 m3 d3, .slice a1 k1 e1]] rfl (srdQ hbR) (lone (noInt4 _ _ _ _ _ _ _ _ _ _)) (lone (one4 _ _ _ _ _ _ _ _ _ _)) (by omega) (by omega) (by omega) ?_
            intro p' c4 wy22 hq4 hgA hat
            refine hK.out _ _ ?_ (fun hNew => ?_)
            · have hH := hHeld
              (try dsimp only at hH)
              (try dsimp only)
              exact ⟨(hgA.block b9 (lt_of_block hH.1) (fun e => HNE.out e.symm)).trans hH.1, hgA.cell hH.2 (fun e => by have := HPB.out _ e.symm; simp at this; omega)⟩
            clear hK K hHeld
            have hHeld := hNew
            clear hNew
            (try simp only [Act.put, List.setIfInBounds_toArray, List.set_cons_zero, List.set_cons_succ])
            have HR4 := hid (RwS.snoc hO hR hT hgA hat)
            have HG4 := hid (grown_new (grown_trans HG.out hgg) hgA (fun g' e => by have := HPB.out _ e; omega))
            refine wpAnyH_ready (rs := [10]) (by kernel_rfl) (by simp) ?_
            refine AllReadyH.cons (o := Oper.mk _ _ _ _ _ _) rfl (fun K hK => ?_) AllReadyH.nil
            (try rw [if_pos (by kernel_rfl)])
            go_simp
            refine hK.out _ _ ?_ (fun hNew => ?_)
            · have hH := hHeld
              (try dsimp only at hH)
              (try dsimp only)
              first | with_reducible exact hH | exact ⟨keepB hH.1 hgS, hgS.cell hH.2 (by simp)⟩
            clear hK K hHeld
            have hHeld := hNew
            clear hNew
            (try simp only [Act.put, List.setIfInBounds_toArray, List.set_cons_zero, List.set_cons_succ])
            refine wpAnyH_done (by kernel_rfl) ?_ _
            refine NoPanic.normal ?_
            clear hHeld
            have HQ4 := hid hq4
            clear hq4 hgA hat hT hbR hO hR hX hV3 hgg
            go_wp2_with fail
            refine ⟨⟨i + 1, k + 1, p', nm + 1, c4, _, R ++ [(xs, su)], by omega, by omega, by omega, by go_num, by first | rfl | go_num, by first | rfl | go_num, HG4, HQ4, HR4, hid ?_⟩, by simp [intOf]; omega⟩
            have := HS.out
            rw [HDP.out, HDQ.out, addP_eq HZ0.out, if_neg (by show ¬ v + u = 0; rw [← HSU.out.1]; intro h; exact HSNZ.out (by rw [HSU.out.2, h, cmpR_eq])), ← HSU.out.1] at this
            rw [← this]
            simp
        · have hzn : ¬ z < 0 := by omega
          have HZ0 := hid (show 0 < lexL xs ys by rw [← HZ.out]; exact hz0)
          clear hbnd
          go_wp2_with (with_reducible refine wlq_append _ rfl (.tmp 70) (.tmp 75) 35 rfl 33 4 (.agg #[.bool false, .slice none 0 0, .slice none 0 0, .slice none 0 0]) 80 Tryz.underlying35 infoTm tmZs four_pos tmZn w.heap.size _ _ _ rows rfl (QOwn.keep HQ.out (World.grownBy_alloc _ _ _)) _ 1 _ [[.bool g1, .slice p1 n1 c1, .slice q1 m1 d1, .slice a1 k1 e1]] rfl (one_srd _ _ 4 _ rfl _ (by simp)) (lone (noInt4 _ _ _ _ _ _ _ _ _ _)) (lone (one4 _ _ _ _ _ _ _ _ _ _)) (by omega) (by omega) (by simp; omega) ?_; intro p' c4 w4 hq4 hg4 hat; have HQ4 := hid hq4; have HR4 := hid (RwS.snoc (QOwn.keep HQ.out (World.grownBy_alloc _ _ _)) (RwS.keep HR.out (World.grownBy_alloc _ _ _)) (TmC.keep HT1.out (World.grownBy_alloc _ _ _)) hg4 hat); have HG4 := hid (grown_new (grown_trans HG.out (World.grownBy_alloc _ _ _)) hg4 (fun g e => by have := HPB.out _ e; omega)); clear hq4 hg4 hat)
          refine ⟨⟨i + 1, k, p', nm + 1, c4, rows ++ [[.bool g1, .slice p1 n1 c1, .slice q1 m1 d1, .slice a1 k1 e1]], R ++ [(xs, v)], by omega, by omega, by omega, by go_num, by first | rfl | go_num, by first | rfl | go_num, HG4, HQ4, HR4, hid ?_⟩, by simp [intOf]; omega⟩
          have := HS.out
          rw [HDP.out, HDQ.out, addP_gt HZ0.out, ← HDQ.out] at this
          rw [← this]
          simp
      · obtain rfl : k = m := by omega
        have hki : (k == k) = true := by simp
        have HDQ : Hid (Q.drop k = []) := hid (List.drop_of_length_le (by omega))
        have HPE : Hid (∀ l : List Tm, addP l [] = l) := hid addP_nil
        clear hV1 hX1 d1' d3'
        go_wp2_with (with_reducible refine wlq_append _ rfl (.tmp 70) (.tmp 75) 35 rfl 33 4 (.agg #[.bool false, .slice none 0 0, .slice none 0 0, .slice none 0 0]) 80 Tryz.underlying35 infoTm tmZs four_pos tmZn w.heap.size _ _ _ rows rfl (QOwn.keep HQ.out (World.grownBy_alloc _ _ _)) _ 1 _ [[.bool g1, .slice p1 n1 c1, .slice q1 m1 d1, .slice a1 k1 e1]] rfl (one_srd _ _ 4 _ rfl _ (by simp)) (lone (noInt4 _ _ _ _ _ _ _ _ _ _)) (lone (one4 _ _ _ _ _ _ _ _ _ _)) (by omega) (by omega) (by simp; omega) ?_; intro p' c4 w4 hq4 hg4 hat; have HQ4 := hid hq4; have HR4 := hid (RwS.snoc (QOwn.keep HQ.out (World.grownBy_alloc _ _ _)) (RwS.keep HR.out (World.grownBy_alloc _ _ _)) (TmC.keep HT1.out (World.grownBy_alloc _ _ _)) hg4 hat); have HG4 := hid (grown_new (grown_trans HG.out (World.grownBy_alloc _ _ _)) hg4 (fun g e => by have := HPB.out _ e; omega)); clear hq4 hg4 hat)
        refine ⟨⟨i + 1, k, p', nm + 1, c4, rows ++ [[.bool g1, .slice p1 n1 c1, .slice q1 m1 d1, .slice a1 k1 e1]], R ++ [(xs, v)], by omega, by omega, by omega, by go_num, by first | rfl | go_num, by first | rfl | go_num, HG4, HQ4, HR4, hid ?_⟩, by simp [intOf]; omega⟩
        have := HS.out
        rw [HDP.out, HDQ.out, HPE.out] at this
        rw [← this, HDQ.out, HPE.out]
        simp
    · obtain rfl : i = n := by omega
      by_cases hkm : k < m
      · have hkl : k < Q.length := by omega
        obtain ⟨bb, ob, g2, p2, n2, c2, q2, m2, d2, a2, k2, e2, rfl, hys, hV2, hX2⟩ := (HQi.out.tms k hkl).out
        have hbbw : bb < w.heap.size := World.block_lt_of_cell? w _ hys.1
        have HDQ := hid (drop_at hkl)
        obtain ⟨d2', d4'⟩ := And.intro (HBD.out.2.1.at hkl) (HBD.out.2.2.2.at hkl)
        obtain ⟨t, ht⟩ : ∃ t, t = Q[k] := ⟨_, rfl⟩
        rw [← ht] at hV2 hX2 HDQ d2' d4'
        obtain ⟨ys, u⟩ := t
        dsimp only at hV2 hX2 HDQ d2' d4'
        replace hV2 := hV2.keep HG.out; replace hX2 := hX2.keep HG.out
        have y0 := HG.out.cell hys.1 (by simp); have y1 := HG.out.cell hys.2.1 (by simp); have y2 := HG.out.cell hys.2.2.1 (by simp); have y3 := HG.out.cell hys.2.2.2 (by simp)
        have HT2 : Hid (TmC wr [.bool g2, .slice p2 n2 c2, .slice q2 m2 d2, .slice a2 k2 e2] (ys, u)) := hid ⟨_, _, _, _, _, _, _, _, _, _, rfl, hV2, hX2⟩
        clear hys ht
        have HDP : Hid (P.drop i = []) := hid (List.drop_of_length_le (by omega))
        clear hV2 hX2 d2' d4'
        go_wp2_with (with_reducible refine wlq_append _ rfl (.tmp 82) (.tmp 87) 35 rfl 33 4 (.agg #[.bool false, .slice none 0 0, .slice none 0 0, .slice none 0 0]) 80 Tryz.underlying35 infoTm tmZs four_pos tmZn w.heap.size _ _ _ rows rfl (QOwn.keep HQ.out (World.grownBy_alloc _ _ _)) _ 1 _ [[.bool g2, .slice p2 n2 c2, .slice q2 m2 d2, .slice a2 k2 e2]] rfl (one_srd _ _ 4 _ rfl _ (by simp)) (lone (noInt4 _ _ _ _ _ _ _ _ _ _)) (lone (one4 _ _ _ _ _ _ _ _ _ _)) (by omega) (by omega) (by simp; omega) ?_; intro p' c4 w4 hq4 hg4 hat; have HQ4 := hid hq4; have HR4 := hid (RwS.snoc (QOwn.keep HQ.out (World.grownBy_alloc _ _ _)) (RwS.keep HR.out (World.grownBy_alloc _ _ _)) (TmC.keep HT2.out (World.grownBy_alloc _ _ _)) hg4 hat); have HG4 := hid (grown_new (grown_trans HG.out (World.grownBy_alloc _ _ _)) hg4 (fun g e => by have := HPB.out _ e; omega)); clear hq4 hg4 hat)
        refine ⟨⟨i, k + 1, p', nm + 1, c4, rows ++ [[.bool g2, .slice p2 n2 c2, .slice q2 m2 d2, .slice a2 k2 e2]], R ++ [(ys, u)], by omega, by omega, by omega, by go_num, by first | rfl | go_num, by first | rfl | go_num, HG4, HQ4, HR4, hid ?_⟩, by simp [intOf]; omega⟩
        have := HS.out
        rw [HDP.out, HDQ.out, addP_end (.inl rfl)] at this
        rw [← this, HDP.out, addP_end (.inl rfl)]
        simp
      · obtain rfl : k = m := by omega
        go_wp2_with fail
        go_ret
        have := HS.out
        rw [List.drop_of_length_le (by omega), List.drop_of_length_le (by omega), addP_nil, List.append_nil] at this
        exact ⟨_, _, _, rfl, by first | (rw [← this]; exact IsP.ofQ HQ.out HR.out), HG.out⟩
end Go.Proofs.YtceoegmflbgckaaGreatDoor

set_option linter.unusedVariables false
set_option linter.unusedSimpArgs false
namespace Go.Proofs.YtceoegmflbgckaaGreatDoor
open Go Go.RowKit _root_.Nm
theorem acc_facts {g : Nat → List Tm} {L M : Nat} {B : Int} : ∀ k, (∀ i, i < k → (g i).length ≤ L ∧ BdP M (g i) ∧ ExP B (g i)) → (accP g k).length ≤ k * L ∧ BdP (k * (M + 1)) (accP g k) ∧ ExP B (accP g k)
  | 0, _ => ⟨by simp [accP], fun t ht => (by cases ht), fun t ht => (by cases ht)⟩
  | k + 1, h => by
    obtain ⟨x1, x2, x3⟩ := acc_facts k (fun i hi => h i (by omega))
    obtain ⟨y1, y2, y3⟩ := h k (by omega)
    have e1 : (k + 1) * L = k * L + L := Nat.succ_mul _ _
    have e2 : (k + 1) * (M + 1) = k * (M + 1) + (M + 1) := Nat.succ_mul _ _
    show (addP (accP g k) (g k)).length ≤ _ ∧ BdP _ (addP (accP g k) (g k)) ∧ ExP B (addP (accP g k) (g k))
    exact ⟨by have := addP_len (accP g k) (g k); omega, (x2.add y2).mono (by omega), x3.add y3⟩
set_option maxHeartbeats 16000000 in
set_option maxRecDepth 100000 in
theorem rCmp6_v (H : Nat) (B : Int) {w : World} {p q : Option Addr} {n c m d : Nat} {P Q : List Tm} (hP : IsP w p n c P) (hQ : IsP w q m d Q) (bP : BdP H P) (bQ : BdP H Q) (eP : ExP B P) (eQ : ExP B Q) (hH : H ≤ 9000) (hB : 0 ≤ B ∧ B ≤ 4294967296) :
    Calls Tryz.prog 22 #[.slice p n c, .slice q m d] w fun e w' => e = .returned (.int .i64 (cmpP P Q)) ∧ w.grownBy w' none := by
  have hlP := hP.len; have hcP := hP.cap; have hxP := hP.max
  have hlQ := hQ.len; have hcQ := hQ.cap; have hxQ := hQ.max
  have HPi := hid hP; have HQi := hid hQ
  have HBD := hid (And.intro bP (And.intro bQ (And.intro eP eQ)))
  clear hP hQ bP bQ eP eQ
  go_enter Tryz.func22, Tryz.ntmps22
  go_wp2_with fail
  go_loopw [5] (fun x wr => ∃ (i : Nat), i ≤ n ∧ i ≤ m ∧ x = .int .i64 i ∧ Hid (w.grownBy wr none) ∧ Hid (cmpP (P.drop i) (Q.drop i) = cmpP P Q)) (fun x _ => n - (intOf x).toNat)
  case atStart => exact ⟨0, Nat.zero_le _, Nat.zero_le _, rfl, hid (grown_refl _ _), hid rfl⟩
  case round =>
    obtain ⟨i, hi, him, rfl, HG, HS⟩ := hrel
    by_cases hlt : i < n
    · by_cases hlm : i < m
      · have hil : i < P.length := by omega
        have hil2 : i < Q.length := by omega
        obtain ⟨ba, oa, g1, p1, n1, c1, q1, m1, d1, a1, k1, e1, rfl, ⟨x0, x1, x2, x3⟩, hV, hX⟩ := ((HPi.out.keep HG.out).tms i hil).out
        obtain ⟨bb, ob, g2, p2, n2, c2, q2, m2, d2, a2, k2, e2, rfl, ⟨y0, y1, y2, y3⟩, hU, hY⟩ := ((HQi.out.keep HG.out).tms i hil2).out
        have HDP := hid (drop_at hil); have HDQ := hid (drop_at hil2)
        obtain ⟨hd1, hd2, hd3, hd4⟩ := HBD.out
        have bv := hV.lens (hd1.at hil); have ev := hd3.at hil; have bu := hU.lens (hd2.at hil2); have eu := hd4.at hil2
        obtain ⟨s, hs⟩ : ∃ s, s = P[i] := ⟨_, rfl⟩
        obtain ⟨t, ht⟩ : ∃ t, t = Q[i] := ⟨_, rfl⟩
        rw [← hs] at HDP hV hX ev
        rw [← ht] at HDQ hU hY eu
        obtain ⟨xs, v⟩ := s
        obtain ⟨ys, u⟩ := t
        dsimp only at hV hX ev hU hY eu
        have HC5 := hid fun W (hg : wr.grownBy W none) => rcmpM_any a1 a2 k1 k2 e1 e2 xs ys 0 W (hX.keep hg) (hY.keep hg) ev eu hB hB
        have ho : ordZ 0 xs ys = lexL xs ys := by unfold ordZ; rw [if_neg (by intro h; have := h.1; omega)]
        rw [ho] at HC5
        have HC3 := hid fun W (hg : wr.grownBy W none) => rCmp3_v 9000 (hV.keep hg).q (hU.keep hg).q (by omega) (by omega) (by omega) (by omega) (by omega)
        obtain ⟨z, hz⟩ : ∃ z, z = lexL xs ys := ⟨_, rfl⟩
        rw [← hz] at HC5
        have HZ := hid hz
        obtain ⟨y, hy⟩ : ∃ y, y = cmpR v u := ⟨_, rfl⟩
        rw [← hy] at HC3
        have HY := hid hy
        clear hV hX hU hY bv ev bu eu hs ht hd1 hd2 hd3 hd4 ho hz hy
        go_upto_region 4 with fail
        refine wp_region_noPanic ?_
        refine wp_region_held_drew (S := (fun W => W.cell? ⟨ba, oa + i * 4, none⟩ = some (.bool g1) ∧ W.cell? ⟨ba, oa + i * 4 + 1, none⟩ = some (.slice p1 n1 c1) ∧ W.cell? ⟨ba, oa + i * 4 + 2, none⟩ = some (.slice q1 m1 d1) ∧ W.cell? ⟨ba, oa + i * 4 + 3, none⟩ = some (.slice a1 k1 e1) ∧ W.cell? ⟨bb, ob + i * 4, none⟩ = some (.bool g2) ∧ W.cell? ⟨bb, ob + i * 4 + 1, none⟩ = some (.slice p2 n2 c2) ∧ W.cell? ⟨bb, ob + i * 4 + 2, none⟩ = some (.slice q2 m2 d2) ∧ W.cell? ⟨bb, ob + i * 4 + 3, none⟩ = some (.slice a2 k2 e2))) (by kernel_rfl) ?_ (fun hHeld => ?_)
        · (try dsimp only)
          exact ⟨(grown_drew _ none).cell x0 (by simp), (grown_drew _ none).cell x1 (by simp), (grown_drew _ none).cell x2 (by simp), (grown_drew _ none).cell x3 (by simp), (grown_drew _ none).cell y0 (by simp), (grown_drew _ none).cell y1 (by simp), (grown_drew _ none).cell y2 (by simp), (grown_drew _ none).cell y3 (by simp)⟩
        have hgg := grown_drew wr none
        generalize wr.drew = wdwr at *
        refine wpAnyH_take (i := 0) (oi := Oper.mk _ _ _ _ _ _) (v := ?_) rfl (by kernel_rfl) (by kernel_rfl) (by kernel_rfl) (fun _ _ _ h => h) (Or.inl ⟨by kernel_rfl, ?_⟩) hHeld ?_
        rotate_left 1
        · intro W hSw
          (try dsimp only at hSw)
          obtain ⟨h0, h1, h2, h3, h4, h5, h6, h7⟩ := hSw
          go_simp
          (try (with_reducible rfl))
        (try simp only [Act.put, List.setIfInBounds_toArray, List.set_cons_zero, List.set_cons_succ])
        refine wpAnyH_take (i := 1) (oi := Oper.mk _ _ _ _ _ _) (v := ?_) rfl (by kernel_rfl) (by kernel_rfl) (by kernel_rfl) (fun _ _ _ h => h) (Or.inl ⟨by kernel_rfl, ?_⟩) hHeld ?_
        rotate_left 1
        · intro W hSw
          (try dsimp only at hSw)
          obtain ⟨h0, h1, h2, h3, h4, h5, h6, h7⟩ := hSw
          go_simp
          (try (with_reducible rfl))
        (try simp only [Act.put, List.setIfInBounds_toArray, List.set_cons_zero, List.set_cons_succ])
        refine wpAnyH_take (i := 2) (oi := Oper.mk _ _ _ _ _ _) (v := ?_) rfl (by kernel_rfl) (by kernel_rfl) (by kernel_rfl) (fun _ _ _ h => h) (Or.inl ⟨by kernel_rfl, ?_⟩) hHeld ?_
        rotate_left 1
        · intro W hSw
          (try dsimp only at hSw)
          obtain ⟨h0, h1, h2, h3, h4, h5, h6, h7⟩ := hSw
          go_simp
          (try (with_reducible rfl))
        (try simp only [Act.put, List.setIfInBounds_toArray, List.set_cons_zero, List.set_cons_succ])
        refine wpAnyH_take (i := 3) (oi := Oper.mk _ _ _ _ _ _) (v := ?_) rfl (by kernel_rfl) (by kernel_rfl) (by kernel_rfl) (fun _ _ _ h => h) (Or.inl ⟨by kernel_rfl, ?_⟩) hHeld ?_
        rotate_left 1
        · intro W hSw
          (try dsimp only at hSw)
          obtain ⟨h0, h1, h2, h3, h4, h5, h6, h7⟩ := hSw
          go_simp
          (try (with_reducible rfl))
        (try simp only [Act.put, List.setIfInBounds_toArray, List.set_cons_zero, List.set_cons_succ])
        refine wpAnyH_take (i := 4) (oi := Oper.mk _ _ _ _ _ _) (v := ?_) rfl (by kernel_rfl) (by kernel_rfl) (by kernel_rfl) (fun _ _ _ h => h) (Or.inl ⟨by kernel_rfl, ?_⟩) hHeld ?_
        rotate_left 1
        · intro W hSw
          (try dsimp only at hSw)
          obtain ⟨h0, h1, h2, h3, h4, h5, h6, h7⟩ := hSw
          go_simp
          (try (with_reducible rfl))
        (try simp only [Act.put, List.setIfInBounds_toArray, List.set_cons_zero, List.set_cons_succ])
        refine wpAnyH_take (i := 5) (oi := Oper.mk _ _ _ _ _ _) (v := ?_) rfl (by kernel_rfl) (by kernel_rfl) (by kernel_rfl) (fun _ _ _ h => h) (Or.inl ⟨by kernel_rfl, ?_⟩) hHeld ?_
        rotate_left 1
        · intro W hSw
          (try dsimp only at hSw)
          obtain ⟨h0, h1, h2, h3, h4, h5, h6, h7⟩ := hSw
          go_simp
          (try (with_reducible rfl))
        (try simp only [Act.put, List.setIfInBounds_toArray, List.set_cons_zero, List.set_cons_succ])
        refine wpAnyH_take (i := 6) (oi := Oper.mk _ _ _ _ _ _) (v := ?_) rfl (by kernel_rfl) (by kernel_rfl) (by kernel_rfl) (fun _ _ _ h => h) (Or.inl ⟨by kernel_rfl, ?_⟩) hHeld ?_
        rotate_left 1
        · intro W hSw
          (try dsimp only at hSw)
          obtain ⟨h0, h1, h2, h3, h4, h5, h6, h7⟩ := hSw
          go_simp
          (try (with_reducible rfl))
        (try simp only [Act.put, List.setIfInBounds_toArray, List.set_cons_zero, List.set_cons_succ])
        refine wpAnyH_take (i := 7) (oi := Oper.mk _ _ _ _ _ _) (v := ?_) rfl (by kernel_rfl) (by kernel_rfl) (by kernel_rfl) (fun _ _ _ h => h) (Or.inl ⟨by kernel_rfl, ?_⟩) hHeld ?_
        rotate_left 1
        · intro W hSw
          (try dsimp only at hSw)
          obtain ⟨h0, h1, h2, h3, h4, h5, h6, h7⟩ := hSw
          go_simp
          (try (with_reducible rfl))
        (try simp only [Act.put, List.setIfInBounds_toArray, List.set_cons_zero, List.set_cons_succ])
        refine wpAnyH_take (i := 8) (oi := Oper.mk _ _ _ _ _ _) (v := ?_) rfl (by kernel_rfl) (by kernel_rfl) (by kernel_rfl) (fun _ _ _ h => h) (Or.inl ⟨by kernel_rfl, ?_⟩) hHeld ?_
        rotate_left 1
        · intro W hSw
          (try dsimp only at hSw)
          obtain ⟨h0, h1, h2, h3, h4, h5, h6, h7⟩ := hSw
          go_simp
          (try (with_reducible rfl))
        (try simp only [Act.put, List.setIfInBounds_toArray, List.set_cons_zero, List.set_cons_succ])
        refine wpAnyH_take (i := 9) (oi := Oper.mk _ _ _ _ _ _) (v := ?_) rfl (by kernel_rfl) (by kernel_rfl) (by kernel_rfl) (fun _ _ _ h => h) (Or.inl ⟨by kernel_rfl, ?_⟩) hHeld ?_
        rotate_left 1
        · intro W hSw
          (try dsimp only at hSw)
          obtain ⟨h0, h1, h2, h3, h4, h5, h6, h7⟩ := hSw
          go_simp
          (try (with_reducible rfl))
        (try simp only [Act.put, List.setIfInBounds_toArray, List.set_cons_zero, List.set_cons_succ])
        refine wpAnyH_ready (rs := [10]) (by kernel_rfl) (by simp) ?_
        refine AllReadyH.cons (o := Oper.mk _ _ _ _ _ _) rfl (fun K hK => ?_) AllReadyH.nil
        (try rw [if_pos (by kernel_rfl)])
        go_simp
        go_at_call 68
        refine (HC5.out _ hgg).mono ?_
        rintro e wy1 ⟨rfl, rfl⟩
        refine hK.out _ _ ?_ (fun hNew => ?_)
        · have hH := hHeld
          (try dsimp only at hH)
          (try dsimp only)
          first | with_reducible exact hH | exact ⟨hgS.cell hH.1 (by simp), hgS.cell hH.2.1 (by simp), hgS.cell hH.2.2.1 (by simp), hgS.cell hH.2.2.2.1 (by simp), hgS.cell hH.2.2.2.2.1 (by simp), hgS.cell hH.2.2.2.2.2.1 (by simp), hgS.cell hH.2.2.2.2.2.2.1 (by simp), hgS.cell hH.2.2.2.2.2.2.2 (by simp)⟩
        clear hK K hHeld
        have hHeld := hNew
        clear hNew
        (try simp only [Act.put, List.setIfInBounds_toArray, List.set_cons_zero, List.set_cons_succ])
        refine wpAnyH_ready (rs := [11]) (by kernel_rfl) (by simp) ?_
        refine AllReadyH.cons (o := Oper.mk _ _ _ _ _ _) rfl (fun K hK => ?_) AllReadyH.nil
        (try rw [if_pos (by kernel_rfl)])
        go_simp
        refine hK.out _ _ ?_ (fun hNew => ?_)
        · have hH := hHeld
          (try dsimp only at hH)
          (try dsimp only)
          first | with_reducible exact hH | exact ⟨hgS.cell hH.1 (by simp), hgS.cell hH.2.1 (by simp), hgS.cell hH.2.2.1 (by simp), hgS.cell hH.2.2.2.1 (by simp), hgS.cell hH.2.2.2.2.1 (by simp), hgS.cell hH.2.2.2.2.2.1 (by simp), hgS.cell hH.2.2.2.2.2.2.1 (by simp), hgS.cell hH.2.2.2.2.2.2.2 (by simp)⟩
        clear hK K hHeld
        have hHeld := hNew
        clear hNew
        (try simp only [Act.put, List.setIfInBounds_toArray, List.set_cons_zero, List.set_cons_succ])
        refine wpAnyH_done (by kernel_rfl) ?_ _
        refine NoPanic.normal ?_
        clear hHeld
        replace HG := hid (grown_trans HG.out hgg)
        replace HC3 := hid fun W (hg : wdwr.grownBy W none) => HC3.out W (grown_trans hgg hg)
        replace x0 := hgg.cell x0 (by simp); replace x1 := hgg.cell x1 (by simp); replace x2 := hgg.cell x2 (by simp); replace x3 := hgg.cell x3 (by simp); replace y0 := hgg.cell y0 (by simp); replace y1 := hgg.cell y1 (by simp); replace y2 := hgg.cell y2 (by simp); replace y3 := hgg.cell y3 (by simp)
        clear hgg
        by_cases hz0 : z = 0
        · subst hz0
          go_upto_region 7 with fail
          refine wp_region_noPanic ?_
          refine wp_region_held_drew (S := (fun W => W.cell? ⟨ba, oa + i * 4, none⟩ = some (.bool g1) ∧ W.cell? ⟨ba, oa + i * 4 + 1, none⟩ = some (.slice p1 n1 c1) ∧ W.cell? ⟨ba, oa + i * 4 + 2, none⟩ = some (.slice q1 m1 d1) ∧ W.cell? ⟨ba, oa + i * 4 + 3, none⟩ = some (.slice a1 k1 e1) ∧ W.cell? ⟨bb, ob + i * 4, none⟩ = some (.bool g2) ∧ W.cell? ⟨bb, ob + i * 4 + 1, none⟩ = some (.slice p2 n2 c2) ∧ W.cell? ⟨bb, ob + i * 4 + 2, none⟩ = some (.slice q2 m2 d2) ∧ W.cell? ⟨bb, ob + i * 4 + 3, none⟩ = some (.slice a2 k2 e2))) (by kernel_rfl) ?_ (fun hHeld => ?_)
          · (try dsimp only)
            exact ⟨(grown_drew _ none).cell x0 (by simp), (grown_drew _ none).cell x1 (by simp), (grown_drew _ none).cell x2 (by simp), (grown_drew _ none).cell x3 (by simp), (grown_drew _ none).cell y0 (by simp), (grown_drew _ none).cell y1 (by simp), (grown_drew _ none).cell y2 (by simp), (grown_drew _ none).cell y3 (by simp)⟩
          have hgg := grown_drew wdwr none
          generalize wdwr.drew = wdwdwr at *
          refine wpAnyH_take (i := 0) (oi := Oper.mk _ _ _ _ _ _) (v := ?_) rfl (by kernel_rfl) (by kernel_rfl) (by kernel_rfl) (fun _ _ _ h => h) (Or.inl ⟨by kernel_rfl, ?_⟩) hHeld ?_
          rotate_left 1
          · intro W hSw
            (try dsimp only at hSw)
            obtain ⟨h0, h1, h2, h3, h4, h5, h6, h7⟩ := hSw
            go_simp
            (try (with_reducible rfl))
          (try simp only [Act.put, List.setIfInBounds_toArray, List.set_cons_zero, List.set_cons_succ])
          refine wpAnyH_take (i := 1) (oi := Oper.mk _ _ _ _ _ _) (v := ?_) rfl (by kernel_rfl) (by kernel_rfl) (by kernel_rfl) (fun _ _ _ h => h) (Or.inl ⟨by kernel_rfl, ?_⟩) hHeld ?_
          rotate_left 1
          · intro W hSw
            (try dsimp only at hSw)
            obtain ⟨h0, h1, h2, h3, h4, h5, h6, h7⟩ := hSw
            go_simp
            (try (with_reducible rfl))
          (try simp only [Act.put, List.setIfInBounds_toArray, List.set_cons_zero, List.set_cons_succ])
          refine wpAnyH_take (i := 2) (oi := Oper.mk _ _ _ _ _ _) (v := ?_) rfl (by kernel_rfl) (by kernel_rfl) (by kernel_rfl) (fun _ _ _ h => h) (Or.inl ⟨by kernel_rfl, ?_⟩) hHeld ?_
          rotate_left 1
          · intro W hSw
            (try dsimp only at hSw)
            obtain ⟨h0, h1, h2, h3, h4, h5, h6, h7⟩ := hSw
            go_simp
            (try (with_reducible rfl))
          (try simp only [Act.put, List.setIfInBounds_toArray, List.set_cons_zero, List.set_cons_succ])
          refine wpAnyH_take (i := 3) (oi := Oper.mk _ _ _ _ _ _) (v := ?_) rfl (by kernel_rfl) (by kernel_rfl) (by kernel_rfl) (fun _ _ _ h => h) (Or.inl ⟨by kernel_rfl, ?_⟩) hHeld ?_
          rotate_left 1
          · intro W hSw
            (try dsimp only at hSw)
            obtain ⟨h0, h1, h2, h3, h4, h5, h6, h7⟩ := hSw
            go_simp
            (try (with_reducible rfl))
          (try simp only [Act.put, List.setIfInBounds_toArray, List.set_cons_zero, List.set_cons_succ])
          refine wpAnyH_take (i := 4) (oi := Oper.mk _ _ _ _ _ _) (v := ?_) rfl (by kernel_rfl) (by kernel_rfl) (by kernel_rfl) (fun _ _ _ h => h) (Or.inl ⟨by kernel_rfl, ?_⟩) hHeld ?_
          rotate_left 1
          · intro W hSw
            (try dsimp only at hSw)
            obtain ⟨h0, h1, h2, h3, h4, h5, h6, h7⟩ := hSw
            go_simp
            (try (with_reducible rfl))
          (try simp only [Act.put, List.setIfInBounds_toArray, List.set_cons_zero, List.set_cons_succ])
          refine wpAnyH_take (i := 5) (oi := Oper.mk _ _ _ _ _ _) (v := ?_) rfl (by kernel_rfl) (by kernel_rfl) (by kernel_rfl) (fun _ _ _ h => h) (Or.inl ⟨by kernel_rfl, ?_⟩) hHeld ?_
          rotate_left 1
          · intro W hSw
            (try dsimp only at hSw)
            obtain ⟨h0, h1, h2, h3, h4, h5, h6, h7⟩ := hSw
            go_simp
            (try (with_reducible rfl))
          (try simp only [Act.put, List.setIfInBounds_toArray, List.set_cons_zero, List.set_cons_succ])
          refine wpAnyH_take (i := 6) (oi := Oper.mk _ _ _ _ _ _) (v := ?_) rfl (by kernel_rfl) (by kernel_rfl) (by kernel_rfl) (fun _ _ _ h => h) (Or.inl ⟨by kernel_rfl, ?_⟩) hHeld ?_
          rotate_left 1
          · intro W hSw
            (try dsimp only at hSw)
            obtain ⟨h0, h1, h2, h3, h4, h5, h6, h7⟩ := hSw
            go_simp
            (try (with_reducible rfl))
          (try simp only [Act.put, List.setIfInBounds_toArray, List.set_cons_zero, List.set_cons_succ])
          refine wpAnyH_take (i := 7) (oi := Oper.mk _ _ _ _ _ _) (v := ?_) rfl (by kernel_rfl) (by kernel_rfl) (by kernel_rfl) (fun _ _ _ h => h) (Or.inl ⟨by kernel_rfl, ?_⟩) hHeld ?_
          rotate_left 1
          · intro W hSw
            (try dsimp only at hSw)
            obtain ⟨h0, h1, h2, h3, h4, h5, h6, h7⟩ := hSw
            go_simp
            (try (with_reducible rfl))
          (try simp only [Act.put, List.setIfInBounds_toArray, List.set_cons_zero, List.set_cons_succ])
          refine wpAnyH_take (i := 8) (oi := Oper.mk _ _ _ _ _ _) (v := ?_) rfl (by kernel_rfl) (by kernel_rfl) (by kernel_rfl) (fun _ _ _ h => h) (Or.inl ⟨by kernel_rfl, ?_⟩) hHeld ?_
          rotate_left 1
          · intro W hSw
            (try dsimp only at hSw)
            obtain ⟨h0, h1, h2, h3, h4, h5, h6, h7⟩ := hSw
            go_simp
            (try (with_reducible rfl))
          (try simp only [Act.put, List.setIfInBounds_toArray, List.set_cons_zero, List.set_cons_succ])
          refine wpAnyH_take (i := 9) (oi := Oper.mk _ _ _ _ _ _) (v := ?_) rfl (by kernel_rfl) (by kernel_rfl) (by kernel_rfl) (fun _ _ _ h => h) (Or.inl ⟨by kernel_rfl, ?_⟩) hHeld ?_
          rotate_left 1
          · intro W hSw
            (try dsimp only at hSw)
            obtain ⟨h0, h1, h2, h3, h4, h5, h6, h7⟩ := hSw
            go_simp
            (try (with_reducible rfl))
          (try simp only [Act.put, List.setIfInBounds_toArray, List.set_cons_zero, List.set_cons_succ])
          refine wpAnyH_ready (rs := [10]) (by kernel_rfl) (by simp) ?_
          refine AllReadyH.cons (o := Oper.mk _ _ _ _ _ _) rfl (fun K hK => ?_) AllReadyH.nil
          (try rw [if_pos (by kernel_rfl)])
          go_simp
          go_at_call 81
          refine (HC3.out _ hgg).mono ?_
          rintro e wy1 ⟨rfl, hgS⟩
          replace hgg := grown_trans hgg hgS
          refine hK.out _ _ ?_ (fun hNew => ?_)
          · have hH := hHeld
            (try dsimp only at hH)
            (try dsimp only)
            first | with_reducible exact hH | exact ⟨hgS.cell hH.1 (by simp), hgS.cell hH.2.1 (by simp), hgS.cell hH.2.2.1 (by simp), hgS.cell hH.2.2.2.1 (by simp), hgS.cell hH.2.2.2.2.1 (by simp), hgS.cell hH.2.2.2.2.2.1 (by simp), hgS.cell hH.2.2.2.2.2.2.1 (by simp), hgS.cell hH.2.2.2.2.2.2.2 (by simp)⟩
          clear hK K hHeld
          have hHeld := hNew
          clear hNew
          (try simp only [Act.put, List.setIfInBounds_toArray, List.set_cons_zero, List.set_cons_succ])
          clear hgS
          refine wpAnyH_ready (rs := [11]) (by kernel_rfl) (by simp) ?_
          refine AllReadyH.cons (o := Oper.mk _ _ _ _ _ _) rfl (fun K hK => ?_) AllReadyH.nil
          (try rw [if_pos (by kernel_rfl)])
          go_simp
          refine hK.out _ _ ?_ (fun hNew => ?_)
          · have hH := hHeld
            (try dsimp only at hH)
            (try dsimp only)
            first | with_reducible exact hH | exact ⟨hgS.cell hH.1 (by simp), hgS.cell hH.2.1 (by simp), hgS.cell hH.2.2.1 (by simp), hgS.cell hH.2.2.2.1 (by simp), hgS.cell hH.2.2.2.2.1 (by simp), hgS.cell hH.2.2.2.2.2.1 (by simp), hgS.cell hH.2.2.2.2.2.2.1 (by simp), hgS.cell hH.2.2.2.2.2.2.2 (by simp)⟩
          clear hK K hHeld
          have hHeld := hNew
          clear hNew
          (try simp only [Act.put, List.setIfInBounds_toArray, List.set_cons_zero, List.set_cons_succ])
          refine wpAnyH_done (by kernel_rfl) ?_ _
          refine NoPanic.normal ?_
          clear hHeld
          replace HG := hid (grown_trans HG.out hgg)
          clear hgg
          by_cases hy0 : y = 0
          · subst hy0
            go_wp2_with fail
            refine ⟨⟨i + 1, by omega, by omega, by go_num, HG, hid ?_⟩, by simp [intOf]; omega⟩
            have := HS.out
            rw [HDP.out, HDQ.out, cmpP, if_pos (by unfold cmpT; rw [if_pos HZ.out.symm]; exact HY.out.symm)] at this
            exact this
          · have hyn : (y != 0) = true := by simpa using hy0
            have HYN := hid hy0
            go_wp2_with fail
            go_ret
            have := HS.out
            rw [HDP.out, HDQ.out, cmpP, if_neg (by unfold cmpT; rw [if_pos HZ.out.symm, ← HY.out]; exact HYN.out)] at this
            unfold cmpT at this
            rw [if_pos HZ.out.symm, ← HY.out] at this
            exact ⟨by (rw [← this]; first | done | rfl), HG.out⟩
        · have hzn : (z != 0) = true := by simpa using hz0
          have HZN := hid hz0
          go_wp2_with fail
          go_ret
          have := HS.out
          rw [HDP.out, HDQ.out, cmpP, if_neg (by unfold cmpT; rw [if_neg (by rw [← HZ.out]; exact HZN.out), ← HZ.out]; exact HZN.out)] at this
          unfold cmpT at this
          rw [if_neg (by rw [← HZ.out]; exact HZN.out), ← HZ.out] at this
          exact ⟨by (rw [← this]; first | done | rfl), HG.out⟩
      · obtain rfl : i = m := by omega
        go_wp2_with fail
        go_ret
        have := HS.out
        rw [drop_at (P := P) (by omega), List.drop_of_length_le (l := Q) (by omega)] at this
        exact ⟨by (rw [← this]; first | done | rfl), HG.out⟩
    · obtain rfl : i = n := by omega
      have hnlt : ¬ m < i := by omega
      by_cases hlm : i < m
      · go_wp2_with fail
        go_ret
        have := HS.out
        rw [List.drop_of_length_le (l := P) (by omega), drop_at (P := Q) (by omega)] at this
        exact ⟨by (rw [← this]; first | done | rfl), HG.out⟩
      · obtain rfl : i = m := by omega
        go_wp2_with fail
        go_ret
        have := HS.out
        rw [List.drop_of_length_le (l := P) (by omega), List.drop_of_length_le (l := Q) (by omega)] at this
        exact ⟨by (rw [← this]; first | done | rfl), HG.out⟩
set_option maxHeartbeats 4000000 in
set_option maxRecDepth 100000 in
theorem rEqual6_v (H : Nat) (B : Int) {w : World} {p q : Option Addr} {n c m d : Nat} {P Q : List Tm} (hP : IsP w p n c P) (hQ : IsP w q m d Q) (bP : BdP H P) (bQ : BdP H Q) (eP : ExP B P) (eQ : ExP B Q) (hH : H ≤ 9000) (hB : 0 ≤ B ∧ B ≤ 4294967296) :
    Calls Tryz.prog 16 #[.slice p n c, .slice q m d] w fun e w' => e = .returned (.bool (decide (cmpP P Q = 0))) ∧ w.grownBy w' none := by
  have HC := hid (rCmp6_v H B hP hQ bP bQ eP eQ hH hB)
  obtain ⟨z, hz⟩ : ∃ z, z = cmpP P Q := ⟨_, rfl⟩
  rw [← hz] at HC ⊢
  clear hP hQ bP bQ eP eQ hz
  by_cases hz0 : z = 0
  · subst hz0
    go_enter Tryz.func16, Tryz.ntmps16
    go_wp2_with (go_at_call 22; (with_reducible refine HC.out.mono ?_); rintro e w1 ⟨rfl, hg⟩)
    go_ret
    exact ⟨by simp, hg⟩
  · have hzn : (z == 0) = false := by simpa using hz0
    go_enter Tryz.func16, Tryz.ntmps16
    go_wp2_with (go_at_call 22; (with_reducible refine HC.out.mono ?_); rintro e w1 ⟨rfl, hg⟩)
    go_ret
    exact ⟨by simp [hz0], hg⟩
end Go.Proofs.YtceoegmflbgckaaGreatDoor

set_option linter.unusedVariables false
set_option linter.unusedSimpArgs false
namespace Go.Proofs.YtceoegmflbgckaaGreatDoor
open Go Go.RowKit _root_.Nm
theorem Pk.req_c {H L : Nat} {B : Int} {P : List Tm} (h : Pk H B L P) {w : World} {p q : Option Addr} {n c m d : Nat} (hP : IsP w p n c P) (hQ : IsP w q m d P) (hH : H ≤ 9000) (hB : 0 ≤ B ∧ B ≤ 4294967296) :
    Calls Tryz.prog 16 #[.slice p n c, .slice q m d] w fun e w' => e = .returned (.bool true) ∧ w.grownBy w' none := by
  have := rEqual6_v H B hP hQ h.bd h.bd h.ex h.ex hH hB
  rwa [cmpP_self, decide_eq_true rfl] at this
end Go.Proofs.YtceoegmflbgckaaGreatDoor
