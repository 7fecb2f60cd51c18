/-
  PcO PcQ, in one text.
-/
import Derived.Test.YtjpkncgfpbhnaaaGreatDoorMrL
import Derived.Test.YtjpkncgfpbhnaaaGreatDoorMrP
import Derived.Test.YtjpkncgfpbhnaaaGreatDoorMrE
set_option linter.unusedVariables false
set_option linter.unusedSimpArgs false
set_option maxRecDepth 100000
namespace Go.Proofs.YtjpkncgfpbhnaaaGreatDoor
open Go.RowKit _root_.Nm Lx Px
theorem set7_blk {w : World} {G : Nat} {a b c d e f g : Value} {T : TypeId} (hb : w.heap[G]? = some (.cells #[a, b, c, d, e, f, g] T (0, 0))) (a' b' c' d' e' f' g' : Value) :
  (((((((w.setCell ⟨G, 0, none⟩ a').setCell ⟨G, 1, none⟩ b').setCell ⟨G, 2, none⟩ c').setCell ⟨G, 3, none⟩ d').setCell ⟨G, 4, none⟩ e').setCell ⟨G, 5, none⟩ f').setCell ⟨G, 6, none⟩ g').heap[G]? = some (.cells #[a', b', c', d', e', f', g'] T (0, 0)) := by
 have h1 := heap_setCell_same w G 0 _ _ a' hb
 have h2 := heap_setCell_same _ G 1 _ _ b' h1
 have h3 := heap_setCell_same _ G 2 _ _ c' h2
 have h4 := heap_setCell_same _ G 3 _ _ d' h3
 have h5 := heap_setCell_same _ G 4 _ _ e' h4
 have h6 := heap_setCell_same _ G 5 _ _ f' h5
 have h7 := heap_setCell_same _ G 6 _ _ g' h6
 simpa using h7
theorem set7_gr (w : World) (G : Nat) (a' b' c' d' e' f' g' : Value) : w.grownBy (((((((w.setCell ⟨G, 0, none⟩ a').setCell ⟨G, 1, none⟩ b').setCell ⟨G, 2, none⟩ c').setCell ⟨G, 3, none⟩ d').setCell ⟨G, 4, none⟩ e').setCell ⟨G, 5, none⟩ f').setCell ⟨G, 6, none⟩ g') (some G) :=
 grown_trans (grown_setCell w ⟨G, 0, none⟩ a') (grown_trans (grown_setCell _ ⟨G, 1, none⟩ b') (grown_trans (grown_setCell _ ⟨G, 2, none⟩ c') (grown_trans (grown_setCell _ ⟨G, 3, none⟩ d') (grown_trans (grown_setCell _ ⟨G, 4, none⟩ e') (grown_trans (grown_setCell _ ⟨G, 5, none⟩ f') (grown_setCell _ ⟨G, 6, none⟩ g'))))))
theorem nu7 {w : World} {G : Nat} {k : Int} {nm : ByteArray} {g : Bool} {pn : Option Addr} {nn cn : Nat} {pd : Option Addr} {nd cd : Nat} {pa : Option Addr} {na ca : Nat} {pos : Int} {T : TypeId} {z : Nat × Nat}
  (hb : w.heap[G]? = some (.cells #[.int .i64 k, .string nm, .bool g, .slice pn nn cn, .slice pd nd cd, .slice pa na ca, .int .i64 pos] T z)) : NU w G := NU.of hb (fun v hv => by
 simp only [List.mem_toArray, List.mem_cons, List.not_mem_nil, or_false] at hv
 rcases hv with rfl | rfl | rfl | rfl | rfl | rfl | rfl
 ·exact NoH.int _
 ·exact NoH.str _
 ·exact NoH.bool _
 ·exact NoH.slice _ _ _
 ·exact NoH.slice _ _ _
 ·exact NoH.slice _ _ _
 ·exact NoH.int _)
theorem Tb.kept7 {w w' : World} {G : Nat} {x : Int} {a b c d e f : Value} {T : TypeId} {zz : Nat × Nat} (h : Tb w) (hb : w.heap[G]? = some (.cells #[.int .i64 x, a, b, c, d, e, f] T zz)) (hg : w.grownBy w' (some G)) : Tb w' := fun j hj => hg.cell (h j hj) (by
 intro e
 have h0 := h 0 (by omega)
 have h1 := cell_of_row w G 0 _ _ _ hb
 simp only [Option.some.injEq] at e
 rw [← e] at h1
 rw [h1] at h0
 cases h0)
theorem nux_keep {w w1 w2 : World} {X : Nat → Prop} {r : Option Nat} (hX : ∀ k, X k → k < w.heap.size) (hW : w.grownBy w1 r) (h : ∀ k, X k → NU w1 k) (hg : w1.grownBy w2 none) : ∀ k, X k → NU w2 k :=
 fun k hk => (h k hk).kept (by have := hX k hk; have := hW.size; omega) hg (by simp)
theorem nux_cur {w w1 w2 : World} {X : Nat → Prop} {r : Option Nat} {b : Nat} (hX : ∀ k, X k → k < w.heap.size) (hW : w.grownBy w1 r) (h : ∀ k, X k → NU w1 k) (hg : w1.grownBy w2 (some b)) (hb : NU w2 b) : ∀ k, X k → NU w2 k :=
 fun k hk => by
  by_cases e : k = b
  ·rw [e]; exact hb
  ·exact (h k hk).kept (by have := hX k hk; have := hW.size; omega) hg (by simpa using e)
theorem nux_own {w w1 w2 : World} {X : Nat → Prop} {r : Option Nat} {G : Nat} (hX : ∀ k, X k → k < w.heap.size) (hW : w.grownBy w1 r) (h : ∀ k, X k → NU w1 k) (hg : w1.grownBy w2 (some G)) (hG : w.heap.size ≤ G) : ∀ k, X k → NU w2 k :=
 fun k hk => (h k hk).kept (by have := hX k hk; have := hW.size; omega) hg (by have := hX k hk; simp; omega)
theorem ARdX.keptx {X : Nat → Prop} {w w' : World} {m : Nat} {pa : Option Addr} {na ca : Nat} {l : List Tr} (h : ARdX X w m pa na ca l) {row : Option Nat} (hg : w.grownBy w' row) (hr : ∀ g, row = some g → X g) : ARdX X w' m pa na ca l := by
 refine ⟨h.1, fun i hi => ?_⟩
 obtain ⟨b, o, cs', k1, kx, k2, k3, k4⟩ := h.2 i hi
 exact ⟨b, o, cs', k1, kx, k2, fun j hj => hg.cell (k3 j hj) (fun e => kx (hr _ e.symm)), k4.kept hg hr⟩
theorem con_tree0 {X Y : Nat → Prop} {w : World} {m : Nat} {pa : Option Addr} {na ca : Nat} {l : List Tr} (h : ARdX (fun k => X k ∨ Y k) w m pa na ca l) {k pos : Nat} :
  ERdX X w (m + 1) [.int .i64 k, .string ⟨#[]⟩, .bool false, .slice none 0 0, .slice none 0 0, .slice pa na ca, .int .i64 pos] (nd0 k pos l) :=
 ARdX.erdX ⟨IRd.nil _ _, fun a ha => by cases ha⟩ ⟨IRd.nil _ _, fun a ha => by cases ha⟩ (h.more (fun b hb => .inl (.inl hb))) (by show (0 : Nat) ≤ maxLen; unfold maxLen; omega)
theorem con_treeR {X Y : Nat → Prop} {w : World} {m : Nat} {pa : Option Addr} {na ca : Nat} {l : List Tr} {g : Bool} {p : Option Addr} {n c : Nat} {q : Option Addr} {m' d : Nat} {v : Rat} (hN : ∀ k, X k → NU w k) (h : ARdX (fun k => X k ∨ Y k) w m pa na ca l) (hV : IsV w g p n c q m' d v) {k pos : Nat} :
  ERdX X w (m + 1) [.int .i64 k, .string ⟨#[]⟩, .bool g, .slice p n c, .slice q m' d, .slice pa na ca, .int .i64 pos] (ndR k pos v l) := by
 obtain ⟨⟨h1, rfl⟩, h3⟩ := hV
 exact ARdX.erdX (NU.ird hN h1) (NU.ird hN h3) (h.more (fun b hb => .inl (.inl hb))) (by show (0 : Nat) ≤ maxLen; unfold maxLen; omega)
theorem ks8 {w w' : World} {G N K : Nat} {x a0 a1 a2 a3 a4 a5 a6 : Value} (hg : w.grownBy w' (some G)) (h1 : N ≠ G) (h2 : K ≠ G) (hx : w.cell? ⟨N, 0, none⟩ = some x) (u0 : w.cell? ⟨K, 0, none⟩ = some a0) (u1 : w.cell? ⟨K, 1, none⟩ = some a1) (u2 : w.cell? ⟨K, 2, none⟩ = some a2) (u3 : w.cell? ⟨K, 3, none⟩ = some a3) (u4 : w.cell? ⟨K, 4, none⟩ = some a4) (u5 : w.cell? ⟨K, 5, none⟩ = some a5) (u6 : w.cell? ⟨K, 6, none⟩ = some a6) :
  w'.cell? ⟨N, 0, none⟩ = some x ∧ w'.cell? ⟨K, 0, none⟩ = some a0 ∧ w'.cell? ⟨K, 1, none⟩ = some a1 ∧ w'.cell? ⟨K, 2, none⟩ = some a2 ∧ w'.cell? ⟨K, 3, none⟩ = some a3 ∧ w'.cell? ⟨K, 4, none⟩ = some a4 ∧ w'.cell? ⟨K, 5, none⟩ = some a5 ∧ w'.cell? ⟨K, 6, none⟩ = some a6 :=
 ⟨hg.cell hx (by simpa using h1), hg.cell u0 (by simpa using h2), hg.cell u1 (by simpa using h2), hg.cell u2 (by simpa using h2), hg.cell u3 (by simpa using h2), hg.cell u4 (by simpa using h2), hg.cell u5 (by simpa using h2), hg.cell u6 (by simpa using h2)⟩
theorem set1_5 {w : World} {G : Nat} {a b c d e f g : Value} {T : TypeId} (hb : w.heap[G]? = some (.cells #[a, b, c, d, e, f, g] T (0, 0))) (f' : Value) : (w.setCell ⟨G, 5, none⟩ f').heap[G]? = some (.cells #[a, b, c, d, e, f', g] T (0, 0)) := by
 have := heap_setCell_same w G 5 _ _ f' hb
 simpa using this
theorem set3_2 {w : World} {G : Nat} {a b c d e f g : Value} {T : TypeId} (hb : w.heap[G]? = some (.cells #[a, b, c, d, e, f, g] T (0, 0))) (c' d' e' : Value) : (((w.setCell ⟨G, 2, none⟩ c').setCell ⟨G, 3, none⟩ d').setCell ⟨G, 4, none⟩ e').heap[G]? = some (.cells #[a, b, c', d', e', f, g] T (0, 0)) := by
 have h1 := heap_setCell_same w G 2 _ _ c' hb
 have h2 := heap_setCell_same _ G 3 _ _ d' h1
 have h3 := heap_setCell_same _ G 4 _ _ e' h2
 simpa using h3
theorem set3_2g (w : World) (G : Nat) (c' d' e' : Value) : w.grownBy (((w.setCell ⟨G, 2, none⟩ c').setCell ⟨G, 3, none⟩ d').setCell ⟨G, 4, none⟩ e') (some G) :=
 grown_trans (grown_setCell w ⟨G, 2, none⟩ c') (grown_trans (grown_setCell _ ⟨G, 3, none⟩ d') (grown_setCell _ ⟨G, 4, none⟩ e'))
theorem frs_lt {w w' : World} {p : Option Addr} {n c : Nat} {xs : List Nat} (hf : Frs w p) (hi : IRd w' .i64 p n c xs) (hx : xs ≠ []) : ∀ a, p = some a → w.heap.size ≤ a.block ∧ a.block < w'.heap.size := fun a ha => by
 obtain ⟨b, o, e, hc⟩ := hi.cel 0 (List.length_pos_iff.2 hx)
 have h1 := hf a ha
 rw [ha] at e
 cases e
 have := World.block_lt_of_cell? w' _ hc
 exact ⟨h1, this⟩
theorem wrapI64p {x : Int} (h1 : -9223372036854775808 ≤ x) (h2 : x ≤ 9223372036854775807) : IntKind.i64.wrap x = x := by
 rw [IntWalk.i64_left]; exact Go.IntWalk.wrap64_in _ (by omega)
theorem tokq (L : List Tok) (j : Nat) (hj : j < L.length) (s : ByteArray) : ∃ f : Bool, f = true ↔ (L[j]).d = s := by
 rcases Classical.em ((L[j]).d = s) with hd | hd
 ·exact ⟨true, by simp [hd]⟩
 ·exact ⟨false, by simp [hd]⟩
theorem prm_len8 (k : Int) : (Ax.prm k).length ≤ 8 := by
 have ht : ∀ e ∈ Ax.tab, e.p.length ≤ 8 := by decide +kernel
 unfold Ax.prm Ax.ent
 cases h : Ax.tab.find? fun e => decide ((e.k : Int) = k) with
 | none => exact Nat.zero_le _
 | some e => exact ht e (List.mem_of_find?_eq_some h)
theorem tab_ent : ∀ e ∈ Ax.tab, Ax.prm e.k = e.p := by decide +kernel
theorem kO_prm {xs : List Nat} {t : Tok} (h : kO xs t ≠ 0) : Ax.prm (kO xs t) ≠ [] := by
 obtain ⟨e, he, _, _, hk⟩ := kwS_mem h
 unfold kO
 rw [hk, tab_ent e he]
 exact (tab_prm e he).1
theorem conM_eq {V : List UInt8 → Rat} {rd : Nat → List Nat → Rs Tr} {L : List Tok} {i : Nat} {xs : List Nat} {k : Nat} {t : Tok} (ht : tk L i = t) (hk : kO xs t = k) (h0 : k ≠ 0) :
  conM V rd L i xs = (expM sOpen L (i + 1)).bind fun _ j => (argsL rd L (Ax.prm k) j).bind fun l j => if hasR k = true then (ratM V L j).bind fun v j1 => (expM sClose L j1).map fun _ => ndR k t.pos v l else (expM sClose L j).map fun _ => nd0 k t.pos l := by
 subst ht hk
 unfold conM
 rw [if_neg h0, argsM_open _ _ _ (kO_prm h0)]
 cases expM sOpen L (i + 1) <;> rfl
set_option maxHeartbeats 64000000 in
theorem con_any {rd : Nat → List Nat → Rs Tr} {dep : Int} {L : List Tok} {m : Nat} (hL : LkOk L) (hA : ArgC rd (dep + 1) L m) (hd1 : 0 ≤ dep) (hd2 : dep ≤ 100) (w : World) (Tq : Tb w) (X : Nat → Prop) (b : Nat) (p : Option Addr) (c : Nat) (at' er : Int) (j : Nat) (xs : List Nat) (q : Option Addr) (n d : Nat)
  (hX : ∀ k, X k → k < w.heap.size) (hXb : X b) (hNU : ∀ k, X k → NU w k) (hC : CurAt w b p c L j at' er) (hj : j < L.length) (hI : IRd w .i64 q n d xs) (hqb : ∀ a, q = some a → a.block ≠ b) :
  Calls Tryz.prog 71 #[.agg #[.pointer (some ⟨b, 0, none⟩)], .int .i64 dep, .slice q n d] w (ExP X w b p c L at' er (m + 1) (conM rqV rd L j xs)) := by
 have hb0 := hC.lt
 have HPT := hid (hC.plt hj)
 have hlen := hL.len
 have hTk := hL.ok j hj
 obtain ⟨wB, hwB⟩ : ∃ wB, wB = (w.alloc (.cells #[.pointer (some ⟨b, 0, none⟩)] 79 (0, 0))).alloc (.cells #[.int .i64 0, .string ⟨#[]⟩, .bool false, .slice none 0 0, .slice none 0 0, .slice none 0 0, .int .i64 0] 38 (0, 0)) := ⟨_, rfl⟩
 have gB : w.grownBy wB none := by rw [hwB]; exact grown_trans (World.grownBy_alloc _ _ _) (World.grownBy_alloc _ _ _)
 have b1 : wB.heap[w.heap.size]? = some (.cells #[.pointer (some ⟨b, 0, none⟩)] 79 (0, 0)) := by rw [hwB]; exact keepB (blk0 w _) (World.grownBy_alloc _ _ _)
 have b6 : wB.heap[w.heap.size + 1]? = some (.cells #[.int .i64 0, .string ⟨#[]⟩, .bool false, .slice none 0 0, .slice none 0 0, .slice none 0 0, .int .i64 0] 38 (0, 0)) := by
  rw [hwB]
  have := blk0 (w.alloc (.cells #[.pointer (some ⟨b, 0, none⟩)] 79 (0, 0))) (.cells #[.int .i64 0, .string ⟨#[]⟩, .bool false, .slice none 0 0, .slice none 0 0, .slice none 0 0, .int .i64 0] 38 (0, 0))
  simpa using this
 have htk : tk L j = L[j] := tk_at hj
 obtain ⟨t, ht⟩ : ∃ t, t = L[j] := ⟨_, rfl⟩
 have HTO := hid (curTok_any (hC.keep gB) hj)
 rw [← ht] at HTO hTk htk
 unfold Tok.row at HTO
 have HXS : Hid (∀ k, X k → k < w.heap.size) := hid hX
 have HXB := hid hXb
 have NUX := hid (nux_keep hX (grown_refl w none) hNU gB)
 have HC := hid (hC.keep gB)
 have HT := hid (Tq.keep gB)
 have HW := hid (grown_some gB (some b))
 have B6 := hid b6
 have HLK := hid hL
 have HA := hid hA
 have HI := hid (hI.keep gB)
 have HTK := hid hTk
 have HTJ := hid htk
 obtain ⟨kk, hkk⟩ : ∃ kk, kO xs t = kk := ⟨_, rfl⟩
 have HKO := hid hkk
 have HKD := hid fun W (hi : IRd W .i64 q n d xs) => pKindOf_any t.d q n d xs W hi
 rw [show kwS (fun s => decide (s ∈ xs)) t.d.toList = kk from by rw [← hkk]; unfold kO; rw [toList_d]] at HKD
 replace hwB := hid hwB
 obtain ⟨x1, -⟩ := box1e b1
 have hN : b < w.heap.size := hb0
 clear hC gB Tq hL b1 b6 hI hNU hX hXb hA hTk htk hkk ht
 go_enter Tryz.func71, Tryz.ntmps71
 go_upto_region 1 with fail
 rw [← hwB.out]
 go_upto_region 2 with (go_at_call 57; (with_reducible refine HTO.out.mono ?_); rintro e w1 ⟨rfl, hg⟩; have HW0 := HW; replace x1 := hg.cell x1 (by simp); replace B6 := hid (keepB B6.out hg); replace HT := hid (HT.out.keep hg); replace HW := hid (grown_trans HW.out (grown_some hg _)); replace NUX := hid (nux_keep HXS.out HW0.out NUX.out hg); replace HC := hid (HC.out.keep hg); replace HI := hid (HI.out.keep hg); clear HW0; clear hg; obtain ⟨⟨i0, i1, i2, i3⟩, f0, f1, f2, f3⟩ := box4 (blk0 w1 (.cells #[.int .i64 0, .int .i64 0, .int .i64 0, .string ⟨#[]⟩] 76 (0, 0))))
 clear i0 i1 i2 i3 f0 f1 f2 f3
 have gT := World.grownBy_alloc w1 (.cells #[.int .i64 t.k, .int .i64 t.pos, .int .i64 t.en, .string t.d] 76 (0, 0)) none
 obtain ⟨⟨t0, t1, t2, t3⟩, -⟩ := box4 (blk0 w1 (.cells #[.int .i64 t.k, .int .i64 t.pos, .int .i64 t.en, .string t.d] 76 (0, 0)))
 have hKT := lt_of_block B6.out
 have HW0 := HW
 replace x1 := gT.cell x1 (by simp)
 replace B6 := hid (keepB B6.out gT)
 replace HT := hid (HT.out.keep gT)
 replace HW := hid (grown_trans HW.out (grown_some gT _))
 replace NUX := hid (nux_keep HXS.out HW0.out NUX.out gT)
 replace HC := hid (HC.out.keep gT)
 replace HI := hid (HI.out.keep gT)
 clear HW0
 clear gT t0 t2
 generalize w1.heap.size = KT at *
 generalize (w1.alloc _) = w2 at *
 have HKD2 := hid (HKD.out w2 HI.out)
 go_upto_region 3 with (go_at_call 68; (with_reducible refine HKD2.out.mono ?_); rintro e w3 ⟨rfl, hg⟩; have HW0 := HW; replace x1 := hg.cell x1 (by simp); replace B6 := hid (keepB B6.out hg); replace HT := hid (HT.out.keep hg); replace HW := hid (grown_trans HW.out (grown_some hg _)); replace NUX := hid (nux_keep HXS.out HW0.out NUX.out hg); replace HC := hid (HC.out.keep hg); clear HW0; replace t1 := hg.cell t1 (by simp); clear hg)
 clear t3 HI HKD HKD2
 by_cases hk0 : kk = 0
 ·have HRM : Hid (conM rqV rd L j xs = .bad j 5) := hid (by unfold conM; rw [if_pos (by rw [HTJ.out, HKO.out]; exact hk0)])
  have hkz : (kk : Int) = 0 := by omega
  have HRF := hid (curRefuse_any HC.out hj)
  have hjj := hj
  go_wp2_with (go_at_call 69; (with_reducible refine HRF.out.mono ?_); rintro e wf ⟨rfl, hc, hg⟩; have HW0 := HW; replace x1 := hg.cell x1 (by simp; omega); replace B6 := hid ((hg.block _ (lt_of_block B6.out) (by simp; omega)).trans B6.out); replace HT := hid (Tb.keptb HT.out HC.out hg); replace HW := hid (grown_trans HW.out hg); replace NUX := hid (nux_cur HXS.out HW0.out NUX.out hg (CurAt.nu (show CurAt wf b p c L j (L[j]).pos 5 from hc))); replace HC := hid (show CurAt wf b p c L j (L[j]).pos 5 from hc); clear HW0; clear hg hc; obtain ⟨⟨z0, z1, z2, z3, z4, z5, z6⟩, y0, y1, y2, y3, y4, y5, y6⟩ := box7 B6.out)
  have hb6 := set7_blk B6.out (.int .i64 0) (.string ⟨#[]⟩) (.bool false) (.slice none 0 0) (.slice none 0 0) (.slice none 0 0) (.int .i64 0)
  have gS := set7_gr wf (w.heap.size + 1) (.int .i64 0) (.string ⟨#[]⟩) (.bool false) (.slice none 0 0) (.slice none 0 0) (.slice none 0 0) (.int .i64 0)
  have HC6 := hid (HC.out.keptr gS (by simp; omega) (fun q hq => by have := HPT.out q hq; simp; omega))
  have NU6 := hid (nux_own HXS.out HW.out NUX.out gS (by omega))
  have HG6 := hid (grown_newr HW.out gS (by omega))
  obtain ⟨⟨l0, l1, l2, l3, l4, l5, l6⟩, -⟩ := box7 hb6
  clear gS hb6
  clear z0 z1 z2 z3 z4 z5 z6 y0 y1 y2 y3 y4 y5 y6
  generalize ((((((wf.setCell _ _).setCell _ _).setCell _ _).setCell _ _).setCell _ _).setCell _ _).setCell _ _ = w9 at *
  exact bodyPost_ret (v := .tuple #[.agg #[.int .i64 0, .string ⟨#[]⟩, .bool false, .slice none 0 0, .slice none 0 0, .slice none 0 0, .int .i64 0], .bool false]) (by simp [results, Tryz.results71, go_sem, l0, l1, l2, l3, l4, l5, l6]) rfl
   ⟨0, ⟨#[]⟩, false, none, 0, 0, none, 0, 0, none, 0, 0, 0, false, rfl, HG6.out, OkP.no ⟨j, 5, j, HRM.out, hjj, by rw [tk_at hjj]; exact HC6.out⟩⟩
 ·have hk1 : ¬ ((kk : Int) = 0) := by omega
  have hj1 : j + 1 < L.length := HLK.out.next hj (by rw [HTJ.out]; exact kO_ne (by rw [HKO.out]; exact hk0))
  have HCM := hid (conM_eq (V := rqV) (rd := rd) HTJ.out HKO.out hk0)
  have HNX := hid (HC.out.nexti (j + 1) ((j : Int) + 1) (by omega))
  go_upto_region 5 with fail
  obtain ⟨⟨k0, k1, k2, k3⟩, f0, f1, f2, f3⟩ := box4 HC.out.box
  go_upto_region 6 with fail
  have gS := grown_setCell w3 ⟨b, 1, none⟩ (.int .i64 ((j : Int) + 1))
  have HW0 := HW
  replace x1 := gS.cell x1 (by simp; omega)
  replace B6 := hid ((gS.block _ (lt_of_block B6.out) (by simp; omega)).trans B6.out)
  replace HT := hid (Tb.keptb HT.out HC.out gS)
  replace HW := hid (grown_trans HW.out gS)
  replace NUX := hid (nux_cur HXS.out HW0.out NUX.out gS (CurAt.nu HNX.out))
  replace HC := hid HNX.out
  replace t1 := gS.cell t1 (by simp; omega)
  clear HW0
  clear gS k0 k1 k2 k3 f0 f1 f2 f3 HNX
  generalize (w3.setCell _ _) = w4 at *
  obtain ⟨f, hf⟩ := tokq L (j + 1) hj1 ⟨#[40]⟩
  have HEX := hid fun W (h : CurAt W b p c L (j + 1) at' er) => curExpect_any h hj1 (by omega) ⟨#[40]⟩ f hf
  have HF := hid (hf.trans (show (L[j + 1]).d = ⟨#[40]⟩ ↔ (tk L (j + 1)).d = sOpen from by rw [tk_at hj1]; rfl))
  clear hf
  refine wp_region_noPanic ?_
  refine wp_region_held_drew (S := (fun w' => w'.cell? ⟨w.heap.size, 0, none⟩ = some (.pointer (some ⟨b, 0, none⟩)) ∧ w'.cell? ⟨KT, 1, none⟩ = some (.int .i64 t.pos))) (by kernel_rfl) ?_ (fun hHeld => ?_)
  ·((try go_split_ands) <;> (repeat' apply And.intro) <;> (first | (with_reducible assumption) | (with_reducible refine (grown_drew _ none).cell ?_ (by simp); with_reducible assumption) | (with_reducible refine grown_trans ?_ (grown_drew _ none); with_reducible assumption)))
  have hgd := grown_drew w4 none
  have HW0 := HW
  replace x1 := hgd.cell x1 (by simp)
  replace B6 := hid (keepB B6.out hgd)
  replace HT := hid (HT.out.keep hgd)
  replace HW := hid (grown_trans HW.out (grown_some hgd _))
  replace NUX := hid (nux_keep HXS.out HW0.out NUX.out hgd)
  replace HC := hid (HC.out.keep hgd)
  replace t1 := hgd.cell t1 (by simp)
  clear HW0
  refine tkH (v := ?_) 0 rfl hHeld ?_ ?_; rotate_left 1
  ·intro w hSw; (try dsimp only at hSw); go_split_ands; go_simp; (try (with_reducible rfl))
  (try simp only [Act.put, pu1, pu2, pu3])
  refine tkH (v := ?_) 1 rfl hHeld ?_ ?_; rotate_left 1
  ·intro w hSw; (try dsimp only at hSw); go_split_ands; go_simp; (try (with_reducible rfl))
  (try simp only [Act.put, pu1, pu2, pu3])
  refine tkH (v := ?_) 2 rfl hHeld ?_ ?_; rotate_left 1
  ·intro w hSw; (try dsimp only at hSw); go_split_ands; go_simp; (try (with_reducible rfl))
  (try simp only [Act.put, pu1, pu2, pu3])
  refine tkH (v := ?_) 3 rfl hHeld ?_ ?_; rotate_left 1
  ·intro w hSw; (try dsimp only at hSw); go_split_ands; go_simp; (try (with_reducible rfl))
  (try simp only [Act.put, pu1, pu2, pu3])
  refine tkH (v := ?_) 4 rfl hHeld ?_ ?_; rotate_left 1
  ·intro w hSw; (try dsimp only at hSw); go_split_ands; go_simp; (try (with_reducible rfl))
  (try simp only [Act.put, pu1, pu2, pu3])
  refine tkH (v := ?_) 5 rfl hHeld ?_ ?_; rotate_left 1
  ·intro w hSw; (try dsimp only at hSw); go_split_ands; go_simp; (try (with_reducible rfl))
  (try simp only [Act.put, pu1, pu2, pu3])
  refine wpAnyH_ready (rs := [6, 7]) (by kernel_rfl) (by simp) ?_
  refine AllReadyH.cons (o := Oper.mk _ _ _ _ _ _) rfl (fun K hK => ?_) ?_
  ·(try rw [if_pos (by kernel_rfl)])
   go_simp
   go_at_call 84
   (with_reducible refine (HEX.out _ HC.out).mono ?_)
   rintro e wf ⟨rfl, hcf, hgf⟩
   refine hK.out _ _ ?_ (fun hNew => ?_)
   ·exact ⟨hgf.cell x1 (by simp; omega), hgf.cell t1 (by simp; omega)⟩
   clear hK K hHeld
   have hHeld := hNew
   clear hNew
   (try simp only [Act.put, pu1, pu2, pu3])
   have HW0 := HW
   replace x1 := hgf.cell x1 (by simp; omega)
   replace B6 := hid ((hgf.block _ (lt_of_block B6.out) (by simp; omega)).trans B6.out)
   replace HT := hid (Tb.keptb HT.out HC.out hgf)
   replace HW := hid (grown_trans HW.out hgf)
   replace NUX := hid (nux_cur HXS.out HW0.out NUX.out hgf (CurAt.nu (show CurAt wf b p c L (if f = true then j + 1 + 1 else j + 1) (if f = true then at' else (L[j + 1]).pos) (if f = true then er else 5) from hcf)))
   replace HC := hid (show CurAt wf b p c L (if f = true then j + 1 + 1 else j + 1) (if f = true then at' else (L[j + 1]).pos) (if f = true then er else 5) from hcf)
   replace t1 := hgf.cell t1 (by simp; omega)
   clear HW0
   clear hcf hgf
   refine wpAnyH_ready (rs := [7]) (by kernel_rfl) (by simp) ?_
   refine aR1 rfl fun K hK => ?_
   (try rw [if_pos (by kernel_rfl)])
   go_simp
   have gA := World.grownBy_alloc wf (.cells #[.int .i64 0, .string ⟨#[]⟩, .bool false, .slice none 0 0, .slice none 0 0, .slice none 0 0, .int .i64 0] 38 (0, 0)) none
   refine hK.out _ _ ?_ (fun hNew => ?_)
   ·exact ⟨gA.cell x1 (by simp), gA.cell t1 (by simp)⟩
   clear hK K hHeld
   have hHeld := hNew
   clear hNew
   (try simp only [Act.put, pu1, pu2, pu3])
   have BZ := hid (blk0 wf (.cells #[.int .i64 0, .string ⟨#[]⟩, .bool false, .slice none 0 0, .slice none 0 0, .slice none 0 0, .int .i64 0] 38 (0, 0)))
   have hK10 := lt_of_block B6.out
   have hKTl : KT < wf.heap.size := World.block_lt_of_cell? wf _ t1
   have HW0 := HW
   replace x1 := gA.cell x1 (by simp)
   replace B6 := hid (keepB B6.out gA)
   replace HT := hid (HT.out.keep gA)
   replace HW := hid (grown_trans HW.out (grown_some gA _))
   replace NUX := hid (nux_keep HXS.out HW0.out NUX.out gA)
   replace HC := hid (HC.out.keep gA)
   replace t1 := gA.cell t1 (by simp)
   clear HW0
   clear gA
   generalize wf.heap.size = K10 at *
   generalize wf.alloc _ = wg at *
   obtain ⟨⟨z0, z1, z2, z3, z4, z5, z6⟩, y0, y1, y2, y3, y4, y5, y6⟩ := box7 BZ.out
   refine wpAnyH_ready (rs := [8]) (by kernel_rfl) (by simp) ?_
   refine aR1 rfl fun K hK => ?_
   (try rw [if_pos (by kernel_rfl)])
   go_simp
   refine hK.out _ _ ?_ (fun hNew => ?_)
   ·exact ⟨(set7_gr _ _ _ _ _ _ _ _ _).cell x1 (by simp; omega), (set7_gr _ _ _ _ _ _ _ _ _).cell t1 (by simp; omega)⟩
   clear hK K hHeld
   have hHeld := hNew
   clear hNew
   (try simp only [Act.put, pu1, pu2, pu3])
   refine tkH (v := ?_) 9 rfl hHeld ?_ ?_; rotate_left 1
   ·intro w hSw; (try dsimp only at hSw); go_split_ands; go_simp; (try (with_reducible rfl))
   (try simp only [Act.put, pu1, pu2, pu3])
   refine wpAnyH_done (by kernel_rfl) ?_ _
   refine NoPanic.normal ?_
   have hb10 := set7_blk BZ.out (.int .i64 kk) (.string ⟨#[]⟩) (.bool false) (.slice none 0 0) (.slice none 0 0) (.slice none 0 0) (.int .i64 t.pos)
   have gS := set7_gr wg K10 (.int .i64 kk) (.string ⟨#[]⟩) (.bool false) (.slice none 0 0) (.slice none 0 0) (.slice none 0 0) (.int .i64 t.pos)
   have B10 := BZ
   have HW0 := HW
   replace x1 := gS.cell x1 (by simp; omega)
   replace B6 := hid ((gS.block _ (lt_of_block B6.out) (by simp; omega)).trans B6.out)
   replace HT := hid (HT.out.kept7 B10.out gS)
   replace HW := hid (grown_newr HW.out gS (by omega))
   replace NUX := hid (nux_own HXS.out HW0.out NUX.out gS (by omega))
   replace HC := hid (HC.out.keptr gS (by simp; omega) (fun q hq => by have := HPT.out q hq; simp; omega))
   replace B10 := hid hb10
   clear HW0
   clear gS hb10 z0 z1 z2 z3 z4 z5 z6 y0 y1 y2 y3 y4 y5 y6 BZ hHeld
   generalize ((((((wg.setCell _ _).setCell _ _).setCell _ _).setCell _ _).setCell _ _).setCell _ _).setCell _ _ = wc at *
   cases f with
   | false =>
    have HRM : Hid (conM rqV rd L j xs = .bad (j + 1) 5) := hid (by rw [HCM.out]; unfold expM; rw [if_neg (fun h => by cases HF.out.2 h)]; rfl)
    obtain ⟨jj, hjje⟩ : ∃ jj, jj = j + 1 := ⟨_, rfl⟩
    have hjj : jj < L.length := by omega
    obtain ⟨ee, hee⟩ : ∃ ee : Int, ee = 5 := ⟨_, rfl⟩
    obtain ⟨nx, hnx⟩ : ∃ nx, nx = j + 1 := ⟨_, rfl⟩
    replace HC : Hid (CurAt wc b p c L nx (tk L jj).pos ee) := hid (by rw [hjje, tk_at hj1, hee, hnx]; exact HC.out)
    rw [← hjje, ← hee] at HRM
    clear hjje hee hnx
    go_upto_region 11 with fail
    have hgd := grown_drew wc none
    obtain ⟨⟨u0, u1, u2, u3, u4, u5, u6⟩, -⟩ := box7 (keepB B10.out hgd)
    obtain ⟨⟨v0, v1, v2, v3, v4, v5, v6⟩, -⟩ := box7 B10.out
    obtain ⟨⟨z0, z1, z2, z3, z4, z5, z6⟩, y0, y1, y2, y3, y4, y5, y6⟩ := box7 B6.out
    have xd := hgd.cell x1 (by simp)
    refine wp_region_noPanic ?_
    refine wp_region_held_drew (S := (fun w' => w'.cell? ⟨w.heap.size, 0, none⟩ = some (.pointer (some ⟨b, 0, none⟩)) ∧ w'.cell? ⟨K10, 0, none⟩ = some (.int .i64 kk) ∧ w'.cell? ⟨K10, 1, none⟩ = some (.string ⟨#[]⟩) ∧ w'.cell? ⟨K10, 2, none⟩ = some (.bool false) ∧ w'.cell? ⟨K10, 3, none⟩ = some (.slice none 0 0) ∧ w'.cell? ⟨K10, 4, none⟩ = some (.slice none 0 0) ∧ w'.cell? ⟨K10, 5, none⟩ = some (.slice none 0 0) ∧ w'.cell? ⟨K10, 6, none⟩ = some (.int .i64 t.pos))) (by kernel_rfl) ?_ (fun hHeld => ?_)
    ·((try go_split_ands) <;> (repeat' apply And.intro) <;> (first | (with_reducible assumption) | (with_reducible refine (grown_drew _ none).cell ?_ (by simp); with_reducible assumption) | (with_reducible refine grown_trans ?_ (grown_drew _ none); with_reducible assumption)))
    refine tkH (v := ?_) 0 rfl hHeld ?_ ?_; rotate_left 1
    ·intro w hSw; (try dsimp only at hSw); go_split_ands; go_simp; (try (with_reducible rfl))
    (try simp only [Act.put, pu1, pu2, pu3])
    refine tkH (v := ?_) 1 rfl hHeld ?_ ?_; rotate_left 1
    ·intro w hSw; (try dsimp only at hSw); go_split_ands; go_simp; (try (with_reducible rfl))
    (try simp only [Act.put, pu1, pu2, pu3])
    refine tkH (v := ?_) 2 rfl hHeld ?_ ?_; rotate_left 1
    ·intro w hSw; (try dsimp only at hSw); go_split_ands; go_simp; (try (with_reducible rfl))
    (try simp only [Act.put, pu1, pu2, pu3])
    refine wpAnyH_take (i := 3) (oi := Oper.mk _ _ _ _ _ _) (v := undef) rfl (by kernel_rfl) (by kernel_rfl) (by kernel_rfl) (fun _ _ _ h => h) (Or.inr ⟨by kernel_rfl, rfl⟩) hHeld ?_
    (try simp only [Act.put, pu1, pu2, pu3])
    refine wpAnyH_take (i := 4) (oi := Oper.mk _ _ _ _ _ _) (v := undef) rfl (by kernel_rfl) (by kernel_rfl) (by kernel_rfl) (fun _ _ _ h => h) (Or.inr ⟨by kernel_rfl, rfl⟩) hHeld ?_
    (try simp only [Act.put, pu1, pu2, pu3])
    refine wpAnyH_take (i := 5) (oi := Oper.mk _ _ _ _ _ _) (v := undef) rfl (by kernel_rfl) (by kernel_rfl) (by kernel_rfl) (fun _ _ _ h => h) (Or.inr ⟨by kernel_rfl, rfl⟩) hHeld ?_
    (try simp only [Act.put, pu1, pu2, pu3])
    refine tkH (v := ?_) 6 rfl hHeld ?_ ?_; rotate_left 1
    ·intro w hSw; (try dsimp only at hSw); go_split_ands; go_simp; (try (with_reducible rfl))
    (try simp only [Act.put, pu1, pu2, pu3])
    refine wpAnyH_ready (rs := [7]) (by kernel_rfl) (by simp) ?_
    refine aR1 rfl fun K hK => ?_
    (try rw [if_pos (by kernel_rfl)])
    go_simp
    refine hK.out _ _ ?_ (fun hNew => ?_)
    ·with_reducible exact ks8 (grown_trans (set7_gr _ _ _ _ _ _ _ _ _) (grown_drew _ _)) (by omega) (by omega) x1 v0 v1 v2 v3 v4 v5 v6
    clear hK K hHeld
    have hHeld := hNew
    clear hNew
    (try simp only [Act.put, pu1, pu2, pu3])
    refine tkH (v := ?_) 8 rfl hHeld ?_ ?_; rotate_left 1
    ·intro w hSw; (try dsimp only at hSw); go_split_ands; go_simp; (try (with_reducible rfl))
    (try simp only [Act.put, pu1, pu2, pu3])
    refine wpAnyH_done (by kernel_rfl) ?_ _
    refine NoPanic.normal ?_
    have hb6 := set7_blk B6.out (.int .i64 kk) (.string ⟨#[]⟩) (.bool false) (.slice none 0 0) (.slice none 0 0) (.slice none 0 0) (.int .i64 t.pos)
    have gS := set7_gr wc (w.heap.size + 1) (.int .i64 kk) (.string ⟨#[]⟩) (.bool false) (.slice none 0 0) (.slice none 0 0) (.slice none 0 0) (.int .i64 t.pos)
    have HC6 := hid (HC.out.keptr gS (by simp; omega) (fun q hq => by have := HPT.out q hq; simp; omega))
    have NU6 := hid (nux_own HXS.out HW.out NUX.out gS (by omega))
    have HG6 := hid (grown_newr HW.out gS (by omega))
    obtain ⟨⟨l0, l1, l2, l3, l4, l5, l6⟩, -⟩ := box7 hb6
    clear gS hb6
    clear u0 u1 u2 u3 u4 u5 u6 v0 v1 v2 v3 v4 v5 v6 z0 z1 z2 z3 z4 z5 z6 y0 y1 y2 y3 y4 y5 y6 hHeld
    clear hgd xd
    generalize ((((((wc.setCell _ _).setCell _ _).setCell _ _).setCell _ _).setCell _ _).setCell _ _).setCell _ _ = w9 at *
    go_wp2_with fail
    exact bodyPost_ret (v := .tuple #[.agg #[.int .i64 kk, .string ⟨#[]⟩, .bool false, .slice none 0 0, .slice none 0 0, .slice none 0 0, .int .i64 t.pos], .bool false]) (by simp [results, Tryz.results71, go_sem, l0, l1, l2, l3, l4, l5, l6]) rfl
     ⟨kk, ⟨#[]⟩, false, none, 0, 0, none, 0, 0, none, 0, 0, t.pos, false, rfl, grown_trans HG6.out (grown_drew _ _), OkP.no ⟨jj, ee, nx, HRM.out, hjj, HC6.out.keep (grown_drew _ none)⟩⟩
   | true =>
    have HJ2 : Hid (j + 1 + 1 < L.length) := hid (HLK.out.next hj1 (by rw [HF.out.1 rfl]; simp [sOpen]))
    have HRN : Hid (conM rqV rd L j xs = (argsL rd L (Ax.prm kk) (j + 1 + 1)).bind fun l j => if hasR kk = true then (ratM rqV L j).bind fun v j1 => (expM sClose L j1).map fun _ => ndR kk t.pos v l else (expM sClose L j).map fun _ => nd0 kk t.pos l) := hid (by rw [HCM.out]; unfold expM; rw [if_pos (HF.out.1 rfl)]; rfl)
    have HPM := hid fun W => params_any (kk : Int) W
    obtain ⟨⟨u0, u1, u2, u3, u4, u5, u6⟩, p0, p1, p2, p3, p4, p5, p6⟩ := box7 B10.out
    have hgq := grown_refl wc none
    have HAG := hid fun W (hg : wc.grownBy W none) pp np cp (hi : IRd W .i64 pp np cp (Ax.prm kk)) (hf : ∀ a, pp = some a → wc.heap.size ≤ a.block ∧ a.block < W.heap.size) => arguments_any (rd := rd) (dep := dep + 1) (L := L) (m := m) HLK.out HA.out W (fun k => X k ∨ k = K10 ∨ k = w.heap.size + 1) b p c at' er (j + 1 + 1) (Ax.prm kk) pp np cp (fun k hk => by have h1 := hg.size; have h2 := lt_of_block B10.out; have h3 := lt_of_block B6.out; rcases hk with h | h | h; have := HXS.out k h; have h5 := HW.out.size; omega; omega; omega) (.inl HXB.out) (HT.out.keep hg) (fun k hk => by rcases hk with h | rfl | rfl; exact (NUX.out k h).kept (by have := HXS.out k h; have h5 := HW.out.size; omega) hg (by simp); exact nu7 (keepB B10.out hg); exact nu7 (keepB B6.out hg)) (HC.out.keep hg) HJ2.out hi (fun a ha => by have := (hf a ha).1; have := HC.out.lt; omega) (fun a ha => (hf a ha).2) (fun q hq => by have := HPT.out q hq; have := HW.out.size; have := hg.size; omega) (by have := prm_len8 kk; omega)
    have HPN := hid (kO_prm (xs := xs) (t := t) (by rw [HKO.out]; exact hk0))
    rw [HKO.out] at HPN
    have hwr : IntKind.i64.wrap (dep + 1) = dep + 1 := wrapI64p (by omega) (by omega)
    rw [← hwr] at HAG
    clear hwr
    go_upto_region 8 with fail
    have hgd := grown_drew wc none
    refine wp_region_noPanic ?_
    refine wp_region_held_drew (S := (fun w' => w'.cell? ⟨w.heap.size, 0, none⟩ = some (.pointer (some ⟨b, 0, none⟩)))) (by kernel_rfl) ?_ (fun hHeld => ?_)
    ·((try go_split_ands) <;> (repeat' apply And.intro) <;> (first | (with_reducible assumption) | (with_reducible refine (grown_drew _ none).cell ?_ (by simp); with_reducible assumption) | (with_reducible refine grown_trans ?_ (grown_drew _ none); with_reducible assumption)))
    have HW0 := HW
    replace x1 := hgd.cell x1 (by simp)
    replace B6 := hid (keepB B6.out hgd)
    replace HT := hid (HT.out.keep hgd)
    replace HW := hid (grown_trans HW.out (grown_some hgd _))
    replace NUX := hid (nux_keep HXS.out HW0.out NUX.out hgd)
    replace HC := hid (HC.out.keep hgd)
    replace B10 := hid (keepB B10.out hgd)
    clear HW0
    refine tkH (v := ?_) 0 rfl hHeld ?_ ?_; rotate_left 1
    ·intro w hSw; (try dsimp only at hSw); go_split_ands; go_simp; (try (with_reducible rfl))
    (try simp only [Act.put, pu1, pu2, pu3])
    refine tkH (v := ?_) 1 rfl hHeld ?_ ?_; rotate_left 1
    ·intro w hSw; (try dsimp only at hSw); go_split_ands; go_simp; (try (with_reducible rfl))
    (try simp only [Act.put, pu1, pu2, pu3])
    refine tkH (v := ?_) 2 rfl hHeld ?_ ?_; rotate_left 1
    ·intro w hSw; (try dsimp only at hSw); go_split_ands; go_simp; (try (with_reducible rfl))
    (try simp only [Act.put, pu1, pu2, pu3])
    refine tkH (v := ?_) 3 rfl hHeld ?_ ?_; rotate_left 1
    ·intro w hSw; (try dsimp only at hSw); go_split_ands; go_simp; (try (with_reducible rfl))
    (try simp only [Act.put, pu1, pu2, pu3])
    refine wpAnyH_ready (rs := [4]) (by kernel_rfl) (by simp) ?_
    refine aR1 rfl fun K hK => ?_
    (try rw [if_pos (by kernel_rfl)])
    go_simp
    go_at_call 80
    (with_reducible refine (HPM.out _).mono ?_)
    rintro e wp ⟨pp, np, cp, rfl, hfr, hip, hgp⟩
    refine hK.out _ _ ?_ (fun hNew => ?_)
    ·exact hgp.cell x1 (by simp)
    clear hK K hHeld
    have hHeld := hNew
    clear hNew
    (try simp only [Act.put, pu1, pu2, pu3])
    have hfr2 : Frs wc pp := hfr
    have HW0 := HW
    replace x1 := hgp.cell x1 (by simp)
    replace B6 := hid (keepB B6.out hgp)
    replace HT := hid (HT.out.keep hgp)
    replace HW := hid (grown_trans HW.out (grown_some hgp _))
    replace NUX := hid (nux_keep HXS.out HW0.out NUX.out hgp)
    replace HC := hid (HC.out.keep hgp)
    replace B10 := hid (keepB B10.out hgp)
    clear HW0
    refine wpAnyH_ready (rs := [5]) (by kernel_rfl) (by simp) ?_
    refine aR1 rfl fun K hK => ?_
    (try rw [if_pos (by kernel_rfl)])
    go_simp
    go_at_call 116
    (with_reducible refine (HAG.out wp (grown_trans hgd hgp) pp np cp hip (frs_lt hfr2 hip HPN.out)).mono ?_)
    rintro e wa ⟨ga, oka, rfl, hga, hgf, hO⟩
    refine hK.out _ _ ?_ (fun hNew => ?_)
    ·exact hgf.cell x1 (by simp; omega)
    clear hK K hHeld
    have hHeld := hNew
    clear hNew
    (try simp only [Act.put, pu1, pu2, pu3])
    cases oka with
    | false =>
     obtain ⟨jj, ee, nx, h1, hjj, h3⟩ := hO.bad (by simp)
     have HRM : Hid (conM rqV rd L j xs = .bad jj ee) := hid (by rw [HRN.out, h1]; rfl)
     have HW0 := HW
     replace x1 := hgf.cell x1 (by simp; omega)
     replace B6 := hid ((hgf.block _ (lt_of_block B6.out) (by simp; omega)).trans B6.out)
     replace HT := hid (Tb.keptb HT.out HC.out hgf)
     replace HW := hid (grown_trans HW.out hgf)
     replace NUX := hid (nux_cur HXS.out HW0.out NUX.out hgf (CurAt.nu h3))
     replace B10 := hid ((hgf.block _ (lt_of_block B10.out) (by simp; omega)).trans B10.out)
     replace HC := hid h3
     clear HW0
     clear u0 u1 u2 u3 u4 u5 u6 p0 p1 p2 p3 p4 p5 p6
     obtain ⟨⟨u0, u1, u2, u3, u4, u5, u6⟩, p0, p1, p2, p3, p4, p5, p6⟩ := box7 B10.out
     clear h1 h3 hO hgf hgp hip hfr
     refine tkH (v := ?_) 6 rfl hHeld ?_ ?_; rotate_left 1
     ·intro w hSw; (try dsimp only at hSw); go_split_ands; go_simp; (try (with_reducible rfl))
     (try simp only [Act.put, pu1, pu2, pu3])
     refine tkH (v := ?_) 7 rfl hHeld ?_ ?_; rotate_left 1
     ·intro w hSw; (try dsimp only at hSw); go_split_ands; go_simp; (try (with_reducible rfl))
     (try simp only [Act.put, pu1, pu2, pu3])
     refine tkH (v := ?_) 8 rfl hHeld ?_ ?_; rotate_left 1
     ·intro w hSw; (try dsimp only at hSw); go_split_ands; go_simp; (try (with_reducible rfl))
     (try simp only [Act.put, pu1, pu2, pu3])
     refine tkH (v := ?_) 9 rfl hHeld ?_ ?_; rotate_left 1
     ·intro w hSw; (try dsimp only at hSw); go_split_ands; go_simp; (try (with_reducible rfl))
     (try simp only [Act.put, pu1, pu2, pu3])
     refine wpAnyH_ready (rs := [10]) (by kernel_rfl) (by simp) ?_
     refine aR1 rfl fun K hK => ?_
     (try rw [if_pos (by kernel_rfl)])
     go_simp
     refine hK.out _ _ ?_ (fun hNew => ?_)
     ·exact (grown_setCell _ _ _).cell x1 (by simp; omega)
     clear hK K hHeld
     have hHeld := hNew
     clear hNew
     (try simp only [Act.put, pu1, pu2, pu3])
     refine tkH (v := ?_) 11 rfl hHeld ?_ ?_; rotate_left 1
     ·intro w hSw; (try dsimp only at hSw); go_split_ands; go_simp; (try (with_reducible rfl))
     (try simp only [Act.put, pu1, pu2, pu3])
     refine wpAnyH_done (by kernel_rfl) ?_ _
     refine NoPanic.normal ?_
     have hb10 := set1_5 B10.out (.slice (some ⟨ga, 0, none⟩) np np)
     have gS : wa.grownBy (wa.setCell ⟨K10, 5, none⟩ (.slice (some ⟨ga, 0, none⟩) np np)) (some K10) := grown_setCell wa ⟨K10, 5, none⟩ _
     have HW0 := HW
     replace x1 := gS.cell x1 (by simp; omega)
     replace B6 := hid ((gS.block _ (lt_of_block B6.out) (by simp; omega)).trans B6.out)
     replace HT := hid (HT.out.kept7 B10.out gS)
     replace HW := hid (grown_newr HW.out gS (by omega))
     replace NUX := hid (nux_own HXS.out HW0.out NUX.out gS (by omega))
     replace HC := hid (HC.out.keptr gS (by simp; omega) (fun q hq => by have := HPT.out q hq; simp; omega))
     replace B10 := hid hb10
     clear HW0
     clear gS hb10 hHeld p0 p1 p2 p3 p4 p5 p6 u0 u1 u2 u3 u4 u5 u6
     generalize wa.setCell _ _ = wd at *
     go_upto_region 11 with fail
     have hgd := grown_drew wd none
     obtain ⟨⟨u0, u1, u2, u3, u4, u5, u6⟩, -⟩ := box7 (keepB B10.out hgd)
     obtain ⟨⟨v0, v1, v2, v3, v4, v5, v6⟩, -⟩ := box7 B10.out
     obtain ⟨⟨z0, z1, z2, z3, z4, z5, z6⟩, y0, y1, y2, y3, y4, y5, y6⟩ := box7 B6.out
     have xd := hgd.cell x1 (by simp)
     refine wp_region_noPanic ?_
     refine wp_region_held_drew (S := (fun w' => w'.cell? ⟨w.heap.size, 0, none⟩ = some (.pointer (some ⟨b, 0, none⟩)) ∧ w'.cell? ⟨K10, 0, none⟩ = some (.int .i64 kk) ∧ w'.cell? ⟨K10, 1, none⟩ = some (.string ⟨#[]⟩) ∧ w'.cell? ⟨K10, 2, none⟩ = some (.bool false) ∧ w'.cell? ⟨K10, 3, none⟩ = some (.slice none 0 0) ∧ w'.cell? ⟨K10, 4, none⟩ = some (.slice none 0 0) ∧ w'.cell? ⟨K10, 5, none⟩ = some (.slice (some ⟨ga, 0, none⟩) np np) ∧ w'.cell? ⟨K10, 6, none⟩ = some (.int .i64 t.pos))) (by kernel_rfl) ?_ (fun hHeld => ?_)
     ·((try go_split_ands) <;> (repeat' apply And.intro) <;> (first | (with_reducible assumption) | (with_reducible refine (grown_drew _ none).cell ?_ (by simp); with_reducible assumption) | (with_reducible refine grown_trans ?_ (grown_drew _ none); with_reducible assumption)))
     refine tkH (v := ?_) 0 rfl hHeld ?_ ?_; rotate_left 1
     ·intro w hSw; (try dsimp only at hSw); go_split_ands; go_simp; (try (with_reducible rfl))
     (try simp only [Act.put, pu1, pu2, pu3])
     refine tkH (v := ?_) 1 rfl hHeld ?_ ?_; rotate_left 1
     ·intro w hSw; (try dsimp only at hSw); go_split_ands; go_simp; (try (with_reducible rfl))
     (try simp only [Act.put, pu1, pu2, pu3])
     refine tkH (v := ?_) 2 rfl hHeld ?_ ?_; rotate_left 1
     ·intro w hSw; (try dsimp only at hSw); go_split_ands; go_simp; (try (with_reducible rfl))
     (try simp only [Act.put, pu1, pu2, pu3])
     refine wpAnyH_take (i := 3) (oi := Oper.mk _ _ _ _ _ _) (v := undef) rfl (by kernel_rfl) (by kernel_rfl) (by kernel_rfl) (fun _ _ _ h => h) (Or.inr ⟨by kernel_rfl, rfl⟩) hHeld ?_
     (try simp only [Act.put, pu1, pu2, pu3])
     refine wpAnyH_take (i := 4) (oi := Oper.mk _ _ _ _ _ _) (v := undef) rfl (by kernel_rfl) (by kernel_rfl) (by kernel_rfl) (fun _ _ _ h => h) (Or.inr ⟨by kernel_rfl, rfl⟩) hHeld ?_
     (try simp only [Act.put, pu1, pu2, pu3])
     refine wpAnyH_take (i := 5) (oi := Oper.mk _ _ _ _ _ _) (v := undef) rfl (by kernel_rfl) (by kernel_rfl) (by kernel_rfl) (fun _ _ _ h => h) (Or.inr ⟨by kernel_rfl, rfl⟩) hHeld ?_
     (try simp only [Act.put, pu1, pu2, pu3])
     refine tkH (v := ?_) 6 rfl hHeld ?_ ?_; rotate_left 1
     ·intro w hSw; (try dsimp only at hSw); go_split_ands; go_simp; (try (with_reducible rfl))
     (try simp only [Act.put, pu1, pu2, pu3])
     refine wpAnyH_ready (rs := [7]) (by kernel_rfl) (by simp) ?_
     refine aR1 rfl fun K hK => ?_
     (try rw [if_pos (by kernel_rfl)])
     go_simp
     refine hK.out _ _ ?_ (fun hNew => ?_)
     ·with_reducible exact ks8 (grown_trans (set7_gr _ _ _ _ _ _ _ _ _) (grown_drew _ _)) (by omega) (by omega) x1 v0 v1 v2 v3 v4 v5 v6
     clear hK K hHeld
     have hHeld := hNew
     clear hNew
     (try simp only [Act.put, pu1, pu2, pu3])
     refine tkH (v := ?_) 8 rfl hHeld ?_ ?_; rotate_left 1
     ·intro w hSw; (try dsimp only at hSw); go_split_ands; go_simp; (try (with_reducible rfl))
     (try simp only [Act.put, pu1, pu2, pu3])
     refine wpAnyH_done (by kernel_rfl) ?_ _
     refine NoPanic.normal ?_
     have hb6 := set7_blk B6.out (.int .i64 kk) (.string ⟨#[]⟩) (.bool false) (.slice none 0 0) (.slice none 0 0) (.slice (some ⟨ga, 0, none⟩) np np) (.int .i64 t.pos)
     have gS := set7_gr wd (w.heap.size + 1) (.int .i64 kk) (.string ⟨#[]⟩) (.bool false) (.slice none 0 0) (.slice none 0 0) (.slice (some ⟨ga, 0, none⟩) np np) (.int .i64 t.pos)
     have HC6 := hid (HC.out.keptr gS (by simp; omega) (fun q hq => by have := HPT.out q hq; simp; omega))
     have NU6 := hid (nux_own HXS.out HW.out NUX.out gS (by omega))
     have HG6 := hid (grown_newr HW.out gS (by omega))
     obtain ⟨⟨l0, l1, l2, l3, l4, l5, l6⟩, -⟩ := box7 hb6
     clear gS hb6
     clear u0 u1 u2 u3 u4 u5 u6 v0 v1 v2 v3 v4 v5 v6 z0 z1 z2 z3 z4 z5 z6 y0 y1 y2 y3 y4 y5 y6 hHeld
     clear hgd xd
     generalize ((((((wd.setCell _ _).setCell _ _).setCell _ _).setCell _ _).setCell _ _).setCell _ _).setCell _ _ = w9 at *
     go_wp2_with fail
     exact bodyPost_ret (v := .tuple #[.agg #[.int .i64 kk, .string ⟨#[]⟩, .bool false, .slice none 0 0, .slice none 0 0, .slice (some ⟨ga, 0, none⟩) np np, .int .i64 t.pos], .bool false]) (by simp [results, Tryz.results71, go_sem, l0, l1, l2, l3, l4, l5, l6]) rfl
      ⟨kk, ⟨#[]⟩, false, none, 0, 0, none, 0, 0, (some ⟨ga, 0, none⟩), np, np, t.pos, false, rfl, grown_trans HG6.out (grown_drew _ _), OkP.no ⟨jj, ee, nx, HRM.out, hjj, HC6.out.keep (grown_drew _ none)⟩⟩
    | true =>
     obtain ⟨tl, jj, h1, hjj, h3, h4⟩ := hO.get rfl
     have HAR := hid h1
     have HW0 := HW
     replace x1 := hgf.cell x1 (by simp; omega)
     replace B6 := hid ((hgf.block _ (lt_of_block B6.out) (by simp; omega)).trans B6.out)
     replace HT := hid (Tb.keptb HT.out HC.out hgf)
     replace HW := hid (grown_trans HW.out hgf)
     replace NUX := hid (nux_cur HXS.out HW0.out NUX.out hgf (CurAt.nu h4))
     replace B10 := hid ((hgf.block _ (lt_of_block B10.out) (by simp; omega)).trans B10.out)
     replace HC := hid h4
     clear HW0
     have TR := hid h3
     clear u0 u1 u2 u3 u4 u5 u6 p0 p1 p2 p3 p4 p5 p6
     obtain ⟨⟨u0, u1, u2, u3, u4, u5, u6⟩, p0, p1, p2, p3, p4, p5, p6⟩ := box7 B10.out
     clear h1 h3 h4 hO hgf hgp hip hfr
     refine tkH (v := ?_) 6 rfl hHeld ?_ ?_; rotate_left 1
     ·intro w hSw; (try dsimp only at hSw); go_split_ands; go_simp; (try (with_reducible rfl))
     (try simp only [Act.put, pu1, pu2, pu3])
     refine tkH (v := ?_) 7 rfl hHeld ?_ ?_; rotate_left 1
     ·intro w hSw; (try dsimp only at hSw); go_split_ands; go_simp; (try (with_reducible rfl))
     (try simp only [Act.put, pu1, pu2, pu3])
     refine tkH (v := ?_) 8 rfl hHeld ?_ ?_; rotate_left 1
     ·intro w hSw; (try dsimp only at hSw); go_split_ands; go_simp; (try (with_reducible rfl))
     (try simp only [Act.put, pu1, pu2, pu3])
     refine tkH (v := ?_) 9 rfl hHeld ?_ ?_; rotate_left 1
     ·intro w hSw; (try dsimp only at hSw); go_split_ands; go_simp; (try (with_reducible rfl))
     (try simp only [Act.put, pu1, pu2, pu3])
     refine wpAnyH_ready (rs := [10]) (by kernel_rfl) (by simp) ?_
     refine aR1 rfl fun K hK => ?_
     (try rw [if_pos (by kernel_rfl)])
     go_simp
     refine hK.out _ _ ?_ (fun hNew => ?_)
     ·exact (grown_setCell _ _ _).cell x1 (by simp; omega)
     clear hK K hHeld
     have hHeld := hNew
     clear hNew
     (try simp only [Act.put, pu1, pu2, pu3])
     refine tkH (v := ?_) 11 rfl hHeld ?_ ?_; rotate_left 1
     ·intro w hSw; (try dsimp only at hSw); go_split_ands; go_simp; (try (with_reducible rfl))
     (try simp only [Act.put, pu1, pu2, pu3])
     refine wpAnyH_done (by kernel_rfl) ?_ _
     refine NoPanic.normal ?_
     have hb10 := set1_5 B10.out (.slice (some ⟨ga, 0, none⟩) np np)
     have gS : wa.grownBy (wa.setCell ⟨K10, 5, none⟩ (.slice (some ⟨ga, 0, none⟩) np np)) (some K10) := grown_setCell wa ⟨K10, 5, none⟩ _
     have HW0 := HW
     replace x1 := gS.cell x1 (by simp; omega)
     replace B6 := hid ((gS.block _ (lt_of_block B6.out) (by simp; omega)).trans B6.out)
     replace HT := hid (HT.out.kept7 B10.out gS)
     replace HW := hid (grown_newr HW.out gS (by omega))
     replace NUX := hid (nux_own HXS.out HW0.out NUX.out gS (by omega))
     replace HC := hid (HC.out.keptr gS (by simp; omega) (fun q hq => by have := HPT.out q hq; simp; omega))
     replace TR := hid (TR.out.keptx gS (fun g e => by cases e; exact .inr (.inl rfl)))
     replace B10 := hid hb10
     clear HW0
     clear gS hb10 hHeld p0 p1 p2 p3 p4 p5 p6 u0 u1 u2 u3 u4 u5 u6
     generalize wa.setCell _ _ = wd at *
     have HHR := hid fun W => pHasRatio_any kk W (hasR kk) (by unfold hasR; simp)
     obtain ⟨hr, hhr⟩ : ∃ hr, hasR kk = hr := ⟨_, rfl⟩
     rw [hhr] at HHR
     cases hr with
     | false =>
      have HRM : Hid (conM rqV rd L j xs = (expM sClose L jj).map fun _ => nd0 kk t.pos tl) := hid (by rw [HRN.out, HAR.out]; show (if hasR kk = true then _ else _) = _; rw [if_neg (by rw [hhr]; simp)])
      clear hhr
      go_upto_region 11 with (go_at_call 117; (with_reducible refine (HHR.out _).mono ?_); rintro e we ⟨rfl, hg⟩; have HW0 := HW; replace x1 := hg.cell x1 (by simp); replace B6 := hid (keepB B6.out hg); replace HT := hid (HT.out.keep hg); replace HW := hid (grown_trans HW.out (grown_some hg _)); replace NUX := hid (nux_keep HXS.out HW0.out NUX.out hg); replace HC := hid (HC.out.keep hg); replace B10 := hid (keepB B10.out hg); replace TR := hid (ARdX.keep hg TR.out); clear HW0; clear hg)
      obtain ⟨f9, hf9⟩ := tokq L jj hjj ⟨#[41]⟩
      have hgd := grown_drew we none
      have HXP := hid (curExpect_any (HC.out.keep hgd) hjj (by have := HLK.out.len; omega) ⟨#[41]⟩ f9 hf9)
      have HF9 := hid (hf9.trans (show (L[jj]).d = ⟨#[41]⟩ ↔ (tk L jj).d = sClose from by rw [tk_at hjj]; rfl))
      have HPS := hid (congrArg Tok.pos (tk_at hjj))
      clear hf9
      cases f9 with
      | false =>
       obtain ⟨⟨u0, u1, u2, u3, u4, u5, u6⟩, -⟩ := box7 (keepB B10.out hgd)
       obtain ⟨⟨v0, v1, v2, v3, v4, v5, v6⟩, -⟩ := box7 B10.out
       have xd := hgd.cell x1 (by simp)
       refine wp_region_noPanic ?_
       refine wp_region_held_drew (S := (fun w' => w'.cell? ⟨w.heap.size, 0, none⟩ = some (.pointer (some ⟨b, 0, none⟩)) ∧ w'.cell? ⟨K10, 0, none⟩ = some (.int .i64 kk) ∧ w'.cell? ⟨K10, 1, none⟩ = some (.string ⟨#[]⟩) ∧ w'.cell? ⟨K10, 2, none⟩ = some (.bool false) ∧ w'.cell? ⟨K10, 3, none⟩ = some (.slice none 0 0) ∧ w'.cell? ⟨K10, 4, none⟩ = some (.slice none 0 0) ∧ w'.cell? ⟨K10, 5, none⟩ = some (.slice (some ⟨ga, 0, none⟩) np np) ∧ w'.cell? ⟨K10, 6, none⟩ = some (.int .i64 t.pos))) (by kernel_rfl) ?_ (fun hHeld => ?_)
       ·((try go_split_ands) <;> (repeat' apply And.intro) <;> (first | (with_reducible assumption) | (with_reducible refine (grown_drew _ none).cell ?_ (by simp); with_reducible assumption) | (with_reducible refine grown_trans ?_ (grown_drew _ none); with_reducible assumption)))
       refine tkH (v := ?_) 0 rfl hHeld ?_ ?_; rotate_left 1
       ·intro w hSw; (try dsimp only at hSw); go_split_ands; go_simp; (try (with_reducible rfl))
       (try simp only [Act.put, pu1, pu2, pu3])
       refine tkH (v := ?_) 1 rfl hHeld ?_ ?_; rotate_left 1
       ·intro w hSw; (try dsimp only at hSw); go_split_ands; go_simp; (try (with_reducible rfl))
       (try simp only [Act.put, pu1, pu2, pu3])
       refine tkH (v := ?_) 2 rfl hHeld ?_ ?_; rotate_left 1
       ·intro w hSw; (try dsimp only at hSw); go_split_ands; go_simp; (try (with_reducible rfl))
       (try simp only [Act.put, pu1, pu2, pu3])
       refine tkH (v := ?_) 3 rfl hHeld ?_ ?_; rotate_left 1
       ·intro w hSw; (try dsimp only at hSw); go_split_ands; go_simp; (try (with_reducible rfl))
       (try simp only [Act.put, pu1, pu2, pu3])
       refine tkH (v := ?_) 4 rfl hHeld ?_ ?_; rotate_left 1
       ·intro w hSw; (try dsimp only at hSw); go_split_ands; go_simp; (try (with_reducible rfl))
       (try simp only [Act.put, pu1, pu2, pu3])
       refine wpAnyH_ready (rs := [5]) (by kernel_rfl) (by simp) ?_
       refine aR1 rfl fun K hK => ?_
       (try rw [if_pos (by kernel_rfl)])
       go_simp
       go_at_call 84
       (with_reducible refine HXP.out.mono ?_)
       rintro e wf ⟨rfl, hcf, hgf⟩
       refine hK.out _ _ ?_ (fun hNew => ?_)
       ·with_reducible exact ks8 hgf (by omega) (by omega) xd u0 u1 u2 u3 u4 u5 u6
       clear hK K hHeld
       have hHeld := hNew
       clear hNew
       (try simp only [Act.put, pu1, pu2, pu3])
       have HW0 := HW
       replace x1 := hgd.cell x1 (by simp)
       replace B6 := hid (keepB B6.out hgd)
       replace HT := hid (HT.out.keep hgd)
       replace HW := hid (grown_trans HW.out (grown_some hgd _))
       replace NUX := hid (nux_keep HXS.out HW0.out NUX.out hgd)
       replace HC := hid (HC.out.keep hgd)
       replace B10 := hid (keepB B10.out hgd)
       replace TR := hid (ARdX.keep hgd TR.out)
       clear HW0
       have HW0 := HW
       replace x1 := hgf.cell x1 (by simp; omega)
       replace B6 := hid ((hgf.block _ (lt_of_block B6.out) (by simp; omega)).trans B6.out)
       replace HT := hid (Tb.keptb HT.out HC.out hgf)
       replace HW := hid (grown_trans HW.out hgf)
       replace NUX := hid (nux_cur HXS.out HW0.out NUX.out hgf (CurAt.nu (show CurAt wf b p c L jj (L[jj]).pos 5 from hcf)))
       replace B10 := hid ((hgf.block _ (lt_of_block B10.out) (by simp; omega)).trans B10.out)
       replace TR := hid (TR.out.keptx hgf (fun g e => by cases e; exact .inl HXB.out))
       replace HC := hid (show CurAt wf b p c L jj (L[jj]).pos 5 from hcf)
       clear HW0
       replace xd := hgf.cell xd (by simp; omega)
       replace u0 := hgf.cell u0 (by simp; omega)
       replace u1 := hgf.cell u1 (by simp; omega)
       replace u2 := hgf.cell u2 (by simp; omega)
       replace u3 := hgf.cell u3 (by simp; omega)
       replace u4 := hgf.cell u4 (by simp; omega)
       replace u5 := hgf.cell u5 (by simp; omega)
       replace u6 := hgf.cell u6 (by simp; omega)
       obtain ⟨⟨z0, z1, z2, z3, z4, z5, z6⟩, y0, y1, y2, y3, y4, y5, y6⟩ := box7 B6.out
       clear hcf hgf
       refine tkH (v := ?_) 6 rfl hHeld ?_ ?_; rotate_left 1
       ·intro w hSw; (try dsimp only at hSw); go_split_ands; go_simp; (try (with_reducible rfl))
       (try simp only [Act.put, pu1, pu2, pu3])
       refine wpAnyH_ready (rs := [7]) (by kernel_rfl) (by simp) ?_
       refine aR1 rfl fun K hK => ?_
       (try rw [if_pos (by kernel_rfl)])
       go_simp
       refine hK.out _ _ ?_ (fun hNew => ?_)
       ·with_reducible exact ks8 (set7_gr _ _ _ _ _ _ _ _ _) (by omega) (by omega) xd u0 u1 u2 u3 u4 u5 u6
       clear hK K hHeld
       have hHeld := hNew
       clear hNew
       (try simp only [Act.put, pu1, pu2, pu3])
       refine tkH (v := ?_) 8 rfl hHeld ?_ ?_; rotate_left 1
       ·intro w hSw; (try dsimp only at hSw); go_split_ands; go_simp; (try (with_reducible rfl))
       (try simp only [Act.put, pu1, pu2, pu3])
       refine wpAnyH_done (by kernel_rfl) ?_ _
       refine NoPanic.normal ?_
       have hb6 := set7_blk B6.out (.int .i64 kk) (.string ⟨#[]⟩) (.bool false) (.slice none 0 0) (.slice none 0 0) (.slice (some ⟨ga, 0, none⟩) np np) (.int .i64 t.pos)
       have gS := set7_gr wf (w.heap.size + 1) (.int .i64 kk) (.string ⟨#[]⟩) (.bool false) (.slice none 0 0) (.slice none 0 0) (.slice (some ⟨ga, 0, none⟩) np np) (.int .i64 t.pos)
       have HC6 := hid (HC.out.keptr gS (by simp; omega) (fun q hq => by have := HPT.out q hq; simp; omega))
       have NU6 := hid (nux_own HXS.out HW.out NUX.out gS (by omega))
       have HG6 := hid (grown_newr HW.out gS (by omega))
       obtain ⟨⟨l0, l1, l2, l3, l4, l5, l6⟩, -⟩ := box7 hb6
       clear gS hb6
       clear u0 u1 u2 u3 u4 u5 u6 v0 v1 v2 v3 v4 v5 v6 z0 z1 z2 z3 z4 z5 z6 y0 y1 y2 y3 y4 y5 y6 hHeld
       clear xd
       generalize ((((((wf.setCell _ _).setCell _ _).setCell _ _).setCell _ _).setCell _ _).setCell _ _).setCell _ _ = w9 at *
       go_wp2_with fail
       exact bodyPost_ret (v := .tuple #[.agg #[.int .i64 kk, .string ⟨#[]⟩, .bool false, .slice none 0 0, .slice none 0 0, .slice (some ⟨ga, 0, none⟩) np np, .int .i64 t.pos], .bool false]) (by simp [results, Tryz.results71, go_sem, l0, l1, l2, l3, l4, l5, l6]) rfl
        ⟨kk, ⟨#[]⟩, false, none, 0, 0, none, 0, 0, (some ⟨ga, 0, none⟩), np, np, t.pos, false, rfl, HG6.out, OkP.no ⟨jj, 5, jj, by rw [HRM.out]; unfold expM; rw [if_neg (fun h => by cases HF9.out.2 h)]; rfl, hjj, by rw [HPS.out]; exact HC6.out⟩⟩
      | true =>
       have HSL := hid (HF9.out.1 rfl)
       have HJN : Hid (jj + 1 < L.length) := hid (HLK.out.next hjj (by rw [HSL.out]; simp [sClose]))
       obtain ⟨⟨u0, u1, u2, u3, u4, u5, u6⟩, -⟩ := box7 (keepB B10.out hgd)
       obtain ⟨⟨v0, v1, v2, v3, v4, v5, v6⟩, -⟩ := box7 B10.out
       have xd := hgd.cell x1 (by simp)
       refine wp_region_noPanic ?_
       refine wp_region_held_drew (S := (fun w' => w'.cell? ⟨w.heap.size, 0, none⟩ = some (.pointer (some ⟨b, 0, none⟩)) ∧ w'.cell? ⟨K10, 0, none⟩ = some (.int .i64 kk) ∧ w'.cell? ⟨K10, 1, none⟩ = some (.string ⟨#[]⟩) ∧ w'.cell? ⟨K10, 2, none⟩ = some (.bool false) ∧ w'.cell? ⟨K10, 3, none⟩ = some (.slice none 0 0) ∧ w'.cell? ⟨K10, 4, none⟩ = some (.slice none 0 0) ∧ w'.cell? ⟨K10, 5, none⟩ = some (.slice (some ⟨ga, 0, none⟩) np np) ∧ w'.cell? ⟨K10, 6, none⟩ = some (.int .i64 t.pos))) (by kernel_rfl) ?_ (fun hHeld => ?_)
       ·((try go_split_ands) <;> (repeat' apply And.intro) <;> (first | (with_reducible assumption) | (with_reducible refine (grown_drew _ none).cell ?_ (by simp); with_reducible assumption) | (with_reducible refine grown_trans ?_ (grown_drew _ none); with_reducible assumption)))
       refine tkH (v := ?_) 0 rfl hHeld ?_ ?_; rotate_left 1
       ·intro w hSw; (try dsimp only at hSw); go_split_ands; go_simp; (try (with_reducible rfl))
       (try simp only [Act.put, pu1, pu2, pu3])
       refine tkH (v := ?_) 1 rfl hHeld ?_ ?_; rotate_left 1
       ·intro w hSw; (try dsimp only at hSw); go_split_ands; go_simp; (try (with_reducible rfl))
       (try simp only [Act.put, pu1, pu2, pu3])
       refine tkH (v := ?_) 2 rfl hHeld ?_ ?_; rotate_left 1
       ·intro w hSw; (try dsimp only at hSw); go_split_ands; go_simp; (try (with_reducible rfl))
       (try simp only [Act.put, pu1, pu2, pu3])
       refine tkH (v := ?_) 3 rfl hHeld ?_ ?_; rotate_left 1
       ·intro w hSw; (try dsimp only at hSw); go_split_ands; go_simp; (try (with_reducible rfl))
       (try simp only [Act.put, pu1, pu2, pu3])
       refine tkH (v := ?_) 4 rfl hHeld ?_ ?_; rotate_left 1
       ·intro w hSw; (try dsimp only at hSw); go_split_ands; go_simp; (try (with_reducible rfl))
       (try simp only [Act.put, pu1, pu2, pu3])
       refine wpAnyH_ready (rs := [5]) (by kernel_rfl) (by simp) ?_
       refine aR1 rfl fun K hK => ?_
       (try rw [if_pos (by kernel_rfl)])
       go_simp
       go_at_call 84
       (with_reducible refine HXP.out.mono ?_)
       rintro e wf ⟨rfl, hcf, hgf⟩
       refine hK.out _ _ ?_ (fun hNew => ?_)
       ·with_reducible exact ks8 hgf (by omega) (by omega) xd u0 u1 u2 u3 u4 u5 u6
       clear hK K hHeld
       have hHeld := hNew
       clear hNew
       (try simp only [Act.put, pu1, pu2, pu3])
       have HW0 := HW
       replace x1 := hgd.cell x1 (by simp)
       replace B6 := hid (keepB B6.out hgd)
       replace HT := hid (HT.out.keep hgd)
       replace HW := hid (grown_trans HW.out (grown_some hgd _))
       replace NUX := hid (nux_keep HXS.out HW0.out NUX.out hgd)
       replace HC := hid (HC.out.keep hgd)
       replace B10 := hid (keepB B10.out hgd)
       replace TR := hid (ARdX.keep hgd TR.out)
       clear HW0
       have HW0 := HW
       replace x1 := hgf.cell x1 (by simp; omega)
       replace B6 := hid ((hgf.block _ (lt_of_block B6.out) (by simp; omega)).trans B6.out)
       replace HT := hid (Tb.keptb HT.out HC.out hgf)
       replace HW := hid (grown_trans HW.out hgf)
       replace NUX := hid (nux_cur HXS.out HW0.out NUX.out hgf (CurAt.nu (show CurAt wf b p c L (jj + 1) at' er from hcf)))
       replace B10 := hid ((hgf.block _ (lt_of_block B10.out) (by simp; omega)).trans B10.out)
       replace TR := hid (TR.out.keptx hgf (fun g e => by cases e; exact .inl HXB.out))
       replace HC := hid (show CurAt wf b p c L (jj + 1) at' er from hcf)
       clear HW0
       replace xd := hgf.cell xd (by simp; omega)
       replace u0 := hgf.cell u0 (by simp; omega)
       replace u1 := hgf.cell u1 (by simp; omega)
       replace u2 := hgf.cell u2 (by simp; omega)
       replace u3 := hgf.cell u3 (by simp; omega)
       replace u4 := hgf.cell u4 (by simp; omega)
       replace u5 := hgf.cell u5 (by simp; omega)
       replace u6 := hgf.cell u6 (by simp; omega)
       obtain ⟨⟨z0, z1, z2, z3, z4, z5, z6⟩, y0, y1, y2, y3, y4, y5, y6⟩ := box7 B6.out
       clear hcf hgf
       refine tkH (v := ?_) 6 rfl hHeld ?_ ?_; rotate_left 1
       ·intro w hSw; (try dsimp only at hSw); go_split_ands; go_simp; (try (with_reducible rfl))
       (try simp only [Act.put, pu1, pu2, pu3])
       refine wpAnyH_ready (rs := [7]) (by kernel_rfl) (by simp) ?_
       refine aR1 rfl fun K hK => ?_
       (try rw [if_pos (by kernel_rfl)])
       go_simp
       refine hK.out _ _ ?_ (fun hNew => ?_)
       ·with_reducible exact ks8 (set7_gr _ _ _ _ _ _ _ _ _) (by omega) (by omega) xd u0 u1 u2 u3 u4 u5 u6
       clear hK K hHeld
       have hHeld := hNew
       clear hNew
       (try simp only [Act.put, pu1, pu2, pu3])
       refine tkH (v := ?_) 8 rfl hHeld ?_ ?_; rotate_left 1
       ·intro w hSw; (try dsimp only at hSw); go_split_ands; go_simp; (try (with_reducible rfl))
       (try simp only [Act.put, pu1, pu2, pu3])
       refine wpAnyH_done (by kernel_rfl) ?_ _
       refine NoPanic.normal ?_
       have hb6 := set7_blk B6.out (.int .i64 kk) (.string ⟨#[]⟩) (.bool false) (.slice none 0 0) (.slice none 0 0) (.slice (some ⟨ga, 0, none⟩) np np) (.int .i64 t.pos)
       have gS := set7_gr wf (w.heap.size + 1) (.int .i64 kk) (.string ⟨#[]⟩) (.bool false) (.slice none 0 0) (.slice none 0 0) (.slice (some ⟨ga, 0, none⟩) np np) (.int .i64 t.pos)
       have HC6 := hid (HC.out.keptr gS (by simp; omega) (fun q hq => by have := HPT.out q hq; simp; omega))
       have NU6 := hid (nux_own HXS.out HW.out NUX.out gS (by omega))
       have HG6 := hid (grown_newr HW.out gS (by omega))
       have TR6 := hid (TR.out.keptx gS (fun g e => by cases e; exact .inr (.inr rfl)))
       obtain ⟨⟨l0, l1, l2, l3, l4, l5, l6⟩, -⟩ := box7 hb6
       clear gS hb6
       clear u0 u1 u2 u3 u4 u5 u6 v0 v1 v2 v3 v4 v5 v6 z0 z1 z2 z3 z4 z5 z6 y0 y1 y2 y3 y4 y5 y6 hHeld
       clear xd
       generalize ((((((wf.setCell _ _).setCell _ _).setCell _ _).setCell _ _).setCell _ _).setCell _ _).setCell _ _ = w9 at *
       go_wp2_with fail
       exact bodyPost_ret (v := .tuple #[.agg #[.int .i64 kk, .string ⟨#[]⟩, .bool false, .slice none 0 0, .slice none 0 0, .slice (some ⟨ga, 0, none⟩) np np, .int .i64 t.pos], .bool true]) (by simp [results, Tryz.results71, go_sem, l0, l1, l2, l3, l4, l5, l6]) rfl
        ⟨kk, ⟨#[]⟩, false, none, 0, 0, none, 0, 0, (some ⟨ga, 0, none⟩), np, np, t.pos, true, rfl, HG6.out, OkP.yes ⟨nd0 kk t.pos tl, jj + 1, by rw [HRM.out]; unfold expM; rw [if_pos HSL.out]; rfl, HJN.out, con_tree0 TR6.out, HC6.out⟩⟩
     | true =>
      have HRM0 : Hid (conM rqV rd L j xs = (ratM rqV L jj).bind fun v j1 => (expM sClose L j1).map fun _ => ndR kk t.pos v tl) := hid (by rw [HRN.out, HAR.out]; show (if hasR kk = true then _ else _) = _; rw [if_pos hhr])
      clear hhr
      go_upto_region 10 with (go_at_call 117; (with_reducible refine (HHR.out _).mono ?_); rintro e we ⟨rfl, hg⟩; have HW0 := HW; replace x1 := hg.cell x1 (by simp); replace B6 := hid (keepB B6.out hg); replace HT := hid (HT.out.keep hg); replace HW := hid (grown_trans HW.out (grown_some hg _)); replace NUX := hid (nux_keep HXS.out HW0.out NUX.out hg); replace HC := hid (HC.out.keep hg); replace B10 := hid (keepB B10.out hg); replace TR := hid (ARdX.keep hg TR.out); clear HW0; clear hg)
      have HRT := hid (pRat_any HLK.out we HT.out b p c at' er jj HC.out hjj)
      go_upto_region 11 with (go_at_call 118; (with_reducible refine HRT.out.mono ?_); rintro e wr ⟨gr, pr, nr, cr, qr, mr, dr, ok3, uu, rfl, hgr, hQ, hO3⟩; have HGR := hid hgr; have HO3 := hid hO3; clear hQ hO3; obtain ⟨⟨u0, u1, u2, u3, u4, u5, u6⟩, p0, p1, p2, p3, p4, p5, p6⟩ := box7 ((hgr.block _ (lt_of_block B10.out) (by simp; omega)).trans B10.out); replace x1 := hgr.cell x1 (by simp; omega); clear hgr)
      have x1r := x1
      clear x1 u0 u1 u2 u3 u4 u5 u6 p0 p1 p2 p3 p4 p5 p6
      cases ok3 with
      | false =>
       obtain ⟨jr, ee, nx, h1, hjr, h3⟩ := HO3.out.bad (by simp)
       have x1 := x1r
       have HRM : Hid (conM rqV rd L j xs = .bad jr ee) := hid (by rw [HRM0.out, h1]; rfl)
       have HW0 := HW
       replace B6 := hid ((HGR.out.block _ (lt_of_block B6.out) (by simp; omega)).trans B6.out)
       replace HT := hid (Tb.keptb HT.out HC.out HGR.out)
       replace HW := hid (grown_trans HW.out HGR.out)
       replace NUX := hid (nux_cur HXS.out HW0.out NUX.out HGR.out (CurAt.nu h3))
       replace B10 := hid ((HGR.out.block _ (lt_of_block B10.out) (by simp; omega)).trans B10.out)
       replace TR := hid (TR.out.keptx HGR.out (fun g e => by cases e; exact .inl HXB.out))
       replace HC := hid h3
       clear HW0
       have hb10 := set3_2 B10.out (.bool gr) (.slice pr nr cr) (.slice qr mr dr)
       have gS := set3_2g wr K10 (.bool gr) (.slice pr nr cr) (.slice qr mr dr)
       have HW0 := HW
       replace x1 := gS.cell x1 (by simp; omega)
       replace B6 := hid ((gS.block _ (lt_of_block B6.out) (by simp; omega)).trans B6.out)
       replace HT := hid (HT.out.kept7 B10.out gS)
       replace HW := hid (grown_newr HW.out gS (by omega))
       replace NUX := hid (nux_own HXS.out HW0.out NUX.out gS (by omega))
       replace HC := hid (HC.out.keptr gS (by simp; omega) (fun q hq => by have := HPT.out q hq; simp; omega))
       replace TR := hid (TR.out.keptx gS (fun g e => by cases e; exact .inr (.inl rfl)))
       replace B10 := hid hb10
       clear HW0
       clear gS hb10 h1 h3 x1r hjj
       generalize ((wr.setCell _ _).setCell _ _).setCell _ _ = wd2 at *
       obtain ⟨jj, hje⟩ : ∃ jj, jj = jr := ⟨_, rfl⟩
       have hjj : jj < L.length := by omega
       rw [← hje] at HRM HC
       clear hje
       have hgd := grown_drew wd2 none
       obtain ⟨⟨u0, u1, u2, u3, u4, u5, u6⟩, -⟩ := box7 (keepB B10.out hgd)
       obtain ⟨⟨v0, v1, v2, v3, v4, v5, v6⟩, -⟩ := box7 B10.out
       obtain ⟨⟨z0, z1, z2, z3, z4, z5, z6⟩, y0, y1, y2, y3, y4, y5, y6⟩ := box7 B6.out
       have xd := hgd.cell x1 (by simp)
       refine wp_region_noPanic ?_
       refine wp_region_held_drew (S := (fun w' => w'.cell? ⟨w.heap.size, 0, none⟩ = some (.pointer (some ⟨b, 0, none⟩)) ∧ w'.cell? ⟨K10, 0, none⟩ = some (.int .i64 kk) ∧ w'.cell? ⟨K10, 1, none⟩ = some (.string ⟨#[]⟩) ∧ w'.cell? ⟨K10, 2, none⟩ = some (.bool gr) ∧ w'.cell? ⟨K10, 3, none⟩ = some (.slice pr nr cr) ∧ w'.cell? ⟨K10, 4, none⟩ = some (.slice qr mr dr) ∧ w'.cell? ⟨K10, 5, none⟩ = some (.slice (some ⟨ga, 0, none⟩) np np) ∧ w'.cell? ⟨K10, 6, none⟩ = some (.int .i64 t.pos))) (by kernel_rfl) ?_ (fun hHeld => ?_)
       ·((try go_split_ands) <;> (repeat' apply And.intro) <;> (first | (with_reducible assumption) | (with_reducible refine (grown_drew _ none).cell ?_ (by simp); with_reducible assumption) | (with_reducible refine grown_trans ?_ (grown_drew _ none); with_reducible assumption)))
       refine tkH (v := ?_) 0 rfl hHeld ?_ ?_; rotate_left 1
       ·intro w hSw; (try dsimp only at hSw); go_split_ands; go_simp; (try (with_reducible rfl))
       (try simp only [Act.put, pu1, pu2, pu3])
       refine tkH (v := ?_) 1 rfl hHeld ?_ ?_; rotate_left 1
       ·intro w hSw; (try dsimp only at hSw); go_split_ands; go_simp; (try (with_reducible rfl))
       (try simp only [Act.put, pu1, pu2, pu3])
       refine tkH (v := ?_) 2 rfl hHeld ?_ ?_; rotate_left 1
       ·intro w hSw; (try dsimp only at hSw); go_split_ands; go_simp; (try (with_reducible rfl))
       (try simp only [Act.put, pu1, pu2, pu3])
       refine wpAnyH_take (i := 3) (oi := Oper.mk _ _ _ _ _ _) (v := undef) rfl (by kernel_rfl) (by kernel_rfl) (by kernel_rfl) (fun _ _ _ h => h) (Or.inr ⟨by kernel_rfl, rfl⟩) hHeld ?_
       (try simp only [Act.put, pu1, pu2, pu3])
       refine wpAnyH_take (i := 4) (oi := Oper.mk _ _ _ _ _ _) (v := undef) rfl (by kernel_rfl) (by kernel_rfl) (by kernel_rfl) (fun _ _ _ h => h) (Or.inr ⟨by kernel_rfl, rfl⟩) hHeld ?_
       (try simp only [Act.put, pu1, pu2, pu3])
       refine wpAnyH_take (i := 5) (oi := Oper.mk _ _ _ _ _ _) (v := undef) rfl (by kernel_rfl) (by kernel_rfl) (by kernel_rfl) (fun _ _ _ h => h) (Or.inr ⟨by kernel_rfl, rfl⟩) hHeld ?_
       (try simp only [Act.put, pu1, pu2, pu3])
       refine tkH (v := ?_) 6 rfl hHeld ?_ ?_; rotate_left 1
       ·intro w hSw; (try dsimp only at hSw); go_split_ands; go_simp; (try (with_reducible rfl))
       (try simp only [Act.put, pu1, pu2, pu3])
       refine wpAnyH_ready (rs := [7]) (by kernel_rfl) (by simp) ?_
       refine aR1 rfl fun K hK => ?_
       (try rw [if_pos (by kernel_rfl)])
       go_simp
       refine hK.out _ _ ?_ (fun hNew => ?_)
       ·with_reducible exact ks8 (grown_trans (set7_gr _ _ _ _ _ _ _ _ _) (grown_drew _ _)) (by omega) (by omega) x1 v0 v1 v2 v3 v4 v5 v6
       clear hK K hHeld
       have hHeld := hNew
       clear hNew
       (try simp only [Act.put, pu1, pu2, pu3])
       refine tkH (v := ?_) 8 rfl hHeld ?_ ?_; rotate_left 1
       ·intro w hSw; (try dsimp only at hSw); go_split_ands; go_simp; (try (with_reducible rfl))
       (try simp only [Act.put, pu1, pu2, pu3])
       refine wpAnyH_done (by kernel_rfl) ?_ _
       refine NoPanic.normal ?_
       have hb6 := set7_blk B6.out (.int .i64 kk) (.string ⟨#[]⟩) (.bool gr) (.slice pr nr cr) (.slice qr mr dr) (.slice (some ⟨ga, 0, none⟩) np np) (.int .i64 t.pos)
       have gS := set7_gr wd2 (w.heap.size + 1) (.int .i64 kk) (.string ⟨#[]⟩) (.bool gr) (.slice pr nr cr) (.slice qr mr dr) (.slice (some ⟨ga, 0, none⟩) np np) (.int .i64 t.pos)
       have HC6 := hid (HC.out.keptr gS (by simp; omega) (fun q hq => by have := HPT.out q hq; simp; omega))
       have NU6 := hid (nux_own HXS.out HW.out NUX.out gS (by omega))
       have HG6 := hid (grown_newr HW.out gS (by omega))
       obtain ⟨⟨l0, l1, l2, l3, l4, l5, l6⟩, -⟩ := box7 hb6
       clear gS hb6
       clear u0 u1 u2 u3 u4 u5 u6 v0 v1 v2 v3 v4 v5 v6 z0 z1 z2 z3 z4 z5 z6 y0 y1 y2 y3 y4 y5 y6 hHeld
       clear hgd xd
       generalize ((((((wd2.setCell _ _).setCell _ _).setCell _ _).setCell _ _).setCell _ _).setCell _ _).setCell _ _ = w9 at *
       go_wp2_with fail
       exact bodyPost_ret (v := .tuple #[.agg #[.int .i64 kk, .string ⟨#[]⟩, .bool gr, .slice pr nr cr, .slice qr mr dr, .slice (some ⟨ga, 0, none⟩) np np, .int .i64 t.pos], .bool false]) (by simp [results, Tryz.results71, go_sem, l0, l1, l2, l3, l4, l5, l6]) rfl
        ⟨kk, ⟨#[]⟩, gr, pr, nr, cr, qr, mr, dr, (some ⟨ga, 0, none⟩), np, np, t.pos, false, rfl, grown_trans HG6.out (grown_drew _ _), OkP.no ⟨jj, ee, nx, HRM.out, hjj, HC6.out.keep (grown_drew _ none)⟩⟩
      | true =>
       obtain ⟨vv, jr, h1, hjr, h3, h4⟩ := HO3.out.get rfl
       have x1 := x1r
       have HRM : Hid (conM rqV rd L j xs = (expM sClose L jr).map fun _ => ndR kk t.pos vv tl) := hid (by rw [HRM0.out, h1]; rfl)
       have HW0 := HW
       replace B6 := hid ((HGR.out.block _ (lt_of_block B6.out) (by simp; omega)).trans B6.out)
       replace HT := hid (Tb.keptb HT.out HC.out HGR.out)
       replace HW := hid (grown_trans HW.out HGR.out)
       replace NUX := hid (nux_cur HXS.out HW0.out NUX.out HGR.out (CurAt.nu h4))
       replace B10 := hid ((HGR.out.block _ (lt_of_block B10.out) (by simp; omega)).trans B10.out)
       replace TR := hid (TR.out.keptx HGR.out (fun g e => by cases e; exact .inl HXB.out))
       replace HC := hid h4
       clear HW0
       have RT := hid h3
       have hb10 := set3_2 B10.out (.bool gr) (.slice pr nr cr) (.slice qr mr dr)
       have gS := set3_2g wr K10 (.bool gr) (.slice pr nr cr) (.slice qr mr dr)
       have HW0 := HW
       replace x1 := gS.cell x1 (by simp; omega)
       replace B6 := hid ((gS.block _ (lt_of_block B6.out) (by simp; omega)).trans B6.out)
       replace HT := hid (HT.out.kept7 B10.out gS)
       replace HW := hid (grown_newr HW.out gS (by omega))
       replace NUX := hid (nux_own HXS.out HW0.out NUX.out gS (by omega))
       replace HC := hid (HC.out.keptr gS (by simp; omega) (fun q hq => by have := HPT.out q hq; simp; omega))
       replace TR := hid (TR.out.keptx gS (fun g e => by cases e; exact .inr (.inl rfl)))
       replace RT := hid (RT.out.keptb (nu7 B10.out) gS)
       replace B10 := hid hb10
       clear HW0
       clear gS hb10 h1 h3 h4 x1r hjj
       generalize ((wr.setCell _ _).setCell _ _).setCell _ _ = wd2 at *
       obtain ⟨jj, hje⟩ : ∃ jj, jj = jr := ⟨_, rfl⟩
       have hjj : jj < L.length := by omega
       rw [← hje] at HRM HC
       clear hje hjr
       obtain ⟨f9, hf9⟩ := tokq L jj hjj ⟨#[41]⟩
       have hgd := grown_drew wd2 none
       have HXP := hid (curExpect_any (HC.out.keep hgd) hjj (by have := HLK.out.len; omega) ⟨#[41]⟩ f9 hf9)
       have HF9 := hid (hf9.trans (show (L[jj]).d = ⟨#[41]⟩ ↔ (tk L jj).d = sClose from by rw [tk_at hjj]; rfl))
       have HPS := hid (congrArg Tok.pos (tk_at hjj))
       clear hf9
       cases f9 with
       | false =>
        obtain ⟨⟨u0, u1, u2, u3, u4, u5, u6⟩, -⟩ := box7 (keepB B10.out hgd)
        obtain ⟨⟨v0, v1, v2, v3, v4, v5, v6⟩, -⟩ := box7 B10.out
        have xd := hgd.cell x1 (by simp)
        refine wp_region_noPanic ?_
        refine wp_region_held_drew (S := (fun w' => w'.cell? ⟨w.heap.size, 0, none⟩ = some (.pointer (some ⟨b, 0, none⟩)) ∧ w'.cell? ⟨K10, 0, none⟩ = some (.int .i64 kk) ∧ w'.cell? ⟨K10, 1, none⟩ = some (.string ⟨#[]⟩) ∧ w'.cell? ⟨K10, 2, none⟩ = some (.bool gr) ∧ w'.cell? ⟨K10, 3, none⟩ = some (.slice pr nr cr) ∧ w'.cell? ⟨K10, 4, none⟩ = some (.slice qr mr dr) ∧ w'.cell? ⟨K10, 5, none⟩ = some (.slice (some ⟨ga, 0, none⟩) np np) ∧ w'.cell? ⟨K10, 6, none⟩ = some (.int .i64 t.pos))) (by kernel_rfl) ?_ (fun hHeld => ?_)
        ·((try go_split_ands) <;> (repeat' apply And.intro) <;> (first | (with_reducible assumption) | (with_reducible refine (grown_drew _ none).cell ?_ (by simp); with_reducible assumption) | (with_reducible refine grown_trans ?_ (grown_drew _ none); with_reducible assumption)))
        refine tkH (v := ?_) 0 rfl hHeld ?_ ?_; rotate_left 1
        ·intro w hSw; (try dsimp only at hSw); go_split_ands; go_simp; (try (with_reducible rfl))
        (try simp only [Act.put, pu1, pu2, pu3])
        refine tkH (v := ?_) 1 rfl hHeld ?_ ?_; rotate_left 1
        ·intro w hSw; (try dsimp only at hSw); go_split_ands; go_simp; (try (with_reducible rfl))
        (try simp only [Act.put, pu1, pu2, pu3])
        refine tkH (v := ?_) 2 rfl hHeld ?_ ?_; rotate_left 1
        ·intro w hSw; (try dsimp only at hSw); go_split_ands; go_simp; (try (with_reducible rfl))
        (try simp only [Act.put, pu1, pu2, pu3])
        refine tkH (v := ?_) 3 rfl hHeld ?_ ?_; rotate_left 1
        ·intro w hSw; (try dsimp only at hSw); go_split_ands; go_simp; (try (with_reducible rfl))
        (try simp only [Act.put, pu1, pu2, pu3])
        refine tkH (v := ?_) 4 rfl hHeld ?_ ?_; rotate_left 1
        ·intro w hSw; (try dsimp only at hSw); go_split_ands; go_simp; (try (with_reducible rfl))
        (try simp only [Act.put, pu1, pu2, pu3])
        refine wpAnyH_ready (rs := [5]) (by kernel_rfl) (by simp) ?_
        refine aR1 rfl fun K hK => ?_
        (try rw [if_pos (by kernel_rfl)])
        go_simp
        go_at_call 84
        (with_reducible refine HXP.out.mono ?_)
        rintro e wf ⟨rfl, hcf, hgf⟩
        refine hK.out _ _ ?_ (fun hNew => ?_)
        ·with_reducible exact ks8 hgf (by omega) (by omega) xd u0 u1 u2 u3 u4 u5 u6
        clear hK K hHeld
        have hHeld := hNew
        clear hNew
        (try simp only [Act.put, pu1, pu2, pu3])
        have HW0 := HW
        replace x1 := hgd.cell x1 (by simp)
        replace B6 := hid (keepB B6.out hgd)
        replace HT := hid (HT.out.keep hgd)
        replace HW := hid (grown_trans HW.out (grown_some hgd _))
        replace NUX := hid (nux_keep HXS.out HW0.out NUX.out hgd)
        replace HC := hid (HC.out.keep hgd)
        replace B10 := hid (keepB B10.out hgd)
        replace TR := hid (ARdX.keep hgd TR.out)
        replace RT := hid (RT.out.keep hgd)
        clear HW0
        have HW0 := HW
        replace x1 := hgf.cell x1 (by simp; omega)
        replace B6 := hid ((hgf.block _ (lt_of_block B6.out) (by simp; omega)).trans B6.out)
        replace HT := hid (Tb.keptb HT.out HC.out hgf)
        replace HW := hid (grown_trans HW.out hgf)
        replace NUX := hid (nux_cur HXS.out HW0.out NUX.out hgf (CurAt.nu (show CurAt wf b p c L jj (L[jj]).pos 5 from hcf)))
        replace B10 := hid ((hgf.block _ (lt_of_block B10.out) (by simp; omega)).trans B10.out)
        replace TR := hid (TR.out.keptx hgf (fun g e => by cases e; exact .inl HXB.out))
        replace RT := hid (RT.out.keptb HC.out.nu hgf)
        replace HC := hid (show CurAt wf b p c L jj (L[jj]).pos 5 from hcf)
        clear HW0
        replace xd := hgf.cell xd (by simp; omega)
        replace u0 := hgf.cell u0 (by simp; omega)
        replace u1 := hgf.cell u1 (by simp; omega)
        replace u2 := hgf.cell u2 (by simp; omega)
        replace u3 := hgf.cell u3 (by simp; omega)
        replace u4 := hgf.cell u4 (by simp; omega)
        replace u5 := hgf.cell u5 (by simp; omega)
        replace u6 := hgf.cell u6 (by simp; omega)
        obtain ⟨⟨z0, z1, z2, z3, z4, z5, z6⟩, y0, y1, y2, y3, y4, y5, y6⟩ := box7 B6.out
        clear hcf hgf
        refine tkH (v := ?_) 6 rfl hHeld ?_ ?_; rotate_left 1
        ·intro w hSw; (try dsimp only at hSw); go_split_ands; go_simp; (try (with_reducible rfl))
        (try simp only [Act.put, pu1, pu2, pu3])
        refine wpAnyH_ready (rs := [7]) (by kernel_rfl) (by simp) ?_
        refine aR1 rfl fun K hK => ?_
        (try rw [if_pos (by kernel_rfl)])
        go_simp
        refine hK.out _ _ ?_ (fun hNew => ?_)
        ·with_reducible exact ks8 (set7_gr _ _ _ _ _ _ _ _ _) (by omega) (by omega) xd u0 u1 u2 u3 u4 u5 u6
        clear hK K hHeld
        have hHeld := hNew
        clear hNew
        (try simp only [Act.put, pu1, pu2, pu3])
        refine tkH (v := ?_) 8 rfl hHeld ?_ ?_; rotate_left 1
        ·intro w hSw; (try dsimp only at hSw); go_split_ands; go_simp; (try (with_reducible rfl))
        (try simp only [Act.put, pu1, pu2, pu3])
        refine wpAnyH_done (by kernel_rfl) ?_ _
        refine NoPanic.normal ?_
        have hb6 := set7_blk B6.out (.int .i64 kk) (.string ⟨#[]⟩) (.bool gr) (.slice pr nr cr) (.slice qr mr dr) (.slice (some ⟨ga, 0, none⟩) np np) (.int .i64 t.pos)
        have gS := set7_gr wf (w.heap.size + 1) (.int .i64 kk) (.string ⟨#[]⟩) (.bool gr) (.slice pr nr cr) (.slice qr mr dr) (.slice (some ⟨ga, 0, none⟩) np np) (.int .i64 t.pos)
        have HC6 := hid (HC.out.keptr gS (by simp; omega) (fun q hq => by have := HPT.out q hq; simp; omega))
        have NU6 := hid (nux_own HXS.out HW.out NUX.out gS (by omega))
        have HG6 := hid (grown_newr HW.out gS (by omega))
        obtain ⟨⟨l0, l1, l2, l3, l4, l5, l6⟩, -⟩ := box7 hb6
        clear gS hb6
        clear u0 u1 u2 u3 u4 u5 u6 v0 v1 v2 v3 v4 v5 v6 z0 z1 z2 z3 z4 z5 z6 y0 y1 y2 y3 y4 y5 y6 hHeld
        clear xd
        generalize ((((((wf.setCell _ _).setCell _ _).setCell _ _).setCell _ _).setCell _ _).setCell _ _).setCell _ _ = w9 at *
        go_wp2_with fail
        exact bodyPost_ret (v := .tuple #[.agg #[.int .i64 kk, .string ⟨#[]⟩, .bool gr, .slice pr nr cr, .slice qr mr dr, .slice (some ⟨ga, 0, none⟩) np np, .int .i64 t.pos], .bool false]) (by simp [results, Tryz.results71, go_sem, l0, l1, l2, l3, l4, l5, l6]) rfl
         ⟨kk, ⟨#[]⟩, gr, pr, nr, cr, qr, mr, dr, (some ⟨ga, 0, none⟩), np, np, t.pos, false, rfl, HG6.out, OkP.no ⟨jj, 5, jj, by rw [HRM.out]; unfold expM; rw [if_neg (fun h => by cases HF9.out.2 h)]; rfl, hjj, by rw [HPS.out]; exact HC6.out⟩⟩
       | true =>
        have HSL := hid (HF9.out.1 rfl)
        have HJN : Hid (jj + 1 < L.length) := hid (HLK.out.next hjj (by rw [HSL.out]; simp [sClose]))
        obtain ⟨⟨u0, u1, u2, u3, u4, u5, u6⟩, -⟩ := box7 (keepB B10.out hgd)
        obtain ⟨⟨v0, v1, v2, v3, v4, v5, v6⟩, -⟩ := box7 B10.out
        have xd := hgd.cell x1 (by simp)
        refine wp_region_noPanic ?_
        refine wp_region_held_drew (S := (fun w' => w'.cell? ⟨w.heap.size, 0, none⟩ = some (.pointer (some ⟨b, 0, none⟩)) ∧ w'.cell? ⟨K10, 0, none⟩ = some (.int .i64 kk) ∧ w'.cell? ⟨K10, 1, none⟩ = some (.string ⟨#[]⟩) ∧ w'.cell? ⟨K10, 2, none⟩ = some (.bool gr) ∧ w'.cell? ⟨K10, 3, none⟩ = some (.slice pr nr cr) ∧ w'.cell? ⟨K10, 4, none⟩ = some (.slice qr mr dr) ∧ w'.cell? ⟨K10, 5, none⟩ = some (.slice (some ⟨ga, 0, none⟩) np np) ∧ w'.cell? ⟨K10, 6, none⟩ = some (.int .i64 t.pos))) (by kernel_rfl) ?_ (fun hHeld => ?_)
        ·((try go_split_ands) <;> (repeat' apply And.intro) <;> (first | (with_reducible assumption) | (with_reducible refine (grown_drew _ none).cell ?_ (by simp); with_reducible assumption) | (with_reducible refine grown_trans ?_ (grown_drew _ none); with_reducible assumption)))
        refine tkH (v := ?_) 0 rfl hHeld ?_ ?_; rotate_left 1
        ·intro w hSw; (try dsimp only at hSw); go_split_ands; go_simp; (try (with_reducible rfl))
        (try simp only [Act.put, pu1, pu2, pu3])
        refine tkH (v := ?_) 1 rfl hHeld ?_ ?_; rotate_left 1
        ·intro w hSw; (try dsimp only at hSw); go_split_ands; go_simp; (try (with_reducible rfl))
        (try simp only [Act.put, pu1, pu2, pu3])
        refine tkH (v := ?_) 2 rfl hHeld ?_ ?_; rotate_left 1
        ·intro w hSw; (try dsimp only at hSw); go_split_ands; go_simp; (try (with_reducible rfl))
        (try simp only [Act.put, pu1, pu2, pu3])
        refine tkH (v := ?_) 3 rfl hHeld ?_ ?_; rotate_left 1
        ·intro w hSw; (try dsimp only at hSw); go_split_ands; go_simp; (try (with_reducible rfl))
        (try simp only [Act.put, pu1, pu2, pu3])
        refine tkH (v := ?_) 4 rfl hHeld ?_ ?_; rotate_left 1
        ·intro w hSw; (try dsimp only at hSw); go_split_ands; go_simp; (try (with_reducible rfl))
        (try simp only [Act.put, pu1, pu2, pu3])
        refine wpAnyH_ready (rs := [5]) (by kernel_rfl) (by simp) ?_
        refine aR1 rfl fun K hK => ?_
        (try rw [if_pos (by kernel_rfl)])
        go_simp
        go_at_call 84
        (with_reducible refine HXP.out.mono ?_)
        rintro e wf ⟨rfl, hcf, hgf⟩
        refine hK.out _ _ ?_ (fun hNew => ?_)
        ·with_reducible exact ks8 hgf (by omega) (by omega) xd u0 u1 u2 u3 u4 u5 u6
        clear hK K hHeld
        have hHeld := hNew
        clear hNew
        (try simp only [Act.put, pu1, pu2, pu3])
        have HW0 := HW
        replace x1 := hgd.cell x1 (by simp)
        replace B6 := hid (keepB B6.out hgd)
        replace HT := hid (HT.out.keep hgd)
        replace HW := hid (grown_trans HW.out (grown_some hgd _))
        replace NUX := hid (nux_keep HXS.out HW0.out NUX.out hgd)
        replace HC := hid (HC.out.keep hgd)
        replace B10 := hid (keepB B10.out hgd)
        replace TR := hid (ARdX.keep hgd TR.out)
        replace RT := hid (RT.out.keep hgd)
        clear HW0
        have HW0 := HW
        replace x1 := hgf.cell x1 (by simp; omega)
        replace B6 := hid ((hgf.block _ (lt_of_block B6.out) (by simp; omega)).trans B6.out)
        replace HT := hid (Tb.keptb HT.out HC.out hgf)
        replace HW := hid (grown_trans HW.out hgf)
        replace NUX := hid (nux_cur HXS.out HW0.out NUX.out hgf (CurAt.nu (show CurAt wf b p c L (jj + 1) at' er from hcf)))
        replace B10 := hid ((hgf.block _ (lt_of_block B10.out) (by simp; omega)).trans B10.out)
        replace TR := hid (TR.out.keptx hgf (fun g e => by cases e; exact .inl HXB.out))
        replace RT := hid (RT.out.keptb HC.out.nu hgf)
        replace HC := hid (show CurAt wf b p c L (jj + 1) at' er from hcf)
        clear HW0
        replace xd := hgf.cell xd (by simp; omega)
        replace u0 := hgf.cell u0 (by simp; omega)
        replace u1 := hgf.cell u1 (by simp; omega)
        replace u2 := hgf.cell u2 (by simp; omega)
        replace u3 := hgf.cell u3 (by simp; omega)
        replace u4 := hgf.cell u4 (by simp; omega)
        replace u5 := hgf.cell u5 (by simp; omega)
        replace u6 := hgf.cell u6 (by simp; omega)
        obtain ⟨⟨z0, z1, z2, z3, z4, z5, z6⟩, y0, y1, y2, y3, y4, y5, y6⟩ := box7 B6.out
        clear hcf hgf
        refine tkH (v := ?_) 6 rfl hHeld ?_ ?_; rotate_left 1
        ·intro w hSw; (try dsimp only at hSw); go_split_ands; go_simp; (try (with_reducible rfl))
        (try simp only [Act.put, pu1, pu2, pu3])
        refine wpAnyH_ready (rs := [7]) (by kernel_rfl) (by simp) ?_
        refine aR1 rfl fun K hK => ?_
        (try rw [if_pos (by kernel_rfl)])
        go_simp
        refine hK.out _ _ ?_ (fun hNew => ?_)
        ·with_reducible exact ks8 (set7_gr _ _ _ _ _ _ _ _ _) (by omega) (by omega) xd u0 u1 u2 u3 u4 u5 u6
        clear hK K hHeld
        have hHeld := hNew
        clear hNew
        (try simp only [Act.put, pu1, pu2, pu3])
        refine tkH (v := ?_) 8 rfl hHeld ?_ ?_; rotate_left 1
        ·intro w hSw; (try dsimp only at hSw); go_split_ands; go_simp; (try (with_reducible rfl))
        (try simp only [Act.put, pu1, pu2, pu3])
        refine wpAnyH_done (by kernel_rfl) ?_ _
        refine NoPanic.normal ?_
        have hb6 := set7_blk B6.out (.int .i64 kk) (.string ⟨#[]⟩) (.bool gr) (.slice pr nr cr) (.slice qr mr dr) (.slice (some ⟨ga, 0, none⟩) np np) (.int .i64 t.pos)
        have gS := set7_gr wf (w.heap.size + 1) (.int .i64 kk) (.string ⟨#[]⟩) (.bool gr) (.slice pr nr cr) (.slice qr mr dr) (.slice (some ⟨ga, 0, none⟩) np np) (.int .i64 t.pos)
        have HC6 := hid (HC.out.keptr gS (by simp; omega) (fun q hq => by have := HPT.out q hq; simp; omega))
        have NU6 := hid (nux_own HXS.out HW.out NUX.out gS (by omega))
        have HG6 := hid (grown_newr HW.out gS (by omega))
        have TR6 := hid (TR.out.keptx gS (fun g e => by cases e; exact .inr (.inr rfl)))
        have RT6 := hid (RT.out.keptb (nu7 B6.out) gS)
        obtain ⟨⟨l0, l1, l2, l3, l4, l5, l6⟩, -⟩ := box7 hb6
        clear gS hb6
        clear u0 u1 u2 u3 u4 u5 u6 v0 v1 v2 v3 v4 v5 v6 z0 z1 z2 z3 z4 z5 z6 y0 y1 y2 y3 y4 y5 y6 hHeld
        clear xd
        generalize ((((((wf.setCell _ _).setCell _ _).setCell _ _).setCell _ _).setCell _ _).setCell _ _).setCell _ _ = w9 at *
        go_wp2_with fail
        exact bodyPost_ret (v := .tuple #[.agg #[.int .i64 kk, .string ⟨#[]⟩, .bool gr, .slice pr nr cr, .slice qr mr dr, .slice (some ⟨ga, 0, none⟩) np np, .int .i64 t.pos], .bool true]) (by simp [results, Tryz.results71, go_sem, l0, l1, l2, l3, l4, l5, l6]) rfl
         ⟨kk, ⟨#[]⟩, gr, pr, nr, cr, qr, mr, dr, (some ⟨ga, 0, none⟩), np, np, t.pos, true, rfl, HG6.out, OkP.yes ⟨ndR kk t.pos vv tl, jj + 1, by rw [HRM.out]; unfold expM; rw [if_pos HSL.out]; rfl, HJN.out, con_treeR NU6.out TR6.out RT6.out, HC6.out⟩⟩
  refine aR1 rfl fun K hK => ?_
  (try rw [if_pos (by kernel_rfl)])
  go_simp
  have gA : w4.drew.grownBy (w4.alloc (.cells #[.int .i64 0, .string ⟨#[]⟩, .bool false, .slice none 0 0, .slice none 0 0, .slice none 0 0, .int .i64 0] 38 (0, 0))).drew none := World.grownBy_alloc w4.drew (.cells #[.int .i64 0, .string ⟨#[]⟩, .bool false, .slice none 0 0, .slice none 0 0, .slice none 0 0, .int .i64 0] 38 (0, 0)) none
  refine hK.out _ _ ?_ (fun hNew => ?_)
  ·exact ⟨gA.cell x1 (by simp), gA.cell t1 (by simp)⟩
  clear hK K hHeld
  have hHeld := hNew
  clear hNew
  (try simp only [Act.put, pu1, pu2, pu3])
  have b10 : (w4.alloc (.cells #[.int .i64 0, .string ⟨#[]⟩, .bool false, .slice none 0 0, .slice none 0 0, .slice none 0 0, .int .i64 0] 38 (0, 0))).drew.heap[w4.heap.size]? = some (.cells #[.int .i64 0, .string ⟨#[]⟩, .bool false, .slice none 0 0, .slice none 0 0, .slice none 0 0, .int .i64 0] 38 (0, 0)) := blk0 w4.drew (.cells #[.int .i64 0, .string ⟨#[]⟩, .bool false, .slice none 0 0, .slice none 0 0, .slice none 0 0, .int .i64 0] 38 (0, 0))
  have B10 := hid b10
  have hK10 : w.heap.size + 1 < w4.heap.size := lt_of_block B6.out
  have hKTl : KT < w4.heap.size := World.block_lt_of_cell? w4.drew _ t1
  have HW0 := HW
  replace x1 := gA.cell x1 (by simp)
  replace B6 := hid (keepB B6.out gA)
  replace HT := hid (HT.out.keep gA)
  replace HW := hid (grown_trans HW.out (grown_some gA _))
  replace NUX := hid (nux_keep HXS.out HW0.out NUX.out gA)
  replace HC := hid (HC.out.keep gA)
  replace t1 := gA.cell t1 (by simp)
  clear HW0
  clear gA b10 hgd
  generalize w4.heap.size = K10 at *
  generalize (w4.alloc _).drew = wg at *
  refine wpAnyH_ready (rs := [6]) (by kernel_rfl) (by simp) ?_
  refine aR1 rfl fun K hK => ?_
  (try rw [if_pos (by kernel_rfl)])
  go_simp
  go_at_call 84
  (with_reducible refine (HEX.out _ HC.out).mono ?_)
  rintro e wf ⟨rfl, hcf, hgf⟩
  refine hK.out _ _ ?_ (fun hNew => ?_)
  ·exact ⟨hgf.cell x1 (by simp; omega), hgf.cell t1 (by simp; omega)⟩
  clear hK K hHeld
  have hHeld := hNew
  clear hNew
  (try simp only [Act.put, pu1, pu2, pu3])
  have HW0 := HW
  replace x1 := hgf.cell x1 (by simp; omega)
  replace B6 := hid ((hgf.block _ (lt_of_block B6.out) (by simp; omega)).trans B6.out)
  replace HT := hid (Tb.keptb HT.out HC.out hgf)
  replace HW := hid (grown_trans HW.out hgf)
  replace NUX := hid (nux_cur HXS.out HW0.out NUX.out hgf (CurAt.nu (show CurAt wf b p c L (if f = true then j + 1 + 1 else j + 1) (if f = true then at' else (L[j + 1]).pos) (if f = true then er else 5) from hcf)))
  replace B10 := hid ((hgf.block _ (lt_of_block B10.out) (by simp; omega)).trans B10.out)
  replace HC := hid (show CurAt wf b p c L (if f = true then j + 1 + 1 else j + 1) (if f = true then at' else (L[j + 1]).pos) (if f = true then er else 5) from hcf)
  replace t1 := hgf.cell t1 (by simp; omega)
  clear HW0
  clear hcf hgf
  have BZ := B10
  clear B10
  obtain ⟨⟨z0, z1, z2, z3, z4, z5, z6⟩, y0, y1, y2, y3, y4, y5, y6⟩ := box7 BZ.out
  refine wpAnyH_ready (rs := [8]) (by kernel_rfl) (by simp) ?_
  refine aR1 rfl fun K hK => ?_
  (try rw [if_pos (by kernel_rfl)])
  go_simp
  refine hK.out _ _ ?_ (fun hNew => ?_)
  ·exact ⟨(set7_gr _ _ _ _ _ _ _ _ _).cell x1 (by simp; omega), (set7_gr _ _ _ _ _ _ _ _ _).cell t1 (by simp; omega)⟩
  clear hK K hHeld
  have hHeld := hNew
  clear hNew
  (try simp only [Act.put, pu1, pu2, pu3])
  refine tkH (v := ?_) 9 rfl hHeld ?_ ?_; rotate_left 1
  ·intro w hSw; (try dsimp only at hSw); go_split_ands; go_simp; (try (with_reducible rfl))
  (try simp only [Act.put, pu1, pu2, pu3])
  refine wpAnyH_done (by kernel_rfl) ?_ _
  refine NoPanic.normal ?_
  have hb10 := set7_blk BZ.out (.int .i64 kk) (.string ⟨#[]⟩) (.bool false) (.slice none 0 0) (.slice none 0 0) (.slice none 0 0) (.int .i64 t.pos)
  have gS := set7_gr wf K10 (.int .i64 kk) (.string ⟨#[]⟩) (.bool false) (.slice none 0 0) (.slice none 0 0) (.slice none 0 0) (.int .i64 t.pos)
  have B10 := BZ
  have HW0 := HW
  replace x1 := gS.cell x1 (by simp; omega)
  replace B6 := hid ((gS.block _ (lt_of_block B6.out) (by simp; omega)).trans B6.out)
  replace HT := hid (HT.out.kept7 B10.out gS)
  replace HW := hid (grown_newr HW.out gS (by omega))
  replace NUX := hid (nux_own HXS.out HW0.out NUX.out gS (by omega))
  replace HC := hid (HC.out.keptr gS (by simp; omega) (fun q hq => by have := HPT.out q hq; simp; omega))
  replace B10 := hid hb10
  clear HW0
  clear gS hb10 z0 z1 z2 z3 z4 z5 z6 y0 y1 y2 y3 y4 y5 y6 BZ hHeld
  generalize ((((((wf.setCell _ _).setCell _ _).setCell _ _).setCell _ _).setCell _ _).setCell _ _).setCell _ _ = wc at *
  cases f with
  | false =>
   have HRM : Hid (conM rqV rd L j xs = .bad (j + 1) 5) := hid (by rw [HCM.out]; unfold expM; rw [if_neg (fun h => by cases HF.out.2 h)]; rfl)
   obtain ⟨jj, hjje⟩ : ∃ jj, jj = j + 1 := ⟨_, rfl⟩
   have hjj : jj < L.length := by omega
   obtain ⟨ee, hee⟩ : ∃ ee : Int, ee = 5 := ⟨_, rfl⟩
   obtain ⟨nx, hnx⟩ : ∃ nx, nx = j + 1 := ⟨_, rfl⟩
   replace HC : Hid (CurAt wc b p c L nx (tk L jj).pos ee) := hid (by rw [hjje, tk_at hj1, hee, hnx]; exact HC.out)
   rw [← hjje, ← hee] at HRM
   clear hjje hee hnx
   go_upto_region 11 with fail
   have hgd := grown_drew wc none
   obtain ⟨⟨u0, u1, u2, u3, u4, u5, u6⟩, -⟩ := box7 (keepB B10.out hgd)
   obtain ⟨⟨v0, v1, v2, v3, v4, v5, v6⟩, -⟩ := box7 B10.out
   obtain ⟨⟨z0, z1, z2, z3, z4, z5, z6⟩, y0, y1, y2, y3, y4, y5, y6⟩ := box7 B6.out
   have xd := hgd.cell x1 (by simp)
   refine wp_region_noPanic ?_
   refine wp_region_held_drew (S := (fun w' => w'.cell? ⟨w.heap.size, 0, none⟩ = some (.pointer (some ⟨b, 0, none⟩)) ∧ w'.cell? ⟨K10, 0, none⟩ = some (.int .i64 kk) ∧ w'.cell? ⟨K10, 1, none⟩ = some (.string ⟨#[]⟩) ∧ w'.cell? ⟨K10, 2, none⟩ = some (.bool false) ∧ w'.cell? ⟨K10, 3, none⟩ = some (.slice none 0 0) ∧ w'.cell? ⟨K10, 4, none⟩ = some (.slice none 0 0) ∧ w'.cell? ⟨K10, 5, none⟩ = some (.slice none 0 0) ∧ w'.cell? ⟨K10, 6, none⟩ = some (.int .i64 t.pos))) (by kernel_rfl) ?_ (fun hHeld => ?_)
   ·((try go_split_ands) <;> (repeat' apply And.intro) <;> (first | (with_reducible assumption) | (with_reducible refine (grown_drew _ none).cell ?_ (by simp); with_reducible assumption) | (with_reducible refine grown_trans ?_ (grown_drew _ none); with_reducible assumption)))
   refine tkH (v := ?_) 0 rfl hHeld ?_ ?_; rotate_left 1
   ·intro w hSw; (try dsimp only at hSw); go_split_ands; go_simp; (try (with_reducible rfl))
   (try simp only [Act.put, pu1, pu2, pu3])
   refine tkH (v := ?_) 1 rfl hHeld ?_ ?_; rotate_left 1
   ·intro w hSw; (try dsimp only at hSw); go_split_ands; go_simp; (try (with_reducible rfl))
   (try simp only [Act.put, pu1, pu2, pu3])
   refine tkH (v := ?_) 2 rfl hHeld ?_ ?_; rotate_left 1
   ·intro w hSw; (try dsimp only at hSw); go_split_ands; go_simp; (try (with_reducible rfl))
   (try simp only [Act.put, pu1, pu2, pu3])
   refine wpAnyH_take (i := 3) (oi := Oper.mk _ _ _ _ _ _) (v := undef) rfl (by kernel_rfl) (by kernel_rfl) (by kernel_rfl) (fun _ _ _ h => h) (Or.inr ⟨by kernel_rfl, rfl⟩) hHeld ?_
   (try simp only [Act.put, pu1, pu2, pu3])
   refine wpAnyH_take (i := 4) (oi := Oper.mk _ _ _ _ _ _) (v := undef) rfl (by kernel_rfl) (by kernel_rfl) (by kernel_rfl) (fun _ _ _ h => h) (Or.inr ⟨by kernel_rfl, rfl⟩) hHeld ?_
   (try simp only [Act.put, pu1, pu2, pu3])
   refine wpAnyH_take (i := 5) (oi := Oper.mk _ _ _ _ _ _) (v := undef) rfl (by kernel_rfl) (by kernel_rfl) (by kernel_rfl) (fun _ _ _ h => h) (Or.inr ⟨by kernel_rfl, rfl⟩) hHeld ?_
   (try simp only [Act.put, pu1, pu2, pu3])
   refine tkH (v := ?_) 6 rfl hHeld ?_ ?_; rotate_left 1
   ·intro w hSw; (try dsimp only at hSw); go_split_ands; go_simp; (try (with_reducible rfl))
   (try simp only [Act.put, pu1, pu2, pu3])
   refine wpAnyH_ready (rs := [7]) (by kernel_rfl) (by simp) ?_
   refine aR1 rfl fun K hK => ?_
   (try rw [if_pos (by kernel_rfl)])
   go_simp
   refine hK.out _ _ ?_ (fun hNew => ?_)
   ·with_reducible exact ks8 (grown_trans (set7_gr _ _ _ _ _ _ _ _ _) (grown_drew _ _)) (by omega) (by omega) x1 v0 v1 v2 v3 v4 v5 v6
   clear hK K hHeld
   have hHeld := hNew
   clear hNew
   (try simp only [Act.put, pu1, pu2, pu3])
   refine tkH (v := ?_) 8 rfl hHeld ?_ ?_; rotate_left 1
   ·intro w hSw; (try dsimp only at hSw); go_split_ands; go_simp; (try (with_reducible rfl))
   (try simp only [Act.put, pu1, pu2, pu3])
   refine wpAnyH_done (by kernel_rfl) ?_ _
   refine NoPanic.normal ?_
   have hb6 := set7_blk B6.out (.int .i64 kk) (.string ⟨#[]⟩) (.bool false) (.slice none 0 0) (.slice none 0 0) (.slice none 0 0) (.int .i64 t.pos)
   have gS := set7_gr wc (w.heap.size + 1) (.int .i64 kk) (.string ⟨#[]⟩) (.bool false) (.slice none 0 0) (.slice none 0 0) (.slice none 0 0) (.int .i64 t.pos)
   have HC6 := hid (HC.out.keptr gS (by simp; omega) (fun q hq => by have := HPT.out q hq; simp; omega))
   have NU6 := hid (nux_own HXS.out HW.out NUX.out gS (by omega))
   have HG6 := hid (grown_newr HW.out gS (by omega))
   obtain ⟨⟨l0, l1, l2, l3, l4, l5, l6⟩, -⟩ := box7 hb6
   clear gS hb6
   clear u0 u1 u2 u3 u4 u5 u6 v0 v1 v2 v3 v4 v5 v6 z0 z1 z2 z3 z4 z5 z6 y0 y1 y2 y3 y4 y5 y6 hHeld
   clear hgd xd
   generalize ((((((wc.setCell _ _).setCell _ _).setCell _ _).setCell _ _).setCell _ _).setCell _ _).setCell _ _ = w9 at *
   go_wp2_with fail
   exact bodyPost_ret (v := .tuple #[.agg #[.int .i64 kk, .string ⟨#[]⟩, .bool false, .slice none 0 0, .slice none 0 0, .slice none 0 0, .int .i64 t.pos], .bool false]) (by simp [results, Tryz.results71, go_sem, l0, l1, l2, l3, l4, l5, l6]) rfl
    ⟨kk, ⟨#[]⟩, false, none, 0, 0, none, 0, 0, none, 0, 0, t.pos, false, rfl, grown_trans HG6.out (grown_drew _ _), OkP.no ⟨jj, ee, nx, HRM.out, hjj, HC6.out.keep (grown_drew _ none)⟩⟩
  | true =>
   have HJ2 : Hid (j + 1 + 1 < L.length) := hid (HLK.out.next hj1 (by rw [HF.out.1 rfl]; simp [sOpen]))
   have HRN : Hid (conM rqV rd L j xs = (argsL rd L (Ax.prm kk) (j + 1 + 1)).bind fun l j => if hasR kk = true then (ratM rqV L j).bind fun v j1 => (expM sClose L j1).map fun _ => ndR kk t.pos v l else (expM sClose L j).map fun _ => nd0 kk t.pos l) := hid (by rw [HCM.out]; unfold expM; rw [if_pos (HF.out.1 rfl)]; rfl)
   have HPM := hid fun W => params_any (kk : Int) W
   obtain ⟨⟨u0, u1, u2, u3, u4, u5, u6⟩, p0, p1, p2, p3, p4, p5, p6⟩ := box7 B10.out
   have hgq := grown_refl wc none
   have HAG := hid fun W (hg : wc.grownBy W none) pp np cp (hi : IRd W .i64 pp np cp (Ax.prm kk)) (hf : ∀ a, pp = some a → wc.heap.size ≤ a.block ∧ a.block < W.heap.size) => arguments_any (rd := rd) (dep := dep + 1) (L := L) (m := m) HLK.out HA.out W (fun k => X k ∨ k = K10 ∨ k = w.heap.size + 1) b p c at' er (j + 1 + 1) (Ax.prm kk) pp np cp (fun k hk => by have h1 := hg.size; have h2 := lt_of_block B10.out; have h3 := lt_of_block B6.out; rcases hk with h | h | h; have := HXS.out k h; have h5 := HW.out.size; omega; omega; omega) (.inl HXB.out) (HT.out.keep hg) (fun k hk => by rcases hk with h | rfl | rfl; exact (NUX.out k h).kept (by have := HXS.out k h; have h5 := HW.out.size; omega) hg (by simp); exact nu7 (keepB B10.out hg); exact nu7 (keepB B6.out hg)) (HC.out.keep hg) HJ2.out hi (fun a ha => by have := (hf a ha).1; have := HC.out.lt; omega) (fun a ha => (hf a ha).2) (fun q hq => by have := HPT.out q hq; have := HW.out.size; have := hg.size; omega) (by have := prm_len8 kk; omega)
   have HPN := hid (kO_prm (xs := xs) (t := t) (by rw [HKO.out]; exact hk0))
   rw [HKO.out] at HPN
   have hwr : IntKind.i64.wrap (dep + 1) = dep + 1 := wrapI64p (by omega) (by omega)
   rw [← hwr] at HAG
   clear hwr
   go_upto_region 8 with fail
   have hgd := grown_drew wc none
   refine wp_region_noPanic ?_
   refine wp_region_held_drew (S := (fun w' => w'.cell? ⟨w.heap.size, 0, none⟩ = some (.pointer (some ⟨b, 0, none⟩)))) (by kernel_rfl) ?_ (fun hHeld => ?_)
   ·((try go_split_ands) <;> (repeat' apply And.intro) <;> (first | (with_reducible assumption) | (with_reducible refine (grown_drew _ none).cell ?_ (by simp); with_reducible assumption) | (with_reducible refine grown_trans ?_ (grown_drew _ none); with_reducible assumption)))
   have HW0 := HW
   replace x1 := hgd.cell x1 (by simp)
   replace B6 := hid (keepB B6.out hgd)
   replace HT := hid (HT.out.keep hgd)
   replace HW := hid (grown_trans HW.out (grown_some hgd _))
   replace NUX := hid (nux_keep HXS.out HW0.out NUX.out hgd)
   replace HC := hid (HC.out.keep hgd)
   replace B10 := hid (keepB B10.out hgd)
   clear HW0
   refine tkH (v := ?_) 0 rfl hHeld ?_ ?_; rotate_left 1
   ·intro w hSw; (try dsimp only at hSw); go_split_ands; go_simp; (try (with_reducible rfl))
   (try simp only [Act.put, pu1, pu2, pu3])
   refine tkH (v := ?_) 1 rfl hHeld ?_ ?_; rotate_left 1
   ·intro w hSw; (try dsimp only at hSw); go_split_ands; go_simp; (try (with_reducible rfl))
   (try simp only [Act.put, pu1, pu2, pu3])
   refine tkH (v := ?_) 2 rfl hHeld ?_ ?_; rotate_left 1
   ·intro w hSw; (try dsimp only at hSw); go_split_ands; go_simp; (try (with_reducible rfl))
   (try simp only [Act.put, pu1, pu2, pu3])
   refine tkH (v := ?_) 3 rfl hHeld ?_ ?_; rotate_left 1
   ·intro w hSw; (try dsimp only at hSw); go_split_ands; go_simp; (try (with_reducible rfl))
   (try simp only [Act.put, pu1, pu2, pu3])
   refine wpAnyH_ready (rs := [4]) (by kernel_rfl) (by simp) ?_
   refine aR1 rfl fun K hK => ?_
   (try rw [if_pos (by kernel_rfl)])
   go_simp
   go_at_call 80
   (with_reducible refine (HPM.out _).mono ?_)
   rintro e wp ⟨pp, np, cp, rfl, hfr, hip, hgp⟩
   refine hK.out _ _ ?_ (fun hNew => ?_)
   ·exact hgp.cell x1 (by simp)
   clear hK K hHeld
   have hHeld := hNew
   clear hNew
   (try simp only [Act.put, pu1, pu2, pu3])
   have hfr2 : Frs wc pp := hfr
   have HW0 := HW
   replace x1 := hgp.cell x1 (by simp)
   replace B6 := hid (keepB B6.out hgp)
   replace HT := hid (HT.out.keep hgp)
   replace HW := hid (grown_trans HW.out (grown_some hgp _))
   replace NUX := hid (nux_keep HXS.out HW0.out NUX.out hgp)
   replace HC := hid (HC.out.keep hgp)
   replace B10 := hid (keepB B10.out hgp)
   clear HW0
   refine wpAnyH_ready (rs := [5]) (by kernel_rfl) (by simp) ?_
   refine aR1 rfl fun K hK => ?_
   (try rw [if_pos (by kernel_rfl)])
   go_simp
   go_at_call 116
   (with_reducible refine (HAG.out wp (grown_trans hgd hgp) pp np cp hip (frs_lt hfr2 hip HPN.out)).mono ?_)
   rintro e wa ⟨ga, oka, rfl, hga, hgf, hO⟩
   refine hK.out _ _ ?_ (fun hNew => ?_)
   ·exact hgf.cell x1 (by simp; omega)
   clear hK K hHeld
   have hHeld := hNew
   clear hNew
   (try simp only [Act.put, pu1, pu2, pu3])
   cases oka with
   | false =>
    obtain ⟨jj, ee, nx, h1, hjj, h3⟩ := hO.bad (by simp)
    have HRM : Hid (conM rqV rd L j xs = .bad jj ee) := hid (by rw [HRN.out, h1]; rfl)
    have HW0 := HW
    replace x1 := hgf.cell x1 (by simp; omega)
    replace B6 := hid ((hgf.block _ (lt_of_block B6.out) (by simp; omega)).trans B6.out)
    replace HT := hid (Tb.keptb HT.out HC.out hgf)
    replace HW := hid (grown_trans HW.out hgf)
    replace NUX := hid (nux_cur HXS.out HW0.out NUX.out hgf (CurAt.nu h3))
    replace B10 := hid ((hgf.block _ (lt_of_block B10.out) (by simp; omega)).trans B10.out)
    replace HC := hid h3
    clear HW0
    clear u0 u1 u2 u3 u4 u5 u6 p0 p1 p2 p3 p4 p5 p6
    obtain ⟨⟨u0, u1, u2, u3, u4, u5, u6⟩, p0, p1, p2, p3, p4, p5, p6⟩ := box7 B10.out
    clear h1 h3 hO hgf hgp hip hfr
    refine tkH (v := ?_) 6 rfl hHeld ?_ ?_; rotate_left 1
    ·intro w hSw; (try dsimp only at hSw); go_split_ands; go_simp; (try (with_reducible rfl))
    (try simp only [Act.put, pu1, pu2, pu3])
    refine tkH (v := ?_) 7 rfl hHeld ?_ ?_; rotate_left 1
    ·intro w hSw; (try dsimp only at hSw); go_split_ands; go_simp; (try (with_reducible rfl))
    (try simp only [Act.put, pu1, pu2, pu3])
    refine tkH (v := ?_) 8 rfl hHeld ?_ ?_; rotate_left 1
    ·intro w hSw; (try dsimp only at hSw); go_split_ands; go_simp; (try (with_reducible rfl))
    (try simp only [Act.put, pu1, pu2, pu3])
    refine tkH (v := ?_) 9 rfl hHeld ?_ ?_; rotate_left 1
    ·intro w hSw; (try dsimp only at hSw); go_split_ands; go_simp; (try (with_reducible rfl))
    (try simp only [Act.put, pu1, pu2, pu3])
    refine wpAnyH_ready (rs := [10]) (by kernel_rfl) (by simp) ?_
    refine aR1 rfl fun K hK => ?_
    (try rw [if_pos (by kernel_rfl)])
    go_simp
    refine hK.out _ _ ?_ (fun hNew => ?_)
    ·exact (grown_setCell _ _ _).cell x1 (by simp; omega)
    clear hK K hHeld
    have hHeld := hNew
    clear hNew
    (try simp only [Act.put, pu1, pu2, pu3])
    refine tkH (v := ?_) 11 rfl hHeld ?_ ?_; rotate_left 1
    ·intro w hSw; (try dsimp only at hSw); go_split_ands; go_simp; (try (with_reducible rfl))
    (try simp only [Act.put, pu1, pu2, pu3])
    refine wpAnyH_done (by kernel_rfl) ?_ _
    refine NoPanic.normal ?_
    have hb10 := set1_5 B10.out (.slice (some ⟨ga, 0, none⟩) np np)
    have gS : wa.grownBy (wa.setCell ⟨K10, 5, none⟩ (.slice (some ⟨ga, 0, none⟩) np np)) (some K10) := grown_setCell wa ⟨K10, 5, none⟩ _
    have HW0 := HW
    replace x1 := gS.cell x1 (by simp; omega)
    replace B6 := hid ((gS.block _ (lt_of_block B6.out) (by simp; omega)).trans B6.out)
    replace HT := hid (HT.out.kept7 B10.out gS)
    replace HW := hid (grown_newr HW.out gS (by omega))
    replace NUX := hid (nux_own HXS.out HW0.out NUX.out gS (by omega))
    replace HC := hid (HC.out.keptr gS (by simp; omega) (fun q hq => by have := HPT.out q hq; simp; omega))
    replace B10 := hid hb10
    clear HW0
    clear gS hb10 hHeld p0 p1 p2 p3 p4 p5 p6 u0 u1 u2 u3 u4 u5 u6
    generalize wa.setCell _ _ = wd at *
    go_upto_region 11 with fail
    have hgd := grown_drew wd none
    obtain ⟨⟨u0, u1, u2, u3, u4, u5, u6⟩, -⟩ := box7 (keepB B10.out hgd)
    obtain ⟨⟨v0, v1, v2, v3, v4, v5, v6⟩, -⟩ := box7 B10.out
    obtain ⟨⟨z0, z1, z2, z3, z4, z5, z6⟩, y0, y1, y2, y3, y4, y5, y6⟩ := box7 B6.out
    have xd := hgd.cell x1 (by simp)
    refine wp_region_noPanic ?_
    refine wp_region_held_drew (S := (fun w' => w'.cell? ⟨w.heap.size, 0, none⟩ = some (.pointer (some ⟨b, 0, none⟩)) ∧ w'.cell? ⟨K10, 0, none⟩ = some (.int .i64 kk) ∧ w'.cell? ⟨K10, 1, none⟩ = some (.string ⟨#[]⟩) ∧ w'.cell? ⟨K10, 2, none⟩ = some (.bool false) ∧ w'.cell? ⟨K10, 3, none⟩ = some (.slice none 0 0) ∧ w'.cell? ⟨K10, 4, none⟩ = some (.slice none 0 0) ∧ w'.cell? ⟨K10, 5, none⟩ = some (.slice (some ⟨ga, 0, none⟩) np np) ∧ w'.cell? ⟨K10, 6, none⟩ = some (.int .i64 t.pos))) (by kernel_rfl) ?_ (fun hHeld => ?_)
    ·((try go_split_ands) <;> (repeat' apply And.intro) <;> (first | (with_reducible assumption) | (with_reducible refine (grown_drew _ none).cell ?_ (by simp); with_reducible assumption) | (with_reducible refine grown_trans ?_ (grown_drew _ none); with_reducible assumption)))
    refine tkH (v := ?_) 0 rfl hHeld ?_ ?_; rotate_left 1
    ·intro w hSw; (try dsimp only at hSw); go_split_ands; go_simp; (try (with_reducible rfl))
    (try simp only [Act.put, pu1, pu2, pu3])
    refine tkH (v := ?_) 1 rfl hHeld ?_ ?_; rotate_left 1
    ·intro w hSw; (try dsimp only at hSw); go_split_ands; go_simp; (try (with_reducible rfl))
    (try simp only [Act.put, pu1, pu2, pu3])
    refine tkH (v := ?_) 2 rfl hHeld ?_ ?_; rotate_left 1
    ·intro w hSw; (try dsimp only at hSw); go_split_ands; go_simp; (try (with_reducible rfl))
    (try simp only [Act.put, pu1, pu2, pu3])
    refine wpAnyH_take (i := 3) (oi := Oper.mk _ _ _ _ _ _) (v := undef) rfl (by kernel_rfl) (by kernel_rfl) (by kernel_rfl) (fun _ _ _ h => h) (Or.inr ⟨by kernel_rfl, rfl⟩) hHeld ?_
    (try simp only [Act.put, pu1, pu2, pu3])
    refine wpAnyH_take (i := 4) (oi := Oper.mk _ _ _ _ _ _) (v := undef) rfl (by kernel_rfl) (by kernel_rfl) (by kernel_rfl) (fun _ _ _ h => h) (Or.inr ⟨by kernel_rfl, rfl⟩) hHeld ?_
    (try simp only [Act.put, pu1, pu2, pu3])
    refine wpAnyH_take (i := 5) (oi := Oper.mk _ _ _ _ _ _) (v := undef) rfl (by kernel_rfl) (by kernel_rfl) (by kernel_rfl) (fun _ _ _ h => h) (Or.inr ⟨by kernel_rfl, rfl⟩) hHeld ?_
    (try simp only [Act.put, pu1, pu2, pu3])
    refine tkH (v := ?_) 6 rfl hHeld ?_ ?_; rotate_left 1
    ·intro w hSw; (try dsimp only at hSw); go_split_ands; go_simp; (try (with_reducible rfl))
    (try simp only [Act.put, pu1, pu2, pu3])
    refine wpAnyH_ready (rs := [7]) (by kernel_rfl) (by simp) ?_
    refine aR1 rfl fun K hK => ?_
    (try rw [if_pos (by kernel_rfl)])
    go_simp
    refine hK.out _ _ ?_ (fun hNew => ?_)
    ·with_reducible exact ks8 (grown_trans (set7_gr _ _ _ _ _ _ _ _ _) (grown_drew _ _)) (by omega) (by omega) x1 v0 v1 v2 v3 v4 v5 v6
    clear hK K hHeld
    have hHeld := hNew
    clear hNew
    (try simp only [Act.put, pu1, pu2, pu3])
    refine tkH (v := ?_) 8 rfl hHeld ?_ ?_; rotate_left 1
    ·intro w hSw; (try dsimp only at hSw); go_split_ands; go_simp; (try (with_reducible rfl))
    (try simp only [Act.put, pu1, pu2, pu3])
    refine wpAnyH_done (by kernel_rfl) ?_ _
    refine NoPanic.normal ?_
    have hb6 := set7_blk B6.out (.int .i64 kk) (.string ⟨#[]⟩) (.bool false) (.slice none 0 0) (.slice none 0 0) (.slice (some ⟨ga, 0, none⟩) np np) (.int .i64 t.pos)
    have gS := set7_gr wd (w.heap.size + 1) (.int .i64 kk) (.string ⟨#[]⟩) (.bool false) (.slice none 0 0) (.slice none 0 0) (.slice (some ⟨ga, 0, none⟩) np np) (.int .i64 t.pos)
    have HC6 := hid (HC.out.keptr gS (by simp; omega) (fun q hq => by have := HPT.out q hq; simp; omega))
    have NU6 := hid (nux_own HXS.out HW.out NUX.out gS (by omega))
    have HG6 := hid (grown_newr HW.out gS (by omega))
    obtain ⟨⟨l0, l1, l2, l3, l4, l5, l6⟩, -⟩ := box7 hb6
    clear gS hb6
    clear u0 u1 u2 u3 u4 u5 u6 v0 v1 v2 v3 v4 v5 v6 z0 z1 z2 z3 z4 z5 z6 y0 y1 y2 y3 y4 y5 y6 hHeld
    clear hgd xd
    generalize ((((((wd.setCell _ _).setCell _ _).setCell _ _).setCell _ _).setCell _ _).setCell _ _).setCell _ _ = w9 at *
    go_wp2_with fail
    exact bodyPost_ret (v := .tuple #[.agg #[.int .i64 kk, .string ⟨#[]⟩, .bool false, .slice none 0 0, .slice none 0 0, .slice (some ⟨ga, 0, none⟩) np np, .int .i64 t.pos], .bool false]) (by simp [results, Tryz.results71, go_sem, l0, l1, l2, l3, l4, l5, l6]) rfl
     ⟨kk, ⟨#[]⟩, false, none, 0, 0, none, 0, 0, (some ⟨ga, 0, none⟩), np, np, t.pos, false, rfl, grown_trans HG6.out (grown_drew _ _), OkP.no ⟨jj, ee, nx, HRM.out, hjj, HC6.out.keep (grown_drew _ none)⟩⟩
   | true =>
    obtain ⟨tl, jj, h1, hjj, h3, h4⟩ := hO.get rfl
    have HAR := hid h1
    have HW0 := HW
    replace x1 := hgf.cell x1 (by simp; omega)
    replace B6 := hid ((hgf.block _ (lt_of_block B6.out) (by simp; omega)).trans B6.out)
    replace HT := hid (Tb.keptb HT.out HC.out hgf)
    replace HW := hid (grown_trans HW.out hgf)
    replace NUX := hid (nux_cur HXS.out HW0.out NUX.out hgf (CurAt.nu h4))
    replace B10 := hid ((hgf.block _ (lt_of_block B10.out) (by simp; omega)).trans B10.out)
    replace HC := hid h4
    clear HW0
    have TR := hid h3
    clear u0 u1 u2 u3 u4 u5 u6 p0 p1 p2 p3 p4 p5 p6
    obtain ⟨⟨u0, u1, u2, u3, u4, u5, u6⟩, p0, p1, p2, p3, p4, p5, p6⟩ := box7 B10.out
    clear h1 h3 h4 hO hgf hgp hip hfr
    refine tkH (v := ?_) 6 rfl hHeld ?_ ?_; rotate_left 1
    ·intro w hSw; (try dsimp only at hSw); go_split_ands; go_simp; (try (with_reducible rfl))
    (try simp only [Act.put, pu1, pu2, pu3])
    refine tkH (v := ?_) 7 rfl hHeld ?_ ?_; rotate_left 1
    ·intro w hSw; (try dsimp only at hSw); go_split_ands; go_simp; (try (with_reducible rfl))
    (try simp only [Act.put, pu1, pu2, pu3])
    refine tkH (v := ?_) 8 rfl hHeld ?_ ?_; rotate_left 1
    ·intro w hSw; (try dsimp only at hSw); go_split_ands; go_simp; (try (with_reducible rfl))
    (try simp only [Act.put, pu1, pu2, pu3])
    refine tkH (v := ?_) 9 rfl hHeld ?_ ?_; rotate_left 1
    ·intro w hSw; (try dsimp only at hSw); go_split_ands; go_simp; (try (with_reducible rfl))
    (try simp only [Act.put, pu1, pu2, pu3])
    refine wpAnyH_ready (rs := [10]) (by kernel_rfl) (by simp) ?_
    refine aR1 rfl fun K hK => ?_
    (try rw [if_pos (by kernel_rfl)])
    go_simp
    refine hK.out _ _ ?_ (fun hNew => ?_)
    ·exact (grown_setCell _ _ _).cell x1 (by simp; omega)
    clear hK K hHeld
    have hHeld := hNew
    clear hNew
    (try simp only [Act.put, pu1, pu2, pu3])
    refine tkH (v := ?_) 11 rfl hHeld ?_ ?_; rotate_left 1
    ·intro w hSw; (try dsimp only at hSw); go_split_ands; go_simp; (try (with_reducible rfl))
    (try simp only [Act.put, pu1, pu2, pu3])
    refine wpAnyH_done (by kernel_rfl) ?_ _
    refine NoPanic.normal ?_
    have hb10 := set1_5 B10.out (.slice (some ⟨ga, 0, none⟩) np np)
    have gS : wa.grownBy (wa.setCell ⟨K10, 5, none⟩ (.slice (some ⟨ga, 0, none⟩) np np)) (some K10) := grown_setCell wa ⟨K10, 5, none⟩ _
    have HW0 := HW
    replace x1 := gS.cell x1 (by simp; omega)
    replace B6 := hid ((gS.block _ (lt_of_block B6.out) (by simp; omega)).trans B6.out)
    replace HT := hid (HT.out.kept7 B10.out gS)
    replace HW := hid (grown_newr HW.out gS (by omega))
    replace NUX := hid (nux_own HXS.out HW0.out NUX.out gS (by omega))
    replace HC := hid (HC.out.keptr gS (by simp; omega) (fun q hq => by have := HPT.out q hq; simp; omega))
    replace TR := hid (TR.out.keptx gS (fun g e => by cases e; exact .inr (.inl rfl)))
    replace B10 := hid hb10
    clear HW0
    clear gS hb10 hHeld p0 p1 p2 p3 p4 p5 p6 u0 u1 u2 u3 u4 u5 u6
    generalize wa.setCell _ _ = wd at *
    have HHR := hid fun W => pHasRatio_any kk W (hasR kk) (by unfold hasR; simp)
    obtain ⟨hr, hhr⟩ : ∃ hr, hasR kk = hr := ⟨_, rfl⟩
    rw [hhr] at HHR
    cases hr with
    | false =>
     have HRM : Hid (conM rqV rd L j xs = (expM sClose L jj).map fun _ => nd0 kk t.pos tl) := hid (by rw [HRN.out, HAR.out]; show (if hasR kk = true then _ else _) = _; rw [if_neg (by rw [hhr]; simp)])
     clear hhr
     go_upto_region 11 with (go_at_call 117; (with_reducible refine (HHR.out _).mono ?_); rintro e we ⟨rfl, hg⟩; have HW0 := HW; replace x1 := hg.cell x1 (by simp); replace B6 := hid (keepB B6.out hg); replace HT := hid (HT.out.keep hg); replace HW := hid (grown_trans HW.out (grown_some hg _)); replace NUX := hid (nux_keep HXS.out HW0.out NUX.out hg); replace HC := hid (HC.out.keep hg); replace B10 := hid (keepB B10.out hg); replace TR := hid (ARdX.keep hg TR.out); clear HW0; clear hg)
     obtain ⟨f9, hf9⟩ := tokq L jj hjj ⟨#[41]⟩
     have hgd := grown_drew we none
     have HXP := hid (curExpect_any (HC.out.keep hgd) hjj (by have := HLK.out.len; omega) ⟨#[41]⟩ f9 hf9)
     have HF9 := hid (hf9.trans (show (L[jj]).d = ⟨#[41]⟩ ↔ (tk L jj).d = sClose from by rw [tk_at hjj]; rfl))
     have HPS := hid (congrArg Tok.pos (tk_at hjj))
     clear hf9
     cases f9 with
     | false =>
      obtain ⟨⟨u0, u1, u2, u3, u4, u5, u6⟩, -⟩ := box7 (keepB B10.out hgd)
      obtain ⟨⟨v0, v1, v2, v3, v4, v5, v6⟩, -⟩ := box7 B10.out
      have xd := hgd.cell x1 (by simp)
      refine wp_region_noPanic ?_
      refine wp_region_held_drew (S := (fun w' => w'.cell? ⟨w.heap.size, 0, none⟩ = some (.pointer (some ⟨b, 0, none⟩)) ∧ w'.cell? ⟨K10, 0, none⟩ = some (.int .i64 kk) ∧ w'.cell? ⟨K10, 1, none⟩ = some (.string ⟨#[]⟩) ∧ w'.cell? ⟨K10, 2, none⟩ = some (.bool false) ∧ w'.cell? ⟨K10, 3, none⟩ = some (.slice none 0 0) ∧ w'.cell? ⟨K10, 4, none⟩ = some (.slice none 0 0) ∧ w'.cell? ⟨K10, 5, none⟩ = some (.slice (some ⟨ga, 0, none⟩) np np) ∧ w'.cell? ⟨K10, 6, none⟩ = some (.int .i64 t.pos))) (by kernel_rfl) ?_ (fun hHeld => ?_)
      ·((try go_split_ands) <;> (repeat' apply And.intro) <;> (first | (with_reducible assumption) | (with_reducible refine (grown_drew _ none).cell ?_ (by simp); with_reducible assumption) | (with_reducible refine grown_trans ?_ (grown_drew _ none); with_reducible assumption)))
      refine tkH (v := ?_) 0 rfl hHeld ?_ ?_; rotate_left 1
      ·intro w hSw; (try dsimp only at hSw); go_split_ands; go_simp; (try (with_reducible rfl))
      (try simp only [Act.put, pu1, pu2, pu3])
      refine tkH (v := ?_) 1 rfl hHeld ?_ ?_; rotate_left 1
      ·intro w hSw; (try dsimp only at hSw); go_split_ands; go_simp; (try (with_reducible rfl))
      (try simp only [Act.put, pu1, pu2, pu3])
      refine tkH (v := ?_) 2 rfl hHeld ?_ ?_; rotate_left 1
      ·intro w hSw; (try dsimp only at hSw); go_split_ands; go_simp; (try (with_reducible rfl))
      (try simp only [Act.put, pu1, pu2, pu3])
      refine tkH (v := ?_) 3 rfl hHeld ?_ ?_; rotate_left 1
      ·intro w hSw; (try dsimp only at hSw); go_split_ands; go_simp; (try (with_reducible rfl))
      (try simp only [Act.put, pu1, pu2, pu3])
      refine tkH (v := ?_) 4 rfl hHeld ?_ ?_; rotate_left 1
      ·intro w hSw; (try dsimp only at hSw); go_split_ands; go_simp; (try (with_reducible rfl))
      (try simp only [Act.put, pu1, pu2, pu3])
      refine wpAnyH_ready (rs := [5]) (by kernel_rfl) (by simp) ?_
      refine aR1 rfl fun K hK => ?_
      (try rw [if_pos (by kernel_rfl)])
      go_simp
      go_at_call 84
      (with_reducible refine HXP.out.mono ?_)
      rintro e wf ⟨rfl, hcf, hgf⟩
      refine hK.out _ _ ?_ (fun hNew => ?_)
      ·with_reducible exact ks8 hgf (by omega) (by omega) xd u0 u1 u2 u3 u4 u5 u6
      clear hK K hHeld
      have hHeld := hNew
      clear hNew
      (try simp only [Act.put, pu1, pu2, pu3])
      have HW0 := HW
      replace x1 := hgd.cell x1 (by simp)
      replace B6 := hid (keepB B6.out hgd)
      replace HT := hid (HT.out.keep hgd)
      replace HW := hid (grown_trans HW.out (grown_some hgd _))
      replace NUX := hid (nux_keep HXS.out HW0.out NUX.out hgd)
      replace HC := hid (HC.out.keep hgd)
      replace B10 := hid (keepB B10.out hgd)
      replace TR := hid (ARdX.keep hgd TR.out)
      clear HW0
      have HW0 := HW
      replace x1 := hgf.cell x1 (by simp; omega)
      replace B6 := hid ((hgf.block _ (lt_of_block B6.out) (by simp; omega)).trans B6.out)
      replace HT := hid (Tb.keptb HT.out HC.out hgf)
      replace HW := hid (grown_trans HW.out hgf)
      replace NUX := hid (nux_cur HXS.out HW0.out NUX.out hgf (CurAt.nu (show CurAt wf b p c L jj (L[jj]).pos 5 from hcf)))
      replace B10 := hid ((hgf.block _ (lt_of_block B10.out) (by simp; omega)).trans B10.out)
      replace TR := hid (TR.out.keptx hgf (fun g e => by cases e; exact .inl HXB.out))
      replace HC := hid (show CurAt wf b p c L jj (L[jj]).pos 5 from hcf)
      clear HW0
      replace xd := hgf.cell xd (by simp; omega)
      replace u0 := hgf.cell u0 (by simp; omega)
      replace u1 := hgf.cell u1 (by simp; omega)
      replace u2 := hgf.cell u2 (by simp; omega)
      replace u3 := hgf.cell u3 (by simp; omega)
      replace u4 := hgf.cell u4 (by simp; omega)
      replace u5 := hgf.cell u5 (by simp; omega)
      replace u6 := hgf.cell u6 (by simp; omega)
      obtain ⟨⟨z0, z1, z2, z3, z4, z5, z6⟩, y0, y1, y2, y3, y4, y5, y6⟩ := box7 B6.out
      clear hcf hgf
      refine tkH (v := ?_) 6 rfl hHeld ?_ ?_; rotate_left 1
      ·intro w hSw; (try dsimp only at hSw); go_split_ands; go_simp; (try (with_reducible rfl))
      (try simp only [Act.put, pu1, pu2, pu3])
      refine wpAnyH_ready (rs := [7]) (by kernel_rfl) (by simp) ?_
      refine aR1 rfl fun K hK => ?_
      (try rw [if_pos (by kernel_rfl)])
      go_simp
      refine hK.out _ _ ?_ (fun hNew => ?_)
      ·with_reducible exact ks8 (set7_gr _ _ _ _ _ _ _ _ _) (by omega) (by omega) xd u0 u1 u2 u3 u4 u5 u6
      clear hK K hHeld
      have hHeld := hNew
      clear hNew
      (try simp only [Act.put, pu1, pu2, pu3])
      refine tkH (v := ?_) 8 rfl hHeld ?_ ?_; rotate_left 1
      ·intro w hSw; (try dsimp only at hSw); go_split_ands; go_simp; (try (with_reducible rfl))
      (try simp only [Act.put, pu1, pu2, pu3])
      refine wpAnyH_done (by kernel_rfl) ?_ _
      refine NoPanic.normal ?_
      have hb6 := set7_blk B6.out (.int .i64 kk) (.string ⟨#[]⟩) (.bool false) (.slice none 0 0) (.slice none 0 0) (.slice (some ⟨ga, 0, none⟩) np np) (.int .i64 t.pos)
      have gS := set7_gr wf (w.heap.size + 1) (.int .i64 kk) (.string ⟨#[]⟩) (.bool false) (.slice none 0 0) (.slice none 0 0) (.slice (some ⟨ga, 0, none⟩) np np) (.int .i64 t.pos)
      have HC6 := hid (HC.out.keptr gS (by simp; omega) (fun q hq => by have := HPT.out q hq; simp; omega))
      have NU6 := hid (nux_own HXS.out HW.out NUX.out gS (by omega))
      have HG6 := hid (grown_newr HW.out gS (by omega))
      obtain ⟨⟨l0, l1, l2, l3, l4, l5, l6⟩, -⟩ := box7 hb6
      clear gS hb6
      clear u0 u1 u2 u3 u4 u5 u6 v0 v1 v2 v3 v4 v5 v6 z0 z1 z2 z3 z4 z5 z6 y0 y1 y2 y3 y4 y5 y6 hHeld
      clear xd
      generalize ((((((wf.setCell _ _).setCell _ _).setCell _ _).setCell _ _).setCell _ _).setCell _ _).setCell _ _ = w9 at *
      go_wp2_with fail
      exact bodyPost_ret (v := .tuple #[.agg #[.int .i64 kk, .string ⟨#[]⟩, .bool false, .slice none 0 0, .slice none 0 0, .slice (some ⟨ga, 0, none⟩) np np, .int .i64 t.pos], .bool false]) (by simp [results, Tryz.results71, go_sem, l0, l1, l2, l3, l4, l5, l6]) rfl
       ⟨kk, ⟨#[]⟩, false, none, 0, 0, none, 0, 0, (some ⟨ga, 0, none⟩), np, np, t.pos, false, rfl, HG6.out, OkP.no ⟨jj, 5, jj, by rw [HRM.out]; unfold expM; rw [if_neg (fun h => by cases HF9.out.2 h)]; rfl, hjj, by rw [HPS.out]; exact HC6.out⟩⟩
     | true =>
      have HSL := hid (HF9.out.1 rfl)
      have HJN : Hid (jj + 1 < L.length) := hid (HLK.out.next hjj (by rw [HSL.out]; simp [sClose]))
      obtain ⟨⟨u0, u1, u2, u3, u4, u5, u6⟩, -⟩ := box7 (keepB B10.out hgd)
      obtain ⟨⟨v0, v1, v2, v3, v4, v5, v6⟩, -⟩ := box7 B10.out
      have xd := hgd.cell x1 (by simp)
      refine wp_region_noPanic ?_
      refine wp_region_held_drew (S := (fun w' => w'.cell? ⟨w.heap.size, 0, none⟩ = some (.pointer (some ⟨b, 0, none⟩)) ∧ w'.cell? ⟨K10, 0, none⟩ = some (.int .i64 kk) ∧ w'.cell? ⟨K10, 1, none⟩ = some (.string ⟨#[]⟩) ∧ w'.cell? ⟨K10, 2, none⟩ = some (.bool false) ∧ w'.cell? ⟨K10, 3, none⟩ = some (.slice none 0 0) ∧ w'.cell? ⟨K10, 4, none⟩ = some (.slice none 0 0) ∧ w'.cell? ⟨K10, 5, none⟩ = some (.slice (some ⟨ga, 0, none⟩) np np) ∧ w'.cell? ⟨K10, 6, none⟩ = some (.int .i64 t.pos))) (by kernel_rfl) ?_ (fun hHeld => ?_)
      ·((try go_split_ands) <;> (repeat' apply And.intro) <;> (first | (with_reducible assumption) | (with_reducible refine (grown_drew _ none).cell ?_ (by simp); with_reducible assumption) | (with_reducible refine grown_trans ?_ (grown_drew _ none); with_reducible assumption)))
      refine tkH (v := ?_) 0 rfl hHeld ?_ ?_; rotate_left 1
      ·intro w hSw; (try dsimp only at hSw); go_split_ands; go_simp; (try (with_reducible rfl))
      (try simp only [Act.put, pu1, pu2, pu3])
      refine tkH (v := ?_) 1 rfl hHeld ?_ ?_; rotate_left 1
      ·intro w hSw; (try dsimp only at hSw); go_split_ands; go_simp; (try (with_reducible rfl))
      (try simp only [Act.put, pu1, pu2, pu3])
      refine tkH (v := ?_) 2 rfl hHeld ?_ ?_; rotate_left 1
      ·intro w hSw; (try dsimp only at hSw); go_split_ands; go_simp; (try (with_reducible rfl))
      (try simp only [Act.put, pu1, pu2, pu3])
      refine tkH (v := ?_) 3 rfl hHeld ?_ ?_; rotate_left 1
      ·intro w hSw; (try dsimp only at hSw); go_split_ands; go_simp; (try (with_reducible rfl))
      (try simp only [Act.put, pu1, pu2, pu3])
      refine tkH (v := ?_) 4 rfl hHeld ?_ ?_; rotate_left 1
      ·intro w hSw; (try dsimp only at hSw); go_split_ands; go_simp; (try (with_reducible rfl))
      (try simp only [Act.put, pu1, pu2, pu3])
      refine wpAnyH_ready (rs := [5]) (by kernel_rfl) (by simp) ?_
      refine aR1 rfl fun K hK => ?_
      (try rw [if_pos (by kernel_rfl)])
      go_simp
      go_at_call 84
      (with_reducible refine HXP.out.mono ?_)
      rintro e wf ⟨rfl, hcf, hgf⟩
      refine hK.out _ _ ?_ (fun hNew => ?_)
      ·with_reducible exact ks8 hgf (by omega) (by omega) xd u0 u1 u2 u3 u4 u5 u6
      clear hK K hHeld
      have hHeld := hNew
      clear hNew
      (try simp only [Act.put, pu1, pu2, pu3])
      have HW0 := HW
      replace x1 := hgd.cell x1 (by simp)
      replace B6 := hid (keepB B6.out hgd)
      replace HT := hid (HT.out.keep hgd)
      replace HW := hid (grown_trans HW.out (grown_some hgd _))
      replace NUX := hid (nux_keep HXS.out HW0.out NUX.out hgd)
      replace HC := hid (HC.out.keep hgd)
      replace B10 := hid (keepB B10.out hgd)
      replace TR := hid (ARdX.keep hgd TR.out)
      clear HW0
      have HW0 := HW
      replace x1 := hgf.cell x1 (by simp; omega)
      replace B6 := hid ((hgf.block _ (lt_of_block B6.out) (by simp; omega)).trans B6.out)
      replace HT := hid (Tb.keptb HT.out HC.out hgf)
      replace HW := hid (grown_trans HW.out hgf)
      replace NUX := hid (nux_cur HXS.out HW0.out NUX.out hgf (CurAt.nu (show CurAt wf b p c L (jj + 1) at' er from hcf)))
      replace B10 := hid ((hgf.block _ (lt_of_block B10.out) (by simp; omega)).trans B10.out)
      replace TR := hid (TR.out.keptx hgf (fun g e => by cases e; exact .inl HXB.out))
      replace HC := hid (show CurAt wf b p c L (jj + 1) at' er from hcf)
      clear HW0
      replace xd := hgf.cell xd (by simp; omega)
      replace u0 := hgf.cell u0 (by simp; omega)
      replace u1 := hgf.cell u1 (by simp; omega)
      replace u2 := hgf.cell u2 (by simp; omega)
      replace u3 := hgf.cell u3 (by simp; omega)
      replace u4 := hgf.cell u4 (by simp; omega)
      replace u5 := hgf.cell u5 (by simp; omega)
      replace u6 := hgf.cell u6 (by simp; omega)
      obtain ⟨⟨z0, z1, z2, z3, z4, z5, z6⟩, y0, y1, y2, y3, y4, y5, y6⟩ := box7 B6.out
      clear hcf hgf
      refine tkH (v := ?_) 6 rfl hHeld ?_ ?_; rotate_left 1
      ·intro w hSw; (try dsimp only at hSw); go_split_ands; go_simp; (try (with_reducible rfl))
      (try simp only [Act.put, pu1, pu2, pu3])
      refine wpAnyH_ready (rs := [7]) (by kernel_rfl) (by simp) ?_
      refine aR1 rfl fun K hK => ?_
      (try rw [if_pos (by kernel_rfl)])
      go_simp
      refine hK.out _ _ ?_ (fun hNew => ?_)
      ·with_reducible exact ks8 (set7_gr _ _ _ _ _ _ _ _ _) (by omega) (by omega) xd u0 u1 u2 u3 u4 u5 u6
      clear hK K hHeld
      have hHeld := hNew
      clear hNew
      (try simp only [Act.put, pu1, pu2, pu3])
      refine tkH (v := ?_) 8 rfl hHeld ?_ ?_; rotate_left 1
      ·intro w hSw; (try dsimp only at hSw); go_split_ands; go_simp; (try (with_reducible rfl))
      (try simp only [Act.put, pu1, pu2, pu3])
      refine wpAnyH_done (by kernel_rfl) ?_ _
      refine NoPanic.normal ?_
      have hb6 := set7_blk B6.out (.int .i64 kk) (.string ⟨#[]⟩) (.bool false) (.slice none 0 0) (.slice none 0 0) (.slice (some ⟨ga, 0, none⟩) np np) (.int .i64 t.pos)
      have gS := set7_gr wf (w.heap.size + 1) (.int .i64 kk) (.string ⟨#[]⟩) (.bool false) (.slice none 0 0) (.slice none 0 0) (.slice (some ⟨ga, 0, none⟩) np np) (.int .i64 t.pos)
      have HC6 := hid (HC.out.keptr gS (by simp; omega) (fun q hq => by have := HPT.out q hq; simp; omega))
      have NU6 := hid (nux_own HXS.out HW.out NUX.out gS (by omega))
      have HG6 := hid (grown_newr HW.out gS (by omega))
      have TR6 := hid (TR.out.keptx gS (fun g e => by cases e; exact .inr (.inr rfl)))
      obtain ⟨⟨l0, l1, l2, l3, l4, l5, l6⟩, -⟩ := box7 hb6
      clear gS hb6
      clear u0 u1 u2 u3 u4 u5 u6 v0 v1 v2 v3 v4 v5 v6 z0 z1 z2 z3 z4 z5 z6 y0 y1 y2 y3 y4 y5 y6 hHeld
      clear xd
      generalize ((((((wf.setCell _ _).setCell _ _).setCell _ _).setCell _ _).setCell _ _).setCell _ _).setCell _ _ = w9 at *
      go_wp2_with fail
      exact bodyPost_ret (v := .tuple #[.agg #[.int .i64 kk, .string ⟨#[]⟩, .bool false, .slice none 0 0, .slice none 0 0, .slice (some ⟨ga, 0, none⟩) np np, .int .i64 t.pos], .bool true]) (by simp [results, Tryz.results71, go_sem, l0, l1, l2, l3, l4, l5, l6]) rfl
       ⟨kk, ⟨#[]⟩, false, none, 0, 0, none, 0, 0, (some ⟨ga, 0, none⟩), np, np, t.pos, true, rfl, HG6.out, OkP.yes ⟨nd0 kk t.pos tl, jj + 1, by rw [HRM.out]; unfold expM; rw [if_pos HSL.out]; rfl, HJN.out, con_tree0 TR6.out, HC6.out⟩⟩
    | true =>
     have HRM0 : Hid (conM rqV rd L j xs = (ratM rqV L jj).bind fun v j1 => (expM sClose L j1).map fun _ => ndR kk t.pos v tl) := hid (by rw [HRN.out, HAR.out]; show (if hasR kk = true then _ else _) = _; rw [if_pos hhr])
     clear hhr
     go_upto_region 10 with (go_at_call 117; (with_reducible refine (HHR.out _).mono ?_); rintro e we ⟨rfl, hg⟩; have HW0 := HW; replace x1 := hg.cell x1 (by simp); replace B6 := hid (keepB B6.out hg); replace HT := hid (HT.out.keep hg); replace HW := hid (grown_trans HW.out (grown_some hg _)); replace NUX := hid (nux_keep HXS.out HW0.out NUX.out hg); replace HC := hid (HC.out.keep hg); replace B10 := hid (keepB B10.out hg); replace TR := hid (ARdX.keep hg TR.out); clear HW0; clear hg)
     have HRT := hid (pRat_any HLK.out we HT.out b p c at' er jj HC.out hjj)
     go_upto_region 11 with (go_at_call 118; (with_reducible refine HRT.out.mono ?_); rintro e wr ⟨gr, pr, nr, cr, qr, mr, dr, ok3, uu, rfl, hgr, hQ, hO3⟩; have HGR := hid hgr; have HO3 := hid hO3; clear hQ hO3; obtain ⟨⟨u0, u1, u2, u3, u4, u5, u6⟩, p0, p1, p2, p3, p4, p5, p6⟩ := box7 ((hgr.block _ (lt_of_block B10.out) (by simp; omega)).trans B10.out); replace x1 := hgr.cell x1 (by simp; omega); clear hgr)
     have x1r := x1
     clear x1 u0 u1 u2 u3 u4 u5 u6 p0 p1 p2 p3 p4 p5 p6
     cases ok3 with
     | false =>
      obtain ⟨jr, ee, nx, h1, hjr, h3⟩ := HO3.out.bad (by simp)
      have x1 := x1r
      have HRM : Hid (conM rqV rd L j xs = .bad jr ee) := hid (by rw [HRM0.out, h1]; rfl)
      have HW0 := HW
      replace B6 := hid ((HGR.out.block _ (lt_of_block B6.out) (by simp; omega)).trans B6.out)
      replace HT := hid (Tb.keptb HT.out HC.out HGR.out)
      replace HW := hid (grown_trans HW.out HGR.out)
      replace NUX := hid (nux_cur HXS.out HW0.out NUX.out HGR.out (CurAt.nu h3))
      replace B10 := hid ((HGR.out.block _ (lt_of_block B10.out) (by simp; omega)).trans B10.out)
      replace TR := hid (TR.out.keptx HGR.out (fun g e => by cases e; exact .inl HXB.out))
      replace HC := hid h3
      clear HW0
      have hb10 := set3_2 B10.out (.bool gr) (.slice pr nr cr) (.slice qr mr dr)
      have gS := set3_2g wr K10 (.bool gr) (.slice pr nr cr) (.slice qr mr dr)
      have HW0 := HW
      replace x1 := gS.cell x1 (by simp; omega)
      replace B6 := hid ((gS.block _ (lt_of_block B6.out) (by simp; omega)).trans B6.out)
      replace HT := hid (HT.out.kept7 B10.out gS)
      replace HW := hid (grown_newr HW.out gS (by omega))
      replace NUX := hid (nux_own HXS.out HW0.out NUX.out gS (by omega))
      replace HC := hid (HC.out.keptr gS (by simp; omega) (fun q hq => by have := HPT.out q hq; simp; omega))
      replace TR := hid (TR.out.keptx gS (fun g e => by cases e; exact .inr (.inl rfl)))
      replace B10 := hid hb10
      clear HW0
      clear gS hb10 h1 h3 x1r hjj
      generalize ((wr.setCell _ _).setCell _ _).setCell _ _ = wd2 at *
      obtain ⟨jj, hje⟩ : ∃ jj, jj = jr := ⟨_, rfl⟩
      have hjj : jj < L.length := by omega
      rw [← hje] at HRM HC
      clear hje
      have hgd := grown_drew wd2 none
      obtain ⟨⟨u0, u1, u2, u3, u4, u5, u6⟩, -⟩ := box7 (keepB B10.out hgd)
      obtain ⟨⟨v0, v1, v2, v3, v4, v5, v6⟩, -⟩ := box7 B10.out
      obtain ⟨⟨z0, z1, z2, z3, z4, z5, z6⟩, y0, y1, y2, y3, y4, y5, y6⟩ := box7 B6.out
      have xd := hgd.cell x1 (by simp)
      refine wp_region_noPanic ?_
      refine wp_region_held_drew (S := (fun w' => w'.cell? ⟨w.heap.size, 0, none⟩ = some (.pointer (some ⟨b, 0, none⟩)) ∧ w'.cell? ⟨K10, 0, none⟩ = some (.int .i64 kk) ∧ w'.cell? ⟨K10, 1, none⟩ = some (.string ⟨#[]⟩) ∧ w'.cell? ⟨K10, 2, none⟩ = some (.bool gr) ∧ w'.cell? ⟨K10, 3, none⟩ = some (.slice pr nr cr) ∧ w'.cell? ⟨K10, 4, none⟩ = some (.slice qr mr dr) ∧ w'.cell? ⟨K10, 5, none⟩ = some (.slice (some ⟨ga, 0, none⟩) np np) ∧ w'.cell? ⟨K10, 6, none⟩ = some (.int .i64 t.pos))) (by kernel_rfl) ?_ (fun hHeld => ?_)
      ·((try go_split_ands) <;> (repeat' apply And.intro) <;> (first | (with_reducible assumption) | (with_reducible refine (grown_drew _ none).cell ?_ (by simp); with_reducible assumption) | (with_reducible refine grown_trans ?_ (grown_drew _ none); with_reducible assumption)))
      refine tkH (v := ?_) 0 rfl hHeld ?_ ?_; rotate_left 1
      ·intro w hSw; (try dsimp only at hSw); go_split_ands; go_simp; (try (with_reducible rfl))
      (try simp only [Act.put, pu1, pu2, pu3])
      refine tkH (v := ?_) 1 rfl hHeld ?_ ?_; rotate_left 1
      ·intro w hSw; (try dsimp only at hSw); go_split_ands; go_simp; (try (with_reducible rfl))
      (try simp only [Act.put, pu1, pu2, pu3])
      refine tkH (v := ?_) 2 rfl hHeld ?_ ?_; rotate_left 1
      ·intro w hSw; (try dsimp only at hSw); go_split_ands; go_simp; (try (with_reducible rfl))
      (try simp only [Act.put, pu1, pu2, pu3])
      refine wpAnyH_take (i := 3) (oi := Oper.mk _ _ _ _ _ _) (v := undef) rfl (by kernel_rfl) (by kernel_rfl) (by kernel_rfl) (fun _ _ _ h => h) (Or.inr ⟨by kernel_rfl, rfl⟩) hHeld ?_
      (try simp only [Act.put, pu1, pu2, pu3])
      refine wpAnyH_take (i := 4) (oi := Oper.mk _ _ _ _ _ _) (v := undef) rfl (by kernel_rfl) (by kernel_rfl) (by kernel_rfl) (fun _ _ _ h => h) (Or.inr ⟨by kernel_rfl, rfl⟩) hHeld ?_
      (try simp only [Act.put, pu1, pu2, pu3])
      refine wpAnyH_take (i := 5) (oi := Oper.mk _ _ _ _ _ _) (v := undef) rfl (by kernel_rfl) (by kernel_rfl) (by kernel_rfl) (fun _ _ _ h => h) (Or.inr ⟨by kernel_rfl, rfl⟩) hHeld ?_
      (try simp only [Act.put, pu1, pu2, pu3])
      refine tkH (v := ?_) 6 rfl hHeld ?_ ?_; rotate_left 1
      ·intro w hSw; (try dsimp only at hSw); go_split_ands; go_simp; (try (with_reducible rfl))
      (try simp only [Act.put, pu1, pu2, pu3])
      refine wpAnyH_ready (rs := [7]) (by kernel_rfl) (by simp) ?_
      refine aR1 rfl fun K hK => ?_
      (try rw [if_pos (by kernel_rfl)])
      go_simp
      refine hK.out _ _ ?_ (fun hNew => ?_)
      ·with_reducible exact ks8 (grown_trans (set7_gr _ _ _ _ _ _ _ _ _) (grown_drew _ _)) (by omega) (by omega) x1 v0 v1 v2 v3 v4 v5 v6
      clear hK K hHeld
      have hHeld := hNew
      clear hNew
      (try simp only [Act.put, pu1, pu2, pu3])
      refine tkH (v := ?_) 8 rfl hHeld ?_ ?_; rotate_left 1
      ·intro w hSw; (try dsimp only at hSw); go_split_ands; go_simp; (try (with_reducible rfl))
      (try simp only [Act.put, pu1, pu2, pu3])
      refine wpAnyH_done (by kernel_rfl) ?_ _
      refine NoPanic.normal ?_
      have hb6 := set7_blk B6.out (.int .i64 kk) (.string ⟨#[]⟩) (.bool gr) (.slice pr nr cr) (.slice qr mr dr) (.slice (some ⟨ga, 0, none⟩) np np) (.int .i64 t.pos)
      have gS := set7_gr wd2 (w.heap.size + 1) (.int .i64 kk) (.string ⟨#[]⟩) (.bool gr) (.slice pr nr cr) (.slice qr mr dr) (.slice (some ⟨ga, 0, none⟩) np np) (.int .i64 t.pos)
      have HC6 := hid (HC.out.keptr gS (by simp; omega) (fun q hq => by have := HPT.out q hq; simp; omega))
      have NU6 := hid (nux_own HXS.out HW.out NUX.out gS (by omega))
      have HG6 := hid (grown_newr HW.out gS (by omega))
      obtain ⟨⟨l0, l1, l2, l3, l4, l5, l6⟩, -⟩ := box7 hb6
      clear gS hb6
      clear u0 u1 u2 u3 u4 u5 u6 v0 v1 v2 v3 v4 v5 v6 z0 z1 z2 z3 z4 z5 z6 y0 y1 y2 y3 y4 y5 y6 hHeld
      clear hgd xd
      generalize ((((((wd2.setCell _ _).setCell _ _).setCell _ _).setCell _ _).setCell _ _).setCell _ _).setCell _ _ = w9 at *
      go_wp2_with fail
      exact bodyPost_ret (v := .tuple #[.agg #[.int .i64 kk, .string ⟨#[]⟩, .bool gr, .slice pr nr cr, .slice qr mr dr, .slice (some ⟨ga, 0, none⟩) np np, .int .i64 t.pos], .bool false]) (by simp [results, Tryz.results71, go_sem, l0, l1, l2, l3, l4, l5, l6]) rfl
       ⟨kk, ⟨#[]⟩, gr, pr, nr, cr, qr, mr, dr, (some ⟨ga, 0, none⟩), np, np, t.pos, false, rfl, grown_trans HG6.out (grown_drew _ _), OkP.no ⟨jj, ee, nx, HRM.out, hjj, HC6.out.keep (grown_drew _ none)⟩⟩
     | true =>
      obtain ⟨vv, jr, h1, hjr, h3, h4⟩ := HO3.out.get rfl
      have x1 := x1r
      have HRM : Hid (conM rqV rd L j xs = (expM sClose L jr).map fun _ => ndR kk t.pos vv tl) := hid (by rw [HRM0.out, h1]; rfl)
      have HW0 := HW
      replace B6 := hid ((HGR.out.block _ (lt_of_block B6.out) (by simp; omega)).trans B6.out)
      replace HT := hid (Tb.keptb HT.out HC.out HGR.out)
      replace HW := hid (grown_trans HW.out HGR.out)
      replace NUX := hid (nux_cur HXS.out HW0.out NUX.out HGR.out (CurAt.nu h4))
      replace B10 := hid ((HGR.out.block _ (lt_of_block B10.out) (by simp; omega)).trans B10.out)
      replace TR := hid (TR.out.keptx HGR.out (fun g e => by cases e; exact .inl HXB.out))
      replace HC := hid h4
      clear HW0
      have RT := hid h3
      have hb10 := set3_2 B10.out (.bool gr) (.slice pr nr cr) (.slice qr mr dr)
      have gS := set3_2g wr K10 (.bool gr) (.slice pr nr cr) (.slice qr mr dr)
      have HW0 := HW
      replace x1 := gS.cell x1 (by simp; omega)
      replace B6 := hid ((gS.block _ (lt_of_block B6.out) (by simp; omega)).trans B6.out)
      replace HT := hid (HT.out.kept7 B10.out gS)
      replace HW := hid (grown_newr HW.out gS (by omega))
      replace NUX := hid (nux_own HXS.out HW0.out NUX.out gS (by omega))
      replace HC := hid (HC.out.keptr gS (by simp; omega) (fun q hq => by have := HPT.out q hq; simp; omega))
      replace TR := hid (TR.out.keptx gS (fun g e => by cases e; exact .inr (.inl rfl)))
      replace RT := hid (RT.out.keptb (nu7 B10.out) gS)
      replace B10 := hid hb10
      clear HW0
      clear gS hb10 h1 h3 h4 x1r hjj
      generalize ((wr.setCell _ _).setCell _ _).setCell _ _ = wd2 at *
      obtain ⟨jj, hje⟩ : ∃ jj, jj = jr := ⟨_, rfl⟩
      have hjj : jj < L.length := by omega
      rw [← hje] at HRM HC
      clear hje hjr
      obtain ⟨f9, hf9⟩ := tokq L jj hjj ⟨#[41]⟩
      have hgd := grown_drew wd2 none
      have HXP := hid (curExpect_any (HC.out.keep hgd) hjj (by have := HLK.out.len; omega) ⟨#[41]⟩ f9 hf9)
      have HF9 := hid (hf9.trans (show (L[jj]).d = ⟨#[41]⟩ ↔ (tk L jj).d = sClose from by rw [tk_at hjj]; rfl))
      have HPS := hid (congrArg Tok.pos (tk_at hjj))
      clear hf9
      cases f9 with
      | false =>
       obtain ⟨⟨u0, u1, u2, u3, u4, u5, u6⟩, -⟩ := box7 (keepB B10.out hgd)
       obtain ⟨⟨v0, v1, v2, v3, v4, v5, v6⟩, -⟩ := box7 B10.out
       have xd := hgd.cell x1 (by simp)
       refine wp_region_noPanic ?_
       refine wp_region_held_drew (S := (fun w' => w'.cell? ⟨w.heap.size, 0, none⟩ = some (.pointer (some ⟨b, 0, none⟩)) ∧ w'.cell? ⟨K10, 0, none⟩ = some (.int .i64 kk) ∧ w'.cell? ⟨K10, 1, none⟩ = some (.string ⟨#[]⟩) ∧ w'.cell? ⟨K10, 2, none⟩ = some (.bool gr) ∧ w'.cell? ⟨K10, 3, none⟩ = some (.slice pr nr cr) ∧ w'.cell? ⟨K10, 4, none⟩ = some (.slice qr mr dr) ∧ w'.cell? ⟨K10, 5, none⟩ = some (.slice (some ⟨ga, 0, none⟩) np np) ∧ w'.cell? ⟨K10, 6, none⟩ = some (.int .i64 t.pos))) (by kernel_rfl) ?_ (fun hHeld => ?_)
       ·((try go_split_ands) <;> (repeat' apply And.intro) <;> (first | (with_reducible assumption) | (with_reducible refine (grown_drew _ none).cell ?_ (by simp); with_reducible assumption) | (with_reducible refine grown_trans ?_ (grown_drew _ none); with_reducible assumption)))
       refine tkH (v := ?_) 0 rfl hHeld ?_ ?_; rotate_left 1
       ·intro w hSw; (try dsimp only at hSw); go_split_ands; go_simp; (try (with_reducible rfl))
       (try simp only [Act.put, pu1, pu2, pu3])
       refine tkH (v := ?_) 1 rfl hHeld ?_ ?_; rotate_left 1
       ·intro w hSw; (try dsimp only at hSw); go_split_ands; go_simp; (try (with_reducible rfl))
       (try simp only [Act.put, pu1, pu2, pu3])
       refine tkH (v := ?_) 2 rfl hHeld ?_ ?_; rotate_left 1
       ·intro w hSw; (try dsimp only at hSw); go_split_ands; go_simp; (try (with_reducible rfl))
       (try simp only [Act.put, pu1, pu2, pu3])
       refine tkH (v := ?_) 3 rfl hHeld ?_ ?_; rotate_left 1
       ·intro w hSw; (try dsimp only at hSw); go_split_ands; go_simp; (try (with_reducible rfl))
       (try simp only [Act.put, pu1, pu2, pu3])
       refine tkH (v := ?_) 4 rfl hHeld ?_ ?_; rotate_left 1
       ·intro w hSw; (try dsimp only at hSw); go_split_ands; go_simp; (try (with_reducible rfl))
       (try simp only [Act.put, pu1, pu2, pu3])
       refine wpAnyH_ready (rs := [5]) (by kernel_rfl) (by simp) ?_
       refine aR1 rfl fun K hK => ?_
       (try rw [if_pos (by kernel_rfl)])
       go_simp
       go_at_call 84
       (with_reducible refine HXP.out.mono ?_)
       rintro e wf ⟨rfl, hcf, hgf⟩
       refine hK.out _ _ ?_ (fun hNew => ?_)
       ·with_reducible exact ks8 hgf (by omega) (by omega) xd u0 u1 u2 u3 u4 u5 u6
       clear hK K hHeld
       have hHeld := hNew
       clear hNew
       (try simp only [Act.put, pu1, pu2, pu3])
       have HW0 := HW
       replace x1 := hgd.cell x1 (by simp)
       replace B6 := hid (keepB B6.out hgd)
       replace HT := hid (HT.out.keep hgd)
       replace HW := hid (grown_trans HW.out (grown_some hgd _))
       replace NUX := hid (nux_keep HXS.out HW0.out NUX.out hgd)
       replace HC := hid (HC.out.keep hgd)
       replace B10 := hid (keepB B10.out hgd)
       replace TR := hid (ARdX.keep hgd TR.out)
       replace RT := hid (RT.out.keep hgd)
       clear HW0
       have HW0 := HW
       replace x1 := hgf.cell x1 (by simp; omega)
       replace B6 := hid ((hgf.block _ (lt_of_block B6.out) (by simp; omega)).trans B6.out)
       replace HT := hid (Tb.keptb HT.out HC.out hgf)
       replace HW := hid (grown_trans HW.out hgf)
       replace NUX := hid (nux_cur HXS.out HW0.out NUX.out hgf (CurAt.nu (show CurAt wf b p c L jj (L[jj]).pos 5 from hcf)))
       replace B10 := hid ((hgf.block _ (lt_of_block B10.out) (by simp; omega)).trans B10.out)
       replace TR := hid (TR.out.keptx hgf (fun g e => by cases e; exact .inl HXB.out))
       replace RT := hid (RT.out.keptb HC.out.nu hgf)
       replace HC := hid (show CurAt wf b p c L jj (L[jj]).pos 5 from hcf)
       clear HW0
       replace xd := hgf.cell xd (by simp; omega)
       replace u0 := hgf.cell u0 (by simp; omega)
       replace u1 := hgf.cell u1 (by simp; omega)
       replace u2 := hgf.cell u2 (by simp; omega)
       replace u3 := hgf.cell u3 (by simp; omega)
       replace u4 := hgf.cell u4 (by simp; omega)
       replace u5 := hgf.cell u5 (by simp; omega)
       replace u6 := hgf.cell u6 (by simp; omega)
       obtain ⟨⟨z0, z1, z2, z3, z4, z5, z6⟩, y0, y1, y2, y3, y4, y5, y6⟩ := box7 B6.out
       clear hcf hgf
       refine tkH (v := ?_) 6 rfl hHeld ?_ ?_; rotate_left 1
       ·intro w hSw; (try dsimp only at hSw); go_split_ands; go_simp; (try (with_reducible rfl))
       (try simp only [Act.put, pu1, pu2, pu3])
       refine wpAnyH_ready (rs := [7]) (by kernel_rfl) (by simp) ?_
       refine aR1 rfl fun K hK => ?_
       (try rw [if_pos (by kernel_rfl)])
       go_simp
       refine hK.out _ _ ?_ (fun hNew => ?_)
       ·with_reducible exact ks8 (set7_gr _ _ _ _ _ _ _ _ _) (by omega) (by omega) xd u0 u1 u2 u3 u4 u5 u6
       clear hK K hHeld
       have hHeld := hNew
       clear hNew
       (try simp only [Act.put, pu1, pu2, pu3])
       refine tkH (v := ?_) 8 rfl hHeld ?_ ?_; rotate_left 1
       ·intro w hSw; (try dsimp only at hSw); go_split_ands; go_simp; (try (with_reducible rfl))
       (try simp only [Act.put, pu1, pu2, pu3])
       refine wpAnyH_done (by kernel_rfl) ?_ _
       refine NoPanic.normal ?_
       have hb6 := set7_blk B6.out (.int .i64 kk) (.string ⟨#[]⟩) (.bool gr) (.slice pr nr cr) (.slice qr mr dr) (.slice (some ⟨ga, 0, none⟩) np np) (.int .i64 t.pos)
       have gS := set7_gr wf (w.heap.size + 1) (.int .i64 kk) (.string ⟨#[]⟩) (.bool gr) (.slice pr nr cr) (.slice qr mr dr) (.slice (some ⟨ga, 0, none⟩) np np) (.int .i64 t.pos)
       have HC6 := hid (HC.out.keptr gS (by simp; omega) (fun q hq => by have := HPT.out q hq; simp; omega))
       have NU6 := hid (nux_own HXS.out HW.out NUX.out gS (by omega))
       have HG6 := hid (grown_newr HW.out gS (by omega))
       obtain ⟨⟨l0, l1, l2, l3, l4, l5, l6⟩, -⟩ := box7 hb6
       clear gS hb6
       clear u0 u1 u2 u3 u4 u5 u6 v0 v1 v2 v3 v4 v5 v6 z0 z1 z2 z3 z4 z5 z6 y0 y1 y2 y3 y4 y5 y6 hHeld
       clear xd
       generalize ((((((wf.setCell _ _).setCell _ _).setCell _ _).setCell _ _).setCell _ _).setCell _ _).setCell _ _ = w9 at *
       go_wp2_with fail
       exact bodyPost_ret (v := .tuple #[.agg #[.int .i64 kk, .string ⟨#[]⟩, .bool gr, .slice pr nr cr, .slice qr mr dr, .slice (some ⟨ga, 0, none⟩) np np, .int .i64 t.pos], .bool false]) (by simp [results, Tryz.results71, go_sem, l0, l1, l2, l3, l4, l5, l6]) rfl
        ⟨kk, ⟨#[]⟩, gr, pr, nr, cr, qr, mr, dr, (some ⟨ga, 0, none⟩), np, np, t.pos, false, rfl, HG6.out, OkP.no ⟨jj, 5, jj, by rw [HRM.out]; unfold expM; rw [if_neg (fun h => by cases HF9.out.2 h)]; rfl, hjj, by rw [HPS.out]; exact HC6.out⟩⟩
      | true =>
       have HSL := hid (HF9.out.1 rfl)
       have HJN : Hid (jj + 1 < L.length) := hid (HLK.out.next hjj (by rw [HSL.out]; simp [sClose]))
       obtain ⟨⟨u0, u1, u2, u3, u4, u5, u6⟩, -⟩ := box7 (keepB B10.out hgd)
       obtain ⟨⟨v0, v1, v2, v3, v4, v5, v6⟩, -⟩ := box7 B10.out
       have xd := hgd.cell x1 (by simp)
       refine wp_region_noPanic ?_
       refine wp_region_held_drew (S := (fun w' => w'.cell? ⟨w.heap.size, 0, none⟩ = some (.pointer (some ⟨b, 0, none⟩)) ∧ w'.cell? ⟨K10, 0, none⟩ = some (.int .i64 kk) ∧ w'.cell? ⟨K10, 1, none⟩ = some (.string ⟨#[]⟩) ∧ w'.cell? ⟨K10, 2, none⟩ = some (.bool gr) ∧ w'.cell? ⟨K10, 3, none⟩ = some (.slice pr nr cr) ∧ w'.cell? ⟨K10, 4, none⟩ = some (.slice qr mr dr) ∧ w'.cell? ⟨K10, 5, none⟩ = some (.slice (some ⟨ga, 0, none⟩) np np) ∧ w'.cell? ⟨K10, 6, none⟩ = some (.int .i64 t.pos))) (by kernel_rfl) ?_ (fun hHeld => ?_)
       ·((try go_split_ands) <;> (repeat' apply And.intro) <;> (first | (with_reducible assumption) | (with_reducible refine (grown_drew _ none).cell ?_ (by simp); with_reducible assumption) | (with_reducible refine grown_trans ?_ (grown_drew _ none); with_reducible assumption)))
       refine tkH (v := ?_) 0 rfl hHeld ?_ ?_; rotate_left 1
       ·intro w hSw; (try dsimp only at hSw); go_split_ands; go_simp; (try (with_reducible rfl))
       (try simp only [Act.put, pu1, pu2, pu3])
       refine tkH (v := ?_) 1 rfl hHeld ?_ ?_; rotate_left 1
       ·intro w hSw; (try dsimp only at hSw); go_split_ands; go_simp; (try (with_reducible rfl))
       (try simp only [Act.put, pu1, pu2, pu3])
       refine tkH (v := ?_) 2 rfl hHeld ?_ ?_; rotate_left 1
       ·intro w hSw; (try dsimp only at hSw); go_split_ands; go_simp; (try (with_reducible rfl))
       (try simp only [Act.put, pu1, pu2, pu3])
       refine tkH (v := ?_) 3 rfl hHeld ?_ ?_; rotate_left 1
       ·intro w hSw; (try dsimp only at hSw); go_split_ands; go_simp; (try (with_reducible rfl))
       (try simp only [Act.put, pu1, pu2, pu3])
       refine tkH (v := ?_) 4 rfl hHeld ?_ ?_; rotate_left 1
       ·intro w hSw; (try dsimp only at hSw); go_split_ands; go_simp; (try (with_reducible rfl))
       (try simp only [Act.put, pu1, pu2, pu3])
       refine wpAnyH_ready (rs := [5]) (by kernel_rfl) (by simp) ?_
       refine aR1 rfl fun K hK => ?_
       (try rw [if_pos (by kernel_rfl)])
       go_simp
       go_at_call 84
       (with_reducible refine HXP.out.mono ?_)
       rintro e wf ⟨rfl, hcf, hgf⟩
       refine hK.out _ _ ?_ (fun hNew => ?_)
       ·with_reducible exact ks8 hgf (by omega) (by omega) xd u0 u1 u2 u3 u4 u5 u6
       clear hK K hHeld
       have hHeld := hNew
       clear hNew
       (try simp only [Act.put, pu1, pu2, pu3])
       have HW0 := HW
       replace x1 := hgd.cell x1 (by simp)
       replace B6 := hid (keepB B6.out hgd)
       replace HT := hid (HT.out.keep hgd)
       replace HW := hid (grown_trans HW.out (grown_some hgd _))
       replace NUX := hid (nux_keep HXS.out HW0.out NUX.out hgd)
       replace HC := hid (HC.out.keep hgd)
       replace B10 := hid (keepB B10.out hgd)
       replace TR := hid (ARdX.keep hgd TR.out)
       replace RT := hid (RT.out.keep hgd)
       clear HW0
       have HW0 := HW
       replace x1 := hgf.cell x1 (by simp; omega)
       replace B6 := hid ((hgf.block _ (lt_of_block B6.out) (by simp; omega)).trans B6.out)
       replace HT := hid (Tb.keptb HT.out HC.out hgf)
       replace HW := hid (grown_trans HW.out hgf)
       replace NUX := hid (nux_cur HXS.out HW0.out NUX.out hgf (CurAt.nu (show CurAt wf b p c L (jj + 1) at' er from hcf)))
       replace B10 := hid ((hgf.block _ (lt_of_block B10.out) (by simp; omega)).trans B10.out)
       replace TR := hid (TR.out.keptx hgf (fun g e => by cases e; exact .inl HXB.out))
       replace RT := hid (RT.out.keptb HC.out.nu hgf)
       replace HC := hid (show CurAt wf b p c L (jj + 1) at' er from hcf)
       clear HW0
       replace xd := hgf.cell xd (by simp; omega)
       replace u0 := hgf.cell u0 (by simp; omega)
       replace u1 := hgf.cell u1 (by simp; omega)
       replace u2 := hgf.cell u2 (by simp; omega)
       replace u3 := hgf.cell u3 (by simp; omega)
       replace u4 := hgf.cell u4 (by simp; omega)
       replace u5 := hgf.cell u5 (by simp; omega)
       replace u6 := hgf.cell u6 (by simp; omega)
       obtain ⟨⟨z0, z1, z2, z3, z4, z5, z6⟩, y0, y1, y2, y3, y4, y5, y6⟩ := box7 B6.out
       clear hcf hgf
       refine tkH (v := ?_) 6 rfl hHeld ?_ ?_; rotate_left 1
       ·intro w hSw; (try dsimp only at hSw); go_split_ands; go_simp; (try (with_reducible rfl))
       (try simp only [Act.put, pu1, pu2, pu3])
       refine wpAnyH_ready (rs := [7]) (by kernel_rfl) (by simp) ?_
       refine aR1 rfl fun K hK => ?_
       (try rw [if_pos (by kernel_rfl)])
       go_simp
       refine hK.out _ _ ?_ (fun hNew => ?_)
       ·with_reducible exact ks8 (set7_gr _ _ _ _ _ _ _ _ _) (by omega) (by omega) xd u0 u1 u2 u3 u4 u5 u6
       clear hK K hHeld
       have hHeld := hNew
       clear hNew
       (try simp only [Act.put, pu1, pu2, pu3])
       refine tkH (v := ?_) 8 rfl hHeld ?_ ?_; rotate_left 1
       ·intro w hSw; (try dsimp only at hSw); go_split_ands; go_simp; (try (with_reducible rfl))
       (try simp only [Act.put, pu1, pu2, pu3])
       refine wpAnyH_done (by kernel_rfl) ?_ _
       refine NoPanic.normal ?_
       have hb6 := set7_blk B6.out (.int .i64 kk) (.string ⟨#[]⟩) (.bool gr) (.slice pr nr cr) (.slice qr mr dr) (.slice (some ⟨ga, 0, none⟩) np np) (.int .i64 t.pos)
       have gS := set7_gr wf (w.heap.size + 1) (.int .i64 kk) (.string ⟨#[]⟩) (.bool gr) (.slice pr nr cr) (.slice qr mr dr) (.slice (some ⟨ga, 0, none⟩) np np) (.int .i64 t.pos)
       have HC6 := hid (HC.out.keptr gS (by simp; omega) (fun q hq => by have := HPT.out q hq; simp; omega))
       have NU6 := hid (nux_own HXS.out HW.out NUX.out gS (by omega))
       have HG6 := hid (grown_newr HW.out gS (by omega))
       have TR6 := hid (TR.out.keptx gS (fun g e => by cases e; exact .inr (.inr rfl)))
       have RT6 := hid (RT.out.keptb (nu7 B6.out) gS)
       obtain ⟨⟨l0, l1, l2, l3, l4, l5, l6⟩, -⟩ := box7 hb6
       clear gS hb6
       clear u0 u1 u2 u3 u4 u5 u6 v0 v1 v2 v3 v4 v5 v6 z0 z1 z2 z3 z4 z5 z6 y0 y1 y2 y3 y4 y5 y6 hHeld
       clear xd
       generalize ((((((wf.setCell _ _).setCell _ _).setCell _ _).setCell _ _).setCell _ _).setCell _ _).setCell _ _ = w9 at *
       go_wp2_with fail
       exact bodyPost_ret (v := .tuple #[.agg #[.int .i64 kk, .string ⟨#[]⟩, .bool gr, .slice pr nr cr, .slice qr mr dr, .slice (some ⟨ga, 0, none⟩) np np, .int .i64 t.pos], .bool true]) (by simp [results, Tryz.results71, go_sem, l0, l1, l2, l3, l4, l5, l6]) rfl
        ⟨kk, ⟨#[]⟩, gr, pr, nr, cr, qr, mr, dr, (some ⟨ga, 0, none⟩), np, np, t.pos, true, rfl, HG6.out, OkP.yes ⟨ndR kk t.pos vv tl, jj + 1, by rw [HRM.out]; unfold expM; rw [if_pos HSL.out]; rfl, HJN.out, con_treeR NU6.out TR6.out RT6.out, HC6.out⟩⟩
theorem leaf_rd {X : Nat → Prop} {w : World} {m : Nat} {t : Tok} (hs : t.d.size ≤ maxLen) : ERdX X w (m + 1) [.int .i64 1, .string t.d, .bool false, .slice none 0 0, .slice none 0 0, .slice none 0 0, .int .i64 t.pos] (leaf t) :=
 ARdX.erdX ⟨IRd.nil _ _, fun a ha => by cases ha⟩ ⟨IRd.nil _ _, fun a ha => by cases ha⟩ ⟨⟨rfl, Nat.le_refl _, by omega⟩, fun i hi => absurd hi (Nat.not_lt_zero i)⟩ hs
theorem con_end {X : Nat → Prop} {wf w' : World} {G b : Nat} {p : Option Addr} {c : Nat} {L : List Tok} {at' er : Int} {m : Nat} {r : Rs Tr} {ok : Bool} {cs : List Value}
  (h : OkP ok (fun w' => ∃ t j', r = .ok t j' ∧ j' < L.length ∧ ERdX (fun k => X k ∨ k = G) w' (m + 1) cs t ∧ CurAt w' b p c L j' at' er) (fun w' => ∃ j' er' nx, r = .bad j' er' ∧ j' < L.length ∧ CurAt w' b p c L nx (tk L j').pos er') wf)
  (gS : wf.grownBy w' (some G)) (hb : b ≠ G) (hp : ∀ q, p = some q → q.block ≠ G) :
  OkP ok (fun w' => ∃ t j', r = .ok t j' ∧ j' < L.length ∧ ERdX X w' (m + 1) cs t ∧ CurAt w' b p c L j' at' er) (fun w' => ∃ j' er' nx, r = .bad j' er' ∧ j' < L.length ∧ CurAt w' b p c L nx (tk L j').pos er') w' := by
 cases ok with
 | true =>
  obtain ⟨t, j', h1, h2, h3, h4⟩ := h.get rfl
  exact OkP.yes ⟨t, j', h1, h2, (h3.kept gS (fun g e => by cases e; exact .inr rfl)).more (fun b hb => .inl (.inl hb)), h4.keptr gS (by simpa using hb) (fun q hq => by simpa using hp q hq)⟩
 | false =>
  obtain ⟨j', er', nx, h1, h2, h3⟩ := h.bad (by simp)
  exact OkP.no ⟨j', er', nx, h1, h2, h3.keptr gS (by simpa using hb) (fun q hq => by simpa using hp q hq)⟩
set_option maxHeartbeats 64000000 in
theorem arg_any {dep : Int} {L : List Tok} {m : Nat} (hL : LkOk L) (hd1 : 0 ≤ dep) (hd2 : dep ≤ 100) (w : World) (Tq : Tb w) (X : Nat → Prop) (b : Nat) (p : Option Addr) (c : Nat) (at' er : Int) (j : Nat) (xs : List Nat) (q : Option Addr) (n d : Nat)
  (hX : ∀ k, X k → k < w.heap.size) (hXb : X b) (hNU : ∀ k, X k → NU w k) (hC : CurAt w b p c L j at' er) (hj : j < L.length) (hI : IRd w .i64 q n d xs) (hqb : ∀ a, q = some a → a.block ≠ b) (aR cR : Rs Tr)
  (haR : ((isN (tk L j) = false ∧ kO xs (tk L j) = 0) → aR = .bad j 5) ∧ (¬ (isN (tk L j) = false ∧ kO xs (tk L j) = 0) → dep > 20 → aR = .bad j 4) ∧ (¬ dep > 20 → isN (tk L j) = true → aR = .ok (leaf (tk L j)) (j + 1)) ∧ (¬ dep > 20 → isN (tk L j) = false → ¬ kO xs (tk L j) = 0 → aR = cR))
  (hcon : ¬ dep > 20 → ∀ (Y : Nat → Prop) (W : World), (∀ k, Y k → k < W.heap.size) → Y b → Tb W → (∀ k, Y k → NU W k) → CurAt W b p c L j at' er → IRd W .i64 q n d xs → Calls Tryz.prog 71 #[.agg #[.pointer (some ⟨b, 0, none⟩)], .int .i64 dep, .slice q n d] W (ExP Y W b p c L at' er (m + 1) cR)) :
  Calls Tryz.prog 36 #[.agg #[.pointer (some ⟨b, 0, none⟩)], .int .i64 dep, .slice q n d] w (ExP X w b p c L at' er (m + 1) aR) := by
 have hb0 := hC.lt
 have HPT := hid (hC.plt hj)
 have hlen := hL.len
 have hTk := hL.ok j hj
 obtain ⟨wB, hwB⟩ : ∃ wB, wB = (w.alloc (.cells #[.pointer (some ⟨b, 0, none⟩)] 79 (0, 0))).alloc (.cells #[.int .i64 0, .string ⟨#[]⟩, .bool false, .slice none 0 0, .slice none 0 0, .slice none 0 0, .int .i64 0] 38 (0, 0)) := ⟨_, rfl⟩
 have gB : w.grownBy wB none := by rw [hwB]; exact grown_trans (World.grownBy_alloc _ _ _) (World.grownBy_alloc _ _ _)
 have b1 : wB.heap[w.heap.size]? = some (.cells #[.pointer (some ⟨b, 0, none⟩)] 79 (0, 0)) := by rw [hwB]; exact keepB (blk0 w _) (World.grownBy_alloc _ _ _)
 have b6 : wB.heap[w.heap.size + 1]? = some (.cells #[.int .i64 0, .string ⟨#[]⟩, .bool false, .slice none 0 0, .slice none 0 0, .slice none 0 0, .int .i64 0] 38 (0, 0)) := by
  rw [hwB]
  have := blk0 (w.alloc (.cells #[.pointer (some ⟨b, 0, none⟩)] 79 (0, 0))) (.cells #[.int .i64 0, .string ⟨#[]⟩, .bool false, .slice none 0 0, .slice none 0 0, .slice none 0 0, .int .i64 0] 38 (0, 0))
  simpa using this
 have htk : tk L j = L[j] := tk_at hj
 obtain ⟨t, ht⟩ : ∃ t, t = L[j] := ⟨_, rfl⟩
 have HTO := hid (curTok_any (hC.keep gB) hj)
 rw [← ht] at HTO hTk htk
 unfold Tok.row at HTO
 rw [htk] at haR
 have haR := hid haR
 have HXS : Hid (∀ k, X k → k < w.heap.size) := hid hX
 have HXB := hid hXb
 have NUX := hid (nux_keep hX (grown_refl w none) hNU gB)
 have HC := hid (hC.keep gB)
 have HT := hid (Tq.keep gB)
 have HW := hid (grown_some gB (some b))
 have B6 := hid b6
 have HLK := hid hL
 have HCON := hid hcon
 have HI := hid (hI.keep gB)
 have HIK := hid fun W (hg : w.grownBy W (some b)) => hI.kept hg (.inr fun a ha => by simpa using hqb a ha)
 have HTK := hid hTk
 have HTJ := hid htk
 have HTS : Hid (t.d.size ≤ maxLen) := hid (by rw [Lib.size_eq]; have := hTk.sz; unfold maxLen; omega)
 obtain ⟨kk, hkk⟩ : ∃ kk, kO xs t = kk := ⟨_, rfl⟩
 rw [hkk] at haR
 have HKD := hid fun W (hi : IRd W .i64 q n d xs) => pKindOf_any t.d q n d xs W hi
 rw [show kwS (fun s => decide (s ∈ xs)) t.d.toList = kk from by rw [← hkk]; unfold kO; rw [toList_d]] at HKD
 obtain ⟨nn, hnn⟩ : ∃ nn, isN t = nn := ⟨_, rfl⟩
 have HIN := hid fun W => isName_any t.d t.d.data.toList rfl (by have := hTk.sz; omega) W
 rw [show isNm t.d.data.toList = nn from hnn] at HIN
 replace hwB := hid hwB
 obtain ⟨x1, -⟩ := box1e b1
 have hN : b < w.heap.size := hb0
 clear hC gB Tq hL b1 b6 hI hNU hX hXb hTk htk hkk ht hcon hqb
 go_enter Tryz.func36, Tryz.ntmps36
 go_upto_region 1 with fail
 rw [← hwB.out]
 go_upto_region 2 with (go_at_call 57; (with_reducible refine HTO.out.mono ?_); rintro e w1 ⟨rfl, hg⟩; have HW0 := HW; replace x1 := hg.cell x1 (by simp); replace B6 := hid (keepB B6.out hg); replace HT := hid (HT.out.keep hg); replace HW := hid (grown_trans HW.out (grown_some hg _)); replace NUX := hid (nux_keep HXS.out HW0.out NUX.out hg); replace HC := hid (HC.out.keep hg); replace HI := hid (HI.out.keep hg); clear HW0; clear hg; obtain ⟨⟨i0, i1, i2, i3⟩, f0, f1, f2, f3⟩ := box4 (blk0 w1 (.cells #[.int .i64 0, .int .i64 0, .int .i64 0, .string ⟨#[]⟩] 76 (0, 0))))
 clear i0 i1 i2 i3 f0 f1 f2 f3
 have gT := World.grownBy_alloc w1 (.cells #[.int .i64 t.k, .int .i64 t.pos, .int .i64 t.en, .string t.d] 76 (0, 0)) none
 obtain ⟨⟨t0, t1, t2, t3⟩, -⟩ := box4 (blk0 w1 (.cells #[.int .i64 t.k, .int .i64 t.pos, .int .i64 t.en, .string t.d] 76 (0, 0)))
 have hKT := lt_of_block B6.out
 have HW0 := HW
 replace x1 := gT.cell x1 (by simp)
 replace B6 := hid (keepB B6.out gT)
 replace HT := hid (HT.out.keep gT)
 replace HW := hid (grown_trans HW.out (grown_some gT _))
 replace NUX := hid (nux_keep HXS.out HW0.out NUX.out gT)
 replace HC := hid (HC.out.keep gT)
 replace HI := hid (HI.out.keep gT)
 clear HW0
 clear gT t0 t2
 generalize w1.heap.size = KT at *
 generalize (w1.alloc _) = w2 at *
 go_upto_region 3 with (go_at_call 67; (with_reducible refine (HIN.out _).mono ?_); rintro e w3 ⟨rfl, hg⟩; have HW0 := HW; replace x1 := hg.cell x1 (by simp); replace B6 := hid (keepB B6.out hg); replace HT := hid (HT.out.keep hg); replace HW := hid (grown_trans HW.out (grown_some hg _)); replace NUX := hid (nux_keep HXS.out HW0.out NUX.out hg); replace HC := hid (HC.out.keep hg); replace HI := hid (HI.out.keep hg); clear HW0; replace t1 := hg.cell t1 (by simp); replace t3 := hg.cell t3 (by simp); clear hg)
 have HKD2 := hid (HKD.out w3 HI.out)
 clear HI HKD HIN
 cases nn with
 | false =>
  have hn := hnn
  by_cases hk0 : kk = 0
  ·clear hnn
   have HRM : Hid (aR = .bad j 5) := hid (haR.out.1 ⟨hn, hk0⟩)
   have HRF := hid fun W (h : CurAt W b p c L j at' er) => curRefuse_any h hj
   have hjj := hj
   have hkz : (kk : Int) = 0 := by omega
   go_upto_region 4 with (go_at_call 68; (with_reducible refine HKD2.out.mono ?_); rintro e w4 ⟨rfl, hg⟩; have HW0 := HW; replace x1 := hg.cell x1 (by simp); replace B6 := hid (keepB B6.out hg); replace HT := hid (HT.out.keep hg); replace HW := hid (grown_trans HW.out (grown_some hg _)); replace NUX := hid (nux_keep HXS.out HW0.out NUX.out hg); replace HC := hid (HC.out.keep hg); clear HW0; replace t1 := hg.cell t1 (by simp); replace t3 := hg.cell t3 (by simp); clear hg)
   have HRF2 := hid (HRF.out _ HC.out)
   obtain ⟨⟨z0, z1, z2, z3, z4, z5, z6⟩, y0, y1, y2, y3, y4, y5, y6⟩ := box7 B6.out
   go_wp2_with (go_at_call 69; (with_reducible refine HRF2.out.mono ?_); rintro e wf ⟨rfl, hc, hg⟩; clear z0 z1 z2 z3 z4 z5 z6 y0 y1 y2 y3 y4 y5 y6; have HW0 := HW; replace x1 := hg.cell x1 (by simp; omega); replace B6 := hid ((hg.block _ (lt_of_block B6.out) (by simp; omega)).trans B6.out); replace HT := hid (Tb.keptb HT.out HC.out hg); replace HW := hid (grown_trans HW.out hg); replace NUX := hid (nux_cur HXS.out HW0.out NUX.out hg (CurAt.nu (show CurAt wf b p c L j (L[j]).pos 5 from hc))); replace HC := hid (show CurAt wf b p c L j (L[j]).pos 5 from hc); clear HW0; clear hg hc; obtain ⟨⟨z0, z1, z2, z3, z4, z5, z6⟩, y0, y1, y2, y3, y4, y5, y6⟩ := box7 B6.out)
   have hb6 := set7_blk B6.out (.int .i64 0) (.string ⟨#[]⟩) (.bool false) (.slice none 0 0) (.slice none 0 0) (.slice none 0 0) (.int .i64 0)
   have gS := set7_gr wf (w.heap.size + 1) (.int .i64 0) (.string ⟨#[]⟩) (.bool false) (.slice none 0 0) (.slice none 0 0) (.slice none 0 0) (.int .i64 0)
   have HC6 := hid (HC.out.keptr gS (by simp; omega) (fun q hq => by have := HPT.out q hq; simp; omega))
   have NU6 := hid (nux_own HXS.out HW.out NUX.out gS (by omega))
   have HG6 := hid (grown_newr HW.out gS (by omega))
   obtain ⟨⟨l0, l1, l2, l3, l4, l5, l6⟩, -⟩ := box7 hb6
   clear gS hb6
   clear z0 z1 z2 z3 z4 z5 z6 y0 y1 y2 y3 y4 y5 y6
   generalize ((((((wf.setCell _ _).setCell _ _).setCell _ _).setCell _ _).setCell _ _).setCell _ _).setCell _ _ = w9 at *
   exact bodyPost_ret (v := .tuple #[.agg #[.int .i64 0, .string ⟨#[]⟩, .bool false, .slice none 0 0, .slice none 0 0, .slice none 0 0, .int .i64 0], .bool false]) (by simp [results, Tryz.results36, go_sem, l0, l1, l2, l3, l4, l5, l6]) rfl
    ⟨0, ⟨#[]⟩, false, none, 0, 0, none, 0, 0, none, 0, 0, 0, false, rfl, HG6.out, OkP.no ⟨j, 5, j, HRM.out, hjj, by rw [tk_at hjj]; exact HC6.out⟩⟩
  ·have hnk : ¬ (isN t = false ∧ kk = 0) := fun h => hk0 h.2
   have hk1 : ¬ ((kk : Int) = 0) := by omega
   clear hnn
   by_cases hd20 : dep > 20
   ·have hdp : (20 : Int) < dep := hd20
    have HRM : Hid (aR = .bad j 4) := hid (haR.out.2.1 hnk hd20)
    have hjj := hj
    go_upto_region 6 with (go_at_call 68; (with_reducible refine HKD2.out.mono ?_); rintro e w4 ⟨rfl, hg⟩; have HW0 := HW; replace x1 := hg.cell x1 (by simp); replace B6 := hid (keepB B6.out hg); replace HT := hid (HT.out.keep hg); replace HW := hid (grown_trans HW.out (grown_some hg _)); replace NUX := hid (nux_keep HXS.out HW0.out NUX.out hg); replace HC := hid (HC.out.keep hg); clear HW0; replace t1 := hg.cell t1 (by simp); replace t3 := hg.cell t3 (by simp); clear hg)
    have HFL := hid (curFail_any HC.out t.pos 4)
    obtain ⟨⟨z0, z1, z2, z3, z4, z5, z6⟩, y0, y1, y2, y3, y4, y5, y6⟩ := box7 B6.out
    go_wp2_with (go_at_call 70; (with_reducible refine HFL.out.mono ?_); rintro e wf ⟨rfl, hc, hg⟩; clear z0 z1 z2 z3 z4 z5 z6 y0 y1 y2 y3 y4 y5 y6; have HW0 := HW; replace x1 := hg.cell x1 (by simp; omega); replace B6 := hid ((hg.block _ (lt_of_block B6.out) (by simp; omega)).trans B6.out); replace HT := hid (Tb.keptb HT.out HC.out hg); replace HW := hid (grown_trans HW.out hg); replace NUX := hid (nux_cur HXS.out HW0.out NUX.out hg (CurAt.nu (show CurAt wf b p c L j t.pos 4 from hc))); replace HC := hid (show CurAt wf b p c L j t.pos 4 from hc); clear HW0; clear hg hc; obtain ⟨⟨z0, z1, z2, z3, z4, z5, z6⟩, y0, y1, y2, y3, y4, y5, y6⟩ := box7 B6.out)
    have hb6 := set7_blk B6.out (.int .i64 0) (.string ⟨#[]⟩) (.bool false) (.slice none 0 0) (.slice none 0 0) (.slice none 0 0) (.int .i64 0)
    have gS := set7_gr wf (w.heap.size + 1) (.int .i64 0) (.string ⟨#[]⟩) (.bool false) (.slice none 0 0) (.slice none 0 0) (.slice none 0 0) (.int .i64 0)
    have HC6 := hid (HC.out.keptr gS (by simp; omega) (fun q hq => by have := HPT.out q hq; simp; omega))
    have NU6 := hid (nux_own HXS.out HW.out NUX.out gS (by omega))
    have HG6 := hid (grown_newr HW.out gS (by omega))
    obtain ⟨⟨l0, l1, l2, l3, l4, l5, l6⟩, -⟩ := box7 hb6
    clear gS hb6
    clear z0 z1 z2 z3 z4 z5 z6 y0 y1 y2 y3 y4 y5 y6
    generalize ((((((wf.setCell _ _).setCell _ _).setCell _ _).setCell _ _).setCell _ _).setCell _ _).setCell _ _ = w9 at *
    exact bodyPost_ret (v := .tuple #[.agg #[.int .i64 0, .string ⟨#[]⟩, .bool false, .slice none 0 0, .slice none 0 0, .slice none 0 0, .int .i64 0], .bool false]) (by simp [results, Tryz.results36, go_sem, l0, l1, l2, l3, l4, l5, l6]) rfl
     ⟨0, ⟨#[]⟩, false, none, 0, 0, none, 0, 0, none, 0, 0, 0, false, rfl, HG6.out, OkP.no ⟨j, 4, j, HRM.out, hjj, by rw [HTJ.out]; exact HC6.out⟩⟩
   ·have hdp : ¬ (20 : Int) < dep := hd20
    have HCON := hid (HCON.out (by omega))
    have HRM : Hid (aR = cR) := hid (haR.out.2.2.2 (by omega) hn hk0)
    go_upto_region 10 with (go_at_call 68; (with_reducible refine HKD2.out.mono ?_); rintro e w4 ⟨rfl, hg⟩; have HW0 := HW; replace x1 := hg.cell x1 (by simp); replace B6 := hid (keepB B6.out hg); replace HT := hid (HT.out.keep hg); replace HW := hid (grown_trans HW.out (grown_some hg _)); replace NUX := hid (nux_keep HXS.out HW0.out NUX.out hg); replace HC := hid (HC.out.keep hg); clear HW0; replace t1 := hg.cell t1 (by simp); replace t3 := hg.cell t3 (by simp); clear hg)
    have HCN := hid (HCON.out (fun k => X k ∨ k = w.heap.size + 1) w4 (fun k hk => by have h1 := lt_of_block B6.out; have h2 := HW.out.size; rcases hk with h | h; have := HXS.out k h; omega; omega) (.inl HXB.out) HT.out (fun k hk => by rcases hk with h | rfl; exact NUX.out k h; exact nu7 B6.out) HC.out (HIK.out w4 HW.out))
    go_wp2_with (go_at_call 71; (with_reducible refine HCN.out.mono ?_); rintro e wf ⟨y1, y2, y3, s1, r1, k1, s2, r2, k2, s3, r3, k3, y7, ok, rfl, hg, hO⟩; have HO := hid hO; have HWf := hid (grown_trans HW.out hg); have B6x := (hg.block _ (lt_of_block B6.out) (by simp; omega)).trans B6.out; clear hg hO; obtain ⟨⟨z0, z1, z2, z3, z4, z5, z6⟩, y0, q1, q2, q3, q4, q5, q6⟩ := box7 B6x)
    have gS := set7_gr wf (w.heap.size + 1) (.int .i64 y1) (.string y2) (.bool y3) (.slice s1 r1 k1) (.slice s2 r2 k2) (.slice s3 r3 k3) (.int .i64 y7)
    have hb6 := set7_blk B6x (.int .i64 y1) (.string y2) (.bool y3) (.slice s1 r1 k1) (.slice s2 r2 k2) (.slice s3 r3 k3) (.int .i64 y7)
    have HG6 := hid (grown_newr HWf.out gS (by omega))
    have HO6 : Hid (OkP ok (fun w' => ∃ t j', cR = .ok t j' ∧ j' < L.length ∧ ERdX X w' (m + 1) [.int .i64 y1, .string y2, .bool y3, .slice s1 r1 k1, .slice s2 r2 k2, .slice s3 r3 k3, .int .i64 y7] t ∧ CurAt w' b p c L j' at' er) (fun w' => ∃ j' er' nx, cR = .bad j' er' ∧ j' < L.length ∧ CurAt w' b p c L nx (tk L j').pos er') (((((((wf.setCell ⟨w.heap.size + 1, 0, none⟩ (.int .i64 y1)).setCell ⟨w.heap.size + 1, 1, none⟩ (.string y2)).setCell ⟨w.heap.size + 1, 2, none⟩ (.bool y3)).setCell ⟨w.heap.size + 1, 3, none⟩ (.slice s1 r1 k1)).setCell ⟨w.heap.size + 1, 4, none⟩ (.slice s2 r2 k2)).setCell ⟨w.heap.size + 1, 5, none⟩ (.slice s3 r3 k3)).setCell ⟨w.heap.size + 1, 6, none⟩ (.int .i64 y7))) := hid (con_end HO.out gS (by omega) (fun q hq => by have := HPT.out q hq; omega))
    obtain ⟨⟨l0, l1, l2, l3, l4, l5, l6⟩, -⟩ := box7 hb6
    clear gS hb6 z0 z1 z2 z3 z4 z5 z6 y0 q1 q2 q3 q4 q5 q6 B6x
    generalize ((((((wf.setCell _ _).setCell _ _).setCell _ _).setCell _ _).setCell _ _).setCell _ _).setCell _ _ = w9 at *
    rw [HRM.out]
    exact bodyPost_ret (v := .tuple #[.agg #[.int .i64 y1, .string y2, .bool y3, .slice s1 r1 k1, .slice s2 r2 k2, .slice s3 r3 k3, .int .i64 y7], .bool ok]) (by simp [results, Tryz.results36, go_sem, l0, l1, l2, l3, l4, l5, l6]) rfl
     ⟨y1, y2, y3, s1, r1, k1, s2, r2, k2, s3, r3, k3, y7, ok, rfl, HG6.out, HO6.out⟩
 | true =>
  have hn := hnn
  have hnk : ¬ (isN t = false ∧ kk = 0) := fun h => by rw [hn] at h; cases h.1
  clear hnn
  by_cases hd20 : dep > 20
  ·have hdp : (20 : Int) < dep := hd20
   have HRM : Hid (aR = .bad j 4) := hid (haR.out.2.1 hnk hd20)
   have hjj := hj
   go_upto_region 6 with fail
   have HFL := hid (curFail_any HC.out t.pos 4)
   obtain ⟨⟨z0, z1, z2, z3, z4, z5, z6⟩, y0, y1, y2, y3, y4, y5, y6⟩ := box7 B6.out
   go_wp2_with (go_at_call 70; (with_reducible refine HFL.out.mono ?_); rintro e wf ⟨rfl, hc, hg⟩; clear z0 z1 z2 z3 z4 z5 z6 y0 y1 y2 y3 y4 y5 y6; have HW0 := HW; replace x1 := hg.cell x1 (by simp; omega); replace B6 := hid ((hg.block _ (lt_of_block B6.out) (by simp; omega)).trans B6.out); replace HT := hid (Tb.keptb HT.out HC.out hg); replace HW := hid (grown_trans HW.out hg); replace NUX := hid (nux_cur HXS.out HW0.out NUX.out hg (CurAt.nu (show CurAt wf b p c L j t.pos 4 from hc))); replace HC := hid (show CurAt wf b p c L j t.pos 4 from hc); clear HW0; clear hg hc; obtain ⟨⟨z0, z1, z2, z3, z4, z5, z6⟩, y0, y1, y2, y3, y4, y5, y6⟩ := box7 B6.out)
   have hb6 := set7_blk B6.out (.int .i64 0) (.string ⟨#[]⟩) (.bool false) (.slice none 0 0) (.slice none 0 0) (.slice none 0 0) (.int .i64 0)
   have gS := set7_gr wf (w.heap.size + 1) (.int .i64 0) (.string ⟨#[]⟩) (.bool false) (.slice none 0 0) (.slice none 0 0) (.slice none 0 0) (.int .i64 0)
   have HC6 := hid (HC.out.keptr gS (by simp; omega) (fun q hq => by have := HPT.out q hq; simp; omega))
   have NU6 := hid (nux_own HXS.out HW.out NUX.out gS (by omega))
   have HG6 := hid (grown_newr HW.out gS (by omega))
   obtain ⟨⟨l0, l1, l2, l3, l4, l5, l6⟩, -⟩ := box7 hb6
   clear gS hb6
   clear z0 z1 z2 z3 z4 z5 z6 y0 y1 y2 y3 y4 y5 y6
   generalize ((((((wf.setCell _ _).setCell _ _).setCell _ _).setCell _ _).setCell _ _).setCell _ _).setCell _ _ = w9 at *
   exact bodyPost_ret (v := .tuple #[.agg #[.int .i64 0, .string ⟨#[]⟩, .bool false, .slice none 0 0, .slice none 0 0, .slice none 0 0, .int .i64 0], .bool false]) (by simp [results, Tryz.results36, go_sem, l0, l1, l2, l3, l4, l5, l6]) rfl
    ⟨0, ⟨#[]⟩, false, none, 0, 0, none, 0, 0, none, 0, 0, 0, false, rfl, HG6.out, OkP.no ⟨j, 4, j, HRM.out, hjj, by rw [HTJ.out]; exact HC6.out⟩⟩
  ·have hdp : ¬ (20 : Int) < dep := hd20
   have HRM : Hid (aR = .ok (leaf t) (j + 1)) := hid (haR.out.2.2.1 (by omega) hn)
   have hj1 : j + 1 < L.length := HLK.out.next hj (by rw [HTJ.out]; exact isN_ne hn)
   have HNX := hid (HC.out.nexti (j + 1) ((j : Int) + 1) (by omega))
   go_upto_region 8 with fail
   obtain ⟨⟨k0, k1, k2, k3⟩, f0, f1, f2, f3⟩ := box4 HC.out.box
   go_upto_region 9 with fail
   have gS := grown_setCell w3 ⟨b, 1, none⟩ (.int .i64 ((j : Int) + 1))
   have HW0 := HW
   replace x1 := gS.cell x1 (by simp; omega)
   replace B6 := hid ((gS.block _ (lt_of_block B6.out) (by simp; omega)).trans B6.out)
   replace HT := hid (Tb.keptb HT.out HC.out gS)
   replace HW := hid (grown_trans HW.out gS)
   replace NUX := hid (nux_cur HXS.out HW0.out NUX.out gS (CurAt.nu HNX.out))
   replace HC := hid HNX.out
   replace t1 := gS.cell t1 (by simp; omega)
   replace t3 := gS.cell t3 (by simp; omega)
   clear HW0
   clear gS k0 k1 k2 k3 f0 f1 f2 f3 HNX
   generalize (w3.setCell _ _) = wf at *
   obtain ⟨⟨z0, z1, z2, z3, z4, z5, z6⟩, y0, y1, y2, y3, y4, y5, y6⟩ := box7 B6.out
   go_wp2_with fail
   have hb6 := set7_blk B6.out (.int .i64 1) (.string t.d) (.bool false) (.slice none 0 0) (.slice none 0 0) (.slice none 0 0) (.int .i64 t.pos)
   have gS := set7_gr wf (w.heap.size + 1) (.int .i64 1) (.string t.d) (.bool false) (.slice none 0 0) (.slice none 0 0) (.slice none 0 0) (.int .i64 t.pos)
   have HC6 := hid (HC.out.keptr gS (by simp; omega) (fun q hq => by have := HPT.out q hq; simp; omega))
   have NU6 := hid (nux_own HXS.out HW.out NUX.out gS (by omega))
   have HG6 := hid (grown_newr HW.out gS (by omega))
   obtain ⟨⟨l0, l1, l2, l3, l4, l5, l6⟩, -⟩ := box7 hb6
   clear gS hb6
   clear z0 z1 z2 z3 z4 z5 z6 y0 y1 y2 y3 y4 y5 y6
   generalize ((((((wf.setCell _ _).setCell _ _).setCell _ _).setCell _ _).setCell _ _).setCell _ _).setCell _ _ = w9 at *
   exact bodyPost_ret (v := .tuple #[.agg #[.int .i64 1, .string t.d, .bool false, .slice none 0 0, .slice none 0 0, .slice none 0 0, .int .i64 t.pos], .bool true]) (by simp [results, Tryz.results36, go_sem, l0, l1, l2, l3, l4, l5, l6]) rfl
    ⟨1, t.d, false, none, 0, 0, none, 0, 0, none, 0, 0, t.pos, true, rfl, HG6.out, OkP.yes ⟨leaf t, j + 1, by first | rfl | exact HRM.out, hj1, leaf_rd HTS.out, HC6.out⟩⟩
theorem argC_any {L : List Tok} (hL : LkOk L) : ∀ (f : Nat) (dep : Int), dep = 21 - (f : Int) → f ≤ 21 → ArgC (argM rqV L f) dep L f
 | 0, dep, hd, _ => fun w X b p c at' er j xs q n d hX hXb hT hNU hC hj hI hqb => by
  have h := arg_any (m := 0) (dep := dep) hL (by omega) (by omega) w hT X b p c at' er j xs q n d hX hXb hNU hC hj hI hqb (argM rqV L 0 j xs) (.bad 0 0)
   ⟨fun h => if_pos h, fun h _ => if_neg h, fun h => absurd (show dep > 20 by omega) h, fun h => absurd (show dep > 20 by omega) h⟩ (fun h => absurd (show dep > 20 by omega) h)
  refine h.mono ?_
  rintro e w' ⟨y1, y2, y3, s1, r1, t1, s2, r2, t2, s3, r3, t3, y7, ok, he, hg, hO⟩
  refine ⟨y1, y2, y3, s1, r1, t1, s2, r2, t2, s3, r3, t3, y7, ok, he, hg, ?_⟩
  cases ok with
  | true =>
   obtain ⟨t, j', h1, _⟩ := hO.get rfl
   unfold argM at h1
   split at h1 <;> cases h1
  | false => exact OkP.no (hO.bad (by simp))
 | f + 1, dep, hd, hf => fun w X b p c at' er j xs q n d hX hXb hT hNU hC hj hI hqb =>
  arg_any (m := f) (dep := dep) hL (by omega) (by omega) w hT X b p c at' er j xs q n d hX hXb hNU hC hj hI hqb (argM rqV L (f + 1) j xs) (conM rqV (argM rqV L f) L j xs)
   ⟨fun h => if_pos h, fun _ h => absurd h (by omega), fun _ h => by unfold argM; rw [if_neg (fun h' => by rw [h] at h'; cases h'.1), if_pos h], fun _ h h2 => by unfold argM; rw [if_neg (fun h' => h2 h'.2), if_neg (by rw [h]; simp)]⟩
   (fun _ Y W hY hYb hTW hNW hCW hIW => con_any hL (argC_any hL f (dep + 1) (by omega) (by omega)) (by omega) (by omega) W hTW Y b p c at' er j xs q n d hY hYb hNW hCW hj hIW hqb)
end Go.Proofs.YtjpkncgfpbhnaaaGreatDoor
