/-
  PdA PdB PdC PdD PdE, in one text.
-/
import Derived.Test.YtjpkncgfpbhnaaaGreatDoorMrP
import Derived.Test.YtjpkncgfpbhnaaaGreatDoorMrL
import Derived.Test.YtjpkncgfpbhnaaaGreatDoorMrS
import Derived.Test.YtjpkncgfpbhnaaaGreatDoorMrO
set_option linter.unusedVariables false
set_option linter.unusedSimpArgs false
set_option maxRecDepth 100000
namespace Go.Proofs.YtjpkncgfpbhnaaaGreatDoor
open Go.RowKit _root_.Nm Lx Px
set_option maxHeartbeats 16000000 in
theorem rNum_any {t : Tok} (hT : TkOk t) (h2 : t.k = 2) (w : World) :
    Calls Tryz.prog 165 #[.agg #[.int .i64 t.k, .int .i64 t.pos, .int .i64 t.en, .string t.d]] w (VPost w (rqV t.d.data.toList) 260) := by
  obtain ⟨wB, hwB⟩ : ∃ wB, wB = (w.alloc (.cells #[.int .i64 t.k, .int .i64 t.pos, .int .i64 t.en, .string t.d] 76 (0, 0))).alloc (.cells #[.bool false, .slice none 0 0, .slice none 0 0] 35 (0, 0)) := ⟨_, rfl⟩
  have gB : w.grownBy wB none := by rw [hwB]; exact grown_trans (World.grownBy_alloc _ _ _) (World.grownBy_alloc _ _ _)
  have b1 : wB.heap[w.heap.size]? = some (.cells #[.int .i64 t.k, .int .i64 t.pos, .int .i64 t.en, .string t.d] 76 (0, 0)) := by rw [hwB]; exact keepB (blk0 w _) (World.grownBy_alloc _ _ _)
  have b2 : wB.heap[w.heap.size + 1]? = some (.cells #[.bool false, .slice none 0 0, .slice none 0 0] 35 (0, 0)) := by
    rw [hwB]
    have := blk0 (w.alloc (.cells #[.int .i64 t.k, .int .i64 t.pos, .int .i64 t.en, .string t.d] 76 (0, 0))) (.cells #[.bool false, .slice none 0 0, .slice none 0 0] 35 (0, 0))
    simpa using this
  obtain ⟨hnl, hn1⟩ := hT.nb h2
  have hne := hT.ne (by omega)
  have HQ0 := hid (rq_num hnl hne hn1)
  have HRQ := hid (rRatRead_any t.d t.d.data.toList rfl (by rw [Lib.size_eq]; omega) wB)
  have HGB := hid gB
  have hsB : w.heap.size + 2 ≤ wB.heap.size := by rw [hwB]; simp
  have B2 := hid b2
  obtain ⟨⟨x0, x1, x2, x3⟩, -⟩ := box4 b1
  replace hwB := hid hwB
  clear hnl hn1 hne hT h2 gB b1 b2 x0 x1 x2
  go_enter Tryz.func165, Tryz.ntmps165
  go_upto_region 1 with fail
  rw [← hwB.out]
  go_upto_region 2 with (go_at_call 204; (with_reducible refine HRQ.out.mono ?_); rintro e w4 hq; have hq2 := hq.2 HQ0.out; clear hq; obtain ⟨g, p1, n1, c1, p2, n2, c2, rfl, hV, hn1, hn2, hg⟩ := hq2; have HV := hid hV; have HG4 := hid hg; clear hV hg x3; obtain ⟨i0, i1, i2, f0, f1, f2⟩ := ratbox_facts (blk0 w4 (.cells #[.bool false, .slice none 0 0, .slice none 0 0] 35 (0, 0))))
  clear i0 i1 i2 f0 f1 f2
  have gR := World.grownBy_alloc w4 (.cells #[.bool g, .slice p1 n1 c1, .slice p2 n2 c2] 35 (0, 0)) none
  have B5 := blk0 w4 (.cells #[.bool g, .slice p1 n1 c1, .slice p2 n2 c2] 35 (0, 0))
  have hs4 := HG4.out.size
  have HG5 := hid (grown_trans HG4.out gR)
  replace HV := hid (HV.out.keep gR)
  clear gR HG4
  generalize w4.heap.size = K5 at *
  generalize (w4.alloc _) = w5 at *
  obtain ⟨u0, u1, u2, -, -, -⟩ := ratbox_facts B5
  have BB := keepB B2.out HG5.out
  have HBB := hid BB
  obtain ⟨z0, z1, z2, y0, y1, y2⟩ := ratbox_facts BB
  clear BB B5 B2
  have HCL := hid (VPost.close HBB.out (by omega) (grown_trans HGB.out HG5.out) HV.out hn1 hn2)
  obtain ⟨l0, l1, l2, -, -, -⟩ := ratbox_facts (set3_all3 HBB.out (.bool g) (.slice p1 n1 c1) (.slice p2 n2 c2))
  clear HBB
  go_wp2_with fail
  exact bodyPost_ret (v := .agg #[.bool g, .slice p1 n1 c1, .slice p2 n2 c2]) (by simp [results, Tryz.results165, go_sem, l0, l1, l2]) rfl HCL.out
theorem tok_cells {w : World} {g o c : Nat} {L : List Tok} (h : TokRd w (some ⟨g, o, none⟩) c L) {nx : Nat} (hn : nx < L.length) : w.cell? ⟨g, o + nx * 4, none⟩ = some (.int .i64 (tk L nx).k) ∧ w.cell? ⟨g, o + nx * 4 + 1, none⟩ = some (.int .i64 (tk L nx).pos) ∧ w.cell? ⟨g, o + nx * 4 + 2, none⟩ = some (.int .i64 (tk L nx).en) ∧ w.cell? ⟨g, o + nx * 4 + 3, none⟩ = some (.string (tk L nx).d) := by
 obtain ⟨g', o', e, h0, h1, h2, h3⟩ := tok_at h hn
 cases e
 rw [tk_at hn]
 exact ⟨h0, h1, h2, h3⟩
theorem rExp_any {p : Option Addr} {c : Nat} {L : List Tok} (hL : LkOk L) {i : Nat} {w : World} (h : TokRd w p c L) (hi : i < L.length) (s : ByteArray) (hs : s.size ≠ 0) (f : Bool) (hf : decide ((tk L i).d = s) = f) :
  Calls Tryz.prog 66 #[.slice p L.length c, .int .i64 i, .string s] w fun e w' => e = .returned (.tuple #[.int .i64 ((if f = true then i + 1 else i : Nat)), .int .i64 (if f = true then 0 else 5)]) ∧ w.grownBy w' none := by
 have hlen := hL.len
 have hT := hL.ok i hi
 rw [tk_at hi] at hf
 have := rExpect_any h hi (by omega) s (decide ((L[i]).k = 0)) (decide ((L[i]).d = s)) decide_eq_true_iff decide_eq_true_iff
 have hb : (!(decide ((L[i]).k = 0)) && decide ((L[i]).d = s)) = f := by
  rw [hf]
  cases f with
  | false => simp
  | true =>
   have h0 : (L[i]).k ≠ 0 := fun e => by
    have h1 := of_decide_eq_true hf
    rw [hT.z e] at h1
    rw [← h1] at hs
    exact hs rfl
   simp [h0]
 rw [hb] at this
 exact this
def RrP (B : Nat) (w : World) (r : Rs Rat) (e : Ending) (w' : World) : Prop :=
 ∃ (g : Bool) (p : Option Addr) (n c : Nat) (q : Option Addr) (m d : Nat) (j : Nat) (x : Int), e = .returned (.tuple #[.agg #[.bool g, .slice p n c, .slice q m d], .int .i64 j, .int .i64 x]) ∧ w.grownBy w' none ∧
  ((x = 0 ∧ ∃ v, r = .ok v j ∧ IsV w' g p n c q m d v ∧ n ≤ B ∧ m ≤ B) ∨ (x ≠ 0 ∧ r = .bad j x))
theorem RrP.bad {B G : Nat} {w w5 : World} {r : Rs Rat} {j : Nat} {x : Int} (a b c : Value) (hg : w.grownBy w5 none) (hG : w.heap.size ≤ G) (h : r = .bad j x) (hx : x ≠ 0) :
  RrP B w r (.returned (.tuple #[.agg #[.bool false, .slice none 0 0, .slice none 0 0], .int .i64 j, .int .i64 x])) (((w5.setCell ⟨G, 0, none⟩ a).setCell ⟨G, 1, none⟩ b).setCell ⟨G, 2, none⟩ c) :=
 ⟨false, none, 0, 0, none, 0, 0, j, x, rfl, grown_new hg (set3_grown w5 G a b c) (fun g e => by cases e; exact hG), .inr ⟨hx, h⟩⟩
theorem RrP.ok {B G : Nat} {w w5 : World} {r : Rs Rat} {j : Nat} {x : Bool} {y z : Option Addr} {a b e f : Nat} {T : TypeId} {g : Bool} {p q : Option Addr} {n c m d : Nat} {v : Rat}
  (hW : w5.heap[G]? = some (.cells #[.bool x, .slice y a b, .slice z e f] T (0, 0))) (hG : w.heap.size ≤ G) (hg : w.grownBy w5 none) (h1 : IsV w5 g p n c q m d v) (hn : n ≤ B) (hm : m ≤ B) (h : r = .ok v j) :
  RrP B w r (.returned (.tuple #[.agg #[.bool g, .slice p n c, .slice q m d], .int .i64 j, .int .i64 0])) (((w5.setCell ⟨G, 0, none⟩ (.bool g)).setCell ⟨G, 1, none⟩ (.slice p n c)).setCell ⟨G, 2, none⟩ (.slice q m d)) := by
 have hs := set3_grown w5 G (.bool g) (.slice p n c) (.slice q m d)
 exact ⟨g, p, n, c, q, m, d, j, 0, rfl, grown_new hg hs (fun g e => by cases e; exact hG), .inl ⟨rfl, v, h, ⟨⟨IsC.other3 h1.1.1 hW hs, h1.1.2⟩, h1.2.other3 hW hs⟩, hn, hm⟩⟩
set_option maxHeartbeats 64000000 in
theorem rRat_any {p : Option Addr} {c : Nat} {L : List Tok} (hL : LkOk L) {i : Nat} {w : World} (h : TokRd w p c L) (hi : i < L.length) :
  Calls Tryz.prog 123 #[.slice p L.length c, .int .i64 i] w (RrP 2300 w (ratM rqV L i)) := by
 obtain ⟨g, o, rfl, -, -, -, -⟩ := tok_at h hi
 have hlen := hL.len
 have hcap := SRd.cap h
 have hmax := SRd.max h
 obtain ⟨wB, hwB⟩ : ∃ wB, wB = w.alloc (.cells #[.bool false, .slice none 0 0, .slice none 0 0] 35 (0, 0)) := ⟨_, rfl⟩
 have gB : w.grownBy wB none := by rw [hwB]; exact World.grownBy_alloc _ _ _
 have BR : Hid (wB.heap[w.heap.size]? = some (.cells #[.bool false, .slice none 0 0, .slice none 0 0] 35 (0, 0))) := hid (by rw [hwB]; exact blk0 w _)
 have HTR := hid h
 have HW := hid gB
 have HLK := hid hL
 obtain ⟨f1, hf1⟩ : ∃ f1, decide ((tk L i).d = sComma) = f1 := ⟨_, rfl⟩
 have HEX := hid (rExp_any hL (h.keep gB) hi ⟨#[44]⟩ (by decide) f1 hf1)
 have HF1 := hid hf1
 replace hwB := hid hwB
 clear h gB hL hf1
 have HSZ := hid (Nat.le_refl w.heap.size)
 cases f1 with
 | false =>
  have HRM : Hid (ratM rqV L i = .bad i 5) := hid (by unfold ratM expM; rw [if_neg (of_decide_eq_false HF1.out)]; rfl)
  go_enter Tryz.func123, Tryz.ntmps123
  go_upto_region 1 with fail
  rw [← hwB.out]
  go_upto_region 3 with (go_at_call 66; (with_reducible refine HEX.out.mono ?_); rintro e w1 ⟨rfl, hg⟩; replace HW := hid (grown_trans HW.out hg); replace BR := hid (keepB BR.out hg); clear hg)
  obtain ⟨z0, z1, z2, y0, y1, y2⟩ := ratbox_facts BR.out
  have HP := hid (RrP.bad (B := 2300) (.bool false) (.slice none 0 0) (.slice none 0 0) HW.out HSZ.out (HRM.out) (by decide))
  obtain ⟨l0, l1, l2, -, -, -⟩ := ratbox_facts (set3_all3 BR.out (.bool false) (.slice none 0 0) (.slice none 0 0))
  go_wp2_with fail
  exact bodyPost_ret (v := .tuple #[.agg #[.bool false, .slice none 0 0, .slice none 0 0], .int .i64 i, .int .i64 5]) (by simp [results, Tryz.results123, go_sem, l0, l1, l2]) rfl HP.out
 | true =>
  obtain ⟨i1, hi1⟩ : ∃ i1, i + 1 = i1 := ⟨_, rfl⟩
  simp only [↓reduceIte] at HEX
  rw [hi1] at HEX
  have hd1 := of_decide_eq_true HF1.out
  have hl1 : i1 < L.length := by rw [← hi1]; exact HLK.out.next hi (by rw [hd1]; decide)
  have hm1 : ratM rqV L i = ratS rqV L (decide ((tk L i1).d = sMinus)) (if decide ((tk L i1).d = sMinus) = true then i1 + 1 else i1) := by rw [ratM_eq]; unfold expM; rw [if_pos hd1, hi1]; rfl
  obtain ⟨f2, hf2⟩ : ∃ f2, decide ((tk L i1).d = sMinus) = f2 := ⟨_, rfl⟩
  rw [hf2] at hm1
  have q1 : ((tk L i1).d.toList == ([45] : List UInt8)) = f2 := by rw [← hf2, Bool.eq_iff_iff, beq_iff_eq, decide_eq_true_iff]; rw [show ([45] : List UInt8) = sMinus.toList from by rw [Lib.toList_data]; rfl]; exact bytes_inj
  have HM1 := hid hm1
  have HF2 := hid hf2
  clear hi1 hd1 hm1 hf2
  cases f2 with
  | false =>
   have HM2 : Hid (ratM rqV L i = ratS rqV L false i1) := hid (by rw [HM1.out]; rfl)
   clear HM1
   go_enter Tryz.func123, Tryz.ntmps123
   go_upto_region 1 with fail
   rw [← hwB.out]
   go_upto_region 4 with (go_at_call 66; (with_reducible refine HEX.out.mono ?_); rintro e w1 ⟨rfl, hg⟩; replace HW := hid (grown_trans HW.out hg); replace BR := hid (keepB BR.out hg); clear hg; obtain ⟨t0, t1, t2, t3⟩ := tok_cells (HTR.out.keep HW.out) hl1)
   go_upto_region 5 with fail
   clear t0 t1 t2 t3 q1
   obtain ⟨t0, t1, t2, t3⟩ := tok_cells (HTR.out.keep HW.out) hl1
   by_cases hk : (tk L i1).k = 2
   ·have hTj : TkOk (tk L i1) := by rw [tk_at hl1]; exact HLK.out.ok i1 hl1
    have hk3 : ((tk L i1).k : Int) = 2 := by omega
    have HNB : Hid (Calls Tryz.prog 165 #[.agg #[.int .i64 2, .int .i64 (tk L i1).pos, .int .i64 (tk L i1).en, .string (tk L i1).d]] w1 (VPost w1 (rqV (tk L i1).d.data.toList) 260)) := hid (by have := rNum_any hTj hk w1; rw [hk] at this; exact this)
    obtain ⟨j1, hj1⟩ : ∃ j1, i1 + 1 = j1 := ⟨_, rfl⟩
    have hlj1 : j1 < L.length := by rw [← hj1]; exact HLK.out.next hl1 (hTj.ne (by omega))
    have ej1 : (i1 : Int) + 1 = (j1 : Int) := by omega
    obtain ⟨f3, hf3⟩ : ∃ f3, decide ((tk L j1).d = sSlash) = f3 := ⟨_, rfl⟩
    have q3 : ((tk L j1).d.toList == ([47] : List UInt8)) = f3 := by rw [← hf3, Bool.eq_iff_iff, beq_iff_eq, decide_eq_true_iff]; rw [show ([47] : List UInt8) = sSlash.toList from by rw [Lib.toList_data]; rfl]; exact bytes_inj
    have q3n : ((tk L j1).d.toList != ([47] : List UInt8)) = !f3 := by rw [bne, q3]
    have HM3 : Hid (ratM rqV L i = if f3 = true then (quoM rqV L (rqV (tk L i1).d.data.toList) (j1 + 1)).map fun x => if false = true then -x else x else .ok (if false = true then -(rqV (tk L i1).d.data.toList) else (rqV (tk L i1).d.data.toList)) j1) := hid (by rw [HM2.out]; unfold ratS numM; rw [if_pos hk, hj1]; show (if (tk L j1).d = sSlash then _ else _) = _; cases f3 with | true => rw [if_pos (of_decide_eq_true hf3)]; rfl | false => rw [if_neg (of_decide_eq_false hf3)]; rfl)
    have HF3 := hid hf3
    clear hf3 hj1 HM2 hTj
    rw [hk3] at t0
    generalize (rqV (tk L i1).d.data.toList) = v at *
    go_upto_region 10 with (go_at_call 165; (with_reducible refine HNB.out.mono ?_); rintro e w2 ⟨ga, pa, na, ca, qa, ma, da, rfl, hV, hn1, hn2, hg⟩; have HV := hid hV; replace HW := hid (grown_trans HW.out hg); replace BR := hid (keepB BR.out hg); clear hV hg t0 t1 t2 t3; obtain ⟨i0, i1', i2, f0, f1', f2'⟩ := ratbox_facts (blk0 w2 (.cells #[.bool false, .slice none 0 0, .slice none 0 0] 35 (0, 0))))
    clear i0 i1' i2 f0 f1' f2'
    have hK9 := lt_of_block BR.out
    have gR := World.grownBy_alloc w2 (.cells #[.bool ga, .slice pa na ca, .slice qa ma da] 35 (0, 0)) none
    have B9 := hid (blk0 w2 (.cells #[.bool ga, .slice pa na ca, .slice qa ma da] 35 (0, 0)))
    replace HW := hid (grown_trans HW.out gR)
    replace BR := hid (keepB BR.out gR)
    replace HV := hid (HV.out.keep gR)
    clear gR HNB
    generalize w2.heap.size = K9 at *
    generalize (w2.alloc _) = w3 at *
    obtain ⟨t0, t1, t2, t3⟩ := tok_cells (HTR.out.keep HW.out) hlj1
    cases f3 with
    | false =>
     have HRM : Hid (ratM rqV L i = .ok v j1) := hid (by rw [HM3.out]; rfl)
     obtain ⟨x0, x1, x2, -, -, -⟩ := ratbox_facts B9.out
     obtain ⟨z0, z1, z2, y0, y1, y2⟩ := ratbox_facts BR.out
     have HP := hid (RrP.ok (B := 2300) BR.out HSZ.out HW.out HV.out (by omega) (by omega) HRM.out)
     obtain ⟨l0, l1, l2, -, -, -⟩ := ratbox_facts (set3_all3 BR.out (.bool ga) (.slice pa na ca) (.slice qa ma da))
     go_wp2_with fail
     exact bodyPost_ret (v := .tuple #[.agg #[.bool ga, .slice pa na ca, .slice qa ma da], .int .i64 j1, .int .i64 0]) (by simp [results, Tryz.results123, go_sem, l0, l1, l2]) rfl HP.out
    | true =>
     obtain ⟨j2, hj2⟩ : ∃ j2, j1 + 1 = j2 := ⟨_, rfl⟩
     have hlj2 : j2 < L.length := by rw [← hj2]; exact HLK.out.next hlj1 (by rw [of_decide_eq_true HF3.out]; decide)
     have ej2 : (j1 : Int) + 1 = (j2 : Int) := by omega
     have HM4 : Hid (ratM rqV L i = (quoM rqV L v j2).map fun x => if false = true then -x else x) := hid (by rw [HM3.out, ← hj2]; rfl)
     clear hj2 HM3
     go_upto_region 16 with fail
     clear t0 t1 t2 t3 q3 q3n
     obtain ⟨t0, t1, t2, t3⟩ := tok_cells (HTR.out.keep HW.out) hlj2
     by_cases hkk : (tk L j2).k = 2
     ·have hTu : TkOk (tk L j2) := by rw [tk_at hlj2]; exact HLK.out.ok j2 hlj2
      have hku : ((tk L j2).k : Int) = 2 := by omega
      have HNU : Hid (∀ W, Calls Tryz.prog 165 #[.agg #[.int .i64 2, .int .i64 (tk L j2).pos, .int .i64 (tk L j2).en, .string (tk L j2).d]] W (VPost W (rqV (tk L j2).d.data.toList) 260)) := hid fun W => by have := rNum_any hTu hkk W; rw [hkk] at this; exact this
      have HM5 : Hid (ratM rqV L i = (if (rqV (tk L j2).d.data.toList) = 0 then .bad j2 3 else .ok (v / (rqV (tk L j2).d.data.toList)) (j2 + 1) : Rs Rat).map fun x => if false = true then -x else x) := hid (by rw [HM4.out]; unfold quoM numM; rw [if_pos hkk]; rfl)
      clear HM4 hTu
      rw [hku] at t0
      generalize (rqV (tk L j2).d.data.toList) = u at *
      obtain ⟨j3, hj3⟩ : ∃ j3, j2 + 1 = j3 := ⟨_, rfl⟩
      have ej3 : (j2 : Int) + 1 = (j3 : Int) := by omega
      rw [hj3] at HM5
      clear hj3
      go_upto_region 18 with fail
      obtain ⟨x0, x1, x2, -, -, -⟩ := ratbox_facts B9.out
      by_cases hu : u = 0
      ·have HCS := hid fun W (hSw : w3.grownBy W none) => And.intro (hSw.cell x0 (by simp)) (And.intro (hSw.cell x1 (by simp)) (And.intro (hSw.cell x2 (by simp)) (And.intro (hSw.cell t0 (by simp)) (And.intro (hSw.cell t1 (by simp)) (And.intro (hSw.cell t2 (by simp)) (hSw.cell t3 (by simp)))))))
       refine wp_region_noPanic ?_
       refine wp_region_held_drew (S := (fun W' => w3.grownBy W' none)) (by kernel_rfl) ?_ (fun hHeld => ?_)
       ·(try dsimp only)
        exact grown_drew _ none
       have hgg := grown_drew w3 none
       generalize w3.drew = wd at *
       refine tkH (v := ?_) 0 rfl hHeld ?_ ?_; rotate_left 1
       ·intro W hSw; obtain ⟨s0, s1, s2, r0, r1, r2, r3⟩ := HCS.out W hSw; go_simp; (try (with_reducible rfl))
       (try simp only [Act.put, pu1, pu2, pu3])
       refine tkH (v := ?_) 1 rfl hHeld ?_ ?_; rotate_left 1
       ·intro W hSw; obtain ⟨s0, s1, s2, r0, r1, r2, r3⟩ := HCS.out W hSw; go_simp; (try (with_reducible rfl))
       (try simp only [Act.put, pu1, pu2, pu3])
       refine tkH (v := ?_) 2 rfl hHeld ?_ ?_; rotate_left 1
       ·intro W hSw; obtain ⟨s0, s1, s2, r0, r1, r2, r3⟩ := HCS.out W hSw; go_simp; (try (with_reducible rfl))
       (try simp only [Act.put, pu1, pu2, pu3])
       refine tkH (v := ?_) 3 rfl hHeld ?_ ?_; rotate_left 1
       ·intro W hSw; obtain ⟨s0, s1, s2, r0, r1, r2, r3⟩ := HCS.out W hSw; go_simp; (try (with_reducible rfl))
       (try simp only [Act.put, pu1, pu2, pu3])
       refine tkH (v := ?_) 4 rfl hHeld ?_ ?_; rotate_left 1
       ·intro W hSw; obtain ⟨s0, s1, s2, r0, r1, r2, r3⟩ := HCS.out W hSw; go_simp; (try (with_reducible rfl))
       (try simp only [Act.put, pu1, pu2, pu3])
       refine wpAnyH_ready (rs := [5, 10]) (by kernel_rfl) (by simp) ?_
       refine AllReadyH.cons (o := Oper.mk _ _ _ _ _ _) rfl (fun K hK => ?_) ?_
       ·(try rw [if_pos (by kernel_rfl)])
        go_simp
        go_at_call 165
        (with_reducible refine (HNU.out _).mono ?_)
        rintro e wy1 ⟨gu, pu, nu, cu, qu, mu, du, rfl, hVu, hnu, hmu, hgS⟩
        replace hgg := grown_trans hgg hgS
        refine hK.out _ _ ?_ (fun hNew => ?_)
        ·first | with_reducible exact hHeld | with_reducible exact grown_trans hHeld hgS | exact grown_new hHeld hgS (fun g e => by cases e; exact hleK10)
        clear hK K hHeld
        have hHeld := hNew
        clear hNew
        (try simp only [Act.put, pu1, pu2, pu3])
        clear hgS
        refine wpAnyH_ready (rs := [6, 10]) (by kernel_rfl) (by simp) ?_
        refine AllReadyH.cons (o := Oper.mk _ _ _ _ _ _) rfl (fun K hK => ?_) ?_
        ·(try rw [if_pos (by kernel_rfl)])
         go_simp
         go_at_call 167
         (with_reducible refine (rDiv3_e 264 (HV.out.keep hgg).q hVu.q hu (by omega) (by omega) (by omega) (by omega) (by decide)).mono ?_)
         rintro e wy2 ⟨rfl, hgS⟩
         replace hgg := grown_trans hgg hgS
         replace hVu := hVu.keep hgS
         refine hK.out _ _ ?_ (fun hNew => ?_)
         ·first | with_reducible exact hHeld | with_reducible exact grown_trans hHeld hgS | exact grown_new hHeld hgS (fun g e => by cases e; exact hleK10)
         clear hK K hHeld
         have hHeld := hNew
         clear hNew
         (try simp only [Act.put, pu1, pu2, pu3])
         clear hgS
         refine tkH (v := ?_) 7 rfl hHeld ?_ ?_; rotate_left 1
         ·intro W hSw; obtain ⟨s0, s1, s2, r0, r1, r2, r3⟩ := HCS.out W hSw; go_simp; (try (with_reducible rfl))
         (try simp only [Act.put, pu1, pu2, pu3])
         refine tkH (v := ?_) 8 rfl hHeld ?_ ?_; rotate_left 1
         ·intro W hSw; obtain ⟨s0, s1, s2, r0, r1, r2, r3⟩ := HCS.out W hSw; go_simp; (try (with_reducible rfl))
         (try simp only [Act.put, pu1, pu2, pu3])
         refine tkH (v := ?_) 9 rfl hHeld ?_ ?_; rotate_left 1
         ·intro W hSw; obtain ⟨s0, s1, s2, r0, r1, r2, r3⟩ := HCS.out W hSw; go_simp; (try (with_reducible rfl))
         (try simp only [Act.put, pu1, pu2, pu3])
         refine wpAnyH_ready (rs := [10]) (by kernel_rfl) (by simp) ?_
         refine aR1 rfl fun K hK => ?_
         (try rw [if_pos (by kernel_rfl)])
         go_simp
         have hgS := World.grownBy_alloc wy2 (.cells #[.bool false, .slice none 0 0, .slice none 0 0] 35 (0, 0)) none
         have hb10 := blk0 wy2 (.cells #[.bool false, .slice none 0 0, .slice none 0 0] 35 (0, 0))
         have hleK10 := hgg.size
         replace hgg := grown_trans hgg hgS
         replace hVu := hVu.keep hgS
         refine hK.out _ _ ?_ (fun hNew => ?_)
         ·first | with_reducible exact hHeld | with_reducible exact grown_trans hHeld hgS | exact grown_new hHeld hgS (fun g e => by cases e; exact hleK10)
         clear hK K hHeld
         have hHeld := hNew
         clear hNew
         (try simp only [Act.put, pu1, pu2, pu3])
         generalize wy2.heap.size = K10 at *
         generalize wy2.alloc _ = wy3 at *
         clear hgS
         refine wpAnyH_ready (rs := [11]) (by kernel_rfl) (by simp) ?_
         refine aR1 rfl fun K hK => ?_
         (try rw [if_pos (by kernel_rfl)])
         obtain ⟨z0, z1, z2, y0, y1, y2⟩ := ratbox_facts hb10
         go_simp
         have hgS := set3_grown wy3 K10 (.bool false) (.slice none 0 0) (.slice none 0 0)
         have hbE := set3_all3 hb10 (.bool false) (.slice none 0 0) (.slice none 0 0)
         clear z0 z1 z2 y0 y1 y2
         refine hK.out _ _ ?_ (fun hNew => ?_)
         ·first | with_reducible exact hHeld | with_reducible exact grown_trans hHeld hgS | exact grown_new hHeld hgS (fun g e => by cases e; exact hleK10)
         clear hK K hHeld
         have hHeld := hNew
         clear hNew
         (try simp only [Act.put, pu1, pu2, pu3])
         refine tkH (v := ?_) 12 rfl hHeld ?_ ?_; rotate_left 1
         ·intro W hSw; obtain ⟨s0, s1, s2, r0, r1, r2, r3⟩ := HCS.out W hSw; go_simp; (try (with_reducible rfl))
         (try simp only [Act.put, pu1, pu2, pu3])
         refine wpAnyH_done (by kernel_rfl) ?_ _
         refine NoPanic.normal ?_
         have HG7 := hid (grown_new hgg hgS (fun g e => by cases e; exact hleK10))
         have BR := hid (keepB BR.out HG7.out)
         have HW := hid (grown_trans HW.out HG7.out)
         have HB10 := hid hbE
         clear hHeld hgS hb10 hbE hgg x0 x1 x2 t0 t1 t2 t3
         generalize ((wy3.setCell _ _).setCell _ _).setCell _ _ = wE at *
         have HRM : Hid (ratM rqV L i = .bad j2 3) := hid (by rw [HM5.out, if_pos hu]; rfl)
         obtain ⟨z0, z1, z2, y0, y1, y2⟩ := ratbox_facts BR.out
         have HP := hid (RrP.bad (B := 2300) (.bool false) (.slice none 0 0) (.slice none 0 0) HW.out HSZ.out (HRM.out) (by decide))
         obtain ⟨l0, l1, l2, -, -, -⟩ := ratbox_facts (set3_all3 BR.out (.bool false) (.slice none 0 0) (.slice none 0 0))
         go_wp2_with fail
         exact bodyPost_ret (v := .tuple #[.agg #[.bool false, .slice none 0 0, .slice none 0 0], .int .i64 j2, .int .i64 3]) (by simp [results, Tryz.results123, go_sem, l0, l1, l2]) rfl HP.out
        refine aR1 rfl fun K hK => ?_
        (try rw [if_pos (by kernel_rfl)])
        go_simp
        have hgS := World.grownBy_alloc wy1 (.cells #[.bool false, .slice none 0 0, .slice none 0 0] 35 (0, 0)) none
        have hb10 := blk0 wy1 (.cells #[.bool false, .slice none 0 0, .slice none 0 0] 35 (0, 0))
        have hleK10 := hgg.size
        replace hgg := grown_trans hgg hgS
        replace hVu := hVu.keep hgS
        refine hK.out _ _ ?_ (fun hNew => ?_)
        ·first | with_reducible exact hHeld | with_reducible exact grown_trans hHeld hgS | exact grown_new hHeld hgS (fun g e => by cases e; exact hleK10)
        clear hK K hHeld
        have hHeld := hNew
        clear hNew
        (try simp only [Act.put, pu1, pu2, pu3])
        generalize wy1.heap.size = K10 at *
        generalize wy1.alloc _ = wy2 at *
        clear hgS
        refine wpAnyH_ready (rs := [6]) (by kernel_rfl) (by simp) ?_
        refine aR1 rfl fun K hK => ?_
        (try rw [if_pos (by kernel_rfl)])
        go_simp
        go_at_call 167
        (with_reducible refine (rDiv3_e 264 (HV.out.keep hgg).q hVu.q hu (by omega) (by omega) (by omega) (by omega) (by decide)).mono ?_)
        rintro e wy3 ⟨rfl, hgS⟩
        replace hgg := grown_trans hgg hgS
        replace hVu := hVu.keep hgS
        replace hb10 := keepB hb10 hgS
        refine hK.out _ _ ?_ (fun hNew => ?_)
        ·first | with_reducible exact hHeld | with_reducible exact grown_trans hHeld hgS | exact grown_new hHeld hgS (fun g e => by cases e; exact hleK10)
        clear hK K hHeld
        have hHeld := hNew
        clear hNew
        (try simp only [Act.put, pu1, pu2, pu3])
        clear hgS
        refine tkH (v := ?_) 7 rfl hHeld ?_ ?_; rotate_left 1
        ·intro W hSw; obtain ⟨s0, s1, s2, r0, r1, r2, r3⟩ := HCS.out W hSw; go_simp; (try (with_reducible rfl))
        (try simp only [Act.put, pu1, pu2, pu3])
        refine tkH (v := ?_) 8 rfl hHeld ?_ ?_; rotate_left 1
        ·intro W hSw; obtain ⟨s0, s1, s2, r0, r1, r2, r3⟩ := HCS.out W hSw; go_simp; (try (with_reducible rfl))
        (try simp only [Act.put, pu1, pu2, pu3])
        refine tkH (v := ?_) 9 rfl hHeld ?_ ?_; rotate_left 1
        ·intro W hSw; obtain ⟨s0, s1, s2, r0, r1, r2, r3⟩ := HCS.out W hSw; go_simp; (try (with_reducible rfl))
        (try simp only [Act.put, pu1, pu2, pu3])
        refine wpAnyH_ready (rs := [11]) (by kernel_rfl) (by simp) ?_
        refine aR1 rfl fun K hK => ?_
        (try rw [if_pos (by kernel_rfl)])
        obtain ⟨z0, z1, z2, y0, y1, y2⟩ := ratbox_facts hb10
        go_simp
        have hgS := set3_grown wy3 K10 (.bool false) (.slice none 0 0) (.slice none 0 0)
        have hbE := set3_all3 hb10 (.bool false) (.slice none 0 0) (.slice none 0 0)
        clear z0 z1 z2 y0 y1 y2
        refine hK.out _ _ ?_ (fun hNew => ?_)
        ·first | with_reducible exact hHeld | with_reducible exact grown_trans hHeld hgS | exact grown_new hHeld hgS (fun g e => by cases e; exact hleK10)
        clear hK K hHeld
        have hHeld := hNew
        clear hNew
        (try simp only [Act.put, pu1, pu2, pu3])
        refine tkH (v := ?_) 12 rfl hHeld ?_ ?_; rotate_left 1
        ·intro W hSw; obtain ⟨s0, s1, s2, r0, r1, r2, r3⟩ := HCS.out W hSw; go_simp; (try (with_reducible rfl))
        (try simp only [Act.put, pu1, pu2, pu3])
        refine wpAnyH_done (by kernel_rfl) ?_ _
        refine NoPanic.normal ?_
        have HG7 := hid (grown_new hgg hgS (fun g e => by cases e; exact hleK10))
        have BR := hid (keepB BR.out HG7.out)
        have HW := hid (grown_trans HW.out HG7.out)
        have HB10 := hid hbE
        clear hHeld hgS hb10 hbE hgg x0 x1 x2 t0 t1 t2 t3
        generalize ((wy3.setCell _ _).setCell _ _).setCell _ _ = wE at *
        have HRM : Hid (ratM rqV L i = .bad j2 3) := hid (by rw [HM5.out, if_pos hu]; rfl)
        obtain ⟨z0, z1, z2, y0, y1, y2⟩ := ratbox_facts BR.out
        have HP := hid (RrP.bad (B := 2300) (.bool false) (.slice none 0 0) (.slice none 0 0) HW.out HSZ.out (HRM.out) (by decide))
        obtain ⟨l0, l1, l2, -, -, -⟩ := ratbox_facts (set3_all3 BR.out (.bool false) (.slice none 0 0) (.slice none 0 0))
        go_wp2_with fail
        exact bodyPost_ret (v := .tuple #[.agg #[.bool false, .slice none 0 0, .slice none 0 0], .int .i64 j2, .int .i64 3]) (by simp [results, Tryz.results123, go_sem, l0, l1, l2]) rfl HP.out
       refine aR1 rfl fun K hK => ?_
       (try rw [if_pos (by kernel_rfl)])
       go_simp
       have hgS := World.grownBy_alloc wd (.cells #[.bool false, .slice none 0 0, .slice none 0 0] 35 (0, 0)) none
       have hb10 := blk0 wd (.cells #[.bool false, .slice none 0 0, .slice none 0 0] 35 (0, 0))
       have hleK10 := hgg.size
       replace hgg := grown_trans hgg hgS
       refine hK.out _ _ ?_ (fun hNew => ?_)
       ·first | with_reducible exact hHeld | with_reducible exact grown_trans hHeld hgS | exact grown_new hHeld hgS (fun g e => by cases e; exact hleK10)
       clear hK K hHeld
       have hHeld := hNew
       clear hNew
       (try simp only [Act.put, pu1, pu2, pu3])
       generalize wd.heap.size = K10 at *
       generalize wd.alloc _ = wy1 at *
       clear hgS
       refine wpAnyH_ready (rs := [5]) (by kernel_rfl) (by simp) ?_
       refine aR1 rfl fun K hK => ?_
       (try rw [if_pos (by kernel_rfl)])
       go_simp
       go_at_call 165
       (with_reducible refine (HNU.out _).mono ?_)
       rintro e wy2 ⟨gu, pu, nu, cu, qu, mu, du, rfl, hVu, hnu, hmu, hgS⟩
       replace hgg := grown_trans hgg hgS
       replace hb10 := keepB hb10 hgS
       refine hK.out _ _ ?_ (fun hNew => ?_)
       ·first | with_reducible exact hHeld | with_reducible exact grown_trans hHeld hgS | exact grown_new hHeld hgS (fun g e => by cases e; exact hleK10)
       clear hK K hHeld
       have hHeld := hNew
       clear hNew
       (try simp only [Act.put, pu1, pu2, pu3])
       clear hgS
       refine wpAnyH_ready (rs := [6]) (by kernel_rfl) (by simp) ?_
       refine aR1 rfl fun K hK => ?_
       (try rw [if_pos (by kernel_rfl)])
       go_simp
       go_at_call 167
       (with_reducible refine (rDiv3_e 264 (HV.out.keep hgg).q hVu.q hu (by omega) (by omega) (by omega) (by omega) (by decide)).mono ?_)
       rintro e wy3 ⟨rfl, hgS⟩
       replace hgg := grown_trans hgg hgS
       replace hb10 := keepB hb10 hgS
       replace hVu := hVu.keep hgS
       refine hK.out _ _ ?_ (fun hNew => ?_)
       ·first | with_reducible exact hHeld | with_reducible exact grown_trans hHeld hgS | exact grown_new hHeld hgS (fun g e => by cases e; exact hleK10)
       clear hK K hHeld
       have hHeld := hNew
       clear hNew
       (try simp only [Act.put, pu1, pu2, pu3])
       clear hgS
       refine tkH (v := ?_) 7 rfl hHeld ?_ ?_; rotate_left 1
       ·intro W hSw; obtain ⟨s0, s1, s2, r0, r1, r2, r3⟩ := HCS.out W hSw; go_simp; (try (with_reducible rfl))
       (try simp only [Act.put, pu1, pu2, pu3])
       refine tkH (v := ?_) 8 rfl hHeld ?_ ?_; rotate_left 1
       ·intro W hSw; obtain ⟨s0, s1, s2, r0, r1, r2, r3⟩ := HCS.out W hSw; go_simp; (try (with_reducible rfl))
       (try simp only [Act.put, pu1, pu2, pu3])
       refine tkH (v := ?_) 9 rfl hHeld ?_ ?_; rotate_left 1
       ·intro W hSw; obtain ⟨s0, s1, s2, r0, r1, r2, r3⟩ := HCS.out W hSw; go_simp; (try (with_reducible rfl))
       (try simp only [Act.put, pu1, pu2, pu3])
       refine wpAnyH_ready (rs := [11]) (by kernel_rfl) (by simp) ?_
       refine aR1 rfl fun K hK => ?_
       (try rw [if_pos (by kernel_rfl)])
       obtain ⟨z0, z1, z2, y0, y1, y2⟩ := ratbox_facts hb10
       go_simp
       have hgS := set3_grown wy3 K10 (.bool false) (.slice none 0 0) (.slice none 0 0)
       have hbE := set3_all3 hb10 (.bool false) (.slice none 0 0) (.slice none 0 0)
       clear z0 z1 z2 y0 y1 y2
       refine hK.out _ _ ?_ (fun hNew => ?_)
       ·first | with_reducible exact hHeld | with_reducible exact grown_trans hHeld hgS | exact grown_new hHeld hgS (fun g e => by cases e; exact hleK10)
       clear hK K hHeld
       have hHeld := hNew
       clear hNew
       (try simp only [Act.put, pu1, pu2, pu3])
       refine tkH (v := ?_) 12 rfl hHeld ?_ ?_; rotate_left 1
       ·intro W hSw; obtain ⟨s0, s1, s2, r0, r1, r2, r3⟩ := HCS.out W hSw; go_simp; (try (with_reducible rfl))
       (try simp only [Act.put, pu1, pu2, pu3])
       refine wpAnyH_done (by kernel_rfl) ?_ _
       refine NoPanic.normal ?_
       have HG7 := hid (grown_new hgg hgS (fun g e => by cases e; exact hleK10))
       have BR := hid (keepB BR.out HG7.out)
       have HW := hid (grown_trans HW.out HG7.out)
       have HB10 := hid hbE
       clear hHeld hgS hb10 hbE hgg x0 x1 x2 t0 t1 t2 t3
       generalize ((wy3.setCell _ _).setCell _ _).setCell _ _ = wE at *
       have HRM : Hid (ratM rqV L i = .bad j2 3) := hid (by rw [HM5.out, if_pos hu]; rfl)
       obtain ⟨z0, z1, z2, y0, y1, y2⟩ := ratbox_facts BR.out
       have HP := hid (RrP.bad (B := 2300) (.bool false) (.slice none 0 0) (.slice none 0 0) HW.out HSZ.out (HRM.out) (by decide))
       obtain ⟨l0, l1, l2, -, -, -⟩ := ratbox_facts (set3_all3 BR.out (.bool false) (.slice none 0 0) (.slice none 0 0))
       go_wp2_with fail
       exact bodyPost_ret (v := .tuple #[.agg #[.bool false, .slice none 0 0, .slice none 0 0], .int .i64 j2, .int .i64 3]) (by simp [results, Tryz.results123, go_sem, l0, l1, l2]) rfl HP.out
      ·have HCS := hid fun W (hSw : w3.grownBy W none) => And.intro (hSw.cell x0 (by simp)) (And.intro (hSw.cell x1 (by simp)) (And.intro (hSw.cell x2 (by simp)) (And.intro (hSw.cell t0 (by simp)) (And.intro (hSw.cell t1 (by simp)) (And.intro (hSw.cell t2 (by simp)) (hSw.cell t3 (by simp)))))))
       refine wp_region_noPanic ?_
       refine wp_region_held_drew (S := (fun W' => w3.grownBy W' none)) (by kernel_rfl) ?_ (fun hHeld => ?_)
       ·(try dsimp only)
        exact grown_drew _ none
       have hgg := grown_drew w3 none
       generalize w3.drew = wd at *
       refine tkH (v := ?_) 0 rfl hHeld ?_ ?_; rotate_left 1
       ·intro W hSw; obtain ⟨s0, s1, s2, r0, r1, r2, r3⟩ := HCS.out W hSw; go_simp; (try (with_reducible rfl))
       (try simp only [Act.put, pu1, pu2, pu3])
       refine tkH (v := ?_) 1 rfl hHeld ?_ ?_; rotate_left 1
       ·intro W hSw; obtain ⟨s0, s1, s2, r0, r1, r2, r3⟩ := HCS.out W hSw; go_simp; (try (with_reducible rfl))
       (try simp only [Act.put, pu1, pu2, pu3])
       refine tkH (v := ?_) 2 rfl hHeld ?_ ?_; rotate_left 1
       ·intro W hSw; obtain ⟨s0, s1, s2, r0, r1, r2, r3⟩ := HCS.out W hSw; go_simp; (try (with_reducible rfl))
       (try simp only [Act.put, pu1, pu2, pu3])
       refine tkH (v := ?_) 3 rfl hHeld ?_ ?_; rotate_left 1
       ·intro W hSw; obtain ⟨s0, s1, s2, r0, r1, r2, r3⟩ := HCS.out W hSw; go_simp; (try (with_reducible rfl))
       (try simp only [Act.put, pu1, pu2, pu3])
       refine tkH (v := ?_) 4 rfl hHeld ?_ ?_; rotate_left 1
       ·intro W hSw; obtain ⟨s0, s1, s2, r0, r1, r2, r3⟩ := HCS.out W hSw; go_simp; (try (with_reducible rfl))
       (try simp only [Act.put, pu1, pu2, pu3])
       refine wpAnyH_ready (rs := [5, 10]) (by kernel_rfl) (by simp) ?_
       refine AllReadyH.cons (o := Oper.mk _ _ _ _ _ _) rfl (fun K hK => ?_) ?_
       ·(try rw [if_pos (by kernel_rfl)])
        go_simp
        go_at_call 165
        (with_reducible refine (HNU.out _).mono ?_)
        rintro e wy1 ⟨gu, pu, nu, cu, qu, mu, du, rfl, hVu, hnu, hmu, hgS⟩
        replace hgg := grown_trans hgg hgS
        refine hK.out _ _ ?_ (fun hNew => ?_)
        ·first | with_reducible exact hHeld | with_reducible exact grown_trans hHeld hgS | exact grown_new hHeld hgS (fun g e => by cases e; exact hleK10)
        clear hK K hHeld
        have hHeld := hNew
        clear hNew
        (try simp only [Act.put, pu1, pu2, pu3])
        clear hgS
        refine wpAnyH_ready (rs := [6, 10]) (by kernel_rfl) (by simp) ?_
        refine AllReadyH.cons (o := Oper.mk _ _ _ _ _ _) rfl (fun K hK => ?_) ?_
        ·(try rw [if_pos (by kernel_rfl)])
         go_simp
         go_at_call 167
         (with_reducible refine (rDiv3_v 264 (HV.out.keep hgg).q hVu.q hu (by omega) (by omega) (by omega) (by omega) (by decide)).mono ?_)
         rintro e wy2 ⟨gd, pd, nd, cd, qd, md, dd, rfl, hVd, hnd, hmd, hgS⟩
         replace hgg := grown_trans hgg hgS
         replace hVu := hVu.keep hgS
         refine hK.out _ _ ?_ (fun hNew => ?_)
         ·first | with_reducible exact hHeld | with_reducible exact grown_trans hHeld hgS | exact grown_new hHeld hgS (fun g e => by cases e; exact hleK10)
         clear hK K hHeld
         have hHeld := hNew
         clear hNew
         (try simp only [Act.put, pu1, pu2, pu3])
         clear hgS
         refine tkH (v := ?_) 7 rfl hHeld ?_ ?_; rotate_left 1
         ·intro W hSw; obtain ⟨s0, s1, s2, r0, r1, r2, r3⟩ := HCS.out W hSw; go_simp; (try (with_reducible rfl))
         (try simp only [Act.put, pu1, pu2, pu3])
         refine tkH (v := ?_) 8 rfl hHeld ?_ ?_; rotate_left 1
         ·intro W hSw; obtain ⟨s0, s1, s2, r0, r1, r2, r3⟩ := HCS.out W hSw; go_simp; (try (with_reducible rfl))
         (try simp only [Act.put, pu1, pu2, pu3])
         refine tkH (v := ?_) 9 rfl hHeld ?_ ?_; rotate_left 1
         ·intro W hSw; obtain ⟨s0, s1, s2, r0, r1, r2, r3⟩ := HCS.out W hSw; go_simp; (try (with_reducible rfl))
         (try simp only [Act.put, pu1, pu2, pu3])
         refine wpAnyH_ready (rs := [10]) (by kernel_rfl) (by simp) ?_
         refine aR1 rfl fun K hK => ?_
         (try rw [if_pos (by kernel_rfl)])
         go_simp
         have hgS := World.grownBy_alloc wy2 (.cells #[.bool false, .slice none 0 0, .slice none 0 0] 35 (0, 0)) none
         have hb10 := blk0 wy2 (.cells #[.bool false, .slice none 0 0, .slice none 0 0] 35 (0, 0))
         have hleK10 := hgg.size
         replace hgg := grown_trans hgg hgS
         replace hVu := hVu.keep hgS
         replace hVd := hVd.keep hgS
         refine hK.out _ _ ?_ (fun hNew => ?_)
         ·first | with_reducible exact hHeld | with_reducible exact grown_trans hHeld hgS | exact grown_new hHeld hgS (fun g e => by cases e; exact hleK10)
         clear hK K hHeld
         have hHeld := hNew
         clear hNew
         (try simp only [Act.put, pu1, pu2, pu3])
         generalize wy2.heap.size = K10 at *
         generalize wy2.alloc _ = wy3 at *
         clear hgS
         refine wpAnyH_ready (rs := [11]) (by kernel_rfl) (by simp) ?_
         refine aR1 rfl fun K hK => ?_
         (try rw [if_pos (by kernel_rfl)])
         obtain ⟨z0, z1, z2, y0, y1, y2⟩ := ratbox_facts hb10
         go_simp
         have hgS := set3_grown wy3 K10 (.bool gd) (.slice pd nd cd) (.slice qd md dd)
         have hbE := set3_all3 hb10 (.bool gd) (.slice pd nd cd) (.slice qd md dd)
         clear z0 z1 z2 y0 y1 y2
         refine hK.out _ _ ?_ (fun hNew => ?_)
         ·first | with_reducible exact hHeld | with_reducible exact grown_trans hHeld hgS | exact grown_new hHeld hgS (fun g e => by cases e; exact hleK10)
         clear hK K hHeld
         have hHeld := hNew
         clear hNew
         (try simp only [Act.put, pu1, pu2, pu3])
         refine tkH (v := ?_) 12 rfl hHeld ?_ ?_; rotate_left 1
         ·intro W hSw; obtain ⟨s0, s1, s2, r0, r1, r2, r3⟩ := HCS.out W hSw; go_simp; (try (with_reducible rfl))
         (try simp only [Act.put, pu1, pu2, pu3])
         refine wpAnyH_done (by kernel_rfl) ?_ _
         refine NoPanic.normal ?_
         have HV7 := hid (hVd.keptb (NU.of hb10 noh3) hgS)
         have HG7 := hid (grown_new hgg hgS (fun g e => by cases e; exact hleK10))
         have BR := hid (keepB BR.out HG7.out)
         have HW := hid (grown_trans HW.out HG7.out)
         have HB10 := hid hbE
         clear hHeld hgS hb10 hbE hgg x0 x1 x2 t0 t1 t2 t3
         generalize ((wy3.setCell _ _).setCell _ _).setCell _ _ = wE at *
         have HRM : Hid (ratM rqV L i = .ok (v / u) j3) := hid (by rw [HM5.out, if_neg hu]; rfl)
         obtain ⟨x0, x1, x2, -, -, -⟩ := ratbox_facts HB10.out
         obtain ⟨z0, z1, z2, y0, y1, y2⟩ := ratbox_facts BR.out
         have HP := hid (RrP.ok (B := 2300) BR.out HSZ.out HW.out HV7.out (by omega) (by omega) HRM.out)
         obtain ⟨l0, l1, l2, -, -, -⟩ := ratbox_facts (set3_all3 BR.out (.bool gd) (.slice pd nd cd) (.slice qd md dd))
         go_wp2_with fail
         exact bodyPost_ret (v := .tuple #[.agg #[.bool gd, .slice pd nd cd, .slice qd md dd], .int .i64 j3, .int .i64 0]) (by simp [results, Tryz.results123, go_sem, l0, l1, l2]) rfl HP.out
        refine aR1 rfl fun K hK => ?_
        (try rw [if_pos (by kernel_rfl)])
        go_simp
        have hgS := World.grownBy_alloc wy1 (.cells #[.bool false, .slice none 0 0, .slice none 0 0] 35 (0, 0)) none
        have hb10 := blk0 wy1 (.cells #[.bool false, .slice none 0 0, .slice none 0 0] 35 (0, 0))
        have hleK10 := hgg.size
        replace hgg := grown_trans hgg hgS
        replace hVu := hVu.keep hgS
        refine hK.out _ _ ?_ (fun hNew => ?_)
        ·first | with_reducible exact hHeld | with_reducible exact grown_trans hHeld hgS | exact grown_new hHeld hgS (fun g e => by cases e; exact hleK10)
        clear hK K hHeld
        have hHeld := hNew
        clear hNew
        (try simp only [Act.put, pu1, pu2, pu3])
        generalize wy1.heap.size = K10 at *
        generalize wy1.alloc _ = wy2 at *
        clear hgS
        refine wpAnyH_ready (rs := [6]) (by kernel_rfl) (by simp) ?_
        refine aR1 rfl fun K hK => ?_
        (try rw [if_pos (by kernel_rfl)])
        go_simp
        go_at_call 167
        (with_reducible refine (rDiv3_v 264 (HV.out.keep hgg).q hVu.q hu (by omega) (by omega) (by omega) (by omega) (by decide)).mono ?_)
        rintro e wy3 ⟨gd, pd, nd, cd, qd, md, dd, rfl, hVd, hnd, hmd, hgS⟩
        replace hgg := grown_trans hgg hgS
        replace hVu := hVu.keep hgS
        replace hb10 := keepB hb10 hgS
        refine hK.out _ _ ?_ (fun hNew => ?_)
        ·first | with_reducible exact hHeld | with_reducible exact grown_trans hHeld hgS | exact grown_new hHeld hgS (fun g e => by cases e; exact hleK10)
        clear hK K hHeld
        have hHeld := hNew
        clear hNew
        (try simp only [Act.put, pu1, pu2, pu3])
        clear hgS
        refine tkH (v := ?_) 7 rfl hHeld ?_ ?_; rotate_left 1
        ·intro W hSw; obtain ⟨s0, s1, s2, r0, r1, r2, r3⟩ := HCS.out W hSw; go_simp; (try (with_reducible rfl))
        (try simp only [Act.put, pu1, pu2, pu3])
        refine tkH (v := ?_) 8 rfl hHeld ?_ ?_; rotate_left 1
        ·intro W hSw; obtain ⟨s0, s1, s2, r0, r1, r2, r3⟩ := HCS.out W hSw; go_simp; (try (with_reducible rfl))
        (try simp only [Act.put, pu1, pu2, pu3])
        refine tkH (v := ?_) 9 rfl hHeld ?_ ?_; rotate_left 1
        ·intro W hSw; obtain ⟨s0, s1, s2, r0, r1, r2, r3⟩ := HCS.out W hSw; go_simp; (try (with_reducible rfl))
        (try simp only [Act.put, pu1, pu2, pu3])
        refine wpAnyH_ready (rs := [11]) (by kernel_rfl) (by simp) ?_
        refine aR1 rfl fun K hK => ?_
        (try rw [if_pos (by kernel_rfl)])
        obtain ⟨z0, z1, z2, y0, y1, y2⟩ := ratbox_facts hb10
        go_simp
        have hgS := set3_grown wy3 K10 (.bool gd) (.slice pd nd cd) (.slice qd md dd)
        have hbE := set3_all3 hb10 (.bool gd) (.slice pd nd cd) (.slice qd md dd)
        clear z0 z1 z2 y0 y1 y2
        refine hK.out _ _ ?_ (fun hNew => ?_)
        ·first | with_reducible exact hHeld | with_reducible exact grown_trans hHeld hgS | exact grown_new hHeld hgS (fun g e => by cases e; exact hleK10)
        clear hK K hHeld
        have hHeld := hNew
        clear hNew
        (try simp only [Act.put, pu1, pu2, pu3])
        refine tkH (v := ?_) 12 rfl hHeld ?_ ?_; rotate_left 1
        ·intro W hSw; obtain ⟨s0, s1, s2, r0, r1, r2, r3⟩ := HCS.out W hSw; go_simp; (try (with_reducible rfl))
        (try simp only [Act.put, pu1, pu2, pu3])
        refine wpAnyH_done (by kernel_rfl) ?_ _
        refine NoPanic.normal ?_
        have HV7 := hid (hVd.keptb (NU.of hb10 noh3) hgS)
        have HG7 := hid (grown_new hgg hgS (fun g e => by cases e; exact hleK10))
        have BR := hid (keepB BR.out HG7.out)
        have HW := hid (grown_trans HW.out HG7.out)
        have HB10 := hid hbE
        clear hHeld hgS hb10 hbE hgg x0 x1 x2 t0 t1 t2 t3
        generalize ((wy3.setCell _ _).setCell _ _).setCell _ _ = wE at *
        have HRM : Hid (ratM rqV L i = .ok (v / u) j3) := hid (by rw [HM5.out, if_neg hu]; rfl)
        obtain ⟨x0, x1, x2, -, -, -⟩ := ratbox_facts HB10.out
        obtain ⟨z0, z1, z2, y0, y1, y2⟩ := ratbox_facts BR.out
        have HP := hid (RrP.ok (B := 2300) BR.out HSZ.out HW.out HV7.out (by omega) (by omega) HRM.out)
        obtain ⟨l0, l1, l2, -, -, -⟩ := ratbox_facts (set3_all3 BR.out (.bool gd) (.slice pd nd cd) (.slice qd md dd))
        go_wp2_with fail
        exact bodyPost_ret (v := .tuple #[.agg #[.bool gd, .slice pd nd cd, .slice qd md dd], .int .i64 j3, .int .i64 0]) (by simp [results, Tryz.results123, go_sem, l0, l1, l2]) rfl HP.out
       refine aR1 rfl fun K hK => ?_
       (try rw [if_pos (by kernel_rfl)])
       go_simp
       have hgS := World.grownBy_alloc wd (.cells #[.bool false, .slice none 0 0, .slice none 0 0] 35 (0, 0)) none
       have hb10 := blk0 wd (.cells #[.bool false, .slice none 0 0, .slice none 0 0] 35 (0, 0))
       have hleK10 := hgg.size
       replace hgg := grown_trans hgg hgS
       refine hK.out _ _ ?_ (fun hNew => ?_)
       ·first | with_reducible exact hHeld | with_reducible exact grown_trans hHeld hgS | exact grown_new hHeld hgS (fun g e => by cases e; exact hleK10)
       clear hK K hHeld
       have hHeld := hNew
       clear hNew
       (try simp only [Act.put, pu1, pu2, pu3])
       generalize wd.heap.size = K10 at *
       generalize wd.alloc _ = wy1 at *
       clear hgS
       refine wpAnyH_ready (rs := [5]) (by kernel_rfl) (by simp) ?_
       refine aR1 rfl fun K hK => ?_
       (try rw [if_pos (by kernel_rfl)])
       go_simp
       go_at_call 165
       (with_reducible refine (HNU.out _).mono ?_)
       rintro e wy2 ⟨gu, pu, nu, cu, qu, mu, du, rfl, hVu, hnu, hmu, hgS⟩
       replace hgg := grown_trans hgg hgS
       replace hb10 := keepB hb10 hgS
       refine hK.out _ _ ?_ (fun hNew => ?_)
       ·first | with_reducible exact hHeld | with_reducible exact grown_trans hHeld hgS | exact grown_new hHeld hgS (fun g e => by cases e; exact hleK10)
       clear hK K hHeld
       have hHeld := hNew
       clear hNew
       (try simp only [Act.put, pu1, pu2, pu3])
       clear hgS
       refine wpAnyH_ready (rs := [6]) (by kernel_rfl) (by simp) ?_
       refine aR1 rfl fun K hK => ?_
       (try rw [if_pos (by kernel_rfl)])
       go_simp
       go_at_call 167
       (with_reducible refine (rDiv3_v 264 (HV.out.keep hgg).q hVu.q hu (by omega) (by omega) (by omega) (by omega) (by decide)).mono ?_)
       rintro e wy3 ⟨gd, pd, nd, cd, qd, md, dd, rfl, hVd, hnd, hmd, hgS⟩
       replace hgg := grown_trans hgg hgS
       replace hb10 := keepB hb10 hgS
       replace hVu := hVu.keep hgS
       refine hK.out _ _ ?_ (fun hNew => ?_)
       ·first | with_reducible exact hHeld | with_reducible exact grown_trans hHeld hgS | exact grown_new hHeld hgS (fun g e => by cases e; exact hleK10)
       clear hK K hHeld
       have hHeld := hNew
       clear hNew
       (try simp only [Act.put, pu1, pu2, pu3])
       clear hgS
       refine tkH (v := ?_) 7 rfl hHeld ?_ ?_; rotate_left 1
       ·intro W hSw; obtain ⟨s0, s1, s2, r0, r1, r2, r3⟩ := HCS.out W hSw; go_simp; (try (with_reducible rfl))
       (try simp only [Act.put, pu1, pu2, pu3])
       refine tkH (v := ?_) 8 rfl hHeld ?_ ?_; rotate_left 1
       ·intro W hSw; obtain ⟨s0, s1, s2, r0, r1, r2, r3⟩ := HCS.out W hSw; go_simp; (try (with_reducible rfl))
       (try simp only [Act.put, pu1, pu2, pu3])
       refine tkH (v := ?_) 9 rfl hHeld ?_ ?_; rotate_left 1
       ·intro W hSw; obtain ⟨s0, s1, s2, r0, r1, r2, r3⟩ := HCS.out W hSw; go_simp; (try (with_reducible rfl))
       (try simp only [Act.put, pu1, pu2, pu3])
       refine wpAnyH_ready (rs := [11]) (by kernel_rfl) (by simp) ?_
       refine aR1 rfl fun K hK => ?_
       (try rw [if_pos (by kernel_rfl)])
       obtain ⟨z0, z1, z2, y0, y1, y2⟩ := ratbox_facts hb10
       go_simp
       have hgS := set3_grown wy3 K10 (.bool gd) (.slice pd nd cd) (.slice qd md dd)
       have hbE := set3_all3 hb10 (.bool gd) (.slice pd nd cd) (.slice qd md dd)
       clear z0 z1 z2 y0 y1 y2
       refine hK.out _ _ ?_ (fun hNew => ?_)
       ·first | with_reducible exact hHeld | with_reducible exact grown_trans hHeld hgS | exact grown_new hHeld hgS (fun g e => by cases e; exact hleK10)
       clear hK K hHeld
       have hHeld := hNew
       clear hNew
       (try simp only [Act.put, pu1, pu2, pu3])
       refine tkH (v := ?_) 12 rfl hHeld ?_ ?_; rotate_left 1
       ·intro W hSw; obtain ⟨s0, s1, s2, r0, r1, r2, r3⟩ := HCS.out W hSw; go_simp; (try (with_reducible rfl))
       (try simp only [Act.put, pu1, pu2, pu3])
       refine wpAnyH_done (by kernel_rfl) ?_ _
       refine NoPanic.normal ?_
       have HV7 := hid (hVd.keptb (NU.of hb10 noh3) hgS)
       have HG7 := hid (grown_new hgg hgS (fun g e => by cases e; exact hleK10))
       have BR := hid (keepB BR.out HG7.out)
       have HW := hid (grown_trans HW.out HG7.out)
       have HB10 := hid hbE
       clear hHeld hgS hb10 hbE hgg x0 x1 x2 t0 t1 t2 t3
       generalize ((wy3.setCell _ _).setCell _ _).setCell _ _ = wE at *
       have HRM : Hid (ratM rqV L i = .ok (v / u) j3) := hid (by rw [HM5.out, if_neg hu]; rfl)
       obtain ⟨x0, x1, x2, -, -, -⟩ := ratbox_facts HB10.out
       obtain ⟨z0, z1, z2, y0, y1, y2⟩ := ratbox_facts BR.out
       have HP := hid (RrP.ok (B := 2300) BR.out HSZ.out HW.out HV7.out (by omega) (by omega) HRM.out)
       obtain ⟨l0, l1, l2, -, -, -⟩ := ratbox_facts (set3_all3 BR.out (.bool gd) (.slice pd nd cd) (.slice qd md dd))
       go_wp2_with fail
       exact bodyPost_ret (v := .tuple #[.agg #[.bool gd, .slice pd nd cd, .slice qd md dd], .int .i64 j3, .int .i64 0]) (by simp [results, Tryz.results123, go_sem, l0, l1, l2]) rfl HP.out
     ·have hkn : ¬ (((tk L j2).k : Int) = 2) := by omega
      have HRM : Hid (ratM rqV L i = .bad j2 5) := hid (by rw [HM4.out]; unfold quoM numM; rw [if_neg hkk]; rfl)
      obtain ⟨z0, z1, z2, y0, y1, y2⟩ := ratbox_facts BR.out
      have HP := hid (RrP.bad (B := 2300) (.bool false) (.slice none 0 0) (.slice none 0 0) HW.out HSZ.out (HRM.out) (by decide))
      obtain ⟨l0, l1, l2, -, -, -⟩ := ratbox_facts (set3_all3 BR.out (.bool false) (.slice none 0 0) (.slice none 0 0))
      go_wp2_with fail
      exact bodyPost_ret (v := .tuple #[.agg #[.bool false, .slice none 0 0, .slice none 0 0], .int .i64 j2, .int .i64 5]) (by simp [results, Tryz.results123, go_sem, l0, l1, l2]) rfl HP.out
   ·have hk2 : ¬ (((tk L i1).k : Int) = 2) := by omega
    have HRM : Hid (ratM rqV L i = .bad i1 5) := hid (by rw [HM2.out]; unfold ratS numM; rw [if_neg hk]; rfl)
    obtain ⟨z0, z1, z2, y0, y1, y2⟩ := ratbox_facts BR.out
    have HP := hid (RrP.bad (B := 2300) (.bool false) (.slice none 0 0) (.slice none 0 0) HW.out HSZ.out (HRM.out) (by decide))
    obtain ⟨l0, l1, l2, -, -, -⟩ := ratbox_facts (set3_all3 BR.out (.bool false) (.slice none 0 0) (.slice none 0 0))
    go_wp2_with fail
    exact bodyPost_ret (v := .tuple #[.agg #[.bool false, .slice none 0 0, .slice none 0 0], .int .i64 i1, .int .i64 5]) (by simp [results, Tryz.results123, go_sem, l0, l1, l2]) rfl HP.out
  | true =>
   obtain ⟨j, hj⟩ : ∃ j, i1 + 1 = j := ⟨_, rfl⟩
   have HM2 : Hid (ratM rqV L i = ratS rqV L true j) := hid (by rw [HM1.out, ← hj]; rfl)
   clear HM1
   have hlj : j < L.length := by rw [← hj]; exact HLK.out.next hl1 (by rw [of_decide_eq_true HF2.out]; decide)
   have ej : (i1 : Int) + 1 = (j : Int) := by omega
   clear hj
   go_enter Tryz.func123, Tryz.ntmps123
   go_upto_region 1 with fail
   rw [← hwB.out]
   go_upto_region 4 with (go_at_call 66; (with_reducible refine HEX.out.mono ?_); rintro e w1 ⟨rfl, hg⟩; replace HW := hid (grown_trans HW.out hg); replace BR := hid (keepB BR.out hg); clear hg; obtain ⟨t0, t1, t2, t3⟩ := tok_cells (HTR.out.keep HW.out) hl1)
   go_upto_region 5 with fail
   go_upto_region 7 with fail
   clear t0 t1 t2 t3 q1
   obtain ⟨t0, t1, t2, t3⟩ := tok_cells (HTR.out.keep HW.out) hlj
   by_cases hk : (tk L j).k = 2
   ·have hTj : TkOk (tk L j) := by rw [tk_at hlj]; exact HLK.out.ok j hlj
    have hk3 : ((tk L j).k : Int) = 2 := by omega
    have HNB : Hid (Calls Tryz.prog 165 #[.agg #[.int .i64 2, .int .i64 (tk L j).pos, .int .i64 (tk L j).en, .string (tk L j).d]] w1 (VPost w1 (rqV (tk L j).d.data.toList) 260)) := hid (by have := rNum_any hTj hk w1; rw [hk] at this; exact this)
    obtain ⟨j1, hj1⟩ : ∃ j1, j + 1 = j1 := ⟨_, rfl⟩
    have hlj1 : j1 < L.length := by rw [← hj1]; exact HLK.out.next hlj (hTj.ne (by omega))
    have ej1 : (j : Int) + 1 = (j1 : Int) := by omega
    obtain ⟨f3, hf3⟩ : ∃ f3, decide ((tk L j1).d = sSlash) = f3 := ⟨_, rfl⟩
    have q3 : ((tk L j1).d.toList == ([47] : List UInt8)) = f3 := by rw [← hf3, Bool.eq_iff_iff, beq_iff_eq, decide_eq_true_iff]; rw [show ([47] : List UInt8) = sSlash.toList from by rw [Lib.toList_data]; rfl]; exact bytes_inj
    have q3n : ((tk L j1).d.toList != ([47] : List UInt8)) = !f3 := by rw [bne, q3]
    have HM3 : Hid (ratM rqV L i = if f3 = true then (quoM rqV L (rqV (tk L j).d.data.toList) (j1 + 1)).map fun x => if true = true then -x else x else .ok (if true = true then -(rqV (tk L j).d.data.toList) else (rqV (tk L j).d.data.toList)) j1) := hid (by rw [HM2.out]; unfold ratS numM; rw [if_pos hk, hj1]; show (if (tk L j1).d = sSlash then _ else _) = _; cases f3 with | true => rw [if_pos (of_decide_eq_true hf3)]; rfl | false => rw [if_neg (of_decide_eq_false hf3)]; rfl)
    have HF3 := hid hf3
    clear hf3 hj1 HM2 hTj
    rw [hk3] at t0
    generalize (rqV (tk L j).d.data.toList) = v at *
    go_upto_region 10 with (go_at_call 165; (with_reducible refine HNB.out.mono ?_); rintro e w2 ⟨ga, pa, na, ca, qa, ma, da, rfl, hV, hn1, hn2, hg⟩; have HV := hid hV; replace HW := hid (grown_trans HW.out hg); replace BR := hid (keepB BR.out hg); clear hV hg t0 t1 t2 t3; obtain ⟨i0, i1', i2, f0, f1', f2'⟩ := ratbox_facts (blk0 w2 (.cells #[.bool false, .slice none 0 0, .slice none 0 0] 35 (0, 0))))
    clear i0 i1' i2 f0 f1' f2'
    have hK9 := lt_of_block BR.out
    have gR := World.grownBy_alloc w2 (.cells #[.bool ga, .slice pa na ca, .slice qa ma da] 35 (0, 0)) none
    have B9 := hid (blk0 w2 (.cells #[.bool ga, .slice pa na ca, .slice qa ma da] 35 (0, 0)))
    replace HW := hid (grown_trans HW.out gR)
    replace BR := hid (keepB BR.out gR)
    replace HV := hid (HV.out.keep gR)
    clear gR HNB
    generalize w2.heap.size = K9 at *
    generalize (w2.alloc _) = w3 at *
    obtain ⟨x0, x1, x2, y0, y1, y2⟩ := ratbox_facts B9.out
    have HNG := hid (rNeg3_v 260 HV.out.q hn1 hn2 (by decide))
    go_upto_region 12 with (go_at_call 166; (with_reducible refine HNG.out.mono ?_); rintro e w4 ⟨gb, pb, nb, cb, qb, mb, db, rfl, hVb, hnb1, hnb2, hg⟩; have HVb := hid hVb; replace HW := hid (grown_trans HW.out hg); replace BR := hid (keepB BR.out hg); replace B9 := hid (keepB B9.out hg); clear hVb hg x0 x1 x2 y0 y1 y2; obtain ⟨x0, x1, x2, y0, y1, y2⟩ := ratbox_facts B9.out)
    clear x0 x1 x2 y0 y1 y2
    have gS := set3_grown w4 K9 (.bool gb) (.slice pb nb cb) (.slice qb mb db)
    replace HV := hid (HVb.out.keptb (NU.of B9.out noh3) gS)
    replace B9 := hid (set3_all3 B9.out (.bool gb) (.slice pb nb cb) (.slice qb mb db))
    replace HW := hid (grown_new HW.out gS (fun g e => by cases e; omega))
    replace BR := hid ((gS.block _ (lt_of_block BR.out) (by simp; omega)).trans BR.out)
    clear HVb gS HNG hn1 hn2
    generalize ((w4.setCell _ _).setCell _ _).setCell _ _ = w5 at *
    obtain ⟨t0, t1, t2, t3⟩ := tok_cells (HTR.out.keep HW.out) hlj1
    cases f3 with
    | false =>
     have HRM : Hid (ratM rqV L i = .ok (-v) j1) := hid (by rw [HM3.out]; rfl)
     obtain ⟨x0, x1, x2, -, -, -⟩ := ratbox_facts B9.out
     obtain ⟨z0, z1, z2, y0, y1, y2⟩ := ratbox_facts BR.out
     have HP := hid (RrP.ok (B := 2300) BR.out HSZ.out HW.out HV.out (by omega) (by omega) HRM.out)
     obtain ⟨l0, l1, l2, -, -, -⟩ := ratbox_facts (set3_all3 BR.out (.bool gb) (.slice pb nb cb) (.slice qb mb db))
     go_wp2_with fail
     exact bodyPost_ret (v := .tuple #[.agg #[.bool gb, .slice pb nb cb, .slice qb mb db], .int .i64 j1, .int .i64 0]) (by simp [results, Tryz.results123, go_sem, l0, l1, l2]) rfl HP.out
    | true =>
     obtain ⟨j2, hj2⟩ : ∃ j2, j1 + 1 = j2 := ⟨_, rfl⟩
     have hlj2 : j2 < L.length := by rw [← hj2]; exact HLK.out.next hlj1 (by rw [of_decide_eq_true HF3.out]; decide)
     have ej2 : (j1 : Int) + 1 = (j2 : Int) := by omega
     have HM4 : Hid (ratM rqV L i = (quoM rqV L v j2).map fun x => if true = true then -x else x) := hid (by rw [HM3.out, ← hj2]; rfl)
     clear hj2 HM3
     go_upto_region 16 with fail
     clear t0 t1 t2 t3 q3 q3n
     obtain ⟨t0, t1, t2, t3⟩ := tok_cells (HTR.out.keep HW.out) hlj2
     by_cases hkk : (tk L j2).k = 2
     ·have hTu : TkOk (tk L j2) := by rw [tk_at hlj2]; exact HLK.out.ok j2 hlj2
      have hku : ((tk L j2).k : Int) = 2 := by omega
      have HNU : Hid (∀ W, Calls Tryz.prog 165 #[.agg #[.int .i64 2, .int .i64 (tk L j2).pos, .int .i64 (tk L j2).en, .string (tk L j2).d]] W (VPost W (rqV (tk L j2).d.data.toList) 260)) := hid fun W => by have := rNum_any hTu hkk W; rw [hkk] at this; exact this
      have HM5 : Hid (ratM rqV L i = (if (rqV (tk L j2).d.data.toList) = 0 then .bad j2 3 else .ok (v / (rqV (tk L j2).d.data.toList)) (j2 + 1) : Rs Rat).map fun x => if true = true then -x else x) := hid (by rw [HM4.out]; unfold quoM numM; rw [if_pos hkk]; rfl)
      clear HM4 hTu
      rw [hku] at t0
      generalize (rqV (tk L j2).d.data.toList) = u at *
      obtain ⟨j3, hj3⟩ : ∃ j3, j2 + 1 = j3 := ⟨_, rfl⟩
      have ej3 : (j2 : Int) + 1 = (j3 : Int) := by omega
      rw [hj3] at HM5
      clear hj3
      go_upto_region 18 with fail
      obtain ⟨x0, x1, x2, -, -, -⟩ := ratbox_facts B9.out
      by_cases hu : u = 0
      ·have HCS := hid fun W (hSw : w5.grownBy W none) => And.intro (hSw.cell x0 (by simp)) (And.intro (hSw.cell x1 (by simp)) (And.intro (hSw.cell x2 (by simp)) (And.intro (hSw.cell t0 (by simp)) (And.intro (hSw.cell t1 (by simp)) (And.intro (hSw.cell t2 (by simp)) (hSw.cell t3 (by simp)))))))
       refine wp_region_noPanic ?_
       refine wp_region_held_drew (S := (fun W' => w5.grownBy W' none)) (by kernel_rfl) ?_ (fun hHeld => ?_)
       ·(try dsimp only)
        exact grown_drew _ none
       have hgg := grown_drew w5 none
       generalize w5.drew = wd at *
       refine tkH (v := ?_) 0 rfl hHeld ?_ ?_; rotate_left 1
       ·intro W hSw; obtain ⟨s0, s1, s2, r0, r1, r2, r3⟩ := HCS.out W hSw; go_simp; (try (with_reducible rfl))
       (try simp only [Act.put, pu1, pu2, pu3])
       refine tkH (v := ?_) 1 rfl hHeld ?_ ?_; rotate_left 1
       ·intro W hSw; obtain ⟨s0, s1, s2, r0, r1, r2, r3⟩ := HCS.out W hSw; go_simp; (try (with_reducible rfl))
       (try simp only [Act.put, pu1, pu2, pu3])
       refine tkH (v := ?_) 2 rfl hHeld ?_ ?_; rotate_left 1
       ·intro W hSw; obtain ⟨s0, s1, s2, r0, r1, r2, r3⟩ := HCS.out W hSw; go_simp; (try (with_reducible rfl))
       (try simp only [Act.put, pu1, pu2, pu3])
       refine tkH (v := ?_) 3 rfl hHeld ?_ ?_; rotate_left 1
       ·intro W hSw; obtain ⟨s0, s1, s2, r0, r1, r2, r3⟩ := HCS.out W hSw; go_simp; (try (with_reducible rfl))
       (try simp only [Act.put, pu1, pu2, pu3])
       refine tkH (v := ?_) 4 rfl hHeld ?_ ?_; rotate_left 1
       ·intro W hSw; obtain ⟨s0, s1, s2, r0, r1, r2, r3⟩ := HCS.out W hSw; go_simp; (try (with_reducible rfl))
       (try simp only [Act.put, pu1, pu2, pu3])
       refine wpAnyH_ready (rs := [5, 10]) (by kernel_rfl) (by simp) ?_
       refine AllReadyH.cons (o := Oper.mk _ _ _ _ _ _) rfl (fun K hK => ?_) ?_
       ·(try rw [if_pos (by kernel_rfl)])
        go_simp
        go_at_call 165
        (with_reducible refine (HNU.out _).mono ?_)
        rintro e wy1 ⟨gu, pu, nu, cu, qu, mu, du, rfl, hVu, hnu, hmu, hgS⟩
        replace hgg := grown_trans hgg hgS
        refine hK.out _ _ ?_ (fun hNew => ?_)
        ·first | with_reducible exact hHeld | with_reducible exact grown_trans hHeld hgS | exact grown_new hHeld hgS (fun g e => by cases e; exact hleK10)
        clear hK K hHeld
        have hHeld := hNew
        clear hNew
        (try simp only [Act.put, pu1, pu2, pu3])
        clear hgS
        refine wpAnyH_ready (rs := [6, 10]) (by kernel_rfl) (by simp) ?_
        refine AllReadyH.cons (o := Oper.mk _ _ _ _ _ _) rfl (fun K hK => ?_) ?_
        ·(try rw [if_pos (by kernel_rfl)])
         go_simp
         go_at_call 167
         (with_reducible refine (rDiv3_e 264 (HV.out.keep hgg).q hVu.q hu (by omega) (by omega) (by omega) (by omega) (by decide)).mono ?_)
         rintro e wy2 ⟨rfl, hgS⟩
         replace hgg := grown_trans hgg hgS
         replace hVu := hVu.keep hgS
         refine hK.out _ _ ?_ (fun hNew => ?_)
         ·first | with_reducible exact hHeld | with_reducible exact grown_trans hHeld hgS | exact grown_new hHeld hgS (fun g e => by cases e; exact hleK10)
         clear hK K hHeld
         have hHeld := hNew
         clear hNew
         (try simp only [Act.put, pu1, pu2, pu3])
         clear hgS
         refine tkH (v := ?_) 7 rfl hHeld ?_ ?_; rotate_left 1
         ·intro W hSw; obtain ⟨s0, s1, s2, r0, r1, r2, r3⟩ := HCS.out W hSw; go_simp; (try (with_reducible rfl))
         (try simp only [Act.put, pu1, pu2, pu3])
         refine tkH (v := ?_) 8 rfl hHeld ?_ ?_; rotate_left 1
         ·intro W hSw; obtain ⟨s0, s1, s2, r0, r1, r2, r3⟩ := HCS.out W hSw; go_simp; (try (with_reducible rfl))
         (try simp only [Act.put, pu1, pu2, pu3])
         refine tkH (v := ?_) 9 rfl hHeld ?_ ?_; rotate_left 1
         ·intro W hSw; obtain ⟨s0, s1, s2, r0, r1, r2, r3⟩ := HCS.out W hSw; go_simp; (try (with_reducible rfl))
         (try simp only [Act.put, pu1, pu2, pu3])
         refine wpAnyH_ready (rs := [10]) (by kernel_rfl) (by simp) ?_
         refine aR1 rfl fun K hK => ?_
         (try rw [if_pos (by kernel_rfl)])
         go_simp
         have hgS := World.grownBy_alloc wy2 (.cells #[.bool false, .slice none 0 0, .slice none 0 0] 35 (0, 0)) none
         have hb10 := blk0 wy2 (.cells #[.bool false, .slice none 0 0, .slice none 0 0] 35 (0, 0))
         have hleK10 := hgg.size
         replace hgg := grown_trans hgg hgS
         replace hVu := hVu.keep hgS
         refine hK.out _ _ ?_ (fun hNew => ?_)
         ·first | with_reducible exact hHeld | with_reducible exact grown_trans hHeld hgS | exact grown_new hHeld hgS (fun g e => by cases e; exact hleK10)
         clear hK K hHeld
         have hHeld := hNew
         clear hNew
         (try simp only [Act.put, pu1, pu2, pu3])
         generalize wy2.heap.size = K10 at *
         generalize wy2.alloc _ = wy3 at *
         clear hgS
         refine wpAnyH_ready (rs := [11]) (by kernel_rfl) (by simp) ?_
         refine aR1 rfl fun K hK => ?_
         (try rw [if_pos (by kernel_rfl)])
         obtain ⟨z0, z1, z2, y0, y1, y2⟩ := ratbox_facts hb10
         go_simp
         have hgS := set3_grown wy3 K10 (.bool false) (.slice none 0 0) (.slice none 0 0)
         have hbE := set3_all3 hb10 (.bool false) (.slice none 0 0) (.slice none 0 0)
         clear z0 z1 z2 y0 y1 y2
         refine hK.out _ _ ?_ (fun hNew => ?_)
         ·first | with_reducible exact hHeld | with_reducible exact grown_trans hHeld hgS | exact grown_new hHeld hgS (fun g e => by cases e; exact hleK10)
         clear hK K hHeld
         have hHeld := hNew
         clear hNew
         (try simp only [Act.put, pu1, pu2, pu3])
         refine tkH (v := ?_) 12 rfl hHeld ?_ ?_; rotate_left 1
         ·intro W hSw; obtain ⟨s0, s1, s2, r0, r1, r2, r3⟩ := HCS.out W hSw; go_simp; (try (with_reducible rfl))
         (try simp only [Act.put, pu1, pu2, pu3])
         refine wpAnyH_done (by kernel_rfl) ?_ _
         refine NoPanic.normal ?_
         have HG7 := hid (grown_new hgg hgS (fun g e => by cases e; exact hleK10))
         have BR := hid (keepB BR.out HG7.out)
         have HW := hid (grown_trans HW.out HG7.out)
         have HB10 := hid hbE
         clear hHeld hgS hb10 hbE hgg x0 x1 x2 t0 t1 t2 t3
         generalize ((wy3.setCell _ _).setCell _ _).setCell _ _ = wE at *
         have HRM : Hid (ratM rqV L i = .bad j2 3) := hid (by rw [HM5.out, if_pos hu]; rfl)
         obtain ⟨z0, z1, z2, y0, y1, y2⟩ := ratbox_facts BR.out
         have HP := hid (RrP.bad (B := 2300) (.bool false) (.slice none 0 0) (.slice none 0 0) HW.out HSZ.out (HRM.out) (by decide))
         obtain ⟨l0, l1, l2, -, -, -⟩ := ratbox_facts (set3_all3 BR.out (.bool false) (.slice none 0 0) (.slice none 0 0))
         go_wp2_with fail
         exact bodyPost_ret (v := .tuple #[.agg #[.bool false, .slice none 0 0, .slice none 0 0], .int .i64 j2, .int .i64 3]) (by simp [results, Tryz.results123, go_sem, l0, l1, l2]) rfl HP.out
        refine aR1 rfl fun K hK => ?_
        (try rw [if_pos (by kernel_rfl)])
        go_simp
        have hgS := World.grownBy_alloc wy1 (.cells #[.bool false, .slice none 0 0, .slice none 0 0] 35 (0, 0)) none
        have hb10 := blk0 wy1 (.cells #[.bool false, .slice none 0 0, .slice none 0 0] 35 (0, 0))
        have hleK10 := hgg.size
        replace hgg := grown_trans hgg hgS
        replace hVu := hVu.keep hgS
        refine hK.out _ _ ?_ (fun hNew => ?_)
        ·first | with_reducible exact hHeld | with_reducible exact grown_trans hHeld hgS | exact grown_new hHeld hgS (fun g e => by cases e; exact hleK10)
        clear hK K hHeld
        have hHeld := hNew
        clear hNew
        (try simp only [Act.put, pu1, pu2, pu3])
        generalize wy1.heap.size = K10 at *
        generalize wy1.alloc _ = wy2 at *
        clear hgS
        refine wpAnyH_ready (rs := [6]) (by kernel_rfl) (by simp) ?_
        refine aR1 rfl fun K hK => ?_
        (try rw [if_pos (by kernel_rfl)])
        go_simp
        go_at_call 167
        (with_reducible refine (rDiv3_e 264 (HV.out.keep hgg).q hVu.q hu (by omega) (by omega) (by omega) (by omega) (by decide)).mono ?_)
        rintro e wy3 ⟨rfl, hgS⟩
        replace hgg := grown_trans hgg hgS
        replace hVu := hVu.keep hgS
        replace hb10 := keepB hb10 hgS
        refine hK.out _ _ ?_ (fun hNew => ?_)
        ·first | with_reducible exact hHeld | with_reducible exact grown_trans hHeld hgS | exact grown_new hHeld hgS (fun g e => by cases e; exact hleK10)
        clear hK K hHeld
        have hHeld := hNew
        clear hNew
        (try simp only [Act.put, pu1, pu2, pu3])
        clear hgS
        refine tkH (v := ?_) 7 rfl hHeld ?_ ?_; rotate_left 1
        ·intro W hSw; obtain ⟨s0, s1, s2, r0, r1, r2, r3⟩ := HCS.out W hSw; go_simp; (try (with_reducible rfl))
        (try simp only [Act.put, pu1, pu2, pu3])
        refine tkH (v := ?_) 8 rfl hHeld ?_ ?_; rotate_left 1
        ·intro W hSw; obtain ⟨s0, s1, s2, r0, r1, r2, r3⟩ := HCS.out W hSw; go_simp; (try (with_reducible rfl))
        (try simp only [Act.put, pu1, pu2, pu3])
        refine tkH (v := ?_) 9 rfl hHeld ?_ ?_; rotate_left 1
        ·intro W hSw; obtain ⟨s0, s1, s2, r0, r1, r2, r3⟩ := HCS.out W hSw; go_simp; (try (with_reducible rfl))
        (try simp only [Act.put, pu1, pu2, pu3])
        refine wpAnyH_ready (rs := [11]) (by kernel_rfl) (by simp) ?_
        refine aR1 rfl fun K hK => ?_
        (try rw [if_pos (by kernel_rfl)])
        obtain ⟨z0, z1, z2, y0, y1, y2⟩ := ratbox_facts hb10
        go_simp
        have hgS := set3_grown wy3 K10 (.bool false) (.slice none 0 0) (.slice none 0 0)
        have hbE := set3_all3 hb10 (.bool false) (.slice none 0 0) (.slice none 0 0)
        clear z0 z1 z2 y0 y1 y2
        refine hK.out _ _ ?_ (fun hNew => ?_)
        ·first | with_reducible exact hHeld | with_reducible exact grown_trans hHeld hgS | exact grown_new hHeld hgS (fun g e => by cases e; exact hleK10)
        clear hK K hHeld
        have hHeld := hNew
        clear hNew
        (try simp only [Act.put, pu1, pu2, pu3])
        refine tkH (v := ?_) 12 rfl hHeld ?_ ?_; rotate_left 1
        ·intro W hSw; obtain ⟨s0, s1, s2, r0, r1, r2, r3⟩ := HCS.out W hSw; go_simp; (try (with_reducible rfl))
        (try simp only [Act.put, pu1, pu2, pu3])
        refine wpAnyH_done (by kernel_rfl) ?_ _
        refine NoPanic.normal ?_
        have HG7 := hid (grown_new hgg hgS (fun g e => by cases e; exact hleK10))
        have BR := hid (keepB BR.out HG7.out)
        have HW := hid (grown_trans HW.out HG7.out)
        have HB10 := hid hbE
        clear hHeld hgS hb10 hbE hgg x0 x1 x2 t0 t1 t2 t3
        generalize ((wy3.setCell _ _).setCell _ _).setCell _ _ = wE at *
        have HRM : Hid (ratM rqV L i = .bad j2 3) := hid (by rw [HM5.out, if_pos hu]; rfl)
        obtain ⟨z0, z1, z2, y0, y1, y2⟩ := ratbox_facts BR.out
        have HP := hid (RrP.bad (B := 2300) (.bool false) (.slice none 0 0) (.slice none 0 0) HW.out HSZ.out (HRM.out) (by decide))
        obtain ⟨l0, l1, l2, -, -, -⟩ := ratbox_facts (set3_all3 BR.out (.bool false) (.slice none 0 0) (.slice none 0 0))
        go_wp2_with fail
        exact bodyPost_ret (v := .tuple #[.agg #[.bool false, .slice none 0 0, .slice none 0 0], .int .i64 j2, .int .i64 3]) (by simp [results, Tryz.results123, go_sem, l0, l1, l2]) rfl HP.out
       refine aR1 rfl fun K hK => ?_
       (try rw [if_pos (by kernel_rfl)])
       go_simp
       have hgS := World.grownBy_alloc wd (.cells #[.bool false, .slice none 0 0, .slice none 0 0] 35 (0, 0)) none
       have hb10 := blk0 wd (.cells #[.bool false, .slice none 0 0, .slice none 0 0] 35 (0, 0))
       have hleK10 := hgg.size
       replace hgg := grown_trans hgg hgS
       refine hK.out _ _ ?_ (fun hNew => ?_)
       ·first | with_reducible exact hHeld | with_reducible exact grown_trans hHeld hgS | exact grown_new hHeld hgS (fun g e => by cases e; exact hleK10)
       clear hK K hHeld
       have hHeld := hNew
       clear hNew
       (try simp only [Act.put, pu1, pu2, pu3])
       generalize wd.heap.size = K10 at *
       generalize wd.alloc _ = wy1 at *
       clear hgS
       refine wpAnyH_ready (rs := [5]) (by kernel_rfl) (by simp) ?_
       refine aR1 rfl fun K hK => ?_
       (try rw [if_pos (by kernel_rfl)])
       go_simp
       go_at_call 165
       (with_reducible refine (HNU.out _).mono ?_)
       rintro e wy2 ⟨gu, pu, nu, cu, qu, mu, du, rfl, hVu, hnu, hmu, hgS⟩
       replace hgg := grown_trans hgg hgS
       replace hb10 := keepB hb10 hgS
       refine hK.out _ _ ?_ (fun hNew => ?_)
       ·first | with_reducible exact hHeld | with_reducible exact grown_trans hHeld hgS | exact grown_new hHeld hgS (fun g e => by cases e; exact hleK10)
       clear hK K hHeld
       have hHeld := hNew
       clear hNew
       (try simp only [Act.put, pu1, pu2, pu3])
       clear hgS
       refine wpAnyH_ready (rs := [6]) (by kernel_rfl) (by simp) ?_
       refine aR1 rfl fun K hK => ?_
       (try rw [if_pos (by kernel_rfl)])
       go_simp
       go_at_call 167
       (with_reducible refine (rDiv3_e 264 (HV.out.keep hgg).q hVu.q hu (by omega) (by omega) (by omega) (by omega) (by decide)).mono ?_)
       rintro e wy3 ⟨rfl, hgS⟩
       replace hgg := grown_trans hgg hgS
       replace hb10 := keepB hb10 hgS
       replace hVu := hVu.keep hgS
       refine hK.out _ _ ?_ (fun hNew => ?_)
       ·first | with_reducible exact hHeld | with_reducible exact grown_trans hHeld hgS | exact grown_new hHeld hgS (fun g e => by cases e; exact hleK10)
       clear hK K hHeld
       have hHeld := hNew
       clear hNew
       (try simp only [Act.put, pu1, pu2, pu3])
       clear hgS
       refine tkH (v := ?_) 7 rfl hHeld ?_ ?_; rotate_left 1
       ·intro W hSw; obtain ⟨s0, s1, s2, r0, r1, r2, r3⟩ := HCS.out W hSw; go_simp; (try (with_reducible rfl))
       (try simp only [Act.put, pu1, pu2, pu3])
       refine tkH (v := ?_) 8 rfl hHeld ?_ ?_; rotate_left 1
       ·intro W hSw; obtain ⟨s0, s1, s2, r0, r1, r2, r3⟩ := HCS.out W hSw; go_simp; (try (with_reducible rfl))
       (try simp only [Act.put, pu1, pu2, pu3])
       refine tkH (v := ?_) 9 rfl hHeld ?_ ?_; rotate_left 1
       ·intro W hSw; obtain ⟨s0, s1, s2, r0, r1, r2, r3⟩ := HCS.out W hSw; go_simp; (try (with_reducible rfl))
       (try simp only [Act.put, pu1, pu2, pu3])
       refine wpAnyH_ready (rs := [11]) (by kernel_rfl) (by simp) ?_
       refine aR1 rfl fun K hK => ?_
       (try rw [if_pos (by kernel_rfl)])
       obtain ⟨z0, z1, z2, y0, y1, y2⟩ := ratbox_facts hb10
       go_simp
       have hgS := set3_grown wy3 K10 (.bool false) (.slice none 0 0) (.slice none 0 0)
       have hbE := set3_all3 hb10 (.bool false) (.slice none 0 0) (.slice none 0 0)
       clear z0 z1 z2 y0 y1 y2
       refine hK.out _ _ ?_ (fun hNew => ?_)
       ·first | with_reducible exact hHeld | with_reducible exact grown_trans hHeld hgS | exact grown_new hHeld hgS (fun g e => by cases e; exact hleK10)
       clear hK K hHeld
       have hHeld := hNew
       clear hNew
       (try simp only [Act.put, pu1, pu2, pu3])
       refine tkH (v := ?_) 12 rfl hHeld ?_ ?_; rotate_left 1
       ·intro W hSw; obtain ⟨s0, s1, s2, r0, r1, r2, r3⟩ := HCS.out W hSw; go_simp; (try (with_reducible rfl))
       (try simp only [Act.put, pu1, pu2, pu3])
       refine wpAnyH_done (by kernel_rfl) ?_ _
       refine NoPanic.normal ?_
       have HG7 := hid (grown_new hgg hgS (fun g e => by cases e; exact hleK10))
       have BR := hid (keepB BR.out HG7.out)
       have HW := hid (grown_trans HW.out HG7.out)
       have HB10 := hid hbE
       clear hHeld hgS hb10 hbE hgg x0 x1 x2 t0 t1 t2 t3
       generalize ((wy3.setCell _ _).setCell _ _).setCell _ _ = wE at *
       have HRM : Hid (ratM rqV L i = .bad j2 3) := hid (by rw [HM5.out, if_pos hu]; rfl)
       obtain ⟨z0, z1, z2, y0, y1, y2⟩ := ratbox_facts BR.out
       have HP := hid (RrP.bad (B := 2300) (.bool false) (.slice none 0 0) (.slice none 0 0) HW.out HSZ.out (HRM.out) (by decide))
       obtain ⟨l0, l1, l2, -, -, -⟩ := ratbox_facts (set3_all3 BR.out (.bool false) (.slice none 0 0) (.slice none 0 0))
       go_wp2_with fail
       exact bodyPost_ret (v := .tuple #[.agg #[.bool false, .slice none 0 0, .slice none 0 0], .int .i64 j2, .int .i64 3]) (by simp [results, Tryz.results123, go_sem, l0, l1, l2]) rfl HP.out
      ·have HCS := hid fun W (hSw : w5.grownBy W none) => And.intro (hSw.cell x0 (by simp)) (And.intro (hSw.cell x1 (by simp)) (And.intro (hSw.cell x2 (by simp)) (And.intro (hSw.cell t0 (by simp)) (And.intro (hSw.cell t1 (by simp)) (And.intro (hSw.cell t2 (by simp)) (hSw.cell t3 (by simp)))))))
       refine wp_region_noPanic ?_
       refine wp_region_held_drew (S := (fun W' => w5.grownBy W' none)) (by kernel_rfl) ?_ (fun hHeld => ?_)
       ·(try dsimp only)
        exact grown_drew _ none
       have hgg := grown_drew w5 none
       generalize w5.drew = wd at *
       refine tkH (v := ?_) 0 rfl hHeld ?_ ?_; rotate_left 1
       ·intro W hSw; obtain ⟨s0, s1, s2, r0, r1, r2, r3⟩ := HCS.out W hSw; go_simp; (try (with_reducible rfl))
       (try simp only [Act.put, pu1, pu2, pu3])
       refine tkH (v := ?_) 1 rfl hHeld ?_ ?_; rotate_left 1
       ·intro W hSw; obtain ⟨s0, s1, s2, r0, r1, r2, r3⟩ := HCS.out W hSw; go_simp; (try (with_reducible rfl))
       (try simp only [Act.put, pu1, pu2, pu3])
       refine tkH (v := ?_) 2 rfl hHeld ?_ ?_; rotate_left 1
       ·intro W hSw; obtain ⟨s0, s1, s2, r0, r1, r2, r3⟩ := HCS.out W hSw; go_simp; (try (with_reducible rfl))
       (try simp only [Act.put, pu1, pu2, pu3])
       refine tkH (v := ?_) 3 rfl hHeld ?_ ?_; rotate_left 1
       ·intro W hSw; obtain ⟨s0, s1, s2, r0, r1, r2, r3⟩ := HCS.out W hSw; go_simp; (try (with_reducible rfl))
       (try simp only [Act.put, pu1, pu2, pu3])
       refine tkH (v := ?_) 4 rfl hHeld ?_ ?_; rotate_left 1
       ·intro W hSw; obtain ⟨s0, s1, s2, r0, r1, r2, r3⟩ := HCS.out W hSw; go_simp; (try (with_reducible rfl))
       (try simp only [Act.put, pu1, pu2, pu3])
       refine wpAnyH_ready (rs := [5, 10]) (by kernel_rfl) (by simp) ?_
       refine AllReadyH.cons (o := Oper.mk _ _ _ _ _ _) rfl (fun K hK => ?_) ?_
       ·(try rw [if_pos (by kernel_rfl)])
        go_simp
        go_at_call 165
        (with_reducible refine (HNU.out _).mono ?_)
        rintro e wy1 ⟨gu, pu, nu, cu, qu, mu, du, rfl, hVu, hnu, hmu, hgS⟩
        replace hgg := grown_trans hgg hgS
        refine hK.out _ _ ?_ (fun hNew => ?_)
        ·first | with_reducible exact hHeld | with_reducible exact grown_trans hHeld hgS | exact grown_new hHeld hgS (fun g e => by cases e; exact hleK10)
        clear hK K hHeld
        have hHeld := hNew
        clear hNew
        (try simp only [Act.put, pu1, pu2, pu3])
        clear hgS
        refine wpAnyH_ready (rs := [6, 10]) (by kernel_rfl) (by simp) ?_
        refine AllReadyH.cons (o := Oper.mk _ _ _ _ _ _) rfl (fun K hK => ?_) ?_
        ·(try rw [if_pos (by kernel_rfl)])
         go_simp
         go_at_call 167
         (with_reducible refine (rDiv3_v 264 (HV.out.keep hgg).q hVu.q hu (by omega) (by omega) (by omega) (by omega) (by decide)).mono ?_)
         rintro e wy2 ⟨gd, pd, nd, cd, qd, md, dd, rfl, hVd, hnd, hmd, hgS⟩
         replace hgg := grown_trans hgg hgS
         replace hVu := hVu.keep hgS
         refine hK.out _ _ ?_ (fun hNew => ?_)
         ·first | with_reducible exact hHeld | with_reducible exact grown_trans hHeld hgS | exact grown_new hHeld hgS (fun g e => by cases e; exact hleK10)
         clear hK K hHeld
         have hHeld := hNew
         clear hNew
         (try simp only [Act.put, pu1, pu2, pu3])
         clear hgS
         refine tkH (v := ?_) 7 rfl hHeld ?_ ?_; rotate_left 1
         ·intro W hSw; obtain ⟨s0, s1, s2, r0, r1, r2, r3⟩ := HCS.out W hSw; go_simp; (try (with_reducible rfl))
         (try simp only [Act.put, pu1, pu2, pu3])
         refine tkH (v := ?_) 8 rfl hHeld ?_ ?_; rotate_left 1
         ·intro W hSw; obtain ⟨s0, s1, s2, r0, r1, r2, r3⟩ := HCS.out W hSw; go_simp; (try (with_reducible rfl))
         (try simp only [Act.put, pu1, pu2, pu3])
         refine tkH (v := ?_) 9 rfl hHeld ?_ ?_; rotate_left 1
         ·intro W hSw; obtain ⟨s0, s1, s2, r0, r1, r2, r3⟩ := HCS.out W hSw; go_simp; (try (with_reducible rfl))
         (try simp only [Act.put, pu1, pu2, pu3])
         refine wpAnyH_ready (rs := [10]) (by kernel_rfl) (by simp) ?_
         refine aR1 rfl fun K hK => ?_
         (try rw [if_pos (by kernel_rfl)])
         go_simp
         have hgS := World.grownBy_alloc wy2 (.cells #[.bool false, .slice none 0 0, .slice none 0 0] 35 (0, 0)) none
         have hb10 := blk0 wy2 (.cells #[.bool false, .slice none 0 0, .slice none 0 0] 35 (0, 0))
         have hleK10 := hgg.size
         replace hgg := grown_trans hgg hgS
         replace hVu := hVu.keep hgS
         replace hVd := hVd.keep hgS
         refine hK.out _ _ ?_ (fun hNew => ?_)
         ·first | with_reducible exact hHeld | with_reducible exact grown_trans hHeld hgS | exact grown_new hHeld hgS (fun g e => by cases e; exact hleK10)
         clear hK K hHeld
         have hHeld := hNew
         clear hNew
         (try simp only [Act.put, pu1, pu2, pu3])
         generalize wy2.heap.size = K10 at *
         generalize wy2.alloc _ = wy3 at *
         clear hgS
         refine wpAnyH_ready (rs := [11]) (by kernel_rfl) (by simp) ?_
         refine aR1 rfl fun K hK => ?_
         (try rw [if_pos (by kernel_rfl)])
         obtain ⟨z0, z1, z2, y0, y1, y2⟩ := ratbox_facts hb10
         go_simp
         have hgS := set3_grown wy3 K10 (.bool gd) (.slice pd nd cd) (.slice qd md dd)
         have hbE := set3_all3 hb10 (.bool gd) (.slice pd nd cd) (.slice qd md dd)
         clear z0 z1 z2 y0 y1 y2
         refine hK.out _ _ ?_ (fun hNew => ?_)
         ·first | with_reducible exact hHeld | with_reducible exact grown_trans hHeld hgS | exact grown_new hHeld hgS (fun g e => by cases e; exact hleK10)
         clear hK K hHeld
         have hHeld := hNew
         clear hNew
         (try simp only [Act.put, pu1, pu2, pu3])
         refine tkH (v := ?_) 12 rfl hHeld ?_ ?_; rotate_left 1
         ·intro W hSw; obtain ⟨s0, s1, s2, r0, r1, r2, r3⟩ := HCS.out W hSw; go_simp; (try (with_reducible rfl))
         (try simp only [Act.put, pu1, pu2, pu3])
         refine wpAnyH_done (by kernel_rfl) ?_ _
         refine NoPanic.normal ?_
         have HV7 := hid (hVd.keptb (NU.of hb10 noh3) hgS)
         have HG7 := hid (grown_new hgg hgS (fun g e => by cases e; exact hleK10))
         have BR := hid (keepB BR.out HG7.out)
         have HW := hid (grown_trans HW.out HG7.out)
         have HB10 := hid hbE
         clear hHeld hgS hb10 hbE hgg x0 x1 x2 t0 t1 t2 t3
         generalize ((wy3.setCell _ _).setCell _ _).setCell _ _ = wE at *
         have HRM : Hid (ratM rqV L i = .ok (-v / u) j3) := hid (by rw [HM5.out, if_neg hu]; show Rs.ok (-(v / u)) j3 = _; rw [Rat.div_def, Rat.div_def, Rat.neg_mul])
         obtain ⟨x0, x1, x2, -, -, -⟩ := ratbox_facts HB10.out
         obtain ⟨z0, z1, z2, y0, y1, y2⟩ := ratbox_facts BR.out
         have HP := hid (RrP.ok (B := 2300) BR.out HSZ.out HW.out HV7.out (by omega) (by omega) HRM.out)
         obtain ⟨l0, l1, l2, -, -, -⟩ := ratbox_facts (set3_all3 BR.out (.bool gd) (.slice pd nd cd) (.slice qd md dd))
         go_wp2_with fail
         exact bodyPost_ret (v := .tuple #[.agg #[.bool gd, .slice pd nd cd, .slice qd md dd], .int .i64 j3, .int .i64 0]) (by simp [results, Tryz.results123, go_sem, l0, l1, l2]) rfl HP.out
        refine aR1 rfl fun K hK => ?_
        (try rw [if_pos (by kernel_rfl)])
        go_simp
        have hgS := World.grownBy_alloc wy1 (.cells #[.bool false, .slice none 0 0, .slice none 0 0] 35 (0, 0)) none
        have hb10 := blk0 wy1 (.cells #[.bool false, .slice none 0 0, .slice none 0 0] 35 (0, 0))
        have hleK10 := hgg.size
        replace hgg := grown_trans hgg hgS
        replace hVu := hVu.keep hgS
        refine hK.out _ _ ?_ (fun hNew => ?_)
        ·first | with_reducible exact hHeld | with_reducible exact grown_trans hHeld hgS | exact grown_new hHeld hgS (fun g e => by cases e; exact hleK10)
        clear hK K hHeld
        have hHeld := hNew
        clear hNew
        (try simp only [Act.put, pu1, pu2, pu3])
        generalize wy1.heap.size = K10 at *
        generalize wy1.alloc _ = wy2 at *
        clear hgS
        refine wpAnyH_ready (rs := [6]) (by kernel_rfl) (by simp) ?_
        refine aR1 rfl fun K hK => ?_
        (try rw [if_pos (by kernel_rfl)])
        go_simp
        go_at_call 167
        (with_reducible refine (rDiv3_v 264 (HV.out.keep hgg).q hVu.q hu (by omega) (by omega) (by omega) (by omega) (by decide)).mono ?_)
        rintro e wy3 ⟨gd, pd, nd, cd, qd, md, dd, rfl, hVd, hnd, hmd, hgS⟩
        replace hgg := grown_trans hgg hgS
        replace hVu := hVu.keep hgS
        replace hb10 := keepB hb10 hgS
        refine hK.out _ _ ?_ (fun hNew => ?_)
        ·first | with_reducible exact hHeld | with_reducible exact grown_trans hHeld hgS | exact grown_new hHeld hgS (fun g e => by cases e; exact hleK10)
        clear hK K hHeld
        have hHeld := hNew
        clear hNew
        (try simp only [Act.put, pu1, pu2, pu3])
        clear hgS
        refine tkH (v := ?_) 7 rfl hHeld ?_ ?_; rotate_left 1
        ·intro W hSw; obtain ⟨s0, s1, s2, r0, r1, r2, r3⟩ := HCS.out W hSw; go_simp; (try (with_reducible rfl))
        (try simp only [Act.put, pu1, pu2, pu3])
        refine tkH (v := ?_) 8 rfl hHeld ?_ ?_; rotate_left 1
        ·intro W hSw; obtain ⟨s0, s1, s2, r0, r1, r2, r3⟩ := HCS.out W hSw; go_simp; (try (with_reducible rfl))
        (try simp only [Act.put, pu1, pu2, pu3])
        refine tkH (v := ?_) 9 rfl hHeld ?_ ?_; rotate_left 1
        ·intro W hSw; obtain ⟨s0, s1, s2, r0, r1, r2, r3⟩ := HCS.out W hSw; go_simp; (try (with_reducible rfl))
        (try simp only [Act.put, pu1, pu2, pu3])
        refine wpAnyH_ready (rs := [11]) (by kernel_rfl) (by simp) ?_
        refine aR1 rfl fun K hK => ?_
        (try rw [if_pos (by kernel_rfl)])
        obtain ⟨z0, z1, z2, y0, y1, y2⟩ := ratbox_facts hb10
        go_simp
        have hgS := set3_grown wy3 K10 (.bool gd) (.slice pd nd cd) (.slice qd md dd)
        have hbE := set3_all3 hb10 (.bool gd) (.slice pd nd cd) (.slice qd md dd)
        clear z0 z1 z2 y0 y1 y2
        refine hK.out _ _ ?_ (fun hNew => ?_)
        ·first | with_reducible exact hHeld | with_reducible exact grown_trans hHeld hgS | exact grown_new hHeld hgS (fun g e => by cases e; exact hleK10)
        clear hK K hHeld
        have hHeld := hNew
        clear hNew
        (try simp only [Act.put, pu1, pu2, pu3])
        refine tkH (v := ?_) 12 rfl hHeld ?_ ?_; rotate_left 1
        ·intro W hSw; obtain ⟨s0, s1, s2, r0, r1, r2, r3⟩ := HCS.out W hSw; go_simp; (try (with_reducible rfl))
        (try simp only [Act.put, pu1, pu2, pu3])
        refine wpAnyH_done (by kernel_rfl) ?_ _
        refine NoPanic.normal ?_
        have HV7 := hid (hVd.keptb (NU.of hb10 noh3) hgS)
        have HG7 := hid (grown_new hgg hgS (fun g e => by cases e; exact hleK10))
        have BR := hid (keepB BR.out HG7.out)
        have HW := hid (grown_trans HW.out HG7.out)
        have HB10 := hid hbE
        clear hHeld hgS hb10 hbE hgg x0 x1 x2 t0 t1 t2 t3
        generalize ((wy3.setCell _ _).setCell _ _).setCell _ _ = wE at *
        have HRM : Hid (ratM rqV L i = .ok (-v / u) j3) := hid (by rw [HM5.out, if_neg hu]; show Rs.ok (-(v / u)) j3 = _; rw [Rat.div_def, Rat.div_def, Rat.neg_mul])
        obtain ⟨x0, x1, x2, -, -, -⟩ := ratbox_facts HB10.out
        obtain ⟨z0, z1, z2, y0, y1, y2⟩ := ratbox_facts BR.out
        have HP := hid (RrP.ok (B := 2300) BR.out HSZ.out HW.out HV7.out (by omega) (by omega) HRM.out)
        obtain ⟨l0, l1, l2, -, -, -⟩ := ratbox_facts (set3_all3 BR.out (.bool gd) (.slice pd nd cd) (.slice qd md dd))
        go_wp2_with fail
        exact bodyPost_ret (v := .tuple #[.agg #[.bool gd, .slice pd nd cd, .slice qd md dd], .int .i64 j3, .int .i64 0]) (by simp [results, Tryz.results123, go_sem, l0, l1, l2]) rfl HP.out
       refine aR1 rfl fun K hK => ?_
       (try rw [if_pos (by kernel_rfl)])
       go_simp
       have hgS := World.grownBy_alloc wd (.cells #[.bool false, .slice none 0 0, .slice none 0 0] 35 (0, 0)) none
       have hb10 := blk0 wd (.cells #[.bool false, .slice none 0 0, .slice none 0 0] 35 (0, 0))
       have hleK10 := hgg.size
       replace hgg := grown_trans hgg hgS
       refine hK.out _ _ ?_ (fun hNew => ?_)
       ·first | with_reducible exact hHeld | with_reducible exact grown_trans hHeld hgS | exact grown_new hHeld hgS (fun g e => by cases e; exact hleK10)
       clear hK K hHeld
       have hHeld := hNew
       clear hNew
       (try simp only [Act.put, pu1, pu2, pu3])
       generalize wd.heap.size = K10 at *
       generalize wd.alloc _ = wy1 at *
       clear hgS
       refine wpAnyH_ready (rs := [5]) (by kernel_rfl) (by simp) ?_
       refine aR1 rfl fun K hK => ?_
       (try rw [if_pos (by kernel_rfl)])
       go_simp
       go_at_call 165
       (with_reducible refine (HNU.out _).mono ?_)
       rintro e wy2 ⟨gu, pu, nu, cu, qu, mu, du, rfl, hVu, hnu, hmu, hgS⟩
       replace hgg := grown_trans hgg hgS
       replace hb10 := keepB hb10 hgS
       refine hK.out _ _ ?_ (fun hNew => ?_)
       ·first | with_reducible exact hHeld | with_reducible exact grown_trans hHeld hgS | exact grown_new hHeld hgS (fun g e => by cases e; exact hleK10)
       clear hK K hHeld
       have hHeld := hNew
       clear hNew
       (try simp only [Act.put, pu1, pu2, pu3])
       clear hgS
       refine wpAnyH_ready (rs := [6]) (by kernel_rfl) (by simp) ?_
       refine aR1 rfl fun K hK => ?_
       (try rw [if_pos (by kernel_rfl)])
       go_simp
       go_at_call 167
       (with_reducible refine (rDiv3_v 264 (HV.out.keep hgg).q hVu.q hu (by omega) (by omega) (by omega) (by omega) (by decide)).mono ?_)
       rintro e wy3 ⟨gd, pd, nd, cd, qd, md, dd, rfl, hVd, hnd, hmd, hgS⟩
       replace hgg := grown_trans hgg hgS
       replace hb10 := keepB hb10 hgS
       replace hVu := hVu.keep hgS
       refine hK.out _ _ ?_ (fun hNew => ?_)
       ·first | with_reducible exact hHeld | with_reducible exact grown_trans hHeld hgS | exact grown_new hHeld hgS (fun g e => by cases e; exact hleK10)
       clear hK K hHeld
       have hHeld := hNew
       clear hNew
       (try simp only [Act.put, pu1, pu2, pu3])
       clear hgS
       refine tkH (v := ?_) 7 rfl hHeld ?_ ?_; rotate_left 1
       ·intro W hSw; obtain ⟨s0, s1, s2, r0, r1, r2, r3⟩ := HCS.out W hSw; go_simp; (try (with_reducible rfl))
       (try simp only [Act.put, pu1, pu2, pu3])
       refine tkH (v := ?_) 8 rfl hHeld ?_ ?_; rotate_left 1
       ·intro W hSw; obtain ⟨s0, s1, s2, r0, r1, r2, r3⟩ := HCS.out W hSw; go_simp; (try (with_reducible rfl))
       (try simp only [Act.put, pu1, pu2, pu3])
       refine tkH (v := ?_) 9 rfl hHeld ?_ ?_; rotate_left 1
       ·intro W hSw; obtain ⟨s0, s1, s2, r0, r1, r2, r3⟩ := HCS.out W hSw; go_simp; (try (with_reducible rfl))
       (try simp only [Act.put, pu1, pu2, pu3])
       refine wpAnyH_ready (rs := [11]) (by kernel_rfl) (by simp) ?_
       refine aR1 rfl fun K hK => ?_
       (try rw [if_pos (by kernel_rfl)])
       obtain ⟨z0, z1, z2, y0, y1, y2⟩ := ratbox_facts hb10
       go_simp
       have hgS := set3_grown wy3 K10 (.bool gd) (.slice pd nd cd) (.slice qd md dd)
       have hbE := set3_all3 hb10 (.bool gd) (.slice pd nd cd) (.slice qd md dd)
       clear z0 z1 z2 y0 y1 y2
       refine hK.out _ _ ?_ (fun hNew => ?_)
       ·first | with_reducible exact hHeld | with_reducible exact grown_trans hHeld hgS | exact grown_new hHeld hgS (fun g e => by cases e; exact hleK10)
       clear hK K hHeld
       have hHeld := hNew
       clear hNew
       (try simp only [Act.put, pu1, pu2, pu3])
       refine tkH (v := ?_) 12 rfl hHeld ?_ ?_; rotate_left 1
       ·intro W hSw; obtain ⟨s0, s1, s2, r0, r1, r2, r3⟩ := HCS.out W hSw; go_simp; (try (with_reducible rfl))
       (try simp only [Act.put, pu1, pu2, pu3])
       refine wpAnyH_done (by kernel_rfl) ?_ _
       refine NoPanic.normal ?_
       have HV7 := hid (hVd.keptb (NU.of hb10 noh3) hgS)
       have HG7 := hid (grown_new hgg hgS (fun g e => by cases e; exact hleK10))
       have BR := hid (keepB BR.out HG7.out)
       have HW := hid (grown_trans HW.out HG7.out)
       have HB10 := hid hbE
       clear hHeld hgS hb10 hbE hgg x0 x1 x2 t0 t1 t2 t3
       generalize ((wy3.setCell _ _).setCell _ _).setCell _ _ = wE at *
       have HRM : Hid (ratM rqV L i = .ok (-v / u) j3) := hid (by rw [HM5.out, if_neg hu]; show Rs.ok (-(v / u)) j3 = _; rw [Rat.div_def, Rat.div_def, Rat.neg_mul])
       obtain ⟨x0, x1, x2, -, -, -⟩ := ratbox_facts HB10.out
       obtain ⟨z0, z1, z2, y0, y1, y2⟩ := ratbox_facts BR.out
       have HP := hid (RrP.ok (B := 2300) BR.out HSZ.out HW.out HV7.out (by omega) (by omega) HRM.out)
       obtain ⟨l0, l1, l2, -, -, -⟩ := ratbox_facts (set3_all3 BR.out (.bool gd) (.slice pd nd cd) (.slice qd md dd))
       go_wp2_with fail
       exact bodyPost_ret (v := .tuple #[.agg #[.bool gd, .slice pd nd cd, .slice qd md dd], .int .i64 j3, .int .i64 0]) (by simp [results, Tryz.results123, go_sem, l0, l1, l2]) rfl HP.out
     ·have hkn : ¬ (((tk L j2).k : Int) = 2) := by omega
      have HRM : Hid (ratM rqV L i = .bad j2 5) := hid (by rw [HM4.out]; unfold quoM numM; rw [if_neg hkk]; rfl)
      obtain ⟨z0, z1, z2, y0, y1, y2⟩ := ratbox_facts BR.out
      have HP := hid (RrP.bad (B := 2300) (.bool false) (.slice none 0 0) (.slice none 0 0) HW.out HSZ.out (HRM.out) (by decide))
      obtain ⟨l0, l1, l2, -, -, -⟩ := ratbox_facts (set3_all3 BR.out (.bool false) (.slice none 0 0) (.slice none 0 0))
      go_wp2_with fail
      exact bodyPost_ret (v := .tuple #[.agg #[.bool false, .slice none 0 0, .slice none 0 0], .int .i64 j2, .int .i64 5]) (by simp [results, Tryz.results123, go_sem, l0, l1, l2]) rfl HP.out
   ·have hk2 : ¬ (((tk L j).k : Int) = 2) := by omega
    have HRM : Hid (ratM rqV L i = .bad j 5) := hid (by rw [HM2.out]; unfold ratS numM; rw [if_neg hk]; rfl)
    obtain ⟨z0, z1, z2, y0, y1, y2⟩ := ratbox_facts BR.out
    have HP := hid (RrP.bad (B := 2300) (.bool false) (.slice none 0 0) (.slice none 0 0) HW.out HSZ.out (HRM.out) (by decide))
    obtain ⟨l0, l1, l2, -, -, -⟩ := ratbox_facts (set3_all3 BR.out (.bool false) (.slice none 0 0) (.slice none 0 0))
    go_wp2_with fail
    exact bodyPost_ret (v := .tuple #[.agg #[.bool false, .slice none 0 0, .slice none 0 0], .int .i64 j, .int .i64 5]) (by simp [results, Tryz.results123, go_sem, l0, l1, l2]) rfl HP.out
def RxP (X : Nat → Prop) (w : World) (m : Nat) (r : Rs Tr) (e : Ending) (w' : World) : Prop :=
 ∃ (y1 : Int) (y2 : ByteArray) (y3 : Bool) (s1 : Option Addr) (r1 k1 : Nat) (s2 : Option Addr) (r2 k2 : Nat) (s3 : Option Addr) (r3 k3 : Nat) (y7 : Int) (j : Nat) (x : Int),
  e = .returned (.tuple #[.agg #[.int .i64 y1, .string y2, .bool y3, .slice s1 r1 k1, .slice s2 r2 k2, .slice s3 r3 k3, .int .i64 y7], .int .i64 j, .int .i64 x]) ∧ w.grownBy w' none ∧
  ((x = 0 ∧ ∃ t, r = .ok t j ∧ ERdX X w' m [.int .i64 y1, .string y2, .bool y3, .slice s1 r1 k1, .slice s2 r2 k2, .slice s3 r3 k3, .int .i64 y7] t) ∨ (x ≠ 0 ∧ r = .bad j x))
theorem RxP.bad {X : Nat → Prop} {m G : Nat} {w w5 : World} {r : Rs Tr} {j : Nat} {x : Int} (a b c d e f g : Value) (hg : w.grownBy w5 none) (hG : w.heap.size ≤ G) (h : r = .bad j x) (hx : x ≠ 0) :
  RxP X w m r (.returned (.tuple #[.agg #[.int .i64 0, .string ⟨#[]⟩, .bool false, .slice none 0 0, .slice none 0 0, .slice none 0 0, .int .i64 0], .int .i64 j, .int .i64 x])) (((((((w5.setCell ⟨G, 0, none⟩ a).setCell ⟨G, 1, none⟩ b).setCell ⟨G, 2, none⟩ c).setCell ⟨G, 3, none⟩ d).setCell ⟨G, 4, none⟩ e).setCell ⟨G, 5, none⟩ f).setCell ⟨G, 6, none⟩ g) :=
 ⟨0, ⟨#[]⟩, false, none, 0, 0, none, 0, 0, none, 0, 0, 0, j, x, rfl, grown_new hg (set7_gr w5 G a b c d e f g) (fun g e => by cases e; exact hG), .inr ⟨hx, h⟩⟩
theorem RxP.ok {X : Nat → Prop} {m G : Nat} {w w5 : World} {r : Rs Tr} {j : Nat} {t : Tr} {y1 : Int} {y2 : ByteArray} {y3 : Bool} {s1 : Option Addr} {r1 k1 : Nat} {s2 : Option Addr} {r2 k2 : Nat} {s3 : Option Addr} {r3 k3 : Nat} {y7 : Int} (hg : w.grownBy w5 none) (hG : w.heap.size ≤ G) (h : r = .ok t j) (hE : ERdX (fun k => X k ∨ k = G) w5 m [.int .i64 y1, .string y2, .bool y3, .slice s1 r1 k1, .slice s2 r2 k2, .slice s3 r3 k3, .int .i64 y7] t) :
  RxP X w m r (.returned (.tuple #[.agg #[.int .i64 y1, .string y2, .bool y3, .slice s1 r1 k1, .slice s2 r2 k2, .slice s3 r3 k3, .int .i64 y7], .int .i64 j, .int .i64 0])) (((((((w5.setCell ⟨G, 0, none⟩ (.int .i64 y1)).setCell ⟨G, 1, none⟩ (.string y2)).setCell ⟨G, 2, none⟩ (.bool y3)).setCell ⟨G, 3, none⟩ (.slice s1 r1 k1)).setCell ⟨G, 4, none⟩ (.slice s2 r2 k2)).setCell ⟨G, 5, none⟩ (.slice s3 r3 k3)).setCell ⟨G, 6, none⟩ (.int .i64 y7)) := by
 have hs := set7_gr w5 G (.int .i64 y1) (.string y2) (.bool y3) (.slice s1 r1 k1) (.slice s2 r2 k2) (.slice s3 r3 k3) (.int .i64 y7)
 exact ⟨y1, y2, y3, s1, r1, k1, s2, r2, k2, s3, r3, k3, y7, j, 0, rfl, grown_new hg hs (fun g e => by cases e; exact hG), .inl ⟨rfl, t, h, (hE.kept hs (fun g e => by cases e; exact .inr rfl)).more (fun b hb => .inl (.inl hb))⟩⟩
theorem RxP.store {X : Nat → Prop} {m G : Nat} {w w5 : World} {r : Rs Tr} {j : Nat} {x : Int} {y1 : Int} {y2 : ByteArray} {y3 : Bool} {s1 : Option Addr} {r1 k1 : Nat} {s2 : Option Addr} {r2 k2 : Nat} {s3 : Option Addr} {r3 k3 : Nat} {y7 : Int} (hg : w.grownBy w5 none) (hG : w.heap.size ≤ G)
  (hO : (x = 0 ∧ ∃ t, r = .ok t j ∧ ERdX (fun k => X k ∨ k = G) w5 m [.int .i64 y1, .string y2, .bool y3, .slice s1 r1 k1, .slice s2 r2 k2, .slice s3 r3 k3, .int .i64 y7] t) ∨ (x ≠ 0 ∧ r = .bad j x)) :
  RxP X w m r (.returned (.tuple #[.agg #[.int .i64 y1, .string y2, .bool y3, .slice s1 r1 k1, .slice s2 r2 k2, .slice s3 r3 k3, .int .i64 y7], .int .i64 j, .int .i64 x])) (((((((w5.setCell ⟨G, 0, none⟩ (.int .i64 y1)).setCell ⟨G, 1, none⟩ (.string y2)).setCell ⟨G, 2, none⟩ (.bool y3)).setCell ⟨G, 3, none⟩ (.slice s1 r1 k1)).setCell ⟨G, 4, none⟩ (.slice s2 r2 k2)).setCell ⟨G, 5, none⟩ (.slice s3 r3 k3)).setCell ⟨G, 6, none⟩ (.int .i64 y7)) := by
 have hs := set7_gr w5 G (.int .i64 y1) (.string y2) (.bool y3) (.slice s1 r1 k1) (.slice s2 r2 k2) (.slice s3 r3 k3) (.int .i64 y7)
 refine ⟨y1, y2, y3, s1, r1, k1, s2, r2, k2, s3, r3, k3, y7, j, x, rfl, grown_new hg hs (fun g e => by cases e; exact hG), ?_⟩
 rcases hO with ⟨h0, t, h, hE⟩ | h
 ·exact .inl ⟨h0, t, h, (hE.kept hs (fun g e => by cases e; exact .inr rfl)).more (fun b hb => .inl (.inl hb))⟩
 ·exact .inr h
def RaC (rd : Nat → List Nat → Rs Tr) (dep : Int) (L : List Tok) (m : Nat) : Prop :=
 ∀ (w : World) (X : Nat → Prop) (p : Option Addr) (c : Nat) (j so : Nat), (∀ k, X k → k < w.heap.size) → (∀ k, X k → NU w k) → TokRd w p c L → j < L.length →
  Calls Tryz.prog 39 #[.slice p L.length c, .int .i64 j, .int .i64 so, .int .i64 dep] w (RxP X w m (rd j (soP so)))
set_option maxHeartbeats 64000000 in
theorem rArg_any {dep : Int} {L : List Tok} {m : Nat} (hL : LkOk L) (hd1 : 0 ≤ dep) (hd2 : dep ≤ 100) {p : Option Addr} {c : Nat} {w : World} (h : TokRd w p c L) (X : Nat → Prop) (hX : ∀ k, X k → k < w.heap.size) (hNU : ∀ k, X k → NU w k) {j : Nat} (hj : j < L.length) (so : Nat) (aR cR : Rs Tr)
  (haR : ((isN (tk L j) = false ∧ kO (soP so) (tk L j) = 0) → aR = .bad j 5) ∧ (¬ (isN (tk L j) = false ∧ kO (soP so) (tk L j) = 0) → dep > 20 → aR = .bad j 4) ∧ (¬ dep > 20 → isN (tk L j) = true → aR = .ok (leaf (tk L j)) (j + 1)) ∧ (¬ dep > 20 → isN (tk L j) = false → ¬ kO (soP so) (tk L j) = 0 → aR = cR))
  (hcon : ¬ dep > 20 → ∀ (Y : Nat → Prop) (W : World), (∀ k, Y k → k < W.heap.size) → (∀ k, Y k → NU W k) → TokRd W p c L → Calls Tryz.prog 74 #[.slice p L.length c, .int .i64 j, .int .i64 so, .int .i64 dep] W (RxP Y W (m + 1) cR)) :
  Calls Tryz.prog 39 #[.slice p L.length c, .int .i64 j, .int .i64 so, .int .i64 dep] w (RxP X w (m + 1) aR) := by
 obtain ⟨g, o, rfl, -, -, -, -⟩ := tok_at h hj
 have hlen := hL.len
 have hcap := SRd.cap h
 have hmax := SRd.max h
 obtain ⟨wB, hwB⟩ : ∃ wB, wB = w.alloc (.cells #[.int .i64 0, .string ⟨#[]⟩, .bool false, .slice none 0 0, .slice none 0 0, .slice none 0 0, .int .i64 0] 38 (0, 0)) := ⟨_, rfl⟩
 have gB : w.grownBy wB none := by rw [hwB]; exact World.grownBy_alloc _ _ _
 have BR : Hid (wB.heap[w.heap.size]? = some (.cells #[.int .i64 0, .string ⟨#[]⟩, .bool false, .slice none 0 0, .slice none 0 0, .slice none 0 0, .int .i64 0] 38 (0, 0))) := hid (by rw [hwB]; exact blk0 w _)
 have HTR := hid h
 have HW := hid gB
 have HLK := hid hL
 have hTk : TkOk (tk L j) := by rw [tk_at hj]; exact hL.ok j hj
 have HIN := hid fun W => rIsN_any hTk W
 have HKD := hid fun W => rKindOf_any hTk so W
 have HTS : Hid ((tk L j).d.size ≤ maxLen) := hid (by rw [Lib.size_eq]; have := hTk.sz; unfold maxLen; omega)
 have HXS := hid hX
 have HNU := hid hNU
 have HCON := hid hcon
 have haR := hid haR
 have HNE : Hid (isN (tk L j) = true → j + 1 < L.length) := hid fun hn => hL.next hj (isN_ne hn)
 replace hwB := hid hwB
 obtain ⟨kk, hkk⟩ : ∃ kk, kO (soP so) (tk L j) = kk := ⟨_, rfl⟩
 obtain ⟨nn, hnn⟩ : ∃ nn, isN (tk L j) = nn := ⟨_, rfl⟩
 rw [hkk] at haR HKD
 rw [hnn] at haR HIN HNE
 have HSZ := hid (Nat.le_refl w.heap.size)
 obtain ⟨t0, t1, t2, t3⟩ := tok_cells (HTR.out.keep HW.out) hj
 have HT0 := hid (tok_cells h hj).1
 generalize tk L j = t at *
 have HRD := hid fun W (hg : w.grownBy W none) => HTR.out.keep hg
 clear h gB hL hX hNU hcon hTk hkk hnn
 cases nn with
 | false =>
  by_cases hk0 : kk = 0
  ·have HRM : Hid (aR = .bad j 5) := hid (haR.out.1 ⟨rfl, hk0⟩)
   have hkz : (kk : Int) = 0 := by omega
   go_enter Tryz.func39, Tryz.ntmps39
   go_upto_region 1 with fail
   rw [← hwB.out]
   go_upto_region 2 with (first | (go_at_call 73; (with_reducible refine (HIN.out _).mono ?_); rintro e wn ⟨rfl, hg⟩; replace HW := hid (grown_trans HW.out hg); replace BR := hid (keepB BR.out hg); replace t0 := hg.cell t0 (by simp); replace t1 := hg.cell t1 (by simp); replace t2 := hg.cell t2 (by simp); replace t3 := hg.cell t3 (by simp); clear hg) | (go_at_call 38; (with_reducible refine (HKD.out _).mono ?_); rintro e wn ⟨rfl, hg⟩; replace HW := hid (grown_trans HW.out hg); replace BR := hid (keepB BR.out hg); replace t0 := hg.cell t0 (by simp); replace t1 := hg.cell t1 (by simp); replace t2 := hg.cell t2 (by simp); replace t3 := hg.cell t3 (by simp); clear hg))
   obtain ⟨⟨z0, z1, z2, z3, z4, z5, z6⟩, y0, q1, q2, q3, q4, q5, q6⟩ := box7 BR.out
   have HP := hid (RxP.bad (X := X) (m := m + 1) (.int .i64 0) (.string ⟨#[]⟩) (.bool false) (.slice none 0 0) (.slice none 0 0) (.slice none 0 0) (.int .i64 0) HW.out HSZ.out (HRM.out) (by decide))
   obtain ⟨⟨l0, l1, l2, l3, l4, l5, l6⟩, -⟩ := box7 (set7_blk BR.out (.int .i64 0) (.string ⟨#[]⟩) (.bool false) (.slice none 0 0) (.slice none 0 0) (.slice none 0 0) (.int .i64 0))
   go_wp2_with fail
   exact bodyPost_ret (v := .tuple #[.agg #[.int .i64 0, .string ⟨#[]⟩, .bool false, .slice none 0 0, .slice none 0 0, .slice none 0 0, .int .i64 0], .int .i64 j, .int .i64 5]) (by simp [results, Tryz.results39, go_sem, l0, l1, l2, l3, l4, l5, l6]) rfl HP.out
  ·have hk1 : ¬ ((kk : Int) = 0) := by omega
   by_cases hd20 : dep > 20
   ·have hdp : (20 : Int) < dep := hd20
    have HRM : Hid (aR = .bad j 4) := hid (haR.out.2.1 (fun h => hk0 h.2) hd20)
    go_enter Tryz.func39, Tryz.ntmps39
    go_upto_region 1 with fail
    rw [← hwB.out]
    go_upto_region 4 with (first | (go_at_call 73; (with_reducible refine (HIN.out _).mono ?_); rintro e wn ⟨rfl, hg⟩; replace HW := hid (grown_trans HW.out hg); replace BR := hid (keepB BR.out hg); replace t0 := hg.cell t0 (by simp); replace t1 := hg.cell t1 (by simp); replace t2 := hg.cell t2 (by simp); replace t3 := hg.cell t3 (by simp); clear hg) | (go_at_call 38; (with_reducible refine (HKD.out _).mono ?_); rintro e wn ⟨rfl, hg⟩; replace HW := hid (grown_trans HW.out hg); replace BR := hid (keepB BR.out hg); replace t0 := hg.cell t0 (by simp); replace t1 := hg.cell t1 (by simp); replace t2 := hg.cell t2 (by simp); replace t3 := hg.cell t3 (by simp); clear hg))
    obtain ⟨⟨z0, z1, z2, z3, z4, z5, z6⟩, y0, q1, q2, q3, q4, q5, q6⟩ := box7 BR.out
    have HP := hid (RxP.bad (X := X) (m := m + 1) (.int .i64 0) (.string ⟨#[]⟩) (.bool false) (.slice none 0 0) (.slice none 0 0) (.slice none 0 0) (.int .i64 0) HW.out HSZ.out (HRM.out) (by decide))
    obtain ⟨⟨l0, l1, l2, l3, l4, l5, l6⟩, -⟩ := box7 (set7_blk BR.out (.int .i64 0) (.string ⟨#[]⟩) (.bool false) (.slice none 0 0) (.slice none 0 0) (.slice none 0 0) (.int .i64 0))
    go_wp2_with fail
    exact bodyPost_ret (v := .tuple #[.agg #[.int .i64 0, .string ⟨#[]⟩, .bool false, .slice none 0 0, .slice none 0 0, .slice none 0 0, .int .i64 0], .int .i64 j, .int .i64 4]) (by simp [results, Tryz.results39, go_sem, l0, l1, l2, l3, l4, l5, l6]) rfl HP.out
   ·have hdp : ¬ (20 : Int) < dep := hd20
    have HRM : Hid (aR = cR) := hid (haR.out.2.2.2 hd20 rfl hk0)
    have HCN2 := hid (HCON.out hd20)
    clear HCON
    go_enter Tryz.func39, Tryz.ntmps39
    go_upto_region 1 with fail
    rw [← hwB.out]
    go_upto_region 7 with (first | (go_at_call 73; (with_reducible refine (HIN.out _).mono ?_); rintro e wn ⟨rfl, hg⟩; replace HW := hid (grown_trans HW.out hg); replace BR := hid (keepB BR.out hg); replace t0 := hg.cell t0 (by simp); replace t1 := hg.cell t1 (by simp); replace t2 := hg.cell t2 (by simp); replace t3 := hg.cell t3 (by simp); clear hg) | (go_at_call 38; (with_reducible refine (HKD.out _).mono ?_); rintro e wn ⟨rfl, hg⟩; replace HW := hid (grown_trans HW.out hg); replace BR := hid (keepB BR.out hg); replace t0 := hg.cell t0 (by simp); replace t1 := hg.cell t1 (by simp); replace t2 := hg.cell t2 (by simp); replace t3 := hg.cell t3 (by simp); clear hg))
    have HCN := hid (HCN2.out (fun k => X k ∨ k = w.heap.size) _ (fun k hk => by have h1 := lt_of_block BR.out; have h2 := HW.out.size; rcases hk with h | h; have := HXS.out k h; omega; omega) (fun k hk => by rcases hk with h | rfl; exact NU.kept (HNU.out k h) (HXS.out k h) HW.out (by simp); exact nu7 BR.out) (HRD.out _ HW.out))
    go_wp2_with (go_at_call 74; (with_reducible refine HCN.out.mono ?_); rintro e wf ⟨y1, y2, y3, s1, r1, k1, s2, r2, k2, s3, r3, k3, y7, jj, x, rfl, hg, hO⟩; have HO := hid hO; replace HW := hid (grown_trans HW.out hg); replace BR := hid (keepB BR.out hg); clear hg hO; obtain ⟨⟨z0, z1, z2, z3, z4, z5, z6⟩, y0, q1, q2, q3, q4, q5, q6⟩ := box7 BR.out)
    have HP := hid (RxP.store HW.out HSZ.out HO.out)
    obtain ⟨⟨l0, l1, l2, l3, l4, l5, l6⟩, -⟩ := box7 (set7_blk BR.out (.int .i64 y1) (.string y2) (.bool y3) (.slice s1 r1 k1) (.slice s2 r2 k2) (.slice s3 r3 k3) (.int .i64 y7))
    clear z0 z1 z2 z3 z4 z5 z6 y0 q1 q2 q3 q4 q5 q6
    rw [HRM.out]
    exact bodyPost_ret (v := .tuple #[.agg #[.int .i64 y1, .string y2, .bool y3, .slice s1 r1 k1, .slice s2 r2 k2, .slice s3 r3 k3, .int .i64 y7], .int .i64 jj, .int .i64 x]) (by simp [results, Tryz.results39, go_sem, l0, l1, l2, l3, l4, l5, l6]) rfl HP.out
 | true =>
  by_cases hd20 : dep > 20
  ·have hdp : (20 : Int) < dep := hd20
   have HRM : Hid (aR = .bad j 4) := hid (haR.out.2.1 (fun h => by cases h.1) hd20)
   go_enter Tryz.func39, Tryz.ntmps39
   go_upto_region 1 with fail
   rw [← hwB.out]
   go_upto_region 4 with (first | (go_at_call 73; (with_reducible refine (HIN.out _).mono ?_); rintro e wn ⟨rfl, hg⟩; replace HW := hid (grown_trans HW.out hg); replace BR := hid (keepB BR.out hg); replace t0 := hg.cell t0 (by simp); replace t1 := hg.cell t1 (by simp); replace t2 := hg.cell t2 (by simp); replace t3 := hg.cell t3 (by simp); clear hg) | (go_at_call 38; (with_reducible refine (HKD.out _).mono ?_); rintro e wn ⟨rfl, hg⟩; replace HW := hid (grown_trans HW.out hg); replace BR := hid (keepB BR.out hg); replace t0 := hg.cell t0 (by simp); replace t1 := hg.cell t1 (by simp); replace t2 := hg.cell t2 (by simp); replace t3 := hg.cell t3 (by simp); clear hg))
   obtain ⟨⟨z0, z1, z2, z3, z4, z5, z6⟩, y0, q1, q2, q3, q4, q5, q6⟩ := box7 BR.out
   have HP := hid (RxP.bad (X := X) (m := m + 1) (.int .i64 0) (.string ⟨#[]⟩) (.bool false) (.slice none 0 0) (.slice none 0 0) (.slice none 0 0) (.int .i64 0) HW.out HSZ.out (HRM.out) (by decide))
   obtain ⟨⟨l0, l1, l2, l3, l4, l5, l6⟩, -⟩ := box7 (set7_blk BR.out (.int .i64 0) (.string ⟨#[]⟩) (.bool false) (.slice none 0 0) (.slice none 0 0) (.slice none 0 0) (.int .i64 0))
   go_wp2_with fail
   exact bodyPost_ret (v := .tuple #[.agg #[.int .i64 0, .string ⟨#[]⟩, .bool false, .slice none 0 0, .slice none 0 0, .slice none 0 0, .int .i64 0], .int .i64 j, .int .i64 4]) (by simp [results, Tryz.results39, go_sem, l0, l1, l2, l3, l4, l5, l6]) rfl HP.out
  ·have hdp : ¬ (20 : Int) < dep := hd20
   have HRM : Hid (aR = .ok (leaf t) (j + 1)) := hid (haR.out.2.2.1 hd20 rfl)
   go_enter Tryz.func39, Tryz.ntmps39
   go_upto_region 1 with fail
   rw [← hwB.out]
   go_upto_region 6 with (first | (go_at_call 73; (with_reducible refine (HIN.out _).mono ?_); rintro e wn ⟨rfl, hg⟩; replace HW := hid (grown_trans HW.out hg); replace BR := hid (keepB BR.out hg); replace t0 := hg.cell t0 (by simp); replace t1 := hg.cell t1 (by simp); replace t2 := hg.cell t2 (by simp); replace t3 := hg.cell t3 (by simp); clear hg) | (go_at_call 38; (with_reducible refine (HKD.out _).mono ?_); rintro e wn ⟨rfl, hg⟩; replace HW := hid (grown_trans HW.out hg); replace BR := hid (keepB BR.out hg); replace t0 := hg.cell t0 (by simp); replace t1 := hg.cell t1 (by simp); replace t2 := hg.cell t2 (by simp); replace t3 := hg.cell t3 (by simp); clear hg))
   obtain ⟨j1, hj1⟩ : ∃ j1, j + 1 = j1 := ⟨_, rfl⟩
   have ej1 : (j : Int) + 1 = (j1 : Int) := by omega
   have ew1 : IntKind.i64.wrap (j1 : Int) = (j1 : Int) := IntWalk.i64_in _ (by omega)
   rw [hj1] at HRM
   clear hj1
   have hgw : g < w.heap.size := World.block_lt_of_cell? w _ (HT0.out)
   refine wp_region_noPanic ?_
   refine wp_region_held_drew (S := (fun W' => W'.cell? ⟨g, o + j * 4 + 1, none⟩ = some (.int .i64 t.pos) ∧ W'.cell? ⟨g, o + j * 4 + 3, none⟩ = some (.string t.d))) (by kernel_rfl) ?_ (fun hHeld => ?_)
   ·(try dsimp only)
    exact ⟨(grown_drew _ none).cell t1 (by simp), (grown_drew _ none).cell t3 (by simp)⟩
   have hgd := grown_drew wn none
   have BD := keepB BR.out hgd
   have HBD := hid BD
   have HWD := hid (grown_trans HW.out hgd)
   clear hgd
   generalize wn.drew = wd at *
   refine tkH (v := ?_) 0 rfl hHeld ?_ ?_; rotate_left 1
   ·intro W hSw; (try dsimp only at hSw); obtain ⟨s1, s3⟩ := hSw; go_simp; (try (with_reducible rfl))
   (try simp only [Act.put, pu1, pu2, pu3])
   refine tkH (v := ?_) 1 rfl hHeld ?_ ?_; rotate_left 1
   ·intro W hSw; (try dsimp only at hSw); obtain ⟨s1, s3⟩ := hSw; go_simp; (try (with_reducible rfl))
   (try simp only [Act.put, pu1, pu2, pu3])
   refine tkH (v := ?_) 2 rfl hHeld ?_ ?_; rotate_left 1
   ·intro W hSw; (try dsimp only at hSw); obtain ⟨s1, s3⟩ := hSw; go_simp; (try (with_reducible rfl))
   (try simp only [Act.put, pu1, pu2, pu3])
   refine tkH (v := ?_) 3 rfl hHeld ?_ ?_; rotate_left 1
   ·intro W hSw; (try dsimp only at hSw); obtain ⟨s1, s3⟩ := hSw; go_simp; (try (with_reducible rfl))
   (try simp only [Act.put, pu1, pu2, pu3])
   refine tkH (v := ?_) 4 rfl hHeld ?_ ?_; rotate_left 1
   ·intro W hSw; (try dsimp only at hSw); obtain ⟨s1, s3⟩ := hSw; go_simp; (try (with_reducible rfl))
   (try simp only [Act.put, pu1, pu2, pu3])
   refine tkH (v := ?_) 5 rfl hHeld ?_ ?_; rotate_left 1
   ·intro W hSw; (try dsimp only at hSw); obtain ⟨s1, s3⟩ := hSw; go_simp; (try (with_reducible rfl))
   (try simp only [Act.put, pu1, pu2, pu3])
   refine tkH (v := ?_) 6 rfl hHeld ?_ ?_; rotate_left 1
   ·intro W hSw; (try dsimp only at hSw); obtain ⟨s1, s3⟩ := hSw; go_simp; (try (with_reducible rfl))
   (try simp only [Act.put, pu1, pu2, pu3])
   refine tkH (v := ?_) 7 rfl hHeld ?_ ?_; rotate_left 1
   ·intro W hSw; (try dsimp only at hSw); obtain ⟨s1, s3⟩ := hSw; go_simp; (try (with_reducible rfl))
   (try simp only [Act.put, pu1, pu2, pu3])
   refine tkH (v := ?_) 8 rfl hHeld ?_ ?_; rotate_left 1
   ·intro W hSw; (try dsimp only at hSw); obtain ⟨s1, s3⟩ := hSw; go_simp; (try (with_reducible rfl))
   (try simp only [Act.put, pu1, pu2, pu3])
   refine tkH (v := ?_) 9 rfl hHeld ?_ ?_; rotate_left 1
   ·intro W hSw; (try dsimp only at hSw); obtain ⟨s1, s3⟩ := hSw; go_simp; (try (with_reducible rfl))
   (try simp only [Act.put, pu1, pu2, pu3])
   refine tkH (v := ?_) 10 rfl hHeld ?_ ?_; rotate_left 1
   ·intro W hSw; (try dsimp only at hSw); obtain ⟨s1, s3⟩ := hSw; go_simp; (try (with_reducible rfl))
   (try simp only [Act.put, pu1, pu2, pu3])
   refine tkH (v := ?_) 11 rfl hHeld ?_ ?_; rotate_left 1
   ·intro W hSw; (try dsimp only at hSw); obtain ⟨s1, s3⟩ := hSw; go_simp; (try (with_reducible rfl))
   (try simp only [Act.put, pu1, pu2, pu3])
   refine tkH (v := ?_) 12 rfl hHeld ?_ ?_; rotate_left 1
   ·intro W hSw; (try dsimp only at hSw); obtain ⟨s1, s3⟩ := hSw; go_simp; (try (with_reducible rfl))
   (try simp only [Act.put, pu1, pu2, pu3])
   refine wpAnyH_ready (rs := [13]) (by kernel_rfl) (by simp) ?_
   refine aR1 rfl fun K hK => ?_
   (try rw [if_pos (by kernel_rfl)])
   obtain ⟨⟨z0, z1, z2, z3, z4, z5, z6⟩, y0, q1, q2, q3, q4, q5, q6⟩ := box7 BD
   go_simp
   have hgS := set7_gr wd w.heap.size (.int .i64 1) (.string t.d) (.bool false) (.slice none 0 0) (.slice none 0 0) (.slice none 0 0) (.int .i64 t.pos)
   clear z0 z1 z2 z3 z4 z5 z6 y0 q1 q2 q3 q4 q5 q6
   refine hK.out _ _ ?_ (fun hNew => ?_)
   ·have hH := hHeld
    (try dsimp only at hH)
    (try dsimp only)
    exact ⟨hgS.cell hH.1 (by simp; omega), hgS.cell hH.2 (by simp; omega)⟩
   clear hK K hHeld
   have hHeld := hNew
   clear hNew
   (try simp only [Act.put, pu1, pu2, pu3])
   refine tkH (v := ?_) 14 rfl hHeld ?_ ?_; rotate_left 1
   ·intro W hSw; (try dsimp only at hSw); obtain ⟨s1, s3⟩ := hSw; go_simp; (try (with_reducible rfl))
   (try simp only [Act.put, pu1, pu2, pu3])
   refine tkH (v := ?_) 15 rfl hHeld ?_ ?_; rotate_left 1
   ·intro W hSw; (try dsimp only at hSw); obtain ⟨s1, s3⟩ := hSw; go_simp; (try (with_reducible rfl))
   (try simp only [Act.put, pu1, pu2, pu3])
   refine wpAnyH_done (by kernel_rfl) ?_ _
   refine NoPanic.normal ?_
   have HP := hid (RxP.ok (X := X) (m := m + 1) HWD.out HSZ.out HRM.out (leaf_rd HTS.out))
   obtain ⟨⟨l0, l1, l2, l3, l4, l5, l6⟩, -⟩ := box7 (set7_blk HBD.out (.int .i64 1) (.string t.d) (.bool false) (.slice none 0 0) (.slice none 0 0) (.slice none 0 0) (.int .i64 t.pos))
   clear hHeld hgS BD
   go_wp2_with fail
   exact bodyPost_ret (v := .tuple #[.agg #[.int .i64 1, .string t.d, .bool false, .slice none 0 0, .slice none 0 0, .slice none 0 0, .int .i64 t.pos], .int .i64 j1, .int .i64 0]) (by simp [results, Tryz.results39, go_sem, l0, l1, l2, l3, l4, l5, l6]) rfl HP.out
def argsR (rd : Nat → List Nat → Rs Tr) (L : List Tok) (ps : List Nat) (k : Nat) (l : List Tr) (i : Nat) : Rs (List Tr) := (argsM rd L (if k = 0 then sOpen else sComma) (ps.drop k) i).map (l ++ ·)
theorem argsR_start (rd : Nat → List Nat → Rs Tr) (L : List Tok) (ps : List Nat) (i : Nat) : argsR rd L ps 0 [] i = argsM rd L sOpen ps i := Rs.map_id' _ _ fun a => rfl
theorem argsR_end {rd : Nat → List Nat → Rs Tr} {L : List Tok} {ps : List Nat} {k : Nat} (h : ps.length ≤ k) (l : List Tr) (i : Nat) : argsR rd L ps k l i = .ok l i := by
  unfold argsR
  rw [List.drop_eq_nil_of_le h]
  show Rs.ok (l ++ []) i = _
  rw [List.append_nil]
theorem argsR_bad {rd : Nat → List Nat → Rs Tr} {L : List Tok} {ps : List Nat} {k : Nat} (h : k < ps.length) {l : List Tr} {i : Nat} (hs : ¬ (tk L i).d = if k = 0 then sOpen else sComma) : argsR rd L ps k l i = .bad i 5 := by
  unfold argsR
  rw [List.drop_eq_getElem_cons h]
  show Rs.map ((expM _ L i).bind _) _ = _
  unfold expM
  rw [if_neg hs]
  rfl
theorem argsR_bad2 {rd : Nat → List Nat → Rs Tr} {L : List Tok} {ps : List Nat} {k : Nat} (h : k < ps.length) {l : List Tr} {i : Nat} (hs : (tk L i).d = if k = 0 then sOpen else sComma) {j : Nat} {e : Int} (hr : rd (i + 1) (soP ps[k]) = .bad j e) : argsR rd L ps k l i = .bad j e := by
  unfold argsR
  rw [List.drop_eq_getElem_cons h]
  show Rs.map ((expM _ L i).bind _) _ = _
  unfold expM
  rw [if_pos hs]
  show Rs.map ((rd (i + 1) (soP ps[k])).bind _) _ = _
  rw [hr]
  rfl
theorem argsR_step {rd : Nat → List Nat → Rs Tr} {L : List Tok} {ps : List Nat} {k : Nat} (h : k < ps.length) {l : List Tr} {i : Nat} (hs : (tk L i).d = if k = 0 then sOpen else sComma) {j : Nat} {t : Tr} (hr : rd (i + 1) (soP ps[k]) = .ok t j) : argsR rd L ps k l i = argsR rd L ps (k + 1) (l ++ [t]) j := by
  unfold argsR
  rw [List.drop_eq_getElem_cons h]
  show Rs.map ((expM _ L i).bind _) _ = _
  unfold expM
  rw [if_pos hs]
  show Rs.map ((rd (i + 1) (soP ps[k])).bind _) _ = _
  rw [hr, if_neg (Nat.succ_ne_zero k)]
  show Rs.map (Rs.map (argsM rd L sComma (ps.drop (k + 1)) j) (t :: ·)) _ = _
  rw [Rs.map_map]
  congr 1
  funext a
  simp
theorem oneCellsP {k : Int} {nm : ByteArray} {g : Bool} {pn : Option Addr} {nn cn : Nat} {pd : Option Addr} {nd cd : Nat} {pa : Option Addr} {na ca : Nat} {pos : Int} :
  ∀ u ∈ [Value.int .i64 k, .string nm, .bool g, .slice pn nn cn, .slice pd nd cd, .slice pa na ca, .int .i64 pos], u.oneCell' = true := by
 intro u hu
 simp only [List.mem_cons, List.not_mem_nil, or_false] at hu
 rcases hu with rfl | rfl | rfl | rfl | rfl | rfl | rfl <;> rfl
theorem noUP {k : Int} {nm : ByteArray} {g : Bool} {pn : Option Addr} {nn cn : Nat} {pd : Option Addr} {nd cd : Nat} {pa : Option Addr} {na ca : Nat} {pos : Int} :
  ∀ u ∈ [Value.int .i64 k, .string nm, .bool g, .slice pn nn cn, .slice pd nd cd, .slice pa na ca, .int .i64 pos], NoU u := by
 intro u hu
 simp only [List.mem_cons, List.not_mem_nil, or_false] at hu
 rcases hu with rfl | rfl | rfl | rfl | rfl | rfl | rfl
 ·exact NoU.int _
 ·exact NoU.str _
 ·exact NoU.bool _
 ·exact NoU.slice _ _ _
 ·exact NoU.slice _ _ _
 ·exact NoU.slice _ _ _
 ·exact NoU.int _
theorem exprZU : ∀ v ∈ (Value.agg #[.int .i64 0, .string ⟨#[]⟩, .bool false, .slice none 0 0, .slice none 0 0, .slice none 0 0, .int .i64 0]).cells, NoU v := fun v hv => by
 have e : (Value.agg #[.int .i64 0, .string ⟨#[]⟩, .bool false, .slice none 0 0, .slice none 0 0, .slice none 0 0, .int .i64 0]).cells = #[.int .i64 0, .string ⟨#[]⟩, .bool false, .slice none 0 0, .slice none 0 0, .slice none 0 0, .int .i64 0] := by kernel_rfl
 rw [e] at hv
 exact noUP (k := 0) (nm := ⟨#[]⟩) (g := false) (pn := none) (nn := 0) (cn := 0) (pd := none) (nd := 0) (cd := 0) (pa := none) (na := 0) (ca := 0) (pos := 0) v (by simpa using hv)
theorem grown_opt {w0 w w' : World} {r : Option Nat} {p : Option Addr} (h : w0.grownBy w r) (h' : w.grownBy w' (p.map (·.block))) (hp : ∀ q, p = some q → w0.heap.size ≤ q.block) : w0.grownBy w' r := by
 cases p with
 | none =>
  cases r with
  | none => exact grown_trans h h'
  | some b => exact grown_trans h (grown_some h' b)
 | some q => exact grown_newr h h' (hp q rfl)
theorem RowsK.snoc {X : Nat → Prop} {w : World} {m k : Nat} {rows : List (List Value)} {l : List Tr} (h : RowsK X w m k rows l) (hk : rows.length = k) {r : List Value} {t : Tr} (hE : ERdX X w m r t) : RowsK X w m (k + 1) (rows ++ [r]) (l ++ [t]) := by
 refine ⟨by simp [h.1], fun i hi hi' => ?_⟩
 have h1 := h.1
 by_cases hik : i < k
 ·rw [List.getElem_append_left (by omega), List.getElem_append_left (by omega)]
  exact h.2 i (by omega) (by omega)
 ·have e : i = k := by simp at hi; omega
  subst e
  rw [List.getElem_append_right (by omega), List.getElem_append_right (by omega)]
  simp only [hk, h1, Nat.sub_self, List.getElem_cons_zero]
  exact hE
theorem RowsK.app {X : Nat → Prop} {G K1 : Nat} {w7 w8 w9 : World} {m k : Nat} {rows : List (List Value)} {l : List Tr} {r : List Value} {t : Tr} {pa p' : Option Addr} (h : RowsK (fun b => X b ∨ b = G ∨ b = K1 ∨ pa.map (·.block) = some b) w7 m k rows l) (hl : rows.length = k) (hE : ERdX (fun b => X b ∨ b = G ∨ b = K1 ∨ pa.map (·.block) = some b) w7 m r t)
  (hgA : w7.grownBy w8 (pa.map (·.block))) (hat : p'.map (·.block) = pa.map (·.block) ∨ p'.map (·.block) = some w7.heap.size) (hgS : w8.grownBy w9 (some K1)) : RowsK (fun b => X b ∨ b = G ∨ b = K1 ∨ p'.map (·.block) = some b) w9 m (k + 1) (rows ++ [r]) (l ++ [t]) := by
 have h1 := h.snoc hl hE
 have h2 : RowsK (fun b => (X b ∨ b = G ∨ b = K1 ∨ pa.map (·.block) = some b) ∨ b = w7.heap.size) w7 m (k + 1) (rows ++ [r]) (l ++ [t]) := h1.more (fun b hb => by rcases hb with h | h; exact .inl h; exact .inr (by omega))
 have h3 := (h2.kept hgA (fun g e => .inl (.inr (.inr (.inr e))))).kept hgS (fun g e => by cases e; exact .inl (.inr (.inr (.inl rfl))))
 refine h3.more (fun b hb => .inl ?_)
 rcases hb with h | h | h | h
 ·exact .inl (.inl h)
 ·exact .inl (.inr (.inl h))
 ·exact .inl (.inr (.inr (.inl h)))
 ·rcases hat with e | e
  ·exact .inl (.inr (.inr (.inr (by rw [← e]; exact h))))
  ·rw [e] at h
   exact .inr (by cases h; rfl)
theorem one_srdC {w : World} {G : Nat} {e : TypeId} {k : Nat} {r : List Value} (hb : w.heap[G]? = some (.cells r.toArray e (0, 0))) (hr : r.length = k) : SRd w k (some ⟨G, 0, none⟩) 1 1 [r] := by
 refine ⟨rfl, by simpa using hr, Nat.le_refl _, by omega, fun i hi j hj => ⟨G, 0, rfl, ?_⟩⟩
 simp only [List.length_cons, List.length_nil, Nat.zero_add, Nat.lt_one_iff] at hi
 subst hi
 simp only [List.getElem_cons_zero] at hj ⊢
 rw [cell_of_row w G (0 + 0 * k + j) _ _ _ hb]
 simp [hj]
set_option maxHeartbeats 4000000 in
theorem rHasRN (k : Nat) (f : Bool) (hf : hasR k = f) (w : World) : Calls Tryz.prog 122 #[.int .i64 k] w fun e w' => e = .returned (.bool f) ∧ w.grownBy w' none := by
 subst hf
 unfold hasR
 by_cases h1 : k = 11
 ·subst h1
  go_enter Tryz.func122, Tryz.ntmps122
  go_wp2_with fail
  go_ret
  exact ⟨by simp, grown_refl _ _⟩
 ·have hq : ((k : Int) == 11) = false := by simpa using (by omega : ¬ (k : Int) = 11)
  by_cases h2 : k = 68
  ·subst h2
   go_enter Tryz.func122, Tryz.ntmps122
   go_wp2_with fail
   go_ret
   exact ⟨by simp, grown_refl _ _⟩
  ·have hq2 : ((k : Int) == 68) = false := by simpa using (by omega : ¬ (k : Int) = 68)
   go_enter Tryz.func122, Tryz.ntmps122
   go_wp2_with fail
   go_ret
   exact ⟨by simp [h1, h2], grown_refl _ _⟩
theorem rowsH_ard {X X' : Nat → Prop} {w : World} {m n c base : Nat} {T : TypeId} {rows : List (List Value)} {l : List Tr} {pa : Option Addr} (h : RowsK X' w m n rows l) (hO : HOwn w base T 7 pa n c rows) (hXX : ∀ b, X b → X' b) (hXb : ∀ b, X b → b < base) : ARdX X w m pa n c l := by
 have h1 := h.1
 have h2 := hO.len
 have hR := hO.rd
 refine ⟨⟨h1, hO.cap, hO.max⟩, fun i hi => ?_⟩
 obtain ⟨b, o, e, hc⟩ := hR.at (by decide) (i := i) (by omega)
 have h7 : (rows[i]'(by omega)).length = 7 := hO.each _ (List.getElem_mem _)
 refine ⟨b, o, rows[i]'(by omega), e, fun hb => ?_, h7, fun j hj => hc j hj, (h.2 i (by omega) hi).more (fun b hb => .inl (hXX b hb))⟩
 have h3 := (hO.lt _ e).1
 have h4 := hXb b hb
 simp at h3
 omega
theorem con0 {X : Nat → Prop} {w : World} {m : Nat} {pa : Option Addr} {na ca : Nat} {l : List Tr} (h : ARdX X w m pa na ca l) {k pos : Nat} :
  ERdX X w (m + 1) [.int .i64 k, .string ⟨#[]⟩, .bool false, .slice none 0 0, .slice none 0 0, .slice pa na ca, .int .i64 pos] (nd0 k pos l) :=
 ARdX.erdX ⟨IRd.nil _ _, fun a ha => by cases ha⟩ ⟨IRd.nil _ _, fun a ha => by cases ha⟩ h (by show (0 : Nat) ≤ maxLen; unfold maxLen; omega)
theorem conR {X : Nat → Prop} {w : World} {m : Nat} {pa : Option Addr} {na ca : Nat} {l : List Tr} {g : Bool} {p : Option Addr} {n c : Nat} {q : Option Addr} {m' d : Nat} {v : Rat} (hN : ∀ k, X k → NU w k) (h : ARdX X w m pa na ca l) (hV : IsV w g p n c q m' d v) {k pos : Nat} :
  ERdX X w (m + 1) [.int .i64 k, .string ⟨#[]⟩, .bool g, .slice p n c, .slice q m' d, .slice pa na ca, .int .i64 pos] (ndR k pos v l) := by
 obtain ⟨⟨h1, rfl⟩, h3⟩ := hV
 exact ARdX.erdX (NU.ird hN h1) (NU.ird hN h3) h (by show (0 : Nat) ≤ maxLen; unfold maxLen; omega)
set_option maxHeartbeats 64000000 in
theorem rCon_any {rd : Nat → List Nat → Rs Tr} {dep : Int} {L : List Tok} {m : Nat} (hL : LkOk L) (hA : RaC rd (dep + 1) L m) (hd1 : 0 ≤ dep) (hd2 : dep ≤ 100) (hrd : ∀ j xs, j < L.length → (rd j xs).In L.length) {p : Option Addr} {c : Nat} {w : World} (h : TokRd w p c L) (X : Nat → Prop) (hX : ∀ k, X k → k < w.heap.size) (hNU : ∀ k, X k → NU w k) {j : Nat} (hj : j < L.length) (so : Nat) :
  Calls Tryz.prog 74 #[.slice p L.length c, .int .i64 j, .int .i64 so, .int .i64 dep] w (RxP X w (m + 1) (conM rqV rd L j (soP so))) := by
 obtain ⟨g, o, rfl, -, -, -, -⟩ := tok_at h hj
 have hlen := hL.len
 have hcap := SRd.cap h
 have hmax := SRd.max h
 obtain ⟨wB, hwB⟩ : ∃ wB, wB = w.alloc (.cells #[.int .i64 0, .string ⟨#[]⟩, .bool false, .slice none 0 0, .slice none 0 0, .slice none 0 0, .int .i64 0] 38 (0, 0)) := ⟨_, rfl⟩
 have gB : w.grownBy wB none := by rw [hwB]; exact World.grownBy_alloc _ _ _
 have BR : Hid (wB.heap[w.heap.size]? = some (.cells #[.int .i64 0, .string ⟨#[]⟩, .bool false, .slice none 0 0, .slice none 0 0, .slice none 0 0, .int .i64 0] 38 (0, 0))) := hid (by rw [hwB]; exact blk0 w _)
 have HTR := hid h
 have HW := hid gB
 have HLK := hid hL
 have hTk : TkOk (tk L j) := by rw [tk_at hj]; exact hL.ok j hj
 have HKD := hid fun W => rKindOf_any hTk so W
 have HXS := hid hX
 have HNU := hid hNU
 have HA := hid hA
 have HRI := hid hrd
 replace hwB := hid hwB
 obtain ⟨kk, hkk⟩ : ∃ kk, kO (soP so) (tk L j) = kk := ⟨_, rfl⟩
 have HK1 : Hid (kk ≠ 0 → j + 1 < L.length) := hid fun h0 => hL.next hj (by have := kO_name hTk (by rw [hkk]; exact h0); exact hTk.ne (by omega))
 have HSZ := hid (Nat.le_refl w.heap.size)
 obtain ⟨t0, t1, t2, t3⟩ := tok_cells (HTR.out.keep HW.out) hj
 obtain ⟨R, hR⟩ : ∃ R, conM rqV rd L j (soP so) = R := ⟨_, rfl⟩
 rw [hR]
 unfold conM at hR
 rw [hkk] at hR HKD
 have hR := hid hR
 generalize tk L j = t at *
 have HRD := hid fun W (hg : w.grownBy W none) => HTR.out.keep hg
 clear h gB hL hX hNU hA hTk hkk hrd
 go_enter Tryz.func74, Tryz.ntmps74
 go_upto_region 1 with fail
 rw [← hwB.out]
 have BRB := hid BR.out
 have HCS := hid fun W (hSw : wB.grownBy W none) => And.intro (hSw.cell t0 (by simp)) (And.intro (hSw.cell t1 (by simp)) (And.intro (hSw.cell t2 (by simp)) (hSw.cell t3 (by simp))))
 refine wp_region_noPanic ?_
 refine wp_region_held_drew (S := (fun W' => wB.grownBy W' none)) (by kernel_rfl) ?_ (fun hHeld => ?_)
 ·(try dsimp only)
  exact grown_drew _ none
 have hgg := grown_drew wB none
 generalize wB.drew = wd at *
 refine tkH (v := ?_) 0 rfl hHeld ?_ ?_; rotate_left 1
 ·intro W hSw; obtain ⟨r0, r1, r2, r3⟩ := HCS.out W hSw; go_simp; (try (with_reducible rfl))
 (try simp only [Act.put, pu1, pu2, pu3])
 refine tkH (v := ?_) 1 rfl hHeld ?_ ?_; rotate_left 1
 ·intro W hSw; obtain ⟨r0, r1, r2, r3⟩ := HCS.out W hSw; go_simp; (try (with_reducible rfl))
 (try simp only [Act.put, pu1, pu2, pu3])
 refine tkH (v := ?_) 2 rfl hHeld ?_ ?_; rotate_left 1
 ·intro W hSw; obtain ⟨r0, r1, r2, r3⟩ := HCS.out W hSw; go_simp; (try (with_reducible rfl))
 (try simp only [Act.put, pu1, pu2, pu3])
 refine tkH (v := ?_) 3 rfl hHeld ?_ ?_; rotate_left 1
 ·intro W hSw; obtain ⟨r0, r1, r2, r3⟩ := HCS.out W hSw; go_simp; (try (with_reducible rfl))
 (try simp only [Act.put, pu1, pu2, pu3])
 refine tkH (v := ?_) 4 rfl hHeld ?_ ?_; rotate_left 1
 ·intro W hSw; obtain ⟨r0, r1, r2, r3⟩ := HCS.out W hSw; go_simp; (try (with_reducible rfl))
 (try simp only [Act.put, pu1, pu2, pu3])
 refine tkH (v := ?_) 6 rfl hHeld ?_ ?_; rotate_left 1
 ·intro W hSw; obtain ⟨r0, r1, r2, r3⟩ := HCS.out W hSw; go_simp; (try (with_reducible rfl))
 (try simp only [Act.put, pu1, pu2, pu3])
 refine tkH (v := ?_) 7 rfl hHeld ?_ ?_; rotate_left 1
 ·intro W hSw; obtain ⟨r0, r1, r2, r3⟩ := HCS.out W hSw; go_simp; (try (with_reducible rfl))
 (try simp only [Act.put, pu1, pu2, pu3])
 refine tkH (v := ?_) 8 rfl hHeld ?_ ?_; rotate_left 1
 ·intro W hSw; obtain ⟨r0, r1, r2, r3⟩ := HCS.out W hSw; go_simp; (try (with_reducible rfl))
 (try simp only [Act.put, pu1, pu2, pu3])
 refine tkH (v := ?_) 9 rfl hHeld ?_ ?_; rotate_left 1
 ·intro W hSw; obtain ⟨r0, r1, r2, r3⟩ := HCS.out W hSw; go_simp; (try (with_reducible rfl))
 (try simp only [Act.put, pu1, pu2, pu3])
 refine tkH (v := ?_) 10 rfl hHeld ?_ ?_; rotate_left 1
 ·intro W hSw; obtain ⟨r0, r1, r2, r3⟩ := HCS.out W hSw; go_simp; (try (with_reducible rfl))
 (try simp only [Act.put, pu1, pu2, pu3])
 refine wpAnyH_ready (rs := [5, 12]) (by kernel_rfl) (by simp) ?_
 refine AllReadyH.cons (o := Oper.mk _ _ _ _ _ _) rfl (fun K hK => ?_) ?_
 focus
  (try rw [if_pos (by kernel_rfl)])
  go_simp
  go_at_call 38
  (with_reducible refine (HKD.out _).mono ?_)
  rintro e wy1 ⟨rfl, hgS⟩
  replace hgg := grown_trans hgg hgS
  refine hK.out _ _ ?_ (fun hNew => ?_)
  ·first | with_reducible exact hHeld | with_reducible exact grown_trans hHeld hgS | exact grown_new hHeld hgS (fun g e => by cases e; exact hleK1)
  clear hK K hHeld
  have hHeld := hNew
  clear hNew
  (try simp only [Act.put, pu1, pu2, pu3])
  clear hgS
  refine tkH (v := ?_) 11 rfl hHeld ?_ ?_; rotate_left 1
  ·intro W hSw; obtain ⟨r0, r1, r2, r3⟩ := HCS.out W hSw; go_simp; (try (with_reducible rfl))
  (try simp only [Act.put, pu1, pu2, pu3])
  refine wpAnyH_ready (rs := [12]) (by kernel_rfl) (by simp) ?_
  refine aR1 rfl fun K hK => ?_
  (try rw [if_pos (by kernel_rfl)])
  go_simp
  have hgS := World.grownBy_alloc wy1 (.cells #[.int .i64 0, .string ⟨#[]⟩, .bool false, .slice none 0 0, .slice none 0 0, .slice none 0 0, .int .i64 0] 38 (0, 0)) none
  have hbK := blk0 wy1 (.cells #[.int .i64 0, .string ⟨#[]⟩, .bool false, .slice none 0 0, .slice none 0 0, .slice none 0 0, .int .i64 0] 38 (0, 0))
  have hleK1 := hgg.size
  replace hgg := grown_trans hgg hgS
  refine hK.out _ _ ?_ (fun hNew => ?_)
  ·first | with_reducible exact hHeld | with_reducible exact grown_trans hHeld hgS | exact grown_new hHeld hgS (fun g e => by cases e; exact hleK1)
  clear hK K hHeld
  have hHeld := hNew
  clear hNew
  (try simp only [Act.put, pu1, pu2, pu3])
  generalize wy1.heap.size = K1 at *
  generalize wy1.alloc _ = wy2 at *
  clear hgS
  refine wpAnyH_ready (rs := [13]) (by kernel_rfl) (by simp) ?_
  refine aR1 rfl fun K hK => ?_
  (try rw [if_pos (by kernel_rfl)])
  obtain ⟨⟨z0, z1, z2, z3, z4, z5, z6⟩, y0, q1, q2, q3, q4, q5, q6⟩ := box7 hbK
  go_simp
  have hgS := set7_gr wy2 K1 (.int .i64 kk) (.string ⟨#[]⟩) (.bool false) (.slice none 0 0) (.slice none 0 0) (.slice none 0 0) (.int .i64 t.pos)
  have hbE := set7_blk hbK (.int .i64 kk) (.string ⟨#[]⟩) (.bool false) (.slice none 0 0) (.slice none 0 0) (.slice none 0 0) (.int .i64 t.pos)
  clear z0 z1 z2 z3 z4 z5 z6 y0 q1 q2 q3 q4 q5 q6
  refine hK.out _ _ ?_ (fun hNew => ?_)
  ·first | with_reducible exact hHeld | with_reducible exact grown_trans hHeld hgS | exact grown_new hHeld hgS (fun g e => by cases e; exact hleK1)
  clear hK K hHeld
  have hHeld := hNew
  clear hNew
  (try simp only [Act.put, pu1, pu2, pu3])
  refine wpAnyH_done (by kernel_rfl) ?_ _
  refine NoPanic.normal ?_
  have HG7 := hid (grown_new hgg hgS (fun g e => by cases e; exact hleK1))
  have BR := hid (keepB BR.out HG7.out)
  have HW := hid (grown_trans HW.out HG7.out)
  have BK := hid hbE
  have BKB := hid BK.out
  have hKr : w.heap.size < K1 := by have := lt_of_block (show wB.heap[w.heap.size]? = _ from (BRB.out)); omega
  clear hHeld hgS hbK hbE hgg t0 t1 t2 t3
  generalize ((((((wy2.setCell _ _).setCell _ _).setCell _ _).setCell _ _).setCell _ _).setCell _ _).setCell _ _ = w1 at *
  obtain ⟨⟨x0, x1, x2, x3, x4, x5, x6⟩, -⟩ := box7 BK.out
 rotate_left 1
 refine aR1 rfl fun K hK => ?_
 (try rw [if_pos (by kernel_rfl)])
 go_simp
 have hgS := World.grownBy_alloc wd (.cells #[.int .i64 0, .string ⟨#[]⟩, .bool false, .slice none 0 0, .slice none 0 0, .slice none 0 0, .int .i64 0] 38 (0, 0)) none
 have hbK := blk0 wd (.cells #[.int .i64 0, .string ⟨#[]⟩, .bool false, .slice none 0 0, .slice none 0 0, .slice none 0 0, .int .i64 0] 38 (0, 0))
 have hleK1 := hgg.size
 replace hgg := grown_trans hgg hgS
 refine hK.out _ _ ?_ (fun hNew => ?_)
 ·first | with_reducible exact hHeld | with_reducible exact grown_trans hHeld hgS | exact grown_new hHeld hgS (fun g e => by cases e; exact hleK1)
 clear hK K hHeld
 have hHeld := hNew
 clear hNew
 (try simp only [Act.put, pu1, pu2, pu3])
 generalize wd.heap.size = K1 at *
 generalize wd.alloc _ = wy1 at *
 clear hgS
 refine wpAnyH_ready (rs := [5]) (by kernel_rfl) (by simp) ?_
 refine aR1 rfl fun K hK => ?_
 (try rw [if_pos (by kernel_rfl)])
 go_simp
 go_at_call 38
 (with_reducible refine (HKD.out _).mono ?_)
 rintro e wy2 ⟨rfl, hgS⟩
 replace hgg := grown_trans hgg hgS
 replace hbK := keepB hbK hgS
 refine hK.out _ _ ?_ (fun hNew => ?_)
 ·first | with_reducible exact hHeld | with_reducible exact grown_trans hHeld hgS | exact grown_new hHeld hgS (fun g e => by cases e; exact hleK1)
 clear hK K hHeld
 have hHeld := hNew
 clear hNew
 (try simp only [Act.put, pu1, pu2, pu3])
 clear hgS
 refine tkH (v := ?_) 11 rfl hHeld ?_ ?_; rotate_left 1
 ·intro W hSw; obtain ⟨r0, r1, r2, r3⟩ := HCS.out W hSw; go_simp; (try (with_reducible rfl))
 (try simp only [Act.put, pu1, pu2, pu3])
 refine wpAnyH_ready (rs := [13]) (by kernel_rfl) (by simp) ?_
 refine aR1 rfl fun K hK => ?_
 (try rw [if_pos (by kernel_rfl)])
 obtain ⟨⟨z0, z1, z2, z3, z4, z5, z6⟩, y0, q1, q2, q3, q4, q5, q6⟩ := box7 hbK
 go_simp
 have hgS := set7_gr wy2 K1 (.int .i64 kk) (.string ⟨#[]⟩) (.bool false) (.slice none 0 0) (.slice none 0 0) (.slice none 0 0) (.int .i64 t.pos)
 have hbE := set7_blk hbK (.int .i64 kk) (.string ⟨#[]⟩) (.bool false) (.slice none 0 0) (.slice none 0 0) (.slice none 0 0) (.int .i64 t.pos)
 clear z0 z1 z2 z3 z4 z5 z6 y0 q1 q2 q3 q4 q5 q6
 refine hK.out _ _ ?_ (fun hNew => ?_)
 ·first | with_reducible exact hHeld | with_reducible exact grown_trans hHeld hgS | exact grown_new hHeld hgS (fun g e => by cases e; exact hleK1)
 clear hK K hHeld
 have hHeld := hNew
 clear hNew
 (try simp only [Act.put, pu1, pu2, pu3])
 refine wpAnyH_done (by kernel_rfl) ?_ _
 refine NoPanic.normal ?_
 have HG7 := hid (grown_new hgg hgS (fun g e => by cases e; exact hleK1))
 have BR := hid (keepB BR.out HG7.out)
 have HW := hid (grown_trans HW.out HG7.out)
 have BK := hid hbE
 have BKB := hid BK.out
 have hKr : w.heap.size < K1 := by have := lt_of_block (show wB.heap[w.heap.size]? = _ from (BRB.out)); omega
 clear hHeld hgS hbK hbE hgg t0 t1 t2 t3
 generalize ((((((wy2.setCell _ _).setCell _ _).setCell _ _).setCell _ _).setCell _ _).setCell _ _).setCell _ _ = w1 at *
 obtain ⟨⟨x0, x1, x2, x3, x4, x5, x6⟩, -⟩ := box7 BK.out
 all_goals
  by_cases hk0 : kk = 0
  ·have hkz : (kk : Int) = 0 := by omega
   have HRM : Hid (R = .bad j 5) := hid (by rw [← hR.out, if_pos hk0])
   obtain ⟨⟨z0, z1, z2, z3, z4, z5, z6⟩, y0, q1, q2, q3, q4, q5, q6⟩ := box7 BR.out
   have HP := hid (RxP.bad (X := X) (m := m + 1) (.int .i64 0) (.string ⟨#[]⟩) (.bool false) (.slice none 0 0) (.slice none 0 0) (.slice none 0 0) (.int .i64 0) HW.out HSZ.out (HRM.out) (by decide))
   obtain ⟨⟨l0, l1, l2, l3, l4, l5, l6⟩, -⟩ := box7 (set7_blk BR.out (.int .i64 0) (.string ⟨#[]⟩) (.bool false) (.slice none 0 0) (.slice none 0 0) (.slice none 0 0) (.int .i64 0))
   go_wp2_with fail
   exact bodyPost_ret (v := .tuple #[.agg #[.int .i64 0, .string ⟨#[]⟩, .bool false, .slice none 0 0, .slice none 0 0, .slice none 0 0, .int .i64 0], .int .i64 j, .int .i64 5]) (by simp [results, Tryz.results74, go_sem, l0, l1, l2, l3, l4, l5, l6]) rfl HP.out
  ·have hk1 : ¬ ((kk : Int) = 0) := by omega
   have hj1l := HK1.out hk0
   obtain ⟨j1, hj1⟩ : ∃ j1, j + 1 = j1 := ⟨_, rfl⟩
   rw [hj1] at hj1l
   have ej1 : (j : Int) + 1 = (j1 : Int) := by omega
   have HR2 : Hid ((argsM rd L sOpen (Ax.prm kk) j1).bind (fun l j => if hasR kk = true then (ratM rqV L j).bind fun v j1 => (expM sClose L j1).map fun _ => ndR kk t.pos v l else (expM sClose L j).map fun _ => nd0 kk t.pos l) = R) := hid (by have := hR.out; rw [if_neg hk0, hj1] at this; exact this)
   have hpl := prm_len8 kk
   clear hj1 HK1 hR
   go_upto_region 5 with fail
   go_upto_region 6 with (go_at_call 121; (with_reducible refine (rparams_any (kk : Int) _).mono ?_); rintro e w2 ⟨pp, pn, pc, rfl, hfr, hI, hg⟩; have HI : Hid (IRd w2 .i64 pp pn pc (Ax.prm kk)) := hid hI; have HFR := hid hfr; replace HW := hid (grown_trans HW.out hg); replace BR := hid (keepB BR.out hg); replace BK := hid (keepB BK.out hg); have hsz2 := hg.size; have hKl := lt_of_block BK.out; clear hg hI hfr x0 x1 x2 x3 x4 x5 x6)
   obtain ⟨ps, hps⟩ : ∃ ps, Ax.prm kk = ps := ⟨_, rfl⟩
   rw [hps] at HI HR2 hpl
   obtain rfl := HI.out.len
   clear hps
   have HIK : Hid (∀ W, w2.grownBy W (some K1) → IRd W .i64 pp ps.length pc ps) := hid fun W hg => HI.out.kept hg (.inr fun a ha => by have := HFR.out a ha; have := lt_of_block BKB.out; simp; omega)
   clear HI HFR
   go_loopw [1, 47] (fun s1 s47 wr => ∃ (k jj : Nat) (pa : Option Addr) (ca : Nat) (rows : List (List Value)) (l : List Tr), k ≤ ps.length ∧ s1 = .int .i64 jj ∧ s47 = .int .i64 k ∧ jj < L.length ∧ Hid (argsR rd L ps 0 [] j1 = argsR rd L ps k l jj) ∧ wr.heap[K1]? = some (.cells #[.int .i64 kk, .string ⟨#[]⟩, .bool false, .slice none 0 0, .slice none 0 0, .slice pa k ca, .int .i64 t.pos] 38 (0, 0)) ∧ HOwn wr w2.heap.size 38 7 pa k ca rows ∧ w2.grownBy wr (some K1) ∧ RowsK (fun b => X b ∨ b = w.heap.size ∨ b = K1 ∨ pa.map (·.block) = some b) wr m k rows l) (fun _ s47 _ => ps.length - (intOf s47).toNat)
   case atStart => exact ⟨0, j1, none, 0, [], [], Nat.zero_le _, rfl, rfl, hj1l, hid rfl, BK.out, HOwn.nil _ _ _ _, grown_refl _ _, rfl, fun i hi => absurd hi (Nat.not_lt_zero i)⟩
   case round =>
    obtain ⟨k, jj, pa, ca, rows, l, hk, rfl, rfl, hjj, HM, hbK, hO, hG2, hRW⟩ := hrel
    have BR := hid ((hG2.block _ (lt_of_block BR.out) (by simp; omega)).trans BR.out)
    clear BK
    have BK := hid hbK
    have HO := hid hO
    have HG2 := hid hG2
    have HRW := hid hRW
    have HWr := hid (grown_new HW.out hG2 (fun g e => by cases e; omega))
    clear hO hG2 hRW
    obtain ⟨⟨x0, x1, x2, x3, x4, x5, x6⟩, -, -, -, -, -, u5, -⟩ := box7 hbK
    clear hbK x0 x1 x2 x3 x4 x6
    by_cases hlt : k < ps.length
    ·by_cases hk0z : k = 0
     ·subst hk0z
      obtain ⟨f, hf⟩ : ∃ f, decide ((tk L jj).d = sOpen) = f := ⟨_, rfl⟩
      have HEX := hid fun W (h : w.grownBy W none) => rExp_any HLK.out (HTR.out.keep h) hjj ⟨#[40]⟩ (by decide) f hf
      have hse : (if 0 = 0 then sOpen else sComma) = sOpen := by rw [if_pos rfl]
      have HSE := hid hse
      have HF := hid hf
      clear hse hf
      obtain ⟨bp, op, rfl, xp⟩ := (HIK.out wr HG2.out).cel 0 hlt
      simp only [Nat.add_zero] at xp
      cases f with
      | false =>
       have HRM : Hid (R = .bad jj 5) := hid (by rw [← HR2.out, ← argsR_start, HM.out, argsR_bad hlt (by rw [HSE.out]; exact of_decide_eq_false HF.out)]; rfl)
       go_upto_region 13 with (go_at_call 66; (with_reducible refine (HEX.out _ HWr.out).mono ?_); rintro e wn ⟨rfl, hg⟩; replace HWr := hid (grown_trans HWr.out hg); replace HG2 := hid (grown_trans HG2.out (grown_some hg _)); replace BR := hid (keepB BR.out hg); replace BK := hid (keepB BK.out hg); replace HO := hid (HO.out.keep hg); replace HRW := hid (HRW.out.kept hg (fun g e => by cases e)); replace x5 := hg.cell x5 (by simp); clear hg)
       obtain ⟨⟨z0, z1, z2, z3, z4, z5, z6⟩, y0, q1, q2, q3, q4, q5, q6⟩ := box7 BR.out
       have HP := hid (RxP.bad (X := X) (m := m + 1) (.int .i64 0) (.string ⟨#[]⟩) (.bool false) (.slice none 0 0) (.slice none 0 0) (.slice none 0 0) (.int .i64 0) HWr.out HSZ.out (HRM.out) (by decide))
       obtain ⟨⟨l0, l1, l2, l3, l4, l5, l6⟩, -⟩ := box7 (set7_blk BR.out (.int .i64 0) (.string ⟨#[]⟩) (.bool false) (.slice none 0 0) (.slice none 0 0) (.slice none 0 0) (.int .i64 0))
       clear x5
       go_wp2_with fail
       exact bodyPost_ret (v := .tuple #[.agg #[.int .i64 0, .string ⟨#[]⟩, .bool false, .slice none 0 0, .slice none 0 0, .slice none 0 0, .int .i64 0], .int .i64 jj, .int .i64 5]) (by simp [results, Tryz.results74, go_sem, l0, l1, l2, l3, l4, l5, l6]) rfl HP.out
      | true =>
       obtain ⟨jn, hjn⟩ : ∃ jn, jj + 1 = jn := ⟨_, rfl⟩
       have hlj : jn < L.length := by rw [← hjn]; exact HLK.out.next hjj (by rw [of_decide_eq_true HF.out]; decide)
       simp only [↓reduceIte] at HEX
       rw [hjn] at HEX
       obtain ⟨so', hso⟩ : ∃ so', ps[0] = so' := ⟨_, rfl⟩
       have HST : Hid ((∀ j' e, rd jn (soP so') = .bad j' e → argsR rd L ps 0 l jj = .bad j' e) ∧ ∀ j' t', rd jn (soP so') = .ok t' j' → argsR rd L ps 0 l jj = argsR rd L ps (0 + 1) (l ++ [t']) j') := hid ⟨fun j' e h => argsR_bad2 hlt (by rw [HSE.out]; exact of_decide_eq_true HF.out) (by rw [hjn, hso]; exact h), fun j' t' h => argsR_step hlt (by rw [HSE.out]; exact of_decide_eq_true HF.out) (by rw [hjn, hso]; exact h)⟩
       have HAC := hid fun W (hX : ∀ b, (X b ∨ b = w.heap.size ∨ b = K1 ∨ pa.map (·.block) = some b) → b < W.heap.size) (hN : ∀ b, (X b ∨ b = w.heap.size ∨ b = K1 ∨ pa.map (·.block) = some b) → NU W b) (hg : w.grownBy W none) => HA.out W (fun b => X b ∨ b = w.heap.size ∨ b = K1 ∨ pa.map (·.block) = some b) (some ⟨g, o, none⟩) c jn so' hX hN (HTR.out.keep hg) hlj
       have HXB : Hid (∀ W, w.grownBy W none → (∀ q, pa = some q → q.block < W.heap.size) → K1 < W.heap.size → ∀ b, (X b ∨ b = w.heap.size ∨ b = K1 ∨ pa.map (·.block) = some b) → b < W.heap.size) := hid fun W hg h1 h2 b hb => by rcases hb with h | rfl | rfl | h; have := HXS.out b h; have := hg.size; omega; omega; exact h2; (cases pa with | none => simp at h | some q => simp at h; subst h; exact h1 q rfl)
       rw [hso] at xp
       clear hso hjn
       go_upto_region 14 with (go_at_call 66; (with_reducible refine (HEX.out _ HWr.out).mono ?_); rintro e wn ⟨rfl, hg⟩; replace HWr := hid (grown_trans HWr.out hg); replace HG2 := hid (grown_trans HG2.out (grown_some hg _)); replace BR := hid (keepB BR.out hg); replace BK := hid (keepB BK.out hg); replace HO := hid (HO.out.keep hg); replace HRW := hid (HRW.out.kept hg (fun g e => by cases e)); replace x5 := hg.cell x5 (by simp); clear hg)
       have HAC2 := hid (HAC.out _ (HXB.out _ HWr.out (fun q hq => (HOwn.lt HO.out q hq).2) (lt_of_block BK.out)) (fun b hb => by rcases hb with h | rfl | rfl | h; exact NU.kept (HNU.out b h) (HXS.out b h) HWr.out (by simp); exact nu7 BR.out; exact nu7 BK.out; exact HO.out.nu h) HWr.out)
       go_upto_region 15 with (go_at_call 39; (with_reducible refine HAC2.out.mono ?_); rintro e wm ⟨y1, y2, y3, s1, r1, k1, s2, r2, k2, s3, r3, k3, y7, j', x, rfl, hg, hQ⟩; have HQ := hid hQ; clear hQ; replace HWr := hid (grown_trans HWr.out hg); replace HG2 := hid (grown_trans HG2.out (grown_some hg _)); replace BR := hid (keepB BR.out hg); replace BK := hid (keepB BK.out hg); replace HO := hid (HO.out.keep hg); replace HRW := hid (HRW.out.kept hg (fun g e => by cases e)); replace x5 := hg.cell x5 (by simp); clear hg; obtain ⟨⟨i0, i1, i2, i3, i4, i5, i6⟩, f0, f1, f2, f3, f4, f5, f6⟩ := box7 (blk0 wm (.cells #[.int .i64 0, .string ⟨#[]⟩, .bool false, .slice none 0 0, .slice none 0 0, .slice none 0 0, .int .i64 0] 38 (0, 0))))
       clear i0 i1 i2 i3 i4 i5 i6 f0 f1 f2 f3 f4 f5 f6
       have HPL : Hid (∀ q, pa = some q → q.block < wm.heap.size) := hid fun q hq => (HOwn.lt HO.out q hq).2
       have HK17 : Hid (K1 < wm.heap.size) := hid (lt_of_block BK.out)
       have gR := World.grownBy_alloc wm (.cells #[.int .i64 y1, .string y2, .bool y3, .slice s1 r1 k1, .slice s2 r2 k2, .slice s3 r3 k3, .int .i64 y7] 38 (0, 0)) none
       have B17 := hid (blk0 wm (.cells #[.int .i64 y1, .string y2, .bool y3, .slice s1 r1 k1, .slice s2 r2 k2, .slice s3 r3 k3, .int .i64 y7] 38 (0, 0)))
       have HQ2 : Hid ((x = 0 ∧ ∃ t', rd jn (soP so') = .ok t' j' ∧ ERdX (fun b => X b ∨ b = w.heap.size ∨ b = K1 ∨ pa.map (·.block) = some b) (wm.alloc (.cells #[.int .i64 y1, .string y2, .bool y3, .slice s1 r1 k1, .slice s2 r2 k2, .slice s3 r3 k3, .int .i64 y7] 38 (0, 0))) m [.int .i64 y1, .string y2, .bool y3, .slice s1 r1 k1, .slice s2 r2 k2, .slice s3 r3 k3, .int .i64 y7] t') ∨ (x ≠ 0 ∧ rd jn (soP so') = .bad j' x)) := hid (by rcases HQ.out with ⟨h1, t', h2, h3⟩ | h; exact .inl ⟨h1, t', h2, h3.keep gR⟩; exact .inr h)
       have hg := gR
       replace HWr := hid (grown_trans HWr.out hg); replace HG2 := hid (grown_trans HG2.out (grown_some hg _)); replace BR := hid (keepB BR.out hg); replace BK := hid (keepB BK.out hg); replace HO := hid (HO.out.keep hg); replace HRW := hid (HRW.out.kept hg (fun g e => by cases e)); replace x5 := hg.cell x5 (by simp)
       clear hg gR HQ
       generalize wm.heap.size = K17 at *
       generalize (wm.alloc _) = wa at *
       rcases HQ2.out with ⟨hx, t', hr, hE⟩ | ⟨hx, hr⟩
       ·subst hx
        have HST2 := hid (HST.out.2 _ _ hr)
        have hjl' : j' < L.length := by have := HRI.out jn (soP so') hlj; rw [hr] at this; exact this
        obtain ⟨⟨a0, a1, a2, a3, a4, a5, a6⟩, -⟩ := box7 B17.out
        have hpk : ∀ q, pa = some q → q.block ≠ K1 := fun q hq => by have := (HOwn.lt HO.out q hq).1; omega
        have HPK := hid hpk
        have HE := hid hE
        have hsa := HG2.out.size
        clear hE hr HST HQ2 hpk
        go_upto_region 17 with fail
        clear x5 u5 xp a0 a1 a2 a3 a4 a5 a6
        have hHO := HO.out
        have hHE := HE.out
        have hRW := HRW.out
        have hBK := BK.out
        have hG2 := HG2.out
        have gB := World.grownBy_alloc wa (.cells #[.int .i64 y1, .string y2, .bool y3, .slice s1 r1 k1, .slice s2 r2 k2, .slice s3 r3 k3, .int .i64 y7] 38 (0, 0)) none
        have hbR := blk0 wa (.cells #[.int .i64 y1, .string y2, .bool y3, .slice s1 r1 k1, .slice s2 r2 k2, .slice s3 r3 k3, .int .i64 y7] 38 (0, 0))
        replace hHO := hHO.keep gB
        replace hHE := hHE.keep gB
        replace hRW := hRW.keep gB
        replace hBK := keepB hBK gB
        replace hG2 := grown_trans hG2 (grown_some gB _)
        have hwab := hG2.size
        clear gB
        have HHO := hid hHO
        have HHE := hid hHE
        have HHR := hid hRW
        have HBK := hid hBK
        have HHG := hid hG2
        have HBR := hid hbR
        clear hHO hHE hRW hBK hG2 hbR
        obtain ⟨⟨a0, a1, a2, a3, a4, a5, a6⟩, -⟩ := box7 B17.out
        obtain ⟨⟨-, -, -, -, -, x5, -⟩, -⟩ := box7 BK.out
        go_wp2_with ((with_reducible refine wlh_append _ rfl (.tmp 82) (.tmp 84) 36 rfl 38 7 (.agg #[.int .i64 0, .string ⟨#[]⟩, .bool false, .slice none 0 0, .slice none 0 0, .slice none 0 0, .int .i64 0]) 112 Tryz.underlying36 infoExprP exprZP (by omega) exprZU w2.heap.size pa 0 ca rows rfl HHO.out _ 1 _ [[.int .i64 y1, .string y2, .bool y3, .slice s1 r1 k1, .slice s2 r2 k2, .slice s3 r3 k3, .int .i64 y7]] rfl (one_srdC HBR.out rfl) (fun r hr => by rw [List.mem_singleton.1 hr]; exact noUP) (fun r hr => by rw [List.mem_singleton.1 hr]; exact oneCellsP) (by omega) (by omega) (by omega) ?_); intro p' c2 w8 hO8 hgA hat; have hBK8 := hid ((hgA.block K1 (lt_of_block HBK.out) (by cases pa with | none => simp | some q => simp; exact fun e => absurd e.symm (HPK.out q rfl))).trans HBK.out); have HO8 := hid hO8; have HGA := hid hgA; have HAT := hid hat; clear hO8 hgA hat x5 a0 a1 a2 a3 a4 a5 a6; obtain ⟨⟨-, -, -, -, -, x5, -⟩, -, -, -, -, -, u5, -⟩ := box7 hBK8.out)
        have hgS := grown_setCell w8 ⟨K1, 5, none⟩ (.slice p' (0 + 1 : Nat) c2)
        have hbE := set1_5 hBK8.out (.slice p' (0 + 1) c2)
        have hRS := RowsK.app HHR.out (by have := HHO.out.len; omega) HHE.out HGA.out HAT.out hgS
        have hOS := HO8.out.kept hgS (.inr fun q hq e => by have h1 := (HOwn.lt HO8.out q hq).1; simp at e; omega)
        have hGS := grown_trans (grown_opt HHG.out HGA.out (fun q hq => (HOwn.lt HHO.out q hq).1)) hgS
        exact ⟨⟨0 + 1, j', p', c2, _, _, by omega, rfl, by go_num, hjl', hid (HM.out.trans HST2.out), hbE, hOS, hGS, hRS⟩, by simp [intOf]; omega⟩
       ·have HRM : Hid (R = .bad j' x) := hid (by rw [← HR2.out, ← argsR_start, HM.out, HST.out.1 _ _ hr]; rfl)
        have HX := hid hx
        have hx1 : (x == 0) = false := by simpa using hx
        have hx2 : (x != 0) = true := by simpa using hx
        clear hx hr HST HQ2 HM
        obtain ⟨⟨z0, z1, z2, z3, z4, z5, z6⟩, y0, q1, q2, q3, q4, q5, q6⟩ := box7 BR.out
        have HP := hid (RxP.bad (X := X) (m := m + 1) (.int .i64 0) (.string ⟨#[]⟩) (.bool false) (.slice none 0 0) (.slice none 0 0) (.slice none 0 0) (.int .i64 0) HWr.out HSZ.out (HRM.out) HX.out)
        obtain ⟨⟨l0, l1, l2, l3, l4, l5, l6⟩, -⟩ := box7 (set7_blk BR.out (.int .i64 0) (.string ⟨#[]⟩) (.bool false) (.slice none 0 0) (.slice none 0 0) (.slice none 0 0) (.int .i64 0))
        clear x5
        go_wp2_with fail
        exact bodyPost_ret (v := .tuple #[.agg #[.int .i64 0, .string ⟨#[]⟩, .bool false, .slice none 0 0, .slice none 0 0, .slice none 0 0, .int .i64 0], .int .i64 j', .int .i64 x]) (by simp [results, Tryz.results74, go_sem, l0, l1, l2, l3, l4, l5, l6]) rfl HP.out
     ·have hkz : (0 : Int) < (k : Int) := by omega
      obtain ⟨f, hf⟩ : ∃ f, decide ((tk L jj).d = sComma) = f := ⟨_, rfl⟩
      have HEX := hid fun W (h : w.grownBy W none) => rExp_any HLK.out (HTR.out.keep h) hjj ⟨#[44]⟩ (by decide) f hf
      have hse : (if k = 0 then sOpen else sComma) = sComma := by rw [if_neg hk0z]
      have HSE := hid hse
      have HF := hid hf
      clear hse hf
      obtain ⟨bp, op, rfl, xp⟩ := (HIK.out wr HG2.out).cel k hlt
      have hkn : ¬ k = 0 := hk0z
      cases f with
      | false =>
       have HRM : Hid (R = .bad jj 5) := hid (by rw [← HR2.out, ← argsR_start, HM.out, argsR_bad hlt (by rw [HSE.out]; exact of_decide_eq_false HF.out)]; rfl)
       go_upto_region 13 with (go_at_call 66; (with_reducible refine (HEX.out _ HWr.out).mono ?_); rintro e wn ⟨rfl, hg⟩; replace HWr := hid (grown_trans HWr.out hg); replace HG2 := hid (grown_trans HG2.out (grown_some hg _)); replace BR := hid (keepB BR.out hg); replace BK := hid (keepB BK.out hg); replace HO := hid (HO.out.keep hg); replace HRW := hid (HRW.out.kept hg (fun g e => by cases e)); replace x5 := hg.cell x5 (by simp); clear hg)
       obtain ⟨⟨z0, z1, z2, z3, z4, z5, z6⟩, y0, q1, q2, q3, q4, q5, q6⟩ := box7 BR.out
       have HP := hid (RxP.bad (X := X) (m := m + 1) (.int .i64 0) (.string ⟨#[]⟩) (.bool false) (.slice none 0 0) (.slice none 0 0) (.slice none 0 0) (.int .i64 0) HWr.out HSZ.out (HRM.out) (by decide))
       obtain ⟨⟨l0, l1, l2, l3, l4, l5, l6⟩, -⟩ := box7 (set7_blk BR.out (.int .i64 0) (.string ⟨#[]⟩) (.bool false) (.slice none 0 0) (.slice none 0 0) (.slice none 0 0) (.int .i64 0))
       clear x5
       go_wp2_with fail
       exact bodyPost_ret (v := .tuple #[.agg #[.int .i64 0, .string ⟨#[]⟩, .bool false, .slice none 0 0, .slice none 0 0, .slice none 0 0, .int .i64 0], .int .i64 jj, .int .i64 5]) (by simp [results, Tryz.results74, go_sem, l0, l1, l2, l3, l4, l5, l6]) rfl HP.out
      | true =>
       obtain ⟨jn, hjn⟩ : ∃ jn, jj + 1 = jn := ⟨_, rfl⟩
       have hlj : jn < L.length := by rw [← hjn]; exact HLK.out.next hjj (by rw [of_decide_eq_true HF.out]; decide)
       simp only [↓reduceIte] at HEX
       rw [hjn] at HEX
       obtain ⟨so', hso⟩ : ∃ so', ps[k] = so' := ⟨_, rfl⟩
       have HST : Hid ((∀ j' e, rd jn (soP so') = .bad j' e → argsR rd L ps k l jj = .bad j' e) ∧ ∀ j' t', rd jn (soP so') = .ok t' j' → argsR rd L ps k l jj = argsR rd L ps (k + 1) (l ++ [t']) j') := hid ⟨fun j' e h => argsR_bad2 hlt (by rw [HSE.out]; exact of_decide_eq_true HF.out) (by rw [hjn, hso]; exact h), fun j' t' h => argsR_step hlt (by rw [HSE.out]; exact of_decide_eq_true HF.out) (by rw [hjn, hso]; exact h)⟩
       have HAC := hid fun W (hX : ∀ b, (X b ∨ b = w.heap.size ∨ b = K1 ∨ pa.map (·.block) = some b) → b < W.heap.size) (hN : ∀ b, (X b ∨ b = w.heap.size ∨ b = K1 ∨ pa.map (·.block) = some b) → NU W b) (hg : w.grownBy W none) => HA.out W (fun b => X b ∨ b = w.heap.size ∨ b = K1 ∨ pa.map (·.block) = some b) (some ⟨g, o, none⟩) c jn so' hX hN (HTR.out.keep hg) hlj
       have HXB : Hid (∀ W, w.grownBy W none → (∀ q, pa = some q → q.block < W.heap.size) → K1 < W.heap.size → ∀ b, (X b ∨ b = w.heap.size ∨ b = K1 ∨ pa.map (·.block) = some b) → b < W.heap.size) := hid fun W hg h1 h2 b hb => by rcases hb with h | rfl | rfl | h; have := HXS.out b h; have := hg.size; omega; omega; exact h2; (cases pa with | none => simp at h | some q => simp at h; subst h; exact h1 q rfl)
       rw [hso] at xp
       clear hso hjn
       go_upto_region 14 with (go_at_call 66; (with_reducible refine (HEX.out _ HWr.out).mono ?_); rintro e wn ⟨rfl, hg⟩; replace HWr := hid (grown_trans HWr.out hg); replace HG2 := hid (grown_trans HG2.out (grown_some hg _)); replace BR := hid (keepB BR.out hg); replace BK := hid (keepB BK.out hg); replace HO := hid (HO.out.keep hg); replace HRW := hid (HRW.out.kept hg (fun g e => by cases e)); replace x5 := hg.cell x5 (by simp); clear hg)
       have HAC2 := hid (HAC.out _ (HXB.out _ HWr.out (fun q hq => (HOwn.lt HO.out q hq).2) (lt_of_block BK.out)) (fun b hb => by rcases hb with h | rfl | rfl | h; exact NU.kept (HNU.out b h) (HXS.out b h) HWr.out (by simp); exact nu7 BR.out; exact nu7 BK.out; exact HO.out.nu h) HWr.out)
       go_upto_region 15 with (go_at_call 39; (with_reducible refine HAC2.out.mono ?_); rintro e wm ⟨y1, y2, y3, s1, r1, k1, s2, r2, k2, s3, r3, k3, y7, j', x, rfl, hg, hQ⟩; have HQ := hid hQ; clear hQ; replace HWr := hid (grown_trans HWr.out hg); replace HG2 := hid (grown_trans HG2.out (grown_some hg _)); replace BR := hid (keepB BR.out hg); replace BK := hid (keepB BK.out hg); replace HO := hid (HO.out.keep hg); replace HRW := hid (HRW.out.kept hg (fun g e => by cases e)); replace x5 := hg.cell x5 (by simp); clear hg; obtain ⟨⟨i0, i1, i2, i3, i4, i5, i6⟩, f0, f1, f2, f3, f4, f5, f6⟩ := box7 (blk0 wm (.cells #[.int .i64 0, .string ⟨#[]⟩, .bool false, .slice none 0 0, .slice none 0 0, .slice none 0 0, .int .i64 0] 38 (0, 0))))
       clear i0 i1 i2 i3 i4 i5 i6 f0 f1 f2 f3 f4 f5 f6
       have HPL : Hid (∀ q, pa = some q → q.block < wm.heap.size) := hid fun q hq => (HOwn.lt HO.out q hq).2
       have HK17 : Hid (K1 < wm.heap.size) := hid (lt_of_block BK.out)
       have gR := World.grownBy_alloc wm (.cells #[.int .i64 y1, .string y2, .bool y3, .slice s1 r1 k1, .slice s2 r2 k2, .slice s3 r3 k3, .int .i64 y7] 38 (0, 0)) none
       have B17 := hid (blk0 wm (.cells #[.int .i64 y1, .string y2, .bool y3, .slice s1 r1 k1, .slice s2 r2 k2, .slice s3 r3 k3, .int .i64 y7] 38 (0, 0)))
       have HQ2 : Hid ((x = 0 ∧ ∃ t', rd jn (soP so') = .ok t' j' ∧ ERdX (fun b => X b ∨ b = w.heap.size ∨ b = K1 ∨ pa.map (·.block) = some b) (wm.alloc (.cells #[.int .i64 y1, .string y2, .bool y3, .slice s1 r1 k1, .slice s2 r2 k2, .slice s3 r3 k3, .int .i64 y7] 38 (0, 0))) m [.int .i64 y1, .string y2, .bool y3, .slice s1 r1 k1, .slice s2 r2 k2, .slice s3 r3 k3, .int .i64 y7] t') ∨ (x ≠ 0 ∧ rd jn (soP so') = .bad j' x)) := hid (by rcases HQ.out with ⟨h1, t', h2, h3⟩ | h; exact .inl ⟨h1, t', h2, h3.keep gR⟩; exact .inr h)
       have hg := gR
       replace HWr := hid (grown_trans HWr.out hg); replace HG2 := hid (grown_trans HG2.out (grown_some hg _)); replace BR := hid (keepB BR.out hg); replace BK := hid (keepB BK.out hg); replace HO := hid (HO.out.keep hg); replace HRW := hid (HRW.out.kept hg (fun g e => by cases e)); replace x5 := hg.cell x5 (by simp)
       clear hg gR HQ
       generalize wm.heap.size = K17 at *
       generalize (wm.alloc _) = wa at *
       rcases HQ2.out with ⟨hx, t', hr, hE⟩ | ⟨hx, hr⟩
       ·subst hx
        have HST2 := hid (HST.out.2 _ _ hr)
        have hjl' : j' < L.length := by have := HRI.out jn (soP so') hlj; rw [hr] at this; exact this
        obtain ⟨⟨a0, a1, a2, a3, a4, a5, a6⟩, -⟩ := box7 B17.out
        have hpk : ∀ q, pa = some q → q.block ≠ K1 := fun q hq => by have := (HOwn.lt HO.out q hq).1; omega
        have HPK := hid hpk
        have HE := hid hE
        have hsa := HG2.out.size
        clear hE hr HST HQ2 hpk
        go_upto_region 17 with fail
        clear x5 u5 xp a0 a1 a2 a3 a4 a5 a6
        have hHO := HO.out
        have hHE := HE.out
        have hRW := HRW.out
        have hBK := BK.out
        have hG2 := HG2.out
        have gB := World.grownBy_alloc wa (.cells #[.int .i64 y1, .string y2, .bool y3, .slice s1 r1 k1, .slice s2 r2 k2, .slice s3 r3 k3, .int .i64 y7] 38 (0, 0)) none
        have hbR := blk0 wa (.cells #[.int .i64 y1, .string y2, .bool y3, .slice s1 r1 k1, .slice s2 r2 k2, .slice s3 r3 k3, .int .i64 y7] 38 (0, 0))
        replace hHO := hHO.keep gB
        replace hHE := hHE.keep gB
        replace hRW := hRW.keep gB
        replace hBK := keepB hBK gB
        replace hG2 := grown_trans hG2 (grown_some gB _)
        have hwab := hG2.size
        clear gB
        have HHO := hid hHO
        have HHE := hid hHE
        have HHR := hid hRW
        have HBK := hid hBK
        have HHG := hid hG2
        have HBR := hid hbR
        clear hHO hHE hRW hBK hG2 hbR
        obtain ⟨⟨a0, a1, a2, a3, a4, a5, a6⟩, -⟩ := box7 B17.out
        obtain ⟨⟨-, -, -, -, -, x5, -⟩, -⟩ := box7 BK.out
        go_wp2_with ((with_reducible refine wlh_append _ rfl (.tmp 82) (.tmp 84) 36 rfl 38 7 (.agg #[.int .i64 0, .string ⟨#[]⟩, .bool false, .slice none 0 0, .slice none 0 0, .slice none 0 0, .int .i64 0]) 112 Tryz.underlying36 infoExprP exprZP (by omega) exprZU w2.heap.size pa k ca rows rfl HHO.out _ 1 _ [[.int .i64 y1, .string y2, .bool y3, .slice s1 r1 k1, .slice s2 r2 k2, .slice s3 r3 k3, .int .i64 y7]] rfl (one_srdC HBR.out rfl) (fun r hr => by rw [List.mem_singleton.1 hr]; exact noUP) (fun r hr => by rw [List.mem_singleton.1 hr]; exact oneCellsP) (by omega) (by omega) (by omega) ?_); intro p' c2 w8 hO8 hgA hat; have hBK8 := hid ((hgA.block K1 (lt_of_block HBK.out) (by cases pa with | none => simp | some q => simp; exact fun e => absurd e.symm (HPK.out q rfl))).trans HBK.out); have HO8 := hid hO8; have HGA := hid hgA; have HAT := hid hat; clear hO8 hgA hat x5 a0 a1 a2 a3 a4 a5 a6; obtain ⟨⟨-, -, -, -, -, x5, -⟩, -, -, -, -, -, u5, -⟩ := box7 hBK8.out)
        have hgS := grown_setCell w8 ⟨K1, 5, none⟩ (.slice p' (k + 1 : Nat) c2)
        have hbE := set1_5 hBK8.out (.slice p' (k + 1) c2)
        have hRS := RowsK.app HHR.out (by have := HHO.out.len; omega) HHE.out HGA.out HAT.out hgS
        have hOS := HO8.out.kept hgS (.inr fun q hq e => by have h1 := (HOwn.lt HO8.out q hq).1; simp at e; omega)
        have hGS := grown_trans (grown_opt HHG.out HGA.out (fun q hq => (HOwn.lt HHO.out q hq).1)) hgS
        exact ⟨⟨k + 1, j', p', c2, _, _, by omega, rfl, by go_num, hjl', hid (HM.out.trans HST2.out), hbE, hOS, hGS, hRS⟩, by simp [intOf]; omega⟩
       ·have HRM : Hid (R = .bad j' x) := hid (by rw [← HR2.out, ← argsR_start, HM.out, HST.out.1 _ _ hr]; rfl)
        have HX := hid hx
        have hx1 : (x == 0) = false := by simpa using hx
        have hx2 : (x != 0) = true := by simpa using hx
        clear hx hr HST HQ2 HM
        obtain ⟨⟨z0, z1, z2, z3, z4, z5, z6⟩, y0, q1, q2, q3, q4, q5, q6⟩ := box7 BR.out
        have HP := hid (RxP.bad (X := X) (m := m + 1) (.int .i64 0) (.string ⟨#[]⟩) (.bool false) (.slice none 0 0) (.slice none 0 0) (.slice none 0 0) (.int .i64 0) HWr.out HSZ.out (HRM.out) HX.out)
        obtain ⟨⟨l0, l1, l2, l3, l4, l5, l6⟩, -⟩ := box7 (set7_blk BR.out (.int .i64 0) (.string ⟨#[]⟩) (.bool false) (.slice none 0 0) (.slice none 0 0) (.slice none 0 0) (.int .i64 0))
        clear x5
        go_wp2_with fail
        exact bodyPost_ret (v := .tuple #[.agg #[.int .i64 0, .string ⟨#[]⟩, .bool false, .slice none 0 0, .slice none 0 0, .slice none 0 0, .int .i64 0], .int .i64 j', .int .i64 x]) (by simp [results, Tryz.results74, go_sem, l0, l1, l2, l3, l4, l5, l6]) rfl HP.out
    ·obtain rfl : k = ps.length := by omega
     have HRF : Hid ((if hasR kk = true then (ratM rqV L jj).bind fun v j1 => (expM sClose L j1).map fun _ => ndR kk t.pos v l else (expM sClose L jj).map fun _ => nd0 kk t.pos l) = R) := hid (by have h := HR2.out; rw [← argsR_start, HM.out, argsR_end (Nat.le_refl _)] at h; exact h)
     have HAR : Hid (ARdX (fun b => X b ∨ b = w.heap.size ∨ b = K1) wr m pa ps.length ca l) := hid (rowsH_ard HRW.out HO.out (fun b hb => by rcases hb with h | h | h; exact .inl h; exact .inr (.inl h); exact .inr (.inr (.inl h))) (fun b hb => by rcases hb with h | h | h; have := HXS.out b h; omega; omega; omega))
     clear HM HRW HR2 u5 HO HG2 HIK
     obtain ⟨hr, hhr⟩ : ∃ b, hasR kk = b := ⟨_, rfl⟩
     rw [hhr] at HRF
     have HHR := hid fun W => rHasRN kk hr hhr W
     clear hhr
     obtain ⟨⟨x0, -⟩, -⟩ := box7 BK.out
     cases hr with
     | false =>
      have HRG : Hid ((expM sClose L jj).map (fun _ => nd0 kk t.pos l) = R) := hid HRF.out
      have HTREE : Hid (ERdX (fun b => X b ∨ b = w.heap.size ∨ b = K1) wr (m + 1) [.int .i64 kk, .string ⟨#[]⟩, .bool false, .slice none 0 0, .slice none 0 0, .slice pa ps.length ca, .int .i64 t.pos] (nd0 kk t.pos l)) := hid (con0 HAR.out)
      clear HAR HRF
      go_upto_region 26 with (go_at_call 122; (with_reducible refine (HHR.out _).mono ?_); rintro e wn ⟨rfl, hg⟩; replace HWr := hid (grown_trans HWr.out hg); replace BR := hid (keepB BR.out hg); replace BK := hid (keepB BK.out hg); replace HTREE := hid (HTREE.out.keep hg); clear hg)
      obtain ⟨f9, hf9⟩ : ∃ f, decide ((tk L jj).d = sClose) = f := ⟨_, rfl⟩
      have HEX := hid fun W (h : w.grownBy W none) => rExp_any HLK.out (HTR.out.keep h) hjj ⟨#[41]⟩ (by decide) f9 hf9
      cases f9 with
      | false =>
       have HRM : Hid (R = .bad jj 5) := hid (by rw [← HRG.out]; unfold expM; rw [if_neg (of_decide_eq_false hf9)]; rfl)
       clear hf9 HRG
       go_upto_region 28 with (go_at_call 66; (with_reducible refine (HEX.out _ HWr.out).mono ?_); rintro e wn ⟨rfl, hg⟩; replace HWr := hid (grown_trans HWr.out hg); replace BR := hid (keepB BR.out hg); replace BK := hid (keepB BK.out hg); replace HTREE := hid (HTREE.out.keep hg); clear hg)
       obtain ⟨⟨z0, z1, z2, z3, z4, z5, z6⟩, y0, q1, q2, q3, q4, q5, q6⟩ := box7 BR.out
       have HP := hid (RxP.bad (X := X) (m := m + 1) (.int .i64 0) (.string ⟨#[]⟩) (.bool false) (.slice none 0 0) (.slice none 0 0) (.slice none 0 0) (.int .i64 0) HWr.out HSZ.out (HRM.out) (by decide))
       obtain ⟨⟨l0, l1, l2, l3, l4, l5, l6⟩, -⟩ := box7 (set7_blk BR.out (.int .i64 0) (.string ⟨#[]⟩) (.bool false) (.slice none 0 0) (.slice none 0 0) (.slice none 0 0) (.int .i64 0))
       go_wp2_with fail
       exact bodyPost_ret (v := .tuple #[.agg #[.int .i64 0, .string ⟨#[]⟩, .bool false, .slice none 0 0, .slice none 0 0, .slice none 0 0, .int .i64 0], .int .i64 jj, .int .i64 5]) (by simp [results, Tryz.results74, go_sem, l0, l1, l2, l3, l4, l5, l6]) rfl HP.out
      | true =>
       obtain ⟨j9, hj9⟩ : ∃ j9, jj + 1 = j9 := ⟨_, rfl⟩
       have HRM : Hid (R = .ok (nd0 kk t.pos l) j9) := hid (by rw [← HRG.out]; unfold expM; rw [if_pos (of_decide_eq_true hf9), hj9]; rfl)
       simp only [↓reduceIte] at HEX
       rw [hj9] at HEX
       clear hf9 HRG hj9
       go_upto_region 29 with (go_at_call 66; (with_reducible refine (HEX.out _ HWr.out).mono ?_); rintro e wn ⟨rfl, hg⟩; replace HWr := hid (grown_trans HWr.out hg); replace BR := hid (keepB BR.out hg); replace BK := hid (keepB BK.out hg); replace HTREE := hid (HTREE.out.keep hg); clear hg)
       obtain ⟨⟨k0, k1, k2, k3, k4, k5, k6⟩, -⟩ := box7 BK.out
       obtain ⟨⟨z0, z1, z2, z3, z4, z5, z6⟩, y0, q1, q2, q3, q4, q5, q6⟩ := box7 BR.out
       have HP := hid (RxP.ok (X := X) (m := m + 1) HWr.out HSZ.out HRM.out (HTREE.out.more (fun b hb => .inl (by rcases hb with h | h; exact .inl h; exact .inr (.inl h)))))
       obtain ⟨⟨l0, l1, l2, l3, l4, l5, l6⟩, -⟩ := box7 (set7_blk BR.out (.int .i64 kk) (.string ⟨#[]⟩) (.bool false) (.slice none 0 0) (.slice none 0 0) (.slice pa ps.length ca) (.int .i64 t.pos))
       go_wp2_with fail
       exact bodyPost_ret (v := .tuple #[.agg #[.int .i64 kk, .string ⟨#[]⟩, .bool false, .slice none 0 0, .slice none 0 0, .slice pa ps.length ca, .int .i64 t.pos], .int .i64 j9, .int .i64 0]) (by simp [results, Tryz.results74, go_sem, l0, l1, l2, l3, l4, l5, l6]) rfl HP.out
     | true =>
      have HRG : Hid (((ratM rqV L jj).bind fun v j1 => (expM sClose L j1).map fun _ => ndR kk t.pos v l) = R) := hid HRF.out
      have HRA := hid fun W (h : w.grownBy W none) => rRat_any HLK.out (HTR.out.keep h) hjj
      clear HRF
      go_upto_region 21 with (go_at_call 122; (with_reducible refine (HHR.out _).mono ?_); rintro e wn ⟨rfl, hg⟩; replace HWr := hid (grown_trans HWr.out hg); replace BR := hid (keepB BR.out hg); replace BK := hid (keepB BK.out hg); replace HAR := hid (HAR.out.keep hg); clear hg)
      go_upto_region 22 with (go_at_call 123; (with_reducible refine (HRA.out _ HWr.out).mono ?_); rintro e wm ⟨gr, pr, nr, cr, qr, mr, dr, j2, x, rfl, hg, hQ⟩; have HQ := hid hQ; clear hQ; replace HWr := hid (grown_trans HWr.out hg); replace BR := hid (keepB BR.out hg); replace BK := hid (keepB BK.out hg); replace HAR := hid (HAR.out.keep hg); clear hg; obtain ⟨i0, i1, i2, f0, f1, f2⟩ := ratbox_facts (blk0 wm (.cells #[.bool false, .slice none 0 0, .slice none 0 0] 35 (0, 0))))
      clear i0 i1 i2 f0 f1 f2
      have gR := World.grownBy_alloc wm (.cells #[.bool gr, .slice pr nr cr, .slice qr mr dr] 35 (0, 0)) none
      have B19 := hid (blk0 wm (.cells #[.bool gr, .slice pr nr cr, .slice qr mr dr] 35 (0, 0)))
      have HQ2 : Hid ((x = 0 ∧ ∃ v, ratM rqV L jj = .ok v j2 ∧ IsV (wm.alloc (.cells #[.bool gr, .slice pr nr cr, .slice qr mr dr] 35 (0, 0))) gr pr nr cr qr mr dr v) ∨ (x ≠ 0 ∧ ratM rqV L jj = .bad j2 x)) := hid (by rcases HQ.out with ⟨h1, v, h2, h3, -⟩ | h; exact .inl ⟨h1, v, h2, h3.keep gR⟩; exact .inr h)
      have hg := gR
      replace HWr := hid (grown_trans HWr.out hg); replace BR := hid (keepB BR.out hg); replace BK := hid (keepB BK.out hg); replace HAR := hid (HAR.out.keep hg)
      clear hg gR HQ
      generalize wm.heap.size = K19 at *
      generalize (wm.alloc _) = wa at *
      rcases HQ2.out with ⟨hx, v, hr, hV⟩ | ⟨hx, hr⟩
      ·subst hx
       have hj2 : j2 < L.length := by have := ratM_in HLK.out (V := rqV) hjj; rw [hr] at this; exact this
       have HRG2 : Hid ((expM sClose L j2).map (fun _ => ndR kk t.pos v l) = R) := hid (by have h := HRG.out; rw [hr] at h; exact h)
       have HT1 : Hid (ERdX (fun b => X b ∨ b = w.heap.size ∨ b = K1) wa (m + 1) [.int .i64 kk, .string ⟨#[]⟩, .bool gr, .slice pr nr cr, .slice qr mr dr, .slice pa ps.length ca, .int .i64 t.pos] (ndR kk t.pos v l)) := hid (conR (fun b hb => by rcases hb with h | rfl | rfl; exact NU.kept (HNU.out b h) (HXS.out b h) HWr.out (by simp); exact nu7 BR.out; exact nu7 BK.out) HAR.out hV)
       have HRG := HRG2
       obtain ⟨i0, i1, i2, -, -, -⟩ := ratbox_facts B19.out
       obtain ⟨⟨z0, z1, z2, z3, z4, z5, z6⟩, y0, q1', q2', q3', q4', q5', q6'⟩ := box7 BK.out
       have gS := set3_2g wa K1 (.bool gr) (.slice pr nr cr) (.slice qr mr dr)
       have HWr2 := hid (grown_new HWr.out gS (fun g e => by cases e; omega))
       have BR2 := hid ((gS.block w.heap.size (lt_of_block BR.out) (by simp; omega)).trans BR.out)
       have BK2 := hid (set3_2 BK.out (.bool gr) (.slice pr nr cr) (.slice qr mr dr))
       have HTREE := hid (HT1.out.kept gS (fun g e => by cases e; exact .inr (.inr rfl)))
       clear hr hV HT1 HQ2 HRG2 HAR gS
       go_upto_region 26 with fail
       clear i0 i1 i2 z0 z1 z2 z3 z4 z5 z6 y0 q1' q2' q3' q4' q5' q6' HWr BR BK
       have HWr := HWr2
       have BR := BR2
       have BK := BK2
       clear HWr2 BR2 BK2
       generalize ((wa.setCell _ _).setCell _ _).setCell _ _ = wb at *
       obtain ⟨f9, hf9⟩ : ∃ f, decide ((tk L j2).d = sClose) = f := ⟨_, rfl⟩
       have HEX := hid fun W (h : w.grownBy W none) => rExp_any HLK.out (HTR.out.keep h) hj2 ⟨#[41]⟩ (by decide) f9 hf9
       cases f9 with
       | false =>
        have HRM : Hid (R = .bad j2 5) := hid (by rw [← HRG.out]; unfold expM; rw [if_neg (of_decide_eq_false hf9)]; rfl)
        clear hf9 HRG
        go_upto_region 28 with (go_at_call 66; (with_reducible refine (HEX.out _ HWr.out).mono ?_); rintro e wn ⟨rfl, hg⟩; replace HWr := hid (grown_trans HWr.out hg); replace BR := hid (keepB BR.out hg); replace BK := hid (keepB BK.out hg); replace HTREE := hid (HTREE.out.keep hg); clear hg)
        obtain ⟨⟨z0, z1, z2, z3, z4, z5, z6⟩, y0, q1, q2, q3, q4, q5, q6⟩ := box7 BR.out
        have HP := hid (RxP.bad (X := X) (m := m + 1) (.int .i64 0) (.string ⟨#[]⟩) (.bool false) (.slice none 0 0) (.slice none 0 0) (.slice none 0 0) (.int .i64 0) HWr.out HSZ.out (HRM.out) (by decide))
        obtain ⟨⟨l0, l1, l2, l3, l4, l5, l6⟩, -⟩ := box7 (set7_blk BR.out (.int .i64 0) (.string ⟨#[]⟩) (.bool false) (.slice none 0 0) (.slice none 0 0) (.slice none 0 0) (.int .i64 0))
        go_wp2_with fail
        exact bodyPost_ret (v := .tuple #[.agg #[.int .i64 0, .string ⟨#[]⟩, .bool false, .slice none 0 0, .slice none 0 0, .slice none 0 0, .int .i64 0], .int .i64 j2, .int .i64 5]) (by simp [results, Tryz.results74, go_sem, l0, l1, l2, l3, l4, l5, l6]) rfl HP.out
       | true =>
        obtain ⟨j9, hj9⟩ : ∃ j9, j2 + 1 = j9 := ⟨_, rfl⟩
        have HRM : Hid (R = .ok (ndR kk t.pos v l) j9) := hid (by rw [← HRG.out]; unfold expM; rw [if_pos (of_decide_eq_true hf9), hj9]; rfl)
        simp only [↓reduceIte] at HEX
        rw [hj9] at HEX
        clear hf9 HRG hj9
        go_upto_region 29 with (go_at_call 66; (with_reducible refine (HEX.out _ HWr.out).mono ?_); rintro e wn ⟨rfl, hg⟩; replace HWr := hid (grown_trans HWr.out hg); replace BR := hid (keepB BR.out hg); replace BK := hid (keepB BK.out hg); replace HTREE := hid (HTREE.out.keep hg); clear hg)
        obtain ⟨⟨k0, k1, k2, k3, k4, k5, k6⟩, -⟩ := box7 BK.out
        obtain ⟨⟨z0, z1, z2, z3, z4, z5, z6⟩, y0, q1, q2, q3, q4, q5, q6⟩ := box7 BR.out
        have HP := hid (RxP.ok (X := X) (m := m + 1) HWr.out HSZ.out HRM.out (HTREE.out.more (fun b hb => .inl (by rcases hb with h | h; exact .inl h; exact .inr (.inl h)))))
        obtain ⟨⟨l0, l1, l2, l3, l4, l5, l6⟩, -⟩ := box7 (set7_blk BR.out (.int .i64 kk) (.string ⟨#[]⟩) (.bool gr) (.slice pr nr cr) (.slice qr mr dr) (.slice pa ps.length ca) (.int .i64 t.pos))
        go_wp2_with fail
        exact bodyPost_ret (v := .tuple #[.agg #[.int .i64 kk, .string ⟨#[]⟩, .bool gr, .slice pr nr cr, .slice qr mr dr, .slice pa ps.length ca, .int .i64 t.pos], .int .i64 j9, .int .i64 0]) (by simp [results, Tryz.results74, go_sem, l0, l1, l2, l3, l4, l5, l6]) rfl HP.out
      ·have HRM : Hid (R = .bad j2 x) := hid (by rw [← HRG.out, hr]; rfl)
       have HX := hid hx
       have hx1 : (x == 0) = false := by simpa using hx
       have hx2 : (x != 0) = true := by simpa using hx
       clear hx hr HQ2 HRG
       obtain ⟨⟨z0, z1, z2, z3, z4, z5, z6⟩, y0, q1, q2, q3, q4, q5, q6⟩ := box7 BR.out
       have HP := hid (RxP.bad (X := X) (m := m + 1) (.int .i64 0) (.string ⟨#[]⟩) (.bool false) (.slice none 0 0) (.slice none 0 0) (.slice none 0 0) (.int .i64 0) HWr.out HSZ.out (HRM.out) HX.out)
       obtain ⟨⟨l0, l1, l2, l3, l4, l5, l6⟩, -⟩ := box7 (set7_blk BR.out (.int .i64 0) (.string ⟨#[]⟩) (.bool false) (.slice none 0 0) (.slice none 0 0) (.slice none 0 0) (.int .i64 0))
       go_wp2_with fail
       exact bodyPost_ret (v := .tuple #[.agg #[.int .i64 0, .string ⟨#[]⟩, .bool false, .slice none 0 0, .slice none 0 0, .slice none 0 0, .int .i64 0], .int .i64 j2, .int .i64 x]) (by simp [results, Tryz.results74, go_sem, l0, l1, l2, l3, l4, l5, l6]) rfl HP.out
end Go.Proofs.YtjpkncgfpbhnaaaGreatDoor
