/-
  PcA PcR PcV PcS PcM PcT PcW PcL PcE PcX PcY PcZ PcK PcU PcF PcN, in one text.
-/
import Derived.Test.YtjpkncgfpbhnaaaGreatDoorMrL
import Derived.Deep.Cut
import Derived.Deep.RegionHeld3
import Derived.StillTailTactics
import Derived.Deep.DeepCutAuto
import Derived.Test.YtjpkncgfpbhnaaaGreatDoorMrF
import Derived.Test.YtjpkncgfpbhnaaaGreatDoorMrN
import Derived.Test.YtjpkncgfpbhnaaaGreatDoorMrE
import Derived.Laws.MakeOwn
import Derived.Test.YtjpkncgfpbhnaaaGreatDoorMrS
set_option linter.unusedVariables false
set_option linter.unusedSimpArgs false
set_option maxRecDepth 100000
namespace Go.Proofs.YtjpkncgfpbhnaaaGreatDoor
open Go.RowKit _root_.Nm Lx
structure Tok where
  k : Nat
  pos : Nat
  en : Nat
  d : ByteArray
def Tok.row (t : Tok) : List Value := [.int .i64 t.k, .int .i64 t.pos, .int .i64 t.en, .string t.d]
structure CurAt (w : World) (b : Nat) (p : Option Addr) (c : Nat) (L : List Tok) (nx : Nat) (at' er : Int) : Prop where
  box : w.heap[b]? = some (.cells #[.slice p L.length c, .int .i64 nx, .int .i64 at', .int .i64 er] 70 (0, 0))
  rd : SRd w 4 p L.length c (L.map Tok.row)
  ne : ∀ q, p = some q → q.block ≠ b
section
variable {w w' : World} {b : Nat} {p : Option Addr} {c : Nat} {L : List Tok} {nx : Nat} {at' er : Int}
theorem CurAt.keep (h : CurAt w b p c L nx at' er) (hg : w.grownBy w' none) : CurAt w' b p c L nx at' er :=
  ⟨keepB h.box hg, h.rd.keep hg, h.ne⟩
theorem CurAt.lt (h : CurAt w b p c L nx at' er) : b < w.heap.size := lt_of_block h.box
theorem CurAt.next (h : CurAt w b p c L nx at' er) (nx' : Nat) : CurAt (w.setCell ⟨b, 1, none⟩ (.int .i64 nx')) b p c L nx' at' er :=
  ⟨by have := heap_setCell_same w b 1 _ _ (.int .i64 nx') h.box; simpa using this, h.rd.kept (grown_setCell _ _ _) (.inr fun q hq => by simpa using h.ne q hq), h.ne⟩
theorem CurAt.nexti (h : CurAt w b p c L nx at' er) (nx' : Nat) (v : Int) (hv : v = (nx' : Int)) : CurAt (w.setCell ⟨b, 1, none⟩ (.int .i64 v)) b p c L nx' at' er := by
  subst hv
  exact h.next nx'
theorem CurAt.err (h : CurAt w b p c L nx at' er) (a e : Int) : CurAt ((w.setCell ⟨b, 2, none⟩ (.int .i64 a)).setCell ⟨b, 3, none⟩ (.int .i64 e)) b p c L nx a e := by
  have h1 := heap_setCell_same w b 2 _ _ (.int .i64 a) h.box
  simp at h1
  have h2 := heap_setCell_same _ b 3 _ _ (.int .i64 e) h1
  simp at h2
  exact ⟨h2, (h.rd.kept (grown_setCell _ _ _) (.inr fun q hq => by simpa using h.ne q hq)).kept (grown_setCell _ _ _) (.inr fun q hq => by simpa using h.ne q hq), h.ne⟩
theorem grown_err (w : World) (b : Nat) (a e : Int) : w.grownBy ((w.setCell ⟨b, 2, none⟩ (.int .i64 a)).setCell ⟨b, 3, none⟩ (.int .i64 e)) (some b) :=
  grown_trans (grown_setCell w ⟨b, 2, none⟩ _) (grown_setCell _ ⟨b, 3, none⟩ _)
theorem grown_some (h : w.grownBy w' none) (r : Option Nat) : w.grownBy w' r := ⟨h.os, h.tape, h.output, h.size, fun k hk _ => h.block k hk (by simp)⟩
theorem CurAt.tok (h : CurAt w b p c L nx at' er) (hn : nx < L.length) : ∃ g o, p = some ⟨g, o, none⟩ ∧ w.cell? ⟨g, o + nx * 4, none⟩ = some (.int .i64 (L[nx]).k) ∧ w.cell? ⟨g, o + nx * 4 + 1, none⟩ = some (.int .i64 (L[nx]).pos) ∧ w.cell? ⟨g, o + nx * 4 + 2, none⟩ = some (.int .i64 (L[nx]).en) ∧ w.cell? ⟨g, o + nx * 4 + 3, none⟩ = some (.string (L[nx]).d) := by
  obtain ⟨g, o, rfl, hc⟩ := h.rd.at (by decide) (i := nx) (by simpa using hn)
  simp only [List.getElem_map] at hc
  exact ⟨g, o, rfl, hc 0 (by simp [Tok.row]), hc 1 (by simp [Tok.row]), hc 2 (by simp [Tok.row]), hc 3 (by simp [Tok.row])⟩
end
theorem bytes_inj {x y : ByteArray} : x.toList = y.toList ↔ x = y :=
  ⟨fun h => by rw [Lib.toList_data, Lib.toList_data] at h; exact ByteArray.ext (Array.toList_inj.1 h), fun h => by rw [h]⟩
theorem tok_fld (a x y z : Value) : (∀ w, (Instr.field 76 (.agg #[a, x, y, z]) 0).run Tryz.prog w = .ok a w) ∧ (∀ w, (Instr.field 76 (.agg #[a, x, y, z]) 1).run Tryz.prog w = .ok x w) ∧ (∀ w, (Instr.field 76 (.agg #[a, x, y, z]) 3).run Tryz.prog w = .ok z w) :=
  ⟨fun w => by kernel_rfl, fun w => by kernel_rfl, fun w => by kernel_rfl⟩
set_option maxHeartbeats 8000000 in
set_option maxRecDepth 100000 in
theorem curTok_any {b : Nat} {p : Option Addr} {c : Nat} {L : List Tok} {nx : Nat} {at' er : Int} {w : World} (h : CurAt w b p c L nx at' er) (hn : nx < L.length) :
    Calls Tryz.prog 57 #[.pointer (some ⟨b, 0, none⟩)] w fun e w' => e = .returned (.agg (L[nx]).row.toArray) ∧ w.grownBy w' none := by
  have hg0 := World.grownBy_alloc w (.cells #[.int .i64 0, .int .i64 0, .int .i64 0, .string ⟨#[]⟩] 76 (0, 0)) none
  have h1 := h.keep hg0
  obtain ⟨g, o, rfl, c0, c1, c2, c3⟩ := h1.tok hn
  obtain ⟨⟨k0, k1, k2, k3⟩, f0, f1, f2, f3⟩ := box4 h1.box
  obtain ⟨⟨r0, r1, r2, r3⟩, s0, s1, s2, s3⟩ := box4 (blk0 w (.cells #[.int .i64 0, .int .i64 0, .int .i64 0, .string ⟨#[]⟩] 76 (0, 0)))
  have hG := fun (A B C D : Value) => set4_new hg0 w.heap.size A B C D (Nat.le_refl _)
  have hcap := h.rd.cap
  have hmax := h.rd.max
  have hix : (nx : Int) < (L.length : Int) := by omega
  generalize L[nx] = t at *
  generalize L.length = n at *
  clear h h1
  go_enter Tryz.func57, Tryz.ntmps57
  go_upto_region 1 with fail
  generalize (w.alloc _) = w1 at *
  go_still_tail 10, (by kernel_rfl)
  change wpList _ _ _ _ _ w1.drew
  go_wp2_with fail
  exact bodyPost_ret (v := .agg #[.int .i64 t.k, .int .i64 t.pos, .int .i64 t.en, .string t.d]) (by simp [results, Tryz.results57, go_sem, r0, r1, r2, r3]) rfl ⟨rfl, grown_trans (hG _ _ _ _) (grown_drew _ none)⟩
set_option maxHeartbeats 8000000 in
set_option maxRecDepth 100000 in
theorem curFail_any {b : Nat} {p : Option Addr} {c : Nat} {L : List Tok} {nx : Nat} {at' er : Int} {w : World} (h : CurAt w b p c L nx at' er) (a e : Int) :
    Calls Tryz.prog 70 #[.pointer (some ⟨b, 0, none⟩), .int .i64 a, .int .i64 e] w fun x w' => x = .returned (.bool false) ∧ CurAt w' b p c L nx a e ∧ w.grownBy w' (some b) := by
  obtain ⟨⟨k0, k1, k2, k3⟩, f0, f1, f2, f3⟩ := box4 h.box
  have HE := hid (h.err a e)
  have HG := hid (grown_err w b a e)
  clear h
  go_enter Tryz.func70, Tryz.ntmps70
  go_wp2_with fail
  refine bodyPost_ret (v := .bool false) (by simp [results, Tryz.results70, go_sem]) rfl ?_
  exact ⟨rfl, HE.out, HG.out⟩
set_option maxHeartbeats 8000000 in
set_option maxRecDepth 100000 in
theorem curRefuse_any {b : Nat} {p : Option Addr} {c : Nat} {L : List Tok} {nx : Nat} {at' er : Int} {w : World} (h : CurAt w b p c L nx at' er) (hn : nx < L.length) :
    Calls Tryz.prog 69 #[.pointer (some ⟨b, 0, none⟩)] w fun x w' => x = .returned (.bool false) ∧ CurAt w' b p c L nx (L[nx]).pos 5 ∧ w.grownBy w' (some b) := by
  have HT := hid (curTok_any h hn)
  have HF := hid fun W (hW : w.grownBy W none) => curFail_any (h.keep hW) (L[nx]).pos 5
  have hsh : ∃ t, t = L[nx] := ⟨_, rfl⟩
  obtain ⟨t, ht⟩ := hsh
  simp only [← ht] at HT HF ⊢
  unfold Tok.row at HT
  obtain ⟨q0, q1, q3⟩ := tok_fld (.int .i64 t.k) (.int .i64 t.pos) (.int .i64 t.en) (.string t.d)
  clear h hn ht
  go_enter Tryz.func69, Tryz.ntmps69
  go_wp2_with (first | (go_at_call 57; (with_reducible refine HT.out.mono ?_); rintro e w1 ⟨rfl, hg1⟩) | (go_at_call 70; (with_reducible refine (HF.out _ hg1).mono ?_); rintro e w2 ⟨rfl, hc2, hg2⟩))
  go_ret
  exact ⟨rfl, hc2, grown_trans (grown_some hg1 _) hg2⟩
set_option maxHeartbeats 8000000 in
set_option maxRecDepth 100000 in
theorem curSkip_any {b : Nat} {p : Option Addr} {c : Nat} {L : List Tok} {nx : Nat} {at' er : Int} {w : World} (h : CurAt w b p c L nx at' er) (hn : nx < L.length) (hl : L.length ≤ 9223372036854775806) (s : ByteArray) (f : Bool) (hf : f = true ↔ (L[nx]).d = s) :
    Calls Tryz.prog 106 #[.pointer (some ⟨b, 0, none⟩), .string s] w fun x w' => x = .returned (.bool f) ∧ CurAt w' b p c L (if f = true then nx + 1 else nx) at' er ∧ w.grownBy w' (some b) := by
  have HT := hid (curTok_any h hn)
  have HN := hid fun W (hW : w.grownBy W none) => (h.keep hW).nexti (nx + 1) ((nx : Int) + 1) (by omega)
  have HC := hid h
  have hsh : ∃ t, t = L[nx] := ⟨_, rfl⟩
  obtain ⟨t, ht⟩ := hsh
  simp only [← ht] at HT hf ⊢
  unfold Tok.row at HT
  obtain ⟨q0, q1, q3⟩ := tok_fld (.int .i64 t.k) (.int .i64 t.pos) (.int .i64 t.en) (.string t.d)
  have hq : (t.d.toList == s.toList) = f := by rw [Bool.eq_iff_iff, hf, beq_iff_eq]; exact bytes_inj
  clear h ht hf
  cases f with
  | false =>
    go_enter Tryz.func106, Tryz.ntmps106
    go_wp2_with (go_at_call 57; (with_reducible refine HT.out.mono ?_); rintro e w1 ⟨rfl, hg1⟩)
    go_ret
    exact ⟨rfl, HC.out.keep hg1, grown_some hg1 _⟩
  | true =>
    go_enter Tryz.func106, Tryz.ntmps106
    go_upto_region 2 with (go_at_call 57; (with_reducible refine HT.out.mono ?_); rintro e w1 ⟨rfl, hg1⟩)
    obtain ⟨⟨k0, k1, k2, k3⟩, f0, f1, f2, f3⟩ := box4 (HC.out.keep hg1).box
    go_wp2_with fail
    go_ret
    exact ⟨rfl, HN.out _ hg1, grown_trans (grown_some hg1 _) (grown_setCell _ ⟨b, 1, none⟩ _)⟩
set_option maxHeartbeats 8000000 in
set_option maxRecDepth 100000 in
theorem curExpect_any {b : Nat} {p : Option Addr} {c : Nat} {L : List Tok} {nx : Nat} {at' er : Int} {w : World} (h : CurAt w b p c L nx at' er) (hn : nx < L.length) (hl : L.length ≤ 9223372036854775806) (s : ByteArray) (f : Bool) (hf : f = true ↔ (L[nx]).d = s) :
    Calls Tryz.prog 84 #[.pointer (some ⟨b, 0, none⟩), .string s] w fun x w' => x = .returned (.bool f) ∧ CurAt w' b p c L (if f = true then nx + 1 else nx) (if f = true then at' else (L[nx]).pos) (if f = true then er else 5) ∧ w.grownBy w' (some b) := by
  have HS := hid (curSkip_any h hn hl s f hf)
  have HR := hid fun (W : World) (h' : CurAt W b p c L nx at' er) => curRefuse_any h' hn
  clear h hf
  cases f with
  | true =>
    go_enter Tryz.func84, Tryz.ntmps84
    go_wp2_with (go_at_call 106; (with_reducible refine HS.out.mono ?_); rintro e w1 ⟨rfl, hc1, hg1⟩)
    go_ret
    exact ⟨rfl, hc1, hg1⟩
  | false =>
    go_enter Tryz.func84, Tryz.ntmps84
    go_wp2_with (first | (go_at_call 106; (with_reducible refine HS.out.mono ?_); rintro e w1 ⟨rfl, hc1, hg1⟩) | (go_at_call 69; (with_reducible refine (HR.out _ hc1).mono ?_); rintro e w2 ⟨rfl, hc2, hg2⟩))
    go_ret
    exact ⟨rfl, hc2, grown_trans hg1 hg2⟩
set_option maxHeartbeats 8000000 in
set_option maxRecDepth 100000 in
theorem curEnd_any {b : Nat} {p : Option Addr} {c : Nat} {L : List Tok} {nx : Nat} {at' er : Int} {w : World} (h : CurAt w b p c L nx at' er) (hn : nx < L.length) (f : Bool) (hf : f = true ↔ (L[nx]).k = 0) :
    Calls Tryz.prog 37 #[.pointer (some ⟨b, 0, none⟩)] w fun x w' => x = .returned (.bool f) ∧ CurAt w' b p c L nx (if f = true then at' else (L[nx]).pos) (if f = true then er else 5) ∧ w.grownBy w' (some b) := by
  have HT := hid (curTok_any h hn)
  have HR := hid fun W (hW : w.grownBy W none) => curRefuse_any (h.keep hW) hn
  have HC := hid h
  have hsh : ∃ t, t = L[nx] := ⟨_, rfl⟩
  obtain ⟨t, ht⟩ := hsh
  simp only [← ht] at HT HR hf ⊢
  unfold Tok.row at HT
  obtain ⟨q0, q1, q3⟩ := tok_fld (.int .i64 t.k) (.int .i64 t.pos) (.int .i64 t.en) (.string t.d)
  have hq : (((t.k : Nat) : Int) == 0) = f := by rw [Bool.eq_iff_iff, hf]; simp
  clear h ht hf hn
  cases f with
  | true =>
    go_enter Tryz.func37, Tryz.ntmps37
    go_wp2_with (go_at_call 57; (with_reducible refine HT.out.mono ?_); rintro e w1 ⟨rfl, hg1⟩)
    go_ret
    exact ⟨rfl, HC.out.keep hg1, grown_some hg1 _⟩
  | false =>
    go_enter Tryz.func37, Tryz.ntmps37
    go_wp2_with (first | (go_at_call 57; (with_reducible refine HT.out.mono ?_); rintro e w1 ⟨rfl, hg1⟩) | (go_at_call 69; (with_reducible refine (HR.out _ hg1).mono ?_); rintro e w2 ⟨rfl, hc2, hg2⟩))
    go_ret
    exact ⟨rfl, hc2, grown_trans (grown_some hg1 _) hg2⟩
abbrev TokRd (w : World) (p : Option Addr) (c : Nat) (L : List Tok) : Prop := SRd w 4 p L.length c (L.map Tok.row)
theorem tok_at {w : World} {p : Option Addr} {c : Nat} {L : List Tok} (h : TokRd w p c L) {nx : Nat} (hn : nx < L.length) : ∃ g o, p = some ⟨g, o, none⟩ ∧ w.cell? ⟨g, o + nx * 4, none⟩ = some (.int .i64 (L[nx]).k) ∧ w.cell? ⟨g, o + nx * 4 + 1, none⟩ = some (.int .i64 (L[nx]).pos) ∧ w.cell? ⟨g, o + nx * 4 + 2, none⟩ = some (.int .i64 (L[nx]).en) ∧ w.cell? ⟨g, o + nx * 4 + 3, none⟩ = some (.string (L[nx]).d) := by
  obtain ⟨g, o, rfl, hc⟩ := SRd.at h (by decide) (i := nx) (by simpa using hn)
  simp only [List.getElem_map] at hc
  exact ⟨g, o, rfl, hc 0 (by simp [Tok.row]), hc 1 (by simp [Tok.row]), hc 2 (by simp [Tok.row]), hc 3 (by simp [Tok.row])⟩
set_option maxHeartbeats 8000000 in
set_option maxRecDepth 100000 in
theorem rExpect_any {p : Option Addr} {c : Nat} {L : List Tok} {i : Nat} {w : World} (h : TokRd w p c L) (hn : i < L.length) (hl : L.length ≤ 9223372036854775806) (s : ByteArray) (kb db : Bool) (hk : kb = true ↔ (L[i]).k = 0) (hd : db = true ↔ (L[i]).d = s) :
    Calls Tryz.prog 66 #[.slice p L.length c, .int .i64 i, .string s] w fun e w' => e = .returned (.tuple #[.int .i64 ((if (!kb && db) = true then i + 1 else i : Nat)), .int .i64 (if (!kb && db) = true then 0 else 5)]) ∧ w.grownBy w' none := by
  obtain ⟨g, o, rfl, c0, c1, c2, c3⟩ := tok_at h hn
  have hW := grown_refl w none
  have hcap := SRd.cap h
  have hmax := SRd.max h
  have hix : (i : Int) < (L.length : Int) := by omega
  have hsh : ∃ t, t = L[i] := ⟨_, rfl⟩
  obtain ⟨t, ht⟩ := hsh
  simp only [← ht] at c0 c1 c2 c3 hk hd
  have q1 : ((t.k : Int) == 0) = kb := by rw [Bool.eq_iff_iff, hk]; simp
  have q2 : (t.d.toList == s.toList) = db := by rw [Bool.eq_iff_iff, hd, beq_iff_eq]; exact bytes_inj
  have q3 : (t.d.toList != s.toList) = !db := by rw [bne, q2]
  clear h ht hk hd c1 c2
  generalize L.length = n at *
  cases kb <;> cases db
  all_goals
    go_enter Tryz.func66, Tryz.ntmps66
    go_wp2_with fail
    go_ret2
    exact ⟨rfl, hW⟩
structure TkOk (t : Tok) : Prop where
 z : t.k = 0 → t.d = ⟨#[]⟩
 ne : t.k ≠ 0 → t.d.data.toList ≠ []
 nm : t.k = 1 ↔ shp t.d.data.toList = true
 nb : t.k = 2 → Numl t.d.data.toList ∧ t.d.data.toList.length ≤ 1000
 le : t.k ≤ 3
 sz : t.d.data.toList.length ≤ 20000
 ps : t.pos ≤ 20000
structure LkOk (L : List Tok) : Prop where
 ne : 0 < L.length
 len : L.length ≤ 20001
 ok : ∀ i (h : i < L.length), TkOk L[i]
 last : ∀ i (h : i < L.length), L[i].k = 0 ↔ i + 1 = L.length
def tokOf (l : List UInt8) (t : Nat × Nat × Nat) : Tok := ⟨t.1, t.2.1, t.2.1 + t.2.2, ⟨((l.drop t.2.1).take t.2.2).toArray⟩⟩
theorem span_take (ks : List Nat) : ∀ r : List UInt8, span ks (r.take (span ks r)) = span ks r
 | [] => rfl
 | c :: r => by
  by_cases h : kd c.toNat ∈ ks
  ·rw [span_yes h, List.take_succ_cons, span_yes h, span_take ks r]
  ·rw [span_no h]; rfl
theorem span_all (ks : List Nat) : ∀ (r : List UInt8), ∀ c ∈ r.take (span ks r), kd c.toNat ∈ ks
 | [], c, h => by simp [span] at h
 | a :: r, c, h => by
  by_cases ha : kd a.toNat ∈ ks
  ·rw [span_yes ha, List.take_succ_cons] at h
   rcases List.mem_cons.1 h with rfl | h1
   ·exact ha
   ·exact span_all ks r c h1
  ·rw [span_no ha] at h
   simp at h
theorem take_cons_ne {c : UInt8} {r : List UInt8} {n : Nat} (h : 0 < n) : (c :: r).take n = c :: r.take (n - 1) := by
 obtain ⟨m, rfl⟩ : ∃ m, n = m + 1 := ⟨n - 1, by omega⟩
 rfl
theorem tokAt_ok {r : List UInt8} (hr : r ≠ []) (he : (tokAt r).e = 0) (hsz : r.length ≤ 20000) (p : Nat) (hp : p ≤ 20000) : TkOk ⟨(tokAt r).k, p, p + (tokAt r).n, ⟨(r.take (tokAt r).n).toArray⟩⟩ ∧ (tokAt r).k ≠ 0 := by
 match r, hr with
 | c :: r, _ =>
  have hpos := tok_pos (c :: r)
  have hne : (c :: r).take (tokAt (c :: r)).n ≠ [] := by rw [take_cons_ne hpos]; simp
  have hlen : ((c :: r).take (tokAt (c :: r)).n).length ≤ 20000 := by
   have := List.length_take_le' (tokAt (c :: r)).n (c :: r)
   omega
  by_cases h3 : kd c.toNat = 3
  ·rw [tok_name h3] at he hpos hne hlen ⊢
   have hn : span [3, 4] (c :: r) ≤ 20 := by
    unfold nameTk at he
    simp only at he
    split at he <;> omega
   have hp0 : 0 < span [3, 4] (c :: r) := hpos
   refine ⟨⟨fun h => by simp [nameTk] at h, fun _ => hne, ⟨fun _ => ?_, fun _ => rfl⟩, fun h => by simp [nameTk] at h, by simp [nameTk], hlen, hp⟩, by simp [nameTk]⟩
   show shp ((c :: r).take (span [3, 4] (c :: r))) = true
   have hs := span_take [3, 4] (c :: r)
   have hl : ((c :: r).take (span [3, 4] (c :: r))).length = span [3, 4] (c :: r) := by
    rw [List.length_take]; have := span_le [3, 4] (c :: r); omega
   rw [take_cons_ne hp0] at hs hl ⊢
   show (decide ((c :: List.take (span [3, 4] (c :: r) - 1) r).length ≤ 20) && (decide (kd c.toNat = 3) && decide (span [3, 4] (c :: List.take (span [3, 4] (c :: r) - 1) r) = (c :: List.take (span [3, 4] (c :: r) - 1) r).length))) = true
   rw [hs, hl]
   simp [h3, hn]
  ·have hshp : ∀ m, shp ((c :: r).take m) = false := fun m => by
    cases m with
    | zero => rfl
    | succ m =>
     rw [List.take_succ_cons]
     unfold shp
     simp [h3]
   by_cases h4 : kd c.toNat = 4
   ·rw [tok_num h4] at he hpos hne hlen ⊢
    have hp0 : 0 < span [4] (c :: r) := hpos
    have hn : ¬ (decide (c.toNat = 48) = true ∧ 1 < span [4] (c :: r)) ∧ span [4] (c :: r) ≤ 1000 := by
     unfold numTk at he
     simp only at he
     split at he
     ·omega
     ·rename_i h1
      refine ⟨h1, ?_⟩
      split at he <;> omega
    have hl : ((c :: r).take (span [4] (c :: r))).length = span [4] (c :: r) := by
     rw [List.length_take]; have := span_le [4] (c :: r); omega
    refine ⟨⟨fun h => by simp [numTk] at h, fun _ => hne, ⟨fun h => by simp [numTk] at h, fun h => ?_⟩, fun _ => ?_, by simp [numTk], hlen, hp⟩, by simp [numTk]⟩
    ·have h' : shp ((c :: r).take (span [4] (c :: r))) = true := h
     rw [hshp] at h'
     exact absurd h' (by simp)
    ·show Numl ((c :: r).take (span [4] (c :: r))) ∧ ((c :: r).take (span [4] (c :: r))).length ≤ 1000
     refine ⟨⟨fun x hx => ?_, ?_⟩, by rw [hl]; exact hn.2⟩
     ·have := span_all [4] (c :: r) x hx
      exact (kd_digit _).1 (by simpa using this)
     ·by_cases h48 : c.toNat = 48
      ·left
       have := hn.1
       simp only [h48, decide_true, true_and] at this
       rw [hl]; omega
      ·right
       rw [take_cons_ne hp0]
       intro h
       simp at h
       subst h
       exact h48 rfl
   ·have hk : (tokAt (c :: r)).k = 3 := by
     by_cases h5 : kd c.toNat = 5
     ·rw [tok_sign h5]
     ·by_cases h6 : kd c.toNat = 6 ∧ r.head? = some 61
      ·rw [tok_colon h6.1 h6.2]
      ·rw [tok_bad h3 h4 h5 (fun h h' => h6 ⟨h, h'⟩)]
    refine ⟨⟨fun h => by simp only at h; omega, fun _ => hne, ⟨fun h => by simp only at h; omega, fun h => ?_⟩, fun h => by simp only at h; omega, by simp only; omega, hlen, hp⟩, by omega⟩
    have h' : shp ((c :: r).take (tokAt (c :: r)).n) = true := h
    rw [hshp] at h'
    exact absurd h' (by simp)
theorem tokOf_ok {l : List UInt8} {i : Nat} (hi : i < l.length) (hl : l.length ≤ 20000) (he : (tokAt (l.drop i)).e = 0) : TkOk (tokOf l ((tokAt (l.drop i)).k, i, (tokAt (l.drop i)).n)) ∧ (tokAt (l.drop i)).k ≠ 0 :=
 tokAt_ok (by intro h; have := congrArg List.length h; simp at this; omega) he (by simp; omega) i (by omega)
theorem endTok_ok (l : List UInt8) (hl : l.length ≤ 20000) : TkOk (tokOf l (0, l.length, 0)) :=
 ⟨fun _ => rfl, fun h => absurd rfl h, ⟨fun h => by simp [tokOf] at h, fun h => by simp [tokOf, shp] at h⟩, fun h => by simp [tokOf] at h, by simp [tokOf], by simp [tokOf], hl⟩
theorem lexW_okL {l : List UInt8} (hl : l.length ≤ 20000) : ∀ (f i : Nat), l.length - i ≤ f → ∀ ts a, lexW l i = (ts, a, 0) → 0 < ts.length ∧ ts.length ≤ l.length - i + 1 ∧ ∀ j (hj : j < ts.length), TkOk (tokOf l ts[j]) ∧ (ts[j].1 = 0 ↔ j + 1 = ts.length)
 | f, i, hf, ts, a, h => by
  by_cases hi : i < l.length
  ·by_cases he : (tokAt (l.drop i)).e = 0
   ·rw [lexW_ok hi he] at h
    have hpos := tok_pos (l.drop i)
    unfold glue at h
    rcases hr : lexW l (i + (tokAt (l.drop i)).n + sk false (l.drop (i + (tokAt (l.drop i)).n))) with ⟨us, b, e⟩
    rw [hr] at h
    simp only [Prod.mk.injEq] at h
    obtain ⟨h1, h2, h3⟩ := h
    subst h3
    rw [if_pos rfl] at h1
    cases f with
    | zero => omega
    | succ f =>
     obtain ⟨k1, k2, k3⟩ := lexW_okL hl f _ (by omega) us b hr
     obtain ⟨g1, g2⟩ := tokOf_ok hi hl he
     subst h1
     refine ⟨by simp, by simp; omega, fun j hj => ?_⟩
     cases j with
     | zero =>
      refine ⟨g1, ⟨fun h => absurd h g2, fun h => ?_⟩⟩
      simp only [List.length_cons] at h
      omega
     | succ j =>
      have := k3 j (by simpa using hj)
      refine ⟨this.1, ?_⟩
      rw [List.getElem_cons_succ, this.2]
      simp
   ·rw [lexW_bad hi he] at h
    simp only [Prod.mk.injEq] at h
    exact absurd h.2.2 he
  ·rw [lexW_end (by omega)] at h
   simp only [Prod.mk.injEq] at h
   obtain ⟨rfl, -, -⟩ := h
   refine ⟨by simp, by simp, fun j hj => ?_⟩
   have : j = 0 := by simpa using hj
   subst this
   exact ⟨endTok_ok l hl, by simp⟩
def toks (l : List UInt8) : List Tok := (lexAll l).1.map (tokOf l)
theorem toks_ok {l : List UInt8} (h : (lexAll l).2.2 = 0) : LkOk (toks l) := by
 unfold toks
 unfold lexAll at h ⊢
 by_cases hb : 20000 < l.length
 ·rw [if_pos hb] at h; simp at h
 ·rw [if_neg hb] at h ⊢
  rcases hr : lexW l (sk false l) with ⟨ts, a, e⟩
  rw [hr] at h
  unfold fin at h ⊢
  simp only at h
  subst h
  obtain ⟨k1, k2, k3⟩ := lexW_okL (by omega) _ _ (Nat.le_refl _) ts a hr
  simp only [if_pos, List.nil_append]
  refine ⟨by simpa using k1, by simp; omega, fun i hi => ?_, fun i hi => ?_⟩
  ·rw [List.getElem_map]
   exact (k3 i (by simpa using hi)).1
  ·have h1 := (k3 i (by simpa using hi)).2
   have h2 : (ts.map (tokOf l))[i].k = (ts[i]'(by simpa using hi)).1 := by rw [List.getElem_map]; rfl
   rw [h2, h1]
   simp
end Go.Proofs.YtjpkncgfpbhnaaaGreatDoor
namespace Go.Proofs.YtjpkncgfpbhnaaaGreatDoor
open Go.RowKit _root_.Nm
def soP (x : Nat) : List Nat := if x = 0 then [2, 3] else [x]
set_option maxHeartbeats 4000000 in
theorem pHasRatio_any (x : Nat) (w : World) (f : Bool) (hf : f = true ↔ x = 11 ∨ x = 68) : Calls Tryz.prog 117 #[.int .i64 x] w fun e w' => e = .returned (.bool f) ∧ w.grownBy w' none := by
  have hW := grown_refl w none
  by_cases h1 : x = 11
  · subst h1
    obtain rfl : f = true := hf.2 (.inl rfl)
    clear hf
    go_enter Tryz.func117, Tryz.ntmps117
    go_wp2_with fail
    go_ret
    exact ⟨rfl, hW⟩
  · have q1 : ((x : Int) == 11) = false := by simpa using (by omega : ¬ (x : Int) = 11)
    have q2 : ((x : Int) == 68) = f := by
      rw [Bool.eq_iff_iff, hf]
      simp
      omega
    clear hf
    go_enter Tryz.func117, Tryz.ntmps117
    go_wp2_with fail
    go_ret
    exact ⟨by first | rfl | rw [q2], hW⟩
set_option maxHeartbeats 4000000 in
theorem sortsOf_any (x : Nat) (w : World) : Calls Tryz.prog 161 #[.int .i64 x] w fun e w' => ∃ n, e = .returned (.slice (some ⟨w.heap.size, 0, none⟩) n n) ∧ IRd w' .i64 (some ⟨w.heap.size, 0, none⟩) n n (soP x) ∧ w.grownBy w' none := by
  have hG2 := World.grownBy_alloc w (.cells #[.int .i64 2, .int .i64 3] 3) none
  have hG1 := World.grownBy_alloc w (.cells #[.int .i64 x] 3) none
  have b2 := heap_alloc_new w (.cells #[.int .i64 2, .int .i64 3] 3)
  have b1 := heap_alloc_new w (.cells #[.int .i64 x] 3)
  by_cases h0 : x = 0
  · subst h0
    go_enter Tryz.func161, Tryz.ntmps161
    go_wp2_with fail
    go_ret
    refine ⟨2, rfl, ⟨rfl, Nat.le_refl _, by omega, fun i hi => ⟨w.heap.size, 0, rfl, ?_⟩⟩, hG2⟩
    rw [cell_of_row _ w.heap.size (0 + i) _ _ _ b2]
    match i, hi with
    | 0, _ => rfl
    | 1, _ => rfl
  · have q1 : ((x : Int) == 0) = false := by simpa using (by omega : ¬ (x : Int) = 0)
    go_enter Tryz.func161, Tryz.ntmps161
    go_wp2_with fail
    go_ret
    refine ⟨1, rfl, ?_, hG1⟩
    unfold soP
    rw [if_neg h0]
    refine ⟨rfl, Nat.le_refl _, by omega, fun i hi => ⟨w.heap.size, 0, rfl, ?_⟩⟩
    rw [cell_of_row _ w.heap.size (0 + i) _ _ _ b1]
    match i, hi with
    | 0, _ => rfl
end Go.Proofs.YtjpkncgfpbhnaaaGreatDoor
namespace Px
open Ax
def kwS (q : Nat → Bool) (w : List UInt8) : Nat := match tab.find? (fun e => decide (e.w = w) && q e.s) with
  | some e => e.k
  | none => 0
def kAt (q : Nat → Bool) (w : List UInt8) : Nat → Nat → Nat
  | 0, _ => 0
  | f + 1, k => if (decide (wrd k = w) && q (srt k)) = true then k else kAt q w f (k + 1)
def quad (a b c d e : Bool) (s : Nat) : Bool := match s with
  | 0 => a
  | 1 => b
  | 2 => c
  | 3 => d
  | 4 => e
  | _ => false
theorem quad_eq (q : Nat → Bool) {s : Nat} (h : s ≤ 4) : quad (q 0) (q 1) (q 2) (q 3) (q 4) s = q s := by
  match s, h with
  | 0, _ => rfl
  | 1, _ => rfl
  | 2, _ => rfl
  | 3, _ => rfl
  | 4, _ => rfl
theorem tab_sort : ∀ e ∈ tab, e.s ≤ 4 := by decide
theorem srt_le (k : Int) : srt k ≤ 4 := by
  unfold srt ent
  cases h : tab.find? fun e => decide ((e.k : Int) = k) with
  | none => exact Nat.zero_le _
  | some e => exact tab_sort e (List.mem_of_find?_eq_some h)
theorem find_congr {α : Type} {p p' : α → Bool} : ∀ {l : List α}, (∀ e ∈ l, p e = p' e) → l.find? p = l.find? p'
  | [], _ => rfl
  | x :: l, h => by
    rw [List.find?_cons, List.find?_cons, h x (by simp), find_congr fun e he => h e (by simp [he])]
theorem kwS_quad (q : Nat → Bool) (w : List UInt8) : kwS q w = kwS (quad (q 0) (q 1) (q 2) (q 3) (q 4)) w := by
  unfold kwS
  rw [find_congr (p' := fun e => decide (e.w = w) && quad (q 0) (q 1) (q 2) (q 3) (q 4) e.s) fun e he => by rw [quad_eq q (tab_sort e he)]]
theorem kAt_quad (q : Nat → Bool) (w : List UInt8) : ∀ (f k : Nat), kAt q w f k = kAt (quad (q 0) (q 1) (q 2) (q 3) (q 4)) w f k
  | 0, _ => rfl
  | f + 1, k => by
    unfold kAt
    rw [quad_eq q (srt_le k), kAt_quad q w f (k + 1)]
theorem kAt_tab : ∀ e ∈ tab, ∀ a b c d z : Bool, kAt (quad a b c d z) e.w (69 - knd e.w) (knd e.w) = kwS (quad a b c d z) e.w := by decide +kernel
theorem knd_mem {w : List UInt8} (h : knd w ≠ 0) : ∃ e ∈ tab, e.w = w := by
  unfold knd at h
  cases hf : tab.find? fun e => decide (e.w = w) with
  | none => rw [hf] at h; exact absurd rfl h
  | some e => exact ⟨e, List.mem_of_find?_eq_some hf, by simpa using List.find?_some hf⟩
theorem knd_tab : ∀ e ∈ tab, knd e.w ≠ 0 := by decide +kernel
theorem kwS_at (q : Nat → Bool) {w : List UInt8} (h : knd w ≠ 0) : kAt q w (69 - knd w) (knd w) = kwS q w := by
  obtain ⟨e, he, rfl⟩ := knd_mem h
  rw [kAt_quad q, kwS_quad q]
  exact kAt_tab e he _ _ _ _ _
theorem kwS_none (q : Nat → Bool) {w : List UInt8} (h : knd w = 0) : kwS q w = 0 := by
  unfold kwS
  rw [find_congr (p' := fun _ => false) fun e he => ?_]
  · rw [show (tab.find? fun _ => false) = none from by rw [List.find?_eq_none]; simp]
  · have : e.w ≠ w := fun hw => knd_tab e he (by rw [hw]; exact h)
    simp [this]
theorem kwS_or (a b : Nat) (w : List UInt8) (hab : ∀ e ∈ tab, ∀ e' ∈ tab, e.w = e'.w → ¬ (e.s = a ∧ e'.s = b)) : kwS (fun s => decide (s = a) || decide (s = b)) w = max (kwS (fun s => decide (s = a)) w) (kwS (fun s => decide (s = b)) w) := by
  by_cases h : knd w = 0
  · rw [kwS_none _ h, kwS_none _ h, kwS_none _ h]; rfl
  · by_cases hb : ∃ e ∈ tab, e.w = w ∧ e.s = b
    · obtain ⟨e, he, hw, hs⟩ := hb
      have h0 : kwS (fun s => decide (s = a)) w = 0 := by
        unfold kwS
        rw [find_congr (p' := fun _ => false) fun x hx => ?_]
        · rw [show (tab.find? fun _ => false) = none from by rw [List.find?_eq_none]; simp]
        · have := hab x hx e he
          by_cases hxw : x.w = w
          · have h2 : ¬ x.s = a := fun hs' => this (by rw [hxw, hw]) ⟨hs', hs⟩
            simp [h2]
          · simp [hxw]
      rw [h0, Nat.zero_max]
      unfold kwS
      rw [find_congr (p' := fun x => decide (x.w = w) && decide (x.s = b)) fun x hx => ?_]
      by_cases hxw : x.w = w
      · have : ¬ x.s = a := fun hs' => hab x hx e he (by rw [hxw, hw]) ⟨hs', hs⟩
        simp [this]
      · simp [hxw]
    · have h0 : kwS (fun s => decide (s = b)) w = 0 := by
        unfold kwS
        rw [find_congr (p' := fun _ => false) fun x hx => ?_]
        · rw [show (tab.find? fun _ => false) = none from by rw [List.find?_eq_none]; simp]
        · by_cases hxw : x.w = w
          · have : ¬ x.s = b := fun hs' => hb ⟨x, hx, hxw, hs'⟩
            simp [this]
          · simp [hxw]
      rw [h0, Nat.max_zero]
      unfold kwS
      rw [find_congr (p' := fun x => decide (x.w = w) && decide (x.s = a)) fun x hx => ?_]
      by_cases hxw : x.w = w
      · have : ¬ x.s = b := fun hs' => hb ⟨x, hx, hxw, hs'⟩
        simp [this]
      · simp [hxw]
theorem tab_23 : ∀ e ∈ tab, ∀ e' ∈ tab, e.w = e'.w → ¬ (e.s = 2 ∧ e'.s = 3) := by decide +kernel
end Px
namespace Go.Proofs.YtjpkncgfpbhnaaaGreatDoor
open Go.RowKit _root_.Nm Lx Px
inductive Rs (α : Type) where
  | ok (a : α) (j : Nat)
  | bad (j : Nat) (e : Int)
def Rs.bind {α β : Type} (r : Rs α) (f : α → Nat → Rs β) : Rs β := match r with
  | .ok a j => f a j
  | .bad j e => .bad j e
def Rs.map {α β : Type} (r : Rs α) (f : α → β) : Rs β := r.bind fun a j => .ok (f a) j
def endTk : Tok := ⟨0, 0, 0, ⟨#[]⟩⟩
def tk (L : List Tok) (i : Nat) : Tok := L.getD i endTk
theorem tk_at {L : List Tok} {i : Nat} (h : i < L.length) : tk L i = L[i] := by
  unfold tk
  rw [List.getD_eq_getElem?_getD, List.getElem?_eq_getElem h]
  rfl
def isN (t : Tok) : Bool := isNm t.d.data.toList
def kO (xs : List Nat) (t : Tok) : Nat := kwS (fun s => decide (s ∈ xs)) t.d.data.toList
def hasR (k : Nat) : Bool := decide (k = 11) || decide (k = 68)
def sOpen : ByteArray := ⟨#[40]⟩
def sClose : ByteArray := ⟨#[41]⟩
def sComma : ByteArray := ⟨#[44]⟩
def sSlash : ByteArray := ⟨#[47]⟩
def sMinus : ByteArray := ⟨#[45]⟩
def expM (s : ByteArray) (L : List Tok) (i : Nat) : Rs Unit := if (tk L i).d = s then .ok () (i + 1) else .bad i 5
def argsM (rec : Nat → List Nat → Rs Tr) (L : List Tok) : ByteArray → List Nat → Nat → Rs (List Tr)
  | _, [], i => .ok [] i
  | s, p :: ps, i => (expM s L i).bind fun _ j => (rec j (soP p)).bind fun t j' => (argsM rec L sComma ps j').map (t :: ·)
def numM (V : List UInt8 → Rat) (L : List Tok) (i : Nat) : Rs Rat := if (tk L i).k = 2 then .ok (V (tk L i).d.data.toList) (i + 1) else .bad i 5
def ratM (V : List UInt8 → Rat) (L : List Tok) (i : Nat) : Rs Rat :=
  (expM sComma L i).bind fun _ j =>
  let n := decide ((tk L j).d = sMinus)
  (numM V L (if n = true then j + 1 else j)).bind fun v j1 =>
  if (tk L j1).d = sSlash then
    (numM V L (j1 + 1)).bind fun u j2 => if u = 0 then .bad (j1 + 1) 3 else .ok (if n = true then -(v / u) else v / u) j2
  else .ok (if n = true then -v else v) j1
def ndR (k : Nat) (pos : Nat) (v : Rat) (l : List Tr) : Tr := .node ⟨k, ⟨#[]⟩, decide (v.num < 0), dg 65536 v.num.natAbs, dg 65536 v.den, pos⟩ l
def nd0 (k : Nat) (pos : Nat) (l : List Tr) : Tr := .node ⟨k, ⟨#[]⟩, false, [], [], pos⟩ l
def leaf (t : Tok) : Tr := .node ⟨1, t.d, false, [], [], t.pos⟩ []
def conM (V : List UInt8 → Rat) (rec : Nat → List Nat → Rs Tr) (L : List Tok) (i : Nat) (xs : List Nat) : Rs Tr :=
  if kO xs (tk L i) = 0 then .bad i 5 else
  (argsM rec L sOpen (Ax.prm (kO xs (tk L i))) (i + 1)).bind fun l j =>
  if hasR (kO xs (tk L i)) = true then (ratM V L j).bind fun v j1 => (expM sClose L j1).map fun _ => ndR (kO xs (tk L i)) (tk L i).pos v l
  else (expM sClose L j).map fun _ => nd0 (kO xs (tk L i)) (tk L i).pos l
def argM (V : List UInt8 → Rat) (L : List Tok) : Nat → Nat → List Nat → Rs Tr
  | 0, i, xs => if isN (tk L i) = false ∧ kO xs (tk L i) = 0 then .bad i 5 else .bad i 4
  | f + 1, i, xs => if isN (tk L i) = false ∧ kO xs (tk L i) = 0 then .bad i 5 else
    if isN (tk L i) = true then .ok (leaf (tk L i)) (i + 1) else conM V (argM V L f) L i xs
def Rs.In {α : Type} (r : Rs α) (n : Nat) : Prop := match r with
  | .ok _ j => j < n
  | .bad j _ => j < n
theorem Rs.In.bind {α β : Type} {r : Rs α} {f : α → Nat → Rs β} {n : Nat} (h : r.In n) (hf : ∀ a j, r = .ok a j → j < n → (f a j).In n) : (r.bind f).In n := by
  cases r with
  | ok a j => exact hf a j rfl h
  | bad j e => exact h
theorem LkOk.next {L : List Tok} (h : LkOk L) {i : Nat} (hi : i < L.length) (hn : (tk L i).d.data.toList ≠ []) : i + 1 < L.length := by
  rw [tk_at hi] at hn
  rcases Nat.lt_or_ge (i + 1) L.length with h1 | h1
  · exact h1
  · exact absurd (by rw [(h.ok i hi).z ((h.last i hi).2 (by omega))]) hn
theorem expM_in {L : List Tok} (h : LkOk L) {s : ByteArray} (hs : s.data.toList ≠ []) {i : Nat} (hi : i < L.length) : (expM s L i).In L.length := by
  unfold expM
  split
  · rename_i he
    exact h.next hi (by rw [he]; exact hs)
  · exact hi
theorem argsM_in {L : List Tok} (h : LkOk L) {rec : Nat → List Nat → Rs Tr} (hr : ∀ j xs, j < L.length → (rec j xs).In L.length) : ∀ (ps : List Nat) (s : ByteArray), s.data.toList ≠ [] → ∀ i, i < L.length → (argsM rec L s ps i).In L.length
  | [], _, _, i, hi => hi
  | p :: ps, s, hs, i, hi => by
    unfold argsM
    refine (expM_in h hs hi).bind fun _ j _ hj => (hr j _ hj).bind fun t j' _ hj' => ?_
    exact (argsM_in h hr ps sComma (by simp [sComma]) j' hj').bind fun _ _ _ h => h
theorem numM_in {L : List Tok} (h : LkOk L) {V : List UInt8 → Rat} {i : Nat} (hi : i < L.length) : (numM V L i).In L.length := by
  unfold numM
  split
  · rename_i he
    refine h.next hi ?_
    rw [tk_at hi] at he ⊢
    exact (h.ok i hi).ne (by omega)
  · exact hi
theorem ratM_in {L : List Tok} (h : LkOk L) {V : List UInt8 → Rat} {i : Nat} (hi : i < L.length) : (ratM V L i).In L.length := by
  unfold ratM
  refine (expM_in h (by simp [sComma]) hi).bind fun _ j _ hj => ?_
  have hj1 : (if decide ((tk L j).d = sMinus) = true then j + 1 else j) < L.length := by
    split
    · rename_i he
      exact h.next hj (by rw [of_decide_eq_true he]; simp [sMinus])
    · exact hj
  refine (numM_in h hj1).bind fun v j1 _ hj2 => ?_
  try dsimp only
  split
  · rename_i he
    have hj3 := h.next hj2 (by rw [he]; simp [sSlash])
    refine (numM_in h hj3).bind fun u j2 _ hj4 => ?_
    try dsimp only
    split
    · exact hj3
    · exact hj4
  · exact hj2
theorem isN_ne {t : Tok} (h : isN t = true) : t.d.data.toList ≠ [] := by
  intro e
  unfold isN isNm at h
  rw [e] at h
  simp [shp] at h
theorem kwS_nil (q : Nat → Bool) : kwS q [] = 0 := kwS_none q (by decide)
theorem kO_ne {xs : List Nat} {t : Tok} (h : kO xs t ≠ 0) : t.d.data.toList ≠ [] := by
  intro e
  unfold kO at h
  rw [e] at h
  exact h (kwS_nil _)
theorem conM_in {L : List Tok} (h : LkOk L) {V : List UInt8 → Rat} {rec : Nat → List Nat → Rs Tr} (hr : ∀ j xs, j < L.length → (rec j xs).In L.length) {i : Nat} (hi : i < L.length) (xs : List Nat) : (conM V rec L i xs).In L.length := by
  unfold conM
  split
  · exact hi
  · rename_i hk
    refine (argsM_in h hr _ _ (by simp [sOpen]) _ (h.next hi (kO_ne hk))).bind fun l j _ hj => ?_
    try dsimp only
    split
    · exact (ratM_in h hj).bind fun v j1 _ hj1 => (expM_in h (by simp [sClose]) hj1).bind fun _ _ _ h => h
    · exact (expM_in h (by simp [sClose]) hj).bind fun _ _ _ h => h
theorem argM_in {L : List Tok} (h : LkOk L) {V : List UInt8 → Rat} : ∀ (f : Nat) (i : Nat) (xs : List Nat), i < L.length → (argM V L f i xs).In L.length
  | 0, i, xs, hi => by
    unfold argM
    split <;> exact hi
  | f + 1, i, xs, hi => by
    unfold argM
    split
    · exact hi
    · split
      · rename_i hn
        exact h.next hi (isN_ne hn)
      · exact conM_in h (fun j xs hj => argM_in h f j xs hj) hi xs
theorem tab_shp : ∀ e ∈ Ax.tab, shp e.w = true := by decide +kernel
theorem tab_prm : ∀ e ∈ Ax.tab, e.p ≠ [] ∧ e.k ≠ 0 := by decide +kernel
theorem kwS_mem {q : Nat → Bool} {w : List UInt8} (h : kwS q w ≠ 0) : ∃ e ∈ Ax.tab, e.w = w ∧ q e.s = true ∧ kwS q w = e.k := by
  unfold kwS at h ⊢
  cases hf : Ax.tab.find? fun e => decide (e.w = w) && q e.s with
  | none => rw [hf] at h; exact absurd rfl h
  | some e =>
    have h1 := List.find?_some hf
    simp only [Bool.and_eq_true, decide_eq_true_eq] at h1
    exact ⟨e, List.mem_of_find?_eq_some hf, h1.1, h1.2, rfl⟩
theorem kO_name {xs : List Nat} {t : Tok} (hT : TkOk t) (h : kO xs t ≠ 0) : t.k = 1 := by
  obtain ⟨e, he, hw, _⟩ := kwS_mem h
  refine hT.nm.2 ?_
  rw [← hw]
  exact tab_shp e he
theorem isN_name {t : Tok} (hT : TkOk t) (h : isN t = true) : t.k = 1 := by
  unfold isN isNm at h
  rw [Bool.and_eq_true] at h
  exact hT.nm.2 h.1
theorem kO_none {t : Tok} (hT : TkOk t) : kO [2, 3] t = max (kO [2] t) (kO [3] t) := by
  have := kwS_or 2 3 t.d.data.toList tab_23
  unfold kO
  rw [← (show (fun s => decide (s = 2)) = (fun s => decide (s ∈ [2])) from by funext s; simp), ← (show (fun s => decide (s = 3)) = (fun s => decide (s ∈ [3])) from by funext s; simp), ← this]
  congr 1
  funext s
  simp [Bool.decide_or]
end Go.Proofs.YtjpkncgfpbhnaaaGreatDoor
namespace Go.Proofs.YtjpkncgfpbhnaaaGreatDoor
open Go.RowKit _root_.Nm
theorem flat_get7 : ∀ {rows : List (List Value)}, (∀ r ∈ rows, r.length = 7) → ∀ (i : Nat) (hi : i < rows.length) (j : Nat) (hj : j < rows[i].length), rows.flatten[i * 7 + j]? = some rows[i][j]
  | r :: rs, h, 0, hi, j, hj => by
    rw [List.flatten_cons, Nat.zero_mul, Nat.zero_add, List.getElem?_append_left (by simpa using hj)]
    simp only [List.getElem_cons_zero]
    exact List.getElem?_eq_getElem _
  | r :: rs, h, i + 1, hi, j, hj => by
    have h7 := h r (by simp)
    rw [List.flatten_cons, List.getElem?_append_right (by omega), show (i + 1) * 7 + j - r.length = i * 7 + j by omega]
    have := flat_get7 (rows := rs) (fun r hr => h r (by simp [hr])) i (by simpa using hi) j (by simpa using hj)
    simpa using this
theorem flat_set7 (a b c d e f g : Value) : ∀ {rows : List (List Value)}, (∀ r ∈ rows, r.length = 7) → ∀ (i : Nat), i < rows.length →
    ((((((rows.flatten.set (i * 7) a).set (i * 7 + 1) b).set (i * 7 + 2) c).set (i * 7 + 3) d).set (i * 7 + 4) e).set (i * 7 + 5) f).set (i * 7 + 6) g = (rows.set i [a, b, c, d, e, f, g]).flatten
  | r :: rs, h, 0, hi => by
    have h7 := h r (by simp)
    match r, h7 with
    | [x0, x1, x2, x3, x4, x5, x6], _ => simp
  | r :: rs, h, i + 1, hi => by
    have h7 := h r (by simp)
    have ih := flat_set7 a b c d e f g (rows := rs) (fun r hr => h r (by simp [hr])) i (by simpa using hi)
    have st : ∀ (l : List Value) (j : Nat) (v : Value), (r ++ l).set (i * 7 + 7 + j) v = r ++ l.set (i * 7 + j) v := fun l j v => by
      rw [List.set_append_right _ _ (by omega), show i * 7 + 7 + j - r.length = i * 7 + j by omega]
    have s0 : ∀ (l : List Value) (v : Value), (r ++ l).set (i * 7 + 7) v = r ++ l.set (i * 7) v := fun l v => st l 0 v
    rw [List.flatten_cons, List.set_cons_succ, List.flatten_cons, ← ih, show (i + 1) * 7 = i * 7 + 7 by omega, s0, st, st, st, st, st, st]
def NoH (v : Value) : Prop := ∀ x, v ≠ .int .u16 x ∧ v ≠ .int .u8 x
theorem NoH.int (x : Int) : NoH (.int .i64 x) := fun y => ⟨fun h => (by cases h), fun h => (by cases h)⟩
theorem NoH.str (d : ByteArray) : NoH (.string d) := fun y => ⟨fun h => (by cases h), fun h => (by cases h)⟩
theorem NoH.bool (b : Bool) : NoH (.bool b) := fun y => ⟨fun h => (by cases h), fun h => (by cases h)⟩
theorem NoH.slice (p : Option Addr) (n c : Nat) : NoH (.slice p n c) := fun y => ⟨fun h => (by cases h), fun h => (by cases h)⟩
def NU (w : World) (k : Nat) : Prop := ∀ o x, w.cell? ⟨k, o, none⟩ ≠ some (.int .u16 x)
theorem NU.of {w : World} {k : Nat} {cs : Array Value} {T : TypeId} {z : Nat × Nat} (hb : w.heap[k]? = some (.cells cs T z)) (h : ∀ v ∈ cs, NoH v) : NU w k := fun o x hc => by
  rw [cell_of_row w k o _ _ _ hb] at hc
  exact (h _ (Array.mem_of_getElem? hc) x).1 rfl
theorem NU.kept {w w' : World} {k : Nat} (h : NU w k) (hk : k < w.heap.size) {row : Option Nat} (hg : w.grownBy w' row) (hr : some k ≠ row) : NU w' k := fun o x hc => by
  rw [World.cell?_of_block (a := ⟨k, o, none⟩) (hg.block k hk hr)] at hc
  exact h o x hc
theorem NU.ird {w : World} {X : Nat → Prop} (h : ∀ k, X k → NU w k) {p : Option Addr} {n c : Nat} {xs : List Nat} (hr : IRd w .u16 p n c xs) : IRdX X w p n c xs :=
  ⟨hr, fun a ha hn hx => by
    have hl := hr.len
    obtain ⟨b, o, e, hc⟩ := hr.cel 0 (by omega)
    rw [ha] at e
    cases e
    exact h b hx _ _ hc⟩
structure ERow (w : World) (g : Nat) (rows : List (List Value)) : Prop where
  blk : w.heap[g]? = some (.cells rows.flatten.toArray 38 (0, 0))
  each : ∀ r ∈ rows, r.length = 7
  noh : ∀ r ∈ rows, ∀ v ∈ r, NoH v
section
variable {w w' : World} {g : Nat} {rows : List (List Value)}
theorem ERow.lt (h : ERow w g rows) : g < w.heap.size := lt_of_block h.blk
theorem ERow.kept (h : ERow w g rows) {row : Option Nat} (hg : w.grownBy w' row) (hr : some g ≠ row) : ERow w' g rows := ⟨(hg.block g h.lt hr).trans h.blk, h.each, h.noh⟩
theorem ERow.nu (h : ERow w g rows) : NU w g := NU.of h.blk (fun v hv => by
  have hv' : v ∈ rows.flatten := by simpa using hv
  obtain ⟨r, hr, hv2⟩ := List.mem_flatten.1 hv'
  exact h.noh r hr v hv2)
theorem ERow.keep (h : ERow w g rows) (hg : w.grownBy w' none) : ERow w' g rows := h.kept hg (by simp)
theorem ERow.free (h : ERow w g rows) (j : Nat) : w.frozen? ⟨g, j, none⟩ = false := frozen_of_row w g j _ _ h.blk
theorem ERow.cell (h : ERow w g rows) (i : Nat) (hi : i < rows.length) (j : Nat) (hj : j < rows[i].length) : w.cell? ⟨g, i * 7 + j, none⟩ = some rows[i][j] := by
  rw [cell_of_row w g (i * 7 + j) _ _ _ h.blk]
  have := flat_get7 h.each i hi j hj
  simpa using this
theorem ERow.put (h : ERow w g rows) (i : Nat) (hi : i < rows.length) (a b c d e f k : Value) (hh : NoH a ∧ NoH b ∧ NoH c ∧ NoH d ∧ NoH e ∧ NoH f ∧ NoH k) :
    ERow (((((((w.setCell ⟨g, i * 7, none⟩ a).setCell ⟨g, i * 7 + 1, none⟩ b).setCell ⟨g, i * 7 + 2, none⟩ c).setCell ⟨g, i * 7 + 3, none⟩ d).setCell ⟨g, i * 7 + 4, none⟩ e).setCell ⟨g, i * 7 + 5, none⟩ f).setCell ⟨g, i * 7 + 6, none⟩ k) g (rows.set i [a, b, c, d, e, f, k]) := by
  have h1 := heap_setCell_same w g (i * 7) _ _ a h.blk
  have h2 := heap_setCell_same _ g (i * 7 + 1) _ _ b h1
  have h3 := heap_setCell_same _ g (i * 7 + 2) _ _ c h2
  have h4 := heap_setCell_same _ g (i * 7 + 3) _ _ d h3
  have h5 := heap_setCell_same _ g (i * 7 + 4) _ _ e h4
  have h6 := heap_setCell_same _ g (i * 7 + 5) _ _ f h5
  have h7 := heap_setCell_same _ g (i * 7 + 6) _ _ k h6
  refine ⟨?_, fun r hr => ?_, fun r hr v hv => ?_⟩
  · rw [h7, ← flat_set7 a b c d e f k h.each i hi]
    simp
  · rcases List.mem_or_eq_of_mem_set hr with h8 | rfl
    · exact h.each r h8
    · rfl
  · rcases List.mem_or_eq_of_mem_set hr with h8 | rfl
    · exact h.noh r h8 v hv
    · obtain ⟨a1, a2, a3, a4, a5, a6, a7⟩ := hh
      simp only [List.mem_cons, List.not_mem_nil, or_false] at hv
      rcases hv with rfl | rfl | rfl | rfl | rfl | rfl | rfl
      · exact a1
      · exact a2
      · exact a3
      · exact a4
      · exact a5
      · exact a6
      · exact a7
end
theorem set7_at (w : World) (G o : Nat) (a b c d e f g : Value) : w.grownBy (((((((w.setCell ⟨G, o, none⟩ a).setCell ⟨G, o + 1, none⟩ b).setCell ⟨G, o + 2, none⟩ c).setCell ⟨G, o + 3, none⟩ d).setCell ⟨G, o + 4, none⟩ e).setCell ⟨G, o + 5, none⟩ f).setCell ⟨G, o + 6, none⟩ g) (some G) :=
  grown_trans (grown_setCell w ⟨G, o, none⟩ a) (grown_trans (grown_setCell _ ⟨G, o + 1, none⟩ b) (grown_trans (grown_setCell _ ⟨G, o + 2, none⟩ c) (grown_trans (grown_setCell _ ⟨G, o + 3, none⟩ d) (grown_trans (grown_setCell _ ⟨G, o + 4, none⟩ e) (grown_trans (grown_setCell _ ⟨G, o + 5, none⟩ f) (grown_setCell _ ⟨G, o + 6, none⟩ g))))))
def RowsK (X : Nat → Prop) (w : World) (m k : Nat) (rows : List (List Value)) (l : List Tr) : Prop := l.length = k ∧ ∀ i (hi : i < rows.length) (hi' : i < l.length), ERdX X w m rows[i] l[i]
theorem RowsK.kept {X : Nat → Prop} {w w' : World} {m k : Nat} {rows : List (List Value)} {l : List Tr} (h : RowsK X w m k rows l) {row : Option Nat} (hg : w.grownBy w' row) (hr : ∀ g, row = some g → X g) : RowsK X w' m k rows l := ⟨h.1, fun i hi hi' => (h.2 i hi hi').kept hg hr⟩
theorem RowsK.keep {X : Nat → Prop} {w w' : World} {m k : Nat} {rows : List (List Value)} {l : List Tr} (h : RowsK X w m k rows l) (hg : w.grownBy w' none) : RowsK X w' m k rows l := ⟨h.1, fun i hi hi' => (h.2 i hi hi').keep hg⟩
theorem RowsK.more {X X' : Nat → Prop} {w : World} (hX : ∀ b, X' b → X b ∨ w.heap.size ≤ b) {m k : Nat} {rows : List (List Value)} {l : List Tr} (h : RowsK X w m k rows l) : RowsK X' w m k rows l := ⟨h.1, fun i hi hi' => (h.2 i hi hi').more hX⟩
theorem RowsK.put {X : Nat → Prop} {w : World} {m k : Nat} {rows : List (List Value)} {l : List Tr} (h : RowsK X w m k rows l) (hk : k < rows.length) {r : List Value} {t : Tr} (hr : ERdX X w m r t) : RowsK X w m (k + 1) (rows.set k r) (l ++ [t]) := by
  obtain ⟨h1, h2⟩ := h
  refine ⟨by simp [h1], fun i hi hi' => ?_⟩
  have hi0 : i < rows.length := by simpa using hi
  by_cases hin : i < l.length
  · rw [List.getElem_append_left hin, List.getElem_set_ne (by omega)]
    exact h2 i hi0 hin
  · have hik : i = k := by simp at hi'; omega
    subst hik
    rw [List.getElem_append_right (by omega), List.getElem_set_self]
    simpa using hr
theorem RowsK.ard {X X' : Nat → Prop} {w : World} {m n c g : Nat} {rows : List (List Value)} {l : List Tr} (h : RowsK X' w m n rows l) (hXX : ∀ b, X b → X' b) (hE : ERow w g rows) (hn : rows.length = n) (hc : n ≤ c ∧ c ≤ 9223372036854775807) (hg : ¬ X g) : ARdX X w m (some ⟨g, 0, none⟩) n c l := by
  refine ⟨⟨h.1, hc.1, hc.2⟩, fun i hi => ?_⟩
  have hi' : i < rows.length := by have := h.1; omega
  refine ⟨g, 0, rows[i], rfl, hg, hE.each _ (List.getElem_mem hi'), fun j hj => ?_, (h.2 i hi' hi).more fun b hb => .inl (hXX b hb)⟩
  rw [Nat.zero_add]
  exact hE.cell i hi' j hj
def OkP (ok : Bool) (A B : World → Prop) (w : World) : Prop := (ok = true → A w) ∧ (ok = false → B w)
theorem OkP.no {A B : World → Prop} {w : World} (h : B w) : OkP false A B w := ⟨fun h => (by cases h), fun _ => h⟩
theorem OkP.yes {A B : World → Prop} {w : World} (h : A w) : OkP true A B w := ⟨fun _ => h, fun h => (by cases h)⟩
theorem OkP.get {ok : Bool} {A B : World → Prop} {w : World} (h : OkP ok A B w) (k : ok = true) : A w := h.1 k
theorem OkP.bad {ok : Bool} {A B : World → Prop} {w : World} (h : OkP ok A B w) (k : ¬ ok = true) : B w := h.2 (by simpa using k)
set_option maxHeartbeats 16000000 in
theorem list_any (b n : Nat) (p1 p2 p3 p4 : Value) (M S : Nat → World → Prop) (Fl : World → Prop) (h0 : ∀ w, M 0 w → S 0 w)
    (HE : ∀ k w, 0 < k → k < n → M k w → Calls Tryz.prog 84 #[.pointer (some ⟨b, 0, none⟩), .string ⟨#[44]⟩] w fun e w' => ∃ ok : Bool, e = .returned (.bool ok) ∧ OkP ok (S k) Fl w')
    (HR : ∀ k w, k < n → S k w → Calls Tryz.prog 160 #[.int .i64 k, p1, p2, p3, p4] w fun e w' => ∃ ok : Bool, e = .returned (.bool ok) ∧ OkP ok (M (k + 1)) Fl w') (hn : n ≤ 1000) (w : World) (hM : M 0 w) :
    Calls Tryz.prog 129 #[.pointer (some ⟨b, 0, none⟩), .int .i64 n, .func (.func 160) #[] #[p1, p2, p3, p4]] w fun e w' => ∃ ok : Bool, e = .returned (.bool ok) ∧ OkP ok (M n) Fl w' := by
  have HE' := hid HE; have HR' := hid HR; have H0 := hid h0; have HM := hid hM
  clear HE HR h0 hM
  go_enter Tryz.func129, Tryz.ntmps129
  go_wp2_with fail
  go_loopw [9] (fun x wr => ∃ (k : Nat), k ≤ n ∧ x = .int .i64 k ∧ Hid (M k wr)) (fun x _ => n - (intOf x).toNat)
  case atStart => exact ⟨0, Nat.zero_le _, rfl, HM⟩
  case round =>
    clear HM
    obtain ⟨k, hk, rfl, HM⟩ := hrel
    by_cases hlt : k < n
    · have hlt2 : (k : Int) < (n : Int) := by omega
      by_cases hk0 : k = 0
      · subst hk0
        have HS := hid (H0.out _ HM.out)
        have HR0 : Hid (∀ w, S 0 w → Calls Tryz.prog 160 #[.int .i64 0, p1, p2, p3, p4] w fun e w' => ∃ ok : Bool, e = .returned (.bool ok) ∧ OkP ok (M 1) Fl w') := hid fun w hS => HR'.out 0 w hlt hS
        clear HM
        go_wp2_with (go_at_call 160; (with_reducible refine (HR0.out _ HS.out).mono ?_); rintro e w1 ⟨ok, rfl, ho⟩; have HO := hid ho; clear ho)
        all_goals first
          | (go_ret; exact ⟨false, rfl, OkP.no (HO.out.bad (by have h := ‹(!ok) = true›; simpa using h))⟩)
          | exact ⟨⟨1, by omega, by go_num, hid (HO.out.get (by have h := ‹(!ok) = false›; simpa using h))⟩, by simp [intOf]; omega⟩
      · have hk1 : (0 : Int) < (k : Int) := by omega
        have hk2 : 0 < k := by omega
        go_wp2_with (first
          | (go_at_call 84; (with_reducible refine (HE'.out k _ hk2 hlt HM.out).mono ?_); rintro e w1 ⟨ok, rfl, ho⟩; have HO := hid ho; clear ho HM)
          | (go_at_call 160; have hS2 := HO.out.get (by assumption); (with_reducible refine (HR'.out k _ hlt hS2).mono ?_); rintro e w2 ⟨ok2, rfl, ho⟩; have HO2 := hid ho; clear ho hS2))
        all_goals first
          | (go_ret; exact ⟨false, rfl, OkP.no (HO2.out.bad (by have h := ‹(!ok2) = true›; simpa using h))⟩)
          | (go_ret; exact ⟨false, rfl, OkP.no (HO.out.bad (by assumption))⟩)
          | exact ⟨⟨k + 1, by omega, by go_num, hid (HO2.out.get (by have h := ‹(!ok2) = false›; simpa using h))⟩, by simp [intOf]; omega⟩
    · obtain rfl : k = n := by omega
      go_wp2_with fail
      go_ret
      exact ⟨true, rfl, OkP.yes HM.out⟩
end Go.Proofs.YtjpkncgfpbhnaaaGreatDoor
namespace Go.Proofs.YtjpkncgfpbhnaaaGreatDoor
open Go.RowKit _root_.Nm Lx Px
theorem grown_newr {w0 w w' : World} {r : Option Nat} {g : Nat} (h : w0.grownBy w r) (h' : w.grownBy w' (some g)) (hg : w0.heap.size ≤ g) : w0.grownBy w' r :=
  ⟨h'.os.trans h.os, h'.tape.trans h.tape, h'.output.trans h.output, Nat.le_trans h.size h'.size, fun k hk hr => (h'.block k (Nat.lt_of_lt_of_le hk h.size) (fun e => by cases e; omega)).trans (h.block k hk hr)⟩
theorem Tb.keptb {w w' : World} {b : Nat} {p : Option Addr} {c : Nat} {L : List Tok} {nx : Nat} {at' er : Int} (h : Tb w) (hC : CurAt w b p c L nx at' er) (hg : w.grownBy w' (some b)) : Tb w' := fun j hj => hg.cell (h j hj) (by
  intro e
  have h0 := h 0 (by omega)
  have h1 := (box4 hC.box).1.1
  simp only [Option.some.injEq] at e
  rw [← e] at h1
  rw [h1] at h0
  cases h0)
theorem Tb.keptr {w w' : World} {g : Nat} {rows : List (List Value)} (h : Tb w) (hE : ERow w g rows) (hg : w.grownBy w' (some g)) : Tb w' := fun j hj => hg.cell (h j hj) (by
  intro e
  have h0 := h 0 (by omega)
  simp only [Option.some.injEq] at e
  rw [e, cell_of_row w g 0 _ _ _ hE.blk] at h0
  have hm : (Value.int .u8 (Lib.deBruijn64tab.getD 0 0 : Nat)) ∈ rows.flatten := by
    have := Array.mem_of_getElem? h0
    simpa using this
  obtain ⟨r, hr, hv⟩ := List.mem_flatten.1 hm
  exact (hE.noh r hr _ hv _).2 rfl)
def ExP (X : Nat → Prop) (w : World) (b : Nat) (p : Option Addr) (c : Nat) (L : List Tok) (at' er : Int) (m : Nat) (r : Rs Tr) (e : Ending) (w' : World) : Prop :=
  ∃ (y1 : Int) (y2 : ByteArray) (y3 : Bool) (s1 : Option Addr) (r1 t1 : Nat) (s2 : Option Addr) (r2 t2 : Nat) (s3 : Option Addr) (r3 t3 : Nat) (y7 : Int) (ok : Bool),
    e = .returned (.tuple #[.agg #[.int .i64 y1, .string y2, .bool y3, .slice s1 r1 t1, .slice s2 r2 t2, .slice s3 r3 t3, .int .i64 y7], .bool ok]) ∧ w.grownBy w' (some b) ∧
    OkP ok (fun w' => ∃ t j, r = .ok t j ∧ j < L.length ∧ ERdX X w' m [.int .i64 y1, .string y2, .bool y3, .slice s1 r1 t1, .slice s2 r2 t2, .slice s3 r3 t3, .int .i64 y7] t ∧ CurAt w' b p c L j at' er)
      (fun w' => ∃ j er' nx, r = .bad j er' ∧ j < L.length ∧ CurAt w' b p c L nx (tk L j).pos er') w'
def ArgC (rec : Nat → List Nat → Rs Tr) (dep : Int) (L : List Tok) (m : Nat) : Prop :=
  ∀ (w : World) (X : Nat → Prop) (b : Nat) (p : Option Addr) (c : Nat) (at' er : Int) (j : Nat) (xs : List Nat) (q : Option Addr) (n d : Nat), (∀ k, X k → k < w.heap.size) → X b → Tb w → (∀ k, X k → NU w k) → CurAt w b p c L j at' er → j < L.length → IRd w .i64 q n d xs → (∀ a, q = some a → a.block ≠ b) →
    Calls Tryz.prog 36 #[.agg #[.pointer (some ⟨b, 0, none⟩)], .int .i64 dep, .slice q n d] w (ExP X w b p c L at' er m (rec j xs))
def argsL (rec : Nat → List Nat → Rs Tr) (L : List Tok) : List Nat → Nat → Rs (List Tr)
  | [], i => .ok [] i
  | p :: ps, i => (rec i (soP p)).bind fun t j => (argsM rec L sComma ps j).map (t :: ·)
theorem argsL_cons (rec : Nat → List Nat → Rs Tr) (L : List Tok) (p : Nat) (ps : List Nat) (i : Nat) : argsL rec L (p :: ps) i = (rec i (soP p)).bind fun t j => (argsM rec L sComma ps j).map (t :: ·) := rfl
theorem argsM_open (rec : Nat → List Nat → Rs Tr) (L : List Tok) (s : ByteArray) {ps : List Nat} (hp : ps ≠ []) (i : Nat) : argsM rec L s ps i = (expM s L i).bind fun _ j => argsL rec L ps j := by
  cases ps with
  | nil => exact absurd rfl hp
  | cons p ps => rfl
theorem Rs.map_map {α β γ : Type} (r : Rs α) (f : α → β) (g : β → γ) : (r.map f).map g = r.map (fun a => g (f a)) := by cases r <;> rfl
theorem Rs.map_id' {α : Type} (r : Rs α) (f : α → α) (h : ∀ a, f a = a) : r.map f = r := by cases r with
  | ok a j => show Rs.ok (f a) j = _; rw [h]
  | bad j e => rfl
structure AgK where
  w0 : World
  X : Nat → Prop
  b : Nat
  p : Option Addr
  c : Nat
  L : List Tok
  at' : Int
  er : Int
  m : Nat
  ps : List Nat
  pp : Option Addr
  cp : Nat
  n3 : Nat
  n4 : Nat
  n5 : Nat
  g : Nat
  n8 : Nat
  dep : Int
  R : Rs (List Tr)
  rd : Nat → List Nat → Rs Tr
def AgK.X' (K : AgK) (k : Nat) : Prop := K.X k ∨ k = K.g
structure AgK.Ok (K : AgK) : Prop where
  hX : ∀ k, K.X k → k < K.w0.heap.size
  hb : K.X K.b
  h3 : K.w0.heap.size ≤ K.n3
  h4 : K.w0.heap.size ≤ K.n4
  h5 : K.w0.heap.size ≤ K.n5
  hg : K.w0.heap.size ≤ K.g
  h8 : K.w0.heap.size ≤ K.n8
  h3g : K.n3 ≠ K.g
  h4g : K.n4 ≠ K.g
  h5g : K.n5 ≠ K.g
  h8g : K.n8 ≠ K.g
  hpp : ∀ a, K.pp = some a → a.block ≠ K.b ∧ a.block ≠ K.g
  hl : LkOk K.L
  htk : ∀ q, K.p = some q → q.block ≠ K.g
structure AgK.Mem (K : AgK) (w : World) (k : Nat) (tl : List Tr) (j : Nat) : Prop where
  gr : K.w0.grownBy w (some K.b)
  cur : CurAt w K.b K.p K.c K.L j K.at' K.er
  jl : j < K.L.length
  b3 : w.heap[K.n3]? = some (.cells #[.pointer (some ⟨K.b, 0, none⟩)] 79 (0, 0))
  b4 : w.heap[K.n4]? = some (.cells #[.int .i64 K.dep] 3 (0, 0))
  b5 : w.heap[K.n5]? = some (.cells #[.slice K.pp K.ps.length K.cp] 47 (0, 0))
  b8 : w.heap[K.n8]? = some (.cells #[.slice (some ⟨K.g, 0, none⟩) K.ps.length K.ps.length] 36 (0, 0))
  rows : ∃ rows, ERow w K.g rows ∧ rows.length = K.ps.length ∧ RowsK K.X' w K.m k rows tl
  ird : IRd w .i64 K.pp K.ps.length K.cp K.ps
  nu : ∀ k, K.X k → NU w k
  tb : Tb w
theorem CurAt.nu {w : World} {b : Nat} {p : Option Addr} {c : Nat} {L : List Tok} {nx : Nat} {at' er : Int} (h : CurAt w b p c L nx at' er) : NU w b := NU.of h.box (fun v hv => by
  simp only [List.mem_toArray, List.mem_cons, List.not_mem_nil, or_false] at hv
  rcases hv with rfl | rfl | rfl | rfl
  · exact NoH.slice _ _ _
  · exact NoH.int _
  · exact NoH.int _
  · exact NoH.int _)
theorem AgK.Ok.b0 {K : AgK} (h : K.Ok) : K.b < K.w0.heap.size := h.hX _ h.hb
theorem AgK.Mem.step {K : AgK} (hK : K.Ok) {w w' : World} {k : Nat} {tl : List Tr} {j j' : Nat} (h : K.Mem w k tl j) (hg : w.grownBy w' (some K.b)) (hc : CurAt w' K.b K.p K.c K.L j' K.at' K.er) (hj : j' < K.L.length) : K.Mem w' k tl j' := by
  have hb := hK.b0
  obtain ⟨rows, e1, e2, e3⟩ := h.rows
  have k3 := hK.h3; have k4 := hK.h4; have k5 := hK.h5; have kg := hK.hg; have k8 := hK.h8
  have bk : ∀ {G : Nat} {o : Obj}, w.heap[G]? = some o → G ≠ K.b → w'.heap[G]? = some o := fun h1 h2 => (hg.block _ (lt_of_block h1) (by simpa using h2)).trans h1
  exact ⟨grown_trans h.gr hg, hc, hj, bk h.b3 (by omega), bk h.b4 (by omega), bk h.b5 (by omega), bk h.b8 (by omega),
    ⟨rows, e1.kept hg (by simp; omega), e2, e3.kept hg (fun g e => by cases e; exact .inl hK.hb)⟩, h.ird.kept hg (.inr fun a ha => by simpa using (hK.hpp a ha).1), fun x hx => by
      by_cases hxb : x = K.b
      · rw [hxb]; exact hc.nu
      · exact (h.nu x hx).kept (by have := hK.hX x hx; have := h.gr.size; omega) hg (by simpa using hxb), Tb.keptb h.tb h.cur hg⟩
theorem AgK.Mem.keep {K : AgK} (hK : K.Ok) {w w' : World} {k : Nat} {tl : List Tr} {j : Nat} (h : K.Mem w k tl j) (hg : w.grownBy w' none) : K.Mem w' k tl j :=
  h.step hK (grown_some hg _) (h.cur.keep hg) h.jl
theorem AgK.Mem.put {K : AgK} (hK : K.Ok) {w : World} {k : Nat} {tl : List Tr} {j : Nat} (h : K.Mem w k tl j) (hk : k < K.ps.length) {t : Tr} {y1 : Int} {y2 : ByteArray} {y3 : Bool} {s1 : Option Addr} {r1 t1 : Nat} {s2 : Option Addr} {r2 t2 : Nat} {s3 : Option Addr} {r3 t3 : Nat} {y7 : Int}
    (hE : ERdX K.X' w K.m [.int .i64 y1, .string y2, .bool y3, .slice s1 r1 t1, .slice s2 r2 t2, .slice s3 r3 t3, .int .i64 y7] t) :
    K.Mem (((((((w.setCell ⟨K.g, k * 7, none⟩ (.int .i64 y1)).setCell ⟨K.g, k * 7 + 1, none⟩ (.string y2)).setCell ⟨K.g, k * 7 + 2, none⟩ (.bool y3)).setCell ⟨K.g, k * 7 + 3, none⟩ (.slice s1 r1 t1)).setCell ⟨K.g, k * 7 + 4, none⟩ (.slice s2 r2 t2)).setCell ⟨K.g, k * 7 + 5, none⟩ (.slice s3 r3 t3)).setCell ⟨K.g, k * 7 + 6, none⟩ (.int .i64 y7)) (k + 1) (tl ++ [t]) j := by
  have gS := set7_at w K.g (k * 7) (.int .i64 y1) (.string y2) (.bool y3) (.slice s1 r1 t1) (.slice s2 r2 t2) (.slice s3 r3 t3) (.int .i64 y7)
  obtain ⟨rows, e1, e2, e3⟩ := h.rows
  have hp := e1.put k (by omega) (.int .i64 y1) (.string y2) (.bool y3) (.slice s1 r1 t1) (.slice s2 r2 t2) (.slice s3 r3 t3) (.int .i64 y7) ⟨NoH.int _, NoH.str _, NoH.bool _, NoH.slice _ _ _, NoH.slice _ _ _, NoH.slice _ _ _, NoH.int _⟩
  have hr := (e3.put (by omega) hE).kept gS (fun g e => by cases e; exact .inr rfl)
  have hb := hK.b0
  have kg := hK.hg
  have n3 := hK.h3g; have n4 := hK.h4g; have n5 := hK.h5g; have n8 := hK.h8g
  generalize ((((((w.setCell _ _).setCell _ _).setCell _ _).setCell _ _).setCell _ _).setCell _ _).setCell _ _ = w' at *
  have bk : ∀ {G : Nat} {o : Obj}, w.heap[G]? = some o → G ≠ K.g → w'.heap[G]? = some o := fun h1 h2 => (gS.block _ (lt_of_block h1) (by simpa using h2)).trans h1
  refine ⟨grown_newr h.gr gS hK.hg, ⟨bk h.cur.box (by omega), h.cur.rd.kept gS (.inr fun q hq => by simpa using hK.htk q hq), h.cur.ne⟩, h.jl, bk h.b3 n3, bk h.b4 n4, bk h.b5 n5, bk h.b8 n8, ⟨_, hp, by simpa using e2, hr⟩, h.ird.kept gS (.inr fun a ha => by simpa using (hK.hpp a ha).2), fun x hx => (h.nu x hx).kept (by have := hK.hX x hx; have := h.gr.size; omega) gS (by have := hK.hX x hx; simp; omega), h.tb.keptr e1 gS⟩
def AgK.M (K : AgK) (k : Nat) (w : World) : Prop := ∃ tl j, tl.length = k ∧ K.Mem w k tl j ∧ K.R = ((if k = 0 then argsL K.rd K.L K.ps j else argsM K.rd K.L sComma (K.ps.drop k) j).map (tl ++ ·))
def AgK.S (K : AgK) (k : Nat) (w : World) : Prop := ∃ tl j, tl.length = k ∧ K.Mem w k tl j ∧ K.R = ((argsL K.rd K.L (K.ps.drop k) j).map (tl ++ ·))
def AgK.Fl (K : AgK) (w : World) : Prop := ∃ j e nx, K.R = .bad j e ∧ j < K.L.length ∧ CurAt w K.b K.p K.c K.L nx (tk K.L j).pos e ∧ K.w0.grownBy w (some K.b) ∧ w.heap[K.n8]? = some (.cells #[.slice (some ⟨K.g, 0, none⟩) K.ps.length K.ps.length] 36 (0, 0))
theorem AgK.M0 (K : AgK) (w : World) (h : K.M 0 w) : K.S 0 w := by
  obtain ⟨tl, j, h1, h2, h3⟩ := h
  exact ⟨tl, j, h1, h2, by rw [h3, if_pos rfl]; rfl⟩
theorem AgK.M_next {K : AgK} {k j j' : Nat} {tl : List Tr} {t : Tr} (hk : k < K.ps.length) (hl : tl.length = k) (hR : K.R = ((argsL K.rd K.L (K.ps.drop k) j).map (tl ++ ·))) (hr : K.rd j (soP K.ps[k]) = .ok t j') {w : World} (hM : K.Mem w (k + 1) (tl ++ [t]) j') : K.M (k + 1) w := by
  refine ⟨tl ++ [t], j', by simp [hl], hM, ?_⟩
  rw [hR, List.drop_eq_getElem_cons hk, argsL_cons, hr]
  show ((argsM K.rd K.L sComma (K.ps.drop (k + 1)) j').map (t :: ·)).map (tl ++ ·) = _
  rw [Rs.map_map, if_neg (by omega)]
  congr 1
  funext a
  simp
theorem AgK.bad_next {K : AgK} {k j j' : Nat} {e : Int} {tl : List Tr} (hk : k < K.ps.length) (hR : K.R = ((argsL K.rd K.L (K.ps.drop k) j).map (tl ++ ·))) (hr : K.rd j (soP K.ps[k]) = .bad j' e) : K.R = .bad j' e := by
  rw [hR, List.drop_eq_getElem_cons hk, argsL_cons, hr]
  rfl
theorem AgK.comma {K : AgK} (hK : K.Ok) {k : Nat} {w : World} (hk0 : 0 < k) (hk : k < K.ps.length) (h : K.M k w) (hlen : K.L.length ≤ 20001) :
    Calls Tryz.prog 84 #[.pointer (some ⟨K.b, 0, none⟩), .string ⟨#[44]⟩] w fun e w' => ∃ ok : Bool, e = .returned (.bool ok) ∧ OkP ok (K.S k) K.Fl w' := by
  obtain ⟨tl, j, h1, h2, h3⟩ := h
  rw [if_neg (by omega), argsM_open _ _ _ (by simp; omega)] at h3
  have hj := h2.jl
  obtain ⟨f, hf⟩ : ∃ f : Bool, f = true ↔ (K.L[j]).d = ⟨#[44]⟩ := by
    by_cases hd : (K.L[j]).d = ⟨#[44]⟩
    · exact ⟨true, by simp [hd]⟩
    · exact ⟨false, by simp [hd]⟩
  refine (curExpect_any h2.cur hj (by omega) ⟨#[44]⟩ f hf).mono ?_
  rintro e w' ⟨rfl, hc, hg⟩
  refine ⟨f, rfl, ?_⟩
  unfold expM at h3
  rw [tk_at hj] at h3
  cases f with
  | true =>
    have hd := hf.1 rfl
    refine OkP.yes ⟨tl, j + 1, h1, h2.step hK hg hc (hK.hl.next hj (by rw [tk_at hj, hd]; simp)), ?_⟩
    rw [h3, if_pos (show K.L[j].d = sComma from hd)]
    rfl
  | false =>
    have hd : ¬ (K.L[j]).d = ⟨#[44]⟩ := fun h => by cases hf.2 h
    rw [if_neg (show ¬ K.L[j].d = sComma from hd)] at h3
    have b8 := (hg.block _ (lt_of_block h2.b8) (by have := hK.b0; have := hK.h8; simp; omega)).trans h2.b8
    exact OkP.no ⟨j, 5, j, h3, hj, by rw [tk_at hj]; exact hc, grown_trans h2.gr hg, b8⟩
theorem sortsOf_b (x : Nat) (w : World) (b : Nat) (hb : b < w.heap.size) : Calls Tryz.prog 161 #[.int .i64 x] w fun e w' => ∃ q n, e = .returned (.slice q n n) ∧ IRd w' .i64 q n n (soP x) ∧ (∀ a, q = some a → a.block ≠ b) ∧ w.grownBy w' none :=
  (sortsOf_any x w).mono fun e w' ⟨n, he, hi, hg⟩ => ⟨_, n, he, hi, fun a ha => by cases ha; simp only; omega, hg⟩
theorem row_free {w : World} {g : Nat} {rows : List (List Value)} (h : ERow w g rows) {k : Nat} (hk : k < rows.length) :
    (∃ v, w.cell? ⟨g, k * 7, none⟩ = some v) ∧ (∃ v, w.cell? ⟨g, k * 7 + 1, none⟩ = some v) ∧ (∃ v, w.cell? ⟨g, k * 7 + 2, none⟩ = some v) ∧ (∃ v, w.cell? ⟨g, k * 7 + 3, none⟩ = some v) ∧ (∃ v, w.cell? ⟨g, k * 7 + 4, none⟩ = some v) ∧ (∃ v, w.cell? ⟨g, k * 7 + 5, none⟩ = some v) ∧ (∃ v, w.cell? ⟨g, k * 7 + 6, none⟩ = some v) := by
  have h7 := h.each _ (List.getElem_mem hk)
  have c := fun j (hj : j < rows[k].length) => h.cell k hk j hj
  exact ⟨⟨_, c 0 (by omega)⟩, ⟨_, c 1 (by omega)⟩, ⟨_, c 2 (by omega)⟩, ⟨_, c 3 (by omega)⟩, ⟨_, c 4 (by omega)⟩, ⟨_, c 5 (by omega)⟩, ⟨_, c 6 (by omega)⟩⟩
theorem box1e {w : World} {G : Nat} {a : Value} {T : TypeId} (hb : w.heap[G]? = some (.cells #[a] T (0, 0))) : w.cell? ⟨G, 0, none⟩ = some a ∧ w.frozen? ⟨G, 0, none⟩ = false :=
  ⟨by have := cell_of_row w G 0 _ _ _ hb; simpa using this, frozen_of_row w G 0 _ _ hb⟩
theorem closure_end {K : AgK} (hK : K.Ok) {k j : Nat} {w1 w2 : World} {tl : List Tr} {ok : Bool} {y1 : Int} {y2 : ByteArray} {y3 : Bool} {s1 : Option Addr} {r1 t1 : Nat} {s2 : Option Addr} {r2 t2 : Nat} {s3 : Option Addr} {r3 t3 : Nat} {y7 : Int} (hk : k < K.ps.length) (hl : tl.length = k) (hM : K.Mem w1 k tl j) (hR : K.R = ((argsL K.rd K.L (K.ps.drop k) j).map (tl ++ ·))) (hg : w1.grownBy w2 (some K.b))
    (hO : OkP ok (fun w' => ∃ t j', K.rd j (soP K.ps[k]) = .ok t j' ∧ j' < K.L.length ∧ ERdX K.X' w' K.m [.int .i64 y1, .string y2, .bool y3, .slice s1 r1 t1, .slice s2 r2 t2, .slice s3 r3 t3, .int .i64 y7] t ∧ CurAt w' K.b K.p K.c K.L j' K.at' K.er)
      (fun w' => ∃ j' er' nx, K.rd j (soP K.ps[k]) = .bad j' er' ∧ j' < K.L.length ∧ CurAt w' K.b K.p K.c K.L nx (tk K.L j').pos er') w2) :
    OkP ok (K.M (k + 1)) K.Fl (((((((w2.setCell ⟨K.g, k * 7, none⟩ (.int .i64 y1)).setCell ⟨K.g, k * 7 + 1, none⟩ (.string y2)).setCell ⟨K.g, k * 7 + 2, none⟩ (.bool y3)).setCell ⟨K.g, k * 7 + 3, none⟩ (.slice s1 r1 t1)).setCell ⟨K.g, k * 7 + 4, none⟩ (.slice s2 r2 t2)).setCell ⟨K.g, k * 7 + 5, none⟩ (.slice s3 r3 t3)).setCell ⟨K.g, k * 7 + 6, none⟩ (.int .i64 y7)) := by
  cases ok with
  | true =>
    obtain ⟨t, j', h1, h2, h3, h4⟩ := hO.get rfl
    exact OkP.yes (AgK.M_next hk hl hR h1 ((hM.step hK hg h4 h2).put hK hk h3))
  | false =>
    obtain ⟨j', e, nx, h1, h2, h3⟩ := hO.bad (by simp)
    have gS := set7_at w2 K.g (k * 7) (.int .i64 y1) (.string y2) (.bool y3) (.slice s1 r1 t1) (.slice s2 r2 t2) (.slice s3 r3 t3) (.int .i64 y7)
    have hb := hK.b0
    have kg := hK.hg
    have k8 := hK.h8
    have n8 := hK.h8g
    have b8 := (hg.block _ (lt_of_block hM.b8) (by simp; omega)).trans hM.b8
    generalize ((((((w2.setCell _ _).setCell _ _).setCell _ _).setCell _ _).setCell _ _).setCell _ _).setCell _ _ = w' at *
    have bk : ∀ {G : Nat} {o : Obj}, w2.heap[G]? = some o → G ≠ K.g → w'.heap[G]? = some o := fun h1 h2 => (gS.block _ (lt_of_block h1) (by simpa using h2)).trans h1
    exact OkP.no ⟨j', e, nx, AgK.bad_next hk hR h1, h2, ⟨bk h3.box (by omega), h3.rd.kept gS (.inr fun q hq => by simpa using hK.htk q hq), h3.ne⟩, grown_newr (grown_trans hM.gr hg) gS hK.hg, bk b8 n8⟩
set_option maxHeartbeats 16000000 in
theorem closure_any {K : AgK} (hK : K.Ok) (hA : ArgC K.rd K.dep K.L K.m) {k : Nat} {w : World} (hk : k < K.ps.length) (hS : K.S k w) :
    Calls Tryz.prog 160 #[.int .i64 k, .pointer (some ⟨K.n3, 0, none⟩), .pointer (some ⟨K.n4, 0, none⟩), .pointer (some ⟨K.n5, 0, none⟩), .pointer (some ⟨K.n8, 0, none⟩)] w fun e w' => ∃ ok : Bool, e = .returned (.bool ok) ∧ OkP ok (K.M (k + 1)) K.Fl w' := by
  obtain ⟨tl, j, hl, hM, hR⟩ := hS
  obtain ⟨x3, -⟩ := box1e hM.b3
  obtain ⟨x4, -⟩ := box1e hM.b4
  obtain ⟨x5, -⟩ := box1e hM.b5
  obtain ⟨x8, -⟩ := box1e hM.b8
  obtain ⟨bp, op, hpp, xp⟩ := hM.ird.cel k hk
  obtain ⟨xx, hxx⟩ : ∃ xx, xx = K.ps[k] := ⟨_, rfl⟩
  rw [← hxx] at xp
  have HSO := hid fun W (hQ : w.grownBy W none) => sortsOf_b xx W K.b (by have := hM.cur.lt; have := hQ.size; omega)
  have HAR := hid fun W (hQ : w.grownBy W none) (q : Option Addr) (n : Nat) (hi : IRd W .i64 q n n (soP xx)) (hq : ∀ a, q = some a → a.block ≠ K.b) =>
    hA W K.X' K.b K.p K.c K.at' K.er j (soP xx) q n n (fun k hk => by
      have h1 := hM.gr.size; have h2 := hQ.size
      obtain ⟨rows, e1, _⟩ := hM.rows
      rcases hk with h | rfl
      · have := hK.hX _ h; omega
      · have := e1.lt; omega) (.inl hK.hb) (hM.keep hK hQ).tb (fun k hk => by
      obtain ⟨rows, e1, _⟩ := (hM.keep hK hQ).rows
      rcases hk with h | rfl
      · exact (hM.keep hK hQ).nu k h
      · exact e1.nu) (hM.cur.keep hQ) hM.jl hi hq
  have HM := hid fun W (hQ : w.grownBy W none) => hM.keep hK hQ
  have HKO := hid hK
  have HR := hid hR
  have HXX := hid hxx
  have HL := hid hl
  have hkn : (k : Int) < (K.ps.length : Int) := by omega
  have hQ := grown_refl w none
  have hb0 := hK.b0
  have n3b : K.n3 ≠ K.b := by have := hK.h3; omega
  have n4b : K.n4 ≠ K.b := by have := hK.h4; omega
  have n5b : K.n5 ≠ K.b := by have := hK.h5; omega
  have n8b : K.n8 ≠ K.b := by have := hK.h8; omega
  have gb : K.g ≠ K.b := by have := hK.hg; omega
  have bpb : bp ≠ K.b := (hK.hpp _ hpp).1
  have bpg : bp ≠ K.g := (hK.hpp _ hpp).2
  have n3g := hK.h3g
  have n4g := hK.h4g
  have n5g := hK.h5g
  have n8g := hK.h8g
  have HER := hid fun W (hQ : w.grownBy W none) W' (hg : W.grownBy W' (some K.b)) => (show ∃ rows, ERow W' K.g rows ∧ rows.length = K.ps.length from by
    obtain ⟨rows, e1, e2, _⟩ := (hM.keep hK hQ).rows
    exact ⟨rows, e1.kept hg (by simpa using gb), e2⟩)
  clear hM hR hA hK hxx
  rw [hpp] at x5
  clear hl
  go_enter Tryz.func160, Tryz.ntmps160
  go_upto_region 1 with fail
  go_region_held3 (fun w' => w'.cell? ⟨K.n3, 0, none⟩ = some (.pointer (some ⟨K.b, 0, none⟩)) ∧ w'.cell? ⟨K.n4, 0, none⟩ = some (.int .i64 K.dep) ∧ w'.cell? ⟨K.n5, 0, none⟩ = some (.slice (some ⟨bp, op, none⟩) K.ps.length K.cp) ∧ w'.cell? ⟨K.n8, 0, none⟩ = some (.slice (some ⟨K.g, 0, none⟩) K.ps.length K.ps.length) ∧ w'.cell? ⟨bp, op + k, none⟩ = some (.int .i64 xx)) ((try go_split_ands) <;> (repeat' apply And.intro) <;> (first | (with_reducible assumption) | (with_reducible refine (grown_drew _ none).cell ?_ (by simp); with_reducible assumption) | (with_reducible refine grown_trans ?_ (grown_drew _ none); with_reducible assumption) | (with_reducible refine (set7_at _ _ _ _ _ _ _ _ _ _).cell ?_ (by simp only [ne_eq, Option.some.injEq]; with_reducible assumption); with_reducible assumption))) (first
    | (go_at_call 161; (first | with_reducible refine (HSO.out _ hQ).mono ?_ | with_reducible refine (HSO.out _ (grown_trans hQ (grown_drew _ none))).mono ?_); rintro e w1 ⟨q, n, rfl, hi, hqb, hg⟩; have HI := hid hi; have HQB := hid hqb; clear hi hqb; (first | replace hQ := grown_trans hQ hg | replace hQ := grown_trans (grown_trans hQ (grown_drew _ none)) hg); replace x3 := hg.cell x3 (by simp); replace x4 := hg.cell x4 (by simp); replace x5 := hg.cell x5 (by simp); replace x8 := hg.cell x8 (by simp); replace xp := hg.cell xp (by simp); clear hg)
    | (go_at_call 36; (with_reducible refine (HAR.out _ hQ q n HI.out HQB.out).mono ?_); rintro e w2 ⟨y1, y2, y3, s1, r1, t1, s2, r2, t2, s3, r3, t3, y7, ok, rfl, hg, ho⟩; have HO := hid ho; clear ho; replace x3 := hg.cell x3 (by simpa using n3b); replace x4 := hg.cell x4 (by simpa using n4b); replace x5 := hg.cell x5 (by simpa using n5b); replace x8 := hg.cell x8 (by simpa using n8b); replace xp := hg.cell xp (by simpa using bpb); have HG2 := hid hg; have HM1 := hid (HM.out _ hQ); obtain ⟨rows, er, el⟩ := HER.out _ hQ _ hg; obtain ⟨⟨v0, u0⟩, ⟨v1, u1⟩, ⟨v2, u2⟩, ⟨v3, u3⟩, ⟨v4, u4⟩, ⟨v5, u5⟩, ⟨v6, u6⟩⟩ := row_free er (k := k) (by omega); have fr := er.free; have f0 := fr (k * 7); have f1 := fr (k * 7 + 1); have f2 := fr (k * 7 + 2); have f3 := fr (k * 7 + 3); have f4 := fr (k * 7 + 4); have f5 := fr (k * 7 + 5); have f6 := fr (k * 7 + 6); clear hg fr hQ))
  rw [HXX.out] at HO
  have HF := hid (closure_end HKO.out hk HL.out HM1.out HR.out HG2.out HO.out)
  clear f0 f1 f2 f3 f4 f5 f6 u0 u1 u2 u3 u4 u5 u6 x3 x4 x5 x8 xp er HO
  generalize ((((((w2.setCell _ _).setCell _ _).setCell _ _).setCell _ _).setCell _ _).setCell _ _).setCell _ _ = w3 at *
  go_wp2_with fail
  go_ret
  exact ⟨ok, rfl, HF.out⟩
theorem takeW_all {p : UInt8 → Bool} : ∀ {l : List UInt8}, (∀ c ∈ l, p c = true) → l.takeWhile p = l
 | [], _ => rfl
 | c :: l, h => by rw [List.takeWhile_cons, if_pos (h c (by simp)), takeW_all fun c hc => h c (by simp [hc])]
theorem rq_num {l : List UInt8} (h : Numl l) (h1 : l ≠ []) (h2 : l.length ≤ 1000) : rqE l = 0 := by
 have hne : ∀ c ∈ l, c ≠ 47 := fun c hc e => by
  have := h.1 c hc
  rw [e] at this
  exact absurd this.1 (by decide)
 have hB : cuB l = l := takeW_all fun c hc => by simpa using hne c hc
 have hF : cuF l = false := by
  unfold cuF
  rw [hB]
  simp
 have hh : l.head? ≠ some 45 := by
  intro e
  have hc : (45 : UInt8) ∈ l := List.mem_of_mem_head? e
  have := h.1 45 hc
  exact absurd this.1 (by decide)
 have hT : riT l = l := by unfold riT; rw [if_neg hh]
 have hD : rdE l = 0 := by
  unfold rdE
  rw [if_neg h1, if_neg (by omega), if_pos h]
 have hE : riE l = 0 := by
  unfold riE
  rw [hT, hD]
  simp [hh]
 unfold rqE
 rw [hB, hE, hF]
 simp
theorem IRd.keptb {w w' : World} {b : Nat} {p : Option Addr} {n c : Nat} {xs : List Nat} (h : IRd w .u16 p n c xs) (hb : NU w b) (hg : w.grownBy w' (some b)) : IRd w' .u16 p n c xs :=
 ((NU.ird (X := fun k => k = b) (fun k hk => by rw [hk]; exact hb) h).kept hg (fun g e => by cases e; rfl)).1
theorem IsV.keptb {w w' : World} {b : Nat} {g : Bool} {p q : Option Addr} {n c m d : Nat} {v : Rat} (h : IsV w g p n c q m d v) (hb : NU w b) (hg : w.grownBy w' (some b)) : IsV w' g p n c q m d v :=
 ⟨⟨IRd.keptb h.1.1 hb hg, h.1.2⟩, IRd.keptb h.2 hb hg⟩
theorem IsQ.keptb {w w' : World} {b : Nat} {g : Bool} {p q : Option Addr} {n c m d : Nat} {v : Rat} (h : IsQ w g p n c q m d v) (hb : NU w b) (hg : w.grownBy w' (some b)) : IsQ w' g p n c q m d v := by
 obtain ⟨N, D, ⟨⟨L1, a1, a2, a3⟩, a4⟩, ⟨L2, b1, b2, b3⟩, h3⟩ := h
 exact ⟨N, D, ⟨⟨L1, IRd.keptb a1 hb hg, a2, a3⟩, a4⟩, ⟨L2, IRd.keptb b1 hb hg, b2, b3⟩, h3⟩
theorem IsQ.zero (w : World) : IsQ w false none 0 0 none 0 0 0 :=
 ⟨0, 0, ⟨⟨[], IRd.nil _ _, by intro x hx; simp at hx, rfl⟩, rfl⟩, ⟨[], IRd.nil _ _, by intro x hx; simp at hx, rfl⟩, by simp⟩
theorem set3_all3 {w : World} {G : Nat} {x y z : Value} {T : TypeId} (hb : w.heap[G]? = some (.cells #[x, y, z] T (0, 0))) (a b c : Value) :
  (((w.setCell ⟨G, 0, none⟩ a).setCell ⟨G, 1, none⟩ b).setCell ⟨G, 2, none⟩ c).heap[G]? = some (.cells #[a, b, c] T (0, 0)) := by
 have h1 := heap_setCell_same w G 0 _ _ a hb
 have h2 := heap_setCell_same _ G 1 _ _ b h1
 have h3 := heap_setCell_same _ G 2 _ _ c h2
 simpa using h3
theorem noh3 {x : Bool} {p q : Option Addr} {n c m d : Nat} : ∀ v ∈ #[Value.bool x, .slice p n c, .slice q m d], NoH v := by
 intro v hv
 simp only [List.mem_toArray, List.mem_cons, List.not_mem_nil, or_false] at hv
 rcases hv with rfl | rfl | rfl
 ·exact NoH.bool _
 ·exact NoH.slice _ _ _
 ·exact NoH.slice _ _ _
theorem CurAt.keptr {w w' : World} {b : Nat} {p : Option Addr} {c : Nat} {L : List Tok} {nx : Nat} {at' er : Int} (h : CurAt w b p c L nx at' er) {r : Option Nat} (hg : w.grownBy w' r) (hb : some b ≠ r) (hp : ∀ q, p = some q → some q.block ≠ r) : CurAt w' b p c L nx at' er :=
 ⟨(hg.block b h.lt hb).trans h.box, h.rd.kept hg (.inr hp), h.ne⟩
theorem CurAt.plt {w : World} {b : Nat} {p : Option Addr} {c : Nat} {L : List Tok} {nx : Nat} {at' er : Int} (h : CurAt w b p c L nx at' er) (hj : nx < L.length) : ∀ q, p = some q → q.block < w.heap.size := fun q hq => by
 obtain ⟨g, o, e, hc, _⟩ := h.tok hj
 rw [hq] at e
 cases e
 have := World.block_lt_of_cell? w _ hc
 exact this
def NuP (B : Nat) (w : World) (b : Nat) (p : Option Addr) (c : Nat) (L : List Tok) (at' er : Int) (r : Rs Rat) (e : Ending) (w' : World) : Prop :=
 ∃ (g : Bool) (p1 : Option Addr) (n1 c1 : Nat) (p2 : Option Addr) (n2 c2 : Nat) (ok : Bool) (u : Rat), e = .returned (.tuple #[.agg #[.bool g, .slice p1 n1 c1, .slice p2 n2 c2], .bool ok]) ∧ w.grownBy w' (some b) ∧ (IsQ w' g p1 n1 c1 p2 n2 c2 u ∧ n1 ≤ B ∧ n2 ≤ B) ∧
  OkP ok (fun w' => ∃ v j, r = .ok v j ∧ j < L.length ∧ IsV w' g p1 n1 c1 p2 n2 c2 v ∧ CurAt w' b p c L j at' er)
   (fun w' => ∃ j er' nx, r = .bad j er' ∧ j < L.length ∧ CurAt w' b p c L nx (tk L j).pos er') w'
set_option maxHeartbeats 16000000 in
theorem pNum_any {L : List Tok} (hL : LkOk L) (w : World) (Tq : Tb w) (b : Nat) (p : Option Addr) (c : Nat) (at' er : Int) (j : Nat) (hC : CurAt w b p c L j at' er) (hj : j < L.length) :
  Calls Tryz.prog 162 #[.agg #[.pointer (some ⟨b, 0, none⟩)]] w (NuP 260 w b p c L at' er (numM rqV L j)) := by
 have hb0 := hC.lt
 have HPT := hid (hC.plt hj)
 have hlen := hL.len
 have hTk := hL.ok j hj
 obtain ⟨wB, hwB⟩ : ∃ wB, wB = (w.alloc (.cells #[.pointer (some ⟨b, 0, none⟩)] 79 (0, 0))).alloc (.cells #[.bool false, .slice none 0 0, .slice none 0 0] 35 (0, 0)) := ⟨_, rfl⟩
 have gB : w.grownBy wB none := by rw [hwB]; exact grown_trans (World.grownBy_alloc _ _ _) (World.grownBy_alloc _ _ _)
 have b1 : wB.heap[w.heap.size]? = some (.cells #[.pointer (some ⟨b, 0, none⟩)] 79 (0, 0)) := by rw [hwB]; exact keepB (blk0 w _) (World.grownBy_alloc _ _ _)
 have b2 : wB.heap[w.heap.size + 1]? = some (.cells #[.bool false, .slice none 0 0, .slice none 0 0] 35 (0, 0)) := by
  rw [hwB]
  have := blk0 (w.alloc (.cells #[.pointer (some ⟨b, 0, none⟩)] 79 (0, 0))) (.cells #[.bool false, .slice none 0 0, .slice none 0 0] 35 (0, 0))
  simpa using this
 have HT := hid (curTok_any (hC.keep gB) hj)
 have HC0 := hid (hC.keep gB)
 have HRF := hid fun W (hW : wB.grownBy W none) => curRefuse_any ((hC.keep gB).keep hW) hj
 have HNX := hid fun W (hW : wB.grownBy W none) => ((hC.keep gB).keep hW).nexti (j + 1) ((j : Int) + 1) (by omega)
 have HTQ := hid (Tq.keep gB)
 have HGB := hid gB
 have hsB : w.heap.size + 2 ≤ wB.heap.size := by rw [hwB]; simp
 have htk : tk L j = L[j] := tk_at hj
 obtain ⟨t, ht⟩ : ∃ t, t = L[j] := ⟨_, rfl⟩
 rw [← ht] at HT HRF hTk htk
 unfold Tok.row at HT
 have HTK := hid hTk
 have HTJ := hid htk
 have HLK := hid hL
 replace hwB := hid hwB
 obtain ⟨x1, -⟩ := box1e b1
 have HJ0 := hid hj
 clear hC hTk htk hL gB Tq ht
 by_cases hk : t.k = 2
 ·obtain ⟨hnl, hn1⟩ := HTK.out.nb hk
  have hne := HTK.out.ne (by omega)
  have hq0 := rq_num hnl hne hn1
  have HRD := hid fun W (hT : Tb W) => ratRead_any t.d t.d.data.toList rfl (by rw [Lib.size_eq]; omega) W hT
  have HJ1 : Hid (j + 1 < L.length) := hid (HLK.out.next hj (by rw [HTJ.out]; exact hne))
  have HQ0 := hid hq0
  have hk2 : ¬ ((t.k : Int) ≠ 2) := by omega
  have hk3 : (t.k : Int) = 2 := by omega
  clear hnl hn1 hne hq0
  rw [hk3] at HT
  go_enter Tryz.func162, Tryz.ntmps162
  go_upto_region 1 with fail
  rw [← hwB.out]
  go_upto_region 2 with (go_at_call 57; (with_reducible refine HT.out.mono ?_); rintro e w1 ⟨rfl, hg1⟩; have HG1 := hid hg1; replace x1 := hg1.cell x1 (by simp); clear hg1; obtain ⟨⟨i0, i1, i2, i3⟩, f0, f1, f2, f3⟩ := box4 (blk0 w1 (.cells #[.int .i64 0, .int .i64 0, .int .i64 0, .string ⟨#[]⟩] 76 (0, 0))))
  clear i0 i1 i2 i3 f0 f1 f2 f3
  have gT := World.grownBy_alloc w1 (.cells #[.int .i64 2, .int .i64 t.pos, .int .i64 t.en, .string t.d] 76 (0, 0)) none
  have bT := blk0 w1 (.cells #[.int .i64 2, .int .i64 t.pos, .int .i64 t.en, .string t.d] 76 (0, 0))
  have hKT := HG1.out.size
  have HG2 := hid (grown_trans HG1.out gT)
  replace x1 := gT.cell x1 (by simp)
  clear gT HG1
  generalize w1.heap.size = KT at *
  generalize (w1.alloc _) = w2 at *
  obtain ⟨⟨t0, t1, t2, t3⟩, -⟩ := box4 bT
  go_upto_region 4 with fail
  obtain ⟨⟨k0, k1, k2, k3⟩, f0, f1, f2, f3⟩ := box4 (HC0.out.keep HG2.out).box
  go_upto_region 5 with fail
  have HC3 := hid (HNX.out _ HG2.out)
  have gS := grown_setCell w2 ⟨b, 1, none⟩ (.int .i64 ((j : Int) + 1))
  clear k0 k1 k2 k3 f0 f1 f2 f3
  have HW3 := hid (grown_trans (grown_some (grown_trans HGB.out HG2.out) (some b)) gS)
  have hs3 := gS.size
  have hs2 := HG2.out.size
  have B2 := hid ((gS.block _ (lt_of_block (keepB b2 HG2.out)) (by simp; omega)).trans (keepB b2 HG2.out))
  replace x1 := gS.cell x1 (by simp; omega)
  replace t3 := gS.cell t3 (by simp; omega)
  have HTQ3 := hid (Tb.keptb (HTQ.out.keep HG2.out) (HC0.out.keep HG2.out) gS)
  clear gS t0 t1 t2 bT
  generalize (w2.setCell _ _) = w3 at *
  have HRQ := hid (HRD.out w3 HTQ3.out)
  go_upto_region 6 with (go_at_call 132; (with_reducible refine HRQ.out.mono ?_); rintro e w4 hq; have hq2 := hq.2 HQ0.out; clear hq; obtain ⟨g, p1, n1, c1, p2, n2, c2, rfl, hV, hn1, hn2, hg⟩ := hq2; have HV := hid hV; have HG4 := hid hg; replace x1 := hg.cell x1 (by simp); clear hV hg t3; obtain ⟨i0, i1, i2, f0, f1, f2⟩ := ratbox_facts (blk0 w4 (.cells #[.bool false, .slice none 0 0, .slice none 0 0] 35 (0, 0))))
  clear i0 i1 i2 f0 f1 f2
  have gR := World.grownBy_alloc w4 (.cells #[.bool g, .slice p1 n1 c1, .slice p2 n2 c2] 35 (0, 0)) none
  have B5 := blk0 w4 (.cells #[.bool g, .slice p1 n1 c1, .slice p2 n2 c2] 35 (0, 0))
  have hs4 := HG4.out.size
  have HG5 := hid (grown_trans HG4.out gR)
  replace HV := hid (HV.out.keep gR)
  clear gR HG4
  generalize w4.heap.size = K5 at *
  generalize (w4.alloc _) = w5 at *
  have hgd := grown_drew w5 none
  have BD := keepB (keepB B2.out HG5.out) hgd
  obtain ⟨z0, z1, z2, y0, y1, y2⟩ := ratbox_facts BD
  obtain ⟨u0, u1, u2, -, -, -⟩ := ratbox_facts (keepB B5 hgd)
  obtain ⟨v0, v1, v2, -, -, -⟩ := ratbox_facts B5
  obtain ⟨zz0, zz1, zz2, yy0, yy1, yy2⟩ := ratbox_facts (keepB B2.out HG5.out)
  refine wp_region_noPanic ?_
  refine wp_region_held_drew (S := (fun w' => w'.cell? ⟨K5, 0, none⟩ = some (.bool g) ∧ w'.cell? ⟨K5, 1, none⟩ = some (.slice p1 n1 c1) ∧ w'.cell? ⟨K5, 2, none⟩ = some (.slice p2 n2 c2))) (by kernel_rfl) ?_ (fun hHeld => ?_)
  ·((try go_split_ands) <;> (repeat' apply And.intro) <;> (first | (with_reducible assumption) | (with_reducible refine (grown_drew _ none).cell ?_ (by simp); with_reducible assumption) | (with_reducible refine grown_trans ?_ (grown_drew _ none); with_reducible assumption)))
  refine tkH (v := ?_) 0 rfl hHeld ?_ ?_; rotate_left 1
  ·intro w hSw; (try dsimp only at hSw); go_split_ands; go_simp; (try (with_reducible rfl))
  (try simp only [Act.put, pu1, pu2, pu3])
  refine tkH (v := ?_) 1 rfl hHeld ?_ ?_; rotate_left 1
  ·intro w hSw; (try dsimp only at hSw); go_split_ands; go_simp; (try (with_reducible rfl))
  (try simp only [Act.put, pu1, pu2, pu3])
  refine tkH (v := ?_) 2 rfl hHeld ?_ ?_; rotate_left 1
  ·intro w hSw; (try dsimp only at hSw); go_split_ands; go_simp; (try (with_reducible rfl))
  (try simp only [Act.put, pu1, pu2, pu3])
  refine tkH (v := ?_) 3 rfl hHeld ?_ ?_; rotate_left 1
  ·intro w hSw; (try dsimp only at hSw); go_split_ands; go_simp; (try (with_reducible rfl))
  (try simp only [Act.put, pu1, pu2, pu3])
  refine wpAnyH_take (i := 4) (oi := Oper.mk _ _ _ _ _ _) (v := undef) rfl (by kernel_rfl) (by kernel_rfl) (by kernel_rfl) (fun _ _ _ h => h) (Or.inr ⟨by kernel_rfl, rfl⟩) hHeld ?_
  (try simp only [Act.put, pu1, pu2, pu3])
  refine wpAnyH_take (i := 5) (oi := Oper.mk _ _ _ _ _ _) (v := undef) rfl (by kernel_rfl) (by kernel_rfl) (by kernel_rfl) (fun _ _ _ h => h) (Or.inr ⟨by kernel_rfl, rfl⟩) hHeld ?_
  (try simp only [Act.put, pu1, pu2, pu3])
  refine wpAnyH_take (i := 6) (oi := Oper.mk _ _ _ _ _ _) (v := undef) rfl (by kernel_rfl) (by kernel_rfl) (by kernel_rfl) (fun _ _ _ h => h) (Or.inr ⟨by kernel_rfl, rfl⟩) hHeld ?_
  (try simp only [Act.put, pu1, pu2, pu3])
  refine wpAnyH_take (i := 7) (oi := Oper.mk _ _ _ _ _ _) (v := undef) rfl (by kernel_rfl) (by kernel_rfl) (by kernel_rfl) (fun _ _ _ h => h) (Or.inr ⟨by kernel_rfl, rfl⟩) hHeld ?_
  (try simp only [Act.put, pu1, pu2, pu3])
  refine wpAnyH_take (i := 8) (oi := Oper.mk _ _ _ _ _ _) (v := undef) rfl (by kernel_rfl) (by kernel_rfl) (by kernel_rfl) (fun _ _ _ h => h) (Or.inr ⟨by kernel_rfl, rfl⟩) hHeld ?_
  (try simp only [Act.put, pu1, pu2, pu3])
  refine wpAnyH_take (i := 9) (oi := Oper.mk _ _ _ _ _ _) (v := undef) rfl (by kernel_rfl) (by kernel_rfl) (by kernel_rfl) (fun _ _ _ h => h) (Or.inr ⟨by kernel_rfl, rfl⟩) hHeld ?_
  (try simp only [Act.put, pu1, pu2, pu3])
  refine tkH (v := ?_) 10 rfl hHeld ?_ ?_; rotate_left 1
  ·intro w hSw; (try dsimp only at hSw); go_split_ands; go_simp; (try (with_reducible rfl))
  (try simp only [Act.put, pu1, pu2, pu3])
  refine wpAnyH_ready (rs := [11]) (by kernel_rfl) (by simp) ?_
  refine aR1 rfl fun K hK => ?_
  (try rw [if_pos (by kernel_rfl)])
  go_simp
  refine hK.out _ _ ?_ (fun hNew => ?_)
  ·exact ⟨(set3_grown _ _ _ _ _).cell u0 (by simp; omega), (set3_grown _ _ _ _ _).cell u1 (by simp; omega), (set3_grown _ _ _ _ _).cell u2 (by simp; omega)⟩
  clear hK K hHeld
  have hHeld := hNew
  clear hNew
  (try simp only [Act.put, pu1, pu2, pu3])
  refine tkH (v := ?_) 12 rfl hHeld ?_ ?_; rotate_left 1
  ·intro w hSw; (try dsimp only at hSw); go_split_ands; go_simp; (try (with_reducible rfl))
  (try simp only [Act.put, pu1, pu2, pu3])
  refine wpAnyH_done (by kernel_rfl) ?_ _
  refine NoPanic.normal ?_
  have hb6 := set3_all3 (keepB B2.out HG5.out) (.bool g) (.slice p1 n1 c1) (.slice p2 n2 c2)
  have gS := set3_grown w5 (w.heap.size + 1) (.bool g) (.slice p1 n1 c1) (.slice p2 n2 c2)
  have HV6 := hid (HV.out.keptb (NU.of (keepB B2.out HG5.out) noh3) gS)
  have HC6 := hid ((HC3.out.keep HG5.out).keptr gS (by simp; omega) (fun q hq => by have := HPT.out q hq; simp; omega))
  have HG6 := hid (grown_newr (grown_trans HW3.out (grown_some HG5.out _)) gS (by omega))
  obtain ⟨l0, l1, l2, -, -, -⟩ := ratbox_facts hb6
  clear z0 z1 z2 y0 y1 y2 zz0 zz1 zz2 yy0 yy1 yy2 u0 u1 u2 v0 v1 v2 hHeld BD B5 gS hb6 hgd x1
  generalize ((w5.setCell _ _).setCell _ _).setCell _ _ = w6 at *
  go_wp2_with fail
  exact bodyPost_ret (v := .tuple #[.agg #[.bool g, .slice p1 n1 c1, .slice p2 n2 c2], .bool true]) (by simp [results, Tryz.results162, go_sem, l0, l1, l2]) rfl
   ⟨g, p1, n1, c1, p2, n2, c2, true, _, rfl, grown_trans HG6.out (grown_drew _ _), ⟨(HV6.out.keep (grown_drew _ none)).q, hn1, hn2⟩, OkP.yes ⟨_, j + 1, by unfold numM; rw [HTJ.out, if_pos hk], HJ1.out, HV6.out.keep (grown_drew _ none), HC6.out.keep (grown_drew _ none)⟩⟩
 ·have hk2 : ¬ ((t.k : Int) = 2) := by omega
  go_enter Tryz.func162, Tryz.ntmps162
  go_upto_region 1 with fail
  rw [← hwB.out]
  go_upto_region 2 with (go_at_call 57; (with_reducible refine HT.out.mono ?_); rintro e w1 ⟨rfl, hg1⟩; have HG1 := hid hg1; replace x1 := hg1.cell x1 (by simp); clear hg1; obtain ⟨⟨i0, i1, i2, i3⟩, f0, f1, f2, f3⟩ := box4 (blk0 w1 (.cells #[.int .i64 0, .int .i64 0, .int .i64 0, .string ⟨#[]⟩] 76 (0, 0))))
  clear i0 i1 i2 i3 f0 f1 f2 f3
  have gT := World.grownBy_alloc w1 (.cells #[.int .i64 t.k, .int .i64 t.pos, .int .i64 t.en, .string t.d] 76 (0, 0)) none
  have bT := blk0 w1 (.cells #[.int .i64 t.k, .int .i64 t.pos, .int .i64 t.en, .string t.d] 76 (0, 0))
  have HG2 := hid (grown_trans HG1.out gT)
  replace x1 := gT.cell x1 (by simp)
  clear gT HG1
  generalize w1.heap.size = KT at *
  generalize (w1.alloc _) = w2 at *
  obtain ⟨⟨t0, t1, t2, t3⟩, -⟩ := box4 bT
  go_upto_region 3 with fail
  have HRF2 := hid (HRF.out w2 HG2.out)
  have hs2 := HG2.out.size
  have B2 := hid (keepB b2 HG2.out)
  clear t0 t1 t2 t3 bT
  go_wp2_with (go_at_call 69; (with_reducible refine HRF2.out.mono ?_); rintro e w3 ⟨rfl, hc, hg⟩; have HC3 := hid hc; have HG3 := hid hg; clear hc; obtain ⟨l0, l1, l2, f0, f1, f2⟩ := ratbox_facts ((hg.block _ (lt_of_block B2.out) (by simp; omega)).trans B2.out); clear hg)
  have B3 := (HG3.out.block _ (lt_of_block B2.out) (by simp; omega)).trans B2.out
  have hb6 := set3_all3 B3 (.bool false) (.slice none 0 0) (.slice none 0 0)
  have gS := set3_grown w3 (w.heap.size + 1) (.bool false) (.slice none 0 0) (.slice none 0 0)
  have HC6 := hid (HC3.out.keptr gS (by simp; omega) (fun q hq => by have := HPT.out q hq; simp; omega))
  have HG6 := hid (grown_newr (grown_trans (grown_some (grown_trans HGB.out HG2.out) (some b)) HG3.out) gS (by omega))
  clear l0 l1 l2 f0 f1 f2
  obtain ⟨l0, l1, l2, -, -, -⟩ := ratbox_facts hb6
  clear gS hb6 B3 x1
  generalize ((w3.setCell _ _).setCell _ _).setCell _ _ = w6 at *
  exact bodyPost_ret (v := .tuple #[.agg #[.bool false, .slice none 0 0, .slice none 0 0], .bool false]) (by simp [results, Tryz.results162, go_sem, l0, l1, l2]) rfl
   ⟨false, none, 0, 0, none, 0, 0, false, 0, rfl, HG6.out, ⟨IsQ.zero _, by omega, by omega⟩, OkP.no ⟨j, 5, j, by unfold numM; rw [HTJ.out, if_neg hk], HJ0.out, by rw [HTJ.out]; exact HC6.out⟩⟩
def quoM (V : List UInt8 → Rat) (L : List Tok) (v : Rat) (i : Nat) : Rs Rat := (numM V L i).bind fun u j2 => if u = 0 then .bad i 3 else .ok (v / u) j2
theorem tok_fld1 (a x y z : Value) : ∀ w, (Instr.field 76 (.agg #[a, x, y, z]) 1).run Tryz.prog w = .ok x w := fun w => by kernel_rfl
set_option maxHeartbeats 16000000 in
theorem pQuo_any {L : List Tok} (hL : LkOk L) (w : World) (Tq : Tb w) (b : Nat) (p : Option Addr) (c : Nat) (at' er : Int) (j : Nat) (hC : CurAt w b p c L j at' er) (hj : j < L.length) (g0 : Bool) (p0 : Option Addr) (n0 c0 : Nat) (q0 : Option Addr) (m0 d0 : Nat) (v0 : Rat) (hV : IsV w g0 p0 n0 c0 q0 m0 d0 v0) (hn0 : n0 ≤ 260) (hm0 : m0 ≤ 260) :
  Calls Tryz.prog 163 #[.agg #[.pointer (some ⟨b, 0, none⟩)], .agg #[.bool g0, .slice p0 n0 c0, .slice q0 m0 d0]] w (NuP 1100 w b p c L at' er (quoM rqV L v0 j)) := by
 have hb0 := hC.lt
 have HPT := hid (hC.plt hj)
 obtain ⟨wB, hwB⟩ : ∃ wB, wB = ((w.alloc (.cells #[.pointer (some ⟨b, 0, none⟩)] 79 (0, 0))).alloc (.cells #[.bool g0, .slice p0 n0 c0, .slice q0 m0 d0] 35 (0, 0))).alloc (.cells #[.bool false, .slice none 0 0, .slice none 0 0] 35 (0, 0)) := ⟨_, rfl⟩
 have gB : w.grownBy wB none := by rw [hwB]; exact grown_trans (World.grownBy_alloc _ _ _) (grown_trans (World.grownBy_alloc _ _ _) (World.grownBy_alloc _ _ _))
 have b1 : wB.heap[w.heap.size]? = some (.cells #[.pointer (some ⟨b, 0, none⟩)] 79 (0, 0)) := by rw [hwB]; exact keepB (keepB (blk0 w _) (World.grownBy_alloc _ _ _)) (World.grownBy_alloc _ _ _)
 have b2 : wB.heap[w.heap.size + 1]? = some (.cells #[.bool g0, .slice p0 n0 c0, .slice q0 m0 d0] 35 (0, 0)) := by
  rw [hwB]
  have := keepB (blk0 (w.alloc (.cells #[.pointer (some ⟨b, 0, none⟩)] 79 (0, 0))) (.cells #[.bool g0, .slice p0 n0 c0, .slice q0 m0 d0] 35 (0, 0))) (World.grownBy_alloc _ (.cells #[.bool false, .slice none 0 0, .slice none 0 0] 35 (0, 0)) none)
  simpa using this
 have b3 : wB.heap[w.heap.size + 2]? = some (.cells #[.bool false, .slice none 0 0, .slice none 0 0] 35 (0, 0)) := by
  rw [hwB]
  have := blk0 ((w.alloc (.cells #[.pointer (some ⟨b, 0, none⟩)] 79 (0, 0))).alloc (.cells #[.bool g0, .slice p0 n0 c0, .slice q0 m0 d0] 35 (0, 0))) (.cells #[.bool false, .slice none 0 0, .slice none 0 0] 35 (0, 0))
  simpa using this
 have hsB : w.heap.size + 3 ≤ wB.heap.size := by rw [hwB]; simp
 have HT := hid (curTok_any (hC.keep gB) hj)
 have HC0 := hid (hC.keep gB)
 have HNM := hid fun W (hW : wB.grownBy W none) => pNum_any hL W ((Tq.keep gB).keep hW) b p c at' er j ((hC.keep gB).keep hW) hj
 have HTQ := hid (Tq.keep gB)
 have HGB := hid gB
 have HV0 := hid (hV.keep gB)
 have htk : tk L j = L[j] := tk_at hj
 obtain ⟨t, ht⟩ : ∃ t, t = L[j] := ⟨_, rfl⟩
 rw [← ht] at HT htk
 unfold Tok.row at HT
 have HTJ := hid htk
 have hq1 := tok_fld1 (.int .i64 t.k) (.int .i64 t.pos) (.int .i64 t.en) (.string t.d)
 replace hwB := hid hwB
 obtain ⟨x1, -⟩ := box1e b1
 have HJ0 := hid hj
 have HBB := hid (And.intro b1 (And.intro b2 b3))
 clear hC htk hL gB Tq ht hV b1 b2 b3
 go_enter Tryz.func163, Tryz.ntmps163
 go_upto_region 1 with fail
 rw [← hwB.out]
 go_upto_region 2 with (go_at_call 57; (with_reducible refine HT.out.mono ?_); rintro e w1 ⟨rfl, hg1⟩; have HG1 := hid hg1; replace x1 := hg1.cell x1 (by simp); clear hg1)
 have HN1 := hid (HNM.out w1 HG1.out)
 go_upto_region 3 with (go_at_call 162; (with_reducible refine HN1.out.mono ?_); rintro e w3 ⟨g, p1, n1, c1, p2, n2, c2, ok, uu, rfl, hg, ⟨hQ, hn1, hn2⟩, hO⟩; have HG3 := hid hg; have HO := hid hO; clear hQ hO hg x1; obtain ⟨i0, i1, i2, f0, f1, f2⟩ := ratbox_facts (blk0 w3 (.cells #[.bool false, .slice none 0 0, .slice none 0 0] 35 (0, 0))))
 clear i0 i1 i2 f0 f1 f2
 have gR := World.grownBy_alloc w3 (.cells #[.bool g, .slice p1 n1 c1, .slice p2 n2 c2] 35 (0, 0)) none
 have B7 := hid (blk0 w3 (.cells #[.bool g, .slice p1 n1 c1, .slice p2 n2 c2] 35 (0, 0)))
 have hs1 := HG1.out.size
 have hs3 := HG3.out.size
 have HW4 := hid (grown_trans (grown_trans (grown_some (grown_trans HGB.out HG1.out) (some b)) HG3.out) (grown_some gR (some b)))
 have bk : ∀ {G : Nat} {o : Obj}, wB.heap[G]? = some o → G ≠ b → (w3.alloc (.cells #[.bool g, .slice p1 n1 c1, .slice p2 n2 c2] 35 (0, 0))).heap[G]? = some o := fun h1 h2 => keepB ((HG3.out.block _ (lt_of_block (keepB h1 HG1.out)) (by simpa using h2)).trans (keepB h1 HG1.out)) gR
 have B1 := hid (bk HBB.out.1 (by omega))
 have B2 := hid (bk HBB.out.2.1 (by omega))
 have B3 := hid (bk HBB.out.2.2 (by omega))
 have HC1 := HC0.out.keep HG1.out
 have HV4 := hid (((HV0.out.keep HG1.out).keptb HC1.nu HG3.out).keep gR)
 have HT4 := hid ((Tb.keptb (HTQ.out.keep HG1.out) HC1 HG3.out).keep gR)
 have HGR := hid gR
 have hsz4 := gR.size
 have hk7 : w.heap.size + 3 ≤ w3.heap.size := by omega
 clear gR bk HC1
 generalize w3.heap.size = K7 at *
 generalize hw4 : (w3.alloc _) = w4 at *
 clear hw4
 cases ok with
 | false =>
  obtain ⟨j', e', nx, h1, h2, h3⟩ := HO.out.bad (by simp)
  have HC4 := hid (h3.keep HGR.out)
  have HR1 := hid h1
  clear h1 h3
  obtain ⟨z0, z1, z2, y0, y1, y2⟩ := ratbox_facts B3.out
  go_wp2_with fail
  have hb6 := set3_all3 B3.out (.bool false) (.slice none 0 0) (.slice none 0 0)
  have gS := set3_grown w4 (w.heap.size + 2) (.bool false) (.slice none 0 0) (.slice none 0 0)
  have HC6 := hid (HC4.out.keptr gS (by simp; omega) (fun q hq => by have := HPT.out q hq; simp; omega))
  have HG6 := hid (grown_newr HW4.out gS (by omega))
  obtain ⟨l0, l1, l2, -, -, -⟩ := ratbox_facts hb6
  clear gS hb6 z0 z1 z2 y0 y1 y2
  generalize ((w4.setCell _ _).setCell _ _).setCell _ _ = w6 at *
  exact bodyPost_ret (v := .tuple #[.agg #[.bool false, .slice none 0 0, .slice none 0 0], .bool false]) (by simp [results, Tryz.results163, go_sem, l0, l1, l2]) rfl
   ⟨false, none, 0, 0, none, 0, 0, false, 0, rfl, HG6.out, ⟨IsQ.zero _, by omega, by omega⟩, OkP.no ⟨j', e', nx, by unfold quoM; rw [HR1.out]; rfl, h2, HC6.out⟩⟩
 | true =>
  obtain ⟨u, j2, h1, h2, h3, h4⟩ := HO.out.get rfl
  have HC4 := hid (h4.keep HGR.out)
  have HR1 := hid h1
  have HU4 := hid (h3.keep HGR.out)
  clear h1 h3 h4
  obtain ⟨a0, a1, a2, -, -, -⟩ := ratbox_facts B2.out
  obtain ⟨e0, -⟩ := box1e B1.out
  obtain ⟨s0, s1, s2, -, -, -⟩ := ratbox_facts B7.out
  by_cases hu : u = 0
  ·have HDE := hid (ratDiv_e 260 HV4.out.q HU4.out.q hu hn0 hm0 hn1 hn2 (by omega))
   go_upto_region 6 with (go_at_call 202; (with_reducible refine HDE.out.mono ?_); rintro e w5 ⟨rfl, hg⟩; have HG5 := hid hg; replace e0 := hg.cell e0 (by simp); clear hg a0 a1 a2 s0 s1 s2; obtain ⟨i0, i1, i2, f0, f1, f2⟩ := ratbox_facts (blk0 w5 (.cells #[.bool false, .slice none 0 0, .slice none 0 0] 35 (0, 0))))
   clear i0 i1 i2 f0 f1 f2
   have gR := World.grownBy_alloc w5 (.cells #[.bool false, .slice none 0 0, .slice none 0 0] 35 (0, 0)) none
   have B9 := blk0 w5 (.cells #[.bool false, .slice none 0 0, .slice none 0 0] 35 (0, 0))
   have hs5 := HG5.out.size
   have HG6 := hid (grown_trans HG5.out gR)
   replace e0 := gR.cell e0 (by simp)
   clear gR HG5
   generalize w5.heap.size = K9 at *
   generalize (w5.alloc _) = w6 at *
   have hgd := grown_drew w6 none
   have v3 := e0
   replace e0 := hgd.cell e0 (by simp)
   obtain ⟨u0, u1, u2, -, -, -⟩ := ratbox_facts (keepB B9 hgd)
   obtain ⟨v0, v1, v2, -, -, -⟩ := ratbox_facts B9
   refine wp_region_noPanic ?_
   refine wp_region_held_drew (S := (fun w' => w'.cell? ⟨w.heap.size, 0, none⟩ = some (.pointer (some ⟨b, 0, none⟩)) ∧ w'.cell? ⟨K9, 0, none⟩ = some (.bool false) ∧ w'.cell? ⟨K9, 1, none⟩ = some (.slice none 0 0) ∧ w'.cell? ⟨K9, 2, none⟩ = some (.slice none 0 0))) (by kernel_rfl) ?_ (fun hHeld => ?_)
   ·((try go_split_ands) <;> (repeat' apply And.intro) <;> (first | (with_reducible assumption) | (with_reducible refine (grown_drew _ none).cell ?_ (by simp); with_reducible assumption) | (with_reducible refine grown_trans ?_ (grown_drew _ none); with_reducible assumption)))
   refine tkH (v := ?_) 0 rfl hHeld ?_ ?_; rotate_left 1
   ·intro w hSw; (try dsimp only at hSw); go_split_ands; go_simp; (try (with_reducible rfl))
   (try simp only [Act.put, pu1, pu2, pu3])
   refine tkH (v := ?_) 1 rfl hHeld ?_ ?_; rotate_left 1
   ·intro w hSw; (try dsimp only at hSw); go_split_ands; go_simp; (try (with_reducible rfl))
   (try simp only [Act.put, pu1, pu2, pu3])
   refine tkH (v := ?_) 2 rfl hHeld ?_ ?_; rotate_left 1
   ·intro w hSw; (try dsimp only at hSw); go_split_ands; go_simp; (try (with_reducible rfl))
   (try simp only [Act.put, pu1, pu2, pu3])
   refine tkH (v := ?_) 3 rfl hHeld ?_ ?_; rotate_left 1
   ·intro w hSw; (try dsimp only at hSw); go_split_ands; go_simp; (try (with_reducible rfl))
   (try simp only [Act.put, pu1, pu2, pu3])
   refine tkH (v := ?_) 4 rfl hHeld ?_ ?_; rotate_left 1
   ·intro w hSw; (try dsimp only at hSw); go_split_ands; go_simp; (try (with_reducible rfl))
   (try simp only [Act.put, pu1, pu2, pu3])
   refine tkH (v := ?_) 5 rfl hHeld ?_ ?_; rotate_left 1
   ·intro w hSw; (try dsimp only at hSw); go_split_ands; go_simp; (try (with_reducible rfl))
   (try simp only [Act.put, pu1, pu2, pu3])
   refine tkH (v := ?_) 6 rfl hHeld ?_ ?_; rotate_left 1
   ·intro w hSw; (try dsimp only at hSw); go_split_ands; go_simp; (try (with_reducible rfl))
   (try simp only [Act.put, pu1, pu2, pu3])
   refine tkH (v := ?_) 7 rfl hHeld ?_ ?_; rotate_left 1
   ·intro w hSw; (try dsimp only at hSw); go_split_ands; go_simp; (try (with_reducible rfl))
   (try simp only [Act.put, pu1, pu2, pu3])
   refine wpAnyH_ready (rs := [8]) (by kernel_rfl) (by simp) ?_
   refine aR1 rfl fun K hK => ?_
   have HCW := hid (HC4.out.keep (grown_trans HG6.out hgd))
   (try rw [if_pos (by kernel_rfl)])
   go_simp
   go_at_call 70
   (with_reducible refine (curFail_any HCW.out t.pos 3).mono ?_)
   rintro e wf ⟨rfl, hcf, hgf⟩
   refine hK.out _ _ ?_ (fun hNew => ?_)
   ·exact ⟨hgf.cell e0 (by simp; omega), hgf.cell u0 (by simp; omega), hgf.cell u1 (by simp; omega), hgf.cell u2 (by simp; omega)⟩
   clear hK K hHeld
   have hHeld := hNew
   clear hNew
   (try simp only [Act.put, pu1, pu2, pu3])
   have HCF := hid hcf
   have HGF := hid hgf
   replace e0 := hgf.cell e0 (by simp; omega)
   replace u0 := hgf.cell u0 (by simp; omega)
   replace u1 := hgf.cell u1 (by simp; omega)
   replace u2 := hgf.cell u2 (by simp; omega)
   have B3f := (hgf.block _ (lt_of_block (keepB B3.out (grown_trans HG6.out hgd))) (by simp; omega)).trans (keepB B3.out (grown_trans HG6.out hgd))
   obtain ⟨zz0, zz1, zz2, yy0, yy1, yy2⟩ := ratbox_facts B3f
   clear hcf hgf HCW
   refine tkH (v := ?_) 9 rfl hHeld ?_ ?_; rotate_left 1
   ·intro w hSw; (try dsimp only at hSw); go_split_ands; go_simp; (try (with_reducible rfl))
   (try simp only [Act.put, pu1, pu2, pu3])
   refine wpAnyH_ready (rs := [10]) (by kernel_rfl) (by simp) ?_
   refine aR1 rfl fun K hK => ?_
   (try rw [if_pos (by kernel_rfl)])
   go_simp
   refine hK.out _ _ ?_ (fun hNew => ?_)
   ·exact ⟨(set3_grown _ _ _ _ _).cell e0 (by simp; omega), (set3_grown _ _ _ _ _).cell u0 (by simp; omega), (set3_grown _ _ _ _ _).cell u1 (by simp; omega), (set3_grown _ _ _ _ _).cell u2 (by simp; omega)⟩
   clear hK K hHeld
   have hHeld := hNew
   clear hNew
   (try simp only [Act.put, pu1, pu2, pu3])
   refine tkH (v := ?_) 11 rfl hHeld ?_ ?_; rotate_left 1
   ·intro w hSw; (try dsimp only at hSw); go_split_ands; go_simp; (try (with_reducible rfl))
   (try simp only [Act.put, pu1, pu2, pu3])
   refine wpAnyH_done (by kernel_rfl) ?_ _
   refine NoPanic.normal ?_
   have hb6 := set3_all3 B3f (.bool false) (.slice none 0 0) (.slice none 0 0)
   have gS := set3_grown wf (w.heap.size + 2) (.bool false) (.slice none 0 0) (.slice none 0 0)
   have HC6 := hid (HCF.out.keptr gS (by simp; omega) (fun q hq => by have := HPT.out q hq; simp; omega))
   have HG7 := hid (grown_newr (grown_trans HW4.out (grown_trans (grown_some (grown_trans HG6.out hgd) _) HGF.out)) gS (by omega))
   obtain ⟨l0, l1, l2, -, -, -⟩ := ratbox_facts hb6
   clear zz0 zz1 zz2 yy0 yy1 yy2 u0 u1 u2 v0 v1 v2 hHeld B9 gS hb6 hgd e0 v3 B3f
   generalize ((wf.setCell _ _).setCell _ _).setCell _ _ = w7 at *
   go_wp2_with fail
   exact bodyPost_ret (v := .tuple #[.agg #[.bool false, .slice none 0 0, .slice none 0 0], .bool false]) (by simp [results, Tryz.results163, go_sem, l0, l1, l2]) rfl
    ⟨false, none, 0, 0, none, 0, 0, false, 0, rfl, HG7.out, ⟨IsQ.zero _, by omega, by omega⟩, OkP.no ⟨j, 3, j2, by unfold quoM; rw [HR1.out]; exact if_pos hu, HJ0.out, by rw [HTJ.out]; exact HC6.out⟩⟩
  ·have HDV := hid (ratDiv_v 260 HT4.out HV4.out.q HU4.out.q hu hn0 hm0 hn1 hn2 (by omega))
   go_upto_region 6 with (go_at_call 202; (with_reducible refine HDV.out.mono ?_); rintro e w5 ⟨g5, p5, n5, c5, q5, m5, d5, rfl, hV, hn5, hm5, hg⟩; have HV5 := hid hV; have HG5 := hid hg; replace e0 := hg.cell e0 (by simp); clear hV hg a0 a1 a2 s0 s1 s2; obtain ⟨i0, i1, i2, f0, f1, f2⟩ := ratbox_facts (blk0 w5 (.cells #[.bool false, .slice none 0 0, .slice none 0 0] 35 (0, 0))))
   clear i0 i1 i2 f0 f1 f2
   have gR := World.grownBy_alloc w5 (.cells #[.bool g5, .slice p5 n5 c5, .slice q5 m5 d5] 35 (0, 0)) none
   have B9 := blk0 w5 (.cells #[.bool g5, .slice p5 n5 c5, .slice q5 m5 d5] 35 (0, 0))
   have hs5 := HG5.out.size
   have HG6 := hid (grown_trans HG5.out gR)
   replace HV5 := hid (HV5.out.keep gR)
   replace e0 := gR.cell e0 (by simp)
   clear gR HG5
   generalize w5.heap.size = K9 at *
   generalize (w5.alloc _) = w6 at *
   have hgd := grown_drew w6 none
   obtain ⟨u0, u1, u2, -, -, -⟩ := ratbox_facts (keepB B9 hgd)
   obtain ⟨v0, v1, v2, -, -, -⟩ := ratbox_facts B9
   obtain ⟨zz0, zz1, zz2, yy0, yy1, yy2⟩ := ratbox_facts (keepB B3.out HG6.out)
   refine wp_region_noPanic ?_
   refine wp_region_held_drew (S := (fun w' => w'.cell? ⟨w.heap.size, 0, none⟩ = some (.pointer (some ⟨b, 0, none⟩)) ∧ w'.cell? ⟨K9, 0, none⟩ = some (.bool g5) ∧ w'.cell? ⟨K9, 1, none⟩ = some (.slice p5 n5 c5) ∧ w'.cell? ⟨K9, 2, none⟩ = some (.slice q5 m5 d5))) (by kernel_rfl) ?_ (fun hHeld => ?_)
   ·((try go_split_ands) <;> (repeat' apply And.intro) <;> (first | (with_reducible assumption) | (with_reducible refine (grown_drew _ none).cell ?_ (by simp); with_reducible assumption) | (with_reducible refine grown_trans ?_ (grown_drew _ none); with_reducible assumption)))
   refine tkH (v := ?_) 0 rfl hHeld ?_ ?_; rotate_left 1
   ·intro w hSw; (try dsimp only at hSw); go_split_ands; go_simp; (try (with_reducible rfl))
   (try simp only [Act.put, pu1, pu2, pu3])
   refine tkH (v := ?_) 1 rfl hHeld ?_ ?_; rotate_left 1
   ·intro w hSw; (try dsimp only at hSw); go_split_ands; go_simp; (try (with_reducible rfl))
   (try simp only [Act.put, pu1, pu2, pu3])
   refine tkH (v := ?_) 2 rfl hHeld ?_ ?_; rotate_left 1
   ·intro w hSw; (try dsimp only at hSw); go_split_ands; go_simp; (try (with_reducible rfl))
   (try simp only [Act.put, pu1, pu2, pu3])
   refine tkH (v := ?_) 3 rfl hHeld ?_ ?_; rotate_left 1
   ·intro w hSw; (try dsimp only at hSw); go_split_ands; go_simp; (try (with_reducible rfl))
   (try simp only [Act.put, pu1, pu2, pu3])
   refine wpAnyH_take (i := 4) (oi := Oper.mk _ _ _ _ _ _) (v := undef) rfl (by kernel_rfl) (by kernel_rfl) (by kernel_rfl) (fun _ _ _ h => h) (Or.inr ⟨by kernel_rfl, rfl⟩) hHeld ?_
   (try simp only [Act.put, pu1, pu2, pu3])
   refine wpAnyH_take (i := 5) (oi := Oper.mk _ _ _ _ _ _) (v := undef) rfl (by kernel_rfl) (by kernel_rfl) (by kernel_rfl) (fun _ _ _ h => h) (Or.inr ⟨by kernel_rfl, rfl⟩) hHeld ?_
   (try simp only [Act.put, pu1, pu2, pu3])
   refine wpAnyH_take (i := 6) (oi := Oper.mk _ _ _ _ _ _) (v := undef) rfl (by kernel_rfl) (by kernel_rfl) (by kernel_rfl) (fun _ _ _ h => h) (Or.inr ⟨by kernel_rfl, rfl⟩) hHeld ?_
   (try simp only [Act.put, pu1, pu2, pu3])
   refine wpAnyH_take (i := 7) (oi := Oper.mk _ _ _ _ _ _) (v := undef) rfl (by kernel_rfl) (by kernel_rfl) (by kernel_rfl) (fun _ _ _ h => h) (Or.inr ⟨by kernel_rfl, rfl⟩) hHeld ?_
   (try simp only [Act.put, pu1, pu2, pu3])
   refine wpAnyH_take (i := 8) (oi := Oper.mk _ _ _ _ _ _) (v := undef) rfl (by kernel_rfl) (by kernel_rfl) (by kernel_rfl) (fun _ _ _ h => h) (Or.inr ⟨by kernel_rfl, rfl⟩) hHeld ?_
   (try simp only [Act.put, pu1, pu2, pu3])
   refine tkH (v := ?_) 9 rfl hHeld ?_ ?_; rotate_left 1
   ·intro w hSw; (try dsimp only at hSw); go_split_ands; go_simp; (try (with_reducible rfl))
   (try simp only [Act.put, pu1, pu2, pu3])
   refine wpAnyH_ready (rs := [10]) (by kernel_rfl) (by simp) ?_
   refine aR1 rfl fun K hK => ?_
   (try rw [if_pos (by kernel_rfl)])
   go_simp
   refine hK.out _ _ ?_ (fun hNew => ?_)
   ·exact ⟨(set3_grown _ _ _ _ _).cell e0 (by simp; omega), (set3_grown _ _ _ _ _).cell u0 (by simp; omega), (set3_grown _ _ _ _ _).cell u1 (by simp; omega), (set3_grown _ _ _ _ _).cell u2 (by simp; omega)⟩
   clear hK K hHeld
   have hHeld := hNew
   clear hNew
   (try simp only [Act.put, pu1, pu2, pu3])
   refine tkH (v := ?_) 11 rfl hHeld ?_ ?_; rotate_left 1
   ·intro w hSw; (try dsimp only at hSw); go_split_ands; go_simp; (try (with_reducible rfl))
   (try simp only [Act.put, pu1, pu2, pu3])
   refine wpAnyH_done (by kernel_rfl) ?_ _
   refine NoPanic.normal ?_
   have hb6 := set3_all3 (keepB B3.out HG6.out) (.bool g5) (.slice p5 n5 c5) (.slice q5 m5 d5)
   have gS := set3_grown w6 (w.heap.size + 2) (.bool g5) (.slice p5 n5 c5) (.slice q5 m5 d5)
   have HV6 := hid (HV5.out.keptb (NU.of (keepB B3.out HG6.out) noh3) gS)
   have HC6 := hid ((HC4.out.keep HG6.out).keptr gS (by simp; omega) (fun q hq => by have := HPT.out q hq; simp; omega))
   have HG7 := hid (grown_newr (grown_trans HW4.out (grown_some HG6.out _)) gS (by omega))
   obtain ⟨l0, l1, l2, -, -, -⟩ := ratbox_facts hb6
   clear zz0 zz1 zz2 yy0 yy1 yy2 u0 u1 u2 v0 v1 v2 hHeld B9 gS hb6 hgd e0
   generalize ((w6.setCell _ _).setCell _ _).setCell _ _ = w7 at *
   go_wp2_with fail
   exact bodyPost_ret (v := .tuple #[.agg #[.bool g5, .slice p5 n5 c5, .slice q5 m5 d5], .bool true]) (by simp [results, Tryz.results163, go_sem, l0, l1, l2]) rfl
    ⟨g5, p5, n5, c5, q5, m5, d5, true, _, rfl, grown_trans HG7.out (grown_drew _ _), ⟨(HV6.out.keep (grown_drew _ none)).q, by omega, by omega⟩, OkP.yes ⟨_, j2, by unfold quoM; rw [HR1.out]; exact if_neg hu, h2, HV6.out.keep (grown_drew _ none), HC6.out.keep (grown_drew _ none)⟩⟩
def ratS (V : List UInt8 → Rat) (L : List Tok) (n : Bool) (i : Nat) : Rs Rat := (numM V L i).bind fun v j1 =>
 if (tk L j1).d = sSlash then (quoM V L v (j1 + 1)).map fun x => if n = true then -x else x
 else .ok (if n = true then -v else v) j1
theorem ratM_eq (V : List UInt8 → Rat) (L : List Tok) (i : Nat) : ratM V L i = (expM sComma L i).bind fun _ j => ratS V L (decide ((tk L j).d = sMinus)) (if decide ((tk L j).d = sMinus) = true then j + 1 else j) := by
 unfold ratM ratS quoM
 congr 1
 funext _ j
 show (numM V L (if decide ((tk L j).d = sMinus) = true then j + 1 else j)).bind _ = (numM V L (if decide ((tk L j).d = sMinus) = true then j + 1 else j)).bind _
 congr 1
 funext v j1
 split
 ·cases numM V L (j1 + 1) with
  | ok u j2 =>
   show (if u = 0 then _ else _) = _
   by_cases hu : u = 0
   ·rw [if_pos hu]
    show _ = Rs.map (if u = 0 then _ else _) _
    rw [if_pos hu]
    rfl
   ·rw [if_neg hu]
    show _ = Rs.map (if u = 0 then _ else _) _
    rw [if_neg hu]
    rfl
  | bad j e => rfl
 ·rfl
theorem Tb.kept3 {w w' : World} {G : Nat} {x : Bool} {y z : Value} {T : TypeId} {zz : Nat × Nat} (h : Tb w) (hb : w.heap[G]? = some (.cells #[.bool x, y, z] T zz)) (hg : w.grownBy w' (some G)) : Tb w' := fun j hj => hg.cell (h j hj) (by
 intro e
 have h0 := h 0 (by omega)
 have h1 := cell_of_row w G 0 _ _ _ hb
 simp only [Option.some.injEq] at e
 rw [← e] at h1
 rw [h1] at h0
 cases h0)
set_option maxHeartbeats 32000000 in
theorem pRat_any {L : List Tok} (hL : LkOk L) (w : World) (Tq : Tb w) (b : Nat) (p : Option Addr) (c : Nat) (at' er : Int) (j : Nat) (hC : CurAt w b p c L j at' er) (hj : j < L.length) :
  Calls Tryz.prog 118 #[.agg #[.pointer (some ⟨b, 0, none⟩)]] w (NuP 4420 w b p c L at' er (ratM rqV L j)) := by
 have hb0 := hC.lt
 have HPT := hid (hC.plt hj)
 obtain ⟨wB, hwB⟩ : ∃ wB, wB = (w.alloc (.cells #[.pointer (some ⟨b, 0, none⟩)] 79 (0, 0))).alloc (.cells #[.bool false, .slice none 0 0, .slice none 0 0] 35 (0, 0)) := ⟨_, rfl⟩
 have gB : w.grownBy wB none := by rw [hwB]; exact grown_trans (World.grownBy_alloc _ _ _) (World.grownBy_alloc _ _ _)
 have b1 : wB.heap[w.heap.size]? = some (.cells #[.pointer (some ⟨b, 0, none⟩)] 79 (0, 0)) := by rw [hwB]; exact keepB (blk0 w _) (World.grownBy_alloc _ _ _)
 have b2 : wB.heap[w.heap.size + 1]? = some (.cells #[.bool false, .slice none 0 0, .slice none 0 0] 35 (0, 0)) := by
  rw [hwB]
  have := blk0 (w.alloc (.cells #[.pointer (some ⟨b, 0, none⟩)] 79 (0, 0))) (.cells #[.bool false, .slice none 0 0, .slice none 0 0] 35 (0, 0))
  simpa using this
 have HC := hid (hC.keep gB)
 have HT := hid (Tq.keep gB)
 have HW := hid (grown_some gB (some b))
 have B2 := hid b2
 have HLK := hid hL
 obtain ⟨f, hf⟩ : ∃ f : Bool, f = true ↔ (L[j]).d = ⟨#[44]⟩ := by
  rcases Classical.em ((L[j]).d = ⟨#[44]⟩) with hd | hd
  ·exact ⟨true, by simp [hd]⟩
  ·exact ⟨false, by simp [hd]⟩
 have HEX := hid (curExpect_any HC.out hj (by have := hL.len; omega) ⟨#[44]⟩ f hf)
 have HF := hid (hf.trans (show (L[j]).d = ⟨#[44]⟩ ↔ (tk L j).d = sComma from by rw [tk_at hj]; rfl))
 have htkj : tk L j = L[j] := tk_at hj
 replace hwB := hid hwB
 obtain ⟨x1, -⟩ := box1e b1
 clear hC gB Tq hL hf b1 b2
 cases f with
 | false =>
  have HRM : Hid (ratM rqV L j = .bad j 5) := hid (by rw [ratM_eq]; unfold expM; rw [if_neg (fun h => by cases HF.out.2 h)]; rfl)
  have hjj := hj
  rw [← htkj] at HEX
  clear htkj
  go_enter Tryz.func118, Tryz.ntmps118
  go_upto_region 1 with fail
  rw [← hwB.out]
  go_upto_region 2 with (go_at_call 84; (with_reducible refine HEX.out.mono ?_); rintro e w1 ⟨rfl, hc, hg⟩; have HCn := hid hc; clear hc; replace x1 := hg.cell x1 (by simp; omega); replace B2 := hid ((hg.block _ (lt_of_block B2.out) (by simp; omega)).trans B2.out); replace HT := hid (Tb.keptb HT.out HC.out hg); replace HW := hid (grown_trans HW.out hg); clear hg)
  have HC1 : Hid (CurAt w1 b p c L j (tk L j).pos 5) := HCn
  obtain ⟨z0, z1, z2, y0, y1, y2⟩ := ratbox_facts B2.out
  have hb6 := set3_all3 B2.out (.bool false) (.slice none 0 0) (.slice none 0 0)
  have gS := set3_grown w1 (w.heap.size + 1) (.bool false) (.slice none 0 0) (.slice none 0 0)
  have HC6 := hid (HC1.out.keptr gS (by simp; omega) (fun q hq => by have := HPT.out q hq; simp; omega))
  have HG7 := hid (grown_newr HW.out gS (by omega))
  go_wp2_with fail
  clear z0 z1 z2 y0 y1 y2
  obtain ⟨l0, l1, l2, -, -, -⟩ := ratbox_facts hb6
  clear gS hb6
  generalize ((w1.setCell _ _).setCell _ _).setCell _ _ = w7 at *
  exact bodyPost_ret (v := .tuple #[.agg #[.bool false, .slice none 0 0, .slice none 0 0], .bool false]) (by simp [results, Tryz.results118, go_sem, l0, l1, l2]) rfl ⟨false, none, 0, 0, none, 0, 0, false, 0, rfl, HG7.out, ⟨IsQ.zero _, by omega, by omega⟩, OkP.no ⟨j, 5, j, HRM.out, hjj, HC6.out⟩⟩
 | true =>
  have hj1 : j + 1 < L.length := HLK.out.next hj (by rw [HF.out.1 rfl]; simp [sComma])
  obtain ⟨f2, hf2⟩ : ∃ f2 : Bool, f2 = true ↔ (L[j + 1]).d = ⟨#[45]⟩ := by
   rcases Classical.em ((L[j + 1]).d = ⟨#[45]⟩) with hd | hd
   ·exact ⟨true, by simp [hd]⟩
   ·exact ⟨false, by simp [hd]⟩
  have HSK0 := hid fun W (h : CurAt W b p c L (j + 1) at' er) => curSkip_any h hj1 (by have := HLK.out.len; omega) ⟨#[45]⟩ f2 hf2
  have hdec : decide ((tk L (j + 1)).d = sMinus) = f2 := by
   rw [tk_at hj1]
   cases f2 with
   | true => exact decide_eq_true (hf2.1 rfl)
   | false => exact decide_eq_false (fun h => by cases hf2.2 h)
  have HM : Hid (f2 = true → (tk L (j + 1)).d = sMinus) := hid fun h => of_decide_eq_true (hdec.trans h)
  have HRM : Hid (ratM rqV L j = ratS rqV L f2 (if f2 = true then j + 1 + 1 else j + 1)) := hid (by rw [ratM_eq]; unfold expM; rw [if_pos (HF.out.1 rfl)]; show ratS rqV L (decide ((tk L (j + 1)).d = sMinus)) (if decide ((tk L (j + 1)).d = sMinus) = true then j + 1 + 1 else j + 1) = _; rw [hdec])
  clear htkj hf2 hdec
  go_enter Tryz.func118, Tryz.ntmps118
  go_upto_region 1 with fail
  rw [← hwB.out]
  go_upto_region 3 with (go_at_call 84; (with_reducible refine HEX.out.mono ?_); rintro e w1 ⟨rfl, hc, hg⟩; have HCn := hid hc; clear hc; replace x1 := hg.cell x1 (by simp; omega); replace B2 := hid ((hg.block _ (lt_of_block B2.out) (by simp; omega)).trans B2.out); replace HT := hid (Tb.keptb HT.out HC.out hg); replace HW := hid (grown_trans HW.out hg); clear hg)
  clear HC
  have HC : Hid (CurAt w1 b p c L (j + 1) at' er) := HCn
  have HSK1 := hid (HSK0.out _ HC.out)
  clear HCn HSK0 HEX
  cases f2 with
  | false =>
   unfold ratS at HRM
   simp only [Bool.false_eq_true, if_false] at HRM
   go_upto_region 4 with (go_at_call 106; (with_reducible refine HSK1.out.mono ?_); rintro e wT ⟨rfl, hc, hg⟩; have HCn := hid hc; clear hc; replace x1 := hg.cell x1 (by simp; omega); replace B2 := hid ((hg.block _ (lt_of_block B2.out) (by simp; omega)).trans B2.out); replace HT := hid (Tb.keptb HT.out HC.out hg); replace HW := hid (grown_trans HW.out hg); clear hg)
   clear HC
   obtain ⟨jN, hjNe⟩ : ∃ jN, jN = j + 1 := ⟨_, rfl⟩
   have hjN : jN < L.length := by omega
   have HC : Hid (CurAt wT b p c L jN at' er) := hid (by rw [hjNe]; exact HCn.out)
   rw [← hjNe] at HRM
   clear HCn HSK1 hjNe
   have HNM := hid (pNum_any HLK.out wT HT.out b p c at' er jN HC.out hjN)
   go_upto_region 5 with (go_at_call 162; (with_reducible refine HNM.out.mono ?_); rintro e w4 ⟨g, p1, n1, c1, p2, n2, c2, ok, uu, rfl, hg, ⟨hQ, hn1, hn2⟩, hO⟩; have HG4 := hid hg; have HO := hid hO; have HQ := hid hQ; clear hQ hO; replace x1 := hg.cell x1 (by simp; omega); replace B2 := hid ((hg.block _ (lt_of_block B2.out) (by simp; omega)).trans B2.out); replace HT := hid (Tb.keptb HT.out HC.out hg); replace HW := hid (grown_trans HW.out hg); clear hg; obtain ⟨i0, i1, i2, f0, f1, f2⟩ := ratbox_facts (blk0 w4 (.cells #[.bool false, .slice none 0 0, .slice none 0 0] 35 (0, 0))))
   clear i0 i1 i2 f0 f1 f2
   have gR := World.grownBy_alloc w4 (.cells #[.bool g, .slice p1 n1 c1, .slice p2 n2 c2] 35 (0, 0)) none
   have B5 := hid (blk0 w4 (.cells #[.bool g, .slice p1 n1 c1, .slice p2 n2 c2] 35 (0, 0)))
   have hs4 := lt_of_block B2.out
   replace x1 := gR.cell x1 (by simp); replace B2 := hid (keepB B2.out gR); replace HT := hid (HT.out.keep gR); replace HW := hid (grown_trans HW.out (grown_some gR _)); replace HQ := hid (HQ.out.keep gR)
   have HGR := hid gR
   clear gR HC
   have hK5 : w.heap.size + 1 < w4.heap.size := hs4
   generalize w4.heap.size = K5 at *
   generalize hw4 : (w4.alloc _) = wT at *
   clear hw4
   cases ok with
   | false =>
    obtain ⟨jj, ee, nx, h1, hjj, h3⟩ := HO.out.bad (by simp)
    have HC := hid (h3.keep HGR.out)
    have HR1 := hid h1
    clear h1 h3
    go_upto_region 9 with (fail)
    have B5N := B5.out
    have HCM := HC
    have HWM := HW
    have B2M := B2.out
    obtain ⟨s0, s1, s2, -, -, -⟩ := ratbox_facts B5N
    obtain ⟨z0, z1, z2, y0, y1, y2⟩ := ratbox_facts B2M
    have hb6 := set3_all3 B2M (.bool g) (.slice p1 n1 c1) (.slice p2 n2 c2)
    have gS := set3_grown wT (w.heap.size + 1) (.bool g) (.slice p1 n1 c1) (.slice p2 n2 c2)
    have HC6 := hid (HCM.out.keptr gS (by simp; omega) (fun q hq => by have := HPT.out q hq; simp; omega))
    have HQ6 := hid ((HQ.out).keptb (NU.of B2M noh3) gS)
    have HG7 := hid (grown_newr HWM.out gS (by omega))
    go_wp2_with fail
    clear s0 s1 s2 z0 z1 z2 y0 y1 y2
    obtain ⟨l0, l1, l2, -, -, -⟩ := ratbox_facts hb6
    clear gS hb6 B2M B5N
    generalize ((wT.setCell _ _).setCell _ _).setCell _ _ = w7 at *
    exact bodyPost_ret (v := .tuple #[.agg #[.bool g, .slice p1 n1 c1, .slice p2 n2 c2], .bool false]) (by simp [results, Tryz.results118, go_sem, l0, l1, l2]) rfl ⟨g, p1, n1, c1, p2, n2, c2, false, _, rfl, HG7.out, ⟨HQ6.out, by omega, by omega⟩, OkP.no ⟨jj, ee, nx, by rw [HRM.out, HR1.out]; rfl, hjj, HC6.out⟩⟩
   | true =>
    obtain ⟨v, j1, h1, hj1, h3, h4⟩ := HO.out.get rfl
    have HC := hid (h4.keep HGR.out)
    have HV := hid (h3.keep HGR.out)
    have HR1 := hid h1
    clear h1 h3 h4
    obtain ⟨fs, hfs⟩ : ∃ fs : Bool, fs = true ↔ (L[j1]).d = ⟨#[47]⟩ := by
     rcases Classical.em ((L[j1]).d = ⟨#[47]⟩) with hd | hd
     ·exact ⟨true, by simp [hd]⟩
     ·exact ⟨false, by simp [hd]⟩
    have HSK := hid (curSkip_any HC.out hj1 (by have := HLK.out.len; omega) ⟨#[47]⟩ fs hfs)
    have HFS := hid (hfs.trans (show (L[j1]).d = ⟨#[47]⟩ ↔ (tk L j1).d = sSlash from by rw [tk_at hj1]; rfl))
    clear hfs
    cases fs with
    | false =>
     go_upto_region 7 with (go_at_call 106; (with_reducible refine HSK.out.mono ?_); rintro e wS ⟨rfl, hc, hg⟩; have HCn := hid hc; have HGS := hid hg; clear hc; replace x1 := hg.cell x1 (by simp; omega); replace B2 := hid ((hg.block _ (lt_of_block B2.out) (by simp; omega)).trans B2.out); replace HT := hid (Tb.keptb HT.out HC.out hg); replace HW := hid (grown_trans HW.out hg); replace HV := hid (HV.out.keptb HC.out.nu hg); replace HQ := hid (HQ.out.keptb HC.out.nu hg); replace B5 := hid ((B5.out |> fun h => (hg.block _ (lt_of_block h) (by simp; omega)).trans h)); clear hg)
     clear HC
     have HC : Hid (CurAt wS b p c L j1 at' er) := HCn
     obtain ⟨jj, hjje⟩ : ∃ jj, jj = j1 := ⟨_, rfl⟩
     have hjj : jj < L.length := by omega
     rw [← hjje] at HC
     generalize hw4 : wS = wT at *
     clear hw4
     go_upto_region 9 with (fail)
     have B5N := B5.out
     have HCM := HC
     have HWM := HW
     have B2M := B2.out
     obtain ⟨s0, s1, s2, -, -, -⟩ := ratbox_facts B5N
     obtain ⟨z0, z1, z2, y0, y1, y2⟩ := ratbox_facts B2M
     have hb6 := set3_all3 B2M (.bool g) (.slice p1 n1 c1) (.slice p2 n2 c2)
     have gS := set3_grown wT (w.heap.size + 1) (.bool g) (.slice p1 n1 c1) (.slice p2 n2 c2)
     have HC6 := hid (HCM.out.keptr gS (by simp; omega) (fun q hq => by have := HPT.out q hq; simp; omega))
     have HQ6 := hid ((HV.out.q).keptb (NU.of B2M noh3) gS)
     have HV6 := hid ((HV.out).keptb (NU.of B2M noh3) gS)
     have HG7 := hid (grown_newr HWM.out gS (by omega))
     go_wp2_with fail
     clear s0 s1 s2 z0 z1 z2 y0 y1 y2
     obtain ⟨l0, l1, l2, -, -, -⟩ := ratbox_facts hb6
     clear gS hb6 B2M B5N
     generalize ((wT.setCell _ _).setCell _ _).setCell _ _ = w7 at *
     exact bodyPost_ret (v := .tuple #[.agg #[.bool g, .slice p1 n1 c1, .slice p2 n2 c2], .bool true]) (by simp [results, Tryz.results118, go_sem, l0, l1, l2]) rfl ⟨g, p1, n1, c1, p2, n2, c2, true, _, rfl, HG7.out, ⟨HQ6.out, by omega, by omega⟩, OkP.yes ⟨_, jj, by rw [HRM.out, HR1.out, hjje]; exact if_neg (fun h => by cases HFS.out.2 h), hjj, HV6.out, HC6.out⟩⟩
    | true =>
     have HSL : Hid ((tk L j1).d = sSlash) := hid (HFS.out.1 rfl)
     have hj2 : j1 + 1 < L.length := HLK.out.next hj1 (by rw [HFS.out.1 rfl]; simp [sSlash])
     go_upto_region 6 with (go_at_call 106; (with_reducible refine HSK.out.mono ?_); rintro e wS ⟨rfl, hc, hg⟩; have HCn := hid hc; have HGS := hid hg; clear hc; replace x1 := hg.cell x1 (by simp; omega); replace B2 := hid ((hg.block _ (lt_of_block B2.out) (by simp; omega)).trans B2.out); replace HT := hid (Tb.keptb HT.out HC.out hg); replace HW := hid (grown_trans HW.out hg); replace HV := hid (HV.out.keptb HC.out.nu hg); replace HQ := hid (HQ.out.keptb HC.out.nu hg); replace B5 := hid ((B5.out |> fun h => (hg.block _ (lt_of_block h) (by simp; omega)).trans h)); clear hg)
     clear HC
     have HC : Hid (CurAt wS b p c L (j1 + 1) at' er) := HCn
     have HQO := hid (pQuo_any HLK.out wS HT.out b p c at' er (j1 + 1) HC.out hj2 g p1 n1 c1 p2 n2 c2 v HV.out hn1 hn2)
     obtain ⟨s0, s1, s2, f0, f1, f2⟩ := ratbox_facts B5.out
     go_upto_region 7 with (go_at_call 163; (with_reducible refine HQO.out.mono ?_); rintro e wQ ⟨g3, p3, n3, c3, p4, n4, c4, ok, u3, rfl, hg, ⟨hQ, hn3, hn4⟩, hO⟩; have HG4 := hid hg; have HO3 := hid hO; have HQ3 := hid hQ; clear hQ hO; replace x1 := hg.cell x1 (by simp; omega); replace B2 := hid ((hg.block _ (lt_of_block B2.out) (by simp; omega)).trans B2.out); replace HT := hid (Tb.keptb HT.out HC.out hg); replace HW := hid (grown_trans HW.out hg); replace B5 := hid ((B5.out |> fun h => (hg.block _ (lt_of_block h) (by simp; omega)).trans h)); clear hg s0 s1 s2 f0 f1 f2; obtain ⟨s0, s1, s2, f0, f1, f2⟩ := ratbox_facts B5.out)
     have hb5 := set3_all3 B5.out (.bool g3) (.slice p3 n3 c3) (.slice p4 n4 c4)
     have gS := set3_grown wQ K5 (.bool g3) (.slice p3 n3 c3) (.slice p4 n4 c4)
     have HCK : Hid (∀ nx a e, CurAt wQ b p c L nx a e → CurAt (((wQ.setCell ⟨K5, 0, none⟩ (.bool g3)).setCell ⟨K5, 1, none⟩ (.slice p3 n3 c3)).setCell ⟨K5, 2, none⟩ (.slice p4 n4 c4)) b p c L nx a e) := hid fun nx a e h => h.keptr gS (by simp; omega) (fun q hq => by have := HPT.out q hq; simp; omega)
     have HVK : Hid (∀ v, IsV wQ g3 p3 n3 c3 p4 n4 c4 v → IsV (((wQ.setCell ⟨K5, 0, none⟩ (.bool g3)).setCell ⟨K5, 1, none⟩ (.slice p3 n3 c3)).setCell ⟨K5, 2, none⟩ (.slice p4 n4 c4)) g3 p3 n3 c3 p4 n4 c4 v) := hid fun v h => h.keptb (NU.of B5.out noh3) gS
     replace HQ3 := hid (HQ3.out.keptb (NU.of B5.out noh3) gS)
     replace HT := hid (HT.out.kept3 B5.out gS)
     replace HW := hid (grown_newr HW.out gS (by omega))
     replace x1 := gS.cell x1 (by simp; omega)
     replace B2 := hid ((gS.block _ (lt_of_block B2.out) (by simp; omega)).trans B2.out)
     replace B5 := hid hb5
     clear gS hb5 HC HQ HV s0 s1 s2 f0 f1 f2
     generalize ((wQ.setCell _ _).setCell _ _).setCell _ _ = wT at *
     cases ok with
     | false =>
      obtain ⟨jj, ee, nx, h1, hjj, h3⟩ := HO3.out.bad (by simp)
      have HC := hid (HCK.out _ _ _ h3)
      have HR3 := hid h1
      clear h1 h3
      go_upto_region 9 with (fail)
      have B5N := B5.out
      have HCM := HC
      have HWM := HW
      have B2M := B2.out
      obtain ⟨s0, s1, s2, -, -, -⟩ := ratbox_facts B5N
      obtain ⟨z0, z1, z2, y0, y1, y2⟩ := ratbox_facts B2M
      have hb6 := set3_all3 B2M (.bool g3) (.slice p3 n3 c3) (.slice p4 n4 c4)
      have gS := set3_grown wT (w.heap.size + 1) (.bool g3) (.slice p3 n3 c3) (.slice p4 n4 c4)
      have HC6 := hid (HCM.out.keptr gS (by simp; omega) (fun q hq => by have := HPT.out q hq; simp; omega))
      have HQ6 := hid ((HQ3.out).keptb (NU.of B2M noh3) gS)
      have HG7 := hid (grown_newr HWM.out gS (by omega))
      go_wp2_with fail
      clear s0 s1 s2 z0 z1 z2 y0 y1 y2
      obtain ⟨l0, l1, l2, -, -, -⟩ := ratbox_facts hb6
      clear gS hb6 B2M B5N
      generalize ((wT.setCell _ _).setCell _ _).setCell _ _ = w7 at *
      exact bodyPost_ret (v := .tuple #[.agg #[.bool g3, .slice p3 n3 c3, .slice p4 n4 c4], .bool false]) (by simp [results, Tryz.results118, go_sem, l0, l1, l2]) rfl ⟨g3, p3, n3, c3, p4, n4, c4, false, _, rfl, HG7.out, ⟨HQ6.out, by omega, by omega⟩, OkP.no ⟨jj, ee, nx, by rw [HRM.out, HR1.out]; show (if (tk L j1).d = sSlash then _ else _) = _; rw [if_pos HSL.out, HR3.out]; rfl, hjj, HC6.out⟩⟩
     | true =>
      obtain ⟨v3, jj, h1, hjj, h3, h4⟩ := HO3.out.get rfl
      have HC := hid (HCK.out _ _ _ h4)
      have HV := hid (HVK.out _ h3)
      have HR3 := hid h1
      clear h1 h3 h4
      go_upto_region 9 with (fail)
      have B5N := B5.out
      have HCM := HC
      have HWM := HW
      have B2M := B2.out
      obtain ⟨s0, s1, s2, -, -, -⟩ := ratbox_facts B5N
      obtain ⟨z0, z1, z2, y0, y1, y2⟩ := ratbox_facts B2M
      have hb6 := set3_all3 B2M (.bool g3) (.slice p3 n3 c3) (.slice p4 n4 c4)
      have gS := set3_grown wT (w.heap.size + 1) (.bool g3) (.slice p3 n3 c3) (.slice p4 n4 c4)
      have HC6 := hid (HCM.out.keptr gS (by simp; omega) (fun q hq => by have := HPT.out q hq; simp; omega))
      have HQ6 := hid ((HV.out.q).keptb (NU.of B2M noh3) gS)
      have HV6 := hid ((HV.out).keptb (NU.of B2M noh3) gS)
      have HG7 := hid (grown_newr HWM.out gS (by omega))
      go_wp2_with fail
      clear s0 s1 s2 z0 z1 z2 y0 y1 y2
      obtain ⟨l0, l1, l2, -, -, -⟩ := ratbox_facts hb6
      clear gS hb6 B2M B5N
      generalize ((wT.setCell _ _).setCell _ _).setCell _ _ = w7 at *
      exact bodyPost_ret (v := .tuple #[.agg #[.bool g3, .slice p3 n3 c3, .slice p4 n4 c4], .bool true]) (by simp [results, Tryz.results118, go_sem, l0, l1, l2]) rfl ⟨g3, p3, n3, c3, p4, n4, c4, true, _, rfl, HG7.out, ⟨HQ6.out, by omega, by omega⟩, OkP.yes ⟨_, jj, by rw [HRM.out, HR1.out]; show (if (tk L j1).d = sSlash then _ else _) = _; rw [if_pos HSL.out, HR3.out]; rfl, hjj, HV6.out, HC6.out⟩⟩
  | true =>
   have hj3 : j + 1 + 1 < L.length := HLK.out.next hj1 (by rw [HM.out rfl]; simp [sMinus])
   unfold ratS at HRM
   simp only [if_true] at HRM
   go_upto_region 4 with (go_at_call 106; (with_reducible refine HSK1.out.mono ?_); rintro e wT ⟨rfl, hc, hg⟩; have HCn := hid hc; clear hc; replace x1 := hg.cell x1 (by simp; omega); replace B2 := hid ((hg.block _ (lt_of_block B2.out) (by simp; omega)).trans B2.out); replace HT := hid (Tb.keptb HT.out HC.out hg); replace HW := hid (grown_trans HW.out hg); clear hg)
   clear HC
   obtain ⟨jN, hjNe⟩ : ∃ jN, jN = j + 1 + 1 := ⟨_, rfl⟩
   have hjN : jN < L.length := by omega
   have HC : Hid (CurAt wT b p c L jN at' er) := hid (by rw [hjNe]; exact HCn.out)
   rw [← hjNe] at HRM
   clear HCn HSK1 hjNe
   have HNM := hid (pNum_any HLK.out wT HT.out b p c at' er jN HC.out hjN)
   go_upto_region 5 with (go_at_call 162; (with_reducible refine HNM.out.mono ?_); rintro e w4 ⟨g, p1, n1, c1, p2, n2, c2, ok, uu, rfl, hg, ⟨hQ, hn1, hn2⟩, hO⟩; have HG4 := hid hg; have HO := hid hO; have HQ := hid hQ; clear hQ hO; replace x1 := hg.cell x1 (by simp; omega); replace B2 := hid ((hg.block _ (lt_of_block B2.out) (by simp; omega)).trans B2.out); replace HT := hid (Tb.keptb HT.out HC.out hg); replace HW := hid (grown_trans HW.out hg); clear hg; obtain ⟨i0, i1, i2, f0, f1, f2⟩ := ratbox_facts (blk0 w4 (.cells #[.bool false, .slice none 0 0, .slice none 0 0] 35 (0, 0))))
   clear i0 i1 i2 f0 f1 f2
   have gR := World.grownBy_alloc w4 (.cells #[.bool g, .slice p1 n1 c1, .slice p2 n2 c2] 35 (0, 0)) none
   have B5 := hid (blk0 w4 (.cells #[.bool g, .slice p1 n1 c1, .slice p2 n2 c2] 35 (0, 0)))
   have hs4 := lt_of_block B2.out
   replace x1 := gR.cell x1 (by simp); replace B2 := hid (keepB B2.out gR); replace HT := hid (HT.out.keep gR); replace HW := hid (grown_trans HW.out (grown_some gR _)); replace HQ := hid (HQ.out.keep gR)
   have HGR := hid gR
   clear gR HC
   have hK5 : w.heap.size + 1 < w4.heap.size := hs4
   generalize w4.heap.size = K5 at *
   generalize hw4 : (w4.alloc _) = wT at *
   clear hw4
   cases ok with
   | false =>
    obtain ⟨jj, ee, nx, h1, hjj, h3⟩ := HO.out.bad (by simp)
    have HC := hid (h3.keep HGR.out)
    have HR1 := hid h1
    clear h1 h3
    have HNG := hid (ratNeg_v 1100 HT.out HQ.out (by omega) (by omega) (by omega))
    obtain ⟨s0, s1, s2, f0, f1, f2⟩ := ratbox_facts B5.out
    go_upto_region 9 with (go_at_call 164; (with_reducible refine HNG.out.mono ?_); rintro e wN ⟨gN, pN, nN, cN, qN, mN, dN, rfl, hV, hnN, hmN, hg⟩; have HVN := hid hV; have HGN := hid hg; replace x1 := hg.cell x1 (by simp); clear hV s0 s1 s2 f0 f1 f2; obtain ⟨s0, s1, s2, f0, f1, f2⟩ := ratbox_facts (keepB B5.out hg); clear hg)
    have B5N := set3_all3 (keepB B5.out HGN.out) (.bool gN) (.slice pN nN cN) (.slice qN mN dN)
    have gS := set3_grown wN K5 (.bool gN) (.slice pN nN cN) (.slice qN mN dN)
    have HVM := hid (HVN.out.keptb (NU.of (keepB B5.out HGN.out) noh3) gS)
    have HCM := hid ((HC.out.keep HGN.out).keptr gS (by simp; omega) (fun q hq => by have := HPT.out q hq; simp; omega))
    have HWM := hid (grown_newr (grown_trans HW.out (grown_some HGN.out _)) gS (by omega))
    have B2M := (gS.block _ (lt_of_block (keepB B2.out HGN.out)) (by simp; omega)).trans (keepB B2.out HGN.out)
    clear gS s0 s1 s2 f0 f1 f2 x1
    generalize ((wN.setCell _ _).setCell _ _).setCell _ _ = wM at *
    obtain ⟨s0, s1, s2, -, -, -⟩ := ratbox_facts B5N
    obtain ⟨z0, z1, z2, y0, y1, y2⟩ := ratbox_facts B2M
    have hb6 := set3_all3 B2M (.bool gN) (.slice pN nN cN) (.slice qN mN dN)
    have gS := set3_grown wM (w.heap.size + 1) (.bool gN) (.slice pN nN cN) (.slice qN mN dN)
    have HC6 := hid (HCM.out.keptr gS (by simp; omega) (fun q hq => by have := HPT.out q hq; simp; omega))
    have HQ6 := hid ((HVM.out.q).keptb (NU.of B2M noh3) gS)
    have HG7 := hid (grown_newr HWM.out gS (by omega))
    go_wp2_with fail
    clear s0 s1 s2 z0 z1 z2 y0 y1 y2
    obtain ⟨l0, l1, l2, -, -, -⟩ := ratbox_facts hb6
    clear gS hb6 B2M B5N
    generalize ((wM.setCell _ _).setCell _ _).setCell _ _ = w7 at *
    exact bodyPost_ret (v := .tuple #[.agg #[.bool gN, .slice pN nN cN, .slice qN mN dN], .bool false]) (by simp [results, Tryz.results118, go_sem, l0, l1, l2]) rfl ⟨gN, pN, nN, cN, qN, mN, dN, false, _, rfl, HG7.out, ⟨HQ6.out, by omega, by omega⟩, OkP.no ⟨jj, ee, nx, by rw [HRM.out, HR1.out]; rfl, hjj, HC6.out⟩⟩
   | true =>
    obtain ⟨v, j1, h1, hj1, h3, h4⟩ := HO.out.get rfl
    have HC := hid (h4.keep HGR.out)
    have HV := hid (h3.keep HGR.out)
    have HR1 := hid h1
    clear h1 h3 h4
    obtain ⟨fs, hfs⟩ : ∃ fs : Bool, fs = true ↔ (L[j1]).d = ⟨#[47]⟩ := by
     rcases Classical.em ((L[j1]).d = ⟨#[47]⟩) with hd | hd
     ·exact ⟨true, by simp [hd]⟩
     ·exact ⟨false, by simp [hd]⟩
    have HSK := hid (curSkip_any HC.out hj1 (by have := HLK.out.len; omega) ⟨#[47]⟩ fs hfs)
    have HFS := hid (hfs.trans (show (L[j1]).d = ⟨#[47]⟩ ↔ (tk L j1).d = sSlash from by rw [tk_at hj1]; rfl))
    clear hfs
    cases fs with
    | false =>
     go_upto_region 7 with (go_at_call 106; (with_reducible refine HSK.out.mono ?_); rintro e wS ⟨rfl, hc, hg⟩; have HCn := hid hc; have HGS := hid hg; clear hc; replace x1 := hg.cell x1 (by simp; omega); replace B2 := hid ((hg.block _ (lt_of_block B2.out) (by simp; omega)).trans B2.out); replace HT := hid (Tb.keptb HT.out HC.out hg); replace HW := hid (grown_trans HW.out hg); replace HV := hid (HV.out.keptb HC.out.nu hg); replace HQ := hid (HQ.out.keptb HC.out.nu hg); replace B5 := hid ((B5.out |> fun h => (hg.block _ (lt_of_block h) (by simp; omega)).trans h)); clear hg)
     clear HC
     have HC : Hid (CurAt wS b p c L j1 at' er) := HCn
     obtain ⟨jj, hjje⟩ : ∃ jj, jj = j1 := ⟨_, rfl⟩
     have hjj : jj < L.length := by omega
     rw [← hjje] at HC
     generalize hw4 : wS = wT at *
     clear hw4
     have HNG := hid (ratNeg_v 1100 HT.out HV.out.q (by omega) (by omega) (by omega))
     obtain ⟨s0, s1, s2, f0, f1, f2⟩ := ratbox_facts B5.out
     go_upto_region 9 with (go_at_call 164; (with_reducible refine HNG.out.mono ?_); rintro e wN ⟨gN, pN, nN, cN, qN, mN, dN, rfl, hV, hnN, hmN, hg⟩; have HVN := hid hV; have HGN := hid hg; replace x1 := hg.cell x1 (by simp); clear hV s0 s1 s2 f0 f1 f2; obtain ⟨s0, s1, s2, f0, f1, f2⟩ := ratbox_facts (keepB B5.out hg); clear hg)
     have B5N := set3_all3 (keepB B5.out HGN.out) (.bool gN) (.slice pN nN cN) (.slice qN mN dN)
     have gS := set3_grown wN K5 (.bool gN) (.slice pN nN cN) (.slice qN mN dN)
     have HVM := hid (HVN.out.keptb (NU.of (keepB B5.out HGN.out) noh3) gS)
     have HCM := hid ((HC.out.keep HGN.out).keptr gS (by simp; omega) (fun q hq => by have := HPT.out q hq; simp; omega))
     have HWM := hid (grown_newr (grown_trans HW.out (grown_some HGN.out _)) gS (by omega))
     have B2M := (gS.block _ (lt_of_block (keepB B2.out HGN.out)) (by simp; omega)).trans (keepB B2.out HGN.out)
     clear gS s0 s1 s2 f0 f1 f2 x1
     generalize ((wN.setCell _ _).setCell _ _).setCell _ _ = wM at *
     obtain ⟨s0, s1, s2, -, -, -⟩ := ratbox_facts B5N
     obtain ⟨z0, z1, z2, y0, y1, y2⟩ := ratbox_facts B2M
     have hb6 := set3_all3 B2M (.bool gN) (.slice pN nN cN) (.slice qN mN dN)
     have gS := set3_grown wM (w.heap.size + 1) (.bool gN) (.slice pN nN cN) (.slice qN mN dN)
     have HC6 := hid (HCM.out.keptr gS (by simp; omega) (fun q hq => by have := HPT.out q hq; simp; omega))
     have HQ6 := hid ((HVM.out.q).keptb (NU.of B2M noh3) gS)
     have HV6 := hid ((HVM.out).keptb (NU.of B2M noh3) gS)
     have HG7 := hid (grown_newr HWM.out gS (by omega))
     go_wp2_with fail
     clear s0 s1 s2 z0 z1 z2 y0 y1 y2
     obtain ⟨l0, l1, l2, -, -, -⟩ := ratbox_facts hb6
     clear gS hb6 B2M B5N
     generalize ((wM.setCell _ _).setCell _ _).setCell _ _ = w7 at *
     exact bodyPost_ret (v := .tuple #[.agg #[.bool gN, .slice pN nN cN, .slice qN mN dN], .bool true]) (by simp [results, Tryz.results118, go_sem, l0, l1, l2]) rfl ⟨gN, pN, nN, cN, qN, mN, dN, true, _, rfl, HG7.out, ⟨HQ6.out, by omega, by omega⟩, OkP.yes ⟨_, jj, by rw [HRM.out, HR1.out, hjje]; exact if_neg (fun h => by cases HFS.out.2 h), hjj, HV6.out, HC6.out⟩⟩
    | true =>
     have HSL : Hid ((tk L j1).d = sSlash) := hid (HFS.out.1 rfl)
     have hj2 : j1 + 1 < L.length := HLK.out.next hj1 (by rw [HFS.out.1 rfl]; simp [sSlash])
     go_upto_region 6 with (go_at_call 106; (with_reducible refine HSK.out.mono ?_); rintro e wS ⟨rfl, hc, hg⟩; have HCn := hid hc; have HGS := hid hg; clear hc; replace x1 := hg.cell x1 (by simp; omega); replace B2 := hid ((hg.block _ (lt_of_block B2.out) (by simp; omega)).trans B2.out); replace HT := hid (Tb.keptb HT.out HC.out hg); replace HW := hid (grown_trans HW.out hg); replace HV := hid (HV.out.keptb HC.out.nu hg); replace HQ := hid (HQ.out.keptb HC.out.nu hg); replace B5 := hid ((B5.out |> fun h => (hg.block _ (lt_of_block h) (by simp; omega)).trans h)); clear hg)
     clear HC
     have HC : Hid (CurAt wS b p c L (j1 + 1) at' er) := HCn
     have HQO := hid (pQuo_any HLK.out wS HT.out b p c at' er (j1 + 1) HC.out hj2 g p1 n1 c1 p2 n2 c2 v HV.out hn1 hn2)
     obtain ⟨s0, s1, s2, f0, f1, f2⟩ := ratbox_facts B5.out
     go_upto_region 7 with (go_at_call 163; (with_reducible refine HQO.out.mono ?_); rintro e wQ ⟨g3, p3, n3, c3, p4, n4, c4, ok, u3, rfl, hg, ⟨hQ, hn3, hn4⟩, hO⟩; have HG4 := hid hg; have HO3 := hid hO; have HQ3 := hid hQ; clear hQ hO; replace x1 := hg.cell x1 (by simp; omega); replace B2 := hid ((hg.block _ (lt_of_block B2.out) (by simp; omega)).trans B2.out); replace HT := hid (Tb.keptb HT.out HC.out hg); replace HW := hid (grown_trans HW.out hg); replace B5 := hid ((B5.out |> fun h => (hg.block _ (lt_of_block h) (by simp; omega)).trans h)); clear hg s0 s1 s2 f0 f1 f2; obtain ⟨s0, s1, s2, f0, f1, f2⟩ := ratbox_facts B5.out)
     have hb5 := set3_all3 B5.out (.bool g3) (.slice p3 n3 c3) (.slice p4 n4 c4)
     have gS := set3_grown wQ K5 (.bool g3) (.slice p3 n3 c3) (.slice p4 n4 c4)
     have HCK : Hid (∀ nx a e, CurAt wQ b p c L nx a e → CurAt (((wQ.setCell ⟨K5, 0, none⟩ (.bool g3)).setCell ⟨K5, 1, none⟩ (.slice p3 n3 c3)).setCell ⟨K5, 2, none⟩ (.slice p4 n4 c4)) b p c L nx a e) := hid fun nx a e h => h.keptr gS (by simp; omega) (fun q hq => by have := HPT.out q hq; simp; omega)
     have HVK : Hid (∀ v, IsV wQ g3 p3 n3 c3 p4 n4 c4 v → IsV (((wQ.setCell ⟨K5, 0, none⟩ (.bool g3)).setCell ⟨K5, 1, none⟩ (.slice p3 n3 c3)).setCell ⟨K5, 2, none⟩ (.slice p4 n4 c4)) g3 p3 n3 c3 p4 n4 c4 v) := hid fun v h => h.keptb (NU.of B5.out noh3) gS
     replace HQ3 := hid (HQ3.out.keptb (NU.of B5.out noh3) gS)
     replace HT := hid (HT.out.kept3 B5.out gS)
     replace HW := hid (grown_newr HW.out gS (by omega))
     replace x1 := gS.cell x1 (by simp; omega)
     replace B2 := hid ((gS.block _ (lt_of_block B2.out) (by simp; omega)).trans B2.out)
     replace B5 := hid hb5
     clear gS hb5 HC HQ HV s0 s1 s2 f0 f1 f2
     generalize ((wQ.setCell _ _).setCell _ _).setCell _ _ = wT at *
     cases ok with
     | false =>
      obtain ⟨jj, ee, nx, h1, hjj, h3⟩ := HO3.out.bad (by simp)
      have HC := hid (HCK.out _ _ _ h3)
      have HR3 := hid h1
      clear h1 h3
      have HNG := hid (ratNeg_v 1100 HT.out HQ3.out (by omega) (by omega) (by omega))
      obtain ⟨s0, s1, s2, f0, f1, f2⟩ := ratbox_facts B5.out
      go_upto_region 9 with (go_at_call 164; (with_reducible refine HNG.out.mono ?_); rintro e wN ⟨gN, pN, nN, cN, qN, mN, dN, rfl, hV, hnN, hmN, hg⟩; have HVN := hid hV; have HGN := hid hg; replace x1 := hg.cell x1 (by simp); clear hV s0 s1 s2 f0 f1 f2; obtain ⟨s0, s1, s2, f0, f1, f2⟩ := ratbox_facts (keepB B5.out hg); clear hg)
      have B5N := set3_all3 (keepB B5.out HGN.out) (.bool gN) (.slice pN nN cN) (.slice qN mN dN)
      have gS := set3_grown wN K5 (.bool gN) (.slice pN nN cN) (.slice qN mN dN)
      have HVM := hid (HVN.out.keptb (NU.of (keepB B5.out HGN.out) noh3) gS)
      have HCM := hid ((HC.out.keep HGN.out).keptr gS (by simp; omega) (fun q hq => by have := HPT.out q hq; simp; omega))
      have HWM := hid (grown_newr (grown_trans HW.out (grown_some HGN.out _)) gS (by omega))
      have B2M := (gS.block _ (lt_of_block (keepB B2.out HGN.out)) (by simp; omega)).trans (keepB B2.out HGN.out)
      clear gS s0 s1 s2 f0 f1 f2 x1
      generalize ((wN.setCell _ _).setCell _ _).setCell _ _ = wM at *
      obtain ⟨s0, s1, s2, -, -, -⟩ := ratbox_facts B5N
      obtain ⟨z0, z1, z2, y0, y1, y2⟩ := ratbox_facts B2M
      have hb6 := set3_all3 B2M (.bool gN) (.slice pN nN cN) (.slice qN mN dN)
      have gS := set3_grown wM (w.heap.size + 1) (.bool gN) (.slice pN nN cN) (.slice qN mN dN)
      have HC6 := hid (HCM.out.keptr gS (by simp; omega) (fun q hq => by have := HPT.out q hq; simp; omega))
      have HQ6 := hid ((HVM.out.q).keptb (NU.of B2M noh3) gS)
      have HG7 := hid (grown_newr HWM.out gS (by omega))
      go_wp2_with fail
      clear s0 s1 s2 z0 z1 z2 y0 y1 y2
      obtain ⟨l0, l1, l2, -, -, -⟩ := ratbox_facts hb6
      clear gS hb6 B2M B5N
      generalize ((wM.setCell _ _).setCell _ _).setCell _ _ = w7 at *
      exact bodyPost_ret (v := .tuple #[.agg #[.bool gN, .slice pN nN cN, .slice qN mN dN], .bool false]) (by simp [results, Tryz.results118, go_sem, l0, l1, l2]) rfl ⟨gN, pN, nN, cN, qN, mN, dN, false, _, rfl, HG7.out, ⟨HQ6.out, by omega, by omega⟩, OkP.no ⟨jj, ee, nx, by rw [HRM.out, HR1.out]; show (if (tk L j1).d = sSlash then _ else _) = _; rw [if_pos HSL.out, HR3.out]; rfl, hjj, HC6.out⟩⟩
     | true =>
      obtain ⟨v3, jj, h1, hjj, h3, h4⟩ := HO3.out.get rfl
      have HC := hid (HCK.out _ _ _ h4)
      have HV := hid (HVK.out _ h3)
      have HR3 := hid h1
      clear h1 h3 h4
      have HNG := hid (ratNeg_v 1100 HT.out HV.out.q (by omega) (by omega) (by omega))
      obtain ⟨s0, s1, s2, f0, f1, f2⟩ := ratbox_facts B5.out
      go_upto_region 9 with (go_at_call 164; (with_reducible refine HNG.out.mono ?_); rintro e wN ⟨gN, pN, nN, cN, qN, mN, dN, rfl, hV, hnN, hmN, hg⟩; have HVN := hid hV; have HGN := hid hg; replace x1 := hg.cell x1 (by simp); clear hV s0 s1 s2 f0 f1 f2; obtain ⟨s0, s1, s2, f0, f1, f2⟩ := ratbox_facts (keepB B5.out hg); clear hg)
      have B5N := set3_all3 (keepB B5.out HGN.out) (.bool gN) (.slice pN nN cN) (.slice qN mN dN)
      have gS := set3_grown wN K5 (.bool gN) (.slice pN nN cN) (.slice qN mN dN)
      have HVM := hid (HVN.out.keptb (NU.of (keepB B5.out HGN.out) noh3) gS)
      have HCM := hid ((HC.out.keep HGN.out).keptr gS (by simp; omega) (fun q hq => by have := HPT.out q hq; simp; omega))
      have HWM := hid (grown_newr (grown_trans HW.out (grown_some HGN.out _)) gS (by omega))
      have B2M := (gS.block _ (lt_of_block (keepB B2.out HGN.out)) (by simp; omega)).trans (keepB B2.out HGN.out)
      clear gS s0 s1 s2 f0 f1 f2 x1
      generalize ((wN.setCell _ _).setCell _ _).setCell _ _ = wM at *
      obtain ⟨s0, s1, s2, -, -, -⟩ := ratbox_facts B5N
      obtain ⟨z0, z1, z2, y0, y1, y2⟩ := ratbox_facts B2M
      have hb6 := set3_all3 B2M (.bool gN) (.slice pN nN cN) (.slice qN mN dN)
      have gS := set3_grown wM (w.heap.size + 1) (.bool gN) (.slice pN nN cN) (.slice qN mN dN)
      have HC6 := hid (HCM.out.keptr gS (by simp; omega) (fun q hq => by have := HPT.out q hq; simp; omega))
      have HQ6 := hid ((HVM.out.q).keptb (NU.of B2M noh3) gS)
      have HV6 := hid ((HVM.out).keptb (NU.of B2M noh3) gS)
      have HG7 := hid (grown_newr HWM.out gS (by omega))
      go_wp2_with fail
      clear s0 s1 s2 z0 z1 z2 y0 y1 y2
      obtain ⟨l0, l1, l2, -, -, -⟩ := ratbox_facts hb6
      clear gS hb6 B2M B5N
      generalize ((wM.setCell _ _).setCell _ _).setCell _ _ = w7 at *
      exact bodyPost_ret (v := .tuple #[.agg #[.bool gN, .slice pN nN cN, .slice qN mN dN], .bool true]) (by simp [results, Tryz.results118, go_sem, l0, l1, l2]) rfl ⟨gN, pN, nN, cN, qN, mN, dN, true, _, rfl, HG7.out, ⟨HQ6.out, by omega, by omega⟩, OkP.yes ⟨_, jj, by rw [HRM.out, HR1.out]; show (if (tk L j1).d = sSlash then _ else _) = _; rw [if_pos HSL.out, HR3.out]; rfl, hjj, HV6.out, HC6.out⟩⟩
end Go.Proofs.YtjpkncgfpbhnaaaGreatDoor
namespace Go.Proofs.YtjpkncgfpbhnaaaGreatDoor
open Go.RowKit _root_.Nm Ax Px
theorem tab_with {q : Nat → Bool} {w : List UInt8} {i : Nat} {e : Ent} (he : Ax.tab[i]? = some e) (hk : e.w = w) (hs : q e.s = true) (h : ∀ j f, j < i → Ax.tab[j]? = some f → ¬ (f.w = w ∧ q f.s = true)) : kwS q w = e.k := by
  unfold kwS
  have : (Ax.tab.find? fun e => decide (e.w = w) && q e.s) = some e := by
    rw [List.find?_eq_some_iff_getElem]
    obtain ⟨hi, hie⟩ := List.getElem?_eq_some_iff.1 he
    refine ⟨by simp [hk, hs], i, hi, hie, fun j hj => ?_⟩
    have := h j Ax.tab[j] hj (List.getElem?_eq_getElem _)
    by_cases h1 : Ax.tab[j].w = w <;> simp_all
  rw [this]
theorem tab_nowith {q : Nat → Bool} {w : List UInt8} (h : ∀ j f, j < 30 → Ax.tab[j]? = some f → ¬ (f.w = w ∧ q f.s = true)) : kwS q w = 0 := by
  unfold kwS
  have : (Ax.tab.find? fun e => decide (e.w = w) && q e.s) = none := by
    rw [List.find?_eq_none]
    intro e he
    obtain ⟨i, hi, rfl⟩ := List.getElem_of_mem he
    have := h i Ax.tab[i] (by rwa [tab_len] at hi) (List.getElem?_eq_getElem _)
    simpa using this
  rw [this]
set_option maxHeartbeats 8000000 in
set_option maxRecDepth 100000 in
theorem rwith_any (d : ByteArray) (x : Nat) (w : World) : Calls Tryz.prog 72 #[.string d, .int .i64 x] w fun e w' => e = .returned (.int .i64 (kwS (fun s => decide (s = x)) d.toList : Nat)) ∧ w.grownBy w' none := by
  have HR := hid rows_any
  go_enter Tryz.func72, Tryz.ntmps72
  go_wp2_with (go_at_call 90; (with_reducible refine (HR.out _).mono ?_); rintro e w1 ⟨b, rfl, hb, hg1, hrw⟩; have HRW := hid hrw; clear hrw)
  go_loopw [9] (fun z wr => ∃ k : Nat, k ≤ 30 ∧ z = .int .i64 k ∧ w1.grownBy wr none ∧ ∀ j f, j < k → Ax.tab[j]? = some f → ¬ (f.w = d.toList ∧ decide (f.s = x) = true)) (fun z _ => 30 - (intOf z).toNat)
  case atStart => exact ⟨0, Nat.zero_le _, rfl, grown_refl _ _, fun j f h => absurd h (Nat.not_lt_zero j)⟩
  case round =>
    obtain ⟨k, hk, rfl, hg, hno⟩ := hrel
    by_cases hlt : k < 30
    · have HNO := hid hno
      clear hno
      obtain ⟨e, he⟩ := tab_at hlt
      obtain ⟨p, n, ⟨c0, c1, c2, c3⟩, hf, hr⟩ := (HRW.out.keep hg) k e he
      have HE := hid he
      clear he hf hr
      obtain ⟨⟨k0, k1, k2, k3⟩, f0, f1, f2, f3⟩ := box4 (blk0 wr (.cells #[.int .i64 0, .int .i64 0, .string ⟨#[]⟩, .slice none 0 0] 94))
      go_wp2_with fail
      · rename_i h1 h2
        go_ret
        refine ⟨?_, grown_trans hg1 (grown_trans hg (World.grownBy_alloc _ _ none))⟩
        rw [tab_with (q := fun s => decide (s = x)) HE.out h1 (by simp at h2 ⊢; omega) HNO.out]
        rfl
      · rename_i h1 h2
        refine ⟨⟨k + 1, by omega, by go_num, grown_trans hg (World.grownBy_alloc _ _ none), ?_⟩, by simp [intOf]; omega⟩
        intro j f hj hf
        by_cases h : j = k
        · subst h
          rw [HE.out] at hf
          cases hf
          simp at h2 ⊢
          intro _
          omega
        · exact HNO.out j f (by omega) hf
      · rename_i h1
        refine ⟨⟨k + 1, by omega, by go_num, grown_trans hg (World.grownBy_alloc _ _ none), ?_⟩, by simp [intOf]; omega⟩
        intro j f hj hf
        by_cases h : j = k
        · subst h
          rw [HE.out] at hf
          cases hf
          exact fun h2 => h1 h2.1
        · exact HNO.out j f (by omega) hf
    · obtain rfl : k = 30 := by omega
      go_wp2_with fail
      go_ret
      refine ⟨?_, grown_trans hg1 hg⟩
      rw [tab_nowith hno]
      rfl
end Go.Proofs.YtjpkncgfpbhnaaaGreatDoor
namespace Go.Proofs.YtjpkncgfpbhnaaaGreatDoor
open Go.RowKit _root_.Nm Lx Px
def kwL : List ByteArray := kws.map fun k => ⟨k.toArray⟩
theorem kwL_len : kwL.length = 29 := rfl
theorem kwL_mem (d : ByteArray) : d ∈ kwL ↔ d.data.toList ∈ kws := by
  unfold kwL
  rw [List.mem_map]
  constructor
  · rintro ⟨k, hk, rfl⟩
    simpa using hk
  · intro h
    exact ⟨_, h, by simp⟩
theorem KwP.nrd {w' : World} {b : Nat} (hc : ∀ j, j < 29 → w'.cell? ⟨b, j, none⟩ = some (.string ⟨(kwAt j).toArray⟩)) : NRd w' (some ⟨b, 0, none⟩) 29 29 kwL := by
  refine ⟨by simp [kwL_len], fun r hr => ?_, Nat.le_refl _, by omega, fun i hi j hj => ?_⟩
  · rw [List.mem_map] at hr
    obtain ⟨x, _, rfl⟩ := hr
    rfl
  · have hi' : i < 29 := by simpa [kwL_len] using hi
    refine ⟨b, 0, rfl, ?_⟩
    have hj0 : j = 0 := by simpa using hj
    subst hj0
    have := hc i hi'
    simp only [List.getElem_map, List.getElem_cons_zero]
    have e : kwL[i]'(by rw [kwL_len]; exact hi') = ⟨(kwAt i).toArray⟩ := by
      unfold kwL kwAt
      rw [List.getElem_map, List.getD_eq_getElem?_getD, List.getElem?_eq_getElem (show i < kws.length from hi')]
      rfl
    rw [e]
    simpa using this
set_option maxHeartbeats 4000000 in
theorem rIsN_any {t : Tok} (hT : TkOk t) (w : World) : Calls Tryz.prog 73 #[.agg #[.int .i64 t.k, .int .i64 t.pos, .int .i64 t.en, .string t.d]] w fun e w' => e = .returned (.bool (isN t)) ∧ w.grownBy w' none := by
  have hW := World.grownBy_alloc w (.cells #[.int .i64 t.k, .int .i64 t.pos, .int .i64 t.en, .string t.d] 76 (0, 0)) none
  obtain ⟨⟨k0, k1, k2, k3⟩, -⟩ := box4 (blk0 w (.cells #[.int .i64 t.k, .int .i64 t.pos, .int .i64 t.en, .string t.d] 76 (0, 0)))
  obtain ⟨V, hV⟩ : ∃ V, isN t = V := ⟨_, rfl⟩
  rw [hV]
  by_cases hk : t.k = 1
  · have hs := hT.nm.1 hk
    obtain ⟨q, hq⟩ : ∃ q : Bool, q = true ↔ t.d ∈ kwL := by
      rcases Classical.em (t.d ∈ kwL) with h | h
      · exact ⟨true, by simp [h]⟩
      · exact ⟨false, by simp [h]⟩
    have hVd : V = !q := by
      rw [← hV]
      unfold isN isNm
      rw [hs, Bool.true_and]
      congr 1
      rw [Bool.eq_iff_iff, hq, kwL_mem]
      simp
    have HK := hid rkeywords_any
    have HH := hid fun (b : Nat) (w' : World) (h : NRd w' (some ⟨b, 0, none⟩) 29 29 kwL) => has_any (some ⟨b, 0, none⟩) 29 29 kwL t.d q hq w' h
    obtain ⟨k, pos, en, d⟩ := t
    simp only at hk
    subst hk
    dsimp only at *
    clear hT hV hs
    clear hq
    subst hVd
    have e1 : (((1 : Nat)) : Int) = 1 := rfl
    simp only [e1] at k0 hW ⊢
    go_enter Tryz.func73, Tryz.ntmps73
    go_upto_region 1 with fail
    generalize (w.alloc _) = w0 at *
    go_region_held3 (fun w' => w'.cell? ⟨w.heap.size, 0, none⟩ = some (.int .i64 1) ∧ w'.cell? ⟨w.heap.size, 3, none⟩ = some (.string d) ∧ w.grownBy w' none) ((try go_split_ands) <;> (repeat' apply And.intro) <;> (first | (with_reducible assumption) | (with_reducible refine (grown_drew _ none).cell ?_ (by simp); with_reducible assumption) | (with_reducible refine grown_trans ?_ (grown_drew _ none); with_reducible assumption))) (first
      | (go_at_call 120; (with_reducible refine (HK.out _).mono ?_); rintro e w1 ⟨b, rfl, hb, hc, hg⟩; have HN := hid (KwP.nrd hc); (first | replace hW := grown_trans hW hg | replace hW := grown_trans (grown_trans hW (grown_drew _ none)) hg); replace k0 := hg.cell k0 (by simp); replace k3 := hg.cell k3 (by simp); clear hc hg hb)
      | (go_at_call 119; (with_reducible refine (HH.out _ _ HN.out).mono ?_); rintro e w2 ⟨rfl, hg⟩; replace hW := grown_trans hW hg; replace k0 := hg.cell k0 (by simp); replace k3 := hg.cell k3 (by simp); clear hg HN))
    go_wp2_with fail
    go_ret
    exact ⟨by simp, hW⟩
  · have hVf : V = false := by
      rw [← hV]
      cases h : isN t with
      | false => rfl
      | true => exact absurd (isN_name hT h) hk
    subst hVf
    have hk2 : (decide ((t.k : Int) = 1)) = false := decide_eq_false (by omega)
    have hk3 : ¬ ((t.k : Int) = 1) := by omega
    clear hT hV
    go_enter Tryz.func73, Tryz.ntmps73
    go_upto_region 1 with fail
    generalize (w.alloc _) = w0 at *
    go_quiet (fail)
    go_wp2_with fail
    go_ret
    exact ⟨by simp [hk3], grown_trans hW (grown_drewN _ _ none)⟩
theorem toList_d (d : ByteArray) : d.toList = d.data.toList := Lib.toList_data d
set_option maxHeartbeats 4000000 in
theorem rKindOf_any {t : Tok} (hT : TkOk t) (x : Nat) (w : World) : Calls Tryz.prog 38 #[.agg #[.int .i64 t.k, .int .i64 t.pos, .int .i64 t.en, .string t.d], .int .i64 x] w fun e w' => e = .returned (.int .i64 (kO (soP x) t : Nat)) ∧ w.grownBy w' none := by
  have hW := World.grownBy_alloc w (.cells #[.int .i64 t.k, .int .i64 t.pos, .int .i64 t.en, .string t.d] 76 (0, 0)) none
  obtain ⟨⟨k0, k1, k2, k3⟩, -⟩ := box4 (blk0 w (.cells #[.int .i64 t.k, .int .i64 t.pos, .int .i64 t.en, .string t.d] 76 (0, 0)))
  obtain ⟨V, hV⟩ : ∃ V, kO (soP x) t = V := ⟨_, rfl⟩
  rw [hV]
  by_cases hk : t.k = 1
  · by_cases hx : x = 0
    · subst hx
      have h23 : V = max (kO [2] t) (kO [3] t) := by rw [← hV, ← kO_none hT]; rfl
      have H2 : Hid (∀ w, Calls Tryz.prog 72 #[.string t.d, .int .i64 2] w fun e w' => e = .returned (.int .i64 (kwS (fun s => decide (s = 2)) t.d.toList : Nat)) ∧ w.grownBy w' none) := hid fun w => rwith_any t.d 2 w
      have H3 : Hid (∀ w, Calls Tryz.prog 72 #[.string t.d, .int .i64 3] w fun e w' => e = .returned (.int .i64 (kwS (fun s => decide (s = 3)) t.d.toList : Nat)) ∧ w.grownBy w' none) := hid fun w => rwith_any t.d 3 w
      have e2 : (kwS (fun s => decide (s = 2)) t.d.toList) = kO [2] t := by unfold kO; rw [toList_d]; congr 1; funext s; simp
      have e3 : (kwS (fun s => decide (s = 3)) t.d.toList) = kO [3] t := by unfold kO; rw [toList_d]; congr 1; funext s; simp
      rw [e2] at H2; rw [e3] at H3
      obtain ⟨k, pos, en, d⟩ := t
      simp only at hk
      subst hk
      dsimp only at *
      generalize kO [2] _ = a at *
      generalize kO [3] _ = b at *
      clear hT hV e2 e3
      subst h23
      go_enter Tryz.func38, Tryz.ntmps38
      go_upto_region 1 with fail
      generalize (w.alloc _) = w0 at *
      go_upto_region 4 with fail
      go_region_held3 (fun w' => w'.cell? ⟨w.heap.size, 3, none⟩ = some (.string d) ∧ w.grownBy w' none) ((try go_split_ands) <;> (repeat' apply And.intro) <;> (first | (with_reducible assumption) | (with_reducible refine (grown_drew _ none).cell ?_ (by simp); with_reducible assumption) | (with_reducible refine grown_trans ?_ (grown_drew _ none); with_reducible assumption))) (first
        | (go_at_call 72; (with_reducible refine (H2.out _).mono ?_); rintro e w1 ⟨rfl, hg⟩; (first | replace hW := grown_trans hW hg | replace hW := grown_trans (grown_trans hW (grown_drew _ none)) hg); replace k3 := hg.cell k3 (by simp); clear hg)
        | (go_at_call 72; (with_reducible refine (H3.out _).mono ?_); rintro e w2 ⟨rfl, hg⟩; (first | replace hW := grown_trans hW hg | replace hW := grown_trans (grown_trans hW (grown_drew _ none)) hg); replace k3 := hg.cell k3 (by simp); clear hg))
      all_goals go_wp2_with fail
      all_goals go_ret
      all_goals refine ⟨?_, hW⟩
      all_goals show Ending.returned (Value.int .i64 (max (a : Int) (b : Int))) = Ending.returned (Value.int .i64 ((max a b : Nat) : Int))
      all_goals congr 2
      all_goals omega
    · have H2 := hid fun w => rwith_any t.d x w
      have e2 : (kwS (fun s => decide (s = x)) t.d.toList) = kO (soP x) t := by unfold kO soP; rw [if_neg hx, toList_d]; congr 1; funext s; simp
      rw [e2, hV] at H2
      have hx2 : ¬ ((x : Int) = 0) := by omega
      obtain ⟨k, pos, en, d⟩ := t
      simp only at hk
      subst hk
      dsimp only at *
      clear hT hV e2
      go_enter Tryz.func38, Tryz.ntmps38
      go_upto_region 1 with fail
      generalize (w.alloc _) = w0 at *
      go_wp2_with (go_at_call 72; (with_reducible refine (H2.out _).mono ?_); rintro e w1 ⟨rfl, hg⟩; replace hW := grown_trans hW hg; clear hg)
      go_ret
      exact ⟨rfl, hW⟩
  · have hVf : V = 0 := by
      rw [← hV]
      rcases Nat.eq_zero_or_pos (kO (soP x) t) with h | h
      · exact h
      · exact absurd (kO_name hT (fun e => by rw [e] at h; exact absurd h (Nat.lt_irrefl 0))) hk
    subst hVf
    have hk3 : ¬ ((t.k : Int) = 1) := by omega
    clear hT hV
    go_enter Tryz.func38, Tryz.ntmps38
    go_upto_region 1 with fail
    generalize (w.alloc _) = w0 at *
    go_wp2_with fail
    go_ret
    exact ⟨rfl, hW⟩
theorem chunk7 : ∀ (n : Nat) (A : List Value), A.length = n * 7 → ∃ rows : List (List Value), rows.flatten = A ∧ rows.length = n ∧ ∀ r ∈ rows, r.length = 7
  | 0, A, h => ⟨[], by simp [List.eq_nil_of_length_eq_zero (show A.length = 0 by omega)], rfl, by simp⟩
  | n + 1, A, h => by
    obtain ⟨rows, h1, h2, h3⟩ := chunk7 n (A.drop 7) (by simp; omega)
    refine ⟨A.take 7 :: rows, by rw [List.flatten_cons, h1, List.take_append_drop], by simp [h2], fun r hr => ?_⟩
    rcases List.mem_cons.1 hr with rfl | h4
    · simp; omega
    · exact h3 r h4
theorem infoExprP : (Tryz.prog.info? 38).map (fun i => (i.zero, i.size, i.bytes)) = some (some (.agg #[.int .i64 0, .string ⟨#[]⟩, .bool false, .slice none 0 0, .slice none 0 0, .slice none 0 0, .int .i64 0]), 7, 112) := by kernel_rfl
theorem exprZP : (Value.agg #[.int .i64 0, .string ⟨#[]⟩, .bool false, .slice none 0 0, .slice none 0 0, .slice none 0 0, .int .i64 0]).cells.size = 7 := by kernel_rfl
theorem run_make_exprs (n : Nat) (hn : n ≤ 1000) :
    ∃ rows : List (List Value), rows.length = n ∧ ((∀ r ∈ rows, r.length = 7) ∧ ∀ r ∈ rows, ∀ v ∈ r, NoH v) ∧ ∀ w : World, (Instr.makeSlice 36 (.int .i64 (n : Int)) (.int .i64 (n : Int))).run Tryz.prog w = .ok (.slice (some ⟨w.heap.size, 0, none⟩) n n) (w.alloc (.cells rows.flatten.toArray 38)) := by
  obtain ⟨i, hi, hz0, hz1, hz2⟩ := info_parts infoExprP
  have hb : (i.bytes : Int) * (n : Int) ≤ 281474976710656 := by rw [hz2]; omega
  generalize hA : madeCells (Value.agg #[.int .i64 0, .string ⟨#[]⟩, .bool false, .slice none 0 0, .slice none 0 0, .slice none 0 0, .int .i64 0]).cells (n * 7) = A
  have hsz : A.toList.length = n * 7 := by rw [← hA]; simp [size_madeCells]
  obtain ⟨rows, h1, h2, h3⟩ := chunk7 n A.toList hsz
  refine ⟨rows, h2, ⟨h3, fun r hr v hv => ?_⟩, fun w => ?_⟩
  · have hv1 : v ∈ A.toList := by rw [← h1]; exact List.mem_flatten.2 ⟨r, hr, hv⟩
    rw [← hA] at hv1
    unfold madeCells at hv1
    obtain ⟨i, _, rfl⟩ := Array.mem_map.1 (Array.mem_toList_iff.1 hv1)
    have : i % 7 < 7 := Nat.mod_lt _ (by decide)
    show NoH (#[Value.int .i64 0, .string ⟨#[]⟩, .bool false, .slice none 0 0, .slice none 0 0, .slice none 0 0, .int .i64 0][i % 7]!)
    match h : i % 7, this with
    | 0, _ => exact NoH.int _
    | 1, _ => exact NoH.str _
    | 2, _ => exact NoH.bool _
    | 3, _ => exact NoH.slice _ _ _
    | 4, _ => exact NoH.slice _ _ _
    | 5, _ => exact NoH.slice _ _ _
    | 6, _ => exact NoH.int _
  have hr := run_make (P := Tryz.prog) w 36 38 i (.agg #[.int .i64 0, .string ⟨#[]⟩, .bool false, .slice none 0 0, .slice none 0 0, .slice none 0 0, .int .i64 0]) Tryz.underlying36 hi hz0 .i64 .i64 n n (by omega) (by omega) hb (by omega)
  simp only [Int.toNat_natCast] at hr
  rw [hz1, hA] at hr
  rw [hr, h1]
def ArP (X : Nat → Prop) (w : World) (b : Nat) (p : Option Addr) (c : Nat) (L : List Tok) (at' er : Int) (m n : Nat) (r : Rs (List Tr)) (e : Ending) (w' : World) : Prop :=
  ∃ (g : Nat) (ok : Bool), e = .returned (.tuple #[.slice (some ⟨g, 0, none⟩) n n, .bool ok]) ∧ w.heap.size ≤ g ∧ w.grownBy w' (some b) ∧
    OkP ok (fun w' => ∃ tl j, r = .ok tl j ∧ j < L.length ∧ ARdX X w' m (some ⟨g, 0, none⟩) n n tl ∧ CurAt w' b p c L j at' er)
      (fun w' => ∃ j er' nx, r = .bad j er' ∧ j < L.length ∧ CurAt w' b p c L nx (tk L j).pos er') w'
theorem ok_b8 {K : AgK} {n : Nat} {ok : Bool} {w : World} (h : OkP ok (K.M n) K.Fl w) : w.cell? ⟨K.n8, 0, none⟩ = some (.slice (some ⟨K.g, 0, none⟩) K.ps.length K.ps.length) := by
  cases ok with
  | true => obtain ⟨tl, j, _, h2, _⟩ := h.get rfl; exact (box1e h2.b8).1
  | false => obtain ⟨j, e, nx, _, _, _, _, h2⟩ := h.bad (by simp); exact (box1e h2).1
theorem ok_gr {K : AgK} {n : Nat} {ok : Bool} {w : World} (h : OkP ok (K.M n) K.Fl w) : K.w0.grownBy w (some K.b) := by
  cases ok with
  | true => obtain ⟨tl, j, _, h2, _⟩ := h.get rfl; exact h2.gr
  | false => obtain ⟨j, e, nx, _, _, _, h2, _⟩ := h.bad (by simp); exact h2
theorem ok_fin {K : AgK} (hK : K.Ok) {ok : Bool} {w : World} (hm : K.ps.length ≤ 1000) (h : OkP ok (K.M K.ps.length) K.Fl w) :
    OkP ok (fun w' => ∃ tl j, K.R = .ok tl j ∧ j < K.L.length ∧ ARdX K.X w' K.m (some ⟨K.g, 0, none⟩) K.ps.length K.ps.length tl ∧ CurAt w' K.b K.p K.c K.L j K.at' K.er)
      (fun w' => ∃ j er' nx, K.R = .bad j er' ∧ j < K.L.length ∧ CurAt w' K.b K.p K.c K.L nx (tk K.L j).pos er') w := by
  cases ok with
  | true =>
    obtain ⟨tl, j, h1, h2, h3⟩ := h.get rfl
    have hR : K.R = .ok tl j := by
      have he : (if K.ps.length = 0 then argsL K.rd K.L K.ps j else argsM K.rd K.L sComma (K.ps.drop K.ps.length) j) = .ok [] j := by
        split
        · rename_i h0
          rw [List.eq_nil_of_length_eq_zero h0]
          rfl
        · rw [List.drop_length]
          rfl
      rw [h3, he]
      show Rs.ok (tl ++ []) j = _
      rw [List.append_nil]
    obtain ⟨rows, e1, e2, e3⟩ := h2.rows
    exact OkP.yes ⟨tl, j, hR, h2.jl, e3.ard (X := K.X) (fun b hb => .inl hb) e1 e2 ⟨Nat.le_refl _, by omega⟩ (fun hx => by have := hK.hX _ hx; have := hK.hg; omega), h2.cur⟩
  | false =>
    obtain ⟨j, e, nx, h1, h2, h3, _⟩ := h.bad (by simp)
    exact OkP.no ⟨j, e, nx, h1, h2, h3⟩
set_option maxHeartbeats 16000000 in
theorem arguments_any {rd : Nat → List Nat → Rs Tr} {dep : Int} {L : List Tok} {m : Nat} (hL : LkOk L) (hA : ArgC rd dep L m) (w : World) (X : Nat → Prop) (b : Nat) (p : Option Addr) (c : Nat) (at' er : Int) (j : Nat) (ps : List Nat) (pp : Option Addr) (np cp : Nat)
    (hX : ∀ k, X k → k < w.heap.size) (hb : X b) (Tq : Tb w) (hNU : ∀ k, X k → NU w k) (hC : CurAt w b p c L j at' er) (hj : j < L.length) (hI : IRd w .i64 pp np cp ps) (hpb : ∀ a, pp = some a → a.block ≠ b) (hpl : ∀ a, pp = some a → a.block < w.heap.size) (hpt : ∀ q, p = some q → q.block < w.heap.size) (hn : ps.length ≤ 1000) :
    Calls Tryz.prog 116 #[.agg #[.pointer (some ⟨b, 0, none⟩)], .int .i64 dep, .slice pp np cp] w (ArP X w b p c L at' er m np (argsL rd L ps j)) := by
  obtain rfl := hI.len
  obtain ⟨rows, hr1, hr2, hmk⟩ := run_make_exprs ps.length hn
  have hb0 := hX _ hb
  obtain ⟨wB, hwB⟩ : ∃ wB, wB = ((w.alloc (.cells #[.pointer (some ⟨b, 0, none⟩)] 79 (0, 0))).alloc (.cells #[.int .i64 dep] 3 (0, 0))).alloc (.cells #[.slice pp ps.length cp] 47 (0, 0)) := ⟨_, rfl⟩
  have gB : w.grownBy wB none := by rw [hwB]; exact grown_trans (World.grownBy_alloc _ _ _) (grown_trans (World.grownBy_alloc _ _ _) (World.grownBy_alloc _ _ _))
  have sB : wB.heap.size = w.heap.size + 3 := by rw [hwB]; simp
  have b3 : wB.heap[w.heap.size]? = some (.cells #[.pointer (some ⟨b, 0, none⟩)] 79 (0, 0)) := by rw [hwB]; exact keepB (keepB (blk0 w _) (World.grownBy_alloc _ _ _)) (World.grownBy_alloc _ _ _)
  have b4 : wB.heap[w.heap.size + 1]? = some (.cells #[.int .i64 dep] 3 (0, 0)) := by
    rw [hwB]
    have := keepB (blk0 (w.alloc (.cells #[.pointer (some ⟨b, 0, none⟩)] 79 (0, 0))) (.cells #[.int .i64 dep] 3 (0, 0))) (World.grownBy_alloc _ (.cells #[.slice pp ps.length cp] 47 (0, 0)) none)
    simpa using this
  have b5 : wB.heap[w.heap.size + 2]? = some (.cells #[.slice pp ps.length cp] 47 (0, 0)) := by
    rw [hwB]
    have := blk0 ((w.alloc (.cells #[.pointer (some ⟨b, 0, none⟩)] 79 (0, 0))).alloc (.cells #[.int .i64 dep] 3 (0, 0))) (.cells #[.slice pp ps.length cp] 47 (0, 0))
    simpa using this
  obtain ⟨x3, -⟩ := box1e b3
  obtain ⟨x5, -⟩ := box1e b5
  replace hwB := hid hwB
  go_enter Tryz.func116, Tryz.ntmps116
  go_upto_region 1 with fail
  rw [← hwB.out]
  obtain ⟨i8, j8⟩ := box1e (blk0 (wB.alloc (.cells rows.flatten.toArray 38)) (.cells #[.slice none 0 0] 36 (0, 0)))
  go_upto_region 2 with fail
  obtain ⟨wD, hwD⟩ : ∃ wD, wD = (wB.alloc (.cells rows.flatten.toArray 38)).alloc (.cells #[.slice (some ⟨w.heap.size + 3, 0, none⟩) ps.length ps.length] 36 (0, 0)) := ⟨_, rfl⟩
  rw [← hwD]
  have gD : wB.grownBy wD none := by rw [hwD]; exact grown_trans (World.grownBy_alloc _ _ _) (World.grownBy_alloc _ _ _)
  have bg : wD.heap[w.heap.size + 3]? = some (.cells rows.flatten.toArray 38 (0, 0)) := by
    rw [hwD, ← sB]
    exact keepB (blk0 wB _) (World.grownBy_alloc _ _ _)
  have b8 : wD.heap[w.heap.size + 4]? = some (.cells #[.slice (some ⟨w.heap.size + 3, 0, none⟩) ps.length ps.length] 36 (0, 0)) := by
    rw [hwD]
    have := blk0 (wB.alloc (.cells rows.flatten.toArray 38)) (.cells #[.slice (some ⟨w.heap.size + 3, 0, none⟩) ps.length ps.length] 36 (0, 0))
    simpa [sB] using this
  have hw8 : (wB.alloc (.cells rows.flatten.toArray 38)).heap.size = w.heap.size + 4 := by simp [sB]
  replace b3 := keepB b3 gD; replace b4 := keepB b4 gD; replace b5 := keepB b5 gD
  have gw := grown_trans gB gD
  have hKO : AgK.Ok ⟨w, X, b, p, c, L, at', er, m, ps, pp, cp, w.heap.size, w.heap.size + 1, w.heap.size + 2, w.heap.size + 3, w.heap.size + 4, dep, argsL rd L ps j, rd⟩ :=
    ⟨hX, hb, Nat.le_refl _, Nat.le_succ _, by show w.heap.size ≤ w.heap.size + 2; omega, by show w.heap.size ≤ w.heap.size + 3; omega, by show w.heap.size ≤ w.heap.size + 4; omega, by show w.heap.size ≠ w.heap.size + 3; omega, by show w.heap.size + 1 ≠ w.heap.size + 3; omega, by show w.heap.size + 2 ≠ w.heap.size + 3; omega, by show w.heap.size + 4 ≠ w.heap.size + 3; omega,
      fun a ha => ⟨hpb a ha, by have := hpl a ha; show a.block ≠ w.heap.size + 3; omega⟩, hL, fun q hq => by have := hpt q hq; show q.block ≠ w.heap.size + 3; omega⟩
  have hM0 : AgK.M ⟨w, X, b, p, c, L, at', er, m, ps, pp, cp, w.heap.size, w.heap.size + 1, w.heap.size + 2, w.heap.size + 3, w.heap.size + 4, dep, argsL rd L ps j, rd⟩ 0 wD :=
    ⟨[], j, rfl, ⟨grown_some gw _, hC.keep gw, hj, b3, b4, b5, b8, ⟨rows, ⟨bg, hr2.1, hr2.2⟩, hr1, rfl, fun i _ hi => absurd hi (Nat.not_lt_zero i)⟩, hI.keep gw, fun k hk => (hNU k hk).kept (hX k hk) gw (by simp), Tq.keep gw⟩, by rw [if_pos rfl]; exact (Rs.map_id' _ _ (fun a => rfl)).symm⟩
  have HLI := hid (list_any b ps.length (.pointer (some ⟨w.heap.size, 0, none⟩)) (.pointer (some ⟨w.heap.size + 1, 0, none⟩)) (.pointer (some ⟨w.heap.size + 2, 0, none⟩)) (.pointer (some ⟨w.heap.size + 4, 0, none⟩)) _ _ _ (AgK.M0 _) (fun k w' h0 hk h => AgK.comma hKO h0 hk h hL.len) (fun k w' hk h => closure_any hKO hA hk h) hn wD hM0)
  obtain ⟨x3, -⟩ := box1e b3
  obtain ⟨x8, -⟩ := box1e b8
  have HKO := hid hKO
  clear b3 b4 b5 b8 bg hKO hM0 i8 j8 hmk hr1 hr2 hwB hwD gB gD hA hC hI x5
  go_wp2_with (go_at_call 129; (with_reducible refine (HLI.out).mono ?_); rintro e w5 ⟨ok, rfl, ho⟩; have x8n : w5.cell? ⟨w.heap.size + 3 + 1, 0, none⟩ = some (.slice (some ⟨w.heap.size + 3, 0, none⟩) ps.length ps.length) := ok_b8 ho; have HO := hid ho; clear ho x8 x3)
  exact bodyPost_ret (v := .tuple #[.slice (some ⟨w.heap.size + 3, 0, none⟩) ps.length ps.length, .bool ok]) (by simp [results, Tryz.results116, go_sem]) rfl ⟨w.heap.size + 3, ok, rfl, by omega, ok_gr HO.out, ok_fin HKO.out hn HO.out⟩
end Go.Proofs.YtjpkncgfpbhnaaaGreatDoor
namespace Go.Proofs.YtjpkncgfpbhnaaaGreatDoor
open Go.RowKit _root_.Nm Ax Px
theorem knd_le (w : List UInt8) : knd w ≤ 68 := by
  unfold knd
  cases h : tab.find? fun e => decide (e.w = w) with
  | none => exact Nat.zero_le _
  | some e => exact (tab_good e (List.mem_of_find?_eq_some h)).2.2.2
set_option maxHeartbeats 8000000 in
set_option maxRecDepth 100000 in
theorem pKindOf_any (d : ByteArray) (p : Option Addr) (n c : Nat) (xs : List Nat) (w : World) (h : IRd w .i64 p n c xs) :
    Calls Tryz.prog 68 #[.string d, .slice p n c] w fun e w' => e = .returned (.int .i64 (kwS (fun s => decide (s ∈ xs)) d.toList : Nat)) ∧ w.grownBy w' none := by
  have HK := hid (kind_any d w)
  have HWD := hid astWord_any
  have HST := hid sort_any
  have HCT := hid fun (m : Nat) (W : World) (hW : w.grownBy W none) => contains_any p n c xs m W (h.keep hW)
  have H0 := hid (fun hz => kwS_none (fun s => decide (s ∈ xs)) (w := d.toList) hz)
  have H1 := hid (fun hz => kwS_at (fun s => decide (s ∈ xs)) (w := d.toList) hz)
  have H68 := hid (knd_le d.toList)
  clear h
  go_enter Tryz.func68, Tryz.ntmps68
  go_wp2_with (go_at_call 114; (with_reducible refine HK.out.mono ?_); rintro e w1 ⟨rfl, hg1⟩)
  have HG := hid hg1
  clear hg1
  go_loopw [5] (fun z wr => ∃ k : Nat, k ≤ 69 ∧ z = .int .i64 k ∧ w.grownBy wr none ∧ (k = 0 → kwS (fun s => decide (s ∈ xs)) d.toList = 0) ∧ (k ≠ 0 → kAt (fun s => decide (s ∈ xs)) d.toList (69 - k) k = kwS (fun s => decide (s ∈ xs)) d.toList)) (fun z _ => 69 - (intOf z).toNat)
  case atStart => exact ⟨_, by have := H68.out; omega, rfl, HG.out, H0.out, H1.out⟩
  case round =>
    obtain ⟨k, hk, rfl, hg, hz, hn⟩ := hrel
    by_cases hin : 1 ≤ k ∧ k ≤ 68
    · have hn' := hn (by omega)
      rw [show 69 - k = (68 - k) + 1 by omega] at hn'
      unfold kAt at hn'
      have HN := hid hn'
      obtain ⟨h1, h2⟩ := hin
      clear hz hn hn'
      obtain ⟨sb, hsb⟩ : ∃ sb, decide (srt (k : Int) ∈ xs) = sb := ⟨_, rfl⟩
      rw [hsb] at HN
      have HSB := hid hsb
      clear hsb
      cases sb
      all_goals
        go_wp2_with (first | (go_at_call 95; (with_reducible refine (HWD.out _ _).mono ?_); rintro e w2 ⟨rfl, hg2⟩; replace hg := grown_trans hg hg2) | (go_at_call 51; (with_reducible refine (HST.out _ _).mono ?_); rintro e w3 ⟨rfl, hg3⟩; replace hg := grown_trans hg hg3) | (go_at_call 115; (with_reducible refine (HCT.out _ _ hg).mono ?_); rintro e w4 ⟨rfl, rfl⟩; rw [HSB.out]))
      · have hcond : ¬ (decide (wrd (k : Int) = d.toList) && false) = true := by simp
        have hN := HN.out
        rw [if_neg hcond] at hN
        exact ⟨⟨k + 1, by omega, by go_num, hg, fun h => by omega, fun _ => by rw [show 69 - (k + 1) = 68 - k by omega]; exact hN⟩, by simp [intOf]; omega⟩
      · have hcond : ¬ (decide (wrd (k : Int) = d.toList) && false) = true := by simp
        have hN := HN.out
        rw [if_neg hcond] at hN
        exact ⟨⟨k + 1, by omega, by go_num, hg, fun h => by omega, fun _ => by rw [show 69 - (k + 1) = 68 - k by omega]; exact hN⟩, by simp [intOf]; omega⟩
      · rename_i hx
        exfalso
        rcases hx with hx | hx
        · simp at hx; omega
        · omega
      · rename_i hx
        have hcond : (decide (wrd (k : Int) = d.toList) && true) = true := by simp [hx]
        have hN := HN.out
        rw [if_pos hcond] at hN
        go_ret
        exact ⟨by rw [← hN]; rfl, hg⟩
      · rename_i hx
        have hcond : ¬ (decide (wrd (k : Int) = d.toList) && true) = true := by simp [hx]
        have hN := HN.out
        rw [if_neg hcond] at hN
        exact ⟨⟨k + 1, by omega, by go_num, hg, fun h => by omega, fun _ => by rw [show 69 - (k + 1) = 68 - k by omega]; exact hN⟩, by simp [intOf]; omega⟩
      · rename_i hx
        exfalso
        rcases hx with hx | hx
        · simp at hx; omega
        · omega
    · by_cases h0 : k = 0
      · subst h0
        have HZ := hid (hz rfl)
        clear hz hn hin
        go_wp2_with fail
        go_ret
        exact ⟨by rw [HZ.out]; rfl, hg⟩
      · obtain rfl : k = 69 := by omega
        have HZ := hid (hn h0)
        clear hz hn hin
        go_wp2_with fail
        go_ret
        exact ⟨by rw [← HZ.out]; rfl, hg⟩
end Go.Proofs.YtjpkncgfpbhnaaaGreatDoor
