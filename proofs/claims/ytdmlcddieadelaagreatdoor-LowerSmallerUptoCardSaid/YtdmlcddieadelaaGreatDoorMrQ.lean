/-
  SmA FcB SmB SmC SmD, in one text.
-/
import Derived.Test.YtdmlcddieadelaaGreatDoorMrP
import Derived.Test.YtdmlcddieadelaaGreatDoorMrF
import Derived.Test.YtdmlcddieadelaaGreatDoorMrT
import Derived.Test.YtdmlcddieadelaaGreatDoorMrN
import Derived.Deep.RegionHeld3

set_option linter.unusedVariables false
set_option linter.unusedSimpArgs false
namespace Go.Proofs.YtdmlcddieadelaaGreatDoor
open Go.RowKit Go.Maps _root_.Nm Lx
theorem mk1_why {e : Nat} {bs : List Bool} {z : Int} {q : Nat} (h : (mk1 e bs z).getD q false = true) : bs.getD q false = true ∨ ((q : Int) = z ∧ q < e) := by
  unfold mk1 at h
  split at h
  · rename_i hz
    by_cases hq : q = z.toNat
    · exact .inr ⟨by omega, by omega⟩
    · left
      rw [List.getD_eq_getElem?_getD, List.getElem?_set_ne (by omega)] at h
      rw [List.getD_eq_getElem?_getD]
      exact h
  · exact .inl h
theorem mkL_why {e : Nat} {q : Nat} : ∀ (zs : List Int) (bs : List Bool), (mkL e bs zs).getD q false = true → bs.getD q false = true ∨ ((q : Int) ∈ zs ∧ q < e)
  | [], _, h => .inl h
  | z :: zs, bs, h => by
    have h' : (mkL e (mk1 e bs z) zs).getD q false = true := h
    rcases mkL_why zs _ h' with h1 | ⟨h1, h2⟩
    · rcases mk1_why h1 with h3 | ⟨h3, h4⟩
      · exact .inl h3
      · exact .inr ⟨by rw [h3]; exact List.mem_cons_self, h4⟩
    · exact .inr ⟨List.mem_cons_of_mem _ h1, h2⟩
theorem mkL_up {e : Nat} {q : Nat} : ∀ (zs : List Int) (bs : List Bool), bs.getD q false = true → (mkL e bs zs).getD q false = true
  | [], _, h => h
  | z :: zs, bs, h => by
    show (mkL e (mk1 e bs z) zs).getD q false = true
    refine mkL_up zs _ ?_
    unfold mk1
    split
    · rw [List.getD_eq_getElem?_getD] at h ⊢
      by_cases hq : q = z.toNat
      · subst hq
        have hl : z.toNat < bs.length := by
          rcases Nat.lt_or_ge z.toNat bs.length with h1 | h1
          · exact h1
          · rw [List.getElem?_eq_none h1] at h
            simp at h
        rw [List.getElem?_set_self hl]
        rfl
      · rw [List.getElem?_set_ne (by omega)]
        exact h
    · exact h
theorem dnF_up {A : Nat → List Int} {q : Nat} : ∀ (k : Nat) (bs : List Bool), bs.getD q false = true → (dnF A bs k).getD q false = true
  | 0, _, h => h
  | k + 1, bs, h => by
    show (dnF A (stp A bs k) k).getD q false = true
    refine dnF_up k _ ?_
    unfold stp
    split
    · exact mkL_up _ _ h
    · exact h
theorem dnF_why {A : Nat → List Int} {q : Nat} : ∀ (k : Nat) (bs : List Bool), (dnF A bs k).getD q false = true → bs.getD q false = true ∨ ∃ i, i < k ∧ q < i ∧ (q : Int) ∈ A i ∧ (dnF A bs k).getD i false = true
  | 0, _, h => .inl h
  | k + 1, bs, h => by
    have h' : (dnF A (stp A bs k) k).getD q false = true := h
    rcases dnF_why k _ h' with h1 | ⟨i, h1, h2, h3, h4⟩
    · unfold stp at h1
      split at h1
      · rename_i hk
        rcases mkL_why _ _ h1 with h2 | ⟨h2, h3⟩
        · exact .inl h2
        · exact .inr ⟨k, by omega, h3, h2, dnF_up (k + 1) bs hk⟩
      · exact .inl h1
    · exact .inr ⟨i, by omega, h2, h3, h4⟩
theorem ndF_why {A : Nat → List Int} {n : Nat} {ps : List Int} {q : Nat} (h : (ndF A n ps).getD q false = true) : (q : Int) ∈ ps ∨ ∃ i, i < n ∧ q < i ∧ (q : Int) ∈ A i ∧ (ndF A n ps).getD i false = true := by
  unfold ndF at h ⊢
  rcases dnF_why _ _ h with h1 | h1
  · rcases mkL_why _ _ h1 with h2 | ⟨h2, _⟩
    · rw [List.getD_eq_getElem?_getD, List.getElem?_replicate] at h2
      split at h2 <;> simp at h2
    · exact .inl h2
  · exact .inr h1
/-- the list of the numbers below m -/
def rgL (m : Nat) : List Int := (List.range m).map Int.ofNat
theorem rgL_len (m : Nat) : (rgL m).length = m := by simp [rgL]
theorem rgL_at {m j : Nat} (hj : j < (rgL m).length) : (rgL m)[j] = (j : Int) := by simp [rgL]
theorem rgL_succ (m : Nat) : rgL (m + 1) = rgL m ++ [(m : Int)] := by simp [rgL, List.range_succ]
theorem ndL_all {F : List Bool} : ∀ m, (∀ j, j < m → F.getD j false = true) → ndL F m = rgL m
  | 0, _ => rfl
  | m + 1, h => by
    unfold ndL
    rw [if_pos (h m (by omega)), ndL_all m (fun j hj => h j (by omega)), rgL_succ]
theorem rgL_mem {m : Nat} {z : Int} : z ∈ rgL m ↔ 0 ≤ z ∧ z < (m : Int) := by
  unfold rgL
  rw [List.mem_map]
  constructor
  · rintro ⟨i, h1, rfl⟩
    have := List.mem_range.1 h1
    show (0 : Int) ≤ ((i : Nat) : Int) ∧ ((i : Nat) : Int) < (m : Int)
    omega
  · rintro ⟨h1, h2⟩
    exact ⟨z.toNat, List.mem_range.2 (by omega), by show ((z.toNat : Nat) : Int) = z; omega⟩
theorem asc_nodup {L : List Int} (h : L.Pairwise (· < ·)) : L.Nodup := h.imp (fun h => by omega)
theorem idx_get {L : List Int} (h : L.Pairwise (· < ·)) {j : Nat} (hj : j < L.length) : L.idxOf L[j] = j := by
  have h1 : L.idxOf L[j] < L.length := List.idxOf_lt_length_iff.2 (List.getElem_mem hj)
  have h2 : L[L.idxOf L[j]] = L[j] := List.getElem_idxOf h1
  rcases Nat.lt_trichotomy (L.idxOf L[j]) j with h3 | h3 | h3
  · have := List.pairwise_iff_getElem.1 h _ _ h1 hj h3
    omega
  · exact h3
  · have := List.pairwise_iff_getElem.1 h _ _ hj h1 h3
    omega
theorem asc_lt {L : List Int} (h : L.Pairwise (· < ·)) {i j : Nat} (hi : i < L.length) (hj : j < L.length) (hlt : L[i] < L[j]) : i < j := by
  rcases Nat.lt_trichotomy i j with h3 | h3 | h3
  · exact h3
  · subst h3; omega
  · have := List.pairwise_iff_getElem.1 h _ _ hj hi h3
    omega
theorem rgL_asc (m : Nat) : (rgL m).Pairwise (· < ·) := by
  rw [List.pairwise_iff_getElem]
  intro i j hi hj hij
  rw [rgL_at, rgL_at]
  omega
theorem idx_rg {m : Nat} {z : Int} (hz : z ∈ rgL m) : ((rgL m).idxOf z : Int) = z := by
  have h0 := rgL_mem.1 hz
  have hl : z.toNat < (rgL m).length := by rw [rgL_len]; omega
  have h1 := idx_get (rgL_asc m) hl
  rw [rgL_at hl] at h1
  have h2 : ((z.toNat : Nat) : Int) = z := by omega
  rw [h2] at h1
  omega
theorem plc_rg {m : Nat} {zs : List Int} (h : ∀ z ∈ zs, z ∈ rgL m) : plc (rgL m) zs = zs := by
  unfold plc
  have e : zs.map (fun z => ((rgL m).idxOf z : Int)) = zs.map id := List.map_congr_left fun z hz => idx_rg (h z hz)
  rw [e, List.map_id]
theorem plc_mem {L zs : List Int} {z : Int} (h : z ∈ zs) : (L.idxOf z : Int) ∈ plc L zs := List.mem_map.2 ⟨z, h, rfl⟩
theorem plc_in {L zs : List Int} (h : ∀ z ∈ zs, z ∈ L) : ∀ y ∈ plc L zs, 0 ≤ y ∧ y < (L.length : Int) := by
  intro y hy
  obtain ⟨z, hz, rfl⟩ := List.mem_map.1 hy
  have := List.idxOf_lt_length_iff.2 (h z hz)
  omega
theorem plc_low {L zs : List Int} (hL : L.Pairwise (· < ·)) {j : Nat} (hj : j < L.length) (h : ∀ z ∈ zs, z ∈ L ∧ z < L[j]) : ∀ y ∈ plc L zs, 0 ≤ y ∧ y < (j : Int) := by
  intro y hy
  obtain ⟨z, hz, rfl⟩ := List.mem_map.1 hy
  obtain ⟨h1, h2⟩ := h z hz
  have h3 := List.idxOf_lt_length_iff.2 h1
  have h4 : L[L.idxOf z] = z := List.getElem_idxOf h3
  have := asc_lt hL h3 hj (by omega)
  omega
/-- the arguments of the pruned figure -/
def prA (L : List Int) (A : Nat → List Int) (j : Nat) : List Int := plc L (A (L.getD j 0).toNat)
/-- all points of the pruned figure are needed -/
theorem prune_all {A : Nat → List Int} {n : Nat} {ps : List Int} {L : List Int} (hL : L = ndL (ndF A n ps) n) :
    ∀ j, j < L.length → (ndF (prA L A) L.length (plc L ps)).getD j false = true := by
  have hasc : L.Pairwise (· < ·) := by rw [hL]; exact ndL_asc _ _
  have key : ∀ t j, L.length - j ≤ t → j < L.length → (ndF (prA L A) L.length (plc L ps)).getD j false = true := by
    intro t
    induction t with
    | zero => intro j h1 h2; omega
    | succ t ih =>
      intro j h1 hj
      have hm : L[j] ∈ ndL (ndF A n ps) n := by rw [← hL]; exact List.getElem_mem hj
      obtain ⟨i, hi, he, hF⟩ := (ndL_mem _ _ _).1 hm
      have hid : L.idxOf (i : Int) = j := by rw [← he]; exact idx_get hasc hj
      rcases ndF_why hF with h2 | ⟨i', h2, h3, h4, h5⟩
      · refine ndF_has ?_ hj
        have := plc_mem (L := L) h2
        rw [hid] at this
        exact this
      · have hm' : (i' : Int) ∈ L := by rw [hL]; exact (ndL_mem _ _ _).2 ⟨i', h2, rfl, h5⟩
        obtain ⟨j', hj', he'⟩ := List.mem_iff_getElem.1 hm'
        have hlt : j < j' := asc_lt hasc hj hj' (by rw [he, he']; omega)
        refine ndF_closed hj' (ih j' (by omega) hj') ?_ hlt
        unfold prA
        rw [List.getD_eq_getElem?_getD, List.getElem?_eq_getElem hj', Option.getD_some, he', Int.toNat_natCast]
        have := plc_mem (L := L) h4
        rw [hid] at this
        exact this
  exact fun j hj => key _ j (Nat.le_refl _) hj
theorem prune_needs {A : Nat → List Int} {n : Nat} {ps : List Int} {L : List Int} (hL : L = ndL (ndF A n ps) n) :
    ndL (ndF (prA L A) L.length (plc L ps)) L.length = rgL L.length := ndL_all _ (prune_all hL)
end Go.Proofs.YtdmlcddieadelaaGreatDoor

set_option linter.unusedVariables false
set_option linter.unusedSimpArgs false
namespace Go.Proofs.YtdmlcddieadelaaGreatDoor
open Go.RowKit _root_.Nm
theorem ratF_both {w : World} (Tq : Tb w) (z g : Bool) {p1 p2 : Option Addr} {n1 c1 n2 c2 : Nat} {xs ys : List Nat} (hr0 : IRd w .u16 p1 n1 c1 xs) (hx : Dg 65536 xs) (hr1 : IRd w .u16 p2 n2 c2 ys) (hy : Dg 65536 ys) (hn : n1 ≤ 1048576) (hm : n2 ≤ 1048576) :
    ∃ R, RatF w z g p1 n1 c1 p2 n2 c2 R := by
  cases z
  · exact ⟨_, { right := fun h => (by cases h), rright := fun h => (by cases h), none := fun _ => rfl }⟩
  · obtain ⟨r, h1, h2, _⟩ := right3_full Tq g hr0 hx hr1 hy (by omega) (by omega)
    exact ⟨r, { right := fun _ => h1, rright := fun _ => h2, none := fun h => (by cases h) }⟩
theorem ex_boolF (P : Prop) : ∃ b : Bool, b = true ↔ P := by
  by_cases h : P
  · exact ⟨true, by simp [h]⟩
  · exact ⟨false, by simp [h]⟩
end Go.Proofs.YtdmlcddieadelaaGreatDoor

set_option linter.unusedVariables false
set_option linter.unusedSimpArgs false
namespace Go.Proofs.YtdmlcddieadelaaGreatDoor
open Go.RowKit Go.Maps _root_.Nm Lx
/-- two contracts of one call in one world speak of one end -/
theorem agree_bool {f : FuncId} {args : Array Value} {w : World} {a b : Bool} (h : Calls Tryz.prog f args w fun e w' => e = .returned (.bool a) ∧ w.grownBy w' none) (h' : Calls Tryz.prog f args w fun e w' => e = .returned (.bool b) ∧ w.grownBy w' none) (hi : Tryz.prog.inits.idxOf? f = none) : a = b := by
  have k : Calls Tryz.prog f args w fun | .returned v, w' => v = .bool a | _, _ => False := h.mono fun e w' ⟨he, _⟩ => by subst he; exact rfl
  have k' : Calls Tryz.prog f args w fun | .returned v, w' => v = .bool b | _, _ => False := h'.mono fun e w' ⟨he, _⟩ => by subst he; exact rfl
  obtain ⟨n, v, w1, e1, r1⟩ := k.done hi
  obtain ⟨m, v', w2, e2, r2⟩ := k'.done hi
  have x := runN_ended e1 m
  have y := runN_ended e2 n
  rw [Nat.add_comm, x] at y
  injection y with ho hw
  injection ho with hv
  rw [r1, r2] at hv
  injection hv
theorem IRd_inj {w : World} {k : IntKind} {a : Option Addr} {n c d : Nat} {xs ys : List Nat} (h : IRd w k a n c xs) (h' : IRd w k a n d ys) : xs = ys := by
  refine List.ext_getElem (by rw [h.len, h'.len]) fun j h1 h2 => ?_
  obtain ⟨b, o, rfl, hc⟩ := h.cel j h1
  obtain ⟨b', o', e, hc'⟩ := h'.cel j h2
  simp only [Option.some.injEq, Addr.mk.injEq, and_true] at e
  obtain ⟨rfl, rfl⟩ := e
  rw [hc] at hc'
  simp only [Option.some.injEq, Value.int.injEq, true_and] at hc'
  omega
/-- the Ratio of something that has one (z), or none, as it is where all is right -/
def RtOk (z g : Bool) (xs ys : List Nat) : Prop := (z = true → ∃ v : Rat, xs = dg 65536 v.num.natAbs ∧ ys = dg 65536 v.den ∧ g = decide (v.num < 0)) ∧ (z = false → g = false ∧ xs = [] ∧ ys = [])
theorem ratF_ok {w : World} (Tq : Tb w) {z g : Bool} {p1 p2 : Option Addr} {n1 c1 n2 c2 : Nat} {xs ys : List Nat} (h : RtOk z g xs ys) (hr0 : IRd w .u16 p1 n1 c1 xs) (hr1 : IRd w .u16 p2 n2 c2 ys) (hn : n1 ≤ 1048576) (hm : n2 ≤ 1048576) : RatF w z g p1 n1 c1 p2 n2 c2 true := by
  cases z
  · obtain ⟨rfl, rfl, rfl⟩ := h.2 rfl
    refine { right := fun h => (by cases h), rright := fun h => (by cases h), none := fun _ => ?_ }
    have e1 := hr0.len; have e2 := hr1.len
    subst e1 e2
    rfl
  · obtain ⟨v, rfl, rfl, rfl⟩ := h.1 rfl
    obtain ⟨r, h1, h2, _⟩ := right3_full Tq (decide (v.num < 0)) hr0 (Can_dg (by omega) _).1 hr1 (Can_dg (by omega) _).1 (by omega) (by omega)
    have hV : IsV w (decide (v.num < 0)) p1 n1 c1 p2 n2 c2 v := ⟨⟨hr0, rfl⟩, hr1⟩
    obtain rfl : r = true := agree_bool (h1 w (grown_refl w none)) (ratRight_v 1048576 Tq hV hn hm (by omega)) (by kernel_rfl)
    exact { right := fun _ => h1, rright := fun _ => h2, none := fun h => (by cases h) }
theorem ratF_full {w : World} (Tq : Tb w) (z g : Bool) {p1 p2 : Option Addr} {n1 c1 n2 c2 : Nat} {xs ys : List Nat} (hr0 : IRd w .u16 p1 n1 c1 xs) (hx : Dg 65536 xs) (hr1 : IRd w .u16 p2 n2 c2 ys) (hy : Dg 65536 ys) (hn : n1 ≤ 1048576) (hm : n2 ≤ 1048576) :
    ∃ R, RatF w z g p1 n1 c1 p2 n2 c2 R ∧ (R = true → RtOk z g xs ys) := by
  cases z
  · refine ⟨_, { right := fun h => (by cases h), rright := fun h => (by cases h), none := fun _ => rfl }, fun h => ⟨fun h => (by cases h), fun _ => ?_⟩⟩
    have e1 := hr0.len; have e2 := hr1.len
    simp only [Bool.and_eq_true, Bool.not_eq_true', decide_eq_true_eq] at h
    obtain ⟨h1, h2, h3⟩ := h
    exact ⟨h1, List.eq_nil_of_length_eq_zero (by omega), List.eq_nil_of_length_eq_zero (by omega)⟩
  · obtain ⟨r, h1, h2, h3⟩ := right3_full Tq g hr0 hx hr1 hy (by omega) (by omega)
    refine ⟨r, { right := fun _ => h1, rright := fun _ => h2, none := fun h => (by cases h) }, fun h => ⟨fun _ => ?_, fun h => (by cases h)⟩⟩
    obtain ⟨⟨k1, k2⟩, k3⟩ := h3 h
    exact ⟨_, IRd_inj hr0 k1, IRd_inj hr1 k3, k2⟩
theorem errS_true {k : Int} {n : Nat} {b R : Bool} {nm : List UInt8} (h : errS k n b R nm = 0) : b = true ∧ R = true ∧ errS k n true true nm = 0 := by
  cases b <;> cases R
  · exfalso; unfold errS at h; repeat' split at h
    all_goals first | omega | simp_all
  · exfalso; unfold errS at h; repeat' split at h
    all_goals first | omega | simp_all
  · exfalso; unfold errS at h; repeat' split at h
    all_goals first | omega | simp_all
  · exact ⟨rfl, rfl, h⟩
theorem errF_true {k : Int} {n : Nat} {b R : Bool} (h : errF k n b R = 0) : b = true ∧ R = true ∧ errF k n true true = 0 := by
  cases b <;> cases R
  · exfalso; unfold errF at h; repeat' split at h
    all_goals first | omega | simp_all
  · exfalso; unfold errF at h; repeat' split at h
    all_goals first | omega | simp_all
  · exfalso; unfold errF at h; repeat' split at h
    all_goals first | omega | simp_all
  · exact ⟨rfl, rfl, h⟩
theorem scanE_z {X : Nat → Int} : ∀ {f k : Nat}, scanE X k f = 0 → ∀ i, k ≤ i → i < k + f → X i = 0
  | 0, _, _, i, h1, h2 => by omega
  | f + 1, k, h, i, h1, h2 => by
    unfold scanE at h
    by_cases e : X k = 0
    · rw [if_pos e] at h
      rcases Nat.eq_or_lt_of_le h1 with rfl | h3
      · exact e
      · exact scanE_z h i (by omega) (by omega)
    · rw [if_neg e] at h
      exact absurd h e
structure StG (i : Nat) (d : StD) : Prop where
  err : errS d.k d.zs.length true true d.nm.data.toList = 0
  arg : ∀ z ∈ d.zs, 0 ≤ z ∧ z < (i : Int)
  rat : RtOk (decide (d.k = 2)) d.g d.xs d.ys
  nms : d.nm.size ≤ maxLen
  szx : d.xs.length ≤ 1048576
  szy : d.ys.length ≤ 1048576
structure GlG (n : Nat) (e : GlD) : Prop where
  err : errF e.k e.zs.length true true = 0
  arg : ∀ z ∈ e.zs, 0 ≤ z ∧ z < (n : Int)
  rat : RtOk (decide (e.k = 9)) e.g e.xs e.ys
  szx : e.xs.length ≤ 1048576
  szy : e.ys.length ≤ 1048576
structure FigG (n m : Nat) (d : Nat → StD) (e : Nat → GlD) : Prop where
  n40 : n ≤ 40
  m8 : m ≤ 8
  st : ∀ i, i < n → StG i (d i)
  gl : ∀ q, q < m → GlG n (e q)
  one : ∀ i j, i < j → j < n → (d i).nm = (d j).nm → (d j).nm.data.toList = []
theorem all_iff {zs : List Int} {i : Nat} : (∀ z ∈ zs, 0 ≤ z ∧ z < (i : Int)) ↔ ∀ j (hj : j < zs.length), 0 ≤ zs[j] ∧ zs[j] < (i : Int) := by
  constructor
  · intro h j hj; exact h _ (List.getElem_mem hj)
  · intro h z hz
    obtain ⟨j, hj, rfl⟩ := List.mem_iff_getElem.1 hz
    exact h j hj
/-- a step in memory, as the laws of Right want it -/
theorem StM.sp {w : World} {p : Option Addr} {i : Nat} {d : StD} (h : StM w p i d) : ∃ cs, SpAt w p i cs d.nm d.zs.length d.xs.length d.ys.length ∧ ∃ pa ca p1 c1 p2 c2, cs = [.int .i64 d.k, .string d.nm, .slice pa d.zs.length ca, .bool d.g, .slice p1 d.xs.length c1, .slice p2 d.ys.length c2] ∧ ZRd w .i64 pa d.zs.length ca d.zs ∧ IRd w .u16 p1 d.xs.length c1 d.xs ∧ IRd w .u16 p2 d.ys.length c2 d.ys := by
  obtain ⟨cs, ⟨b, o, rfl, hc⟩, pa, na, ca, p1, n1, c1, p2, n2, c2, rfl, r1, r2, r3⟩ := h
  obtain rfl := r1.len; obtain rfl := r2.len; obtain rfl := r3.len
  exact ⟨_, ⟨b, o, d.k, pa, ca, d.g, p1, c1, p2, c2, rfl, rfl, hc 0 (by simp), hc 1 (by simp), hc 2 (by simp), hc 3 (by simp), hc 4 (by simp), hc 5 (by simp)⟩, pa, ca, p1, c1, p2, c2, rfl, r1, r2, r3⟩
theorem GlM.gp {w : World} {p : Option Addr} {i : Nat} {d : GlD} (h : GlM w p i d) : ∃ cs, GlAt w p i cs d.zs.length d.xs.length d.ys.length ∧ ∃ pa ca p1 c1 p2 c2, cs = [.int .i64 d.k, .slice pa d.zs.length ca, .bool d.g, .slice p1 d.xs.length c1, .slice p2 d.ys.length c2] ∧ ZRd w .i64 pa d.zs.length ca d.zs ∧ IRd w .u16 p1 d.xs.length c1 d.xs ∧ IRd w .u16 p2 d.ys.length c2 d.ys := by
  obtain ⟨cs, ⟨b, o, rfl, hc⟩, pa, na, ca, p1, n1, c1, p2, n2, c2, rfl, r1, r2, r3⟩ := h
  obtain rfl := r1.len; obtain rfl := r2.len; obtain rfl := r3.len
  exact ⟨_, ⟨b, o, d.k, pa, ca, d.g, p1, c1, p2, c2, rfl, rfl, hc 0 (by simp), hc 1 (by simp), hc 2 (by simp), hc 3 (by simp), hc 4 (by simp)⟩, pa, ca, p1, c1, p2, c2, rfl, r1, r2, r3⟩
theorem scanE_zero : ∀ (f k : Nat), scanE (fun _ => 0) k f = 0
  | 0, _ => rfl
  | f + 1, k => by
    unfold scanE
    rw [if_pos rfl]
    exact scanE_zero f (k + 1)
theorem twiceE_no {P : Nat → ByteArray} {i : Nat} (h : ∀ j, j < i → P j = P i → (P i).data.toList = []) : twiceE P i = 0 := by
  unfold twiceE
  rw [if_neg]
  rintro ⟨h1, j, h2, h3⟩
  exact h1 (h j h2 h3)
/-- lower.Right of a right figure -/
theorem sRight_good (pS : Option Addr) (nS cS : Nat) (pG : Option Addr) (nG cG : Nat) (w : World) (Tq : Tb w) (hcS : nS ≤ cS ∧ cS ≤ 9223372036854775807) (hcG : nG ≤ cG ∧ cG ≤ 9223372036854775807) (d : Nat → StD) (e : Nat → GlD)
    (hS : ∀ i, i < nS → StM w pS i (d i)) (hG : ∀ i, i < nG → GlM w pG i (e i)) (hF : FigG nS nG d e) :
    Calls Tryz.prog 7 #[.agg #[.slice pS nS cS, .slice pG nG cG]] w fun e w' => e = .returned (.int .i64 0) ∧ w.grownBy w' none := by
  obtain ⟨C, hC⟩ : ∃ C : Nat → List Value, ∀ i (hi : i < nS), SpAt w pS i (C i) (d i).nm (d i).zs.length (d i).xs.length (d i).ys.length ∧ ∃ pa ca p1 c1 p2 c2, C i = [.int .i64 (d i).k, .string (d i).nm, .slice pa (d i).zs.length ca, .bool (d i).g, .slice p1 (d i).xs.length c1, .slice p2 (d i).ys.length c2] ∧ ZRd w .i64 pa (d i).zs.length ca (d i).zs ∧ IRd w .u16 p1 (d i).xs.length c1 (d i).xs ∧ IRd w .u16 p2 (d i).ys.length c2 (d i).ys :=
    ⟨fun i => if hi : i < nS then Classical.choose (hS i hi).sp else [], fun i hi => by
      dsimp only
      rw [dif_pos hi]
      exact Classical.choose_spec (hS i hi).sp⟩
  obtain ⟨D, hD⟩ : ∃ D : Nat → List Value, ∀ i (hi : i < nG), GlAt w pG i (D i) (e i).zs.length (e i).xs.length (e i).ys.length ∧ ∃ pa ca p1 c1 p2 c2, D i = [.int .i64 (e i).k, .slice pa (e i).zs.length ca, .bool (e i).g, .slice p1 (e i).xs.length c1, .slice p2 (e i).ys.length c2] ∧ ZRd w .i64 pa (e i).zs.length ca (e i).zs ∧ IRd w .u16 p1 (e i).xs.length c1 (e i).xs ∧ IRd w .u16 p2 (e i).ys.length c2 (e i).ys :=
    ⟨fun i => if hi : i < nG then Classical.choose (hG i hi).gp else [], fun i hi => by
      dsimp only
      rw [dif_pos hi]
      exact Classical.choose_spec (hG i hi).gp⟩
  refine sRightFig pS nS cS pG nG cG C (fun i => (d i).nm) (fun i => (d i).zs.length) (fun i => (d i).xs.length) (fun i => (d i).ys.length) D (fun i => (e i).zs.length) (fun i => (e i).xs.length) (fun i => (e i).ys.length) (fun _ => 0) (fun _ => 0) (fun _ => 0) w hcS hcG (fun i hi => (hC i hi).1) (fun i hi => (hD i hi).1) (fun i hi => (hF.st i hi).nms) (fun i hi => ?_) (fun i hi W hW => ?_) (fun i hi W hW => ?_) 0 ?_
  · rw [if_pos rfl, twiceE_no]
    exact fun j hj h => hF.one j i hj hi h
  · obtain ⟨_, pa, ca, p1, c1, p2, c2, hck, hz, hx, hy⟩ := hC i hi
    have g := hF.st i hi
    rw [hck]
    have := sStep_n (d i).k (d i).nm pa (d i).zs.length ca (d i).g p1 (d i).xs.length c1 p2 (d i).ys.length c2 (d i).zs i true true W (hz.keep hW) ⟨fun _ => all_iff.1 g.arg, fun _ => rfl⟩ (ratF_ok (Tq.keep hW) g.rat (hx.keep hW) (hy.keep hW) g.szx g.szy) g.nms
    rw [g.err] at this
    exact this
  · obtain ⟨_, pa, ca, p1, c1, p2, c2, hck, hz, hx, hy⟩ := hD i hi
    have g := hF.gl i hi
    rw [hck]
    have := fRight_n (e i).k pa (e i).zs.length ca (e i).g p1 (e i).xs.length c1 p2 (e i).ys.length c2 (e i).zs nS true true W (hz.keep hW) ⟨fun _ => all_iff.1 g.arg, fun _ => rfl⟩ (ratF_ok (Tq.keep hW) g.rat (hx.keep hW) (hy.keep hW) g.szx g.szy)
    rw [g.err] at this
    exact this
  · unfold figE
    rw [if_neg (by have := hF.n40; have := hF.m8; omega), if_pos (scanE_zero _ _)]
    exact scanE_zero _ _
/-- the reference's Right, with all that the answer 0 says -/
theorem rightRef3 (pS : Option Addr) (nS cS : Nat) (pG : Option Addr) (nG cG : Nat) (C : Nat → List Value) (P : Nat → ByteArray) (NA N1 N2 : Nat → Nat) (D : Nat → List Value) (MA M1 M2 : Nat → Nat) (w : World) (Tq : Tb w) (hcS : nS ≤ cS ∧ cS ≤ 9223372036854775807) (hcG : nG ≤ cG ∧ cG ≤ 9223372036854775807)
    (hS : ∀ i, i < nS → SpAt w pS i (C i) (P i) (NA i) (N1 i) (N2 i) ∧ StB w (C i) (P i) (NA i) (N1 i) (N2 i)) (hG : ∀ i, i < nG → GlAt w pG i (D i) (MA i) (M1 i) (M2 i) ∧ GlB w (D i) (MA i) (M1 i) (M2 i)) :
    ∃ (x : Int), (∀ W, w.grownBy W none → Calls Tryz.prog 5 #[.agg #[.slice pS nS cS, .slice pG nG cG]] W fun e w' => e = .returned (.int .i64 x) ∧ W.grownBy w' none) ∧ (x = 0 → ∃ (d : Nat → StD) (e : Nat → GlD), (∀ i, i < nS → StM w pS i (d i)) ∧ (∀ i, i < nG → GlM w pG i (e i)) ∧ FigG nS nG d e) := by
  have hone : ∀ i (hi : i < nS), ∃ q : Int × StD, (∀ W, w.grownBy W none → Calls Tryz.prog 16 #[.slice pS nS cS, .int .i64 i] W fun e w' => e = .returned (.int .i64 q.1) ∧ W.grownBy w' none) ∧ StM w pS i q.2 ∧ (q.1 = 0 → StG i q.2 ∧ q.2.nm = P i ∧ twiceE P i = 0) := by
    intro i hi
    obtain ⟨h1, ⟨k, pa, ca, g, p1, c1, p2, c2, zs, xs, ys, hck, hz, hx, hy, ⟨dx, dy⟩, hnm⟩, b1, b2⟩ := hS i hi
    obtain ⟨R, hR, hRt⟩ := ratF_full Tq (decide (k = 2)) g hx dx hy dy b1 b2
    obtain ⟨b, hb⟩ := ex_boolF (∀ j (hj : j < zs.length), 0 ≤ zs[j] ∧ zs[j] < (i : Int))
    obtain ⟨bb, o, k', pa', ca', g', p1', c1', p2', c2', h2, h3, a0, a1, a2, a3, a4, a5⟩ := h1
    rw [hck] at h3
    simp only [List.cons.injEq, Value.slice.injEq, Value.int.injEq, Value.bool.injEq, true_and, and_true] at h3
    obtain ⟨rfl, ⟨rfl, rfl⟩, rfl, ⟨rfl, rfl⟩, rfl, rfl⟩ := h3
    refine ⟨(if errS k (NA i) b R (P i).data.toList = 0 then twiceE P i else errS k (NA i) b R (P i).data.toList, ⟨k, P i, zs, g, xs, ys⟩), fun W hW => ?_, ⟨C i, ⟨bb, o, h2, ?_⟩, pa, NA i, ca, p1, N1 i, c1, p2, N2 i, c2, hck, hz, hx, hy⟩, fun h => ?_⟩
    · exact rStep_n pS nS cS C P NA N1 N2 i W hcS hi (fun j hj => (hS j hj).1.keep hW) k (P i) pa (NA i) ca g p1 (N1 i) c1 p2 (N2 i) c2 zs b R hck (hz.keep hW) hb (hR.keep hW) _ rfl
    · rw [hck]
      intro j hj
      match j, hj with
      | 0, _ => exact a0
      | 1, _ => exact a1
      | 2, _ => exact a2
      | 3, _ => exact a3
      | 4, _ => exact a4
      | 5, _ => exact a5
    · have h' : (if errS k (NA i) b R (P i).data.toList = 0 then twiceE P i else errS k (NA i) b R (P i).data.toList) = 0 := h
      by_cases he : errS k (NA i) b R (P i).data.toList = 0
      · rw [if_pos he] at h'
        obtain ⟨rfl, rfl, he'⟩ := errS_true he
        refine ⟨⟨?_, all_iff.2 (hb.1 rfl), hRt rfl, hnm, ?_, ?_⟩, rfl, h'⟩
        · show errS k zs.length true true _ = 0
          rw [hz.len]; exact he'
        · show xs.length ≤ _
          rw [hx.len]; exact b1
        · show ys.length ≤ _
          rw [hy.len]; exact b2
      · rw [if_neg he] at h'
        exact absurd h' he
  obtain ⟨Q, hQ⟩ : ∃ Q : Nat → Int × StD, ∀ i (hi : i < nS), (∀ W, w.grownBy W none → Calls Tryz.prog 16 #[.slice pS nS cS, .int .i64 i] W fun e w' => e = .returned (.int .i64 (Q i).1) ∧ W.grownBy w' none) ∧ StM w pS i (Q i).2 ∧ ((Q i).1 = 0 → StG i (Q i).2 ∧ (Q i).2.nm = P i ∧ twiceE P i = 0) :=
    ⟨fun i => if hi : i < nS then Classical.choose (hone i hi) else (0, ⟨0, ⟨#[]⟩, [], false, [], []⟩), fun i hi => by
      dsimp only
      rw [dif_pos hi]
      exact Classical.choose_spec (hone i hi)⟩
  have htwo : ∀ i (hi : i < nG), ∃ y : Int × GlD, (∀ W, w.grownBy W none → Calls Tryz.prog 17 #[.agg (D i).toArray, .int .i64 nS] W fun e w' => e = .returned (.int .i64 y.1) ∧ W.grownBy w' none) ∧ GlM w pG i y.2 ∧ (y.1 = 0 → GlG nS y.2) := by
    intro i hi
    obtain ⟨h1, ⟨k, pa, ca, g, p1, c1, p2, c2, zs, xs, ys, hck, hz, hx, hy, dx, dy⟩, b1, b2⟩ := hG i hi
    obtain ⟨R, hR, hRt⟩ := ratF_full Tq (decide (k = 9)) g hx dx hy dy b1 b2
    obtain ⟨b, hb⟩ := ex_boolF (∀ j (hj : j < zs.length), 0 ≤ zs[j] ∧ zs[j] < (nS : Int))
    obtain ⟨bb, o, k', pa', ca', g', p1', c1', p2', c2', h2, h3, a0, a1, a2, a3, a4⟩ := h1
    rw [hck] at h3
    simp only [List.cons.injEq, Value.slice.injEq, Value.int.injEq, Value.bool.injEq, true_and, and_true] at h3
    obtain ⟨rfl, ⟨rfl, rfl⟩, rfl, ⟨rfl, rfl⟩, rfl, rfl⟩ := h3
    refine ⟨(errF k (MA i) b R, ⟨k, zs, g, xs, ys⟩), fun W hW => ?_, ⟨D i, ⟨bb, o, h2, ?_⟩, pa, MA i, ca, p1, M1 i, c1, p2, M2 i, c2, hck, hz, hx, hy⟩, fun h => ?_⟩
    · rw [hck]
      exact rRight14_n k pa (MA i) ca g p1 (M1 i) c1 p2 (M2 i) c2 zs nS b R W (hz.keep hW) hb (hR.keep hW)
    · rw [hck]
      intro j hj
      match j, hj with
      | 0, _ => exact a0
      | 1, _ => exact a1
      | 2, _ => exact a2
      | 3, _ => exact a3
      | 4, _ => exact a4
    · obtain ⟨rfl, rfl, he'⟩ := errF_true h
      refine ⟨?_, all_iff.2 (hb.1 rfl), hRt rfl, ?_, ?_⟩
      · show errF k zs.length true true = 0
        rw [hz.len]; exact he'
      · show xs.length ≤ _
        rw [hx.len]; exact b1
      · show ys.length ≤ _
        rw [hy.len]; exact b2
  obtain ⟨Y, hY⟩ : ∃ Y : Nat → Int × GlD, ∀ i (hi : i < nG), (∀ W, w.grownBy W none → Calls Tryz.prog 17 #[.agg (D i).toArray, .int .i64 nS] W fun e w' => e = .returned (.int .i64 (Y i).1) ∧ W.grownBy w' none) ∧ GlM w pG i (Y i).2 ∧ ((Y i).1 = 0 → GlG nS (Y i).2) :=
    ⟨fun i => if hi : i < nG then Classical.choose (htwo i hi) else (0, ⟨0, [], false, [], []⟩), fun i hi => by
      dsimp only
      rw [dif_pos hi]
      exact Classical.choose_spec (htwo i hi)⟩
  refine ⟨figE nS nG (fun i => (Q i).1) (fun i => (Y i).1), fun W hW => ?_, fun h => ?_⟩
  · exact rRightFig pS nS cS pG nG cG C P NA N1 N2 D MA M1 M2 _ (fun i => (Q i).1) (fun i => (Y i).1) W hcS hcG (fun i hi => (hS i hi).1.keep hW) (fun i hi => (hG i hi).1.keep hW) (fun i hi _ W' hW' => (hQ i hi).1 W' (grown_trans hW hW')) (fun i hi W' hW' => (hY i hi).1 W' (grown_trans hW hW')) _ rfl
  · unfold figE at h
    by_cases e : 40 < nS ∨ 8 < nG
    · rw [if_pos e] at h
      omega
    · rw [if_neg e] at h
      by_cases e2 : scanE (fun i => (Q i).1) 0 nS = 0
      · rw [if_pos e2] at h
        have hq : ∀ i, i < nS → (Q i).1 = 0 := fun i hi => scanE_z e2 i (by omega) (by omega)
        have hy : ∀ i, i < nG → (Y i).1 = 0 := fun i hi => scanE_z h i (by omega) (by omega)
        refine ⟨fun i => (Q i).2, fun i => (Y i).2, fun i hi => (hQ i hi).2.1, fun i hi => (hY i hi).2.1, ⟨by omega, by omega, fun i hi => ((hQ i hi).2.2 (hq i hi)).1, fun i hi => (hY i hi).2.2 (hy i hi), fun i j hij hj he => ?_⟩⟩
        have hi : i < nS := by omega
        have h1 := (hQ i hi).2.2 (hq i hi)
        have h2 := (hQ j hj).2.2 (hq j hj)
        have h3 := h2.2.2
        show (Q j).2.nm.data.toList = []
        have he' : (Q i).2.nm = (Q j).2.nm := he
        rw [h1.2.1, h2.2.1] at he'
        rw [h2.2.1]
        unfold twiceE at h3
        split at h3
        · omega
        · rename_i hn
          rcases Classical.em ((P j).data.toList = []) with h4 | h4
          · exact h4
          · exact absurd ⟨h4, i, hij, he'⟩ hn
      · rw [if_neg e2] at h
        exact absurd h e2
end Go.Proofs.YtdmlcddieadelaaGreatDoor

set_option linter.unusedVariables false
set_option linter.unusedSimpArgs false
namespace Go.Proofs.YtdmlcddieadelaaGreatDoor
open Go.RowKit Go.Maps _root_.Nm Lx
theorem pr_at {A : Nat → List Int} {n : Nat} {ps : List Int} {L : List Int} (hL : L = ndL (ndF A n ps) n) (j : Nat) (hj : j < L.length) : ∃ i : Nat, i < n ∧ L[j] = (i : Int) ∧ L.getD j 0 = (i : Int) ∧ (ndF A n ps).getD i false = true := by
  have hm : L[j] ∈ ndL (ndF A n ps) n := by rw [← hL]; exact List.getElem_mem hj
  obtain ⟨i, hi, he, hF⟩ := (ndL_mem _ _ _).1 hm
  exact ⟨i, hi, he, by rw [List.getD_eq_getElem?_getD, List.getElem?_eq_getElem hj]; exact he, hF⟩
theorem pr_sub {n m : Nat} {d : Nat → StD} {e : Nat → GlD} (h : FigG n m d e) {ps : List Int} {L : List Int} (hL : L = ndL (ndF (fun i => (d i).zs) n ps) n) (i : Nat) (hi : (i : Int) ∈ L) : ∀ z ∈ (d i).zs, z ∈ L := by
  intro z hz
  rw [hL] at hi ⊢
  obtain ⟨i', h1, h2, h3⟩ := (ndL_mem _ _ _).1 hi
  obtain rfl : i = i' := by omega
  have h4 := (h.st i h1).arg z hz
  obtain ⟨t, rfl⟩ : ∃ t : Nat, z = (t : Int) := ⟨z.toNat, by omega⟩
  exact (ndL_mem _ _ _).2 ⟨t, by omega, rfl, ndF_closed h1 h3 hz (by omega)⟩
theorem pr_subG {n m : Nat} {d : Nat → StD} {e : Nat → GlD} (h : FigG n m d e) {q : Nat} (hq : q < m) {L : List Int} (hL : L = ndL (ndF (fun i => (d i).zs) n (e q).zs) n) : ∀ z ∈ (e q).zs, z ∈ L := by
  intro z hz
  rw [hL]
  have h4 := (h.gl q hq).arg z hz
  obtain ⟨t, rfl⟩ : ∃ t : Nat, z = (t : Int) := ⟨z.toNat, by omega⟩
  exact (ndL_mem _ _ _).2 ⟨t, by omega, rfl, ndF_has hz (by omega)⟩
theorem FigG.prune {n m : Nat} {d : Nat → StD} {e : Nat → GlD} (h : FigG n m d e) {q : Nat} (hq : q < m) {L : List Int} (hL : L = ndL (ndF (fun i => (d i).zs) n (e q).zs) n) :
    FigG L.length 1 (fun j => mvS L (d (L.getD j 0).toNat)) (fun _ => mvG L (e q)) := by
  have hasc : L.Pairwise (· < ·) := by rw [hL]; exact ndL_asc _ _
  have hlen : L.length ≤ n := by rw [hL]; exact ndL_len _ _
  refine ⟨by have := h.n40; omega, by omega, fun j hj => ?_, fun _ _ => ?_, fun i j hij hj he => ?_⟩
  · obtain ⟨i, h1, h2, h3, h4⟩ := pr_at hL j hj
    have g := h.st i h1
    have hmem : (i : Int) ∈ L := by rw [← h2]; exact List.getElem_mem hj
    show StG j (mvS L (d (L.getD j 0).toNat))
    rw [h3, Int.toNat_natCast]
    refine ⟨?_, plc_low hasc hj (fun z hz => ⟨pr_sub h hL i hmem z hz, by rw [h2]; exact (g.arg z hz).2⟩), g.rat, g.nms, g.szx, g.szy⟩
    show errS (d i).k (plc L (d i).zs).length true true _ = 0
    rw [plc_len]
    exact g.err
  · have g := h.gl q hq
    refine ⟨?_, plc_in (pr_subG h hq hL), g.rat, g.szx, g.szy⟩
    show errF (e q).k (plc L (e q).zs).length true true = 0
    rw [plc_len]
    exact g.err
  · obtain ⟨i1, h1, h2, h3, -⟩ := pr_at hL i (by omega)
    obtain ⟨j1, k1, k2, k3, -⟩ := pr_at hL j hj
    have hlt := List.pairwise_iff_getElem.1 hasc i j (by omega) hj hij
    rw [h2, k2] at hlt
    have he' : (d (L.getD i 0).toNat).nm = (d (L.getD j 0).toNat).nm := he
    show (d (L.getD j 0).toNat).nm.data.toList = []
    rw [h3, k3, Int.toNat_natCast, Int.toNat_natCast] at he'
    rw [k3, Int.toNat_natCast]
    exact h.one i1 j1 (by omega) k1 he'
/-- lower.Needs of a right figure -/
theorem needs_good (pS : Option Addr) (nS cS : Nat) (pG : Option Addr) (nG cG m : Nat) (d : Nat → StD) (e : Nat → GlD) (pp : Option Addr) (k cp : Nat) (ps : List Int) (w : World) (hcS : nS ≤ cS ∧ cS ≤ 9223372036854775807)
    (hS : ∀ i, i < nS → StM w pS i (d i)) (hF : FigG nS m d e) (hp : ZRd w .i64 pp k cp ps) :
    Calls Tryz.prog 8 #[.agg #[.slice pS nS cS, .slice pG nG cG], .slice pp k cp] w fun e w' => ∃ p n c, e = .returned (.slice p n c) ∧ ZRd w' .i64 p n c (ndL (ndF (fun i => (d i).zs) nS ps) nS) ∧ w.grownBy w' none := by
  obtain ⟨C, hC⟩ : ∃ C : Nat → List Value, ∀ i (hi : i < nS), SpAt w pS i (C i) (d i).nm (d i).zs.length (d i).xs.length (d i).ys.length ∧ ∃ pa ca p1 c1 p2 c2, C i = [.int .i64 (d i).k, .string (d i).nm, .slice pa (d i).zs.length ca, .bool (d i).g, .slice p1 (d i).xs.length c1, .slice p2 (d i).ys.length c2] ∧ ZRd w .i64 pa (d i).zs.length ca (d i).zs ∧ IRd w .u16 p1 (d i).xs.length c1 (d i).xs ∧ IRd w .u16 p2 (d i).ys.length c2 (d i).ys :=
    ⟨fun i => if hi : i < nS then Classical.choose (hS i hi).sp else [], fun i hi => by
      dsimp only
      rw [dif_pos hi]
      exact Classical.choose_spec (hS i hi).sp⟩
  exact sNeeds_n pS nS cS pG nG cG C (fun i => (d i).nm) (fun i => (d i).zs.length) (fun i => (d i).xs.length) (fun i => (d i).ys.length) (fun i => (d i).zs) pp k cp ps w hcS (by have := hF.n40; omega) (fun i hi => (hC i hi).1)
    (fun i hi => by obtain ⟨_, pa, ca, p1, c1, p2, c2, hck, hz, _⟩ := hC i hi; exact ⟨_, _, pa, ca, _, p1, c1, p2, c2, hck, hz⟩) (fun i hi => all_iff.1 (hF.st i hi).arg) hp
theorem arS_le (k : Int) : arS k ≤ 4 := by
  unfold arS
  repeat' split
  all_goals omega
theorem StG.len {i : Nat} {d : StD} (h : StG i d) : d.zs.length ≤ 4 := by
  have h1 := h.err
  unfold errS at h1
  split at h1
  · omega
  · split at h1
    · omega
    · have := arS_le d.k
      omega
theorem GlG.len {i : Nat} {d : GlD} (h : GlG i d) : d.zs.length ≤ 8 := by
  have h1 := h.err
  unfold errF at h1
  split at h1
  · omega
  · split at h1
    · omega
    · have := arF_le d.k
      omega
/-- lower.Prune of a right figure -/
theorem prune_good (pS : Option Addr) (nS cS : Nat) (pG : Option Addr) (nG cG : Nat) (d : Nat → StD) (e : Nat → GlD) (w : World) (hcS : nS ≤ cS ∧ cS ≤ 9223372036854775807) (hcG : nG ≤ cG ∧ cG ≤ 9223372036854775807)
    (hS : ∀ i, i < nS → StM w pS i (d i)) (hG : ∀ i, i < nG → GlM w pG i (e i)) (hF : FigG nS nG d e) (q : Nat) (hq : q < nG) (L : List Int) (hL : L = ndL (ndF (fun i => (d i).zs) nS (e q).zs) nS) :
    Calls Tryz.prog 6 #[.agg #[.slice pS nS cS, .slice pG nG cG], .int .i64 q] w fun e' w' => ∃ p c g d', e' = .returned (.tuple #[.agg #[.slice p L.length c, .slice g 1 d'], .int .i64 0]) ∧ (L.length ≤ c ∧ c ≤ 9223372036854775807) ∧ (1 ≤ d' ∧ d' ≤ 9223372036854775807) ∧ (∀ j, j < L.length → StM w' p j (mvS L (d (L.getD j 0).toNat))) ∧ GlM w' g 0 (mvG L (e q)) ∧ w.grownBy w' none := by
  have hasc : L.Pairwise (· < ·) := by rw [hL]; exact ndL_asc _ _
  have hlen : L.length ≤ nS := by rw [hL]; exact ndL_len _ _
  have h40 := hF.n40
  refine sPrune_n pS nS cS pG nG cG w hcS hcG q hq d (e q) L hasc (by omega) (fun z hz => ?_) hS (fun i hi => ?_) (fun i hi => pr_sub hF hL i hi) (hG q hq) ?_ (pr_subG hF hq hL) (fun W hW pa na ca hr => ?_)
  · rw [hL] at hz
    obtain ⟨i, h1, h2, _⟩ := (ndL_mem _ _ _).1 hz
    exact ⟨i, h2, h1⟩
  · have g := hF.st i hi
    exact ⟨by have := g.len; omega, g.szx, g.szy⟩
  · have g := hF.gl q hq
    exact ⟨by have := g.len; omega, g.szx, g.szy⟩
  · rw [hL]
    exact needs_good pS nS cS pG nG cG nG d e pa na ca (e q).zs W hcS (fun i hi => (hS i hi).keep hW) hF hr
/-- a figure that was pruned: rows D, one goal E -/
structure PruG (m : Nat) (D : Nat → StD) (E : GlD) : Prop where
  fig : FigG m 1 D (fun _ => E)
  all : ndL (ndF (fun i => (D i).zs) m E.zs) m = rgL m
theorem PruG.of {n m : Nat} {d : Nat → StD} {e : Nat → GlD} (h : FigG n m d e) {q : Nat} (hq : q < m) {L : List Int} (hL : L = ndL (ndF (fun i => (d i).zs) n (e q).zs) n) : PruG L.length (fun j => mvS L (d (L.getD j 0).toNat)) (mvG L (e q)) :=
  ⟨h.prune hq hL, prune_needs hL⟩
theorem getD_rg {m j : Nat} (hj : j < m) : (rgL m).getD j 0 = (j : Int) := by
  have hl : j < (rgL m).length := by rw [rgL_len]; exact hj
  rw [List.getD_eq_getElem?_getD, List.getElem?_eq_getElem hl]
  exact rgL_at hl
theorem PruG.sameS {m : Nat} {D : Nat → StD} {E : GlD} (h : PruG m D E) {j : Nat} (hj : j < m) : mvS (rgL m) (D ((rgL m).getD j 0).toNat) = D j := by
  rw [getD_rg hj, Int.toNat_natCast]
  unfold mvS
  rw [plc_rg (fun z hz => rgL_mem.2 ⟨((h.fig.st j hj).arg z hz).1, by have := ((h.fig.st j hj).arg z hz).2; omega⟩)]
theorem PruG.sameG {m : Nat} {D : Nat → StD} {E : GlD} (h : PruG m D E) : mvG (rgL m) E = E := by
  unfold mvG
  rw [plc_rg (fun z hz => rgL_mem.2 ((h.fig.gl 0 (by omega)).arg z hz))]
/-- the points that the goal of a pruned figure needs: all -/
theorem PruG.needs {m : Nat} {D : Nat → StD} {E : GlD} (h : PruG m D E) (pS : Option Addr) (cS : Nat) (pG : Option Addr) (nG cG : Nat) (pp : Option Addr) (k cp : Nat) (w : World) (hcS : m ≤ cS ∧ cS ≤ 9223372036854775807)
    (hS : ∀ i, i < m → StM w pS i (D i)) (hp : ZRd w .i64 pp k cp E.zs) :
    Calls Tryz.prog 8 #[.agg #[.slice pS m cS, .slice pG nG cG], .slice pp k cp] w fun e w' => (∃ p c, e = .returned (.slice p m c)) ∧ w.grownBy w' none := by
  refine (needs_good pS m cS pG nG cG 1 D (fun _ => E) pp k cp E.zs w hcS hS h.fig hp).mono ?_
  rintro e' w' ⟨p, n, c, rfl, hz, hg⟩
  have hl := hz.len
  rw [h.all, rgL_len] at hl
  subst hl
  exact ⟨⟨p, c, rfl⟩, hg⟩
/-- pruned again -/
theorem PruG.again {m : Nat} {D : Nat → StD} {E : GlD} (h : PruG m D E) (pS : Option Addr) (cS : Nat) (pG : Option Addr) (cG : Nat) (w : World) (hcS : m ≤ cS ∧ cS ≤ 9223372036854775807) (hcG : 1 ≤ cG ∧ cG ≤ 9223372036854775807)
    (hS : ∀ i, i < m → StM w pS i (D i)) (hG : ∀ i, i < 1 → GlM w pG i E) :
    Calls Tryz.prog 6 #[.agg #[.slice pS m cS, .slice pG 1 cG], .int .i64 0] w fun e' w' => ∃ p c g d', e' = .returned (.tuple #[.agg #[.slice p m c, .slice g 1 d'], .int .i64 0]) ∧ (m ≤ c ∧ c ≤ 9223372036854775807) ∧ (1 ≤ d' ∧ d' ≤ 9223372036854775807) ∧ (∀ j, j < m → StM w' p j (D j)) ∧ (∀ j, j < 1 → GlM w' g j E) ∧ w.grownBy w' none := by
  have h1 := prune_good pS m cS pG 1 cG D (fun _ => E) w hcS hcG hS hG h.fig 0 (by omega) (rgL m) h.all.symm
  refine Calls.mono h1 ?_
  rintro e' w' ⟨p, c, g, d', rfl, hc, hd, hs, hgl, hg⟩
  rw [rgL_len] at hc hs
  refine ⟨p, c, g, d', by rw [rgL_len], hc, hd, fun j hj => ?_, fun j hj => ?_, hg⟩
  · have := hs j hj
    rw [h.sameS hj] at this
    exact this
  · obtain rfl : j = 0 := by omega
    rw [h.sameG] at hgl
    exact hgl
end Go.Proofs.YtdmlcddieadelaaGreatDoor

set_option linter.unusedVariables false
set_option linter.unusedSimpArgs false
namespace Go.Proofs.YtdmlcddieadelaaGreatDoor
open Go Go.RowKit Go.Maps _root_.Nm Lx
/-- what lower.Prune gives of a figure and a goal -/
def SmP (w : World) (pS : Option Addr) (nS cS : Nat) (pG : Option Addr) (nG cG : Nat) (goal : Int) : Prop :=
  ((goal < 0 ∨ (nG : Int) ≤ goal) ∧ ∀ W, w.grownBy W none → Calls Tryz.prog 6 #[.agg #[.slice pS nS cS, .slice pG nG cG], .int .i64 goal] W fun e w' => e = .returned (.tuple #[.agg #[.slice none 0 0, .slice none 0 0], .int .i64 2]) ∧ W.grownBy w' none) ∨
  ∃ (m : Nat) (D : Nat → StD) (E : GlD), PruG m D E ∧ m ≤ nS ∧ ∀ W, w.grownBy W none → Calls Tryz.prog 6 #[.agg #[.slice pS nS cS, .slice pG nG cG], .int .i64 goal] W fun e' w' => ∃ p c g d', e' = .returned (.tuple #[.agg #[.slice p m c, .slice g 1 d'], .int .i64 0]) ∧ (m ≤ c ∧ c ≤ 9223372036854775807) ∧ (1 ≤ d' ∧ d' ≤ 9223372036854775807) ∧ (∀ j, j < m → StM w' p j (D j)) ∧ (∀ j, j < 1 → GlM w' g j E) ∧ W.grownBy w' none
theorem SmP.of (pS : Option Addr) (nS cS : Nat) (pG : Option Addr) (nG cG : Nat) (d : Nat → StD) (e : Nat → GlD) (w : World) (hcS : nS ≤ cS ∧ cS ≤ 9223372036854775807) (hcG : nG ≤ cG ∧ cG ≤ 9223372036854775807)
    (hS : ∀ i, i < nS → StM w pS i (d i)) (hG : ∀ i, i < nG → GlM w pG i (e i)) (hF : FigG nS nG d e) (goal : Int) : SmP w pS nS cS pG nG cG goal := by
  by_cases hb : goal < 0 ∨ (nG : Int) ≤ goal
  · exact .inl ⟨hb, fun W hW => sPrune_bad pS nS cS pG nG cG W goal hb⟩
  · obtain ⟨q, rfl⟩ : ∃ q : Nat, goal = (q : Int) := ⟨goal.toNat, by omega⟩
    have hq : q < nG := by omega
    obtain ⟨L, hL⟩ : ∃ L, L = ndL (ndF (fun i => (d i).zs) nS (e q).zs) nS := ⟨_, rfl⟩
    refine .inr ⟨L.length, _, _, PruG.of hF hq hL, by rw [hL]; exact ndL_len _ _, fun W hW => (prune_good pS nS cS pG nG cG d e W hcS hcG (fun i hi => (hS i hi).keep hW) (fun i hi => (hG i hi).keep hW) hF q hq L hL).mono ?_⟩
    rintro e' w' ⟨p, c, g, d', rfl, hc, hd, hs, hgl, hg⟩
    exact ⟨p, c, g, d', rfl, hc, hd, hs, fun j hj => (show j = 0 by omega) ▸ hgl, hg⟩
theorem GlM.args {w : World} {p : Option Addr} {d : GlD} (h : GlM w p 0 d) : ∃ b o pa na ca, p = some ⟨b, o, none⟩ ∧ w.cell? ⟨b, o + 1, none⟩ = some (.slice pa na ca) ∧ ZRd w .i64 pa na ca d.zs := by
  obtain ⟨cs, ⟨b, o, rfl, hc⟩, pa, na, ca, p1, n1, c1, p2, n2, c2, rfl, r1, r2, r3⟩ := h
  refine ⟨b, o, pa, na, ca, rfl, ?_, r1⟩
  have := hc 1 (by simp)
  simpa using this
set_option maxHeartbeats 64000000 in
set_option maxRecDepth 100000 in
theorem lowerSmaller_walk (pS : Option Addr) (nS cS : Nat) (pG : Option Addr) (nG cG : Nat) (goal : Int) (w : World) (x : Int) (Tq : Tb w) (hcS : nS ≤ cS ∧ cS ≤ 9223372036854775807) (hcG : nG ≤ cG ∧ cG ≤ 9223372036854775807)
    (hx : ∀ W, w.grownBy W none → Calls Tryz.prog 5 #[.agg #[.slice pS nS cS, .slice pG nG cG]] W fun e w' => e = .returned (.int .i64 x) ∧ W.grownBy w' none)
    (h0 : x = 0 → SmP w pS nS cS pG nG cG goal) :
    Calls Tryz.prog 3 #[.agg #[.slice pS nS cS, .slice pG nG cG], .int .i64 goal] w fun e w' => e = .returned (.bool true) ∧ w.grownBy w' none := by
  have HX := hid hx
  have HT := hid Tq
  have hW := World.grownBy_alloc w (.cells #[.slice pS nS cS, .slice pG nG cG] 25 (0, 0)) none
  have BX := hid (blk0 w (.cells #[.slice pS nS cS, .slice pG nG cG] 25 (0, 0)))
  obtain ⟨⟨k0, k1⟩, -⟩ := box2n BX.out
  obtain ⟨hcS1, hcS2⟩ := hcS
  obtain ⟨hcG1, hcG2⟩ := hcG
  clear Tq
  by_cases hx0 : x = 0
  · rcases h0 hx0 with ⟨hb, H1⟩ | ⟨m, D, E, hP, hmn, H1⟩
    · subst hx0
      replace H1 := hid H1
      clear hx h0
      have hor : (decide (goal < 0) || decide (goal ≥ (nG : Int))) = true := by
        simp only [Bool.or_eq_true, decide_eq_true_eq]; omega
      by_cases hg0 : goal < 0
      · go_enter Tryz.func3, Tryz.ntmps3
        go_upto_region 1 with fail
        generalize (w.alloc _) = w0 at *
        go_upto_region 3 with (go_at_call 5; (with_reducible refine (HX.out _ hW).mono ?_); rintro e w1 ⟨rfl, hg⟩; replace hW := grown_trans hW hg; replace BX := hid (keepB BX.out hg); replace k0 := hg.cell k0 (by simp); replace k1 := hg.cell k1 (by simp); clear hg)
        obtain ⟨⟨i0, i1⟩, fa⟩ := box2n (blk0 w1 (.cells #[.slice none 0 0, .slice none 0 0] 25 (0, 0)))
        go_upto_region 4 with (go_at_call 6; (with_reducible refine (H1.out _ hW).mono ?_); rintro e w2 ⟨rfl, hg⟩; replace hW := grown_trans hW hg; replace BX := hid (keepB BX.out hg); replace k0 := hg.cell k0 (by simp); replace k1 := hg.cell k1 (by simp); clear hg i0 i1 fa; obtain ⟨⟨i0, i1⟩, fa⟩ := box2n (blk0 w2 (.cells #[.slice none 0 0, .slice none 0 0] 25 (0, 0))); have f0 := fa 0; have f1 := fa 1; clear fa)
        clear i0 i1 f0 f1
        replace hW := grown_trans hW (World.grownBy_alloc w2 (.cells #[.slice none 0 0, .slice none 0 0] 25 (0, 0)) none)
        generalize (w2.alloc _) = w3 at *
        go_wp2_with fail
        go_ret
        exact ⟨by simp, hW⟩
      · have hg1 : (nG : Int) ≤ goal := by omega
        go_enter Tryz.func3, Tryz.ntmps3
        go_upto_region 1 with fail
        generalize (w.alloc _) = w0 at *
        go_upto_region 3 with (go_at_call 5; (with_reducible refine (HX.out _ hW).mono ?_); rintro e w1 ⟨rfl, hg⟩; replace hW := grown_trans hW hg; replace BX := hid (keepB BX.out hg); replace k0 := hg.cell k0 (by simp); replace k1 := hg.cell k1 (by simp); clear hg)
        obtain ⟨⟨i0, i1⟩, fa⟩ := box2n (blk0 w1 (.cells #[.slice none 0 0, .slice none 0 0] 25 (0, 0)))
        go_upto_region 4 with (go_at_call 6; (with_reducible refine (H1.out _ hW).mono ?_); rintro e w2 ⟨rfl, hg⟩; replace hW := grown_trans hW hg; replace BX := hid (keepB BX.out hg); replace k0 := hg.cell k0 (by simp); replace k1 := hg.cell k1 (by simp); clear hg i0 i1 fa; obtain ⟨⟨i0, i1⟩, fa⟩ := box2n (blk0 w2 (.cells #[.slice none 0 0, .slice none 0 0] 25 (0, 0))); have f0 := fa 0; have f1 := fa 1; clear fa)
        clear i0 i1 f0 f1
        have gA := World.grownBy_alloc w2 (.cells #[.slice none 0 0, .slice none 0 0] 25 (0, 0)) none
        replace k0 := gA.cell k0 (by simp); replace k1 := gA.cell k1 (by simp)
        replace hW := grown_trans hW gA
        clear gA
        generalize (w2.alloc _) = w3 at *
        go_wp2_with fail
        go_ret
        exact ⟨by simp, hW⟩
    · subst hx0
      replace H1 := hid H1
      replace hP := hid hP
      clear hx h0
      go_enter Tryz.func3, Tryz.ntmps3
      go_upto_region 1 with fail
      generalize (w.alloc _) = w0 at *
      go_upto_region 3 with (go_at_call 5; (with_reducible refine (HX.out _ hW).mono ?_); rintro e w1 ⟨rfl, hg⟩; replace hW := grown_trans hW hg; replace BX := hid (keepB BX.out hg); replace k0 := hg.cell k0 (by simp); replace k1 := hg.cell k1 (by simp); clear hg)
      obtain ⟨⟨i0, i1⟩, fa⟩ := box2n (blk0 w1 (.cells #[.slice none 0 0, .slice none 0 0] 25 (0, 0)))
      go_upto_region 4 with (go_at_call 6; (with_reducible refine (H1.out _ hW).mono ?_); rintro e w2 ⟨p1, c1, g1, d1, rfl, ⟨hc1, hc2⟩, ⟨hd1, hd2⟩, hs, hgl, hg⟩; replace hW := grown_trans hW hg; replace BX := hid (keepB BX.out hg); replace k0 := hg.cell k0 (by simp); replace k1 := hg.cell k1 (by simp); have HS1 := hid hs; have HG1 := hid hgl; clear hs hgl hg i0 i1 fa; obtain ⟨⟨i0, i1⟩, fa⟩ := box2n (blk0 w2 (.cells #[.slice none 0 0, .slice none 0 0] 25 (0, 0))); have f0 := fa 0; have f1 := fa 1; clear fa)
      clear i0 i1 f0 f1
      have gA := World.grownBy_alloc w2 (.cells #[.slice p1 m c1, .slice g1 1 d1] 25 (0, 0)) none
      have B5 := hid (blk0 w2 (.cells #[.slice p1 m c1, .slice g1 1 d1] 25 (0, 0)))
      replace hW := grown_trans hW gA
      replace k0 := gA.cell k0 (by simp); replace k1 := gA.cell k1 (by simp)
      replace HS1 := hid (fun j hj => (HS1.out j hj).keep gA)
      replace HG1 := hid (fun j hj => (HG1.out j hj).keep gA)
      clear gA
      generalize w2.heap.size = b5 at *
      generalize (w2.alloc _) = w3 at *
      obtain ⟨⟨j0, j1⟩, -⟩ := box2n B5.out
      obtain ⟨bg, og, pa, na, ca, rfl, hga, hza⟩ := (HG1.out 0 (by omega)).args
      replace hza := hid hza
      have HR := hid (sRight_good p1 m c1 (some ⟨bg, og, none⟩) 1 d1 w3 (HT.out.keep hW) ⟨hc1, hc2⟩ ⟨hd1, hd2⟩ D (fun _ => E) (fun i hi => HS1.out i hi) (fun i hi => HG1.out i hi) hP.out.fig)
      have hgt : decide ((m : Int) > (nS : Int)) = false := decide_eq_false (by omega)
      go_upto_region 8 with (go_at_call 7; (with_reducible refine HR.out.mono ?_); rintro e w4 ⟨rfl, hg⟩; replace hW := grown_trans hW hg; replace B5 := hid (keepB B5.out hg); replace k0 := hg.cell k0 (by simp); replace k1 := hg.cell k1 (by simp); replace j0 := hg.cell j0 (by simp); replace j1 := hg.cell j1 (by simp); replace hga := hg.cell hga (by simp); replace hza := hid (hza.out.keep hg); replace HS1 := hid (fun j hj => (HS1.out j hj).keep hg); replace HG1 := hid (fun j hj => (HG1.out j hj).keep hg); clear hg)
      have HN := hid fun W (hg : w4.grownBy W none) => hP.out.needs p1 c1 (some ⟨bg, og, none⟩) 1 d1 pa na ca W ⟨hc1, hc2⟩ (fun i hi => (HS1.out i hi).keep hg) (hza.out.keep hg)
      have hQ := grown_refl w4 none
      go_region_held3 (fun w' => w'.cell? ⟨b5, 0, none⟩ = some (.slice p1 m c1) ∧ w'.cell? ⟨b5, 1, none⟩ = some (.slice (some ⟨bg, og, none⟩) 1 d1) ∧ w'.cell? ⟨bg, og + 1, none⟩ = some (.slice pa na ca) ∧ w4.grownBy w' none) ((try go_split_ands) <;> (repeat' apply And.intro) <;> (first | (with_reducible assumption) | (with_reducible refine (grown_drew _ none).cell ?_ (by simp); with_reducible assumption) | (with_reducible refine grown_trans ?_ (grown_drew _ none); with_reducible assumption))) (first | (go_at_call 8; (first | with_reducible refine (HN.out _ hQ).mono ?_ | with_reducible refine (HN.out _ (grown_trans hQ (grown_drew _ none))).mono ?_); rintro e w5 ⟨⟨pn, cn, rfl⟩, hg⟩; (first | replace hQ := grown_trans hQ hg | replace hQ := grown_trans (grown_trans hQ (grown_drew _ none)) hg); replace j0 := hg.cell j0 (by simp); replace j1 := hg.cell j1 (by simp); replace hga := hg.cell hga (by simp); clear hg))
      replace hW := grown_trans hW hQ
      replace B5 := hid (keepB B5.out hQ)
      replace HS1 := hid (fun j hj => (HS1.out j hj).keep hQ)
      replace HG1 := hid (fun j hj => (HG1.out j hj).keep hQ)
      clear hQ HN HR hga hza
      obtain ⟨⟨i0, i1⟩, fa⟩ := box2n (blk0 w5 (.cells #[.slice none 0 0, .slice none 0 0] 25 (0, 0)))
      have HA := hid (hP.out.again p1 c1 (some ⟨bg, og, none⟩) d1 w5 ⟨hc1, hc2⟩ ⟨hd1, hd2⟩ (fun i hi => HS1.out i hi) (fun i hi => HG1.out i hi))
      go_upto_region 11 with (go_at_call 6; (with_reducible refine HA.out.mono ?_); rintro e w6 ⟨p2, c2, g2, d2, rfl, ⟨he1, he2⟩, ⟨hf1, hf2⟩, hs, hgl, hg⟩; replace hW := grown_trans hW hg; replace B5 := hid (keepB B5.out hg); have HS2 := hid hs; have HG2 := hid hgl; replace HS1 := hid (fun j hj => (HS1.out j hj).keep hg); replace HG1 := hid (fun j hj => (HG1.out j hj).keep hg); clear hs hgl hg k0 k1 j0 j1 i0 i1 fa; obtain ⟨⟨i0, i1⟩, fa⟩ := box2n (blk0 w6 (.cells #[.slice none 0 0, .slice none 0 0] 25 (0, 0))); have f0 := fa 0; have f1 := fa 1; clear fa)
      clear i0 i1 f0 f1
      have gA := World.grownBy_alloc w6 (.cells #[.slice p2 m c2, .slice g2 1 d2] 25 (0, 0)) none
      have B7 := blk0 w6 (.cells #[.slice p2 m c2, .slice g2 1 d2] 25 (0, 0))
      replace hW := grown_trans hW gA
      replace B5 := hid (keepB B5.out gA)
      have HSM := hid fun W hg => rSame20_e p1 m c1 (some ⟨bg, og, none⟩) 1 d1 p2 c2 g2 d2 W ⟨hc1, hc2⟩ ⟨he1, he2⟩ ⟨hd1, hd2⟩ ⟨hf1, hf2⟩ (fun i hi => ((((HS1.out i hi).keep gA).two ((HS2.out i hi).keep gA))).keep hg) (fun i hi => ((((HG1.out i hi).keep gA).two ((HG2.out i hi).keep gA))).keep hg)
      clear gA HS1 HG1 HS2 HG2 HA
      generalize w6.heap.size = b7 at *
      generalize (w6.alloc _) = w7 at *
      obtain ⟨⟨k0, k1⟩, -⟩ := box2n B5.out
      obtain ⟨⟨l0, l1⟩, -⟩ := box2n B7
      clear B7
      go_wp2_with (go_at_call 9; (with_reducible refine (HSM.out _ (grown_refl _ _)).mono ?_); rintro e w8 ⟨rfl, hg⟩; replace hW := grown_trans hW hg; clear hg k0 k1 l0 l1)
      go_ret
      exact ⟨rfl, hW⟩
  · clear hx h0
    have hq0 : (x == 0) = false := by simp [hx0]
    have hq1 : (x != 0) = true := by simp [hx0]
    go_enter Tryz.func3, Tryz.ntmps3
    go_upto_region 1 with fail
    generalize (w.alloc _) = w0 at *
    go_wp2_with (go_at_call 5; (with_reducible refine (HX.out _ hW).mono ?_); rintro e w1 ⟨rfl, hg⟩; replace hW := grown_trans hW hg; clear hg)
    go_ret
    exact ⟨rfl, hW⟩
end Go.Proofs.YtdmlcddieadelaaGreatDoor
