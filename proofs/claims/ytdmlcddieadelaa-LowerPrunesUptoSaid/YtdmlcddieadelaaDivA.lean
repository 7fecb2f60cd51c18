/-
  Plain arithmetic of the division of two words by one, and of the division by hand. No program is mentioned here.
-/
import Derived.Test.YtdmlcddieadelaaDig
import Derived.Test.YtdmlcddieadelaaArith
set_option linter.unusedVariables false
namespace Nm
/-- the estimate q of the quotient of n B + u by y1 B + y0, with the rest r of n by y1 -/
structure Dq (B y1 y0 n u q r : Nat) : Prop where
  e : q * y1 + r = n
  hi : n * B + u < (q + 1) * (y1 * B + y0)

theorem Dq.start {B y1 y0 n u : Nat} (hy : 0 < y1) (hu : u < B) : Dq B y1 y0 n u (n / y1) (n % y1) := by
  refine ⟨by rw [Nat.mul_comm]; exact Nat.div_add_mod n y1, ?_⟩
  have h := Nat.div_add_mod n y1
  have hl := Nat.mod_lt n hy
  have h1 : n + 1 ≤ (n / y1 + 1) * y1 := by rw [Nat.add_mul, Nat.one_mul, Nat.mul_comm]; omega
  have h2 := Nat.mul_le_mul_right B h1
  rw [Nat.add_mul, Nat.one_mul] at h2
  rw [Nat.mul_add, ← Nat.mul_assoc]
  omega

theorem Dq.step {B y1 y0 n u q r : Nat} (h : Dq B y1 y0 n u q r) (hn : n < y1 * B + y0) (hu : u < B) (hc : B ≤ q ∨ B * r + u < q * y0) :
    1 ≤ q ∧ Dq B y1 y0 n u (q - 1) (r + y1) := by
  have hq : 1 ≤ q := by
    rcases Nat.eq_zero_or_pos q with h0 | h0
    · subst h0; rcases hc with hc | hc
      · omega
      · simp at hc
    · exact h0
  obtain ⟨p, rfl⟩ : ∃ p, q = p + 1 := ⟨q - 1, by omega⟩
  refine ⟨hq, ⟨by have := h.e; rw [Nat.add_mul, Nat.one_mul] at this; simp only [Nat.add_sub_cancel]; omega, ?_⟩⟩
  simp only [Nat.add_sub_cancel]
  rcases hc with hc | hc
  · have h1 : (n + 1) * B ≤ (y1 * B + y0) * B := Nat.mul_le_mul_right B hn
    have h2 : (y1 * B + y0) * B ≤ (y1 * B + y0) * (p + 1) := Nat.mul_le_mul_left _ hc
    rw [Nat.add_mul, Nat.one_mul] at h1
    rw [Nat.mul_comm (p + 1)]
    omega
  · have := h.e
    have e2 : n * B = (p + 1) * y1 * B + r * B := by rw [← this, Nat.add_mul]
    rw [Nat.mul_add, ← Nat.mul_assoc, Nat.mul_comm r B] at *
    omega

theorem Dq.done {B y1 y0 n u q r : Nat} (h : Dq B y1 y0 n u q r) (hc : q * y0 ≤ B * r + u) : q = (n * B + u) / (y1 * B + y0) := by
  have e2 : n * B = q * y1 * B + r * B := by rw [← h.e, Nat.add_mul]
  have hi := h.hi
  have lo : q * (y1 * B + y0) ≤ n * B + u := by
    rw [Nat.mul_add, ← Nat.mul_assoc]; rw [Nat.mul_comm r B] at e2; omega
  symm
  rw [Nat.div_eq_iff (by
    rcases Nat.eq_zero_or_pos (y1 * B + y0) with h0 | h0
    · rw [h0] at hi; omega
    · exact h0)]
  refine ⟨lo, ?_⟩
  rw [Nat.add_mul, Nat.one_mul] at hi; omega

theorem Dq.done2 {B y1 y0 n u q r : Nat} (h : Dq B y1 y0 n u q r) (hn : n < y1 * B + y0) (hy0 : y0 < B) (hr : B ≤ r) : q < B ∧ q = (n * B + u) / (y1 * B + y0) := by
  have he := h.e
  have hq : q < B := by
    refine Nat.lt_of_not_le fun hge => ?_
    have := Nat.mul_le_mul_right y1 hge
    rw [Nat.mul_comm B y1] at this
    omega
  refine ⟨hq, h.done ?_⟩
  have h1 : q * y0 ≤ B * B := Nat.mul_le_mul (by omega) (by omega)
  have h2 : B * B ≤ B * r := Nat.mul_le_mul_left _ hr
  omega

/-- two digits of a quotient, one after the other -/
theorem div_two {B n u1 u0 y : Nat} (hy : 0 < y) :
    ((n * B + u1) / y * B + ((n * B + u1) % y * B + u0) / y = (n * B * B + u1 * B + u0) / y) ∧ ((n * B + u1) % y * B + u0) % y = (n * B * B + u1 * B + u0) % y := by
  have h1 := Nat.div_add_mod (n * B + u1) y
  generalize (n * B + u1) / y = q1 at *
  generalize (n * B + u1) % y = r1 at *
  have h2 := Nat.div_add_mod (r1 * B + u0) y
  have hl := Nat.mod_lt (r1 * B + u0) hy
  generalize (r1 * B + u0) / y = q0 at *
  generalize (r1 * B + u0) % y = r0 at *
  have e : n * B * B + u1 * B + u0 = y * (q1 * B + q0) + r0 := by
    rw [← Nat.add_mul, ← h1, Nat.add_mul, Nat.mul_add, Nat.mul_assoc]; omega
  rw [e]
  constructor
  · rw [Nat.mul_add_div hy, Nat.div_eq_of_lt hl]; rfl
  · rw [Nat.mul_add_mod, Nat.mod_eq_of_lt hl]

/-- quotients of shifted numbers -/
theorem div_shift (N y s : Nat) (hs : 0 < s) : N * s / (y * s) = N / y ∧ N * s % (y * s) / s = N % y := by
  refine ⟨Nat.mul_div_mul_right _ _ hs, ?_⟩
  rw [Nat.mul_mod_mul_right, Nat.mul_div_cancel _ hs]
end Nm
namespace Nm
theorem shift_two {W S T hi lo : Nat} (hST : S * T = W) (hS : 0 < S) : (hi * S + lo / T) * W + lo * S % W = (hi * W + lo) * S := by
  have e1 : lo / T = lo * S / W := by
    rw [← hST, Nat.mul_comm S T]
    exact (Nat.mul_div_mul_right lo T hS).symm
  rw [e1]
  have := Nat.div_add_mod (lo * S) W
  rw [Nat.add_mul, Nat.add_mul, Nat.mul_right_comm hi S W, Nat.mul_comm (lo * S / W) W]
  omega
theorem shift_lt {S T hi lo y W : Nat} (hST : S * T = W) (hT : 0 < T) (hlo : lo < W) (hy : hi < y) : hi * S + lo / T < y * S := by
  have h1 : lo / T < S := Nat.div_lt_of_lt_mul (by rw [Nat.mul_comm, hST]; exact hlo)
  have h2 : (hi + 1) * S ≤ y * S := Nat.mul_le_mul_right _ hy
  rw [Nat.add_mul, Nat.one_mul] at h2
  omega
/-- the steps of the division of two words by one word: all of them together -/
theorem div_words {B W S T hi lo y un1 un0 q1 q0 : Nat} (hW : W = B * B) (hST : S * T = W) (hS : 0 < S) (hT : 0 < T) (hlo : lo < W) (hy : hi < y)
    (h1 : lo * S % W = un1 * B + un0)
    (e1 : q1 = ((hi * S + lo / T) * B + un1) / (y * S)) (e0 : q0 = (((hi * S + lo / T) * B + un1) % (y * S) * B + un0) / (y * S)) :
    q1 * B + q0 = (hi * W + lo) / y ∧ (((hi * S + lo / T) * B + un1) % (y * S) * B + un0) % (y * S) / S = (hi * W + lo) % y := by
  have hyS : 0 < y * S := Nat.mul_pos (by omega) hS
  have hd := div_two (B := B) (n := hi * S + lo / T) (u1 := un1) (u0 := un0) hyS
  have hs := shift_two (hi := hi) (lo := lo) hST hS
  have e : (hi * S + lo / T) * B * B + un1 * B + un0 = (hi * W + lo) * S := by
    rw [← hs, h1, hW, Nat.mul_assoc]; omega
  rw [e] at hd
  have hz := div_shift (hi * W + lo) y S hS
  rw [hz.1] at hd
  rw [e1, e0, hd.2]
  exact ⟨hd.1, hz.2⟩
end Nm
namespace Nm
/-- the digit was right: nothing is left to subtract -/
theorem digit_right {N v r d top bor p : Nat} (e : p + d * v + N * top = r + N * bor) (hle : bor ≤ top) (hlt : r < (d + 1) * v) (hv : v ≤ N) : p + d * v = r ∧ p < v := by
  obtain ⟨t, rfl⟩ : ∃ t, top = bor + t := ⟨top - bor, by omega⟩
  rw [Nat.add_mul, Nat.one_mul] at hlt
  rw [Nat.mul_add] at e
  rcases Nat.eq_zero_or_pos t with h0 | h0
  · subst h0; simp at e; omega
  · have : N * 1 ≤ N * t := Nat.mul_le_mul_left _ h0
    omega
/-- the digit was one too great: the divisor is added again -/
theorem digit_less {N v r d top bor p p2 c : Nat} (e : p + d * v + N * top = r + N * bor) (hlt : top < bor) (hp : p < N) (hd : d * v < r + v) (e2 : p2 + N * c = p + v) (hp2 : p2 < N) (hv : v ≤ N) :
    1 ≤ d ∧ p2 + (d - 1) * v = r ∧ p2 < v := by
  obtain ⟨t, rfl⟩ : ∃ t, bor = top + 1 + t := ⟨bor - top - 1, by omega⟩
  rw [Nat.mul_add, Nat.mul_add, Nat.mul_one] at e
  have hN : N * t = 0 ∨ N ≤ N * t := by
    rcases Nat.eq_zero_or_pos t with h0 | h0
    · left; rw [h0, Nat.mul_zero]
    · right; have := Nat.mul_le_mul_left N h0; omega
  have hd1 : 1 ≤ d := by
    rcases Nat.eq_zero_or_pos d with h0 | h0
    · subst h0; simp at e; omega
    · exact h0
  obtain ⟨f, rfl⟩ : ∃ f, d = f + 1 := ⟨d - 1, by omega⟩
  rw [Nat.add_mul, Nat.one_mul] at e hd
  simp only [Nat.add_sub_cancel]
  have hc : c = 0 ∨ c = 1 ∨ 2 ≤ c := by omega
  refine ⟨hd1, ?_⟩
  rcases hc with rfl | rfl | hc
  · simp at e2; omega
  · simp at e2; omega
  · have := Nat.mul_le_mul_left N hc; omega
end Nm
namespace Nm
theorem digit_est {W first second N2 v Vlow r Rlow high mid low d : Nat} (hf : W ≤ 2 * first) (hW : 2 ≤ W) (hv : v = (first * W + second) * N2 + Vlow) (hV : Vlow < N2)
    (hr : r = (high * W * W + mid * W + low) * N2 + Rlow) (hR : Rlow < N2) (hs : second < W) (hmid : mid < W) (hlow : low < W) (hlt : r < W * v)
    (hd : d = if first ≤ high then W - 1 else (high * W * W + mid * W + low) / (first * W + second)) : d < W ∧ r < (d + 1) * v ∧ d * v < r + v := by
  have hfW : 0 < first * W := Nat.mul_pos (by omega) (by omega)
  by_cases h : first ≤ high
  · rw [if_pos h] at hd
    subst hd
    refine ⟨by omega, ?_⟩
    have sN : second * N2 + N2 ≤ W * N2 := by
      have := Nat.mul_le_mul_right N2 (show second + 1 ≤ W from hs)
      rwa [Nat.add_mul, Nat.one_mul] at this
    have lN : low * N2 + N2 ≤ W * N2 := by
      have := Nat.mul_le_mul_right N2 (show low + 1 ≤ W from hlow)
      rwa [Nat.add_mul, Nat.one_mul] at this
    refine est_top W first (W * N2) r v high mid (second * N2 + Vlow) (low * N2 + Rlow) hf hW ?_ (by omega) ?_ h hlt
    · rw [hv, Nat.add_mul, Nat.mul_assoc]; omega
    · rw [hr, Nat.add_mul, Nat.add_mul]
      have e1 : high * W * W * N2 = high * (W * N2 * W) := by rw [Nat.mul_assoc, Nat.mul_assoc, Nat.mul_right_comm W N2 W, ← Nat.mul_assoc W W N2]
      have e2 : mid * W * N2 = mid * (W * N2) := Nat.mul_assoc _ _ _
      rw [e1, e2]; omega
  · rw [if_neg h] at hd
    have hD : 0 < first * W + second := by omega
    have a1 := Nat.div_add_mod (high * W * W + mid * W + low) (first * W + second)
    have a2 := Nat.mod_lt (high * W * W + mid * W + low) hD
    rw [← hd] at a1
    generalize (high * W * W + mid * W + low) % (first * W + second) = z at *
    rw [Nat.mul_comm] at a1
    have h1 : d * (first * W + second) ≤ high * W * W + mid * W + low := by omega
    have h2 : high * W * W + mid * W + low < (d + 1) * (first * W + second) := by rw [Nat.add_mul, Nat.one_mul]; omega
    have hdW : d < W := by
      refine Nat.lt_of_not_le fun hge => ?_
      have b1 : W * (first * W + second) ≤ d * (first * W + second) := Nat.mul_le_mul_right _ hge
      have b2 : (high + 1) * W * W ≤ first * W * W := Nat.mul_le_mul_right _ (Nat.mul_le_mul_right _ (by omega))
      have b3 : (mid + 1) * W ≤ W * W := Nat.mul_le_mul_right _ hmid
      rw [Nat.add_mul, Nat.add_mul, Nat.one_mul] at b2
      rw [Nat.add_mul, Nat.one_mul] at b3
      rw [Nat.mul_add, Nat.mul_comm W (first * W)] at b1
      omega
    exact ⟨hdW, est W first second high mid low N2 r v d Vlow Rlow hf hdW hv hV hr hR h1 h2⟩

/-- the highest three words of what is left -/
theorem three_words {W : Nat} (hW : 1 < W) (cur : List Nat) (hc : Dg W cur) (i m : Nat) (hi : i + m + 2 < cur.length) (v : Nat) (hv : v ≤ W ^ (m + 2)) (hlt : V W (cur.drop (i + 1)) < v)
    (hi0 : i + m + 2 < cur.length) :
    ∃ Rlow, Rlow < W ^ m ∧ V W (cur.drop i) = (cur[i + m + 2] * W * W + cur[i + m + 1] * W + cur[i + m]) * W ^ m + Rlow ∧ V W (cur.drop i) < W * v := by
  have hd := hc.drop i
  have e0 := V_drop_succ (B := W) cur i (by omega)
  have hx := hc.get i (by omega)
  have hr : V W (cur.drop i) < W * v := by
    rw [e0]
    have := Nat.mul_le_mul_left W (show V W (cur.drop (i + 1)) + 1 ≤ v from hlt)
    rw [Nat.mul_add, Nat.mul_one] at this
    omega
  have g0 : cur[i + m] = V W (cur.drop i) / W ^ m % W := by
    rw [← dig_get (cur.drop i) hd m (by simp; omega)]; simp
  have g1 : cur[i + m + 1] = V W (cur.drop i) / W ^ (m + 1) % W := by
    rw [← dig_get (cur.drop i) hd (m + 1) (by simp; omega)]; simp [Nat.add_assoc]
  have g2 : cur[i + m + 2] = V W (cur.drop i) / W ^ (m + 2) % W := by
    rw [← dig_get (cur.drop i) hd (m + 2) (by simp; omega)]; simp [Nat.add_assoc]
  generalize V W (cur.drop i) = r at *
  refine ⟨r % W ^ m, Nat.mod_lt _ (Nat.pow_pos (by omega)), ?_, hr⟩
  have p1 : W ^ (m + 1) = W ^ m * W := Nat.pow_succ ..
  have p2 : W ^ (m + 2) = W ^ m * (W * W) := by rw [Nat.pow_succ, Nat.pow_succ, Nat.mul_assoc]
  have hb : r / W ^ m < W * (W * W) := by
    refine Nat.div_lt_of_lt_mul (Nat.lt_of_lt_of_le hr ?_)
    rw [Nat.mul_left_comm]; exact Nat.mul_le_mul_left W (p2 ▸ hv)
  rw [p1, ← Nat.div_div_eq_div_mul] at g1
  rw [p2, ← Nat.div_div_eq_div_mul] at g2
  have hq := Nat.div_add_mod r (W ^ m)
  rw [g0, g1, g2]
  generalize r / W ^ m = q at *
  have c1 : q / (W * W) % W = q / (W * W) := Nat.mod_eq_of_lt (Nat.div_lt_of_lt_mul (by rw [Nat.mul_comm]; exact hb))
  have c2 := Nat.div_add_mod q W
  have c3 := Nat.div_add_mod (q / W) W
  rw [Nat.div_div_eq_div_mul] at c3
  have e : q / (W * W) % W * W * W + q / W % W * W + q % W = q := by
    rw [c1, ← Nat.add_mul, Nat.mul_comm (q / (W * W)) W, c3, Nat.mul_comm (q / W) W, c2]
  rw [e, Nat.mul_comm q]; omega
end Nm
namespace Nm
/-- the parts of a word that is shifted up by s -/
theorem shl_parts {W S T x : Nat} (hST : S * T = W) (hS : 0 < S) : x * S % W + W * (x / T) = x * S := by
  have e1 : x / T = x * S / W := by
    rw [← hST, Nat.mul_comm S T]; exact (Nat.mul_div_mul_right x T hS).symm
  rw [e1]; exact Nat.mod_add_div _ _

theorem shl_low {W S T x : Nat} (hST : S * T = W) : x * S % W = x % T * S := by
  rw [← hST, Nat.mul_comm S T, Nat.mul_mod_mul_right]

/-- one step of a shift up -/
theorem up_step {W S T : Nat} (hW : 1 < W) (hST : S * T = W) (hS : 0 < S) (hT : 0 < T) (cu : List Nat) (k x v : Nat) (hk : k + 1 < cu.length) (hx : x < W) (h0 : cu[k + 1] = 0) (hv : V W cu = v * S) :
    V W ((cu.set k (cu[k] + x * S % W)).set (k + 1) (x / T)) = (v + W ^ k * x) * S ∧ x / T < S := by
  refine ⟨?_, Nat.div_lt_of_lt_mul (by rw [Nat.mul_comm, hST]; exact hx)⟩
  have h1 := V_set (B := W) cu k (cu[k] + x * S % W) (by omega)
  have hl : (k + 1) < (cu.set k (cu[k] + x * S % W)).length := by simpa using hk
  have h2 := V_set (B := W) (cu.set k (cu[k] + x * S % W)) (k + 1) (x / T) hl
  have e0 : (cu.set k (cu[k] + x * S % W))[k + 1] = 0 := by
    rw [List.getElem_set_ne (by omega)]; exact h0
  rw [e0, Nat.mul_zero, Nat.add_zero] at h2
  have h3 := shl_parts (x := x) hST hS
  have h4 := congrArg (W ^ k * ·) h3
  simp only [Nat.mul_add] at h4
  rw [Nat.mul_add] at h1
  rw [h2, Nat.add_mul, Nat.pow_succ]
  rw [← Nat.mul_assoc] at h4
  rw [hv] at h1
  rw [Nat.mul_assoc (W ^ k) x S]
  omega
end Nm
namespace Nm
/-- one step of a shift down -/
theorem down_step {W S T : Nat} (hW : 1 < W) (hST : S * T = W) (hS : 0 < S) (hT : 0 < T) (cu : List Nat) (k x v : Nat) (hk : k + 1 < cu.length) (hx : x < W) (h0 : cu[k + 1] = 0) (hv : V W cu = v / S) :
    V W ((cu.set (k + 1) (x / S)).set k (cu[k] + x * T % W)) = (v + W ^ (k + 1) * x) / S ∧ x / S < T := by
  refine ⟨?_, Nat.div_lt_of_lt_mul (by rw [hST]; exact hx)⟩
  have h1 := V_set (B := W) cu (k + 1) (x / S) hk
  have hl : k < (cu.set (k + 1) (x / S)).length := by simp; omega
  have h2 := V_set (B := W) (cu.set (k + 1) (x / S)) k (cu[k] + x * T % W) hl
  have e0 : (cu.set (k + 1) (x / S))[k] = cu[k] := by
    rw [List.getElem_set_ne (by omega)]
  rw [e0, Nat.mul_add] at h2
  rw [h0, Nat.mul_zero, Nat.add_zero] at h1
  have h3 := shl_parts (x := x) (S := T) (T := S) (W := W) (by rw [Nat.mul_comm]; exact hST) hT
  have h4 := congrArg (W ^ k * ·) h3
  simp only [Nat.mul_add] at h4
  have e5 : (v + W ^ (k + 1) * x) / S = v / S + W ^ k * (x * T) := by
    have : W ^ (k + 1) * x = S * (W ^ k * (x * T)) := by
      have e6 : W * x = S * (x * T) := by rw [← hST, Nat.mul_assoc, Nat.mul_comm T x]
      rw [Nat.pow_succ, Nat.mul_assoc, e6, Nat.mul_left_comm]
    rw [this, Nat.add_mul_div_left _ _ hS]
  rw [e5, ← hv]
  rw [Nat.pow_succ, Nat.mul_assoc] at h1
  omega
theorem down_first {W S : Nat} (cu : List Nat) (x : Nat) (hk : 0 < cu.length) (h0 : cu[0] = 0) (hv : V W cu = 0) : V W (cu.set 0 (x / S)) = x / S := by
  have h1 := V_set (B := W) cu 0 (x / S) hk
  rw [h0, hv] at h1; simpa using h1
end Nm
namespace Nm
/-- the state of the division by hand, when k digits are still to come -/
structure KInv (W n Lq v U k : Nat) (cu cq : List Nat) : Prop where
  lu : cu.length = n + 1
  du : Dg W cu
  lq : cq.length = Lq
  dq : Dg W cq
  zq : ∀ j, j < k → cq[j]? = some 0
  eq : V W cu + v * V W cq = U
  lt : V W (cu.drop k) < v

theorem same_parts {cu cu1 : List Nat} {i m : Nat} (h : ∀ j, j < i ∨ i + m ≤ j → cu1[j]? = cu[j]?) : cu1.take i = cu.take i ∧ cu1.drop (i + m) = cu.drop (i + m) := by
  constructor
  · apply List.ext_getElem?
    intro j
    rw [List.getElem?_take, List.getElem?_take]
    by_cases hj : j < i
    · rw [if_pos hj, if_pos hj]; exact h j (.inl hj)
    · rw [if_neg hj, if_neg hj]
  · apply List.ext_getElem?
    intro j
    rw [List.getElem?_drop, List.getElem?_drop]
    exact h _ (.inr (by omega))

theorem drop_level {W : Nat} (hW : 0 < W) {cu cu1 : List Nat} {i m A b : Nat} (hi : i ≤ cu.length) (hl : cu1.length = cu.length) (ht : cu1.take i = cu.take i) (e : V W cu1 + W ^ i * A = V W cu + W ^ (i + m) * b) :
    V W (cu1.drop i) + A = V W (cu.drop i) + W ^ m * b := by
  have h1 := V_take_drop (B := W) cu i hi
  have h2 := V_take_drop (B := W) cu1 i (by omega)
  rw [ht] at h2
  have hp : 0 < W ^ i := Nat.pow_pos hW
  apply Nat.eq_of_mul_eq_mul_left hp
  rw [Nat.mul_add, Nat.mul_add, ← Nat.mul_assoc, ← Nat.pow_add]
  omega

theorem V_zero_of {W : Nat} {xs : List Nat} {i m v : Nat} (hW : 0 < W) (hi : i + m ≤ xs.length) (hlt : V W (xs.drop i) < v) (hv : v ≤ W ^ m) : V W (xs.drop (i + m)) = 0 := by
  have h := V_take_drop (B := W) (xs.drop i) m (by simp; omega)
  rw [List.drop_drop] at h
  rcases Nat.eq_zero_or_pos (V W (xs.drop (i + m))) with h0 | h0
  · exact h0
  · have := Nat.mul_le_mul_left (W ^ m) h0
    omega

/-- what is left behind the subtraction, on the level of place i -/
theorem knuth_sub {W n Lq v U i m A bor : Nat} {cu cq cu1 : List Nat} (hW : 1 < W) (h : KInv W n Lq v U (i + 1) cu cq) (hv : v ≤ W ^ m) (him : i + m ≤ n) (hl : cu1.length = cu.length) (hd : Dg W cu1)
    (e : V W cu1 + W ^ i * A = V W cu + W ^ (i + m) * bor) (hs : ∀ j, j < i ∨ i + m ≤ j → cu1[j]? = cu[j]?) (him2 : i + m < cu.length) :
    V W ((cu1.drop i).take m) + A + W ^ m * cu[i + m] = V W (cu.drop i) + W ^ m * bor ∧ V W ((cu1.drop i).take m) < W ^ m := by
  have hlu := h.lu
  obtain ⟨h1, h2⟩ := same_parts hs
  have h3 := drop_level (by omega) (by omega) hl h1 e
  have h4 := V_take_drop (B := W) (cu1.drop i) m (by simp; omega)
  rw [List.drop_drop, h2] at h4
  have h5 := V_drop_succ (B := W) cu (i + m) him2
  have h6 := V_zero_of (xs := cu) (i := i + 1) (m := m) (by omega) (by omega) h.lt hv
  rw [show i + 1 + m = i + m + 1 by omega] at h6
  rw [h6, Nat.mul_zero, Nat.add_zero] at h5
  rw [h5] at h4
  have h7 := ((hd.drop i).take m).lt
  have h8 : W ^ ((cu1.drop i).take m).length ≤ W ^ m := Nat.pow_le_pow_right (by omega) (List.length_take_le _ _)
  exact ⟨by omega, by omega⟩

/-- the highest word is set to 0 -/
theorem clear_top {W n Lq v U i m : Nat} {cu cq cu1 : List Nat} (hW : 1 < W) (h : KInv W n Lq v U (i + 1) cu cq) (hv : v ≤ W ^ m) (him : i + m ≤ n) (hl : cu1.length = cu.length)
    (hs : ∀ j, j < i ∨ i + m ≤ j → cu1[j]? = cu[j]?) :
    V W ((cu1.set (i + m) 0).drop i) = V W ((cu1.drop i).take m) ∧ (cu1.set (i + m) 0).take i = cu.take i := by
  have hlu := h.lu
  obtain ⟨h1, h2⟩ := same_parts hs
  have him1 : i + m < cu1.length := by omega
  have h4 := V_take_drop (B := W) ((cu1.set (i + m) 0).drop i) m (by simp; omega)
  rw [List.drop_drop] at h4
  have e1 : ((cu1.set (i + m) 0).drop i).take m = (cu1.drop i).take m := by
    apply List.ext_getElem?
    intro j
    rw [List.getElem?_take, List.getElem?_take]
    by_cases hj : j < m
    · rw [if_pos hj, if_pos hj, List.getElem?_drop, List.getElem?_drop, List.getElem?_set_ne (by omega)]
    · rw [if_neg hj, if_neg hj]
  have e2 : V W ((cu1.set (i + m) 0).drop (i + m)) = 0 := by
    have h5 := V_drop_succ (B := W) (cu1.set (i + m) 0) (i + m) (by simpa using him1)
    have h6 : (cu1.set (i + m) 0).drop (i + m + 1) = cu.drop (i + m + 1) := by
      apply List.ext_getElem?
      intro j
      rw [List.getElem?_drop, List.getElem?_drop, List.getElem?_set_ne (by omega)]
      exact hs _ (.inr (by omega))
    have h7 := V_zero_of (xs := cu) (i := i + 1) (m := m) (by omega) (by omega) h.lt hv
    rw [show i + 1 + m = i + m + 1 by omega] at h7
    rw [h6, h7] at h5
    rw [h5]; simp
  rw [e1, e2, Nat.mul_zero, Nat.add_zero] at h4
  refine ⟨h4, ?_⟩
  apply List.ext_getElem?
  intro j
  rw [List.getElem?_take, List.getElem?_take]
  by_cases hj : j < i
  · rw [if_pos hj, if_pos hj, List.getElem?_set_ne (by omega)]; exact hs j (.inl hj)
  · rw [if_neg hj, if_neg hj]

/-- a digit more -/
theorem KInv.next {W n Lq v U i d : Nat} {cu cq cu2 : List Nat} (hW : 0 < W) (h : KInv W n Lq v U (i + 1) cu cq) (hi : i < n) (hiq : i < Lq) (hl : cu2.length = cu.length) (hd2 : Dg W cu2) (ht : cu2.take i = cu.take i)
    (hd : d < W) (e : V W (cu2.drop i) + d * v = V W (cu.drop i)) (hlt : V W (cu2.drop i) < v) : KInv W n Lq v U i cu2 (cq.set i d) := by
  have hlu := h.lu
  have hlq := h.lq
  refine ⟨by omega, hd2, by simpa using hlq, h.dq.set _ _ hd, fun j hj => ?_, ?_, hlt⟩
  · rw [List.getElem?_set_ne (by omega)]; exact h.zq j (by omega)
  · have h1 := V_take_drop (B := W) cu i (by omega)
    have h2 := V_take_drop (B := W) cu2 i (by omega)
    rw [ht] at h2
    have h3 := V_set (B := W) cq i d (by omega)
    have h0 : cq[i]'(by omega) = 0 := by
      have := h.zq i (by omega)
      rw [List.getElem?_eq_getElem (by omega)] at this
      simpa using this
    rw [h0, Nat.mul_zero, Nat.add_zero] at h3
    rw [← h.eq, h3, h1, h2, ← e, Nat.mul_add, Nat.mul_add]
    have : v * (W ^ i * d) = W ^ i * (d * v) := by rw [Nat.mul_left_comm, Nat.mul_comm v d]
    omega

/-- the end: the quotient and the rest -/
theorem KInv.done {W n Lq v U : Nat} {cu cq : List Nat} (h : KInv W n Lq v U 0 cu cq) : V W cq = U / v ∧ V W cu = U % v := by
  have h1 := h.lt
  rw [List.drop_zero] at h1
  have h2 := h.eq
  rw [Nat.add_comm] at h2
  constructor
  · rw [← h2, Nat.mul_add_div (by omega), Nat.div_eq_of_lt h1, Nat.add_zero]
  · rw [← h2, Nat.mul_add_mod, Nat.mod_eq_of_lt h1]

/-- the beginning -/
theorem KInv.start {W n m v U S : Nat} {cu : List Nat} (hW : 1 < W) (hm : 1 ≤ m) (hmn : m ≤ n) (lu : cu.length = n + 1) (du : Dg W cu) (eu : V W cu = U * S) (hU : U < W ^ n) (hv : W ^ (m - 1) * S ≤ v) (hS : 0 < S) :
    KInv W n (n + 1 - m) v (U * S) (n + 1 - m) cu (List.replicate (n + 1 - m) 0) := by
  refine ⟨lu, du, by simp, Dg.zeros (by omega) _, fun j hj => by simp [hj], by rw [V_zeros, eu]; simp, ?_⟩
  rw [V_drop_eq cu du _ (by omega), eu]
  refine Nat.div_lt_of_lt_mul ?_
  have h1 : U * S < W ^ n * S := Nat.mul_lt_mul_of_pos_right hU hS
  have h2 : W ^ (n + 1 - m) * (W ^ (m - 1) * S) ≤ W ^ (n + 1 - m) * v := Nat.mul_le_mul_left _ hv
  rw [← Nat.mul_assoc, ← Nat.pow_add, show n + 1 - m + (m - 1) = n by omega] at h2
  omega

/-- the two highest words of the divisor -/
theorem two_top {W : Nat} (hW : 1 < W) (vs : List Nat) (hd : Dg W vs) (m : Nat) (hl : vs.length = m + 2) : ∃ Vlow, Vlow < W ^ m ∧ V W vs = (vs[m + 1] * W + vs[m]) * W ^ m + Vlow := by
  have h1 := V_take_drop (B := W) vs m (by omega)
  have h2 := V_drop_succ (B := W) vs m (by omega)
  have h3 := V_drop_succ (B := W) vs (m + 1) (by omega)
  rw [show vs.drop (m + 1 + 1) = [] from List.drop_of_length_le (by omega)] at h3
  rw [h3] at h2
  rw [h2] at h1
  refine ⟨V W (vs.take m), ?_, ?_⟩
  · have := (hd.take m).lt
    rw [List.length_take, Nat.min_eq_left (by omega)] at this
    exact this
  · rw [h1, Nat.mul_comm (W ^ m)]; simp
    rw [Nat.mul_comm W, Nat.add_comm vs[m], Nat.add_comm]
end Nm
namespace Nm
/-- the divisor, shifted up so that its highest bit is set -/
theorem norm_top {W S T : Nat} (hW : 1 < W) (hST : S * T = W) (vs zs : List Nat) (hv : Dg W vs) (hz : Dg W zs) (m t : Nat) (lv : vs.length = m + 2) (lz : zs.length = m + 2 + 1) (ht : t = vs[m + 1])
    (e : V W zs = V W vs * S) (h1 : W ≤ 2 * (t * S)) (h2 : t * S < W) (hS : 0 < S) :
    V W zs < W ^ (m + 2) ∧ W ≤ 2 * zs[m + 1] ∧ V W (zs.take (m + 2)) = V W zs ∧ W ^ (m + 1) * S ≤ V W zs := by
  have a1 := V_take_drop (B := W) vs (m + 1) (by omega)
  have a2 := V_drop_succ (B := W) vs (m + 1) (by omega)
  rw [show vs.drop (m + 1 + 1) = [] from List.drop_of_length_le (by omega), ← ht] at a2
  simp only [V_nil, Nat.mul_zero, Nat.add_zero] at a2
  rw [a2] at a1
  have a3 := (hv.take (m + 1)).lt
  rw [List.length_take, Nat.min_eq_left (by omega)] at a3
  generalize V W (vs.take (m + 1)) = lo at *
  have hp : 0 < W ^ (m + 1) := Nat.pow_pos (by omega)
  have hT : t < T := by
    refine Nat.lt_of_not_le fun hge => ?_
    have := Nat.mul_le_mul_left S hge
    rw [hST, Nat.mul_comm] at this; omega
  have b1 : (t + 1) * S ≤ W := by rw [← hST, Nat.mul_comm S]; exact Nat.mul_le_mul_right _ hT
  have b2 : (lo + 1) * S ≤ W ^ (m + 1) * S := Nat.mul_le_mul_right _ a3
  have b3 : W ^ (m + 1) * ((t + 1) * S) ≤ W ^ (m + 1) * W := Nat.mul_le_mul_left _ b1
  have c0 : V W zs = lo * S + W ^ (m + 1) * (t * S) := by rw [e, a1, Nat.add_mul, Nat.mul_assoc]
  rw [Nat.add_mul, Nat.one_mul] at b2
  rw [Nat.add_mul, Nat.one_mul, Nat.mul_add] at b3
  have p2 : W ^ (m + 2) = W ^ (m + 1) * W := Nat.pow_succ ..
  have lt : V W zs < W ^ (m + 2) := by rw [p2]; omega
  have d1 := V_take_drop (B := W) zs (m + 2) (by omega)
  have d0 : V W (zs.drop (m + 2)) = 0 := by rw [V_drop_eq zs hz _ (by omega)]; exact Nat.div_eq_of_lt lt
  rw [d0, Nat.mul_zero, Nat.add_zero] at d1
  refine ⟨lt, ?_, d1.symm, ?_⟩
  · rw [dig_get zs hz (m + 1) (by omega), c0, Nat.add_mul_div_left _ _ hp]
    have f1 : lo * S / W ^ (m + 1) + t * S < W := by
      rw [← Nat.add_mul_div_left _ _ hp, ← c0]
      refine Nat.div_lt_of_lt_mul ?_
      rw [← p2]; exact lt
    rw [Nat.mod_eq_of_lt f1]
    generalize lo * S / W ^ (m + 1) = q at *
    omega
  · have t1 : 1 ≤ t := by
      rcases Nat.eq_zero_or_pos t with h0 | h0
      · subst h0; simp at h1; omega
      · exact h0
    have : W ^ (m + 1) * (1 * S) ≤ W ^ (m + 1) * (t * S) := Nat.mul_le_mul_left _ (Nat.mul_le_mul_right _ t1)
    rw [Nat.one_mul] at this; omega
end Nm
