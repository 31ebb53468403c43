/- Plain mathematics of ratio: products over divisors, means, fractions (no program). -/
import Derived.Lib.Hide
namespace Go.Proofs.Ytlnhdakafidhiaa
set_option linter.unusedVariables false
set_option linter.unusedSimpArgs false
namespace R
def mulDiv (a b c : Int) : Int × Int := if a < 0 ∨ b < 0 ∨ c < 1 then (0, 1) else if 4611686018427387904 < a * b / c then (0, 8) else (a * b / c, 0)
def pin (x : Int) : Int := min (max x 0) 1125899906842624
def sum : List Int → Int
  | [] => 0
  | x :: r => pin x + sum r
def mean (l : List Int) : Int := if l.length = 0 then 0 else sum l / l.length
def clamp (n low high : Int) : Int := if n < low then low else if high < n then high else n
def cmp (a b c d : Int) : Int := if a < 0 ∨ c < 0 ∨ b < 1 ∨ d < 1 then 0 else if a * d < c * b then -1 else if c * b < a * d then 1 else 0

/-! ### A quotient bit by bit from the highest one on -/
theorem bit_step {q n b : Nat} (h : n = q / 2 ^ (b + 1) * 2 ^ (b + 1)) : (if n + 2 ^ b ≤ q then n + 2 ^ b else n) = q / 2 ^ b * 2 ^ b := by
  have hp : 0 < 2 ^ b := Nat.two_pow_pos b
  have e1 : q / 2 ^ (b + 1) = q / 2 ^ b / 2 := by rw [Nat.pow_succ, Nat.div_div_eq_div_mul]
  have e2 := Nat.div_add_mod q (2 ^ b)
  have e3 := Nat.mod_lt q hp
  have e4 := Nat.div_add_mod (q / 2 ^ b) 2
  have e5 := Nat.mod_lt (q / 2 ^ b) (show 0 < 2 by omega)
  rw [e1] at h
  rw [Nat.pow_succ] at h
  generalize hk : q / 2 ^ b / 2 = k at *
  generalize hm : q / 2 ^ b % 2 = m at *
  generalize hj : q / 2 ^ b = j at *
  generalize 2 ^ b = P at *
  subst h
  rcases Nat.lt_or_ge m 1 with h0 | h1
  · obtain rfl : m = 0 := by omega
    have hj2 : j = 2 * k := by omega
    subst hj2
    have : P * (2 * k) = k * (P * 2) := by simp [Nat.mul_comm, Nat.mul_left_comm, Nat.mul_assoc]
    rw [if_neg (by omega), Nat.mul_comm (2 * k) P]
    exact this.symm
  · obtain rfl : m = 1 := by omega
    have hj2 : j = 2 * k + 1 := by omega
    subst hj2
    have e6 : P * (2 * k + 1) = k * (P * 2) + P := by rw [Nat.mul_add, Nat.mul_one]; simp [Nat.mul_comm, Nat.mul_left_comm, Nat.mul_assoc]
    rw [if_pos (by omega), Nat.mul_comm (2 * k + 1) P, e6]
theorem bit_start {q b : Nat} (h : q < 2 ^ b) : 0 = q / 2 ^ b * 2 ^ b := by rw [Nat.div_eq_of_lt h, Nat.zero_mul]
theorem bit_end (q : Nat) : q / 2 ^ 0 * 2 ^ 0 = q := by simp
theorem le_quot {p c m : Nat} (hc : 0 < c) : c * m ≤ p ↔ m ≤ p / c := by rw [Nat.le_div_iff_mul_le hc, Nat.mul_comm]

/-! ### Sums of two halves -/
theorem add_halves {xh xl yh yl : Nat} (h1 : xl < 18446744073709551616) (h2 : yl < 18446744073709551616) (h3 : xh * 18446744073709551616 + xl + (yh * 18446744073709551616 + yl) < 340282366920938463463374607431768211456) :
    (if (xl + yl) % 18446744073709551616 < xl then (xh + yh + 1) else xh + yh) * 18446744073709551616 + (xl + yl) % 18446744073709551616 = xh * 18446744073709551616 + xl + (yh * 18446744073709551616 + yl) ∧
    (if (xl + yl) % 18446744073709551616 < xl then (xh + yh + 1) else xh + yh) < 18446744073709551616 := by
  split <;> omega
theorem below_halves {xh xl yh yl : Nat} (h1 : xl < 18446744073709551616) (h2 : yl < 18446744073709551616) :
    (xh < yh ∨ xh = yh ∧ xl < yl) ↔ xh * 18446744073709551616 + xl < yh * 18446744073709551616 + yl := by omega

/-! ### Means -/
theorem pin_bounds (x : Int) : 0 ≤ pin x ∧ pin x ≤ 1125899906842624 := by unfold pin; omega
theorem sum_bounds (l : List Int) : 0 ≤ sum l ∧ sum l ≤ l.length * 1125899906842624 := by
  induction l with
  | nil => simp [sum]
  | cons x r ih => have := pin_bounds x; simp only [sum, List.length_cons]; push_cast; omega
theorem sum_snoc (l : List Int) (x : Int) : sum (l ++ [x]) = sum l + pin x := by
  induction l with
  | nil => simp [sum]
  | cons y r ih => simp only [List.cons_append, sum, ih]; omega
theorem sum_low {l : List Int} {k : Int} (h : ∀ x ∈ l, k ≤ pin x) : l.length * k ≤ sum l := by
  induction l with
  | nil => simp [sum]
  | cons y r ih =>
    have h1 := ih fun x hx => h x (List.mem_cons_of_mem _ hx)
    have h2 := h y (List.mem_cons_self ..)
    simp only [sum, List.length_cons]; push_cast; rw [Int.add_mul, Int.one_mul]; omega
theorem sum_high {l : List Int} {k : Int} (h : ∀ x ∈ l, pin x ≤ k) : sum l ≤ l.length * k := by
  induction l with
  | nil => simp [sum]
  | cons y r ih =>
    have h1 := ih fun x hx => h x (List.mem_cons_of_mem _ hx)
    have h2 := h y (List.mem_cons_self ..)
    simp only [sum, List.length_cons]; push_cast; rw [Int.add_mul, Int.one_mul]; omega
theorem mean_low {l : List Int} {k : Int} (hl : l.length ≠ 0) (h : ∀ x ∈ l, k ≤ pin x) : k ≤ mean l := by
  unfold mean
  rw [if_neg hl, Int.le_ediv_iff_mul_le (by omega), Int.mul_comm]
  exact sum_low h
theorem mean_high {l : List Int} {k : Int} (hl : l.length ≠ 0) (h : ∀ x ∈ l, pin x ≤ k) : mean l ≤ k := by
  unfold mean
  rw [if_neg hl]
  have h1 := sum_high h
  have h2 : (0 : Int) < l.length := by omega
  have h3 := Int.mul_ediv_cancel_left k (show (l.length : Int) ≠ 0 by omega)
  calc sum l / l.length ≤ (l.length * k) / l.length := Int.ediv_le_ediv h2 h1
    _ = k := h3
theorem mean_same {l : List Int} {k : Int} (hl : l.length ≠ 0) (h : ∀ x ∈ l, pin x = k) : mean l = k :=
  Int.le_antisymm (mean_high hl fun x hx => by rw [h x hx]; exact Int.le_refl _) (mean_low hl fun x hx => by rw [h x hx]; exact Int.le_refl _)

/-! ### Fractions -/
theorem cmp_turn (a b c d : Int) : cmp a b c d = - cmp c d a b := by
  unfold cmp
  by_cases h : a < 0 ∨ c < 0 ∨ b < 1 ∨ d < 1
  · rw [if_pos h, if_pos (by omega)]; rfl
  · have h' : ¬(c < 0 ∨ a < 0 ∨ d < 1 ∨ b < 1) := by omega
    rw [if_neg h, if_neg h']
    by_cases h1 : a * d < c * b
    · have h2 : ¬ c * b < a * d := by omega
      rw [if_pos h1, if_neg h2, if_pos h1]
    · by_cases h2 : c * b < a * d
      · rw [if_neg h1, if_pos h2, if_pos h2]; rfl
      · rw [if_neg h1, if_neg h2, if_neg h2, if_neg h1]; rfl
theorem cmp_nonpos {a b c d : Int} (ha : 0 ≤ a) (hc : 0 ≤ c) (hb : 1 ≤ b) (hd : 1 ≤ d) : cmp a b c d ≤ 0 ↔ a * d ≤ c * b := by
  unfold cmp
  rw [if_neg (by omega)]
  split
  · simp; omega
  · split <;> simp <;> omega
theorem cmp_nonneg {a b c d : Int} (ha : 0 ≤ a) (hc : 0 ≤ c) (hb : 1 ≤ b) (hd : 1 ≤ d) : 0 ≤ cmp a b c d ↔ c * b ≤ a * d := by
  rw [cmp_turn]
  have := cmp_nonpos hc ha hd hb
  constructor
  · intro h; exact this.1 (by omega)
  · intro h; have := this.2 h; omega
theorem frac_trans {a b c d e f : Int} (ha : 0 ≤ a) (hc : 0 ≤ c) (he : 0 ≤ e) (hb : 1 ≤ b) (hd : 1 ≤ d) (hf : 1 ≤ f) (h1 : a * d ≤ c * b) (h2 : c * f ≤ e * d) : a * f ≤ e * b := by
  have e1 : a * d * f ≤ c * b * f := Int.mul_le_mul_of_nonneg_right h1 (by omega)
  have e2 : c * f * b ≤ e * d * b := Int.mul_le_mul_of_nonneg_right h2 (by omega)
  have e3 : (a * f) * d ≤ (e * b) * d := by
    calc (a * f) * d = a * d * f := by rw [Int.mul_assoc, Int.mul_comm f d, ← Int.mul_assoc]
      _ ≤ c * b * f := e1
      _ = c * f * b := by rw [Int.mul_assoc, Int.mul_comm b f, ← Int.mul_assoc]
      _ ≤ e * d * b := e2
      _ = (e * b) * d := by rw [Int.mul_assoc, Int.mul_comm d b, ← Int.mul_assoc]
  exact Int.le_of_mul_le_mul_right e3 (by omega)
theorem clamp_mid (n low high : Int) (h : low ≤ high) : clamp n low high = min (max n low) high := by unfold clamp; split <;> (try split) <;> omega
theorem clamp_in {m low high : Int} (h1 : low ≤ m) (h2 : m ≤ high) : clamp m low high = m := by unfold clamp; rw [if_neg (by omega), if_neg (by omega)]

/-! ### Products over divisors -/
theorem mulDiv_ok {a b c : Int} (ha : 0 ≤ a) (hb : 0 ≤ b) (hc : 1 ≤ c) (h : a * b / c ≤ 4611686018427387904) : mulDiv a b c = (a * b / c, 0) := by
  unfold mulDiv; rw [if_neg (by omega), if_neg (by omega)]
theorem mulDiv_exact {a b : Int} (ha : 0 ≤ a) (ha2 : a ≤ 4611686018427387904) (hb : 1 ≤ b) : mulDiv a b b = (a, 0) := by
  have h := Int.mul_ediv_cancel a (show b ≠ 0 by omega)
  rw [mulDiv_ok ha (by omega) hb (by omega), h]
theorem mulDiv_exact2 {a b : Int} (ha : 0 ≤ a) (ha2 : a ≤ 4611686018427387904) (hb : 1 ≤ b) : mulDiv b a b = (a, 0) := by
  have h := Int.mul_ediv_cancel_left a (show b ≠ 0 by omega)
  rw [mulDiv_ok (by omega) ha hb (by omega), h]
end R
end Go.Proofs.Ytlnhdakafidhiaa
