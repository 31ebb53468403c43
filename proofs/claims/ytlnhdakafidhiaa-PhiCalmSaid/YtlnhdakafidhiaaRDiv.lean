/- Plain mathematics of a quotient of two halves, guessed and set right digit by digit (no program). -/
import Derived.Lib.Hide
import Derived.Lib.BitFns
import Derived.Lib.ItoaNum
namespace Go.Proofs.Ytlnhdakafidhiaa
set_option linter.unusedVariables false
set_option linter.unusedSimpArgs false
namespace R
/-- a guess q of u v by a b, in digits of 32 bits, with what is left of u -/
def Guess (u v a b q r : Nat) : Prop := q * a + r = u ∧ u * 4294967296 + v < (q + 1) * (a * 4294967296 + b) ∧ r < 4294967296 ∧ q < 8589934592
theorem guess_start {u v a b : Nat} (hu : u < a * 4294967296 + b) (hv : v < 4294967296) (ha : 2147483648 ≤ a) (ha2 : a < 4294967296) (hb : b < 4294967296) : Guess u v a b (u / a) (u % a) := by
  have h1 := Nat.div_add_mod u a
  have h2 := Nat.mod_lt u (show 0 < a by omega)
  refine ⟨by rw [Nat.mul_comm]; exact h1, ?_, by omega, ?_⟩
  · have e : (u / a + 1) * (a * 4294967296 + b) = a * (u / a) * 4294967296 + a * 4294967296 + (u / a + 1) * b := by
      rw [Nat.mul_add, Nat.add_mul, Nat.one_mul, ← Nat.mul_assoc, Nat.mul_comm (u / a) a]
    rw [e]
    generalize a * (u / a) = m at *
    generalize (u / a + 1) * b = n at *
    omega
  · rw [Nat.div_lt_iff_lt_mul (by omega)]
    omega
theorem guess_mul (a b q : Nat) : q * (a * 4294967296 + b) = q * a * 4294967296 + q * b := by rw [Nat.mul_add, Nat.mul_assoc]
/-- three ways: the guess is right; it is one too great, and the next one is right; or it is too great, and so may the next one be -/
theorem guess_ways {u v a b q r : Nat} (hk : Guess u v a b q r) (hu : u < a * 4294967296 + b) (hv : v < 4294967296) (ha : 2147483648 ≤ a) (ha2 : a < 4294967296) (hb : b < 4294967296) :
    (q < 4294967296 ∧ q * b ≤ 4294967296 * r + v ∧ q = (u * 4294967296 + v) / (a * 4294967296 + b)) ∨
    (∃ p, q = p + 1 ∧ (4294967296 ≤ q ∨ q < 4294967296 ∧ 4294967296 * r + v < q * b) ∧ 4294967296 ≤ r + a ∧ p = (u * 4294967296 + v) / (a * 4294967296 + b)) ∨
    (∃ p, q = p + 1 ∧ (4294967296 ≤ q ∨ q < 4294967296 ∧ 4294967296 * r + v < q * b) ∧ r + a < 4294967296 ∧ Guess u v a b p (r + a)) := by
  obtain ⟨k1, k2, k3, k4⟩ := hk
  have hY : 0 < a * 4294967296 + b := by omega
  have right : ∀ p, p * (a * 4294967296 + b) ≤ u * 4294967296 + v → u * 4294967296 + v < (p + 1) * (a * 4294967296 + b) → p = (u * 4294967296 + v) / (a * 4294967296 + b) := by
    intro p h1 h2
    have e1 := (Nat.le_div_iff_mul_le hY).2 h1
    have e2 := (Nat.div_lt_iff_lt_mul hY).2 h2
    omega
  by_cases hs : q < 4294967296 ∧ q * b ≤ 4294967296 * r + v
  · left
    refine ⟨hs.1, hs.2, right q ?_ k2⟩
    rw [guess_mul]
    generalize q * a = m at *
    generalize q * b = n at *
    omega
  · right
    have big : u * 4294967296 + v < q * (a * 4294967296 + b) := by
      by_cases hq : 4294967296 ≤ q
      · have := Nat.mul_le_mul_right (a * 4294967296 + b) hq
        generalize q * (a * 4294967296 + b) = m at *
        omega
      · rw [guess_mul]
        have hc : 4294967296 * r + v < q * b := by omega
        generalize q * a = m at *
        generalize q * b = n at *
        omega
    obtain ⟨p, rfl⟩ : ∃ p, q = p + 1 := by
      rcases q with _ | p
      · rw [Nat.zero_mul] at big; omega
      · exact ⟨p, rfl⟩
    have hc : 4294967296 ≤ p + 1 ∨ p + 1 < 4294967296 ∧ 4294967296 * r + v < (p + 1) * b := by omega
    have e : p * a + (r + a) = u := by rw [Nat.add_mul, Nat.one_mul] at k1; omega
    by_cases hr : r + a < 4294967296
    · right
      exact ⟨p, rfl, hc, hr, e, big, hr, by omega⟩
    · left
      refine ⟨p, rfl, hc, by omega, right p ?_ big⟩
      have hp : p < 4294967296 := by
        rcases Nat.lt_or_ge p 4294967296 with h | h
        · exact h
        · have := Nat.mul_le_mul_right a h
          generalize p * a = m at *
          omega
      have hb2 : p * b ≤ 4294967295 * 4294967295 := Nat.mul_le_mul (by omega) (by omega)
      rw [guess_mul]
      generalize p * a = m at *
      generalize p * b = n at *
      omega
/-- both digits -/
theorem digits {u v1 v0 Y q1 z q0 n : Nat} (hq1 : q1 = (u * 4294967296 + v1) / Y) (hz : z = (u * 4294967296 + v1) % Y) (hq0 : q0 = (z * 4294967296 + v0) / Y) (hY : 0 < Y)
    (hn : n = (u * 4294967296 + v1) * 4294967296 + v0) : q1 * 4294967296 + q0 = n / Y := by
  have h1 := Nat.div_add_mod (u * 4294967296 + v1) Y
  rw [← hq1, ← hz] at h1
  subst hn
  rw [← h1, hq0]
  have e : (Y * q1 + z) * 4294967296 + v0 = (z * 4294967296 + v0) + Y * (q1 * 4294967296) := by rw [Nat.add_mul, Nat.mul_assoc]; omega
  rw [e, Nat.add_mul_div_left _ _ hY, Nat.add_comm]
theorem digit_lt {u v Y : Nat} (hu : u < Y) (hv : v < 4294967296) : (u * 4294967296 + v) / Y < 4294967296 := by
  rw [Nat.div_lt_iff_lt_mul (by omega)]
  omega
/-- how far a divisor is shifted -/
theorem shift_of {y : Nat} (hy : 0 < y) (hy2 : y < 18446744073709551616) : ∃ s, s = 64 - Lib.bitLen y ∧ s ≤ 63 ∧ 9223372036854775808 ≤ y * 2 ^ s ∧ y * 2 ^ s < 18446744073709551616 := by
  obtain ⟨h1, h2, h3⟩ := Lib.bitLenAux_bounds 64 y hy2 (by omega)
  have h4 : Lib.bitLenAux 64 y ≤ 64 := Lib.bitLenAux_le 64 y 64 hy2
  show ∃ s, s = 64 - Lib.bitLenAux 64 y ∧ _
  generalize hk : Lib.bitLenAux 64 y = k at *
  refine ⟨64 - k, rfl, by omega, ?_, ?_⟩
  · have e : 9223372036854775808 = 2 ^ (k - 1) * 2 ^ (64 - k) := by
      rw [← Nat.pow_add, show k - 1 + (64 - k) = 63 by omega]
    rw [e]
    exact Nat.mul_le_mul_right _ h2
  · have e : 18446744073709551616 = 2 ^ k * 2 ^ (64 - k) := by
      rw [← Nat.pow_add, show k + (64 - k) = 64 by omega]
    rw [e]
    exact Nat.mul_lt_mul_of_pos_right h3 (Nat.two_pow_pos _)
/-- what the shift leaves: the greater half, the lower one, and both together -/
theorem shifted {hi lo y s : Nat} (h1 : hi < y) (h2 : lo < 18446744073709551616) (hs : s ≤ 63) (hY : y * 2 ^ s < 18446744073709551616) :
    ∃ z m : Nat, z = lo / 2 ^ (64 - s) ∧ m = lo * 2 ^ s % 18446744073709551616 ∧ z < 2 ^ s ∧ hi * 2 ^ s < 18446744073709551616 ∧ m < 18446744073709551616 ∧ hi * 2 ^ s + z < y * 2 ^ s ∧
      (hi * 2 ^ s + z) * 18446744073709551616 + m = (hi * 18446744073709551616 + lo) * 2 ^ s := by
  have e : 18446744073709551616 = 2 ^ (64 - s) * 2 ^ s := by rw [← Nat.pow_add, show 64 - s + s = 64 by omega]
  have hz : lo / 2 ^ (64 - s) < 2 ^ s := by rw [Nat.div_lt_iff_lt_mul (Nat.two_pow_pos _), Nat.mul_comm, ← e]; exact h2
  have hm := Nat.mul_le_mul_right (2 ^ s) (show hi + 1 ≤ y from h1)
  rw [Nat.add_mul, Nat.one_mul] at hm
  have hd : lo * 2 ^ s / 18446744073709551616 = lo / 2 ^ (64 - s) := by rw [e, Nat.mul_div_mul_right _ _ (Nat.two_pow_pos _)]
  have hp := Nat.two_pow_pos s
  have hdm := Nat.div_add_mod (lo * 2 ^ s) 18446744073709551616
  rw [hd] at hdm
  refine ⟨_, _, rfl, rfl, hz, by omega, Nat.mod_lt _ (by omega), by omega, ?_⟩
  rw [Nat.add_mul (hi * 18446744073709551616) lo, Nat.mul_right_comm hi 18446744073709551616]
  generalize hi * 2 ^ s = A at *
  generalize lo * 2 ^ s = B at *
  generalize lo / 2 ^ (64 - s) = C at *
  generalize B % 18446744073709551616 = D at *
  omega
theorem or_low {a z s : Nat} (hz : z < 2 ^ s) : a * 2 ^ s ||| z = a * 2 ^ s + z := by
  rw [Nat.mul_comm, Nat.two_pow_add_eq_or_of_lt hz]
end R
end Go.Proofs.Ytlnhdakafidhiaa
