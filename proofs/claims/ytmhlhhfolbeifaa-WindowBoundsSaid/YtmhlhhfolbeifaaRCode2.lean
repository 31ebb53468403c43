/- Package ratio: fractions held against each other, and means. -/
import Derived.Test.YtmhlhhfolbeifaaRCode
namespace Go.Proofs.Ytmhlhhfolbeifaa
set_option linter.unusedVariables false
set_option linter.unusedSimpArgs false
open Go.RowKit

/-- the first of two that is not 0 -/
def or2 (x y : Int) : Int := if x = 0 then y else x
def IntBR (x : Int) (w : World) (e : Ending) (w' : World) : Prop := e = .returned (.int .i64 x) ∧ Below w.heap.size w w'
def IntDR (x : Int) (w : World) (e : Ending) (w' : World) : Prop := e = .returned (.int .i64 x) ∧ ∃ q, w' = w.drewN q
theorem cmp_args {a b c d : Int} (h : a < 0 ∨ c < 0 ∨ b < 1 ∨ d < 1) : R.cmp a b c d = 0 := by unfold R.cmp; rw [if_pos h]
def side (x y : Nat) : Int := if x < y then -1 else if y < x then 1 else 0
theorem side_halves {P Q h l h' l' : Nat} (e : h * 18446744073709551616 + l = P) (e' : h' * 18446744073709551616 + l' = Q) (hl : l < 18446744073709551616) (hl' : l' < 18446744073709551616) :
    or2 (side h h') (side l l') = side P Q := by
  unfold or2 side
  by_cases h1 : h < h'
  · rw [if_pos h1, if_neg (by omega), if_pos (by omega)]
  · by_cases h2 : h' < h
    · rw [if_neg h1, if_pos h2, if_neg (by omega), if_neg (by omega), if_pos (by omega)]
    · rw [if_neg h1, if_neg h2, if_pos rfl]
      by_cases h3 : l < l'
      · rw [if_pos h3, if_pos (by omega)]
      · by_cases h4 : l' < l
        · rw [if_neg h3, if_pos h4, if_neg (by omega), if_pos (by omega)]
        · rw [if_neg h3, if_neg h4, if_neg (by omega), if_neg (by omega)]
theorem cmp_nat (x y z t : Nat) (hy : 0 < y) (ht : 0 < t) : R.cmp x y z t = side (x * t) (z * y) := by
  unfold R.cmp side
  rw [if_neg (by omega), ← Int.natCast_mul, ← Int.natCast_mul]
  simp only [Int.ofNat_lt]
theorem halves (P : Nat) (h : P < 340282366920938463463374607431768211456) : ∃ h l : Nat, h * 18446744073709551616 + l = P ∧ l < 18446744073709551616 ∧ h < 18446744073709551616 := ⟨P / 18446744073709551616, P % 18446744073709551616, by omega, by omega, by omega⟩
theorem mul_halves {x y : Nat} (hx : x < 9223372036854775808) (hy : y < 9223372036854775808) : x * y < 340282366920938463463374607431768211456 := by
  have := Nat.mul_le_mul (Nat.le_of_lt hx) (Nat.le_of_lt hy)
  omega

end Go.Proofs.Ytmhlhhfolbeifaa
