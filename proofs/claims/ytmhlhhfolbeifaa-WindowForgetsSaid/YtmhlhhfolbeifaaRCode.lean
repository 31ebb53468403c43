/- Package ratio: what each call answers. -/
import Derived.Test.YtmhlhhfolbeifaaRQuo
import Derived.Test.YtmhlhhfolbeifaaRMath
namespace Go.Proofs.Ytmhlhhfolbeifaa
set_option linter.unusedVariables false
set_option linter.unusedSimpArgs false
open Go.RowKit

theorem div64_any (hi lo y n : Nat) (h1 : hi < y) (h2 : lo < 18446744073709551616) (h3 : y < 18446744073709551616) (hn : n = (hi * 18446744073709551616 + lo) / y) (w : World) :
    Calls Try.prog 30 #[.int .u64 hi, .int .u64 lo, .int .u64 y] w fun e w' => (∃ r : Int, e = .returned (.tuple #[.int .u64 n, .int .u64 r])) ∧ ∃ q, w' = w.drewN q := by
  rcases Nat.eq_zero_or_pos hi with rfl | h0
  · exact div64_low lo y h2 h3 (by omega) n (by rw [hn]; simp) w
  · exact (div64_high hi lo y h1 h2 h3 h0 n hn w).mono fun e w' ⟨h, hw⟩ => ⟨h, 0, hw.symm⟩

/-- a product over a divisor, as a result -/
def PairR (x : Int × Int) (w : World) (e : Ending) (w' : World) : Prop := e = .returned (.tuple #[.int .i64 x.1, .int .i64 x.2]) ∧ ∃ q, w' = w.drewN q
theorem over_full {P z : Nat} (h : z ≤ P / 18446744073709551616) (hz : 0 < z) : 4611686018427387904 < P / z := by
  have h1 : z * 18446744073709551616 ≤ P := by omega
  have h2 : 18446744073709551616 ≤ P / z := (Nat.le_div_iff_mul_le hz).2 (by rw [Nat.mul_comm]; exact h1)
  omega
theorem mulDiv_args {a b c : Int} (h : a < 0 ∨ b < 0 ∨ c < 1) : R.mulDiv a b c = (0, 1) := by unfold R.mulDiv; rw [if_pos h]
theorem mulDiv_nat (x y z : Nat) (hz : 0 < z) : R.mulDiv x y z = if 4611686018427387904 < x * y / z then (0, 8) else (((x * y / z : Nat) : Int), 0) := by
  unfold R.mulDiv
  rw [if_neg (by omega)]
  have e : (x : Int) * y / z = ((x * y / z : Nat) : Int) := by push_cast; rfl
  rw [e]
  by_cases h : 4611686018427387904 < x * y / z
  · rw [if_pos h, if_pos (by omega)]
  · rw [if_neg h, if_neg (by omega)]

theorem clamp_any (n low high : Int) (w : World) : Calls Try.prog 20 #[.int .i64 n, .int .i64 low, .int .i64 high] w fun e w' => e = .returned (.int .i64 (R.clamp n low high)) ∧ w = w' := by
  unfold R.clamp
  by_cases h1 : n < low
  · rw [if_pos h1]
    go_enter Try.func20, Try.ntmps20
    go_wp2
    go_ret
    exact ⟨rfl, rfl⟩
  rw [if_neg h1]
  by_cases h2 : high < n
  · rw [if_pos h2]
    go_enter Try.func20, Try.ntmps20
    go_wp2
    go_ret
    exact ⟨rfl, rfl⟩
  · rw [if_neg h2]
    go_enter Try.func20, Try.ntmps20
    go_wp2
    go_ret
    exact ⟨rfl, rfl⟩
end Go.Proofs.Ytmhlhhfolbeifaa
