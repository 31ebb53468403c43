/- The document's product over a divisor, bit by bit. -/
import Derived.Test.YtmhlhhfolbeifaaRRef2
import Derived.Test.YtmhlhhfolbeifaaRCode2
namespace Go.Proofs.Ytmhlhhfolbeifaa
set_option linter.unusedVariables false
set_option linter.unusedSimpArgs false
open Go.RowKit

theorem rmul_int {A' B' : Int} (a b : Nat) (ea : (a : Int) = A') (eb : (b : Int) = B') (ha : a < 9223372036854775808) (hb : b < 9223372036854775808) (w : World) :
    Calls Try.prog 33 #[.int .i64 A', .int .i64 B'] w (WideR (a * b) w) := by
  subst ea eb
  exact rmul_any a b ha hb w
theorem wrap64_in {x : Int} (h0 : 0 ≤ x) (h1 : x < 9223372036854775808) : wrap64 x = x := by unfold wrap64; omega
theorem wrap64_nat {t : Nat} {ti : Int} (e : (t : Int) = ti) (h : t < 9223372036854775808) : wrap64 (t : Int) = ti := by rw [wrap64_in (by omega) (by omega), e]
theorem wrap64_sum {n t m : Nat} {ti mi : Int} (em : n + t = m) (et : (t : Int) = ti) (e : (m : Int) = mi) (h : n + t < 9223372036854775808) : wrap64 ((n : Int) + ti) = mi := by
  subst et e em
  rw [wrap64_in (by omega) (by omega)]
  push_cast; rfl
/-- a product over a divisor, as a result -/
def PairBR (x : Int × Int) (w : World) (e : Ending) (w' : World) : Prop := e = .returned (.tuple #[.int .i64 x.1, .int .i64 x.2]) ∧ Below w.heap.size w w'
theorem full_iff {P z : Nat} (hz : 0 < z) : ¬ P < z * 4611686018427387905 ↔ 4611686018427387904 < P / z := by
  rw [Nat.not_lt, R.le_quot hz]
  omega

end Go.Proofs.Ytmhlhhfolbeifaa
