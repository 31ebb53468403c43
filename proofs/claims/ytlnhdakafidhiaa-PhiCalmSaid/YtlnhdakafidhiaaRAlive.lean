/- The fixed fact of ratio's laws. -/
import Derived.Test.YtlnhdakafidhiaaRRef4
namespace Go.Proofs.Ytlnhdakafidhiaa
set_option linter.unusedVariables false
set_option linter.unusedSimpArgs false
open Go.RowKit

theorem below_q {w w' : World} {q : Nat} (h : w' = w.drewN q) : Below w.heap.size w w' := by
  subst h
  have r := Below.refl w.heap.size w
  exact ⟨r.os, r.tape, r.output, r.size, r.block⟩
theorem muldiv_b (a b c : Int) (ha : -9223372036854775808 ≤ a ∧ a ≤ 9223372036854775807) (hb : -9223372036854775808 ≤ b ∧ b ≤ 9223372036854775807) (hc : -9223372036854775808 ≤ c ∧ c ≤ 9223372036854775807) {x : Int × Int} (e : R.mulDiv a b c = x) (w : World) :
    Calls Try.prog 34 #[.int .i64 a, .int .i64 b, .int .i64 c] w (PairBR x w) :=
  (muldiv_any a b c ha hb hc w).mono fun _ _ ⟨h, q, hq⟩ => ⟨by rw [← e]; exact h, below_q hq⟩
theorem mean_b (A : Option Addr) (n c B : Nat) (l : List Int) (w : World) (h : Rd w B 1 A n (I l)) (hn : n ≤ 140737488355328) {x : Int} (e : R.mean l = x) :
    Calls Try.prog 35 #[.slice A n c] w (IntBR x w) :=
  (mean_any A n c B l w h hn).mono fun _ _ ⟨h, q, hq⟩ => ⟨by rw [← e]; exact h, below_q hq⟩

end Go.Proofs.Ytlnhdakafidhiaa
