/- Choice: are they more than are looked at. -/
import Derived.Test.YtlafmonfhkgcfaaCRows
import Derived.Deep.QuietTactic
namespace Go.Proofs.Ytlafmonfhkgcfaa
set_option linter.unusedVariables false
set_option linter.unusedSimpArgs false
open Go.RowKit
theorem cgreat_any (al dn sd : List Int) (A1 A2 A3 : Option Addr) (n1 c1 n2 c2 n3 c3 : Nat) (hz : n1 * 8 ≤ 140737488351232 ∧ n2 * 8 ≤ 140737488351232 ∧ n3 * 8 ≤ 140737488351232) {z : Bool} (e : decide (200 < n1 + n2 + n3) = z) (w : World) :
    Calls Try.prog 8 #[.agg #[.slice A1 n1 c1, .slice A2 n2 c2, .slice A3 n3 c3]] w (BoolC z w) := by
  have X := Box.new w #[.slice A1 n1 c1, .slice A2 n2 c2, .slice A3 n3 c3] 24
  have b := (Below.refl w.heap.size w).alloc (Nat.le_refl _) (.cells #[.slice A1 n1 c1, .slice A2 n2 c2, .slice A3 n3 c3] 24)
  have x0 := X.at 0 rfl
  have x1 := X.at 1 rfl
  have x2 := X.at 2 rfl
  obtain ⟨s, hs⟩ : ∃ s : Int, ((n1 : Int) + n2) + n3 = s := ⟨_, rfl⟩
  obtain ⟨t, ht⟩ : ∃ t : Int, (n1 : Int) + n2 = t := ⟨_, rfl⟩
  have w1 : wrap64 ((n1 : Int) + n2) = t := by unfold wrap64; omega
  have w2 : wrap64 (t + (n3 : Int)) = s := by unfold wrap64; omega
  have HZ : Hid (decide (200 < s) = z) := Lib.hid (by rw [← e]; apply decide_eq_decide.2; omega)
  clear hs ht hz e
  by_cases hz : 200 < s
  · have E : Hid (z = true) := Lib.hid (by rw [← HZ.out]; exact decide_eq_true hz)
    go_enter Try.func8, Try.ntmps8
    go_wp2
    go_ret
    exact ⟨ret_bool (by first | (rw [E.out]; done) | (rw [E.out]; simp; done) | (rw [E.out]; simp; omega)), b⟩
  · have E : Hid (z = false) := Lib.hid (by rw [← HZ.out]; exact decide_eq_false hz)
    go_enter Try.func8, Try.ntmps8
    go_wp2
    go_ret
    exact ⟨ret_bool (by first | (rw [E.out]; done) | (rw [E.out]; simp; done) | (rw [E.out]; simp; omega)), b⟩
end Go.Proofs.Ytlafmonfhkgcfaa
