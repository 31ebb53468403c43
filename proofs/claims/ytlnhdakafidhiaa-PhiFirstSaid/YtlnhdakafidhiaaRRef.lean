/- The document's numbers of two halves: sums, which is below, products. -/
import Derived.Test.YtlnhdakafidhiaaRBits
import Derived.Test.YtlnhdakafidhiaaRMath
namespace Go.Proofs.Ytlnhdakafidhiaa
set_option linter.unusedVariables false
set_option linter.unusedSimpArgs false
open Go.RowKit
/-- a number of two halves, as a result -/
def WideR (x : Nat) (w : World) (e : Ending) (w' : World) : Prop := (∃ h l : Nat, e = .returned (.agg #[.int .u64 h, .int .u64 l]) ∧ h * 18446744073709551616 + l = x ∧ l < 18446744073709551616 ∧ h < 18446744073709551616) ∧ Below w.heap.size w w'
def BoolR (b : Bool) (w : World) (e : Ending) (w' : World) : Prop := e = .returned (.bool b) ∧ Below w.heap.size w w'

set_option maxHeartbeats 1000000 in
set_option maxRecDepth 20000 in
theorem radd_any (xh xl yh yl : Nat) (hx : xl < 18446744073709551616) (hy : yl < 18446744073709551616) (hxh : xh < 18446744073709551616) (hyh : yh < 18446744073709551616) (hs : xh * 18446744073709551616 + xl + (yh * 18446744073709551616 + yl) < 340282366920938463463374607431768211456) (w : World) :
    Calls Try.prog 39 #[.agg #[.int .u64 xh, .int .u64 xl], .agg #[.int .u64 yh, .int .u64 yl]] w (WideR (xh * 18446744073709551616 + xl + (yh * 18446744073709551616 + yl)) w) := by
  obtain ⟨l, el⟩ : ∃ l, (xl + yl) % 18446744073709551616 = l := ⟨_, rfl⟩
  obtain ⟨h, eh⟩ : ∃ h, xh + yh = h := ⟨_, rfl⟩
  have hh : h < 18446744073709551616 := by omega
  have a1 : IntKind.u64.wrap ((xl : Int) + (yl : Int)) = (l : Int) := by rw [addN, wrapM, el]
  have a2 : IntKind.u64.wrap ((xh : Int) + (yh : Int)) = (h : Int) := by rw [addN, eh, wrapN _ hh]
  have hl : l < 18446744073709551616 := by omega
  by_cases hlt : l < xl
  · go_enter Try.func39, Try.ntmps39
    go_wp2
    refine bodyPost_ret (v := .agg #[.int .u64 ((h : Int) + 1), .int .u64 l]) (by simp [results, Try.results39, go_sem]; try rfl) rfl ⟨⟨h + 1, l, rfl, by omega, hl, by omega⟩, (((Below.refl _ _).alloc (Nat.le_refl _) _).alloc (by simp) _).alloc (by simp; omega) _⟩
  · go_enter Try.func39, Try.ntmps39
    go_wp2
    refine bodyPost_ret (v := .agg #[.int .u64 h, .int .u64 l]) (by simp [results, Try.results39, go_sem]; try rfl) rfl ⟨⟨h, l, rfl, by omega, hl, hh⟩, (((Below.refl _ _).alloc (Nat.le_refl _) _).alloc (by simp) _).alloc (by simp; omega) _⟩

set_option maxHeartbeats 1000000 in
set_option maxRecDepth 20000 in
theorem rbelow_any (xh xl yh yl : Nat) (hx : xl < 18446744073709551616) (hy : yl < 18446744073709551616) (w : World) :
    Calls Try.prog 30 #[.agg #[.int .u64 xh, .int .u64 xl], .agg #[.int .u64 yh, .int .u64 yl]] w (BoolR (decide (xh * 18446744073709551616 + xl < yh * 18446744073709551616 + yl)) w) := by
  have hb : Below w.heap.size w ((w.alloc (.cells #[.int .u64 xh, .int .u64 xl] 54)).alloc (.cells #[.int .u64 yh, .int .u64 yl] 54)) := ((Below.refl _ _).alloc (Nat.le_refl _) _).alloc (by simp) _
  rcases Nat.lt_trichotomy xh yh with h | h | h
  · rw [decide_eq_true (by omega)]
    go_enter Try.func30, Try.ntmps30
    go_wp2
    go_ret
    exact ⟨rfl, hb⟩
  · subst h
    by_cases h2 : xl < yl
    · rw [decide_eq_true (by omega)]
      go_enter Try.func30, Try.ntmps30
      go_wp2
      go_ret
      exact ⟨ret_bool (by simp [h2]), hb⟩
    · rw [decide_eq_false (by omega)]
      go_enter Try.func30, Try.ntmps30
      go_wp2
      go_ret
      exact ⟨ret_bool (by simp [h2]), hb⟩
  · rw [decide_eq_false (by omega)]
    have h2 : ¬ xh < yh := by omega
    have h3 : ((xh : Int) == (yh : Int)) = false := beq_eq_false_iff_ne.2 (by omega)
    go_enter Try.func30, Try.ntmps30
    go_wp2
    go_ret
    exact ⟨rfl, hb⟩
end Go.Proofs.Ytlnhdakafidhiaa
