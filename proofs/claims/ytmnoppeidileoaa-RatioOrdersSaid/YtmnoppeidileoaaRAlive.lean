/- The fixed fact of ratio's laws. -/
import Derived.Test.YtmnoppeidileoaaRRef4
namespace Go.Proofs.Ytmnoppeidileoaa
set_option linter.unusedVariables false
set_option linter.unusedSimpArgs false
open Go.RowKit

theorem below_q {w w' : World} {q : Nat} (h : w' = w.drewN q) : Below w.heap.size w w' := by
  subst h
  have r := Below.refl w.heap.size w
  exact ⟨r.os, r.tape, r.output, r.size, r.block⟩
theorem muldiv_b (a b c : Int) (ha : -9223372036854775808 ≤ a ∧ a ≤ 9223372036854775807) (hb : -9223372036854775808 ≤ b ∧ b ≤ 9223372036854775807) (hc : -9223372036854775808 ≤ c ∧ c ≤ 9223372036854775807) {x : Int × Int} (e : R.mulDiv a b c = x) (w : World) :
    Calls Try.prog 9 #[.int .i64 a, .int .i64 b, .int .i64 c] w (PairBR x w) :=
  (muldiv_any a b c ha hb hc w).mono fun _ _ ⟨h, q, hq⟩ => ⟨by rw [← e]; exact h, below_q hq⟩
theorem mean_b (A : Option Addr) (n c B : Nat) (l : List Int) (w : World) (h : Rd w B 1 A n (I l)) (hn : n ≤ 140737488355328) {x : Int} (e : R.mean l = x) :
    Calls Try.prog 11 #[.slice A n c] w (IntBR x w) :=
  (mean_any A n c B l w h hn).mono fun _ _ ⟨h, q, hq⟩ => ⟨by rw [← e]; exact h, below_q hq⟩

set_option maxHeartbeats 1000000 in
set_option maxRecDepth 20000 in
theorem ralive_any (w : World) : Calls Try.prog 8 #[] w fun e w' => e = .returned (.bool true) ∧ Below w.heap.size w w' := by
  have e1 : R.mulDiv 1099511627776 1099511627776 1073741824 = (1125899906842624, 0) := by decide
  have e2 : R.mulDiv 1099511627776 1099511627776 3 = (0, 8) := by decide
  have e3 : R.mean [1, 2, 4] = 2 := by decide
  have e4 : R.clamp 9 1 5 = 5 := by decide
  have e5 : R.cmp 1 2 1 3 = 1 := by decide
  have E1 := Lib.hid e1
  have E2 := Lib.hid e2
  have E3 := Lib.hid e3
  have E4 := Lib.hid e4
  have E5 := Lib.hid e5
  clear e1 e2 e3 e4 e5
  have b := Below.refl w.heap.size w
  go_enter Try.func8, Try.ntmps8
  go_wp2_with fail
  refine (muldiv_b _ _ _ (by omega) (by omega) (by omega) E1.out _).mono ?_
  rintro e w2 ⟨rfl, hb⟩
  replace b := b.trans (hb.mono b.size)
  clear hb
  dsimp only
  go_wp2_with fail
  refine (muldiv_b _ _ _ (by omega) (by omega) (by omega) E2.out _).mono ?_
  rintro e w3 ⟨rfl, hb⟩
  replace b := b.trans (hb.mono b.size)
  clear hb
  have hr := Rd.lit w3 #[.int .i64 1, .int .i64 2, .int .i64 4] 3 1 3 rfl
  have b3 := b.alloc b.size (.cells #[.int .i64 1, .int .i64 2, .int .i64 4] 3)
  dsimp only
  go_wp2_with fail
  refine (mean_b _ 3 _ _ [1, 2, 4] _ hr (by omega) E3.out).mono ?_
  rintro e w4 ⟨rfl, hb⟩
  replace b3 := b3.trans (hb.mono b3.size)
  clear hb hr b
  go_wp2_with fail
  refine (clamp_any _ _ _ _).mono ?_
  rw [E4.out]
  rintro e w' ⟨rfl, rfl⟩
  go_wp2_with fail
  refine (cmp_any _ _ _ _ (by omega) (by omega) (by omega) (by omega) _).mono ?_
  rw [E5.out]
  rintro e w5 ⟨rfl, hb5⟩
  replace b3 := b3.trans (hb5.mono b3.size)
  clear hb5
  go_wp2
  go_ret
  exact ⟨rfl, b3⟩
end Go.Proofs.Ytmnoppeidileoaa
