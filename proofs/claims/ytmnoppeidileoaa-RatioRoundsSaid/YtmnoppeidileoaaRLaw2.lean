/- The walk of ratio's law on rounding down. -/
import Derived.Test.YtmnoppeidileoaaRAlive
import Derived.Test.YtmnoppeidileoaaRRows
namespace Go.Proofs.Ytmnoppeidileoaa
set_option linter.unusedVariables false
set_option linter.unusedSimpArgs false
open Go.RowKit

set_option maxHeartbeats 4000000 in
set_option maxRecDepth 20000 in
theorem law_RatioRounds (a0 a1 a2 : Int) (W : World) (w0 : (Lit.int .u32 a0).wf = true) (w1 : (Lit.int .u32 a1).wf = true) (w2 : (Lit.int .u32 a2).wf = true) :
    Calls Try.prog 4 #[.int .u32 a0, .int .u32 a1, .int .u32 a2] W fun e w' => e = .returned (.bool true) ∧ Below W.heap.size W w' := by
  have b0 := in32 w0
  have b1 := in32 w1
  have b2 := in32 w2
  unfold In32 at b0 b1 b2
  clear w0 w1 w2
  have b := Below.refl W.heap.size W
  by_cases h0 : a2 = 0
  · subst h0
    go_enter Try.func4, Try.ntmps4
    go_wp2_with fail
    refine (ralive_any _).mono ?_
    rintro e w3 ⟨rfl, hb⟩
    go_wp2
    go_ret
    exact ⟨rfl, hb⟩
  · obtain ⟨x, rfl⟩ := Int.eq_ofNat_of_zero_le b0.1
    obtain ⟨y, rfl⟩ := Int.eq_ofNat_of_zero_le b1.1
    obtain ⟨z, rfl⟩ := Int.eq_ofNat_of_zero_le b2.1
    have hz : 0 < z := by omega
    have hm := mulDiv_nat x y z hz
    obtain ⟨P, eP⟩ : ∃ P, x * y = P := ⟨_, rfl⟩
    obtain ⟨Q, eQ⟩ : ∃ Q, P / z = Q := ⟨_, rfl⟩
    rw [eP, eQ] at hm
    have hP : P < 18446744073709551616 := by
      rw [← eP]
      have := Nat.mul_le_mul (show x ≤ 4294967295 by omega) (show y ≤ 4294967295 by omega)
      omega
    have hq1 : Q * z ≤ P := by rw [← eQ]; exact Nat.div_mul_le_self _ _
    have hq2 : P < Q * z + z := by
      rw [← eQ]
      have := Nat.div_add_mod P z
      have h2 := Nat.mod_lt P hz
      rw [Nat.mul_comm] at this
      omega
    obtain ⟨M, eM⟩ : ∃ M, Q * z = M := ⟨_, rfl⟩
    rw [eM] at hq1 hq2
    have hne : ((z : Int) == 0) = false := beq_eq_false_iff_ne.2 (by omega)
    have t1 : IntKind.u64.wrap ((x : Int) * (y : Int)) = (P : Int) := wrap_of (by rw [mulN, eP]) hP
    by_cases hf : 4611686018427387904 < Q
    · rw [if_pos hf] at hm
      have HM := Lib.hid hm
      have t2 : (P : Int) / (z : Int) = (Q : Int) := by rw [← Int.natCast_ediv, eQ]
      have i1 : 4611686018427387904 < (Q : Int) := by omega
      have i3 : IntKind.u64.wrap (Q : Int) = (Q : Int) := wrapN _ (by rw [← eQ]; exact Nat.lt_of_le_of_lt (Nat.div_le_self _ _) hP)
      clear eP eQ eM hq1 hq2 hf hm h0
      generalize (Q : Int) = Qi at t2 i1 i3
      go_enter Try.func4, Try.ntmps4
      go_wp2_with fail
      refine (ralive_any _).mono ?_
      rintro e w3 ⟨rfl, hb⟩
      go_wp2_with fail
      refine (muldiv_b _ _ _ (by omega) (by omega) (by omega) HM.out _).mono ?_
      rintro e w4 ⟨rfl, hb4⟩
      dsimp only
      go_wp2
      go_ret
      exact ⟨rfl, hb.trans (hb4.mono hb.size)⟩
    · rw [if_neg hf] at hm
      have i1 : (Q : Int) ≤ 4611686018427387904 := by omega
      have i0 : 0 ≤ (Q : Int) := by omega
      have i3 : IntKind.u64.wrap (Q : Int) = (Q : Int) := wrapN _ (by omega)
      have i4 : IntKind.u64.wrap ((Q : Int) * (z : Int)) = (M : Int) := wrap_of (by rw [mulN, eM]) (by omega)
      obtain ⟨D, eD⟩ : ∃ D, P - M = D := ⟨_, rfl⟩
      have i5 : IntKind.u64.wrap ((P : Int) - (M : Int)) = (D : Int) := wrap_of (by omega) (by omega)
      have hD : D < z := by omega
      have k1 : R.cmp (Q : Int) 1 ((Q : Int) + 1) 1 = -1 := by
        unfold R.cmp
        rw [if_neg (by omega), if_pos (by omega)]
      have k2 : R.cmp (x : Int) (z : Int) (x : Int) (z : Int) = 0 := by
        unfold R.cmp
        rw [if_neg (by omega), if_neg (by omega), if_neg (by omega)]
      clear eP eQ eM hq2 hf h0 eD
      generalize (Q : Int) = Qi at i1 i0 i3 i4 k1 hm
      have HM := Lib.hid hm
      have HK1 := Lib.hid k1
      have HK2 := Lib.hid k2
      clear hm k1 k2
      go_enter Try.func4, Try.ntmps4
      go_wp2_with fail
      refine (ralive_any _).mono ?_
      rintro e w3 ⟨rfl, hb⟩
      go_wp2_with fail
      refine (muldiv_b _ _ _ (by omega) (by omega) (by omega) HM.out _).mono ?_
      rintro e w4 ⟨rfl, hb4⟩
      replace hb := hb.trans (hb4.mono hb.size)
      clear hb4
      dsimp only
      go_wp2_with fail
      refine (cmp_any _ _ _ _ (by omega) (by omega) (by omega) (by omega) _).mono ?_
      rw [HK1.out]
      rintro e w5 ⟨rfl, hb5⟩
      replace hb := hb.trans (hb5.mono hb.size)
      clear hb5
      go_wp2_with fail
      refine (cmp_any _ _ _ _ (by omega) (by omega) (by omega) (by omega) _).mono ?_
      rw [HK2.out]
      rintro e w6 ⟨rfl, hb6⟩
      replace hb := hb.trans (hb6.mono hb.size)
      clear hb6
      go_wp2
      go_ret
      exact ⟨rfl, hb⟩
end Go.Proofs.Ytmnoppeidileoaa
