/- Package ratio: what each call answers. -/
import Derived.Test.YtlnhdakafidhiaaRQuo
import Derived.Test.YtlnhdakafidhiaaRMath
namespace Go.Proofs.Ytlnhdakafidhiaa
set_option linter.unusedVariables false
set_option linter.unusedSimpArgs false
open Go.RowKit

theorem div64_any (hi lo y n : Nat) (h1 : hi < y) (h2 : lo < 18446744073709551616) (h3 : y < 18446744073709551616) (hn : n = (hi * 18446744073709551616 + lo) / y) (w : World) :
    Calls Try.prog 41 #[.int .u64 hi, .int .u64 lo, .int .u64 y] w fun e w' => (∃ r : Int, e = .returned (.tuple #[.int .u64 n, .int .u64 r])) ∧ ∃ q, w' = w.drewN q := by
  rcases Nat.eq_zero_or_pos hi with rfl | h0
  · exact div64_low lo y h2 h3 (by omega) n (by rw [hn]; simp) w
  · exact (div64_high hi lo y h1 h2 h3 h0 n hn w).mono fun e w' ⟨h, hw⟩ => ⟨h, 0, hw.symm⟩

/-- a product over a divisor, as a result -/
def PairR (x : Int × Int) (w : World) (e : Ending) (w' : World) : Prop := e = .returned (.tuple #[.int .i64 x.1, .int .i64 x.2]) ∧ ∃ q, w' = w.drewN q
theorem over_full {P z : Nat} (h : z ≤ P / 18446744073709551616) (hz : 0 < z) : 4611686018427387904 < P / z := by
  have h1 : z * 18446744073709551616 ≤ P := by omega
  have h2 : 18446744073709551616 ≤ P / z := (Nat.le_div_iff_mul_le hz).2 (by rw [Nat.mul_comm]; exact h1)
  omega
theorem mulDiv_args {a b c : Int} (h : a < 0 ∨ b < 0 ∨ c < 1) : R.mulDiv a b c = (0, 1) := by unfold R.mulDiv; rw [if_pos h]
theorem mulDiv_nat (x y z : Nat) (hz : 0 < z) : R.mulDiv x y z = if 4611686018427387904 < x * y / z then (0, 8) else (((x * y / z : Nat) : Int), 0) := by
  unfold R.mulDiv
  rw [if_neg (by omega)]
  have e : (x : Int) * y / z = ((x * y / z : Nat) : Int) := by push_cast; rfl
  rw [e]
  by_cases h : 4611686018427387904 < x * y / z
  · rw [if_pos h, if_pos (by omega)]
  · rw [if_neg h, if_neg (by omega)]

set_option maxHeartbeats 1000000 in
set_option maxRecDepth 20000 in
theorem muldiv_any (a b c : Int) (ha : -9223372036854775808 ≤ a ∧ a ≤ 9223372036854775807) (hb : -9223372036854775808 ≤ b ∧ b ≤ 9223372036854775807) (hc : -9223372036854775808 ≤ c ∧ c ≤ 9223372036854775807) (w : World) :
    Calls Try.prog 34 #[.int .i64 a, .int .i64 b, .int .i64 c] w (PairR (R.mulDiv a b c) w) := by
  by_cases h1 : a < 0
  · rw [mulDiv_args (Or.inl h1)]
    go_enter Try.func34, Try.ntmps34
    go_wp2
    go_ret2
    exact ⟨rfl, 0, rfl⟩
  by_cases h2 : b < 0
  · rw [mulDiv_args (Or.inr (Or.inl h2))]
    go_enter Try.func34, Try.ntmps34
    go_wp2
    go_ret2
    exact ⟨rfl, 0, rfl⟩
  by_cases h3 : c < 1
  · rw [mulDiv_args (Or.inr (Or.inr h3))]
    go_enter Try.func34, Try.ntmps34
    go_wp2
    go_ret2
    exact ⟨rfl, 0, rfl⟩
  obtain ⟨x, rfl⟩ := Int.eq_ofNat_of_zero_le (show 0 ≤ a by omega)
  obtain ⟨y, rfl⟩ := Int.eq_ofNat_of_zero_le (show 0 ≤ b by omega)
  obtain ⟨z, rfl⟩ := Int.eq_ofNat_of_zero_le (show 0 ≤ c by omega)
  have hz : 0 < z := by omega
  have hz1 : ¬ (z : Int) < 1 := by omega
  have hxb : x < 18446744073709551616 := by omega
  have hyb : y < 18446744073709551616 := by omega
  have hzb : z < 18446744073709551616 := by omega
  have ex : IntKind.u64.wrap (x : Int) = (x : Int) := wrapN _ hxb
  have ey : IntKind.u64.wrap (y : Int) = (y : Int) := wrapN _ hyb
  have ez : IntKind.u64.wrap (z : Int) = (z : Int) := wrapN _ hzb
  rw [mulDiv_nat x y z hz]
  obtain ⟨P, eP⟩ : ∃ P, x * y = P := ⟨_, rfl⟩
  obtain ⟨h, eh⟩ : ∃ h, P / 18446744073709551616 = h := ⟨_, rfl⟩
  obtain ⟨l, el⟩ : ∃ l, P % 18446744073709551616 = l := ⟨_, rfl⟩
  have e1 : h * 18446744073709551616 + l = x * y := by omega
  have hl : l < 18446744073709551616 := by omega
  rw [eP]
  by_cases h4 : z ≤ h
  · rw [if_pos (over_full (by omega) hz)]
    have HE := Lib.hid e1
    clear eP eh el e1 h1 h2 h3 ha hb hc
    go_enter Try.func34, Try.ntmps34
    go_wp2_with fail
    refine (mul64_any x y h l hxb hyb HE.out hl _).mono ?_
    rintro e w' ⟨rfl, rfl⟩
    go_wp2
    go_ret2
    exact ⟨rfl, 0, rfl⟩
  · obtain ⟨n, en⟩ : ∃ n, P / z = n := ⟨_, rfl⟩
    have en2 : n = (h * 18446744073709551616 + l) / z := by rw [e1, eP, en]
    rw [en]
    have HE := Lib.hid e1
    have HN := Lib.hid en2
    by_cases h5 : 4611686018427387904 < n
    · rw [if_pos h5]
      have i5 : 4611686018427387904 < (n : Int) := by omega
      clear eP eh el e1 h1 h2 h3 ha hb hc en en2 h5
      go_enter Try.func34, Try.ntmps34
      go_wp2_with fail
      refine (mul64_any x y h l hxb hyb HE.out hl _).mono ?_
      rintro e w' ⟨rfl, rfl⟩
      go_wp2_with fail
      refine (div64_any h l z n (by omega) hl hzb HN.out _).mono ?_
      rintro e w2 ⟨⟨r, rfl⟩, q, rfl⟩
      generalize (n : Int) = ni at i5 ⊢
      go_wp2
      go_ret2
      exact ⟨rfl, q, rfl⟩
    · rw [if_neg h5]
      have i5 : (n : Int) ≤ 4611686018427387904 := by omega
      have i6 : 0 ≤ (n : Int) := by omega
      clear eP eh el e1 h1 h2 h3 ha hb hc en en2 h5
      go_enter Try.func34, Try.ntmps34
      go_wp2_with fail
      refine (mul64_any x y h l hxb hyb HE.out hl _).mono ?_
      rintro e w' ⟨rfl, rfl⟩
      go_wp2_with fail
      refine (div64_any h l z n (by omega) hl hzb HN.out _).mono ?_
      rintro e w2 ⟨⟨r, rfl⟩, q, rfl⟩
      generalize hni : (n : Int) = ni at i5 i6 ⊢
      have HNI := Lib.hid hni
      clear hni
      go_wp2
      go_ret2
      exact ⟨by rw [HNI.out]; rfl, q, rfl⟩

theorem clamp_any (n low high : Int) (w : World) : Calls Try.prog 43 #[.int .i64 n, .int .i64 low, .int .i64 high] w fun e w' => e = .returned (.int .i64 (R.clamp n low high)) ∧ w = w' := by
  unfold R.clamp
  by_cases h1 : n < low
  · rw [if_pos h1]
    go_enter Try.func43, Try.ntmps43
    go_wp2
    go_ret
    exact ⟨rfl, rfl⟩
  rw [if_neg h1]
  by_cases h2 : high < n
  · rw [if_pos h2]
    go_enter Try.func43, Try.ntmps43
    go_wp2
    go_ret
    exact ⟨rfl, rfl⟩
  · rw [if_neg h2]
    go_enter Try.func43, Try.ntmps43
    go_wp2
    go_ret
    exact ⟨rfl, rfl⟩
end Go.Proofs.Ytlnhdakafidhiaa
