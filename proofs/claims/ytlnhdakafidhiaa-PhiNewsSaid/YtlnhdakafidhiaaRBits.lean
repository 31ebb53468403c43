/- What the library's words for halves answer: products, lengths in bits, which is greater. -/
import Derived.Test.YtlnhdakafidhiaaBase
import Derived.Test.YtlnhdakafidhiaaRDiv
import Derived.Lib.Mul64
import Derived.Lib.Walk
import Derived.Laws.Bits64b
import Derived.Laws.Externs
namespace Go.Proofs.Ytlnhdakafidhiaa
set_option linter.unusedVariables false
set_option linter.unusedSimpArgs false
open Go.RowKit

theorem mask64 (a : Nat) (ha : a < 18446744073709551616) : bits .and .u64 (a : Int) 4294967295 = ((a % 4294967296 : Nat) : Int) := by
  have h := bits_and_u64_nat a 4294967295 ha (by omega)
  have e : a &&& 4294967295 = a % 4294967296 := Nat.and_two_pow_sub_one_eq_mod a 32
  rw [e] at h
  exact h
theorem wrapN (a : Nat) (ha : a < 18446744073709551616) : IntKind.u64.wrap (a : Int) = (a : Int) := by rw [IntKind.wrap_u64]; omega
theorem wrapM (a : Nat) : IntKind.u64.wrap (a : Int) = ((a % 18446744073709551616 : Nat) : Int) := by rw [IntKind.wrap_u64]; omega
theorem mulN (a b : Nat) : (a : Int) * (b : Int) = ((a * b : Nat) : Int) := (Int.natCast_mul a b).symm
theorem addN (a b : Nat) : (a : Int) + (b : Int) = ((a + b : Nat) : Int) := (Int.natCast_add a b).symm
theorem divN (a : Nat) : (a : Int) / 4294967296 = ((a / 4294967296 : Nat) : Int) := by omega

set_option maxHeartbeats 1000000 in
set_option maxRecDepth 20000 in
theorem mul64_any (x y h l : Nat) (hx : x < 18446744073709551616) (hy : y < 18446744073709551616) (e : h * 18446744073709551616 + l = x * y) (hl : l < 18446744073709551616) (w : World) :
    Calls Try.prog 36 #[.int .u64 x, .int .u64 y] w fun e w' => e = .returned (.tuple #[.int .u64 h, .int .u64 l]) ∧ w = w' := by
  obtain ⟨bd, bt, bw, hhi⟩ := Lib.mul64_hi x y hx hy
  have ba := Lib.half_mul_le (a := x / 4294967296) (b := y / 4294967296) (by omega) (by omega)
  have bb := Lib.half_mul_le (a := x / 4294967296) (b := y % 4294967296) (by omega) (by omega)
  have bc := Lib.half_mul_le (a := x % 4294967296) (b := y / 4294967296) (by omega) (by omega)
  have e1 : x * y / 18446744073709551616 = h := by rw [← e]; omega
  have e2 : x * y % 18446744073709551616 = l := by rw [← e]; omega
  have ba' : x / 4294967296 * (y / 4294967296) < 18446744073709551616 := by omega
  have bb' : x / 4294967296 * (y % 4294967296) < 18446744073709551616 := by omega
  have bc' : x % 4294967296 * (y / 4294967296) < 18446744073709551616 := by omega
  have bh1 : x / 4294967296 * (y / 4294967296) + (x / 4294967296 * (y % 4294967296) + x % 4294967296 * (y % 4294967296) / 4294967296) / 4294967296 < 18446744073709551616 := by omega
  have bh : x / 4294967296 * (y / 4294967296) + (x / 4294967296 * (y % 4294967296) + x % 4294967296 * (y % 4294967296) / 4294967296) / 4294967296 + ((x / 4294967296 * (y % 4294967296) + x % 4294967296 * (y % 4294967296) / 4294967296) % 4294967296 + x % 4294967296 * (y / 4294967296)) / 4294967296 < 18446744073709551616 := by omega
  have E1 := Lib.hid e1
  have E2 := Lib.hid e2
  have HHI := Lib.hid hhi
  clear e e1 e2 hhi
  go_enter Try.func36, Try.ntmps36
  go_wp2
  simp only [mask64 x hx, mask64 y hy, divN, mulN, addN, wrapN _ bd, wrapN _ bb', wrapN _ bt, mask64 _ bt, wrapN _ bc', wrapN _ bw, wrapN _ ba', wrapN _ bh1, wrapN _ bh, wrapM (x * y)]
  rw [HHI.out, E1.out, E2.out]
  go_ret2
  exact ⟨rfl, rfl⟩

theorem len8_at (n : Nat) (h : n < 256) (hn : n < Lib.len8tab.size) : ((Lib.len8tab[n].toNat : Nat) : Int) = (Lib.bitLen n : Int) := by
  have h1 := Lib.len8_of (n : Int) (by omega) (by omega)
  unfold Lib.len8 at h1
  rw [Int.toNat_natCast] at h1
  rw [← h1, ByteArray.getElem?_lt' _ _ hn]
  rfl
theorem wrap64_small {x : Int} (h0 : 0 ≤ x) (h1 : x ≤ 1000) : wrap64 x = x := by unfold wrap64; omega
theorem len_fin {m n k : Nat} {z : Int} (hz : z = k) (hj : n = m / 2 ^ k) (hb : n < 256) (hk : 2 ^ k ≤ m) (hk2 : k ≤ 56) (hm : m < 18446744073709551616) (hn : n < Lib.len8tab.size) :
    wrap64 (z + wrap64 ((Lib.len8tab[n].toNat : Nat) : Int)) = (Lib.bitLen m : Int) := by
  have h8 := Lib.bitLen_le n 8 (by omega) hb
  rw [len8_at n hb hn, wrap64_small (x := (Lib.bitLen n : Int)) (by omega) (by omega), hz, wrap64_small (by omega) (by omega), Lib.bitLen_shift k m hk hm, ← hj]
  push_cast; rfl
theorem len_fin0 {m : Nat} (hb : m < 256) (hn : m < Lib.len8tab.size) : wrap64 (wrap64 ((Lib.len8tab[m].toNat : Nat) : Int)) = (Lib.bitLen m : Int) := by
  have h8 := Lib.bitLen_le m 8 (by omega) hb
  rw [len8_at m hb hn, wrap64_small (x := (Lib.bitLen m : Int)) (by omega) (by omega), wrap64_small (by omega) (by omega)]
set_option maxHeartbeats 4000000 in
set_option maxRecDepth 100000 in
theorem len64_int (x : Int) (w : World) (h0 : 0 ≤ x) (h1 : x ≤ 18446744073709551615) :
    Calls Try.prog 46 #[.int .u64 x] w fun e w' => e = .returned (.int .i64 (Lib.bitLen x.toNat)) ∧ w = w' := by
  go_enter Try.func46, Try.ntmps46
  go_wp2
  all_goals first | (exfalso; have := Lib.len8tab_size; omega) | (go_ret; refine ⟨congrArg Ending.returned (congrArg (Value.int IntKind.i64) ?_), rfl⟩)
  all_goals first
    | exact len_fin0 (by omega) _
    | exact len_fin (k := 56) rfl (by omega) (by omega) (by omega) (by omega) (by omega) _
    | exact len_fin (k := 48) rfl (by omega) (by omega) (by omega) (by omega) (by omega) _
    | exact len_fin (k := 40) rfl (by omega) (by omega) (by omega) (by omega) (by omega) _
    | exact len_fin (k := 32) rfl (by omega) (by omega) (by omega) (by omega) (by omega) _
    | exact len_fin (k := 24) rfl (by omega) (by omega) (by omega) (by omega) (by omega) _
    | exact len_fin (k := 16) rfl (by omega) (by omega) (by omega) (by omega) (by omega) _
    | exact len_fin (k := 8) rfl (by omega) (by omega) (by omega) (by omega) (by omega) _

/-- how far a divisor is shifted -/
theorem lz64_any (y s : Nat) (hy : 0 < y) (hy2 : y < 18446744073709551616) (hs : s = 64 - Lib.bitLen y) (w : World) :
    Calls Try.prog 45 #[.int .u64 y] w fun e w' => e = .returned (.int .i64 s) ∧ w = w' := by
  have h8 := Lib.bitLen_le y 64 (by omega) (by omega)
  have es : (64 : Int) - (Lib.bitLen y : Int) = (s : Int) := by omega
  have hs2 : s ≤ 64 := by omega
  clear hs
  generalize hk : Lib.bitLen y = k at *
  have HK := Lib.hid hk
  clear hk
  go_enter Try.func45, Try.ntmps45
  go_wp2_with (go_at_call 46; refine (len64_int (y : Int) _ (by omega) (by omega)).mono ?_; rw [Int.toNat_natCast, HK.out]; rintro e w' ⟨rfl, rfl⟩)
  go_ret
  exact ⟨rfl, rfl⟩

theorem nan64_any (x : Int) (w : World) : Calls Try.prog 44 #[.int .u64 x] w fun e w' => e = .returned (.bool false) ∧ w = w' := by
  go_enter Try.func44, Try.ntmps44
  go_wp2
  go_ret
  exact ⟨by simp, rfl⟩
theorem cmp64_any (x y : Nat) (w : World) : Calls Try.prog 38 #[.int .u64 x, .int .u64 y] w fun e w' => e = .returned (.int .i64 (if x < y then -1 else if y < x then 1 else 0)) ∧ w = w' := by
  rcases Nat.lt_trichotomy x y with h | h | h
  · rw [if_pos h]
    go_enter Try.func38, Try.ntmps38
    go_wp2_with (go_at_call 44; refine (nan64_any _ _).mono ?_; rintro e w' ⟨rfl, rfl⟩)
    go_ret
    exact ⟨rfl, rfl⟩
  · subst h
    rw [if_neg (by omega), if_neg (by omega)]
    go_enter Try.func38, Try.ntmps38
    go_wp2_with (go_at_call 44; refine (nan64_any _ _).mono ?_; rintro e w' ⟨rfl, rfl⟩)
    go_ret
    exact ⟨rfl, rfl⟩
  · have h1 : ¬ x < y := by omega
    rw [if_neg h1, if_pos h]
    go_enter Try.func38, Try.ntmps38
    go_wp2_with (go_at_call 44; refine (nan64_any _ _).mono ?_; rintro e w' ⟨rfl, rfl⟩)
    go_ret
    exact ⟨rfl, rfl⟩
end Go.Proofs.Ytlnhdakafidhiaa
