/- Package ratio: fractions held against each other, and means. -/
import Derived.Test.YtlnhdakafidhiaaRCode
namespace Go.Proofs.Ytlnhdakafidhiaa
set_option linter.unusedVariables false
set_option linter.unusedSimpArgs false
open Go.RowKit

/-- the first of two that is not 0 -/
def or2 (x y : Int) : Int := if x = 0 then y else x
set_option maxRecDepth 20000 in
theorem or_any (A : Option Addr) (c B : Nat) (x y : Int) (w : World) (h : Rd w B 1 A 2 (I [x, y])) :
    Calls Try.prog 37 #[.slice A 2 c] w fun e w' => e = .returned (.int .i64 (or2 x y)) ∧ w = w' := by
  obtain ⟨b, o, e, hb, hc⟩ := h.at1 (k := 0) (by omega)
  subst e
  have c0 := hc 0 (by omega)
  have c1 := hc 1 (by omega)
  simp [I] at c0 c1
  unfold or2
  by_cases hx : x = 0
  · subst hx
    rw [if_pos rfl]
    by_cases hy : y = 0
    · subst hy
      go_enter Try.func37, Try.ntmps37
      go_wp2
      go_loop [8] (fun i => ∃ k : Nat, k ≤ 2 ∧ i = .int .i64 k) (fun i => 2 - (intOf i).toNat)
      case atStart => exact ⟨0, by omega, rfl⟩
      case round =>
        obtain ⟨k, hk, rfl⟩ := hrel
        match k, hk with
        | 0, _ =>
          go_wp2
          go_round
          case rel => exact ⟨1, by omega, rfl⟩
          case measure => simp [intOf]
        | 1, _ =>
          go_wp2
          go_round
          case rel => exact ⟨2, by omega, rfl⟩
          case measure => simp [intOf]
        | 2, _ =>
          go_wp2
          go_ret
          exact ⟨rfl, rfl⟩
    · have hy2 : (y != 0) = true := bne_iff_ne.2 hy
      go_enter Try.func37, Try.ntmps37
      go_wp2
      go_loop [8] (fun i => ∃ k : Nat, k ≤ 1 ∧ i = .int .i64 k) (fun i => 2 - (intOf i).toNat)
      case atStart => exact ⟨0, by omega, rfl⟩
      case round =>
        obtain ⟨k, hk, rfl⟩ := hrel
        match k, hk with
        | 0, _ =>
          go_wp2
          go_round
          case rel => exact ⟨1, by omega, rfl⟩
          case measure => simp [intOf]
        | 1, _ =>
          go_wp2
          go_ret
          exact ⟨rfl, rfl⟩
  · rw [if_neg hx]
    have hx2 : (x != 0) = true := bne_iff_ne.2 hx
    go_enter Try.func37, Try.ntmps37
    go_wp2
    go_loop [8] (fun i => i = .int .i64 0) (fun i => 2 - (intOf i).toNat)
    case atStart => exact rfl
    case round =>
      subst hrel
      go_wp2
      go_ret
      exact ⟨rfl, rfl⟩

def IntBR (x : Int) (w : World) (e : Ending) (w' : World) : Prop := e = .returned (.int .i64 x) ∧ Below w.heap.size w w'
def IntDR (x : Int) (w : World) (e : Ending) (w' : World) : Prop := e = .returned (.int .i64 x) ∧ ∃ q, w' = w.drewN q
theorem cmp_args {a b c d : Int} (h : a < 0 ∨ c < 0 ∨ b < 1 ∨ d < 1) : R.cmp a b c d = 0 := by unfold R.cmp; rw [if_pos h]
def side (x y : Nat) : Int := if x < y then -1 else if y < x then 1 else 0
theorem side_halves {P Q h l h' l' : Nat} (e : h * 18446744073709551616 + l = P) (e' : h' * 18446744073709551616 + l' = Q) (hl : l < 18446744073709551616) (hl' : l' < 18446744073709551616) :
    or2 (side h h') (side l l') = side P Q := by
  unfold or2 side
  by_cases h1 : h < h'
  · rw [if_pos h1, if_neg (by omega), if_pos (by omega)]
  · by_cases h2 : h' < h
    · rw [if_neg h1, if_pos h2, if_neg (by omega), if_neg (by omega), if_pos (by omega)]
    · rw [if_neg h1, if_neg h2, if_pos rfl]
      by_cases h3 : l < l'
      · rw [if_pos h3, if_pos (by omega)]
      · by_cases h4 : l' < l
        · rw [if_neg h3, if_pos h4, if_neg (by omega), if_pos (by omega)]
        · rw [if_neg h3, if_neg h4, if_neg (by omega), if_neg (by omega)]
theorem cmp_nat (x y z t : Nat) (hy : 0 < y) (ht : 0 < t) : R.cmp x y z t = side (x * t) (z * y) := by
  unfold R.cmp side
  rw [if_neg (by omega), ← Int.natCast_mul, ← Int.natCast_mul]
  simp only [Int.ofNat_lt]
theorem cmp64_side (x y : Nat) (w : World) : Calls Try.prog 38 #[.int .u64 x, .int .u64 y] w fun e w' => e = .returned (.int .i64 (side x y)) ∧ w = w' := cmp64_any x y w
theorem halves (P : Nat) (h : P < 340282366920938463463374607431768211456) : ∃ h l : Nat, h * 18446744073709551616 + l = P ∧ l < 18446744073709551616 ∧ h < 18446744073709551616 := ⟨P / 18446744073709551616, P % 18446744073709551616, by omega, by omega, by omega⟩
theorem mul_halves {x y : Nat} (hx : x < 9223372036854775808) (hy : y < 9223372036854775808) : x * y < 340282366920938463463374607431768211456 := by
  have := Nat.mul_le_mul (Nat.le_of_lt hx) (Nat.le_of_lt hy)
  omega

set_option maxHeartbeats 1000000 in
set_option maxRecDepth 20000 in
theorem cmp_any (a b c d : Int) (ha : -9223372036854775808 ≤ a ∧ a ≤ 9223372036854775807) (hb : -9223372036854775808 ≤ b ∧ b ≤ 9223372036854775807) (hc : -9223372036854775808 ≤ c ∧ c ≤ 9223372036854775807) (hd : -9223372036854775808 ≤ d ∧ d ≤ 9223372036854775807) (w : World) :
    Calls Try.prog 28 #[.int .i64 a, .int .i64 b, .int .i64 c, .int .i64 d] w (IntBR (R.cmp a b c d) w) := by
  by_cases h1 : a < 0
  · rw [cmp_args (Or.inl h1)]
    go_enter Try.func28, Try.ntmps28
    go_wp2
    go_ret
    exact ⟨rfl, Below.refl _ _⟩
  by_cases h2 : b < 1
  · rw [cmp_args (Or.inr (Or.inr (Or.inl h2)))]
    go_enter Try.func28, Try.ntmps28
    go_wp2
    go_ret
    exact ⟨rfl, Below.refl _ _⟩
  by_cases h3 : c < 0
  · rw [cmp_args (Or.inr (Or.inl h3))]
    go_enter Try.func28, Try.ntmps28
    go_wp2
    go_ret
    exact ⟨rfl, Below.refl _ _⟩
  by_cases h4 : d < 1
  · rw [cmp_args (Or.inr (Or.inr (Or.inr h4)))]
    go_enter Try.func28, Try.ntmps28
    go_wp2
    go_ret
    exact ⟨rfl, Below.refl _ _⟩
  obtain ⟨x, rfl⟩ := Int.eq_ofNat_of_zero_le (show 0 ≤ a by omega)
  obtain ⟨y, rfl⟩ := Int.eq_ofNat_of_zero_le (show 0 ≤ b by omega)
  obtain ⟨z, rfl⟩ := Int.eq_ofNat_of_zero_le (show 0 ≤ c by omega)
  obtain ⟨t, rfl⟩ := Int.eq_ofNat_of_zero_le (show 0 ≤ d by omega)
  have hy1 : ¬ (y : Int) < 1 := by omega
  have ht1 : ¬ (t : Int) < 1 := by omega
  have hxb : x < 18446744073709551616 := by omega
  have hyb : y < 18446744073709551616 := by omega
  have hzb : z < 18446744073709551616 := by omega
  have htb : t < 18446744073709551616 := by omega
  have ex : IntKind.u64.wrap (x : Int) = (x : Int) := wrapN _ hxb
  have ey : IntKind.u64.wrap (y : Int) = (y : Int) := wrapN _ hyb
  have ez : IntKind.u64.wrap (z : Int) = (z : Int) := wrapN _ hzb
  have et : IntKind.u64.wrap (t : Int) = (t : Int) := wrapN _ htb
  rw [cmp_nat x y z t (by omega) (by omega)]
  obtain ⟨h, l, e1, hl, hh⟩ := halves (x * t) (mul_halves (by omega) (by omega))
  obtain ⟨h', l', e2, hl', hh'⟩ := halves (z * y) (mul_halves (by omega) (by omega))
  rw [← side_halves e1 e2 hl hl']
  generalize hs1 : side h h' = s1
  generalize hs2 : side l l' = s2
  have HE1 := Lib.hid e1
  have HE2 := Lib.hid e2
  have HS1 := Lib.hid hs1
  have HS2 := Lib.hid hs2
  have R2 : ∀ w : World, Rd (w.alloc (.cells #[.int .i64 s1, .int .i64 s2] 3)) (w.heap.size + 1) 1 (some ⟨w.heap.size, 0, none⟩) 2 (I [s1, s2]) := fun w => Rd.lit w #[.int .i64 s1, .int .i64 s2] 3 1 2 rfl
  have HR2 := Lib.hid R2
  clear e1 e2 hs1 hs2 R2 h1 h2 h3 h4 ha hb hc hd
  go_enter Try.func28, Try.ntmps28
  go_wp2_with fail
  refine (mul64_any x t h l hxb htb HE1.out hl _).mono ?_
  rintro e w' ⟨rfl, rfl⟩
  go_wp2_with fail
  refine (mul64_any z y h' l' hzb hyb HE2.out hl' _).mono ?_
  rintro e w' ⟨rfl, rfl⟩
  go_wp2_with fail
  refine (cmp64_side h h' _).mono ?_
  rw [HS1.out]
  rintro e w' ⟨rfl, rfl⟩
  go_wp2_with fail
  refine (cmp64_side l l' _).mono ?_
  rw [HS2.out]
  rintro e w' ⟨rfl, rfl⟩
  go_wp2_with fail
  refine (or_any _ _ _ s1 s2 _ (HR2.out _)).mono ?_
  rintro e w' ⟨rfl, rfl⟩
  go_wp2
  go_ret
  exact ⟨rfl, (Below.refl _ _).alloc (Nat.le_refl _) _⟩
end Go.Proofs.Ytlnhdakafidhiaa
