/- What the library's quotient of two halves answers. -/
import Derived.Test.YtlnhdakafidhiaaRBits
import Derived.IntWalk
import Derived.Deep.QuietTactic
import Derived.BigQuiet
namespace Go.Proofs.Ytlnhdakafidhiaa
set_option linter.unusedVariables false
set_option linter.unusedSimpArgs false
open Go.RowKit

theorem wrap_of {x : Int} {n : Nat} (h : x = n) (hn : n < 18446744073709551616) : IntKind.u64.wrap x = (n : Int) := by subst h; exact wrapN n hn
theorem wrap_at {x k : Int} {n : Nat} (h : x = n + k * 18446744073709551616) (hn : n < 18446744073709551616) : IntKind.u64.wrap x = (n : Int) := by
  subst h; rw [IntKind.wrap_u64, Int.add_mul_emod_self_right]; omega
theorem two_pow_cast (s : Nat) : ((2 : Int) ^ s) = ((2 ^ s : Nat) : Int) := by push_cast; rfl

theorem halves_join {u v1 v0 m : Nat} (h1 : m / 4294967296 = v1) (h0 : m % 4294967296 = v0) : (u * 4294967296 + v1) * 4294967296 + v0 = u * 18446744073709551616 + m := by omega
theorem ret_pair {a b r : Int} (h : a = b) : Ending.returned (.tuple #[.int .u64 a, .int .u64 r]) = .returned (.tuple #[.int .u64 b, .int .u64 r]) := by rw [h]
/-- a word 0 in the upper half -/
theorem div64_low (lo y : Nat) (h2 : lo < 18446744073709551616) (h3 : y < 18446744073709551616) (hy : 0 < y) (n : Nat) (hn : n = lo / y) (w : World) :
    Calls Try.prog 41 #[.int .u64 0, .int .u64 lo, .int .u64 y] w fun e w' => (∃ r : Int, e = .returned (.tuple #[.int .u64 n, .int .u64 r])) ∧ ∃ q, w' = w.drewN q := by
  have e : (lo : Int).tdiv (y : Int) = (n : Int) := by rw [hn, Int.tdiv_eq_ediv_of_nonneg (by omega)]; rfl
  have hyne : (y : Int) ≠ 0 := by omega
  have hn2 : n < 18446744073709551616 := by rw [hn]; exact Nat.lt_of_le_of_lt (Nat.div_le_self _ _) h2
  have w1 : IntKind.u64.wrap (n : Int) = (n : Int) := wrapN n hn2
  clear hn
  go_enter Try.func41, Try.ntmps41
  go_wp2_with fail
  go_quiet (fail)
  go_wp2
  go_ret2
  exact ⟨⟨_, rfl⟩, _, rfl⟩


set_option maxHeartbeats 4000000 in
set_option maxRecDepth 100000 in
theorem div64_high (hi lo y : Nat) (h1 : hi < y) (h2 : lo < 18446744073709551616) (h3 : y < 18446744073709551616) (h0 : 0 < hi) (n : Nat) (hn : n = (hi * 18446744073709551616 + lo) / y) (w : World) :
    Calls Try.prog 41 #[.int .u64 hi, .int .u64 lo, .int .u64 y] w fun e w' => (∃ r : Int, e = .returned (.tuple #[.int .u64 n, .int .u64 r])) ∧ w = w' := by
  obtain ⟨s, hs, hs2, hY1, hY2⟩ := R.shift_of (y := y) (by omega) h3
  obtain ⟨z, m, hz, hm, hz2, hh2, hm2, hu, hall⟩ := R.shifted h1 h2 hs2 hY2
  obtain ⟨Y, eY⟩ : ∃ Y, y * 2 ^ s = Y := ⟨_, rfl⟩
  obtain ⟨u, eu⟩ : ∃ u, hi * 2 ^ s + z = u := ⟨_, rfl⟩
  obtain ⟨a, ea⟩ : ∃ a, Y / 4294967296 = a := ⟨_, rfl⟩
  obtain ⟨b, eb⟩ : ∃ b, Y % 4294967296 = b := ⟨_, rfl⟩
  obtain ⟨v1, ev1⟩ : ∃ v1, m / 4294967296 = v1 := ⟨_, rfl⟩
  obtain ⟨v0, ev0⟩ : ∃ v0, m % 4294967296 = v0 := ⟨_, rfl⟩
  have w1 : IntKind.u64.wrap ((y : Int) * 2 ^ s) = (Y : Int) := wrap_of (by rw [two_pow_cast, mulN, eY]) (by omega)
  have w2 : (Y : Int) / 4294967296 = (a : Int) := by omega
  have w3 : bits .and .u64 (Y : Int) 4294967295 = (b : Int) := by rw [mask64 Y (by omega), eb]
  have w4 : bits .or .u64 (IntKind.u64.wrap ((hi : Int) * 2 ^ s)) ((lo : Int) / 2 ^ (64 - s)) = (u : Int) := by
    rw [wrap_of (n := hi * 2 ^ s) (by rw [two_pow_cast, mulN]) hh2, two_pow_cast, ← Int.natCast_ediv, ← hz, bits_or_u64_nat _ _ hh2 (by omega), R.or_low hz2, eu]
  have w5 : IntKind.u64.wrap ((lo : Int) * 2 ^ s) = (m : Int) := by rw [two_pow_cast, mulN, wrapM, hm]
  have w6 : (m : Int) / 4294967296 = (v1 : Int) := by omega
  have w7 : bits .and .u64 (m : Int) 4294967295 = (v0 : Int) := by rw [mask64 m (by omega), ev0]
  have eYab : Y = a * 4294967296 + b := by omega
  have hua : u < a * 4294967296 + b := by omega
  have ha1 : 2147483648 ≤ a := by omega
  have ha2 : a < 4294967296 := by omega
  have hb2 : b < 4294967296 := by omega
  have hv1 : v1 < 4294967296 := by omega
  have hv0 : v0 < 4294967296 := by omega
  have hYb : Y < 18446744073709551616 := by omega
  have hN : n = ((u * 4294967296 + v1) * 4294967296 + v0) / Y := by
    have e : (u * 4294967296 + v1) * 4294967296 + v0 = (hi * 18446744073709551616 + lo) * 2 ^ s := by rw [← hall, eu]; exact halves_join ev1 ev0
    rw [hn, e, ← eY, Nat.mul_div_mul_right _ _ (Nat.two_pow_pos s)]
  clear hn hz hm eY eu ea eb ev1 ev0 hall hz2 hh2 hY1 hY2 hu
  obtain ⟨Q1, hQ1⟩ : ∃ q, q = (u * 4294967296 + v1) / Y := ⟨_, rfl⟩
  obtain ⟨Z, hZ⟩ : ∃ q, q = (u * 4294967296 + v1) % Y := ⟨_, rfl⟩
  obtain ⟨Q0, hQ0⟩ : ∃ q, q = (Z * 4294967296 + v0) / Y := ⟨_, rfl⟩
  have hZa : Z < a * 4294967296 + b := by rw [hZ, ← eYab]; exact Nat.mod_lt _ (by omega)
  have hQ1b : Q1 < 4294967296 := by rw [hQ1]; exact R.digit_lt (by omega) hv1
  have hQ0b : Q0 < 4294967296 := by rw [hQ0]; exact R.digit_lt (by omega) hv0
  have hn2 : Q1 * 4294967296 + Q0 = n := by rw [hN]; exact R.digits hQ1 hZ hQ0 (by omega) rfl
  have hk0 := R.guess_start hua hv1 ha1 ha2 hb2
  obtain ⟨q0, eq0⟩ : ∃ q, u / a = q := ⟨_, rfl⟩
  obtain ⟨r0, er0⟩ : ∃ r, u % a = r := ⟨_, rfl⟩
  rw [eq0, er0] at hk0
  have w8 : (u : Int) / (a : Int) = (q0 : Int) := by rw [← Int.natCast_ediv, eq0]
  have w8' : IntKind.u64.wrap (q0 : Int) = (q0 : Int) := wrapN _ (by have := hk0.2.2.2; omega)
  have w9 : IntKind.u64.wrap ((u : Int) - IntKind.u64.wrap ((q0 : Int) * (a : Int))) = (r0 : Int) := by
    obtain ⟨k1, _, _, _⟩ := hk0
    have : q0 * a < 18446744073709551616 := by omega
    rw [mulN, wrapN _ this]
    exact wrap_of (by omega) (by omega)
  have hk1 := R.guess_start hZa hv0 ha1 ha2 hb2
  obtain ⟨p0, ep0⟩ : ∃ q, Z / a = q := ⟨_, rfl⟩
  obtain ⟨s0, es0⟩ : ∃ r, Z % a = r := ⟨_, rfl⟩
  rw [ep0, es0] at hk1
  have t8 : (Z : Int) / (a : Int) = (p0 : Int) := by rw [← Int.natCast_ediv, ep0]
  have t8' : IntKind.u64.wrap (p0 : Int) = (p0 : Int) := wrapN _ (by have := hk1.2.2.2; omega)
  have t9 : IntKind.u64.wrap ((Z : Int) - IntKind.u64.wrap ((p0 : Int) * (a : Int))) = (s0 : Int) := by
    obtain ⟨k1, _, _, _⟩ := hk1
    have : p0 * a < 18446744073709551616 := by omega
    rw [mulN, wrapN _ this]
    exact wrap_of (by omega) (by omega)
  obtain ⟨K1, hK1⟩ : ∃ k : Int, k = (Q1 : Int) := ⟨_, rfl⟩
  obtain ⟨K0, hK0⟩ : ∃ k : Int, k = (Q0 : Int) := ⟨_, rfl⟩
  have t1 : IntKind.u64.wrap (IntKind.u64.wrap (IntKind.u64.wrap ((u : Int) * 4294967296) + (v1 : Int)) - IntKind.u64.wrap (K1 * (Y : Int))) = (Z : Int) := by
    have e := Nat.div_add_mod (u * 4294967296 + v1) Y
    rw [← hQ1, ← hZ, Nat.mul_comm] at e
    rw [hK1, mulN]
    generalize Q1 * Y = M at *
    simp only [IntKind.wrap_u64]
    omega
  have t2 : K1 * 4294967296 + K0 = (n : Int) ∧ 0 ≤ K1 ∧ K1 < 4294967296 ∧ 0 ≤ K0 ∧ K0 < 4294967296 := by omega
  have T2 := Lib.hid t2
  have HS := Lib.hid hs
  have HQ1 := Lib.hid hQ1
  have HQ0 := Lib.hid hQ0
  have HK1 := Lib.hid hK1
  have HK0 := Lib.hid hK0
  have HY := Lib.hid eYab
  have hane : (a : Int) ≠ 0 := by omega
  clear t2 hs eYab hN hn2 hQ1 hZ hQ0 eq0 er0 ep0 es0 hK1 hK0 hQ1b hQ0b
  go_enter Try.func41, Try.ntmps41
  go_wp2_with fail
  refine (lz64_any y s (by omega) h3 HS.out _).mono ?_
  rintro e w' ⟨rfl, rfl⟩
  go_wp2_with fail
  go_loop [15, 16] (fun q r => ∃ Q R1 : Nat, q = .int .u64 Q ∧ r = .int .u64 R1 ∧ R.Guess u v1 a b Q R1) (fun q _ => (intOf q).toNat)
  case atStart => exact ⟨q0, r0, rfl, rfl, hk0⟩
  case round =>
    obtain ⟨q, r, rfl, rfl, hk⟩ := hrel
    have hq2 := hk.2.2.2
    have hr2 := hk.2.2.1
    obtain ⟨c, ec⟩ : ∃ c, q * b = c := ⟨_, rfl⟩
    obtain ⟨g, eg⟩ : ∃ g, 4294967296 * r = g := ⟨_, rfl⟩
    obtain ⟨d, ed⟩ : ∃ d, g + v1 = d := ⟨_, rfl⟩
    have x1 : IntKind.u64.wrap (4294967296 * (r : Int)) = (g : Int) := wrap_of (by omega) (by omega)
    have x2 : IntKind.u64.wrap ((g : Int) + (v1 : Int)) = (d : Int) := wrap_of (by omega) (by omega)
    have x3 : IntKind.u64.wrap ((r : Int) + (a : Int)) = ((r + a : Nat) : Int) := wrap_of (by omega) (by omega)
    rcases R.guess_ways hk hua hv1 ha1 ha2 hb2 with ⟨j1, j2, j3⟩ | ⟨p, ep, j1, j2, j3⟩ | ⟨p, ep, j1, j2, j3⟩
    · have hc : c < 18446744073709551616 := by omega
      have x4 : IntKind.u64.wrap ((q : Int) * (b : Int)) = (c : Int) := wrap_of (by rw [mulN, ec]) hc
      have j4 : ¬ (d : Int) < (c : Int) := by omega
      have hqi : (q : Int) = K1 := by rw [HK1.out, HQ1.out, j3, ← HY.out]
      have i1 : K1 < 4294967296 := by omega
      have i0 : 0 ≤ K1 := by omega
      rw [hqi] at x4 ⊢
      clear hk hq2 hr2 j1 j2 j3 ec ed eg x3 hc hqi
      generalize hri : (r : Int) = ri at x1 ⊢
      generalize hgi : (g : Int) = gi at x1 x2
      generalize hdi : (d : Int) = di at x2 j4
      generalize hci : (c : Int) = ci at x4 j4
      clear hri hgi hdi hci
      go_wp2_with fail
      go_loop [18, 16] (fun q r => ∃ Q R1 : Nat, q = .int .u64 Q ∧ r = .int .u64 R1 ∧ R.Guess Z v0 a b Q R1) (fun q _ => (intOf q).toNat)
      case atStart => exact ⟨p0, s0, rfl, rfl, hk1⟩
      case round =>
        obtain ⟨q, r, rfl, rfl, hk⟩ := hrel
        have hq2 := hk.2.2.2
        have hr2 := hk.2.2.1
        obtain ⟨c, ec⟩ : ∃ c, q * b = c := ⟨_, rfl⟩
        obtain ⟨g, eg⟩ : ∃ g, 4294967296 * r = g := ⟨_, rfl⟩
        obtain ⟨d, ed⟩ : ∃ d, g + v0 = d := ⟨_, rfl⟩
        have x1 : IntKind.u64.wrap (4294967296 * (r : Int)) = (g : Int) := wrap_of (by omega) (by omega)
        have x2 : IntKind.u64.wrap ((g : Int) + (v0 : Int)) = (d : Int) := wrap_of (by omega) (by omega)
        have x3 : IntKind.u64.wrap ((r : Int) + (a : Int)) = ((r + a : Nat) : Int) := wrap_of (by omega) (by omega)
        rcases R.guess_ways hk hZa hv0 ha1 ha2 hb2 with ⟨j1, j2, j3⟩ | ⟨p, ep, j1, j2, j3⟩ | ⟨p, ep, j1, j2, j3⟩
        · have hc : c < 18446744073709551616 := by omega
          have x4 : IntKind.u64.wrap ((q : Int) * (b : Int)) = (c : Int) := wrap_of (by rw [mulN, ec]) hc
          have j4 : ¬ (d : Int) < (c : Int) := by omega
          have hqi : (q : Int) = K0 := by rw [HK0.out, HQ0.out, j3, ← HY.out]
          have i1 : K0 < 4294967296 := by omega
          have i0 : 0 ≤ K0 := by omega
          rw [hqi] at x4 ⊢
          clear hk hq2 hr2 j1 j2 j3 ec ed eg x3 hc hqi
          generalize hri : (r : Int) = ri at x1 ⊢
          generalize hgi : (g : Int) = gi at x1 x2
          generalize hdi : (d : Int) = di at x2 j4
          generalize hci : (c : Int) = ci at x4 j4
          clear hri hgi hdi hci
          go_wp2_with fail
          go_ret2
          exact ⟨⟨_, ret_pair (by have := T2.out; (try simp only [IntKind.wrap_u64]); omega)⟩, rfl⟩
        · have y1 : IntKind.u64.wrap ((q : Int) - 1) = (p : Int) := wrap_of (by omega) (by omega)
          have i3 : 4294967296 ≤ ((r + a : Nat) : Int) := by omega
          have i4 : 0 ≤ ((r + a : Nat) : Int) := by omega
          have hpi : (p : Int) = K0 := by rw [HK0.out, HQ0.out, j3, ← HY.out]
          rw [hpi] at y1
          clear hpi j3
          rcases j1 with j1 | ⟨j0, j1⟩
          · have i1 : 4294967296 ≤ (q : Int) := by omega
            clear hk hq2 hr2 ec ed eg ep j1 j2
            generalize hqi : (q : Int) = qi at y1 i1 ⊢
            generalize hr3 : ((r + a : Nat) : Int) = r3 at x3 i3 i4
            generalize hri : (r : Int) = ri at x1 x3 ⊢
            generalize hgi : (g : Int) = gi at x1 x2
            generalize hdi : (d : Int) = di at x2
            clear hri hgi hdi hqi hr3
            go_wp2_with fail
            go_ret2
            exact ⟨⟨_, ret_pair (by have := T2.out; (try simp only [IntKind.wrap_u64]); omega)⟩, rfl⟩
          · have i1 : (q : Int) < 4294967296 := by omega
            have i0 : 0 ≤ (q : Int) := by omega
            have hc : c < 18446744073709551616 := by
              have := Nat.mul_le_mul (show q ≤ 4294967295 by omega) (show b ≤ 4294967295 by omega)
              omega
            have x4 : IntKind.u64.wrap ((q : Int) * (b : Int)) = (c : Int) := wrap_of (by rw [mulN, ec]) hc
            have j4 : (d : Int) < (c : Int) := by omega
            clear hc j0
            clear hk hq2 hr2 ec ed eg ep j1 j2
            generalize hqi : (q : Int) = qi at y1 i1 i0 x4 ⊢
            generalize hr3 : ((r + a : Nat) : Int) = r3 at x3 i3 i4
            generalize hri : (r : Int) = ri at x1 x3 ⊢
            generalize hgi : (g : Int) = gi at x1 x2
            generalize hdi : (d : Int) = di at x2 j4
            generalize hci : (c : Int) = ci at x4 j4
            clear hci
            clear hri hgi hdi hqi hr3
            go_wp2_with fail
            go_ret2
            exact ⟨⟨_, ret_pair (by have := T2.out; (try simp only [IntKind.wrap_u64]); omega)⟩, rfl⟩
        · have y1 : IntKind.u64.wrap ((q : Int) - 1) = (p : Int) := wrap_of (by omega) (by omega)
          have i3 : ((r + a : Nat) : Int) < 4294967296 := by omega
          have i4 : 0 ≤ ((r + a : Nat) : Int) := by omega
          have hlt : p < q := by omega
          have J3 := Lib.hid j3
          clear j3
          generalize hpi : (p : Int) = pi at y1
          rcases j1 with j1 | ⟨j0, j1⟩
          · have i1 : 4294967296 ≤ (q : Int) := by omega
            have HP := Lib.hid hpi
            clear hpi
            clear hk hq2 hr2 ec ed eg ep j1 j2
            generalize hqi : (q : Int) = qi at y1 i1 ⊢
            generalize hr3 : ((r + a : Nat) : Int) = r3 at x3 i3 i4
            generalize hri : (r : Int) = ri at x1 x3 ⊢
            generalize hgi : (g : Int) = gi at x1 x2
            generalize hdi : (d : Int) = di at x2
            have HR3 := Lib.hid hr3
            have HQI := Lib.hid hqi
            clear hri hgi hdi hqi hr3
            go_wp2_with fail
            go_round
            case rel => exact ⟨p, r + a, by rw [HP.out], by rw [HR3.out], J3.out⟩
            case measure => have := HP.out; have := HQI.out; simp [intOf]; omega
          · have i1 : (q : Int) < 4294967296 := by omega
            have i0 : 0 ≤ (q : Int) := by omega
            have hc : c < 18446744073709551616 := by
              have := Nat.mul_le_mul (show q ≤ 4294967295 by omega) (show b ≤ 4294967295 by omega)
              omega
            have x4 : IntKind.u64.wrap ((q : Int) * (b : Int)) = (c : Int) := wrap_of (by rw [mulN, ec]) hc
            have j4 : (d : Int) < (c : Int) := by omega
            clear hc j0
            have HP := Lib.hid hpi
            clear hpi
            clear hk hq2 hr2 ec ed eg ep j1 j2
            generalize hqi : (q : Int) = qi at y1 i1 i0 x4 ⊢
            generalize hr3 : ((r + a : Nat) : Int) = r3 at x3 i3 i4
            generalize hri : (r : Int) = ri at x1 x3 ⊢
            generalize hgi : (g : Int) = gi at x1 x2
            generalize hdi : (d : Int) = di at x2 j4
            generalize hci : (c : Int) = ci at x4 j4
            clear hci
            have HR3 := Lib.hid hr3
            have HQI := Lib.hid hqi
            clear hri hgi hdi hqi hr3
            go_wp2_with fail
            go_round
            case rel => exact ⟨p, r + a, by rw [HP.out], by rw [HR3.out], J3.out⟩
            case measure => have := HP.out; have := HQI.out; simp [intOf]; omega
    · have y1 : IntKind.u64.wrap ((q : Int) - 1) = (p : Int) := wrap_of (by omega) (by omega)
      have i3 : 4294967296 ≤ ((r + a : Nat) : Int) := by omega
      have i4 : 0 ≤ ((r + a : Nat) : Int) := by omega
      have hpi : (p : Int) = K1 := by rw [HK1.out, HQ1.out, j3, ← HY.out]
      rw [hpi] at y1
      clear hpi j3
      rcases j1 with j1 | ⟨j0, j1⟩
      · have i1 : 4294967296 ≤ (q : Int) := by omega
        clear hk hq2 hr2 ec ed eg ep j1 j2
        generalize hqi : (q : Int) = qi at y1 i1 ⊢
        generalize hr3 : ((r + a : Nat) : Int) = r3 at x3 i3 i4
        generalize hri : (r : Int) = ri at x1 x3 ⊢
        generalize hgi : (g : Int) = gi at x1 x2
        generalize hdi : (d : Int) = di at x2
        clear hri hgi hdi hqi hr3
        go_wp2_with fail
        go_loop [18, 16] (fun q r => ∃ Q R1 : Nat, q = .int .u64 Q ∧ r = .int .u64 R1 ∧ R.Guess Z v0 a b Q R1) (fun q _ => (intOf q).toNat)
        case atStart => exact ⟨p0, s0, rfl, rfl, hk1⟩
        case round =>
          obtain ⟨q, r, rfl, rfl, hk⟩ := hrel
          have hq2 := hk.2.2.2
          have hr2 := hk.2.2.1
          obtain ⟨c, ec⟩ : ∃ c, q * b = c := ⟨_, rfl⟩
          obtain ⟨g, eg⟩ : ∃ g, 4294967296 * r = g := ⟨_, rfl⟩
          obtain ⟨d, ed⟩ : ∃ d, g + v0 = d := ⟨_, rfl⟩
          have x1 : IntKind.u64.wrap (4294967296 * (r : Int)) = (g : Int) := wrap_of (by omega) (by omega)
          have x2 : IntKind.u64.wrap ((g : Int) + (v0 : Int)) = (d : Int) := wrap_of (by omega) (by omega)
          have x3 : IntKind.u64.wrap ((r : Int) + (a : Int)) = ((r + a : Nat) : Int) := wrap_of (by omega) (by omega)
          rcases R.guess_ways hk hZa hv0 ha1 ha2 hb2 with ⟨j1, j2, j3⟩ | ⟨p, ep, j1, j2, j3⟩ | ⟨p, ep, j1, j2, j3⟩
          · have hc : c < 18446744073709551616 := by omega
            have x4 : IntKind.u64.wrap ((q : Int) * (b : Int)) = (c : Int) := wrap_of (by rw [mulN, ec]) hc
            have j4 : ¬ (d : Int) < (c : Int) := by omega
            have hqi : (q : Int) = K0 := by rw [HK0.out, HQ0.out, j3, ← HY.out]
            have i1 : K0 < 4294967296 := by omega
            have i0 : 0 ≤ K0 := by omega
            rw [hqi] at x4 ⊢
            clear hk hq2 hr2 j1 j2 j3 ec ed eg x3 hc hqi
            generalize hri : (r : Int) = ri at x1 ⊢
            generalize hgi : (g : Int) = gi at x1 x2
            generalize hdi : (d : Int) = di at x2 j4
            generalize hci : (c : Int) = ci at x4 j4
            clear hri hgi hdi hci
            go_wp2_with fail
            go_ret2
            exact ⟨⟨_, ret_pair (by have := T2.out; (try simp only [IntKind.wrap_u64]); omega)⟩, rfl⟩
          · have y1 : IntKind.u64.wrap ((q : Int) - 1) = (p : Int) := wrap_of (by omega) (by omega)
            have i3 : 4294967296 ≤ ((r + a : Nat) : Int) := by omega
            have i4 : 0 ≤ ((r + a : Nat) : Int) := by omega
            have hpi : (p : Int) = K0 := by rw [HK0.out, HQ0.out, j3, ← HY.out]
            rw [hpi] at y1
            clear hpi j3
            rcases j1 with j1 | ⟨j0, j1⟩
            · have i1 : 4294967296 ≤ (q : Int) := by omega
              clear hk hq2 hr2 ec ed eg ep j1 j2
              generalize hqi : (q : Int) = qi at y1 i1 ⊢
              generalize hr3 : ((r + a : Nat) : Int) = r3 at x3 i3 i4
              generalize hri : (r : Int) = ri at x1 x3 ⊢
              generalize hgi : (g : Int) = gi at x1 x2
              generalize hdi : (d : Int) = di at x2
              clear hri hgi hdi hqi hr3
              go_wp2_with fail
              go_ret2
              exact ⟨⟨_, ret_pair (by have := T2.out; (try simp only [IntKind.wrap_u64]); omega)⟩, rfl⟩
            · have i1 : (q : Int) < 4294967296 := by omega
              have i0 : 0 ≤ (q : Int) := by omega
              have hc : c < 18446744073709551616 := by
                have := Nat.mul_le_mul (show q ≤ 4294967295 by omega) (show b ≤ 4294967295 by omega)
                omega
              have x4 : IntKind.u64.wrap ((q : Int) * (b : Int)) = (c : Int) := wrap_of (by rw [mulN, ec]) hc
              have j4 : (d : Int) < (c : Int) := by omega
              clear hc j0
              clear hk hq2 hr2 ec ed eg ep j1 j2
              generalize hqi : (q : Int) = qi at y1 i1 i0 x4 ⊢
              generalize hr3 : ((r + a : Nat) : Int) = r3 at x3 i3 i4
              generalize hri : (r : Int) = ri at x1 x3 ⊢
              generalize hgi : (g : Int) = gi at x1 x2
              generalize hdi : (d : Int) = di at x2 j4
              generalize hci : (c : Int) = ci at x4 j4
              clear hci
              clear hri hgi hdi hqi hr3
              go_wp2_with fail
              go_ret2
              exact ⟨⟨_, ret_pair (by have := T2.out; (try simp only [IntKind.wrap_u64]); omega)⟩, rfl⟩
          · have y1 : IntKind.u64.wrap ((q : Int) - 1) = (p : Int) := wrap_of (by omega) (by omega)
            have i3 : ((r + a : Nat) : Int) < 4294967296 := by omega
            have i4 : 0 ≤ ((r + a : Nat) : Int) := by omega
            have hlt : p < q := by omega
            have J3 := Lib.hid j3
            clear j3
            generalize hpi : (p : Int) = pi at y1
            rcases j1 with j1 | ⟨j0, j1⟩
            · have i1 : 4294967296 ≤ (q : Int) := by omega
              have HP := Lib.hid hpi
              clear hpi
              clear hk hq2 hr2 ec ed eg ep j1 j2
              generalize hqi : (q : Int) = qi at y1 i1 ⊢
              generalize hr3 : ((r + a : Nat) : Int) = r3 at x3 i3 i4
              generalize hri : (r : Int) = ri at x1 x3 ⊢
              generalize hgi : (g : Int) = gi at x1 x2
              generalize hdi : (d : Int) = di at x2
              have HR3 := Lib.hid hr3
              have HQI := Lib.hid hqi
              clear hri hgi hdi hqi hr3
              go_wp2_with fail
              go_round
              case rel => exact ⟨p, r + a, by rw [HP.out], by rw [HR3.out], J3.out⟩
              case measure => have := HP.out; have := HQI.out; simp [intOf]; omega
            · have i1 : (q : Int) < 4294967296 := by omega
              have i0 : 0 ≤ (q : Int) := by omega
              have hc : c < 18446744073709551616 := by
                have := Nat.mul_le_mul (show q ≤ 4294967295 by omega) (show b ≤ 4294967295 by omega)
                omega
              have x4 : IntKind.u64.wrap ((q : Int) * (b : Int)) = (c : Int) := wrap_of (by rw [mulN, ec]) hc
              have j4 : (d : Int) < (c : Int) := by omega
              clear hc j0
              have HP := Lib.hid hpi
              clear hpi
              clear hk hq2 hr2 ec ed eg ep j1 j2
              generalize hqi : (q : Int) = qi at y1 i1 i0 x4 ⊢
              generalize hr3 : ((r + a : Nat) : Int) = r3 at x3 i3 i4
              generalize hri : (r : Int) = ri at x1 x3 ⊢
              generalize hgi : (g : Int) = gi at x1 x2
              generalize hdi : (d : Int) = di at x2 j4
              generalize hci : (c : Int) = ci at x4 j4
              clear hci
              have HR3 := Lib.hid hr3
              have HQI := Lib.hid hqi
              clear hri hgi hdi hqi hr3
              go_wp2_with fail
              go_round
              case rel => exact ⟨p, r + a, by rw [HP.out], by rw [HR3.out], J3.out⟩
              case measure => have := HP.out; have := HQI.out; simp [intOf]; omega
      · have i1 : (q : Int) < 4294967296 := by omega
        have i0 : 0 ≤ (q : Int) := by omega
        have hc : c < 18446744073709551616 := by
          have := Nat.mul_le_mul (show q ≤ 4294967295 by omega) (show b ≤ 4294967295 by omega)
          omega
        have x4 : IntKind.u64.wrap ((q : Int) * (b : Int)) = (c : Int) := wrap_of (by rw [mulN, ec]) hc
        have j4 : (d : Int) < (c : Int) := by omega
        clear hc j0
        clear hk hq2 hr2 ec ed eg ep j1 j2
        generalize hqi : (q : Int) = qi at y1 i1 i0 x4 ⊢
        generalize hr3 : ((r + a : Nat) : Int) = r3 at x3 i3 i4
        generalize hri : (r : Int) = ri at x1 x3 ⊢
        generalize hgi : (g : Int) = gi at x1 x2
        generalize hdi : (d : Int) = di at x2 j4
        generalize hci : (c : Int) = ci at x4 j4
        clear hci
        clear hri hgi hdi hqi hr3
        go_wp2_with fail
        go_loop [18, 16] (fun q r => ∃ Q R1 : Nat, q = .int .u64 Q ∧ r = .int .u64 R1 ∧ R.Guess Z v0 a b Q R1) (fun q _ => (intOf q).toNat)
        case atStart => exact ⟨p0, s0, rfl, rfl, hk1⟩
        case round =>
          obtain ⟨q, r, rfl, rfl, hk⟩ := hrel
          have hq2 := hk.2.2.2
          have hr2 := hk.2.2.1
          obtain ⟨c, ec⟩ : ∃ c, q * b = c := ⟨_, rfl⟩
          obtain ⟨g, eg⟩ : ∃ g, 4294967296 * r = g := ⟨_, rfl⟩
          obtain ⟨d, ed⟩ : ∃ d, g + v0 = d := ⟨_, rfl⟩
          have x1 : IntKind.u64.wrap (4294967296 * (r : Int)) = (g : Int) := wrap_of (by omega) (by omega)
          have x2 : IntKind.u64.wrap ((g : Int) + (v0 : Int)) = (d : Int) := wrap_of (by omega) (by omega)
          have x3 : IntKind.u64.wrap ((r : Int) + (a : Int)) = ((r + a : Nat) : Int) := wrap_of (by omega) (by omega)
          rcases R.guess_ways hk hZa hv0 ha1 ha2 hb2 with ⟨j1, j2, j3⟩ | ⟨p, ep, j1, j2, j3⟩ | ⟨p, ep, j1, j2, j3⟩
          · have hc : c < 18446744073709551616 := by omega
            have x4 : IntKind.u64.wrap ((q : Int) * (b : Int)) = (c : Int) := wrap_of (by rw [mulN, ec]) hc
            have j4 : ¬ (d : Int) < (c : Int) := by omega
            have hqi : (q : Int) = K0 := by rw [HK0.out, HQ0.out, j3, ← HY.out]
            have i1 : K0 < 4294967296 := by omega
            have i0 : 0 ≤ K0 := by omega
            rw [hqi] at x4 ⊢
            clear hk hq2 hr2 j1 j2 j3 ec ed eg x3 hc hqi
            generalize hri : (r : Int) = ri at x1 ⊢
            generalize hgi : (g : Int) = gi at x1 x2
            generalize hdi : (d : Int) = di at x2 j4
            generalize hci : (c : Int) = ci at x4 j4
            clear hri hgi hdi hci
            go_wp2_with fail
            go_ret2
            exact ⟨⟨_, ret_pair (by have := T2.out; (try simp only [IntKind.wrap_u64]); omega)⟩, rfl⟩
          · have y1 : IntKind.u64.wrap ((q : Int) - 1) = (p : Int) := wrap_of (by omega) (by omega)
            have i3 : 4294967296 ≤ ((r + a : Nat) : Int) := by omega
            have i4 : 0 ≤ ((r + a : Nat) : Int) := by omega
            have hpi : (p : Int) = K0 := by rw [HK0.out, HQ0.out, j3, ← HY.out]
            rw [hpi] at y1
            clear hpi j3
            rcases j1 with j1 | ⟨j0, j1⟩
            · have i1 : 4294967296 ≤ (q : Int) := by omega
              clear hk hq2 hr2 ec ed eg ep j1 j2
              generalize hqi : (q : Int) = qi at y1 i1 ⊢
              generalize hr3 : ((r + a : Nat) : Int) = r3 at x3 i3 i4
              generalize hri : (r : Int) = ri at x1 x3 ⊢
              generalize hgi : (g : Int) = gi at x1 x2
              generalize hdi : (d : Int) = di at x2
              clear hri hgi hdi hqi hr3
              go_wp2_with fail
              go_ret2
              exact ⟨⟨_, ret_pair (by have := T2.out; (try simp only [IntKind.wrap_u64]); omega)⟩, rfl⟩
            · have i1 : (q : Int) < 4294967296 := by omega
              have i0 : 0 ≤ (q : Int) := by omega
              have hc : c < 18446744073709551616 := by
                have := Nat.mul_le_mul (show q ≤ 4294967295 by omega) (show b ≤ 4294967295 by omega)
                omega
              have x4 : IntKind.u64.wrap ((q : Int) * (b : Int)) = (c : Int) := wrap_of (by rw [mulN, ec]) hc
              have j4 : (d : Int) < (c : Int) := by omega
              clear hc j0
              clear hk hq2 hr2 ec ed eg ep j1 j2
              generalize hqi : (q : Int) = qi at y1 i1 i0 x4 ⊢
              generalize hr3 : ((r + a : Nat) : Int) = r3 at x3 i3 i4
              generalize hri : (r : Int) = ri at x1 x3 ⊢
              generalize hgi : (g : Int) = gi at x1 x2
              generalize hdi : (d : Int) = di at x2 j4
              generalize hci : (c : Int) = ci at x4 j4
              clear hci
              clear hri hgi hdi hqi hr3
              go_wp2_with fail
              go_ret2
              exact ⟨⟨_, ret_pair (by have := T2.out; (try simp only [IntKind.wrap_u64]); omega)⟩, rfl⟩
          · have y1 : IntKind.u64.wrap ((q : Int) - 1) = (p : Int) := wrap_of (by omega) (by omega)
            have i3 : ((r + a : Nat) : Int) < 4294967296 := by omega
            have i4 : 0 ≤ ((r + a : Nat) : Int) := by omega
            have hlt : p < q := by omega
            have J3 := Lib.hid j3
            clear j3
            generalize hpi : (p : Int) = pi at y1
            rcases j1 with j1 | ⟨j0, j1⟩
            · have i1 : 4294967296 ≤ (q : Int) := by omega
              have HP := Lib.hid hpi
              clear hpi
              clear hk hq2 hr2 ec ed eg ep j1 j2
              generalize hqi : (q : Int) = qi at y1 i1 ⊢
              generalize hr3 : ((r + a : Nat) : Int) = r3 at x3 i3 i4
              generalize hri : (r : Int) = ri at x1 x3 ⊢
              generalize hgi : (g : Int) = gi at x1 x2
              generalize hdi : (d : Int) = di at x2
              have HR3 := Lib.hid hr3
              have HQI := Lib.hid hqi
              clear hri hgi hdi hqi hr3
              go_wp2_with fail
              go_round
              case rel => exact ⟨p, r + a, by rw [HP.out], by rw [HR3.out], J3.out⟩
              case measure => have := HP.out; have := HQI.out; simp [intOf]; omega
            · have i1 : (q : Int) < 4294967296 := by omega
              have i0 : 0 ≤ (q : Int) := by omega
              have hc : c < 18446744073709551616 := by
                have := Nat.mul_le_mul (show q ≤ 4294967295 by omega) (show b ≤ 4294967295 by omega)
                omega
              have x4 : IntKind.u64.wrap ((q : Int) * (b : Int)) = (c : Int) := wrap_of (by rw [mulN, ec]) hc
              have j4 : (d : Int) < (c : Int) := by omega
              clear hc j0
              have HP := Lib.hid hpi
              clear hpi
              clear hk hq2 hr2 ec ed eg ep j1 j2
              generalize hqi : (q : Int) = qi at y1 i1 i0 x4 ⊢
              generalize hr3 : ((r + a : Nat) : Int) = r3 at x3 i3 i4
              generalize hri : (r : Int) = ri at x1 x3 ⊢
              generalize hgi : (g : Int) = gi at x1 x2
              generalize hdi : (d : Int) = di at x2 j4
              generalize hci : (c : Int) = ci at x4 j4
              clear hci
              have HR3 := Lib.hid hr3
              have HQI := Lib.hid hqi
              clear hri hgi hdi hqi hr3
              go_wp2_with fail
              go_round
              case rel => exact ⟨p, r + a, by rw [HP.out], by rw [HR3.out], J3.out⟩
              case measure => have := HP.out; have := HQI.out; simp [intOf]; omega
    · have y1 : IntKind.u64.wrap ((q : Int) - 1) = (p : Int) := wrap_of (by omega) (by omega)
      have i3 : ((r + a : Nat) : Int) < 4294967296 := by omega
      have i4 : 0 ≤ ((r + a : Nat) : Int) := by omega
      have hlt : p < q := by omega
      have J3 := Lib.hid j3
      clear j3
      generalize hpi : (p : Int) = pi at y1
      rcases j1 with j1 | ⟨j0, j1⟩
      · have i1 : 4294967296 ≤ (q : Int) := by omega
        have HP := Lib.hid hpi
        clear hpi
        clear hk hq2 hr2 ec ed eg ep j1 j2
        generalize hqi : (q : Int) = qi at y1 i1 ⊢
        generalize hr3 : ((r + a : Nat) : Int) = r3 at x3 i3 i4
        generalize hri : (r : Int) = ri at x1 x3 ⊢
        generalize hgi : (g : Int) = gi at x1 x2
        generalize hdi : (d : Int) = di at x2
        have HR3 := Lib.hid hr3
        have HQI := Lib.hid hqi
        clear hri hgi hdi hqi hr3
        go_wp2_with fail
        go_round
        case rel => exact ⟨p, r + a, by rw [HP.out], by rw [HR3.out], J3.out⟩
        case measure => have := HP.out; have := HQI.out; simp [intOf]; omega
      · have i1 : (q : Int) < 4294967296 := by omega
        have i0 : 0 ≤ (q : Int) := by omega
        have hc : c < 18446744073709551616 := by
          have := Nat.mul_le_mul (show q ≤ 4294967295 by omega) (show b ≤ 4294967295 by omega)
          omega
        have x4 : IntKind.u64.wrap ((q : Int) * (b : Int)) = (c : Int) := wrap_of (by rw [mulN, ec]) hc
        have j4 : (d : Int) < (c : Int) := by omega
        clear hc j0
        have HP := Lib.hid hpi
        clear hpi
        clear hk hq2 hr2 ec ed eg ep j1 j2
        generalize hqi : (q : Int) = qi at y1 i1 i0 x4 ⊢
        generalize hr3 : ((r + a : Nat) : Int) = r3 at x3 i3 i4
        generalize hri : (r : Int) = ri at x1 x3 ⊢
        generalize hgi : (g : Int) = gi at x1 x2
        generalize hdi : (d : Int) = di at x2 j4
        generalize hci : (c : Int) = ci at x4 j4
        clear hci
        have HR3 := Lib.hid hr3
        have HQI := Lib.hid hqi
        clear hri hgi hdi hqi hr3
        go_wp2_with fail
        go_round
        case rel => exact ⟨p, r + a, by rw [HP.out], by rw [HR3.out], J3.out⟩
        case measure => have := HP.out; have := HQI.out; simp [intOf]; omega
end Go.Proofs.Ytlnhdakafidhiaa
