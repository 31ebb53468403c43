/- Package ratio: means. -/
import Derived.Test.YtlnhdakafidhiaaRCode2
namespace Go.Proofs.Ytlnhdakafidhiaa
set_option linter.unusedVariables false
set_option linter.unusedSimpArgs false
open Go.RowKit

theorem add64_law (x y l c : Nat) (el : (x + y) % 18446744073709551616 = l) (ec : (x + y) / 18446744073709551616 = c) (w : World) :
    (callFunc 42 #[.int .u64 x, .int .u64 y, .int .u64 0]).run Try.prog w = .ok (.value (.tuple #[.int .u64 l, .int .u64 c])) w := by
  rw [run_callFunc_extern Try.func42 (by kernel_rfl) (by kernel_rfl) (by kernel_rfl) (e := add64Entry) (by kernel_rfl), run_add64 x y 0 (by omega) (by omega) (by omega) (by omega)]
  simp only [Result.andThen]
  have e1 : ((x : Int) + y + 0) % 18446744073709551616 = l := by omega
  have e2 : ((x : Int) + y + 0) / 18446744073709551616 = c := by omega
  rw [e1, e2]
theorem carry_any {N H L s p L' C H' : Nat} (hs : H * N + L = s) (eL : (L + p) % N = L') (eC : (L + p) / N = C) (eH : H + C = H') : H' * N + L' = s + p := by
  have e := Nat.div_add_mod (L + p) N
  rw [eL, eC, Nat.mul_comm] at e
  rw [← eH, ← hs, Nat.add_mul]
  omega
theorem carry_sum {H L s p L' C H' : Nat} (hs : H * 18446744073709551616 + L = s) (eL : (L + p) % 18446744073709551616 = L') (eC : (L + p) / 18446744073709551616 = C) (eH : H + C = H') : H' * 18446744073709551616 + L' = s + p :=
  carry_any hs eL eC eH
theorem pin_clamp (x : Int) : R.clamp x 0 1125899906842624 = R.pin x := by unfold R.clamp R.pin; split <;> (try split) <;> omega
theorem mean_zero {l : List Int} (h : l.length = 0) : R.mean l = 0 := by unfold R.mean; rw [if_pos h]
theorem mean_nat {l : List Int} {S n m : Nat} (hn : l.length = n) (h0 : n ≠ 0) (hS : R.sum l = S) (hm : m = S / n) : R.mean l = m := by
  unfold R.mean
  rw [if_neg (by omega), hS, hn, hm]
  push_cast; rfl
theorem mean_le {l : List Int} {S n : Nat} (hn : l.length = n) (h0 : n ≠ 0) (hS : R.sum l = S) : S ≤ n * 1125899906842624 := by
  have := (R.sum_bounds l).2
  rw [hS, hn] at this
  omega

set_option maxHeartbeats 2000000 in
set_option maxRecDepth 20000 in
theorem mean_any (A : Option Addr) (n c B : Nat) (l : List Int) (w : World) (h : Rd w B 1 A n (I l)) (hn : n ≤ 140737488355328) :
    Calls Try.prog 35 #[.slice A n c] w (IntDR (R.mean l) w) := by
  have hl : l.length = n := by have := h.len1; rwa [I_length] at this
  by_cases hn0 : n = 0
  · subst hn0
    rw [mean_zero hl]
    clear hl
    go_enter Try.func35, Try.ntmps35
    go_wp2
    go_ret
    exact ⟨rfl, 0, rfl⟩
  have hne : ((n : Int) == 0) = false := beq_eq_false_iff_ne.2 (by omega)
  obtain ⟨S, hS⟩ := Int.eq_ofNat_of_zero_le (R.sum_bounds l).1
  obtain ⟨m, hm⟩ : ∃ m, m = S / n := ⟨_, rfl⟩
  have hSn := mean_le hl hn0 hS
  have hmb : m ≤ 1125899906842624 := by
    rw [hm]
    exact Nat.div_le_of_le_mul hSn
  rw [mean_nat hl hn0 hS hm]
  have HL := Lib.hid hl
  have HR := Lib.hid h
  have HS := Lib.hid hS
  have HM := Lib.hid hm
  have HN := Lib.hid hSn
  have en : IntKind.u64.wrap (n : Int) = (n : Int) := wrapN _ (by omega)
  clear hl h hS hm hSn
  go_enter Try.func35, Try.ntmps35
  go_wp2
  go_loop [3, 4, 15] (fun u v i => ∃ k H L s : Nat, k ≤ n ∧ u = .int .u64 H ∧ v = .int .u64 L ∧ i = .int .i64 k ∧ H * 18446744073709551616 + L = s ∧ L < 18446744073709551616 ∧ R.sum (l.take k) = s) (fun _ _ i => n - (intOf i).toNat)
  case atStart => exact ⟨0, 0, 0, 0, by omega, rfl, rfl, rfl, rfl, by omega, by simp [R.sum]⟩
  case round =>
    obtain ⟨k, H, L, s, hk, rfl, rfl, rfl, hs, hL, hsum⟩ := hrel
    by_cases hlt : k < n
    · obtain ⟨b, o, x, rfl, hb, hx, hcell⟩ := HR.out.atI hlt
      obtain ⟨p, hp⟩ := Int.eq_ofNat_of_zero_le (R.pin_bounds x).1
      have hpb := (R.pin_bounds x).2
      have hc : R.clamp x 0 1125899906842624 = (p : Int) := by rw [pin_clamp, hp]
      have hsum2 : R.sum (l.take (k + 1)) = ((s + p : Nat) : Int) := by rw [take_more hx, R.sum_snoc, hsum, hp]; push_cast; rfl
      have hb1 := (R.sum_bounds (l.take (k + 1))).2
      have hb2 : (l.take (k + 1)).length ≤ n := by rw [List.length_take]; omega
      obtain ⟨L', eL⟩ : ∃ y, (L + p) % 18446744073709551616 = y := ⟨_, rfl⟩
      obtain ⟨C, eC⟩ : ∃ y, (L + p) / 18446744073709551616 = y := ⟨_, rfl⟩
      obtain ⟨H', eH⟩ : ∃ y, H + C = y := ⟨_, rfl⟩
      have hs' : H' * 18446744073709551616 + L' = s + p := carry_sum hs eL eC eH
      have hp2 : p ≤ 1125899906842624 := by omega
      have hH : H' < 18446744073709551616 := by
        rw [hsum2] at hb1
        have : (l.take (k + 1)).length * 1125899906842624 ≤ n * 1125899906842624 := Nat.mul_le_mul_right _ hb2
        omega
      have e1 := fun w => add64_law L p L' C eL eC w
      have e2 : IntKind.u64.wrap ((H : Int) + (C : Int)) = (H' : Int) := by rw [addN, eH]; exact wrapN _ hH
      have e3 : IntKind.u64.wrap (p : Int) = (p : Int) := wrapN _ (by omega)
      have HC := Lib.hid hc
      have HS2 := Lib.hid hsum2
      have HS3 := Lib.hid hs'
      have hL' : L' < 18446744073709551616 := by omega
      clear hp hpb hc hsum hs hsum2 hx hb1 hb2 eL eC eH hs'
      go_wp2_with fail
      refine (clamp_any x 0 1125899906842624 _).mono ?_
      rw [HC.out]
      rintro e w' ⟨rfl, rfl⟩
      go_wp2_with fail
      go_round
      case rel => exact ⟨k + 1, H', L', _, by omega, rfl, rfl, by go_num, HS3.out, hL', HS2.out⟩
      case measure => simp [intOf]; omega
    · have e : k = n := by omega
      subst e
      have hsS : s = S := by
        have e := HS.out
        rw [List.take_of_length_le (by have := HL.out; omega), e] at hsum
        exact (Int.ofNat.inj hsum).symm
      have hlt : H < k := by have := HN.out; omega
      have hkb : k < 18446744073709551616 := by omega
      have hm : m = (H * 18446744073709551616 + L) / k := by rw [hs, hsS]; exact HM.out
      have HM2 := Lib.hid hm
      have i1 : (m : Int) ≤ 1125899906842624 := by omega
      have i0 : 0 ≤ (m : Int) := by omega
      clear hs hsum hsS hm hmb
      go_wp2_with fail
      refine (div64_any H L k m hlt hL hkb HM2.out _).mono ?_
      rintro e w2 ⟨⟨r, rfl⟩, q, rfl⟩
      generalize hni : (m : Int) = ni at i1 i0 ⊢
      have HNI := Lib.hid hni
      clear hni
      go_wp2
      go_ret
      exact ⟨by rw [HNI.out]; rfl, q, rfl⟩
end Go.Proofs.Ytlnhdakafidhiaa
