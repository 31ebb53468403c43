/- layer 2's down, layer 2's Sum and bellwetherref02.Sum. -/
import Derived.Test.YtbnbljkkfgieoaaBase
import Derived.Test.YtbnbljkkfgieoaaSMath
import Derived.Laws.BitsAllLaws
namespace Go.Proofs.Ytbnbljkkfgieoaa
open Go.RowKit

set_option maxHeartbeats 400000 in
theorem down_any (s : Nat) (hs : s < 4294967296) (w : World) :
    Calls Try.prog 43 #[.int .u32 s] w fun e w' => e = .returned (.int .u32 (S.T s)) ∧ w = w' := by
  go_enter Try.func43, Try.ntmps43
  go_wp2
  go_ret
  refine ⟨ret_int ?_, rfl⟩
  have e1 : bits BinOp.and IntKind.u32 (s : Int) 1 = ((s &&& 1 : Nat) : Int) := u32_and_nat s 1 hs (by omega)
  have e2 : s &&& 1 = s % 2 := Nat.and_one_is_mod s
  have e3 : ((s : Int) / 2) = ((s / 2 : Nat) : Int) := by omega
  rw [e1, e2, e3]
  unfold S.T
  rcases Nat.mod_two_eq_zero_or_one s with h | h
  · rw [h, if_neg (by omega)]
    exact u32_xor_nat (s / 2) 0 (by omega) (by omega)
  · rw [h, if_pos rfl]
    exact u32_xor_nat (s / 2) 2197175160 (by omega) (by omega)

theorem xor_u32 (a b : Nat) (ha : a < 4294967296) (hb : b < 4294967296) : bits .xor .u32 (a : Int) (b : Int) = ((a ^^^ b : Nat) : Int) := u32_xor_nat a b ha hb

theorem sum_not (l : List UInt8) : bits BinOp.xor IntKind.u32 IntKind.u32.max (S.crc 4294967295 l : Int) = (S.sum l : Int) := by
  rw [S.sum_xor]; exact u32_xor_nat 4294967295 _ (by omega) (S.crc_lt l (by omega))

set_option maxHeartbeats 800000 in
theorem sum_any (A : Option Addr) (n c B : Nat) (l : List UInt8) (w : World) (h : Rd w B 1 A n (U l)) (hn : n ≤ 70368744177664) :
    Calls Try.prog 35 #[.slice A n c] w fun e w' => e = .returned (.int .u32 (S.sum l)) ∧ w = w' := by
  have hl : l.length = n := by have := h.len1; rwa [U_length] at this
  have HL := Lib.hid hl
  have HR := Lib.hid h
  clear hl h
  go_enter Try.func35, Try.ntmps35
  go_wp2
  go_loop [3, 8] (fun s i => ∃ k : Nat, k ≤ n ∧ i = .int .i64 k ∧ s = .int .u32 (S.crc 4294967295 (l.take k))) (fun _ i => n - (intOf i).toNat)
  case atStart => exact ⟨0, by omega, rfl, rfl⟩
  case round =>
    obtain ⟨k, hk, rfl, rfl⟩ := hrel
    by_cases hlt : k < n
    · obtain ⟨b, o, x, rfl, hb, hx, hcell⟩ := HR.out.atU hlt
      have hc0 := S.crc_lt (s := 4294967295) (l.take k) (by omega)
      have hx1 := x.toNat_lt
      have hxx := @Nat.xor_lt_two_pow _ _ 32 hc0 (Nat.lt_trans x.toNat_lt (by omega))
      have ex : bits .xor .u32 (S.crc 4294967295 (l.take k) : Int) (x.toNat : Int) = ((S.crc 4294967295 (l.take k) ^^^ x.toNat : Nat) : Int) := u32_xor_nat _ _ hc0 (by omega)
      have ec : S.crc 4294967295 (l.take (k + 1)) = S.Tn 8 (S.crc 4294967295 (l.take k) ^^^ x.toNat) := by rw [take_more hx, S.crc_append]; rfl
      have EC := Lib.hid ec
      have EX := Lib.hid hx
      clear ec hx
      go_wp2
      go_loop [3, 16] (fun s i => ∃ j y : Nat, j ≤ 8 ∧ y < 4294967296 ∧ S.Tn (8 - j) y = S.crc 4294967295 (l.take (k + 1)) ∧ i = .int .i64 j ∧ s = .int .u32 y) (fun _ i => 8 - (intOf i).toNat)
      case atStart => exact ⟨0, _, by omega, hxx, EC.out.symm, rfl, rfl⟩
      case round =>
        obtain ⟨j, y, hj, hy, hT, rfl, rfl⟩ := hrel
        have HT := Lib.hid hT
        clear hT
        by_cases hj8 : j < 8
        · go_wp2_with (go_at_call 43; refine (down_any _ hy _).mono ?_; rintro e w' ⟨rfl, rfl⟩)
          go_round
          case rel =>
            refine ⟨j + 1, S.T y, by omega, S.T_lt hy, ?_, by go_num, rfl⟩
            have := HT.out
            rw [show 8 - j = (8 - (j + 1)) + 1 by omega] at this
            exact this
          case measure => simp [intOf]; omega
        · go_wp2
          go_round
          case rel =>
            refine ⟨k + 1, by omega, by go_num, ?_⟩
            have := HT.out
            rw [show 8 - j = 0 by omega] at this
            rw [← this]; rfl
          case measure => simp [intOf]; omega
    · go_wp2
      go_ret
      have e1 : l.take k = l := List.take_of_length_le (by have := HL.out; omega)
      rw [e1]
      exact ⟨ret_int (sum_not l), rfl⟩

set_option maxHeartbeats 800000 in
set_option maxRecDepth 20000 in
theorem rsum_any (A : Option Addr) (n c B : Nat) (l : List UInt8) (w : World) (h : Rd w B 1 A n (U l)) (hn : n ≤ 70368744177664) :
    Calls Try.prog 37 #[.slice A n c] w fun e w' => e = .returned (.int .u32 (S.sum l)) ∧ w = w' := by
  have hl : l.length = n := by have := h.len1; rwa [U_length] at this
  have HL := Lib.hid hl
  have HR := Lib.hid h
  clear hl h
  go_enter Try.func37, Try.ntmps37
  go_wp2
  go_loop [3, 4] (fun s i => ∃ k : Nat, k ≤ n ∧ i = .int .i64 k ∧ s = .int .u32 (S.crc 4294967295 (l.take k))) (fun _ i => n - (intOf i).toNat)
  case atStart => exact ⟨0, by omega, rfl, rfl⟩
  case round =>
    obtain ⟨k, hk, rfl, rfl⟩ := hrel
    by_cases hlt : k < n
    · obtain ⟨b, o, x, rfl, hb, hx, hcell⟩ := HR.out.atU hlt
      have hc0 := S.crc_lt (s := 4294967295) (l.take k) (by omega)
      have hx1 := x.toNat_lt
      have hxx := @Nat.xor_lt_two_pow _ _ 32 hc0 (Nat.lt_trans x.toNat_lt (by omega))
      have ex : bits .xor .u32 (S.crc 4294967295 (l.take k) : Int) (x.toNat : Int) = ((S.crc 4294967295 (l.take k) ^^^ x.toNat : Nat) : Int) := u32_xor_nat _ _ hc0 (by omega)
      have ec : S.crc 4294967295 (l.take (k + 1)) = S.Tn 8 (S.crc 4294967295 (l.take k) ^^^ x.toNat) := by rw [take_more hx, S.crc_append]; rfl
      have EC := Lib.hid ec
      have EX := Lib.hid hx
      clear ec hx
      go_wp2
      go_loop [3, 5] (fun s i => ∃ j y : Nat, j ≤ 8 ∧ y < 4294967296 ∧ S.Tn (8 - j) y = S.crc 4294967295 (l.take (k + 1)) ∧ i = .int .i64 j ∧ s = .int .u32 y) (fun _ i => 8 - (intOf i).toNat)
      case atStart => exact ⟨0, _, by omega, hxx, EC.out.symm, rfl, rfl⟩
      case round =>
        obtain ⟨j, y, hj, hy, hT, rfl, rfl⟩ := hrel
        have HT := Lib.hid hT
        clear hT
        by_cases hj8 : j < 8
        · rcases Nat.mod_two_eq_zero_or_one y with hy2 | hy2
          · have hi2 : (((y : Int) % 2) == 1) = false := beq_eq_false_iff_ne.2 (by omega)
            have eT : S.T y = y / 2 := by unfold S.T; rw [hy2, if_neg (by omega), Nat.xor_zero]
            have ET := Lib.hid eT
            clear eT hy2
            go_wp2
            go_round
            case rel =>
              refine ⟨j + 1, S.T y, by omega, S.T_lt hy, ?_, by go_num, by rw [ET.out]; go_num⟩
              have := HT.out
              rw [show 8 - j = (8 - (j + 1)) + 1 by omega] at this
              exact this
            case measure => simp [intOf]; omega
          · have hi2 : (((y : Int) % 2) == 1) = true := beq_iff_eq.2 (by omega)
            have eT : (S.T y : Int) = bits .xor .u32 ((y : Int) / 2) 2197175160 := by
              unfold S.T; rw [hy2, if_pos rfl, show ((y : Int) / 2) = ((y / 2 : Nat) : Int) by omega]; exact (u32_xor_nat (y / 2) 2197175160 (by omega) (by omega)).symm
            have ET := Lib.hid eT
            clear eT hy2
            go_wp2
            go_round
            case rel =>
              refine ⟨j + 1, S.T y, by omega, S.T_lt hy, ?_, by go_num, by rw [ET.out]⟩
              have := HT.out
              rw [show 8 - j = (8 - (j + 1)) + 1 by omega] at this
              exact this
            case measure => simp [intOf]; omega
        · go_wp2
          go_round
          case rel =>
            refine ⟨k + 1, by omega, by go_num, ?_⟩
            have := HT.out
            rw [show 8 - j = 0 by omega] at this
            rw [← this]; rfl
          case measure => simp [intOf]; omega
    · go_wp2
      go_ret
      have e1 : l.take k = l := List.take_of_length_le (by have := HL.out; omega)
      rw [e1]
      exact ⟨ret_int (sum_not l), rfl⟩
end Go.Proofs.Ytbnbljkkfgieoaa
