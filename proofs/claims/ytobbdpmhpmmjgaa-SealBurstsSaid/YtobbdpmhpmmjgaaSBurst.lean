/- The walk of SealBursts. -/
import Derived.Test.YtobbdpmhpmmjgaaSLaws
namespace Go.Proofs.Ytobbdpmhpmmjgaa
open Go.RowKit

theorem bit_at {M k : Nat} (h : M < 4294967296) : bits BinOp.and IntKind.u32 ((M : Int) / 2 ^ k) 1 = ((M / 2 ^ k % 2 : Nat) : Int) := by
  have e : ((M : Int) / 2 ^ k) = ((M / 2 ^ k : Nat) : Int) := by simp
  rw [e, ← Nat.and_one_is_mod]
  exact u32_and_nat (M / 2 ^ k) 1 (Nat.lt_of_le_of_lt (Nat.div_le_self _ _) h) (by omega)
theorem burst_next {W k f : Nat} (h : W < 2 ^ k) : 2 ^ f * W ^^^ 2 ^ (f + k) = 2 ^ f * (W + 2 ^ k) := by
  have e1 : W + 2 ^ k = W ^^^ 2 ^ k := by
    have e2 : 2 ^ k * 1 + W = 2 ^ k * 1 ||| W := Nat.two_pow_add_eq_or_of_lt h 1
    rw [Nat.mul_one] at e2
    rw [Nat.add_comm, e2]
    apply Nat.eq_of_testBit_eq
    intro i
    rw [Nat.testBit_or, Nat.testBit_xor, Nat.testBit_two_pow]
    by_cases hi : k = i
    · subst hi
      have : W.testBit k = false := Nat.testBit_lt_two_pow h
      simp [this]
    · simp [hi]
  have := Nat.shiftLeft_xor_distrib (i := f) (a := W) (b := 2 ^ k)
  simp only [Nat.shiftLeft_eq] at this
  rw [e1, Nat.mul_comm, Nat.pow_add, Nat.mul_comm (2 ^ f) (2 ^ k), ← this, Nat.mul_comm]

set_option maxHeartbeats 1600000 in
set_option maxRecDepth 20000 in
theorem law_SealBursts (a0 : Option Addr) (len0 cap0 : Nat) (z0 : List Int) (a1 a2 : Int) (w : World) (w0 : Row .u8 w a0 len0 cap0 z0) (w1 : (Lit.int .u16 a1).wf = true) (w2 : (Lit.int .u32 a2).wf = true) :
    Calls Try.prog 4 #[.slice a0 len0 cap0, .int .u16 a1, .int .u32 a2] w fun e w' => e = .returned (.bool true) ∧ Below w.heap.size w w' := by
  obtain ⟨l, hl, hr⟩ := w0.bytes
  have hc := w0.cap_
  have hb1 := wf_bounds_u16 w1
  have hb2 := wf_bounds_u32 w2
  obtain ⟨N, rfl⟩ := Int.eq_ofNat_of_zero_le hb1.1
  obtain ⟨M, rfl⟩ := Int.eq_ofNat_of_zero_le hb2.1
  have HL := Lib.hid hl
  clear hl w0 w1 w2
  by_cases hn : 2000 < len0
  · go_enter Try.func4, Try.ntmps4
    go_wp2_with (go_at_call 7; refine (alive_any _).mono ?_; rintro e w1 ⟨rfl, hb1⟩)
    go_ret
    exact ⟨rfl, hb1⟩
  · go_enter Try.func4, Try.ntmps4
    go_wp2_with (go_at_call 7; refine (alive_any _).mono ?_; rintro e w1 ⟨rfl, hb1⟩)
    have hr1 := hr.belowH hb1
    have hl : l.length = len0 := HL.out
    refine (seal_any a0 len0 cap0 _ l _ hr1 (Nat.le_refl _) (by omega)).mono ?_
    rintro e w2 ⟨A2, c2, rfl, hown2, hb2⟩
    have hc2 := own_cap hown2
    go_wp2_with fail
    refine (open_any A2 _ c2 _ (S.sealed l) _ (Rd.of_own hown2) (Nat.le_refl _) hc2.1 (by omega)).mono ?_
    rintro e w3 ⟨⟨A3, c3, rfl, hr3, hc3⟩, hb3⟩
    rw [innerOf_sealed] at hr3 hc3 ⊢
    rw [codeOf_sealed, hl]
    rw [hl] at hr3 hc3
    clear hl
    have hr02 := hr1.belowH hb2
    go_wp2_with fail
    refine (same_any A3 a0 len0 len0 c3 cap0 _ _ l l _ hr3 (hr02.belowH hb3)).mono ?_
    rintro e w' ⟨rfl, rfl⟩
    rw [decide_eq_true rfl]
    go_wp2
    obtain ⟨f, hf, hfn⟩ : ∃ f : Nat, (N : Int) % (8 * ((len0 : Int) + 4)) = (f : Int) ∧ f < 8 * (len0 + 4) := ⟨N % (8 * (len0 + 4)), by rw [show (8 * ((len0 : Int) + 4)) = ((8 * (len0 + 4) : Nat) : Int) by omega]; rfl, Nat.mod_lt _ (by omega)⟩
    rw [hf]
    clear hf
    have s1 := hb1.size
    have s2 := hb2.size
    have s3 := hb3.size
    have hb4 : Below w.heap.size w w3 := (hb1.trans (hb2.mono s1)).trans (hb3.mono (by omega))
    have hrc := (Rd.of_own hown2).belowH hb3
    have hlc : (S.sealed l).length = len0 + 4 := by rw [S.length_sealed, HL.out]
    have HC := Lib.hid hlc
    clear hlc hr3 hown2 hr1 hr02 hb1 hb2 hb3 s1 s2 s3 hr
    go_loopw [7, 12, 13] (fun c t i wr => ∃ (k W T : Nat) (A : Option Addr) (c' : Nat) (C : List UInt8), k ≤ 32 ∧ i = .int .i64 k ∧ t = .int .i64 T ∧ T ≤ k ∧ (T = 0 ↔ W = 0) ∧ W < 2 ^ k ∧ c = .slice A (len0 + 4) c' ∧ len0 + 4 ≤ c' ∧
      C.length = len0 + 4 ∧ S.num C = S.num (S.sealed l) ^^^ (2 ^ f * W) ∧ Rd wr wr.heap.size 1 A (len0 + 4) (U C) ∧ Below w.heap.size w wr) (fun _ _ i _ => 32 - (intOf i).toNat)
    case atStart => exact ⟨0, 0, 0, A2, c2, S.sealed l, by omega, rfl, rfl, by omega, by simp, by simp, rfl, hc2.1, HC.out, by simp, hrc, hb4⟩
    case round =>
      obtain ⟨k, W, T, A4, c4, C, hk, rfl, rfl, hT, hTW, hW, rfl, hc4, hCl, hCn, hrC, hbC⟩ := hrel
      clear hrc hb4
      by_cases hlt : k < 32
      · have hk0 : (0 : Int) ≤ (k : Int) := by omega
        have HT := Lib.hid hTW
        have HW := Lib.hid hW
        have HN := Lib.hid hCn
        have HCL := Lib.hid hCl
        clear hTW hW hCn hCl
        have hM : M < 4294967296 := by omega
        have hbits := bit_at (k := k) hM
        rcases Nat.mod_two_eq_zero_or_one (M / 2 ^ k) with hbit | hbit
        · rw [hbit] at hbits
          have hb0 : bits BinOp.and IntKind.u32 ((M : Int) / 2 ^ k) 1 = 0 := hbits
          clear hbits hbit
          go_wp2
          go_roundw
          case rel => exact ⟨k + 1, W, T, A4, c4, C, by omega, by go_num, rfl, by omega, HT.out, Nat.lt_trans HW.out (Nat.pow_lt_pow_right (by omega) (by omega)), rfl, hc4, HCL.out, HN.out, hrC, hbC⟩
          case measure => simp [intOf]; omega
        · rw [hbit] at hbits
          have hb0 : bits BinOp.and IntKind.u32 ((M : Int) / 2 ^ k) 1 = 1 := hbits
          clear hbits hbit
          by_cases hin : f + k < 8 * (len0 + 4)
          · have hin2 : (f : Int) + (k : Int) < 8 * ((len0 : Int) + 4) := by omega
            have hpos : (0 : Int) ≤ (f : Int) + (k : Int) := by omega
            go_wp2_with (go_at_call 15; refine (turn_any A4 (len0 + 4) c4 _ ((f : Int) + (k : Int)) C _ hrC (Nat.le_refl _) (by omega) (by omega) (by omega)).mono ?_; rintro e w5 ⟨A5, c5, rfl, hown5, hb5⟩)
            have hc5 := own_cap hown5
            go_roundw
            case rel =>
              have hx : S.num (S.turnI C ((f : Int) + (k : Int))) = S.num (S.sealed l) ^^^ (2 ^ f * (W + 2 ^ k)) := by
                rw [turnI_in hpos, show ((f : Int) + (k : Int)).toNat = f + k by omega, S.num_turn _ _ (by rw [HCL.out]; omega), HN.out, Nat.xor_assoc, burst_next HW.out]
              have hw := HW.out
              have hp : 0 < 2 ^ k := Nat.two_pow_pos k
              refine ⟨k + 1, W + 2 ^ k, T + 1, A5, c5, S.turnI C ((f : Int) + (k : Int)), by omega, by go_num, by go_num, by omega, ⟨fun h => by omega, fun h => by omega⟩, by rw [Nat.pow_succ]; omega, rfl, hc5.1, ?_, hx, Rd.of_own hown5, hbC.trans (hb5.mono hbC.size)⟩
              rw [S.length_turnI]; exact HCL.out
            case measure => simp [intOf]; omega
          · have hin2 : ¬ ((f : Int) + (k : Int) < 8 * ((len0 : Int) + 4)) := by omega
            go_wp2
            go_roundw
            case rel => exact ⟨k + 1, W, T, A4, c4, C, by omega, by go_num, rfl, by omega, HT.out, Nat.lt_trans HW.out (Nat.pow_lt_pow_right (by omega) (by omega)), rfl, hc4, HCL.out, HN.out, hrC, hbC⟩
            case measure => simp [intOf]; omega
      · have hk2 : k = 32 := by omega
        subst hk2
        have hokb := S.ok_burst (S.sealed l) C (by rw [hCl, HC.out]) (S.ok_sealed l) (f := f) (w := W) (by rw [HC.out]; omega) hW hCn
        have hcode : codeOf C = if W = 0 then 0 else 5 := by
          unfold codeOf
          rw [if_neg (by omega)]
          by_cases hw0 : W = 0
          · rw [if_pos (hokb.2 hw0), if_pos hw0]
          · rw [if_neg (fun h => hw0 (hokb.1 h)), if_neg hw0]
        have HCo := Lib.hid hcode
        have HT := Lib.hid hTW
        clear hcode hTW hokb hCn hCl hW
        go_wp2_with (go_at_call 8; refine (open_any A4 (len0 + 4) c4 _ C _ hrC (Nat.le_refl _) hc4 (by omega)).mono ?_; rintro e w5 ⟨⟨A5, c5, rfl, hr5, hc5⟩, hb5⟩)
        go_ret
        refine ⟨ret_bool ?_, hbC.trans (hb5.mono hbC.size)⟩
        rw [HCo.out]
        by_cases hw0 : W = 0
        · have : T = 0 := HT.out.2 hw0
          simp [hw0, this]
        · have : T ≠ 0 := fun h => hw0 (HT.out.1 h)
          simp [hw0, this]
end Go.Proofs.Ytobbdpmhpmmjgaa
