/- ZLaw4 (merged). -/
import Derived.Test.YtbioblknhfmelaaJZAlive
namespace Go.Proofs.Ytbioblknhfmelaa
set_option linter.unusedVariables false
set_option linter.unusedSimpArgs false
open Go.RowKit
set_option maxHeartbeats 4000000 in
set_option maxRecDepth 20000 in
theorem law_PacketNames (a0 : Option Addr) (len0 cap0 : Nat) (z0 : List Int) (a1 : ByteArray) (W : World) (w0 : Row .u8 W a0 len0 cap0 z0) (w1 : a1.size ≤ maxLen) (w9 : a1.size ≤ 1048576) :
    Calls Try.prog 6 #[.slice a0 len0 cap0, .string a1] W fun e w' => e = .returned (.bool true) ∧ Below W.heap.size W w' := by
  obtain ⟨a, hal, R⟩ := w0.bytes
  obtain ⟨s, rfl⟩ : ∃ v : List UInt8, a1 = strB v := ⟨a1.data.toList, by unfold strB; rw [Array.toArray_toList]⟩
  rw [strB_sz] at w9
  have HAL := Lib.hid hal
  have HS : Hid (s.length ≤ 1100000) := Lib.hid (by omega)
  obtain ⟨z, hz⟩ : ∃ z, Lab.right s = z := ⟨_, rfl⟩
  have HZ := Lib.hid hz
  clear w9 w1 hal hz w0
  have b := Below.refl W.heap.size W
  go_enter Try.func6, Try.ntmps6
  go_wp2_with fail
  refine (palive_any W).mono ?_
  rintro e v1 ⟨rfl, hb⟩
  replace R := R.belowH hb
  replace b := b.trans (hb.mono b.size)
  clear hb
  by_cases hl : 300 < len0
  · have d1 : decide ((300 : Int) < (len0 : Int)) = true := decide_eq_true (by omega)
    have d2 : decide (300 < len0) = true := decide_eq_true hl
    go_wp2
    go_ret
    exact ⟨rfl, b⟩
  have d1 : decide ((300 : Int) < (len0 : Int)) = false := decide_eq_false (by omega)
  have d2 : decide (300 < len0) = false := decide_eq_false hl
  go_wp2_with fail
  refine (rlright_big HZ.out HS.out v1).mono ?_
  rintro e v2 ⟨rfl, hb⟩
  replace R := R.belowH hb
  replace b := b.trans (hb.mono b.size)
  clear hb
  cases z with
  | false =>
    go_wp2
    go_ret
    exact ⟨rfl, b⟩
  | true =>
    have NL := Lib.hid (Pk.names_law (a := a) (s := s) (by rw [HAL.out]; omega) HZ.out)
    obtain ⟨n, hn⟩ : ∃ n, s.length = n := ⟨_, rfl⟩
    have hn1 : n ≤ 255 := by rw [← hn]; exact Pk.name_le HZ.out
    have HN := Lib.hid hn
    have G0 : Wr (v2.alloc (.cells #[] 5)) v2.heap.size (some ⟨v2.heap.size, 0, none⟩) 0 0 [] := Wr.lit v2 [] (by simp)
    have b0 := (Below.refl v2.heap.size v2).alloc (Nat.le_refl _) (.cells #[] 5)
    have hsz : (v2.alloc (.cells #[] 5)).heap.size = v2.heap.size + 1 := by simp
    have R0 := R.belowH b0
    rw [HAL.out, hn] at NL
    obtain ⟨y1, hy1⟩ : ∃ y, UInt8.ofNat (192 + len0 / 256) = y := ⟨_, rfl⟩
    obtain ⟨y2, hy2⟩ : ∃ y, UInt8.ofNat (len0 % 256) = y := ⟨_, rfl⟩
    rw [hy1, hy2] at NL
    have e1 : ((y1.toNat : Nat) : Int) = 192 + (len0 : Int) / 256 := by rw [← hy1, UInt8.toNat_ofNat']; omega
    have e2 : ((y2.toNat : Nat) : Int) = (len0 : Int) % 256 := by rw [← hy2, UInt8.toNat_ofNat']; omega
    have E1 := Lib.hid e1
    have E2 := Lib.hid e2
    have hl2 : len0 ≤ 300 := by omega
    have HU : Hid (U [y1, y2] = [.int .u8 (192 + (len0 : Int) / 256), .int .u8 ((len0 : Int) % 256)]) := Lib.hid (by show [Value.int .u8 (y1.toNat : Int), .int .u8 (y2.toNat : Int)] = _; rw [e1, e2])
    clear e1 e2 hy1 hy2 hn R hl d1 d2
    go_wp2_with (first
      | (at_builtin; refine wr_strN_law rfl (.tmp 25) (.tmp 26) rfl rfl hA.1 (by omega) HN.out rfl (by omega) ?_; rintro A2 c2 u2 hB; have sB := hB.2.1.size)
      | (at_builtin; refine wrA_law rfl (.tmp 30) (.tmp 40) rfl rfl (hB.alloc _).1 (by simp; omega) rfl (news := [y1, y2]) (by rw [HU.out]; exact Rd.lit u2 _ _ 1 2 rfl) (by omega) ?_; rintro A3 c3 u3 hC; have sC := hC.2.1.size)
      | (at_builtin; refine wrA_law rfl (.tmp 23) (.tmp 24) rfl rfl G0 (by omega) rfl R0 (by omega) ?_; rintro A1 c1 u1 hA; rw [Nat.zero_add, List.nil_append] at hA; have sA := hA.2.1.size))
    have R3 := hC.1.rd
    have HCC := Lib.hid (And.intro hC.1.2.1 hC.1.2.2.1)
    have b3 : Below v2.heap.size v2 u3 := by
      have q1 := b0.trans ((hA.below G0.base (Nat.le_refl _) (by omega)).mono (Nat.le_refl _))
      have q2 := q1.trans ((hB.below hA.1.base (Nat.le_refl _) (by omega)).mono (Nat.le_refl _))
      have q3 := q2.alloc (by omega) (.cells #[.int .u8 (192 + (len0 : Int) / 256), .int .u8 ((len0 : Int) % 256)] 5)
      exact q3.trans ((hC.below hB.1.base (Nat.le_refl _) (by simp; omega)).mono (Nat.le_refl _))
    replace b := b.trans (b3.mono b.size)
    clear hA hB hC b3 G0 b0 hsz R0 sA sB sC
    refine (pname_at NL.out.1 A3 _ c3 u3 R3 (by omega) HCC.out).mono ?_
    rintro e v4 ⟨rfl, hb⟩
    replace R3 := R3.belowH hb
    replace b := b.trans (hb.mono b.size)
    clear hb
    go_wp2_with fail
    refine (pname_at NL.out.2 A3 _ c3 v4 R3 (by omega) HCC.out).mono ?_
    rintro e v5 ⟨rfl, hb⟩
    replace b := b.trans (hb.mono b.size)
    clear hb R3
    go_wp2
    go_ret
    exact ⟨rfl, b⟩
end Go.Proofs.Ytbioblknhfmelaa

