/- The document's product of two halves, bit by bit. -/
import Derived.Test.YtlnhdakafidhiaaRRef
namespace Go.Proofs.Ytlnhdakafidhiaa
set_option linter.unusedVariables false
set_option linter.unusedSimpArgs false
open Go.RowKit

/-- a half-way product: what is summed up, and the next step -/
def MulAt (p b : Nat) (sh sl th tl : Nat) : Prop := sh * 18446744073709551616 + sl + (th * 18446744073709551616 + tl) * b = p ∧ sl < 18446744073709551616 ∧ sh < 18446744073709551616 ∧ tl < 18446744073709551616 ∧ th < 18446744073709551616

/-- behind the bit: what is summed up with the half of the other factor, the step not yet doubled -/
def MulHalf (p b : Nat) (sh sl th tl : Nat) : Prop := sh * 18446744073709551616 + sl + (th * 18446744073709551616 + tl + (th * 18446744073709551616 + tl)) * b = p ∧ sl < 18446744073709551616 ∧ sh < 18446744073709551616
theorem mul_even {p B sh sl th tl : Nat} (h : MulAt p B sh sl th tl) (hm : B % 2 = 0) : MulHalf p (B / 2) sh sl th tl := by
  obtain ⟨k1, k2, k3, k4, k5⟩ := h
  refine ⟨?_, k2, k3⟩
  have e : B = B / 2 + B / 2 := by omega
  rw [e, Nat.mul_add] at k1
  rw [Nat.add_mul]
  exact k1
theorem odd_core {S T B p S' : Nat} (k : S + T * B = p) (hm : B % 2 = 1) (e : S' = S + T) : S' + (T + T) * (B / 2) = p := by
  have eB : B = B / 2 + B / 2 + 1 := by omega
  rw [eB, Nat.mul_add, Nat.mul_add, Nat.mul_one] at k
  rw [Nat.add_mul, e]
  generalize T * (B / 2) = M at *
  omega
theorem mul_odd {p B sh sl th tl sh' sl' : Nat} (h : MulAt p B sh sl th tl) (hm : B % 2 = 1) (e : sh' * 18446744073709551616 + sl' = sh * 18446744073709551616 + sl + (th * 18446744073709551616 + tl)) (e2 : sl' < 18446744073709551616) (e3 : sh' < 18446744073709551616) : MulHalf p (B / 2) sh' sl' th tl :=
  ⟨odd_core h.1 hm e, e2, e3⟩
theorem at_le {S T B p : Nat} (h : S + T * B = p) (hB : 0 < B) : S + T ≤ p := by
  have := Nat.le_mul_of_pos_right T hB
  omega
theorem at_end {S T p : Nat} (h : S + T * 0 = p) : S = p := by rw [Nat.mul_zero] at h; exact h
theorem MulHalf.next {p b sh sl th tl th' tl' : Nat} (h : MulHalf p b sh sl th tl) (e : th' * 18446744073709551616 + tl' = th * 18446744073709551616 + tl + (th * 18446744073709551616 + tl)) (e2 : tl' < 18446744073709551616) (e3 : th' < 18446744073709551616) : MulAt p b sh sl th' tl' := by
  obtain ⟨k1, k2, k3⟩ := h
  exact ⟨by rw [e]; exact k1, k2, k3, e2, e3⟩

set_option maxHeartbeats 2000000 in
set_option maxRecDepth 20000 in
theorem rmul_any (a b : Nat) (ha : a < 9223372036854775808) (hb : b < 9223372036854775808) (w : World) :
    Calls Try.prog 29 #[.int .i64 a, .int .i64 b] w (WideR (a * b) w) := by
  have hp : a * b < 85070591730234615865843651857942052864 := by
    rcases Nat.eq_zero_or_pos b with rfl | h
    · omega
    · exact Nat.lt_of_lt_of_le (Nat.mul_lt_mul_of_pos_right ha h) (Nat.le_trans (Nat.mul_le_mul_left _ (Nat.le_of_lt hb)) (by omega))
  obtain ⟨p, ep⟩ : ∃ p, a * b = p := ⟨_, rfl⟩
  rw [ep] at hp ⊢
  have hk0 : MulAt p b 0 0 0 a := ⟨by rw [← ep]; simp, by omega, by omega, by omega, by omega⟩
  clear ep
  go_enter Try.func29, Try.ntmps29
  go_wp2
  go_loopw [1] (fun i wr => ∃ B sh sl th tl : Nat, i = .int .i64 B ∧ B < 9223372036854775808 ∧ MulAt p B sh sl th tl ∧ Box wr w.heap.size 54 #[.int .u64 0, .int .u64 0] ∧
      Box wr (w.heap.size + 1) 54 #[.int .u64 sh, .int .u64 sl] ∧ Box wr (w.heap.size + 1 + 1) 54 #[.int .u64 th, .int .u64 tl] ∧ Below w.heap.size w wr) (fun i _ => (intOf i).toNat)
  case atStart =>
    refine ⟨b, 0, 0, 0, a, rfl, hb, hk0, ?_, ?_, ?_, ?_⟩
    · exact ((Box.new w _ _).alloc _).alloc _
    · have := (Box.new (w.alloc (.cells #[.int .u64 0, .int .u64 0] 54)) #[.int .u64 0, .int .u64 0] 54).alloc (.cells #[.int .u64 0, .int .u64 a] 54)
      rwa [show (w.alloc (.cells #[.int .u64 0, .int .u64 0] 54)).heap.size = w.heap.size + 1 by simp] at this
    · have := Box.new ((w.alloc (.cells #[.int .u64 0, .int .u64 0] 54)).alloc (.cells #[.int .u64 0, .int .u64 0] 54)) #[.int .u64 0, .int .u64 a] 54
      rwa [show ((w.alloc (.cells #[.int .u64 0, .int .u64 0] 54)).alloc (.cells #[.int .u64 0, .int .u64 0] 54)).heap.size = w.heap.size + 1 + 1 by simp] at this
    · exact (((Below.refl _ _).alloc (Nat.le_refl _) _).alloc (by simp) _).alloc (by simp; omega) _
  case round =>
    obtain ⟨B, sh, sl, th, tl, rfl, hB, hk, X0, X1, X2, hbel⟩ := hrel
    have a0 := X0.at 0 rfl
    have a1 := X0.at 1 rfl
    have ac := X0.cold
    have y0 := X1.at 0 rfl
    have y1 := X1.at 1 rfl
    have yc := X1.cold
    have z0 := X2.at 0 rfl
    have z1 := X2.at 1 rfl
    have zc := X2.cold
    obtain ⟨k1, k2, k3, k4, k5⟩ := hk
    by_cases hB0 : 0 < B
    · have hsum := at_le k1 hB0
      have hstep : th * 18446744073709551616 + tl ≤ p := Nat.le_trans (Nat.le_add_left _ _) hsum
      have hq : (((B / 2 : Nat) : Int)) = (B : Int) / 2 := by omega
      have HQ := Lib.hid hq
      clear hq
      rcases Nat.mod_two_eq_zero_or_one B with hm | hm
      · have hi2 : (((B : Int) % 2) == 1) = false := beq_eq_false_iff_ne.2 (by omega)
        have hx : MulHalf p (B / 2) sh sl th tl := mul_even ⟨k1, k2, k3, k4, k5⟩ hm
        clear hm k1
        go_wp2_with fail
        refine (radd_any th tl th tl k4 k4 k5 k5 (by omega) _).mono ?_
        rintro e w4 ⟨⟨g, m, rfl, f1, f2, f3⟩, hb4⟩
        have hk := hx.next f1 f2 f3
        replace X0 := X0.belowH hb4
        replace X1 := X1.belowH hb4
        replace X2 := X2.belowH hb4
        replace hbel := hbel.trans (hb4.mono hbel.size)
        (try clear y0 y1 yc z0 z1 zc)
        clear hb4 f1 hx
        have z0 := X2.at 0 rfl
        have z1 := X2.at 1 rfl
        have zc := X2.cold
        go_wp2
        replace X2 := (X2.set 0 (.int .u64 g)).set 1 (.int .u64 m)
        replace X0 := (X0.other (show w.heap.size ≠ w.heap.size + 1 + 1 by omega) (o := 0) (.int .u64 g)).other (show w.heap.size ≠ w.heap.size + 1 + 1 by omega) (o := 1) (.int .u64 m)
        replace X1 := (X1.other (show w.heap.size + 1 ≠ w.heap.size + 1 + 1 by omega) (o := 0) (.int .u64 g)).other (show w.heap.size + 1 ≠ w.heap.size + 1 + 1 by omega) (o := 1) (.int .u64 m)
        replace hbel := below_set (o := 1) (below_set (o := 0) hbel (show w.heap.size ≤ w.heap.size + 1 + 1 by omega) (.int .u64 g)) (show w.heap.size ≤ w.heap.size + 1 + 1 by omega) (.int .u64 m)
        go_roundw
        case rel => exact ⟨B / 2, sh, sl, g, m, by rw [HQ.out], by omega, hk, X0, X1, X2, hbel⟩
        case measure => simp [intOf]; omega
      · have hi2 : (((B : Int) % 2) == 1) = true := beq_iff_eq.2 (by omega)
        have hx := fun h l e e2 e3 => mul_odd (sh' := h) (sl' := l) ⟨k1, k2, k3, k4, k5⟩ hm e e2 e3
        have HX := Lib.hid hx
        clear hm k1 hx
        go_wp2_with fail
        refine (radd_any sh sl th tl k2 k4 k3 k5 (by omega) _).mono ?_
        rintro e w2 ⟨⟨h, l, rfl, e1, e2, e3⟩, hb2⟩
        have hx := HX.out h l e1 e2 e3
        replace X0 := X0.belowH hb2
        replace X1 := X1.belowH hb2
        replace X2 := X2.belowH hb2
        replace hbel := hbel.trans (hb2.mono hbel.size)
        clear hb2 e1 hsum HX y0 y1 yc z0 z1 zc
        have y0 := X1.at 0 rfl
        have y1 := X1.at 1 rfl
        have yc := X1.cold
        have z0 := X2.at 0 rfl
        have z1 := X2.at 1 rfl
        have zc := X2.cold
        have hlt := X1.lt
        go_wp2_with fail
        replace X1 := (X1.set 0 (.int .u64 h)).set 1 (.int .u64 l)
        replace X0 := (X0.other (show w.heap.size ≠ w.heap.size + 1 by omega) (o := 0) (.int .u64 h)).other (show w.heap.size ≠ w.heap.size + 1 by omega) (o := 1) (.int .u64 l)
        replace X2 := (X2.other (show w.heap.size + 1 + 1 ≠ w.heap.size + 1 by omega) (o := 0) (.int .u64 h)).other (show w.heap.size + 1 + 1 ≠ w.heap.size + 1 by omega) (o := 1) (.int .u64 l)
        replace hbel := below_set (o := 1) (below_set (o := 0) hbel (show w.heap.size ≤ w.heap.size + 1 by omega) (.int .u64 h)) (show w.heap.size ≤ w.heap.size + 1 by omega) (.int .u64 l)
        clear y0 y1 yc z0 z1 zc hlt
        generalize (w2.setCell ⟨w.heap.size + 1, 0, none⟩ (.int .u64 h)).setCell ⟨w.heap.size + 1, 1, none⟩ (.int .u64 l) = w3 at *
        simp only [List.setIfInBounds_toArray, List.set_cons_zero, List.set_cons_succ] at X1
        refine (radd_any th tl th tl k4 k4 k5 k5 (by omega) _).mono ?_
        rintro e w4 ⟨⟨g, m, rfl, f1, f2, f3⟩, hb4⟩
        have hk := hx.next f1 f2 f3
        replace X0 := X0.belowH hb4
        replace X1 := X1.belowH hb4
        replace X2 := X2.belowH hb4
        replace hbel := hbel.trans (hb4.mono hbel.size)
        (try clear y0 y1 yc z0 z1 zc)
        clear hb4 f1 hx
        have z0 := X2.at 0 rfl
        have z1 := X2.at 1 rfl
        have zc := X2.cold
        go_wp2
        replace X2 := (X2.set 0 (.int .u64 g)).set 1 (.int .u64 m)
        replace X0 := (X0.other (show w.heap.size ≠ w.heap.size + 1 + 1 by omega) (o := 0) (.int .u64 g)).other (show w.heap.size ≠ w.heap.size + 1 + 1 by omega) (o := 1) (.int .u64 m)
        replace X1 := (X1.other (show w.heap.size + 1 ≠ w.heap.size + 1 + 1 by omega) (o := 0) (.int .u64 g)).other (show w.heap.size + 1 ≠ w.heap.size + 1 + 1 by omega) (o := 1) (.int .u64 m)
        replace hbel := below_set (o := 1) (below_set (o := 0) hbel (show w.heap.size ≤ w.heap.size + 1 + 1 by omega) (.int .u64 g)) (show w.heap.size ≤ w.heap.size + 1 + 1 by omega) (.int .u64 m)
        go_roundw
        case rel => exact ⟨B / 2, h, l, g, m, by rw [HQ.out], by omega, hk, X0, X1, X2, hbel⟩
        case measure => simp [intOf]; omega
    · have e : B = 0 := by omega
      subst e
      have e := at_end k1
      have HE := Lib.hid e
      have hlt := X0.lt
      clear k1 e
      go_wp2
      have Z0 := (X0.set 0 (.int .u64 sh)).set 1 (.int .u64 sl)
      have q0 := Z0.at 0 rfl
      have q1 := Z0.at 1 rfl
      refine bodyPost_ret (v := .agg #[.int .u64 sh, .int .u64 sl]) (by simp [results, Try.results29, go_sem, q0, q1]; try rfl) rfl ⟨⟨sh, sl, rfl, HE.out, k2, k3⟩, below_set (below_set hbel (Nat.le_refl _) _) (Nat.le_refl _) _⟩
end Go.Proofs.Ytlnhdakafidhiaa
