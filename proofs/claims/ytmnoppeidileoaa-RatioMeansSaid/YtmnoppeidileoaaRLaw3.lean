/- The walk of ratio's law on means. -/
import Derived.Test.YtmnoppeidileoaaRAlive
namespace Go.Proofs.Ytmnoppeidileoaa
set_option linter.unusedVariables false
set_option linter.unusedSimpArgs false
open Go.RowKit

def Within (l : List Int) (lo hi : Int) : Prop := (∀ x ∈ l, lo ≤ R.pin x ∧ R.pin x ≤ hi) ∧ 0 ≤ lo ∧ lo ≤ 1125899906842624 ∧ 0 ≤ hi ∧ hi ≤ 1125899906842624
theorem Within.more {l : List Int} {lo hi x p : Int} (h : Within l lo hi) (hp : R.pin x = p) : Within (l ++ [x]) (min lo p) (max hi p) := by
  obtain ⟨h1, h2, h3, h4, h5⟩ := h
  have hb := R.pin_bounds x
  rw [hp] at hb
  refine ⟨fun y hy => ?_, by omega, by omega, by omega, by omega⟩
  rcases List.mem_append.1 hy with hy | hy
  · have := h1 y hy
    omega
  · obtain rfl : y = x := by simpa using hy
    rw [hp]
    omega

set_option maxHeartbeats 4000000 in
set_option maxRecDepth 20000 in
theorem law_RatioMeans (a0 : Option Addr) (len0 cap0 : Nat) (z0 : List Int) (W : World) (w0 : Row .i64 W a0 len0 cap0 z0) :
    Calls Try.prog 5 #[.slice a0 len0 cap0] W fun e w' => e = .returned (.bool true) ∧ Below W.heap.size W w' := by
  obtain ⟨l, hl, RW⟩ := w0.ints
  have hc := w0.cap_
  have HL := Lib.hid hl
  clear hl w0
  by_cases hn : 1000 < len0
  · have hne : ((len0 : Int) == 0) = false := beq_eq_false_iff_ne.2 (by omega)
    go_enter Try.func5, Try.ntmps5
    go_wp2_with fail
    refine (ralive_any _).mono ?_
    rintro e w3 ⟨rfl, b⟩
    go_wp2
    go_ret
    exact ⟨rfl, b⟩
  by_cases h0 : len0 = 0
  · subst h0
    have hm := mean_zero HL.out
    have HM := Lib.hid hm
    clear hm
    go_enter Try.func5, Try.ntmps5
    go_wp2_with fail
    refine (ralive_any _).mono ?_
    rintro e w3 ⟨rfl, b⟩
    go_wp2_with fail
    refine (mean_b _ _ _ _ l _ (RW.below b) (by omega) HM.out).mono ?_
    rintro e w4 ⟨rfl, hb⟩
    replace b := b.trans (hb.mono b.size)
    clear hb
    go_wp2
    go_ret
    exact ⟨rfl, b⟩
  · have hne : ((len0 : Int) == 0) = false := beq_eq_false_iff_ne.2 (by omega)
    go_enter Try.func5, Try.ntmps5
    go_wp2_with fail
    refine (ralive_any _).mono ?_
    rintro e w3 ⟨rfl, b⟩
    replace RW := RW.below b
    have HR := Lib.hid RW
    clear RW
    go_wp2
    go_loop [3, 4, 5] (fun lo hi i => ∃ (k : Nat) (x y : Int), k ≤ len0 ∧ lo = .int .i64 x ∧ hi = .int .i64 y ∧ i = .int .i64 k ∧ Within (l.take k) x y) (fun _ _ i => len0 - (intOf i).toNat)
    case atStart => exact ⟨0, _, _, by omega, rfl, rfl, rfl, by simp, by omega, by omega, by omega, by omega⟩
    case round =>
      obtain ⟨k, x, y, hk, rfl, rfl, rfl, hwi⟩ := hrel
      by_cases hlt : k < len0
      · obtain ⟨bk, o, z, rfl, hb, hz, hcell⟩ := HR.out.atI hlt
        obtain ⟨p, hp⟩ : ∃ p, R.pin z = p := ⟨_, rfl⟩
        have hc2 : min (max z 0) 1125899906842624 = p := hp
        have hw2 := hwi.more hp
        rw [← take_more hz] at hw2
        have HW2 := Lib.hid hw2
        have hk0 : (0 : Int) ≤ (k : Int) := by omega
        clear hwi hp hz hw2
        go_wp2_with fail
        go_round
        case rel => exact ⟨k + 1, _, _, by omega, rfl, rfl, by go_num, HW2.out⟩
        case measure => simp [intOf]; omega
      · have e : k = len0 := by omega
        subst e
        rw [List.take_of_length_le (by have := HL.out; omega)] at hwi
        obtain ⟨m, hm⟩ : ∃ m, R.mean l = m := ⟨_, rfl⟩
        have hl0 : l.length ≠ 0 := by have := HL.out; omega
        have m1 : x ≤ m := by rw [← hm]; exact R.mean_low hl0 fun z hz => (hwi.1 z hz).1
        have m2 : m ≤ y := by rw [← hm]; exact R.mean_high hl0 fun z hz => (hwi.1 z hz).2
        have hcl := R.clamp_in m1 m2
        have HM := Lib.hid hm
        have HC := Lib.hid hcl
        clear hwi hm hcl hl0
        go_wp2_with fail
        refine (mean_b _ _ _ _ l _ HR.out (by omega) HM.out).mono ?_
        rintro e w4 ⟨rfl, hb⟩
        replace b := b.trans (hb.mono b.size)
        clear hb
        go_wp2_with fail
        refine (clamp_any _ _ _ _).mono ?_
        rw [HC.out]
        rintro e w' ⟨rfl, rfl⟩
        go_wp2
        go_ret
        exact ⟨rfl, b⟩
end Go.Proofs.Ytmnoppeidileoaa
