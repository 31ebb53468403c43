/- Plain mathematics of levels: how strange a silence is, how long one is let (no program). -/
import Derived.Test.YtlnhdakafidhiaaNMath2
namespace Go.Proofs.Ytlnhdakafidhiaa
set_option linter.unusedVariables false
set_option linter.unusedSimpArgs false
namespace Ph
def lvl (x : Wi) (now boot : Int) : Int × Int := if ¬ N.may x now then (0, 1) else if x.last < 0 then (0, 0) else ((now - x.last) * 434 / N.mean x boot, 0)
def susp (x : Wi) (now boot th : Int) : Bool := decide ((lvl x now boot).2 = 0 ∧ th < (lvl x now boot).1)
/-- the least number of seconds whose 434 times is w, or more -/
def cnt (w : Int) : Int := (w + 433) / 434
def bad (th mean : Int) : Prop := th < 0 ∨ 1099511627776 < th ∨ mean < 1 ∨ 1099511627776 < mean
instance (th mean : Int) : Decidable (bad th mean) := by unfold bad; infer_instance
def bound (th mean : Int) : Int := if bad th mean then 0 else min (cnt ((th + 1) * mean)) 4611686018427387904
def first (x : Wi) (boot th : Int) : Int × Int :=
  if ¬ N.right x then (0, 1) else if x.last < 0 then (0, 7) else if th < 0 ∨ 1099511627776 < th then (0, 1) else if 1099511627776 < N.mean x boot then (0, 8) else
  if 1099511627776 - x.last < bound th (N.mean x boot) then (0, 8) else (x.last + bound th (N.mean x boot), 0)

theorem mean_pos (x : Wi) (boot : Int) : 1 ≤ N.mean x boot := by unfold N.mean; split <;> omega
theorem rmean_le (l : List Int) : R.mean l ≤ 1125899906842624 := by
  by_cases h : l.length = 0
  · unfold R.mean; rw [if_pos h]; omega
  · exact R.mean_high h fun x _ => (R.pin_bounds x).2
theorem mean_le (x : Wi) (boot : Int) : N.mean x boot ≤ max boot 1125899906842624 := by
  have := rmean_le x.gaps
  unfold N.mean; split <;> omega
theorem lvl_no {x : Wi} {now boot : Int} (h : ¬ N.may x now) : lvl x now boot = (0, 1) := by unfold lvl; rw [if_pos h]
theorem lvl_none {x : Wi} {now boot : Int} (h : N.may x now) (hl : x.last < 0) : lvl x now boot = (0, 0) := by unfold lvl; rw [if_neg (by simpa using h), if_pos hl]
theorem lvl_is {x : Wi} {now boot : Int} (h : N.may x now) (hl : ¬ x.last < 0) : lvl x now boot = ((now - x.last) * 434 / N.mean x boot, 0) := by unfold lvl; rw [if_neg (by simpa using h), if_neg hl]
theorem div_small {d m : Int} (h0 : 0 ≤ d) (h1 : d ≤ 2199023255552) (hm : 1 ≤ m) : 0 ≤ d * 434 / m ∧ d * 434 / m ≤ 954376092909568 := by
  have h2 := Int.ediv_nonneg (show 0 ≤ d * 434 by omega) (show 0 ≤ m by omega)
  have h3 : d * 434 / m ≤ d * 434 := Int.ediv_le_self _ (by omega)
  omega
theorem lvl_muldiv {x : Wi} {now : Int} (boot : Int) (h : N.may x now) (hl : ¬ x.last < 0) : R.mulDiv (now - x.last) 434 (N.mean x boot) = ((now - x.last) * 434 / N.mean x boot, 0) := by
  have h1 := h.2.2.1
  have h2 := h.2.2.2
  have h3 := div_small (d := now - x.last) (by omega) (by omega) (mean_pos x boot)
  exact R.mulDiv_ok (by omega) (by omega) (mean_pos x boot) (by omega)
theorem lvl_bounds (x : Wi) (now boot : Int) : 0 ≤ (lvl x now boot).1 ∧ (lvl x now boot).1 ≤ 954376092909568 := by
  by_cases h : N.may x now
  · by_cases hl : x.last < 0
    · rw [lvl_none h hl]; simp
    · rw [lvl_is h hl]
      have h1 := h.2.2.1
      have h2 := h.2.2.2
      exact div_small (by omega) (by omega) (mean_pos x boot)
  · rw [lvl_no h]; simp

/-! ### Bounds -/
theorem cnt_lt (w s : Int) : s < cnt w ↔ 434 * s < w := by unfold cnt; omega
theorem cnt_le (w s : Int) : cnt w ≤ s ↔ w ≤ 434 * s := by unfold cnt; omega
theorem cnt_mono {w v : Int} (h : w ≤ v) : cnt w ≤ cnt v := by unfold cnt; omega
theorem bound_bad {th mean : Int} (h : bad th mean) : bound th mean = 0 := by unfold bound; rw [if_pos h]
theorem bound_ok {th mean : Int} (h : ¬ bad th mean) : bound th mean = min (cnt ((th + 1) * mean)) 4611686018427387904 := by unfold bound; rw [if_neg h]
theorem prod_pos {th mean : Int} (h : ¬ bad th mean) : 1 ≤ (th + 1) * mean := by
  unfold bad at h
  have := Int.mul_le_mul (show 1 ≤ th + 1 by omega) (show 1 ≤ mean by omega) (by omega) (by omega)
  omega
theorem bound_pos {th mean : Int} (h : ¬ bad th mean) : 1 ≤ bound th mean := by
  rw [bound_ok h]
  have := prod_pos h
  unfold cnt
  omega
theorem bound_nonneg (th mean : Int) : 0 ≤ bound th mean ∧ bound th mean ≤ 4611686018427387904 := by
  by_cases h : bad th mean
  · rw [bound_bad h]; omega
  · have := bound_pos h
    rw [bound_ok h] at *
    omega
/-- what is not cut short is the least that is enough -/
theorem bound_least {th mean n : Int} (h : ¬ bad th mean) (hn : bound th mean = n) (hb : n < 4611686018427387904) : (th + 1) * mean ≤ 434 * n ∧ 434 * (n - 1) < (th + 1) * mean := by
  rw [bound_ok h] at hn
  have e : cnt ((th + 1) * mean) = n := by omega
  constructor
  · exact (cnt_le _ _).1 (by omega)
  · exact (cnt_lt _ _).1 (by omega)
/-- a level is above the threshold just where the silence is long enough -/
theorem above_iff {d m th : Int} (hm : 1 ≤ m) : th < d * 434 / m ↔ (th + 1) * m ≤ 434 * d := by
  rw [show th < d * 434 / m ↔ th + 1 ≤ d * 434 / m from Iff.rfl, Int.le_ediv_iff_mul_le (by omega), Int.mul_comm d 434]
end Ph
end Go.Proofs.Ytlnhdakafidhiaa
