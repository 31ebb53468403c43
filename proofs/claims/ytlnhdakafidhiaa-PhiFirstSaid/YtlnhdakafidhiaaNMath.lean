/- Plain mathematics of windows: arrivals, means (no program). -/
import Derived.Test.YtlnhdakafidhiaaRMath
namespace Go.Proofs.Ytlnhdakafidhiaa
set_option linter.unusedVariables false
set_option linter.unusedSimpArgs false
/-- a window: when the last arrival was, and the gaps -/
structure Wi where
  last : Int
  gaps : List Int
deriving DecidableEq
namespace N
def right (x : Wi) : Prop := -1 ≤ x.last ∧ x.last ≤ 1099511627776 ∧ x.gaps.length ≤ 16 ∧ ∀ g ∈ x.gaps, 1 ≤ g ∧ g ≤ 1099511627776
instance (x : Wi) : Decidable (right x) := by unfold right; infer_instance
def rightB (x : Wi) : Bool := decide (right x)
def new : Wi := ⟨-1, []⟩
/-- what is let -/
def may (x : Wi) (now : Int) : Prop := right x ∧ 0 ≤ now ∧ x.last ≤ now ∧ now ≤ 1099511627776
instance (x : Wi) (now : Int) : Decidable (may x now) := by unfold may; infer_instance
/-- a gap that is let -/
def gap (d most : Int) : Int := max 1 (min d most)
/-- the last sixteen -/
def keep (l : List Int) : List Int := l.drop (l.length - 16)
def more (x : Wi) (now most : Int) : List Int := if x.last < 0 then x.gaps else x.gaps ++ [gap (now - x.last) most]
/-- behind an arrival -/
def next (x : Wi) (now most : Int) : Wi := ⟨now, keep (more x now most)⟩
def mean (x : Wi) (boot : Int) : Int := if x.gaps.length = 0 then max 1 boot else max 1 (R.mean x.gaps)

theorem right_new : right new := ⟨by decide, by decide, by decide, by simp [new]⟩
theorem rightB_iff {x : Wi} : rightB x = true ↔ right x := decide_eq_true_iff
theorem keep_short {l : List Int} (h : l.length ≤ 16) : keep l = l := by unfold keep; rw [show l.length - 16 = 0 by omega]; rfl
theorem keep_length (l : List Int) : (keep l).length = min l.length 16 := by unfold keep; rw [List.length_drop]; omega
theorem keep_long {l : List Int} (h : l.length = 17) : keep l = l.drop 1 := by unfold keep; rw [h]
theorem keep_snoc {l : List Int} (g : Int) : keep (keep l ++ [g]) = keep (l ++ [g]) := by
  by_cases h : l.length ≤ 16
  · rw [keep_short h]
  · have hk := keep_length l
    have e : keep l ++ [g] = (l ++ [g]).drop (l.length - 16) := by
      unfold keep; rw [List.drop_append_of_le_length (by omega)]
    unfold keep
    rw [show (List.drop (l.length - 16) l ++ [g]) = (l ++ [g]).drop (l.length - 16) from e, List.drop_drop]
    congr 1
    simp only [List.length_drop, List.length_append, List.length_singleton]
    omega
theorem keep_tail {l m : List Int} (h : 16 ≤ m.length) : keep (l ++ m) = keep m := by
  unfold keep
  rw [List.length_append, List.drop_append, List.drop_of_length_le (by omega), List.nil_append]
  congr 1
  omega
theorem gap_bounds (d most : Int) : 1 ≤ gap d most ∧ gap d most ≤ max 1 most := by unfold gap; omega
theorem more_length (x : Wi) (now most : Int) : (more x now most).length = if x.last < 0 then x.gaps.length else x.gaps.length + 1 := by unfold more; split <;> simp
theorem next_right {x : Wi} {now most : Int} (h : may x now) : right (next x now most) := by
  obtain ⟨⟨h1, h2, h3, h4⟩, h5, h6, h7⟩ := h
  refine ⟨by show -1 ≤ now; omega, h7, by show (keep _).length ≤ 16; rw [keep_length]; omega, ?_⟩
  intro g hg
  have hm : g ∈ more x now most := List.mem_of_mem_drop hg
  unfold more at hm
  split at hm
  · exact h4 g hm
  · rcases List.mem_append.1 hm with hm | hm
    · exact h4 g hm
    · obtain rfl : g = gap (now - x.last) most := by simpa using hm
      unfold gap
      omega
end N
theorem rightB_iff_out {x : Wi} (h : N.rightB x = true) : N.right x := N.rightB_iff.1 h
end Go.Proofs.Ytlnhdakafidhiaa
