/- What Open answers, in plain mathematics. -/
import Derived.Test.YtfgpncbcelafoaaSMath
namespace Go.Proofs.Ytfgpncbcelafoaa

/-- what Open answers: the error's number, the bytes -/
def codeOf (l : List UInt8) : Int := if l.length < 4 then 2 else if S.ok l then 0 else 5
def innerOf (l : List UInt8) : List UInt8 := if S.ok l then l.take (l.length - 4) else []
theorem ok_sealed_iff {l : List UInt8} (h4 : 4 ≤ l.length) : S.ok l ↔ S.sealed (l.take (l.length - 4)) = l := by
  constructor
  · intro h; rw [S.sealed, h.2, List.take_append_drop]
  · intro h
    refine ⟨h4, ?_⟩
    have h2 : S.sealed (l.take (l.length - 4)) = l.take (l.length - 4) ++ l.drop (l.length - 4) := by rw [h, List.take_append_drop]
    exact List.append_cancel_left h2
theorem code_zero {l : List UInt8} (h : codeOf l = 0) : S.ok l ∧ S.sealed (innerOf l) = l := by
  unfold codeOf at h
  split at h
  · omega
  · rename_i h4
    split at h
    · rename_i hk
      refine ⟨hk, ?_⟩
      unfold innerOf
      rw [if_pos hk]
      exact (ok_sealed_iff (by omega)).1 hk
    · omega
theorem code_sealed (l : List UInt8) : codeOf (S.sealed l) = 0 := by
  unfold codeOf
  rw [if_neg (by rw [S.length_sealed]; omega), if_pos (S.ok_sealed l)]
theorem inner_of_sealed (l : List UInt8) : innerOf (S.sealed l) = l := by
  unfold innerOf
  rw [if_pos (S.ok_sealed l), S.inner_sealed]
theorem inner_le (l : List UInt8) : (innerOf l).length ≤ l.length := by
  unfold innerOf
  split
  · rw [List.length_take]; omega
  · simp
end Go.Proofs.Ytfgpncbcelafoaa
