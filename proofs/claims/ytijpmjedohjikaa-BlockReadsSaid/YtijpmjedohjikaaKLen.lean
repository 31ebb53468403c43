/- Disks, plainly: how many sectors, how long. -/
import Derived.Test.YtijpmjedohjikaaKMath
namespace Go.Proofs.Ytijpmjedohjikaa
set_option linter.unusedVariables false
set_option linter.unusedSimpArgs false
namespace K
theorem put_len (d : Dk) (i : Int) (b : List UInt8) : (put d i b).1.secs.length = d.secs.length := by
  unfold put
  split
  · rfl
  · split
    · simp
    · split <;> simp
theorem arm_len (d : Dk) (n : Int) : (arm d n).1.secs.length = d.secs.length := by
  unfold arm
  split
  · rfl
  · split
    · rfl
    · split <;> rfl
theorem wake_len (d : Dk) : (wake d).1.secs.length = d.secs.length := by unfold wake; split <;> rfl
theorem new_len (n : Int) : (new n).1.secs.length ≤ 64 := by
  unfold new
  split
  · simp
  · simp; omega
theorem get_len {d : Dk} (h : wf d) (i : Int) : (get d i).length = 64 := by
  unfold get
  split
  · rename_i ha
    obtain ⟨_, _, _, h4⟩ := asked_right ha
    have e : d.secs.getD i.toNat [] = d.secs[i.toNat] := by simp [List.getD, List.getElem?_eq_getElem h4]
    rw [e]
    exact h _ (List.getElem_mem _)
  · simp [zero]
theorem wake_right {d : Dk} (h : right d) : wake d = (⟨d.secs, -1, false⟩, 0) := by unfold wake; rw [if_neg (Classical.not_not.2 h)]
theorem wake_wrong {d : Dk} (h : ¬ right d) : wake d = (d, 1) := by unfold wake; rw [if_pos h]
theorem asked_wrong {d : Dk} (h : ¬ right d) (i : Int) : asked d i = 1 := by unfold asked; rw [if_pos h]
theorem asked_down {d : Dk} (h : right d) (hd : d.down = true) (i : Int) : asked d i = 9 := by unfold asked; rw [if_neg (Classical.not_not.2 h), if_pos hd]
theorem asked_in {d : Dk} (h : right d) (hd : d.down = false) {k : Nat} (hk : k < d.secs.length) : asked d (k : Int) = 0 := by
  unfold asked
  rw [if_neg (Classical.not_not.2 h), if_neg (by simp [hd]), if_neg (by omega)]
theorem get_at {d : Dk} {k : Nat} (h : asked d (k : Int) = 0) {s : List UInt8} (hs : d.secs[k]? = some s) : get d (k : Int) = s := by
  unfold get
  rw [if_pos h]
  simp [List.getD, hs]
end K
end Go.Proofs.Ytijpmjedohjikaa
