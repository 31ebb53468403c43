/- The code's words on tables: May, isAbove, Top, Right. -/
import Derived.Test.YtpfkgddcoancnaaERef6
namespace Go.Proofs.Ytpfkgddcoancnaa
set_option linter.unusedVariables false
set_option linter.unusedSimpArgs false
open Go.RowKit

set_option maxHeartbeats 1000000 in
theorem may_any (x : Ent) (w : World) :
    Calls Try.prog 65 #[ev x] w fun e w' => e = .returned (.bool (emayB x)) ∧ Below w.heap.size w w' := by
  obtain ⟨k, v, s⟩ := x
  simp only [ev]
  have hs : (strB s).size = s.length := strB_size s
  by_cases h1 : 0 ≤ k
  · by_cases h2 : k < 12
    · by_cases h3 : 1 ≤ v
      · by_cases h4 : v ≤ 1099511627776
        all_goals
          go_enter Try.func65, Try.ntmps65
          go_wp2
          go_ret
          exact ⟨ret_bool (by first | exact emay_no (by unfold E.may; dsimp only; omega) | exact emay_eq (by unfold E.may; dsimp only; omega)), (Below.refl _ _).alloc (Nat.le_refl _) _⟩
      · go_enter Try.func65, Try.ntmps65
        go_wp2
        go_ret
        exact ⟨ret_bool (emay_no (by unfold E.may; dsimp only; omega)), (Below.refl _ _).alloc (Nat.le_refl _) _⟩
    · go_enter Try.func65, Try.ntmps65
      go_wp2
      go_ret
      exact ⟨ret_bool (emay_no (by unfold E.may; dsimp only; omega)), (Below.refl _ _).alloc (Nat.le_refl _) _⟩
  · go_enter Try.func65, Try.ntmps65
    go_wp2
    go_ret
    exact ⟨ret_bool (emay_no (by unfold E.may; dsimp only; omega)), (Below.refl _ _).alloc (Nat.le_refl _) _⟩

set_option maxHeartbeats 1000000 in
theorem above_any (x y : Ent) (w : World) :
    Calls Try.prog 60 #[ev x, ev y] w fun e w' => e = .returned (.bool (E.above x y)) ∧ Below w.heap.size w w' := by
  obtain ⟨k, v, s⟩ := x
  obtain ⟨k', v', s'⟩ := y
  simp only [ev]
  have hb : Below w.heap.size w ((w.alloc (.cells #[.int .i64 k, .int .i64 v, .string (strB s)] 59)).alloc (.cells #[.int .i64 k', .int .i64 v', .string (strB s')] 59)) := ((Below.refl _ _).alloc (Nat.le_refl _) _).alloc (by simp) _
  by_cases h1 : v' < v
  · go_enter Try.func60, Try.ntmps60
    go_wp2
    go_ret
    exact ⟨ret_bool (by simp [E.above, h1]), hb⟩
  · by_cases h2 : v = v'
    · subst h2
      go_enter Try.func60, Try.ntmps60
      go_wp2
      go_ret
      exact ⟨ret_bool (by have h := E.gt_eq s s'; unfold E.lt at h; simp [E.above, E.lt]; rw [h, Bool.not_or]), hb⟩
    · have t2 : (v == v') = false := beq_eq_false_iff_ne.2 h2
      have H2 := Lib.hid h2
      have H1 := Lib.hid h1
      clear h2
      go_enter Try.func60, Try.ntmps60
      go_wp2
      go_ret
      exact ⟨ret_bool (by simp [E.above, H1.out, H2.out]), hb⟩

end Go.Proofs.Ytpfkgddcoancnaa
