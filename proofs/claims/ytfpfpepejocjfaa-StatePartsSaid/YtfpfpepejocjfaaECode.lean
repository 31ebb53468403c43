/- The code's words on tables: May, isAbove, Top, Right. -/
import Derived.Test.YtfpfpepejocjfaaERef6
namespace Go.Proofs.Ytfpfpepejocjfaa
set_option linter.unusedVariables false
set_option linter.unusedSimpArgs false
open Go.RowKit

set_option maxHeartbeats 1000000 in
theorem may_any (x : Ent) (w : World) :
    Calls Try.prog 39 #[ev x] w fun e w' => e = .returned (.bool (emayB x)) ∧ Below w.heap.size w w' := by
  obtain ⟨k, v, s⟩ := x
  simp only [ev]
  have hs : (strB s).size = s.length := strB_size s
  by_cases h1 : 0 ≤ k
  · by_cases h2 : k < 12
    · by_cases h3 : 1 ≤ v
      · by_cases h4 : v ≤ 1099511627776
        all_goals
          go_enter Try.func39, Try.ntmps39
          go_wp2
          go_ret
          exact ⟨ret_bool (by first | exact emay_no (by unfold E.may; dsimp only; omega) | exact emay_eq (by unfold E.may; dsimp only; omega)), (Below.refl _ _).alloc (Nat.le_refl _) _⟩
      · go_enter Try.func39, Try.ntmps39
        go_wp2
        go_ret
        exact ⟨ret_bool (emay_no (by unfold E.may; dsimp only; omega)), (Below.refl _ _).alloc (Nat.le_refl _) _⟩
    · go_enter Try.func39, Try.ntmps39
      go_wp2
      go_ret
      exact ⟨ret_bool (emay_no (by unfold E.may; dsimp only; omega)), (Below.refl _ _).alloc (Nat.le_refl _) _⟩
  · go_enter Try.func39, Try.ntmps39
    go_wp2
    go_ret
    exact ⟨ret_bool (emay_no (by unfold E.may; dsimp only; omega)), (Below.refl _ _).alloc (Nat.le_refl _) _⟩

set_option maxHeartbeats 1000000 in
theorem above_any (x y : Ent) (w : World) :
    Calls Try.prog 53 #[ev x, ev y] w fun e w' => e = .returned (.bool (E.above x y)) ∧ Below w.heap.size w w' := by
  obtain ⟨k, v, s⟩ := x
  obtain ⟨k', v', s'⟩ := y
  simp only [ev]
  have hb : Below w.heap.size w ((w.alloc (.cells #[.int .i64 k, .int .i64 v, .string (strB s)] 42)).alloc (.cells #[.int .i64 k', .int .i64 v', .string (strB s')] 42)) := ((Below.refl _ _).alloc (Nat.le_refl _) _).alloc (by simp) _
  by_cases h1 : v' < v
  · go_enter Try.func53, Try.ntmps53
    go_wp2
    go_ret
    exact ⟨ret_bool (by simp [E.above, h1]), hb⟩
  · by_cases h2 : v = v'
    · subst h2
      go_enter Try.func53, Try.ntmps53
      go_wp2
      go_ret
      exact ⟨ret_bool (by have h := E.gt_eq s s'; unfold E.lt at h; simp [E.above, E.lt]; rw [h, Bool.not_or]), hb⟩
    · have t2 : (v == v') = false := beq_eq_false_iff_ne.2 h2
      have H2 := Lib.hid h2
      have H1 := Lib.hid h1
      clear h2
      go_enter Try.func53, Try.ntmps53
      go_wp2
      go_ret
      exact ⟨ret_bool (by simp [E.above, H1.out, H2.out]), hb⟩

theorem top_any (l : List Ent) (A : Option Addr) (n c B : Nat) (w : World) (h : Rd w B 3 A n (EC l)) (hB : B ≤ w.heap.size) (hn : n ≤ 70368744177664) :
    Calls Try.prog 32 #[.slice A n c] w fun e w' => e = .returned (.int .i64 (E.top l)) ∧ Below w.heap.size w w' := by
  have hl := h.lenE
  have HL := Lib.hid hl
  clear hl
  go_enter Try.func32, Try.ntmps32
  go_wp2
  go_loopw [3, 8] (fun m i wr => ∃ k : Nat, k ≤ n ∧ i = .int .i64 k ∧ m = .int .i64 (E.top (l.take k)) ∧ Below w.heap.size w wr) (fun _ i _ => n - (intOf i).toNat)
  case atStart => exact ⟨0, by omega, rfl, rfl, Below.refl _ _⟩
  case round =>
    obtain ⟨k, hk, rfl, rfl, hbel⟩ := hrel
    have hbs := hbel.size
    by_cases hlt : k < n
    · obtain ⟨b, o, x, rfl, hb, hx, c0, c1, c2⟩ := (h.below (hbel.mono hB)).atE hlt
      have HX := Lib.hid hx
      clear hx
      go_wp2
      go_roundw
      case rel => exact ⟨k + 1, by omega, by go_num, by rw [take_more HX.out, E.top_snoc, imax], by first | exact hbel.alloc hbs _ | exact below_set (below_set (below_set (hbel.alloc hbs _) hbs _) hbs _) hbs _⟩
      case measure => simp [intOf]; omega
    · go_wp2
      go_ret
      exact ⟨ret_int (by rw [List.take_of_length_le (by have := HL.out; omega)]), hbel⟩
end Go.Proofs.Ytfpfpepejocjfaa
