/- The fixed fact of layer 2's laws. -/
import Derived.Test.YtobbdpmhpmmjgaaSRef
namespace Go.Proofs.Ytobbdpmhpmmjgaa
open Go.RowKit

theorem al_sum : S.sum [49, 50, 51, 52, 53, 54, 55, 56, 57] = 3808858755 := by kernel_rfl
theorem al_ok : codeOf (S.sealed [97, 98, 99]) = 0 := by
  have h := S.ok_sealed [97, 98, 99]
  unfold codeOf; rw [if_neg (by rw [S.length_sealed]; simp), if_pos h]
theorem innerOf_sealed (l : List UInt8) : innerOf (S.sealed l) = l := by unfold innerOf; rw [if_pos (S.ok_sealed l), S.inner_sealed]
theorem codeOf_sealed (l : List UInt8) : codeOf (S.sealed l) = 0 := by
  unfold codeOf; rw [if_neg (by rw [S.length_sealed]; omega), if_pos (S.ok_sealed l)]
theorem al_turn : codeOf (S.turnI (S.sealed [97, 98, 99]) 9) = 5 := by
  have h : ¬ S.ok (S.turnI (S.sealed [97, 98, 99]) 9) := by
    rw [turnI_in (by omega)]
    show ¬ S.ok (S.turn (S.sealed [97, 98, 99]) 9)
    have hd : S.num (S.turn (S.sealed [97, 98, 99]) 9) = S.num (S.sealed [97, 98, 99]) ^^^ (2 ^ 9 * 1) := by rw [S.num_turn _ _ (by rw [S.length_sealed]; simp)]
    rw [S.ok_burst (S.sealed [97, 98, 99]) _ (S.length_turn _ _) (S.ok_sealed _) (f := 9) (w := 1) (by rw [S.length_sealed]; simp) (by omega) hd]
    omega
  unfold codeOf; rw [if_neg (by rw [S.length_turnI, S.length_sealed]; simp), if_neg h]

theorem mark_abc (w : World) : (convert 22 22 (.slice (some ⟨w.heap.size, 0, none⟩) 3 3)).run Try.prog (w.alloc (.cells #[.int .u8 97, .int .u8 98, .int .u8 99] 5)) = .ok (.slice (some ⟨w.heap.size, 0, none⟩) 3 3) (w.alloc (litO [97, 98, 99])) := run_mark w [97, 98, 99] 3
theorem mark_nine (w : World) : (convert 22 22 (.slice (some ⟨w.heap.size, 0, none⟩) 9 9)).run Try.prog (w.alloc (.cells #[.int .u8 49, .int .u8 50, .int .u8 51, .int .u8 52, .int .u8 53, .int .u8 54, .int .u8 55, .int .u8 56, .int .u8 57] 5)) = .ok (.slice (some ⟨w.heap.size, 0, none⟩) 9 9) (w.alloc (litO [49, 50, 51, 52, 53, 54, 55, 56, 57])) := run_mark w [49, 50, 51, 52, 53, 54, 55, 56, 57] 9

set_option maxHeartbeats 800000 in
set_option maxRecDepth 20000 in
theorem alive_any (w : World) : Calls Try.prog 7 #[] w fun e w' => e = .returned (.bool true) ∧ Below w.heap.size w w' := by
  have hm0 := mark_abc w
  go_enter Try.func7, Try.ntmps7
  go_wp2_with fail
  refine (seal_any _ 3 _ (w.heap.size + 1) [97, 98, 99] _ (Rd.mark w _ rfl) (by simp) (by omega)).mono ?_
  rintro e w1 ⟨A1, c1, rfl, hown1, hbel1⟩
  have hb1 : Below w.heap.size w w1 := ((Below.refl _ _).alloc (Nat.le_refl _) _).trans (hbel1.mono (by simp))
  have hc1 := own_cap hown1
  go_wp2_with fail
  refine (open_any A1 _ c1 _ (S.sealed [97, 98, 99]) _ (Rd.of_own hown1) (Nat.le_refl _) hc1.1 (by omega)).mono ?_
  rintro e w2 ⟨⟨A2, c2, rfl, hr2, hc2⟩, hbel2⟩
  rw [innerOf_sealed] at hr2 ⊢
  rw [codeOf_sealed]
  have hb2 : Below w.heap.size w w2 := hb1.trans (hbel2.mono hb1.size)
  have hm2 := mark_abc w2
  go_wp2_with fail
  refine (seal_any _ 3 _ (w2.heap.size + 1) [97, 98, 99] _ (Rd.mark w2 _ rfl) (by simp) (by omega)).mono ?_
  rintro e w3 ⟨A3, c3, rfl, hown3, hbel3⟩
  have hr3 : Rd w3 w3.heap.size 1 A2 3 (U [97, 98, 99]) := (((hr2.alloc (Nat.le_refl _) _).more (by simp)).below hbel3).more hbel3.size
  have hb3 : Below w.heap.size w w3 := (hb2.alloc hb2.size _).trans (hbel3.mono (by have := hb2.size; simp; omega))
  go_wp2_with fail
  refine (turn_any A3 _ c3 _ 9 (S.sealed [97, 98, 99]) _ (Rd.of_own hown3) (Nat.le_refl _) (by omega) (by omega) (by omega)).mono ?_
  rintro e w4 ⟨A4, c4, rfl, hown4, hbel4⟩
  have hc4 := own_cap hown4
  have hb4 : Below w.heap.size w w4 := hb3.trans (hbel4.mono hb3.size)
  go_wp2_with fail
  refine (open_any A4 _ c4 _ _ _ (Rd.of_own hown4) (Nat.le_refl _) hc4.1 (by omega)).mono ?_
  rintro e w5 ⟨⟨A5, c5, rfl, hr5, hc5⟩, hbel5⟩
  rw [al_turn]
  have hb5 : Below w.heap.size w w5 := hb4.trans (hbel5.mono hb4.size)
  have hr6 : Rd w5 w5.heap.size 1 A2 3 (U [97, 98, 99]) := ((hr3.belowH hbel4).belowH hbel5)
  have hm5 := mark_nine w5
  go_wp2_with fail
  refine (sum_any _ 9 _ (w5.heap.size + 1) [49, 50, 51, 52, 53, 54, 55, 56, 57] _ (Rd.mark w5 _ rfl) (by omega)).mono ?_
  rintro e w6 ⟨rfl, rfl⟩
  rw [al_sum]
  have hstr := run_str (P := Try.prog) (c := c2) 22 9 5 Try.underlying22 Try.underlying5 Try.underlying9 ((hr6.alloc (Nat.le_refl _) (litO [49, 50, 51, 52, 53, 54, 55, 56, 57])))
  have e9 : (strB [97, 98, 99]).toList = [97, 98, 99] := strB_toList _
  go_wp2
  go_ret
  exact ⟨rfl, hb5.alloc hb5.size _⟩
end Go.Proofs.Ytobbdpmhpmmjgaa
