/- The fixed fact of entry's laws. -/
import Derived.Test.YtkohoghebdfkiaaECode7
namespace Go.Proofs.Ytkohoghebdfkiaa
set_option linter.unusedVariables false
set_option linter.unusedSimpArgs false
open Go.RowKit

def alA : List Ent := [⟨1, 2, [122]⟩]
def alB : List Ent := [⟨1, 3, []⟩, ⟨4, 1, []⟩]
theorem al_riseA : E.rising alA := ⟨by simp, trivial⟩
theorem al_riseB : E.rising alB := ⟨by simp, by simp, trivial⟩
theorem al_join : E.join alA alB = alB := by decide +kernel
theorem al_over1 : overB alB alA = true := by decide +kernel
theorem al_over2 : overB alA alB = false := by decide +kernel
theorem al_top : E.top alB = 3 := by decide +kernel
theorem al_above : (E.aboves alB 1).length = 1 := by decide +kernel
theorem al_right : rightB alB = true := rightB_yes ⟨by decide, al_riseB⟩

set_option maxHeartbeats 1000000 in
set_option maxRecDepth 20000 in
theorem alive_any (w : World) : Calls Try.prog 8 #[] w fun e w' => e = .returned (.bool true) ∧ Below w.heap.size w w' := by
  have rA := (Rd.lit w #[.int .i64 1, .int .i64 2, .string ⟨#[122]⟩] 26 3 1 rfl).alloc (by simp) (.cells #[.int .i64 1, .int .i64 3, .string ⟨#[]⟩, .int .i64 4, .int .i64 1, .string ⟨#[]⟩] 26)
  have rB := Rd.lit (w.alloc (.cells #[.int .i64 1, .int .i64 2, .string ⟨#[122]⟩] 26)) #[.int .i64 1, .int .i64 3, .string ⟨#[]⟩, .int .i64 4, .int .i64 1, .string ⟨#[]⟩] 26 3 2 rfl
  have b2 : Below w.heap.size w ((w.alloc (.cells #[.int .i64 1, .int .i64 2, .string ⟨#[122]⟩] 26)).alloc (.cells #[.int .i64 1, .int .i64 3, .string ⟨#[]⟩, .int .i64 4, .int .i64 1, .string ⟨#[]⟩] 26)) := ((Below.refl _ _).alloc (Nat.le_refl _) _).alloc (by simp) _
  have s2 : ((w.alloc (.cells #[.int .i64 1, .int .i64 2, .string ⟨#[122]⟩] 26)).alloc (.cells #[.int .i64 1, .int .i64 3, .string ⟨#[]⟩, .int .i64 4, .int .i64 1, .string ⟨#[]⟩] 26)).heap.size = w.heap.size + 2 := by simp
  have s1 : (w.alloc (.cells #[.int .i64 1, .int .i64 2, .string ⟨#[122]⟩] 26)).heap.size = w.heap.size + 1 := by simp
  rw [s1] at rB
  have S2 := Lib.hid s2
  clear s1 s2
  have HB2 := Lib.hid b2
  clear b2
  go_enter Try.func8, Try.ntmps8
  go_wp2_with fail
  generalize (w.alloc (.cells #[.int .i64 1, .int .i64 2, .string ⟨#[122]⟩] 26)).alloc (.cells #[.int .i64 1, .int .i64 3, .string ⟨#[]⟩, .int .i64 4, .int .i64 1, .string ⟨#[]⟩] 26) = w2 at *
  have rA2 : Rd w2 w2.heap.size 3 (some ⟨w.heap.size, 0, none⟩) 1 (EC alA) := rA.more (by have := S2.out; omega)
  have rB2 : Rd w2 w2.heap.size 3 (some ⟨w.heap.size + 1, 0, none⟩) 2 (EC alB) := rB.more (by have := S2.out; omega)
  clear rA rB S2
  refine (join_any alA alB _ _ 1 2 1 2 _ _ w2 rA2 (Nat.le_refl _) rB2 (Nat.le_refl _) (by omega) (by omega) al_riseA al_riseB).mono ?_
  rintro e w3 ⟨A3, n3, c3, rfl, hn3, hown3, hb3⟩
  obtain rfl : n3 = 2 := by rw [hn3, al_join]; rfl
  rw [al_join] at hown3
  have rO3 := Rd.of_own hown3
  have rB3 := rB2.belowH hb3
  have rA3 := rA2.belowH hb3
  have B3 := HB2.out.trans (hb3.mono HB2.out.size)
  clear hn3 hown3 rA2 rB2 hb3
  go_wp2_with fail
  refine (rtsame_any alB alB A3 _ 2 2 c3 2 _ _ w3 rO3 rB3 (by omega) (by omega)).mono ?_
  rintro e w4 ⟨rfl, q, rfl⟩
  have rB4 := rB3.drewN q
  have rA4 := rA3.drewN q
  have B4 := below_dn B3 q
  clear rO3 rA3 rB3 B3
  rw [decide_eq_true rfl]
  go_wp2_with fail
  refine (over_any alB alA _ _ 2 1 2 1 _ _ _ rB4 (Nat.le_refl _) rA4 (Nat.le_refl _) (by omega) (by omega) al_riseB al_riseA).mono ?_
  rw [al_over1]
  rintro e w5 ⟨rfl, hb5⟩
  have rB5 := Rd.belowH rB4 hb5
  have rA5 := Rd.belowH rA4 hb5
  have B5 := B4.trans (hb5.mono B4.size)
  clear rA4 rB4 hb5 B4
  go_wp2_with fail
  refine (over_any alA alB _ _ 1 2 1 2 _ _ _ rA5 (Nat.le_refl _) rB5 (Nat.le_refl _) (by omega) (by omega) al_riseA al_riseB).mono ?_
  rw [al_over2]
  rintro e w6 ⟨rfl, hb6⟩
  have rB6 := rB5.belowH hb6
  have B6 := B5.trans (hb6.mono B5.size)
  clear rA5 rB5 hb6 B5
  go_wp2_with fail
  refine (top_any alB _ 2 2 _ _ rB6 (Nat.le_refl _) (by omega)).mono ?_
  rw [al_top]
  rintro e w7 ⟨rfl, hb7⟩
  have rB7 := rB6.belowH hb7
  have B7 := B6.trans (hb7.mono B6.size)
  clear rB6 hb7 B6
  go_wp2_with fail
  refine (aboves_any alB 1 _ 2 2 _ _ rB7 (Nat.le_refl _) (by omega)).mono ?_
  rintro e w8 ⟨A8, n8, c8, rfl, hn8, _, hb8⟩
  obtain rfl : n8 = 1 := by rw [hn8, al_above]
  have rB8 := rB7.belowH hb8
  have B8 := B7.trans (hb8.mono B7.size)
  clear rB7 hb8 B7 hn8
  go_wp2_with fail
  refine (right_any alB _ 2 2 _ _ rB8 (Nat.le_refl _) (by omega)).mono ?_
  rw [al_right]
  rintro e w9 ⟨rfl, hb9⟩
  have B9 := B8.trans (hb9.mono B8.size)
  go_wp2
  go_ret
  exact ⟨rfl, B9⟩
end Go.Proofs.Ytkohoghebdfkiaa
