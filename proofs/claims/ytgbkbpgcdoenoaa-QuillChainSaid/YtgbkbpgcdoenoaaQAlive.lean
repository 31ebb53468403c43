/- The fixed fact of quill's laws. -/
import Derived.Test.YtgbkbpgcdoenoaaQTake
namespace Go.Proofs.Ytgbkbpgcdoenoaa
open Go.RowKit

theorem ab_size : (⟨#[97, 98]⟩ : ByteArray).size = 2 := rfl
theorem alive_any (w : World) : Calls Try.prog 9 #[] w fun e w' => e = .returned (.bool true) ∧ Below w.heap.size w w' := by
  go_enter Try.func9, Try.ntmps9
  go_wp2_with fail
  refine (num_any none _ 0 0 1 1 _ [] [300] _ (Rd.zero _ (w.heap.size + 1) _ _) (by simp) (Rd.one _ _ _) (by simp) (by omega) (by omega)).mono ?_
  rintro e w1 ⟨A1, c1, rfl, hown1, hbel1⟩
  have e1 : Q.ubs [300] = [172, 2] := by decide
  have e2 : 0 + Q.sizes [300] = 2 := by decide
  rw [e2] at hown1 ⊢
  rw [e1, List.nil_append] at hown1
  have hs1 : w.heap.size + 1 ≤ w1.heap.size := by have := hbel1.size; simpa using this
  have hb1 : Below w.heap.size w w1 := ((Below.refl _ _).alloc (Nat.le_refl _) _).trans (hbel1.mono (by simp))
  go_wp2_with (at_builtin; refine app_law u8T rfl (.tmp 14) (.tmp 15) rfl w.heap.size rfl ((own_mono hown1 (by simp)).alloc _) rfl (Rd.one _ _ _) (one_int _ _) (by omega) (by omega) (by simp; omega) ?_; rintro A2 c2 w2 ⟨hown2, hg2, _, holdw2⟩; have hb2 := below_app (hb1.alloc (by omega) _) ((own_mono hown1 (by simp)).alloc _) hg2 (Nat.le_refl _) (by simp; omega))
  have e3 : Q.take [172, 2, 7] = (0, 300, 2) := by decide
  have e4 : Q.rest [172, 2, 7] = [7] := by decide
  have e5 : Q.take [128, 0] = (3, 0, 0) := by decide
  have e6 : Q.rest [128, 0] = [] := by decide
  have hr2 : Rd w2 w2.heap.size 1 A2 3 (U [172, 2, 7]) := Rd.of_own hown2
  refine (take_any A2 3 c2 _ [172, 2, 7] _ hr2 (own_cap hown2).1 (own_cap hown2).2).mono ?_
  rintro e w' ⟨⟨A3, c3, rfl, hr3, hc3, _⟩, rfl⟩
  rw [e3, e4]
  go_wp2_with fail
  refine (take_any _ 2 2 _ [128, 0] _ (Rd.lit _ _ _ 1 2 rfl) (by omega) (by omega)).mono ?_
  rintro e w' ⟨⟨A4, c4, rfl, hr4, hc4, _⟩, rfl⟩
  rw [e5, e6]
  have hb3 : Below w.heap.size w (w2.alloc (.cells #[.int .u8 128, .int .u8 0] 5)) := hb2.alloc hb2.size _
  have hold3 := ((holdw2 A1 c1 rfl).alloc (Nat.le_refl _) (.cells #[.int .u8 128, .int .u8 0] 5)).more (B' := w2.heap.size + 1) (by omega)
  go_wp2_with fail
  refine (text_any none 0 0 0 [] _ _ (Rd.zero _ 0 _ _) (by simp) (by omega) (by omega) (by rw [ab_size]; omega)).mono ?_
  rintro e w4 ⟨A5, c5, rfl, hown5, hbel5⟩
  have e7 : Q.txt ⟨#[97, 98]⟩ = [2, 97, 98] := by decide
  rw [e7] at hown5 ⊢
  have hr5 : Rd w4 w4.heap.size 1 A5 3 (U [2, 97, 98]) := Rd.of_own hown5
  have hc5 := own_cap hown5
  have e8 : Q.taketext [2, 97, 98] 2 = (0, [97, 98], []) := by decide
  go_wp2_with fail
  refine (taketext_any A5 3 c5 _ [2, 97, 98] 2 _ hr5 hc5.1 hc5.2).mono ?_
  rintro e w5 ⟨⟨A6, c6, rfl, hr6, hc6, _⟩, q, rfl⟩
  rw [e8]
  have hold5 := ((hold3.below (hbel5.mono (by simp))).drewN q)
  have hb5 : Below w.heap.size w (w4.drewN q) := below_drewN (hb3.trans (hbel5.mono hb3.size)) q
  have hstr := run_str (P := Try.prog) (c := c1) 22 9 5 Try.underlying22 Try.underlying5 Try.underlying9 hold5
  have e9 : (strB [97, 98]).toList = [97, 98] := strB_toList _
  go_wp2
  go_ret
  exact ⟨rfl, hb5⟩
end Go.Proofs.Ytgbkbpgcdoenoaa
