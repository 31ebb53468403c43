/- The fixed fact of frame's laws. -/
import Derived.Test.YtbnbljkkfgieoaaFDec2
namespace Go.Proofs.Ytbnbljkkfgieoaa
set_option linter.unusedVariables false
set_option linter.unusedSimpArgs false
open Go.RowKit

def al : Fr := ⟨6, [99], 2, []⟩
theorem al_may : F.may al := by decide
theorem al_len : (F.enc al).length = 12 := by decide +kernel
theorem al_take : (F.enc al).take 8 = [66, 87, 1, 6, 1, 99, 2, 0] := by decide +kernel
theorem al_dec : F.dec (F.enc al) [99] = (0, al) := by rw [F.dec_enc al al_may]; exact if_pos rfl
theorem al_dec2 : F.dec (F.enc al) [100] = (6, F.zero) := by rw [F.dec_enc al al_may]; exact if_neg (by decide)

set_option maxHeartbeats 800000 in
set_option maxRecDepth 20000 in
theorem alive_any (w : World) : Calls Try.prog 7 #[] w fun e w' => e = .returned (.bool true) ∧ Below w.heap.size w w' := by
  go_enter Try.func7, Try.ntmps7
  go_wp2_with fail
  refine (encode_any al none 0 0 0 w (Rd.zero _ _ _ _) (Nat.zero_le _)).mono ?_
  rintro e w1 ⟨hcase, hb1⟩
  rcases hcase with ⟨_, A1, c1, rfl, hown1⟩ | ⟨hno, _⟩
  · rw [al_len] at hown1 ⊢
    have hr1 := Rd.of_own hown1
    have hc1 := own_cap hown1
    clear hown1
    go_wp2_with fail
    refine (decode_any (F.enc al) [99] A1 12 c1 _ w1 hr1 (Nat.le_refl _) hc1.1 (by omega)).mono ?_
    rw [al_dec]
    rintro e w2 ⟨⟨A2, c2, rfl, hr2, hc2, hA2⟩, hb2⟩
    have hb2' : Below w.heap.size w w2 := hb1.trans (hb2.mono hb1.size)
    have hr3 := (hr1.belowH hb2).alloc (Nat.le_refl _) (.cells #[.int .i64 6, .string ⟨#[99]⟩, .int .i64 2, .slice A2 0 c2] 24)
    have x3 := Box.new w2 #[.int .i64 6, .string ⟨#[99]⟩, .int .i64 2, .slice A2 0 c2] 24
    simp only [fv]
    go_wp2_with fail
    refine (decode_any (F.enc al) [100] A1 12 c1 _ _ hr3 (by simp) hc1.1 (by omega)).mono ?_
    rw [al_dec2]
    rintro e w3 ⟨⟨A3, c3, rfl, _, _, _⟩, hb3⟩
    have hb3' : Below w.heap.size w w3 := (hb2'.alloc hb2'.size _).trans (hb3.mono (by have := hb2'.size; simp; omega))
    have x4 := x3.belowH hb3
    have y2 := x4.at 2 rfl
    have z4 := x4.lt
    have hr4 := ((hr3.more (by simp)).belowH hb3)
    have hr5 := (hr4.take1 (k := 8) (by omega))
    rw [U_take, al_take] at hr5
    have hcut := fun w => run_cut_h u8T w A1 12 c1 8 8 rfl (by omega)
    have hstr : ∀ o : Obj, _ := fun o => run_str (P := Try.prog) (c := c1) 22 9 5 Try.underlying22 Try.underlying5 Try.underlying9 (hr5.alloc (Nat.le_refl _) o)
    simp only [fv]
    go_wp2
    go_ret
    exact ⟨rfl, hb3'.alloc hb3'.size _⟩
  · exact absurd al_may hno
end Go.Proofs.Ytbnbljkkfgieoaa
