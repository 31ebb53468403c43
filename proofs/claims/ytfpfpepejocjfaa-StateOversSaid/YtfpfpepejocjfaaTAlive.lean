/- The fixed fact of state's laws. -/
import Derived.Test.YtfpfpepejocjfaaTCode
namespace Go.Proofs.Ytfpfpepejocjfaa
set_option linter.unusedVariables false
set_option linter.unusedSimpArgs false
open Go.RowKit

def al1 : St := ⟨1, 4, [⟨2, 5, [120]⟩]⟩
def al2 : St := ⟨1, 6, [⟨2, 5, [120]⟩]⟩
theorem al_r1 : S.rise al1 := ⟨by simp, trivial⟩
theorem al_r2 : S.rise al2 := ⟨by simp, trivial⟩
theorem al_ok0 : srightB ⟨1, 4, []⟩ = true := srightB_yes ⟨by decide, by decide, by decide, by decide, by simp [E.right, E.rising]⟩
theorem al_ok1 : srightB al1 = true := srightB_yes ⟨by decide, by decide, by decide, by decide, by simp [E.right, E.rising, al1, E.may]⟩
theorem al_top0 : S.top ⟨1, 4, []⟩ = 4 := by decide
theorem al_top1 : S.top al1 = 5 := by decide
theorem al_set : sset ⟨1, 4, []⟩ 2 [120] = (al1, 0) := by
  unfold sset
  rw [if_pos ⟨al_ok0, by decide⟩, al_top0, if_neg (by decide)]
  rfl
theorem al_beat : sbeat al1 = (al2, 0) := by
  unfold sbeat
  rw [if_pos al_ok1, if_neg (by rw [al_top1]; decide)]
  unfold S.beaten
  rw [al_top1]
  rfl
theorem al_over1 : soverB al2 al1 = true := by decide +kernel
theorem al_over2 : soverB al1 al2 = false := by decide +kernel
theorem al_join : S.join al2 ⟨2, 0, []⟩ = ⟨2, 0, []⟩ := by decide +kernel

set_option maxHeartbeats 4000000 in
set_option maxRecDepth 20000 in
theorem alive_any (w : World) : Calls Try.prog 9 #[] w fun e w' => e = .returned (.bool true) ∧ Below w.heap.size w w' := by
  have b := Below.refl w.heap.size w
  have Rz : SRd w ⟨⟨1, 4, []⟩, none, 0, 0⟩ := Rd.zero _ _ _ _
  go_enter Try.func9, Try.ntmps9
  go_wp2_with fail
  refine (sset_any ⟨⟨1, 4, []⟩, none, 0, 0⟩ 2 [120] w Rz (by show (0 : Nat) ≤ _; omega) (by simp)).mono ?_
  rintro e w2 ⟨⟨sx, Ax, nx, cx⟩, rfl, hs, Rx, hb⟩
  simp only at hs
  have Hx : Hid (sx = (sset ⟨1, 4, []⟩ 2 [120]).1) := Lib.hid hs
  clear hs
  replace b := b.trans (hb.mono b.size)
  clear hb
  simp only [sv]
  rw [al_set] at Hx ⊢
  obtain rfl := Hx.out
  obtain rfl : nx = 1 := Rx.len.symm
  clear Hx Rz
  simp only [al1]
  replace Rx := Rx.allocH (.cells #[.int .i64 1, .int .i64 4, .slice Ax 1 cx] 24)
  have X := Box.new w2 #[.int .i64 1, .int .i64 4, .slice Ax 1 cx] 24
  replace b := b.alloc b.size (.cells #[.int .i64 1, .int .i64 4, .slice Ax 1 cx] 24)
  have x0 := X.at 0 rfl
  have x1 := X.at 1 rfl
  have x2 := X.at 2 rfl
  go_wp2_with fail
  refine (sbeat_any ⟨al1, Ax, 1, cx⟩ _ Rx (by show (1 : Nat) ≤ _; omega)).mono ?_
  rintro e w3 ⟨⟨sy, Ay, ny, cy⟩, rfl, hs, Ry, hb⟩
  simp only at hs
  have Hy : Hid (sy = (sbeat al1).1) := Lib.hid hs
  clear hs
  replace Rx := Rx.belowH hb
  replace X := X.belowH hb
  replace b := b.trans (hb.mono b.size)
  clear hb
  simp only [sv]
  clear x0 x1 x2
  rw [al_beat] at Hy ⊢
  obtain rfl := Hy.out
  obtain rfl : ny = 1 := Ry.len.symm
  clear Hy
  simp only [al2]
  replace Rx := Rx.allocH (.cells #[.int .i64 1, .int .i64 6, .slice Ay 1 cy] 24)
  replace Ry := Ry.allocH (.cells #[.int .i64 1, .int .i64 6, .slice Ay 1 cy] 24)
  replace X := X.alloc (.cells #[.int .i64 1, .int .i64 6, .slice Ay 1 cy] 24)
  have Y := Box.new w3 #[.int .i64 1, .int .i64 6, .slice Ay 1 cy] 24
  replace b := b.alloc b.size (.cells #[.int .i64 1, .int .i64 6, .slice Ay 1 cy] 24)
  have x0 := X.at 0 rfl
  have x1 := X.at 1 rfl
  have x2 := X.at 2 rfl
  have y0 := Y.at 0 rfl
  have y1 := Y.at 1 rfl
  have y2 := Y.at 2 rfl
  obtain ⟨bx, ox, ex, hAx, _, hex, q0, q1, q2⟩ := Rd.atE Rx (show 0 < 1 by omega)
  simp only at hAx
  subst hAx
  obtain rfl : (⟨2, 5, [120]⟩ : Ent) = ex := by simpa [al1] using hex
  clear hex
  go_wp2_with fail
  refine (sover_any ⟨al2, Ay, 1, cy⟩ ⟨al1, _, 1, cx⟩ _ Ry Rx (by show (1 : Nat) ≤ _; omega) (by show (1 : Nat) ≤ _; omega) al_r2 al_r1).mono ?_
  rw [show soverB (Sv.mk al2 Ay 1 cy).s (Sv.mk al1 (some ⟨bx, ox, none⟩) 1 cx).s = true from al_over1]
  rintro e w4 ⟨rfl, hb⟩
  replace Rx := Rx.belowH hb
  replace Ry := Ry.belowH hb
  replace X := X.belowH hb
  replace Y := Y.belowH hb
  replace b := b.trans (hb.mono b.size)
  clear hb
  clear x0 x1 x2
  clear y0 y1 y2
  have x0 := X.at 0 rfl
  have x1 := X.at 1 rfl
  have x2 := X.at 2 rfl
  have y0 := Y.at 0 rfl
  have y1 := Y.at 1 rfl
  have y2 := Y.at 2 rfl
  clear q0 q1 q2
  go_wp2_with fail
  refine (sover_any ⟨al1, _, 1, cx⟩ ⟨al2, Ay, 1, cy⟩ _ Rx Ry (by show (1 : Nat) ≤ _; omega) (by show (1 : Nat) ≤ _; omega) al_r1 al_r2).mono ?_
  rw [show soverB (Sv.mk al1 (some ⟨bx, ox, none⟩) 1 cx).s (Sv.mk al2 Ay 1 cy).s = false from al_over2]
  rintro e w5 ⟨rfl, hb⟩
  replace Rx := Rx.belowH hb
  replace Ry := Ry.belowH hb
  replace X := X.belowH hb
  replace Y := Y.belowH hb
  replace b := b.trans (hb.mono b.size)
  clear hb
  clear x0 x1 x2
  clear y0 y1 y2
  have x0 := X.at 0 rfl
  have x1 := X.at 1 rfl
  have x2 := X.at 2 rfl
  have y0 := Y.at 0 rfl
  have y1 := Y.at 1 rfl
  have y2 := Y.at 2 rfl
  have Rz : SRd w5 ⟨⟨2, 0, []⟩, none, 0, 0⟩ := Rd.zero _ _ _ _
  go_wp2_with fail
  refine (sjoin_any ⟨al2, Ay, 1, cy⟩ ⟨⟨2, 0, []⟩, none, 0, 0⟩ _ Ry Rz (by show (1 : Nat) ≤ _; omega) (by show (0 : Nat) ≤ _; omega) al_r2 trivial).mono ?_
  rintro e w6 ⟨⟨sz, Az, nz, cz⟩, rfl, hs, hown, hb⟩
  simp only at hs
  have Hz : Hid (sz = S.join al2 ⟨2, 0, []⟩) := Lib.hid hs
  have Rz := hown.srd
  clear hs hown
  replace Rx := Rx.belowH hb
  replace Ry := Ry.belowH hb
  replace X := X.belowH hb
  replace Y := Y.belowH hb
  replace b := b.trans (hb.mono b.size)
  clear hb
  simp only [sv]
  obtain rfl := Hz.out.trans al_join
  clear Hz
  have hfd : ∀ w : World, (Instr.field 24 (.agg #[.int .i64 2, .int .i64 0, .slice Az nz cz]) 0).run Try.prog w = .ok (.int .i64 2) w := fun _ => by kernel_rfl
  go_wp2
  go_ret
  exact ⟨rfl, b⟩
end Go.Proofs.Ytfpfpepejocjfaa
