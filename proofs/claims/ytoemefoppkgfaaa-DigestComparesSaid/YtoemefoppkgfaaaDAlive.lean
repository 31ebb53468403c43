/- The fixed fact of digest's laws. -/
import Derived.Test.YtoemefoppkgfaaaDCode
import Derived.Test.YtoemefoppkgfaaaVRef4
import Derived.Test.YtoemefoppkgfaaaVRef6
namespace Go.Proofs.Ytoemefoppkgfaaa
set_option linter.unusedVariables false
set_option linter.unusedSimpArgs false
open Go.RowKit

def da_v : List Nm := [⟨3, ⟨2, 7, []⟩⟩]
def da_l : List Dg := [⟨1, 4, 0⟩, ⟨3, 2, 5⟩]
theorem da_rv : V.right da_v := by
  refine ⟨fun x hx => ?_, by simp [da_v, V.rising]⟩
  obtain rfl : x = ⟨3, ⟨2, 7, []⟩⟩ := by simpa [da_v] using hx
  exact ⟨by decide, by decide, by decide, by decide, by decide, by decide, by simp [E.right, E.rising]⟩
theorem da_rl : D.right da_l := by
  refine ⟨fun x hx => ?_, by simp [da_l, D.rising]⟩
  have h : x = ⟨1, 4, 0⟩ ∨ x = ⟨3, 2, 5⟩ := by simpa [da_l] using hx
  rcases h with rfl | rfl <;> exact ⟨by decide, by decide, by decide, by decide, by decide, by decide⟩
theorem da_want : D.wants da_v da_l 8 = [⟨1, 4, 0⟩] := by decide +kernel
theorem da_give : D.gives da_v da_l 8 = [⟨3, 2, 5⟩] := by decide +kernel
theorem vgreat_small {w : World} {U : Vw} (h : VRd w U) (hg : vgreatB U.l = false) : U.n ≤ 40 ∧ VFit U := by
  unfold vgreatB at hg
  rw [Bool.or_eq_false_iff] at hg
  have h1 : U.l.length ≤ 40 := by have := of_decide_eq_false hg.2; omega
  refine ⟨by have := h.len; omega, fun x hx => ?_⟩
  have h2 := hg.1
  rw [List.take_of_length_le (by omega)] at h2
  exact great_small (by simpa using List.any_eq_false.1 h2 x hx) (h.2 x hx).len
theorem rightD_len {l : List Dg} (h : D.right l) : l.length ≤ 8 := by
  have h1 := D.range_len (f := fun k : Nat => (D.find l k).toList) (fun k => by cases D.find l k <;> simp) 8
  rwa [D.range_all h] at h1
theorem right_nilV : V.right (Vw.view ⟨[], none, 0, 0⟩) := ⟨fun x hx => (by cases hx), trivial⟩
theorem right_nilD : D.right [] := ⟨fun x hx => (by cases hx), trivial⟩
theorem of_len (v : List Nm) : (D.of v).length = v.length := List.length_map _

set_option maxHeartbeats 4000000 in
set_option maxRecDepth 20000 in
theorem alive_any (w : World) : Calls Try.prog 6 #[] w fun e w' => e = .returned (.bool true) ∧ Below w.heap.size w w' := by
  have b := Below.refl w.heap.size w
  have Rz : VRd w ⟨[], none, 0, 0⟩ := ⟨Rd.zero _ _ _ _, by simp⟩
  go_enter Try.func6, Try.ntmps6
  go_wp2_with fail
  refine (rvput_any ⟨[], none, 0, 0⟩ 3 ⟨⟨2, 7, []⟩, none, 0, 0⟩ _ Rz (by show (0 : Nat) ≤ _; omega) (fun x hx => by cases hx) (Rd.zero _ _ _ _) (by show (0 : Nat) ≤ _; omega) trivial).mono ?_
  rintro e w2 ⟨Uv, rfl, hv, hown, hb⟩
  have Hv : Hid (Uv.view = da_v) := Lib.hid (hv.trans rfl)
  have Rv := hown.vrd
  clear hv hown
  replace Rz := Rz.belowH hb
  replace b := b.trans (hb.mono b.size)
  clear hb
  have HRv : Hid (V.right Uv.view) := Lib.hid (by rw [Hv.out]; exact da_rv)
  simp only [vval]
  have LR := Rd.lit w2 #[.int .i64 1, .int .i64 4, .int .i64 0, .int .i64 3, .int .i64 2, .int .i64 5] 34 3 2 rfl
  replace Rz := Rz.allocH (.cells #[.int .i64 1, .int .i64 4, .int .i64 0, .int .i64 3, .int .i64 2, .int .i64 5] 34)
  replace Rv := Rv.allocH (.cells #[.int .i64 1, .int .i64 4, .int .i64 0, .int .i64 3, .int .i64 2, .int .i64 5] 34)
  have LB := Box.new w2 #[.int .i64 1, .int .i64 4, .int .i64 0, .int .i64 3, .int .i64 2, .int .i64 5] 34
  replace b := b.alloc b.size (.cells #[.int .i64 1, .int .i64 4, .int .i64 0, .int .i64 3, .int .i64 2, .int .i64 5] 34)
  clear LB
  have Rl : DRd (w2.alloc (.cells #[.int .i64 1, .int .i64 4, .int .i64 0, .int .i64 3, .int .i64 2, .int .i64 5] 34)) (some ⟨w2.heap.size, 0, none⟩) 2 da_l := LR.more (by simp)
  clear LR
  go_wp2_with fail
  refine (dcompare_any Uv da_l (some ⟨w2.heap.size, 0, none⟩) 2 2 _ Rv Rl HRv.out da_rl).mono ?_
  rintro e w3 ⟨Aa, na, ca, Ab, nb, cb, rfl, hown, hown2, hb⟩
  rw [Hv.out, da_want] at hown
  rw [Hv.out, da_give] at hown2
  have Ra : DRd w3 Aa na [⟨1, 4, 0⟩] := Rd.of_own hown
  have Rb : DRd w3 Ab nb [⟨3, 2, 5⟩] := Rd.of_own hown2
  clear hown hown2
  replace Rz := Rz.belowH hb
  replace Rv := Rv.belowH hb
  replace Rl := Rl.belowH hb
  replace b := b.trans (hb.mono b.size)
  clear hb
  obtain rfl : na = 1 := Ra.len.symm
  obtain rfl : nb = 1 := Rb.len.symm
  obtain ⟨ba, oa, xa, hAa, _, hxa, p0, p1, p2⟩ := Ra.at (show 0 < 1 by omega)
  obtain ⟨bb, ob, xb, hAb, _, hxb, q0, q1, q2⟩ := Rb.at (show 0 < 1 by omega)
  obtain rfl : (⟨1, 4, 0⟩ : Dg) = xa := by simpa using hxa
  obtain rfl : (⟨3, 2, 5⟩ : Dg) = xb := by simpa using hxb
  subst hAa hAb
  simp only [Nat.zero_mul, Nat.add_zero, Nat.zero_add] at p0 p1 p2 q0 q1 q2
  have h1 := fun w => eq_dg ⟨1, 4, 0⟩ ⟨1, 4, 0⟩ w
  have h2 := fun w => eq_dg ⟨3, 2, 5⟩ ⟨3, 2, 5⟩ w
  simp only [show ∀ x : Dg, eqD x x = true from fun x => decide_eq_true rfl] at h1 h2
  have hgd := guard_dg
  clear hxa hxb
  go_wp2_with fail
  refine (dof_any Uv _ Rv HRv.out).mono ?_
  rintro e w4 ⟨Ao, no, co, rfl, hown, hb⟩
  have Ro : DRd w4 Ao no (D.of Uv.view) := Rd.of_own hown
  clear hown
  replace Rz := Rz.belowH hb
  replace Rv := Rv.belowH hb
  replace Rl := Rl.belowH hb
  replace Ra := Ra.belowH hb
  replace Rb := Rb.belowH hb
  replace b := b.trans (hb.mono b.size)
  clear hb
  have bdo : no ≤ 1 := by have hq := Ro.len; rw [Hv.out] at hq; have : (D.of da_v).length = 1 := rfl; omega
  clear p0 p1 p2 q0 q1 q2
  have LR := Rd.lit w4 #[.int .i64 3, .int .i64 2, .int .i64 7] 34 3 1 rfl
  replace Rz := Rz.allocH (.cells #[.int .i64 3, .int .i64 2, .int .i64 7] 34)
  replace Rv := Rv.allocH (.cells #[.int .i64 3, .int .i64 2, .int .i64 7] 34)
  replace Rl := Rl.allocH (.cells #[.int .i64 3, .int .i64 2, .int .i64 7] 34)
  replace Ra := Ra.allocH (.cells #[.int .i64 3, .int .i64 2, .int .i64 7] 34)
  replace Rb := Rb.allocH (.cells #[.int .i64 3, .int .i64 2, .int .i64 7] 34)
  replace Ro := Ro.allocH (.cells #[.int .i64 3, .int .i64 2, .int .i64 7] 34)
  have LB := Box.new w4 #[.int .i64 3, .int .i64 2, .int .i64 7] 34
  replace b := b.alloc b.size (.cells #[.int .i64 3, .int .i64 2, .int .i64 7] 34)
  clear LB
  have Rm : DRd (w4.alloc (.cells #[.int .i64 3, .int .i64 2, .int .i64 7] 34)) (some ⟨w4.heap.size, 0, none⟩) 1 [⟨3, 2, 7⟩] := LR.more (by simp)
  clear LR
  go_wp2_with fail
  refine (rdsame_any (D.of Uv.view) [⟨3, 2, 7⟩] Ao (some ⟨w4.heap.size, 0, none⟩) no 1 co 1 _ Ro Rm (by omega) (by omega)).mono ?_
  rw [decide_eq_true (show D.of Uv.view = [⟨3, 2, 7⟩] by rw [Hv.out]; decide +kernel)]
  rintro e w5 ⟨rfl, q, hq⟩
  have hb := below_of_drew hq
  clear hq
  replace Rz := Rz.belowH hb
  replace Rv := Rv.belowH hb
  replace Rl := Rl.belowH hb
  replace Ra := Ra.belowH hb
  replace Rb := Rb.belowH hb
  replace Ro := Ro.belowH hb
  replace Rm := Rm.belowH hb
  replace b := b.trans (hb.mono b.size)
  clear hb
  go_wp2
  go_ret
  exact ⟨rfl, b⟩
end Go.Proofs.Ytoemefoppkgfaaa
