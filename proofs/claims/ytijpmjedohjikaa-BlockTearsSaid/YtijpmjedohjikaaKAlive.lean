/- The fixed fact of block's laws. -/
import Derived.Test.YtijpmjedohjikaaKAt
namespace Go.Proofs.Ytijpmjedohjikaa
set_option linter.unusedVariables false
set_option linter.unusedSimpArgs false
open Go.RowKit
def four : List UInt8 := [1, 1, 1, 1] ++ List.replicate 60 0
def three : List UInt8 := [1, 1, 1] ++ List.replicate 61 0
theorem run_four (w : World) (a : Act) (d : Option Nat) (t : TypeId) (pos : String) (af : Array Edge) (g : Option (Nat × Bool)) : (execOp a.eval ⟨d, .build 26 #[(0, .const (.int .u8 1)), (1, .const (.int .u8 1)), (2, .const (.int .u8 1)), (3, .const (.int .u8 1))], t, pos, af, g⟩).run Try.prog w = .ok (.value (.agg (U four).toArray)) w := by
  kernel_rfl
theorem run_three (w : World) (a : Act) (d : Option Nat) (t : TypeId) (pos : String) (af : Array Edge) (g : Option (Nat × Bool)) : (execOp a.eval ⟨d, .build 26 #[(0, .const (.int .u8 1)), (1, .const (.int .u8 1)), (2, .const (.int .u8 1))], t, pos, af, g⟩).run Try.prog w = .ok (.value (.agg (U three).toArray)) w := by
  kernel_rfl
theorem sec_four {ops : Array Oper} {rest : List Oper} {T : TypeId} {pos : String} {af : Array Edge} {g : Option (Nat × Bool)} {a : Act} {w : World} {Q : Exit → Act → World → Prop} (d : Nat)
    (hw : Region.wanted ⟨some d, .build 26 #[(0, .const (.int .u8 1)), (1, .const (.int .u8 1)), (2, .const (.int .u8 1)), (3, .const (.int .u8 1))], T, pos, af, g⟩ (yielded ops a.tmps) = true)
    (h : wpList Try.prog ops Q rest (a.put (some d) (.agg (U four).toArray)) w) : wpList Try.prog ops Q (⟨some d, .build 26 #[(0, .const (.int .u8 1)), (1, .const (.int .u8 1)), (2, .const (.int .u8 1)), (3, .const (.int .u8 1))], T, pos, af, g⟩ :: rest) a w :=
  BigFrame.wpList_want hw fun KK hK => by
    unfold Oper.wp
    rw [run_four]
    exact hK _ _ h
theorem sec_three {ops : Array Oper} {rest : List Oper} {T : TypeId} {pos : String} {af : Array Edge} {g : Option (Nat × Bool)} {a : Act} {w : World} {Q : Exit → Act → World → Prop} (d : Nat)
    (hw : Region.wanted ⟨some d, .build 26 #[(0, .const (.int .u8 1)), (1, .const (.int .u8 1)), (2, .const (.int .u8 1))], T, pos, af, g⟩ (yielded ops a.tmps) = true)
    (h : wpList Try.prog ops Q rest (a.put (some d) (.agg (U three).toArray)) w) : wpList Try.prog ops Q (⟨some d, .build 26 #[(0, .const (.int .u8 1)), (1, .const (.int .u8 1)), (2, .const (.int .u8 1))], T, pos, af, g⟩ :: rest) a w :=
  BigFrame.wpList_want hw fun KK hK => by
    unfold Oper.wp
    rw [run_three]
    exact hK _ _ h
theorem kal : ∃ d1 d2 d3 d4 : Dk, K.new 2 = (d1, 0) ∧ K.arm d1 3 = (d2, 0) ∧ K.put d2 1 four = (d3, 9) ∧ K.wake d3 = (d4, 0) ∧ K.asked d4 1 = 0 ∧ K.get d4 1 = three ∧ d2.fuse ≤ 9223372036854775807 ∧ d1.secs.length ≤ 2 ∧ d2.secs.length ≤ 2 ∧ d3.secs.length ≤ 2 ∧ d4.secs.length ≤ 2 := by
  refine ⟨⟨[K.zero, K.zero], -1, false⟩, ⟨[K.zero, K.zero], 3, false⟩, ⟨[K.zero, three], -1, true⟩, ⟨[K.zero, three], -1, false⟩, by kernel_rfl, by kernel_rfl, by kernel_rfl, by kernel_rfl, by kernel_rfl, by kernel_rfl, ?_, Nat.le_refl _, Nat.le_refl _, Nat.le_refl _, Nat.le_refl _⟩
  show (3 : Int) ≤ _
  omega
set_option maxHeartbeats 4000000 in
set_option maxRecDepth 20000 in
theorem kalive_any (w : World) : Calls Try.prog 8 #[] w fun e w' => e = .returned (.bool true) ∧ Below w.heap.size w w' := by
  obtain ⟨d1, d2, d3, d4, E1, E2, E3, E4, E5, E6, hf, n1, n2, n3, n4⟩ := kal
  replace E1 := Lib.hid E1
  replace E2 := Lib.hid E2
  replace E3 := Lib.hid E3
  replace E4 := Lib.hid E4
  replace E5 := Lib.hid E5
  replace E6 := Lib.hid E6
  have h4 : Hid (four.length = 64) := Lib.hid (by decide)
  have h3 : Hid (three.length = 64) := Lib.hid (by decide)
  have EQ := sec_in three three h3.out h3.out
  go_enter Try.func8, Try.ntmps8
  go_wp2_with fail
  refine (knew_at E1.out _).mono ?_
  rintro e v1 ⟨⟨A1, k1, c1, rfl, R, fr⟩, b⟩
  clear fr
  have HV : Hid (w.heap.size ≤ v1.heap.size) := Lib.hid b.size
  have X := Box.new v1 #[.slice A1 k1 c1, .int .i64 d1.fuse, .bool d1.down] 24
  replace R := R.alloc (.cells #[.slice A1 k1 c1, .int .i64 d1.fuse, .bool d1.down] 24)
  have hk : k1 ≤ 2 := by have := R.len; simp only at this; omega
  replace b := b.alloc b.size (.cells #[.slice A1 k1 c1, .int .i64 d1.fuse, .bool d1.down] 24)
  have x0 := X.at 0 rfl
  have x1 := X.at 1 rfl
  have x2 := X.at 2 rfl
  (try dsimp only)
  go_wp2_with fail
  generalize v1.alloc (.cells #[.slice A1 k1 c1, .int .i64 d1.fuse, .bool d1.down] 24) = s1 at *
  refine (karm_at A1 k1 c1 3 E2.out _ R (by omega)).mono ?_
  rintro e v2 ⟨⟨A2, k2, c2, rfl, R', fr⟩, hb⟩
  clear fr
  replace X := X.belowH hb
  replace b := b.trans (hb.mono b.size)
  clear hb x0 x1 x2 R
  have x0 := X.at 0 rfl
  have x1 := X.at 1 rfl
  have x2 := X.at 2 rfl
  have xc := X.cold
  have hk2 : k2 ≤ 2 := by have := R'.len; simp only at this; omega
  (try dsimp only)
  (try dsimp only at R')
  have R := R'.box3 X (.slice A2 k2 c2) (.int .i64 d2.fuse) (.bool d2.down)
  replace X := X.three (.slice A2 k2 c2) (.int .i64 d2.fuse) (.bool d2.down)
  replace b := below_set (o := 2) (below_set (o := 1) (below_set (o := 0) b (show w.heap.size ≤ v1.heap.size from HV.out) (.slice A2 k2 c2)) HV.out (.int .i64 d2.fuse)) HV.out (.bool d2.down)
  clear R'
  go_wp2_with ((with_reducible refine sec_four _ ?hw ?_); (case hw => rfl))
  generalize ((v2.setCell ⟨v1.heap.size, 0, none⟩ (.slice A2 k2 c2)).setCell ⟨v1.heap.size, 1, none⟩ (.int .i64 d2.fuse)).setCell ⟨v1.heap.size, 2, none⟩ (.bool d2.down) = s2 at *
  refine (kput_at A2 k2 c2 1 four h4.out E3.out _ R (by omega) hf).mono ?_
  rintro e v3 ⟨⟨A3, k3, c3, rfl, R', fr⟩, hb⟩
  clear fr
  replace X := X.belowH hb
  replace b := b.trans (hb.mono b.size)
  clear hb x0 x1 x2 R
  have x0 := X.at 0 rfl
  have x1 := X.at 1 rfl
  have x2 := X.at 2 rfl
  have xc := X.cold
  have hk3 : k3 ≤ 2 := by have := R'.len; simp only at this; omega
  (try dsimp only)
  (try dsimp only at R')
  have R := R'.box3 X (.slice A3 k3 c3) (.int .i64 d3.fuse) (.bool d3.down)
  replace X := X.three (.slice A3 k3 c3) (.int .i64 d3.fuse) (.bool d3.down)
  replace b := below_set (o := 2) (below_set (o := 1) (below_set (o := 0) b (show w.heap.size ≤ v1.heap.size from HV.out) (.slice A3 k3 c3)) HV.out (.int .i64 d3.fuse)) HV.out (.bool d3.down)
  clear R'
  go_wp2_with fail
  generalize ((v3.setCell ⟨v1.heap.size, 0, none⟩ (.slice A3 k3 c3)).setCell ⟨v1.heap.size, 1, none⟩ (.int .i64 d3.fuse)).setCell ⟨v1.heap.size, 2, none⟩ (.bool d3.down) = s3 at *
  refine (kwake_at A3 k3 c3 E4.out _ R).mono ?_
  rintro e v4 ⟨⟨A4, k4, c4, rfl, R', fr⟩, hb⟩
  clear fr
  replace X := X.belowH hb
  replace b := b.trans (hb.mono b.size)
  clear hb x0 x1 x2 R
  have x0 := X.at 0 rfl
  have x1 := X.at 1 rfl
  have x2 := X.at 2 rfl
  have xc := X.cold
  have hk4 : k4 ≤ 2 := by have := R'.len; simp only at this; omega
  (try dsimp only)
  (try dsimp only at R')
  have R := R'.box3 X (.slice A4 k4 c4) (.int .i64 d4.fuse) (.bool d4.down)
  replace X := X.three (.slice A4 k4 c4) (.int .i64 d4.fuse) (.bool d4.down)
  replace b := below_set (o := 2) (below_set (o := 1) (below_set (o := 0) b (show w.heap.size ≤ v1.heap.size from HV.out) (.slice A4 k4 c4)) HV.out (.int .i64 d4.fuse)) HV.out (.bool d4.down)
  clear R'
  go_wp2_with fail
  generalize ((v4.setCell ⟨v1.heap.size, 0, none⟩ (.slice A4 k4 c4)).setCell ⟨v1.heap.size, 1, none⟩ (.int .i64 d4.fuse)).setCell ⟨v1.heap.size, 2, none⟩ (.bool d4.down) = s4 at *
  refine (kget_at A4 k4 c4 1 E5.out E6.out _ R).mono ?_
  rintro e v5 ⟨rfl, hb⟩
  replace b := b.trans (hb.mono b.size)
  clear hb x0 x1 x2 xc R X
  have Y := Box.new v5 (U three).toArray 26
  replace b := b.alloc b.size (.cells (U three).toArray 26)
  go_wp2_with (first | ((with_reducible refine sec_new _ three h3.out ?hd ?hy ?_); (case hd => rfl); (case hy => rfl)) | ((with_reducible refine sec_take _ v5.heap.size 0 three h3.out (sec_box Y) ?hw ?hx ?_); (case hw => rfl); (case hx => rfl)) | ((with_reducible refine sec_three _ ?hw ?_); (case hw => rfl)))
  go_ret
  exact ⟨ret_bool (by simp), b⟩
end Go.Proofs.Ytijpmjedohjikaa
