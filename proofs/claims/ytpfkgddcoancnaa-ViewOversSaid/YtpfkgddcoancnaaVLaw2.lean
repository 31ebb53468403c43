/- ViewOvers walks. -/
import Derived.Test.YtpfkgddcoancnaaVAlive
namespace Go.Proofs.Ytpfkgddcoancnaa
set_option linter.unusedVariables false
set_option linter.unusedSimpArgs false
open Go.RowKit

set_option maxHeartbeats 8000000 in
set_option maxRecDepth 100000 in
theorem law_ViewOvers (v0 v1 : Vw) (W : World) (t0 : VIn W v0) (t1 : VIn W v1) :
    Calls Try.prog 7 #[vval v0, vval v1] W fun e w' => e = .returned (.bool true) ∧ Below W.heap.size W w' := by
  have R0 := t0.1
  have HK0 : Hid (v0.n * 48 ≤ 140737488351232 ∧ ∀ x ∈ v0.l, x.v.n * 32 ≤ 140737488351232 ∧ ∀ y ∈ x.v.s.apps, y.val.length ≤ 140737488351232) := Lib.hid ⟨t0.2.2.1, fun x hx => (t0.2.2.2 x hx).1⟩
  clear t0
  have R1 := t1.1
  have HK1 : Hid (v1.n * 48 ≤ 140737488351232 ∧ ∀ x ∈ v1.l, x.v.n * 32 ≤ 140737488351232 ∧ ∀ y ∈ x.v.s.apps, y.val.length ≤ 140737488351232) := Lib.hid ⟨t1.2.2.1, fun x hx => (t1.2.2.2 x hx).1⟩
  clear t1
  simp only [vval]
  have b := Below.refl W.heap.size W
  go_enter Try.func7, Try.ntmps7
  go_wp2_with fail
  refine (alive_any _).mono ?_
  rintro e w2 ⟨rfl, hb⟩
  replace R0 := R0.belowH hb
  replace R1 := R1.belowH hb
  replace b := b.trans (hb.mono b.size)
  clear hb
  have LR := Rd.lit w2 #[.slice v0.A v0.n v0.c, .slice v1.A v1.n v1.c] 22 1 2 rfl
  replace R0 := R0.allocH (.cells #[.slice v0.A v0.n v0.c, .slice v1.A v1.n v1.c] 22)
  replace R1 := R1.allocH (.cells #[.slice v0.A v0.n v0.c, .slice v1.A v1.n v1.c] 22)
  have LB := Box.new w2 #[.slice v0.A v0.n v0.c, .slice v1.A v1.n v1.c] 22
  replace b := b.alloc b.size (.cells #[.slice v0.A v0.n v0.c, .slice v1.A v1.n v1.c] 22)
  clear LB
  go_wp2_with fail
  refine (greatvs_any [v0, v1] _ 2 2 _ _ LR (by simp) (by omega) (fun v hv => by simp at hv; rcases hv with rfl | rfl <;> first | exact ⟨R0, HK0.out⟩ | exact ⟨R1, HK1.out⟩)).mono ?_
  rintro e w3 ⟨rfl, hb⟩
  replace R0 := R0.belowH hb
  replace R1 := R1.belowH hb
  replace b := b.trans (hb.mono b.size)
  clear hb
  clear LR
  rcases hgr : greatvs [v0, v1]
  · skip
    simp only [greatvs, List.any_cons, List.any_nil, Bool.or_false, Bool.or_eq_false_iff] at hgr
    have HG0 := Lib.hid (vgreat_small R0 hgr.1)
    have HG1 := Lib.hid (vgreat_small R1 hgr.2)
    clear hgr
    go_wp2_with fail
    refine (rvright_any v0  _ R0 (by have hq := HG0.out.1; omega) HG0.out.2).mono ?_
    rintro e w4 ⟨rfl, hb⟩
    replace R0 := R0.belowH hb
    replace R1 := R1.belowH hb
    replace b := b.trans (hb.mono b.size)
    clear hb
    rcases hr0 : vrightB v0.view
    · go_wp2
      go_ret
      exact ⟨rfl, b⟩
    · skip
      have HR0 := Lib.hid (vrightB_out hr0)
      clear hr0
      go_wp2_with fail
      refine (rvright_any v1  _ R1 (by have hq := HG1.out.1; omega) HG1.out.2).mono ?_
      rintro e w5 ⟨rfl, hb⟩
      replace R0 := R0.belowH hb
      replace R1 := R1.belowH hb
      replace b := b.trans (hb.mono b.size)
      clear hb
      rcases hr1 : vrightB v1.view
      · go_wp2
        go_ret
        exact ⟨rfl, b⟩
      · skip
        have HR1 := Lib.hid (vrightB_out hr1)
        clear hr1
        have G0 := V.right_good HR0.out
        have G1 := V.right_good HR1.out
        have HGA := Lib.hid G0
        have HGB := Lib.hid G1
        clear G0 G1
        have Rz : VRd w5 ⟨[], none, 0, 0⟩ := ⟨Rd.zero _ _ _ _, by simp⟩
        go_wp2_with fail
        refine (vover_any v0 v1 _ R0 R1 HR0.out HR1.out).mono ?_
        rintro e w6 ⟨rfl, hb⟩
        replace R0 := R0.belowH hb
        replace R1 := R1.belowH hb
        replace Rz := Rz.belowH hb
        replace b := b.trans (hb.mono b.size)
        clear hb
        rcases ho1 : decide (V.join v0.view v1.view = v0.view)
        · have HS : Hid (¬ v0.view = v1.view) := Lib.hid (fun h => of_decide_eq_false ho1 (by rw [← h]; exact V.over_self HGA.out))
          clear ho1
          go_wp2_with fail
          refine (rvsame_any v0 v1 _ R0 R1 (by have hq := right_n R0 HR0.out; omega) (by have hq := right_n R1 HR1.out; omega) (right_fitR R0 HR0.out) (right_fitR R1 HR1.out)).mono ?_
          rw [decide_eq_false HS.out]
          rintro e w7 ⟨rfl, hb⟩
          replace R0 := R0.belowH hb
          replace R1 := R1.belowH hb
          replace Rz := Rz.belowH hb
          replace b := b.trans (hb.mono b.size)
          clear hb
          go_wp2_with fail
          refine (vover_any v0 ⟨[], none, 0, 0⟩ _ R0 Rz HR0.out va_r0).mono ?_
          rw [decide_eq_true (show V.join v0.view (Vw.view ⟨[], none, 0, 0⟩) = v0.view from V.over_nil _)]
          rintro e w8 ⟨rfl, hb⟩
          replace R0 := R0.belowH hb
          replace R1 := R1.belowH hb
          replace Rz := Rz.belowH hb
          replace b := b.trans (hb.mono b.size)
          clear hb
          go_wp2_with fail
          refine (vover_any v0 v0 _ R0 R0 HR0.out HR0.out).mono ?_
          rw [decide_eq_true (show V.join v0.view v0.view = v0.view from V.over_self HGA.out)]
          rintro e w9 ⟨rfl, hb⟩
          replace R0 := R0.belowH hb
          replace R1 := R1.belowH hb
          replace Rz := Rz.belowH hb
          replace b := b.trans (hb.mono b.size)
          clear hb
          by_cases hz : v1.n = 0
          · have hzb : ((v1.n : Int) == 0) = true := beq_iff_eq.2 (by omega)
            clear hz
            go_wp2
            go_ret
            exact ⟨rfl, b⟩
          · have hzb : ((v1.n : Int) == 0) = false := beq_eq_false_iff_ne.2 (by omega)
            have HZ := Lib.hid hz
            clear hz
            go_wp2_with fail
            refine (vover_any ⟨[], none, 0, 0⟩ v1 _ Rz R1 va_r0 HR1.out).mono ?_
            rw [decide_eq_false (show ¬ V.join (Vw.view ⟨[], none, 0, 0⟩) v1.view = Vw.view ⟨[], none, 0, 0⟩ from fun h => HZ.out (by have hq := R1.viewlen; rw [V.nil_over HGB.out h] at hq; exact hq.symm))]
            rintro e w10 ⟨rfl, hb⟩
            replace R0 := R0.belowH hb
            replace R1 := R1.belowH hb
            replace Rz := Rz.belowH hb
            replace b := b.trans (hb.mono b.size)
            clear hb
            go_wp2
            go_ret
            exact ⟨rfl, b⟩
        · have HO1 := Lib.hid (of_decide_eq_true ho1)
          clear ho1
          go_wp2_with fail
          refine (vover_any v1 v0 _ R1 R0 HR1.out HR0.out).mono ?_
          rintro e w7 ⟨rfl, hb⟩
          replace R0 := R0.belowH hb
          replace R1 := R1.belowH hb
          replace Rz := Rz.belowH hb
          replace b := b.trans (hb.mono b.size)
          clear hb
          rcases ho2 : decide (V.join v1.view v0.view = v1.view)
          · have HS : Hid (¬ v0.view = v1.view) := Lib.hid (fun h => of_decide_eq_false ho2 (by rw [← h]; exact V.over_self HGA.out))
            clear ho2
            go_wp2_with fail
            refine (rvsame_any v0 v1 _ R0 R1 (by have hq := right_n R0 HR0.out; omega) (by have hq := right_n R1 HR1.out; omega) (right_fitR R0 HR0.out) (right_fitR R1 HR1.out)).mono ?_
            rw [decide_eq_false HS.out]
            rintro e w8 ⟨rfl, hb⟩
            replace R0 := R0.belowH hb
            replace R1 := R1.belowH hb
            replace Rz := Rz.belowH hb
            replace b := b.trans (hb.mono b.size)
            clear hb
            go_wp2_with fail
            refine (vover_any v0 ⟨[], none, 0, 0⟩ _ R0 Rz HR0.out va_r0).mono ?_
            rw [decide_eq_true (show V.join v0.view (Vw.view ⟨[], none, 0, 0⟩) = v0.view from V.over_nil _)]
            rintro e w9 ⟨rfl, hb⟩
            replace R0 := R0.belowH hb
            replace R1 := R1.belowH hb
            replace Rz := Rz.belowH hb
            replace b := b.trans (hb.mono b.size)
            clear hb
            go_wp2_with fail
            refine (vover_any v0 v0 _ R0 R0 HR0.out HR0.out).mono ?_
            rw [decide_eq_true (show V.join v0.view v0.view = v0.view from V.over_self HGA.out)]
            rintro e w10 ⟨rfl, hb⟩
            replace R0 := R0.belowH hb
            replace R1 := R1.belowH hb
            replace Rz := Rz.belowH hb
            replace b := b.trans (hb.mono b.size)
            clear hb
            by_cases hz : v1.n = 0
            · have hzb : ((v1.n : Int) == 0) = true := beq_iff_eq.2 (by omega)
              clear hz
              go_wp2
              go_ret
              exact ⟨rfl, b⟩
            · have hzb : ((v1.n : Int) == 0) = false := beq_eq_false_iff_ne.2 (by omega)
              have HZ := Lib.hid hz
              clear hz
              go_wp2_with fail
              refine (vover_any ⟨[], none, 0, 0⟩ v1 _ Rz R1 va_r0 HR1.out).mono ?_
              rw [decide_eq_false (show ¬ V.join (Vw.view ⟨[], none, 0, 0⟩) v1.view = Vw.view ⟨[], none, 0, 0⟩ from fun h => HZ.out (by have hq := R1.viewlen; rw [V.nil_over HGB.out h] at hq; exact hq.symm))]
              rintro e w11 ⟨rfl, hb⟩
              replace R0 := R0.belowH hb
              replace R1 := R1.belowH hb
              replace Rz := Rz.belowH hb
              replace b := b.trans (hb.mono b.size)
              clear hb
              go_wp2
              go_ret
              exact ⟨rfl, b⟩
          · have HS : Hid (v0.view = v1.view) := Lib.hid (V.over_antisymm HGA.out HGB.out HO1.out (show V.join v1.view v0.view = v1.view from of_decide_eq_true ho2))
            clear ho2
            go_wp2_with fail
            refine (rvsame_any v0 v1 _ R0 R1 (by have hq := right_n R0 HR0.out; omega) (by have hq := right_n R1 HR1.out; omega) (right_fitR R0 HR0.out) (right_fitR R1 HR1.out)).mono ?_
            rw [decide_eq_true HS.out]
            rintro e w8 ⟨rfl, hb⟩
            replace R0 := R0.belowH hb
            replace R1 := R1.belowH hb
            replace Rz := Rz.belowH hb
            replace b := b.trans (hb.mono b.size)
            clear hb
            go_wp2_with fail
            refine (vover_any v0 ⟨[], none, 0, 0⟩ _ R0 Rz HR0.out va_r0).mono ?_
            rw [decide_eq_true (show V.join v0.view (Vw.view ⟨[], none, 0, 0⟩) = v0.view from V.over_nil _)]
            rintro e w9 ⟨rfl, hb⟩
            replace R0 := R0.belowH hb
            replace R1 := R1.belowH hb
            replace Rz := Rz.belowH hb
            replace b := b.trans (hb.mono b.size)
            clear hb
            go_wp2_with fail
            refine (vover_any v0 v0 _ R0 R0 HR0.out HR0.out).mono ?_
            rw [decide_eq_true (show V.join v0.view v0.view = v0.view from V.over_self HGA.out)]
            rintro e w10 ⟨rfl, hb⟩
            replace R0 := R0.belowH hb
            replace R1 := R1.belowH hb
            replace Rz := Rz.belowH hb
            replace b := b.trans (hb.mono b.size)
            clear hb
            by_cases hz : v1.n = 0
            · have hzb : ((v1.n : Int) == 0) = true := beq_iff_eq.2 (by omega)
              clear hz
              go_wp2
              go_ret
              exact ⟨rfl, b⟩
            · have hzb : ((v1.n : Int) == 0) = false := beq_eq_false_iff_ne.2 (by omega)
              have HZ := Lib.hid hz
              clear hz
              go_wp2_with fail
              refine (vover_any ⟨[], none, 0, 0⟩ v1 _ Rz R1 va_r0 HR1.out).mono ?_
              rw [decide_eq_false (show ¬ V.join (Vw.view ⟨[], none, 0, 0⟩) v1.view = Vw.view ⟨[], none, 0, 0⟩ from fun h => HZ.out (by have hq := R1.viewlen; rw [V.nil_over HGB.out h] at hq; exact hq.symm))]
              rintro e w11 ⟨rfl, hb⟩
              replace R0 := R0.belowH hb
              replace R1 := R1.belowH hb
              replace Rz := Rz.belowH hb
              replace b := b.trans (hb.mono b.size)
              clear hb
              go_wp2
              go_ret
              exact ⟨rfl, b⟩
  · go_wp2
    go_ret
    exact ⟨rfl, b⟩
end Go.Proofs.Ytpfkgddcoancnaa
