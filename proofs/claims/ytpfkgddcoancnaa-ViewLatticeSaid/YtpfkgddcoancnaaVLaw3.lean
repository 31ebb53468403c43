/- ViewLattice walks. -/
import Derived.Test.YtpfkgddcoancnaaVAlive
namespace Go.Proofs.Ytpfkgddcoancnaa
set_option linter.unusedVariables false
set_option linter.unusedSimpArgs false
open Go.RowKit

set_option maxHeartbeats 8000000 in
set_option maxRecDepth 100000 in
theorem law_ViewLattice (v0 v1 v2 : Vw) (W : World) (t0 : VIn W v0) (t1 : VIn W v1) (t2 : VIn W v2) :
    Calls Try.prog 5 #[vval v0, vval v1, vval v2] W fun e w' => e = .returned (.bool true) ∧ Below W.heap.size W w' := by
  have R0 := t0.1
  have HK0 : Hid (v0.n * 48 ≤ 140737488351232 ∧ ∀ x ∈ v0.l, x.v.n * 32 ≤ 140737488351232 ∧ ∀ y ∈ x.v.s.apps, y.val.length ≤ 140737488351232) := Lib.hid ⟨t0.2.2.1, fun x hx => (t0.2.2.2 x hx).1⟩
  clear t0
  have R1 := t1.1
  have HK1 : Hid (v1.n * 48 ≤ 140737488351232 ∧ ∀ x ∈ v1.l, x.v.n * 32 ≤ 140737488351232 ∧ ∀ y ∈ x.v.s.apps, y.val.length ≤ 140737488351232) := Lib.hid ⟨t1.2.2.1, fun x hx => (t1.2.2.2 x hx).1⟩
  clear t1
  have R2 := t2.1
  have HK2 : Hid (v2.n * 48 ≤ 140737488351232 ∧ ∀ x ∈ v2.l, x.v.n * 32 ≤ 140737488351232 ∧ ∀ y ∈ x.v.s.apps, y.val.length ≤ 140737488351232) := Lib.hid ⟨t2.2.2.1, fun x hx => (t2.2.2.2 x hx).1⟩
  clear t2
  simp only [vval]
  have b := Below.refl W.heap.size W
  go_enter Try.func5, Try.ntmps5
  go_wp2_with fail
  refine (alive_any _).mono ?_
  rintro e w2 ⟨rfl, hb⟩
  replace R0 := R0.belowH hb
  replace R1 := R1.belowH hb
  replace R2 := R2.belowH hb
  replace b := b.trans (hb.mono b.size)
  clear hb
  have LR := Rd.lit w2 #[.slice v0.A v0.n v0.c, .slice v1.A v1.n v1.c, .slice v2.A v2.n v2.c] 22 1 3 rfl
  replace R0 := R0.allocH (.cells #[.slice v0.A v0.n v0.c, .slice v1.A v1.n v1.c, .slice v2.A v2.n v2.c] 22)
  replace R1 := R1.allocH (.cells #[.slice v0.A v0.n v0.c, .slice v1.A v1.n v1.c, .slice v2.A v2.n v2.c] 22)
  replace R2 := R2.allocH (.cells #[.slice v0.A v0.n v0.c, .slice v1.A v1.n v1.c, .slice v2.A v2.n v2.c] 22)
  have LB := Box.new w2 #[.slice v0.A v0.n v0.c, .slice v1.A v1.n v1.c, .slice v2.A v2.n v2.c] 22
  replace b := b.alloc b.size (.cells #[.slice v0.A v0.n v0.c, .slice v1.A v1.n v1.c, .slice v2.A v2.n v2.c] 22)
  clear LB
  go_wp2_with fail
  refine (greatvs_any [v0, v1, v2] _ 3 3 _ _ LR (by simp) (by omega) (fun v hv => by simp at hv; rcases hv with rfl | rfl | rfl <;> first | exact ⟨R0, HK0.out⟩ | exact ⟨R1, HK1.out⟩ | exact ⟨R2, HK2.out⟩)).mono ?_
  rintro e w3 ⟨rfl, hb⟩
  replace R0 := R0.belowH hb
  replace R1 := R1.belowH hb
  replace R2 := R2.belowH hb
  replace b := b.trans (hb.mono b.size)
  clear hb
  clear LR
  rcases hgr : greatvs [v0, v1, v2]
  · skip
    simp only [greatvs, List.any_cons, List.any_nil, Bool.or_false, Bool.or_eq_false_iff] at hgr
    have HG0 := Lib.hid (vgreat_small R0 hgr.1)
    have HG1 := Lib.hid (vgreat_small R1 hgr.2.1)
    have HG2 := Lib.hid (vgreat_small R2 hgr.2.2)
    clear hgr
    go_wp2_with fail
    refine (rvright_any v0  _ R0 (by have hq := HG0.out.1; omega) HG0.out.2).mono ?_
    rintro e w4 ⟨rfl, hb⟩
    replace R0 := R0.belowH hb
    replace R1 := R1.belowH hb
    replace R2 := R2.belowH hb
    replace b := b.trans (hb.mono b.size)
    clear hb
    rcases hr0 : vrightB v0.view
    · go_wp2
      go_ret
      exact ⟨rfl, b⟩
    · skip
      have HR0 := Lib.hid (vrightB_out hr0)
      clear hr0
      go_wp2_with fail
      refine (rvright_any v1  _ R1 (by have hq := HG1.out.1; omega) HG1.out.2).mono ?_
      rintro e w5 ⟨rfl, hb⟩
      replace R0 := R0.belowH hb
      replace R1 := R1.belowH hb
      replace R2 := R2.belowH hb
      replace b := b.trans (hb.mono b.size)
      clear hb
      rcases hr1 : vrightB v1.view
      · go_wp2
        go_ret
        exact ⟨rfl, b⟩
      · skip
        have HR1 := Lib.hid (vrightB_out hr1)
        clear hr1
        go_wp2_with fail
        refine (rvright_any v2  _ R2 (by have hq := HG2.out.1; omega) HG2.out.2).mono ?_
        rintro e w6 ⟨rfl, hb⟩
        replace R0 := R0.belowH hb
        replace R1 := R1.belowH hb
        replace R2 := R2.belowH hb
        replace b := b.trans (hb.mono b.size)
        clear hb
        rcases hr2 : vrightB v2.view
        · go_wp2
          go_ret
          exact ⟨rfl, b⟩
        · skip
          have HR2 := Lib.hid (vrightB_out hr2)
          clear hr2
          have HG02 := Lib.hid (V.right_good HR0.out)
          have HG12 := Lib.hid (V.right_good HR1.out)
          have HG22 := Lib.hid (V.right_good HR2.out)
          go_wp2_with fail
          refine (vjoin_any v0 v1 _ R0 R1 HR0.out HR1.out).mono ?_
          rintro e w7 ⟨Ux, rfl, hv, hown, hb⟩
          have Hx : Hid (Ux.view = V.join v0.view v1.view) := Lib.hid hv
          have Rx := hown.vrd
          clear hv hown
          replace R0 := R0.belowH hb
          replace R1 := R1.belowH hb
          replace R2 := R2.belowH hb
          replace b := b.trans (hb.mono b.size)
          clear hb
          have HRx : Hid (V.right Ux.view) := Lib.hid (by rw [Hx.out]; exact V.join_right (HR0.out) (HR1.out))
          simp only [vval]
          go_wp2_with fail
          refine (vjoin_any Ux v2 _ Rx R2 HRx.out HR2.out).mono ?_
          rintro e w8 ⟨Uy, rfl, hv, hown, hb⟩
          have Hy : Hid (Uy.view = V.join Ux.view v2.view) := Lib.hid hv
          have Ry := hown.vrd
          clear hv hown
          replace R0 := R0.belowH hb
          replace R1 := R1.belowH hb
          replace R2 := R2.belowH hb
          replace Rx := Rx.belowH hb
          replace b := b.trans (hb.mono b.size)
          clear hb
          have HRy : Hid (V.right Uy.view) := Lib.hid (by rw [Hy.out]; exact V.join_right (HRx.out) (HR2.out))
          simp only [vval]
          go_wp2_with fail
          refine (vjoin_any v2 v1 _ R2 R1 HR2.out HR1.out).mono ?_
          rintro e w9 ⟨Up, rfl, hv, hown, hb⟩
          have Hp : Hid (Up.view = V.join v2.view v1.view) := Lib.hid hv
          have Rp := hown.vrd
          clear hv hown
          replace R0 := R0.belowH hb
          replace R1 := R1.belowH hb
          replace R2 := R2.belowH hb
          replace Rx := Rx.belowH hb
          replace Ry := Ry.belowH hb
          replace b := b.trans (hb.mono b.size)
          clear hb
          have HRp : Hid (V.right Up.view) := Lib.hid (by rw [Hp.out]; exact V.join_right (HR2.out) (HR1.out))
          simp only [vval]
          go_wp2_with fail
          refine (vjoin_any v0 Up _ R0 Rp HR0.out HRp.out).mono ?_
          rintro e w10 ⟨Uq, rfl, hv, hown, hb⟩
          have Hq : Hid (Uq.view = V.join v0.view Up.view) := Lib.hid hv
          have Rq := hown.vrd
          clear hv hown
          replace R0 := R0.belowH hb
          replace R1 := R1.belowH hb
          replace R2 := R2.belowH hb
          replace Rx := Rx.belowH hb
          replace Ry := Ry.belowH hb
          replace Rp := Rp.belowH hb
          replace b := b.trans (hb.mono b.size)
          clear hb
          have HRq : Hid (V.right Uq.view) := Lib.hid (by rw [Hq.out]; exact V.join_right (HR0.out) (HRp.out))
          simp only [vval]
          go_wp2_with fail
          refine (rvjoin_any v0 v1 _ R0 R1 HR0.out HR1.out).mono ?_
          rintro e w11 ⟨Ur, rfl, hv, hown, hb⟩
          have Hr : Hid (Ur.view = V.join v0.view v1.view) := Lib.hid hv
          have Rr := hown.vrd
          clear hv hown
          replace R0 := R0.belowH hb
          replace R1 := R1.belowH hb
          replace R2 := R2.belowH hb
          replace Rx := Rx.belowH hb
          replace Ry := Ry.belowH hb
          replace Rp := Rp.belowH hb
          replace Rq := Rq.belowH hb
          replace b := b.trans (hb.mono b.size)
          clear hb
          have HRr : Hid (V.right Ur.view) := Lib.hid (by rw [Hr.out]; exact V.join_right (HR0.out) (HR1.out))
          simp only [vval]
          go_wp2_with fail
          refine (rvsame_any Ux Ur _ Rx Rr (by have hq := right_n Rx HRx.out; omega) (by have hq := right_n Rr HRr.out; omega) (right_fitR Rx HRx.out) (right_fitR Rr HRr.out)).mono ?_
          rw [decide_eq_true (Hx.out.trans Hr.out.symm)]
          rintro e w12 ⟨rfl, hb⟩
          replace R0 := R0.belowH hb
          replace R1 := R1.belowH hb
          replace R2 := R2.belowH hb
          replace Rx := Rx.belowH hb
          replace Ry := Ry.belowH hb
          replace Rp := Rp.belowH hb
          replace Rq := Rq.belowH hb
          replace Rr := Rr.belowH hb
          replace b := b.trans (hb.mono b.size)
          clear hb
          go_wp2_with fail
          refine (vjoin_any v1 v0 _ R1 R0 HR1.out HR0.out).mono ?_
          rintro e w13 ⟨Ut, rfl, hv, hown, hb⟩
          have Ht : Hid (Ut.view = V.join v1.view v0.view) := Lib.hid hv
          have Rt := hown.vrd
          clear hv hown
          replace R0 := R0.belowH hb
          replace R1 := R1.belowH hb
          replace R2 := R2.belowH hb
          replace Rx := Rx.belowH hb
          replace Ry := Ry.belowH hb
          replace Rp := Rp.belowH hb
          replace Rq := Rq.belowH hb
          replace Rr := Rr.belowH hb
          replace b := b.trans (hb.mono b.size)
          clear hb
          have HRt : Hid (V.right Ut.view) := Lib.hid (by rw [Ht.out]; exact V.join_right (HR1.out) (HR0.out))
          simp only [vval]
          go_wp2_with fail
          refine (rvsame_any Ux Ut _ Rx Rt (by have hq := right_n Rx HRx.out; omega) (by have hq := right_n Rt HRt.out; omega) (right_fitR Rx HRx.out) (right_fitR Rt HRt.out)).mono ?_
          rw [decide_eq_true (Hx.out.trans ((V.join_comm HG02.out HG12.out).trans Ht.out.symm))]
          rintro e w14 ⟨rfl, hb⟩
          replace R0 := R0.belowH hb
          replace R1 := R1.belowH hb
          replace R2 := R2.belowH hb
          replace Rx := Rx.belowH hb
          replace Ry := Ry.belowH hb
          replace Rp := Rp.belowH hb
          replace Rq := Rq.belowH hb
          replace Rr := Rr.belowH hb
          replace Rt := Rt.belowH hb
          replace b := b.trans (hb.mono b.size)
          clear hb
          go_wp2_with fail
          refine (rvsame_any Uy Uq _ Ry Rq (by have hq := right_n Ry HRy.out; omega) (by have hq := right_n Rq HRq.out; omega) (right_fitR Ry HRy.out) (right_fitR Rq HRq.out)).mono ?_
          rw [decide_eq_true (show Uy.view = Uq.view by rw [Hy.out, Hq.out, Hx.out, Hp.out, V.join_assoc HG02.out HG12.out HG22.out, V.join_comm HG22.out HG12.out])]
          rintro e w15 ⟨rfl, hb⟩
          replace R0 := R0.belowH hb
          replace R1 := R1.belowH hb
          replace R2 := R2.belowH hb
          replace Rx := Rx.belowH hb
          replace Ry := Ry.belowH hb
          replace Rp := Rp.belowH hb
          replace Rq := Rq.belowH hb
          replace Rr := Rr.belowH hb
          replace Rt := Rt.belowH hb
          replace b := b.trans (hb.mono b.size)
          clear hb
          go_wp2_with fail
          refine (vjoin_any Ux Ux _ Rx Rx HRx.out HRx.out).mono ?_
          rintro e w16 ⟨Uu, rfl, hv, hown, hb⟩
          have Hu : Hid (Uu.view = V.join Ux.view Ux.view) := Lib.hid hv
          have Ru := hown.vrd
          clear hv hown
          replace R0 := R0.belowH hb
          replace R1 := R1.belowH hb
          replace R2 := R2.belowH hb
          replace Rx := Rx.belowH hb
          replace Ry := Ry.belowH hb
          replace Rp := Rp.belowH hb
          replace Rq := Rq.belowH hb
          replace Rr := Rr.belowH hb
          replace Rt := Rt.belowH hb
          replace b := b.trans (hb.mono b.size)
          clear hb
          have HRu : Hid (V.right Uu.view) := Lib.hid (by rw [Hu.out]; exact V.join_right (HRx.out) (HRx.out))
          simp only [vval]
          go_wp2_with fail
          refine (rvsame_any Uu Ux _ Ru Rx (by have hq := right_n Ru HRu.out; omega) (by have hq := right_n Rx HRx.out; omega) (right_fitR Ru HRu.out) (right_fitR Rx HRx.out)).mono ?_
          rw [decide_eq_true (Hu.out.trans (V.join_self (V.right_good HRx.out)))]
          rintro e w17 ⟨rfl, hb⟩
          replace R0 := R0.belowH hb
          replace R1 := R1.belowH hb
          replace R2 := R2.belowH hb
          replace Rx := Rx.belowH hb
          replace Ry := Ry.belowH hb
          replace Rp := Rp.belowH hb
          replace Rq := Rq.belowH hb
          replace Rr := Rr.belowH hb
          replace Rt := Rt.belowH hb
          replace Ru := Ru.belowH hb
          replace b := b.trans (hb.mono b.size)
          clear hb
          go_wp2_with fail
          refine (vover_any Ux v0 _ Rx R0 HRx.out HR0.out).mono ?_
          rw [decide_eq_true (show V.join Ux.view v0.view = Ux.view by rw [Hx.out]; exact V.over_join HG02.out HG12.out)]
          rintro e w18 ⟨rfl, hb⟩
          replace R0 := R0.belowH hb
          replace R1 := R1.belowH hb
          replace R2 := R2.belowH hb
          replace Rx := Rx.belowH hb
          replace Ry := Ry.belowH hb
          replace Rp := Rp.belowH hb
          replace Rq := Rq.belowH hb
          replace Rr := Rr.belowH hb
          replace Rt := Rt.belowH hb
          replace Ru := Ru.belowH hb
          replace b := b.trans (hb.mono b.size)
          clear hb
          go_wp2_with fail
          refine (vover_any Ux v1 _ Rx R1 HRx.out HR1.out).mono ?_
          rw [decide_eq_true (show V.join Ux.view v1.view = Ux.view by rw [Hx.out]; exact V.over_join2 HG02.out HG12.out)]
          rintro e w19 ⟨rfl, hb⟩
          replace R0 := R0.belowH hb
          replace R1 := R1.belowH hb
          replace R2 := R2.belowH hb
          replace Rx := Rx.belowH hb
          replace Ry := Ry.belowH hb
          replace Rp := Rp.belowH hb
          replace Rq := Rq.belowH hb
          replace Rr := Rr.belowH hb
          replace Rt := Rt.belowH hb
          replace Ru := Ru.belowH hb
          replace b := b.trans (hb.mono b.size)
          clear hb
          go_wp2_with fail
          refine (vright_any Ux  _ Rx (by have hq := right_n Rx HRx.out; omega) (right_fitR Rx HRx.out)).mono ?_
          rw [vrightB_yes HRx.out]
          rintro e w20 ⟨rfl, hb⟩
          replace R0 := R0.belowH hb
          replace R1 := R1.belowH hb
          replace R2 := R2.belowH hb
          replace Rx := Rx.belowH hb
          replace Ry := Ry.belowH hb
          replace Rp := Rp.belowH hb
          replace Rq := Rq.belowH hb
          replace Rr := Rr.belowH hb
          replace Rt := Rt.belowH hb
          replace Ru := Ru.belowH hb
          replace b := b.trans (hb.mono b.size)
          clear hb
          go_wp2_with fail
          refine (vover_any v0 v1 _ R0 R1 HR0.out HR1.out).mono ?_
          rintro e w21 ⟨rfl, hb⟩
          replace R0 := R0.belowH hb
          replace R1 := R1.belowH hb
          replace R2 := R2.belowH hb
          replace Rx := Rx.belowH hb
          replace Ry := Ry.belowH hb
          replace Rp := Rp.belowH hb
          replace Rq := Rq.belowH hb
          replace Rr := Rr.belowH hb
          replace Rt := Rt.belowH hb
          replace Ru := Ru.belowH hb
          replace b := b.trans (hb.mono b.size)
          clear hb
          go_wp2_with fail
          refine (rvover_any v0 v1 _ R0 R1 HR0.out HR1.out).mono ?_
          rintro e w22 ⟨rfl, hb⟩
          replace R0 := R0.belowH hb
          replace R1 := R1.belowH hb
          replace R2 := R2.belowH hb
          replace Rx := Rx.belowH hb
          replace Ry := Ry.belowH hb
          replace Rp := Rp.belowH hb
          replace Rq := Rq.belowH hb
          replace Rr := Rr.belowH hb
          replace Rt := Rt.belowH hb
          replace Ru := Ru.belowH hb
          replace b := b.trans (hb.mono b.size)
          clear hb
          have hbs : (decide (V.join v0.view v1.view = v0.view) == decide (V.join v0.view v1.view = v0.view)) = true := beq_self_eq_true _
          go_wp2_with fail
          refine (vover_any v2 v0 _ R2 R0 HR2.out HR0.out).mono ?_
          rintro e w23 ⟨rfl, hb⟩
          replace R0 := R0.belowH hb
          replace R1 := R1.belowH hb
          replace R2 := R2.belowH hb
          replace Rx := Rx.belowH hb
          replace Ry := Ry.belowH hb
          replace Rp := Rp.belowH hb
          replace Rq := Rq.belowH hb
          replace Rr := Rr.belowH hb
          replace Rt := Rt.belowH hb
          replace Ru := Ru.belowH hb
          replace b := b.trans (hb.mono b.size)
          clear hb
          rcases ho1 : decide (V.join v2.view v0.view = v2.view)
          · clear ho1
            go_wp2
            go_ret
            exact ⟨rfl, b⟩
          · have HO1 := Lib.hid (of_decide_eq_true ho1)
            clear ho1
            go_wp2_with fail
            refine (vover_any v2 v1 _ R2 R1 HR2.out HR1.out).mono ?_
            rintro e w24 ⟨rfl, hb⟩
            replace R0 := R0.belowH hb
            replace R1 := R1.belowH hb
            replace R2 := R2.belowH hb
            replace Rx := Rx.belowH hb
            replace Ry := Ry.belowH hb
            replace Rp := Rp.belowH hb
            replace Rq := Rq.belowH hb
            replace Rr := Rr.belowH hb
            replace Rt := Rt.belowH hb
            replace Ru := Ru.belowH hb
            replace b := b.trans (hb.mono b.size)
            clear hb
            rcases ho2 : decide (V.join v2.view v1.view = v2.view)
            · clear ho2
              go_wp2
              go_ret
              exact ⟨rfl, b⟩
            · have HO2 := Lib.hid (of_decide_eq_true ho2)
              clear ho2
              go_wp2_with fail
              refine (vover_any v2 Ux _ R2 Rx HR2.out HRx.out).mono ?_
              rw [decide_eq_true (show V.join v2.view Ux.view = v2.view by rw [Hx.out]; exact V.over_least HG02.out HG12.out HG22.out HO1.out HO2.out)]
              rintro e w25 ⟨rfl, hb⟩
              replace R0 := R0.belowH hb
              replace R1 := R1.belowH hb
              replace R2 := R2.belowH hb
              replace Rx := Rx.belowH hb
              replace Ry := Ry.belowH hb
              replace Rp := Rp.belowH hb
              replace Rq := Rq.belowH hb
              replace Rr := Rr.belowH hb
              replace Rt := Rt.belowH hb
              replace Ru := Ru.belowH hb
              replace b := b.trans (hb.mono b.size)
              clear hb
              go_wp2
              go_ret
              exact ⟨rfl, b⟩
  · go_wp2
    go_ret
    exact ⟨rfl, b⟩
end Go.Proofs.Ytpfkgddcoancnaa
