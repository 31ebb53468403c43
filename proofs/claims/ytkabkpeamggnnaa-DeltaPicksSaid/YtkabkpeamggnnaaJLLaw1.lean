/- LLaw1 (merged). -/
import Derived.Test.YtkabkpeamggnnaaJLAlive
import Derived.Test.YtkabkpeamggnnaaJDRef3
namespace Go.Proofs.Ytkabkpeamggnnaa
set_option linter.unusedVariables false
set_option linter.unusedSimpArgs false
open Go.RowKit

set_option maxHeartbeats 8000000 in
set_option maxRecDepth 100000 in
theorem law_DeltaPicks (v0 : Vw) (A1 : Option Addr) (n1 c1 : Nat) (l1 : List Dg) (W : World) (t0 : VIn W v0) (t1 : DIn W A1 n1 c1 l1) :
    Calls Try.prog 3 #[vval v0, .slice A1 n1 c1] W fun e w' => e = .returned (.bool true) ∧ Below W.heap.size W w' := by
  have R0 := t0.1
  have HK0 : Hid (v0.n * 48 ≤ 140737488351232 ∧ ∀ x ∈ v0.l, x.v.n * 32 ≤ 140737488351232 ∧ ∀ y ∈ x.v.s.apps, y.val.length ≤ 140737488351232) := Lib.hid ⟨t0.2.2.1, fun x hx => (t0.2.2.2 x hx).1⟩
  clear t0
  have R1 := t1.1
  clear t1
  simp only [vval]
  have b := Below.refl W.heap.size W
  go_enter Try.func3, Try.ntmps3
  go_wp2_with fail
  refine (alive_any _).mono ?_
  rintro e w2 ⟨rfl, hb⟩
  replace R0 := R0.belowH hb
  replace R1 := R1.belowH hb
  replace b := b.trans (hb.mono b.size)
  clear hb
  go_wp2_with fail
  refine (rvgreat_any v0 _ R0 HK0.out.1 HK0.out.2).mono ?_
  rintro e w3 ⟨rfl, hb⟩
  replace R0 := R0.belowH hb
  replace R1 := R1.belowH hb
  replace b := b.trans (hb.mono b.size)
  clear hb
  rcases hgr : vgreatB v0.l
  · skip
    have HG0 := Lib.hid (vgreat_small R0 hgr)
    clear hgr
    by_cases hg1 : 40 < n1
    · have hgb : decide ((40 : Int) < (n1 : Int)) = true := decide_eq_true (by omega)
      go_wp2
      go_ret
      exact ⟨rfl, b⟩
    · have hgb1 : decide ((40 : Int) < (n1 : Int)) = false := decide_eq_false (by omega)
      go_wp2_with fail
      refine (rvright_any v0  _ R0 (by have hq := HG0.out.1; omega) HG0.out.2).mono ?_
      rintro e w4 ⟨rfl, hb⟩
      replace R0 := R0.belowH hb
      replace R1 := R1.belowH hb
      replace b := b.trans (hb.mono b.size)
      clear hb
      rcases hr0 : vrightB v0.view
      · go_wp2
        go_ret
        exact ⟨rfl, b⟩
      · skip
        have HR0 := Lib.hid (vrightB_out hr0)
        clear hr0
        go_wp2_with fail
        refine (rdright_any l1 A1 n1 c1 _ R1 (by omega)).mono ?_
        rintro e w5 ⟨rfl, hb⟩
        replace R0 := R0.belowH hb
        replace R1 := R1.belowH hb
        replace b := b.trans (hb.mono b.size)
        clear hb
        rcases hr1 : drightB l1
        · go_wp2
          go_ret
          exact ⟨rfl, b⟩
        · skip
          have HR1 := Lib.hid (drightB_out hr1)
          clear hr1
          go_wp2_with fail
          refine (lcpick_any v0 l1 A1 n1 c1 _ R0 R1 (by have hq := right_n R0 HR0.out; omega) (by omega) (right_fitR R0 HR0.out)).mono ?_
          rintro e w6 ⟨Up, rfl, hv, hown, hb⟩
          have Hp : Hid (Up.dls = L.pick v0.view l1) := Lib.hid hv
          have Rp := hown.lrd
          clear hv hown
          replace R0 := R0.belowH hb
          replace R1 := R1.belowH hb
          replace b := b.trans (hb.mono b.size)
          clear hb
          have HRp : Hid (L.right Up.dls) := Lib.hid (by rw [Hp.out]; exact L.pick_right HR0.out HR1.out)
          simp only [lval]
          go_wp2_with fail
          refine (rlpick_any v0 l1 A1 n1 c1 _ R0 R1 (by have hq := right_n R0 HR0.out; omega) (by omega) (right_fitR R0 HR0.out)).mono ?_
          rintro e w7 ⟨Uq, rfl, hv, hown, hb⟩
          have Hq : Hid (Uq.dls = L.pick v0.view l1) := Lib.hid hv
          have Rq := hown.lrd
          clear hv hown
          replace R0 := R0.belowH hb
          replace R1 := R1.belowH hb
          replace Rp := Rp.belowH hb
          replace b := b.trans (hb.mono b.size)
          clear hb
          have HRq : Hid (L.right Uq.dls) := Lib.hid (by rw [Hq.out]; exact L.pick_right HR0.out HR1.out)
          simp only [lval]
          go_wp2_with fail
          refine (rlsame_any Up Uq _ Rp Rq (by have hq := right_nL Rp HRp.out; omega) (by have hq := right_nL Rq HRq.out; omega) (right_fitL Rp HRp.out) (right_fitL Rq HRq.out)).mono ?_
          rw [decide_eq_true (show Up.dls = Uq.dls from Hp.out.trans Hq.out.symm)]
          rintro e w8 ⟨rfl, hb⟩
          replace R0 := R0.belowH hb
          replace R1 := R1.belowH hb
          replace Rp := Rp.belowH hb
          replace Rq := Rq.belowH hb
          replace b := b.trans (hb.mono b.size)
          clear hb
          go_wp2_with fail
          refine (lcfull_any v0  _ R0 (by have hq := right_n R0 HR0.out; omega) (right_fitR R0 HR0.out)).mono ?_
          rintro e w9 ⟨Uf, rfl, hv, hown, hb⟩
          have Hf : Hid (Uf.dls = L.full v0.view) := Lib.hid hv
          have Rf := hown.lrd
          clear hv hown
          replace R0 := R0.belowH hb
          replace R1 := R1.belowH hb
          replace Rp := Rp.belowH hb
          replace Rq := Rq.belowH hb
          replace b := b.trans (hb.mono b.size)
          clear hb
          have HRf : Hid (L.right Uf.dls) := Lib.hid (by rw [Hf.out]; exact L.full_right HR0.out)
          simp only [lval]
          go_wp2_with fail
          refine (rlfull_any v0  _ R0 (by have hq := right_n R0 HR0.out; omega) (right_fitR R0 HR0.out)).mono ?_
          rintro e w10 ⟨Ug, rfl, hv, hown, hb⟩
          have Hg : Hid (Ug.dls = L.full v0.view) := Lib.hid hv
          have Rg := hown.lrd
          clear hv hown
          replace R0 := R0.belowH hb
          replace R1 := R1.belowH hb
          replace Rp := Rp.belowH hb
          replace Rq := Rq.belowH hb
          replace Rf := Rf.belowH hb
          replace b := b.trans (hb.mono b.size)
          clear hb
          have HRg : Hid (L.right Ug.dls) := Lib.hid (by rw [Hg.out]; exact L.full_right HR0.out)
          simp only [lval]
          go_wp2_with fail
          refine (rlsame_any Uf Ug _ Rf Rg (by have hq := right_nL Rf HRf.out; omega) (by have hq := right_nL Rg HRg.out; omega) (right_fitL Rf HRf.out) (right_fitL Rg HRg.out)).mono ?_
          rw [decide_eq_true (show Uf.dls = Ug.dls from Hf.out.trans Hg.out.symm)]
          rintro e w11 ⟨rfl, hb⟩
          replace R0 := R0.belowH hb
          replace R1 := R1.belowH hb
          replace Rp := Rp.belowH hb
          replace Rq := Rq.belowH hb
          replace Rf := Rf.belowH hb
          replace Rg := Rg.belowH hb
          replace b := b.trans (hb.mono b.size)
          clear hb
          go_wp2_with fail
          refine (lcright_any Up _ Rp (by have hq := right_nL Rp HRp.out; omega) (right_fitL Rp HRp.out)).mono ?_
          rw [lrightB_yes HRp.out]
          rintro e w12 ⟨rfl, hb⟩
          replace R0 := R0.belowH hb
          replace R1 := R1.belowH hb
          replace Rp := Rp.belowH hb
          replace Rq := Rq.belowH hb
          replace Rf := Rf.belowH hb
          replace Rg := Rg.belowH hb
          replace b := b.trans (hb.mono b.size)
          clear hb
          go_wp2_with fail
          refine (lcfull_any v0  _ R0 (by have hq := right_n R0 HR0.out; omega) (right_fitR R0 HR0.out)).mono ?_
          rintro e w13 ⟨Uh, rfl, hv, hown, hb⟩
          have Hh : Hid (Uh.dls = L.full v0.view) := Lib.hid hv
          have Rh := hown.lrd
          clear hv hown
          replace R0 := R0.belowH hb
          replace R1 := R1.belowH hb
          replace Rp := Rp.belowH hb
          replace Rq := Rq.belowH hb
          replace Rf := Rf.belowH hb
          replace Rg := Rg.belowH hb
          replace b := b.trans (hb.mono b.size)
          clear hb
          have HRh : Hid (L.right Uh.dls) := Lib.hid (by rw [Hh.out]; exact L.full_right HR0.out)
          simp only [lval]
          go_wp2_with fail
          refine (lcright_any Uh _ Rh (by have hq := right_nL Rh HRh.out; omega) (right_fitL Rh HRh.out)).mono ?_
          rw [lrightB_yes HRh.out]
          rintro e w14 ⟨rfl, hb⟩
          replace R0 := R0.belowH hb
          replace R1 := R1.belowH hb
          replace Rp := Rp.belowH hb
          replace Rq := Rq.belowH hb
          replace Rf := Rf.belowH hb
          replace Rg := Rg.belowH hb
          replace Rh := Rh.belowH hb
          replace b := b.trans (hb.mono b.size)
          clear hb
          go_wp2
          go_ret
          exact ⟨rfl, b⟩
  · go_wp2
    go_ret
    exact ⟨rfl, b⟩
end Go.Proofs.Ytkabkpeamggnnaa

