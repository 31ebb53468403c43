/- LLaw2 (merged). -/
import Derived.Test.YtkabkpeamggnnaaJLAlive
import Derived.Test.YtkabkpeamggnnaaJLRef5
namespace Go.Proofs.Ytkabkpeamggnnaa
set_option linter.unusedVariables false
set_option linter.unusedSimpArgs false
open Go.RowKit

theorem join_none {v : List Nm} (h : V.right v) : V.join [] v = v := by
  refine V.rising_ext (V.join_rising (show V.rising [] from trivial) _) h.2 fun k => ?_
  rw [V.get_join (show V.rising [] from trivial) h.2]
  rfl

set_option maxHeartbeats 8000000 in
set_option maxRecDepth 100000 in
theorem law_DeltaTwice (v0 v1 : Vw) (U2 : Lw) (W : World) (t0 : VIn W v0) (t1 : VIn W v1) (t2 : LIn W U2) :
    Calls Try.prog 6 #[vval v0, vval v1, lval U2] W fun e w' => e = .returned (.bool true) ∧ Below W.heap.size W w' := by
  have R0 := t0.1
  have HK0 : Hid (v0.n * 48 ≤ 140737488351232 ∧ ∀ x ∈ v0.l, x.v.n * 32 ≤ 140737488351232 ∧ ∀ y ∈ x.v.s.apps, y.val.length ≤ 140737488351232) := Lib.hid ⟨t0.2.2.1, fun x hx => (t0.2.2.2 x hx).1⟩
  clear t0
  have R1 := t1.1
  have HK1 : Hid (v1.n * 48 ≤ 140737488351232 ∧ ∀ x ∈ v1.l, x.v.n * 32 ≤ 140737488351232 ∧ ∀ y ∈ x.v.s.apps, y.val.length ≤ 140737488351232) := Lib.hid ⟨t1.2.2.1, fun x hx => (t1.2.2.2 x hx).1⟩
  clear t1
  have R2 := t2.1
  have HK2 : Hid (U2.n * 56 ≤ 140737488351232 ∧ ∀ x ∈ U2.l, x.v.n * 32 ≤ 140737488351232 ∧ ∀ y ∈ x.v.s.apps, y.val.length ≤ 140737488351232) := Lib.hid ⟨t2.2.2.1, t2.2.2.2⟩
  clear t2
  simp only [vval, lval]
  have b := Below.refl W.heap.size W
  go_enter Try.func6, Try.ntmps6
  go_wp2_with fail
  refine (alive_any _).mono ?_
  rintro e w2 ⟨rfl, hb⟩
  replace R0 := R0.belowH hb
  replace R1 := R1.belowH hb
  replace R2 := R2.belowH hb
  replace b := b.trans (hb.mono b.size)
  clear hb
  go_wp2_with fail
  refine (rvgreat_any v0 _ R0 HK0.out.1 HK0.out.2).mono ?_
  rintro e w3 ⟨rfl, hb⟩
  replace R0 := R0.belowH hb
  replace R1 := R1.belowH hb
  replace R2 := R2.belowH hb
  replace b := b.trans (hb.mono b.size)
  clear hb
  rcases hgr : vgreatB v0.l
  · skip
    have HG0 := Lib.hid (vgreat_small R0 hgr)
    clear hgr
    go_wp2_with fail
    refine (rvgreat_any v1 _ R1 HK1.out.1 HK1.out.2).mono ?_
    rintro e w4 ⟨rfl, hb⟩
    replace R0 := R0.belowH hb
    replace R1 := R1.belowH hb
    replace R2 := R2.belowH hb
    replace b := b.trans (hb.mono b.size)
    clear hb
    rcases hgr : vgreatB v1.l
    · skip
      have HG1 := Lib.hid (vgreat_small R1 hgr)
      clear hgr
      go_wp2_with fail
      refine (rlgreat_any U2 _ R2 HK2.out.1 HK2.out.2).mono ?_
      rintro e w5 ⟨rfl, hb⟩
      replace R0 := R0.belowH hb
      replace R1 := R1.belowH hb
      replace R2 := R2.belowH hb
      replace b := b.trans (hb.mono b.size)
      clear hb
      rcases hgr : lgreatB U2.l
      · skip
        have HG2 := Lib.hid (lgreat_small R2 hgr)
        clear hgr
        go_wp2_with fail
        refine (rvright_any v0  _ R0 (by have hq := HG0.out.1; omega) HG0.out.2).mono ?_
        rintro e w6 ⟨rfl, hb⟩
        replace R0 := R0.belowH hb
        replace R1 := R1.belowH hb
        replace R2 := R2.belowH hb
        replace b := b.trans (hb.mono b.size)
        clear hb
        rcases hr0 : vrightB v0.view
        · go_wp2
          go_ret
          exact ⟨rfl, b⟩
        · skip
          have HR0 := Lib.hid (vrightB_out hr0)
          clear hr0
          go_wp2_with fail
          refine (rvright_any v1  _ R1 (by have hq := HG1.out.1; omega) HG1.out.2).mono ?_
          rintro e w7 ⟨rfl, hb⟩
          replace R0 := R0.belowH hb
          replace R1 := R1.belowH hb
          replace R2 := R2.belowH hb
          replace b := b.trans (hb.mono b.size)
          clear hb
          rcases hr1 : vrightB v1.view
          · go_wp2
            go_ret
            exact ⟨rfl, b⟩
          · skip
            have HR1 := Lib.hid (vrightB_out hr1)
            clear hr1
            go_wp2_with fail
            refine (rlright_any U2 _ R2 (by have hq := HG2.out.1; omega) HG2.out.2).mono ?_
            rintro e w8 ⟨rfl, hb⟩
            replace R0 := R0.belowH hb
            replace R1 := R1.belowH hb
            replace R2 := R2.belowH hb
            replace b := b.trans (hb.mono b.size)
            clear hb
            rcases hr2 : lrightB U2.dls
            · go_wp2
              go_ret
              exact ⟨rfl, b⟩
            · skip
              have HR2 := Lib.hid (lrightB_out hr2)
              clear hr2
              go_wp2_with fail
              refine (lcapply_any v0 U2 _ R0 R2 HR0.out HR2.out (by have hq := right_nL R2 HR2.out; omega)).mono ?_
              rintro e w9 ⟨Ua, Aan, nan, can, rfl, hv, Ra, Ran, hb⟩
              have Ha : Hid (Ua.view = (L.apply v0.view U2.dls).1) := Lib.hid hv
              clear hv
              replace R0 := R0.belowH hb
              replace R1 := R1.belowH hb
              replace R2 := R2.belowH hb
              replace b := b.trans (hb.mono b.size)
              clear hb
              have HRa : Hid (V.right Ua.view) := Lib.hid (by rw [Ha.out]; exact L.apply_right HR0.out HR2.out)
              simp only [vval]
              go_wp2_with fail
              refine (lcapply_any Ua U2 _ Ra R2 HRa.out HR2.out (by have hq := right_nL R2 HR2.out; omega)).mono ?_
              rintro e w10 ⟨Ub, Abn, nbn, cbn, rfl, hv, Rb, Rbn, hb⟩
              have Hb : Hid (Ub.view = (L.apply Ua.view U2.dls).1) := Lib.hid hv
              clear hv
              replace R0 := R0.belowH hb
              replace R1 := R1.belowH hb
              replace R2 := R2.belowH hb
              replace Ra := Ra.belowH hb
              replace Ran := Ran.belowH hb
              replace b := b.trans (hb.mono b.size)
              clear hb
              have HRb : Hid (V.right Ub.view) := Lib.hid (by rw [Hb.out]; exact L.apply_right HRa.out HR2.out)
              simp only [vval]
              go_wp2_with fail
              refine (lcfull_any v1  _ R1 (by have hq := right_n R1 HR1.out; omega) (right_fitR R1 HR1.out)).mono ?_
              rintro e w11 ⟨Uf, rfl, hv, hown, hb⟩
              have Hf : Hid (Uf.dls = L.full v1.view) := Lib.hid hv
              have Rf := hown.lrd
              clear hv hown
              replace R0 := R0.belowH hb
              replace R1 := R1.belowH hb
              replace R2 := R2.belowH hb
              replace Ra := Ra.belowH hb
              replace Ran := Ran.belowH hb
              replace Rb := Rb.belowH hb
              replace Rbn := Rbn.belowH hb
              replace b := b.trans (hb.mono b.size)
              clear hb
              have HRf : Hid (L.right Uf.dls) := Lib.hid (by rw [Hf.out]; exact L.full_right HR1.out)
              simp only [lval]
              go_wp2_with fail
              refine (lcapply_any v0 Uf _ R0 Rf HR0.out HRf.out (by have hq := right_nL Rf HRf.out; omega)).mono ?_
              rintro e w12 ⟨Uc, Acn, ncn, ccn, rfl, hv, Rc, Rcn, hb⟩
              have Hc : Hid (Uc.view = (L.apply v0.view Uf.dls).1) := Lib.hid hv
              clear hv
              replace R0 := R0.belowH hb
              replace R1 := R1.belowH hb
              replace R2 := R2.belowH hb
              replace Ra := Ra.belowH hb
              replace Ran := Ran.belowH hb
              replace Rb := Rb.belowH hb
              replace Rbn := Rbn.belowH hb
              replace Rf := Rf.belowH hb
              replace b := b.trans (hb.mono b.size)
              clear hb
              have HRc : Hid (V.right Uc.view) := Lib.hid (by rw [Hc.out]; exact L.apply_right HR0.out HRf.out)
              simp only [vval]
              go_wp2_with fail
              refine (lcfull_any v1  _ R1 (by have hq := right_n R1 HR1.out; omega) (right_fitR R1 HR1.out)).mono ?_
              rintro e w13 ⟨Ug, rfl, hv, hown, hb⟩
              have Hg : Hid (Ug.dls = L.full v1.view) := Lib.hid hv
              have Rg := hown.lrd
              clear hv hown
              replace R0 := R0.belowH hb
              replace R1 := R1.belowH hb
              replace R2 := R2.belowH hb
              replace Ra := Ra.belowH hb
              replace Ran := Ran.belowH hb
              replace Rb := Rb.belowH hb
              replace Rbn := Rbn.belowH hb
              replace Rf := Rf.belowH hb
              replace Rc := Rc.belowH hb
              replace Rcn := Rcn.belowH hb
              replace b := b.trans (hb.mono b.size)
              clear hb
              have HRg : Hid (L.right Ug.dls) := Lib.hid (by rw [Hg.out]; exact L.full_right HR1.out)
              simp only [lval]
              have Rz : VRd w13 ⟨[], none, 0, 0⟩ := ⟨Rd.zero _ _ _ _, by simp⟩
              go_wp2_with fail
              refine (lcapply_any ⟨[], none, 0, 0⟩ Ug _ Rz Rg la_r0 HRg.out (by have hq := right_nL Rg HRg.out; omega)).mono ?_
              rintro e w14 ⟨Ud, Adn, ndn, cdn, rfl, hv, Rd, Rdn, hb⟩
              have Hd : Hid (Ud.view = (L.apply (Vw.view ⟨[], none, 0, 0⟩) Ug.dls).1) := Lib.hid hv
              clear hv
              replace R0 := R0.belowH hb
              replace R1 := R1.belowH hb
              replace R2 := R2.belowH hb
              replace Ra := Ra.belowH hb
              replace Ran := Ran.belowH hb
              replace Rb := Rb.belowH hb
              replace Rbn := Rbn.belowH hb
              replace Rf := Rf.belowH hb
              replace Rc := Rc.belowH hb
              replace Rcn := Rcn.belowH hb
              replace Rg := Rg.belowH hb
              replace Rz := Rz.belowH hb
              replace b := b.trans (hb.mono b.size)
              clear hb
              have HRd : Hid (V.right Ud.view) := Lib.hid (by rw [Hd.out]; exact L.apply_right la_r0 HRg.out)
              simp only [vval]
              have hcn : ncn = v1.n := by have hq := Rcn.len1; rw [Hf.out, L.nodes_full] at hq; rw [← R1.viewlen, ← hq]; simp [I]
              have hbn : ((ncn : Int) == (v1.n : Int)) = true := by rw [hcn]; exact beq_self_eq_true _
              clear hcn
              go_wp2_with fail
              refine (rvsame_any Ub Ua _ Rb Ra (by have hq := right_n Rb HRb.out; omega) (by have hq := right_n Ra HRa.out; omega) (right_fitR Rb HRb.out) (right_fitR Ra HRa.out)).mono ?_
              rw [decide_eq_true (show Ub.view = Ua.view by rw [Hb.out, Ha.out]; exact L.apply_twice (V.right_good HR0.out) HR2.out)]
              rintro e w15 ⟨rfl, hb⟩
              replace R0 := R0.belowH hb
              replace R1 := R1.belowH hb
              replace R2 := R2.belowH hb
              replace Ra := Ra.belowH hb
              replace Ran := Ran.belowH hb
              replace Rb := Rb.belowH hb
              replace Rbn := Rbn.belowH hb
              replace Rf := Rf.belowH hb
              replace Rc := Rc.belowH hb
              replace Rcn := Rcn.belowH hb
              replace Rg := Rg.belowH hb
              replace Rz := Rz.belowH hb
              replace Rd := Rd.belowH hb
              replace Rdn := Rdn.belowH hb
              replace b := b.trans (hb.mono b.size)
              clear hb
              go_wp2_with fail
              refine (rvjoin_any v0 v1 _ R0 R1 HR0.out HR1.out).mono ?_
              rintro e w16 ⟨Uj, rfl, hv, hown, hb⟩
              have Hj : Hid (Uj.view = V.join v0.view v1.view) := Lib.hid hv
              have Rj := hown.vrd
              clear hv hown
              replace R0 := R0.belowH hb
              replace R1 := R1.belowH hb
              replace R2 := R2.belowH hb
              replace Ra := Ra.belowH hb
              replace Ran := Ran.belowH hb
              replace Rb := Rb.belowH hb
              replace Rbn := Rbn.belowH hb
              replace Rf := Rf.belowH hb
              replace Rc := Rc.belowH hb
              replace Rcn := Rcn.belowH hb
              replace Rg := Rg.belowH hb
              replace Rz := Rz.belowH hb
              replace Rd := Rd.belowH hb
              replace Rdn := Rdn.belowH hb
              replace b := b.trans (hb.mono b.size)
              clear hb
              have HRj : Hid (V.right Uj.view) := Lib.hid (by rw [Hj.out]; exact V.join_right HR0.out HR1.out)
              simp only [vval]
              go_wp2_with fail
              refine (rvsame_any Uc Uj _ Rc Rj (by have hq := right_n Rc HRc.out; omega) (by have hq := right_n Rj HRj.out; omega) (right_fitR Rc HRc.out) (right_fitR Rj HRj.out)).mono ?_
              rw [decide_eq_true (show Uc.view = Uj.view by rw [Hc.out, Hj.out, Hf.out]; exact L.apply_full (V.right_good HR0.out) (V.right_good HR1.out))]
              rintro e w17 ⟨rfl, hb⟩
              replace R0 := R0.belowH hb
              replace R1 := R1.belowH hb
              replace R2 := R2.belowH hb
              replace Ra := Ra.belowH hb
              replace Ran := Ran.belowH hb
              replace Rb := Rb.belowH hb
              replace Rbn := Rbn.belowH hb
              replace Rf := Rf.belowH hb
              replace Rc := Rc.belowH hb
              replace Rcn := Rcn.belowH hb
              replace Rg := Rg.belowH hb
              replace Rz := Rz.belowH hb
              replace Rd := Rd.belowH hb
              replace Rdn := Rdn.belowH hb
              replace Rj := Rj.belowH hb
              replace b := b.trans (hb.mono b.size)
              clear hb
              go_wp2_with fail
              refine (rvsame_any Ud v1 _ Rd R1 (by have hq := right_n Rd HRd.out; omega) (by have hq := right_n R1 HR1.out; omega) (right_fitR Rd HRd.out) (right_fitR R1 HR1.out)).mono ?_
              rw [decide_eq_true (show Ud.view = v1.view by rw [Hd.out, Hg.out]; exact (L.apply_full (V.right_good la_r0) (V.right_good HR1.out)).trans (join_none HR1.out))]
              rintro e w18 ⟨rfl, hb⟩
              replace R0 := R0.belowH hb
              replace R1 := R1.belowH hb
              replace R2 := R2.belowH hb
              replace Ra := Ra.belowH hb
              replace Ran := Ran.belowH hb
              replace Rb := Rb.belowH hb
              replace Rbn := Rbn.belowH hb
              replace Rf := Rf.belowH hb
              replace Rc := Rc.belowH hb
              replace Rcn := Rcn.belowH hb
              replace Rg := Rg.belowH hb
              replace Rz := Rz.belowH hb
              replace Rd := Rd.belowH hb
              replace Rdn := Rdn.belowH hb
              replace Rj := Rj.belowH hb
              replace b := b.trans (hb.mono b.size)
              clear hb
              go_wp2
              go_ret
              exact ⟨rfl, b⟩
      · go_wp2
        go_ret
        exact ⟨rfl, b⟩
    · go_wp2
      go_ret
      exact ⟨rfl, b⟩
  · go_wp2
    go_ret
    exact ⟨rfl, b⟩
end Go.Proofs.Ytkabkpeamggnnaa

