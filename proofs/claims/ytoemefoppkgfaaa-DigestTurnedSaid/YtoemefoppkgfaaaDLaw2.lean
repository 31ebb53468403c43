/- DigestTurned walks. -/
import Derived.Test.YtoemefoppkgfaaaDAlive
namespace Go.Proofs.Ytoemefoppkgfaaa
set_option linter.unusedVariables false
set_option linter.unusedSimpArgs false
open Go.RowKit

set_option maxHeartbeats 8000000 in
set_option maxRecDepth 100000 in
theorem law_DigestTurned (v0 v1 : Vw) (W : World) (t0 : VIn W v0) (t1 : VIn W v1) :
    Calls Try.prog 4 #[vval v0, vval v1] W fun e w' => e = .returned (.bool true) ∧ Below W.heap.size W w' := by
  have R0 := t0.1
  have HK0 : Hid (v0.n * 48 ≤ 140737488351232 ∧ ∀ x ∈ v0.l, x.v.n * 32 ≤ 140737488351232 ∧ ∀ y ∈ x.v.s.apps, y.val.length ≤ 140737488351232) := Lib.hid ⟨t0.2.2.1, fun x hx => (t0.2.2.2 x hx).1⟩
  clear t0
  have R1 := t1.1
  have HK1 : Hid (v1.n * 48 ≤ 140737488351232 ∧ ∀ x ∈ v1.l, x.v.n * 32 ≤ 140737488351232 ∧ ∀ y ∈ x.v.s.apps, y.val.length ≤ 140737488351232) := Lib.hid ⟨t1.2.2.1, fun x hx => (t1.2.2.2 x hx).1⟩
  clear t1
  simp only [vval]
  have b := Below.refl W.heap.size W
  go_enter Try.func4, Try.ntmps4
  go_wp2_with fail
  refine (alive_any _).mono ?_
  rintro e w2 ⟨rfl, hb⟩
  replace R0 := R0.belowH hb
  replace R1 := R1.belowH hb
  replace b := b.trans (hb.mono b.size)
  clear hb
  go_wp2_with fail
  refine (rvgreat_any v0 _ R0 HK0.out.1 HK0.out.2).mono ?_
  rintro e w3 ⟨rfl, hb⟩
  replace R0 := R0.belowH hb
  replace R1 := R1.belowH hb
  replace b := b.trans (hb.mono b.size)
  clear hb
  rcases hgr : vgreatB v0.l
  · skip
    have HG0 := Lib.hid (vgreat_small R0 hgr)
    clear hgr
    go_wp2_with fail
    refine (rvgreat_any v1 _ R1 HK1.out.1 HK1.out.2).mono ?_
    rintro e w4 ⟨rfl, hb⟩
    replace R0 := R0.belowH hb
    replace R1 := R1.belowH hb
    replace b := b.trans (hb.mono b.size)
    clear hb
    rcases hgr : vgreatB v1.l
    · skip
      have HG1 := Lib.hid (vgreat_small R1 hgr)
      clear hgr
      go_wp2_with fail
      refine (rvright_any v0  _ R0 (by have hq := HG0.out.1; omega) HG0.out.2).mono ?_
      rintro e w5 ⟨rfl, hb⟩
      replace R0 := R0.belowH hb
      replace R1 := R1.belowH hb
      replace b := b.trans (hb.mono b.size)
      clear hb
      rcases hr0 : vrightB v0.view
      · go_wp2
        go_ret
        exact ⟨rfl, b⟩
      · skip
        have HR0 := Lib.hid (vrightB_out hr0)
        clear hr0
        go_wp2_with fail
        refine (rvright_any v1  _ R1 (by have hq := HG1.out.1; omega) HG1.out.2).mono ?_
        rintro e w6 ⟨rfl, hb⟩
        replace R0 := R0.belowH hb
        replace R1 := R1.belowH hb
        replace b := b.trans (hb.mono b.size)
        clear hb
        rcases hr1 : vrightB v1.view
        · go_wp2
          go_ret
          exact ⟨rfl, b⟩
        · skip
          have HR1 := Lib.hid (vrightB_out hr1)
          clear hr1
          go_wp2_with fail
          refine (dof_any v1 _ R1 HR1.out).mono ?_
          rintro e w7 ⟨Ap, np, cp, rfl, hown, hb⟩
          have Rp : DRd w7 Ap np (D.of v1.view) := Rd.of_own hown
          clear hown
          replace R0 := R0.belowH hb
          replace R1 := R1.belowH hb
          replace b := b.trans (hb.mono b.size)
          clear hb
          have bdp : np ≤ 8 := by have hq := Rp.len; rw [of_len] at hq; have := rightV_len HR1.out; omega
          go_wp2_with fail
          refine (dcompare_any v0 (D.of v1.view) Ap np cp _ R0 Rp HR0.out (D.of_right HR1.out)).mono ?_
          rintro e w8 ⟨Aw, nw, cw, Ag, ng, cg, rfl, hown, hown2, hb⟩
          have Rw : DRd w8 Aw nw (D.wants v0.view (D.of v1.view) 8) := Rd.of_own hown
          have Rg : DRd w8 Ag ng (D.gives v0.view (D.of v1.view) 8) := Rd.of_own hown2
          clear hown hown2
          replace R0 := R0.belowH hb
          replace R1 := R1.belowH hb
          replace Rp := Rp.belowH hb
          replace b := b.trans (hb.mono b.size)
          clear hb
          have bdw : nw ≤ 8 := by have hq := Rw.len; have := D.wants_len ((v0 : Vw).view) ((D.of v1.view)) 8; have := D.gives_len ((v0 : Vw).view) ((D.of v1.view)) 8; omega
          have bdg : ng ≤ 8 := by have hq := Rg.len; have := D.wants_len ((v0 : Vw).view) ((D.of v1.view)) 8; have := D.gives_len ((v0 : Vw).view) ((D.of v1.view)) 8; omega
          go_wp2_with fail
          refine (dof_any v0 _ R0 HR0.out).mono ?_
          rintro e w9 ⟨Aq, nq, cq, rfl, hown, hb⟩
          have Rq : DRd w9 Aq nq (D.of v0.view) := Rd.of_own hown
          clear hown
          replace R0 := R0.belowH hb
          replace R1 := R1.belowH hb
          replace Rp := Rp.belowH hb
          replace Rw := Rw.belowH hb
          replace Rg := Rg.belowH hb
          replace b := b.trans (hb.mono b.size)
          clear hb
          have bdq : nq ≤ 8 := by have hq := Rq.len; rw [of_len] at hq; have := rightV_len HR0.out; omega
          go_wp2_with fail
          refine (dcompare_any v1 (D.of v0.view) Aq nq cq _ R1 Rq HR1.out (D.of_right HR0.out)).mono ?_
          rintro e w10 ⟨Ax, nx, cx, Ay, ny, cy, rfl, hown, hown2, hb⟩
          have Rx : DRd w10 Ax nx (D.wants v1.view (D.of v0.view) 8) := Rd.of_own hown
          have Ry : DRd w10 Ay ny (D.gives v1.view (D.of v0.view) 8) := Rd.of_own hown2
          clear hown hown2
          replace R0 := R0.belowH hb
          replace R1 := R1.belowH hb
          replace Rp := Rp.belowH hb
          replace Rw := Rw.belowH hb
          replace Rg := Rg.belowH hb
          replace Rq := Rq.belowH hb
          replace b := b.trans (hb.mono b.size)
          clear hb
          have bdx : nx ≤ 8 := by have hq := Rx.len; have := D.wants_len ((v1 : Vw).view) ((D.of v0.view)) 8; have := D.gives_len ((v1 : Vw).view) ((D.of v0.view)) 8; omega
          have bdy : ny ≤ 8 := by have hq := Ry.len; have := D.wants_len ((v1 : Vw).view) ((D.of v0.view)) 8; have := D.gives_len ((v1 : Vw).view) ((D.of v0.view)) 8; omega
          go_wp2_with fail
          refine (dof_any v0 _ R0 HR0.out).mono ?_
          rintro e w11 ⟨Ar, nr, cr, rfl, hown, hb⟩
          have Rr : DRd w11 Ar nr (D.of v0.view) := Rd.of_own hown
          clear hown
          replace R0 := R0.belowH hb
          replace R1 := R1.belowH hb
          replace Rp := Rp.belowH hb
          replace Rw := Rw.belowH hb
          replace Rg := Rg.belowH hb
          replace Rq := Rq.belowH hb
          replace Rx := Rx.belowH hb
          replace Ry := Ry.belowH hb
          replace b := b.trans (hb.mono b.size)
          clear hb
          have bdr : nr ≤ 8 := by have hq := Rr.len; rw [of_len] at hq; have := rightV_len HR0.out; omega
          go_wp2_with fail
          refine (dcompare_any v0 (D.of v0.view) Ar nr cr _ R0 Rr HR0.out (D.of_right HR0.out)).mono ?_
          rintro e w12 ⟨Am, nm, cm, Ao, no, co, rfl, hown, hown2, hb⟩
          have Rm : DRd w12 Am nm (D.wants v0.view (D.of v0.view) 8) := Rd.of_own hown
          have Ro : DRd w12 Ao no (D.gives v0.view (D.of v0.view) 8) := Rd.of_own hown2
          clear hown hown2
          replace R0 := R0.belowH hb
          replace R1 := R1.belowH hb
          replace Rp := Rp.belowH hb
          replace Rw := Rw.belowH hb
          replace Rg := Rg.belowH hb
          replace Rq := Rq.belowH hb
          replace Rx := Rx.belowH hb
          replace Ry := Ry.belowH hb
          replace Rr := Rr.belowH hb
          replace b := b.trans (hb.mono b.size)
          clear hb
          have bdm : nm ≤ 8 := by have hq := Rm.len; have := D.wants_len ((v0 : Vw).view) ((D.of v0.view)) 8; have := D.gives_len ((v0 : Vw).view) ((D.of v0.view)) 8; omega
          have bdo : no ≤ 8 := by have hq := Ro.len; have := D.wants_len ((v0 : Vw).view) ((D.of v0.view)) 8; have := D.gives_len ((v0 : Vw).view) ((D.of v0.view)) 8; omega
          obtain rfl : nm = 0 := by have hq := Rm.len; rw [D.wants_self] at hq; exact hq.symm
          obtain rfl : no = 0 := by have hq := Ro.len; rw [D.gives_self] at hq; exact hq.symm
          clear Rm Ro
          go_wp2_with fail
          refine (rdsame_any (D.wants v0.view (D.of v1.view) 8) (D.gives v1.view (D.of v0.view) 8) Aw Ay nw ny cw cy _ Rw Ry (by omega) (by omega)).mono ?_
          rw [decide_eq_true (D.wants_turned v0.view v1.view 8)]
          rintro e w13 ⟨rfl, q, hq⟩
          have hb := below_of_drew hq
          clear hq
          replace R0 := R0.belowH hb
          replace R1 := R1.belowH hb
          replace Rp := Rp.belowH hb
          replace Rw := Rw.belowH hb
          replace Rg := Rg.belowH hb
          replace Rq := Rq.belowH hb
          replace Rx := Rx.belowH hb
          replace Ry := Ry.belowH hb
          replace Rr := Rr.belowH hb
          replace b := b.trans (hb.mono b.size)
          clear hb
          go_wp2_with fail
          refine (rdsame_any (D.gives v0.view (D.of v1.view) 8) (D.wants v1.view (D.of v0.view) 8) Ag Ax ng nx cg cx _ Rg Rx (by omega) (by omega)).mono ?_
          rw [decide_eq_true (D.gives_turned v0.view v1.view 8)]
          rintro e w14 ⟨rfl, q, hq⟩
          have hb := below_of_drew hq
          clear hq
          replace R0 := R0.belowH hb
          replace R1 := R1.belowH hb
          replace Rp := Rp.belowH hb
          replace Rw := Rw.belowH hb
          replace Rg := Rg.belowH hb
          replace Rq := Rq.belowH hb
          replace Rx := Rx.belowH hb
          replace Ry := Ry.belowH hb
          replace Rr := Rr.belowH hb
          replace b := b.trans (hb.mono b.size)
          clear hb
          go_wp2_with fail
          refine (dof_any v0 _ R0 HR0.out).mono ?_
          rintro e w15 ⟨Au, nu, cu, rfl, hown, hb⟩
          have Ru : DRd w15 Au nu (D.of v0.view) := Rd.of_own hown
          clear hown
          replace R0 := R0.belowH hb
          replace R1 := R1.belowH hb
          replace Rp := Rp.belowH hb
          replace Rw := Rw.belowH hb
          replace Rg := Rg.belowH hb
          replace Rq := Rq.belowH hb
          replace Rx := Rx.belowH hb
          replace Ry := Ry.belowH hb
          replace Rr := Rr.belowH hb
          replace b := b.trans (hb.mono b.size)
          clear hb
          have bdu : nu ≤ 8 := by have hq := Ru.len; rw [of_len] at hq; have := rightV_len HR0.out; omega
          go_wp2_with fail
          refine (dright_any (D.of v0.view) Au nu cu _ Ru (by omega)).mono ?_
          rw [drightB_yes (D.of_right HR0.out)]
          rintro e w16 ⟨rfl, hb⟩
          replace R0 := R0.belowH hb
          replace R1 := R1.belowH hb
          replace Rp := Rp.belowH hb
          replace Rw := Rw.belowH hb
          replace Rg := Rg.belowH hb
          replace Rq := Rq.belowH hb
          replace Rx := Rx.belowH hb
          replace Ry := Ry.belowH hb
          replace Rr := Rr.belowH hb
          replace Ru := Ru.belowH hb
          replace b := b.trans (hb.mono b.size)
          clear hb
          go_wp2_with fail
          refine (dright_any (D.wants v0.view (D.of v1.view) 8) Aw nw cw _ Rw (by omega)).mono ?_
          rw [drightB_yes (D.wants_right HR0.out (D.of_right HR1.out) (by omega))]
          rintro e w17 ⟨rfl, hb⟩
          replace R0 := R0.belowH hb
          replace R1 := R1.belowH hb
          replace Rp := Rp.belowH hb
          replace Rw := Rw.belowH hb
          replace Rg := Rg.belowH hb
          replace Rq := Rq.belowH hb
          replace Rx := Rx.belowH hb
          replace Ry := Ry.belowH hb
          replace Rr := Rr.belowH hb
          replace Ru := Ru.belowH hb
          replace b := b.trans (hb.mono b.size)
          clear hb
          go_wp2_with fail
          refine (dright_any (D.gives v0.view (D.of v1.view) 8) Ag ng cg _ Rg (by omega)).mono ?_
          rw [drightB_yes (D.gives_right HR0.out (D.of_right HR1.out) (by omega))]
          rintro e w18 ⟨rfl, hb⟩
          replace R0 := R0.belowH hb
          replace R1 := R1.belowH hb
          replace Rp := Rp.belowH hb
          replace Rw := Rw.belowH hb
          replace Rg := Rg.belowH hb
          replace Rq := Rq.belowH hb
          replace Rx := Rx.belowH hb
          replace Ry := Ry.belowH hb
          replace Rr := Rr.belowH hb
          replace Ru := Ru.belowH hb
          replace b := b.trans (hb.mono b.size)
          clear hb
          go_wp2
          go_ret
          exact ⟨rfl, b⟩
    · go_wp2
      go_ret
      exact ⟨rfl, b⟩
  · go_wp2
    go_ret
    exact ⟨rfl, b⟩
end Go.Proofs.Ytoemefoppkgfaaa
