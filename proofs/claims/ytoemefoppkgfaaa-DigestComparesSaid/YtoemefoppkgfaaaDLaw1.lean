/- DigestCompares walks. -/
import Derived.Test.YtoemefoppkgfaaaDAlive
namespace Go.Proofs.Ytoemefoppkgfaaa
set_option linter.unusedVariables false
set_option linter.unusedSimpArgs false
open Go.RowKit

set_option maxHeartbeats 8000000 in
set_option maxRecDepth 100000 in
theorem law_DigestCompares (v0 : Vw) (A1 : Option Addr) (n1 c1 : Nat) (l1 : List Dg) (A2 : Option Addr) (n2 c2 : Nat) (l2 : List Dg) (W : World) (t0 : VIn W v0) (t1 : DIn W A1 n1 c1 l1) (t2 : DIn W A2 n2 c2 l2) :
    Calls Try.prog 3 #[vval v0, .slice A1 n1 c1, .slice A2 n2 c2] W fun e w' => e = .returned (.bool true) ∧ Below W.heap.size W w' := by
  have R0 := t0.1
  have HK0 : Hid (v0.n * 48 ≤ 140737488351232 ∧ ∀ x ∈ v0.l, x.v.n * 32 ≤ 140737488351232 ∧ ∀ y ∈ x.v.s.apps, y.val.length ≤ 140737488351232) := Lib.hid ⟨t0.2.2.1, fun x hx => (t0.2.2.2 x hx).1⟩
  clear t0
  have R1 := t1.1
  clear t1
  have R2 := t2.1
  clear t2
  simp only [vval]
  have b := Below.refl W.heap.size W
  go_enter Try.func3, Try.ntmps3
  go_wp2_with fail
  refine (alive_any _).mono ?_
  rintro e w2 ⟨rfl, hb⟩
  replace R0 := R0.belowH hb
  replace R1 := R1.belowH hb
  replace R2 := R2.belowH hb
  replace b := b.trans (hb.mono b.size)
  clear hb
  go_wp2_with fail
  refine (rvgreat_any v0 _ R0 HK0.out.1 HK0.out.2).mono ?_
  rintro e w3 ⟨rfl, hb⟩
  replace R0 := R0.belowH hb
  replace R1 := R1.belowH hb
  replace R2 := R2.belowH hb
  replace b := b.trans (hb.mono b.size)
  clear hb
  rcases hgr : vgreatB v0.l
  · skip
    have HG0 := Lib.hid (vgreat_small R0 hgr)
    clear hgr
    by_cases hg1 : 40 < n1
    · have hgb : decide ((40 : Int) < (n1 : Int)) = true := decide_eq_true (by omega)
      go_wp2
      go_ret
      exact ⟨rfl, b⟩
    · have hgb1 : decide ((40 : Int) < (n1 : Int)) = false := decide_eq_false (by omega)
      by_cases hg2 : 40 < n2
      · have hgb : decide ((40 : Int) < (n2 : Int)) = true := decide_eq_true (by omega)
        go_wp2
        go_ret
        exact ⟨rfl, b⟩
      · have hgb2 : decide ((40 : Int) < (n2 : Int)) = false := decide_eq_false (by omega)
        go_wp2_with fail
        refine (dright_any l1 A1 n1 c1 _ R1 (by omega)).mono ?_
        rintro e w4 ⟨rfl, hb⟩
        replace R0 := R0.belowH hb
        replace R1 := R1.belowH hb
        replace R2 := R2.belowH hb
        replace b := b.trans (hb.mono b.size)
        clear hb
        go_wp2_with fail
        refine (rdright_any l1 A1 n1 c1 _ R1 (by omega)).mono ?_
        rintro e w5 ⟨rfl, hb⟩
        replace R0 := R0.belowH hb
        replace R1 := R1.belowH hb
        replace R2 := R2.belowH hb
        replace b := b.trans (hb.mono b.size)
        clear hb
        have hb1 : (drightB l1 != drightB l1) = false := bne_self_eq_false _
        go_wp2_with fail
        refine (dsame_any l1 l2 A1 A2 n1 n2 c1 c2 _ R1 R2 (by omega) (by omega)).mono ?_
        rintro e w6 ⟨rfl, hb⟩
        replace R0 := R0.belowH hb
        replace R1 := R1.belowH hb
        replace R2 := R2.belowH hb
        replace b := b.trans (hb.mono b.size)
        clear hb
        go_wp2_with fail
        refine (rdsame_any l1 l2 A1 A2 n1 n2 c1 c2 _ R1 R2 (by omega) (by omega)).mono ?_
        rintro e w7 ⟨rfl, q, hq⟩
        have hb := below_of_drew hq
        clear hq
        replace R0 := R0.belowH hb
        replace R1 := R1.belowH hb
        replace R2 := R2.belowH hb
        replace b := b.trans (hb.mono b.size)
        clear hb
        have hb2 : (decide (l1 = l2) != decide (l1 = l2)) = false := bne_self_eq_false _
        go_wp2_with fail
        refine (dsame_any l1 l1 A1 A1 n1 n1 c1 c1 _ R1 R1 (by omega) (by omega)).mono ?_
        rw [decide_eq_true (show l1 = l1 from rfl)]
        rintro e w8 ⟨rfl, hb⟩
        replace R0 := R0.belowH hb
        replace R1 := R1.belowH hb
        replace R2 := R2.belowH hb
        replace b := b.trans (hb.mono b.size)
        clear hb
        go_wp2_with fail
        refine (rvright_any v0  _ R0 (by have hq := HG0.out.1; omega) HG0.out.2).mono ?_
        rintro e w9 ⟨rfl, hb⟩
        replace R0 := R0.belowH hb
        replace R1 := R1.belowH hb
        replace R2 := R2.belowH hb
        replace b := b.trans (hb.mono b.size)
        clear hb
        rcases hr0 : vrightB v0.view
        · go_wp2
          go_ret
          exact ⟨rfl, b⟩
        · skip
          have HR0 := Lib.hid (vrightB_out hr0)
          clear hr0
          go_wp2_with fail
          refine (rdright_any l1 A1 n1 c1 _ R1 (by omega)).mono ?_
          rintro e w10 ⟨rfl, hb⟩
          replace R0 := R0.belowH hb
          replace R1 := R1.belowH hb
          replace R2 := R2.belowH hb
          replace b := b.trans (hb.mono b.size)
          clear hb
          rcases hr1 : drightB l1
          · go_wp2
            go_ret
            exact ⟨rfl, b⟩
          · skip
            have HR1 := Lib.hid (drightB_out hr1)
            clear hr1
            go_wp2_with fail
            refine (dcompare_any v0 l1 A1 n1 c1 _ R0 R1 HR0.out HR1.out).mono ?_
            rintro e w11 ⟨Aa, na, ca, Ag, ng, cg, rfl, hown, hown2, hb⟩
            have Ra : DRd w11 Aa na (D.wants v0.view l1 8) := Rd.of_own hown
            have Rg : DRd w11 Ag ng (D.gives v0.view l1 8) := Rd.of_own hown2
            clear hown hown2
            replace R0 := R0.belowH hb
            replace R1 := R1.belowH hb
            replace R2 := R2.belowH hb
            replace b := b.trans (hb.mono b.size)
            clear hb
            have bda : na ≤ 8 := by have hq := Ra.len; have := D.wants_len ((v0 : Vw).view) (l1) 8; have := D.gives_len ((v0 : Vw).view) (l1) 8; omega
            have bdg : ng ≤ 8 := by have hq := Rg.len; have := D.wants_len ((v0 : Vw).view) (l1) 8; have := D.gives_len ((v0 : Vw).view) (l1) 8; omega
            go_wp2_with fail
            refine (rdcompare_any v0 l1 A1 n1 c1 _ R0 R1 (by have hq := right_n R0 HR0.out; omega) (by omega) (right_fitR R0 HR0.out)).mono ?_
            rintro e w12 ⟨Ax, nx, cx, Ay, ny, cy, rfl, hown, hown2, hb⟩
            have Rx : DRd w12 Ax nx (D.wants v0.view l1 8) := Rd.of_own hown
            have Ry : DRd w12 Ay ny (D.gives v0.view l1 8) := Rd.of_own hown2
            clear hown hown2
            replace R0 := R0.belowH hb
            replace R1 := R1.belowH hb
            replace R2 := R2.belowH hb
            replace Ra := Ra.belowH hb
            replace Rg := Rg.belowH hb
            replace b := b.trans (hb.mono b.size)
            clear hb
            have bdx : nx ≤ 8 := by have hq := Rx.len; have := D.wants_len ((v0 : Vw).view) (l1) 8; have := D.gives_len ((v0 : Vw).view) (l1) 8; omega
            have bdy : ny ≤ 8 := by have hq := Ry.len; have := D.wants_len ((v0 : Vw).view) (l1) 8; have := D.gives_len ((v0 : Vw).view) (l1) 8; omega
            go_wp2_with fail
            refine (rdsame_any (D.wants v0.view l1 8) (D.wants v0.view l1 8) Aa Ax na nx ca cx _ Ra Rx (by omega) (by omega)).mono ?_
            rw [decide_eq_true (show D.wants v0.view l1 8 = D.wants v0.view l1 8 from rfl)]
            rintro e w13 ⟨rfl, q, hq⟩
            have hb := below_of_drew hq
            clear hq
            replace R0 := R0.belowH hb
            replace R1 := R1.belowH hb
            replace R2 := R2.belowH hb
            replace Ra := Ra.belowH hb
            replace Rg := Rg.belowH hb
            replace Rx := Rx.belowH hb
            replace Ry := Ry.belowH hb
            replace b := b.trans (hb.mono b.size)
            clear hb
            go_wp2_with fail
            refine (rdsame_any (D.gives v0.view l1 8) (D.gives v0.view l1 8) Ag Ay ng ny cg cy _ Rg Ry (by omega) (by omega)).mono ?_
            rw [decide_eq_true (show D.gives v0.view l1 8 = D.gives v0.view l1 8 from rfl)]
            rintro e w14 ⟨rfl, q, hq⟩
            have hb := below_of_drew hq
            clear hq
            replace R0 := R0.belowH hb
            replace R1 := R1.belowH hb
            replace R2 := R2.belowH hb
            replace Ra := Ra.belowH hb
            replace Rg := Rg.belowH hb
            replace Rx := Rx.belowH hb
            replace Ry := Ry.belowH hb
            replace b := b.trans (hb.mono b.size)
            clear hb
            go_wp2_with fail
            refine (dof_any v0 _ R0 HR0.out).mono ?_
            rintro e w15 ⟨Ap, np, cp, rfl, hown, hb⟩
            have Rp : DRd w15 Ap np (D.of v0.view) := Rd.of_own hown
            clear hown
            replace R0 := R0.belowH hb
            replace R1 := R1.belowH hb
            replace R2 := R2.belowH hb
            replace Ra := Ra.belowH hb
            replace Rg := Rg.belowH hb
            replace Rx := Rx.belowH hb
            replace Ry := Ry.belowH hb
            replace b := b.trans (hb.mono b.size)
            clear hb
            have bdp : np ≤ 8 := by have hq := Rp.len; rw [of_len] at hq; have := rightV_len HR0.out; omega
            go_wp2_with fail
            refine (rdof_any v0 _ R0 (by have hq := right_n R0 HR0.out; omega) (right_fitR R0 HR0.out)).mono ?_
            rintro e w16 ⟨Aq, nq, cq, rfl, hown, hb⟩
            have Rq : DRd w16 Aq nq (D.of v0.view) := Rd.of_own hown
            clear hown
            replace R0 := R0.belowH hb
            replace R1 := R1.belowH hb
            replace R2 := R2.belowH hb
            replace Ra := Ra.belowH hb
            replace Rg := Rg.belowH hb
            replace Rx := Rx.belowH hb
            replace Ry := Ry.belowH hb
            replace Rp := Rp.belowH hb
            replace b := b.trans (hb.mono b.size)
            clear hb
            have bdq : nq ≤ 8 := by have hq := Rq.len; rw [of_len] at hq; have := rightV_len HR0.out; omega
            go_wp2_with fail
            refine (rdsame_any (D.of v0.view) (D.of v0.view) Ap Aq np nq cp cq _ Rp Rq (by omega) (by omega)).mono ?_
            rw [decide_eq_true (show D.of v0.view = D.of v0.view from rfl)]
            rintro e w17 ⟨rfl, q, hq⟩
            have hb := below_of_drew hq
            clear hq
            replace R0 := R0.belowH hb
            replace R1 := R1.belowH hb
            replace R2 := R2.belowH hb
            replace Ra := Ra.belowH hb
            replace Rg := Rg.belowH hb
            replace Rx := Rx.belowH hb
            replace Ry := Ry.belowH hb
            replace Rp := Rp.belowH hb
            replace Rq := Rq.belowH hb
            replace b := b.trans (hb.mono b.size)
            clear hb
            go_wp2
            go_ret
            exact ⟨rfl, b⟩
  · go_wp2
    go_ret
    exact ⟨rfl, b⟩
end Go.Proofs.Ytoemefoppkgfaaa
