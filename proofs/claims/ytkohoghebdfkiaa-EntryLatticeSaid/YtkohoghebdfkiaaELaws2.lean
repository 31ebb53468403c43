/- EntryLattice walks. -/
import Derived.Test.YtkohoghebdfkiaaELaws
namespace Go.Proofs.Ytkohoghebdfkiaa
set_option linter.unusedVariables false
set_option linter.unusedSimpArgs false
open Go.RowKit

set_option maxHeartbeats 8000000 in
set_option maxRecDepth 100000 in
theorem law_EntryLattice (A0 : Option Addr) (n0 c0 : Nat) (l0 : List Ent) (A1 : Option Addr) (n1 c1 : Nat) (l1 : List Ent) (A2 : Option Addr) (n2 c2 : Nat) (l2 : List Ent) (W : World) (t0 : TableIn W A0 n0 c0 l0) (t1 : TableIn W A1 n1 c1 l1) (t2 : TableIn W A2 n2 c2 l2) :
    Calls Try.prog 5 #[.slice A0 n0 c0, .slice A1 n1 c1, .slice A2 n2 c2] W fun e w' => e = .returned (.bool true) ∧ Below W.heap.size W w' := by
  obtain ⟨R0, _, _, hn0, hv0⟩ := t0
  have HL0 := Lib.hid R0.lenE
  have HV0 := Lib.hid (fun x hx => (hv0 x hx).1)
  clear hv0
  obtain ⟨R1, _, _, hn1, hv1⟩ := t1
  have HL1 := Lib.hid R1.lenE
  have HV1 := Lib.hid (fun x hx => (hv1 x hx).1)
  clear hv1
  obtain ⟨R2, _, _, hn2, hv2⟩ := t2
  have HL2 := Lib.hid R2.lenE
  have HV2 := Lib.hid (fun x hx => (hv2 x hx).1)
  clear hv2
  go_enter Try.func5, Try.ntmps5
  have b := Below.refl W.heap.size W
  go_wp2_with fail
  refine (alive_any W).mono ?_
  rintro e w2 ⟨rfl, hb⟩
  replace R0 := R0.belowH hb
  replace R1 := R1.belowH hb
  replace R2 := R2.belowH hb
  replace b := b.trans (hb.mono b.size)
  clear hb
  go_wp2_with fail
  refine (rgreat_any l0 A0 n0 c0 _ _ R0 (by omega) HV0.out).mono ?_
  rintro e w3 ⟨rfl, rfl⟩
  rcases hg0 : E.great l0
  · skip
    go_wp2_with fail
    refine (rgreat_any l1 A1 n1 c1 _ _ R1 (by omega) HV1.out).mono ?_
    rintro e w4 ⟨rfl, rfl⟩
    rcases hg1 : E.great l1
    · skip
      go_wp2_with fail
      refine (rgreat_any l2 A2 n2 c2 _ _ R2 (by omega) HV2.out).mono ?_
      rintro e w5 ⟨rfl, rfl⟩
      rcases hg2 : E.great l2
      · skip
        have hs0 := great_small hg0 HL0.out
        clear hg0
        have hs1 := great_small hg1 HL1.out
        clear hg1
        have hs2 := great_small hg2 HL2.out
        clear hg2
        go_wp2_with fail
        refine (rright_any l0 A0 n0 c0 _ _ R0 (Nat.le_refl _) hn0).mono ?_
        rintro e w6 ⟨rfl, hb⟩
        replace R0 := R0.belowH hb
        replace R1 := R1.belowH hb
        replace R2 := R2.belowH hb
        replace b := b.trans (hb.mono b.size)
        clear hb
        rcases hr0 : rightB l0
        · go_wp2
          go_ret
          exact ⟨rfl, b⟩
        · skip
          have HR0 := Lib.hid (rightB_out hr0)
          clear hr0
          go_wp2_with fail
          refine (rright_any l1 A1 n1 c1 _ _ R1 (Nat.le_refl _) hn1).mono ?_
          rintro e w7 ⟨rfl, hb⟩
          replace R0 := R0.belowH hb
          replace R1 := R1.belowH hb
          replace R2 := R2.belowH hb
          replace b := b.trans (hb.mono b.size)
          clear hb
          rcases hr1 : rightB l1
          · go_wp2
            go_ret
            exact ⟨rfl, b⟩
          · skip
            have HR1 := Lib.hid (rightB_out hr1)
            clear hr1
            go_wp2_with fail
            refine (rright_any l2 A2 n2 c2 _ _ R2 (Nat.le_refl _) hn2).mono ?_
            rintro e w8 ⟨rfl, hb⟩
            replace R0 := R0.belowH hb
            replace R1 := R1.belowH hb
            replace R2 := R2.belowH hb
            replace b := b.trans (hb.mono b.size)
            clear hb
            rcases hr2 : rightB l2
            · go_wp2
              go_ret
              exact ⟨rfl, b⟩
            · skip
              have HR2 := Lib.hid (rightB_out hr2)
              clear hr2
              go_wp2_with fail
              refine (join_any l0 l1 A0 A1 n0 n1 c0 c1 _ _ _ R0 (Nat.le_refl _) R1 (Nat.le_refl _) (by omega) (by omega) HR0.out.2 HR1.out.2).mono ?_
              rintro e w9 ⟨Ax, nx, cx, rfl, hm, hown, hb⟩
              have sx : nx ≤ n0 + n1 := by have := E.join_length l0 l1; have := HL0.out; have := HL1.out; have := HL2.out;  rw [hm]; omega
              have Rx := Rd.of_own hown
              clear hm hown
              replace R0 := R0.belowH hb
              replace R1 := R1.belowH hb
              replace R2 := R2.belowH hb
              replace b := b.trans (hb.mono b.size)
              clear hb
              go_wp2_with fail
              refine (join_any l0 l1 A0 A1 n0 n1 c0 c1 _ _ _ R0 (Nat.le_refl _) R1 (Nat.le_refl _) (by omega) (by omega) HR0.out.2 HR1.out.2).mono ?_
              rintro e w10 ⟨Aw, nw, cw, rfl, hm, hown, hb⟩
              have sw : nw ≤ n0 + n1 := by have := E.join_length l0 l1; have := HL0.out; have := HL1.out; have := HL2.out;  rw [hm]; omega
              have Rw := Rd.of_own hown
              clear hm hown
              replace R0 := R0.belowH hb
              replace R1 := R1.belowH hb
              replace R2 := R2.belowH hb
              replace Rx := Rx.belowH hb
              replace b := b.trans (hb.mono b.size)
              clear hb
              go_wp2_with fail
              refine (join_any (E.join l0 l1) l2 Aw A2 nw n2 cw c2 _ _ _ Rw (Nat.le_refl _) R2 (Nat.le_refl _) (by omega) (by omega) (E.join_rising HR0.out.2 _) HR2.out.2).mono ?_
              rintro e w11 ⟨Ay, ny, cy, rfl, hm, hown, hb⟩
              have sy : ny ≤ n0 + n1 + n2 := by have := E.join_length (E.join l0 l1) l2; have := E.join_length l0 l1; have := HL0.out; have := HL1.out; have := HL2.out;  rw [hm]; omega
              have Ry := Rd.of_own hown
              clear hm hown
              replace R0 := R0.belowH hb
              replace R1 := R1.belowH hb
              replace R2 := R2.belowH hb
              replace Rx := Rx.belowH hb
              replace Rw := Rw.belowH hb
              replace b := b.trans (hb.mono b.size)
              clear hb
              go_wp2_with fail
              refine (join_any l2 l1 A2 A1 n2 n1 c2 c1 _ _ _ R2 (Nat.le_refl _) R1 (Nat.le_refl _) (by omega) (by omega) HR2.out.2 HR1.out.2).mono ?_
              rintro e w12 ⟨Add, ndd, cdd, rfl, hm, hown, hb⟩
              have sdd : ndd ≤ n2 + n1 := by have := E.join_length l2 l1; have := HL0.out; have := HL1.out; have := HL2.out;  rw [hm]; omega
              have Rdd := Rd.of_own hown
              clear hm hown
              replace R0 := R0.belowH hb
              replace R1 := R1.belowH hb
              replace R2 := R2.belowH hb
              replace Rx := Rx.belowH hb
              replace Rw := Rw.belowH hb
              replace Ry := Ry.belowH hb
              replace b := b.trans (hb.mono b.size)
              clear hb
              go_wp2_with fail
              refine (join_any l0 (E.join l2 l1) A0 Add n0 ndd c0 cdd _ _ _ R0 (Nat.le_refl _) Rdd (Nat.le_refl _) (by omega) (by omega) HR0.out.2 (E.join_rising HR2.out.2 _)).mono ?_
              rintro e w13 ⟨Az, nz, cz, rfl, hm, hown, hb⟩
              have sz : nz ≤ n0 + (n2 + n1) := by have := E.join_length l0 (E.join l2 l1); have := E.join_length l2 l1; have := HL0.out; have := HL1.out; have := HL2.out;  rw [hm]; omega
              have Rz := Rd.of_own hown
              clear hm hown
              replace R0 := R0.belowH hb
              replace R1 := R1.belowH hb
              replace R2 := R2.belowH hb
              replace Rx := Rx.belowH hb
              replace Rw := Rw.belowH hb
              replace Ry := Ry.belowH hb
              replace Rdd := Rdd.belowH hb
              replace b := b.trans (hb.mono b.size)
              clear hb
              go_wp2_with fail
              refine (join_any l1 l0 A1 A0 n1 n0 c1 c0 _ _ _ R1 (Nat.le_refl _) R0 (Nat.le_refl _) (by omega) (by omega) HR1.out.2 HR0.out.2).mono ?_
              rintro e w14 ⟨Av, nv, cv, rfl, hm, hown, hb⟩
              have sv : nv ≤ n1 + n0 := by have := E.join_length l1 l0; have := HL0.out; have := HL1.out; have := HL2.out;  rw [hm]; omega
              have Rv := Rd.of_own hown
              clear hm hown
              replace R0 := R0.belowH hb
              replace R1 := R1.belowH hb
              replace R2 := R2.belowH hb
              replace Rx := Rx.belowH hb
              replace Rw := Rw.belowH hb
              replace Ry := Ry.belowH hb
              replace Rdd := Rdd.belowH hb
              replace Rz := Rz.belowH hb
              replace b := b.trans (hb.mono b.size)
              clear hb
              have e1 : (E.join l0 l1) = (E.join l1 l0) := E.join_comm HR0.out.2 HR1.out.2
              have E1 := Lib.hid e1
              clear e1
              go_wp2_with fail
              refine (rtsame_any (E.join l0 l1) (E.join l1 l0) Ax Av nx nv cx cv _ _ _ Rx Rv (by omega) (by omega)).mono ?_
              rw [decide_eq_true E1.out]
              rintro e w15 ⟨rfl, q, hq⟩
              have hb := below_of_drew hq
              clear hq
              replace R0 := R0.belowH hb
              replace R1 := R1.belowH hb
              replace R2 := R2.belowH hb
              replace Rx := Rx.belowH hb
              replace Rw := Rw.belowH hb
              replace Ry := Ry.belowH hb
              replace Rdd := Rdd.belowH hb
              replace Rz := Rz.belowH hb
              replace Rv := Rv.belowH hb
              replace b := b.trans (hb.mono b.size)
              clear hb
              have e2 : (E.join (E.join l0 l1) l2) = (E.join l0 (E.join l2 l1)) := by rw [E.join_comm HR2.out.2 HR1.out.2]; exact E.join_assoc HR0.out.2 HR1.out.2 HR2.out.2
              have E2 := Lib.hid e2
              clear e2
              go_wp2_with fail
              refine (rtsame_any (E.join (E.join l0 l1) l2) (E.join l0 (E.join l2 l1)) Ay Az ny nz cy cz _ _ _ Ry Rz (by omega) (by omega)).mono ?_
              rw [decide_eq_true E2.out]
              rintro e w16 ⟨rfl, q, hq⟩
              have hb := below_of_drew hq
              clear hq
              replace R0 := R0.belowH hb
              replace R1 := R1.belowH hb
              replace R2 := R2.belowH hb
              replace Rx := Rx.belowH hb
              replace Rw := Rw.belowH hb
              replace Ry := Ry.belowH hb
              replace Rdd := Rdd.belowH hb
              replace Rz := Rz.belowH hb
              replace Rv := Rv.belowH hb
              replace b := b.trans (hb.mono b.size)
              clear hb
              go_wp2_with fail
              refine (join_any (E.join l0 l1) (E.join l0 l1) Ax Ax nx nx cx cx _ _ _ Rx (Nat.le_refl _) Rx (Nat.le_refl _) (by omega) (by omega) (E.join_rising HR0.out.2 _) (E.join_rising HR0.out.2 _)).mono ?_
              rintro e w17 ⟨Au, nu, cu, rfl, hm, hown, hb⟩
              have su : nu ≤ n0 + n1 + (n0 + n1) := by have := E.join_length (E.join l0 l1) (E.join l0 l1); have := E.join_length l0 l1; have := HL0.out; have := HL1.out; have := HL2.out;  rw [hm]; omega
              have Ru := Rd.of_own hown
              clear hm hown
              replace R0 := R0.belowH hb
              replace R1 := R1.belowH hb
              replace R2 := R2.belowH hb
              replace Rx := Rx.belowH hb
              replace Rw := Rw.belowH hb
              replace Ry := Ry.belowH hb
              replace Rdd := Rdd.belowH hb
              replace Rz := Rz.belowH hb
              replace Rv := Rv.belowH hb
              replace b := b.trans (hb.mono b.size)
              clear hb
              have E3 := Lib.hid (E.join_self (E.join_rising HR0.out.2 l1) : (E.join (E.join l0 l1) (E.join l0 l1)) = (E.join l0 l1))
              go_wp2_with fail
              refine (rtsame_any (E.join (E.join l0 l1) (E.join l0 l1)) (E.join l0 l1) Au Ax nu nx cu cx _ _ _ Ru Rx (by omega) (by omega)).mono ?_
              rw [decide_eq_true E3.out]
              rintro e w18 ⟨rfl, q, hq⟩
              have hb := below_of_drew hq
              clear hq
              replace R0 := R0.belowH hb
              replace R1 := R1.belowH hb
              replace R2 := R2.belowH hb
              replace Rx := Rx.belowH hb
              replace Rw := Rw.belowH hb
              replace Ry := Ry.belowH hb
              replace Rdd := Rdd.belowH hb
              replace Rz := Rz.belowH hb
              replace Rv := Rv.belowH hb
              replace Ru := Ru.belowH hb
              replace b := b.trans (hb.mono b.size)
              clear hb
              go_wp2_with fail
              refine (over_any (E.join l0 l1) l0 Ax A0 nx n0 cx c0 _ _ _ Rx (Nat.le_refl _) R0 (Nat.le_refl _) (by omega) (by omega) (E.join_rising HR0.out.2 _) HR0.out.2).mono ?_
              rw [overB_iff.2 (E.over_join HR0.out.2 HR1.out.2)]
              rintro e w19 ⟨rfl, hb⟩
              replace R0 := R0.belowH hb
              replace R1 := R1.belowH hb
              replace R2 := R2.belowH hb
              replace Rx := Rx.belowH hb
              replace Rw := Rw.belowH hb
              replace Ry := Ry.belowH hb
              replace Rdd := Rdd.belowH hb
              replace Rz := Rz.belowH hb
              replace Rv := Rv.belowH hb
              replace Ru := Ru.belowH hb
              replace b := b.trans (hb.mono b.size)
              clear hb
              go_wp2_with fail
              refine (over_any (E.join l0 l1) l1 Ax A1 nx n1 cx c1 _ _ _ Rx (Nat.le_refl _) R1 (Nat.le_refl _) (by omega) (by omega) (E.join_rising HR0.out.2 _) HR1.out.2).mono ?_
              rw [overB_iff.2 (E.over_join2 HR0.out.2 HR1.out.2)]
              rintro e w20 ⟨rfl, hb⟩
              replace R0 := R0.belowH hb
              replace R1 := R1.belowH hb
              replace R2 := R2.belowH hb
              replace Rx := Rx.belowH hb
              replace Rw := Rw.belowH hb
              replace Ry := Ry.belowH hb
              replace Rdd := Rdd.belowH hb
              replace Rz := Rz.belowH hb
              replace Rv := Rv.belowH hb
              replace Ru := Ru.belowH hb
              replace b := b.trans (hb.mono b.size)
              clear hb
              go_wp2_with fail
              refine (over_any (E.join (E.join l0 l1) l2) (E.join l0 l1) Ay Ax ny nx cy cx _ _ _ Ry (Nat.le_refl _) Rx (Nat.le_refl _) (by omega) (by omega) (E.join_rising (E.join_rising HR0.out.2 _) _) (E.join_rising HR0.out.2 _)).mono ?_
              rw [overB_iff.2 (E.over_join (E.join_rising HR0.out.2 _) HR2.out.2)]
              rintro e w21 ⟨rfl, hb⟩
              replace R0 := R0.belowH hb
              replace R1 := R1.belowH hb
              replace R2 := R2.belowH hb
              replace Rx := Rx.belowH hb
              replace Rw := Rw.belowH hb
              replace Ry := Ry.belowH hb
              replace Rdd := Rdd.belowH hb
              replace Rz := Rz.belowH hb
              replace Rv := Rv.belowH hb
              replace Ru := Ru.belowH hb
              replace b := b.trans (hb.mono b.size)
              clear hb
              go_wp2_with fail
              refine (right_any (E.join l0 l1)  Ax nx cx _ _ Rx (Nat.le_refl _) (by omega)).mono ?_
              rw [rightB_yes (E.join_right HR0.out HR1.out)]
              rintro e w22 ⟨rfl, hb⟩
              replace R0 := R0.belowH hb
              replace R1 := R1.belowH hb
              replace R2 := R2.belowH hb
              replace Rx := Rx.belowH hb
              replace Rw := Rw.belowH hb
              replace Ry := Ry.belowH hb
              replace Rdd := Rdd.belowH hb
              replace Rz := Rz.belowH hb
              replace Rv := Rv.belowH hb
              replace Ru := Ru.belowH hb
              replace b := b.trans (hb.mono b.size)
              clear hb
              go_wp2_with fail
              refine (over_any l2 l0 A2 A0 n2 n0 c2 c0 _ _ _ R2 (Nat.le_refl _) R0 (Nat.le_refl _) (by omega) (by omega) HR2.out.2 HR0.out.2).mono ?_
              rintro e w23 ⟨rfl, hb⟩
              replace R0 := R0.belowH hb
              replace R1 := R1.belowH hb
              replace R2 := R2.belowH hb
              replace Rx := Rx.belowH hb
              replace Rw := Rw.belowH hb
              replace Ry := Ry.belowH hb
              replace Rdd := Rdd.belowH hb
              replace Rz := Rz.belowH hb
              replace Rv := Rv.belowH hb
              replace Ru := Ru.belowH hb
              replace b := b.trans (hb.mono b.size)
              clear hb
              rcases o1 : overB l2 l0
              · clear o1
                go_wp2_with fail
                refine (top_any (E.join l0 l1)  Ax nx cx _ _ Rx (Nat.le_refl _) (by omega)).mono ?_
                rw [E.top_join HR0.out.2 HR1.out.2]
                rintro e w24 ⟨rfl, hb⟩
                replace R0 := R0.belowH hb
                replace R1 := R1.belowH hb
                replace R2 := R2.belowH hb
                replace Rx := Rx.belowH hb
                replace Rw := Rw.belowH hb
                replace Ry := Ry.belowH hb
                replace Rdd := Rdd.belowH hb
                replace Rz := Rz.belowH hb
                replace Rv := Rv.belowH hb
                replace Ru := Ru.belowH hb
                replace b := b.trans (hb.mono b.size)
                clear hb
                go_wp2_with fail
                refine (top_any l0  A0 n0 c0 _ _ R0 (Nat.le_refl _) (by omega)).mono ?_
                rintro e w25 ⟨rfl, hb⟩
                replace R0 := R0.belowH hb
                replace R1 := R1.belowH hb
                replace R2 := R2.belowH hb
                replace Rx := Rx.belowH hb
                replace Rw := Rw.belowH hb
                replace Ry := Ry.belowH hb
                replace Rdd := Rdd.belowH hb
                replace Rz := Rz.belowH hb
                replace Rv := Rv.belowH hb
                replace Ru := Ru.belowH hb
                replace b := b.trans (hb.mono b.size)
                clear hb
                go_wp2_with fail
                refine (top_any l1  A1 n1 c1 _ _ R1 (Nat.le_refl _) (by omega)).mono ?_
                rintro e w26 ⟨rfl, hb⟩
                replace R0 := R0.belowH hb
                replace R1 := R1.belowH hb
                replace R2 := R2.belowH hb
                replace Rx := Rx.belowH hb
                replace Rw := Rw.belowH hb
                replace Ry := Ry.belowH hb
                replace Rdd := Rdd.belowH hb
                replace Rz := Rz.belowH hb
                replace Rv := Rv.belowH hb
                replace Ru := Ru.belowH hb
                replace b := b.trans (hb.mono b.size)
                clear hb
                go_wp2
                all_goals
                  go_ret
                  exact ⟨ret_bool (beq_iff_eq.2 (by omega)), b⟩
              · have O1 := Lib.hid o1
                clear o1
                go_wp2_with fail
                refine (over_any l2 l1 A2 A1 n2 n1 c2 c1 _ _ _ R2 (Nat.le_refl _) R1 (Nat.le_refl _) (by omega) (by omega) HR2.out.2 HR1.out.2).mono ?_
                rintro e w27 ⟨rfl, hb⟩
                replace R0 := R0.belowH hb
                replace R1 := R1.belowH hb
                replace R2 := R2.belowH hb
                replace Rx := Rx.belowH hb
                replace Rw := Rw.belowH hb
                replace Ry := Ry.belowH hb
                replace Rdd := Rdd.belowH hb
                replace Rz := Rz.belowH hb
                replace Rv := Rv.belowH hb
                replace Ru := Ru.belowH hb
                replace b := b.trans (hb.mono b.size)
                clear hb
                rcases o2 : overB l2 l1
                · clear o2
                  go_wp2_with fail
                  refine (top_any (E.join l0 l1)  Ax nx cx _ _ Rx (Nat.le_refl _) (by omega)).mono ?_
                  rw [E.top_join HR0.out.2 HR1.out.2]
                  rintro e w28 ⟨rfl, hb⟩
                  replace R0 := R0.belowH hb
                  replace R1 := R1.belowH hb
                  replace R2 := R2.belowH hb
                  replace Rx := Rx.belowH hb
                  replace Rw := Rw.belowH hb
                  replace Ry := Ry.belowH hb
                  replace Rdd := Rdd.belowH hb
                  replace Rz := Rz.belowH hb
                  replace Rv := Rv.belowH hb
                  replace Ru := Ru.belowH hb
                  replace b := b.trans (hb.mono b.size)
                  clear hb
                  go_wp2_with fail
                  refine (top_any l0  A0 n0 c0 _ _ R0 (Nat.le_refl _) (by omega)).mono ?_
                  rintro e w29 ⟨rfl, hb⟩
                  replace R0 := R0.belowH hb
                  replace R1 := R1.belowH hb
                  replace R2 := R2.belowH hb
                  replace Rx := Rx.belowH hb
                  replace Rw := Rw.belowH hb
                  replace Ry := Ry.belowH hb
                  replace Rdd := Rdd.belowH hb
                  replace Rz := Rz.belowH hb
                  replace Rv := Rv.belowH hb
                  replace Ru := Ru.belowH hb
                  replace b := b.trans (hb.mono b.size)
                  clear hb
                  go_wp2_with fail
                  refine (top_any l1  A1 n1 c1 _ _ R1 (Nat.le_refl _) (by omega)).mono ?_
                  rintro e w30 ⟨rfl, hb⟩
                  replace R0 := R0.belowH hb
                  replace R1 := R1.belowH hb
                  replace R2 := R2.belowH hb
                  replace Rx := Rx.belowH hb
                  replace Rw := Rw.belowH hb
                  replace Ry := Ry.belowH hb
                  replace Rdd := Rdd.belowH hb
                  replace Rz := Rz.belowH hb
                  replace Rv := Rv.belowH hb
                  replace Ru := Ru.belowH hb
                  replace b := b.trans (hb.mono b.size)
                  clear hb
                  go_wp2
                  all_goals
                    go_ret
                    exact ⟨ret_bool (beq_iff_eq.2 (by omega)), b⟩
                · have O2 := Lib.hid o2
                  clear o2
                  go_wp2_with fail
                  refine (over_any l2 (E.join l0 l1) A2 Ax n2 nx c2 cx _ _ _ R2 (Nat.le_refl _) Rx (Nat.le_refl _) (by omega) (by omega) HR2.out.2 (E.join_rising HR0.out.2 _)).mono ?_
                  rw [overB_iff.2 (E.over_least HR0.out.2 HR1.out.2 HR2.out.2 (overB_iff.1 O1.out) (overB_iff.1 O2.out))]
                  rintro e w31 ⟨rfl, hb⟩
                  replace R0 := R0.belowH hb
                  replace R1 := R1.belowH hb
                  replace R2 := R2.belowH hb
                  replace Rx := Rx.belowH hb
                  replace Rw := Rw.belowH hb
                  replace Ry := Ry.belowH hb
                  replace Rdd := Rdd.belowH hb
                  replace Rz := Rz.belowH hb
                  replace Rv := Rv.belowH hb
                  replace Ru := Ru.belowH hb
                  replace b := b.trans (hb.mono b.size)
                  clear hb
                  go_wp2_with fail
                  refine (top_any (E.join l0 l1)  Ax nx cx _ _ Rx (Nat.le_refl _) (by omega)).mono ?_
                  rw [E.top_join HR0.out.2 HR1.out.2]
                  rintro e w32 ⟨rfl, hb⟩
                  replace R0 := R0.belowH hb
                  replace R1 := R1.belowH hb
                  replace R2 := R2.belowH hb
                  replace Rx := Rx.belowH hb
                  replace Rw := Rw.belowH hb
                  replace Ry := Ry.belowH hb
                  replace Rdd := Rdd.belowH hb
                  replace Rz := Rz.belowH hb
                  replace Rv := Rv.belowH hb
                  replace Ru := Ru.belowH hb
                  replace b := b.trans (hb.mono b.size)
                  clear hb
                  go_wp2_with fail
                  refine (top_any l0  A0 n0 c0 _ _ R0 (Nat.le_refl _) (by omega)).mono ?_
                  rintro e w33 ⟨rfl, hb⟩
                  replace R0 := R0.belowH hb
                  replace R1 := R1.belowH hb
                  replace R2 := R2.belowH hb
                  replace Rx := Rx.belowH hb
                  replace Rw := Rw.belowH hb
                  replace Ry := Ry.belowH hb
                  replace Rdd := Rdd.belowH hb
                  replace Rz := Rz.belowH hb
                  replace Rv := Rv.belowH hb
                  replace Ru := Ru.belowH hb
                  replace b := b.trans (hb.mono b.size)
                  clear hb
                  go_wp2_with fail
                  refine (top_any l1  A1 n1 c1 _ _ R1 (Nat.le_refl _) (by omega)).mono ?_
                  rintro e w34 ⟨rfl, hb⟩
                  replace R0 := R0.belowH hb
                  replace R1 := R1.belowH hb
                  replace R2 := R2.belowH hb
                  replace Rx := Rx.belowH hb
                  replace Rw := Rw.belowH hb
                  replace Ry := Ry.belowH hb
                  replace Rdd := Rdd.belowH hb
                  replace Rz := Rz.belowH hb
                  replace Rv := Rv.belowH hb
                  replace Ru := Ru.belowH hb
                  replace b := b.trans (hb.mono b.size)
                  clear hb
                  go_wp2
                  all_goals
                    go_ret
                    exact ⟨ret_bool (beq_iff_eq.2 (by omega)), b⟩
      · go_wp2
        go_ret
        exact ⟨rfl, b⟩
    · go_wp2
      go_ret
      exact ⟨rfl, b⟩
  · go_wp2
    go_ret
    exact ⟨rfl, b⟩
end Go.Proofs.Ytkohoghebdfkiaa
