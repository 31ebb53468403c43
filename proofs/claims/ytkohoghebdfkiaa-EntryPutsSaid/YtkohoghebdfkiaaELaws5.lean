/- EntryPuts walks. -/
import Derived.Test.YtkohoghebdfkiaaELaws4
import Derived.Test.YtkohoghebdfkiaaEArr
namespace Go.Proofs.Ytkohoghebdfkiaa
set_option linter.unusedVariables false
set_option linter.unusedSimpArgs false
open Go.RowKit

set_option maxHeartbeats 8000000 in
set_option maxRecDepth 100000 in
theorem law_EntryPuts (A0 : Option Addr) (n0 c0 : Nat) (l0 : List Ent) (x1 : Ent) (p2 q2 : Int) (W : World) (t0 : TableIn W A0 n0 c0 l0) (t1 : EntIn x1) (t2 : Two p2 q2) :
    Calls Try.prog 6 #[.slice A0 n0 c0, ev x1, .agg #[.int .u8 p2, .int .u8 q2]] W fun e w' => e = .returned (.bool true) ∧ Below W.heap.size W w' := by
  obtain ⟨R0, _, _, hn0, hv0⟩ := t0
  have HL0 := Lib.hid R0.lenE
  have HV0 := Lib.hid (fun x hx => (hv0 x hx).1)
  clear hv0
  simp only [ev]
  have b := Below.refl W.heap.size W
  replace R0 := R0.allocH (.cells #[.int .i64 x1.key, .int .i64 x1.ver, .string (strB x1.val)] 26)
  have X := Box.new (W) #[.int .i64 x1.key, .int .i64 x1.ver, .string (strB x1.val)] 26
  replace b := b.alloc b.size (.cells #[.int .i64 x1.key, .int .i64 x1.ver, .string (strB x1.val)] 26)
  replace R0 := R0.allocH (.cells #[.int .u8 p2, .int .u8 q2] 38)
  replace X := X.alloc (.cells #[.int .u8 p2, .int .u8 q2] 38)
  have T := Box.new (W.alloc (.cells #[.int .i64 x1.key, .int .i64 x1.ver, .string (strB x1.val)] 26)) #[.int .u8 p2, .int .u8 q2] 38
  replace b := b.alloc b.size (.cells #[.int .u8 p2, .int .u8 q2] 38)
  rw [show (W.alloc (.cells #[.int .i64 x1.key, .int .i64 x1.ver, .string (strB x1.val)] 26)).heap.size = W.heap.size + 1 by simp] at T
  go_enter Try.func6, Try.ntmps6
  go_wp2_with fail
  refine (alive_any _).mono ?_
  rintro e w2 ⟨rfl, hb⟩
  replace R0 := R0.belowH hb
  replace X := X.belowH hb
  replace T := T.belowH hb
  replace b := b.trans (hb.mono b.size)
  clear hb
  go_wp2_with fail
  refine (rgreat_any l0 A0 n0 c0 _ _ R0 (by omega) HV0.out).mono ?_
  rintro e w3 ⟨rfl, rfl⟩
  rcases hg0 : E.great l0
  · skip
    have hs0 := great_small hg0 HL0.out
    clear hg0
    go_wp2_with fail
    refine (rright_any l0 A0 n0 c0 _ _ R0 (Nat.le_refl _) hn0).mono ?_
    rintro e w4 ⟨rfl, hb⟩
    replace R0 := R0.belowH hb
    replace X := X.belowH hb
    replace T := T.belowH hb
    replace b := b.trans (hb.mono b.size)
    clear hb
    rcases hr0 : rightB l0
    · go_wp2
      go_ret
      exact ⟨rfl, b⟩
    · skip
      have HR0 := Lib.hid (rightB_out hr0)
      clear hr0
      obtain ⟨hp0, hp1, hq0, hq1⟩ := t2
      have y0 := X.at 0 rfl
      have y1 := X.at 1 rfl
      have y2 := X.at 2 rfl
      have v0 := T.at 0 rfl
      have v1 := T.at 1 rfl
      go_wp2_with fail
      refine (rmay_any x1 _).mono ?_
      rintro e w5 ⟨rfl, hb⟩
      replace R0 := R0.belowH hb
      replace X := X.belowH hb
      replace T := T.belowH hb
      replace b := b.trans (hb.mono b.size)
      clear hb
      clear y0 y1 y2 v0 v1
      rcases hmx : emayB x1
      · go_wp2
        go_ret
        exact ⟨rfl, b⟩
      · skip
        have HMX : Hid (E.may x1) := Lib.hid (of_decide_eq_true hmx)
        clear hmx
        have y0 := X.at 0 rfl
        have y1 := X.at 1 rfl
        have y2 := X.at 2 rfl
        have v0 := T.at 0 rfl
        have v1 := T.at 1 rfl
        go_wp2_with fail
        refine (put_any l0 x1 A0 n0 c0 _ _ R0 (Nat.le_refl _) (by omega) HR0.out.2).mono ?_
        rintro e w6 ⟨Am, nm, cm, rfl, hm, hown, hb⟩
        have sm : nm ≤ n0 + 1 := by have := E.put_length l0 x1; have := HL0.out; rw [hm]; omega
        have Rm := Rd.of_own hown
        clear hm hown
        replace R0 := R0.belowH hb
        replace X := X.belowH hb
        replace T := T.belowH hb
        replace b := b.trans (hb.mono b.size)
        clear hb
        clear y0 y1 y2 v0 v1
        have y0 := X.at 0 rfl
        have y1 := X.at 1 rfl
        have y2 := X.at 2 rfl
        have v0 := T.at 0 rfl
        have v1 := T.at 1 rfl
        go_wp2_with fail
        refine (get_any (E.put l0 x1) x1.key Am nm cm _ _ Rm (Nat.le_refl _) (by omega)).mono ?_
        rintro e w7 ⟨rfl, hb⟩
        replace R0 := R0.belowH hb
        replace Rm := Rm.belowH hb
        replace X := X.belowH hb
        replace T := T.belowH hb
        replace b := b.trans (hb.mono b.size)
        clear hb
        clear y0 y1 y2 v0 v1
        rw [(E.get_put HR0.out.2 x1 x1.key).trans (if_pos rfl)]
        simp only [getV, Option.isSome, ev]
        replace R0 := R0.allocH (.cells #[.int .i64 x1.key, .int .i64 x1.ver, .string (strB x1.val)] 26)
        replace Rm := Rm.allocH (.cells #[.int .i64 x1.key, .int .i64 x1.ver, .string (strB x1.val)] 26)
        replace X := X.alloc (.cells #[.int .i64 x1.key, .int .i64 x1.ver, .string (strB x1.val)] 26)
        replace T := T.alloc (.cells #[.int .i64 x1.key, .int .i64 x1.ver, .string (strB x1.val)] 26)
        have Y := Box.new w7 #[.int .i64 x1.key, .int .i64 x1.ver, .string (strB x1.val)] 26
        replace b := b.alloc b.size (.cells #[.int .i64 x1.key, .int .i64 x1.ver, .string (strB x1.val)] 26)
        have y0 := X.at 0 rfl
        have y1 := X.at 1 rfl
        have y2 := X.at 2 rfl
        have v0 := T.at 0 rfl
        have v1 := T.at 1 rfl
        go_wp2_with fail
        refine (get_any l0 (p2 % 12) A0 n0 c0 _ _ R0 (Nat.le_refl _) hn0).mono ?_
        rintro e w8 ⟨rfl, hb⟩
        replace R0 := R0.belowH hb
        replace Rm := Rm.belowH hb
        replace X := X.belowH hb
        replace T := T.belowH hb
        replace Y := Y.belowH hb
        replace b := b.trans (hb.mono b.size)
        clear hb
        clear y0 y1 y2 v0 v1
        rw [getV_eq]
        replace R0 := R0.allocH (.cells #[.int .i64 (dv (E.get l0 (p2 % 12))).key, .int .i64 (dv (E.get l0 (p2 % 12))).ver, .string (strB (dv (E.get l0 (p2 % 12))).val)] 26)
        replace Rm := Rm.allocH (.cells #[.int .i64 (dv (E.get l0 (p2 % 12))).key, .int .i64 (dv (E.get l0 (p2 % 12))).ver, .string (strB (dv (E.get l0 (p2 % 12))).val)] 26)
        replace X := X.alloc (.cells #[.int .i64 (dv (E.get l0 (p2 % 12))).key, .int .i64 (dv (E.get l0 (p2 % 12))).ver, .string (strB (dv (E.get l0 (p2 % 12))).val)] 26)
        replace T := T.alloc (.cells #[.int .i64 (dv (E.get l0 (p2 % 12))).key, .int .i64 (dv (E.get l0 (p2 % 12))).ver, .string (strB (dv (E.get l0 (p2 % 12))).val)] 26)
        replace Y := Y.alloc (.cells #[.int .i64 (dv (E.get l0 (p2 % 12))).key, .int .i64 (dv (E.get l0 (p2 % 12))).ver, .string (strB (dv (E.get l0 (p2 % 12))).val)] 26)
        have A := Box.new w8 #[.int .i64 (dv (E.get l0 (p2 % 12))).key, .int .i64 (dv (E.get l0 (p2 % 12))).ver, .string (strB (dv (E.get l0 (p2 % 12))).val)] 26
        replace b := b.alloc b.size (.cells #[.int .i64 (dv (E.get l0 (p2 % 12))).key, .int .i64 (dv (E.get l0 (p2 % 12))).ver, .string (strB (dv (E.get l0 (p2 % 12))).val)] 26)
        by_cases hk : p2 % 12 = x1.key
        · have HK := Lib.hid hk
          clear hk
          go_wp2_with fail
          refine (get_any (E.put l0 x1) (p2 % 12) Am nm cm _ _ Rm (Nat.le_refl _) (by omega)).mono ?_
          rintro e w9 ⟨rfl, hb⟩
          replace R0 := R0.belowH hb
          replace Rm := Rm.belowH hb
          replace X := X.belowH hb
          replace T := T.belowH hb
          replace Y := Y.belowH hb
          replace A := A.belowH hb
          replace b := b.trans (hb.mono b.size)
          clear hb
          rw [getV_eq]
          replace R0 := R0.allocH (.cells #[.int .i64 (dv (E.get (E.put l0 x1) (p2 % 12))).key, .int .i64 (dv (E.get (E.put l0 x1) (p2 % 12))).ver, .string (strB (dv (E.get (E.put l0 x1) (p2 % 12))).val)] 26)
          replace Rm := Rm.allocH (.cells #[.int .i64 (dv (E.get (E.put l0 x1) (p2 % 12))).key, .int .i64 (dv (E.get (E.put l0 x1) (p2 % 12))).ver, .string (strB (dv (E.get (E.put l0 x1) (p2 % 12))).val)] 26)
          replace X := X.alloc (.cells #[.int .i64 (dv (E.get (E.put l0 x1) (p2 % 12))).key, .int .i64 (dv (E.get (E.put l0 x1) (p2 % 12))).ver, .string (strB (dv (E.get (E.put l0 x1) (p2 % 12))).val)] 26)
          replace T := T.alloc (.cells #[.int .i64 (dv (E.get (E.put l0 x1) (p2 % 12))).key, .int .i64 (dv (E.get (E.put l0 x1) (p2 % 12))).ver, .string (strB (dv (E.get (E.put l0 x1) (p2 % 12))).val)] 26)
          replace Y := Y.alloc (.cells #[.int .i64 (dv (E.get (E.put l0 x1) (p2 % 12))).key, .int .i64 (dv (E.get (E.put l0 x1) (p2 % 12))).ver, .string (strB (dv (E.get (E.put l0 x1) (p2 % 12))).val)] 26)
          replace A := A.alloc (.cells #[.int .i64 (dv (E.get (E.put l0 x1) (p2 % 12))).key, .int .i64 (dv (E.get (E.put l0 x1) (p2 % 12))).ver, .string (strB (dv (E.get (E.put l0 x1) (p2 % 12))).val)] 26)
          have B := Box.new w9 #[.int .i64 (dv (E.get (E.put l0 x1) (p2 % 12))).key, .int .i64 (dv (E.get (E.put l0 x1) (p2 % 12))).ver, .string (strB (dv (E.get (E.put l0 x1) (p2 % 12))).val)] 26
          replace b := b.alloc b.size (.cells #[.int .i64 (dv (E.get (E.put l0 x1) (p2 % 12))).key, .int .i64 (dv (E.get (E.put l0 x1) (p2 % 12))).ver, .string (strB (dv (E.get (E.put l0 x1) (p2 % 12))).val)] 26)
          have y0 := X.at 0 rfl
          have y1 := X.at 1 rfl
          have y2 := X.at 2 rfl
          have v0 := T.at 0 rfl
          have v1 := T.at 1 rfl
          have z0 := Y.at 0 rfl
          have z1 := Y.at 1 rfl
          have z2 := Y.at 2 rfl
          have a0 := A.at 0 rfl
          have a1 := A.at 1 rfl
          have a2 := A.at 2 rfl
          have b0 := B.at 0 rfl
          have b1 := B.at 1 rfl
          have b2 := B.at 2 rfl
          have heq := fun w => eq_ent x1 x1 w
          rw [eqB_self] at heq
          have hgd := guard_ent
          have hk2 : (p2 % 12 != x1.key) = false := bne_eq_false_iff_eq.2 HK.out
          go_wp2_with fail
          refine (right_any (E.put l0 x1) Am nm cm _ _ Rm (Nat.le_refl _) (by omega)).mono ?_
          rw [rightB_yes (E.put_right HR0.out HMX.out)]
          rintro e w10 ⟨rfl, hb⟩
          replace R0 := R0.belowH hb
          replace Rm := Rm.belowH hb
          replace X := X.belowH hb
          replace T := T.belowH hb
          replace Y := Y.belowH hb
          replace A := A.belowH hb
          replace B := B.belowH hb
          replace b := b.trans (hb.mono b.size)
          clear hb
          clear a0 a1 a2 b0 b1 b2 z0 z1 z2 heq hgd hk2 Y A B
          clear y0 y1 y2 v0 v1
          have y0 := X.at 0 rfl
          have y1 := X.at 1 rfl
          have y2 := X.at 2 rfl
          have v0 := T.at 0 rfl
          have v1 := T.at 1 rfl
          go_wp2_with fail
          refine (aboves_any (E.put l0 x1) q2 Am nm cm _ _ Rm (Nat.le_refl _) (by omega)).mono ?_
          rintro e w11 ⟨Av, nv, cv, rfl, hm, hown, hb⟩
          have sv : nv ≤ nm := by have := E.aboves_length (E.put l0 x1) q2; have := Rm.lenE; rw [hm]; omega
          have Rv := Rd.of_own hown
          clear hm hown
          replace R0 := R0.belowH hb
          replace Rm := Rm.belowH hb
          replace X := X.belowH hb
          replace T := T.belowH hb
          replace b := b.trans (hb.mono b.size)
          clear hb
          clear y0 y1 y2 v0 v1
          have LM := Lib.hid Rm.lenE
          have LV := Lib.hid Rv.lenE
          have g1 := T.at 1 rfl
          clear X T
          go_wp2
          go_loopw [16, 17] (fun c i wr => ∃ k m q : Nat, k ≤ nm ∧ i = .int .i64 k ∧ m = (E.aboves ((E.put l0 x1).take k) q2).length ∧ m ≤ k ∧ c = .int .i64 m ∧ wr = w11.drewN q) (fun _ i _ => nm - (intOf i).toNat)
          case atStart => exact ⟨0, 0, 0, by omega, rfl, rfl, by omega, rfl, rfl⟩
          case round =>
            obtain ⟨k, m, q, hk, rfl, hm, hmk, rfl, rfl⟩ := hrel
            have HM := Lib.hid hm
            clear hm
            by_cases hlt : k < nm
            · obtain ⟨bb, o, y, e, hb0, hy, d0, d1, d2⟩ := Rm.atE hlt
              subst e
              have hk0 : (0 : Int) ≤ (k : Int) := by omega
              have hmore := take_more hy
              have HMORE := Lib.hid hmore
              by_cases hv : q2 < y.ver
              · have hat := E.aboves_at hy hv
                rw [← HM.out] at hat
                have hmv : m < nv := by have := (List.getElem?_eq_some_iff.1 hat).1; have := LV.out; omega
                obtain ⟨bv, ov, y', e, hbv, hy', f0, f1, f2⟩ := Rv.atE hmv
                subst e
                obtain rfl : y' = y := by rw [hat] at hy'; simpa using hy'.symm
                have hvb : decide (q2 < y'.ver) = true := decide_eq_true hv
                have HV := Lib.hid hv
                clear hy hat hy' hmore hv
                have hm0 : (0 : Int) ≤ (m : Int) := by omega
                have t9 : decide ((nv : Int) ≤ (m : Int)) = false := decide_eq_false (by omega)
                have t8 : decide (nv ≤ m) = false := decide_eq_false (by omega)
                have heq := fun w => eq_ent y' y' w
                rw [eqB_self] at heq
                have hgd := guard_ent
                go_wp2
                go_quiet (fail)
                go_wp2
                go_quiet (fail)
                go_wp2
                go_roundw
                case rel => exact ⟨k + 1, m + 1, _, by omega, by go_num, by rw [HMORE.out, E.aboves_snoc, if_pos HV.out, List.length_append, ← HM.out]; rfl, by omega, by go_num, rfl⟩
                case measure => simp [intOf]; omega
              · have hvb : decide (q2 < y.ver) = false := decide_eq_false hv
                have HV := Lib.hid hv
                clear hy hmore hv
                go_wp2
                go_quiet (fail)
                go_wp2
                go_roundw
                case rel => exact ⟨k + 1, m, _, by omega, by go_num, by rw [HMORE.out, E.aboves_snoc, if_neg (by have := HV.out; omega)]; exact HM.out, by omega, rfl, rfl⟩
                case measure => simp [intOf]; omega
            · have hmn : m = nv := by
                have h1 := HM.out
                rw [List.take_of_length_le (by have := LM.out; omega)] at h1
                have := LV.out
                omega
              subst hmn
              go_wp2
              go_ret
              exact ⟨rfl, below_dn b q⟩
        · have HK := Lib.hid hk
          have HGP : Hid ((E.get (E.put l0 x1) (p2 % 12)) = (E.get l0 (p2 % 12))) := Lib.hid ((E.get_put HR0.out.2 x1 (p2 % 12)).trans (if_neg (fun e => hk e.symm)))
          clear hk
          go_wp2_with fail
          refine (get_any (E.put l0 x1) (p2 % 12) Am nm cm _ _ Rm (Nat.le_refl _) (by omega)).mono ?_
          rintro e w9 ⟨rfl, hb⟩
          replace R0 := R0.belowH hb
          replace Rm := Rm.belowH hb
          replace X := X.belowH hb
          replace T := T.belowH hb
          replace Y := Y.belowH hb
          replace A := A.belowH hb
          replace b := b.trans (hb.mono b.size)
          clear hb
          rw [getV_eq]
          rw [HGP.out]
          replace R0 := R0.allocH (.cells #[.int .i64 (dv (E.get l0 (p2 % 12))).key, .int .i64 (dv (E.get l0 (p2 % 12))).ver, .string (strB (dv (E.get l0 (p2 % 12))).val)] 26)
          replace Rm := Rm.allocH (.cells #[.int .i64 (dv (E.get l0 (p2 % 12))).key, .int .i64 (dv (E.get l0 (p2 % 12))).ver, .string (strB (dv (E.get l0 (p2 % 12))).val)] 26)
          replace X := X.alloc (.cells #[.int .i64 (dv (E.get l0 (p2 % 12))).key, .int .i64 (dv (E.get l0 (p2 % 12))).ver, .string (strB (dv (E.get l0 (p2 % 12))).val)] 26)
          replace T := T.alloc (.cells #[.int .i64 (dv (E.get l0 (p2 % 12))).key, .int .i64 (dv (E.get l0 (p2 % 12))).ver, .string (strB (dv (E.get l0 (p2 % 12))).val)] 26)
          replace Y := Y.alloc (.cells #[.int .i64 (dv (E.get l0 (p2 % 12))).key, .int .i64 (dv (E.get l0 (p2 % 12))).ver, .string (strB (dv (E.get l0 (p2 % 12))).val)] 26)
          replace A := A.alloc (.cells #[.int .i64 (dv (E.get l0 (p2 % 12))).key, .int .i64 (dv (E.get l0 (p2 % 12))).ver, .string (strB (dv (E.get l0 (p2 % 12))).val)] 26)
          have B := Box.new w9 #[.int .i64 (dv (E.get l0 (p2 % 12))).key, .int .i64 (dv (E.get l0 (p2 % 12))).ver, .string (strB (dv (E.get l0 (p2 % 12))).val)] 26
          replace b := b.alloc b.size (.cells #[.int .i64 (dv (E.get l0 (p2 % 12))).key, .int .i64 (dv (E.get l0 (p2 % 12))).ver, .string (strB (dv (E.get l0 (p2 % 12))).val)] 26)
          have y0 := X.at 0 rfl
          have y1 := X.at 1 rfl
          have y2 := X.at 2 rfl
          have v0 := T.at 0 rfl
          have v1 := T.at 1 rfl
          have z0 := Y.at 0 rfl
          have z1 := Y.at 1 rfl
          have z2 := Y.at 2 rfl
          have a0 := A.at 0 rfl
          have a1 := A.at 1 rfl
          have a2 := A.at 2 rfl
          have b0 := B.at 0 rfl
          have b1 := B.at 1 rfl
          have b2 := B.at 2 rfl
          have heq := fun w => eq_ent x1 x1 w
          rw [eqB_self] at heq
          have hgd := guard_ent
          have hk2 : (p2 % 12 != x1.key) = true := bne_iff_ne.2 HK.out
          have heq2 := fun w => eq_ent (dv (E.get l0 (p2 % 12))) (dv (E.get l0 (p2 % 12))) w
          rw [eqB_self] at heq2
          go_wp2_with fail
          refine (right_any (E.put l0 x1) Am nm cm _ _ Rm (Nat.le_refl _) (by omega)).mono ?_
          rw [rightB_yes (E.put_right HR0.out HMX.out)]
          rintro e w10 ⟨rfl, hb⟩
          replace R0 := R0.belowH hb
          replace Rm := Rm.belowH hb
          replace X := X.belowH hb
          replace T := T.belowH hb
          replace Y := Y.belowH hb
          replace A := A.belowH hb
          replace B := B.belowH hb
          replace b := b.trans (hb.mono b.size)
          clear hb
          clear a0 a1 a2 b0 b1 b2 z0 z1 z2 heq hgd hk2 Y A B heq2
          clear y0 y1 y2 v0 v1
          have y0 := X.at 0 rfl
          have y1 := X.at 1 rfl
          have y2 := X.at 2 rfl
          have v0 := T.at 0 rfl
          have v1 := T.at 1 rfl
          go_wp2_with fail
          refine (aboves_any (E.put l0 x1) q2 Am nm cm _ _ Rm (Nat.le_refl _) (by omega)).mono ?_
          rintro e w11 ⟨Av, nv, cv, rfl, hm, hown, hb⟩
          have sv : nv ≤ nm := by have := E.aboves_length (E.put l0 x1) q2; have := Rm.lenE; rw [hm]; omega
          have Rv := Rd.of_own hown
          clear hm hown
          replace R0 := R0.belowH hb
          replace Rm := Rm.belowH hb
          replace X := X.belowH hb
          replace T := T.belowH hb
          replace b := b.trans (hb.mono b.size)
          clear hb
          clear y0 y1 y2 v0 v1
          have LM := Lib.hid Rm.lenE
          have LV := Lib.hid Rv.lenE
          have g1 := T.at 1 rfl
          clear X T
          go_wp2
          go_loopw [16, 17] (fun c i wr => ∃ k m q : Nat, k ≤ nm ∧ i = .int .i64 k ∧ m = (E.aboves ((E.put l0 x1).take k) q2).length ∧ m ≤ k ∧ c = .int .i64 m ∧ wr = w11.drewN q) (fun _ i _ => nm - (intOf i).toNat)
          case atStart => exact ⟨0, 0, 0, by omega, rfl, rfl, by omega, rfl, rfl⟩
          case round =>
            obtain ⟨k, m, q, hk, rfl, hm, hmk, rfl, rfl⟩ := hrel
            have HM := Lib.hid hm
            clear hm
            by_cases hlt : k < nm
            · obtain ⟨bb, o, y, e, hb0, hy, d0, d1, d2⟩ := Rm.atE hlt
              subst e
              have hk0 : (0 : Int) ≤ (k : Int) := by omega
              have hmore := take_more hy
              have HMORE := Lib.hid hmore
              by_cases hv : q2 < y.ver
              · have hat := E.aboves_at hy hv
                rw [← HM.out] at hat
                have hmv : m < nv := by have := (List.getElem?_eq_some_iff.1 hat).1; have := LV.out; omega
                obtain ⟨bv, ov, y', e, hbv, hy', f0, f1, f2⟩ := Rv.atE hmv
                subst e
                obtain rfl : y' = y := by rw [hat] at hy'; simpa using hy'.symm
                have hvb : decide (q2 < y'.ver) = true := decide_eq_true hv
                have HV := Lib.hid hv
                clear hy hat hy' hmore hv
                have hm0 : (0 : Int) ≤ (m : Int) := by omega
                have t9 : decide ((nv : Int) ≤ (m : Int)) = false := decide_eq_false (by omega)
                have t8 : decide (nv ≤ m) = false := decide_eq_false (by omega)
                have heq := fun w => eq_ent y' y' w
                rw [eqB_self] at heq
                have hgd := guard_ent
                go_wp2
                go_quiet (fail)
                go_wp2
                go_quiet (fail)
                go_wp2
                go_roundw
                case rel => exact ⟨k + 1, m + 1, _, by omega, by go_num, by rw [HMORE.out, E.aboves_snoc, if_pos HV.out, List.length_append, ← HM.out]; rfl, by omega, by go_num, rfl⟩
                case measure => simp [intOf]; omega
              · have hvb : decide (q2 < y.ver) = false := decide_eq_false hv
                have HV := Lib.hid hv
                clear hy hmore hv
                go_wp2
                go_quiet (fail)
                go_wp2
                go_roundw
                case rel => exact ⟨k + 1, m, _, by omega, by go_num, by rw [HMORE.out, E.aboves_snoc, if_neg (by have := HV.out; omega)]; exact HM.out, by omega, rfl, rfl⟩
                case measure => simp [intOf]; omega
            · have hmn : m = nv := by
                have h1 := HM.out
                rw [List.take_of_length_le (by have := LM.out; omega)] at h1
                have := LV.out
                omega
              subst hmn
              go_wp2
              go_ret
              exact ⟨rfl, below_dn b q⟩
  · go_wp2
    go_ret
    exact ⟨rfl, b⟩
end Go.Proofs.Ytkohoghebdfkiaa
