/- EntryJoins walks. -/
import Derived.Test.YtkohoghebdfkiaaELaws
namespace Go.Proofs.Ytkohoghebdfkiaa
set_option linter.unusedVariables false
set_option linter.unusedSimpArgs false
open Go.RowKit

theorem lit_own (w : World) : (w.alloc (.cells #[] 26)).ownsRow w.heap.size 26 3 (.slice (some ⟨w.heap.size, 0, none⟩) 0 0) 0 [] := World.ownsRow_lit w #[] 0 (Nat.le_refl _) (by unfold maxLen; omega) rfl

set_option maxHeartbeats 8000000 in
set_option maxRecDepth 100000 in
theorem law_EntryJoins (A0 : Option Addr) (n0 c0 : Nat) (l0 : List Ent) (A1 : Option Addr) (n1 c1 : Nat) (l1 : List Ent) (x2 : Ent) (W : World) (t0 : TableIn W A0 n0 c0 l0) (t1 : TableIn W A1 n1 c1 l1) (t2 : EntIn x2) :
    Calls Try.prog 4 #[.slice A0 n0 c0, .slice A1 n1 c1, ev x2] W fun e w' => e = .returned (.bool true) ∧ Below W.heap.size W w' := by
  obtain ⟨R0, _, _, hn0, hv0⟩ := t0
  have HL0 := Lib.hid R0.lenE
  have HV0 := Lib.hid (fun x hx => (hv0 x hx).1)
  clear hv0
  obtain ⟨R1, _, _, hn1, hv1⟩ := t1
  have HL1 := Lib.hid R1.lenE
  have HV1 := Lib.hid (fun x hx => (hv1 x hx).1)
  clear hv1
  simp only [ev]
  have b := Below.refl W.heap.size W
  replace R0 := R0.allocH (.cells #[.int .i64 x2.key, .int .i64 x2.ver, .string (strB x2.val)] 26)
  replace R1 := R1.allocH (.cells #[.int .i64 x2.key, .int .i64 x2.ver, .string (strB x2.val)] 26)
  have X := Box.new (W) #[.int .i64 x2.key, .int .i64 x2.ver, .string (strB x2.val)] 26
  replace b := b.alloc b.size (.cells #[.int .i64 x2.key, .int .i64 x2.ver, .string (strB x2.val)] 26)
  go_enter Try.func4, Try.ntmps4
  go_wp2_with fail
  refine (alive_any _).mono ?_
  rintro e w2 ⟨rfl, hb⟩
  replace R0 := R0.belowH hb
  replace R1 := R1.belowH hb
  replace X := X.belowH hb
  replace b := b.trans (hb.mono b.size)
  clear hb
  go_wp2_with fail
  refine (rgreat_any l0 A0 n0 c0 _ _ R0 (by omega) HV0.out).mono ?_
  rintro e w3 ⟨rfl, rfl⟩
  rcases hg0 : E.great l0
  · skip
    go_wp2_with fail
    refine (rgreat_any l1 A1 n1 c1 _ _ R1 (by omega) HV1.out).mono ?_
    rintro e w4 ⟨rfl, rfl⟩
    rcases hg1 : E.great l1
    · skip
      have hs0 := great_small hg0 HL0.out
      clear hg0
      have hs1 := great_small hg1 HL1.out
      clear hg1
      go_wp2_with fail
      refine (rright_any l0 A0 n0 c0 _ _ R0 (Nat.le_refl _) hn0).mono ?_
      rintro e w5 ⟨rfl, hb⟩
      replace R0 := R0.belowH hb
      replace R1 := R1.belowH hb
      replace X := X.belowH hb
      replace b := b.trans (hb.mono b.size)
      clear hb
      rcases hr0 : rightB l0
      · go_wp2
        go_ret
        exact ⟨rfl, b⟩
      · skip
        have HR0 := Lib.hid (rightB_out hr0)
        clear hr0
        go_wp2_with fail
        refine (rright_any l1 A1 n1 c1 _ _ R1 (Nat.le_refl _) hn1).mono ?_
        rintro e w6 ⟨rfl, hb⟩
        replace R0 := R0.belowH hb
        replace R1 := R1.belowH hb
        replace X := X.belowH hb
        replace b := b.trans (hb.mono b.size)
        clear hb
        rcases hr1 : rightB l1
        · go_wp2
          go_ret
          exact ⟨rfl, b⟩
        · skip
          have HR1 := Lib.hid (rightB_out hr1)
          clear hr1
          have y0 := X.at 0 rfl
          have y1 := X.at 1 rfl
          have y2 := X.at 2 rfl
          go_wp2_with fail
          refine (rmay_any x2 _).mono ?_
          rintro e w7 ⟨rfl, hb⟩
          replace R0 := R0.belowH hb
          replace R1 := R1.belowH hb
          replace X := X.belowH hb
          replace b := b.trans (hb.mono b.size)
          clear hb
          clear y0 y1 y2
          rcases hmx : emayB x2
          · go_wp2
            go_ret
            exact ⟨rfl, b⟩
          · skip
            clear hmx
            go_wp2_with (at_builtin; refine app_law0 enT rfl (.tmp 31) (.tmp 32) rfl _ rfl (lit_own _) rfl (R0.alloc (Nat.le_refl _) _) (EC_one l0) (by omega) (by omega) (by simp) ?_; rintro Ao co wo ⟨hown, hg, _, _⟩)
            have hb := below_app ((Below.refl _ _).alloc (Nat.le_refl _) _) (lit_own _) hg (Nat.le_refl _) (by simp)
            have Ro := Rd.of_own hown
            clear hown hg
            replace R0 := R0.belowH hb
            replace R1 := R1.belowH hb
            replace X := X.belowH hb
            replace b := b.trans (hb.mono b.size)
            clear hb
            go_wp2
            replace R0 := R0.drewH
            replace R1 := R1.drewH
            replace Ro := Ro.drewH
            replace X := X.drew
            replace b := b.drew
            refine wp_region_held_drew (S := (fun w' => w'.cell? ⟨W.heap.size, 0, none⟩ = some (.int .i64 x2.key) ∧ w'.cell? ⟨W.heap.size, 1, none⟩ = some (.int .i64 x2.ver) ∧ w'.cell? ⟨W.heap.size, 2, none⟩ = some (.string (strB x2.val)))) (by kernel_rfl) (by exact ⟨X.at 0 rfl, X.at 1 rfl, X.at 2 rfl⟩) (fun hHeld0 => ?_)
            refine wpAnyH_take (i := 0) (oi := ⟨some 34, _, _, _, _, _⟩) (v := ?_) rfl (by kernel_rfl) (by kernel_rfl) (by kernel_rfl) (fun _ _ _ h => h) (Or.inl ⟨by rfl, ?_⟩) hHeld0 ?_
            rotate_left
            · (intro w' hSw; (try dsimp only at hSw); go_simp; all_goals (with_reducible rfl))
            try simp only [Act.put, List.setIfInBounds_toArray, List.set_cons_zero, List.set_cons_succ]
            refine wpAnyH_take (i := 1) (oi := ⟨some 35, _, _, _, _, _⟩) (v := ?_) rfl (by kernel_rfl) (by kernel_rfl) (by kernel_rfl) (fun _ _ _ h => h) (Or.inl ⟨by rfl, ?_⟩) hHeld0 ?_
            rotate_left
            · (intro w' hSw; (try dsimp only at hSw); go_simp; all_goals (with_reducible rfl))
            try simp only [Act.put, List.setIfInBounds_toArray, List.set_cons_zero, List.set_cons_succ]
            refine wpAnyH_take (i := 3) (oi := ⟨some 37, _, _, _, _, _⟩) (v := ?_) rfl (by kernel_rfl) (by kernel_rfl) (by kernel_rfl) (fun _ _ _ h => h) (Or.inl ⟨by rfl, ?_⟩) hHeld0 ?_
            rotate_left
            · (intro w' hSw; (try dsimp only at hSw); go_simp; all_goals (with_reducible rfl))
            try simp only [Act.put, List.setIfInBounds_toArray, List.set_cons_zero, List.set_cons_succ]
            refine wpAnyH_take (i := 4) (oi := ⟨some 38, _, _, _, _, _⟩) (v := ?_) rfl (by kernel_rfl) (by kernel_rfl) (by kernel_rfl) (fun _ _ _ h => h) (Or.inl ⟨by rfl, ?_⟩) hHeld0 ?_
            rotate_left
            · (intro w' hSw; (try dsimp only at hSw); go_simp; all_goals (with_reducible rfl))
            try simp only [Act.put, List.setIfInBounds_toArray, List.set_cons_zero, List.set_cons_succ]
            refine wpAnyH_ready (rs := [2]) (by kernel_rfl) (by simp) (AllReadyH.cons (o := ⟨some 36, _, _, _, _, _⟩) rfl (fun K hK => ?_) AllReadyH.nil)
            go_simp
            refine (join_any l0 l1 Ao A1 n0 n1 co c1 _ _ _ Ro (Nat.le_refl _) R1 (Nat.le_refl _) (by omega) (by omega) HR0.out.2 HR1.out.2).mono ?_
            rintro e w8 ⟨Ap, np, cp, rfl, hm, hown, hb⟩
            have sp : np ≤ n0 + n1 := by have := E.join_length l0 l1; have := HL0.out; have := HL1.out;  rw [hm]; omega
            have Rp := Rd.of_own hown
            clear hm hown
            replace R0 := R0.belowH hb
            replace R1 := R1.belowH hb
            replace Ro := Ro.belowH hb
            replace X := X.belowH hb
            replace b := b.trans (hb.mono b.size)
            clear hb
            go_simp
            refine hK.out _ _ (by exact ⟨X.at 0 rfl, X.at 1 rfl, X.at 2 rfl⟩) (fun hHeld1 => ?_)
            clear hK hHeld0 K
            try simp only [Act.put, List.setIfInBounds_toArray, List.set_cons_zero, List.set_cons_succ]
            refine wpAnyH_ready (rs := [5]) (by kernel_rfl) (by simp) (AllReadyH.cons (o := ⟨some 39, _, _, _, _, _⟩) rfl (fun K hK => ?_) AllReadyH.nil)
            go_simp
            refine (rjoin_any l0 l1 A0 A1 n0 n1 c0 c1 _ _ _ R0 (Nat.le_refl _) R1 (Nat.le_refl _) (by omega) (by omega) HR0.out.2).mono ?_
            rintro e w9 ⟨Aq, nq, cq, rfl, hm, hown, hb⟩
            have sq : nq ≤ n0 + n1 := by have := E.join_length l0 l1; have := HL0.out; have := HL1.out;  rw [hm]; omega
            have Rq := Rd.of_own hown
            clear hm hown
            replace R0 := R0.belowH hb
            replace R1 := R1.belowH hb
            replace Ro := Ro.belowH hb
            replace Rp := Rp.belowH hb
            replace X := X.belowH hb
            replace b := b.trans (hb.mono b.size)
            clear hb
            go_simp
            refine hK.out _ _ (by exact ⟨X.at 0 rfl, X.at 1 rfl, X.at 2 rfl⟩) (fun hHeld2 => ?_)
            clear hK hHeld1 K
            try simp only [Act.put, List.setIfInBounds_toArray, List.set_cons_zero, List.set_cons_succ]
            refine wpAnyH_ready (rs := [6]) (by kernel_rfl) (by simp) (AllReadyH.cons (o := ⟨some 40, _, _, _, _, _⟩) rfl (fun K hK => ?_) AllReadyH.nil)
            go_simp
            refine (rtsame_any (E.join l0 l1) (E.join l0 l1) Ap Aq np nq cp cq _ _ _ Rp Rq (by omega) (by omega)).mono ?_
            rw [decide_eq_true rfl]
            rintro e w10 ⟨rfl, q, hq⟩
            have hb := below_of_drew hq
            clear hq
            replace R0 := R0.belowH hb
            replace R1 := R1.belowH hb
            replace Ro := Ro.belowH hb
            replace Rp := Rp.belowH hb
            replace Rq := Rq.belowH hb
            replace X := X.belowH hb
            replace b := b.trans (hb.mono b.size)
            clear hb
            go_simp
            refine hK.out _ _ (by exact ⟨X.at 0 rfl, X.at 1 rfl, X.at 2 rfl⟩) (fun hHeld3 => ?_)
            clear hK hHeld2 K
            try simp only [Act.put, List.setIfInBounds_toArray, List.set_cons_zero, List.set_cons_succ]
            refine wpAnyH_take (i := 7) (oi := ⟨some 41, _, _, _, _, _⟩) (v := ?_) rfl (by kernel_rfl) (by kernel_rfl) (by kernel_rfl) (fun _ _ _ h => h) (Or.inl ⟨by rfl, ?_⟩) hHeld3 ?_
            rotate_left
            · (intro w' hSw; (try dsimp only at hSw); go_simp; all_goals (with_reducible rfl))
            try simp only [Act.put, List.setIfInBounds_toArray, List.set_cons_zero, List.set_cons_succ]
            refine wpAnyH_take (i := 8) (oi := ⟨some 42, _, _, _, _, _⟩) (v := ?_) rfl (by kernel_rfl) (by kernel_rfl) (by kernel_rfl) (fun _ _ _ h => h) (Or.inl ⟨by rfl, ?_⟩) hHeld3 ?_
            rotate_left
            · (intro w' hSw; (try dsimp only at hSw); go_simp; all_goals (with_reducible rfl))
            try simp only [Act.put, List.setIfInBounds_toArray, List.set_cons_zero, List.set_cons_succ]
            refine wpAnyH_take (i := 9) (oi := ⟨some 43, _, _, _, _, _⟩) (v := ?_) rfl (by kernel_rfl) (by kernel_rfl) (by kernel_rfl) (fun _ _ _ h => h) (Or.inl ⟨by rfl, ?_⟩) hHeld3 ?_
            rotate_left
            · (intro w' hSw; (try dsimp only at hSw); go_simp; all_goals (with_reducible rfl))
            try simp only [Act.put, List.setIfInBounds_toArray, List.set_cons_zero, List.set_cons_succ]
            refine wpAnyH_take (i := 11) (oi := ⟨some 45, _, _, _, _, _⟩) (v := ?_) rfl (by kernel_rfl) (by kernel_rfl) (by kernel_rfl) (fun _ _ _ h => h) (Or.inl ⟨by rfl, ?_⟩) hHeld3 ?_
            rotate_left
            · (intro w' hSw; (try dsimp only at hSw); go_simp; all_goals (with_reducible rfl))
            try simp only [Act.put, List.setIfInBounds_toArray, List.set_cons_zero, List.set_cons_succ]
            refine wpAnyH_take (i := 12) (oi := ⟨some 46, _, _, _, _, _⟩) (v := ?_) rfl (by kernel_rfl) (by kernel_rfl) (by kernel_rfl) (fun _ _ _ h => h) (Or.inl ⟨by rfl, ?_⟩) hHeld3 ?_
            rotate_left
            · (intro w' hSw; (try dsimp only at hSw); go_simp; all_goals (with_reducible rfl))
            try simp only [Act.put, List.setIfInBounds_toArray, List.set_cons_zero, List.set_cons_succ]
            refine wpAnyH_ready (rs := [10]) (by kernel_rfl) (by simp) (AllReadyH.cons (o := ⟨some 44, _, _, _, _, _⟩) rfl (fun K hK => ?_) AllReadyH.nil)
            go_simp
            refine (put_any l0 x2 Ao n0 co _ _ Ro (Nat.le_refl _) (by omega) HR0.out.2).mono ?_
            rintro e w11 ⟨Au, nu, cu, rfl, hm, hown, hb⟩
            have su : nu ≤ n0 + 1 := by have := E.put_length l0 x2; have := HL0.out; have := HL1.out;  rw [hm]; omega
            have Ru := Rd.of_own hown
            clear hm hown
            replace R0 := R0.belowH hb
            replace R1 := R1.belowH hb
            replace Ro := Ro.belowH hb
            replace Rp := Rp.belowH hb
            replace Rq := Rq.belowH hb
            replace X := X.belowH hb
            replace b := b.trans (hb.mono b.size)
            clear hb
            go_simp
            refine hK.out _ _ (by exact ⟨X.at 0 rfl, X.at 1 rfl, X.at 2 rfl⟩) (fun hHeld4 => ?_)
            clear hK hHeld3 K
            try simp only [Act.put, List.setIfInBounds_toArray, List.set_cons_zero, List.set_cons_succ]
            refine wpAnyH_ready (rs := [13]) (by kernel_rfl) (by simp) (AllReadyH.cons (o := ⟨some 47, _, _, _, _, _⟩) rfl (fun K hK => ?_) AllReadyH.nil)
            go_simp
            refine (rput_any l0 x2 A0 n0 c0 _ _ R0 (Nat.le_refl _) (by omega) HR0.out.2).mono ?_
            rintro e w12 ⟨Av, nv, cv, rfl, hm, hown, hb⟩
            have sv : nv ≤ n0 + 1 := by have := E.put_length l0 x2; have := HL0.out; have := HL1.out;  rw [hm]; omega
            have Rv := Rd.of_own hown
            clear hm hown
            replace R0 := R0.belowH hb
            replace R1 := R1.belowH hb
            replace Ro := Ro.belowH hb
            replace Rp := Rp.belowH hb
            replace Rq := Rq.belowH hb
            replace Ru := Ru.belowH hb
            replace X := X.belowH hb
            replace b := b.trans (hb.mono b.size)
            clear hb
            go_simp
            refine hK.out _ _ (by exact ⟨X.at 0 rfl, X.at 1 rfl, X.at 2 rfl⟩) (fun hHeld5 => ?_)
            clear hK hHeld4 K
            try simp only [Act.put, List.setIfInBounds_toArray, List.set_cons_zero, List.set_cons_succ]
            refine wpAnyH_ready (rs := [14]) (by kernel_rfl) (by simp) (AllReadyH.cons (o := ⟨some 48, _, _, _, _, _⟩) rfl (fun K hK => ?_) AllReadyH.nil)
            go_simp
            refine (rtsame_any (E.put l0 x2) (E.put l0 x2) Au Av nu nv cu cv _ _ _ Ru Rv (by omega) (by omega)).mono ?_
            rw [decide_eq_true rfl]
            rintro e w13 ⟨rfl, q, hq⟩
            have hb := below_of_drew hq
            clear hq
            replace R0 := R0.belowH hb
            replace R1 := R1.belowH hb
            replace Ro := Ro.belowH hb
            replace Rp := Rp.belowH hb
            replace Rq := Rq.belowH hb
            replace Ru := Ru.belowH hb
            replace Rv := Rv.belowH hb
            replace X := X.belowH hb
            replace b := b.trans (hb.mono b.size)
            clear hb
            go_simp
            refine hK.out _ _ (by exact ⟨X.at 0 rfl, X.at 1 rfl, X.at 2 rfl⟩) (fun hHeld6 => ?_)
            clear hK hHeld5 K
            try simp only [Act.put, List.setIfInBounds_toArray, List.set_cons_zero, List.set_cons_succ]
            refine wpAnyH_take (i := 15) (oi := ⟨some 49, _, _, _, _, _⟩) (v := ?_) rfl (by kernel_rfl) (by kernel_rfl) (by kernel_rfl) (fun _ _ _ h => h) (Or.inl ⟨by rfl, ?_⟩) hHeld6 ?_
            rotate_left
            · (intro w' hSw; (try dsimp only at hSw); go_simp; all_goals (with_reducible rfl))
            try simp only [Act.put, List.setIfInBounds_toArray, List.set_cons_zero, List.set_cons_succ]
            refine wpAnyH_take (i := 16) (oi := ⟨some 50, _, _, _, _, _⟩) (v := ?_) rfl (by kernel_rfl) (by kernel_rfl) (by kernel_rfl) (fun _ _ _ h => h) (Or.inl ⟨by rfl, ?_⟩) hHeld6 ?_
            rotate_left
            · (intro w' hSw; (try dsimp only at hSw); go_simp; all_goals (with_reducible rfl))
            try simp only [Act.put, List.setIfInBounds_toArray, List.set_cons_zero, List.set_cons_succ]
            refine wpAnyH_take (i := 17) (oi := ⟨some 51, _, _, _, _, _⟩) (v := ?_) rfl (by kernel_rfl) (by kernel_rfl) (by kernel_rfl) (fun _ _ _ h => h) (Or.inl ⟨by rfl, ?_⟩) hHeld6 ?_
            rotate_left
            · (intro w' hSw; (try dsimp only at hSw); go_simp; all_goals (with_reducible rfl))
            try simp only [Act.put, List.setIfInBounds_toArray, List.set_cons_zero, List.set_cons_succ]
            refine wpAnyH_take (i := 18) (oi := ⟨some 52, _, _, _, _, _⟩) (v := ?_) rfl (by kernel_rfl) (by kernel_rfl) (by kernel_rfl) (fun _ _ _ h => h) (Or.inl ⟨by rfl, ?_⟩) hHeld6 ?_
            rotate_left
            · (intro w' hSw; (try dsimp only at hSw); go_simp; all_goals (with_reducible rfl))
            try simp only [Act.put, List.setIfInBounds_toArray, List.set_cons_zero, List.set_cons_succ]
            refine wpAnyH_take (i := 20) (oi := ⟨some 54, _, _, _, _, _⟩) (v := ?_) rfl (by kernel_rfl) (by kernel_rfl) (by kernel_rfl) (fun _ _ _ h => h) (Or.inl ⟨by rfl, ?_⟩) hHeld6 ?_
            rotate_left
            · (intro w' hSw; (try dsimp only at hSw); go_simp; all_goals (with_reducible rfl))
            try simp only [Act.put, List.setIfInBounds_toArray, List.set_cons_zero, List.set_cons_succ]
            refine wpAnyH_take (i := 21) (oi := ⟨some 55, _, _, _, _, _⟩) (v := ?_) rfl (by kernel_rfl) (by kernel_rfl) (by kernel_rfl) (fun _ _ _ h => h) (Or.inl ⟨by rfl, ?_⟩) hHeld6 ?_
            rotate_left
            · (intro w' hSw; (try dsimp only at hSw); go_simp; all_goals (with_reducible rfl))
            try simp only [Act.put, List.setIfInBounds_toArray, List.set_cons_zero, List.set_cons_succ]
            refine wpAnyH_ready (rs := [19]) (by kernel_rfl) (by simp) (AllReadyH.cons (o := ⟨some 53, _, _, _, _, _⟩) rfl (fun K hK => ?_) AllReadyH.nil)
            go_simp
            refine (over_any l0 l1 A0 A1 n0 n1 c0 c1 _ _ _ R0 (Nat.le_refl _) R1 (Nat.le_refl _) (by omega) (by omega) HR0.out.2 HR1.out.2).mono ?_
            rintro e w14 ⟨rfl, hb⟩
            replace R0 := R0.belowH hb
            replace R1 := R1.belowH hb
            replace Ro := Ro.belowH hb
            replace Rp := Rp.belowH hb
            replace Rq := Rq.belowH hb
            replace Ru := Ru.belowH hb
            replace Rv := Rv.belowH hb
            replace X := X.belowH hb
            replace b := b.trans (hb.mono b.size)
            clear hb
            go_simp
            refine hK.out _ _ (by exact ⟨X.at 0 rfl, X.at 1 rfl, X.at 2 rfl⟩) (fun hHeld7 => ?_)
            clear hK hHeld6 K
            try simp only [Act.put, List.setIfInBounds_toArray, List.set_cons_zero, List.set_cons_succ]
            refine wpAnyH_ready (rs := [22]) (by kernel_rfl) (by simp) (AllReadyH.cons (o := ⟨some 56, _, _, _, _, _⟩) rfl (fun K hK => ?_) AllReadyH.nil)
            go_simp
            refine (rover_any l0 l1 A0 A1 n0 n1 c0 c1 _ _ _ R0 (Nat.le_refl _) R1 (Nat.le_refl _) (by omega) (by omega) HR0.out.2).mono ?_
            rintro e w15 ⟨rfl, hb⟩
            replace R0 := R0.belowH hb
            replace R1 := R1.belowH hb
            replace Ro := Ro.belowH hb
            replace Rp := Rp.belowH hb
            replace Rq := Rq.belowH hb
            replace Ru := Ru.belowH hb
            replace Rv := Rv.belowH hb
            replace X := X.belowH hb
            replace b := b.trans (hb.mono b.size)
            clear hb
            go_simp
            refine hK.out _ _ (by exact ⟨X.at 0 rfl, X.at 1 rfl, X.at 2 rfl⟩) (fun hHeld8 => ?_)
            clear hK hHeld7 K
            try simp only [Act.put, List.setIfInBounds_toArray, List.set_cons_zero, List.set_cons_succ]
            refine wpAnyH_take (i := 23) (oi := ⟨some 57, _, _, _, _, _⟩) (v := ?_) rfl (by kernel_rfl) (by kernel_rfl) (by kernel_rfl) (fun _ _ _ h => h) (Or.inl ⟨by rfl, ?_⟩) hHeld8 ?_
            rotate_left
            · (intro w' hSw; (try dsimp only at hSw); go_simp; all_goals (with_reducible rfl))
            try simp only [Act.put, List.setIfInBounds_toArray, List.set_cons_zero, List.set_cons_succ]
            refine wpAnyH_take (i := 24) (oi := ⟨some 58, _, _, _, _, _⟩) (v := ?_) rfl (by kernel_rfl) (by kernel_rfl) (by kernel_rfl) (fun _ _ _ h => h) (Or.inl ⟨by rfl, ?_⟩) hHeld8 ?_
            rotate_left
            · (intro w' hSw; (try dsimp only at hSw); go_simp; all_goals (with_reducible rfl))
            try simp only [Act.put, List.setIfInBounds_toArray, List.set_cons_zero, List.set_cons_succ]
            refine wpAnyH_take (i := 25) (oi := ⟨some 59, _, _, _, _, _⟩) (v := ?_) rfl (by kernel_rfl) (by kernel_rfl) (by kernel_rfl) (fun _ _ _ h => h) (Or.inl ⟨by rfl, ?_⟩) hHeld8 ?_
            rotate_left
            · (intro w' hSw; (try dsimp only at hSw); go_simp; all_goals (with_reducible rfl))
            try simp only [Act.put, List.setIfInBounds_toArray, List.set_cons_zero, List.set_cons_succ]
            refine wpAnyH_take (i := 26) (oi := ⟨some 60, _, _, _, _, _⟩) (v := ?_) rfl (by kernel_rfl) (by kernel_rfl) (by kernel_rfl) (fun _ _ _ h => h) (Or.inl ⟨by rfl, ?_⟩) hHeld8 ?_
            rotate_left
            · (intro w' hSw; (try dsimp only at hSw); go_simp; all_goals (with_reducible rfl))
            try simp only [Act.put, List.setIfInBounds_toArray, List.set_cons_zero, List.set_cons_succ]
            refine wpAnyH_take (i := 27) (oi := ⟨some 61, _, _, _, _, _⟩) (v := ?_) rfl (by kernel_rfl) (by kernel_rfl) (by kernel_rfl) (fun _ _ _ h => h) (Or.inl ⟨by rfl, ?_⟩) hHeld8 ?_
            rotate_left
            · (intro w' hSw; (try dsimp only at hSw); go_simp; all_goals (with_reducible rfl))
            try simp only [Act.put, List.setIfInBounds_toArray, List.set_cons_zero, List.set_cons_succ]
            refine wpAnyH_ready (rs := [28]) (by kernel_rfl) (by simp) (AllReadyH.cons (o := ⟨some 62, _, _, _, _, _⟩) rfl (fun K hK => ?_) AllReadyH.nil)
            go_simp
            refine (rtsame_any l0 l0 Ao A0 n0 n0 co c0 _ _ _ Ro R0 (by omega) (by omega)).mono ?_
            rw [decide_eq_true rfl]
            rintro e w16 ⟨rfl, q, hq⟩
            have hb := below_of_drew hq
            clear hq
            replace R0 := R0.belowH hb
            replace R1 := R1.belowH hb
            replace Ro := Ro.belowH hb
            replace Rp := Rp.belowH hb
            replace Rq := Rq.belowH hb
            replace Ru := Ru.belowH hb
            replace Rv := Rv.belowH hb
            replace X := X.belowH hb
            replace b := b.trans (hb.mono b.size)
            clear hb
            go_simp
            refine hK.out _ _ (by exact ⟨X.at 0 rfl, X.at 1 rfl, X.at 2 rfl⟩) (fun hHeld9 => ?_)
            clear hK hHeld8 K
            try simp only [Act.put, List.setIfInBounds_toArray, List.set_cons_zero, List.set_cons_succ]
            refine wpAnyH_take (i := 29) (oi := ⟨some 63, _, _, _, _, _⟩) (v := ?_) rfl (by kernel_rfl) (by kernel_rfl) (by kernel_rfl) (fun _ _ _ h => h) (Or.inl ⟨by rfl, ?_⟩) hHeld9 ?_
            rotate_left
            · (intro w' hSw; (try dsimp only at hSw); go_simp; all_goals (with_reducible rfl))
            try simp only [Act.put, List.setIfInBounds_toArray, List.set_cons_zero, List.set_cons_succ]
            refine wpAnyH_take (i := 30) (oi := ⟨some 6, _, _, _, _, _⟩) (v := ?_) rfl (by kernel_rfl) (by kernel_rfl) (by kernel_rfl) (fun _ _ _ h => h) (Or.inl ⟨by rfl, ?_⟩) hHeld9 ?_
            rotate_left
            · (intro w' hSw; (try dsimp only at hSw); go_simp; all_goals (with_reducible rfl))
            try simp only [Act.put, List.setIfInBounds_toArray, List.set_cons_zero, List.set_cons_succ]
            refine wpAnyH_done (by kernel_rfl) ?_ _
            go_wp2
            go_ret
            exact ⟨rfl, b⟩
    · go_wp2
      go_ret
      exact ⟨rfl, b⟩
  · go_wp2
    go_ret
    exact ⟨rfl, b⟩
end Go.Proofs.Ytkohoghebdfkiaa
