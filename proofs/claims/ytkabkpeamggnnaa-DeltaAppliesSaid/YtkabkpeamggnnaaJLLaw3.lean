/- LLaw3 (merged). -/
import Derived.Test.YtkabkpeamggnnaaJLAlive
import Derived.Test.YtkabkpeamggnnaaJLRef5
namespace Go.Proofs.Ytkabkpeamggnnaa
set_option linter.unusedVariables false
set_option linter.unusedSimpArgs false
open Go.RowKit

theorem I_len (l : List Int) : (I l).length = l.length := by simp [I]
theorem fold_nodes_len (l : List Dl) : ∀ p : List Nm × List Int, (l.foldl L.step p).2.length ≤ p.2.length + l.length := by
  induction l with
  | nil => intro p; simp
  | cons d r ih =>
    intro p
    rw [List.foldl_cons]
    have h1 := ih (L.step p d)
    have h2 : (L.step p d).2.length ≤ p.2.length + 1 := by
      unfold L.step
      split <;> simp
    rw [List.length_cons]
    omega
theorem apply_nodes_len (v : List Nm) (l : List Dl) : (L.apply v l).2.length ≤ l.length := by
  have := fold_nodes_len l (v, [])
  simpa [L.apply] using this

set_option maxHeartbeats 8000000 in
set_option maxRecDepth 100000 in
theorem law_DeltaApplies (v0 : Vw) (U1 U2 : Lw) (W : World) (t0 : VIn W v0) (t1 : LIn W U1) (t2 : LIn W U2) :
    Calls Try.prog 4 #[vval v0, lval U1, lval U2] W fun e w' => e = .returned (.bool true) ∧ Below W.heap.size W w' := by
  have R0 := t0.1
  have HK0 : Hid (v0.n * 48 ≤ 140737488351232 ∧ ∀ x ∈ v0.l, x.v.n * 32 ≤ 140737488351232 ∧ ∀ y ∈ x.v.s.apps, y.val.length ≤ 140737488351232) := Lib.hid ⟨t0.2.2.1, fun x hx => (t0.2.2.2 x hx).1⟩
  clear t0
  have R1 := t1.1
  have HK1 : Hid (U1.n * 56 ≤ 140737488351232 ∧ ∀ x ∈ U1.l, x.v.n * 32 ≤ 140737488351232 ∧ ∀ y ∈ x.v.s.apps, y.val.length ≤ 140737488351232) := Lib.hid ⟨t1.2.2.1, t1.2.2.2⟩
  clear t1
  have R2 := t2.1
  have HK2 : Hid (U2.n * 56 ≤ 140737488351232 ∧ ∀ x ∈ U2.l, x.v.n * 32 ≤ 140737488351232 ∧ ∀ y ∈ x.v.s.apps, y.val.length ≤ 140737488351232) := Lib.hid ⟨t2.2.2.1, t2.2.2.2⟩
  clear t2
  simp only [vval, lval]
  have b := Below.refl W.heap.size W
  go_enter Try.func4, Try.ntmps4
  go_wp2_with fail
  refine (alive_any _).mono ?_
  rintro e w2 ⟨rfl, hb⟩
  replace R0 := R0.belowH hb
  replace R1 := R1.belowH hb
  replace R2 := R2.belowH hb
  replace b := b.trans (hb.mono b.size)
  clear hb
  go_wp2_with fail
  refine (rvgreat_any v0 _ R0 HK0.out.1 HK0.out.2).mono ?_
  rintro e w3 ⟨rfl, hb⟩
  replace R0 := R0.belowH hb
  replace R1 := R1.belowH hb
  replace R2 := R2.belowH hb
  replace b := b.trans (hb.mono b.size)
  clear hb
  rcases hgr : vgreatB v0.l
  · skip
    have HG0 := Lib.hid (vgreat_small R0 hgr)
    clear hgr
    go_wp2_with fail
    refine (rlgreat_any U1 _ R1 HK1.out.1 HK1.out.2).mono ?_
    rintro e w4 ⟨rfl, hb⟩
    replace R0 := R0.belowH hb
    replace R1 := R1.belowH hb
    replace R2 := R2.belowH hb
    replace b := b.trans (hb.mono b.size)
    clear hb
    rcases hgr : lgreatB U1.l
    · skip
      have HG1 := Lib.hid (lgreat_small R1 hgr)
      clear hgr
      go_wp2_with fail
      refine (rlgreat_any U2 _ R2 HK2.out.1 HK2.out.2).mono ?_
      rintro e w5 ⟨rfl, hb⟩
      replace R0 := R0.belowH hb
      replace R1 := R1.belowH hb
      replace R2 := R2.belowH hb
      replace b := b.trans (hb.mono b.size)
      clear hb
      rcases hgr : lgreatB U2.l
      · skip
        have HG2 := Lib.hid (lgreat_small R2 hgr)
        clear hgr
        have u1 : (lrightB U1.dls != lrightB U1.dls) = false := bne_self_eq_false _
        have u2 : (decide (U1.dls = U2.dls) != decide (U1.dls = U2.dls)) = false := bne_self_eq_false _
        go_wp2_with fail
        refine (lcright_any U1 _ R1 (by have hq := HG1.out.1; omega) HG1.out.2).mono ?_
        rintro e w6 ⟨rfl, hb⟩
        replace R0 := R0.belowH hb
        replace R1 := R1.belowH hb
        replace R2 := R2.belowH hb
        replace b := b.trans (hb.mono b.size)
        clear hb
        go_wp2_with fail
        refine (rlright_any U1 _ R1 (by have hq := HG1.out.1; omega) HG1.out.2).mono ?_
        rintro e w7 ⟨rfl, hb⟩
        replace R0 := R0.belowH hb
        replace R1 := R1.belowH hb
        replace R2 := R2.belowH hb
        replace b := b.trans (hb.mono b.size)
        clear hb
        go_wp2_with fail
        refine (lcsame_any U1 U2 _ R1 R2 (by have hq := HG1.out.1; omega) (by have hq := HG2.out.1; omega) HG1.out.2 HG2.out.2).mono ?_
        rintro e w8 ⟨rfl, hb⟩
        replace R0 := R0.belowH hb
        replace R1 := R1.belowH hb
        replace R2 := R2.belowH hb
        replace b := b.trans (hb.mono b.size)
        clear hb
        go_wp2_with fail
        refine (rlsame_any U1 U2 _ R1 R2 (by have hq := HG1.out.1; omega) (by have hq := HG2.out.1; omega) HG1.out.2 HG2.out.2).mono ?_
        rintro e w9 ⟨rfl, hb⟩
        replace R0 := R0.belowH hb
        replace R1 := R1.belowH hb
        replace R2 := R2.belowH hb
        replace b := b.trans (hb.mono b.size)
        clear hb
        go_wp2_with fail
        refine (rvright_any v0  _ R0 (by have hq := HG0.out.1; omega) HG0.out.2).mono ?_
        rintro e w10 ⟨rfl, hb⟩
        replace R0 := R0.belowH hb
        replace R1 := R1.belowH hb
        replace R2 := R2.belowH hb
        replace b := b.trans (hb.mono b.size)
        clear hb
        rcases hr0 : vrightB v0.view
        · go_wp2
          go_ret
          exact ⟨rfl, b⟩
        · skip
          have HR0 := Lib.hid (vrightB_out hr0)
          clear hr0
          go_wp2_with fail
          refine (rlright_any U1 _ R1 (by have hq := HG1.out.1; omega) HG1.out.2).mono ?_
          rintro e w11 ⟨rfl, hb⟩
          replace R0 := R0.belowH hb
          replace R1 := R1.belowH hb
          replace R2 := R2.belowH hb
          replace b := b.trans (hb.mono b.size)
          clear hb
          rcases hr1 : lrightB U1.dls
          · go_wp2
            go_ret
            exact ⟨rfl, b⟩
          · skip
            have HR1 := Lib.hid (lrightB_out hr1)
            clear hr1
            clear u1 u2
            go_wp2_with fail
            refine (rvcopy_any v0  _ R0 (by have hq := right_n R0 HR0.out; omega) (right_fitR R0 HR0.out)).mono ?_
            rintro e w12 ⟨Uo, rfl, hv, hown, hb⟩
            have Ho : Hid (Uo.view = v0.view) := Lib.hid hv
            have Ro := hown.vrd
            clear hv hown
            replace R0 := R0.belowH hb
            replace R1 := R1.belowH hb
            replace R2 := R2.belowH hb
            replace b := b.trans (hb.mono b.size)
            clear hb
            have HRo : Hid (V.right Uo.view) := Lib.hid (by rw [Ho.out]; exact HR0.out)
            simp only [vval]
            go_wp2_with fail
            refine (lcapply_any Uo U1 _ Ro R1 HRo.out HR1.out (by have hq := right_nL R1 HR1.out; omega)).mono ?_
            rintro e w13 ⟨Ua, Ax, nx, cx, rfl, hv, Ra, Rx, hb⟩
            have Ha : Hid (Ua.view = (L.apply Uo.view U1.dls).1) := Lib.hid hv
            clear hv
            replace R0 := R0.belowH hb
            replace R1 := R1.belowH hb
            replace R2 := R2.belowH hb
            replace Ro := Ro.belowH hb
            replace b := b.trans (hb.mono b.size)
            clear hb
            have HRa : Hid (V.right Ua.view) := Lib.hid (by rw [Ha.out]; exact L.apply_right HRo.out HR1.out)
            simp only [vval]
            go_wp2_with fail
            refine (rlapply_any v0 U1 _ R0 R1 HR0.out HR1.out (by have hq := right_nL R1 HR1.out; omega)).mono ?_
            rintro e w14 ⟨Ue, Ay, ny, cy, rfl, hv, Re, Ry, hb⟩
            have He : Hid (Ue.view = (L.apply v0.view U1.dls).1) := Lib.hid hv
            clear hv
            replace R0 := R0.belowH hb
            replace R1 := R1.belowH hb
            replace R2 := R2.belowH hb
            replace Ro := Ro.belowH hb
            replace Ra := Ra.belowH hb
            replace Rx := Rx.belowH hb
            replace b := b.trans (hb.mono b.size)
            clear hb
            have HRe : Hid (V.right Ue.view) := Lib.hid (by rw [He.out]; exact L.apply_right HR0.out HR1.out)
            simp only [vval]
            obtain ⟨l1, A1, n1, c1⟩ := U1
            have HN1 : Hid (n1 ≤ 8) := Lib.hid (right_nL R1 HR1.out)
            have HF1 := Lib.hid (right_fitL R1 HR1.out)
            simp only [lval]
            go_wp2
            go_loopw [12] (fun i wr => ∃ k : Nat, k ≤ n1 ∧ i = .int .i64 k ∧ Below w14.heap.size w14 wr) (fun i _ => n1 - (intOf i).toNat)
            case atStart => exact ⟨0, by omega, rfl, Below.refl _ _⟩
            case round =>
              obtain ⟨k, hk, rfl, hb⟩ := hrel
              have hb0 := Lib.hid hb
              replace R0 := R0.belowH hb
              replace R1 := R1.belowH hb
              replace R2 := R2.belowH hb
              replace Ro := Ro.belowH hb
              replace Ra := Ra.belowH hb
              replace Rx := Rx.belowH hb
              replace Re := Re.belowH hb
              replace Ry := Ry.belowH hb
              replace b := b.trans (hb.mono b.size)
              clear hb
              have hn18 := HN1.out
              by_cases hlt : k < n1
              · skip
                obtain ⟨b1, o1, x, e1, hb1, hx, hsx, c0, c1', c2, c3, c4⟩ := R1.at hlt
                simp only at e1 hx
                subst e1
                have hk0 : (0 : Int) ≤ (k : Int) := by omega
                have HFX := Lib.hid (HF1.out x (List.mem_of_getElem? hx))
                clear hx
                have tt : (L.fits v0.view x.dl != L.fits v0.view x.dl) = false := bne_self_eq_false _
                go_wp2
                refine wp_region_held_drew (S := (fun w' => w'.cell? ⟨b1, o1 + k * 5, none⟩ = some (.int .i64 x.node) ∧ w'.cell? ⟨b1, o1 + k * 5 + 1, none⟩ = some (.int .i64 x.frm) ∧ w'.cell? ⟨b1, o1 + k * 5 + 2, none⟩ = some (.int .i64 x.v.s.gen) ∧ w'.cell? ⟨b1, o1 + k * 5 + 3, none⟩ = some (.int .i64 x.v.s.beat) ∧ w'.cell? ⟨b1, o1 + k * 5 + 4, none⟩ = some (.slice x.v.A x.v.n x.v.c))) (by kernel_rfl) (by exact ⟨c0, c1', c2, c3, c4⟩) (fun hHeld0 => ?_)
                refine wpAnyH_take (i := 0) (oi := ⟨some 67, _, _, _, _, _⟩) (v := ?_) rfl (by kernel_rfl) (by kernel_rfl) (by kernel_rfl) (fun _ _ _ h => h) (Or.inl ⟨by rfl, ?_⟩) hHeld0 ?_
                rotate_left
                · (intro w' hSw; (try dsimp only at hSw); go_simp; all_goals (with_reducible rfl))
                try simp only [Act.put, sA, sB, sC]
                refine wpAnyH_take (i := 1) (oi := ⟨some 68, _, _, _, _, _⟩) (v := ?_) rfl (by kernel_rfl) (by kernel_rfl) (by kernel_rfl) (fun _ _ _ h => h) (Or.inl ⟨by rfl, ?_⟩) hHeld0 ?_
                rotate_left
                · (intro w' hSw; (try dsimp only at hSw); go_simp; all_goals (with_reducible rfl))
                try simp only [Act.put, sA, sB, sC]
                refine wpAnyH_take (i := 2) (oi := ⟨some 69, _, _, _, _, _⟩) (v := ?_) rfl (by kernel_rfl) (by kernel_rfl) (by kernel_rfl) (fun _ _ _ h => h) (Or.inl ⟨by rfl, ?_⟩) hHeld0 ?_
                rotate_left
                · (intro w' hSw; (try dsimp only at hSw); go_simp; all_goals (with_reducible rfl))
                try simp only [Act.put, sA, sB, sC]
                refine wpAnyH_take (i := 3) (oi := ⟨some 70, _, _, _, _, _⟩) (v := ?_) rfl (by kernel_rfl) (by kernel_rfl) (by kernel_rfl) (fun _ _ _ h => h) (Or.inl ⟨by rfl, ?_⟩) hHeld0 ?_
                rotate_left
                · (intro w' hSw; (try dsimp only at hSw); go_simp; all_goals (with_reducible rfl))
                try simp only [Act.put, sA, sB, sC]
                refine wpAnyH_take (i := 4) (oi := ⟨some 71, _, _, _, _, _⟩) (v := ?_) rfl (by kernel_rfl) (by kernel_rfl) (by kernel_rfl) (fun _ _ _ h => h) (Or.inl ⟨by rfl, ?_⟩) hHeld0 ?_
                rotate_left
                · (intro w' hSw; (try dsimp only at hSw); go_simp; all_goals (with_reducible rfl))
                try simp only [Act.put, sA, sB, sC]
                refine wpAnyH_take (i := 6) (oi := ⟨some 73, _, _, _, _, _⟩) (v := ?_) rfl (by kernel_rfl) (by kernel_rfl) (by kernel_rfl) (fun _ _ _ h => h) (Or.inl ⟨by rfl, ?_⟩) hHeld0 ?_
                rotate_left
                · (intro w' hSw; (try dsimp only at hSw); go_simp; all_goals (with_reducible rfl))
                try simp only [Act.put, sA, sB, sC]
                refine wpAnyH_take (i := 7) (oi := ⟨some 74, _, _, _, _, _⟩) (v := ?_) rfl (by kernel_rfl) (by kernel_rfl) (by kernel_rfl) (fun _ _ _ h => h) (Or.inl ⟨by rfl, ?_⟩) hHeld0 ?_
                rotate_left
                · (intro w' hSw; (try dsimp only at hSw); go_simp; all_goals (with_reducible rfl))
                try simp only [Act.put, sA, sB, sC]
                refine wpAnyH_take (i := 8) (oi := ⟨some 75, _, _, _, _, _⟩) (v := ?_) rfl (by kernel_rfl) (by kernel_rfl) (by kernel_rfl) (fun _ _ _ h => h) (Or.inl ⟨by rfl, ?_⟩) hHeld0 ?_
                rotate_left
                · (intro w' hSw; (try dsimp only at hSw); go_simp; all_goals (with_reducible rfl))
                try simp only [Act.put, sA, sB, sC]
                refine wpAnyH_take (i := 9) (oi := ⟨some 76, _, _, _, _, _⟩) (v := ?_) rfl (by kernel_rfl) (by kernel_rfl) (by kernel_rfl) (fun _ _ _ h => h) (Or.inl ⟨by rfl, ?_⟩) hHeld0 ?_
                rotate_left
                · (intro w' hSw; (try dsimp only at hSw); go_simp; all_goals (with_reducible rfl))
                try simp only [Act.put, sA, sB, sC]
                refine wpAnyH_take (i := 10) (oi := ⟨some 77, _, _, _, _, _⟩) (v := ?_) rfl (by kernel_rfl) (by kernel_rfl) (by kernel_rfl) (fun _ _ _ h => h) (Or.inl ⟨by rfl, ?_⟩) hHeld0 ?_
                rotate_left
                · (intro w' hSw; (try dsimp only at hSw); go_simp; all_goals (with_reducible rfl))
                try simp only [Act.put, sA, sB, sC]
                refine wpAnyH_ready (rs := [5]) (by kernel_rfl) (by simp) (AllReadyH.cons (o := ⟨some 72, _, _, _, _, _⟩) rfl (fun K hK => ?_) AllReadyH.nil)
                go_simp
                (refine (lcfits_any v0 x _ R0.drewH hsx.drewH (by have hq := right_n R0 HR0.out; omega) (right_fitR R0 HR0.out) HFX.out).mono ?_; rintro e wa ⟨rfl, hba⟩; have hbb : Below wr.heap.size wr wa := (Below.refl _ _).drew.trans hba; replace c0 := (hbb.cell (p := ⟨b1, o1 + k * 5, none⟩) (by show b1 < wr.heap.size; omega)).trans c0; replace c1' := (hbb.cell (p := ⟨b1, o1 + k * 5 + 1, none⟩) (by show b1 < wr.heap.size; omega)).trans c1'; replace c2 := (hbb.cell (p := ⟨b1, o1 + k * 5 + 2, none⟩) (by show b1 < wr.heap.size; omega)).trans c2; replace c3 := (hbb.cell (p := ⟨b1, o1 + k * 5 + 3, none⟩) (by show b1 < wr.heap.size; omega)).trans c3; replace c4 := (hbb.cell (p := ⟨b1, o1 + k * 5 + 4, none⟩) (by show b1 < wr.heap.size; omega)).trans c4; have R0a := R0.belowH hbb; have hsa := hsx.belowH hbb; have hbs1 := hbb.size)
                go_simp
                refine hK.out _ _ (by exact ⟨c0, c1', c2, c3, c4⟩) (fun hHeld1 => ?_)
                clear hK hHeld0 K
                try simp only [Act.put, sA, sB, sC]
                refine wpAnyH_ready (rs := [11]) (by kernel_rfl) (by simp) (AllReadyH.cons (o := ⟨some 78, _, _, _, _, _⟩) rfl (fun K hK => ?_) AllReadyH.nil)
                go_simp
                (refine (rlfits_any v0 x _ R0a hsa (by have hq := right_n R0a HR0.out; omega) (right_fitR R0a HR0.out)).mono ?_; rintro e wb ⟨rfl, hbc⟩; replace c0 := (hbc.cell (p := ⟨b1, o1 + k * 5, none⟩) (by show b1 < wa.heap.size; omega)).trans c0; replace c1' := (hbc.cell (p := ⟨b1, o1 + k * 5 + 1, none⟩) (by show b1 < wa.heap.size; omega)).trans c1'; replace c2 := (hbc.cell (p := ⟨b1, o1 + k * 5 + 2, none⟩) (by show b1 < wa.heap.size; omega)).trans c2; replace c3 := (hbc.cell (p := ⟨b1, o1 + k * 5 + 3, none⟩) (by show b1 < wa.heap.size; omega)).trans c3; replace c4 := (hbc.cell (p := ⟨b1, o1 + k * 5 + 4, none⟩) (by show b1 < wa.heap.size; omega)).trans c4)
                go_simp
                refine hK.out _ _ (by exact ⟨c0, c1', c2, c3, c4⟩) (fun hHeld2 => ?_)
                clear hK hHeld1 K
                try simp only [Act.put, sA, sB, sC]
                refine wpAnyH_take (i := 12) (oi := ⟨some 79, _, _, _, _, _⟩) (v := ?_) rfl (by kernel_rfl) (by kernel_rfl) (by kernel_rfl) (fun _ _ _ h => h) (Or.inl ⟨by rfl, ?_⟩) hHeld2 ?_
                rotate_left
                · (intro w' hSw; (try dsimp only at hSw); go_simp; all_goals (with_reducible rfl))
                try simp only [Act.put, sA, sB, sC]
                refine wpAnyH_done (by kernel_rfl) ?_ _
                go_wp2
                go_roundw
                case rel => exact ⟨k + 1, by omega, by go_num, hb0.out.trans ((hbb.trans (hbc.mono hbs1)).mono hb0.out.size)⟩
                case measure => simp [intOf]; omega
              · skip
                go_wp2_with fail
                refine (rvsame_any Ua Ue _ Ra Re (by have hq := right_n Ra HRa.out; omega) (by have hq := right_n Re HRe.out; omega) (right_fitR Ra HRa.out) (right_fitR Re HRe.out)).mono ?_
                rw [decide_eq_true (show Ua.view = Ue.view by rw [Ha.out, He.out, Ho.out])]
                rintro e w15 ⟨rfl, hb⟩
                replace R0 := R0.belowH hb
                replace R1 := R1.belowH hb
                replace R2 := R2.belowH hb
                replace Ro := Ro.belowH hb
                replace Ra := Ra.belowH hb
                replace Rx := Rx.belowH hb
                replace Re := Re.belowH hb
                replace Ry := Ry.belowH hb
                replace b := b.trans (hb.mono b.size)
                clear hb
                have hnx : nx ≤ 1000 := by have hq := Rx.len1; have hq2 := apply_nodes_len v0.view (Lw.dls ⟨l1, A1, n1, c1⟩); rw [Ho.out] at hq; rw [I_len] at hq; have hq3 := R1.dlslen; have := HN1.out; simp only at hq3; omega
                go_wp2_with fail
                refine (rints_any _ _ Ax Ay nx ny cx cy _ _ _ Rx Ry hnx).mono ?_
                rw [decide_eq_true (show (L.apply Uo.view (Lw.dls ⟨l1, A1, n1, c1⟩)).2 = (L.apply v0.view (Lw.dls ⟨l1, A1, n1, c1⟩)).2 by rw [Ho.out])]
                rintro e w16 ⟨rfl, q, hq⟩
                have hb := below_of_drew hq
                clear hq
                replace R0 := R0.belowH hb
                replace R1 := R1.belowH hb
                replace R2 := R2.belowH hb
                replace Ro := Ro.belowH hb
                replace Ra := Ra.belowH hb
                replace Rx := Rx.belowH hb
                replace Re := Re.belowH hb
                replace Ry := Ry.belowH hb
                replace b := b.trans (hb.mono b.size)
                clear hb
                go_wp2_with fail
                refine (rvsame_any Uo v0 _ Ro R0 (by have hq := right_n Ro HRo.out; omega) (by have hq := right_n R0 HR0.out; omega) (right_fitR Ro HRo.out) (right_fitR R0 HR0.out)).mono ?_
                rw [decide_eq_true Ho.out]
                rintro e w17 ⟨rfl, hb⟩
                replace R0 := R0.belowH hb
                replace R1 := R1.belowH hb
                replace R2 := R2.belowH hb
                replace Ro := Ro.belowH hb
                replace Ra := Ra.belowH hb
                replace Rx := Rx.belowH hb
                replace Re := Re.belowH hb
                replace Ry := Ry.belowH hb
                replace b := b.trans (hb.mono b.size)
                clear hb
                go_wp2_with fail
                refine (rvover_any Ua v0 _ Ra R0 HRa.out HR0.out).mono ?_
                rw [decide_eq_true (show V.join Ua.view v0.view = Ua.view by rw [Ha.out, Ho.out]; exact L.apply_over (V.right_good HR0.out) HR1.out)]
                rintro e w18 ⟨rfl, hb⟩
                replace R0 := R0.belowH hb
                replace R1 := R1.belowH hb
                replace R2 := R2.belowH hb
                replace Ro := Ro.belowH hb
                replace Ra := Ra.belowH hb
                replace Rx := Rx.belowH hb
                replace Re := Re.belowH hb
                replace Ry := Ry.belowH hb
                replace b := b.trans (hb.mono b.size)
                clear hb
                go_wp2_with fail
                refine (rvright_any Ua  _ Ra (by have hq := right_n Ra HRa.out; omega) (right_fitR Ra HRa.out)).mono ?_
                rw [vrightB_yes HRa.out]
                rintro e w19 ⟨rfl, hb⟩
                replace R0 := R0.belowH hb
                replace R1 := R1.belowH hb
                replace R2 := R2.belowH hb
                replace Ro := Ro.belowH hb
                replace Ra := Ra.belowH hb
                replace Rx := Rx.belowH hb
                replace Re := Re.belowH hb
                replace Ry := Ry.belowH hb
                replace b := b.trans (hb.mono b.size)
                clear hb
                go_wp2
                go_ret
                exact ⟨rfl, b⟩
      · go_wp2
        go_ret
        exact ⟨rfl, b⟩
    · go_wp2
      go_ret
      exact ⟨rfl, b⟩
  · go_wp2
    go_ret
    exact ⟨rfl, b⟩
end Go.Proofs.Ytkabkpeamggnnaa

