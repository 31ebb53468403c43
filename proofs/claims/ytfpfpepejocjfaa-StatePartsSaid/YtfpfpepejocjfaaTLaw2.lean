/- StateOvers walks. -/
import Derived.Test.YtfpfpepejocjfaaTLaw1
namespace Go.Proofs.Ytfpfpepejocjfaa
set_option linter.unusedVariables false
set_option linter.unusedSimpArgs false
open Go.RowKit

theorem soverB_iff {a b : St} : soverB a b = true ↔ S.over a b := by unfold soverB sameB S.over; exact decide_eq_true_iff
theorem soverB_no {a b : St} (h : soverB a b = false) : ¬ S.over a b := fun h2 => by rw [soverB_iff.2 h2] at h; cases h
theorem soverB_le {a b : St} (h : soverB a b = false) : a.gen ≤ b.gen := by
  have h1 := soverB_no h
  rcases Int.lt_or_le b.gen a.gen with h2 | h2
  · exact absurd (S.over_gt h2).1 h1
  · exact h2
theorem soverB_le2 {a b : St} (h : soverB b a = true) : a.gen ≤ b.gen := by
  have h1 := soverB_iff.1 h
  rcases Int.lt_or_le b.gen a.gen with h2 | h2
  · exact absurd h1 (S.over_gt h2).2
  · exact h2
theorem sameB_no1 {a b : St} (ha : S.rise a) (h : soverB a b = false) : sameB a b = false := decide_eq_false fun e => soverB_no h (e ▸ S.over_self ha)
theorem sameB_no2 {a b : St} (ha : S.rise a) (h : soverB b a = false) : sameB a b = false := decide_eq_false fun e => soverB_no h (e ▸ S.over_self ha)
theorem sameB_yes2 {a b : St} (ha : S.rise a) (hb : S.rise b) (h1 : soverB a b = true) (h2 : soverB b a = true) : sameB a b = true := decide_eq_true (S.over_antisymm ha hb (soverB_iff.1 h1) (soverB_iff.1 h2))

set_option maxHeartbeats 8000000 in
set_option maxRecDepth 100000 in
theorem law_StateOvers (v0 : Sv) (v1 : Sv) (W : World) (t0 : SIn W v0) (t1 : SIn W v1) :
    Calls Try.prog 8 #[sv v0, sv v1] W fun e w' => e = .returned (.bool true) ∧ Below W.heap.size W w' := by
  obtain ⟨⟨g0, e0, l0⟩, A0, n0, c0⟩ := v0
  obtain ⟨R0, hn0, hv0, _, _⟩ := t0
  simp only at hn0 hv0
  have HL0 := Lib.hid R0.len
  have HV0 := Lib.hid hv0
  clear hv0
  obtain ⟨⟨g1, e1, l1⟩, A1, n1, c1⟩ := v1
  obtain ⟨R1, hn1, hv1, _, _⟩ := t1
  simp only at hn1 hv1
  have HL1 := Lib.hid R1.len
  have HV1 := Lib.hid hv1
  clear hv1
  simp only [sv]
  have b := Below.refl W.heap.size W
  replace R0 := R0.allocH (.cells #[.int .i64 g0, .int .i64 e0, .slice A0 n0 c0] 24)
  replace R1 := R1.allocH (.cells #[.int .i64 g0, .int .i64 e0, .slice A0 n0 c0] 24)
  have X := Box.new (W) #[.int .i64 g0, .int .i64 e0, .slice A0 n0 c0] 24
  replace b := b.alloc b.size (.cells #[.int .i64 g0, .int .i64 e0, .slice A0 n0 c0] 24)
  replace R0 := R0.allocH (.cells #[.int .i64 g1, .int .i64 e1, .slice A1 n1 c1] 24)
  replace R1 := R1.allocH (.cells #[.int .i64 g1, .int .i64 e1, .slice A1 n1 c1] 24)
  replace X := X.alloc (.cells #[.int .i64 g1, .int .i64 e1, .slice A1 n1 c1] 24)
  have Y := Box.new (W.alloc (.cells #[.int .i64 g0, .int .i64 e0, .slice A0 n0 c0] 24)) #[.int .i64 g1, .int .i64 e1, .slice A1 n1 c1] 24
  replace b := b.alloc b.size (.cells #[.int .i64 g1, .int .i64 e1, .slice A1 n1 c1] 24)
  rw [show (W.alloc (.cells #[.int .i64 g0, .int .i64 e0, .slice A0 n0 c0] 24)).heap.size = W.heap.size + 1 by simp] at Y
  go_enter Try.func8, Try.ntmps8
  go_wp2_with fail
  refine (alive_any _).mono ?_
  rintro e w2 ⟨rfl, hb⟩
  replace R0 := R0.belowH hb
  replace R1 := R1.belowH hb
  replace X := X.belowH hb
  replace Y := Y.belowH hb
  replace b := b.trans (hb.mono b.size)
  clear hb
  have x0 := X.at 0 rfl
  have x1 := X.at 1 rfl
  have x2 := X.at 2 rfl
  have y0 := Y.at 0 rfl
  have y1 := Y.at 1 rfl
  have y2 := Y.at 2 rfl
  have LR := Rd.lit w2 #[.int .i64 g0, .int .i64 e0, .slice A0 n0 c0, .int .i64 g1, .int .i64 e1, .slice A1 n1 c1] 24 3 2 rfl
  replace R0 := R0.allocH (.cells #[.int .i64 g0, .int .i64 e0, .slice A0 n0 c0, .int .i64 g1, .int .i64 e1, .slice A1 n1 c1] 24)
  replace R1 := R1.allocH (.cells #[.int .i64 g0, .int .i64 e0, .slice A0 n0 c0, .int .i64 g1, .int .i64 e1, .slice A1 n1 c1] 24)
  replace X := X.alloc (.cells #[.int .i64 g0, .int .i64 e0, .slice A0 n0 c0, .int .i64 g1, .int .i64 e1, .slice A1 n1 c1] 24)
  replace Y := Y.alloc (.cells #[.int .i64 g0, .int .i64 e0, .slice A0 n0 c0, .int .i64 g1, .int .i64 e1, .slice A1 n1 c1] 24)
  have LB := Box.new w2 #[.int .i64 g0, .int .i64 e0, .slice A0 n0 c0, .int .i64 g1, .int .i64 e1, .slice A1 n1 c1] 24
  replace b := b.alloc b.size (.cells #[.int .i64 g0, .int .i64 e0, .slice A0 n0 c0, .int .i64 g1, .int .i64 e1, .slice A1 n1 c1] 24)
  clear LB
  go_wp2_with fail
  refine (greats_any [⟨⟨g0, e0, l0⟩, A0, n0, c0⟩, ⟨⟨g1, e1, l1⟩, A1, n1, c1⟩] _ 2 2 _ _ LR (by simp) (by omega) (fun v hv => by simp at hv; rcases hv with rfl | rfl <;> first | exact ⟨R0, hn0, HV0.out⟩ | exact ⟨R1, hn1, HV1.out⟩)).mono ?_
  rintro e w3 ⟨rfl, hb⟩
  replace R0 := R0.belowH hb
  replace R1 := R1.belowH hb
  replace X := X.belowH hb
  replace Y := Y.belowH hb
  replace b := b.trans (hb.mono b.size)
  clear hb
  clear LR
  clear x0 x1 x2
  clear y0 y1 y2
  rcases hgr : greats [⟨⟨g0, e0, l0⟩, A0, n0, c0⟩, ⟨⟨g1, e1, l1⟩, A1, n1, c1⟩]
  · skip
    simp only [greats, List.any_cons, List.any_nil, Bool.or_false, Bool.or_eq_false_iff] at hgr
    have hs0 := great_small hgr.1 HL0.out
    have hs1 := great_small hgr.2 HL1.out
    clear hgr
    have x0 := X.at 0 rfl
    have x1 := X.at 1 rfl
    have x2 := X.at 2 rfl
    have y0 := Y.at 0 rfl
    have y1 := Y.at 1 rfl
    have y2 := Y.at 2 rfl
    go_wp2_with fail
    refine (rsright_any ⟨⟨g0, e0, l0⟩, A0, n0, c0⟩  _ R0 (by show n0 * 32 ≤ _; omega)).mono ?_
    rintro e w4 ⟨rfl, hb⟩
    replace R0 := R0.belowH hb
    replace R1 := R1.belowH hb
    replace X := X.belowH hb
    replace Y := Y.belowH hb
    replace b := b.trans (hb.mono b.size)
    clear hb
    clear x0 x1 x2
    clear y0 y1 y2
    rcases hr0 : srightB ⟨g0, e0, l0⟩
    · go_wp2
      go_ret
      exact ⟨rfl, b⟩
    · skip
      have HR0 := Lib.hid (srightB_out hr0)
      clear hr0
      have x0 := X.at 0 rfl
      have x1 := X.at 1 rfl
      have x2 := X.at 2 rfl
      have y0 := Y.at 0 rfl
      have y1 := Y.at 1 rfl
      have y2 := Y.at 2 rfl
      go_wp2_with fail
      refine (rsright_any ⟨⟨g1, e1, l1⟩, A1, n1, c1⟩  _ R1 (by show n1 * 32 ≤ _; omega)).mono ?_
      rintro e w5 ⟨rfl, hb⟩
      replace R0 := R0.belowH hb
      replace R1 := R1.belowH hb
      replace X := X.belowH hb
      replace Y := Y.belowH hb
      replace b := b.trans (hb.mono b.size)
      clear hb
      clear x0 x1 x2
      clear y0 y1 y2
      rcases hr1 : srightB ⟨g1, e1, l1⟩
      · go_wp2
        go_ret
        exact ⟨rfl, b⟩
      · skip
        have HR1 := Lib.hid (srightB_out hr1)
        clear hr1
        have x0 := X.at 0 rfl
        have x1 := X.at 1 rfl
        have x2 := X.at 2 rfl
        have y0 := Y.at 0 rfl
        have y1 := Y.at 1 rfl
        have y2 := Y.at 2 rfl
        go_wp2_with fail
        refine (sover_any ⟨⟨g0, e0, l0⟩, A0, n0, c0⟩ ⟨⟨g1, e1, l1⟩, A1, n1, c1⟩ _ R0 R1 (by show n0 ≤ _; omega) (by show n1 ≤ _; omega) (S.right_rise HR0.out) (S.right_rise HR1.out)).mono ?_
        rintro e w6 ⟨rfl, hb⟩
        replace R0 := R0.belowH hb
        replace R1 := R1.belowH hb
        replace X := X.belowH hb
        replace Y := Y.belowH hb
        replace b := b.trans (hb.mono b.size)
        clear hb
        clear x0 x1 x2
        clear y0 y1 y2
        rcases ho1 : soverB ⟨g0, e0, l0⟩ ⟨g1, e1, l1⟩
        · have hle : g0 ≤ g1 := soverB_le ho1
          have HSB := Lib.hid (sameB_no1 (S.right_rise HR0.out) ho1)
          clear ho1
          go_wp2
          replace R0 := R0.drewH
          replace R1 := R1.drewH
          replace X := X.drew
          replace Y := Y.drew
          replace b := b.drew
          refine wp_region_held_drew (S := (fun w' => (w'.cell? ⟨W.heap.size, 0, none⟩ = some (.int .i64 g0) ∧ w'.cell? ⟨W.heap.size, 1, none⟩ = some (.int .i64 e0) ∧ w'.cell? ⟨W.heap.size, 2, none⟩ = some (.slice A0 n0 c0)) ∧ (w'.cell? ⟨W.heap.size + 1, 0, none⟩ = some (.int .i64 g1) ∧ w'.cell? ⟨W.heap.size + 1, 1, none⟩ = some (.int .i64 e1) ∧ w'.cell? ⟨W.heap.size + 1, 2, none⟩ = some (.slice A1 n1 c1)))) (by kernel_rfl) (by exact ⟨⟨X.at 0 rfl, X.at 1 rfl, X.at 2 rfl⟩, ⟨Y.at 0 rfl, Y.at 1 rfl, Y.at 2 rfl⟩⟩) (fun hHeld0 => ?_)
          refine wpAnyH_take (i := 0) (oi := ⟨some 30, _, _, _, _, _⟩) (v := ?_) rfl (by kernel_rfl) (by kernel_rfl) (by kernel_rfl) (fun _ _ _ h => h) (Or.inl ⟨by rfl, ?_⟩) hHeld0 ?_
          rotate_left
          · (intro w' hSw; (try dsimp only at hSw); go_simp; all_goals (with_reducible rfl))
          try simp only [Act.put, List.setIfInBounds_toArray, List.set_cons_zero, List.set_cons_succ]
          refine wpAnyH_take (i := 1) (oi := ⟨some 31, _, _, _, _, _⟩) (v := ?_) rfl (by kernel_rfl) (by kernel_rfl) (by kernel_rfl) (fun _ _ _ h => h) (Or.inl ⟨by rfl, ?_⟩) hHeld0 ?_
          rotate_left
          · (intro w' hSw; (try dsimp only at hSw); go_simp; all_goals (with_reducible rfl))
          try simp only [Act.put, List.setIfInBounds_toArray, List.set_cons_zero, List.set_cons_succ]
          refine wpAnyH_take (i := 2) (oi := ⟨some 32, _, _, _, _, _⟩) (v := ?_) rfl (by kernel_rfl) (by kernel_rfl) (by kernel_rfl) (fun _ _ _ h => h) (Or.inl ⟨by rfl, ?_⟩) hHeld0 ?_
          rotate_left
          · (intro w' hSw; (try dsimp only at hSw); go_simp; all_goals (with_reducible rfl))
          try simp only [Act.put, List.setIfInBounds_toArray, List.set_cons_zero, List.set_cons_succ]
          refine wpAnyH_ready (rs := [3]) (by kernel_rfl) (by simp) (AllReadyH.cons (o := ⟨some 33, _, _, _, _, _⟩) rfl (fun K hK => ?_) AllReadyH.nil)
          go_simp
          refine (rssame_any ⟨⟨g0, e0, l0⟩, A0, n0, c0⟩ ⟨⟨g1, e1, l1⟩, A1, n1, c1⟩ _ R0 R1 (by show n0 * 32 ≤ _; omega) (by show n1 * 32 ≤ _; omega)).mono ?_
          rw [HSB.out]
          rintro e w7 ⟨rfl, hb⟩
          replace R0 := R0.belowH hb
          replace R1 := R1.belowH hb
          replace X := X.belowH hb
          replace Y := Y.belowH hb
          replace b := b.trans (hb.mono b.size)
          clear hb
          go_simp
          refine hK.out _ _ (by exact ⟨⟨X.at 0 rfl, X.at 1 rfl, X.at 2 rfl⟩, ⟨Y.at 0 rfl, Y.at 1 rfl, Y.at 2 rfl⟩⟩) (fun hHeld1 => ?_)
          clear hK hHeld0 K
          try simp only [Act.put, List.setIfInBounds_toArray, List.set_cons_zero, List.set_cons_succ]
          refine wpAnyH_take (i := 4) (oi := ⟨some 34, _, _, _, _, _⟩) (v := ?_) rfl (by kernel_rfl) (by kernel_rfl) (by kernel_rfl) (fun _ _ _ h => h) (Or.inl ⟨by rfl, ?_⟩) hHeld1 ?_
          rotate_left
          · (intro w' hSw; (try dsimp only at hSw); go_simp; all_goals (with_reducible rfl))
          try simp only [Act.put, List.setIfInBounds_toArray, List.set_cons_zero, List.set_cons_succ]
          refine wpAnyH_take (i := 5) (oi := ⟨some 35, _, _, _, _, _⟩) (v := ?_) rfl (by kernel_rfl) (by kernel_rfl) (by kernel_rfl) (fun _ _ _ h => h) (Or.inl ⟨by rfl, ?_⟩) hHeld1 ?_
          rotate_left
          · (intro w' hSw; (try dsimp only at hSw); go_simp; all_goals (with_reducible rfl))
          try simp only [Act.put, List.setIfInBounds_toArray, List.set_cons_zero, List.set_cons_succ]
          refine wpAnyH_take (i := 6) (oi := ⟨some 36, _, _, _, _, _⟩) (v := ?_) rfl (by kernel_rfl) (by kernel_rfl) (by kernel_rfl) (fun _ _ _ h => h) (Or.inl ⟨by rfl, ?_⟩) hHeld1 ?_
          rotate_left
          · (intro w' hSw; (try dsimp only at hSw); go_simp; all_goals (with_reducible rfl))
          try simp only [Act.put, List.setIfInBounds_toArray, List.set_cons_zero, List.set_cons_succ]
          refine wpAnyH_take (i := 7) (oi := ⟨some 37, _, _, _, _, _⟩) (v := ?_) rfl (by kernel_rfl) (by kernel_rfl) (by kernel_rfl) (fun _ _ _ h => h) (Or.inl ⟨by rfl, ?_⟩) hHeld1 ?_
          rotate_left
          · (intro w' hSw; (try dsimp only at hSw); go_simp; all_goals (with_reducible rfl))
          try simp only [Act.put, List.setIfInBounds_toArray, List.set_cons_zero, List.set_cons_succ]
          refine wpAnyH_take (i := 8) (oi := ⟨some 38, _, _, _, _, _⟩) (v := ?_) rfl (by kernel_rfl) (by kernel_rfl) (by kernel_rfl) (fun _ _ _ h => h) (Or.inl ⟨by rfl, ?_⟩) hHeld1 ?_
          rotate_left
          · (intro w' hSw; (try dsimp only at hSw); go_simp; all_goals (with_reducible rfl))
          try simp only [Act.put, List.setIfInBounds_toArray, List.set_cons_zero, List.set_cons_succ]
          refine wpAnyH_take (i := 9) (oi := ⟨some 39, _, _, _, _, _⟩) (v := ?_) rfl (by kernel_rfl) (by kernel_rfl) (by kernel_rfl) (fun _ _ _ h => h) (Or.inl ⟨by rfl, ?_⟩) hHeld1 ?_
          rotate_left
          · (intro w' hSw; (try dsimp only at hSw); go_simp; all_goals (with_reducible rfl))
          try simp only [Act.put, List.setIfInBounds_toArray, List.set_cons_zero, List.set_cons_succ]
          refine wpAnyH_take (i := 10) (oi := ⟨some 40, _, _, _, _, _⟩) (v := ?_) rfl (by kernel_rfl) (by kernel_rfl) (by kernel_rfl) (fun _ _ _ h => h) (Or.inl ⟨by rfl, ?_⟩) hHeld1 ?_
          rotate_left
          · (intro w' hSw; (try dsimp only at hSw); go_simp; all_goals (with_reducible rfl))
          try simp only [Act.put, List.setIfInBounds_toArray, List.set_cons_zero, List.set_cons_succ]
          refine wpAnyH_take (i := 11) (oi := ⟨some 41, _, _, _, _, _⟩) (v := ?_) rfl (by kernel_rfl) (by kernel_rfl) (by kernel_rfl) (fun _ _ _ h => h) (Or.inl ⟨by rfl, ?_⟩) hHeld1 ?_
          rotate_left
          · (intro w' hSw; (try dsimp only at hSw); go_simp; all_goals (with_reducible rfl))
          try simp only [Act.put, List.setIfInBounds_toArray, List.set_cons_zero, List.set_cons_succ]
          refine wpAnyH_take (i := 12) (oi := ⟨some 42, _, _, _, _, _⟩) (v := undef) rfl (by kernel_rfl) (by kernel_rfl) (by kernel_rfl) (fun _ _ _ h => h) (Or.inr ⟨by rfl, rfl⟩) hHeld1 ?_
          try simp only [Act.put, List.setIfInBounds_toArray, List.set_cons_zero, List.set_cons_succ]
          refine wpAnyH_take (i := 13) (oi := ⟨some 43, _, _, _, _, _⟩) (v := undef) rfl (by kernel_rfl) (by kernel_rfl) (by kernel_rfl) (fun _ _ _ h => h) (Or.inr ⟨by rfl, rfl⟩) hHeld1 ?_
          try simp only [Act.put, List.setIfInBounds_toArray, List.set_cons_zero, List.set_cons_succ]
          refine wpAnyH_take (i := 14) (oi := ⟨some 44, _, _, _, _, _⟩) (v := undef) rfl (by kernel_rfl) (by kernel_rfl) (by kernel_rfl) (fun _ _ _ h => h) (Or.inr ⟨by rfl, rfl⟩) hHeld1 ?_
          try simp only [Act.put, List.setIfInBounds_toArray, List.set_cons_zero, List.set_cons_succ]
          refine wpAnyH_take (i := 15) (oi := ⟨some 45, _, _, _, _, _⟩) (v := undef) rfl (by kernel_rfl) (by kernel_rfl) (by kernel_rfl) (fun _ _ _ h => h) (Or.inr ⟨by rfl, rfl⟩) hHeld1 ?_
          try simp only [Act.put, List.setIfInBounds_toArray, List.set_cons_zero, List.set_cons_succ]
          refine wpAnyH_take (i := 16) (oi := ⟨some 46, _, _, _, _, _⟩) (v := undef) rfl (by kernel_rfl) (by kernel_rfl) (by kernel_rfl) (fun _ _ _ h => h) (Or.inr ⟨by rfl, rfl⟩) hHeld1 ?_
          try simp only [Act.put, List.setIfInBounds_toArray, List.set_cons_zero, List.set_cons_succ]
          refine wpAnyH_take (i := 17) (oi := ⟨some 47, _, _, _, _, _⟩) (v := undef) rfl (by kernel_rfl) (by kernel_rfl) (by kernel_rfl) (fun _ _ _ h => h) (Or.inr ⟨by rfl, rfl⟩) hHeld1 ?_
          try simp only [Act.put, List.setIfInBounds_toArray, List.set_cons_zero, List.set_cons_succ]
          refine wpAnyH_take (i := 18) (oi := ⟨some 48, _, _, _, _, _⟩) (v := undef) rfl (by kernel_rfl) (by kernel_rfl) (by kernel_rfl) (fun _ _ _ h => h) (Or.inr ⟨by rfl, rfl⟩) hHeld1 ?_
          try simp only [Act.put, List.setIfInBounds_toArray, List.set_cons_zero, List.set_cons_succ]
          refine wpAnyH_take (i := 19) (oi := ⟨some 49, _, _, _, _, _⟩) (v := undef) rfl (by kernel_rfl) (by kernel_rfl) (by kernel_rfl) (fun _ _ _ h => h) (Or.inr ⟨by rfl, rfl⟩) hHeld1 ?_
          try simp only [Act.put, List.setIfInBounds_toArray, List.set_cons_zero, List.set_cons_succ]
          refine wpAnyH_take (i := 20) (oi := ⟨some 50, _, _, _, _, _⟩) (v := undef) rfl (by kernel_rfl) (by kernel_rfl) (by kernel_rfl) (fun _ _ _ h => h) (Or.inr ⟨by rfl, rfl⟩) hHeld1 ?_
          try simp only [Act.put, List.setIfInBounds_toArray, List.set_cons_zero, List.set_cons_succ]
          refine wpAnyH_take (i := 21) (oi := ⟨some 51, _, _, _, _, _⟩) (v := ?_) rfl (by kernel_rfl) (by kernel_rfl) (by kernel_rfl) (fun _ _ _ h => h) (Or.inl ⟨by rfl, ?_⟩) hHeld1 ?_
          rotate_left
          · (intro w' hSw; (try dsimp only at hSw); go_simp; all_goals (with_reducible rfl))
          try simp only [Act.put, List.setIfInBounds_toArray, List.set_cons_zero, List.set_cons_succ]
          refine wpAnyH_take (i := 22) (oi := ⟨some 52, _, _, _, _, _⟩) (v := ?_) rfl (by kernel_rfl) (by kernel_rfl) (by kernel_rfl) (fun _ _ _ h => h) (Or.inl ⟨by rfl, ?_⟩) hHeld1 ?_
          rotate_left
          · (intro w' hSw; (try dsimp only at hSw); go_simp; all_goals (with_reducible rfl))
          try simp only [Act.put, List.setIfInBounds_toArray, List.set_cons_zero, List.set_cons_succ]
          refine wpAnyH_take (i := 23) (oi := ⟨some 53, _, _, _, _, _⟩) (v := ?_) rfl (by kernel_rfl) (by kernel_rfl) (by kernel_rfl) (fun _ _ _ h => h) (Or.inl ⟨by rfl, ?_⟩) hHeld1 ?_
          rotate_left
          · (intro w' hSw; (try dsimp only at hSw); go_simp; all_goals (with_reducible rfl))
          try simp only [Act.put, List.setIfInBounds_toArray, List.set_cons_zero, List.set_cons_succ]
          refine wpAnyH_take (i := 24) (oi := ⟨some 54, _, _, _, _, _⟩) (v := ?_) rfl (by kernel_rfl) (by kernel_rfl) (by kernel_rfl) (fun _ _ _ h => h) (Or.inl ⟨by rfl, ?_⟩) hHeld1 ?_
          rotate_left
          · (intro w' hSw; (try dsimp only at hSw); go_simp; all_goals (with_reducible rfl))
          try simp only [Act.put, List.setIfInBounds_toArray, List.set_cons_zero, List.set_cons_succ]
          refine wpAnyH_take (i := 25) (oi := ⟨some 55, _, _, _, _, _⟩) (v := ?_) rfl (by kernel_rfl) (by kernel_rfl) (by kernel_rfl) (fun _ _ _ h => h) (Or.inl ⟨by rfl, ?_⟩) hHeld1 ?_
          rotate_left
          · (intro w' hSw; (try dsimp only at hSw); go_simp; all_goals (with_reducible rfl))
          try simp only [Act.put, List.setIfInBounds_toArray, List.set_cons_zero, List.set_cons_succ]
          refine wpAnyH_take (i := 28) (oi := ⟨some 58, _, _, _, _, _⟩) (v := ?_) rfl (by kernel_rfl) (by kernel_rfl) (by kernel_rfl) (fun _ _ _ h => h) (Or.inl ⟨by rfl, ?_⟩) hHeld1 ?_
          rotate_left
          · (intro w' hSw; (try dsimp only at hSw); go_simp; all_goals (with_reducible rfl))
          try simp only [Act.put, List.setIfInBounds_toArray, List.set_cons_zero, List.set_cons_succ]
          refine wpAnyH_take (i := 30) (oi := ⟨some 60, _, _, _, _, _⟩) (v := ?_) rfl (by kernel_rfl) (by kernel_rfl) (by kernel_rfl) (fun _ _ _ h => h) (Or.inl ⟨by rfl, ?_⟩) hHeld1 ?_
          rotate_left
          · (intro w' hSw; (try dsimp only at hSw); go_simp; all_goals (with_reducible rfl))
          try simp only [Act.put, List.setIfInBounds_toArray, List.set_cons_zero, List.set_cons_succ]
          refine wpAnyH_ready (rs := [26]) (by kernel_rfl) (by simp) (AllReadyH.cons (o := ⟨some 56, _, _, _, _, _⟩) rfl (fun K hK => ?_) AllReadyH.nil)
          go_simp
          refine (sjoin_any ⟨⟨g0, e0, l0⟩, A0, n0, c0⟩ ⟨⟨g1, e1, l1⟩, A1, n1, c1⟩ _ R0 R1 (by show n0 ≤ _; omega) (by show n1 ≤ _; omega) (S.right_rise HR0.out) (S.right_rise HR1.out)).mono ?_
          rintro e w8 ⟨⟨sj, Aj, nj, cj⟩, rfl, hs, hown, hb⟩
          simp only at hs
          have Hj : Hid (sj = S.join ⟨g0, e0, l0⟩ ⟨g1, e1, l1⟩) := Lib.hid hs
          have Rj := hown.srd
          have bdj : nj ≤ n0 + n1 := by have hq := Rj.len; have := HL0.out; have := HL1.out; have := join_apps_length ⟨g0, e0, l0⟩ ⟨g1, e1, l1⟩; rw [Hj.out] at hq; (try simp only at *); omega
          clear hs hown
          replace R0 := R0.belowH hb
          replace R1 := R1.belowH hb
          replace X := X.belowH hb
          replace Y := Y.belowH hb
          replace b := b.trans (hb.mono b.size)
          clear hb
          simp only [sv]
          go_simp
          refine hK.out _ _ (by exact ⟨⟨X.at 0 rfl, X.at 1 rfl, X.at 2 rfl⟩, ⟨Y.at 0 rfl, Y.at 1 rfl, Y.at 2 rfl⟩⟩) (fun hHeld2 => ?_)
          clear hK hHeld1 K
          try simp only [Act.put, List.setIfInBounds_toArray, List.set_cons_zero, List.set_cons_succ]
          refine wpAnyH_ready (rs := [27]) (by kernel_rfl) (by simp) (AllReadyH.cons (o := ⟨some 57, _, _, _, _, _⟩) rfl (fun K hK => ?_) AllReadyH.nil)
          go_simp
          refine (stop_any ⟨sj, Aj, nj, cj⟩  _ Rj (by show nj * 32 ≤ _; omega)).mono ?_
          rintro e w9 ⟨rfl, hb⟩
          replace R0 := R0.belowH hb
          replace R1 := R1.belowH hb
          replace Rj := Rj.belowH hb
          replace X := X.belowH hb
          replace Y := Y.belowH hb
          replace b := b.trans (hb.mono b.size)
          clear hb
          go_simp
          refine hK.out _ _ (by exact ⟨⟨X.at 0 rfl, X.at 1 rfl, X.at 2 rfl⟩, ⟨Y.at 0 rfl, Y.at 1 rfl, Y.at 2 rfl⟩⟩) (fun hHeld3 => ?_)
          clear hK hHeld2 K
          try simp only [Act.put, List.setIfInBounds_toArray, List.set_cons_zero, List.set_cons_succ]
          refine wpAnyH_ready (rs := [29]) (by kernel_rfl) (by simp) (AllReadyH.cons (o := ⟨some 59, _, _, _, _, _⟩) rfl (fun K hK => ?_) AllReadyH.nil)
          go_simp
          refine (stop_any ⟨⟨g0, e0, l0⟩, A0, n0, c0⟩  _ R0 (by show n0 * 32 ≤ _; omega)).mono ?_
          rintro e w10 ⟨rfl, hb⟩
          replace R0 := R0.belowH hb
          replace R1 := R1.belowH hb
          replace Rj := Rj.belowH hb
          replace X := X.belowH hb
          replace Y := Y.belowH hb
          replace b := b.trans (hb.mono b.size)
          clear hb
          go_simp
          refine hK.out _ _ (by exact ⟨⟨X.at 0 rfl, X.at 1 rfl, X.at 2 rfl⟩, ⟨Y.at 0 rfl, Y.at 1 rfl, Y.at 2 rfl⟩⟩) (fun hHeld4 => ?_)
          clear hK hHeld3 K
          try simp only [Act.put, List.setIfInBounds_toArray, List.set_cons_zero, List.set_cons_succ]
          refine wpAnyH_ready (rs := [31]) (by kernel_rfl) (by simp) (AllReadyH.cons (o := ⟨some 61, _, _, _, _, _⟩) rfl (fun K hK => ?_) AllReadyH.nil)
          go_simp
          refine (stop_any ⟨⟨g1, e1, l1⟩, A1, n1, c1⟩  _ R1 (by show n1 * 32 ≤ _; omega)).mono ?_
          rintro e w11 ⟨rfl, hb⟩
          replace R0 := R0.belowH hb
          replace R1 := R1.belowH hb
          replace Rj := Rj.belowH hb
          replace X := X.belowH hb
          replace Y := Y.belowH hb
          replace b := b.trans (hb.mono b.size)
          clear hb
          go_simp
          refine hK.out _ _ (by exact ⟨⟨X.at 0 rfl, X.at 1 rfl, X.at 2 rfl⟩, ⟨Y.at 0 rfl, Y.at 1 rfl, Y.at 2 rfl⟩⟩) (fun hHeld5 => ?_)
          clear hK hHeld4 K
          try simp only [Act.put, List.setIfInBounds_toArray, List.set_cons_zero, List.set_cons_succ]
          refine wpAnyH_take (i := 32) (oi := ⟨some 62, _, _, _, _, _⟩) (v := ?_) rfl (by kernel_rfl) (by kernel_rfl) (by kernel_rfl) (fun _ _ _ h => h) (Or.inl ⟨by rfl, ?_⟩) hHeld5 ?_
          rotate_left
          · (intro w' hSw; (try dsimp only at hSw); go_simp; all_goals (with_reducible rfl))
          try simp only [Act.put, List.setIfInBounds_toArray, List.set_cons_zero, List.set_cons_succ]
          refine wpAnyH_take (i := 33) (oi := ⟨some 63, _, _, _, _, _⟩) (v := ?_) rfl (by kernel_rfl) (by kernel_rfl) (by kernel_rfl) (fun _ _ _ h => h) (Or.inl ⟨by rfl, ?_⟩) hHeld5 ?_
          rotate_left
          · (intro w' hSw; (try dsimp only at hSw); go_simp; all_goals (with_reducible rfl))
          try simp only [Act.put, List.setIfInBounds_toArray, List.set_cons_zero, List.set_cons_succ]
          refine wpAnyH_take (i := 34) (oi := ⟨some 64, _, _, _, _, _⟩) (v := ?_) rfl (by kernel_rfl) (by kernel_rfl) (by kernel_rfl) (fun _ _ _ h => h) (Or.inl ⟨by rfl, ?_⟩) hHeld5 ?_
          rotate_left
          · (intro w' hSw; (try dsimp only at hSw); go_simp; all_goals (with_reducible rfl))
          try simp only [Act.put, List.setIfInBounds_toArray, List.set_cons_zero, List.set_cons_succ]
          refine wpAnyH_take (i := 35) (oi := ⟨some 4, _, _, _, _, _⟩) (v := ?_) rfl (by kernel_rfl) (by kernel_rfl) (by kernel_rfl) (fun _ _ _ h => h) (Or.inl ⟨by rfl, ?_⟩) hHeld5 ?_
          rotate_left
          · (intro w' hSw; (try dsimp only at hSw); go_simp; all_goals (with_reducible rfl))
          try simp only [Act.put, List.setIfInBounds_toArray, List.set_cons_zero, List.set_cons_succ]
          refine wpAnyH_done (by kernel_rfl) ?_ _
          go_wp2
          all_goals
            go_ret
            refine ⟨ret_bool ?_, b⟩
            have hge := S.top_join_ge (S.right_rise HR0.out) (S.right_rise HR1.out)
            rw [← Hj.out] at hge
            exact decide_eq_true (by omega)
        · have HO1 := Lib.hid ho1
          clear ho1
          have x0 := X.at 0 rfl
          have x1 := X.at 1 rfl
          have x2 := X.at 2 rfl
          have y0 := Y.at 0 rfl
          have y1 := Y.at 1 rfl
          have y2 := Y.at 2 rfl
          go_wp2_with fail
          refine (sover_any ⟨⟨g1, e1, l1⟩, A1, n1, c1⟩ ⟨⟨g0, e0, l0⟩, A0, n0, c0⟩ _ R1 R0 (by show n1 ≤ _; omega) (by show n0 ≤ _; omega) (S.right_rise HR1.out) (S.right_rise HR0.out)).mono ?_
          rintro e w7 ⟨rfl, hb⟩
          replace R0 := R0.belowH hb
          replace R1 := R1.belowH hb
          replace X := X.belowH hb
          replace Y := Y.belowH hb
          replace b := b.trans (hb.mono b.size)
          clear hb
          clear x0 x1 x2
          clear y0 y1 y2
          rcases ho2 : soverB ⟨g1, e1, l1⟩ ⟨g0, e0, l0⟩
          · have HO2 := Lib.hid ho2
            have HSB := Lib.hid (sameB_no2 (S.right_rise HR0.out) ho2)
            clear ho2
            by_cases hle : g0 ≤ g1
            · skip
              go_wp2
              replace R0 := R0.drewH
              replace R1 := R1.drewH
              replace X := X.drew
              replace Y := Y.drew
              replace b := b.drew
              refine wp_region_held_drew (S := (fun w' => (w'.cell? ⟨W.heap.size, 0, none⟩ = some (.int .i64 g0) ∧ w'.cell? ⟨W.heap.size, 1, none⟩ = some (.int .i64 e0) ∧ w'.cell? ⟨W.heap.size, 2, none⟩ = some (.slice A0 n0 c0)) ∧ (w'.cell? ⟨W.heap.size + 1, 0, none⟩ = some (.int .i64 g1) ∧ w'.cell? ⟨W.heap.size + 1, 1, none⟩ = some (.int .i64 e1) ∧ w'.cell? ⟨W.heap.size + 1, 2, none⟩ = some (.slice A1 n1 c1)))) (by kernel_rfl) (by exact ⟨⟨X.at 0 rfl, X.at 1 rfl, X.at 2 rfl⟩, ⟨Y.at 0 rfl, Y.at 1 rfl, Y.at 2 rfl⟩⟩) (fun hHeld0 => ?_)
              refine wpAnyH_take (i := 0) (oi := ⟨some 30, _, _, _, _, _⟩) (v := ?_) rfl (by kernel_rfl) (by kernel_rfl) (by kernel_rfl) (fun _ _ _ h => h) (Or.inl ⟨by rfl, ?_⟩) hHeld0 ?_
              rotate_left
              · (intro w' hSw; (try dsimp only at hSw); go_simp; all_goals (with_reducible rfl))
              try simp only [Act.put, List.setIfInBounds_toArray, List.set_cons_zero, List.set_cons_succ]
              refine wpAnyH_take (i := 1) (oi := ⟨some 31, _, _, _, _, _⟩) (v := ?_) rfl (by kernel_rfl) (by kernel_rfl) (by kernel_rfl) (fun _ _ _ h => h) (Or.inl ⟨by rfl, ?_⟩) hHeld0 ?_
              rotate_left
              · (intro w' hSw; (try dsimp only at hSw); go_simp; all_goals (with_reducible rfl))
              try simp only [Act.put, List.setIfInBounds_toArray, List.set_cons_zero, List.set_cons_succ]
              refine wpAnyH_take (i := 2) (oi := ⟨some 32, _, _, _, _, _⟩) (v := ?_) rfl (by kernel_rfl) (by kernel_rfl) (by kernel_rfl) (fun _ _ _ h => h) (Or.inl ⟨by rfl, ?_⟩) hHeld0 ?_
              rotate_left
              · (intro w' hSw; (try dsimp only at hSw); go_simp; all_goals (with_reducible rfl))
              try simp only [Act.put, List.setIfInBounds_toArray, List.set_cons_zero, List.set_cons_succ]
              refine wpAnyH_ready (rs := [3]) (by kernel_rfl) (by simp) (AllReadyH.cons (o := ⟨some 33, _, _, _, _, _⟩) rfl (fun K hK => ?_) AllReadyH.nil)
              go_simp
              refine (rssame_any ⟨⟨g0, e0, l0⟩, A0, n0, c0⟩ ⟨⟨g1, e1, l1⟩, A1, n1, c1⟩ _ R0 R1 (by show n0 * 32 ≤ _; omega) (by show n1 * 32 ≤ _; omega)).mono ?_
              rw [HSB.out]
              rintro e w8 ⟨rfl, hb⟩
              replace R0 := R0.belowH hb
              replace R1 := R1.belowH hb
              replace X := X.belowH hb
              replace Y := Y.belowH hb
              replace b := b.trans (hb.mono b.size)
              clear hb
              go_simp
              refine hK.out _ _ (by exact ⟨⟨X.at 0 rfl, X.at 1 rfl, X.at 2 rfl⟩, ⟨Y.at 0 rfl, Y.at 1 rfl, Y.at 2 rfl⟩⟩) (fun hHeld1 => ?_)
              clear hK hHeld0 K
              try simp only [Act.put, List.setIfInBounds_toArray, List.set_cons_zero, List.set_cons_succ]
              refine wpAnyH_take (i := 4) (oi := ⟨some 34, _, _, _, _, _⟩) (v := ?_) rfl (by kernel_rfl) (by kernel_rfl) (by kernel_rfl) (fun _ _ _ h => h) (Or.inl ⟨by rfl, ?_⟩) hHeld1 ?_
              rotate_left
              · (intro w' hSw; (try dsimp only at hSw); go_simp; all_goals (with_reducible rfl))
              try simp only [Act.put, List.setIfInBounds_toArray, List.set_cons_zero, List.set_cons_succ]
              refine wpAnyH_take (i := 5) (oi := ⟨some 35, _, _, _, _, _⟩) (v := ?_) rfl (by kernel_rfl) (by kernel_rfl) (by kernel_rfl) (fun _ _ _ h => h) (Or.inl ⟨by rfl, ?_⟩) hHeld1 ?_
              rotate_left
              · (intro w' hSw; (try dsimp only at hSw); go_simp; all_goals (with_reducible rfl))
              try simp only [Act.put, List.setIfInBounds_toArray, List.set_cons_zero, List.set_cons_succ]
              refine wpAnyH_take (i := 6) (oi := ⟨some 36, _, _, _, _, _⟩) (v := ?_) rfl (by kernel_rfl) (by kernel_rfl) (by kernel_rfl) (fun _ _ _ h => h) (Or.inl ⟨by rfl, ?_⟩) hHeld1 ?_
              rotate_left
              · (intro w' hSw; (try dsimp only at hSw); go_simp; all_goals (with_reducible rfl))
              try simp only [Act.put, List.setIfInBounds_toArray, List.set_cons_zero, List.set_cons_succ]
              refine wpAnyH_take (i := 7) (oi := ⟨some 37, _, _, _, _, _⟩) (v := ?_) rfl (by kernel_rfl) (by kernel_rfl) (by kernel_rfl) (fun _ _ _ h => h) (Or.inl ⟨by rfl, ?_⟩) hHeld1 ?_
              rotate_left
              · (intro w' hSw; (try dsimp only at hSw); go_simp; all_goals (with_reducible rfl))
              try simp only [Act.put, List.setIfInBounds_toArray, List.set_cons_zero, List.set_cons_succ]
              refine wpAnyH_take (i := 8) (oi := ⟨some 38, _, _, _, _, _⟩) (v := ?_) rfl (by kernel_rfl) (by kernel_rfl) (by kernel_rfl) (fun _ _ _ h => h) (Or.inl ⟨by rfl, ?_⟩) hHeld1 ?_
              rotate_left
              · (intro w' hSw; (try dsimp only at hSw); go_simp; all_goals (with_reducible rfl))
              try simp only [Act.put, List.setIfInBounds_toArray, List.set_cons_zero, List.set_cons_succ]
              refine wpAnyH_take (i := 9) (oi := ⟨some 39, _, _, _, _, _⟩) (v := ?_) rfl (by kernel_rfl) (by kernel_rfl) (by kernel_rfl) (fun _ _ _ h => h) (Or.inl ⟨by rfl, ?_⟩) hHeld1 ?_
              rotate_left
              · (intro w' hSw; (try dsimp only at hSw); go_simp; all_goals (with_reducible rfl))
              try simp only [Act.put, List.setIfInBounds_toArray, List.set_cons_zero, List.set_cons_succ]
              refine wpAnyH_take (i := 10) (oi := ⟨some 40, _, _, _, _, _⟩) (v := ?_) rfl (by kernel_rfl) (by kernel_rfl) (by kernel_rfl) (fun _ _ _ h => h) (Or.inl ⟨by rfl, ?_⟩) hHeld1 ?_
              rotate_left
              · (intro w' hSw; (try dsimp only at hSw); go_simp; all_goals (with_reducible rfl))
              try simp only [Act.put, List.setIfInBounds_toArray, List.set_cons_zero, List.set_cons_succ]
              refine wpAnyH_take (i := 11) (oi := ⟨some 41, _, _, _, _, _⟩) (v := ?_) rfl (by kernel_rfl) (by kernel_rfl) (by kernel_rfl) (fun _ _ _ h => h) (Or.inl ⟨by rfl, ?_⟩) hHeld1 ?_
              rotate_left
              · (intro w' hSw; (try dsimp only at hSw); go_simp; all_goals (with_reducible rfl))
              try simp only [Act.put, List.setIfInBounds_toArray, List.set_cons_zero, List.set_cons_succ]
              refine wpAnyH_take (i := 12) (oi := ⟨some 42, _, _, _, _, _⟩) (v := undef) rfl (by kernel_rfl) (by kernel_rfl) (by kernel_rfl) (fun _ _ _ h => h) (Or.inr ⟨by rfl, rfl⟩) hHeld1 ?_
              try simp only [Act.put, List.setIfInBounds_toArray, List.set_cons_zero, List.set_cons_succ]
              refine wpAnyH_take (i := 13) (oi := ⟨some 43, _, _, _, _, _⟩) (v := undef) rfl (by kernel_rfl) (by kernel_rfl) (by kernel_rfl) (fun _ _ _ h => h) (Or.inr ⟨by rfl, rfl⟩) hHeld1 ?_
              try simp only [Act.put, List.setIfInBounds_toArray, List.set_cons_zero, List.set_cons_succ]
              refine wpAnyH_take (i := 14) (oi := ⟨some 44, _, _, _, _, _⟩) (v := undef) rfl (by kernel_rfl) (by kernel_rfl) (by kernel_rfl) (fun _ _ _ h => h) (Or.inr ⟨by rfl, rfl⟩) hHeld1 ?_
              try simp only [Act.put, List.setIfInBounds_toArray, List.set_cons_zero, List.set_cons_succ]
              refine wpAnyH_take (i := 15) (oi := ⟨some 45, _, _, _, _, _⟩) (v := undef) rfl (by kernel_rfl) (by kernel_rfl) (by kernel_rfl) (fun _ _ _ h => h) (Or.inr ⟨by rfl, rfl⟩) hHeld1 ?_
              try simp only [Act.put, List.setIfInBounds_toArray, List.set_cons_zero, List.set_cons_succ]
              refine wpAnyH_take (i := 16) (oi := ⟨some 46, _, _, _, _, _⟩) (v := undef) rfl (by kernel_rfl) (by kernel_rfl) (by kernel_rfl) (fun _ _ _ h => h) (Or.inr ⟨by rfl, rfl⟩) hHeld1 ?_
              try simp only [Act.put, List.setIfInBounds_toArray, List.set_cons_zero, List.set_cons_succ]
              refine wpAnyH_take (i := 17) (oi := ⟨some 47, _, _, _, _, _⟩) (v := undef) rfl (by kernel_rfl) (by kernel_rfl) (by kernel_rfl) (fun _ _ _ h => h) (Or.inr ⟨by rfl, rfl⟩) hHeld1 ?_
              try simp only [Act.put, List.setIfInBounds_toArray, List.set_cons_zero, List.set_cons_succ]
              refine wpAnyH_take (i := 18) (oi := ⟨some 48, _, _, _, _, _⟩) (v := undef) rfl (by kernel_rfl) (by kernel_rfl) (by kernel_rfl) (fun _ _ _ h => h) (Or.inr ⟨by rfl, rfl⟩) hHeld1 ?_
              try simp only [Act.put, List.setIfInBounds_toArray, List.set_cons_zero, List.set_cons_succ]
              refine wpAnyH_take (i := 19) (oi := ⟨some 49, _, _, _, _, _⟩) (v := undef) rfl (by kernel_rfl) (by kernel_rfl) (by kernel_rfl) (fun _ _ _ h => h) (Or.inr ⟨by rfl, rfl⟩) hHeld1 ?_
              try simp only [Act.put, List.setIfInBounds_toArray, List.set_cons_zero, List.set_cons_succ]
              refine wpAnyH_take (i := 20) (oi := ⟨some 50, _, _, _, _, _⟩) (v := undef) rfl (by kernel_rfl) (by kernel_rfl) (by kernel_rfl) (fun _ _ _ h => h) (Or.inr ⟨by rfl, rfl⟩) hHeld1 ?_
              try simp only [Act.put, List.setIfInBounds_toArray, List.set_cons_zero, List.set_cons_succ]
              refine wpAnyH_take (i := 21) (oi := ⟨some 51, _, _, _, _, _⟩) (v := ?_) rfl (by kernel_rfl) (by kernel_rfl) (by kernel_rfl) (fun _ _ _ h => h) (Or.inl ⟨by rfl, ?_⟩) hHeld1 ?_
              rotate_left
              · (intro w' hSw; (try dsimp only at hSw); go_simp; all_goals (with_reducible rfl))
              try simp only [Act.put, List.setIfInBounds_toArray, List.set_cons_zero, List.set_cons_succ]
              refine wpAnyH_take (i := 22) (oi := ⟨some 52, _, _, _, _, _⟩) (v := ?_) rfl (by kernel_rfl) (by kernel_rfl) (by kernel_rfl) (fun _ _ _ h => h) (Or.inl ⟨by rfl, ?_⟩) hHeld1 ?_
              rotate_left
              · (intro w' hSw; (try dsimp only at hSw); go_simp; all_goals (with_reducible rfl))
              try simp only [Act.put, List.setIfInBounds_toArray, List.set_cons_zero, List.set_cons_succ]
              refine wpAnyH_take (i := 23) (oi := ⟨some 53, _, _, _, _, _⟩) (v := ?_) rfl (by kernel_rfl) (by kernel_rfl) (by kernel_rfl) (fun _ _ _ h => h) (Or.inl ⟨by rfl, ?_⟩) hHeld1 ?_
              rotate_left
              · (intro w' hSw; (try dsimp only at hSw); go_simp; all_goals (with_reducible rfl))
              try simp only [Act.put, List.setIfInBounds_toArray, List.set_cons_zero, List.set_cons_succ]
              refine wpAnyH_take (i := 24) (oi := ⟨some 54, _, _, _, _, _⟩) (v := ?_) rfl (by kernel_rfl) (by kernel_rfl) (by kernel_rfl) (fun _ _ _ h => h) (Or.inl ⟨by rfl, ?_⟩) hHeld1 ?_
              rotate_left
              · (intro w' hSw; (try dsimp only at hSw); go_simp; all_goals (with_reducible rfl))
              try simp only [Act.put, List.setIfInBounds_toArray, List.set_cons_zero, List.set_cons_succ]
              refine wpAnyH_take (i := 25) (oi := ⟨some 55, _, _, _, _, _⟩) (v := ?_) rfl (by kernel_rfl) (by kernel_rfl) (by kernel_rfl) (fun _ _ _ h => h) (Or.inl ⟨by rfl, ?_⟩) hHeld1 ?_
              rotate_left
              · (intro w' hSw; (try dsimp only at hSw); go_simp; all_goals (with_reducible rfl))
              try simp only [Act.put, List.setIfInBounds_toArray, List.set_cons_zero, List.set_cons_succ]
              refine wpAnyH_take (i := 28) (oi := ⟨some 58, _, _, _, _, _⟩) (v := ?_) rfl (by kernel_rfl) (by kernel_rfl) (by kernel_rfl) (fun _ _ _ h => h) (Or.inl ⟨by rfl, ?_⟩) hHeld1 ?_
              rotate_left
              · (intro w' hSw; (try dsimp only at hSw); go_simp; all_goals (with_reducible rfl))
              try simp only [Act.put, List.setIfInBounds_toArray, List.set_cons_zero, List.set_cons_succ]
              refine wpAnyH_take (i := 30) (oi := ⟨some 60, _, _, _, _, _⟩) (v := ?_) rfl (by kernel_rfl) (by kernel_rfl) (by kernel_rfl) (fun _ _ _ h => h) (Or.inl ⟨by rfl, ?_⟩) hHeld1 ?_
              rotate_left
              · (intro w' hSw; (try dsimp only at hSw); go_simp; all_goals (with_reducible rfl))
              try simp only [Act.put, List.setIfInBounds_toArray, List.set_cons_zero, List.set_cons_succ]
              refine wpAnyH_ready (rs := [26]) (by kernel_rfl) (by simp) (AllReadyH.cons (o := ⟨some 56, _, _, _, _, _⟩) rfl (fun K hK => ?_) AllReadyH.nil)
              go_simp
              refine (sjoin_any ⟨⟨g0, e0, l0⟩, A0, n0, c0⟩ ⟨⟨g1, e1, l1⟩, A1, n1, c1⟩ _ R0 R1 (by show n0 ≤ _; omega) (by show n1 ≤ _; omega) (S.right_rise HR0.out) (S.right_rise HR1.out)).mono ?_
              rintro e w9 ⟨⟨sj, Aj, nj, cj⟩, rfl, hs, hown, hb⟩
              simp only at hs
              have Hj : Hid (sj = S.join ⟨g0, e0, l0⟩ ⟨g1, e1, l1⟩) := Lib.hid hs
              have Rj := hown.srd
              have bdj : nj ≤ n0 + n1 := by have hq := Rj.len; have := HL0.out; have := HL1.out; have := join_apps_length ⟨g0, e0, l0⟩ ⟨g1, e1, l1⟩; rw [Hj.out] at hq; (try simp only at *); omega
              clear hs hown
              replace R0 := R0.belowH hb
              replace R1 := R1.belowH hb
              replace X := X.belowH hb
              replace Y := Y.belowH hb
              replace b := b.trans (hb.mono b.size)
              clear hb
              simp only [sv]
              go_simp
              refine hK.out _ _ (by exact ⟨⟨X.at 0 rfl, X.at 1 rfl, X.at 2 rfl⟩, ⟨Y.at 0 rfl, Y.at 1 rfl, Y.at 2 rfl⟩⟩) (fun hHeld2 => ?_)
              clear hK hHeld1 K
              try simp only [Act.put, List.setIfInBounds_toArray, List.set_cons_zero, List.set_cons_succ]
              refine wpAnyH_ready (rs := [27]) (by kernel_rfl) (by simp) (AllReadyH.cons (o := ⟨some 57, _, _, _, _, _⟩) rfl (fun K hK => ?_) AllReadyH.nil)
              go_simp
              refine (stop_any ⟨sj, Aj, nj, cj⟩  _ Rj (by show nj * 32 ≤ _; omega)).mono ?_
              rintro e w10 ⟨rfl, hb⟩
              replace R0 := R0.belowH hb
              replace R1 := R1.belowH hb
              replace Rj := Rj.belowH hb
              replace X := X.belowH hb
              replace Y := Y.belowH hb
              replace b := b.trans (hb.mono b.size)
              clear hb
              go_simp
              refine hK.out _ _ (by exact ⟨⟨X.at 0 rfl, X.at 1 rfl, X.at 2 rfl⟩, ⟨Y.at 0 rfl, Y.at 1 rfl, Y.at 2 rfl⟩⟩) (fun hHeld3 => ?_)
              clear hK hHeld2 K
              try simp only [Act.put, List.setIfInBounds_toArray, List.set_cons_zero, List.set_cons_succ]
              refine wpAnyH_ready (rs := [29]) (by kernel_rfl) (by simp) (AllReadyH.cons (o := ⟨some 59, _, _, _, _, _⟩) rfl (fun K hK => ?_) AllReadyH.nil)
              go_simp
              refine (stop_any ⟨⟨g0, e0, l0⟩, A0, n0, c0⟩  _ R0 (by show n0 * 32 ≤ _; omega)).mono ?_
              rintro e w11 ⟨rfl, hb⟩
              replace R0 := R0.belowH hb
              replace R1 := R1.belowH hb
              replace Rj := Rj.belowH hb
              replace X := X.belowH hb
              replace Y := Y.belowH hb
              replace b := b.trans (hb.mono b.size)
              clear hb
              go_simp
              refine hK.out _ _ (by exact ⟨⟨X.at 0 rfl, X.at 1 rfl, X.at 2 rfl⟩, ⟨Y.at 0 rfl, Y.at 1 rfl, Y.at 2 rfl⟩⟩) (fun hHeld4 => ?_)
              clear hK hHeld3 K
              try simp only [Act.put, List.setIfInBounds_toArray, List.set_cons_zero, List.set_cons_succ]
              refine wpAnyH_ready (rs := [31]) (by kernel_rfl) (by simp) (AllReadyH.cons (o := ⟨some 61, _, _, _, _, _⟩) rfl (fun K hK => ?_) AllReadyH.nil)
              go_simp
              refine (stop_any ⟨⟨g1, e1, l1⟩, A1, n1, c1⟩  _ R1 (by show n1 * 32 ≤ _; omega)).mono ?_
              rintro e w12 ⟨rfl, hb⟩
              replace R0 := R0.belowH hb
              replace R1 := R1.belowH hb
              replace Rj := Rj.belowH hb
              replace X := X.belowH hb
              replace Y := Y.belowH hb
              replace b := b.trans (hb.mono b.size)
              clear hb
              go_simp
              refine hK.out _ _ (by exact ⟨⟨X.at 0 rfl, X.at 1 rfl, X.at 2 rfl⟩, ⟨Y.at 0 rfl, Y.at 1 rfl, Y.at 2 rfl⟩⟩) (fun hHeld5 => ?_)
              clear hK hHeld4 K
              try simp only [Act.put, List.setIfInBounds_toArray, List.set_cons_zero, List.set_cons_succ]
              refine wpAnyH_take (i := 32) (oi := ⟨some 62, _, _, _, _, _⟩) (v := ?_) rfl (by kernel_rfl) (by kernel_rfl) (by kernel_rfl) (fun _ _ _ h => h) (Or.inl ⟨by rfl, ?_⟩) hHeld5 ?_
              rotate_left
              · (intro w' hSw; (try dsimp only at hSw); go_simp; all_goals (with_reducible rfl))
              try simp only [Act.put, List.setIfInBounds_toArray, List.set_cons_zero, List.set_cons_succ]
              refine wpAnyH_take (i := 33) (oi := ⟨some 63, _, _, _, _, _⟩) (v := ?_) rfl (by kernel_rfl) (by kernel_rfl) (by kernel_rfl) (fun _ _ _ h => h) (Or.inl ⟨by rfl, ?_⟩) hHeld5 ?_
              rotate_left
              · (intro w' hSw; (try dsimp only at hSw); go_simp; all_goals (with_reducible rfl))
              try simp only [Act.put, List.setIfInBounds_toArray, List.set_cons_zero, List.set_cons_succ]
              refine wpAnyH_take (i := 34) (oi := ⟨some 64, _, _, _, _, _⟩) (v := ?_) rfl (by kernel_rfl) (by kernel_rfl) (by kernel_rfl) (fun _ _ _ h => h) (Or.inl ⟨by rfl, ?_⟩) hHeld5 ?_
              rotate_left
              · (intro w' hSw; (try dsimp only at hSw); go_simp; all_goals (with_reducible rfl))
              try simp only [Act.put, List.setIfInBounds_toArray, List.set_cons_zero, List.set_cons_succ]
              refine wpAnyH_take (i := 35) (oi := ⟨some 4, _, _, _, _, _⟩) (v := ?_) rfl (by kernel_rfl) (by kernel_rfl) (by kernel_rfl) (fun _ _ _ h => h) (Or.inl ⟨by rfl, ?_⟩) hHeld5 ?_
              rotate_left
              · (intro w' hSw; (try dsimp only at hSw); go_simp; all_goals (with_reducible rfl))
              try simp only [Act.put, List.setIfInBounds_toArray, List.set_cons_zero, List.set_cons_succ]
              refine wpAnyH_done (by kernel_rfl) ?_ _
              go_wp2
              all_goals
                go_ret
                refine ⟨ret_bool ?_, b⟩
                have hge := S.top_join_ge (S.right_rise HR0.out) (S.right_rise HR1.out)
                rw [← Hj.out] at hge
                exact decide_eq_true (by omega)
            · have hle2 : ¬ g0 ≤ g1 := hle
              have hlb : decide (g0 ≤ g1) = false := decide_eq_false hle
              clear hle
              go_wp2
              replace R0 := R0.drewH
              replace R1 := R1.drewH
              replace X := X.drew
              replace Y := Y.drew
              replace b := b.drew
              refine wp_region_held_drew (S := (fun w' => (w'.cell? ⟨W.heap.size, 0, none⟩ = some (.int .i64 g0) ∧ w'.cell? ⟨W.heap.size, 1, none⟩ = some (.int .i64 e0) ∧ w'.cell? ⟨W.heap.size, 2, none⟩ = some (.slice A0 n0 c0)) ∧ (w'.cell? ⟨W.heap.size + 1, 0, none⟩ = some (.int .i64 g1) ∧ w'.cell? ⟨W.heap.size + 1, 1, none⟩ = some (.int .i64 e1) ∧ w'.cell? ⟨W.heap.size + 1, 2, none⟩ = some (.slice A1 n1 c1)))) (by kernel_rfl) (by exact ⟨⟨X.at 0 rfl, X.at 1 rfl, X.at 2 rfl⟩, ⟨Y.at 0 rfl, Y.at 1 rfl, Y.at 2 rfl⟩⟩) (fun hHeld0 => ?_)
              refine wpAnyH_take (i := 0) (oi := ⟨some 30, _, _, _, _, _⟩) (v := ?_) rfl (by kernel_rfl) (by kernel_rfl) (by kernel_rfl) (fun _ _ _ h => h) (Or.inl ⟨by rfl, ?_⟩) hHeld0 ?_
              rotate_left
              · (intro w' hSw; (try dsimp only at hSw); go_simp; all_goals (with_reducible rfl))
              try simp only [Act.put, List.setIfInBounds_toArray, List.set_cons_zero, List.set_cons_succ]
              refine wpAnyH_take (i := 1) (oi := ⟨some 31, _, _, _, _, _⟩) (v := ?_) rfl (by kernel_rfl) (by kernel_rfl) (by kernel_rfl) (fun _ _ _ h => h) (Or.inl ⟨by rfl, ?_⟩) hHeld0 ?_
              rotate_left
              · (intro w' hSw; (try dsimp only at hSw); go_simp; all_goals (with_reducible rfl))
              try simp only [Act.put, List.setIfInBounds_toArray, List.set_cons_zero, List.set_cons_succ]
              refine wpAnyH_take (i := 2) (oi := ⟨some 32, _, _, _, _, _⟩) (v := ?_) rfl (by kernel_rfl) (by kernel_rfl) (by kernel_rfl) (fun _ _ _ h => h) (Or.inl ⟨by rfl, ?_⟩) hHeld0 ?_
              rotate_left
              · (intro w' hSw; (try dsimp only at hSw); go_simp; all_goals (with_reducible rfl))
              try simp only [Act.put, List.setIfInBounds_toArray, List.set_cons_zero, List.set_cons_succ]
              refine wpAnyH_ready (rs := [3]) (by kernel_rfl) (by simp) (AllReadyH.cons (o := ⟨some 33, _, _, _, _, _⟩) rfl (fun K hK => ?_) AllReadyH.nil)
              go_simp
              refine (rssame_any ⟨⟨g0, e0, l0⟩, A0, n0, c0⟩ ⟨⟨g1, e1, l1⟩, A1, n1, c1⟩ _ R0 R1 (by show n0 * 32 ≤ _; omega) (by show n1 * 32 ≤ _; omega)).mono ?_
              rw [HSB.out]
              rintro e w8 ⟨rfl, hb⟩
              replace R0 := R0.belowH hb
              replace R1 := R1.belowH hb
              replace X := X.belowH hb
              replace Y := Y.belowH hb
              replace b := b.trans (hb.mono b.size)
              clear hb
              go_simp
              refine hK.out _ _ (by exact ⟨⟨X.at 0 rfl, X.at 1 rfl, X.at 2 rfl⟩, ⟨Y.at 0 rfl, Y.at 1 rfl, Y.at 2 rfl⟩⟩) (fun hHeld1 => ?_)
              clear hK hHeld0 K
              try simp only [Act.put, List.setIfInBounds_toArray, List.set_cons_zero, List.set_cons_succ]
              refine wpAnyH_take (i := 4) (oi := ⟨some 34, _, _, _, _, _⟩) (v := ?_) rfl (by kernel_rfl) (by kernel_rfl) (by kernel_rfl) (fun _ _ _ h => h) (Or.inl ⟨by rfl, ?_⟩) hHeld1 ?_
              rotate_left
              · (intro w' hSw; (try dsimp only at hSw); go_simp; all_goals (with_reducible rfl))
              try simp only [Act.put, List.setIfInBounds_toArray, List.set_cons_zero, List.set_cons_succ]
              refine wpAnyH_take (i := 5) (oi := ⟨some 35, _, _, _, _, _⟩) (v := ?_) rfl (by kernel_rfl) (by kernel_rfl) (by kernel_rfl) (fun _ _ _ h => h) (Or.inl ⟨by rfl, ?_⟩) hHeld1 ?_
              rotate_left
              · (intro w' hSw; (try dsimp only at hSw); go_simp; all_goals (with_reducible rfl))
              try simp only [Act.put, List.setIfInBounds_toArray, List.set_cons_zero, List.set_cons_succ]
              refine wpAnyH_take (i := 6) (oi := ⟨some 36, _, _, _, _, _⟩) (v := ?_) rfl (by kernel_rfl) (by kernel_rfl) (by kernel_rfl) (fun _ _ _ h => h) (Or.inl ⟨by rfl, ?_⟩) hHeld1 ?_
              rotate_left
              · (intro w' hSw; (try dsimp only at hSw); go_simp; all_goals (with_reducible rfl))
              try simp only [Act.put, List.setIfInBounds_toArray, List.set_cons_zero, List.set_cons_succ]
              refine wpAnyH_take (i := 7) (oi := ⟨some 37, _, _, _, _, _⟩) (v := ?_) rfl (by kernel_rfl) (by kernel_rfl) (by kernel_rfl) (fun _ _ _ h => h) (Or.inl ⟨by rfl, ?_⟩) hHeld1 ?_
              rotate_left
              · (intro w' hSw; (try dsimp only at hSw); go_simp; all_goals (with_reducible rfl))
              try simp only [Act.put, List.setIfInBounds_toArray, List.set_cons_zero, List.set_cons_succ]
              refine wpAnyH_take (i := 8) (oi := ⟨some 38, _, _, _, _, _⟩) (v := ?_) rfl (by kernel_rfl) (by kernel_rfl) (by kernel_rfl) (fun _ _ _ h => h) (Or.inl ⟨by rfl, ?_⟩) hHeld1 ?_
              rotate_left
              · (intro w' hSw; (try dsimp only at hSw); go_simp; all_goals (with_reducible rfl))
              try simp only [Act.put, List.setIfInBounds_toArray, List.set_cons_zero, List.set_cons_succ]
              refine wpAnyH_take (i := 9) (oi := ⟨some 39, _, _, _, _, _⟩) (v := ?_) rfl (by kernel_rfl) (by kernel_rfl) (by kernel_rfl) (fun _ _ _ h => h) (Or.inl ⟨by rfl, ?_⟩) hHeld1 ?_
              rotate_left
              · (intro w' hSw; (try dsimp only at hSw); go_simp; all_goals (with_reducible rfl))
              try simp only [Act.put, List.setIfInBounds_toArray, List.set_cons_zero, List.set_cons_succ]
              refine wpAnyH_take (i := 10) (oi := ⟨some 40, _, _, _, _, _⟩) (v := ?_) rfl (by kernel_rfl) (by kernel_rfl) (by kernel_rfl) (fun _ _ _ h => h) (Or.inl ⟨by rfl, ?_⟩) hHeld1 ?_
              rotate_left
              · (intro w' hSw; (try dsimp only at hSw); go_simp; all_goals (with_reducible rfl))
              try simp only [Act.put, List.setIfInBounds_toArray, List.set_cons_zero, List.set_cons_succ]
              refine wpAnyH_take (i := 11) (oi := ⟨some 41, _, _, _, _, _⟩) (v := ?_) rfl (by kernel_rfl) (by kernel_rfl) (by kernel_rfl) (fun _ _ _ h => h) (Or.inl ⟨by rfl, ?_⟩) hHeld1 ?_
              rotate_left
              · (intro w' hSw; (try dsimp only at hSw); go_simp; all_goals (with_reducible rfl))
              try simp only [Act.put, List.setIfInBounds_toArray, List.set_cons_zero, List.set_cons_succ]
              refine wpAnyH_take (i := 12) (oi := ⟨some 42, _, _, _, _, _⟩) (v := ?_) rfl (by kernel_rfl) (by kernel_rfl) (by kernel_rfl) (fun _ _ _ h => h) (Or.inl ⟨by rfl, ?_⟩) hHeld1 ?_
              rotate_left
              · (intro w' hSw; (try dsimp only at hSw); go_simp; all_goals (with_reducible rfl))
              try simp only [Act.put, List.setIfInBounds_toArray, List.set_cons_zero, List.set_cons_succ]
              refine wpAnyH_take (i := 13) (oi := ⟨some 43, _, _, _, _, _⟩) (v := ?_) rfl (by kernel_rfl) (by kernel_rfl) (by kernel_rfl) (fun _ _ _ h => h) (Or.inl ⟨by rfl, ?_⟩) hHeld1 ?_
              rotate_left
              · (intro w' hSw; (try dsimp only at hSw); go_simp; all_goals (with_reducible rfl))
              try simp only [Act.put, List.setIfInBounds_toArray, List.set_cons_zero, List.set_cons_succ]
              refine wpAnyH_ready (rs := [14]) (by kernel_rfl) (by simp) (AllReadyH.cons (o := ⟨some 44, _, _, _, _, _⟩) rfl (fun K hK => ?_) AllReadyH.nil)
              go_simp
              refine (sover_any ⟨⟨g0, e0, l0⟩, A0, n0, c0⟩ ⟨⟨g1, e1, l1⟩, A1, n1, c1⟩ _ R0 R1 (by show n0 ≤ _; omega) (by show n1 ≤ _; omega) (S.right_rise HR0.out) (S.right_rise HR1.out)).mono ?_
              rw [HO1.out]
              rintro e w9 ⟨rfl, hb⟩
              replace R0 := R0.belowH hb
              replace R1 := R1.belowH hb
              replace X := X.belowH hb
              replace Y := Y.belowH hb
              replace b := b.trans (hb.mono b.size)
              clear hb
              go_simp
              refine hK.out _ _ (by exact ⟨⟨X.at 0 rfl, X.at 1 rfl, X.at 2 rfl⟩, ⟨Y.at 0 rfl, Y.at 1 rfl, Y.at 2 rfl⟩⟩) (fun hHeld2 => ?_)
              clear hK hHeld1 K
              try simp only [Act.put, List.setIfInBounds_toArray, List.set_cons_zero, List.set_cons_succ]
              refine wpAnyH_take (i := 15) (oi := ⟨some 45, _, _, _, _, _⟩) (v := ?_) rfl (by kernel_rfl) (by kernel_rfl) (by kernel_rfl) (fun _ _ _ h => h) (Or.inl ⟨by rfl, ?_⟩) hHeld2 ?_
              rotate_left
              · (intro w' hSw; (try dsimp only at hSw); go_simp; all_goals (with_reducible rfl))
              try simp only [Act.put, List.setIfInBounds_toArray, List.set_cons_zero, List.set_cons_succ]
              refine wpAnyH_take (i := 16) (oi := ⟨some 46, _, _, _, _, _⟩) (v := ?_) rfl (by kernel_rfl) (by kernel_rfl) (by kernel_rfl) (fun _ _ _ h => h) (Or.inl ⟨by rfl, ?_⟩) hHeld2 ?_
              rotate_left
              · (intro w' hSw; (try dsimp only at hSw); go_simp; all_goals (with_reducible rfl))
              try simp only [Act.put, List.setIfInBounds_toArray, List.set_cons_zero, List.set_cons_succ]
              refine wpAnyH_take (i := 17) (oi := ⟨some 47, _, _, _, _, _⟩) (v := ?_) rfl (by kernel_rfl) (by kernel_rfl) (by kernel_rfl) (fun _ _ _ h => h) (Or.inl ⟨by rfl, ?_⟩) hHeld2 ?_
              rotate_left
              · (intro w' hSw; (try dsimp only at hSw); go_simp; all_goals (with_reducible rfl))
              try simp only [Act.put, List.setIfInBounds_toArray, List.set_cons_zero, List.set_cons_succ]
              refine wpAnyH_ready (rs := [18]) (by kernel_rfl) (by simp) (AllReadyH.cons (o := ⟨some 48, _, _, _, _, _⟩) rfl (fun K hK => ?_) AllReadyH.nil)
              go_simp
              refine (sover_any ⟨⟨g1, e1, l1⟩, A1, n1, c1⟩ ⟨⟨g0, e0, l0⟩, A0, n0, c0⟩ _ R1 R0 (by show n1 ≤ _; omega) (by show n0 ≤ _; omega) (S.right_rise HR1.out) (S.right_rise HR0.out)).mono ?_
              rw [HO2.out]
              rintro e w10 ⟨rfl, hb⟩
              replace R0 := R0.belowH hb
              replace R1 := R1.belowH hb
              replace X := X.belowH hb
              replace Y := Y.belowH hb
              replace b := b.trans (hb.mono b.size)
              clear hb
              go_simp
              refine hK.out _ _ (by exact ⟨⟨X.at 0 rfl, X.at 1 rfl, X.at 2 rfl⟩, ⟨Y.at 0 rfl, Y.at 1 rfl, Y.at 2 rfl⟩⟩) (fun hHeld3 => ?_)
              clear hK hHeld2 K
              try simp only [Act.put, List.setIfInBounds_toArray, List.set_cons_zero, List.set_cons_succ]
              refine wpAnyH_take (i := 19) (oi := ⟨some 49, _, _, _, _, _⟩) (v := ?_) rfl (by kernel_rfl) (by kernel_rfl) (by kernel_rfl) (fun _ _ _ h => h) (Or.inl ⟨by rfl, ?_⟩) hHeld3 ?_
              rotate_left
              · (intro w' hSw; (try dsimp only at hSw); go_simp; all_goals (with_reducible rfl))
              try simp only [Act.put, List.setIfInBounds_toArray, List.set_cons_zero, List.set_cons_succ]
              refine wpAnyH_take (i := 20) (oi := ⟨some 50, _, _, _, _, _⟩) (v := ?_) rfl (by kernel_rfl) (by kernel_rfl) (by kernel_rfl) (fun _ _ _ h => h) (Or.inl ⟨by rfl, ?_⟩) hHeld3 ?_
              rotate_left
              · (intro w' hSw; (try dsimp only at hSw); go_simp; all_goals (with_reducible rfl))
              try simp only [Act.put, List.setIfInBounds_toArray, List.set_cons_zero, List.set_cons_succ]
              refine wpAnyH_take (i := 21) (oi := ⟨some 51, _, _, _, _, _⟩) (v := ?_) rfl (by kernel_rfl) (by kernel_rfl) (by kernel_rfl) (fun _ _ _ h => h) (Or.inl ⟨by rfl, ?_⟩) hHeld3 ?_
              rotate_left
              · (intro w' hSw; (try dsimp only at hSw); go_simp; all_goals (with_reducible rfl))
              try simp only [Act.put, List.setIfInBounds_toArray, List.set_cons_zero, List.set_cons_succ]
              refine wpAnyH_take (i := 22) (oi := ⟨some 52, _, _, _, _, _⟩) (v := ?_) rfl (by kernel_rfl) (by kernel_rfl) (by kernel_rfl) (fun _ _ _ h => h) (Or.inl ⟨by rfl, ?_⟩) hHeld3 ?_
              rotate_left
              · (intro w' hSw; (try dsimp only at hSw); go_simp; all_goals (with_reducible rfl))
              try simp only [Act.put, List.setIfInBounds_toArray, List.set_cons_zero, List.set_cons_succ]
              refine wpAnyH_take (i := 23) (oi := ⟨some 53, _, _, _, _, _⟩) (v := ?_) rfl (by kernel_rfl) (by kernel_rfl) (by kernel_rfl) (fun _ _ _ h => h) (Or.inl ⟨by rfl, ?_⟩) hHeld3 ?_
              rotate_left
              · (intro w' hSw; (try dsimp only at hSw); go_simp; all_goals (with_reducible rfl))
              try simp only [Act.put, List.setIfInBounds_toArray, List.set_cons_zero, List.set_cons_succ]
              refine wpAnyH_take (i := 24) (oi := ⟨some 54, _, _, _, _, _⟩) (v := ?_) rfl (by kernel_rfl) (by kernel_rfl) (by kernel_rfl) (fun _ _ _ h => h) (Or.inl ⟨by rfl, ?_⟩) hHeld3 ?_
              rotate_left
              · (intro w' hSw; (try dsimp only at hSw); go_simp; all_goals (with_reducible rfl))
              try simp only [Act.put, List.setIfInBounds_toArray, List.set_cons_zero, List.set_cons_succ]
              refine wpAnyH_take (i := 25) (oi := ⟨some 55, _, _, _, _, _⟩) (v := ?_) rfl (by kernel_rfl) (by kernel_rfl) (by kernel_rfl) (fun _ _ _ h => h) (Or.inl ⟨by rfl, ?_⟩) hHeld3 ?_
              rotate_left
              · (intro w' hSw; (try dsimp only at hSw); go_simp; all_goals (with_reducible rfl))
              try simp only [Act.put, List.setIfInBounds_toArray, List.set_cons_zero, List.set_cons_succ]
              refine wpAnyH_take (i := 28) (oi := ⟨some 58, _, _, _, _, _⟩) (v := ?_) rfl (by kernel_rfl) (by kernel_rfl) (by kernel_rfl) (fun _ _ _ h => h) (Or.inl ⟨by rfl, ?_⟩) hHeld3 ?_
              rotate_left
              · (intro w' hSw; (try dsimp only at hSw); go_simp; all_goals (with_reducible rfl))
              try simp only [Act.put, List.setIfInBounds_toArray, List.set_cons_zero, List.set_cons_succ]
              refine wpAnyH_take (i := 30) (oi := ⟨some 60, _, _, _, _, _⟩) (v := ?_) rfl (by kernel_rfl) (by kernel_rfl) (by kernel_rfl) (fun _ _ _ h => h) (Or.inl ⟨by rfl, ?_⟩) hHeld3 ?_
              rotate_left
              · (intro w' hSw; (try dsimp only at hSw); go_simp; all_goals (with_reducible rfl))
              try simp only [Act.put, List.setIfInBounds_toArray, List.set_cons_zero, List.set_cons_succ]
              refine wpAnyH_ready (rs := [26]) (by kernel_rfl) (by simp) (AllReadyH.cons (o := ⟨some 56, _, _, _, _, _⟩) rfl (fun K hK => ?_) AllReadyH.nil)
              go_simp
              refine (sjoin_any ⟨⟨g0, e0, l0⟩, A0, n0, c0⟩ ⟨⟨g1, e1, l1⟩, A1, n1, c1⟩ _ R0 R1 (by show n0 ≤ _; omega) (by show n1 ≤ _; omega) (S.right_rise HR0.out) (S.right_rise HR1.out)).mono ?_
              rintro e w11 ⟨⟨sj, Aj, nj, cj⟩, rfl, hs, hown, hb⟩
              simp only at hs
              have Hj : Hid (sj = S.join ⟨g0, e0, l0⟩ ⟨g1, e1, l1⟩) := Lib.hid hs
              have Rj := hown.srd
              have bdj : nj ≤ n0 + n1 := by have hq := Rj.len; have := HL0.out; have := HL1.out; have := join_apps_length ⟨g0, e0, l0⟩ ⟨g1, e1, l1⟩; rw [Hj.out] at hq; (try simp only at *); omega
              clear hs hown
              replace R0 := R0.belowH hb
              replace R1 := R1.belowH hb
              replace X := X.belowH hb
              replace Y := Y.belowH hb
              replace b := b.trans (hb.mono b.size)
              clear hb
              simp only [sv]
              go_simp
              refine hK.out _ _ (by exact ⟨⟨X.at 0 rfl, X.at 1 rfl, X.at 2 rfl⟩, ⟨Y.at 0 rfl, Y.at 1 rfl, Y.at 2 rfl⟩⟩) (fun hHeld4 => ?_)
              clear hK hHeld3 K
              try simp only [Act.put, List.setIfInBounds_toArray, List.set_cons_zero, List.set_cons_succ]
              refine wpAnyH_ready (rs := [27]) (by kernel_rfl) (by simp) (AllReadyH.cons (o := ⟨some 57, _, _, _, _, _⟩) rfl (fun K hK => ?_) AllReadyH.nil)
              go_simp
              refine (stop_any ⟨sj, Aj, nj, cj⟩  _ Rj (by show nj * 32 ≤ _; omega)).mono ?_
              rintro e w12 ⟨rfl, hb⟩
              replace R0 := R0.belowH hb
              replace R1 := R1.belowH hb
              replace Rj := Rj.belowH hb
              replace X := X.belowH hb
              replace Y := Y.belowH hb
              replace b := b.trans (hb.mono b.size)
              clear hb
              go_simp
              refine hK.out _ _ (by exact ⟨⟨X.at 0 rfl, X.at 1 rfl, X.at 2 rfl⟩, ⟨Y.at 0 rfl, Y.at 1 rfl, Y.at 2 rfl⟩⟩) (fun hHeld5 => ?_)
              clear hK hHeld4 K
              try simp only [Act.put, List.setIfInBounds_toArray, List.set_cons_zero, List.set_cons_succ]
              refine wpAnyH_ready (rs := [29]) (by kernel_rfl) (by simp) (AllReadyH.cons (o := ⟨some 59, _, _, _, _, _⟩) rfl (fun K hK => ?_) AllReadyH.nil)
              go_simp
              refine (stop_any ⟨⟨g0, e0, l0⟩, A0, n0, c0⟩  _ R0 (by show n0 * 32 ≤ _; omega)).mono ?_
              rintro e w13 ⟨rfl, hb⟩
              replace R0 := R0.belowH hb
              replace R1 := R1.belowH hb
              replace Rj := Rj.belowH hb
              replace X := X.belowH hb
              replace Y := Y.belowH hb
              replace b := b.trans (hb.mono b.size)
              clear hb
              go_simp
              refine hK.out _ _ (by exact ⟨⟨X.at 0 rfl, X.at 1 rfl, X.at 2 rfl⟩, ⟨Y.at 0 rfl, Y.at 1 rfl, Y.at 2 rfl⟩⟩) (fun hHeld6 => ?_)
              clear hK hHeld5 K
              try simp only [Act.put, List.setIfInBounds_toArray, List.set_cons_zero, List.set_cons_succ]
              refine wpAnyH_ready (rs := [31]) (by kernel_rfl) (by simp) (AllReadyH.cons (o := ⟨some 61, _, _, _, _, _⟩) rfl (fun K hK => ?_) AllReadyH.nil)
              go_simp
              refine (stop_any ⟨⟨g1, e1, l1⟩, A1, n1, c1⟩  _ R1 (by show n1 * 32 ≤ _; omega)).mono ?_
              rintro e w14 ⟨rfl, hb⟩
              replace R0 := R0.belowH hb
              replace R1 := R1.belowH hb
              replace Rj := Rj.belowH hb
              replace X := X.belowH hb
              replace Y := Y.belowH hb
              replace b := b.trans (hb.mono b.size)
              clear hb
              go_simp
              refine hK.out _ _ (by exact ⟨⟨X.at 0 rfl, X.at 1 rfl, X.at 2 rfl⟩, ⟨Y.at 0 rfl, Y.at 1 rfl, Y.at 2 rfl⟩⟩) (fun hHeld7 => ?_)
              clear hK hHeld6 K
              try simp only [Act.put, List.setIfInBounds_toArray, List.set_cons_zero, List.set_cons_succ]
              refine wpAnyH_take (i := 32) (oi := ⟨some 62, _, _, _, _, _⟩) (v := ?_) rfl (by kernel_rfl) (by kernel_rfl) (by kernel_rfl) (fun _ _ _ h => h) (Or.inl ⟨by rfl, ?_⟩) hHeld7 ?_
              rotate_left
              · (intro w' hSw; (try dsimp only at hSw); go_simp; all_goals (with_reducible rfl))
              try simp only [Act.put, List.setIfInBounds_toArray, List.set_cons_zero, List.set_cons_succ]
              refine wpAnyH_take (i := 33) (oi := ⟨some 63, _, _, _, _, _⟩) (v := ?_) rfl (by kernel_rfl) (by kernel_rfl) (by kernel_rfl) (fun _ _ _ h => h) (Or.inl ⟨by rfl, ?_⟩) hHeld7 ?_
              rotate_left
              · (intro w' hSw; (try dsimp only at hSw); go_simp; all_goals (with_reducible rfl))
              try simp only [Act.put, List.setIfInBounds_toArray, List.set_cons_zero, List.set_cons_succ]
              refine wpAnyH_take (i := 34) (oi := ⟨some 64, _, _, _, _, _⟩) (v := ?_) rfl (by kernel_rfl) (by kernel_rfl) (by kernel_rfl) (fun _ _ _ h => h) (Or.inl ⟨by rfl, ?_⟩) hHeld7 ?_
              rotate_left
              · (intro w' hSw; (try dsimp only at hSw); go_simp; all_goals (with_reducible rfl))
              try simp only [Act.put, List.setIfInBounds_toArray, List.set_cons_zero, List.set_cons_succ]
              refine wpAnyH_take (i := 35) (oi := ⟨some 4, _, _, _, _, _⟩) (v := ?_) rfl (by kernel_rfl) (by kernel_rfl) (by kernel_rfl) (fun _ _ _ h => h) (Or.inl ⟨by rfl, ?_⟩) hHeld7 ?_
              rotate_left
              · (intro w' hSw; (try dsimp only at hSw); go_simp; all_goals (with_reducible rfl))
              try simp only [Act.put, List.setIfInBounds_toArray, List.set_cons_zero, List.set_cons_succ]
              refine wpAnyH_done (by kernel_rfl) ?_ _
              go_wp2
              all_goals
                go_ret
                refine ⟨ret_bool ?_, b⟩
                have hge := S.top_join_ge (S.right_rise HR0.out) (S.right_rise HR1.out)
                rw [← Hj.out] at hge
                exact decide_eq_true (by omega)
          · have HSB := Lib.hid (sameB_yes2 (S.right_rise HR0.out) (S.right_rise HR1.out) HO1.out ho2)
            have hle : g0 ≤ g1 := soverB_le2 ho2
            clear ho2
            go_wp2
            replace R0 := R0.drewH
            replace R1 := R1.drewH
            replace X := X.drew
            replace Y := Y.drew
            replace b := b.drew
            refine wp_region_held_drew (S := (fun w' => (w'.cell? ⟨W.heap.size, 0, none⟩ = some (.int .i64 g0) ∧ w'.cell? ⟨W.heap.size, 1, none⟩ = some (.int .i64 e0) ∧ w'.cell? ⟨W.heap.size, 2, none⟩ = some (.slice A0 n0 c0)) ∧ (w'.cell? ⟨W.heap.size + 1, 0, none⟩ = some (.int .i64 g1) ∧ w'.cell? ⟨W.heap.size + 1, 1, none⟩ = some (.int .i64 e1) ∧ w'.cell? ⟨W.heap.size + 1, 2, none⟩ = some (.slice A1 n1 c1)))) (by kernel_rfl) (by exact ⟨⟨X.at 0 rfl, X.at 1 rfl, X.at 2 rfl⟩, ⟨Y.at 0 rfl, Y.at 1 rfl, Y.at 2 rfl⟩⟩) (fun hHeld0 => ?_)
            refine wpAnyH_take (i := 0) (oi := ⟨some 30, _, _, _, _, _⟩) (v := ?_) rfl (by kernel_rfl) (by kernel_rfl) (by kernel_rfl) (fun _ _ _ h => h) (Or.inl ⟨by rfl, ?_⟩) hHeld0 ?_
            rotate_left
            · (intro w' hSw; (try dsimp only at hSw); go_simp; all_goals (with_reducible rfl))
            try simp only [Act.put, List.setIfInBounds_toArray, List.set_cons_zero, List.set_cons_succ]
            refine wpAnyH_take (i := 1) (oi := ⟨some 31, _, _, _, _, _⟩) (v := ?_) rfl (by kernel_rfl) (by kernel_rfl) (by kernel_rfl) (fun _ _ _ h => h) (Or.inl ⟨by rfl, ?_⟩) hHeld0 ?_
            rotate_left
            · (intro w' hSw; (try dsimp only at hSw); go_simp; all_goals (with_reducible rfl))
            try simp only [Act.put, List.setIfInBounds_toArray, List.set_cons_zero, List.set_cons_succ]
            refine wpAnyH_take (i := 2) (oi := ⟨some 32, _, _, _, _, _⟩) (v := ?_) rfl (by kernel_rfl) (by kernel_rfl) (by kernel_rfl) (fun _ _ _ h => h) (Or.inl ⟨by rfl, ?_⟩) hHeld0 ?_
            rotate_left
            · (intro w' hSw; (try dsimp only at hSw); go_simp; all_goals (with_reducible rfl))
            try simp only [Act.put, List.setIfInBounds_toArray, List.set_cons_zero, List.set_cons_succ]
            refine wpAnyH_ready (rs := [3]) (by kernel_rfl) (by simp) (AllReadyH.cons (o := ⟨some 33, _, _, _, _, _⟩) rfl (fun K hK => ?_) AllReadyH.nil)
            go_simp
            refine (rssame_any ⟨⟨g0, e0, l0⟩, A0, n0, c0⟩ ⟨⟨g1, e1, l1⟩, A1, n1, c1⟩ _ R0 R1 (by show n0 * 32 ≤ _; omega) (by show n1 * 32 ≤ _; omega)).mono ?_
            rw [HSB.out]
            rintro e w8 ⟨rfl, hb⟩
            replace R0 := R0.belowH hb
            replace R1 := R1.belowH hb
            replace X := X.belowH hb
            replace Y := Y.belowH hb
            replace b := b.trans (hb.mono b.size)
            clear hb
            go_simp
            refine hK.out _ _ (by exact ⟨⟨X.at 0 rfl, X.at 1 rfl, X.at 2 rfl⟩, ⟨Y.at 0 rfl, Y.at 1 rfl, Y.at 2 rfl⟩⟩) (fun hHeld1 => ?_)
            clear hK hHeld0 K
            try simp only [Act.put, List.setIfInBounds_toArray, List.set_cons_zero, List.set_cons_succ]
            refine wpAnyH_take (i := 4) (oi := ⟨some 34, _, _, _, _, _⟩) (v := ?_) rfl (by kernel_rfl) (by kernel_rfl) (by kernel_rfl) (fun _ _ _ h => h) (Or.inl ⟨by rfl, ?_⟩) hHeld1 ?_
            rotate_left
            · (intro w' hSw; (try dsimp only at hSw); go_simp; all_goals (with_reducible rfl))
            try simp only [Act.put, List.setIfInBounds_toArray, List.set_cons_zero, List.set_cons_succ]
            refine wpAnyH_take (i := 5) (oi := ⟨some 35, _, _, _, _, _⟩) (v := ?_) rfl (by kernel_rfl) (by kernel_rfl) (by kernel_rfl) (fun _ _ _ h => h) (Or.inl ⟨by rfl, ?_⟩) hHeld1 ?_
            rotate_left
            · (intro w' hSw; (try dsimp only at hSw); go_simp; all_goals (with_reducible rfl))
            try simp only [Act.put, List.setIfInBounds_toArray, List.set_cons_zero, List.set_cons_succ]
            refine wpAnyH_take (i := 6) (oi := ⟨some 36, _, _, _, _, _⟩) (v := ?_) rfl (by kernel_rfl) (by kernel_rfl) (by kernel_rfl) (fun _ _ _ h => h) (Or.inl ⟨by rfl, ?_⟩) hHeld1 ?_
            rotate_left
            · (intro w' hSw; (try dsimp only at hSw); go_simp; all_goals (with_reducible rfl))
            try simp only [Act.put, List.setIfInBounds_toArray, List.set_cons_zero, List.set_cons_succ]
            refine wpAnyH_take (i := 7) (oi := ⟨some 37, _, _, _, _, _⟩) (v := ?_) rfl (by kernel_rfl) (by kernel_rfl) (by kernel_rfl) (fun _ _ _ h => h) (Or.inl ⟨by rfl, ?_⟩) hHeld1 ?_
            rotate_left
            · (intro w' hSw; (try dsimp only at hSw); go_simp; all_goals (with_reducible rfl))
            try simp only [Act.put, List.setIfInBounds_toArray, List.set_cons_zero, List.set_cons_succ]
            refine wpAnyH_take (i := 8) (oi := ⟨some 38, _, _, _, _, _⟩) (v := ?_) rfl (by kernel_rfl) (by kernel_rfl) (by kernel_rfl) (fun _ _ _ h => h) (Or.inl ⟨by rfl, ?_⟩) hHeld1 ?_
            rotate_left
            · (intro w' hSw; (try dsimp only at hSw); go_simp; all_goals (with_reducible rfl))
            try simp only [Act.put, List.setIfInBounds_toArray, List.set_cons_zero, List.set_cons_succ]
            refine wpAnyH_take (i := 9) (oi := ⟨some 39, _, _, _, _, _⟩) (v := ?_) rfl (by kernel_rfl) (by kernel_rfl) (by kernel_rfl) (fun _ _ _ h => h) (Or.inl ⟨by rfl, ?_⟩) hHeld1 ?_
            rotate_left
            · (intro w' hSw; (try dsimp only at hSw); go_simp; all_goals (with_reducible rfl))
            try simp only [Act.put, List.setIfInBounds_toArray, List.set_cons_zero, List.set_cons_succ]
            refine wpAnyH_take (i := 10) (oi := ⟨some 40, _, _, _, _, _⟩) (v := ?_) rfl (by kernel_rfl) (by kernel_rfl) (by kernel_rfl) (fun _ _ _ h => h) (Or.inl ⟨by rfl, ?_⟩) hHeld1 ?_
            rotate_left
            · (intro w' hSw; (try dsimp only at hSw); go_simp; all_goals (with_reducible rfl))
            try simp only [Act.put, List.setIfInBounds_toArray, List.set_cons_zero, List.set_cons_succ]
            refine wpAnyH_take (i := 11) (oi := ⟨some 41, _, _, _, _, _⟩) (v := ?_) rfl (by kernel_rfl) (by kernel_rfl) (by kernel_rfl) (fun _ _ _ h => h) (Or.inl ⟨by rfl, ?_⟩) hHeld1 ?_
            rotate_left
            · (intro w' hSw; (try dsimp only at hSw); go_simp; all_goals (with_reducible rfl))
            try simp only [Act.put, List.setIfInBounds_toArray, List.set_cons_zero, List.set_cons_succ]
            refine wpAnyH_take (i := 12) (oi := ⟨some 42, _, _, _, _, _⟩) (v := undef) rfl (by kernel_rfl) (by kernel_rfl) (by kernel_rfl) (fun _ _ _ h => h) (Or.inr ⟨by rfl, rfl⟩) hHeld1 ?_
            try simp only [Act.put, List.setIfInBounds_toArray, List.set_cons_zero, List.set_cons_succ]
            refine wpAnyH_take (i := 13) (oi := ⟨some 43, _, _, _, _, _⟩) (v := undef) rfl (by kernel_rfl) (by kernel_rfl) (by kernel_rfl) (fun _ _ _ h => h) (Or.inr ⟨by rfl, rfl⟩) hHeld1 ?_
            try simp only [Act.put, List.setIfInBounds_toArray, List.set_cons_zero, List.set_cons_succ]
            refine wpAnyH_take (i := 14) (oi := ⟨some 44, _, _, _, _, _⟩) (v := undef) rfl (by kernel_rfl) (by kernel_rfl) (by kernel_rfl) (fun _ _ _ h => h) (Or.inr ⟨by rfl, rfl⟩) hHeld1 ?_
            try simp only [Act.put, List.setIfInBounds_toArray, List.set_cons_zero, List.set_cons_succ]
            refine wpAnyH_take (i := 15) (oi := ⟨some 45, _, _, _, _, _⟩) (v := undef) rfl (by kernel_rfl) (by kernel_rfl) (by kernel_rfl) (fun _ _ _ h => h) (Or.inr ⟨by rfl, rfl⟩) hHeld1 ?_
            try simp only [Act.put, List.setIfInBounds_toArray, List.set_cons_zero, List.set_cons_succ]
            refine wpAnyH_take (i := 16) (oi := ⟨some 46, _, _, _, _, _⟩) (v := undef) rfl (by kernel_rfl) (by kernel_rfl) (by kernel_rfl) (fun _ _ _ h => h) (Or.inr ⟨by rfl, rfl⟩) hHeld1 ?_
            try simp only [Act.put, List.setIfInBounds_toArray, List.set_cons_zero, List.set_cons_succ]
            refine wpAnyH_take (i := 17) (oi := ⟨some 47, _, _, _, _, _⟩) (v := undef) rfl (by kernel_rfl) (by kernel_rfl) (by kernel_rfl) (fun _ _ _ h => h) (Or.inr ⟨by rfl, rfl⟩) hHeld1 ?_
            try simp only [Act.put, List.setIfInBounds_toArray, List.set_cons_zero, List.set_cons_succ]
            refine wpAnyH_take (i := 18) (oi := ⟨some 48, _, _, _, _, _⟩) (v := undef) rfl (by kernel_rfl) (by kernel_rfl) (by kernel_rfl) (fun _ _ _ h => h) (Or.inr ⟨by rfl, rfl⟩) hHeld1 ?_
            try simp only [Act.put, List.setIfInBounds_toArray, List.set_cons_zero, List.set_cons_succ]
            refine wpAnyH_take (i := 19) (oi := ⟨some 49, _, _, _, _, _⟩) (v := undef) rfl (by kernel_rfl) (by kernel_rfl) (by kernel_rfl) (fun _ _ _ h => h) (Or.inr ⟨by rfl, rfl⟩) hHeld1 ?_
            try simp only [Act.put, List.setIfInBounds_toArray, List.set_cons_zero, List.set_cons_succ]
            refine wpAnyH_take (i := 20) (oi := ⟨some 50, _, _, _, _, _⟩) (v := undef) rfl (by kernel_rfl) (by kernel_rfl) (by kernel_rfl) (fun _ _ _ h => h) (Or.inr ⟨by rfl, rfl⟩) hHeld1 ?_
            try simp only [Act.put, List.setIfInBounds_toArray, List.set_cons_zero, List.set_cons_succ]
            refine wpAnyH_take (i := 21) (oi := ⟨some 51, _, _, _, _, _⟩) (v := ?_) rfl (by kernel_rfl) (by kernel_rfl) (by kernel_rfl) (fun _ _ _ h => h) (Or.inl ⟨by rfl, ?_⟩) hHeld1 ?_
            rotate_left
            · (intro w' hSw; (try dsimp only at hSw); go_simp; all_goals (with_reducible rfl))
            try simp only [Act.put, List.setIfInBounds_toArray, List.set_cons_zero, List.set_cons_succ]
            refine wpAnyH_take (i := 22) (oi := ⟨some 52, _, _, _, _, _⟩) (v := ?_) rfl (by kernel_rfl) (by kernel_rfl) (by kernel_rfl) (fun _ _ _ h => h) (Or.inl ⟨by rfl, ?_⟩) hHeld1 ?_
            rotate_left
            · (intro w' hSw; (try dsimp only at hSw); go_simp; all_goals (with_reducible rfl))
            try simp only [Act.put, List.setIfInBounds_toArray, List.set_cons_zero, List.set_cons_succ]
            refine wpAnyH_take (i := 23) (oi := ⟨some 53, _, _, _, _, _⟩) (v := ?_) rfl (by kernel_rfl) (by kernel_rfl) (by kernel_rfl) (fun _ _ _ h => h) (Or.inl ⟨by rfl, ?_⟩) hHeld1 ?_
            rotate_left
            · (intro w' hSw; (try dsimp only at hSw); go_simp; all_goals (with_reducible rfl))
            try simp only [Act.put, List.setIfInBounds_toArray, List.set_cons_zero, List.set_cons_succ]
            refine wpAnyH_take (i := 24) (oi := ⟨some 54, _, _, _, _, _⟩) (v := ?_) rfl (by kernel_rfl) (by kernel_rfl) (by kernel_rfl) (fun _ _ _ h => h) (Or.inl ⟨by rfl, ?_⟩) hHeld1 ?_
            rotate_left
            · (intro w' hSw; (try dsimp only at hSw); go_simp; all_goals (with_reducible rfl))
            try simp only [Act.put, List.setIfInBounds_toArray, List.set_cons_zero, List.set_cons_succ]
            refine wpAnyH_take (i := 25) (oi := ⟨some 55, _, _, _, _, _⟩) (v := ?_) rfl (by kernel_rfl) (by kernel_rfl) (by kernel_rfl) (fun _ _ _ h => h) (Or.inl ⟨by rfl, ?_⟩) hHeld1 ?_
            rotate_left
            · (intro w' hSw; (try dsimp only at hSw); go_simp; all_goals (with_reducible rfl))
            try simp only [Act.put, List.setIfInBounds_toArray, List.set_cons_zero, List.set_cons_succ]
            refine wpAnyH_take (i := 28) (oi := ⟨some 58, _, _, _, _, _⟩) (v := ?_) rfl (by kernel_rfl) (by kernel_rfl) (by kernel_rfl) (fun _ _ _ h => h) (Or.inl ⟨by rfl, ?_⟩) hHeld1 ?_
            rotate_left
            · (intro w' hSw; (try dsimp only at hSw); go_simp; all_goals (with_reducible rfl))
            try simp only [Act.put, List.setIfInBounds_toArray, List.set_cons_zero, List.set_cons_succ]
            refine wpAnyH_take (i := 30) (oi := ⟨some 60, _, _, _, _, _⟩) (v := ?_) rfl (by kernel_rfl) (by kernel_rfl) (by kernel_rfl) (fun _ _ _ h => h) (Or.inl ⟨by rfl, ?_⟩) hHeld1 ?_
            rotate_left
            · (intro w' hSw; (try dsimp only at hSw); go_simp; all_goals (with_reducible rfl))
            try simp only [Act.put, List.setIfInBounds_toArray, List.set_cons_zero, List.set_cons_succ]
            refine wpAnyH_ready (rs := [26]) (by kernel_rfl) (by simp) (AllReadyH.cons (o := ⟨some 56, _, _, _, _, _⟩) rfl (fun K hK => ?_) AllReadyH.nil)
            go_simp
            refine (sjoin_any ⟨⟨g0, e0, l0⟩, A0, n0, c0⟩ ⟨⟨g1, e1, l1⟩, A1, n1, c1⟩ _ R0 R1 (by show n0 ≤ _; omega) (by show n1 ≤ _; omega) (S.right_rise HR0.out) (S.right_rise HR1.out)).mono ?_
            rintro e w9 ⟨⟨sj, Aj, nj, cj⟩, rfl, hs, hown, hb⟩
            simp only at hs
            have Hj : Hid (sj = S.join ⟨g0, e0, l0⟩ ⟨g1, e1, l1⟩) := Lib.hid hs
            have Rj := hown.srd
            have bdj : nj ≤ n0 + n1 := by have hq := Rj.len; have := HL0.out; have := HL1.out; have := join_apps_length ⟨g0, e0, l0⟩ ⟨g1, e1, l1⟩; rw [Hj.out] at hq; (try simp only at *); omega
            clear hs hown
            replace R0 := R0.belowH hb
            replace R1 := R1.belowH hb
            replace X := X.belowH hb
            replace Y := Y.belowH hb
            replace b := b.trans (hb.mono b.size)
            clear hb
            simp only [sv]
            go_simp
            refine hK.out _ _ (by exact ⟨⟨X.at 0 rfl, X.at 1 rfl, X.at 2 rfl⟩, ⟨Y.at 0 rfl, Y.at 1 rfl, Y.at 2 rfl⟩⟩) (fun hHeld2 => ?_)
            clear hK hHeld1 K
            try simp only [Act.put, List.setIfInBounds_toArray, List.set_cons_zero, List.set_cons_succ]
            refine wpAnyH_ready (rs := [27]) (by kernel_rfl) (by simp) (AllReadyH.cons (o := ⟨some 57, _, _, _, _, _⟩) rfl (fun K hK => ?_) AllReadyH.nil)
            go_simp
            refine (stop_any ⟨sj, Aj, nj, cj⟩  _ Rj (by show nj * 32 ≤ _; omega)).mono ?_
            rintro e w10 ⟨rfl, hb⟩
            replace R0 := R0.belowH hb
            replace R1 := R1.belowH hb
            replace Rj := Rj.belowH hb
            replace X := X.belowH hb
            replace Y := Y.belowH hb
            replace b := b.trans (hb.mono b.size)
            clear hb
            go_simp
            refine hK.out _ _ (by exact ⟨⟨X.at 0 rfl, X.at 1 rfl, X.at 2 rfl⟩, ⟨Y.at 0 rfl, Y.at 1 rfl, Y.at 2 rfl⟩⟩) (fun hHeld3 => ?_)
            clear hK hHeld2 K
            try simp only [Act.put, List.setIfInBounds_toArray, List.set_cons_zero, List.set_cons_succ]
            refine wpAnyH_ready (rs := [29]) (by kernel_rfl) (by simp) (AllReadyH.cons (o := ⟨some 59, _, _, _, _, _⟩) rfl (fun K hK => ?_) AllReadyH.nil)
            go_simp
            refine (stop_any ⟨⟨g0, e0, l0⟩, A0, n0, c0⟩  _ R0 (by show n0 * 32 ≤ _; omega)).mono ?_
            rintro e w11 ⟨rfl, hb⟩
            replace R0 := R0.belowH hb
            replace R1 := R1.belowH hb
            replace Rj := Rj.belowH hb
            replace X := X.belowH hb
            replace Y := Y.belowH hb
            replace b := b.trans (hb.mono b.size)
            clear hb
            go_simp
            refine hK.out _ _ (by exact ⟨⟨X.at 0 rfl, X.at 1 rfl, X.at 2 rfl⟩, ⟨Y.at 0 rfl, Y.at 1 rfl, Y.at 2 rfl⟩⟩) (fun hHeld4 => ?_)
            clear hK hHeld3 K
            try simp only [Act.put, List.setIfInBounds_toArray, List.set_cons_zero, List.set_cons_succ]
            refine wpAnyH_ready (rs := [31]) (by kernel_rfl) (by simp) (AllReadyH.cons (o := ⟨some 61, _, _, _, _, _⟩) rfl (fun K hK => ?_) AllReadyH.nil)
            go_simp
            refine (stop_any ⟨⟨g1, e1, l1⟩, A1, n1, c1⟩  _ R1 (by show n1 * 32 ≤ _; omega)).mono ?_
            rintro e w12 ⟨rfl, hb⟩
            replace R0 := R0.belowH hb
            replace R1 := R1.belowH hb
            replace Rj := Rj.belowH hb
            replace X := X.belowH hb
            replace Y := Y.belowH hb
            replace b := b.trans (hb.mono b.size)
            clear hb
            go_simp
            refine hK.out _ _ (by exact ⟨⟨X.at 0 rfl, X.at 1 rfl, X.at 2 rfl⟩, ⟨Y.at 0 rfl, Y.at 1 rfl, Y.at 2 rfl⟩⟩) (fun hHeld5 => ?_)
            clear hK hHeld4 K
            try simp only [Act.put, List.setIfInBounds_toArray, List.set_cons_zero, List.set_cons_succ]
            refine wpAnyH_take (i := 32) (oi := ⟨some 62, _, _, _, _, _⟩) (v := ?_) rfl (by kernel_rfl) (by kernel_rfl) (by kernel_rfl) (fun _ _ _ h => h) (Or.inl ⟨by rfl, ?_⟩) hHeld5 ?_
            rotate_left
            · (intro w' hSw; (try dsimp only at hSw); go_simp; all_goals (with_reducible rfl))
            try simp only [Act.put, List.setIfInBounds_toArray, List.set_cons_zero, List.set_cons_succ]
            refine wpAnyH_take (i := 33) (oi := ⟨some 63, _, _, _, _, _⟩) (v := ?_) rfl (by kernel_rfl) (by kernel_rfl) (by kernel_rfl) (fun _ _ _ h => h) (Or.inl ⟨by rfl, ?_⟩) hHeld5 ?_
            rotate_left
            · (intro w' hSw; (try dsimp only at hSw); go_simp; all_goals (with_reducible rfl))
            try simp only [Act.put, List.setIfInBounds_toArray, List.set_cons_zero, List.set_cons_succ]
            refine wpAnyH_take (i := 34) (oi := ⟨some 64, _, _, _, _, _⟩) (v := ?_) rfl (by kernel_rfl) (by kernel_rfl) (by kernel_rfl) (fun _ _ _ h => h) (Or.inl ⟨by rfl, ?_⟩) hHeld5 ?_
            rotate_left
            · (intro w' hSw; (try dsimp only at hSw); go_simp; all_goals (with_reducible rfl))
            try simp only [Act.put, List.setIfInBounds_toArray, List.set_cons_zero, List.set_cons_succ]
            refine wpAnyH_take (i := 35) (oi := ⟨some 4, _, _, _, _, _⟩) (v := ?_) rfl (by kernel_rfl) (by kernel_rfl) (by kernel_rfl) (fun _ _ _ h => h) (Or.inl ⟨by rfl, ?_⟩) hHeld5 ?_
            rotate_left
            · (intro w' hSw; (try dsimp only at hSw); go_simp; all_goals (with_reducible rfl))
            try simp only [Act.put, List.setIfInBounds_toArray, List.set_cons_zero, List.set_cons_succ]
            refine wpAnyH_done (by kernel_rfl) ?_ _
            go_wp2
            all_goals
              go_ret
              refine ⟨ret_bool ?_, b⟩
              have hge := S.top_join_ge (S.right_rise HR0.out) (S.right_rise HR1.out)
              rw [← Hj.out] at hge
              exact decide_eq_true (by omega)
  · go_wp2
    go_ret
    exact ⟨rfl, b⟩
end Go.Proofs.Ytfpfpepejocjfaa
