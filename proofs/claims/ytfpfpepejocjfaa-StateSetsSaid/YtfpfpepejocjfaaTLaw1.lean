/- StateAsks walks. -/
import Derived.Test.YtfpfpepejocjfaaTAlive
namespace Go.Proofs.Ytfpfpepejocjfaa
set_option linter.unusedVariables false
set_option linter.unusedSimpArgs false
open Go.RowKit

theorem sameB_yes {a b : St} (h : a = b) : sameB a b = true := decide_eq_true h

set_option maxHeartbeats 8000000 in
set_option maxRecDepth 100000 in
theorem law_StateAsks (v0 : Sv) (v1 : Sv) (a2 : Int) (W : World) (t0 : SIn W v0) (t1 : SIn W v1) (t2 : (Lit.int .i64 a2).wf = true) :
    Calls Try.prog 3 #[sv v0, sv v1, .int .i64 a2] W fun e w' => e = .returned (.bool true) ∧ Below W.heap.size W w' := by
  obtain ⟨⟨g0, e0, l0⟩, A0, n0, c0⟩ := v0
  obtain ⟨R0, hn0, hv0, _, _⟩ := t0
  simp only at hn0 hv0
  have HL0 := Lib.hid R0.len
  have HV0 := Lib.hid hv0
  clear hv0
  obtain ⟨⟨g1, e1, l1⟩, A1, n1, c1⟩ := v1
  obtain ⟨R1, hn1, hv1, _, _⟩ := t1
  simp only at hn1 hv1
  have HL1 := Lib.hid R1.len
  have HV1 := Lib.hid hv1
  clear hv1
  simp only [sv]
  have b := Below.refl W.heap.size W
  replace R0 := R0.allocH (.cells #[.int .i64 g0, .int .i64 e0, .slice A0 n0 c0] 24)
  replace R1 := R1.allocH (.cells #[.int .i64 g0, .int .i64 e0, .slice A0 n0 c0] 24)
  have X := Box.new (W) #[.int .i64 g0, .int .i64 e0, .slice A0 n0 c0] 24
  replace b := b.alloc b.size (.cells #[.int .i64 g0, .int .i64 e0, .slice A0 n0 c0] 24)
  replace R0 := R0.allocH (.cells #[.int .i64 g1, .int .i64 e1, .slice A1 n1 c1] 24)
  replace R1 := R1.allocH (.cells #[.int .i64 g1, .int .i64 e1, .slice A1 n1 c1] 24)
  replace X := X.alloc (.cells #[.int .i64 g1, .int .i64 e1, .slice A1 n1 c1] 24)
  have Y := Box.new (W.alloc (.cells #[.int .i64 g0, .int .i64 e0, .slice A0 n0 c0] 24)) #[.int .i64 g1, .int .i64 e1, .slice A1 n1 c1] 24
  replace b := b.alloc b.size (.cells #[.int .i64 g1, .int .i64 e1, .slice A1 n1 c1] 24)
  rw [show (W.alloc (.cells #[.int .i64 g0, .int .i64 e0, .slice A0 n0 c0] 24)).heap.size = W.heap.size + 1 by simp] at Y
  go_enter Try.func3, Try.ntmps3
  go_wp2_with fail
  refine (alive_any _).mono ?_
  rintro e w2 ⟨rfl, hb⟩
  replace R0 := R0.belowH hb
  replace R1 := R1.belowH hb
  replace X := X.belowH hb
  replace Y := Y.belowH hb
  replace b := b.trans (hb.mono b.size)
  clear hb
  have x0 := X.at 0 rfl
  have x1 := X.at 1 rfl
  have x2 := X.at 2 rfl
  have y0 := Y.at 0 rfl
  have y1 := Y.at 1 rfl
  have y2 := Y.at 2 rfl
  have LR := Rd.lit w2 #[.int .i64 g0, .int .i64 e0, .slice A0 n0 c0, .int .i64 g1, .int .i64 e1, .slice A1 n1 c1] 24 3 2 rfl
  replace R0 := R0.allocH (.cells #[.int .i64 g0, .int .i64 e0, .slice A0 n0 c0, .int .i64 g1, .int .i64 e1, .slice A1 n1 c1] 24)
  replace R1 := R1.allocH (.cells #[.int .i64 g0, .int .i64 e0, .slice A0 n0 c0, .int .i64 g1, .int .i64 e1, .slice A1 n1 c1] 24)
  replace X := X.alloc (.cells #[.int .i64 g0, .int .i64 e0, .slice A0 n0 c0, .int .i64 g1, .int .i64 e1, .slice A1 n1 c1] 24)
  replace Y := Y.alloc (.cells #[.int .i64 g0, .int .i64 e0, .slice A0 n0 c0, .int .i64 g1, .int .i64 e1, .slice A1 n1 c1] 24)
  have LB := Box.new w2 #[.int .i64 g0, .int .i64 e0, .slice A0 n0 c0, .int .i64 g1, .int .i64 e1, .slice A1 n1 c1] 24
  replace b := b.alloc b.size (.cells #[.int .i64 g0, .int .i64 e0, .slice A0 n0 c0, .int .i64 g1, .int .i64 e1, .slice A1 n1 c1] 24)
  clear LB
  go_wp2_with fail
  refine (greats_any [⟨⟨g0, e0, l0⟩, A0, n0, c0⟩, ⟨⟨g1, e1, l1⟩, A1, n1, c1⟩] _ 2 2 _ _ LR (by simp) (by omega) (fun v hv => by simp at hv; rcases hv with rfl | rfl <;> first | exact ⟨R0, hn0, HV0.out⟩ | exact ⟨R1, hn1, HV1.out⟩)).mono ?_
  rintro e w3 ⟨rfl, hb⟩
  replace R0 := R0.belowH hb
  replace R1 := R1.belowH hb
  replace X := X.belowH hb
  replace Y := Y.belowH hb
  replace b := b.trans (hb.mono b.size)
  clear hb
  clear LR
  clear x0 x1 x2
  clear y0 y1 y2
  rcases hgr : greats [⟨⟨g0, e0, l0⟩, A0, n0, c0⟩, ⟨⟨g1, e1, l1⟩, A1, n1, c1⟩]
  · skip
    simp only [greats, List.any_cons, List.any_nil, Bool.or_false, Bool.or_eq_false_iff] at hgr
    have hs0 := great_small hgr.1 HL0.out
    have hs1 := great_small hgr.2 HL1.out
    clear hgr
    go_wp2
    replace R0 := R0.drewH
    replace R1 := R1.drewH
    replace X := X.drew
    replace Y := Y.drew
    replace b := b.drew
    refine wp_region_held_drew (S := (fun w' => (w'.cell? ⟨W.heap.size, 0, none⟩ = some (.int .i64 g0) ∧ w'.cell? ⟨W.heap.size, 1, none⟩ = some (.int .i64 e0) ∧ w'.cell? ⟨W.heap.size, 2, none⟩ = some (.slice A0 n0 c0)) ∧ (w'.cell? ⟨W.heap.size + 1, 0, none⟩ = some (.int .i64 g1) ∧ w'.cell? ⟨W.heap.size + 1, 1, none⟩ = some (.int .i64 e1) ∧ w'.cell? ⟨W.heap.size + 1, 2, none⟩ = some (.slice A1 n1 c1)))) (by kernel_rfl) (by exact ⟨⟨X.at 0 rfl, X.at 1 rfl, X.at 2 rfl⟩, ⟨Y.at 0 rfl, Y.at 1 rfl, Y.at 2 rfl⟩⟩) (fun hHeld0 => ?_)
    refine wpAnyH_take (i := 0) (oi := ⟨some 13, _, _, _, _, _⟩) (v := ?_) rfl (by kernel_rfl) (by kernel_rfl) (by kernel_rfl) (fun _ _ _ h => h) (Or.inl ⟨by rfl, ?_⟩) hHeld0 ?_
    rotate_left
    · (intro w' hSw; (try dsimp only at hSw); go_simp; all_goals (with_reducible rfl))
    try simp only [Act.put, List.setIfInBounds_toArray, List.set_cons_zero, List.set_cons_succ]
    refine wpAnyH_take (i := 2) (oi := ⟨some 15, _, _, _, _, _⟩) (v := ?_) rfl (by kernel_rfl) (by kernel_rfl) (by kernel_rfl) (fun _ _ _ h => h) (Or.inl ⟨by rfl, ?_⟩) hHeld0 ?_
    rotate_left
    · (intro w' hSw; (try dsimp only at hSw); go_simp; all_goals (with_reducible rfl))
    try simp only [Act.put, List.setIfInBounds_toArray, List.set_cons_zero, List.set_cons_succ]
    refine wpAnyH_ready (rs := [1]) (by kernel_rfl) (by simp) (AllReadyH.cons (o := ⟨some 14, _, _, _, _, _⟩) rfl (fun K hK => ?_) AllReadyH.nil)
    go_simp
    refine (sright_any ⟨⟨g0, e0, l0⟩, A0, n0, c0⟩  _ R0 (by show n0 * 32 ≤ _; omega)).mono ?_
    rintro e w4 ⟨rfl, hb⟩
    replace R0 := R0.belowH hb
    replace R1 := R1.belowH hb
    replace X := X.belowH hb
    replace Y := Y.belowH hb
    replace b := b.trans (hb.mono b.size)
    clear hb
    go_simp
    refine hK.out _ _ (by exact ⟨⟨X.at 0 rfl, X.at 1 rfl, X.at 2 rfl⟩, ⟨Y.at 0 rfl, Y.at 1 rfl, Y.at 2 rfl⟩⟩) (fun hHeld1 => ?_)
    clear hK hHeld0 K
    try simp only [Act.put, List.setIfInBounds_toArray, List.set_cons_zero, List.set_cons_succ]
    refine wpAnyH_ready (rs := [3]) (by kernel_rfl) (by simp) (AllReadyH.cons (o := ⟨some 16, _, _, _, _, _⟩) rfl (fun K hK => ?_) AllReadyH.nil)
    go_simp
    refine (rsright_any ⟨⟨g0, e0, l0⟩, A0, n0, c0⟩  _ R0 (by show n0 * 32 ≤ _; omega)).mono ?_
    rintro e w5 ⟨rfl, hb⟩
    replace R0 := R0.belowH hb
    replace R1 := R1.belowH hb
    replace X := X.belowH hb
    replace Y := Y.belowH hb
    replace b := b.trans (hb.mono b.size)
    clear hb
    go_simp
    refine hK.out _ _ (by exact ⟨⟨X.at 0 rfl, X.at 1 rfl, X.at 2 rfl⟩, ⟨Y.at 0 rfl, Y.at 1 rfl, Y.at 2 rfl⟩⟩) (fun hHeld2 => ?_)
    clear hK hHeld1 K
    try simp only [Act.put, List.setIfInBounds_toArray, List.set_cons_zero, List.set_cons_succ]
    refine wpAnyH_take (i := 4) (oi := ⟨some 17, _, _, _, _, _⟩) (v := ?_) rfl (by kernel_rfl) (by kernel_rfl) (by kernel_rfl) (fun _ _ _ h => h) (Or.inl ⟨by rfl, ?_⟩) hHeld2 ?_
    rotate_left
    · (intro w' hSw; (try dsimp only at hSw); go_simp; all_goals (with_reducible rfl))
    try simp only [Act.put, List.setIfInBounds_toArray, List.set_cons_zero, List.set_cons_succ]
    refine wpAnyH_take (i := 5) (oi := ⟨some 18, _, _, _, _, _⟩) (v := ?_) rfl (by kernel_rfl) (by kernel_rfl) (by kernel_rfl) (fun _ _ _ h => h) (Or.inl ⟨by rfl, ?_⟩) hHeld2 ?_
    rotate_left
    · (intro w' hSw; (try dsimp only at hSw); go_simp; all_goals (with_reducible rfl))
    try simp only [Act.put, List.setIfInBounds_toArray, List.set_cons_zero, List.set_cons_succ]
    refine wpAnyH_take (i := 6) (oi := ⟨some 19, _, _, _, _, _⟩) (v := ?_) rfl (by kernel_rfl) (by kernel_rfl) (by kernel_rfl) (fun _ _ _ h => h) (Or.inl ⟨by rfl, ?_⟩) hHeld2 ?_
    rotate_left
    · (intro w' hSw; (try dsimp only at hSw); go_simp; all_goals (with_reducible rfl))
    try simp only [Act.put, List.setIfInBounds_toArray, List.set_cons_zero, List.set_cons_succ]
    refine wpAnyH_take (i := 8) (oi := ⟨some 21, _, _, _, _, _⟩) (v := ?_) rfl (by kernel_rfl) (by kernel_rfl) (by kernel_rfl) (fun _ _ _ h => h) (Or.inl ⟨by rfl, ?_⟩) hHeld2 ?_
    rotate_left
    · (intro w' hSw; (try dsimp only at hSw); go_simp; all_goals (with_reducible rfl))
    try simp only [Act.put, List.setIfInBounds_toArray, List.set_cons_zero, List.set_cons_succ]
    refine wpAnyH_ready (rs := [7]) (by kernel_rfl) (by simp) (AllReadyH.cons (o := ⟨some 20, _, _, _, _, _⟩) rfl (fun K hK => ?_) AllReadyH.nil)
    go_simp
    refine (stop_any ⟨⟨g0, e0, l0⟩, A0, n0, c0⟩  _ R0 (by show n0 * 32 ≤ _; omega)).mono ?_
    rintro e w6 ⟨rfl, hb⟩
    replace R0 := R0.belowH hb
    replace R1 := R1.belowH hb
    replace X := X.belowH hb
    replace Y := Y.belowH hb
    replace b := b.trans (hb.mono b.size)
    clear hb
    go_simp
    refine hK.out _ _ (by exact ⟨⟨X.at 0 rfl, X.at 1 rfl, X.at 2 rfl⟩, ⟨Y.at 0 rfl, Y.at 1 rfl, Y.at 2 rfl⟩⟩) (fun hHeld3 => ?_)
    clear hK hHeld2 K
    try simp only [Act.put, List.setIfInBounds_toArray, List.set_cons_zero, List.set_cons_succ]
    refine wpAnyH_ready (rs := [9]) (by kernel_rfl) (by simp) (AllReadyH.cons (o := ⟨some 22, _, _, _, _, _⟩) rfl (fun K hK => ?_) AllReadyH.nil)
    go_simp
    refine (rstop_any ⟨⟨g0, e0, l0⟩, A0, n0, c0⟩  _ R0 (by show n0 * 32 ≤ _; omega)).mono ?_
    rintro e w7 ⟨rfl, hb⟩
    replace R0 := R0.belowH hb
    replace R1 := R1.belowH hb
    replace X := X.belowH hb
    replace Y := Y.belowH hb
    replace b := b.trans (hb.mono b.size)
    clear hb
    go_simp
    refine hK.out _ _ (by exact ⟨⟨X.at 0 rfl, X.at 1 rfl, X.at 2 rfl⟩, ⟨Y.at 0 rfl, Y.at 1 rfl, Y.at 2 rfl⟩⟩) (fun hHeld4 => ?_)
    clear hK hHeld3 K
    try simp only [Act.put, List.setIfInBounds_toArray, List.set_cons_zero, List.set_cons_succ]
    refine wpAnyH_take (i := 10) (oi := ⟨some 23, _, _, _, _, _⟩) (v := ?_) rfl (by kernel_rfl) (by kernel_rfl) (by kernel_rfl) (fun _ _ _ h => h) (Or.inl ⟨by rfl, ?_⟩) hHeld4 ?_
    rotate_left
    · (intro w' hSw; (try dsimp only at hSw); go_simp; all_goals (with_reducible rfl))
    try simp only [Act.put, List.setIfInBounds_toArray, List.set_cons_zero, List.set_cons_succ]
    refine wpAnyH_take (i := 11) (oi := ⟨some 24, _, _, _, _, _⟩) (v := ?_) rfl (by kernel_rfl) (by kernel_rfl) (by kernel_rfl) (fun _ _ _ h => h) (Or.inl ⟨by rfl, ?_⟩) hHeld4 ?_
    rotate_left
    · (intro w' hSw; (try dsimp only at hSw); go_simp; all_goals (with_reducible rfl))
    try simp only [Act.put, List.setIfInBounds_toArray, List.set_cons_zero, List.set_cons_succ]
    refine wpAnyH_take (i := 12) (oi := ⟨some 25, _, _, _, _, _⟩) (v := ?_) rfl (by kernel_rfl) (by kernel_rfl) (by kernel_rfl) (fun _ _ _ h => h) (Or.inl ⟨by rfl, ?_⟩) hHeld4 ?_
    rotate_left
    · (intro w' hSw; (try dsimp only at hSw); go_simp; all_goals (with_reducible rfl))
    try simp only [Act.put, List.setIfInBounds_toArray, List.set_cons_zero, List.set_cons_succ]
    refine wpAnyH_take (i := 13) (oi := ⟨some 26, _, _, _, _, _⟩) (v := ?_) rfl (by kernel_rfl) (by kernel_rfl) (by kernel_rfl) (fun _ _ _ h => h) (Or.inl ⟨by rfl, ?_⟩) hHeld4 ?_
    rotate_left
    · (intro w' hSw; (try dsimp only at hSw); go_simp; all_goals (with_reducible rfl))
    try simp only [Act.put, List.setIfInBounds_toArray, List.set_cons_zero, List.set_cons_succ]
    refine wpAnyH_take (i := 14) (oi := ⟨some 27, _, _, _, _, _⟩) (v := ?_) rfl (by kernel_rfl) (by kernel_rfl) (by kernel_rfl) (fun _ _ _ h => h) (Or.inl ⟨by rfl, ?_⟩) hHeld4 ?_
    rotate_left
    · (intro w' hSw; (try dsimp only at hSw); go_simp; all_goals (with_reducible rfl))
    try simp only [Act.put, List.setIfInBounds_toArray, List.set_cons_zero, List.set_cons_succ]
    refine wpAnyH_take (i := 16) (oi := ⟨some 29, _, _, _, _, _⟩) (v := ?_) rfl (by kernel_rfl) (by kernel_rfl) (by kernel_rfl) (fun _ _ _ h => h) (Or.inl ⟨by rfl, ?_⟩) hHeld4 ?_
    rotate_left
    · (intro w' hSw; (try dsimp only at hSw); go_simp; all_goals (with_reducible rfl))
    try simp only [Act.put, List.setIfInBounds_toArray, List.set_cons_zero, List.set_cons_succ]
    refine wpAnyH_take (i := 17) (oi := ⟨some 30, _, _, _, _, _⟩) (v := ?_) rfl (by kernel_rfl) (by kernel_rfl) (by kernel_rfl) (fun _ _ _ h => h) (Or.inl ⟨by rfl, ?_⟩) hHeld4 ?_
    rotate_left
    · (intro w' hSw; (try dsimp only at hSw); go_simp; all_goals (with_reducible rfl))
    try simp only [Act.put, List.setIfInBounds_toArray, List.set_cons_zero, List.set_cons_succ]
    refine wpAnyH_ready (rs := [15]) (by kernel_rfl) (by simp) (AllReadyH.cons (o := ⟨some 28, _, _, _, _, _⟩) rfl (fun K hK => ?_) AllReadyH.nil)
    go_simp
    refine (ssame_any ⟨⟨g0, e0, l0⟩, A0, n0, c0⟩ ⟨⟨g1, e1, l1⟩, A1, n1, c1⟩ _ R0 R1 (by show n0 * 32 ≤ _; omega) (by show n1 * 32 ≤ _; omega)).mono ?_
    rintro e w8 ⟨rfl, hb⟩
    replace R0 := R0.belowH hb
    replace R1 := R1.belowH hb
    replace X := X.belowH hb
    replace Y := Y.belowH hb
    replace b := b.trans (hb.mono b.size)
    clear hb
    go_simp
    refine hK.out _ _ (by exact ⟨⟨X.at 0 rfl, X.at 1 rfl, X.at 2 rfl⟩, ⟨Y.at 0 rfl, Y.at 1 rfl, Y.at 2 rfl⟩⟩) (fun hHeld5 => ?_)
    clear hK hHeld4 K
    try simp only [Act.put, List.setIfInBounds_toArray, List.set_cons_zero, List.set_cons_succ]
    refine wpAnyH_ready (rs := [18]) (by kernel_rfl) (by simp) (AllReadyH.cons (o := ⟨some 31, _, _, _, _, _⟩) rfl (fun K hK => ?_) AllReadyH.nil)
    go_simp
    refine (rssame_any ⟨⟨g0, e0, l0⟩, A0, n0, c0⟩ ⟨⟨g1, e1, l1⟩, A1, n1, c1⟩ _ R0 R1 (by show n0 * 32 ≤ _; omega) (by show n1 * 32 ≤ _; omega)).mono ?_
    rintro e w9 ⟨rfl, hb⟩
    replace R0 := R0.belowH hb
    replace R1 := R1.belowH hb
    replace X := X.belowH hb
    replace Y := Y.belowH hb
    replace b := b.trans (hb.mono b.size)
    clear hb
    go_simp
    refine hK.out _ _ (by exact ⟨⟨X.at 0 rfl, X.at 1 rfl, X.at 2 rfl⟩, ⟨Y.at 0 rfl, Y.at 1 rfl, Y.at 2 rfl⟩⟩) (fun hHeld6 => ?_)
    clear hK hHeld5 K
    try simp only [Act.put, List.setIfInBounds_toArray, List.set_cons_zero, List.set_cons_succ]
    refine wpAnyH_take (i := 19) (oi := ⟨some 32, _, _, _, _, _⟩) (v := ?_) rfl (by kernel_rfl) (by kernel_rfl) (by kernel_rfl) (fun _ _ _ h => h) (Or.inl ⟨by rfl, ?_⟩) hHeld6 ?_
    rotate_left
    · (intro w' hSw; (try dsimp only at hSw); go_simp; all_goals (with_reducible rfl))
    try simp only [Act.put, List.setIfInBounds_toArray, List.set_cons_zero, List.set_cons_succ]
    refine wpAnyH_take (i := 20) (oi := ⟨some 33, _, _, _, _, _⟩) (v := ?_) rfl (by kernel_rfl) (by kernel_rfl) (by kernel_rfl) (fun _ _ _ h => h) (Or.inl ⟨by rfl, ?_⟩) hHeld6 ?_
    rotate_left
    · (intro w' hSw; (try dsimp only at hSw); go_simp; all_goals (with_reducible rfl))
    try simp only [Act.put, List.setIfInBounds_toArray, List.set_cons_zero, List.set_cons_succ]
    refine wpAnyH_take (i := 21) (oi := ⟨some 34, _, _, _, _, _⟩) (v := ?_) rfl (by kernel_rfl) (by kernel_rfl) (by kernel_rfl) (fun _ _ _ h => h) (Or.inl ⟨by rfl, ?_⟩) hHeld6 ?_
    rotate_left
    · (intro w' hSw; (try dsimp only at hSw); go_simp; all_goals (with_reducible rfl))
    try simp only [Act.put, List.setIfInBounds_toArray, List.set_cons_zero, List.set_cons_succ]
    refine wpAnyH_take (i := 22) (oi := ⟨some 35, _, _, _, _, _⟩) (v := ?_) rfl (by kernel_rfl) (by kernel_rfl) (by kernel_rfl) (fun _ _ _ h => h) (Or.inl ⟨by rfl, ?_⟩) hHeld6 ?_
    rotate_left
    · (intro w' hSw; (try dsimp only at hSw); go_simp; all_goals (with_reducible rfl))
    try simp only [Act.put, List.setIfInBounds_toArray, List.set_cons_zero, List.set_cons_succ]
    refine wpAnyH_take (i := 24) (oi := ⟨some 37, _, _, _, _, _⟩) (v := ?_) rfl (by kernel_rfl) (by kernel_rfl) (by kernel_rfl) (fun _ _ _ h => h) (Or.inl ⟨by rfl, ?_⟩) hHeld6 ?_
    rotate_left
    · (intro w' hSw; (try dsimp only at hSw); go_simp; all_goals (with_reducible rfl))
    try simp only [Act.put, List.setIfInBounds_toArray, List.set_cons_zero, List.set_cons_succ]
    refine wpAnyH_ready (rs := [23]) (by kernel_rfl) (by simp) (AllReadyH.cons (o := ⟨some 36, _, _, _, _, _⟩) rfl (fun K hK => ?_) AllReadyH.nil)
    go_simp
    refine (scopy_any ⟨⟨g0, e0, l0⟩, A0, n0, c0⟩  _ R0 (by show n0 ≤ _; omega)).mono ?_
    rintro e w10 ⟨⟨sp, Ap, np, cp⟩, rfl, hs, hown, hb⟩
    simp only at hs
    have Hp : Hid (sp = ⟨g0, e0, l0⟩) := Lib.hid hs
    have Rp := hown.srd
    have bdp : np ≤ n0 := by have hq := Rp.len; have := HL0.out; rw [Hp.out] at hq; (try simp only at *); omega
    clear hs hown
    replace R0 := R0.belowH hb
    replace R1 := R1.belowH hb
    replace X := X.belowH hb
    replace Y := Y.belowH hb
    replace b := b.trans (hb.mono b.size)
    clear hb
    simp only [sv]
    go_simp
    refine hK.out _ _ (by exact ⟨⟨X.at 0 rfl, X.at 1 rfl, X.at 2 rfl⟩, ⟨Y.at 0 rfl, Y.at 1 rfl, Y.at 2 rfl⟩⟩) (fun hHeld7 => ?_)
    clear hK hHeld6 K
    try simp only [Act.put, List.setIfInBounds_toArray, List.set_cons_zero, List.set_cons_succ]
    refine wpAnyH_ready (rs := [25]) (by kernel_rfl) (by simp) (AllReadyH.cons (o := ⟨some 38, _, _, _, _, _⟩) rfl (fun K hK => ?_) AllReadyH.nil)
    go_simp
    refine (rssame_any ⟨sp, Ap, np, cp⟩ ⟨⟨g0, e0, l0⟩, A0, n0, c0⟩ _ Rp R0 (by show np * 32 ≤ _; omega) (by show n0 * 32 ≤ _; omega)).mono ?_
    rw [sameB_yes Hp.out]
    rintro e w11 ⟨rfl, hb⟩
    replace R0 := R0.belowH hb
    replace R1 := R1.belowH hb
    replace Rp := Rp.belowH hb
    replace X := X.belowH hb
    replace Y := Y.belowH hb
    replace b := b.trans (hb.mono b.size)
    clear hb
    go_simp
    refine hK.out _ _ (by exact ⟨⟨X.at 0 rfl, X.at 1 rfl, X.at 2 rfl⟩, ⟨Y.at 0 rfl, Y.at 1 rfl, Y.at 2 rfl⟩⟩) (fun hHeld8 => ?_)
    clear hK hHeld7 K
    try simp only [Act.put, List.setIfInBounds_toArray, List.set_cons_zero, List.set_cons_succ]
    refine wpAnyH_take (i := 26) (oi := ⟨some 39, _, _, _, _, _⟩) (v := ?_) rfl (by kernel_rfl) (by kernel_rfl) (by kernel_rfl) (fun _ _ _ h => h) (Or.inl ⟨by rfl, ?_⟩) hHeld8 ?_
    rotate_left
    · (intro w' hSw; (try dsimp only at hSw); go_simp; all_goals (with_reducible rfl))
    try simp only [Act.put, List.setIfInBounds_toArray, List.set_cons_zero, List.set_cons_succ]
    refine wpAnyH_take (i := 27) (oi := ⟨some 40, _, _, _, _, _⟩) (v := ?_) rfl (by kernel_rfl) (by kernel_rfl) (by kernel_rfl) (fun _ _ _ h => h) (Or.inl ⟨by rfl, ?_⟩) hHeld8 ?_
    rotate_left
    · (intro w' hSw; (try dsimp only at hSw); go_simp; all_goals (with_reducible rfl))
    try simp only [Act.put, List.setIfInBounds_toArray, List.set_cons_zero, List.set_cons_succ]
    refine wpAnyH_take (i := 28) (oi := ⟨some 41, _, _, _, _, _⟩) (v := ?_) rfl (by kernel_rfl) (by kernel_rfl) (by kernel_rfl) (fun _ _ _ h => h) (Or.inl ⟨by rfl, ?_⟩) hHeld8 ?_
    rotate_left
    · (intro w' hSw; (try dsimp only at hSw); go_simp; all_goals (with_reducible rfl))
    try simp only [Act.put, List.setIfInBounds_toArray, List.set_cons_zero, List.set_cons_succ]
    refine wpAnyH_take (i := 29) (oi := ⟨some 42, _, _, _, _, _⟩) (v := ?_) rfl (by kernel_rfl) (by kernel_rfl) (by kernel_rfl) (fun _ _ _ h => h) (Or.inl ⟨by rfl, ?_⟩) hHeld8 ?_
    rotate_left
    · (intro w' hSw; (try dsimp only at hSw); go_simp; all_goals (with_reducible rfl))
    try simp only [Act.put, List.setIfInBounds_toArray, List.set_cons_zero, List.set_cons_succ]
    refine wpAnyH_take (i := 31) (oi := ⟨some 44, _, _, _, _, _⟩) (v := ?_) rfl (by kernel_rfl) (by kernel_rfl) (by kernel_rfl) (fun _ _ _ h => h) (Or.inl ⟨by rfl, ?_⟩) hHeld8 ?_
    rotate_left
    · (intro w' hSw; (try dsimp only at hSw); go_simp; all_goals (with_reducible rfl))
    try simp only [Act.put, List.setIfInBounds_toArray, List.set_cons_zero, List.set_cons_succ]
    refine wpAnyH_take (i := 32) (oi := ⟨some 45, _, _, _, _, _⟩) (v := ?_) rfl (by kernel_rfl) (by kernel_rfl) (by kernel_rfl) (fun _ _ _ h => h) (Or.inl ⟨by rfl, ?_⟩) hHeld8 ?_
    rotate_left
    · (intro w' hSw; (try dsimp only at hSw); go_simp; all_goals (with_reducible rfl))
    try simp only [Act.put, List.setIfInBounds_toArray, List.set_cons_zero, List.set_cons_succ]
    refine wpAnyH_ready (rs := [30]) (by kernel_rfl) (by simp) (AllReadyH.cons (o := ⟨some 43, _, _, _, _, _⟩) rfl (fun K hK => ?_) AllReadyH.nil)
    go_simp
    refine (sabove_any ⟨⟨g0, e0, l0⟩, A0, n0, c0⟩ a2 _ R0 (by show n0 ≤ _; omega)).mono ?_
    rintro e w12 ⟨⟨sq, Aq, nq, cq⟩, rfl, hs, hown, hb⟩
    simp only at hs
    have Hq : Hid (sq = S.above ⟨g0, e0, l0⟩ a2) := Lib.hid hs
    have Rq := hown.srd
    have bdq : nq ≤ n0 := by have hq := Rq.len; have := HL0.out; have := E.aboves_length l0 a2; rw [Hq.out] at hq; simp only [S.above] at hq; (try simp only at *); omega
    clear hs hown
    replace R0 := R0.belowH hb
    replace R1 := R1.belowH hb
    replace Rp := Rp.belowH hb
    replace X := X.belowH hb
    replace Y := Y.belowH hb
    replace b := b.trans (hb.mono b.size)
    clear hb
    simp only [sv]
    go_simp
    refine hK.out _ _ (by exact ⟨⟨X.at 0 rfl, X.at 1 rfl, X.at 2 rfl⟩, ⟨Y.at 0 rfl, Y.at 1 rfl, Y.at 2 rfl⟩⟩) (fun hHeld9 => ?_)
    clear hK hHeld8 K
    try simp only [Act.put, List.setIfInBounds_toArray, List.set_cons_zero, List.set_cons_succ]
    refine wpAnyH_ready (rs := [33]) (by kernel_rfl) (by simp) (AllReadyH.cons (o := ⟨some 46, _, _, _, _, _⟩) rfl (fun K hK => ?_) AllReadyH.nil)
    go_simp
    refine (rsabove_any ⟨⟨g0, e0, l0⟩, A0, n0, c0⟩ a2 _ R0 (by show n0 * 32 ≤ _; omega)).mono ?_
    rintro e w13 ⟨⟨sr, Ar, nr, cr⟩, rfl, hs, hown, hb⟩
    simp only at hs
    have Hr : Hid (sr = S.above ⟨g0, e0, l0⟩ a2) := Lib.hid hs
    have Rr := hown.srd
    have bdr : nr ≤ n0 := by have hq := Rr.len; have := HL0.out; have := E.aboves_length l0 a2; rw [Hr.out] at hq; simp only [S.above] at hq; (try simp only at *); omega
    clear hs hown
    replace R0 := R0.belowH hb
    replace R1 := R1.belowH hb
    replace Rp := Rp.belowH hb
    replace Rq := Rq.belowH hb
    replace X := X.belowH hb
    replace Y := Y.belowH hb
    replace b := b.trans (hb.mono b.size)
    clear hb
    simp only [sv]
    go_simp
    refine hK.out _ _ (by exact ⟨⟨X.at 0 rfl, X.at 1 rfl, X.at 2 rfl⟩, ⟨Y.at 0 rfl, Y.at 1 rfl, Y.at 2 rfl⟩⟩) (fun hHeld10 => ?_)
    clear hK hHeld9 K
    try simp only [Act.put, List.setIfInBounds_toArray, List.set_cons_zero, List.set_cons_succ]
    refine wpAnyH_ready (rs := [34]) (by kernel_rfl) (by simp) (AllReadyH.cons (o := ⟨some 47, _, _, _, _, _⟩) rfl (fun K hK => ?_) AllReadyH.nil)
    go_simp
    refine (rssame_any ⟨sq, Aq, nq, cq⟩ ⟨sr, Ar, nr, cr⟩ _ Rq Rr (by show nq * 32 ≤ _; omega) (by show nr * 32 ≤ _; omega)).mono ?_
    rw [sameB_yes (Hq.out.trans Hr.out.symm)]
    rintro e w14 ⟨rfl, hb⟩
    replace R0 := R0.belowH hb
    replace R1 := R1.belowH hb
    replace Rp := Rp.belowH hb
    replace Rq := Rq.belowH hb
    replace Rr := Rr.belowH hb
    replace X := X.belowH hb
    replace Y := Y.belowH hb
    replace b := b.trans (hb.mono b.size)
    clear hb
    go_simp
    refine hK.out _ _ (by exact ⟨⟨X.at 0 rfl, X.at 1 rfl, X.at 2 rfl⟩, ⟨Y.at 0 rfl, Y.at 1 rfl, Y.at 2 rfl⟩⟩) (fun hHeld11 => ?_)
    clear hK hHeld10 K
    try simp only [Act.put, List.setIfInBounds_toArray, List.set_cons_zero, List.set_cons_succ]
    refine wpAnyH_take (i := 35) (oi := ⟨some 48, _, _, _, _, _⟩) (v := ?_) rfl (by kernel_rfl) (by kernel_rfl) (by kernel_rfl) (fun _ _ _ h => h) (Or.inl ⟨by rfl, ?_⟩) hHeld11 ?_
    rotate_left
    · (intro w' hSw; (try dsimp only at hSw); go_simp; all_goals (with_reducible rfl))
    try simp only [Act.put, List.setIfInBounds_toArray, List.set_cons_zero, List.set_cons_succ]
    refine wpAnyH_take (i := 36) (oi := ⟨some 6, _, _, _, _, _⟩) (v := ?_) rfl (by kernel_rfl) (by kernel_rfl) (by kernel_rfl) (fun _ _ _ h => h) (Or.inl ⟨by rfl, ?_⟩) hHeld11 ?_
    rotate_left
    · (intro w' hSw; (try dsimp only at hSw); go_simp; all_goals (with_reducible rfl))
    try simp only [Act.put, List.setIfInBounds_toArray, List.set_cons_zero, List.set_cons_succ]
    refine wpAnyH_done (by kernel_rfl) ?_ _
    go_wp2
    go_ret
    exact ⟨rfl, b⟩
  · go_wp2
    go_ret
    exact ⟨rfl, b⟩
end Go.Proofs.Ytfpfpepejocjfaa
