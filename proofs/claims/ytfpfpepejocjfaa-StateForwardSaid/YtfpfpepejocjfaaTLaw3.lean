/- StateForward walks. -/
import Derived.Test.YtfpfpepejocjfaaTLaw2
namespace Go.Proofs.Ytfpfpepejocjfaa
set_option linter.unusedVariables false
set_option linter.unusedSimpArgs false
open Go.RowKit

theorem soverB_not {a b : St} (h : ¬ S.over a b) : soverB a b = false := by
  rcases h2 : soverB a b
  · rfl
  · exact absurd (soverB_iff.1 h2) h

set_option maxHeartbeats 8000000 in
set_option maxRecDepth 100000 in
theorem law_StateForward (v0 : Sv) (a1 : Int) (a2 : ByteArray) (W : World) (t0 : SIn W v0) (t1 : (Lit.int .u8 a1).wf = true) (t2 : a2.size ≤ maxLen) :
    Calls Try.prog 6 #[sv v0, .int .u8 a1, .string a2] W fun e w' => e = .returned (.bool true) ∧ Below W.heap.size W w' := by
  obtain ⟨u, rfl⟩ : ∃ u, a2 = strB u := ⟨a2.data.toList, rfl⟩
  have hus : (strB u).size = u.length := strB_size u
  rw [hus] at t2
  have HU := Lib.hid hus
  clear hus
  have hk0 : 0 ≤ a1 ∧ a1 ≤ 255 := by
    have e1 : IntKind.u8.min = 0 := by decide
    have e2 : IntKind.u8.max = 255 := by decide
    simp [Lit.wf, e1, e2] at t1
    omega
  obtain ⟨hk0, hk1⟩ := hk0
  clear t1
  obtain ⟨⟨g0, e0, l0⟩, A0, n0, c0⟩ := v0
  obtain ⟨R0, hn0, hv0, _, _⟩ := t0
  simp only at hn0 hv0
  have HL0 := Lib.hid R0.len
  have HV0 := Lib.hid hv0
  clear hv0
  simp only [sv]
  have b := Below.refl W.heap.size W
  replace R0 := R0.allocH (.cells #[.int .i64 g0, .int .i64 e0, .slice A0 n0 c0] 24)
  have X := Box.new (W) #[.int .i64 g0, .int .i64 e0, .slice A0 n0 c0] 24
  replace b := b.alloc b.size (.cells #[.int .i64 g0, .int .i64 e0, .slice A0 n0 c0] 24)
  go_enter Try.func6, Try.ntmps6
  go_wp2_with fail
  refine (alive_any _).mono ?_
  rintro e w2 ⟨rfl, hb⟩
  replace R0 := R0.belowH hb
  replace X := X.belowH hb
  replace b := b.trans (hb.mono b.size)
  clear hb
  have x0 := X.at 0 rfl
  have x1 := X.at 1 rfl
  have x2 := X.at 2 rfl
  have LR := Rd.lit w2 #[.int .i64 g0, .int .i64 e0, .slice A0 n0 c0] 24 3 1 rfl
  replace R0 := R0.allocH (.cells #[.int .i64 g0, .int .i64 e0, .slice A0 n0 c0] 24)
  replace X := X.alloc (.cells #[.int .i64 g0, .int .i64 e0, .slice A0 n0 c0] 24)
  have LB := Box.new w2 #[.int .i64 g0, .int .i64 e0, .slice A0 n0 c0] 24
  replace b := b.alloc b.size (.cells #[.int .i64 g0, .int .i64 e0, .slice A0 n0 c0] 24)
  clear LB
  go_wp2_with fail
  refine (greats_any [⟨⟨g0, e0, l0⟩, A0, n0, c0⟩] _ 1 1 _ _ LR (by simp) (by omega) (fun v hv => by simp at hv; rcases hv with rfl <;> first | exact ⟨R0, hn0, HV0.out⟩)).mono ?_
  rintro e w3 ⟨rfl, hb⟩
  replace R0 := R0.belowH hb
  replace X := X.belowH hb
  replace b := b.trans (hb.mono b.size)
  clear hb
  clear LR
  clear x0 x1 x2
  rcases hgr : greats [⟨⟨g0, e0, l0⟩, A0, n0, c0⟩]
  · skip
    simp only [greats, List.any_cons, List.any_nil, Bool.or_false, Bool.or_eq_false_iff] at hgr
    have hs0 := great_small hgr HL0.out
    clear hgr
    by_cases hul : u.length ≤ 200
    · have hsz : (strB u).size = u.length := HU.out
      have hlb : decide ((200 : Int) < (((strB u).size : Nat) : Int)) = false := decide_eq_false (by rw [hsz]; omega)
      clear hsz
      have x0 := X.at 0 rfl
      have x1 := X.at 1 rfl
      have x2 := X.at 2 rfl
      go_wp2_with fail
      refine (rsright_any ⟨⟨g0, e0, l0⟩, A0, n0, c0⟩  _ R0 (by show n0 * 32 ≤ _; omega)).mono ?_
      rintro e w4 ⟨rfl, hb⟩
      replace R0 := R0.belowH hb
      replace X := X.belowH hb
      replace b := b.trans (hb.mono b.size)
      clear hb
      clear x0 x1 x2
      rcases hr0 : srightB ⟨g0, e0, l0⟩
      · go_wp2
        go_ret
        exact ⟨rfl, b⟩
      · skip
        have HR0 := Lib.hid (srightB_out hr0)
        clear hr0
        clear hlb
        have ht0 := S.top_nonneg ⟨g0, e0, l0⟩
        have ht1 := S.top_right HR0.out
        have x0 := X.at 0 rfl
        have x1 := X.at 1 rfl
        have x2 := X.at 2 rfl
        go_wp2_with fail
        refine (rstop_any ⟨⟨g0, e0, l0⟩, A0, n0, c0⟩  _ R0 (by show n0 * 32 ≤ _; omega)).mono ?_
        rintro e w5 ⟨rfl, hb⟩
        replace R0 := R0.belowH hb
        replace X := X.belowH hb
        replace b := b.trans (hb.mono b.size)
        clear hb
        clear x0 x1 x2
        by_cases htt : S.top ⟨g0, e0, l0⟩ = 1099511627776
        · have tq : (S.top ⟨g0, e0, l0⟩ == 1099511627776) = true := beq_iff_eq.2 htt
          clear htt ht0 ht1
          go_wp2
          go_ret
          exact ⟨rfl, b⟩
        · have tq : (S.top ⟨g0, e0, l0⟩ == 1099511627776) = false := beq_eq_false_iff_ne.2 htt
          have HTT := Lib.hid htt
          clear htt
          have hmay : E.may ⟨a1 % 12, 1, u⟩ := ⟨by show 0 ≤ a1 % 12; omega, by show a1 % 12 < 12; omega, by show (1 : Int) ≤ 1; omega, by show (1 : Int) ≤ 1099511627776; omega, hul⟩
          have hmay2 : E.may ⟨a1 % 12, S.top ⟨g0, e0, l0⟩ + 1, u⟩ := ⟨by show 0 ≤ a1 % 12; omega, by show a1 % 12 < 12; omega, by show 1 ≤ S.top _ + 1; omega, by show S.top _ + 1 ≤ _; have := HTT.out; omega, hul⟩
          have HSET : Hid (sset ⟨g0, e0, l0⟩ (a1 % 12) u = (S.put ⟨g0, e0, l0⟩ ⟨a1 % 12, S.top ⟨g0, e0, l0⟩ + 1, u⟩, 0)) := Lib.hid (by unfold sset; rw [if_pos ⟨srightB_yes HR0.out, hmay⟩, if_neg HTT.out])
          have HBEAT : Hid (sbeat ⟨g0, e0, l0⟩ = (S.beaten ⟨g0, e0, l0⟩, 0)) := Lib.hid (by unfold sbeat; rw [if_pos (srightB_yes HR0.out), if_neg HTT.out])
          have HM2 := Lib.hid hmay2
          clear hmay hmay2
          have x0 := X.at 0 rfl
          have x1 := X.at 1 rfl
          have x2 := X.at 2 rfl
          go_wp2_with fail
          refine (sset_any ⟨⟨g0, e0, l0⟩, A0, n0, c0⟩ (a1 % 12) u _ R0 (by show n0 ≤ _; omega) (by omega)).mono ?_
          rintro e w6 ⟨⟨sx, Ax, nx, cx⟩, rfl, hs, Rx, hb⟩
          simp only at hs
          have Hx : Hid (sx = (sset ⟨g0, e0, l0⟩ (a1 % 12) u).1) := Lib.hid hs
          clear hs
          replace R0 := R0.belowH hb
          replace X := X.belowH hb
          replace b := b.trans (hb.mono b.size)
          clear hb
          simp only [sv]
          clear x0 x1 x2
          rw [HSET.out] at Hx ⊢
          have Hrx : Hid (S.rise sx) := Lib.hid (by rw [Hx.out]; exact S.put_rise (S.right_rise HR0.out) _)
          have bx : nx ≤ n0 + 1 := by have hq := Rx.len; have := E.put_length l0 ⟨a1 % 12, S.top ⟨g0, e0, l0⟩ + 1, u⟩; have := HL0.out; rw [Hx.out] at hq; simp only [S.put] at hq; omega
          replace R0 := R0.allocH (.cells #[.int .i64 sx.gen, .int .i64 sx.beat, .slice Ax nx cx] 24)
          replace Rx := Rx.allocH (.cells #[.int .i64 sx.gen, .int .i64 sx.beat, .slice Ax nx cx] 24)
          replace X := X.alloc (.cells #[.int .i64 sx.gen, .int .i64 sx.beat, .slice Ax nx cx] 24)
          have Ab := Box.new w6 #[.int .i64 sx.gen, .int .i64 sx.beat, .slice Ax nx cx] 24
          replace b := b.alloc b.size (.cells #[.int .i64 sx.gen, .int .i64 sx.beat, .slice Ax nx cx] 24)
          clear tq
          have x0 := X.at 0 rfl
          have x1 := X.at 1 rfl
          have x2 := X.at 2 rfl
          go_wp2_with fail
          refine (sbeat_any ⟨⟨g0, e0, l0⟩, A0, n0, c0⟩ _ R0 (by show n0 ≤ _; omega)).mono ?_
          rintro e w7 ⟨⟨sy, Ay, ny, cy⟩, rfl, hs, Ry, hb⟩
          simp only at hs
          have Hy : Hid (sy = (sbeat ⟨g0, e0, l0⟩).1) := Lib.hid hs
          clear hs
          replace R0 := R0.belowH hb
          replace Rx := Rx.belowH hb
          replace X := X.belowH hb
          replace Ab := Ab.belowH hb
          replace b := b.trans (hb.mono b.size)
          clear hb
          simp only [sv]
          clear x0 x1 x2
          rw [HBEAT.out] at Hy ⊢
          have Hry : Hid (S.rise sy) := Lib.hid (by rw [Hy.out]; exact HR0.out.2.2.2.2.2)
          have by' : ny ≤ n0 := by have hq := Ry.len; have := HL0.out; rw [Hy.out] at hq; simp only [S.beaten] at hq; omega
          replace R0 := R0.allocH (.cells #[.int .i64 sy.gen, .int .i64 sy.beat, .slice Ay ny cy] 24)
          replace Rx := Rx.allocH (.cells #[.int .i64 sy.gen, .int .i64 sy.beat, .slice Ay ny cy] 24)
          replace Ry := Ry.allocH (.cells #[.int .i64 sy.gen, .int .i64 sy.beat, .slice Ay ny cy] 24)
          replace X := X.alloc (.cells #[.int .i64 sy.gen, .int .i64 sy.beat, .slice Ay ny cy] 24)
          replace Ab := Ab.alloc (.cells #[.int .i64 sy.gen, .int .i64 sy.beat, .slice Ay ny cy] 24)
          have Bb := Box.new w7 #[.int .i64 sy.gen, .int .i64 sy.beat, .slice Ay ny cy] 24
          replace b := b.alloc b.size (.cells #[.int .i64 sy.gen, .int .i64 sy.beat, .slice Ay ny cy] 24)
          go_wp2
          have hwr : IntKind.i64.wrap (S.top ⟨g0, e0, l0⟩ + 1) = S.top ⟨g0, e0, l0⟩ + 1 := IntWalk.i64_in _ (by omega)
          replace R0 := R0.drewH
          replace Rx := Rx.drewH
          replace Ry := Ry.drewH
          replace X := X.drew
          replace Ab := Ab.drew
          replace Bb := Bb.drew
          replace b := b.drew
          refine wp_region_held_drew (S := (fun w' => (w'.cell? ⟨W.heap.size, 0, none⟩ = some (.int .i64 g0) ∧ w'.cell? ⟨W.heap.size, 1, none⟩ = some (.int .i64 e0) ∧ w'.cell? ⟨W.heap.size, 2, none⟩ = some (.slice A0 n0 c0)) ∧ (w'.cell? ⟨w6.heap.size, 0, none⟩ = some (.int .i64 sx.gen) ∧ w'.cell? ⟨w6.heap.size, 1, none⟩ = some (.int .i64 sx.beat) ∧ w'.cell? ⟨w6.heap.size, 2, none⟩ = some (.slice Ax nx cx)) ∧ (w'.cell? ⟨w7.heap.size, 0, none⟩ = some (.int .i64 sy.gen) ∧ w'.cell? ⟨w7.heap.size, 1, none⟩ = some (.int .i64 sy.beat) ∧ w'.cell? ⟨w7.heap.size, 2, none⟩ = some (.slice Ay ny cy)))) (by kernel_rfl) (by exact ⟨⟨X.at 0 rfl, X.at 1 rfl, X.at 2 rfl⟩, ⟨Ab.at 0 rfl, Ab.at 1 rfl, Ab.at 2 rfl⟩, ⟨Bb.at 0 rfl, Bb.at 1 rfl, Bb.at 2 rfl⟩⟩) (fun hHeld0 => ?_)
          refine wpAnyH_take (i := 0) (oi := ⟨some 45, _, _, _, _, _⟩) (v := ?_) rfl (by kernel_rfl) (by kernel_rfl) (by kernel_rfl) (fun _ _ _ h => h) (Or.inl ⟨by rfl, ?_⟩) hHeld0 ?_
          rotate_left
          · (intro w' hSw; (try dsimp only at hSw); go_simp; all_goals (with_reducible rfl))
          try simp only [Act.put, List.setIfInBounds_toArray, List.set_cons_zero, List.set_cons_succ]
          refine wpAnyH_take (i := 1) (oi := ⟨some 46, _, _, _, _, _⟩) (v := ?_) rfl (by kernel_rfl) (by kernel_rfl) (by kernel_rfl) (fun _ _ _ h => h) (Or.inl ⟨by rfl, ?_⟩) hHeld0 ?_
          rotate_left
          · (intro w' hSw; (try dsimp only at hSw); go_simp; all_goals (with_reducible rfl))
          try simp only [Act.put, List.setIfInBounds_toArray, List.set_cons_zero, List.set_cons_succ]
          refine wpAnyH_take (i := 2) (oi := ⟨some 47, _, _, _, _, _⟩) (v := ?_) rfl (by kernel_rfl) (by kernel_rfl) (by kernel_rfl) (fun _ _ _ h => h) (Or.inl ⟨by rfl, ?_⟩) hHeld0 ?_
          rotate_left
          · (intro w' hSw; (try dsimp only at hSw); go_simp; all_goals (with_reducible rfl))
          try simp only [Act.put, List.setIfInBounds_toArray, List.set_cons_zero, List.set_cons_succ]
          refine wpAnyH_take (i := 3) (oi := ⟨some 48, _, _, _, _, _⟩) (v := ?_) rfl (by kernel_rfl) (by kernel_rfl) (by kernel_rfl) (fun _ _ _ h => h) (Or.inl ⟨by rfl, ?_⟩) hHeld0 ?_
          rotate_left
          · (intro w' hSw; (try dsimp only at hSw); go_simp; all_goals (with_reducible rfl))
          try simp only [Act.put, List.setIfInBounds_toArray, List.set_cons_zero, List.set_cons_succ]
          refine wpAnyH_take (i := 4) (oi := ⟨some 49, _, _, _, _, _⟩) (v := ?_) rfl (by kernel_rfl) (by kernel_rfl) (by kernel_rfl) (fun _ _ _ h => h) (Or.inl ⟨by rfl, ?_⟩) hHeld0 ?_
          rotate_left
          · (intro w' hSw; (try dsimp only at hSw); go_simp; all_goals (with_reducible rfl))
          try simp only [Act.put, List.setIfInBounds_toArray, List.set_cons_zero, List.set_cons_succ]
          refine wpAnyH_take (i := 5) (oi := ⟨some 50, _, _, _, _, _⟩) (v := ?_) rfl (by kernel_rfl) (by kernel_rfl) (by kernel_rfl) (fun _ _ _ h => h) (Or.inl ⟨by rfl, ?_⟩) hHeld0 ?_
          rotate_left
          · (intro w' hSw; (try dsimp only at hSw); go_simp; all_goals (with_reducible rfl))
          try simp only [Act.put, List.setIfInBounds_toArray, List.set_cons_zero, List.set_cons_succ]
          refine wpAnyH_take (i := 6) (oi := ⟨some 51, _, _, _, _, _⟩) (v := ?_) rfl (by kernel_rfl) (by kernel_rfl) (by kernel_rfl) (fun _ _ _ h => h) (Or.inl ⟨by rfl, ?_⟩) hHeld0 ?_
          rotate_left
          · (intro w' hSw; (try dsimp only at hSw); go_simp; all_goals (with_reducible rfl))
          try simp only [Act.put, List.setIfInBounds_toArray, List.set_cons_zero, List.set_cons_succ]
          refine wpAnyH_take (i := 7) (oi := ⟨some 52, _, _, _, _, _⟩) (v := ?_) rfl (by kernel_rfl) (by kernel_rfl) (by kernel_rfl) (fun _ _ _ h => h) (Or.inl ⟨by rfl, ?_⟩) hHeld0 ?_
          rotate_left
          · (intro w' hSw; (try dsimp only at hSw); go_simp; all_goals (with_reducible rfl))
          try simp only [Act.put, List.setIfInBounds_toArray, List.set_cons_zero, List.set_cons_succ]
          refine wpAnyH_take (i := 8) (oi := ⟨some 53, _, _, _, _, _⟩) (v := ?_) rfl (by kernel_rfl) (by kernel_rfl) (by kernel_rfl) (fun _ _ _ h => h) (Or.inl ⟨by rfl, ?_⟩) hHeld0 ?_
          rotate_left
          · (intro w' hSw; (try dsimp only at hSw); go_simp; all_goals (with_reducible rfl))
          try simp only [Act.put, List.setIfInBounds_toArray, List.set_cons_zero, List.set_cons_succ]
          refine wpAnyH_ready (rs := [9]) (by kernel_rfl) (by simp) (AllReadyH.cons (o := ⟨some 54, _, _, _, _, _⟩) rfl (fun K hK => ?_) AllReadyH.nil)
          go_simp
          refine (sover_any ⟨sx, Ax, nx, cx⟩ ⟨⟨g0, e0, l0⟩, A0, n0, c0⟩ _ Rx R0 (by show nx ≤ _; omega) (by show n0 ≤ _; omega) Hrx.out (S.right_rise HR0.out)).mono ?_
          rw [soverB_iff.2 (show S.over sx ⟨g0, e0, l0⟩ by rw [Hx.out]; exact S.over_put (S.right_rise HR0.out) rfl)]
          rintro e w8 ⟨rfl, hb⟩
          replace R0 := R0.belowH hb
          replace Rx := Rx.belowH hb
          replace Ry := Ry.belowH hb
          replace X := X.belowH hb
          replace Ab := Ab.belowH hb
          replace Bb := Bb.belowH hb
          replace b := b.trans (hb.mono b.size)
          clear hb
          go_simp
          refine hK.out _ _ (by exact ⟨⟨X.at 0 rfl, X.at 1 rfl, X.at 2 rfl⟩, ⟨Ab.at 0 rfl, Ab.at 1 rfl, Ab.at 2 rfl⟩, ⟨Bb.at 0 rfl, Bb.at 1 rfl, Bb.at 2 rfl⟩⟩) (fun hHeld1 => ?_)
          clear hK hHeld0 K
          try simp only [Act.put, List.setIfInBounds_toArray, List.set_cons_zero, List.set_cons_succ]
          refine wpAnyH_take (i := 10) (oi := ⟨some 55, _, _, _, _, _⟩) (v := ?_) rfl (by kernel_rfl) (by kernel_rfl) (by kernel_rfl) (fun _ _ _ h => h) (Or.inl ⟨by rfl, ?_⟩) hHeld1 ?_
          rotate_left
          · (intro w' hSw; (try dsimp only at hSw); go_simp; all_goals (with_reducible rfl))
          try simp only [Act.put, List.setIfInBounds_toArray, List.set_cons_zero, List.set_cons_succ]
          refine wpAnyH_take (i := 11) (oi := ⟨some 56, _, _, _, _, _⟩) (v := ?_) rfl (by kernel_rfl) (by kernel_rfl) (by kernel_rfl) (fun _ _ _ h => h) (Or.inl ⟨by rfl, ?_⟩) hHeld1 ?_
          rotate_left
          · (intro w' hSw; (try dsimp only at hSw); go_simp; all_goals (with_reducible rfl))
          try simp only [Act.put, List.setIfInBounds_toArray, List.set_cons_zero, List.set_cons_succ]
          refine wpAnyH_take (i := 12) (oi := ⟨some 57, _, _, _, _, _⟩) (v := ?_) rfl (by kernel_rfl) (by kernel_rfl) (by kernel_rfl) (fun _ _ _ h => h) (Or.inl ⟨by rfl, ?_⟩) hHeld1 ?_
          rotate_left
          · (intro w' hSw; (try dsimp only at hSw); go_simp; all_goals (with_reducible rfl))
          try simp only [Act.put, List.setIfInBounds_toArray, List.set_cons_zero, List.set_cons_succ]
          refine wpAnyH_take (i := 13) (oi := ⟨some 58, _, _, _, _, _⟩) (v := ?_) rfl (by kernel_rfl) (by kernel_rfl) (by kernel_rfl) (fun _ _ _ h => h) (Or.inl ⟨by rfl, ?_⟩) hHeld1 ?_
          rotate_left
          · (intro w' hSw; (try dsimp only at hSw); go_simp; all_goals (with_reducible rfl))
          try simp only [Act.put, List.setIfInBounds_toArray, List.set_cons_zero, List.set_cons_succ]
          refine wpAnyH_ready (rs := [14]) (by kernel_rfl) (by simp) (AllReadyH.cons (o := ⟨some 59, _, _, _, _, _⟩) rfl (fun K hK => ?_) AllReadyH.nil)
          go_simp
          refine (sover_any ⟨sy, Ay, ny, cy⟩ ⟨⟨g0, e0, l0⟩, A0, n0, c0⟩ _ Ry R0 (by show ny ≤ _; omega) (by show n0 ≤ _; omega) Hry.out (S.right_rise HR0.out)).mono ?_
          rw [soverB_iff.2 (show S.over sy ⟨g0, e0, l0⟩ by rw [Hy.out]; exact S.over_beaten (S.right_rise HR0.out))]
          rintro e w9 ⟨rfl, hb⟩
          replace R0 := R0.belowH hb
          replace Rx := Rx.belowH hb
          replace Ry := Ry.belowH hb
          replace X := X.belowH hb
          replace Ab := Ab.belowH hb
          replace Bb := Bb.belowH hb
          replace b := b.trans (hb.mono b.size)
          clear hb
          go_simp
          refine hK.out _ _ (by exact ⟨⟨X.at 0 rfl, X.at 1 rfl, X.at 2 rfl⟩, ⟨Ab.at 0 rfl, Ab.at 1 rfl, Ab.at 2 rfl⟩, ⟨Bb.at 0 rfl, Bb.at 1 rfl, Bb.at 2 rfl⟩⟩) (fun hHeld2 => ?_)
          clear hK hHeld1 K
          try simp only [Act.put, List.setIfInBounds_toArray, List.set_cons_zero, List.set_cons_succ]
          refine wpAnyH_take (i := 15) (oi := ⟨some 60, _, _, _, _, _⟩) (v := ?_) rfl (by kernel_rfl) (by kernel_rfl) (by kernel_rfl) (fun _ _ _ h => h) (Or.inl ⟨by rfl, ?_⟩) hHeld2 ?_
          rotate_left
          · (intro w' hSw; (try dsimp only at hSw); go_simp; all_goals (with_reducible rfl))
          try simp only [Act.put, List.setIfInBounds_toArray, List.set_cons_zero, List.set_cons_succ]
          refine wpAnyH_take (i := 16) (oi := ⟨some 61, _, _, _, _, _⟩) (v := ?_) rfl (by kernel_rfl) (by kernel_rfl) (by kernel_rfl) (fun _ _ _ h => h) (Or.inl ⟨by rfl, ?_⟩) hHeld2 ?_
          rotate_left
          · (intro w' hSw; (try dsimp only at hSw); go_simp; all_goals (with_reducible rfl))
          try simp only [Act.put, List.setIfInBounds_toArray, List.set_cons_zero, List.set_cons_succ]
          refine wpAnyH_take (i := 17) (oi := ⟨some 62, _, _, _, _, _⟩) (v := ?_) rfl (by kernel_rfl) (by kernel_rfl) (by kernel_rfl) (fun _ _ _ h => h) (Or.inl ⟨by rfl, ?_⟩) hHeld2 ?_
          rotate_left
          · (intro w' hSw; (try dsimp only at hSw); go_simp; all_goals (with_reducible rfl))
          try simp only [Act.put, List.setIfInBounds_toArray, List.set_cons_zero, List.set_cons_succ]
          refine wpAnyH_take (i := 18) (oi := ⟨some 63, _, _, _, _, _⟩) (v := ?_) rfl (by kernel_rfl) (by kernel_rfl) (by kernel_rfl) (fun _ _ _ h => h) (Or.inl ⟨by rfl, ?_⟩) hHeld2 ?_
          rotate_left
          · (intro w' hSw; (try dsimp only at hSw); go_simp; all_goals (with_reducible rfl))
          try simp only [Act.put, List.setIfInBounds_toArray, List.set_cons_zero, List.set_cons_succ]
          refine wpAnyH_ready (rs := [19]) (by kernel_rfl) (by simp) (AllReadyH.cons (o := ⟨some 64, _, _, _, _, _⟩) rfl (fun K hK => ?_) AllReadyH.nil)
          go_simp
          refine (sover_any ⟨⟨g0, e0, l0⟩, A0, n0, c0⟩ ⟨sx, Ax, nx, cx⟩ _ R0 Rx (by show n0 ≤ _; omega) (by show nx ≤ _; omega) (S.right_rise HR0.out) Hrx.out).mono ?_
          rw [soverB_not (show ¬ S.over ⟨g0, e0, l0⟩ sx by rw [Hx.out]; exact S.not_over_put (S.right_rise HR0.out) rfl)]
          rintro e w10 ⟨rfl, hb⟩
          replace R0 := R0.belowH hb
          replace Rx := Rx.belowH hb
          replace Ry := Ry.belowH hb
          replace X := X.belowH hb
          replace Ab := Ab.belowH hb
          replace Bb := Bb.belowH hb
          replace b := b.trans (hb.mono b.size)
          clear hb
          go_simp
          refine hK.out _ _ (by exact ⟨⟨X.at 0 rfl, X.at 1 rfl, X.at 2 rfl⟩, ⟨Ab.at 0 rfl, Ab.at 1 rfl, Ab.at 2 rfl⟩, ⟨Bb.at 0 rfl, Bb.at 1 rfl, Bb.at 2 rfl⟩⟩) (fun hHeld3 => ?_)
          clear hK hHeld2 K
          try simp only [Act.put, List.setIfInBounds_toArray, List.set_cons_zero, List.set_cons_succ]
          refine wpAnyH_take (i := 20) (oi := ⟨some 65, _, _, _, _, _⟩) (v := ?_) rfl (by kernel_rfl) (by kernel_rfl) (by kernel_rfl) (fun _ _ _ h => h) (Or.inl ⟨by rfl, ?_⟩) hHeld3 ?_
          rotate_left
          · (intro w' hSw; (try dsimp only at hSw); go_simp; all_goals (with_reducible rfl))
          try simp only [Act.put, List.setIfInBounds_toArray, List.set_cons_zero, List.set_cons_succ]
          refine wpAnyH_take (i := 21) (oi := ⟨some 66, _, _, _, _, _⟩) (v := ?_) rfl (by kernel_rfl) (by kernel_rfl) (by kernel_rfl) (fun _ _ _ h => h) (Or.inl ⟨by rfl, ?_⟩) hHeld3 ?_
          rotate_left
          · (intro w' hSw; (try dsimp only at hSw); go_simp; all_goals (with_reducible rfl))
          try simp only [Act.put, List.setIfInBounds_toArray, List.set_cons_zero, List.set_cons_succ]
          refine wpAnyH_take (i := 22) (oi := ⟨some 67, _, _, _, _, _⟩) (v := ?_) rfl (by kernel_rfl) (by kernel_rfl) (by kernel_rfl) (fun _ _ _ h => h) (Or.inl ⟨by rfl, ?_⟩) hHeld3 ?_
          rotate_left
          · (intro w' hSw; (try dsimp only at hSw); go_simp; all_goals (with_reducible rfl))
          try simp only [Act.put, List.setIfInBounds_toArray, List.set_cons_zero, List.set_cons_succ]
          refine wpAnyH_take (i := 23) (oi := ⟨some 68, _, _, _, _, _⟩) (v := ?_) rfl (by kernel_rfl) (by kernel_rfl) (by kernel_rfl) (fun _ _ _ h => h) (Or.inl ⟨by rfl, ?_⟩) hHeld3 ?_
          rotate_left
          · (intro w' hSw; (try dsimp only at hSw); go_simp; all_goals (with_reducible rfl))
          try simp only [Act.put, List.setIfInBounds_toArray, List.set_cons_zero, List.set_cons_succ]
          refine wpAnyH_take (i := 24) (oi := ⟨some 69, _, _, _, _, _⟩) (v := ?_) rfl (by kernel_rfl) (by kernel_rfl) (by kernel_rfl) (fun _ _ _ h => h) (Or.inl ⟨by rfl, ?_⟩) hHeld3 ?_
          rotate_left
          · (intro w' hSw; (try dsimp only at hSw); go_simp; all_goals (with_reducible rfl))
          try simp only [Act.put, List.setIfInBounds_toArray, List.set_cons_zero, List.set_cons_succ]
          refine wpAnyH_ready (rs := [25]) (by kernel_rfl) (by simp) (AllReadyH.cons (o := ⟨some 70, _, _, _, _, _⟩) rfl (fun K hK => ?_) AllReadyH.nil)
          go_simp
          refine (sover_any ⟨⟨g0, e0, l0⟩, A0, n0, c0⟩ ⟨sy, Ay, ny, cy⟩ _ R0 Ry (by show n0 ≤ _; omega) (by show ny ≤ _; omega) (S.right_rise HR0.out) Hry.out).mono ?_
          rw [soverB_not (show ¬ S.over ⟨g0, e0, l0⟩ sy by rw [Hy.out]; exact S.not_over_beaten)]
          rintro e w11 ⟨rfl, hb⟩
          replace R0 := R0.belowH hb
          replace Rx := Rx.belowH hb
          replace Ry := Ry.belowH hb
          replace X := X.belowH hb
          replace Ab := Ab.belowH hb
          replace Bb := Bb.belowH hb
          replace b := b.trans (hb.mono b.size)
          clear hb
          go_simp
          refine hK.out _ _ (by exact ⟨⟨X.at 0 rfl, X.at 1 rfl, X.at 2 rfl⟩, ⟨Ab.at 0 rfl, Ab.at 1 rfl, Ab.at 2 rfl⟩, ⟨Bb.at 0 rfl, Bb.at 1 rfl, Bb.at 2 rfl⟩⟩) (fun hHeld4 => ?_)
          clear hK hHeld3 K
          try simp only [Act.put, List.setIfInBounds_toArray, List.set_cons_zero, List.set_cons_succ]
          refine wpAnyH_take (i := 26) (oi := ⟨some 71, _, _, _, _, _⟩) (v := ?_) rfl (by kernel_rfl) (by kernel_rfl) (by kernel_rfl) (fun _ _ _ h => h) (Or.inl ⟨by rfl, ?_⟩) hHeld4 ?_
          rotate_left
          · (intro w' hSw; (try dsimp only at hSw); go_simp; all_goals (with_reducible rfl))
          try simp only [Act.put, List.setIfInBounds_toArray, List.set_cons_zero, List.set_cons_succ]
          refine wpAnyH_take (i := 27) (oi := ⟨some 72, _, _, _, _, _⟩) (v := ?_) rfl (by kernel_rfl) (by kernel_rfl) (by kernel_rfl) (fun _ _ _ h => h) (Or.inl ⟨by rfl, ?_⟩) hHeld4 ?_
          rotate_left
          · (intro w' hSw; (try dsimp only at hSw); go_simp; all_goals (with_reducible rfl))
          try simp only [Act.put, List.setIfInBounds_toArray, List.set_cons_zero, List.set_cons_succ]
          refine wpAnyH_take (i := 28) (oi := ⟨some 73, _, _, _, _, _⟩) (v := ?_) rfl (by kernel_rfl) (by kernel_rfl) (by kernel_rfl) (fun _ _ _ h => h) (Or.inl ⟨by rfl, ?_⟩) hHeld4 ?_
          rotate_left
          · (intro w' hSw; (try dsimp only at hSw); go_simp; all_goals (with_reducible rfl))
          try simp only [Act.put, List.setIfInBounds_toArray, List.set_cons_zero, List.set_cons_succ]
          refine wpAnyH_take (i := 29) (oi := ⟨some 74, _, _, _, _, _⟩) (v := ?_) rfl (by kernel_rfl) (by kernel_rfl) (by kernel_rfl) (fun _ _ _ h => h) (Or.inl ⟨by rfl, ?_⟩) hHeld4 ?_
          rotate_left
          · (intro w' hSw; (try dsimp only at hSw); go_simp; all_goals (with_reducible rfl))
          try simp only [Act.put, List.setIfInBounds_toArray, List.set_cons_zero, List.set_cons_succ]
          refine wpAnyH_take (i := 31) (oi := ⟨some 76, _, _, _, _, _⟩) (v := ?_) rfl (by kernel_rfl) (by kernel_rfl) (by kernel_rfl) (fun _ _ _ h => h) (Or.inl ⟨by rfl, ?_⟩) hHeld4 ?_
          rotate_left
          · (intro w' hSw; (try dsimp only at hSw); go_simp; all_goals (with_reducible rfl))
          try simp only [Act.put, List.setIfInBounds_toArray, List.set_cons_zero, List.set_cons_succ]
          refine wpAnyH_ready (rs := [30]) (by kernel_rfl) (by simp) (AllReadyH.cons (o := ⟨some 75, _, _, _, _, _⟩) rfl (fun K hK => ?_) AllReadyH.nil)
          go_simp
          refine (stop_any ⟨sx, Ax, nx, cx⟩  _ Rx (by show nx * 32 ≤ _; omega)).mono ?_
          rw [show S.top sx = S.top ⟨g0, e0, l0⟩ + 1 by rw [Hx.out]; exact S.top_put (S.right_rise HR0.out) rfl]
          rintro e w12 ⟨rfl, hb⟩
          replace R0 := R0.belowH hb
          replace Rx := Rx.belowH hb
          replace Ry := Ry.belowH hb
          replace X := X.belowH hb
          replace Ab := Ab.belowH hb
          replace Bb := Bb.belowH hb
          replace b := b.trans (hb.mono b.size)
          clear hb
          go_simp
          refine hK.out _ _ (by exact ⟨⟨X.at 0 rfl, X.at 1 rfl, X.at 2 rfl⟩, ⟨Ab.at 0 rfl, Ab.at 1 rfl, Ab.at 2 rfl⟩, ⟨Bb.at 0 rfl, Bb.at 1 rfl, Bb.at 2 rfl⟩⟩) (fun hHeld5 => ?_)
          clear hK hHeld4 K
          try simp only [Act.put, List.setIfInBounds_toArray, List.set_cons_zero, List.set_cons_succ]
          refine wpAnyH_ready (rs := [32]) (by kernel_rfl) (by simp) (AllReadyH.cons (o := ⟨some 77, _, _, _, _, _⟩) rfl (fun K hK => ?_) AllReadyH.nil)
          go_simp
          refine (stop_any ⟨⟨g0, e0, l0⟩, A0, n0, c0⟩  _ R0 (by show n0 * 32 ≤ _; omega)).mono ?_
          rintro e w13 ⟨rfl, hb⟩
          replace R0 := R0.belowH hb
          replace Rx := Rx.belowH hb
          replace Ry := Ry.belowH hb
          replace X := X.belowH hb
          replace Ab := Ab.belowH hb
          replace Bb := Bb.belowH hb
          replace b := b.trans (hb.mono b.size)
          clear hb
          go_simp
          refine hK.out _ _ (by exact ⟨⟨X.at 0 rfl, X.at 1 rfl, X.at 2 rfl⟩, ⟨Ab.at 0 rfl, Ab.at 1 rfl, Ab.at 2 rfl⟩, ⟨Bb.at 0 rfl, Bb.at 1 rfl, Bb.at 2 rfl⟩⟩) (fun hHeld6 => ?_)
          clear hK hHeld5 K
          try simp only [Act.put, List.setIfInBounds_toArray, List.set_cons_zero, List.set_cons_succ]
          refine wpAnyH_take (i := 33) (oi := ⟨some 78, _, _, _, _, _⟩) (v := ?_) rfl (by kernel_rfl) (by kernel_rfl) (by kernel_rfl) (fun _ _ _ h => h) (Or.inl ⟨by rfl, ?_⟩) hHeld6 ?_
          rotate_left
          · (intro w' hSw; (try dsimp only at hSw); go_simp; all_goals (with_reducible rfl))
          try simp only [Act.put, List.setIfInBounds_toArray, List.set_cons_zero, List.set_cons_succ]
          refine wpAnyH_take (i := 34) (oi := ⟨some 79, _, _, _, _, _⟩) (v := ?_) rfl (by kernel_rfl) (by kernel_rfl) (by kernel_rfl) (fun _ _ _ h => h) (Or.inl ⟨by rfl, ?_⟩) hHeld6 ?_
          rotate_left
          · (intro w' hSw; (try dsimp only at hSw); go_simp; all_goals (with_reducible rfl))
          try simp only [Act.put, List.setIfInBounds_toArray, List.set_cons_zero, List.set_cons_succ]
          refine wpAnyH_take (i := 35) (oi := ⟨some 80, _, _, _, _, _⟩) (v := ?_) rfl (by kernel_rfl) (by kernel_rfl) (by kernel_rfl) (fun _ _ _ h => h) (Or.inl ⟨by rfl, ?_⟩) hHeld6 ?_
          rotate_left
          · (intro w' hSw; (try dsimp only at hSw); go_simp; all_goals (with_reducible rfl))
          try simp only [Act.put, List.setIfInBounds_toArray, List.set_cons_zero, List.set_cons_succ]
          refine wpAnyH_take (i := 36) (oi := ⟨some 81, _, _, _, _, _⟩) (v := ?_) rfl (by kernel_rfl) (by kernel_rfl) (by kernel_rfl) (fun _ _ _ h => h) (Or.inl ⟨by rfl, ?_⟩) hHeld6 ?_
          rotate_left
          · (intro w' hSw; (try dsimp only at hSw); go_simp; all_goals (with_reducible rfl))
          try simp only [Act.put, List.setIfInBounds_toArray, List.set_cons_zero, List.set_cons_succ]
          refine wpAnyH_take (i := 37) (oi := ⟨some 82, _, _, _, _, _⟩) (v := ?_) rfl (by kernel_rfl) (by kernel_rfl) (by kernel_rfl) (fun _ _ _ h => h) (Or.inl ⟨by rfl, ?_⟩) hHeld6 ?_
          rotate_left
          · (intro w' hSw; (try dsimp only at hSw); go_simp; all_goals (with_reducible rfl))
          try simp only [Act.put, List.setIfInBounds_toArray, List.set_cons_zero, List.set_cons_succ]
          refine wpAnyH_take (i := 39) (oi := ⟨some 84, _, _, _, _, _⟩) (v := ?_) rfl (by kernel_rfl) (by kernel_rfl) (by kernel_rfl) (fun _ _ _ h => h) (Or.inl ⟨by rfl, ?_⟩) hHeld6 ?_
          rotate_left
          · (intro w' hSw; (try dsimp only at hSw); go_simp; all_goals (with_reducible rfl))
          try simp only [Act.put, List.setIfInBounds_toArray, List.set_cons_zero, List.set_cons_succ]
          refine wpAnyH_ready (rs := [38]) (by kernel_rfl) (by simp) (AllReadyH.cons (o := ⟨some 83, _, _, _, _, _⟩) rfl (fun K hK => ?_) AllReadyH.nil)
          go_simp
          refine (stop_any ⟨sy, Ay, ny, cy⟩  _ Ry (by show ny * 32 ≤ _; omega)).mono ?_
          rw [show S.top sy = S.top ⟨g0, e0, l0⟩ + 1 by rw [Hy.out]; exact S.top_beaten _]
          rintro e w14 ⟨rfl, hb⟩
          replace R0 := R0.belowH hb
          replace Rx := Rx.belowH hb
          replace Ry := Ry.belowH hb
          replace X := X.belowH hb
          replace Ab := Ab.belowH hb
          replace Bb := Bb.belowH hb
          replace b := b.trans (hb.mono b.size)
          clear hb
          go_simp
          refine hK.out _ _ (by exact ⟨⟨X.at 0 rfl, X.at 1 rfl, X.at 2 rfl⟩, ⟨Ab.at 0 rfl, Ab.at 1 rfl, Ab.at 2 rfl⟩, ⟨Bb.at 0 rfl, Bb.at 1 rfl, Bb.at 2 rfl⟩⟩) (fun hHeld7 => ?_)
          clear hK hHeld6 K
          try simp only [Act.put, List.setIfInBounds_toArray, List.set_cons_zero, List.set_cons_succ]
          refine wpAnyH_ready (rs := [40]) (by kernel_rfl) (by simp) (AllReadyH.cons (o := ⟨some 85, _, _, _, _, _⟩) rfl (fun K hK => ?_) AllReadyH.nil)
          go_simp
          refine (stop_any ⟨⟨g0, e0, l0⟩, A0, n0, c0⟩  _ R0 (by show n0 * 32 ≤ _; omega)).mono ?_
          rintro e w15 ⟨rfl, hb⟩
          replace R0 := R0.belowH hb
          replace Rx := Rx.belowH hb
          replace Ry := Ry.belowH hb
          replace X := X.belowH hb
          replace Ab := Ab.belowH hb
          replace Bb := Bb.belowH hb
          replace b := b.trans (hb.mono b.size)
          clear hb
          go_simp
          refine hK.out _ _ (by exact ⟨⟨X.at 0 rfl, X.at 1 rfl, X.at 2 rfl⟩, ⟨Ab.at 0 rfl, Ab.at 1 rfl, Ab.at 2 rfl⟩, ⟨Bb.at 0 rfl, Bb.at 1 rfl, Bb.at 2 rfl⟩⟩) (fun hHeld8 => ?_)
          clear hK hHeld7 K
          try simp only [Act.put, List.setIfInBounds_toArray, List.set_cons_zero, List.set_cons_succ]
          refine wpAnyH_take (i := 41) (oi := ⟨some 86, _, _, _, _, _⟩) (v := ?_) rfl (by kernel_rfl) (by kernel_rfl) (by kernel_rfl) (fun _ _ _ h => h) (Or.inl ⟨by rfl, ?_⟩) hHeld8 ?_
          rotate_left
          · (intro w' hSw; (try dsimp only at hSw); go_simp; all_goals (with_reducible rfl))
          try simp only [Act.put, List.setIfInBounds_toArray, List.set_cons_zero, List.set_cons_succ]
          refine wpAnyH_take (i := 42) (oi := ⟨some 87, _, _, _, _, _⟩) (v := ?_) rfl (by kernel_rfl) (by kernel_rfl) (by kernel_rfl) (fun _ _ _ h => h) (Or.inl ⟨by rfl, ?_⟩) hHeld8 ?_
          rotate_left
          · (intro w' hSw; (try dsimp only at hSw); go_simp; all_goals (with_reducible rfl))
          try simp only [Act.put, List.setIfInBounds_toArray, List.set_cons_zero, List.set_cons_succ]
          refine wpAnyH_take (i := 43) (oi := ⟨some 88, _, _, _, _, _⟩) (v := ?_) rfl (by kernel_rfl) (by kernel_rfl) (by kernel_rfl) (fun _ _ _ h => h) (Or.inl ⟨by rfl, ?_⟩) hHeld8 ?_
          rotate_left
          · (intro w' hSw; (try dsimp only at hSw); go_simp; all_goals (with_reducible rfl))
          try simp only [Act.put, List.setIfInBounds_toArray, List.set_cons_zero, List.set_cons_succ]
          refine wpAnyH_take (i := 44) (oi := ⟨some 89, _, _, _, _, _⟩) (v := ?_) rfl (by kernel_rfl) (by kernel_rfl) (by kernel_rfl) (fun _ _ _ h => h) (Or.inl ⟨by rfl, ?_⟩) hHeld8 ?_
          rotate_left
          · (intro w' hSw; (try dsimp only at hSw); go_simp; all_goals (with_reducible rfl))
          try simp only [Act.put, List.setIfInBounds_toArray, List.set_cons_zero, List.set_cons_succ]
          refine wpAnyH_take (i := 45) (oi := ⟨some 90, _, _, _, _, _⟩) (v := ?_) rfl (by kernel_rfl) (by kernel_rfl) (by kernel_rfl) (fun _ _ _ h => h) (Or.inl ⟨by rfl, ?_⟩) hHeld8 ?_
          rotate_left
          · (intro w' hSw; (try dsimp only at hSw); go_simp; all_goals (with_reducible rfl))
          try simp only [Act.put, List.setIfInBounds_toArray, List.set_cons_zero, List.set_cons_succ]
          refine wpAnyH_ready (rs := [46]) (by kernel_rfl) (by simp) (AllReadyH.cons (o := ⟨some 91, _, _, _, _, _⟩) rfl (fun K hK => ?_) AllReadyH.nil)
          go_simp
          refine (sright_any ⟨sx, Ax, nx, cx⟩  _ Rx (by show nx * 32 ≤ _; omega)).mono ?_
          rw [srightB_yes (show S.right sx by rw [Hx.out]; exact S.put_right HR0.out HM2.out)]
          rintro e w16 ⟨rfl, hb⟩
          replace R0 := R0.belowH hb
          replace Rx := Rx.belowH hb
          replace Ry := Ry.belowH hb
          replace X := X.belowH hb
          replace Ab := Ab.belowH hb
          replace Bb := Bb.belowH hb
          replace b := b.trans (hb.mono b.size)
          clear hb
          go_simp
          refine hK.out _ _ (by exact ⟨⟨X.at 0 rfl, X.at 1 rfl, X.at 2 rfl⟩, ⟨Ab.at 0 rfl, Ab.at 1 rfl, Ab.at 2 rfl⟩, ⟨Bb.at 0 rfl, Bb.at 1 rfl, Bb.at 2 rfl⟩⟩) (fun hHeld9 => ?_)
          clear hK hHeld8 K
          try simp only [Act.put, List.setIfInBounds_toArray, List.set_cons_zero, List.set_cons_succ]
          refine wpAnyH_take (i := 47) (oi := ⟨some 92, _, _, _, _, _⟩) (v := ?_) rfl (by kernel_rfl) (by kernel_rfl) (by kernel_rfl) (fun _ _ _ h => h) (Or.inl ⟨by rfl, ?_⟩) hHeld9 ?_
          rotate_left
          · (intro w' hSw; (try dsimp only at hSw); go_simp; all_goals (with_reducible rfl))
          try simp only [Act.put, List.setIfInBounds_toArray, List.set_cons_zero, List.set_cons_succ]
          refine wpAnyH_take (i := 48) (oi := ⟨some 93, _, _, _, _, _⟩) (v := ?_) rfl (by kernel_rfl) (by kernel_rfl) (by kernel_rfl) (fun _ _ _ h => h) (Or.inl ⟨by rfl, ?_⟩) hHeld9 ?_
          rotate_left
          · (intro w' hSw; (try dsimp only at hSw); go_simp; all_goals (with_reducible rfl))
          try simp only [Act.put, List.setIfInBounds_toArray, List.set_cons_zero, List.set_cons_succ]
          refine wpAnyH_take (i := 49) (oi := ⟨some 94, _, _, _, _, _⟩) (v := ?_) rfl (by kernel_rfl) (by kernel_rfl) (by kernel_rfl) (fun _ _ _ h => h) (Or.inl ⟨by rfl, ?_⟩) hHeld9 ?_
          rotate_left
          · (intro w' hSw; (try dsimp only at hSw); go_simp; all_goals (with_reducible rfl))
          try simp only [Act.put, List.setIfInBounds_toArray, List.set_cons_zero, List.set_cons_succ]
          refine wpAnyH_ready (rs := [50]) (by kernel_rfl) (by simp) (AllReadyH.cons (o := ⟨some 95, _, _, _, _, _⟩) rfl (fun K hK => ?_) AllReadyH.nil)
          go_simp
          refine (sright_any ⟨sy, Ay, ny, cy⟩  _ Ry (by show ny * 32 ≤ _; omega)).mono ?_
          rw [srightB_yes (show S.right sy by rw [Hy.out]; exact S.beaten_right HR0.out HTT.out)]
          rintro e w17 ⟨rfl, hb⟩
          replace R0 := R0.belowH hb
          replace Rx := Rx.belowH hb
          replace Ry := Ry.belowH hb
          replace X := X.belowH hb
          replace Ab := Ab.belowH hb
          replace Bb := Bb.belowH hb
          replace b := b.trans (hb.mono b.size)
          clear hb
          go_simp
          refine hK.out _ _ (by exact ⟨⟨X.at 0 rfl, X.at 1 rfl, X.at 2 rfl⟩, ⟨Ab.at 0 rfl, Ab.at 1 rfl, Ab.at 2 rfl⟩, ⟨Bb.at 0 rfl, Bb.at 1 rfl, Bb.at 2 rfl⟩⟩) (fun hHeld10 => ?_)
          clear hK hHeld9 K
          try simp only [Act.put, List.setIfInBounds_toArray, List.set_cons_zero, List.set_cons_succ]
          refine wpAnyH_take (i := 51) (oi := ⟨some 96, _, _, _, _, _⟩) (v := ?_) rfl (by kernel_rfl) (by kernel_rfl) (by kernel_rfl) (fun _ _ _ h => h) (Or.inl ⟨by rfl, ?_⟩) hHeld10 ?_
          rotate_left
          · (intro w' hSw; (try dsimp only at hSw); go_simp; all_goals (with_reducible rfl))
          try simp only [Act.put, List.setIfInBounds_toArray, List.set_cons_zero, List.set_cons_succ]
          refine wpAnyH_take (i := 52) (oi := ⟨some 6, _, _, _, _, _⟩) (v := ?_) rfl (by kernel_rfl) (by kernel_rfl) (by kernel_rfl) (fun _ _ _ h => h) (Or.inl ⟨by rfl, ?_⟩) hHeld10 ?_
          rotate_left
          · (intro w' hSw; (try dsimp only at hSw); go_simp; all_goals (with_reducible rfl))
          try simp only [Act.put, List.setIfInBounds_toArray, List.set_cons_zero, List.set_cons_succ]
          refine wpAnyH_done (by kernel_rfl) ?_ _
          go_wp2
          go_ret
          exact ⟨rfl, b⟩
    · have hsz : (strB u).size = u.length := HU.out
      have hlb : decide ((200 : Int) < (((strB u).size : Nat) : Int)) = true := decide_eq_true (by rw [hsz]; omega)
      go_wp2
      go_ret
      exact ⟨rfl, b⟩
  · go_wp2
    go_ret
    exact ⟨rfl, b⟩
end Go.Proofs.Ytfpfpepejocjfaa
