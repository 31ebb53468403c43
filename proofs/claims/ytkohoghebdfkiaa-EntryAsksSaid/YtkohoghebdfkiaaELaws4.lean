/- EntryAsks walks. -/
import Derived.Test.YtkohoghebdfkiaaELaws
namespace Go.Proofs.Ytkohoghebdfkiaa
set_option linter.unusedVariables false
set_option linter.unusedSimpArgs false
open Go.RowKit

def dv (o : Option Ent) : Ent := o.getD ⟨0, 0, []⟩
theorem getV_eq (o : Option Ent) : getV o = .tuple #[.agg #[.int .i64 (dv o).key, .int .i64 (dv o).ver, .string (strB (dv o).val)], .bool o.isSome] := by cases o <;> rfl
theorem eqB_self (x : Ent) : eqB x x = true := decide_eq_true rfl
theorem raboves_made (l : List Ent) (v : Int) (A : Option Addr) (n c B : Nat) (w : World) (h : Rd w B 3 A n (EC l)) (hB : B ≤ w.heap.size) (hn : n * 32 ≤ 140737488351232) :
    Calls Try.prog 16 #[.slice A n c, .int .i64 v] w (Made w (E.aboves l v)) :=
  (raboves_any l v A n c B w h hB hn).mono fun e w' ⟨A', c', he, ho, hb⟩ => ⟨A', _, c', he, rfl, ho, hb⟩

set_option maxHeartbeats 8000000 in
set_option maxRecDepth 100000 in
theorem law_EntryAsks (A0 : Option Addr) (n0 c0 : Nat) (l0 : List Ent) (A1 : Option Addr) (n1 c1 : Nat) (l1 : List Ent) (a2 : Int) (W : World) (t0 : TableIn W A0 n0 c0 l0) (t1 : TableIn W A1 n1 c1 l1) (w2 : (Lit.int .i64 a2).wf = true) :
    Calls Try.prog 3 #[.slice A0 n0 c0, .slice A1 n1 c1, .int .i64 a2] W fun e w' => e = .returned (.bool true) ∧ Below W.heap.size W w' := by
  obtain ⟨R0, _, _, hn0, hv0⟩ := t0
  have HL0 := Lib.hid R0.lenE
  have HV0 := Lib.hid (fun x hx => (hv0 x hx).1)
  clear hv0
  obtain ⟨R1, _, _, hn1, hv1⟩ := t1
  have HL1 := Lib.hid R1.lenE
  have HV1 := Lib.hid (fun x hx => (hv1 x hx).1)
  clear hv1
  have b := Below.refl W.heap.size W
  go_enter Try.func3, Try.ntmps3
  go_wp2_with fail
  refine (alive_any _).mono ?_
  rintro e w2 ⟨rfl, hb⟩
  replace R0 := R0.belowH hb
  replace R1 := R1.belowH hb
  replace b := b.trans (hb.mono b.size)
  clear hb
  go_wp2_with fail
  refine (rgreat_any l0 A0 n0 c0 _ _ R0 (by omega) HV0.out).mono ?_
  rintro e w3 ⟨rfl, rfl⟩
  rcases hg0 : E.great l0
  · skip
    go_wp2_with fail
    refine (rgreat_any l1 A1 n1 c1 _ _ R1 (by omega) HV1.out).mono ?_
    rintro e w4 ⟨rfl, rfl⟩
    rcases hg1 : E.great l1
    · skip
      have hs0 := great_small hg0 HL0.out
      clear hg0
      have hs1 := great_small hg1 HL1.out
      clear hg1
      go_wp2_with fail
      refine (get_any l0 a2 A0 n0 c0 _ _ R0 (Nat.le_refl _) hn0).mono ?_
      rintro e w5 ⟨rfl, hb⟩
      replace R0 := R0.belowH hb
      replace R1 := R1.belowH hb
      replace b := b.trans (hb.mono b.size)
      clear hb
      rw [getV_eq]
      replace R0 := R0.allocH (.cells #[.int .i64 (dv (E.get l0 a2)).key, .int .i64 (dv (E.get l0 a2)).ver, .string (strB (dv (E.get l0 a2)).val)] 26)
      replace R1 := R1.allocH (.cells #[.int .i64 (dv (E.get l0 a2)).key, .int .i64 (dv (E.get l0 a2)).ver, .string (strB (dv (E.get l0 a2)).val)] 26)
      have X := Box.new w5 #[.int .i64 (dv (E.get l0 a2)).key, .int .i64 (dv (E.get l0 a2)).ver, .string (strB (dv (E.get l0 a2)).val)] 26
      replace b := b.alloc b.size (.cells #[.int .i64 (dv (E.get l0 a2)).key, .int .i64 (dv (E.get l0 a2)).ver, .string (strB (dv (E.get l0 a2)).val)] 26)
      go_wp2_with fail
      refine (rget_any l0 a2 A0 n0 c0 _ _ R0 (Nat.le_refl _) hn0).mono ?_
      rintro e w6 ⟨rfl, hb⟩
      replace R0 := R0.belowH hb
      replace R1 := R1.belowH hb
      replace X := X.belowH hb
      replace b := b.trans (hb.mono b.size)
      clear hb
      rw [getV_eq]
      replace R0 := R0.allocH (.cells #[.int .i64 (dv (E.get l0 a2)).key, .int .i64 (dv (E.get l0 a2)).ver, .string (strB (dv (E.get l0 a2)).val)] 26)
      replace R1 := R1.allocH (.cells #[.int .i64 (dv (E.get l0 a2)).key, .int .i64 (dv (E.get l0 a2)).ver, .string (strB (dv (E.get l0 a2)).val)] 26)
      replace X := X.alloc (.cells #[.int .i64 (dv (E.get l0 a2)).key, .int .i64 (dv (E.get l0 a2)).ver, .string (strB (dv (E.get l0 a2)).val)] 26)
      have Y := Box.new w6 #[.int .i64 (dv (E.get l0 a2)).key, .int .i64 (dv (E.get l0 a2)).ver, .string (strB (dv (E.get l0 a2)).val)] 26
      replace b := b.alloc b.size (.cells #[.int .i64 (dv (E.get l0 a2)).key, .int .i64 (dv (E.get l0 a2)).ver, .string (strB (dv (E.get l0 a2)).val)] 26)
      go_wp2
      have hxl := X.lt
      have hyl := Y.lt
      generalize (w6.alloc (.cells #[.int .i64 (dv (E.get l0 a2)).key, .int .i64 (dv (E.get l0 a2)).ver, .string (strB (dv (E.get l0 a2)).val)] 26)) = w5 at *
      go_loopw [11] (fun i wr => ∃ k : Nat, k ≤ n0 ∧ i = .int .i64 k ∧ Below w5.heap.size w5 wr) (fun i _ => n0 - (intOf i).toNat)
      case atStart => exact ⟨0, by omega, rfl, Below.refl _ _⟩
      case round =>
        obtain ⟨k, hk, rfl, hbr⟩ := hrel
        by_cases hlt : k < n0
        · have R0' := R0.belowH hbr
          obtain ⟨bb, o, y, e, hb0, hy, d0, d1, d2⟩ := R0'.atE hlt
          subst e
          have hk0 : (0 : Int) ≤ (k : Int) := by omega
          clear hy R0'
          go_wp2
          refine wp_region_held_drew (S := (fun w' => w'.cell? ⟨bb, o + k * 3, none⟩ = some (.int .i64 y.key) ∧ w'.cell? ⟨bb, o + k * 3 + 1, none⟩ = some (.int .i64 y.ver) ∧ w'.cell? ⟨bb, o + k * 3 + 2, none⟩ = some (.string (strB y.val)))) (by kernel_rfl) (by first | exact ⟨d0, d1, d2⟩ | exact ⟨p0.trans d0, p1.trans d1, p2.trans d2⟩ | exact ⟨q0.trans (p0.trans d0), q1.trans (p1.trans d1), q2.trans (p2.trans d2)⟩) (fun hHeld0 => ?_)
          refine wpAnyH_take (i := 0) (oi := ⟨some 38, _, _, _, _, _⟩) (v := ?_) rfl (by kernel_rfl) (by kernel_rfl) (by kernel_rfl) (fun _ _ _ h => h) (Or.inl ⟨by rfl, ?_⟩) hHeld0 ?_
          rotate_left
          · (intro w' hSw; (try dsimp only at hSw); go_simp; all_goals (with_reducible rfl))
          try simp only [Act.put, List.setIfInBounds_toArray, List.set_cons_zero, List.set_cons_succ]
          refine wpAnyH_take (i := 1) (oi := ⟨some 39, _, _, _, _, _⟩) (v := ?_) rfl (by kernel_rfl) (by kernel_rfl) (by kernel_rfl) (fun _ _ _ h => h) (Or.inl ⟨by rfl, ?_⟩) hHeld0 ?_
          rotate_left
          · (intro w' hSw; (try dsimp only at hSw); go_simp; all_goals (with_reducible rfl))
          try simp only [Act.put, List.setIfInBounds_toArray, List.set_cons_zero, List.set_cons_succ]
          refine wpAnyH_take (i := 2) (oi := ⟨some 40, _, _, _, _, _⟩) (v := ?_) rfl (by kernel_rfl) (by kernel_rfl) (by kernel_rfl) (fun _ _ _ h => h) (Or.inl ⟨by rfl, ?_⟩) hHeld0 ?_
          rotate_left
          · (intro w' hSw; (try dsimp only at hSw); go_simp; all_goals (with_reducible rfl))
          try simp only [Act.put, List.setIfInBounds_toArray, List.set_cons_zero, List.set_cons_succ]
          refine wpAnyH_take (i := 3) (oi := ⟨some 41, _, _, _, _, _⟩) (v := ?_) rfl (by kernel_rfl) (by kernel_rfl) (by kernel_rfl) (fun _ _ _ h => h) (Or.inl ⟨by rfl, ?_⟩) hHeld0 ?_
          rotate_left
          · (intro w' hSw; (try dsimp only at hSw); go_simp; all_goals (with_reducible rfl))
          try simp only [Act.put, List.setIfInBounds_toArray, List.set_cons_zero, List.set_cons_succ]
          refine wpAnyH_take (i := 5) (oi := ⟨some 43, _, _, _, _, _⟩) (v := ?_) rfl (by kernel_rfl) (by kernel_rfl) (by kernel_rfl) (fun _ _ _ h => h) (Or.inl ⟨by rfl, ?_⟩) hHeld0 ?_
          rotate_left
          · (intro w' hSw; (try dsimp only at hSw); go_simp; all_goals (with_reducible rfl))
          try simp only [Act.put, List.setIfInBounds_toArray, List.set_cons_zero, List.set_cons_succ]
          refine wpAnyH_take (i := 6) (oi := ⟨some 44, _, _, _, _, _⟩) (v := ?_) rfl (by kernel_rfl) (by kernel_rfl) (by kernel_rfl) (fun _ _ _ h => h) (Or.inl ⟨by rfl, ?_⟩) hHeld0 ?_
          rotate_left
          · (intro w' hSw; (try dsimp only at hSw); go_simp; all_goals (with_reducible rfl))
          try simp only [Act.put, List.setIfInBounds_toArray, List.set_cons_zero, List.set_cons_succ]
          refine wpAnyH_take (i := 7) (oi := ⟨some 45, _, _, _, _, _⟩) (v := ?_) rfl (by kernel_rfl) (by kernel_rfl) (by kernel_rfl) (fun _ _ _ h => h) (Or.inl ⟨by rfl, ?_⟩) hHeld0 ?_
          rotate_left
          · (intro w' hSw; (try dsimp only at hSw); go_simp; all_goals (with_reducible rfl))
          try simp only [Act.put, List.setIfInBounds_toArray, List.set_cons_zero, List.set_cons_succ]
          refine wpAnyH_take (i := 8) (oi := ⟨some 46, _, _, _, _, _⟩) (v := ?_) rfl (by kernel_rfl) (by kernel_rfl) (by kernel_rfl) (fun _ _ _ h => h) (Or.inl ⟨by rfl, ?_⟩) hHeld0 ?_
          rotate_left
          · (intro w' hSw; (try dsimp only at hSw); go_simp; all_goals (with_reducible rfl))
          try simp only [Act.put, List.setIfInBounds_toArray, List.set_cons_zero, List.set_cons_succ]
          refine wpAnyH_ready (rs := [4]) (by kernel_rfl) (by simp) (AllReadyH.cons (o := ⟨some 42, _, _, _, _, _⟩) rfl (fun K hK => ?_) AllReadyH.nil)
          go_simp
          refine (may_any y _).mono ?_
          rintro e w6 ⟨rfl, hb6⟩
          have p0 := hb6.cell (p := ⟨bb, o + k * 3, none⟩) (by show bb < wr.heap.size; omega)
          have p1 := hb6.cell (p := ⟨bb, o + k * 3 + 1, none⟩) (by show bb < wr.heap.size; omega)
          have p2 := hb6.cell (p := ⟨bb, o + k * 3 + 2, none⟩) (by show bb < wr.heap.size; omega)
          have hs6 : wr.heap.size ≤ w6.heap.size := hb6.size
          go_simp
          refine hK.out _ _ (by first | exact ⟨d0, d1, d2⟩ | exact ⟨p0.trans d0, p1.trans d1, p2.trans d2⟩ | exact ⟨q0.trans (p0.trans d0), q1.trans (p1.trans d1), q2.trans (p2.trans d2)⟩) (fun hHeld1 => ?_)
          clear hK hHeld0 K
          try simp only [Act.put, List.setIfInBounds_toArray, List.set_cons_zero, List.set_cons_succ]
          refine wpAnyH_ready (rs := [9]) (by kernel_rfl) (by simp) (AllReadyH.cons (o := ⟨some 47, _, _, _, _, _⟩) rfl (fun K hK => ?_) AllReadyH.nil)
          go_simp
          refine (rmay_any y _).mono ?_
          rintro e w7 ⟨rfl, hb7⟩
          have q0 := hb7.cell (p := ⟨bb, o + k * 3, none⟩) (by show bb < w6.heap.size; omega)
          have q1 := hb7.cell (p := ⟨bb, o + k * 3 + 1, none⟩) (by show bb < w6.heap.size; omega)
          have q2 := hb7.cell (p := ⟨bb, o + k * 3 + 2, none⟩) (by show bb < w6.heap.size; omega)
          go_simp
          refine hK.out _ _ (by first | exact ⟨d0, d1, d2⟩ | exact ⟨p0.trans d0, p1.trans d1, p2.trans d2⟩ | exact ⟨q0.trans (p0.trans d0), q1.trans (p1.trans d1), q2.trans (p2.trans d2)⟩) (fun hHeld2 => ?_)
          clear hK hHeld1 K
          try simp only [Act.put, List.setIfInBounds_toArray, List.set_cons_zero, List.set_cons_succ]
          refine wpAnyH_take (i := 10) (oi := ⟨some 48, _, _, _, _, _⟩) (v := ?_) rfl (by kernel_rfl) (by kernel_rfl) (by kernel_rfl) (fun _ _ _ h => h) (Or.inl ⟨by rfl, ?_⟩) hHeld2 ?_
          rotate_left
          · (intro w' hSw; (try dsimp only at hSw); go_simp; all_goals (with_reducible rfl))
          try simp only [Act.put, List.setIfInBounds_toArray, List.set_cons_zero, List.set_cons_succ]
          refine wpAnyH_done (by kernel_rfl) ?_ _
          go_wp2
          go_roundw
          case rel => exact ⟨k + 1, by omega, by go_num, hbr.trans (((Below.refl _ _).drew.trans (hb6.trans (hb7.mono hb6.size))).mono hbr.size)⟩
          case measure => simp [intOf]; omega
        · skip
          have hb := hbr
          replace R0 := R0.belowH hb
          replace R1 := R1.belowH hb
          replace X := X.belowH hb
          replace Y := Y.belowH hb
          replace b := b.trans (hb.mono b.size)
          clear hb hbr hxl hyl
          have y0 := X.at 0 rfl
          have y1 := X.at 1 rfl
          have y2 := X.at 2 rfl
          have z0 := Y.at 0 rfl
          have z1 := Y.at 1 rfl
          have z2 := Y.at 2 rfl
          have heq := fun w => eq_ent (dv (E.get l0 a2)) (dv (E.get l0 a2)) w
          rw [eqB_self] at heq
          have hgd := guard_ent
          go_wp2_with fail
          refine (aboves_any l0 a2 A0 n0 c0 _ _ R0 (Nat.le_refl _) (by omega)).mono ?_
          rintro e w7 ⟨Ap, np, cp, rfl, hm, hown, hb⟩
          have sp : np ≤ n0 := by have := E.aboves_length l0 a2; have := HL0.out; rw [hm]; omega
          have Rp := Rd.of_own hown
          clear hm hown
          replace R0 := R0.belowH hb
          replace R1 := R1.belowH hb
          replace X := X.belowH hb
          replace Y := Y.belowH hb
          replace b := b.trans (hb.mono b.size)
          clear hb
          clear y0 y1 y2 z0 z1 z2 heq hgd X Y
          go_wp2_with fail
          refine (raboves_made l0 a2 A0 n0 c0 _ _ R0 (Nat.le_refl _) (by omega)).mono ?_
          rintro e w8 ⟨Aq, nq, cq, rfl, hm, hown, hb⟩
          have sq : nq ≤ n0 := by have := E.aboves_length l0 a2; have := HL0.out; rw [hm]; omega
          have Rq := Rd.of_own hown
          clear hm hown
          replace R0 := R0.belowH hb
          replace R1 := R1.belowH hb
          replace Rp := Rp.belowH hb
          replace b := b.trans (hb.mono b.size)
          clear hb
          go_wp2_with fail
          refine (rtsame_any (E.aboves l0 a2) (E.aboves l0 a2) Ap Aq np nq cp cq _ _ _ Rp Rq (by omega) (by omega)).mono ?_
          rw [decide_eq_true rfl]
          rintro e w9 ⟨rfl, q, hq⟩
          have hb := below_of_drew hq
          clear hq
          replace R0 := R0.belowH hb
          replace R1 := R1.belowH hb
          replace Rp := Rp.belowH hb
          replace Rq := Rq.belowH hb
          replace b := b.trans (hb.mono b.size)
          clear hb
          go_wp2_with fail
          refine (top_any l0 A0 n0 c0 _ _ R0 (Nat.le_refl _) (by omega)).mono ?_
          rintro e w10 ⟨rfl, hb⟩
          replace R0 := R0.belowH hb
          replace R1 := R1.belowH hb
          replace Rp := Rp.belowH hb
          replace Rq := Rq.belowH hb
          replace b := b.trans (hb.mono b.size)
          clear hb
          go_wp2_with fail
          refine (rtop_any l0 A0 n0 c0 _ _ R0 (by omega)).mono ?_
          rintro e w11 ⟨rfl, rfl⟩
          go_wp2_with fail
          refine (right_any l0 A0 n0 c0 _ _ R0 (Nat.le_refl _) hn0).mono ?_
          rintro e w12 ⟨rfl, hb⟩
          replace R0 := R0.belowH hb
          replace R1 := R1.belowH hb
          replace Rp := Rp.belowH hb
          replace Rq := Rq.belowH hb
          replace b := b.trans (hb.mono b.size)
          clear hb
          go_wp2_with fail
          refine (rright_any l0 A0 n0 c0 _ _ R0 (Nat.le_refl _) hn0).mono ?_
          rintro e w13 ⟨rfl, hb⟩
          replace R0 := R0.belowH hb
          replace R1 := R1.belowH hb
          replace Rp := Rp.belowH hb
          replace Rq := Rq.belowH hb
          replace b := b.trans (hb.mono b.size)
          clear hb
          go_wp2_with fail
          refine (same_any l0 l1 A0 A1 n0 n1 c0 c1 _ _ _ R0 R1 (by omega) (by omega)).mono ?_
          rintro e w14 ⟨rfl, q, hq⟩
          have hb := below_of_drew hq
          clear hq
          replace R0 := R0.belowH hb
          replace R1 := R1.belowH hb
          replace Rp := Rp.belowH hb
          replace Rq := Rq.belowH hb
          replace b := b.trans (hb.mono b.size)
          clear hb
          go_wp2_with fail
          refine (rtsame_any l0 l1 A0 A1 n0 n1 c0 c1 _ _ _ R0 R1 (by omega) (by omega)).mono ?_
          rintro e w15 ⟨rfl, q, hq⟩
          have hb := below_of_drew hq
          clear hq
          replace R0 := R0.belowH hb
          replace R1 := R1.belowH hb
          replace Rp := Rp.belowH hb
          replace Rq := Rq.belowH hb
          replace b := b.trans (hb.mono b.size)
          clear hb
          go_wp2_with fail
          refine (same_any l0 l0 A0 A0 n0 n0 c0 c0 _ _ _ R0 R0 (by omega) (by omega)).mono ?_
          rw [decide_eq_true rfl]
          rintro e w16 ⟨rfl, q, hq⟩
          have hb := below_of_drew hq
          clear hq
          replace R0 := R0.belowH hb
          replace R1 := R1.belowH hb
          replace Rp := Rp.belowH hb
          replace Rq := Rq.belowH hb
          replace b := b.trans (hb.mono b.size)
          clear hb
          go_wp2
          go_ret
          exact ⟨rfl, b⟩
    · go_wp2
      go_ret
      exact ⟨rfl, b⟩
  · go_wp2
    go_ret
    exact ⟨rfl, b⟩
end Go.Proofs.Ytkohoghebdfkiaa
