/- The code's Set on states. -/
import Derived.Test.YtfpfpepejocjfaaTCode5
namespace Go.Proofs.Ytfpfpepejocjfaa
set_option linter.unusedVariables false
set_option linter.unusedSimpArgs false
open Go.RowKit

set_option maxHeartbeats 2000000 in
set_option maxRecDepth 20000 in
theorem sset_any (v : Sv) (k : Int) (u : List UInt8) (w : World) (h : SRd w v) (hn : v.n ≤ 400000) (hu : u.length ≤ 140737488351232) :
    Calls Try.prog 21 #[sv v, .int .i64 k, .string (strB u)] w (MadeE w (sset v.s k u)) := by
  obtain ⟨⟨g, t, l⟩, A, n, c⟩ := v
  simp only at hn
  have h0 := h
  have H0 := Lib.hid h0
  clear h0
  simp only [sv]
  replace h := h.alloc (.cells #[.int .i64 g, .int .i64 t, .slice A n c] 24)
  have X := Box.new w #[.int .i64 g, .int .i64 t, .slice A n c] 24
  have hb : Below w.heap.size w (w.alloc (.cells #[.int .i64 g, .int .i64 t, .slice A n c] 24)) := (Below.refl _ _).alloc (Nat.le_refl _) _
  replace h := h.alloc (.cells #[.int .i64 0, .int .i64 0, .slice none 0 0] 24)
  replace X := X.alloc (.cells #[.int .i64 0, .int .i64 0, .slice none 0 0] 24)
  have Z := Box.new (w.alloc (.cells #[.int .i64 g, .int .i64 t, .slice A n c] 24)) #[.int .i64 0, .int .i64 0, .slice none 0 0] 24
  rw [show (w.alloc (.cells #[.int .i64 g, .int .i64 t, .slice A n c] 24)).heap.size = w.heap.size + 1 by simp] at Z
  replace hb := hb.alloc hb.size (.cells #[.int .i64 0, .int .i64 0, .slice none 0 0] 24)
  replace h := h.alloc (.cells #[.int .i64 k, .int .i64 1, .string (strB u)] 42)
  replace X := X.alloc (.cells #[.int .i64 k, .int .i64 1, .string (strB u)] 42)
  replace Z := Z.alloc (.cells #[.int .i64 k, .int .i64 1, .string (strB u)] 42)
  have E := Box.new ((w.alloc (.cells #[.int .i64 g, .int .i64 t, .slice A n c] 24)).alloc (.cells #[.int .i64 0, .int .i64 0, .slice none 0 0] 24)) #[.int .i64 k, .int .i64 1, .string (strB u)] 42
  rw [show ((w.alloc (.cells #[.int .i64 g, .int .i64 t, .slice A n c] 24)).alloc (.cells #[.int .i64 0, .int .i64 0, .slice none 0 0] 24)).heap.size = w.heap.size + 1 + 1 by simp] at E
  replace hb := hb.alloc hb.size (.cells #[.int .i64 k, .int .i64 1, .string (strB u)] 42)
  have HS : Hid ((((w.alloc (.cells #[.int .i64 g, .int .i64 t, .slice A n c] 24)).alloc (.cells #[.int .i64 0, .int .i64 0, .slice none 0 0] 24)).alloc (.cells #[.int .i64 k, .int .i64 1, .string (strB u)] 42)).heap.size = w.heap.size + 3) := Lib.hid (by simp)
  replace HS : Hid (w.heap.size + 3 ≤ _) := Lib.hid (Nat.le_of_eq HS.out.symm)
  have v0 := E.at 0 rfl
  have v1 := E.at 1 rfl
  have v2 := E.at 2 rfl
  go_enter Try.func21, Try.ntmps21
  go_wp2_with fail
  generalize ((w.alloc (.cells #[.int .i64 g, .int .i64 t, .slice A n c] 24)).alloc (.cells #[.int .i64 0, .int .i64 0, .slice none 0 0] 24)).alloc (.cells #[.int .i64 k, .int .i64 1, .string (strB u)] 42) = w1 at *
  refine (may_any ⟨k, 1, u⟩ _).mono ?_
  rintro e w2 ⟨rfl, hb2⟩
  clear v0 v1 v2
  have hz := HS.out
  replace X := X.below hb2 (by omega)
  replace Z := Z.below hb2 (by omega)
  replace E := E.below hb2 (by omega)
  replace h := h.belowH hb2
  replace HS : Hid (w.heap.size + 3 ≤ _) := Lib.hid (Nat.le_trans HS.out hb2.size)
  replace hb := hb.trans (hb2.mono hb.size)
  clear hz hb2
  rcases hm : emayB ⟨k, 1, u⟩
  · have HE : Hid (sset ⟨g, t, l⟩ k u = (⟨g, t, l⟩, 1)) := Lib.hid (by unfold sset; rw [if_neg (fun h => of_decide_eq_false hm h.2)])
    clear hm
    have y0 := X.at 0 rfl
    have y1 := X.at 1 rfl
    have y2 := X.at 2 rfl
    go_wp2_with fail
    refine (scopy_any ⟨⟨g, t, l⟩, A, n, c⟩ _ h (by show n ≤ _; omega)).mono ?_
    rintro e2 wc ⟨⟨s2, A2, n2, c2⟩, rfl, hs2, hown, hb2⟩
    simp only at hs2
    subst hs2
    clear y0 y1 y2
    have hbase : w.heap.size + 3 ≤ w2.heap.size := HS.out
    have hown6 : wc.ownsRow w2.heap.size 42 3 (.slice A2 n2 c2) n2 (EC l) := hown
    have hz := HS.out
    replace X := X.below hb2 (by omega)
    replace Z := Z.below hb2 (by omega)
    replace E := E.below hb2 (by omega)
    replace h := h.belowH hb2
    replace HS : Hid (w.heap.size + 3 ≤ _) := Lib.hid (Nat.le_trans HS.out hb2.size)
    replace hb := hb.trans (hb2.mono hb.size)
    clear hz hb2
    have z0 := Z.at 0 rfl
    have z1 := Z.at 1 rfl
    have z2 := Z.at 2 rfl
    have zf := Z.cold
    have z := Z.lt
    simp only [sv]
    go_wp2
    refine bodyPost_ret (v := .tuple #[sv ⟨⟨g, t, l⟩, A2, n2, c2⟩, .int .i64 1]) (by simp [results, Try.results21, go_sem, z0, z1, z2, z, sv]; try rfl) rfl ?_
    refine ⟨⟨⟨g, t, l⟩, A2, n2, c2⟩, by rw [HE.out], by rw [HE.out], ?_, ?_⟩
    · refine Rd.of_own (base := w2.heap.size) (e := 42) (c := c2) ?_
      show World.ownsRow _ _ _ 3 (.slice A2 n2 c2) n2 (EC l)
      repeat (first | (with_reducible exact hown6) | (with_reducible refine own_set ?_ (by omega) _))
    · repeat (first | (with_reducible exact hb) | (with_reducible refine below_set ?_ (by omega) _))
  · have HM := Lib.hid (of_decide_eq_true hm)
    clear hm
    have y0 := X.at 0 rfl
    have y1 := X.at 1 rfl
    have y2 := X.at 2 rfl
    go_wp2_with fail
    refine (snext_any ⟨⟨g, t, l⟩, A, n, c⟩ _ h (by show n ≤ _; omega)).mono ?_
    rintro e w3 ⟨rfl, hb2⟩
    clear y0 y1 y2
    have hz := HS.out
    replace X := X.below hb2 (by omega)
    replace Z := Z.below hb2 (by omega)
    replace E := E.below hb2 (by omega)
    replace h := h.belowH hb2
    replace HS : Hid (w.heap.size + 3 ≤ _) := Lib.hid (Nat.le_trans HS.out hb2.size)
    replace hb := hb.trans (hb2.mono hb.size)
    clear hz hb2
    rcases snext_cases ⟨g, t, l⟩ with ⟨e, hE, he0, _, hB, hc1, hc11⟩ | ⟨hE, hB, hr, ht⟩
    · have HE : Hid (sset ⟨g, t, l⟩ k u = (⟨g, t, l⟩, e)) := Lib.hid (by
        rename_i hor
        unfold sset
        rcases hor with rfl | rfl
        · rw [if_neg (fun h => by have := hc1 rfl; rw [h.1] at this; exact absurd this (by decide))]
        · rw [if_pos ⟨(hc11 rfl).1, HM.out⟩, if_pos (hc11 rfl).2])
      have HX := Lib.hid hE
      have tq : (e != 0) = true := bne_iff_ne.2 he0
      clear hE he0 hB hc1 hc11
      simp only [HX.out]
      have y0 := X.at 0 rfl
      have y1 := X.at 1 rfl
      have y2 := X.at 2 rfl
      go_wp2_with fail
      refine (scopy_any ⟨⟨g, t, l⟩, A, n, c⟩ _ h (by show n ≤ _; omega)).mono ?_
      rintro e2 wc ⟨⟨s2, A2, n2, c2⟩, rfl, hs2, hown, hb2⟩
      simp only at hs2
      subst hs2
      clear y0 y1 y2
      have hbase : w.heap.size + 3 ≤ w3.heap.size := HS.out
      have hown6 : wc.ownsRow w3.heap.size 42 3 (.slice A2 n2 c2) n2 (EC l) := hown
      have hz := HS.out
      replace X := X.below hb2 (by omega)
      replace Z := Z.below hb2 (by omega)
      replace E := E.below hb2 (by omega)
      replace h := h.belowH hb2
      replace HS : Hid (w.heap.size + 3 ≤ _) := Lib.hid (Nat.le_trans HS.out hb2.size)
      replace hb := hb.trans (hb2.mono hb.size)
      clear hz hb2
      have z0 := Z.at 0 rfl
      have z1 := Z.at 1 rfl
      have z2 := Z.at 2 rfl
      have zf := Z.cold
      have z := Z.lt
      simp only [sv]
      go_wp2
      refine bodyPost_ret (v := .tuple #[sv ⟨⟨g, t, l⟩, A2, n2, c2⟩, .int .i64 e]) (by simp [results, Try.results21, go_sem, z0, z1, z2, z, sv]; try rfl) rfl ?_
      refine ⟨⟨⟨g, t, l⟩, A2, n2, c2⟩, by rw [HE.out], by rw [HE.out], ?_, ?_⟩
      · refine Rd.of_own (base := w3.heap.size) (e := 42) (c := c2) ?_
        show World.ownsRow _ _ _ 3 (.slice A2 n2 c2) n2 (EC l)
        repeat (first | (with_reducible exact hown6) | (with_reducible refine own_set ?_ (by omega) _))
      · repeat (first | (with_reducible exact hb) | (with_reducible refine below_set ?_ (by omega) _))
    · have HE : Hid (sset ⟨g, t, l⟩ k u = (S.put ⟨g, t, l⟩ ⟨k, S.top ⟨g, t, l⟩ + 1, u⟩, 0)) := Lib.hid (by unfold sset; rw [if_pos ⟨hr, HM.out⟩, if_neg ht])
      have HRT := Lib.hid (srightB_out hr)
      have HX := Lib.hid hE
      clear hE hB ht hr
      simp only [HX.out]
      have v0 := E.at 0 rfl
      have v1 := E.at 1 rfl
      have v2 := E.at 2 rfl
      have vf := E.cold
      have vz := E.lt
      go_wp2
      clear v0 v1 v2 vf vz
      have hb6 : Below w.heap.size w (w3.setCell ⟨w.heap.size + 1 + 1, 1, none⟩ (.int .i64 (S.top ⟨g, t, l⟩ + 1))) := below_set hb (by omega) _
      have X6 := X.other (b' := w.heap.size + 1 + 1) (o := 1) (by omega) (.int .i64 (S.top ⟨g, t, l⟩ + 1))
      have Z6 := Z.other (b' := w.heap.size + 1 + 1) (o := 1) (by omega) (.int .i64 (S.top ⟨g, t, l⟩ + 1))
      have E6 : Box (w3.setCell ⟨w.heap.size + 1 + 1, 1, none⟩ (.int .i64 (S.top ⟨g, t, l⟩ + 1))) (w.heap.size + 1 + 1) 42 #[.int .i64 k, .int .i64 (S.top ⟨g, t, l⟩ + 1), .string (strB u)] := E.set 1 _
      have hs6 : w.heap.size + 3 ≤ (w3.setCell ⟨w.heap.size + 1 + 1, 1, none⟩ (.int .i64 (S.top ⟨g, t, l⟩ + 1))).heap.size := by have := HS.out; simpa using this
      generalize (w3.setCell ⟨w.heap.size + 1 + 1, 1, none⟩ (.int .i64 (S.top ⟨g, t, l⟩ + 1))) = w6 at *
      have h6 := H0.out.belowH hb6
      clear h hb X Z E HS
      generalize hT : S.top ⟨g, t, l⟩ = T at *
      have HT := Lib.hid hT
      clear hT
      have y0 := X6.at 0 rfl
      have y1 := X6.at 1 rfl
      have y2 := X6.at 2 rfl
      have v0 := E6.at 0 rfl
      have v1 := E6.at 1 rfl
      have v2 := E6.at 2 rfl
      refine wp_region_held_drew (S := (fun w' => (w'.cell? ⟨w.heap.size, 0, none⟩ = some (.int .i64 g) ∧ w'.cell? ⟨w.heap.size, 1, none⟩ = some (.int .i64 t) ∧ w'.cell? ⟨w.heap.size, 2, none⟩ = some (.slice A n c)) ∧ w'.cell? ⟨w.heap.size + 1 + 1, 0, none⟩ = some (.int .i64 k) ∧ w'.cell? ⟨w.heap.size + 1 + 1, 1, none⟩ = some (.int .i64 (T + 1)) ∧ w'.cell? ⟨w.heap.size + 1 + 1, 2, none⟩ = some (.string (strB u)))) (by kernel_rfl) (by first | exact ⟨⟨y0, y1, y2⟩, v0, v1, v2⟩ | exact ⟨⟨(X7).at 0 rfl, (X7).at 1 rfl, (X7).at 2 rfl⟩, (E7).at 0 rfl, (E7).at 1 rfl, (E7).at 2 rfl⟩ | exact ⟨⟨(X7.other3 (by omega) _ _ _).at 0 rfl, (X7.other3 (by omega) _ _ _).at 1 rfl, (X7.other3 (by omega) _ _ _).at 2 rfl⟩, (E7.other3 (by omega) _ _ _).at 0 rfl, (E7.other3 (by omega) _ _ _).at 1 rfl, (E7.other3 (by omega) _ _ _).at 2 rfl⟩) (fun hHeld0 => ?_)
      refine wpAnyH_take (i := 0) (oi := ⟨some 31, _, _, _, _, _⟩) (v := ?_) rfl (by kernel_rfl) (by kernel_rfl) (by kernel_rfl) (fun _ _ _ h => h) (Or.inl ⟨by rfl, ?_⟩) hHeld0 ?_
      rotate_left
      · (intro w' hSw; (try dsimp only at hSw); go_simp; all_goals (with_reducible rfl))
      try simp only [Act.put, List.setIfInBounds_toArray, List.set_cons_zero, List.set_cons_succ]
      refine wpAnyH_take (i := 1) (oi := ⟨some 32, _, _, _, _, _⟩) (v := ?_) rfl (by kernel_rfl) (by kernel_rfl) (by kernel_rfl) (fun _ _ _ h => h) (Or.inl ⟨by rfl, ?_⟩) hHeld0 ?_
      rotate_left
      · (intro w' hSw; (try dsimp only at hSw); go_simp; all_goals (with_reducible rfl))
      try simp only [Act.put, List.setIfInBounds_toArray, List.set_cons_zero, List.set_cons_succ]
      refine wpAnyH_take (i := 2) (oi := ⟨some 33, _, _, _, _, _⟩) (v := ?_) rfl (by kernel_rfl) (by kernel_rfl) (by kernel_rfl) (fun _ _ _ h => h) (Or.inl ⟨by rfl, ?_⟩) hHeld0 ?_
      rotate_left
      · (intro w' hSw; (try dsimp only at hSw); go_simp; all_goals (with_reducible rfl))
      try simp only [Act.put, List.setIfInBounds_toArray, List.set_cons_zero, List.set_cons_succ]
      refine wpAnyH_take (i := 3) (oi := ⟨some 34, _, _, _, _, _⟩) (v := ?_) rfl (by kernel_rfl) (by kernel_rfl) (by kernel_rfl) (fun _ _ _ h => h) (Or.inl ⟨by rfl, ?_⟩) hHeld0 ?_
      rotate_left
      · (intro w' hSw; (try dsimp only at hSw); go_simp; all_goals (with_reducible rfl))
      try simp only [Act.put, List.setIfInBounds_toArray, List.set_cons_zero, List.set_cons_succ]
      refine wpAnyH_take (i := 4) (oi := ⟨some 35, _, _, _, _, _⟩) (v := ?_) rfl (by kernel_rfl) (by kernel_rfl) (by kernel_rfl) (fun _ _ _ h => h) (Or.inl ⟨by rfl, ?_⟩) hHeld0 ?_
      rotate_left
      · (intro w' hSw; (try dsimp only at hSw); go_simp; all_goals (with_reducible rfl))
      try simp only [Act.put, List.setIfInBounds_toArray, List.set_cons_zero, List.set_cons_succ]
      refine wpAnyH_take (i := 5) (oi := ⟨some 36, _, _, _, _, _⟩) (v := ?_) rfl (by kernel_rfl) (by kernel_rfl) (by kernel_rfl) (fun _ _ _ h => h) (Or.inl ⟨by rfl, ?_⟩) hHeld0 ?_
      rotate_left
      · (intro w' hSw; (try dsimp only at hSw); go_simp; all_goals (with_reducible rfl))
      try simp only [Act.put, List.setIfInBounds_toArray, List.set_cons_zero, List.set_cons_succ]
      refine wpAnyH_take (i := 6) (oi := ⟨some 37, _, _, _, _, _⟩) (v := ?_) rfl (by kernel_rfl) (by kernel_rfl) (by kernel_rfl) (fun _ _ _ h => h) (Or.inl ⟨by rfl, ?_⟩) hHeld0 ?_
      rotate_left
      · (intro w' hSw; (try dsimp only at hSw); go_simp; all_goals (with_reducible rfl))
      try simp only [Act.put, List.setIfInBounds_toArray, List.set_cons_zero, List.set_cons_succ]
      refine wpAnyH_ready (rs := [7]) (by kernel_rfl) (by simp) (AllReadyH.cons (o := ⟨some 38, _, _, _, _, _⟩) rfl (fun K hK => ?_) AllReadyH.nil)
      go_simp
      refine (put_any l ⟨k, T + 1, u⟩ A n c _ w6.drew (Rd.drewH h6) (Nat.le_refl _) (by omega) (S.right_rise HRT.out)).mono ?_
      rintro e w7 ⟨A2, n2, c2, rfl, hn2, hown, hb7⟩
      have hb7' : Below w6.heap.size w6 w7 := (Below.refl _ _).drew.trans hb7
      have X7 := X6.below hb7' (by omega)
      have Z7 := Z6.below hb7' (by omega)
      have E7 := E6.below hb7' (by omega)
      have hown' : w7.ownsRow w6.heap.size 42 3 (.slice A2 n2 c2) n2 (EC (E.put l ⟨k, T + 1, u⟩)) := hown
      have z0 := Z7.at 0 rfl
      have z1 := Z7.at 1 rfl
      have z2 := Z7.at 2 rfl
      have zf := Z7.cold
      have z := Z7.lt
      have hb8 := hb6.trans (hb7'.mono hb6.size)
      clear hb7 hb7' hb6 hown y0 y1 y2 v0 v1 v2 X6 Z6 E6 h6 hn2
      have a0 := X7.at 0 rfl
      have a1 := X7.at 1 rfl
      have a2 := X7.at 2 rfl
      go_simp
      refine hK.out _ _ (by first | exact ⟨⟨y0, y1, y2⟩, v0, v1, v2⟩ | exact ⟨⟨(X7).at 0 rfl, (X7).at 1 rfl, (X7).at 2 rfl⟩, (E7).at 0 rfl, (E7).at 1 rfl, (E7).at 2 rfl⟩ | exact ⟨⟨(X7.other3 (by omega) _ _ _).at 0 rfl, (X7.other3 (by omega) _ _ _).at 1 rfl, (X7.other3 (by omega) _ _ _).at 2 rfl⟩, (E7.other3 (by omega) _ _ _).at 0 rfl, (E7.other3 (by omega) _ _ _).at 1 rfl, (E7.other3 (by omega) _ _ _).at 2 rfl⟩) (fun hHeld1 => ?_)
      clear hK hHeld0 K
      try simp only [Act.put, List.setIfInBounds_toArray, List.set_cons_zero, List.set_cons_succ]
      refine wpAnyH_take (i := 8) (oi := ⟨some 39, _, _, _, _, _⟩) (v := ?_) rfl (by kernel_rfl) (by kernel_rfl) (by kernel_rfl) (fun _ _ _ h => h) (Or.inl ⟨by rfl, ?_⟩) hHeld1 ?_
      rotate_left
      · (intro w' hSw; (try dsimp only at hSw); go_simp; all_goals (with_reducible rfl))
      try simp only [Act.put, List.setIfInBounds_toArray, List.set_cons_zero, List.set_cons_succ]
      refine wpAnyH_ready (rs := [9]) (by kernel_rfl) (by simp) (AllReadyH.cons (o := ⟨none, _, _, _, _, _⟩) rfl (fun K hK => ?_) AllReadyH.nil)
      go_simp
      go_simp
      refine hK.out _ _ (by first | exact ⟨⟨y0, y1, y2⟩, v0, v1, v2⟩ | exact ⟨⟨(X7).at 0 rfl, (X7).at 1 rfl, (X7).at 2 rfl⟩, (E7).at 0 rfl, (E7).at 1 rfl, (E7).at 2 rfl⟩ | exact ⟨⟨(X7.other3 (by omega) _ _ _).at 0 rfl, (X7.other3 (by omega) _ _ _).at 1 rfl, (X7.other3 (by omega) _ _ _).at 2 rfl⟩, (E7.other3 (by omega) _ _ _).at 0 rfl, (E7.other3 (by omega) _ _ _).at 1 rfl, (E7.other3 (by omega) _ _ _).at 2 rfl⟩) (fun hHeld2 => ?_)
      clear hK hHeld1 K
      try simp only [Act.put, List.setIfInBounds_toArray, List.set_cons_zero, List.set_cons_succ]
      refine wpAnyH_take (i := 10) (oi := ⟨some 7, _, _, _, _, _⟩) (v := ?_) rfl (by kernel_rfl) (by kernel_rfl) (by kernel_rfl) (fun _ _ _ h => h) (Or.inl ⟨by rfl, ?_⟩) hHeld2 ?_
      rotate_left
      · (intro w' hSw; (try dsimp only at hSw); go_simp; all_goals (with_reducible rfl))
      try simp only [Act.put, List.setIfInBounds_toArray, List.set_cons_zero, List.set_cons_succ]
      refine wpAnyH_done (by kernel_rfl) ?_ _
      go_wp2
      refine bodyPost_ret (v := .tuple #[sv ⟨S.put ⟨g, t, l⟩ ⟨k, T + 1, u⟩, A2, n2, c2⟩, .int .i64 0]) (by simp [results, Try.results21, go_sem, z0, z1, z2, z, sv, S.put]; try rfl) rfl ?_
      refine ⟨⟨S.put ⟨g, t, l⟩ ⟨k, T + 1, u⟩, A2, n2, c2⟩, by rw [HE.out], by rw [HE.out], ?_, ?_⟩
      · refine Rd.of_own (base := w6.heap.size) (e := 42) (c := c2) ?_
        show World.ownsRow _ _ _ 3 (.slice A2 n2 c2) n2 (EC (E.put l ⟨k, T + 1, u⟩))
        repeat (first | (with_reducible exact hown') | (with_reducible refine own_set ?_ (by omega) _))
      · repeat (first | (with_reducible exact hb8) | (with_reducible refine below_set ?_ (by omega) _))
end Go.Proofs.Ytfpfpepejocjfaa
