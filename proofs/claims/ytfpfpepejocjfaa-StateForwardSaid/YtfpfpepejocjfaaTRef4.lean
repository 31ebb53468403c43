/- The reference's Over, Beat, Set on states. -/
import Derived.Test.YtfpfpepejocjfaaTRef3
namespace Go.Proofs.Ytfpfpepejocjfaa
set_option linter.unusedVariables false
set_option linter.unusedSimpArgs false
open Go.RowKit

theorem own_setO {w : World} {base b o : Nat} {e : TypeId} {size n : Nat} {v : Value} {xs : List Value} (h : w.ownsRow base e size v n xs) (hne : v.ownBlock ≠ some b) (u : Value) : (w.setCell ⟨b, o, none⟩ u).ownsRow base e size v n xs := ownsRow_setCell_other h hne u
theorem join_apps_length (a b : St) : (S.join a b).apps.length ≤ a.apps.length + b.apps.length := by
  rcases Int.lt_trichotomy a.gen b.gen with h | h | h
  · rw [S.join_lt h]; omega
  · rw [S.join_eq h]; exact E.join_length _ _
  · rw [S.join_gt h]; omega
def soverB (a b : St) : Bool := sameB (S.join a b) a
set_option maxHeartbeats 2000000 in
set_option maxRecDepth 20000 in
theorem rsover_any (v v' : Sv) (w : World) (h : SRd w v) (h' : SRd w v') (hn : v.n ≤ 400000) (hn' : v'.n ≤ 400000) (hr : S.rise v.s) :
    Calls Try.prog 28 #[sv v, sv v'] w fun e w' => e = .returned (.bool (soverB v.s v'.s)) ∧ Below w.heap.size w w' := by
  obtain ⟨⟨g, t, l⟩, A, n, c⟩ := v
  obtain ⟨⟨g', t', l'⟩, A', n', c'⟩ := v'
  have hjl := join_apps_length ⟨g, t, l⟩ ⟨g', t', l'⟩
  have hl := h.len
  have hl' := h'.len
  simp only at hn hn' hr hl hl' hjl
  have hj2 : (S.join ⟨g, t, l⟩ ⟨g', t', l'⟩).apps.length ≤ n + n' := by omega
  have HJL := Lib.hid hj2
  have HR := Lib.hid hr
  clear hl hl' hjl hj2 hr
  simp only [sv]
  replace h := h.alloc (.cells #[.int .i64 g, .int .i64 t, .slice A n c] 24)
  replace h' := h'.alloc (.cells #[.int .i64 g, .int .i64 t, .slice A n c] 24)
  have X := Box.new w #[.int .i64 g, .int .i64 t, .slice A n c] 24
  have hb : Below w.heap.size w (w.alloc (.cells #[.int .i64 g, .int .i64 t, .slice A n c] 24)) := (Below.refl _ _).alloc (Nat.le_refl _) _
  replace h := h.alloc (.cells #[.int .i64 g', .int .i64 t', .slice A' n' c'] 24)
  replace h' := h'.alloc (.cells #[.int .i64 g', .int .i64 t', .slice A' n' c'] 24)
  replace X := X.alloc (.cells #[.int .i64 g', .int .i64 t', .slice A' n' c'] 24)
  have Y := Box.new (w.alloc (.cells #[.int .i64 g, .int .i64 t, .slice A n c] 24)) #[.int .i64 g', .int .i64 t', .slice A' n' c'] 24
  rw [show (w.alloc (.cells #[.int .i64 g, .int .i64 t, .slice A n c] 24)).heap.size = w.heap.size + 1 by simp] at Y
  replace hb := hb.alloc hb.size (.cells #[.int .i64 g', .int .i64 t', .slice A' n' c'] 24)
  have HS : Hid (((w.alloc (.cells #[.int .i64 g, .int .i64 t, .slice A n c] 24)).alloc (.cells #[.int .i64 g', .int .i64 t', .slice A' n' c'] 24)).heap.size = w.heap.size + 2) := Lib.hid (by simp)
  have y0 := X.at 0 rfl
  have y1 := X.at 1 rfl
  have y2 := X.at 2 rfl
  have x0 := Y.at 0 rfl
  have x1 := Y.at 1 rfl
  have x2 := Y.at 2 rfl
  go_enter Try.func28, Try.ntmps28
  go_wp2
  generalize (w.alloc (.cells #[.int .i64 g, .int .i64 t, .slice A n c] 24)).alloc (.cells #[.int .i64 g', .int .i64 t', .slice A' n' c'] 24) = w1 at *
  refine wp_region_held_drew (S := (fun w' => (w'.cell? ⟨w.heap.size, 0, none⟩ = some (.int .i64 g) ∧ w'.cell? ⟨w.heap.size, 1, none⟩ = some (.int .i64 t) ∧ w'.cell? ⟨w.heap.size, 2, none⟩ = some (.slice A n c)) ∧ (w'.cell? ⟨w.heap.size + 1, 0, none⟩ = some (.int .i64 g') ∧ w'.cell? ⟨w.heap.size + 1, 1, none⟩ = some (.int .i64 t') ∧ w'.cell? ⟨w.heap.size + 1, 2, none⟩ = some (.slice A' n' c')))) (by kernel_rfl) (by first | exact ⟨⟨y0, y1, y2⟩, x0, x1, x2⟩ | exact ⟨⟨X2.at 0 rfl, X2.at 1 rfl, X2.at 2 rfl⟩, Y2.at 0 rfl, Y2.at 1 rfl, Y2.at 2 rfl⟩ | exact ⟨⟨X3.at 0 rfl, X3.at 1 rfl, X3.at 2 rfl⟩, Y3.at 0 rfl, Y3.at 1 rfl, Y3.at 2 rfl⟩) (fun hHeld0 => ?_)
  refine wpAnyH_take (i := 0) (oi := ⟨some 5, _, _, _, _, _⟩) (v := ?_) rfl (by kernel_rfl) (by kernel_rfl) (by kernel_rfl) (fun _ _ _ h => h) (Or.inl ⟨by rfl, ?_⟩) hHeld0 ?_
  rotate_left
  · (intro w' hSw; (try dsimp only at hSw); go_simp; all_goals (with_reducible rfl))
  try simp only [Act.put, List.setIfInBounds_toArray, List.set_cons_zero, List.set_cons_succ]
  refine wpAnyH_take (i := 1) (oi := ⟨some 6, _, _, _, _, _⟩) (v := ?_) rfl (by kernel_rfl) (by kernel_rfl) (by kernel_rfl) (fun _ _ _ h => h) (Or.inl ⟨by rfl, ?_⟩) hHeld0 ?_
  rotate_left
  · (intro w' hSw; (try dsimp only at hSw); go_simp; all_goals (with_reducible rfl))
  try simp only [Act.put, List.setIfInBounds_toArray, List.set_cons_zero, List.set_cons_succ]
  refine wpAnyH_take (i := 3) (oi := ⟨some 8, _, _, _, _, _⟩) (v := ?_) rfl (by kernel_rfl) (by kernel_rfl) (by kernel_rfl) (fun _ _ _ h => h) (Or.inl ⟨by rfl, ?_⟩) hHeld0 ?_
  rotate_left
  · (intro w' hSw; (try dsimp only at hSw); go_simp; all_goals (with_reducible rfl))
  try simp only [Act.put, List.setIfInBounds_toArray, List.set_cons_zero, List.set_cons_succ]
  refine wpAnyH_ready (rs := [2]) (by kernel_rfl) (by simp) (AllReadyH.cons (o := ⟨some 7, _, _, _, _, _⟩) rfl (fun K hK => ?_) AllReadyH.nil)
  go_simp
  refine (rsjoin_any ⟨⟨g, t, l⟩, A, n, c⟩ ⟨⟨g', t', l'⟩, A', n', c'⟩ w1.drew h.drew h'.drew hn hn' HR.out).mono ?_
  rintro e w2 ⟨⟨s2, A2, n2, c2⟩, rfl, hs2, hown, hb2⟩
  simp only at hs2
  subst hs2
  have hsz := HS.out
  have hb2' : Below w1.heap.size w1 w2 := (Below.refl _ _).drew.trans hb2
  have X2 := X.below hb2' (by omega)
  have Y2 := Y.below hb2' (by omega)
  have h2 := hown.srd
  have g2 := h.belowH hb2'
  have hb3 := hb.trans (hb2'.mono hb.size)
  have hn2 : n2 ≤ n + n' := by have := h2.len; have := HJL.out; simp only at *; omega
  have HSZ := Lib.hid (show w.heap.size + 2 ≤ w2.heap.size by have := hb2'.size; omega)
  clear hsz hb2 hb2' hown h h' hb y0 y1 y2 x0 x1 x2 X Y
  simp only [sv]
  go_simp
  refine hK.out _ _ (by first | exact ⟨⟨y0, y1, y2⟩, x0, x1, x2⟩ | exact ⟨⟨X2.at 0 rfl, X2.at 1 rfl, X2.at 2 rfl⟩, Y2.at 0 rfl, Y2.at 1 rfl, Y2.at 2 rfl⟩ | exact ⟨⟨X3.at 0 rfl, X3.at 1 rfl, X3.at 2 rfl⟩, Y3.at 0 rfl, Y3.at 1 rfl, Y3.at 2 rfl⟩) (fun hHeld1 => ?_)
  clear hK hHeld0 K
  try simp only [Act.put, List.setIfInBounds_toArray, List.set_cons_zero, List.set_cons_succ]
  refine wpAnyH_ready (rs := [4]) (by kernel_rfl) (by simp) (AllReadyH.cons (o := ⟨some 9, _, _, _, _, _⟩) rfl (fun K hK => ?_) AllReadyH.nil)
  go_simp
  refine (rssame_any ⟨S.join ⟨g, t, l⟩ ⟨g', t', l'⟩, A2, n2, c2⟩ ⟨⟨g, t, l⟩, A, n, c⟩ w2 h2 g2 (by show n2 * 32 ≤ _; omega) (by show n * 32 ≤ _; omega)).mono ?_
  rintro e w3 ⟨rfl, hb4⟩
  have hz := HSZ.out
  have X3 := X2.below hb4 (by omega)
  have Y3 := Y2.below hb4 (by omega)
  replace hb3 := hb3.trans (hb4.mono hb3.size)
  clear hz hb4
  go_simp
  refine hK.out _ _ (by first | exact ⟨⟨y0, y1, y2⟩, x0, x1, x2⟩ | exact ⟨⟨X2.at 0 rfl, X2.at 1 rfl, X2.at 2 rfl⟩, Y2.at 0 rfl, Y2.at 1 rfl, Y2.at 2 rfl⟩ | exact ⟨⟨X3.at 0 rfl, X3.at 1 rfl, X3.at 2 rfl⟩, Y3.at 0 rfl, Y3.at 1 rfl, Y3.at 2 rfl⟩) (fun hHeld2 => ?_)
  clear hK hHeld1 K
  try simp only [Act.put, List.setIfInBounds_toArray, List.set_cons_zero, List.set_cons_succ]
  refine wpAnyH_take (i := 5) (oi := ⟨some 4, _, _, _, _, _⟩) (v := ?_) rfl (by kernel_rfl) (by kernel_rfl) (by kernel_rfl) (fun _ _ _ h => h) (Or.inl ⟨by rfl, ?_⟩) hHeld2 ?_
  rotate_left
  · (intro w' hSw; (try dsimp only at hSw); go_simp; all_goals (with_reducible rfl))
  try simp only [Act.put, List.setIfInBounds_toArray, List.set_cons_zero, List.set_cons_succ]
  refine wpAnyH_done (by kernel_rfl) ?_ _
  go_wp2
  go_ret
  exact ⟨rfl, hb3⟩

/-- a state, and an error -/
def MadeE (W : World) (r : St × Int) (e : Ending) (w' : World) : Prop :=
  ∃ v : Sv, e = .returned (.tuple #[sv v, .int .i64 r.2]) ∧ v.s = r.1 ∧ SRd w' v ∧ Below W.heap.size W w'
noncomputable def sbeat (s : St) : St × Int := if srightB s = true then (if S.top s = 1099511627776 then (s, 11) else (S.beaten s, 0)) else (s, 1)
noncomputable def sset (s : St) (k : Int) (u : List UInt8) : St × Int := if srightB s = true ∧ E.may ⟨k, 1, u⟩ then (if S.top s = 1099511627776 then (s, 11) else (S.put s ⟨k, S.top s + 1, u⟩, 0)) else (s, 1)

set_option maxHeartbeats 2000000 in
set_option maxRecDepth 20000 in
theorem rsbeat_any (v : Sv) (w : World) (h : SRd w v) (hn : v.n ≤ 400000) :
    Calls Try.prog 24 #[sv v] w (MadeE w (sbeat v.s)) := by
  obtain ⟨⟨g, t, l⟩, A, n, c⟩ := v
  simp only at hn
  have h0 := h
  simp only [sv]
  replace h := h.alloc (.cells #[.int .i64 g, .int .i64 t, .slice A n c] 24)
  have X := Box.new w #[.int .i64 g, .int .i64 t, .slice A n c] 24
  have hb : Below w.heap.size w (w.alloc (.cells #[.int .i64 g, .int .i64 t, .slice A n c] 24)) := (Below.refl _ _).alloc (Nat.le_refl _) _
  replace h := h.alloc (.cells #[.int .i64 0, .int .i64 0, .slice none 0 0] 24)
  replace X := X.alloc (.cells #[.int .i64 0, .int .i64 0, .slice none 0 0] 24)
  have Z := Box.new (w.alloc (.cells #[.int .i64 g, .int .i64 t, .slice A n c] 24)) #[.int .i64 0, .int .i64 0, .slice none 0 0] 24
  rw [show (w.alloc (.cells #[.int .i64 g, .int .i64 t, .slice A n c] 24)).heap.size = w.heap.size + 1 by simp] at Z
  replace hb := hb.alloc hb.size (.cells #[.int .i64 0, .int .i64 0, .slice none 0 0] 24)
  have HS : Hid (((w.alloc (.cells #[.int .i64 g, .int .i64 t, .slice A n c] 24)).alloc (.cells #[.int .i64 0, .int .i64 0, .slice none 0 0] 24)).heap.size = w.heap.size + 2) := Lib.hid (by simp)
  replace HS : Hid (w.heap.size + 2 ≤ _) := Lib.hid (Nat.le_of_eq HS.out.symm)
  go_enter Try.func24, Try.ntmps24
  go_wp2_with fail
  generalize (w.alloc (.cells #[.int .i64 g, .int .i64 t, .slice A n c] 24)).alloc (.cells #[.int .i64 0, .int .i64 0, .slice none 0 0] 24) = w1 at *
  refine (rsright_any ⟨⟨g, t, l⟩, A, n, c⟩ _ h (by show n * 32 ≤ _; omega)).mono ?_
  rintro e w2 ⟨rfl, hb2⟩
  have hz := HS.out
  replace X := X.below hb2 (by omega)
  replace Z := Z.below hb2 (by omega)
  replace h := h.belowH hb2
  replace HS : Hid (w.heap.size + 2 ≤ _) := Lib.hid (Nat.le_trans HS.out hb2.size)
  replace hb := hb.trans (hb2.mono hb.size)
  clear hz hb2
  rcases hr : srightB ⟨g, t, l⟩
  · have HE : Hid (sbeat ⟨g, t, l⟩ = (⟨g, t, l⟩, 1)) := Lib.hid (by unfold sbeat; simp [hr])
    clear hr
    have z0 := Z.at 0 rfl
    have z1 := Z.at 1 rfl
    have z2 := Z.at 2 rfl
    have zf := Z.cold
    have z := Z.lt
    have y0 := X.at 0 rfl
    have y1 := X.at 1 rfl
    have y2 := X.at 2 rfl
    go_wp2
    refine bodyPost_ret (v := .tuple #[sv ⟨⟨g, t, l⟩, A, n, c⟩, .int .i64 1]) (by simp [results, Try.results24, go_sem, z0, z1, z2, z, y0, y1, y2, sv]; try rfl) rfl ?_
    have hbf := below_set (o := 2) (below_set (o := 1) (below_set (o := 0) hb (show w.heap.size ≤ w.heap.size + 1 by omega) (.int .i64 g)) (show w.heap.size ≤ w.heap.size + 1 by omega) (.int .i64 t)) (show w.heap.size ≤ w.heap.size + 1 by omega) (.slice A n c)
    exact ⟨⟨⟨g, t, l⟩, A, n, c⟩, by rw [HE.out], by rw [HE.out], h0.belowH hbf, hbf⟩
  · have HRT := Lib.hid (srightB_out hr)
    have HRB := Lib.hid hr
    have ht0 := S.top_nonneg ⟨g, t, l⟩
    have ht1 := S.top_right HRT.out
    clear hr
    have y0 := X.at 0 rfl
    have y1 := X.at 1 rfl
    have y2 := X.at 2 rfl
    go_wp2_with fail
    refine (rstop_any ⟨⟨g, t, l⟩, A, n, c⟩ _ h (by show n * 32 ≤ _; omega)).mono ?_
    rintro e w3 ⟨rfl, hb2⟩
    clear y0 y1 y2
    have hz := HS.out
    replace X := X.below hb2 (by omega)
    replace Z := Z.below hb2 (by omega)
    replace h := h.belowH hb2
    replace HS : Hid (w.heap.size + 2 ≤ _) := Lib.hid (Nat.le_trans HS.out hb2.size)
    replace hb := hb.trans (hb2.mono hb.size)
    clear hz hb2
    by_cases htt : S.top ⟨g, t, l⟩ = 1099511627776
    · have tq : (S.top ⟨g, t, l⟩ == 1099511627776) = true := beq_iff_eq.2 htt
      have HE : Hid (sbeat ⟨g, t, l⟩ = (⟨g, t, l⟩, 11)) := Lib.hid (by unfold sbeat; rw [if_pos HRB.out, if_pos htt])
      clear htt ht0 ht1
      have z0 := Z.at 0 rfl
      have z1 := Z.at 1 rfl
      have z2 := Z.at 2 rfl
      have zf := Z.cold
      have z := Z.lt
      have y0 := X.at 0 rfl
      have y1 := X.at 1 rfl
      have y2 := X.at 2 rfl
      go_wp2
      refine bodyPost_ret (v := .tuple #[sv ⟨⟨g, t, l⟩, A, n, c⟩, .int .i64 11]) (by simp [results, Try.results24, go_sem, z0, z1, z2, z, y0, y1, y2, sv]; try rfl) rfl ?_
      have hbf := below_set (o := 2) (below_set (o := 1) (below_set (o := 0) hb (show w.heap.size ≤ w.heap.size + 1 by omega) (.int .i64 g)) (show w.heap.size ≤ w.heap.size + 1 by omega) (.int .i64 t)) (show w.heap.size ≤ w.heap.size + 1 by omega) (.slice A n c)
      exact ⟨⟨⟨g, t, l⟩, A, n, c⟩, by rw [HE.out], by rw [HE.out], h0.belowH hbf, hbf⟩
    · have tq : (S.top ⟨g, t, l⟩ == 1099511627776) = false := beq_eq_false_iff_ne.2 htt
      have HE : Hid (sbeat ⟨g, t, l⟩ = (S.beaten ⟨g, t, l⟩, 0)) := Lib.hid (by unfold sbeat; rw [if_pos HRB.out, if_neg htt])
      clear htt
      have y0 := X.at 0 rfl
      have y1 := X.at 1 rfl
      have y2 := X.at 2 rfl
      go_wp2_with fail
      refine (rscopy_any ⟨⟨g, t, l⟩, A, n, c⟩ _ h (by show n ≤ _; omega)).mono ?_
      rintro e w4 ⟨⟨s2, A2, n2, c2⟩, rfl, hs2, hown, hb2⟩
      simp only at hs2
      subst hs2
      clear y0 y1 y2
      have hbase : w.heap.size + 2 ≤ w3.heap.size := HS.out
      have hz := HS.out
      replace X := X.below hb2 (by omega)
      replace Z := Z.below hb2 (by omega)
      replace h := h.belowH hb2
      replace HS : Hid (w.heap.size + 2 ≤ _) := Lib.hid (Nat.le_trans HS.out hb2.size)
      replace hb := hb.trans (hb2.mono hb.size)
      clear hz hb2
      clear tq
      have hob : (Value.slice A2 n2 c2).ownBlock ≠ some w4.heap.size := fun e => by have := (show w4.ownsRow w3.heap.size 42 3 (.slice A2 n2 c2) n2 (EC l) from hown).lt _ e; omega
      have O := Box.new w4 #[.int .i64 g, .int .i64 t, .slice A2 n2 c2] 24
      have hown5 := (show w4.ownsRow w3.heap.size 42 3 (.slice A2 n2 c2) n2 (EC l) from hown).alloc (.cells #[.int .i64 g, .int .i64 t, .slice A2 n2 c2] 24)
      replace X := X.alloc (.cells #[.int .i64 g, .int .i64 t, .slice A2 n2 c2] 24)
      replace Z := Z.alloc (.cells #[.int .i64 g, .int .i64 t, .slice A2 n2 c2] 24)
      replace h := h.alloc (.cells #[.int .i64 g, .int .i64 t, .slice A2 n2 c2] 24)
      replace hb := hb.alloc hb.size (.cells #[.int .i64 g, .int .i64 t, .slice A2 n2 c2] 24)
      have hs4 : w.heap.size + 2 ≤ w4.heap.size := HS.out
      have hs5 : w4.heap.size < (w4.alloc (.cells #[.int .i64 g, .int .i64 t, .slice A2 n2 c2] 24)).heap.size := by simp
      clear HS hown
      simp only [sv]
      have y0 := X.at 0 rfl
      have y1 := X.at 1 rfl
      have y2 := X.at 2 rfl
      go_wp2_with fail
      generalize w4.alloc (.cells #[.int .i64 g, .int .i64 t, .slice A2 n2 c2] 24) = w5 at *
      refine (rstop_any ⟨⟨g, t, l⟩, A, n, c⟩ _ h (by show n * 32 ≤ _; omega)).mono ?_
      rintro e w6 ⟨rfl, hb2⟩
      clear y0 y1 y2
      replace O := O.below hb2 hs5
      replace X := X.below hb2 (by omega)
      replace Z := Z.below hb2 (by omega)
      have hown6 := own_below hown5 hb2
      replace hb := hb.trans (hb2.mono hb.size)
      clear hb2 h hown5
      have z0 := Z.at 0 rfl
      have z1 := Z.at 1 rfl
      have z2 := Z.at 2 rfl
      have zf := Z.cold
      have z := Z.lt
      have o0 := O.at 0 rfl
      have o1 := O.at 1 rfl
      have o2 := O.at 2 rfl
      have of := O.cold
      have oz := O.lt
      have hne : w4.heap.size ≠ w.heap.size + 1 := by omega
      have hne' : w.heap.size + 1 ≠ w4.heap.size := by omega
      go_wp2
      refine bodyPost_ret (v := .tuple #[sv ⟨S.beaten ⟨g, t, l⟩, A2, n2, c2⟩, .int .i64 0]) (by simp [results, Try.results24, go_sem, z0, z1, z2, z, o0, o1, o2, sv, S.beaten, hne, hne']; try rfl) rfl ?_
      refine ⟨⟨S.beaten ⟨g, t, l⟩, A2, n2, c2⟩, by rw [HE.out], by rw [HE.out], ?_, ?_⟩
      · refine Rd.of_own (base := w3.heap.size) (e := 42) (c := c2) ?_
        show World.ownsRow _ _ _ 3 (.slice A2 n2 c2) n2 (EC l)
        repeat (first | (with_reducible exact hown6) | (with_reducible refine own_set ?_ (by omega) _) | (with_reducible refine own_setO ?_ hob _))
      · repeat (first | (with_reducible exact hb) | (with_reducible refine below_set ?_ (by omega) _))
end Go.Proofs.Ytfpfpepejocjfaa
