/- The code's Over on states. -/
import Derived.Test.YtfpfpepejocjfaaTCode3
namespace Go.Proofs.Ytfpfpepejocjfaa
set_option linter.unusedVariables false
set_option linter.unusedSimpArgs false
open Go.RowKit

set_option maxHeartbeats 2000000 in
set_option maxRecDepth 20000 in
theorem sover_any (v v' : Sv) (w : World) (h : SRd w v) (h' : SRd w v') (hn : v.n ≤ 400000) (hn' : v'.n ≤ 400000) (hr : S.rise v.s) (hr' : S.rise v'.s) :
    Calls Try.prog 27 #[sv v, sv v'] w fun e w' => e = .returned (.bool (soverB v.s v'.s)) ∧ Below w.heap.size w w' := by
  obtain ⟨⟨g, t, l⟩, A, n, c⟩ := v
  obtain ⟨⟨g', t', l'⟩, A', n', c'⟩ := v'
  have hjl := join_apps_length ⟨g, t, l⟩ ⟨g', t', l'⟩
  have hl := h.len
  have hl' := h'.len
  simp only at hn hn' hr hr' hl hl' hjl
  have hj2 : (S.join ⟨g, t, l⟩ ⟨g', t', l'⟩).apps.length ≤ n + n' := by omega
  have HJL := Lib.hid hj2
  have HR := Lib.hid hr
  have HR2 := Lib.hid hr'
  clear hl hl' hjl hj2 hr hr'
  simp only [sv]
  replace h := h.alloc (.cells #[.int .i64 g, .int .i64 t, .slice A n c] 24)
  replace h' := h'.alloc (.cells #[.int .i64 g, .int .i64 t, .slice A n c] 24)
  have X := Box.new w #[.int .i64 g, .int .i64 t, .slice A n c] 24
  have hb : Below w.heap.size w (w.alloc (.cells #[.int .i64 g, .int .i64 t, .slice A n c] 24)) := (Below.refl _ _).alloc (Nat.le_refl _) _
  replace h := h.alloc (.cells #[.int .i64 g', .int .i64 t', .slice A' n' c'] 24)
  replace h' := h'.alloc (.cells #[.int .i64 g', .int .i64 t', .slice A' n' c'] 24)
  replace X := X.alloc (.cells #[.int .i64 g', .int .i64 t', .slice A' n' c'] 24)
  have Y := Box.new (w.alloc (.cells #[.int .i64 g, .int .i64 t, .slice A n c] 24)) #[.int .i64 g', .int .i64 t', .slice A' n' c'] 24
  rw [show (w.alloc (.cells #[.int .i64 g, .int .i64 t, .slice A n c] 24)).heap.size = w.heap.size + 1 by simp] at Y
  replace hb := hb.alloc hb.size (.cells #[.int .i64 g', .int .i64 t', .slice A' n' c'] 24)
  have HS : Hid (((w.alloc (.cells #[.int .i64 g, .int .i64 t, .slice A n c] 24)).alloc (.cells #[.int .i64 g', .int .i64 t', .slice A' n' c'] 24)).heap.size = w.heap.size + 2) := Lib.hid (by simp)
  have y0 := X.at 0 rfl
  have y1 := X.at 1 rfl
  have y2 := X.at 2 rfl
  have x0 := Y.at 0 rfl
  have x1 := Y.at 1 rfl
  have x2 := Y.at 2 rfl
  go_enter Try.func27, Try.ntmps27
  go_wp2
  generalize (w.alloc (.cells #[.int .i64 g, .int .i64 t, .slice A n c] 24)).alloc (.cells #[.int .i64 g', .int .i64 t', .slice A' n' c'] 24) = w1 at *
  refine wp_region_held_drew (S := (fun w' => (w'.cell? ⟨w.heap.size, 0, none⟩ = some (.int .i64 g) ∧ w'.cell? ⟨w.heap.size, 1, none⟩ = some (.int .i64 t) ∧ w'.cell? ⟨w.heap.size, 2, none⟩ = some (.slice A n c)) ∧ (w'.cell? ⟨w.heap.size + 1, 0, none⟩ = some (.int .i64 g') ∧ w'.cell? ⟨w.heap.size + 1, 1, none⟩ = some (.int .i64 t') ∧ w'.cell? ⟨w.heap.size + 1, 2, none⟩ = some (.slice A' n' c')))) (by kernel_rfl) (by first | exact ⟨⟨y0, y1, y2⟩, x0, x1, x2⟩ | exact ⟨⟨X2.at 0 rfl, X2.at 1 rfl, X2.at 2 rfl⟩, Y2.at 0 rfl, Y2.at 1 rfl, Y2.at 2 rfl⟩ | exact ⟨⟨X3.at 0 rfl, X3.at 1 rfl, X3.at 2 rfl⟩, Y3.at 0 rfl, Y3.at 1 rfl, Y3.at 2 rfl⟩) (fun hHeld0 => ?_)
  refine wpAnyH_take (i := 0) (oi := ⟨some 5, _, _, _, _, _⟩) (v := ?_) rfl (by kernel_rfl) (by kernel_rfl) (by kernel_rfl) (fun _ _ _ h => h) (Or.inl ⟨by rfl, ?_⟩) hHeld0 ?_
  rotate_left
  · (intro w' hSw; (try dsimp only at hSw); go_simp; all_goals (with_reducible rfl))
  try simp only [Act.put, List.setIfInBounds_toArray, List.set_cons_zero, List.set_cons_succ]
  refine wpAnyH_take (i := 1) (oi := ⟨some 6, _, _, _, _, _⟩) (v := ?_) rfl (by kernel_rfl) (by kernel_rfl) (by kernel_rfl) (fun _ _ _ h => h) (Or.inl ⟨by rfl, ?_⟩) hHeld0 ?_
  rotate_left
  · (intro w' hSw; (try dsimp only at hSw); go_simp; all_goals (with_reducible rfl))
  try simp only [Act.put, List.setIfInBounds_toArray, List.set_cons_zero, List.set_cons_succ]
  refine wpAnyH_take (i := 3) (oi := ⟨some 8, _, _, _, _, _⟩) (v := ?_) rfl (by kernel_rfl) (by kernel_rfl) (by kernel_rfl) (fun _ _ _ h => h) (Or.inl ⟨by rfl, ?_⟩) hHeld0 ?_
  rotate_left
  · (intro w' hSw; (try dsimp only at hSw); go_simp; all_goals (with_reducible rfl))
  try simp only [Act.put, List.setIfInBounds_toArray, List.set_cons_zero, List.set_cons_succ]
  refine wpAnyH_ready (rs := [2]) (by kernel_rfl) (by simp) (AllReadyH.cons (o := ⟨some 7, _, _, _, _, _⟩) rfl (fun K hK => ?_) AllReadyH.nil)
  go_simp
  refine (sjoin_any ⟨⟨g, t, l⟩, A, n, c⟩ ⟨⟨g', t', l'⟩, A', n', c'⟩ w1.drew h.drew h'.drew hn hn' HR.out HR2.out).mono ?_
  rintro e w2 ⟨⟨s2, A2, n2, c2⟩, rfl, hs2, hown, hb2⟩
  simp only at hs2
  subst hs2
  have hsz := HS.out
  have hb2' : Below w1.heap.size w1 w2 := (Below.refl _ _).drew.trans hb2
  have X2 := X.below hb2' (by omega)
  have Y2 := Y.below hb2' (by omega)
  have h2 := hown.srd
  have g2 := h.belowH hb2'
  have hb3 := hb.trans (hb2'.mono hb.size)
  have hn2 : n2 ≤ n + n' := by have := h2.len; have := HJL.out; simp only at *; omega
  have HSZ := Lib.hid (show w.heap.size + 2 ≤ w2.heap.size by have := hb2'.size; omega)
  clear hsz hb2 hb2' hown h h' hb y0 y1 y2 x0 x1 x2 X Y
  simp only [sv]
  go_simp
  refine hK.out _ _ (by first | exact ⟨⟨y0, y1, y2⟩, x0, x1, x2⟩ | exact ⟨⟨X2.at 0 rfl, X2.at 1 rfl, X2.at 2 rfl⟩, Y2.at 0 rfl, Y2.at 1 rfl, Y2.at 2 rfl⟩ | exact ⟨⟨X3.at 0 rfl, X3.at 1 rfl, X3.at 2 rfl⟩, Y3.at 0 rfl, Y3.at 1 rfl, Y3.at 2 rfl⟩) (fun hHeld1 => ?_)
  clear hK hHeld0 K
  try simp only [Act.put, List.setIfInBounds_toArray, List.set_cons_zero, List.set_cons_succ]
  refine wpAnyH_ready (rs := [4]) (by kernel_rfl) (by simp) (AllReadyH.cons (o := ⟨some 9, _, _, _, _, _⟩) rfl (fun K hK => ?_) AllReadyH.nil)
  go_simp
  refine (ssame_any ⟨S.join ⟨g, t, l⟩ ⟨g', t', l'⟩, A2, n2, c2⟩ ⟨⟨g, t, l⟩, A, n, c⟩ w2 h2 g2 (by show n2 * 32 ≤ _; omega) (by show n * 32 ≤ _; omega)).mono ?_
  rintro e w3 ⟨rfl, hb4⟩
  have hz := HSZ.out
  have X3 := X2.below hb4 (by omega)
  have Y3 := Y2.below hb4 (by omega)
  replace hb3 := hb3.trans (hb4.mono hb3.size)
  clear hz hb4
  go_simp
  refine hK.out _ _ (by first | exact ⟨⟨y0, y1, y2⟩, x0, x1, x2⟩ | exact ⟨⟨X2.at 0 rfl, X2.at 1 rfl, X2.at 2 rfl⟩, Y2.at 0 rfl, Y2.at 1 rfl, Y2.at 2 rfl⟩ | exact ⟨⟨X3.at 0 rfl, X3.at 1 rfl, X3.at 2 rfl⟩, Y3.at 0 rfl, Y3.at 1 rfl, Y3.at 2 rfl⟩) (fun hHeld2 => ?_)
  clear hK hHeld1 K
  try simp only [Act.put, List.setIfInBounds_toArray, List.set_cons_zero, List.set_cons_succ]
  refine wpAnyH_take (i := 5) (oi := ⟨some 4, _, _, _, _, _⟩) (v := ?_) rfl (by kernel_rfl) (by kernel_rfl) (by kernel_rfl) (fun _ _ _ h => h) (Or.inl ⟨by rfl, ?_⟩) hHeld2 ?_
  rotate_left
  · (intro w' hSw; (try dsimp only at hSw); go_simp; all_goals (with_reducible rfl))
  try simp only [Act.put, List.setIfInBounds_toArray, List.set_cons_zero, List.set_cons_succ]
  refine wpAnyH_done (by kernel_rfl) ?_ _
  go_wp2
  go_ret
  exact ⟨rfl, hb3⟩
end Go.Proofs.Ytfpfpepejocjfaa
