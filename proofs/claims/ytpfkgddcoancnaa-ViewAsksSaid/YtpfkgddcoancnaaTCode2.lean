/- The code's Copy and Above on states. -/
import Derived.Test.YtpfkgddcoancnaaTCode1
namespace Go.Proofs.Ytpfkgddcoancnaa
set_option linter.unusedVariables false
set_option linter.unusedSimpArgs false
open Go.RowKit

set_option maxHeartbeats 2000000 in
set_option maxRecDepth 20000 in
theorem scopy_any (v : Sv) (w : World) (h : SRd w v) (hn : v.n ≤ 900000) :
    Calls Try.prog 35 #[sv v] w (MadeS w (v.s)) := by
  obtain ⟨⟨g, t, l⟩, A, n, c⟩ := v
  simp only [sv]
  replace h := h.alloc (.cells #[.int .i64 g, .int .i64 t, .slice A n c] 27)
  have X := Box.new w #[.int .i64 g, .int .i64 t, .slice A n c] 27
  have hb : Below w.heap.size w (w.alloc (.cells #[.int .i64 g, .int .i64 t, .slice A n c] 27)) := (Below.refl _ _).alloc (Nat.le_refl _) _
  replace h := h.alloc (.cells #[.int .i64 0, .int .i64 0, .slice none 0 0] 27)
  replace X := X.alloc (.cells #[.int .i64 0, .int .i64 0, .slice none 0 0] 27)
  have Z := Box.new (w.alloc (.cells #[.int .i64 g, .int .i64 t, .slice A n c] 27)) #[.int .i64 0, .int .i64 0, .slice none 0 0] 27
  rw [show (w.alloc (.cells #[.int .i64 g, .int .i64 t, .slice A n c] 27)).heap.size = w.heap.size + 1 by simp] at Z
  replace hb := hb.alloc hb.size (.cells #[.int .i64 0, .int .i64 0, .slice none 0 0] 27)
  have HS : Hid (((w.alloc (.cells #[.int .i64 g, .int .i64 t, .slice A n c] 27)).alloc (.cells #[.int .i64 0, .int .i64 0, .slice none 0 0] 27)).heap.size = w.heap.size + 2) := Lib.hid (by simp)
  simp only at hn
  have y0 := X.at 0 rfl
  have y1 := X.at 1 rfl
  have y2 := X.at 2 rfl
  go_enter Try.func35, Try.ntmps35
  go_wp2
  generalize (w.alloc (.cells #[.int .i64 g, .int .i64 t, .slice A n c] 27)).alloc (.cells #[.int .i64 0, .int .i64 0, .slice none 0 0] 27) = w1 at *
  refine wp_region_held_drew (S := (fun w' => w'.cell? ⟨w.heap.size, 0, none⟩ = some (.int .i64 g) ∧ w'.cell? ⟨w.heap.size, 1, none⟩ = some (.int .i64 t) ∧ w'.cell? ⟨w.heap.size, 2, none⟩ = some (.slice A n c))) (by kernel_rfl) (by first | exact ⟨y0, y1, y2⟩ | exact ⟨X2.at 0 rfl, X2.at 1 rfl, X2.at 2 rfl⟩ | exact ⟨(X2.other3 (by omega) _ _ _).at 0 rfl, (X2.other3 (by omega) _ _ _).at 1 rfl, (X2.other3 (by omega) _ _ _).at 2 rfl⟩) (fun hHeld0 => ?_)
  refine wpAnyH_take (i := 0) (oi := ⟨some 3, _, _, _, _, _⟩) (v := ?_) rfl (by kernel_rfl) (by kernel_rfl) (by kernel_rfl) (fun _ _ _ h => h) (Or.inl ⟨by rfl, ?_⟩) hHeld0 ?_
  rotate_left
  · (intro w' hSw; (try dsimp only at hSw); go_simp; all_goals (with_reducible rfl))
  try simp only [Act.put, List.setIfInBounds_toArray, List.set_cons_zero, List.set_cons_succ]
  refine wpAnyH_take (i := 1) (oi := ⟨some 4, _, _, _, _, _⟩) (v := ?_) rfl (by kernel_rfl) (by kernel_rfl) (by kernel_rfl) (fun _ _ _ h => h) (Or.inl ⟨by rfl, ?_⟩) hHeld0 ?_
  rotate_left
  · (intro w' hSw; (try dsimp only at hSw); go_simp; all_goals (with_reducible rfl))
  try simp only [Act.put, List.setIfInBounds_toArray, List.set_cons_zero, List.set_cons_succ]
  refine wpAnyH_take (i := 2) (oi := ⟨some 5, _, _, _, _, _⟩) (v := ?_) rfl (by kernel_rfl) (by kernel_rfl) (by kernel_rfl) (fun _ _ _ h => h) (Or.inl ⟨by rfl, ?_⟩) hHeld0 ?_
  rotate_left
  · (intro w' hSw; (try dsimp only at hSw); go_simp; all_goals (with_reducible rfl))
  try simp only [Act.put, List.setIfInBounds_toArray, List.set_cons_zero, List.set_cons_succ]
  refine wpAnyH_take (i := 3) (oi := ⟨some 6, _, _, _, _, _⟩) (v := ?_) rfl (by kernel_rfl) (by kernel_rfl) (by kernel_rfl) (fun _ _ _ h => h) (Or.inl ⟨by rfl, ?_⟩) hHeld0 ?_
  rotate_left
  · (intro w' hSw; (try dsimp only at hSw); go_simp; all_goals (with_reducible rfl))
  try simp only [Act.put, List.setIfInBounds_toArray, List.set_cons_zero, List.set_cons_succ]
  refine wpAnyH_take (i := 4) (oi := ⟨some 7, _, _, _, _, _⟩) (v := ?_) rfl (by kernel_rfl) (by kernel_rfl) (by kernel_rfl) (fun _ _ _ h => h) (Or.inl ⟨by rfl, ?_⟩) hHeld0 ?_
  rotate_left
  · (intro w' hSw; (try dsimp only at hSw); go_simp; all_goals (with_reducible rfl))
  try simp only [Act.put, List.setIfInBounds_toArray, List.set_cons_zero, List.set_cons_succ]
  refine wpAnyH_take (i := 5) (oi := ⟨some 8, _, _, _, _, _⟩) (v := ?_) rfl (by kernel_rfl) (by kernel_rfl) (by kernel_rfl) (fun _ _ _ h => h) (Or.inl ⟨by rfl, ?_⟩) hHeld0 ?_
  rotate_left
  · (intro w' hSw; (try dsimp only at hSw); go_simp; all_goals (with_reducible rfl))
  try simp only [Act.put, List.setIfInBounds_toArray, List.set_cons_zero, List.set_cons_succ]
  refine wpAnyH_ready (rs := [6]) (by kernel_rfl) (by simp) (AllReadyH.cons (o := ⟨some 9, _, _, _, _, _⟩) rfl (fun K hK => ?_) AllReadyH.nil)
  go_simp
  refine (clone_any l A n c _ w1.drew (Rd.drewH h) (Nat.le_refl _) (by omega)).mono ?_
  rintro e w2 ⟨A2, n2, c2, rfl, hn2, hown, hb2⟩
  have hsz := HS.out
  have hb2' : Below w1.heap.size w1 w2 := (Below.refl _ _).drew.trans hb2
  have X2 := X.below hb2' (by omega)
  have Z2 := Z.below hb2' (by omega)
  have hown' : w2.ownsRow w1.heap.size 59 3 (.slice A2 n2 c2) n2 (EC (l)) := hown
  have z0 := Z2.at 0 rfl
  have z1 := Z2.at 1 rfl
  have z2 := Z2.at 2 rfl
  have zf := Z2.cold
  have z := Z2.lt
  have hb3 := hb.trans (hb2'.mono hb.size)
  have HSZ := Lib.hid (show w.heap.size + 1 < w1.heap.size by omega)
  clear hb2 hb2' hb hsz hown y0 y1 y2 X Z h hn2
  have a0 := X2.at 0 rfl
  have a1 := X2.at 1 rfl
  have a2 := X2.at 2 rfl
  go_simp
  refine hK.out _ _ (by first | exact ⟨y0, y1, y2⟩ | exact ⟨X2.at 0 rfl, X2.at 1 rfl, X2.at 2 rfl⟩ | exact ⟨(X2.other3 (by omega) _ _ _).at 0 rfl, (X2.other3 (by omega) _ _ _).at 1 rfl, (X2.other3 (by omega) _ _ _).at 2 rfl⟩) (fun hHeld1 => ?_)
  clear hK hHeld0 K
  try simp only [Act.put, List.setIfInBounds_toArray, List.set_cons_zero, List.set_cons_succ]
  refine wpAnyH_take (i := 7) (oi := ⟨some 10, _, _, _, _, _⟩) (v := ?_) rfl (by kernel_rfl) (by kernel_rfl) (by kernel_rfl) (fun _ _ _ h => h) (Or.inl ⟨by rfl, ?_⟩) hHeld1 ?_
  rotate_left
  · (intro w' hSw; (try dsimp only at hSw); go_simp; all_goals (with_reducible rfl))
  try simp only [Act.put, List.setIfInBounds_toArray, List.set_cons_zero, List.set_cons_succ]
  refine wpAnyH_ready (rs := [8]) (by kernel_rfl) (by simp) (AllReadyH.cons (o := ⟨none, _, _, _, _, _⟩) rfl (fun K hK => ?_) AllReadyH.nil)
  go_simp
  go_simp
  refine hK.out _ _ (by first | exact ⟨y0, y1, y2⟩ | exact ⟨X2.at 0 rfl, X2.at 1 rfl, X2.at 2 rfl⟩ | exact ⟨(X2.other3 (by omega) _ _ _).at 0 rfl, (X2.other3 (by omega) _ _ _).at 1 rfl, (X2.other3 (by omega) _ _ _).at 2 rfl⟩) (fun hHeld2 => ?_)
  clear hK hHeld1 K
  try simp only [Act.put, List.setIfInBounds_toArray, List.set_cons_zero, List.set_cons_succ]
  refine wpAnyH_done (by kernel_rfl) ?_ _
  go_wp2
  refine bodyPost_ret (v := sv ⟨⟨g, t, l⟩, A2, n2, c2⟩) (by simp [results, Try.results35, go_sem, z0, z1, z2, z, sv]; try rfl) rfl ?_
  refine ⟨⟨⟨g, t, l⟩, A2, n2, c2⟩, rfl, rfl, ?_, ?_⟩
  · show World.ownsRow _ _ _ 3 (.slice A2 n2 c2) n2 (EC (l))
    have hz := HSZ.out
    refine own_mono (base := w1.heap.size) ?_ (by omega)
    repeat (first | (with_reducible exact hown') | (with_reducible refine own_set ?_ (by omega) _))
  · repeat (first | (with_reducible exact hb3) | (with_reducible refine below_set ?_ (by omega) _))

end Go.Proofs.Ytpfkgddcoancnaa
