/- TCode1 TCode2 TCode3 (merged). -/
import Derived.Test.YtkabkpeamggnnaaJECode
import Derived.Test.YtkabkpeamggnnaaJTRef
namespace Go.Proofs.Ytkabkpeamggnnaa
set_option linter.unusedVariables false
set_option linter.unusedSimpArgs false
open Go.RowKit

set_option maxHeartbeats 1000000 in
theorem sright_any (v : Sv) (w : World) (h : SRd w v) (hn : v.n * 32 ≤ 140737488351232) :
    Calls Try.prog 64 #[sv v] w fun e w' => e = .returned (.bool (srightB v.s)) ∧ Below w.heap.size w w' := by
  obtain ⟨⟨g, t, l⟩, A, n, c⟩ := v
  simp only [sv]
  have h1 := (h.alloc (.cells #[.int .i64 g, .int .i64 t, .slice A n c] 40))
  have b1 : Below w.heap.size w (w.alloc (.cells #[.int .i64 g, .int .i64 t, .slice A n c] 40)) := (Below.refl _ _).alloc (Nat.le_refl _) _
  unfold SRd at h1
  simp only at h1 hn
  have HF : ∀ {p : Prop}, ¬ p → (srightB ⟨g, t, l⟩ = false ∨ True) := fun _ => Or.inr trivial
  clear HF h
  by_cases e1 : 1 ≤ g
  · by_cases e2 : g ≤ 1099511627776
    · by_cases e3 : 0 ≤ t
      · by_cases e4 : t ≤ 1099511627776
        · have hs : srightB ⟨g, t, l⟩ = rightB l := by unfold srightB; simp [e1, e2, e3, e4]
          have HS := Lib.hid hs
          clear hs
          go_enter Try.func64, Try.ntmps64
          go_wp2_with fail
          refine (right_any l A n c _ _ h1 (Nat.le_refl _) hn).mono ?_
          rintro e w2 ⟨rfl, hb⟩
          go_wp2
          go_ret
          exact ⟨ret_bool HS.out.symm, b1.trans (hb.mono b1.size)⟩
        · have hs : srightB ⟨g, t, l⟩ = false := srightB_no fun h => e4 h.2.2.2.1
          have HS := Lib.hid hs
          clear hs
          go_enter Try.func64, Try.ntmps64
          go_wp2
          go_ret
          exact ⟨ret_bool HS.out.symm, b1⟩
      · have hs : srightB ⟨g, t, l⟩ = false := srightB_no fun h => e3 h.2.2.1
        have HS := Lib.hid hs
        clear hs
        go_enter Try.func64, Try.ntmps64
        go_wp2
        go_ret
        exact ⟨ret_bool HS.out.symm, b1⟩
    · have hs : srightB ⟨g, t, l⟩ = false := srightB_no fun h => e2 h.2.1
      have HS := Lib.hid hs
      clear hs
      go_enter Try.func64, Try.ntmps64
      go_wp2
      go_ret
      exact ⟨ret_bool HS.out.symm, b1⟩
  · have hs : srightB ⟨g, t, l⟩ = false := srightB_no fun h => e1 h.1
    have HS := Lib.hid hs
    clear hs
    go_enter Try.func64, Try.ntmps64
    go_wp2
    go_ret
    exact ⟨ret_bool HS.out.symm, b1⟩

set_option maxHeartbeats 1000000 in
theorem stop_any (v : Sv) (w : World) (h : SRd w v) (hn : v.n * 32 ≤ 140737488351232) :
    Calls Try.prog 49 #[sv v] w fun e w' => e = .returned (.int .i64 (S.top v.s)) ∧ Below w.heap.size w w' := by
  obtain ⟨⟨g, t, l⟩, A, n, c⟩ := v
  simp only [sv]
  have h1 := (h.alloc (.cells #[.int .i64 g, .int .i64 t, .slice A n c] 40))
  have b1 : Below w.heap.size w (w.alloc (.cells #[.int .i64 g, .int .i64 t, .slice A n c] 40)) := (Below.refl _ _).alloc (Nat.le_refl _) _
  have X := Box.new w #[.int .i64 g, .int .i64 t, .slice A n c] 40
  have y0 := X.at 0 rfl
  have y1 := X.at 1 rfl
  have y2 := X.at 2 rfl
  have HS : Hid (w.heap.size + 1 ≤ (w.alloc (.cells #[.int .i64 g, .int .i64 t, .slice A n c] 40)).heap.size) := Lib.hid (by simp)
  unfold SRd at h1
  simp only at h1 hn
  clear h
  by_cases hlt : t < E.top l
  all_goals
    have ht := hlt
    first | replace ht := stop_lt (g := g) ht | replace ht := stop_ge (g := g) ht
    have HT := Lib.hid ht
    clear ht
    go_enter Try.func49, Try.ntmps49
    go_wp2
    generalize w.alloc (.cells #[.int .i64 g, .int .i64 t, .slice A n c] 40) = w1 at *
    refine wp_region_held_drew (S := (fun w' => w'.cell? ⟨w.heap.size, 1, none⟩ = some (.int .i64 t) ∧ w'.cell? ⟨w.heap.size, 2, none⟩ = some (.slice A n c))) (by kernel_rfl) (by first | exact ⟨y1, y2⟩ | exact ⟨X2.at 1 rfl, X2.at 2 rfl⟩) (fun hHeld0 => ?_)
    refine wpAnyH_take (i := 0) (oi := ⟨some 3, _, _, _, _, _⟩) (v := ?_) rfl (by kernel_rfl) (by kernel_rfl) (by kernel_rfl) (fun _ _ _ h => h) (Or.inl ⟨by rfl, ?_⟩) hHeld0 ?_
    rotate_left
    · (intro w' hSw; (try dsimp only at hSw); go_simp; all_goals (with_reducible rfl))
    try simp only [Act.put, sA, sB, sC]
    refine wpAnyH_take (i := 1) (oi := ⟨some 4, _, _, _, _, _⟩) (v := ?_) rfl (by kernel_rfl) (by kernel_rfl) (by kernel_rfl) (fun _ _ _ h => h) (Or.inl ⟨by rfl, ?_⟩) hHeld0 ?_
    rotate_left
    · (intro w' hSw; (try dsimp only at hSw); go_simp; all_goals (with_reducible rfl))
    try simp only [Act.put, sA, sB, sC]
    refine wpAnyH_take (i := 2) (oi := ⟨some 5, _, _, _, _, _⟩) (v := ?_) rfl (by kernel_rfl) (by kernel_rfl) (by kernel_rfl) (fun _ _ _ h => h) (Or.inl ⟨by rfl, ?_⟩) hHeld0 ?_
    rotate_left
    · (intro w' hSw; (try dsimp only at hSw); go_simp; all_goals (with_reducible rfl))
    try simp only [Act.put, sA, sB, sC]
    refine wpAnyH_take (i := 3) (oi := ⟨some 6, _, _, _, _, _⟩) (v := ?_) rfl (by kernel_rfl) (by kernel_rfl) (by kernel_rfl) (fun _ _ _ h => h) (Or.inl ⟨by rfl, ?_⟩) hHeld0 ?_
    rotate_left
    · (intro w' hSw; (try dsimp only at hSw); go_simp; all_goals (with_reducible rfl))
    try simp only [Act.put, sA, sB, sC]
    refine wpAnyH_ready (rs := [4]) (by kernel_rfl) (by simp) (AllReadyH.cons (o := ⟨some 7, _, _, _, _, _⟩) rfl (fun K hK => ?_) AllReadyH.nil)
    go_simp
    (refine (top_any l A n c _ w1.drew h1.drew (Nat.le_refl _) (by omega)).mono ?_; rintro e w2 ⟨rfl, hb2⟩; have hb2' : Below w1.heap.size w1 w2 := (Below.refl _ _).drew.trans hb2; have hz := HS.out; have X2 := X.below hb2' (by omega); replace b1 := b1.trans (hb2'.mono b1.size); clear hb2 hb2' hz y0 y1 y2 h1)
    go_simp
    refine hK.out _ _ (by first | exact ⟨y1, y2⟩ | exact ⟨X2.at 1 rfl, X2.at 2 rfl⟩) (fun hHeld1 => ?_)
    clear hK hHeld0 K
    try simp only [Act.put, sA, sB, sC]
    refine wpAnyH_take (i := 5) (oi := ⟨some 8, _, _, _, _, _⟩) (v := ?_) rfl (by kernel_rfl) (by kernel_rfl) (by kernel_rfl) (fun _ _ _ h => h) (Or.inl ⟨by rfl, ?_⟩) hHeld1 ?_
    rotate_left
    · (intro w' hSw; (try dsimp only at hSw); go_simp; all_goals (with_reducible rfl))
    try simp only [Act.put, sA, sB, sC]
    refine wpAnyH_take (i := 6) (oi := ⟨some 2, _, _, _, _, _⟩) (v := ?_) rfl (by kernel_rfl) (by kernel_rfl) (by kernel_rfl) (fun _ _ _ h => h) (Or.inl ⟨by rfl, ?_⟩) hHeld1 ?_
    rotate_left
    · (intro w' hSw; (try dsimp only at hSw); go_simp; all_goals (with_reducible rfl))
    try simp only [Act.put, sA, sB, sC]
    refine wpAnyH_done (by kernel_rfl) ?_ _
    go_wp2
    go_ret
    exact ⟨ret_int HT.out.symm, b1⟩

set_option maxHeartbeats 1000000 in
theorem ssame_any (v v' : Sv) (w : World) (h : SRd w v) (h' : SRd w v') (hn : v.n * 32 ≤ 140737488351232) (hn' : v'.n * 32 ≤ 140737488351232) :
    Calls Try.prog 46 #[sv v, sv v'] w fun e w' => e = .returned (.bool (sameB v.s v'.s)) ∧ Below w.heap.size w w' := by
  obtain ⟨⟨g, t, l⟩, A, n, c⟩ := v
  obtain ⟨⟨g', t', l'⟩, A', n', c'⟩ := v'
  simp only [sv]
  have hb := below2 w (.cells #[.int .i64 g, .int .i64 t, .slice A n c] 40) (.cells #[.int .i64 g', .int .i64 t', .slice A' n' c'] 40)
  have h1 := (h.alloc (.cells #[.int .i64 g, .int .i64 t, .slice A n c] 40)).alloc (.cells #[.int .i64 g', .int .i64 t', .slice A' n' c'] 40)
  have h2 := (h'.alloc (.cells #[.int .i64 g, .int .i64 t, .slice A n c] 40)).alloc (.cells #[.int .i64 g', .int .i64 t', .slice A' n' c'] 40)
  unfold SRd at h1 h2
  simp only at h1 h2 hn hn'
  clear h h'
  have hs := sameB_eq ⟨g, t, l⟩ ⟨g', t', l'⟩
  by_cases e1 : g = g'
  · by_cases e2 : t = t'
    · subst e1 e2
      have hs2 : sameB ⟨g, t, l⟩ ⟨g, t, l'⟩ = decide (l = l') := by rw [hs]; simp
      have HS := Lib.hid hs2
      clear hs hs2
      go_enter Try.func46, Try.ntmps46
      go_wp2_with fail
      refine (same_any l l' A A' n n' c c' _ _ _ h1 h2 hn hn').mono ?_
      rintro e w2 ⟨rfl, q, hq⟩
      have hb2 := below_of_drew hq
      clear hq
      go_wp2
      go_ret
      exact ⟨ret_bool HS.out.symm, hb.trans (hb2.mono hb.size)⟩
    · subst e1
      have hs2 : sameB ⟨g, t, l⟩ ⟨g, t', l'⟩ = false := by rw [hs]; simp [e2]
      have HS := Lib.hid hs2
      have t2 : (t == t') = false := beq_eq_false_iff_ne.2 e2
      clear hs hs2 e2
      go_enter Try.func46, Try.ntmps46
      go_wp2
      go_ret
      exact ⟨ret_bool HS.out.symm, hb⟩
  · have hs2 : sameB ⟨g, t, l⟩ ⟨g', t', l'⟩ = false := by rw [hs]; simp [e1]
    have HS := Lib.hid hs2
    have t2 : (g == g') = false := beq_eq_false_iff_ne.2 e1
    clear hs hs2 e1
    go_enter Try.func46, Try.ntmps46
    go_wp2
    go_ret
    exact ⟨ret_bool HS.out.symm, hb⟩

end Go.Proofs.Ytkabkpeamggnnaa

namespace Go.Proofs.Ytkabkpeamggnnaa
set_option linter.unusedVariables false
set_option linter.unusedSimpArgs false
open Go.RowKit

set_option maxHeartbeats 2000000 in
set_option maxRecDepth 20000 in
theorem scopy_any (v : Sv) (w : World) (h : SRd w v) (hn : v.n ≤ 900000) :
    Calls Try.prog 41 #[sv v] w (MadeS w (v.s)) := by
  obtain ⟨⟨g, t, l⟩, A, n, c⟩ := v
  simp only [sv]
  replace h := h.alloc (.cells #[.int .i64 g, .int .i64 t, .slice A n c] 40)
  have X := Box.new w #[.int .i64 g, .int .i64 t, .slice A n c] 40
  have hb : Below w.heap.size w (w.alloc (.cells #[.int .i64 g, .int .i64 t, .slice A n c] 40)) := (Below.refl _ _).alloc (Nat.le_refl _) _
  replace h := h.alloc (.cells #[.int .i64 0, .int .i64 0, .slice none 0 0] 40)
  replace X := X.alloc (.cells #[.int .i64 0, .int .i64 0, .slice none 0 0] 40)
  have Z := Box.new (w.alloc (.cells #[.int .i64 g, .int .i64 t, .slice A n c] 40)) #[.int .i64 0, .int .i64 0, .slice none 0 0] 40
  rw [show (w.alloc (.cells #[.int .i64 g, .int .i64 t, .slice A n c] 40)).heap.size = w.heap.size + 1 by simp] at Z
  replace hb := hb.alloc hb.size (.cells #[.int .i64 0, .int .i64 0, .slice none 0 0] 40)
  have HS : Hid (((w.alloc (.cells #[.int .i64 g, .int .i64 t, .slice A n c] 40)).alloc (.cells #[.int .i64 0, .int .i64 0, .slice none 0 0] 40)).heap.size = w.heap.size + 2) := Lib.hid (by simp)
  simp only at hn
  have y0 := X.at 0 rfl
  have y1 := X.at 1 rfl
  have y2 := X.at 2 rfl
  go_enter Try.func41, Try.ntmps41
  go_wp2
  generalize (w.alloc (.cells #[.int .i64 g, .int .i64 t, .slice A n c] 40)).alloc (.cells #[.int .i64 0, .int .i64 0, .slice none 0 0] 40) = w1 at *
  refine wp_region_held_drew (S := (fun w' => w'.cell? ⟨w.heap.size, 0, none⟩ = some (.int .i64 g) ∧ w'.cell? ⟨w.heap.size, 1, none⟩ = some (.int .i64 t) ∧ w'.cell? ⟨w.heap.size, 2, none⟩ = some (.slice A n c))) (by kernel_rfl) (by first | exact ⟨y0, y1, y2⟩ | exact ⟨X2.at 0 rfl, X2.at 1 rfl, X2.at 2 rfl⟩ | exact ⟨(X2.other3 (by omega) _ _ _).at 0 rfl, (X2.other3 (by omega) _ _ _).at 1 rfl, (X2.other3 (by omega) _ _ _).at 2 rfl⟩) (fun hHeld0 => ?_)
  refine wpAnyH_take (i := 0) (oi := ⟨some 3, _, _, _, _, _⟩) (v := ?_) rfl (by kernel_rfl) (by kernel_rfl) (by kernel_rfl) (fun _ _ _ h => h) (Or.inl ⟨by rfl, ?_⟩) hHeld0 ?_
  rotate_left
  · (intro w' hSw; (try dsimp only at hSw); go_simp; all_goals (with_reducible rfl))
  try simp only [Act.put, sA, sB, sC]
  refine wpAnyH_take (i := 1) (oi := ⟨some 4, _, _, _, _, _⟩) (v := ?_) rfl (by kernel_rfl) (by kernel_rfl) (by kernel_rfl) (fun _ _ _ h => h) (Or.inl ⟨by rfl, ?_⟩) hHeld0 ?_
  rotate_left
  · (intro w' hSw; (try dsimp only at hSw); go_simp; all_goals (with_reducible rfl))
  try simp only [Act.put, sA, sB, sC]
  refine wpAnyH_take (i := 2) (oi := ⟨some 5, _, _, _, _, _⟩) (v := ?_) rfl (by kernel_rfl) (by kernel_rfl) (by kernel_rfl) (fun _ _ _ h => h) (Or.inl ⟨by rfl, ?_⟩) hHeld0 ?_
  rotate_left
  · (intro w' hSw; (try dsimp only at hSw); go_simp; all_goals (with_reducible rfl))
  try simp only [Act.put, sA, sB, sC]
  refine wpAnyH_take (i := 3) (oi := ⟨some 6, _, _, _, _, _⟩) (v := ?_) rfl (by kernel_rfl) (by kernel_rfl) (by kernel_rfl) (fun _ _ _ h => h) (Or.inl ⟨by rfl, ?_⟩) hHeld0 ?_
  rotate_left
  · (intro w' hSw; (try dsimp only at hSw); go_simp; all_goals (with_reducible rfl))
  try simp only [Act.put, sA, sB, sC]
  refine wpAnyH_take (i := 4) (oi := ⟨some 7, _, _, _, _, _⟩) (v := ?_) rfl (by kernel_rfl) (by kernel_rfl) (by kernel_rfl) (fun _ _ _ h => h) (Or.inl ⟨by rfl, ?_⟩) hHeld0 ?_
  rotate_left
  · (intro w' hSw; (try dsimp only at hSw); go_simp; all_goals (with_reducible rfl))
  try simp only [Act.put, sA, sB, sC]
  refine wpAnyH_take (i := 5) (oi := ⟨some 8, _, _, _, _, _⟩) (v := ?_) rfl (by kernel_rfl) (by kernel_rfl) (by kernel_rfl) (fun _ _ _ h => h) (Or.inl ⟨by rfl, ?_⟩) hHeld0 ?_
  rotate_left
  · (intro w' hSw; (try dsimp only at hSw); go_simp; all_goals (with_reducible rfl))
  try simp only [Act.put, sA, sB, sC]
  refine wpAnyH_ready (rs := [6]) (by kernel_rfl) (by simp) (AllReadyH.cons (o := ⟨some 9, _, _, _, _, _⟩) rfl (fun K hK => ?_) AllReadyH.nil)
  go_simp
  refine (clone_any l A n c _ w1.drew (Rd.drewH h) (Nat.le_refl _) (by omega)).mono ?_
  rintro e w2 ⟨A2, n2, c2, rfl, hn2, hown, hb2⟩
  have hsz := HS.out
  have hb2' : Below w1.heap.size w1 w2 := (Below.refl _ _).drew.trans hb2
  have X2 := X.below hb2' (by omega)
  have Z2 := Z.below hb2' (by omega)
  have hown' : w2.ownsRow w1.heap.size 58 3 (.slice A2 n2 c2) n2 (EC (l)) := hown
  have z0 := Z2.at 0 rfl
  have z1 := Z2.at 1 rfl
  have z2 := Z2.at 2 rfl
  have zf := Z2.cold
  have z := Z2.lt
  have hb3 := hb.trans (hb2'.mono hb.size)
  have HSZ := Lib.hid (show w.heap.size + 1 < w1.heap.size by omega)
  clear hb2 hb2' hb hsz hown y0 y1 y2 X Z h hn2
  have a0 := X2.at 0 rfl
  have a1 := X2.at 1 rfl
  have a2 := X2.at 2 rfl
  go_simp
  refine hK.out _ _ (by first | exact ⟨y0, y1, y2⟩ | exact ⟨X2.at 0 rfl, X2.at 1 rfl, X2.at 2 rfl⟩ | exact ⟨(X2.other3 (by omega) _ _ _).at 0 rfl, (X2.other3 (by omega) _ _ _).at 1 rfl, (X2.other3 (by omega) _ _ _).at 2 rfl⟩) (fun hHeld1 => ?_)
  clear hK hHeld0 K
  try simp only [Act.put, sA, sB, sC]
  refine wpAnyH_take (i := 7) (oi := ⟨some 10, _, _, _, _, _⟩) (v := ?_) rfl (by kernel_rfl) (by kernel_rfl) (by kernel_rfl) (fun _ _ _ h => h) (Or.inl ⟨by rfl, ?_⟩) hHeld1 ?_
  rotate_left
  · (intro w' hSw; (try dsimp only at hSw); go_simp; all_goals (with_reducible rfl))
  try simp only [Act.put, sA, sB, sC]
  refine wpAnyH_ready (rs := [8]) (by kernel_rfl) (by simp) (AllReadyH.cons (o := ⟨none, _, _, _, _, _⟩) rfl (fun K hK => ?_) AllReadyH.nil)
  go_simp
  go_simp
  refine hK.out _ _ (by first | exact ⟨y0, y1, y2⟩ | exact ⟨X2.at 0 rfl, X2.at 1 rfl, X2.at 2 rfl⟩ | exact ⟨(X2.other3 (by omega) _ _ _).at 0 rfl, (X2.other3 (by omega) _ _ _).at 1 rfl, (X2.other3 (by omega) _ _ _).at 2 rfl⟩) (fun hHeld2 => ?_)
  clear hK hHeld1 K
  try simp only [Act.put, sA, sB, sC]
  refine wpAnyH_done (by kernel_rfl) ?_ _
  go_wp2
  refine bodyPost_ret (v := sv ⟨⟨g, t, l⟩, A2, n2, c2⟩) (by simp [results, Try.results41, go_sem, z0, z1, z2, z, sv]; try rfl) rfl ?_
  refine ⟨⟨⟨g, t, l⟩, A2, n2, c2⟩, rfl, rfl, ?_, ?_⟩
  · show World.ownsRow _ _ _ 3 (.slice A2 n2 c2) n2 (EC (l))
    have hz := HSZ.out
    refine own_mono (base := w1.heap.size) ?_ (by omega)
    repeat (first | (with_reducible exact hown') | (with_reducible refine own_set ?_ (by omega) _))
  · repeat (first | (with_reducible exact hb3) | (with_reducible refine below_set ?_ (by omega) _))

set_option maxHeartbeats 2000000 in
set_option maxRecDepth 20000 in
theorem sabove_any (v : Sv) (k : Int) (w : World) (h : SRd w v) (hn : v.n ≤ 900000) :
    Calls Try.prog 38 #[sv v, .int .i64 k] w (MadeS w (S.above v.s k)) := by
  obtain ⟨⟨g, t, l⟩, A, n, c⟩ := v
  simp only [sv]
  replace h := h.alloc (.cells #[.int .i64 g, .int .i64 t, .slice A n c] 40)
  have X := Box.new w #[.int .i64 g, .int .i64 t, .slice A n c] 40
  have hb : Below w.heap.size w (w.alloc (.cells #[.int .i64 g, .int .i64 t, .slice A n c] 40)) := (Below.refl _ _).alloc (Nat.le_refl _) _
  replace h := h.alloc (.cells #[.int .i64 0, .int .i64 0, .slice none 0 0] 40)
  replace X := X.alloc (.cells #[.int .i64 0, .int .i64 0, .slice none 0 0] 40)
  have Z := Box.new (w.alloc (.cells #[.int .i64 g, .int .i64 t, .slice A n c] 40)) #[.int .i64 0, .int .i64 0, .slice none 0 0] 40
  rw [show (w.alloc (.cells #[.int .i64 g, .int .i64 t, .slice A n c] 40)).heap.size = w.heap.size + 1 by simp] at Z
  replace hb := hb.alloc hb.size (.cells #[.int .i64 0, .int .i64 0, .slice none 0 0] 40)
  have HS : Hid (((w.alloc (.cells #[.int .i64 g, .int .i64 t, .slice A n c] 40)).alloc (.cells #[.int .i64 0, .int .i64 0, .slice none 0 0] 40)).heap.size = w.heap.size + 2) := Lib.hid (by simp)
  simp only at hn
  have y0 := X.at 0 rfl
  have y1 := X.at 1 rfl
  have y2 := X.at 2 rfl
  go_enter Try.func38, Try.ntmps38
  go_wp2
  generalize (w.alloc (.cells #[.int .i64 g, .int .i64 t, .slice A n c] 40)).alloc (.cells #[.int .i64 0, .int .i64 0, .slice none 0 0] 40) = w1 at *
  refine wp_region_held_drew (S := (fun w' => w'.cell? ⟨w.heap.size, 0, none⟩ = some (.int .i64 g) ∧ w'.cell? ⟨w.heap.size, 1, none⟩ = some (.int .i64 t) ∧ w'.cell? ⟨w.heap.size, 2, none⟩ = some (.slice A n c))) (by kernel_rfl) (by first | exact ⟨y0, y1, y2⟩ | exact ⟨X2.at 0 rfl, X2.at 1 rfl, X2.at 2 rfl⟩ | exact ⟨(X2.other3 (by omega) _ _ _).at 0 rfl, (X2.other3 (by omega) _ _ _).at 1 rfl, (X2.other3 (by omega) _ _ _).at 2 rfl⟩) (fun hHeld0 => ?_)
  refine wpAnyH_take (i := 0) (oi := ⟨some 5, _, _, _, _, _⟩) (v := ?_) rfl (by kernel_rfl) (by kernel_rfl) (by kernel_rfl) (fun _ _ _ h => h) (Or.inl ⟨by rfl, ?_⟩) hHeld0 ?_
  rotate_left
  · (intro w' hSw; (try dsimp only at hSw); go_simp; all_goals (with_reducible rfl))
  try simp only [Act.put, sA, sB, sC]
  refine wpAnyH_take (i := 1) (oi := ⟨some 6, _, _, _, _, _⟩) (v := ?_) rfl (by kernel_rfl) (by kernel_rfl) (by kernel_rfl) (fun _ _ _ h => h) (Or.inl ⟨by rfl, ?_⟩) hHeld0 ?_
  rotate_left
  · (intro w' hSw; (try dsimp only at hSw); go_simp; all_goals (with_reducible rfl))
  try simp only [Act.put, sA, sB, sC]
  refine wpAnyH_take (i := 2) (oi := ⟨some 7, _, _, _, _, _⟩) (v := ?_) rfl (by kernel_rfl) (by kernel_rfl) (by kernel_rfl) (fun _ _ _ h => h) (Or.inl ⟨by rfl, ?_⟩) hHeld0 ?_
  rotate_left
  · (intro w' hSw; (try dsimp only at hSw); go_simp; all_goals (with_reducible rfl))
  try simp only [Act.put, sA, sB, sC]
  refine wpAnyH_take (i := 3) (oi := ⟨some 8, _, _, _, _, _⟩) (v := ?_) rfl (by kernel_rfl) (by kernel_rfl) (by kernel_rfl) (fun _ _ _ h => h) (Or.inl ⟨by rfl, ?_⟩) hHeld0 ?_
  rotate_left
  · (intro w' hSw; (try dsimp only at hSw); go_simp; all_goals (with_reducible rfl))
  try simp only [Act.put, sA, sB, sC]
  refine wpAnyH_take (i := 4) (oi := ⟨some 9, _, _, _, _, _⟩) (v := ?_) rfl (by kernel_rfl) (by kernel_rfl) (by kernel_rfl) (fun _ _ _ h => h) (Or.inl ⟨by rfl, ?_⟩) hHeld0 ?_
  rotate_left
  · (intro w' hSw; (try dsimp only at hSw); go_simp; all_goals (with_reducible rfl))
  try simp only [Act.put, sA, sB, sC]
  refine wpAnyH_take (i := 5) (oi := ⟨some 10, _, _, _, _, _⟩) (v := ?_) rfl (by kernel_rfl) (by kernel_rfl) (by kernel_rfl) (fun _ _ _ h => h) (Or.inl ⟨by rfl, ?_⟩) hHeld0 ?_
  rotate_left
  · (intro w' hSw; (try dsimp only at hSw); go_simp; all_goals (with_reducible rfl))
  try simp only [Act.put, sA, sB, sC]
  refine wpAnyH_take (i := 6) (oi := ⟨some 11, _, _, _, _, _⟩) (v := ?_) rfl (by kernel_rfl) (by kernel_rfl) (by kernel_rfl) (fun _ _ _ h => h) (Or.inl ⟨by rfl, ?_⟩) hHeld0 ?_
  rotate_left
  · (intro w' hSw; (try dsimp only at hSw); go_simp; all_goals (with_reducible rfl))
  try simp only [Act.put, sA, sB, sC]
  refine wpAnyH_ready (rs := [7]) (by kernel_rfl) (by simp) (AllReadyH.cons (o := ⟨some 12, _, _, _, _, _⟩) rfl (fun K hK => ?_) AllReadyH.nil)
  go_simp
  refine (aboves_any l k A n c _ w1.drew (Rd.drewH h) (Nat.le_refl _) (by omega)).mono ?_
  rintro e w2 ⟨A2, n2, c2, rfl, hn2, hown, hb2⟩
  have hsz := HS.out
  have hb2' : Below w1.heap.size w1 w2 := (Below.refl _ _).drew.trans hb2
  have X2 := X.below hb2' (by omega)
  have Z2 := Z.below hb2' (by omega)
  have hown' : w2.ownsRow w1.heap.size 58 3 (.slice A2 n2 c2) n2 (EC (E.aboves l k)) := hown
  have z0 := Z2.at 0 rfl
  have z1 := Z2.at 1 rfl
  have z2 := Z2.at 2 rfl
  have zf := Z2.cold
  have z := Z2.lt
  have hb3 := hb.trans (hb2'.mono hb.size)
  have HSZ := Lib.hid (show w.heap.size + 1 < w1.heap.size by omega)
  clear hb2 hb2' hb hsz hown y0 y1 y2 X Z h hn2
  have a0 := X2.at 0 rfl
  have a1 := X2.at 1 rfl
  have a2 := X2.at 2 rfl
  go_simp
  refine hK.out _ _ (by first | exact ⟨y0, y1, y2⟩ | exact ⟨X2.at 0 rfl, X2.at 1 rfl, X2.at 2 rfl⟩ | exact ⟨(X2.other3 (by omega) _ _ _).at 0 rfl, (X2.other3 (by omega) _ _ _).at 1 rfl, (X2.other3 (by omega) _ _ _).at 2 rfl⟩) (fun hHeld1 => ?_)
  clear hK hHeld0 K
  try simp only [Act.put, sA, sB, sC]
  refine wpAnyH_take (i := 8) (oi := ⟨some 13, _, _, _, _, _⟩) (v := ?_) rfl (by kernel_rfl) (by kernel_rfl) (by kernel_rfl) (fun _ _ _ h => h) (Or.inl ⟨by rfl, ?_⟩) hHeld1 ?_
  rotate_left
  · (intro w' hSw; (try dsimp only at hSw); go_simp; all_goals (with_reducible rfl))
  try simp only [Act.put, sA, sB, sC]
  refine wpAnyH_ready (rs := [9]) (by kernel_rfl) (by simp) (AllReadyH.cons (o := ⟨none, _, _, _, _, _⟩) rfl (fun K hK => ?_) AllReadyH.nil)
  go_simp
  go_simp
  refine hK.out _ _ (by first | exact ⟨y0, y1, y2⟩ | exact ⟨X2.at 0 rfl, X2.at 1 rfl, X2.at 2 rfl⟩ | exact ⟨(X2.other3 (by omega) _ _ _).at 0 rfl, (X2.other3 (by omega) _ _ _).at 1 rfl, (X2.other3 (by omega) _ _ _).at 2 rfl⟩) (fun hHeld2 => ?_)
  clear hK hHeld1 K
  try simp only [Act.put, sA, sB, sC]
  refine wpAnyH_done (by kernel_rfl) ?_ _
  go_wp2
  refine bodyPost_ret (v := sv ⟨⟨g, t, E.aboves l k⟩, A2, n2, c2⟩) (by simp [results, Try.results38, go_sem, z0, z1, z2, z, sv]; try rfl) rfl ?_
  refine ⟨⟨⟨g, t, E.aboves l k⟩, A2, n2, c2⟩, rfl, rfl, ?_, ?_⟩
  · show World.ownsRow _ _ _ 3 (.slice A2 n2 c2) n2 (EC (E.aboves l k))
    have hz := HSZ.out
    refine own_mono (base := w1.heap.size) ?_ (by omega)
    repeat (first | (with_reducible exact hown') | (with_reducible refine own_set ?_ (by omega) _))
  · repeat (first | (with_reducible exact hb3) | (with_reducible refine below_set ?_ (by omega) _))

end Go.Proofs.Ytkabkpeamggnnaa

namespace Go.Proofs.Ytkabkpeamggnnaa
set_option linter.unusedVariables false
set_option linter.unusedSimpArgs false
open Go.RowKit

set_option maxHeartbeats 2000000 in
set_option maxRecDepth 20000 in
theorem sjoin_any (v v' : Sv) (w : World) (h : SRd w v) (h' : SRd w v') (hn : v.n ≤ 400000) (hn' : v'.n ≤ 400000) (hr : S.rise v.s) (hr' : S.rise v'.s) :
    Calls Try.prog 68 #[sv v, sv v'] w (MadeS w (S.join v.s v'.s)) := by
  obtain ⟨⟨g, t, l⟩, A, n, c⟩ := v
  obtain ⟨⟨g', t', l'⟩, A', n', c'⟩ := v'
  simp only [sv]
  replace h := h.alloc (.cells #[.int .i64 g, .int .i64 t, .slice A n c] 40)
  replace h' := h'.alloc (.cells #[.int .i64 g, .int .i64 t, .slice A n c] 40)
  have X := Box.new w #[.int .i64 g, .int .i64 t, .slice A n c] 40
  have hb : Below w.heap.size w (w.alloc (.cells #[.int .i64 g, .int .i64 t, .slice A n c] 40)) := (Below.refl _ _).alloc (Nat.le_refl _) _
  replace h := h.alloc (.cells #[.int .i64 g', .int .i64 t', .slice A' n' c'] 40)
  replace h' := h'.alloc (.cells #[.int .i64 g', .int .i64 t', .slice A' n' c'] 40)
  replace X := X.alloc (.cells #[.int .i64 g', .int .i64 t', .slice A' n' c'] 40)
  have Y := Box.new (w.alloc (.cells #[.int .i64 g, .int .i64 t, .slice A n c] 40)) #[.int .i64 g', .int .i64 t', .slice A' n' c'] 40
  rw [show (w.alloc (.cells #[.int .i64 g, .int .i64 t, .slice A n c] 40)).heap.size = w.heap.size + 1 by simp] at Y
  replace hb := hb.alloc hb.size (.cells #[.int .i64 g', .int .i64 t', .slice A' n' c'] 40)
  replace h := h.alloc (.cells #[.int .i64 0, .int .i64 0, .slice none 0 0] 40)
  replace h' := h'.alloc (.cells #[.int .i64 0, .int .i64 0, .slice none 0 0] 40)
  replace X := X.alloc (.cells #[.int .i64 0, .int .i64 0, .slice none 0 0] 40)
  replace Y := Y.alloc (.cells #[.int .i64 0, .int .i64 0, .slice none 0 0] 40)
  have Z := Box.new ((w.alloc (.cells #[.int .i64 g, .int .i64 t, .slice A n c] 40)).alloc (.cells #[.int .i64 g', .int .i64 t', .slice A' n' c'] 40)) #[.int .i64 0, .int .i64 0, .slice none 0 0] 40
  rw [show ((w.alloc (.cells #[.int .i64 g, .int .i64 t, .slice A n c] 40)).alloc (.cells #[.int .i64 g', .int .i64 t', .slice A' n' c'] 40)).heap.size = w.heap.size + 1 + 1 by simp] at Z
  replace hb := hb.alloc hb.size (.cells #[.int .i64 0, .int .i64 0, .slice none 0 0] 40)
  have HS : Hid ((((w.alloc (.cells #[.int .i64 g, .int .i64 t, .slice A n c] 40)).alloc (.cells #[.int .i64 g', .int .i64 t', .slice A' n' c'] 40)).alloc (.cells #[.int .i64 0, .int .i64 0, .slice none 0 0] 40)).heap.size = w.heap.size + 3) := Lib.hid (by simp)
  simp only at hn hn' hr hr'
  have HR := Lib.hid hr
  have HR2 := Lib.hid hr'
  clear hr hr'
  by_cases hg1 : g' < g
  · have HJ := Lib.hid (S.join_gt hg1 : S.join ⟨g, t, l⟩ ⟨g', t', l'⟩ = ⟨g, t, l⟩)
    go_enter Try.func68, Try.ntmps68
    go_wp2_with fail
    generalize ((w.alloc (.cells #[.int .i64 g, .int .i64 t, .slice A n c] 40)).alloc (.cells #[.int .i64 g', .int .i64 t', .slice A' n' c'] 40)).alloc (.cells #[.int .i64 0, .int .i64 0, .slice none 0 0] 40) = w1 at *
    refine (scopy_any ⟨⟨g, t, l⟩, A, n, c⟩ w1 h (by show n ≤ _; omega)).mono ?_
    rintro e w2 ⟨⟨s2, A2, n2, c2⟩, rfl, hs2, hown, hb2⟩
    simp only at hs2
    subst hs2
    have hown' : w2.ownsRow w1.heap.size 58 3 (.slice A2 n2 c2) n2 (EC l) := hown
    have Z2 := Z.below hb2 (by have := HS.out; omega)
    have z0 := Z2.at 0 rfl
    have z1 := Z2.at 1 rfl
    have z2 := Z2.at 2 rfl
    have zf := Z2.cold
    have z := Z2.lt
    have hb3 := hb.trans (hb2.mono hb.size)
    have hsz := HS.out
    have HSZ := Lib.hid (show w.heap.size + 2 < w1.heap.size by omega)
    clear hb2 hb hsz X Y Z h h'
    simp only [sv]
    go_wp2
    refine bodyPost_ret (v := sv ⟨⟨g, t, l⟩, A2, n2, c2⟩) (by simp [results, Try.results68, go_sem, z0, z1, z2, z, sv]; try rfl) rfl ?_
    refine ⟨⟨⟨g, t, l⟩, A2, n2, c2⟩, rfl, HJ.out.symm, ?_, ?_⟩
    · show World.ownsRow _ _ _ 3 (.slice A2 n2 c2) n2 (EC l)
      have hz := HSZ.out
      refine own_mono (base := w1.heap.size) ?_ (by omega)
      repeat (first | (with_reducible exact hown') | (with_reducible refine own_set ?_ (by omega) _))
    · repeat (first | (with_reducible exact hb3) | (with_reducible refine below_set ?_ (by omega) _))
  · by_cases hg2 : g < g'
    · have HJ := Lib.hid (S.join_lt hg2 : S.join ⟨g, t, l⟩ ⟨g', t', l'⟩ = ⟨g', t', l'⟩)
      go_enter Try.func68, Try.ntmps68
      go_wp2_with fail
      generalize ((w.alloc (.cells #[.int .i64 g, .int .i64 t, .slice A n c] 40)).alloc (.cells #[.int .i64 g', .int .i64 t', .slice A' n' c'] 40)).alloc (.cells #[.int .i64 0, .int .i64 0, .slice none 0 0] 40) = w1 at *
      refine (scopy_any ⟨⟨g', t', l'⟩, A', n', c'⟩ w1 h' (by show n' ≤ _; omega)).mono ?_
      rintro e w2 ⟨⟨s2, A2, n2, c2⟩, rfl, hs2, hown, hb2⟩
      simp only at hs2
      subst hs2
      have hown' : w2.ownsRow w1.heap.size 58 3 (.slice A2 n2 c2) n2 (EC l') := hown
      have Z2 := Z.below hb2 (by have := HS.out; omega)
      have z0 := Z2.at 0 rfl
      have z1 := Z2.at 1 rfl
      have z2 := Z2.at 2 rfl
      have zf := Z2.cold
      have z := Z2.lt
      have hb3 := hb.trans (hb2.mono hb.size)
      have hsz := HS.out
      have HSZ := Lib.hid (show w.heap.size + 2 < w1.heap.size by omega)
      clear hb2 hb hsz X Y Z h h'
      simp only [sv]
      go_wp2
      refine bodyPost_ret (v := sv ⟨⟨g', t', l'⟩, A2, n2, c2⟩) (by simp [results, Try.results68, go_sem, z0, z1, z2, z, sv]; try rfl) rfl ?_
      refine ⟨⟨⟨g', t', l'⟩, A2, n2, c2⟩, rfl, HJ.out.symm, ?_, ?_⟩
      · show World.ownsRow _ _ _ 3 (.slice A2 n2 c2) n2 (EC l')
        have hz := HSZ.out
        refine own_mono (base := w1.heap.size) ?_ (by omega)
        repeat (first | (with_reducible exact hown') | (with_reducible refine own_set ?_ (by omega) _))
      · repeat (first | (with_reducible exact hb3) | (with_reducible refine below_set ?_ (by omega) _))
    · have hge : g = g' := by omega
      subst hge
      clear hg1 hg2
      have y0 := X.at 0 rfl
      have y1 := X.at 1 rfl
      have y2 := X.at 2 rfl
      have x0 := Y.at 0 rfl
      have x1 := Y.at 1 rfl
      have x2 := Y.at 2 rfl
      by_cases htt : t < t'
      all_goals
        have HJ := Lib.hid (S.join_eq (a := ⟨g, t, l⟩) (b := ⟨g, t', l'⟩) rfl)
        have hmax : max t t' = if t < t' then t' else t := imax t t'
        have HMAX := Lib.hid hmax
        clear hmax
        go_enter Try.func68, Try.ntmps68
        go_wp2
        generalize ((w.alloc (.cells #[.int .i64 g, .int .i64 t, .slice A n c] 40)).alloc (.cells #[.int .i64 g, .int .i64 t', .slice A' n' c'] 40)).alloc (.cells #[.int .i64 0, .int .i64 0, .slice none 0 0] 40) = w1 at *
        refine wp_region_held_drew (S := (fun w' => (w'.cell? ⟨w.heap.size, 0, none⟩ = some (.int .i64 g) ∧ w'.cell? ⟨w.heap.size, 1, none⟩ = some (.int .i64 t) ∧ w'.cell? ⟨w.heap.size, 2, none⟩ = some (.slice A n c)) ∧ w'.cell? ⟨w.heap.size + 1, 1, none⟩ = some (.int .i64 t') ∧ w'.cell? ⟨w.heap.size + 1, 2, none⟩ = some (.slice A' n' c'))) (by kernel_rfl) (by first | exact ⟨⟨y0, y1, y2⟩, x1, x2⟩ | exact ⟨⟨X2.at 0 rfl, X2.at 1 rfl, X2.at 2 rfl⟩, Y2.at 1 rfl, Y2.at 2 rfl⟩ | exact ⟨⟨(X2.other3 (by omega) _ _ _).at 0 rfl, (X2.other3 (by omega) _ _ _).at 1 rfl, (X2.other3 (by omega) _ _ _).at 2 rfl⟩, (Y2.other3 (by omega) _ _ _).at 1 rfl, (Y2.other3 (by omega) _ _ _).at 2 rfl⟩) (fun hHeld0 => ?_)
        refine wpAnyH_take (i := 0) (oi := ⟨some 21, _, _, _, _, _⟩) (v := ?_) rfl (by kernel_rfl) (by kernel_rfl) (by kernel_rfl) (fun _ _ _ h => h) (Or.inl ⟨by rfl, ?_⟩) hHeld0 ?_
        rotate_left
        · (intro w' hSw; (try dsimp only at hSw); go_simp; all_goals (with_reducible rfl))
        try simp only [Act.put, sA, sB, sC]
        refine wpAnyH_take (i := 1) (oi := ⟨some 22, _, _, _, _, _⟩) (v := ?_) rfl (by kernel_rfl) (by kernel_rfl) (by kernel_rfl) (fun _ _ _ h => h) (Or.inl ⟨by rfl, ?_⟩) hHeld0 ?_
        rotate_left
        · (intro w' hSw; (try dsimp only at hSw); go_simp; all_goals (with_reducible rfl))
        try simp only [Act.put, sA, sB, sC]
        refine wpAnyH_take (i := 2) (oi := ⟨some 23, _, _, _, _, _⟩) (v := ?_) rfl (by kernel_rfl) (by kernel_rfl) (by kernel_rfl) (fun _ _ _ h => h) (Or.inl ⟨by rfl, ?_⟩) hHeld0 ?_
        rotate_left
        · (intro w' hSw; (try dsimp only at hSw); go_simp; all_goals (with_reducible rfl))
        try simp only [Act.put, sA, sB, sC]
        refine wpAnyH_take (i := 3) (oi := ⟨some 24, _, _, _, _, _⟩) (v := ?_) rfl (by kernel_rfl) (by kernel_rfl) (by kernel_rfl) (fun _ _ _ h => h) (Or.inl ⟨by rfl, ?_⟩) hHeld0 ?_
        rotate_left
        · (intro w' hSw; (try dsimp only at hSw); go_simp; all_goals (with_reducible rfl))
        try simp only [Act.put, sA, sB, sC]
        refine wpAnyH_take (i := 4) (oi := ⟨some 25, _, _, _, _, _⟩) (v := ?_) rfl (by kernel_rfl) (by kernel_rfl) (by kernel_rfl) (fun _ _ _ h => h) (Or.inl ⟨by rfl, ?_⟩) hHeld0 ?_
        rotate_left
        · (intro w' hSw; (try dsimp only at hSw); go_simp; all_goals (with_reducible rfl))
        try simp only [Act.put, sA, sB, sC]
        refine wpAnyH_take (i := 5) (oi := ⟨some 26, _, _, _, _, _⟩) (v := ?_) rfl (by kernel_rfl) (by kernel_rfl) (by kernel_rfl) (fun _ _ _ h => h) (Or.inl ⟨by rfl, ?_⟩) hHeld0 ?_
        rotate_left
        · (intro w' hSw; (try dsimp only at hSw); go_simp; all_goals (with_reducible rfl))
        try simp only [Act.put, sA, sB, sC]
        refine wpAnyH_take (i := 6) (oi := ⟨some 27, _, _, _, _, _⟩) (v := ?_) rfl (by kernel_rfl) (by kernel_rfl) (by kernel_rfl) (fun _ _ _ h => h) (Or.inl ⟨by rfl, ?_⟩) hHeld0 ?_
        rotate_left
        · (intro w' hSw; (try dsimp only at hSw); go_simp; all_goals (with_reducible rfl))
        try simp only [Act.put, sA, sB, sC]
        refine wpAnyH_take (i := 7) (oi := ⟨some 28, _, _, _, _, _⟩) (v := ?_) rfl (by kernel_rfl) (by kernel_rfl) (by kernel_rfl) (fun _ _ _ h => h) (Or.inl ⟨by rfl, ?_⟩) hHeld0 ?_
        rotate_left
        · (intro w' hSw; (try dsimp only at hSw); go_simp; all_goals (with_reducible rfl))
        try simp only [Act.put, sA, sB, sC]
        refine wpAnyH_take (i := 8) (oi := ⟨some 29, _, _, _, _, _⟩) (v := ?_) rfl (by kernel_rfl) (by kernel_rfl) (by kernel_rfl) (fun _ _ _ h => h) (Or.inl ⟨by rfl, ?_⟩) hHeld0 ?_
        rotate_left
        · (intro w' hSw; (try dsimp only at hSw); go_simp; all_goals (with_reducible rfl))
        try simp only [Act.put, sA, sB, sC]
        refine wpAnyH_take (i := 9) (oi := ⟨some 30, _, _, _, _, _⟩) (v := ?_) rfl (by kernel_rfl) (by kernel_rfl) (by kernel_rfl) (fun _ _ _ h => h) (Or.inl ⟨by rfl, ?_⟩) hHeld0 ?_
        rotate_left
        · (intro w' hSw; (try dsimp only at hSw); go_simp; all_goals (with_reducible rfl))
        try simp only [Act.put, sA, sB, sC]
        refine wpAnyH_take (i := 10) (oi := ⟨some 31, _, _, _, _, _⟩) (v := ?_) rfl (by kernel_rfl) (by kernel_rfl) (by kernel_rfl) (fun _ _ _ h => h) (Or.inl ⟨by rfl, ?_⟩) hHeld0 ?_
        rotate_left
        · (intro w' hSw; (try dsimp only at hSw); go_simp; all_goals (with_reducible rfl))
        try simp only [Act.put, sA, sB, sC]
        refine wpAnyH_ready (rs := [11]) (by kernel_rfl) (by simp) (AllReadyH.cons (o := ⟨some 32, _, _, _, _, _⟩) rfl (fun K hK => ?_) AllReadyH.nil)
        go_simp
        refine (join_any l l' A A' n n' c c' _ _ w1.drew (Rd.drewH h) (Nat.le_refl _) (Rd.drewH h') (Nat.le_refl _) (by omega) (by omega) HR.out HR2.out).mono ?_
        rintro e w2 ⟨A2, n2, c2, rfl, hn2, hown, hb2⟩
        have hsz := HS.out
        have hb2' : Below w1.heap.size w1 w2 := (Below.refl _ _).drew.trans hb2
        have X2 := X.below hb2' (by omega)
        have Y2 := Y.below hb2' (by omega)
        have Z2 := Z.below hb2' (by omega)
        have hown' : w2.ownsRow w1.heap.size 58 3 (.slice A2 n2 c2) n2 (EC (E.join l l')) := hown
        have z0 := Z2.at 0 rfl
        have z1 := Z2.at 1 rfl
        have z2 := Z2.at 2 rfl
        have zf := Z2.cold
        have z := Z2.lt
        have hb3 := hb.trans (hb2'.mono hb.size)
        have HSZ := Lib.hid (show w.heap.size + 2 < w1.heap.size by omega)
        clear hb2 hb2' hb hsz hown y0 y1 y2 x0 x1 x2 X Y Z h h' hn2
        have a0 := X2.at 0 rfl
        have a1 := X2.at 1 rfl
        have a2 := X2.at 2 rfl
        have e1 := Y2.at 1 rfl
        have e2 := Y2.at 2 rfl
        go_simp
        refine hK.out _ _ (by first | exact ⟨⟨y0, y1, y2⟩, x1, x2⟩ | exact ⟨⟨X2.at 0 rfl, X2.at 1 rfl, X2.at 2 rfl⟩, Y2.at 1 rfl, Y2.at 2 rfl⟩ | exact ⟨⟨(X2.other3 (by omega) _ _ _).at 0 rfl, (X2.other3 (by omega) _ _ _).at 1 rfl, (X2.other3 (by omega) _ _ _).at 2 rfl⟩, (Y2.other3 (by omega) _ _ _).at 1 rfl, (Y2.other3 (by omega) _ _ _).at 2 rfl⟩) (fun hHeld1 => ?_)
        clear hK hHeld0 K
        try simp only [Act.put, sA, sB, sC]
        refine wpAnyH_take (i := 12) (oi := ⟨some 33, _, _, _, _, _⟩) (v := ?_) rfl (by kernel_rfl) (by kernel_rfl) (by kernel_rfl) (fun _ _ _ h => h) (Or.inl ⟨by rfl, ?_⟩) hHeld1 ?_
        rotate_left
        · (intro w' hSw; (try dsimp only at hSw); go_simp; all_goals (with_reducible rfl))
        try simp only [Act.put, sA, sB, sC]
        refine wpAnyH_ready (rs := [13]) (by kernel_rfl) (by simp) (AllReadyH.cons (o := ⟨none, _, _, _, _, _⟩) rfl (fun K hK => ?_) AllReadyH.nil)
        go_simp
        go_simp
        refine hK.out _ _ (by first | exact ⟨⟨y0, y1, y2⟩, x1, x2⟩ | exact ⟨⟨X2.at 0 rfl, X2.at 1 rfl, X2.at 2 rfl⟩, Y2.at 1 rfl, Y2.at 2 rfl⟩ | exact ⟨⟨(X2.other3 (by omega) _ _ _).at 0 rfl, (X2.other3 (by omega) _ _ _).at 1 rfl, (X2.other3 (by omega) _ _ _).at 2 rfl⟩, (Y2.other3 (by omega) _ _ _).at 1 rfl, (Y2.other3 (by omega) _ _ _).at 2 rfl⟩) (fun hHeld2 => ?_)
        clear hK hHeld1 K
        try simp only [Act.put, sA, sB, sC]
        refine wpAnyH_done (by kernel_rfl) ?_ _
        go_wp2
        refine bodyPost_ret (v := sv ⟨⟨g, max t t', E.join l l'⟩, A2, n2, c2⟩) (by simp [results, Try.results68, go_sem, z0, z1, z2, z, sv, HMAX.out]; first | done | omega) rfl ?_
        refine ⟨⟨⟨g, max t t', E.join l l'⟩, A2, n2, c2⟩, rfl, HJ.out.symm, ?_, ?_⟩
        · show World.ownsRow _ _ _ 3 (.slice A2 n2 c2) n2 (EC (E.join l l'))
          have hz := HSZ.out
          refine own_mono (base := w1.heap.size) ?_ (by omega)
          repeat (first | (with_reducible exact hown') | (with_reducible refine own_set ?_ (by omega) _))
        · repeat (first | (with_reducible exact hb3) | (with_reducible refine below_set ?_ (by omega) _))
end Go.Proofs.Ytkabkpeamggnnaa

