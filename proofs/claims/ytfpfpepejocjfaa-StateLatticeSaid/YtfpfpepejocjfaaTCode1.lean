/- The code's words on states: Right, Top, Same. -/
import Derived.Test.YtfpfpepejocjfaaTGreat
import Derived.Test.YtfpfpepejocjfaaECode7
namespace Go.Proofs.Ytfpfpepejocjfaa
set_option linter.unusedVariables false
set_option linter.unusedSimpArgs false
open Go.RowKit

set_option maxHeartbeats 1000000 in
theorem sright_any (v : Sv) (w : World) (h : SRd w v) (hn : v.n * 32 ≤ 140737488351232) :
    Calls Try.prog 11 #[sv v] w fun e w' => e = .returned (.bool (srightB v.s)) ∧ Below w.heap.size w w' := by
  obtain ⟨⟨g, t, l⟩, A, n, c⟩ := v
  simp only [sv]
  have h1 := (h.alloc (.cells #[.int .i64 g, .int .i64 t, .slice A n c] 24))
  have b1 : Below w.heap.size w (w.alloc (.cells #[.int .i64 g, .int .i64 t, .slice A n c] 24)) := (Below.refl _ _).alloc (Nat.le_refl _) _
  unfold SRd at h1
  simp only at h1 hn
  have HF : ∀ {p : Prop}, ¬ p → (srightB ⟨g, t, l⟩ = false ∨ True) := fun _ => Or.inr trivial
  clear HF h
  by_cases e1 : 1 ≤ g
  · by_cases e2 : g ≤ 1099511627776
    · by_cases e3 : 0 ≤ t
      · by_cases e4 : t ≤ 1099511627776
        · have hs : srightB ⟨g, t, l⟩ = rightB l := by unfold srightB; simp [e1, e2, e3, e4]
          have HS := Lib.hid hs
          clear hs
          go_enter Try.func11, Try.ntmps11
          go_wp2_with fail
          refine (right_any l A n c _ _ h1 (Nat.le_refl _) hn).mono ?_
          rintro e w2 ⟨rfl, hb⟩
          go_wp2
          go_ret
          exact ⟨ret_bool HS.out.symm, b1.trans (hb.mono b1.size)⟩
        · have hs : srightB ⟨g, t, l⟩ = false := srightB_no fun h => e4 h.2.2.2.1
          have HS := Lib.hid hs
          clear hs
          go_enter Try.func11, Try.ntmps11
          go_wp2
          go_ret
          exact ⟨ret_bool HS.out.symm, b1⟩
      · have hs : srightB ⟨g, t, l⟩ = false := srightB_no fun h => e3 h.2.2.1
        have HS := Lib.hid hs
        clear hs
        go_enter Try.func11, Try.ntmps11
        go_wp2
        go_ret
        exact ⟨ret_bool HS.out.symm, b1⟩
    · have hs : srightB ⟨g, t, l⟩ = false := srightB_no fun h => e2 h.2.1
      have HS := Lib.hid hs
      clear hs
      go_enter Try.func11, Try.ntmps11
      go_wp2
      go_ret
      exact ⟨ret_bool HS.out.symm, b1⟩
  · have hs : srightB ⟨g, t, l⟩ = false := srightB_no fun h => e1 h.1
    have HS := Lib.hid hs
    clear hs
    go_enter Try.func11, Try.ntmps11
    go_wp2
    go_ret
    exact ⟨ret_bool HS.out.symm, b1⟩

set_option maxHeartbeats 1000000 in
theorem stop_any (v : Sv) (w : World) (h : SRd w v) (hn : v.n * 32 ≤ 140737488351232) :
    Calls Try.prog 13 #[sv v] w fun e w' => e = .returned (.int .i64 (S.top v.s)) ∧ Below w.heap.size w w' := by
  obtain ⟨⟨g, t, l⟩, A, n, c⟩ := v
  simp only [sv]
  have h1 := (h.alloc (.cells #[.int .i64 g, .int .i64 t, .slice A n c] 24))
  have b1 : Below w.heap.size w (w.alloc (.cells #[.int .i64 g, .int .i64 t, .slice A n c] 24)) := (Below.refl _ _).alloc (Nat.le_refl _) _
  have X := Box.new w #[.int .i64 g, .int .i64 t, .slice A n c] 24
  have y0 := X.at 0 rfl
  have y1 := X.at 1 rfl
  have y2 := X.at 2 rfl
  have HS : Hid (w.heap.size + 1 ≤ (w.alloc (.cells #[.int .i64 g, .int .i64 t, .slice A n c] 24)).heap.size) := Lib.hid (by simp)
  unfold SRd at h1
  simp only at h1 hn
  clear h
  by_cases hlt : t < E.top l
  all_goals
    have ht := hlt
    first | replace ht := stop_lt (g := g) ht | replace ht := stop_ge (g := g) ht
    have HT := Lib.hid ht
    clear ht
    go_enter Try.func13, Try.ntmps13
    go_wp2
    generalize w.alloc (.cells #[.int .i64 g, .int .i64 t, .slice A n c] 24) = w1 at *
    refine wp_region_held_drew (S := (fun w' => w'.cell? ⟨w.heap.size, 1, none⟩ = some (.int .i64 t) ∧ w'.cell? ⟨w.heap.size, 2, none⟩ = some (.slice A n c))) (by kernel_rfl) (by first | exact ⟨y1, y2⟩ | exact ⟨X2.at 1 rfl, X2.at 2 rfl⟩) (fun hHeld0 => ?_)
    refine wpAnyH_take (i := 0) (oi := ⟨some 3, _, _, _, _, _⟩) (v := ?_) rfl (by kernel_rfl) (by kernel_rfl) (by kernel_rfl) (fun _ _ _ h => h) (Or.inl ⟨by rfl, ?_⟩) hHeld0 ?_
    rotate_left
    · (intro w' hSw; (try dsimp only at hSw); go_simp; all_goals (with_reducible rfl))
    try simp only [Act.put, List.setIfInBounds_toArray, List.set_cons_zero, List.set_cons_succ]
    refine wpAnyH_take (i := 1) (oi := ⟨some 4, _, _, _, _, _⟩) (v := ?_) rfl (by kernel_rfl) (by kernel_rfl) (by kernel_rfl) (fun _ _ _ h => h) (Or.inl ⟨by rfl, ?_⟩) hHeld0 ?_
    rotate_left
    · (intro w' hSw; (try dsimp only at hSw); go_simp; all_goals (with_reducible rfl))
    try simp only [Act.put, List.setIfInBounds_toArray, List.set_cons_zero, List.set_cons_succ]
    refine wpAnyH_take (i := 2) (oi := ⟨some 5, _, _, _, _, _⟩) (v := ?_) rfl (by kernel_rfl) (by kernel_rfl) (by kernel_rfl) (fun _ _ _ h => h) (Or.inl ⟨by rfl, ?_⟩) hHeld0 ?_
    rotate_left
    · (intro w' hSw; (try dsimp only at hSw); go_simp; all_goals (with_reducible rfl))
    try simp only [Act.put, List.setIfInBounds_toArray, List.set_cons_zero, List.set_cons_succ]
    refine wpAnyH_take (i := 3) (oi := ⟨some 6, _, _, _, _, _⟩) (v := ?_) rfl (by kernel_rfl) (by kernel_rfl) (by kernel_rfl) (fun _ _ _ h => h) (Or.inl ⟨by rfl, ?_⟩) hHeld0 ?_
    rotate_left
    · (intro w' hSw; (try dsimp only at hSw); go_simp; all_goals (with_reducible rfl))
    try simp only [Act.put, List.setIfInBounds_toArray, List.set_cons_zero, List.set_cons_succ]
    refine wpAnyH_ready (rs := [4]) (by kernel_rfl) (by simp) (AllReadyH.cons (o := ⟨some 7, _, _, _, _, _⟩) rfl (fun K hK => ?_) AllReadyH.nil)
    go_simp
    (refine (top_any l A n c _ w1.drew h1.drew (Nat.le_refl _) (by omega)).mono ?_; rintro e w2 ⟨rfl, hb2⟩; have hb2' : Below w1.heap.size w1 w2 := (Below.refl _ _).drew.trans hb2; have hz := HS.out; have X2 := X.below hb2' (by omega); replace b1 := b1.trans (hb2'.mono b1.size); clear hb2 hb2' hz y0 y1 y2 h1)
    go_simp
    refine hK.out _ _ (by first | exact ⟨y1, y2⟩ | exact ⟨X2.at 1 rfl, X2.at 2 rfl⟩) (fun hHeld1 => ?_)
    clear hK hHeld0 K
    try simp only [Act.put, List.setIfInBounds_toArray, List.set_cons_zero, List.set_cons_succ]
    refine wpAnyH_take (i := 5) (oi := ⟨some 8, _, _, _, _, _⟩) (v := ?_) rfl (by kernel_rfl) (by kernel_rfl) (by kernel_rfl) (fun _ _ _ h => h) (Or.inl ⟨by rfl, ?_⟩) hHeld1 ?_
    rotate_left
    · (intro w' hSw; (try dsimp only at hSw); go_simp; all_goals (with_reducible rfl))
    try simp only [Act.put, List.setIfInBounds_toArray, List.set_cons_zero, List.set_cons_succ]
    refine wpAnyH_take (i := 6) (oi := ⟨some 2, _, _, _, _, _⟩) (v := ?_) rfl (by kernel_rfl) (by kernel_rfl) (by kernel_rfl) (fun _ _ _ h => h) (Or.inl ⟨by rfl, ?_⟩) hHeld1 ?_
    rotate_left
    · (intro w' hSw; (try dsimp only at hSw); go_simp; all_goals (with_reducible rfl))
    try simp only [Act.put, List.setIfInBounds_toArray, List.set_cons_zero, List.set_cons_succ]
    refine wpAnyH_done (by kernel_rfl) ?_ _
    go_wp2
    go_ret
    exact ⟨ret_int HT.out.symm, b1⟩

set_option maxHeartbeats 1000000 in
theorem ssame_any (v v' : Sv) (w : World) (h : SRd w v) (h' : SRd w v') (hn : v.n * 32 ≤ 140737488351232) (hn' : v'.n * 32 ≤ 140737488351232) :
    Calls Try.prog 15 #[sv v, sv v'] w fun e w' => e = .returned (.bool (sameB v.s v'.s)) ∧ Below w.heap.size w w' := by
  obtain ⟨⟨g, t, l⟩, A, n, c⟩ := v
  obtain ⟨⟨g', t', l'⟩, A', n', c'⟩ := v'
  simp only [sv]
  have hb := below2 w (.cells #[.int .i64 g, .int .i64 t, .slice A n c] 24) (.cells #[.int .i64 g', .int .i64 t', .slice A' n' c'] 24)
  have h1 := (h.alloc (.cells #[.int .i64 g, .int .i64 t, .slice A n c] 24)).alloc (.cells #[.int .i64 g', .int .i64 t', .slice A' n' c'] 24)
  have h2 := (h'.alloc (.cells #[.int .i64 g, .int .i64 t, .slice A n c] 24)).alloc (.cells #[.int .i64 g', .int .i64 t', .slice A' n' c'] 24)
  unfold SRd at h1 h2
  simp only at h1 h2 hn hn'
  clear h h'
  have hs := sameB_eq ⟨g, t, l⟩ ⟨g', t', l'⟩
  by_cases e1 : g = g'
  · by_cases e2 : t = t'
    · subst e1 e2
      have hs2 : sameB ⟨g, t, l⟩ ⟨g, t, l'⟩ = decide (l = l') := by rw [hs]; simp
      have HS := Lib.hid hs2
      clear hs hs2
      go_enter Try.func15, Try.ntmps15
      go_wp2_with fail
      refine (same_any l l' A A' n n' c c' _ _ _ h1 h2 hn hn').mono ?_
      rintro e w2 ⟨rfl, q, hq⟩
      have hb2 := below_of_drew hq
      clear hq
      go_wp2
      go_ret
      exact ⟨ret_bool HS.out.symm, hb.trans (hb2.mono hb.size)⟩
    · subst e1
      have hs2 : sameB ⟨g, t, l⟩ ⟨g, t', l'⟩ = false := by rw [hs]; simp [e2]
      have HS := Lib.hid hs2
      have t2 : (t == t') = false := beq_eq_false_iff_ne.2 e2
      clear hs hs2 e2
      go_enter Try.func15, Try.ntmps15
      go_wp2
      go_ret
      exact ⟨ret_bool HS.out.symm, hb⟩
  · have hs2 : sameB ⟨g, t, l⟩ ⟨g', t', l'⟩ = false := by rw [hs]; simp [e1]
    have HS := Lib.hid hs2
    have t2 : (g == g') = false := beq_eq_false_iff_ne.2 e1
    clear hs hs2 e1
    go_enter Try.func15, Try.ntmps15
    go_wp2
    go_ret
    exact ⟨ret_bool HS.out.symm, hb⟩

end Go.Proofs.Ytfpfpepejocjfaa
