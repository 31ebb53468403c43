/- The reference's words on states: Right, Top, Same, Copy, Above. -/
import Derived.Test.YtoemefoppkgfaaaEHelp
import Derived.Test.YtoemefoppkgfaaaTMem
namespace Go.Proofs.Ytoemefoppkgfaaa
set_option linter.unusedVariables false
set_option linter.unusedSimpArgs false
open Go.RowKit

noncomputable def srightB (s : St) : Bool := decide (1 ≤ s.gen) && decide (s.gen ≤ 1099511627776) && decide (0 ≤ s.beat) && decide (s.beat ≤ 1099511627776) && rightB s.apps
theorem srightB_out {s : St} (h : srightB s = true) : S.right s := by
  unfold srightB at h
  simp only [Bool.and_eq_true, decide_eq_true_eq] at h
  obtain ⟨⟨⟨⟨h1, h2⟩, h3⟩, h4⟩, h5⟩ := h
  exact ⟨h1, h2, h3, h4, rightB_out h5⟩
theorem srightB_yes {s : St} (h : S.right s) : srightB s = true := by
  obtain ⟨h1, h2, h3, h4, h5⟩ := h
  unfold srightB
  simp [h1, h2, h3, h4, rightB_yes h5]
theorem srightB_no {s : St} (h : ¬ S.right s) : srightB s = false := by
  rcases h2 : srightB s
  · rfl
  · exact absurd (srightB_out h2) h

theorem own_set {w : World} {base b o : Nat} {e : TypeId} {size n : Nat} {v : Value} {xs : List Value} (h : w.ownsRow base e size v n xs) (hb : b < base) (u : Value) : (w.setCell ⟨b, o, none⟩ u).ownsRow base e size v n xs := ownsRow_setCell_below h hb u
/-- its table is the call's own -/
def SOwn (base : Nat) (w : World) (v : Sv) : Prop := w.ownsRow base 57 3 (.slice v.A v.n v.c) v.n (EC v.s.apps)
theorem SOwn.srd {base : Nat} {w : World} {v : Sv} (h : SOwn base w v) : SRd w v := Rd.of_own h
/-- a state that was made -/
def MadeS (W : World) (s : St) (e : Ending) (w' : World) : Prop :=
  ∃ v : Sv, e = .returned (sv v) ∧ v.s = s ∧ SOwn W.heap.size w' v ∧ Below W.heap.size W w'
def sameB (a b : St) : Bool := decide (a = b)
theorem sameB_eq (a b : St) : sameB a b = (decide (a.gen = b.gen) && decide (a.beat = b.beat) && decide (a.apps = b.apps)) := by
  obtain ⟨g, t, l⟩ := a
  obtain ⟨g', t', l'⟩ := b
  unfold sameB
  rw [Bool.eq_iff_iff]
  simp [and_assoc]

set_option maxHeartbeats 1000000 in
theorem rsright_any (v : Sv) (w : World) (h : SRd w v) (hn : v.n * 32 ≤ 140737488351232) :
    Calls Try.prog 21 #[sv v] w fun e w' => e = .returned (.bool (srightB v.s)) ∧ Below w.heap.size w w' := by
  obtain ⟨⟨g, t, l⟩, A, n, c⟩ := v
  simp only [sv]
  have h1 := (h.alloc (.cells #[.int .i64 g, .int .i64 t, .slice A n c] 37))
  have b1 : Below w.heap.size w (w.alloc (.cells #[.int .i64 g, .int .i64 t, .slice A n c] 37)) := (Below.refl _ _).alloc (Nat.le_refl _) _
  unfold SRd at h1
  simp only at h1 hn
  have HF : ∀ {p : Prop}, ¬ p → (srightB ⟨g, t, l⟩ = false ∨ True) := fun _ => Or.inr trivial
  clear HF h
  by_cases e1 : 1 ≤ g
  · by_cases e2 : g ≤ 1099511627776
    · by_cases e3 : 0 ≤ t
      · by_cases e4 : t ≤ 1099511627776
        · have hs : srightB ⟨g, t, l⟩ = rightB l := by unfold srightB; simp [e1, e2, e3, e4]
          have HS := Lib.hid hs
          clear hs
          go_enter Try.func21, Try.ntmps21
          go_wp2_with fail
          refine (rright_any l A n c _ _ h1 (Nat.le_refl _) hn).mono ?_
          rintro e w2 ⟨rfl, hb⟩
          go_wp2
          go_ret
          exact ⟨ret_bool HS.out.symm, b1.trans (hb.mono b1.size)⟩
        · have hs : srightB ⟨g, t, l⟩ = false := srightB_no fun h => e4 h.2.2.2.1
          have HS := Lib.hid hs
          clear hs
          go_enter Try.func21, Try.ntmps21
          go_wp2
          go_ret
          exact ⟨ret_bool HS.out.symm, b1⟩
      · have hs : srightB ⟨g, t, l⟩ = false := srightB_no fun h => e3 h.2.2.1
        have HS := Lib.hid hs
        clear hs
        go_enter Try.func21, Try.ntmps21
        go_wp2
        go_ret
        exact ⟨ret_bool HS.out.symm, b1⟩
    · have hs : srightB ⟨g, t, l⟩ = false := srightB_no fun h => e2 h.2.1
      have HS := Lib.hid hs
      clear hs
      go_enter Try.func21, Try.ntmps21
      go_wp2
      go_ret
      exact ⟨ret_bool HS.out.symm, b1⟩
  · have hs : srightB ⟨g, t, l⟩ = false := srightB_no fun h => e1 h.1
    have HS := Lib.hid hs
    clear hs
    go_enter Try.func21, Try.ntmps21
    go_wp2
    go_ret
    exact ⟨ret_bool HS.out.symm, b1⟩

/-- the cells of a boxed state -/
theorem box_cells {w : World} {b : Nat} {T : TypeId} {g t : Int} {x : Value} (h : Box w b T #[.int .i64 g, .int .i64 t, x]) :
    w.cell? ⟨b, 0, none⟩ = some (.int .i64 g) ∧ w.cell? ⟨b, 1, none⟩ = some (.int .i64 t) ∧ w.cell? ⟨b, 2, none⟩ = some x := ⟨h.at 0 rfl, h.at 1 rfl, h.at 2 rfl⟩
theorem stop_lt {g t : Int} {l : List Ent} (h : t < E.top l) : S.top ⟨g, t, l⟩ = E.top l := by show max t (E.top l) = _; omega
theorem stop_ge {g t : Int} {l : List Ent} (h : ¬ t < E.top l) : S.top ⟨g, t, l⟩ = t := by show max t (E.top l) = _; omega

set_option maxHeartbeats 1000000 in
theorem rstop_any (v : Sv) (w : World) (h : SRd w v) (hn : v.n * 32 ≤ 140737488351232) :
    Calls Try.prog 25 #[sv v] w fun e w' => e = .returned (.int .i64 (S.top v.s)) ∧ Below w.heap.size w w' := by
  obtain ⟨⟨g, t, l⟩, A, n, c⟩ := v
  simp only [sv]
  have h1 := (h.alloc (.cells #[.int .i64 g, .int .i64 t, .slice A n c] 37))
  have b1 : Below w.heap.size w (w.alloc (.cells #[.int .i64 g, .int .i64 t, .slice A n c] 37)) := (Below.refl _ _).alloc (Nat.le_refl _) _
  obtain ⟨y0, y1, y2⟩ := box_cells (Box.new w #[.int .i64 g, .int .i64 t, .slice A n c] 37)
  unfold SRd at h1
  simp only at h1 hn
  clear h
  by_cases hlt : t < E.top l
  all_goals
    have ht := hlt
    first | replace ht := stop_lt (g := g) ht | replace ht := stop_ge (g := g) ht
    have HT := Lib.hid ht
    clear ht
    go_enter Try.func25, Try.ntmps25
    go_wp2
    generalize w.alloc (.cells #[.int .i64 g, .int .i64 t, .slice A n c] 37) = w1 at *
    refine wp_region_held_drew (S := (fun w' => w'.cell? ⟨w.heap.size, 1, none⟩ = some (.int .i64 t) ∧ w'.cell? ⟨w.heap.size, 2, none⟩ = some (.slice A n c))) (by kernel_rfl) (by exact ⟨y1, y2⟩) (fun hHeld0 => ?_)
    refine wpAnyH_take (i := 0) (oi := ⟨some 3, _, _, _, _, _⟩) (v := ?_) rfl (by kernel_rfl) (by kernel_rfl) (by kernel_rfl) (fun _ _ _ h => h) (Or.inl ⟨by rfl, ?_⟩) hHeld0 ?_
    rotate_left
    · (intro w' hSw; (try dsimp only at hSw); go_simp; all_goals (with_reducible rfl))
    try simp only [Act.put, List.setIfInBounds_toArray, List.set_cons_zero, List.set_cons_succ]
    refine wpAnyH_take (i := 1) (oi := ⟨some 4, _, _, _, _, _⟩) (v := ?_) rfl (by kernel_rfl) (by kernel_rfl) (by kernel_rfl) (fun _ _ _ h => h) (Or.inl ⟨by rfl, ?_⟩) hHeld0 ?_
    rotate_left
    · (intro w' hSw; (try dsimp only at hSw); go_simp; all_goals (with_reducible rfl))
    try simp only [Act.put, List.setIfInBounds_toArray, List.set_cons_zero, List.set_cons_succ]
    refine wpAnyH_take (i := 2) (oi := ⟨some 5, _, _, _, _, _⟩) (v := ?_) rfl (by kernel_rfl) (by kernel_rfl) (by kernel_rfl) (fun _ _ _ h => h) (Or.inl ⟨by rfl, ?_⟩) hHeld0 ?_
    rotate_left
    · (intro w' hSw; (try dsimp only at hSw); go_simp; all_goals (with_reducible rfl))
    try simp only [Act.put, List.setIfInBounds_toArray, List.set_cons_zero, List.set_cons_succ]
    refine wpAnyH_take (i := 3) (oi := ⟨some 6, _, _, _, _, _⟩) (v := ?_) rfl (by kernel_rfl) (by kernel_rfl) (by kernel_rfl) (fun _ _ _ h => h) (Or.inl ⟨by rfl, ?_⟩) hHeld0 ?_
    rotate_left
    · (intro w' hSw; (try dsimp only at hSw); go_simp; all_goals (with_reducible rfl))
    try simp only [Act.put, List.setIfInBounds_toArray, List.set_cons_zero, List.set_cons_succ]
    refine wpAnyH_ready (rs := [4]) (by kernel_rfl) (by simp) (AllReadyH.cons (o := ⟨some 7, _, _, _, _, _⟩) rfl (fun K hK => ?_) AllReadyH.nil)
    go_simp
    (refine (rtop_any l A n c _ _ h1.drew (by omega)).mono ?_; rintro e w2 ⟨rfl, rfl⟩)
    go_simp
    refine hK.out _ _ (by exact ⟨y1, y2⟩) (fun hHeld1 => ?_)
    clear hK hHeld0 K
    try simp only [Act.put, List.setIfInBounds_toArray, List.set_cons_zero, List.set_cons_succ]
    refine wpAnyH_take (i := 5) (oi := ⟨some 8, _, _, _, _, _⟩) (v := ?_) rfl (by kernel_rfl) (by kernel_rfl) (by kernel_rfl) (fun _ _ _ h => h) (Or.inl ⟨by rfl, ?_⟩) hHeld1 ?_
    rotate_left
    · (intro w' hSw; (try dsimp only at hSw); go_simp; all_goals (with_reducible rfl))
    try simp only [Act.put, List.setIfInBounds_toArray, List.set_cons_zero, List.set_cons_succ]
    refine wpAnyH_take (i := 6) (oi := ⟨some 2, _, _, _, _, _⟩) (v := ?_) rfl (by kernel_rfl) (by kernel_rfl) (by kernel_rfl) (fun _ _ _ h => h) (Or.inl ⟨by rfl, ?_⟩) hHeld1 ?_
    rotate_left
    · (intro w' hSw; (try dsimp only at hSw); go_simp; all_goals (with_reducible rfl))
    try simp only [Act.put, List.setIfInBounds_toArray, List.set_cons_zero, List.set_cons_succ]
    refine wpAnyH_done (by kernel_rfl) ?_ _
    go_wp2
    go_ret
    exact ⟨ret_int HT.out.symm, b1.drew⟩
end Go.Proofs.Ytoemefoppkgfaaa
