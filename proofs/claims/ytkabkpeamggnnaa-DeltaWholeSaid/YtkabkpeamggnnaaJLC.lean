/- LC1 LC3 LC4 LC5 LC2 LC6 (merged). -/
import Derived.Test.YtkabkpeamggnnaaJLRef
import Derived.Test.YtkabkpeamggnnaaJTCode
import Derived.Test.YtkabkpeamggnnaaJVC
import Derived.Test.YtkabkpeamggnnaaJLRt
namespace Go.Proofs.Ytkabkpeamggnnaa
set_option linter.unusedVariables false
set_option linter.unusedSimpArgs false
open Go.RowKit

noncomputable def lmayB (d : Dl) : Bool := open Classical in decide (L.may d)
theorem lmayB_out {d : Dl} (h : lmayB d = true) : L.may d := by unfold lmayB at h; simpa using h
theorem lmayB_no {d : Dl} (h : lmayB d = false) : ¬ L.may d := by unfold lmayB at h; simpa using h
theorem above_same {s : St} {v : Int} : S.above s v = s ↔ ∀ e ∈ s.apps, v < e.ver := by
  obtain ⟨g, t, l⟩ := s
  unfold S.above E.aboves
  rw [St.mk.injEq]
  simp only [true_and]
  rw [List.filter_eq_self]
  simp
theorem lmayB_def (node frm : Int) (s : St) : lmayB ⟨node, frm, s⟩ = (decide (0 ≤ node) && decide (node < 8) && decide (0 ≤ frm) && decide (frm ≤ 1099511627776) && srightB s && sameB (S.above s frm) s) := by
  have hs : srightB s = true ↔ S.right s := ⟨srightB_out, srightB_yes⟩
  have ha : sameB (S.above s frm) s = true ↔ ∀ e ∈ s.apps, frm < e.ver := by unfold sameB; rw [decide_eq_true_eq]; exact above_same
  rw [Bool.eq_iff_iff]
  unfold lmayB L.may
  simp only [decide_eq_true_eq, Bool.and_eq_true, hs, ha]
  simp only [and_assoc]

set_option maxHeartbeats 4000000 in
set_option maxRecDepth 20000 in
theorem lcmay_any (x : Lv) (w : World) (h : SRd w x.v) (hn : x.v.n ≤ 4000) : Calls Try.prog 43 #[lv x] w fun e w' => e = .returned (.bool (lmayB x.dl)) ∧ Below w.heap.size w w' := by
  have hd : lmayB x.dl = _ := lmayB_def x.node x.frm x.v.s
  obtain ⟨node, frm, ⟨⟨g, t, tl⟩, At, nt, ct⟩⟩ := x
  simp only [lv]
  simp only at hn h
  have X := Box.new w #[.int .i64 node, .int .i64 frm, .int .i64 g, .int .i64 t, .slice At nt ct] 42
  have b1 : Below w.heap.size w (w.alloc (.cells #[.int .i64 node, .int .i64 frm, .int .i64 g, .int .i64 t, .slice At nt ct] 42)) := (Below.refl _ _).alloc (Nat.le_refl _) _
  have h1 := h.allocH (.cells #[.int .i64 node, .int .i64 frm, .int .i64 g, .int .i64 t, .slice At nt ct] 42)
  have hs1 : w.heap.size < (w.alloc (.cells #[.int .i64 node, .int .i64 frm, .int .i64 g, .int .i64 t, .slice At nt ct] 42)).heap.size := by simp
  clear h
  have hd' : lmayB (Lv.dl ⟨node, frm, ⟨⟨g, t, tl⟩, At, nt, ct⟩⟩) = (decide (0 ≤ node) && decide (node < 8) && decide (0 ≤ frm) && decide (frm ≤ 1099511627776) && srightB ⟨g, t, tl⟩ && sameB (S.above ⟨g, t, tl⟩ frm) ⟨g, t, tl⟩) := hd
  clear hd
  have hd := hd'
  clear hd'
  by_cases e1 : 0 ≤ node
  · have ue1 : decide (0 ≤ node) = true := decide_eq_true e1
    by_cases e2 : node < 8
    · have ue2 : decide (node < 8) = true := decide_eq_true e2
      by_cases e3 : 0 ≤ frm
      · have ue3 : decide (0 ≤ frm) = true := decide_eq_true e3
        by_cases e4 : frm ≤ 1099511627776
        · have ue4 : decide (frm ≤ 1099511627776) = true := decide_eq_true e4
          rcases hr : srightB ⟨g, t, tl⟩
          · skip
            have HD := Lib.hid (hd.trans (show _ = false by simp [hr]))
            clear hd
            go_enter Try.func43, Try.ntmps43
            go_wp2
            generalize w.alloc (.cells #[.int .i64 node, .int .i64 frm, .int .i64 g, .int .i64 t, .slice At nt ct] 42) = w1 at *
            have d0 := X.at 0 rfl
            have d1 := X.at 1 rfl
            have d2 := X.at 2 rfl
            have d3 := X.at 3 rfl
            have d4 := X.at 4 rfl
            refine wp_region_held_drew (S := (fun w' => w'.cell? ⟨w.heap.size, 0, none⟩ = some (.int .i64 node) ∧ w'.cell? ⟨w.heap.size, 1, none⟩ = some (.int .i64 frm) ∧ w'.cell? ⟨w.heap.size, 2, none⟩ = some (.int .i64 g) ∧ w'.cell? ⟨w.heap.size, 3, none⟩ = some (.int .i64 t) ∧ w'.cell? ⟨w.heap.size, 4, none⟩ = some (.slice At nt ct))) (by kernel_rfl) (by exact ⟨d0, d1, d2, d3, d4⟩) (fun hHeld0 => ?_)
            refine wpAnyH_take (i := 0) (oi := ⟨some 3, _, _, _, _, _⟩) (v := ?_) rfl (by kernel_rfl) (by kernel_rfl) (by kernel_rfl) (fun _ _ _ h => h) (Or.inl ⟨by rfl, ?_⟩) hHeld0 ?_
            rotate_left
            · (intro w' hSw; (try dsimp only at hSw); go_simp; all_goals (with_reducible rfl))
            try simp only [Act.put, sA, sB, sC]
            refine wpAnyH_take (i := 1) (oi := ⟨some 4, _, _, _, _, _⟩) (v := ?_) rfl (by kernel_rfl) (by kernel_rfl) (by kernel_rfl) (fun _ _ _ h => h) (Or.inl ⟨by rfl, ?_⟩) hHeld0 ?_
            rotate_left
            · (intro w' hSw; (try dsimp only at hSw); go_simp; all_goals (with_reducible rfl))
            try simp only [Act.put, sA, sB, sC]
            refine wpAnyH_take (i := 2) (oi := ⟨some 5, _, _, _, _, _⟩) (v := ?_) rfl (by kernel_rfl) (by kernel_rfl) (by kernel_rfl) (fun _ _ _ h => h) (Or.inl ⟨by rfl, ?_⟩) hHeld0 ?_
            rotate_left
            · (intro w' hSw; (try dsimp only at hSw); go_simp; all_goals (with_reducible rfl))
            try simp only [Act.put, sA, sB, sC]
            refine wpAnyH_take (i := 3) (oi := ⟨some 6, _, _, _, _, _⟩) (v := ?_) rfl (by kernel_rfl) (by kernel_rfl) (by kernel_rfl) (fun _ _ _ h => h) (Or.inl ⟨by rfl, ?_⟩) hHeld0 ?_
            rotate_left
            · (intro w' hSw; (try dsimp only at hSw); go_simp; all_goals (with_reducible rfl))
            try simp only [Act.put, sA, sB, sC]
            refine wpAnyH_take (i := 4) (oi := ⟨some 7, _, _, _, _, _⟩) (v := ?_) rfl (by kernel_rfl) (by kernel_rfl) (by kernel_rfl) (fun _ _ _ h => h) (Or.inl ⟨by rfl, ?_⟩) hHeld0 ?_
            rotate_left
            · (intro w' hSw; (try dsimp only at hSw); go_simp; all_goals (with_reducible rfl))
            try simp only [Act.put, sA, sB, sC]
            refine wpAnyH_take (i := 5) (oi := ⟨some 8, _, _, _, _, _⟩) (v := ?_) rfl (by kernel_rfl) (by kernel_rfl) (by kernel_rfl) (fun _ _ _ h => h) (Or.inl ⟨by rfl, ?_⟩) hHeld0 ?_
            rotate_left
            · (intro w' hSw; (try dsimp only at hSw); go_simp; all_goals (with_reducible rfl))
            try simp only [Act.put, sA, sB, sC]
            refine wpAnyH_take (i := 6) (oi := ⟨some 9, _, _, _, _, _⟩) (v := ?_) rfl (by kernel_rfl) (by kernel_rfl) (by kernel_rfl) (fun _ _ _ h => h) (Or.inl ⟨by rfl, ?_⟩) hHeld0 ?_
            rotate_left
            · (intro w' hSw; (try dsimp only at hSw); go_simp; all_goals (with_reducible rfl))
            try simp only [Act.put, sA, sB, sC]
            refine wpAnyH_take (i := 7) (oi := ⟨some 10, _, _, _, _, _⟩) (v := ?_) rfl (by kernel_rfl) (by kernel_rfl) (by kernel_rfl) (fun _ _ _ h => h) (Or.inl ⟨by rfl, ?_⟩) hHeld0 ?_
            rotate_left
            · (intro w' hSw; (try dsimp only at hSw); go_simp; all_goals (with_reducible rfl))
            try simp only [Act.put, sA, sB, sC]
            refine wpAnyH_take (i := 8) (oi := ⟨some 11, _, _, _, _, _⟩) (v := ?_) rfl (by kernel_rfl) (by kernel_rfl) (by kernel_rfl) (fun _ _ _ h => h) (Or.inl ⟨by rfl, ?_⟩) hHeld0 ?_
            rotate_left
            · (intro w' hSw; (try dsimp only at hSw); go_simp; all_goals (with_reducible rfl))
            try simp only [Act.put, sA, sB, sC]
            refine wpAnyH_take (i := 9) (oi := ⟨some 12, _, _, _, _, _⟩) (v := ?_) rfl (by kernel_rfl) (by kernel_rfl) (by kernel_rfl) (fun _ _ _ h => h) (Or.inl ⟨by rfl, ?_⟩) hHeld0 ?_
            rotate_left
            · (intro w' hSw; (try dsimp only at hSw); go_simp; all_goals (with_reducible rfl))
            try simp only [Act.put, sA, sB, sC]
            refine wpAnyH_take (i := 10) (oi := ⟨some 13, _, _, _, _, _⟩) (v := ?_) rfl (by kernel_rfl) (by kernel_rfl) (by kernel_rfl) (fun _ _ _ h => h) (Or.inl ⟨by rfl, ?_⟩) hHeld0 ?_
            rotate_left
            · (intro w' hSw; (try dsimp only at hSw); go_simp; all_goals (with_reducible rfl))
            try simp only [Act.put, sA, sB, sC]
            refine wpAnyH_take (i := 11) (oi := ⟨some 14, _, _, _, _, _⟩) (v := ?_) rfl (by kernel_rfl) (by kernel_rfl) (by kernel_rfl) (fun _ _ _ h => h) (Or.inl ⟨by rfl, ?_⟩) hHeld0 ?_
            rotate_left
            · (intro w' hSw; (try dsimp only at hSw); go_simp; all_goals (with_reducible rfl))
            try simp only [Act.put, sA, sB, sC]
            refine wpAnyH_take (i := 12) (oi := ⟨some 15, _, _, _, _, _⟩) (v := ?_) rfl (by kernel_rfl) (by kernel_rfl) (by kernel_rfl) (fun _ _ _ h => h) (Or.inl ⟨by rfl, ?_⟩) hHeld0 ?_
            rotate_left
            · (intro w' hSw; (try dsimp only at hSw); go_simp; all_goals (with_reducible rfl))
            try simp only [Act.put, sA, sB, sC]
            refine wpAnyH_take (i := 13) (oi := ⟨some 16, _, _, _, _, _⟩) (v := ?_) rfl (by kernel_rfl) (by kernel_rfl) (by kernel_rfl) (fun _ _ _ h => h) (Or.inl ⟨by rfl, ?_⟩) hHeld0 ?_
            rotate_left
            · (intro w' hSw; (try dsimp only at hSw); go_simp; all_goals (with_reducible rfl))
            try simp only [Act.put, sA, sB, sC]
            refine wpAnyH_take (i := 14) (oi := ⟨some 17, _, _, _, _, _⟩) (v := ?_) rfl (by kernel_rfl) (by kernel_rfl) (by kernel_rfl) (fun _ _ _ h => h) (Or.inl ⟨by rfl, ?_⟩) hHeld0 ?_
            rotate_left
            · (intro w' hSw; (try dsimp only at hSw); go_simp; all_goals (with_reducible rfl))
            try simp only [Act.put, sA, sB, sC]
            refine wpAnyH_take (i := 15) (oi := ⟨some 18, _, _, _, _, _⟩) (v := ?_) rfl (by kernel_rfl) (by kernel_rfl) (by kernel_rfl) (fun _ _ _ h => h) (Or.inl ⟨by rfl, ?_⟩) hHeld0 ?_
            rotate_left
            · (intro w' hSw; (try dsimp only at hSw); go_simp; all_goals (with_reducible rfl))
            try simp only [Act.put, sA, sB, sC]
            refine wpAnyH_take (i := 16) (oi := ⟨some 19, _, _, _, _, _⟩) (v := ?_) rfl (by kernel_rfl) (by kernel_rfl) (by kernel_rfl) (fun _ _ _ h => h) (Or.inl ⟨by rfl, ?_⟩) hHeld0 ?_
            rotate_left
            · (intro w' hSw; (try dsimp only at hSw); go_simp; all_goals (with_reducible rfl))
            try simp only [Act.put, sA, sB, sC]
            refine wpAnyH_take (i := 17) (oi := ⟨some 20, _, _, _, _, _⟩) (v := ?_) rfl (by kernel_rfl) (by kernel_rfl) (by kernel_rfl) (fun _ _ _ h => h) (Or.inl ⟨by rfl, ?_⟩) hHeld0 ?_
            rotate_left
            · (intro w' hSw; (try dsimp only at hSw); go_simp; all_goals (with_reducible rfl))
            try simp only [Act.put, sA, sB, sC]
            refine wpAnyH_take (i := 18) (oi := ⟨some 21, _, _, _, _, _⟩) (v := ?_) rfl (by kernel_rfl) (by kernel_rfl) (by kernel_rfl) (fun _ _ _ h => h) (Or.inl ⟨by rfl, ?_⟩) hHeld0 ?_
            rotate_left
            · (intro w' hSw; (try dsimp only at hSw); go_simp; all_goals (with_reducible rfl))
            try simp only [Act.put, sA, sB, sC]
            refine wpAnyH_take (i := 19) (oi := ⟨some 22, _, _, _, _, _⟩) (v := ?_) rfl (by kernel_rfl) (by kernel_rfl) (by kernel_rfl) (fun _ _ _ h => h) (Or.inl ⟨by rfl, ?_⟩) hHeld0 ?_
            rotate_left
            · (intro w' hSw; (try dsimp only at hSw); go_simp; all_goals (with_reducible rfl))
            try simp only [Act.put, sA, sB, sC]
            refine wpAnyH_take (i := 20) (oi := ⟨some 23, _, _, _, _, _⟩) (v := ?_) rfl (by kernel_rfl) (by kernel_rfl) (by kernel_rfl) (fun _ _ _ h => h) (Or.inl ⟨by rfl, ?_⟩) hHeld0 ?_
            rotate_left
            · (intro w' hSw; (try dsimp only at hSw); go_simp; all_goals (with_reducible rfl))
            try simp only [Act.put, sA, sB, sC]
            refine wpAnyH_ready (rs := [21]) (by kernel_rfl) (by simp) (AllReadyH.cons (o := ⟨some 24, _, _, _, _, _⟩) rfl (fun K hK => ?_) AllReadyH.nil)
            go_simp
            (refine (sright_any ⟨⟨g, t, tl⟩, At, nt, ct⟩ _ h1.drewH (by show nt * 32 ≤ _; omega)).mono ?_; rintro e w2 ⟨rfl, hb2⟩; have HE2 : Hid (srightB (Sv.mk ⟨g, t, tl⟩ At nt ct).s = false) := Lib.hid hr; rw [HE2.out]; have X2 := X.drew.below hb2 hs1; have hs2 := X2.lt; replace d0 := X2.at 0 rfl; replace d1 := X2.at 1 rfl; replace d2 := X2.at 2 rfl; replace d3 := X2.at 3 rfl; replace d4 := X2.at 4 rfl)
            go_simp
            refine hK.out _ _ (by exact ⟨d0, d1, d2, d3, d4⟩) (fun hHeld1 => ?_)
            clear hK hHeld0 K
            try simp only [Act.put, sA, sB, sC]
            refine wpAnyH_take (i := 22) (oi := ⟨some 25, _, _, _, _, _⟩) (v := ?_) rfl (by kernel_rfl) (by kernel_rfl) (by kernel_rfl) (fun _ _ _ h => h) (Or.inl ⟨by rfl, ?_⟩) hHeld1 ?_
            rotate_left
            · (intro w' hSw; (try dsimp only at hSw); go_simp; all_goals (with_reducible rfl))
            try simp only [Act.put, sA, sB, sC]
            refine wpAnyH_take (i := 23) (oi := ⟨some 26, _, _, _, _, _⟩) (v := ?_) rfl (by kernel_rfl) (by kernel_rfl) (by kernel_rfl) (fun _ _ _ h => h) (Or.inl ⟨by rfl, ?_⟩) hHeld1 ?_
            rotate_left
            · (intro w' hSw; (try dsimp only at hSw); go_simp; all_goals (with_reducible rfl))
            try simp only [Act.put, sA, sB, sC]
            refine wpAnyH_take (i := 24) (oi := ⟨some 27, _, _, _, _, _⟩) (v := undef) rfl (by kernel_rfl) (by kernel_rfl) (by kernel_rfl) (fun _ _ _ h => h) (Or.inr ⟨by rfl, rfl⟩) hHeld1 ?_
            try simp only [Act.put, sA, sB, sC]
            refine wpAnyH_take (i := 25) (oi := ⟨some 28, _, _, _, _, _⟩) (v := undef) rfl (by kernel_rfl) (by kernel_rfl) (by kernel_rfl) (fun _ _ _ h => h) (Or.inr ⟨by rfl, rfl⟩) hHeld1 ?_
            try simp only [Act.put, sA, sB, sC]
            refine wpAnyH_take (i := 26) (oi := ⟨some 29, _, _, _, _, _⟩) (v := undef) rfl (by kernel_rfl) (by kernel_rfl) (by kernel_rfl) (fun _ _ _ h => h) (Or.inr ⟨by rfl, rfl⟩) hHeld1 ?_
            try simp only [Act.put, sA, sB, sC]
            refine wpAnyH_take (i := 27) (oi := ⟨some 30, _, _, _, _, _⟩) (v := undef) rfl (by kernel_rfl) (by kernel_rfl) (by kernel_rfl) (fun _ _ _ h => h) (Or.inr ⟨by rfl, rfl⟩) hHeld1 ?_
            try simp only [Act.put, sA, sB, sC]
            refine wpAnyH_take (i := 28) (oi := ⟨some 31, _, _, _, _, _⟩) (v := undef) rfl (by kernel_rfl) (by kernel_rfl) (by kernel_rfl) (fun _ _ _ h => h) (Or.inr ⟨by rfl, rfl⟩) hHeld1 ?_
            try simp only [Act.put, sA, sB, sC]
            refine wpAnyH_take (i := 29) (oi := ⟨some 32, _, _, _, _, _⟩) (v := undef) rfl (by kernel_rfl) (by kernel_rfl) (by kernel_rfl) (fun _ _ _ h => h) (Or.inr ⟨by rfl, rfl⟩) hHeld1 ?_
            try simp only [Act.put, sA, sB, sC]
            refine wpAnyH_take (i := 30) (oi := ⟨some 33, _, _, _, _, _⟩) (v := undef) rfl (by kernel_rfl) (by kernel_rfl) (by kernel_rfl) (fun _ _ _ h => h) (Or.inr ⟨by rfl, rfl⟩) hHeld1 ?_
            try simp only [Act.put, sA, sB, sC]
            refine wpAnyH_take (i := 31) (oi := ⟨some 34, _, _, _, _, _⟩) (v := undef) rfl (by kernel_rfl) (by kernel_rfl) (by kernel_rfl) (fun _ _ _ h => h) (Or.inr ⟨by rfl, rfl⟩) hHeld1 ?_
            try simp only [Act.put, sA, sB, sC]
            refine wpAnyH_take (i := 32) (oi := ⟨some 35, _, _, _, _, _⟩) (v := ?_) rfl (by kernel_rfl) (by kernel_rfl) (by kernel_rfl) (fun _ _ _ h => h) (Or.inl ⟨by rfl, ?_⟩) hHeld1 ?_
            rotate_left
            · (intro w' hSw; (try dsimp only at hSw); go_simp; all_goals (with_reducible rfl))
            try simp only [Act.put, sA, sB, sC]
            refine wpAnyH_take (i := 33) (oi := ⟨some 2, _, _, _, _, _⟩) (v := ?_) rfl (by kernel_rfl) (by kernel_rfl) (by kernel_rfl) (fun _ _ _ h => h) (Or.inl ⟨by rfl, ?_⟩) hHeld1 ?_
            rotate_left
            · (intro w' hSw; (try dsimp only at hSw); go_simp; all_goals (with_reducible rfl))
            try simp only [Act.put, sA, sB, sC]
            refine wpAnyH_done (by kernel_rfl) ?_ _
            go_wp2
            go_ret
            exact ⟨ret_bool HD.out.symm, b1.drew.trans (hb2.mono (by show w.heap.size ≤ w1.heap.size; omega))⟩
          · skip
            have HD := Lib.hid (hd.trans (show _ = sameB (S.above ⟨g, t, tl⟩ frm) ⟨g, t, tl⟩ by simp [e1, e2, e3, e4, hr]))
            clear hd
            go_enter Try.func43, Try.ntmps43
            go_wp2
            generalize w.alloc (.cells #[.int .i64 node, .int .i64 frm, .int .i64 g, .int .i64 t, .slice At nt ct] 42) = w1 at *
            have d0 := X.at 0 rfl
            have d1 := X.at 1 rfl
            have d2 := X.at 2 rfl
            have d3 := X.at 3 rfl
            have d4 := X.at 4 rfl
            refine wp_region_held_drew (S := (fun w' => w'.cell? ⟨w.heap.size, 0, none⟩ = some (.int .i64 node) ∧ w'.cell? ⟨w.heap.size, 1, none⟩ = some (.int .i64 frm) ∧ w'.cell? ⟨w.heap.size, 2, none⟩ = some (.int .i64 g) ∧ w'.cell? ⟨w.heap.size, 3, none⟩ = some (.int .i64 t) ∧ w'.cell? ⟨w.heap.size, 4, none⟩ = some (.slice At nt ct))) (by kernel_rfl) (by exact ⟨d0, d1, d2, d3, d4⟩) (fun hHeld0 => ?_)
            refine wpAnyH_take (i := 0) (oi := ⟨some 3, _, _, _, _, _⟩) (v := ?_) rfl (by kernel_rfl) (by kernel_rfl) (by kernel_rfl) (fun _ _ _ h => h) (Or.inl ⟨by rfl, ?_⟩) hHeld0 ?_
            rotate_left
            · (intro w' hSw; (try dsimp only at hSw); go_simp; all_goals (with_reducible rfl))
            try simp only [Act.put, sA, sB, sC]
            refine wpAnyH_take (i := 1) (oi := ⟨some 4, _, _, _, _, _⟩) (v := ?_) rfl (by kernel_rfl) (by kernel_rfl) (by kernel_rfl) (fun _ _ _ h => h) (Or.inl ⟨by rfl, ?_⟩) hHeld0 ?_
            rotate_left
            · (intro w' hSw; (try dsimp only at hSw); go_simp; all_goals (with_reducible rfl))
            try simp only [Act.put, sA, sB, sC]
            refine wpAnyH_take (i := 2) (oi := ⟨some 5, _, _, _, _, _⟩) (v := ?_) rfl (by kernel_rfl) (by kernel_rfl) (by kernel_rfl) (fun _ _ _ h => h) (Or.inl ⟨by rfl, ?_⟩) hHeld0 ?_
            rotate_left
            · (intro w' hSw; (try dsimp only at hSw); go_simp; all_goals (with_reducible rfl))
            try simp only [Act.put, sA, sB, sC]
            refine wpAnyH_take (i := 3) (oi := ⟨some 6, _, _, _, _, _⟩) (v := ?_) rfl (by kernel_rfl) (by kernel_rfl) (by kernel_rfl) (fun _ _ _ h => h) (Or.inl ⟨by rfl, ?_⟩) hHeld0 ?_
            rotate_left
            · (intro w' hSw; (try dsimp only at hSw); go_simp; all_goals (with_reducible rfl))
            try simp only [Act.put, sA, sB, sC]
            refine wpAnyH_take (i := 4) (oi := ⟨some 7, _, _, _, _, _⟩) (v := ?_) rfl (by kernel_rfl) (by kernel_rfl) (by kernel_rfl) (fun _ _ _ h => h) (Or.inl ⟨by rfl, ?_⟩) hHeld0 ?_
            rotate_left
            · (intro w' hSw; (try dsimp only at hSw); go_simp; all_goals (with_reducible rfl))
            try simp only [Act.put, sA, sB, sC]
            refine wpAnyH_take (i := 5) (oi := ⟨some 8, _, _, _, _, _⟩) (v := ?_) rfl (by kernel_rfl) (by kernel_rfl) (by kernel_rfl) (fun _ _ _ h => h) (Or.inl ⟨by rfl, ?_⟩) hHeld0 ?_
            rotate_left
            · (intro w' hSw; (try dsimp only at hSw); go_simp; all_goals (with_reducible rfl))
            try simp only [Act.put, sA, sB, sC]
            refine wpAnyH_take (i := 6) (oi := ⟨some 9, _, _, _, _, _⟩) (v := ?_) rfl (by kernel_rfl) (by kernel_rfl) (by kernel_rfl) (fun _ _ _ h => h) (Or.inl ⟨by rfl, ?_⟩) hHeld0 ?_
            rotate_left
            · (intro w' hSw; (try dsimp only at hSw); go_simp; all_goals (with_reducible rfl))
            try simp only [Act.put, sA, sB, sC]
            refine wpAnyH_take (i := 7) (oi := ⟨some 10, _, _, _, _, _⟩) (v := ?_) rfl (by kernel_rfl) (by kernel_rfl) (by kernel_rfl) (fun _ _ _ h => h) (Or.inl ⟨by rfl, ?_⟩) hHeld0 ?_
            rotate_left
            · (intro w' hSw; (try dsimp only at hSw); go_simp; all_goals (with_reducible rfl))
            try simp only [Act.put, sA, sB, sC]
            refine wpAnyH_take (i := 8) (oi := ⟨some 11, _, _, _, _, _⟩) (v := ?_) rfl (by kernel_rfl) (by kernel_rfl) (by kernel_rfl) (fun _ _ _ h => h) (Or.inl ⟨by rfl, ?_⟩) hHeld0 ?_
            rotate_left
            · (intro w' hSw; (try dsimp only at hSw); go_simp; all_goals (with_reducible rfl))
            try simp only [Act.put, sA, sB, sC]
            refine wpAnyH_take (i := 9) (oi := ⟨some 12, _, _, _, _, _⟩) (v := ?_) rfl (by kernel_rfl) (by kernel_rfl) (by kernel_rfl) (fun _ _ _ h => h) (Or.inl ⟨by rfl, ?_⟩) hHeld0 ?_
            rotate_left
            · (intro w' hSw; (try dsimp only at hSw); go_simp; all_goals (with_reducible rfl))
            try simp only [Act.put, sA, sB, sC]
            refine wpAnyH_take (i := 10) (oi := ⟨some 13, _, _, _, _, _⟩) (v := ?_) rfl (by kernel_rfl) (by kernel_rfl) (by kernel_rfl) (fun _ _ _ h => h) (Or.inl ⟨by rfl, ?_⟩) hHeld0 ?_
            rotate_left
            · (intro w' hSw; (try dsimp only at hSw); go_simp; all_goals (with_reducible rfl))
            try simp only [Act.put, sA, sB, sC]
            refine wpAnyH_take (i := 11) (oi := ⟨some 14, _, _, _, _, _⟩) (v := ?_) rfl (by kernel_rfl) (by kernel_rfl) (by kernel_rfl) (fun _ _ _ h => h) (Or.inl ⟨by rfl, ?_⟩) hHeld0 ?_
            rotate_left
            · (intro w' hSw; (try dsimp only at hSw); go_simp; all_goals (with_reducible rfl))
            try simp only [Act.put, sA, sB, sC]
            refine wpAnyH_take (i := 12) (oi := ⟨some 15, _, _, _, _, _⟩) (v := ?_) rfl (by kernel_rfl) (by kernel_rfl) (by kernel_rfl) (fun _ _ _ h => h) (Or.inl ⟨by rfl, ?_⟩) hHeld0 ?_
            rotate_left
            · (intro w' hSw; (try dsimp only at hSw); go_simp; all_goals (with_reducible rfl))
            try simp only [Act.put, sA, sB, sC]
            refine wpAnyH_take (i := 13) (oi := ⟨some 16, _, _, _, _, _⟩) (v := ?_) rfl (by kernel_rfl) (by kernel_rfl) (by kernel_rfl) (fun _ _ _ h => h) (Or.inl ⟨by rfl, ?_⟩) hHeld0 ?_
            rotate_left
            · (intro w' hSw; (try dsimp only at hSw); go_simp; all_goals (with_reducible rfl))
            try simp only [Act.put, sA, sB, sC]
            refine wpAnyH_take (i := 14) (oi := ⟨some 17, _, _, _, _, _⟩) (v := ?_) rfl (by kernel_rfl) (by kernel_rfl) (by kernel_rfl) (fun _ _ _ h => h) (Or.inl ⟨by rfl, ?_⟩) hHeld0 ?_
            rotate_left
            · (intro w' hSw; (try dsimp only at hSw); go_simp; all_goals (with_reducible rfl))
            try simp only [Act.put, sA, sB, sC]
            refine wpAnyH_take (i := 15) (oi := ⟨some 18, _, _, _, _, _⟩) (v := ?_) rfl (by kernel_rfl) (by kernel_rfl) (by kernel_rfl) (fun _ _ _ h => h) (Or.inl ⟨by rfl, ?_⟩) hHeld0 ?_
            rotate_left
            · (intro w' hSw; (try dsimp only at hSw); go_simp; all_goals (with_reducible rfl))
            try simp only [Act.put, sA, sB, sC]
            refine wpAnyH_take (i := 16) (oi := ⟨some 19, _, _, _, _, _⟩) (v := ?_) rfl (by kernel_rfl) (by kernel_rfl) (by kernel_rfl) (fun _ _ _ h => h) (Or.inl ⟨by rfl, ?_⟩) hHeld0 ?_
            rotate_left
            · (intro w' hSw; (try dsimp only at hSw); go_simp; all_goals (with_reducible rfl))
            try simp only [Act.put, sA, sB, sC]
            refine wpAnyH_take (i := 17) (oi := ⟨some 20, _, _, _, _, _⟩) (v := ?_) rfl (by kernel_rfl) (by kernel_rfl) (by kernel_rfl) (fun _ _ _ h => h) (Or.inl ⟨by rfl, ?_⟩) hHeld0 ?_
            rotate_left
            · (intro w' hSw; (try dsimp only at hSw); go_simp; all_goals (with_reducible rfl))
            try simp only [Act.put, sA, sB, sC]
            refine wpAnyH_take (i := 18) (oi := ⟨some 21, _, _, _, _, _⟩) (v := ?_) rfl (by kernel_rfl) (by kernel_rfl) (by kernel_rfl) (fun _ _ _ h => h) (Or.inl ⟨by rfl, ?_⟩) hHeld0 ?_
            rotate_left
            · (intro w' hSw; (try dsimp only at hSw); go_simp; all_goals (with_reducible rfl))
            try simp only [Act.put, sA, sB, sC]
            refine wpAnyH_take (i := 19) (oi := ⟨some 22, _, _, _, _, _⟩) (v := ?_) rfl (by kernel_rfl) (by kernel_rfl) (by kernel_rfl) (fun _ _ _ h => h) (Or.inl ⟨by rfl, ?_⟩) hHeld0 ?_
            rotate_left
            · (intro w' hSw; (try dsimp only at hSw); go_simp; all_goals (with_reducible rfl))
            try simp only [Act.put, sA, sB, sC]
            refine wpAnyH_take (i := 20) (oi := ⟨some 23, _, _, _, _, _⟩) (v := ?_) rfl (by kernel_rfl) (by kernel_rfl) (by kernel_rfl) (fun _ _ _ h => h) (Or.inl ⟨by rfl, ?_⟩) hHeld0 ?_
            rotate_left
            · (intro w' hSw; (try dsimp only at hSw); go_simp; all_goals (with_reducible rfl))
            try simp only [Act.put, sA, sB, sC]
            refine wpAnyH_ready (rs := [21]) (by kernel_rfl) (by simp) (AllReadyH.cons (o := ⟨some 24, _, _, _, _, _⟩) rfl (fun K hK => ?_) AllReadyH.nil)
            go_simp
            (refine (sright_any ⟨⟨g, t, tl⟩, At, nt, ct⟩ _ h1.drewH (by show nt * 32 ≤ _; omega)).mono ?_; rintro e w2 ⟨rfl, hb2⟩; have HE2 : Hid (srightB (Sv.mk ⟨g, t, tl⟩ At nt ct).s = true) := Lib.hid hr; rw [HE2.out]; have X2 := X.drew.below hb2 hs1; have hs2 := X2.lt; replace d0 := X2.at 0 rfl; replace d1 := X2.at 1 rfl; replace d2 := X2.at 2 rfl; replace d3 := X2.at 3 rfl; replace d4 := X2.at 4 rfl)
            go_simp
            refine hK.out _ _ (by exact ⟨d0, d1, d2, d3, d4⟩) (fun hHeld1 => ?_)
            clear hK hHeld0 K
            try simp only [Act.put, sA, sB, sC]
            refine wpAnyH_take (i := 22) (oi := ⟨some 25, _, _, _, _, _⟩) (v := ?_) rfl (by kernel_rfl) (by kernel_rfl) (by kernel_rfl) (fun _ _ _ h => h) (Or.inl ⟨by rfl, ?_⟩) hHeld1 ?_
            rotate_left
            · (intro w' hSw; (try dsimp only at hSw); go_simp; all_goals (with_reducible rfl))
            try simp only [Act.put, sA, sB, sC]
            refine wpAnyH_take (i := 23) (oi := ⟨some 26, _, _, _, _, _⟩) (v := ?_) rfl (by kernel_rfl) (by kernel_rfl) (by kernel_rfl) (fun _ _ _ h => h) (Or.inl ⟨by rfl, ?_⟩) hHeld1 ?_
            rotate_left
            · (intro w' hSw; (try dsimp only at hSw); go_simp; all_goals (with_reducible rfl))
            try simp only [Act.put, sA, sB, sC]
            refine wpAnyH_take (i := 24) (oi := ⟨some 27, _, _, _, _, _⟩) (v := ?_) rfl (by kernel_rfl) (by kernel_rfl) (by kernel_rfl) (fun _ _ _ h => h) (Or.inl ⟨by rfl, ?_⟩) hHeld1 ?_
            rotate_left
            · (intro w' hSw; (try dsimp only at hSw); go_simp; all_goals (with_reducible rfl))
            try simp only [Act.put, sA, sB, sC]
            refine wpAnyH_take (i := 25) (oi := ⟨some 28, _, _, _, _, _⟩) (v := ?_) rfl (by kernel_rfl) (by kernel_rfl) (by kernel_rfl) (fun _ _ _ h => h) (Or.inl ⟨by rfl, ?_⟩) hHeld1 ?_
            rotate_left
            · (intro w' hSw; (try dsimp only at hSw); go_simp; all_goals (with_reducible rfl))
            try simp only [Act.put, sA, sB, sC]
            refine wpAnyH_take (i := 26) (oi := ⟨some 29, _, _, _, _, _⟩) (v := ?_) rfl (by kernel_rfl) (by kernel_rfl) (by kernel_rfl) (fun _ _ _ h => h) (Or.inl ⟨by rfl, ?_⟩) hHeld1 ?_
            rotate_left
            · (intro w' hSw; (try dsimp only at hSw); go_simp; all_goals (with_reducible rfl))
            try simp only [Act.put, sA, sB, sC]
            refine wpAnyH_take (i := 27) (oi := ⟨some 30, _, _, _, _, _⟩) (v := ?_) rfl (by kernel_rfl) (by kernel_rfl) (by kernel_rfl) (fun _ _ _ h => h) (Or.inl ⟨by rfl, ?_⟩) hHeld1 ?_
            rotate_left
            · (intro w' hSw; (try dsimp only at hSw); go_simp; all_goals (with_reducible rfl))
            try simp only [Act.put, sA, sB, sC]
            refine wpAnyH_take (i := 29) (oi := ⟨some 32, _, _, _, _, _⟩) (v := ?_) rfl (by kernel_rfl) (by kernel_rfl) (by kernel_rfl) (fun _ _ _ h => h) (Or.inl ⟨by rfl, ?_⟩) hHeld1 ?_
            rotate_left
            · (intro w' hSw; (try dsimp only at hSw); go_simp; all_goals (with_reducible rfl))
            try simp only [Act.put, sA, sB, sC]
            refine wpAnyH_take (i := 30) (oi := ⟨some 33, _, _, _, _, _⟩) (v := ?_) rfl (by kernel_rfl) (by kernel_rfl) (by kernel_rfl) (fun _ _ _ h => h) (Or.inl ⟨by rfl, ?_⟩) hHeld1 ?_
            rotate_left
            · (intro w' hSw; (try dsimp only at hSw); go_simp; all_goals (with_reducible rfl))
            try simp only [Act.put, sA, sB, sC]
            refine wpAnyH_ready (rs := [28]) (by kernel_rfl) (by simp) (AllReadyH.cons (o := ⟨some 31, _, _, _, _, _⟩) rfl (fun K hK => ?_) AllReadyH.nil)
            go_simp
            (refine (sabove_any ⟨⟨g, t, tl⟩, At, nt, ct⟩ frm _ ((show SRd w1.drew ⟨⟨g, t, tl⟩, At, nt, ct⟩ from h1.drewH).belowH hb2) (by show nt ≤ _; omega)).mono ?_; rintro e w3 ⟨⟨s3, A3, n3, c3⟩, rfl, hs3, hown3, hb3⟩; simp only at hs3; subst hs3; have h3 := hown3.srd; have hn3 : n3 ≤ 4000 := (by have hq : (S.above ⟨g, t, tl⟩ frm).apps.length = n3 := h3.len; have hq2 : tl.length = nt := h1.len; have hq3 : (S.above ⟨g, t, tl⟩ frm).apps.length ≤ tl.length := List.length_filter_le _ _; omega); have HR3 := Lib.hid h3; clear hown3 h3; simp only [sv]; have X3 := X2.below hb3 hs2; have hs3 := X3.lt; replace d0 := X3.at 0 rfl; replace d1 := X3.at 1 rfl; replace d2 := X3.at 2 rfl; replace d3 := X3.at 3 rfl; replace d4 := X3.at 4 rfl)
            go_simp
            refine hK.out _ _ (by exact ⟨d0, d1, d2, d3, d4⟩) (fun hHeld2 => ?_)
            clear hK hHeld1 K
            try simp only [Act.put, sA, sB, sC]
            refine wpAnyH_ready (rs := [31]) (by kernel_rfl) (by simp) (AllReadyH.cons (o := ⟨some 34, _, _, _, _, _⟩) rfl (fun K hK => ?_) AllReadyH.nil)
            go_simp
            (refine (ssame_any ⟨S.above ⟨g, t, tl⟩ frm, A3, n3, c3⟩ ⟨⟨g, t, tl⟩, At, nt, ct⟩ _ HR3.out (((show SRd w1.drew ⟨⟨g, t, tl⟩, At, nt, ct⟩ from h1.drewH).belowH hb2).belowH hb3) (by show n3 * 32 ≤ _; omega) (by show nt * 32 ≤ _; omega)).mono ?_; rintro e w4 ⟨rfl, hb4⟩; have X4 := X3.below hb4 hs3; replace d0 := X4.at 0 rfl; replace d1 := X4.at 1 rfl; replace d2 := X4.at 2 rfl; replace d3 := X4.at 3 rfl; replace d4 := X4.at 4 rfl)
            go_simp
            refine hK.out _ _ (by exact ⟨d0, d1, d2, d3, d4⟩) (fun hHeld3 => ?_)
            clear hK hHeld2 K
            try simp only [Act.put, sA, sB, sC]
            refine wpAnyH_take (i := 32) (oi := ⟨some 35, _, _, _, _, _⟩) (v := ?_) rfl (by kernel_rfl) (by kernel_rfl) (by kernel_rfl) (fun _ _ _ h => h) (Or.inl ⟨by rfl, ?_⟩) hHeld3 ?_
            rotate_left
            · (intro w' hSw; (try dsimp only at hSw); go_simp; all_goals (with_reducible rfl))
            try simp only [Act.put, sA, sB, sC]
            refine wpAnyH_take (i := 33) (oi := ⟨some 2, _, _, _, _, _⟩) (v := ?_) rfl (by kernel_rfl) (by kernel_rfl) (by kernel_rfl) (fun _ _ _ h => h) (Or.inl ⟨by rfl, ?_⟩) hHeld3 ?_
            rotate_left
            · (intro w' hSw; (try dsimp only at hSw); go_simp; all_goals (with_reducible rfl))
            try simp only [Act.put, sA, sB, sC]
            refine wpAnyH_done (by kernel_rfl) ?_ _
            go_wp2
            go_ret
            exact ⟨ret_bool HD.out.symm, ((b1.drew.trans (hb2.mono (by show w.heap.size ≤ w1.heap.size; omega))).trans (hb3.mono (by omega))).trans (hb4.mono (by omega))⟩
        · have ue4 : decide (frm ≤ 1099511627776) = false := decide_eq_false e4
          have HD := Lib.hid (hd.trans (show _ = false by simp [e4]))
          clear hd
          go_enter Try.func43, Try.ntmps43
          go_wp2
          generalize w.alloc (.cells #[.int .i64 node, .int .i64 frm, .int .i64 g, .int .i64 t, .slice At nt ct] 42) = w1 at *
          have d0 := X.at 0 rfl
          have d1 := X.at 1 rfl
          have d2 := X.at 2 rfl
          have d3 := X.at 3 rfl
          have d4 := X.at 4 rfl
          refine wp_region_held_drew (S := (fun w' => w'.cell? ⟨w.heap.size, 0, none⟩ = some (.int .i64 node) ∧ w'.cell? ⟨w.heap.size, 1, none⟩ = some (.int .i64 frm) ∧ w'.cell? ⟨w.heap.size, 2, none⟩ = some (.int .i64 g) ∧ w'.cell? ⟨w.heap.size, 3, none⟩ = some (.int .i64 t) ∧ w'.cell? ⟨w.heap.size, 4, none⟩ = some (.slice At nt ct))) (by kernel_rfl) (by exact ⟨d0, d1, d2, d3, d4⟩) (fun hHeld0 => ?_)
          refine wpAnyH_take (i := 0) (oi := ⟨some 3, _, _, _, _, _⟩) (v := ?_) rfl (by kernel_rfl) (by kernel_rfl) (by kernel_rfl) (fun _ _ _ h => h) (Or.inl ⟨by rfl, ?_⟩) hHeld0 ?_
          rotate_left
          · (intro w' hSw; (try dsimp only at hSw); go_simp; all_goals (with_reducible rfl))
          try simp only [Act.put, sA, sB, sC]
          refine wpAnyH_take (i := 1) (oi := ⟨some 4, _, _, _, _, _⟩) (v := ?_) rfl (by kernel_rfl) (by kernel_rfl) (by kernel_rfl) (fun _ _ _ h => h) (Or.inl ⟨by rfl, ?_⟩) hHeld0 ?_
          rotate_left
          · (intro w' hSw; (try dsimp only at hSw); go_simp; all_goals (with_reducible rfl))
          try simp only [Act.put, sA, sB, sC]
          refine wpAnyH_take (i := 2) (oi := ⟨some 5, _, _, _, _, _⟩) (v := ?_) rfl (by kernel_rfl) (by kernel_rfl) (by kernel_rfl) (fun _ _ _ h => h) (Or.inl ⟨by rfl, ?_⟩) hHeld0 ?_
          rotate_left
          · (intro w' hSw; (try dsimp only at hSw); go_simp; all_goals (with_reducible rfl))
          try simp only [Act.put, sA, sB, sC]
          refine wpAnyH_take (i := 3) (oi := ⟨some 6, _, _, _, _, _⟩) (v := ?_) rfl (by kernel_rfl) (by kernel_rfl) (by kernel_rfl) (fun _ _ _ h => h) (Or.inl ⟨by rfl, ?_⟩) hHeld0 ?_
          rotate_left
          · (intro w' hSw; (try dsimp only at hSw); go_simp; all_goals (with_reducible rfl))
          try simp only [Act.put, sA, sB, sC]
          refine wpAnyH_take (i := 4) (oi := ⟨some 7, _, _, _, _, _⟩) (v := ?_) rfl (by kernel_rfl) (by kernel_rfl) (by kernel_rfl) (fun _ _ _ h => h) (Or.inl ⟨by rfl, ?_⟩) hHeld0 ?_
          rotate_left
          · (intro w' hSw; (try dsimp only at hSw); go_simp; all_goals (with_reducible rfl))
          try simp only [Act.put, sA, sB, sC]
          refine wpAnyH_take (i := 5) (oi := ⟨some 8, _, _, _, _, _⟩) (v := ?_) rfl (by kernel_rfl) (by kernel_rfl) (by kernel_rfl) (fun _ _ _ h => h) (Or.inl ⟨by rfl, ?_⟩) hHeld0 ?_
          rotate_left
          · (intro w' hSw; (try dsimp only at hSw); go_simp; all_goals (with_reducible rfl))
          try simp only [Act.put, sA, sB, sC]
          refine wpAnyH_take (i := 6) (oi := ⟨some 9, _, _, _, _, _⟩) (v := ?_) rfl (by kernel_rfl) (by kernel_rfl) (by kernel_rfl) (fun _ _ _ h => h) (Or.inl ⟨by rfl, ?_⟩) hHeld0 ?_
          rotate_left
          · (intro w' hSw; (try dsimp only at hSw); go_simp; all_goals (with_reducible rfl))
          try simp only [Act.put, sA, sB, sC]
          refine wpAnyH_take (i := 7) (oi := ⟨some 10, _, _, _, _, _⟩) (v := ?_) rfl (by kernel_rfl) (by kernel_rfl) (by kernel_rfl) (fun _ _ _ h => h) (Or.inl ⟨by rfl, ?_⟩) hHeld0 ?_
          rotate_left
          · (intro w' hSw; (try dsimp only at hSw); go_simp; all_goals (with_reducible rfl))
          try simp only [Act.put, sA, sB, sC]
          refine wpAnyH_take (i := 8) (oi := ⟨some 11, _, _, _, _, _⟩) (v := ?_) rfl (by kernel_rfl) (by kernel_rfl) (by kernel_rfl) (fun _ _ _ h => h) (Or.inl ⟨by rfl, ?_⟩) hHeld0 ?_
          rotate_left
          · (intro w' hSw; (try dsimp only at hSw); go_simp; all_goals (with_reducible rfl))
          try simp only [Act.put, sA, sB, sC]
          refine wpAnyH_take (i := 9) (oi := ⟨some 12, _, _, _, _, _⟩) (v := ?_) rfl (by kernel_rfl) (by kernel_rfl) (by kernel_rfl) (fun _ _ _ h => h) (Or.inl ⟨by rfl, ?_⟩) hHeld0 ?_
          rotate_left
          · (intro w' hSw; (try dsimp only at hSw); go_simp; all_goals (with_reducible rfl))
          try simp only [Act.put, sA, sB, sC]
          refine wpAnyH_take (i := 10) (oi := ⟨some 13, _, _, _, _, _⟩) (v := ?_) rfl (by kernel_rfl) (by kernel_rfl) (by kernel_rfl) (fun _ _ _ h => h) (Or.inl ⟨by rfl, ?_⟩) hHeld0 ?_
          rotate_left
          · (intro w' hSw; (try dsimp only at hSw); go_simp; all_goals (with_reducible rfl))
          try simp only [Act.put, sA, sB, sC]
          refine wpAnyH_take (i := 11) (oi := ⟨some 14, _, _, _, _, _⟩) (v := ?_) rfl (by kernel_rfl) (by kernel_rfl) (by kernel_rfl) (fun _ _ _ h => h) (Or.inl ⟨by rfl, ?_⟩) hHeld0 ?_
          rotate_left
          · (intro w' hSw; (try dsimp only at hSw); go_simp; all_goals (with_reducible rfl))
          try simp only [Act.put, sA, sB, sC]
          refine wpAnyH_take (i := 12) (oi := ⟨some 15, _, _, _, _, _⟩) (v := ?_) rfl (by kernel_rfl) (by kernel_rfl) (by kernel_rfl) (fun _ _ _ h => h) (Or.inl ⟨by rfl, ?_⟩) hHeld0 ?_
          rotate_left
          · (intro w' hSw; (try dsimp only at hSw); go_simp; all_goals (with_reducible rfl))
          try simp only [Act.put, sA, sB, sC]
          refine wpAnyH_take (i := 13) (oi := ⟨some 16, _, _, _, _, _⟩) (v := ?_) rfl (by kernel_rfl) (by kernel_rfl) (by kernel_rfl) (fun _ _ _ h => h) (Or.inl ⟨by rfl, ?_⟩) hHeld0 ?_
          rotate_left
          · (intro w' hSw; (try dsimp only at hSw); go_simp; all_goals (with_reducible rfl))
          try simp only [Act.put, sA, sB, sC]
          refine wpAnyH_take (i := 14) (oi := ⟨some 17, _, _, _, _, _⟩) (v := ?_) rfl (by kernel_rfl) (by kernel_rfl) (by kernel_rfl) (fun _ _ _ h => h) (Or.inl ⟨by rfl, ?_⟩) hHeld0 ?_
          rotate_left
          · (intro w' hSw; (try dsimp only at hSw); go_simp; all_goals (with_reducible rfl))
          try simp only [Act.put, sA, sB, sC]
          refine wpAnyH_take (i := 15) (oi := ⟨some 18, _, _, _, _, _⟩) (v := ?_) rfl (by kernel_rfl) (by kernel_rfl) (by kernel_rfl) (fun _ _ _ h => h) (Or.inl ⟨by rfl, ?_⟩) hHeld0 ?_
          rotate_left
          · (intro w' hSw; (try dsimp only at hSw); go_simp; all_goals (with_reducible rfl))
          try simp only [Act.put, sA, sB, sC]
          refine wpAnyH_take (i := 16) (oi := ⟨some 19, _, _, _, _, _⟩) (v := ?_) rfl (by kernel_rfl) (by kernel_rfl) (by kernel_rfl) (fun _ _ _ h => h) (Or.inl ⟨by rfl, ?_⟩) hHeld0 ?_
          rotate_left
          · (intro w' hSw; (try dsimp only at hSw); go_simp; all_goals (with_reducible rfl))
          try simp only [Act.put, sA, sB, sC]
          refine wpAnyH_take (i := 17) (oi := ⟨some 20, _, _, _, _, _⟩) (v := ?_) rfl (by kernel_rfl) (by kernel_rfl) (by kernel_rfl) (fun _ _ _ h => h) (Or.inl ⟨by rfl, ?_⟩) hHeld0 ?_
          rotate_left
          · (intro w' hSw; (try dsimp only at hSw); go_simp; all_goals (with_reducible rfl))
          try simp only [Act.put, sA, sB, sC]
          refine wpAnyH_take (i := 18) (oi := ⟨some 21, _, _, _, _, _⟩) (v := ?_) rfl (by kernel_rfl) (by kernel_rfl) (by kernel_rfl) (fun _ _ _ h => h) (Or.inl ⟨by rfl, ?_⟩) hHeld0 ?_
          rotate_left
          · (intro w' hSw; (try dsimp only at hSw); go_simp; all_goals (with_reducible rfl))
          try simp only [Act.put, sA, sB, sC]
          refine wpAnyH_take (i := 19) (oi := ⟨some 22, _, _, _, _, _⟩) (v := undef) rfl (by kernel_rfl) (by kernel_rfl) (by kernel_rfl) (fun _ _ _ h => h) (Or.inr ⟨by rfl, rfl⟩) hHeld0 ?_
          try simp only [Act.put, sA, sB, sC]
          refine wpAnyH_take (i := 20) (oi := ⟨some 23, _, _, _, _, _⟩) (v := undef) rfl (by kernel_rfl) (by kernel_rfl) (by kernel_rfl) (fun _ _ _ h => h) (Or.inr ⟨by rfl, rfl⟩) hHeld0 ?_
          try simp only [Act.put, sA, sB, sC]
          refine wpAnyH_take (i := 21) (oi := ⟨some 24, _, _, _, _, _⟩) (v := undef) rfl (by kernel_rfl) (by kernel_rfl) (by kernel_rfl) (fun _ _ _ h => h) (Or.inr ⟨by rfl, rfl⟩) hHeld0 ?_
          try simp only [Act.put, sA, sB, sC]
          refine wpAnyH_take (i := 22) (oi := ⟨some 25, _, _, _, _, _⟩) (v := ?_) rfl (by kernel_rfl) (by kernel_rfl) (by kernel_rfl) (fun _ _ _ h => h) (Or.inl ⟨by rfl, ?_⟩) hHeld0 ?_
          rotate_left
          · (intro w' hSw; (try dsimp only at hSw); go_simp; all_goals (with_reducible rfl))
          try simp only [Act.put, sA, sB, sC]
          refine wpAnyH_take (i := 23) (oi := ⟨some 26, _, _, _, _, _⟩) (v := ?_) rfl (by kernel_rfl) (by kernel_rfl) (by kernel_rfl) (fun _ _ _ h => h) (Or.inl ⟨by rfl, ?_⟩) hHeld0 ?_
          rotate_left
          · (intro w' hSw; (try dsimp only at hSw); go_simp; all_goals (with_reducible rfl))
          try simp only [Act.put, sA, sB, sC]
          refine wpAnyH_take (i := 24) (oi := ⟨some 27, _, _, _, _, _⟩) (v := undef) rfl (by kernel_rfl) (by kernel_rfl) (by kernel_rfl) (fun _ _ _ h => h) (Or.inr ⟨by rfl, rfl⟩) hHeld0 ?_
          try simp only [Act.put, sA, sB, sC]
          refine wpAnyH_take (i := 25) (oi := ⟨some 28, _, _, _, _, _⟩) (v := undef) rfl (by kernel_rfl) (by kernel_rfl) (by kernel_rfl) (fun _ _ _ h => h) (Or.inr ⟨by rfl, rfl⟩) hHeld0 ?_
          try simp only [Act.put, sA, sB, sC]
          refine wpAnyH_take (i := 26) (oi := ⟨some 29, _, _, _, _, _⟩) (v := undef) rfl (by kernel_rfl) (by kernel_rfl) (by kernel_rfl) (fun _ _ _ h => h) (Or.inr ⟨by rfl, rfl⟩) hHeld0 ?_
          try simp only [Act.put, sA, sB, sC]
          refine wpAnyH_take (i := 27) (oi := ⟨some 30, _, _, _, _, _⟩) (v := undef) rfl (by kernel_rfl) (by kernel_rfl) (by kernel_rfl) (fun _ _ _ h => h) (Or.inr ⟨by rfl, rfl⟩) hHeld0 ?_
          try simp only [Act.put, sA, sB, sC]
          refine wpAnyH_take (i := 28) (oi := ⟨some 31, _, _, _, _, _⟩) (v := undef) rfl (by kernel_rfl) (by kernel_rfl) (by kernel_rfl) (fun _ _ _ h => h) (Or.inr ⟨by rfl, rfl⟩) hHeld0 ?_
          try simp only [Act.put, sA, sB, sC]
          refine wpAnyH_take (i := 29) (oi := ⟨some 32, _, _, _, _, _⟩) (v := undef) rfl (by kernel_rfl) (by kernel_rfl) (by kernel_rfl) (fun _ _ _ h => h) (Or.inr ⟨by rfl, rfl⟩) hHeld0 ?_
          try simp only [Act.put, sA, sB, sC]
          refine wpAnyH_take (i := 30) (oi := ⟨some 33, _, _, _, _, _⟩) (v := undef) rfl (by kernel_rfl) (by kernel_rfl) (by kernel_rfl) (fun _ _ _ h => h) (Or.inr ⟨by rfl, rfl⟩) hHeld0 ?_
          try simp only [Act.put, sA, sB, sC]
          refine wpAnyH_take (i := 31) (oi := ⟨some 34, _, _, _, _, _⟩) (v := undef) rfl (by kernel_rfl) (by kernel_rfl) (by kernel_rfl) (fun _ _ _ h => h) (Or.inr ⟨by rfl, rfl⟩) hHeld0 ?_
          try simp only [Act.put, sA, sB, sC]
          refine wpAnyH_take (i := 32) (oi := ⟨some 35, _, _, _, _, _⟩) (v := ?_) rfl (by kernel_rfl) (by kernel_rfl) (by kernel_rfl) (fun _ _ _ h => h) (Or.inl ⟨by rfl, ?_⟩) hHeld0 ?_
          rotate_left
          · (intro w' hSw; (try dsimp only at hSw); go_simp; all_goals (with_reducible rfl))
          try simp only [Act.put, sA, sB, sC]
          refine wpAnyH_take (i := 33) (oi := ⟨some 2, _, _, _, _, _⟩) (v := ?_) rfl (by kernel_rfl) (by kernel_rfl) (by kernel_rfl) (fun _ _ _ h => h) (Or.inl ⟨by rfl, ?_⟩) hHeld0 ?_
          rotate_left
          · (intro w' hSw; (try dsimp only at hSw); go_simp; all_goals (with_reducible rfl))
          try simp only [Act.put, sA, sB, sC]
          refine wpAnyH_done (by kernel_rfl) ?_ _
          go_wp2
          go_ret
          exact ⟨ret_bool HD.out.symm, b1.drew⟩
      · have ue3 : decide (0 ≤ frm) = false := decide_eq_false e3
        have HD := Lib.hid (hd.trans (show _ = false by simp [e3]))
        clear hd
        go_enter Try.func43, Try.ntmps43
        go_wp2
        generalize w.alloc (.cells #[.int .i64 node, .int .i64 frm, .int .i64 g, .int .i64 t, .slice At nt ct] 42) = w1 at *
        have d0 := X.at 0 rfl
        have d1 := X.at 1 rfl
        have d2 := X.at 2 rfl
        have d3 := X.at 3 rfl
        have d4 := X.at 4 rfl
        refine wp_region_held_drew (S := (fun w' => w'.cell? ⟨w.heap.size, 0, none⟩ = some (.int .i64 node) ∧ w'.cell? ⟨w.heap.size, 1, none⟩ = some (.int .i64 frm) ∧ w'.cell? ⟨w.heap.size, 2, none⟩ = some (.int .i64 g) ∧ w'.cell? ⟨w.heap.size, 3, none⟩ = some (.int .i64 t) ∧ w'.cell? ⟨w.heap.size, 4, none⟩ = some (.slice At nt ct))) (by kernel_rfl) (by exact ⟨d0, d1, d2, d3, d4⟩) (fun hHeld0 => ?_)
        refine wpAnyH_take (i := 0) (oi := ⟨some 3, _, _, _, _, _⟩) (v := ?_) rfl (by kernel_rfl) (by kernel_rfl) (by kernel_rfl) (fun _ _ _ h => h) (Or.inl ⟨by rfl, ?_⟩) hHeld0 ?_
        rotate_left
        · (intro w' hSw; (try dsimp only at hSw); go_simp; all_goals (with_reducible rfl))
        try simp only [Act.put, sA, sB, sC]
        refine wpAnyH_take (i := 1) (oi := ⟨some 4, _, _, _, _, _⟩) (v := ?_) rfl (by kernel_rfl) (by kernel_rfl) (by kernel_rfl) (fun _ _ _ h => h) (Or.inl ⟨by rfl, ?_⟩) hHeld0 ?_
        rotate_left
        · (intro w' hSw; (try dsimp only at hSw); go_simp; all_goals (with_reducible rfl))
        try simp only [Act.put, sA, sB, sC]
        refine wpAnyH_take (i := 2) (oi := ⟨some 5, _, _, _, _, _⟩) (v := ?_) rfl (by kernel_rfl) (by kernel_rfl) (by kernel_rfl) (fun _ _ _ h => h) (Or.inl ⟨by rfl, ?_⟩) hHeld0 ?_
        rotate_left
        · (intro w' hSw; (try dsimp only at hSw); go_simp; all_goals (with_reducible rfl))
        try simp only [Act.put, sA, sB, sC]
        refine wpAnyH_take (i := 3) (oi := ⟨some 6, _, _, _, _, _⟩) (v := ?_) rfl (by kernel_rfl) (by kernel_rfl) (by kernel_rfl) (fun _ _ _ h => h) (Or.inl ⟨by rfl, ?_⟩) hHeld0 ?_
        rotate_left
        · (intro w' hSw; (try dsimp only at hSw); go_simp; all_goals (with_reducible rfl))
        try simp only [Act.put, sA, sB, sC]
        refine wpAnyH_take (i := 4) (oi := ⟨some 7, _, _, _, _, _⟩) (v := ?_) rfl (by kernel_rfl) (by kernel_rfl) (by kernel_rfl) (fun _ _ _ h => h) (Or.inl ⟨by rfl, ?_⟩) hHeld0 ?_
        rotate_left
        · (intro w' hSw; (try dsimp only at hSw); go_simp; all_goals (with_reducible rfl))
        try simp only [Act.put, sA, sB, sC]
        refine wpAnyH_take (i := 5) (oi := ⟨some 8, _, _, _, _, _⟩) (v := ?_) rfl (by kernel_rfl) (by kernel_rfl) (by kernel_rfl) (fun _ _ _ h => h) (Or.inl ⟨by rfl, ?_⟩) hHeld0 ?_
        rotate_left
        · (intro w' hSw; (try dsimp only at hSw); go_simp; all_goals (with_reducible rfl))
        try simp only [Act.put, sA, sB, sC]
        refine wpAnyH_take (i := 6) (oi := ⟨some 9, _, _, _, _, _⟩) (v := ?_) rfl (by kernel_rfl) (by kernel_rfl) (by kernel_rfl) (fun _ _ _ h => h) (Or.inl ⟨by rfl, ?_⟩) hHeld0 ?_
        rotate_left
        · (intro w' hSw; (try dsimp only at hSw); go_simp; all_goals (with_reducible rfl))
        try simp only [Act.put, sA, sB, sC]
        refine wpAnyH_take (i := 7) (oi := ⟨some 10, _, _, _, _, _⟩) (v := ?_) rfl (by kernel_rfl) (by kernel_rfl) (by kernel_rfl) (fun _ _ _ h => h) (Or.inl ⟨by rfl, ?_⟩) hHeld0 ?_
        rotate_left
        · (intro w' hSw; (try dsimp only at hSw); go_simp; all_goals (with_reducible rfl))
        try simp only [Act.put, sA, sB, sC]
        refine wpAnyH_take (i := 8) (oi := ⟨some 11, _, _, _, _, _⟩) (v := ?_) rfl (by kernel_rfl) (by kernel_rfl) (by kernel_rfl) (fun _ _ _ h => h) (Or.inl ⟨by rfl, ?_⟩) hHeld0 ?_
        rotate_left
        · (intro w' hSw; (try dsimp only at hSw); go_simp; all_goals (with_reducible rfl))
        try simp only [Act.put, sA, sB, sC]
        refine wpAnyH_take (i := 9) (oi := ⟨some 12, _, _, _, _, _⟩) (v := ?_) rfl (by kernel_rfl) (by kernel_rfl) (by kernel_rfl) (fun _ _ _ h => h) (Or.inl ⟨by rfl, ?_⟩) hHeld0 ?_
        rotate_left
        · (intro w' hSw; (try dsimp only at hSw); go_simp; all_goals (with_reducible rfl))
        try simp only [Act.put, sA, sB, sC]
        refine wpAnyH_take (i := 10) (oi := ⟨some 13, _, _, _, _, _⟩) (v := ?_) rfl (by kernel_rfl) (by kernel_rfl) (by kernel_rfl) (fun _ _ _ h => h) (Or.inl ⟨by rfl, ?_⟩) hHeld0 ?_
        rotate_left
        · (intro w' hSw; (try dsimp only at hSw); go_simp; all_goals (with_reducible rfl))
        try simp only [Act.put, sA, sB, sC]
        refine wpAnyH_take (i := 11) (oi := ⟨some 14, _, _, _, _, _⟩) (v := ?_) rfl (by kernel_rfl) (by kernel_rfl) (by kernel_rfl) (fun _ _ _ h => h) (Or.inl ⟨by rfl, ?_⟩) hHeld0 ?_
        rotate_left
        · (intro w' hSw; (try dsimp only at hSw); go_simp; all_goals (with_reducible rfl))
        try simp only [Act.put, sA, sB, sC]
        refine wpAnyH_take (i := 12) (oi := ⟨some 15, _, _, _, _, _⟩) (v := ?_) rfl (by kernel_rfl) (by kernel_rfl) (by kernel_rfl) (fun _ _ _ h => h) (Or.inl ⟨by rfl, ?_⟩) hHeld0 ?_
        rotate_left
        · (intro w' hSw; (try dsimp only at hSw); go_simp; all_goals (with_reducible rfl))
        try simp only [Act.put, sA, sB, sC]
        refine wpAnyH_take (i := 13) (oi := ⟨some 16, _, _, _, _, _⟩) (v := ?_) rfl (by kernel_rfl) (by kernel_rfl) (by kernel_rfl) (fun _ _ _ h => h) (Or.inl ⟨by rfl, ?_⟩) hHeld0 ?_
        rotate_left
        · (intro w' hSw; (try dsimp only at hSw); go_simp; all_goals (with_reducible rfl))
        try simp only [Act.put, sA, sB, sC]
        refine wpAnyH_take (i := 14) (oi := ⟨some 17, _, _, _, _, _⟩) (v := undef) rfl (by kernel_rfl) (by kernel_rfl) (by kernel_rfl) (fun _ _ _ h => h) (Or.inr ⟨by rfl, rfl⟩) hHeld0 ?_
        try simp only [Act.put, sA, sB, sC]
        refine wpAnyH_take (i := 15) (oi := ⟨some 18, _, _, _, _, _⟩) (v := undef) rfl (by kernel_rfl) (by kernel_rfl) (by kernel_rfl) (fun _ _ _ h => h) (Or.inr ⟨by rfl, rfl⟩) hHeld0 ?_
        try simp only [Act.put, sA, sB, sC]
        refine wpAnyH_take (i := 16) (oi := ⟨some 19, _, _, _, _, _⟩) (v := undef) rfl (by kernel_rfl) (by kernel_rfl) (by kernel_rfl) (fun _ _ _ h => h) (Or.inr ⟨by rfl, rfl⟩) hHeld0 ?_
        try simp only [Act.put, sA, sB, sC]
        refine wpAnyH_take (i := 17) (oi := ⟨some 20, _, _, _, _, _⟩) (v := ?_) rfl (by kernel_rfl) (by kernel_rfl) (by kernel_rfl) (fun _ _ _ h => h) (Or.inl ⟨by rfl, ?_⟩) hHeld0 ?_
        rotate_left
        · (intro w' hSw; (try dsimp only at hSw); go_simp; all_goals (with_reducible rfl))
        try simp only [Act.put, sA, sB, sC]
        refine wpAnyH_take (i := 18) (oi := ⟨some 21, _, _, _, _, _⟩) (v := ?_) rfl (by kernel_rfl) (by kernel_rfl) (by kernel_rfl) (fun _ _ _ h => h) (Or.inl ⟨by rfl, ?_⟩) hHeld0 ?_
        rotate_left
        · (intro w' hSw; (try dsimp only at hSw); go_simp; all_goals (with_reducible rfl))
        try simp only [Act.put, sA, sB, sC]
        refine wpAnyH_take (i := 19) (oi := ⟨some 22, _, _, _, _, _⟩) (v := undef) rfl (by kernel_rfl) (by kernel_rfl) (by kernel_rfl) (fun _ _ _ h => h) (Or.inr ⟨by rfl, rfl⟩) hHeld0 ?_
        try simp only [Act.put, sA, sB, sC]
        refine wpAnyH_take (i := 20) (oi := ⟨some 23, _, _, _, _, _⟩) (v := undef) rfl (by kernel_rfl) (by kernel_rfl) (by kernel_rfl) (fun _ _ _ h => h) (Or.inr ⟨by rfl, rfl⟩) hHeld0 ?_
        try simp only [Act.put, sA, sB, sC]
        refine wpAnyH_take (i := 21) (oi := ⟨some 24, _, _, _, _, _⟩) (v := undef) rfl (by kernel_rfl) (by kernel_rfl) (by kernel_rfl) (fun _ _ _ h => h) (Or.inr ⟨by rfl, rfl⟩) hHeld0 ?_
        try simp only [Act.put, sA, sB, sC]
        refine wpAnyH_take (i := 22) (oi := ⟨some 25, _, _, _, _, _⟩) (v := ?_) rfl (by kernel_rfl) (by kernel_rfl) (by kernel_rfl) (fun _ _ _ h => h) (Or.inl ⟨by rfl, ?_⟩) hHeld0 ?_
        rotate_left
        · (intro w' hSw; (try dsimp only at hSw); go_simp; all_goals (with_reducible rfl))
        try simp only [Act.put, sA, sB, sC]
        refine wpAnyH_take (i := 23) (oi := ⟨some 26, _, _, _, _, _⟩) (v := ?_) rfl (by kernel_rfl) (by kernel_rfl) (by kernel_rfl) (fun _ _ _ h => h) (Or.inl ⟨by rfl, ?_⟩) hHeld0 ?_
        rotate_left
        · (intro w' hSw; (try dsimp only at hSw); go_simp; all_goals (with_reducible rfl))
        try simp only [Act.put, sA, sB, sC]
        refine wpAnyH_take (i := 24) (oi := ⟨some 27, _, _, _, _, _⟩) (v := undef) rfl (by kernel_rfl) (by kernel_rfl) (by kernel_rfl) (fun _ _ _ h => h) (Or.inr ⟨by rfl, rfl⟩) hHeld0 ?_
        try simp only [Act.put, sA, sB, sC]
        refine wpAnyH_take (i := 25) (oi := ⟨some 28, _, _, _, _, _⟩) (v := undef) rfl (by kernel_rfl) (by kernel_rfl) (by kernel_rfl) (fun _ _ _ h => h) (Or.inr ⟨by rfl, rfl⟩) hHeld0 ?_
        try simp only [Act.put, sA, sB, sC]
        refine wpAnyH_take (i := 26) (oi := ⟨some 29, _, _, _, _, _⟩) (v := undef) rfl (by kernel_rfl) (by kernel_rfl) (by kernel_rfl) (fun _ _ _ h => h) (Or.inr ⟨by rfl, rfl⟩) hHeld0 ?_
        try simp only [Act.put, sA, sB, sC]
        refine wpAnyH_take (i := 27) (oi := ⟨some 30, _, _, _, _, _⟩) (v := undef) rfl (by kernel_rfl) (by kernel_rfl) (by kernel_rfl) (fun _ _ _ h => h) (Or.inr ⟨by rfl, rfl⟩) hHeld0 ?_
        try simp only [Act.put, sA, sB, sC]
        refine wpAnyH_take (i := 28) (oi := ⟨some 31, _, _, _, _, _⟩) (v := undef) rfl (by kernel_rfl) (by kernel_rfl) (by kernel_rfl) (fun _ _ _ h => h) (Or.inr ⟨by rfl, rfl⟩) hHeld0 ?_
        try simp only [Act.put, sA, sB, sC]
        refine wpAnyH_take (i := 29) (oi := ⟨some 32, _, _, _, _, _⟩) (v := undef) rfl (by kernel_rfl) (by kernel_rfl) (by kernel_rfl) (fun _ _ _ h => h) (Or.inr ⟨by rfl, rfl⟩) hHeld0 ?_
        try simp only [Act.put, sA, sB, sC]
        refine wpAnyH_take (i := 30) (oi := ⟨some 33, _, _, _, _, _⟩) (v := undef) rfl (by kernel_rfl) (by kernel_rfl) (by kernel_rfl) (fun _ _ _ h => h) (Or.inr ⟨by rfl, rfl⟩) hHeld0 ?_
        try simp only [Act.put, sA, sB, sC]
        refine wpAnyH_take (i := 31) (oi := ⟨some 34, _, _, _, _, _⟩) (v := undef) rfl (by kernel_rfl) (by kernel_rfl) (by kernel_rfl) (fun _ _ _ h => h) (Or.inr ⟨by rfl, rfl⟩) hHeld0 ?_
        try simp only [Act.put, sA, sB, sC]
        refine wpAnyH_take (i := 32) (oi := ⟨some 35, _, _, _, _, _⟩) (v := ?_) rfl (by kernel_rfl) (by kernel_rfl) (by kernel_rfl) (fun _ _ _ h => h) (Or.inl ⟨by rfl, ?_⟩) hHeld0 ?_
        rotate_left
        · (intro w' hSw; (try dsimp only at hSw); go_simp; all_goals (with_reducible rfl))
        try simp only [Act.put, sA, sB, sC]
        refine wpAnyH_take (i := 33) (oi := ⟨some 2, _, _, _, _, _⟩) (v := ?_) rfl (by kernel_rfl) (by kernel_rfl) (by kernel_rfl) (fun _ _ _ h => h) (Or.inl ⟨by rfl, ?_⟩) hHeld0 ?_
        rotate_left
        · (intro w' hSw; (try dsimp only at hSw); go_simp; all_goals (with_reducible rfl))
        try simp only [Act.put, sA, sB, sC]
        refine wpAnyH_done (by kernel_rfl) ?_ _
        go_wp2
        go_ret
        exact ⟨ret_bool HD.out.symm, b1.drew⟩
    · have ue2 : decide (node < 8) = false := decide_eq_false e2
      have HD := Lib.hid (hd.trans (show _ = false by simp [e2]))
      clear hd
      go_enter Try.func43, Try.ntmps43
      go_wp2
      generalize w.alloc (.cells #[.int .i64 node, .int .i64 frm, .int .i64 g, .int .i64 t, .slice At nt ct] 42) = w1 at *
      have d0 := X.at 0 rfl
      have d1 := X.at 1 rfl
      have d2 := X.at 2 rfl
      have d3 := X.at 3 rfl
      have d4 := X.at 4 rfl
      refine wp_region_held_drew (S := (fun w' => w'.cell? ⟨w.heap.size, 0, none⟩ = some (.int .i64 node) ∧ w'.cell? ⟨w.heap.size, 1, none⟩ = some (.int .i64 frm) ∧ w'.cell? ⟨w.heap.size, 2, none⟩ = some (.int .i64 g) ∧ w'.cell? ⟨w.heap.size, 3, none⟩ = some (.int .i64 t) ∧ w'.cell? ⟨w.heap.size, 4, none⟩ = some (.slice At nt ct))) (by kernel_rfl) (by exact ⟨d0, d1, d2, d3, d4⟩) (fun hHeld0 => ?_)
      refine wpAnyH_take (i := 0) (oi := ⟨some 3, _, _, _, _, _⟩) (v := ?_) rfl (by kernel_rfl) (by kernel_rfl) (by kernel_rfl) (fun _ _ _ h => h) (Or.inl ⟨by rfl, ?_⟩) hHeld0 ?_
      rotate_left
      · (intro w' hSw; (try dsimp only at hSw); go_simp; all_goals (with_reducible rfl))
      try simp only [Act.put, sA, sB, sC]
      refine wpAnyH_take (i := 1) (oi := ⟨some 4, _, _, _, _, _⟩) (v := ?_) rfl (by kernel_rfl) (by kernel_rfl) (by kernel_rfl) (fun _ _ _ h => h) (Or.inl ⟨by rfl, ?_⟩) hHeld0 ?_
      rotate_left
      · (intro w' hSw; (try dsimp only at hSw); go_simp; all_goals (with_reducible rfl))
      try simp only [Act.put, sA, sB, sC]
      refine wpAnyH_take (i := 2) (oi := ⟨some 5, _, _, _, _, _⟩) (v := ?_) rfl (by kernel_rfl) (by kernel_rfl) (by kernel_rfl) (fun _ _ _ h => h) (Or.inl ⟨by rfl, ?_⟩) hHeld0 ?_
      rotate_left
      · (intro w' hSw; (try dsimp only at hSw); go_simp; all_goals (with_reducible rfl))
      try simp only [Act.put, sA, sB, sC]
      refine wpAnyH_take (i := 3) (oi := ⟨some 6, _, _, _, _, _⟩) (v := ?_) rfl (by kernel_rfl) (by kernel_rfl) (by kernel_rfl) (fun _ _ _ h => h) (Or.inl ⟨by rfl, ?_⟩) hHeld0 ?_
      rotate_left
      · (intro w' hSw; (try dsimp only at hSw); go_simp; all_goals (with_reducible rfl))
      try simp only [Act.put, sA, sB, sC]
      refine wpAnyH_take (i := 4) (oi := ⟨some 7, _, _, _, _, _⟩) (v := ?_) rfl (by kernel_rfl) (by kernel_rfl) (by kernel_rfl) (fun _ _ _ h => h) (Or.inl ⟨by rfl, ?_⟩) hHeld0 ?_
      rotate_left
      · (intro w' hSw; (try dsimp only at hSw); go_simp; all_goals (with_reducible rfl))
      try simp only [Act.put, sA, sB, sC]
      refine wpAnyH_take (i := 5) (oi := ⟨some 8, _, _, _, _, _⟩) (v := ?_) rfl (by kernel_rfl) (by kernel_rfl) (by kernel_rfl) (fun _ _ _ h => h) (Or.inl ⟨by rfl, ?_⟩) hHeld0 ?_
      rotate_left
      · (intro w' hSw; (try dsimp only at hSw); go_simp; all_goals (with_reducible rfl))
      try simp only [Act.put, sA, sB, sC]
      refine wpAnyH_take (i := 6) (oi := ⟨some 9, _, _, _, _, _⟩) (v := ?_) rfl (by kernel_rfl) (by kernel_rfl) (by kernel_rfl) (fun _ _ _ h => h) (Or.inl ⟨by rfl, ?_⟩) hHeld0 ?_
      rotate_left
      · (intro w' hSw; (try dsimp only at hSw); go_simp; all_goals (with_reducible rfl))
      try simp only [Act.put, sA, sB, sC]
      refine wpAnyH_take (i := 7) (oi := ⟨some 10, _, _, _, _, _⟩) (v := ?_) rfl (by kernel_rfl) (by kernel_rfl) (by kernel_rfl) (fun _ _ _ h => h) (Or.inl ⟨by rfl, ?_⟩) hHeld0 ?_
      rotate_left
      · (intro w' hSw; (try dsimp only at hSw); go_simp; all_goals (with_reducible rfl))
      try simp only [Act.put, sA, sB, sC]
      refine wpAnyH_take (i := 8) (oi := ⟨some 11, _, _, _, _, _⟩) (v := ?_) rfl (by kernel_rfl) (by kernel_rfl) (by kernel_rfl) (fun _ _ _ h => h) (Or.inl ⟨by rfl, ?_⟩) hHeld0 ?_
      rotate_left
      · (intro w' hSw; (try dsimp only at hSw); go_simp; all_goals (with_reducible rfl))
      try simp only [Act.put, sA, sB, sC]
      refine wpAnyH_take (i := 9) (oi := ⟨some 12, _, _, _, _, _⟩) (v := undef) rfl (by kernel_rfl) (by kernel_rfl) (by kernel_rfl) (fun _ _ _ h => h) (Or.inr ⟨by rfl, rfl⟩) hHeld0 ?_
      try simp only [Act.put, sA, sB, sC]
      refine wpAnyH_take (i := 10) (oi := ⟨some 13, _, _, _, _, _⟩) (v := undef) rfl (by kernel_rfl) (by kernel_rfl) (by kernel_rfl) (fun _ _ _ h => h) (Or.inr ⟨by rfl, rfl⟩) hHeld0 ?_
      try simp only [Act.put, sA, sB, sC]
      refine wpAnyH_take (i := 11) (oi := ⟨some 14, _, _, _, _, _⟩) (v := undef) rfl (by kernel_rfl) (by kernel_rfl) (by kernel_rfl) (fun _ _ _ h => h) (Or.inr ⟨by rfl, rfl⟩) hHeld0 ?_
      try simp only [Act.put, sA, sB, sC]
      refine wpAnyH_take (i := 12) (oi := ⟨some 15, _, _, _, _, _⟩) (v := ?_) rfl (by kernel_rfl) (by kernel_rfl) (by kernel_rfl) (fun _ _ _ h => h) (Or.inl ⟨by rfl, ?_⟩) hHeld0 ?_
      rotate_left
      · (intro w' hSw; (try dsimp only at hSw); go_simp; all_goals (with_reducible rfl))
      try simp only [Act.put, sA, sB, sC]
      refine wpAnyH_take (i := 13) (oi := ⟨some 16, _, _, _, _, _⟩) (v := ?_) rfl (by kernel_rfl) (by kernel_rfl) (by kernel_rfl) (fun _ _ _ h => h) (Or.inl ⟨by rfl, ?_⟩) hHeld0 ?_
      rotate_left
      · (intro w' hSw; (try dsimp only at hSw); go_simp; all_goals (with_reducible rfl))
      try simp only [Act.put, sA, sB, sC]
      refine wpAnyH_take (i := 14) (oi := ⟨some 17, _, _, _, _, _⟩) (v := undef) rfl (by kernel_rfl) (by kernel_rfl) (by kernel_rfl) (fun _ _ _ h => h) (Or.inr ⟨by rfl, rfl⟩) hHeld0 ?_
      try simp only [Act.put, sA, sB, sC]
      refine wpAnyH_take (i := 15) (oi := ⟨some 18, _, _, _, _, _⟩) (v := undef) rfl (by kernel_rfl) (by kernel_rfl) (by kernel_rfl) (fun _ _ _ h => h) (Or.inr ⟨by rfl, rfl⟩) hHeld0 ?_
      try simp only [Act.put, sA, sB, sC]
      refine wpAnyH_take (i := 16) (oi := ⟨some 19, _, _, _, _, _⟩) (v := undef) rfl (by kernel_rfl) (by kernel_rfl) (by kernel_rfl) (fun _ _ _ h => h) (Or.inr ⟨by rfl, rfl⟩) hHeld0 ?_
      try simp only [Act.put, sA, sB, sC]
      refine wpAnyH_take (i := 17) (oi := ⟨some 20, _, _, _, _, _⟩) (v := ?_) rfl (by kernel_rfl) (by kernel_rfl) (by kernel_rfl) (fun _ _ _ h => h) (Or.inl ⟨by rfl, ?_⟩) hHeld0 ?_
      rotate_left
      · (intro w' hSw; (try dsimp only at hSw); go_simp; all_goals (with_reducible rfl))
      try simp only [Act.put, sA, sB, sC]
      refine wpAnyH_take (i := 18) (oi := ⟨some 21, _, _, _, _, _⟩) (v := ?_) rfl (by kernel_rfl) (by kernel_rfl) (by kernel_rfl) (fun _ _ _ h => h) (Or.inl ⟨by rfl, ?_⟩) hHeld0 ?_
      rotate_left
      · (intro w' hSw; (try dsimp only at hSw); go_simp; all_goals (with_reducible rfl))
      try simp only [Act.put, sA, sB, sC]
      refine wpAnyH_take (i := 19) (oi := ⟨some 22, _, _, _, _, _⟩) (v := undef) rfl (by kernel_rfl) (by kernel_rfl) (by kernel_rfl) (fun _ _ _ h => h) (Or.inr ⟨by rfl, rfl⟩) hHeld0 ?_
      try simp only [Act.put, sA, sB, sC]
      refine wpAnyH_take (i := 20) (oi := ⟨some 23, _, _, _, _, _⟩) (v := undef) rfl (by kernel_rfl) (by kernel_rfl) (by kernel_rfl) (fun _ _ _ h => h) (Or.inr ⟨by rfl, rfl⟩) hHeld0 ?_
      try simp only [Act.put, sA, sB, sC]
      refine wpAnyH_take (i := 21) (oi := ⟨some 24, _, _, _, _, _⟩) (v := undef) rfl (by kernel_rfl) (by kernel_rfl) (by kernel_rfl) (fun _ _ _ h => h) (Or.inr ⟨by rfl, rfl⟩) hHeld0 ?_
      try simp only [Act.put, sA, sB, sC]
      refine wpAnyH_take (i := 22) (oi := ⟨some 25, _, _, _, _, _⟩) (v := ?_) rfl (by kernel_rfl) (by kernel_rfl) (by kernel_rfl) (fun _ _ _ h => h) (Or.inl ⟨by rfl, ?_⟩) hHeld0 ?_
      rotate_left
      · (intro w' hSw; (try dsimp only at hSw); go_simp; all_goals (with_reducible rfl))
      try simp only [Act.put, sA, sB, sC]
      refine wpAnyH_take (i := 23) (oi := ⟨some 26, _, _, _, _, _⟩) (v := ?_) rfl (by kernel_rfl) (by kernel_rfl) (by kernel_rfl) (fun _ _ _ h => h) (Or.inl ⟨by rfl, ?_⟩) hHeld0 ?_
      rotate_left
      · (intro w' hSw; (try dsimp only at hSw); go_simp; all_goals (with_reducible rfl))
      try simp only [Act.put, sA, sB, sC]
      refine wpAnyH_take (i := 24) (oi := ⟨some 27, _, _, _, _, _⟩) (v := undef) rfl (by kernel_rfl) (by kernel_rfl) (by kernel_rfl) (fun _ _ _ h => h) (Or.inr ⟨by rfl, rfl⟩) hHeld0 ?_
      try simp only [Act.put, sA, sB, sC]
      refine wpAnyH_take (i := 25) (oi := ⟨some 28, _, _, _, _, _⟩) (v := undef) rfl (by kernel_rfl) (by kernel_rfl) (by kernel_rfl) (fun _ _ _ h => h) (Or.inr ⟨by rfl, rfl⟩) hHeld0 ?_
      try simp only [Act.put, sA, sB, sC]
      refine wpAnyH_take (i := 26) (oi := ⟨some 29, _, _, _, _, _⟩) (v := undef) rfl (by kernel_rfl) (by kernel_rfl) (by kernel_rfl) (fun _ _ _ h => h) (Or.inr ⟨by rfl, rfl⟩) hHeld0 ?_
      try simp only [Act.put, sA, sB, sC]
      refine wpAnyH_take (i := 27) (oi := ⟨some 30, _, _, _, _, _⟩) (v := undef) rfl (by kernel_rfl) (by kernel_rfl) (by kernel_rfl) (fun _ _ _ h => h) (Or.inr ⟨by rfl, rfl⟩) hHeld0 ?_
      try simp only [Act.put, sA, sB, sC]
      refine wpAnyH_take (i := 28) (oi := ⟨some 31, _, _, _, _, _⟩) (v := undef) rfl (by kernel_rfl) (by kernel_rfl) (by kernel_rfl) (fun _ _ _ h => h) (Or.inr ⟨by rfl, rfl⟩) hHeld0 ?_
      try simp only [Act.put, sA, sB, sC]
      refine wpAnyH_take (i := 29) (oi := ⟨some 32, _, _, _, _, _⟩) (v := undef) rfl (by kernel_rfl) (by kernel_rfl) (by kernel_rfl) (fun _ _ _ h => h) (Or.inr ⟨by rfl, rfl⟩) hHeld0 ?_
      try simp only [Act.put, sA, sB, sC]
      refine wpAnyH_take (i := 30) (oi := ⟨some 33, _, _, _, _, _⟩) (v := undef) rfl (by kernel_rfl) (by kernel_rfl) (by kernel_rfl) (fun _ _ _ h => h) (Or.inr ⟨by rfl, rfl⟩) hHeld0 ?_
      try simp only [Act.put, sA, sB, sC]
      refine wpAnyH_take (i := 31) (oi := ⟨some 34, _, _, _, _, _⟩) (v := undef) rfl (by kernel_rfl) (by kernel_rfl) (by kernel_rfl) (fun _ _ _ h => h) (Or.inr ⟨by rfl, rfl⟩) hHeld0 ?_
      try simp only [Act.put, sA, sB, sC]
      refine wpAnyH_take (i := 32) (oi := ⟨some 35, _, _, _, _, _⟩) (v := ?_) rfl (by kernel_rfl) (by kernel_rfl) (by kernel_rfl) (fun _ _ _ h => h) (Or.inl ⟨by rfl, ?_⟩) hHeld0 ?_
      rotate_left
      · (intro w' hSw; (try dsimp only at hSw); go_simp; all_goals (with_reducible rfl))
      try simp only [Act.put, sA, sB, sC]
      refine wpAnyH_take (i := 33) (oi := ⟨some 2, _, _, _, _, _⟩) (v := ?_) rfl (by kernel_rfl) (by kernel_rfl) (by kernel_rfl) (fun _ _ _ h => h) (Or.inl ⟨by rfl, ?_⟩) hHeld0 ?_
      rotate_left
      · (intro w' hSw; (try dsimp only at hSw); go_simp; all_goals (with_reducible rfl))
      try simp only [Act.put, sA, sB, sC]
      refine wpAnyH_done (by kernel_rfl) ?_ _
      go_wp2
      go_ret
      exact ⟨ret_bool HD.out.symm, b1.drew⟩
  · have ue1 : decide (0 ≤ node) = false := decide_eq_false e1
    have HD := Lib.hid (hd.trans (show _ = false by simp [e1]))
    clear hd
    go_enter Try.func43, Try.ntmps43
    go_wp2
    generalize w.alloc (.cells #[.int .i64 node, .int .i64 frm, .int .i64 g, .int .i64 t, .slice At nt ct] 42) = w1 at *
    have d0 := X.at 0 rfl
    have d1 := X.at 1 rfl
    have d2 := X.at 2 rfl
    have d3 := X.at 3 rfl
    have d4 := X.at 4 rfl
    refine wp_region_held_drew (S := (fun w' => w'.cell? ⟨w.heap.size, 0, none⟩ = some (.int .i64 node) ∧ w'.cell? ⟨w.heap.size, 1, none⟩ = some (.int .i64 frm) ∧ w'.cell? ⟨w.heap.size, 2, none⟩ = some (.int .i64 g) ∧ w'.cell? ⟨w.heap.size, 3, none⟩ = some (.int .i64 t) ∧ w'.cell? ⟨w.heap.size, 4, none⟩ = some (.slice At nt ct))) (by kernel_rfl) (by exact ⟨d0, d1, d2, d3, d4⟩) (fun hHeld0 => ?_)
    refine wpAnyH_take (i := 0) (oi := ⟨some 3, _, _, _, _, _⟩) (v := ?_) rfl (by kernel_rfl) (by kernel_rfl) (by kernel_rfl) (fun _ _ _ h => h) (Or.inl ⟨by rfl, ?_⟩) hHeld0 ?_
    rotate_left
    · (intro w' hSw; (try dsimp only at hSw); go_simp; all_goals (with_reducible rfl))
    try simp only [Act.put, sA, sB, sC]
    refine wpAnyH_take (i := 1) (oi := ⟨some 4, _, _, _, _, _⟩) (v := ?_) rfl (by kernel_rfl) (by kernel_rfl) (by kernel_rfl) (fun _ _ _ h => h) (Or.inl ⟨by rfl, ?_⟩) hHeld0 ?_
    rotate_left
    · (intro w' hSw; (try dsimp only at hSw); go_simp; all_goals (with_reducible rfl))
    try simp only [Act.put, sA, sB, sC]
    refine wpAnyH_take (i := 2) (oi := ⟨some 5, _, _, _, _, _⟩) (v := ?_) rfl (by kernel_rfl) (by kernel_rfl) (by kernel_rfl) (fun _ _ _ h => h) (Or.inl ⟨by rfl, ?_⟩) hHeld0 ?_
    rotate_left
    · (intro w' hSw; (try dsimp only at hSw); go_simp; all_goals (with_reducible rfl))
    try simp only [Act.put, sA, sB, sC]
    refine wpAnyH_take (i := 3) (oi := ⟨some 6, _, _, _, _, _⟩) (v := ?_) rfl (by kernel_rfl) (by kernel_rfl) (by kernel_rfl) (fun _ _ _ h => h) (Or.inl ⟨by rfl, ?_⟩) hHeld0 ?_
    rotate_left
    · (intro w' hSw; (try dsimp only at hSw); go_simp; all_goals (with_reducible rfl))
    try simp only [Act.put, sA, sB, sC]
    refine wpAnyH_take (i := 4) (oi := ⟨some 7, _, _, _, _, _⟩) (v := undef) rfl (by kernel_rfl) (by kernel_rfl) (by kernel_rfl) (fun _ _ _ h => h) (Or.inr ⟨by rfl, rfl⟩) hHeld0 ?_
    try simp only [Act.put, sA, sB, sC]
    refine wpAnyH_take (i := 5) (oi := ⟨some 8, _, _, _, _, _⟩) (v := undef) rfl (by kernel_rfl) (by kernel_rfl) (by kernel_rfl) (fun _ _ _ h => h) (Or.inr ⟨by rfl, rfl⟩) hHeld0 ?_
    try simp only [Act.put, sA, sB, sC]
    refine wpAnyH_take (i := 6) (oi := ⟨some 9, _, _, _, _, _⟩) (v := undef) rfl (by kernel_rfl) (by kernel_rfl) (by kernel_rfl) (fun _ _ _ h => h) (Or.inr ⟨by rfl, rfl⟩) hHeld0 ?_
    try simp only [Act.put, sA, sB, sC]
    refine wpAnyH_take (i := 7) (oi := ⟨some 10, _, _, _, _, _⟩) (v := ?_) rfl (by kernel_rfl) (by kernel_rfl) (by kernel_rfl) (fun _ _ _ h => h) (Or.inl ⟨by rfl, ?_⟩) hHeld0 ?_
    rotate_left
    · (intro w' hSw; (try dsimp only at hSw); go_simp; all_goals (with_reducible rfl))
    try simp only [Act.put, sA, sB, sC]
    refine wpAnyH_take (i := 8) (oi := ⟨some 11, _, _, _, _, _⟩) (v := ?_) rfl (by kernel_rfl) (by kernel_rfl) (by kernel_rfl) (fun _ _ _ h => h) (Or.inl ⟨by rfl, ?_⟩) hHeld0 ?_
    rotate_left
    · (intro w' hSw; (try dsimp only at hSw); go_simp; all_goals (with_reducible rfl))
    try simp only [Act.put, sA, sB, sC]
    refine wpAnyH_take (i := 9) (oi := ⟨some 12, _, _, _, _, _⟩) (v := undef) rfl (by kernel_rfl) (by kernel_rfl) (by kernel_rfl) (fun _ _ _ h => h) (Or.inr ⟨by rfl, rfl⟩) hHeld0 ?_
    try simp only [Act.put, sA, sB, sC]
    refine wpAnyH_take (i := 10) (oi := ⟨some 13, _, _, _, _, _⟩) (v := undef) rfl (by kernel_rfl) (by kernel_rfl) (by kernel_rfl) (fun _ _ _ h => h) (Or.inr ⟨by rfl, rfl⟩) hHeld0 ?_
    try simp only [Act.put, sA, sB, sC]
    refine wpAnyH_take (i := 11) (oi := ⟨some 14, _, _, _, _, _⟩) (v := undef) rfl (by kernel_rfl) (by kernel_rfl) (by kernel_rfl) (fun _ _ _ h => h) (Or.inr ⟨by rfl, rfl⟩) hHeld0 ?_
    try simp only [Act.put, sA, sB, sC]
    refine wpAnyH_take (i := 12) (oi := ⟨some 15, _, _, _, _, _⟩) (v := ?_) rfl (by kernel_rfl) (by kernel_rfl) (by kernel_rfl) (fun _ _ _ h => h) (Or.inl ⟨by rfl, ?_⟩) hHeld0 ?_
    rotate_left
    · (intro w' hSw; (try dsimp only at hSw); go_simp; all_goals (with_reducible rfl))
    try simp only [Act.put, sA, sB, sC]
    refine wpAnyH_take (i := 13) (oi := ⟨some 16, _, _, _, _, _⟩) (v := ?_) rfl (by kernel_rfl) (by kernel_rfl) (by kernel_rfl) (fun _ _ _ h => h) (Or.inl ⟨by rfl, ?_⟩) hHeld0 ?_
    rotate_left
    · (intro w' hSw; (try dsimp only at hSw); go_simp; all_goals (with_reducible rfl))
    try simp only [Act.put, sA, sB, sC]
    refine wpAnyH_take (i := 14) (oi := ⟨some 17, _, _, _, _, _⟩) (v := undef) rfl (by kernel_rfl) (by kernel_rfl) (by kernel_rfl) (fun _ _ _ h => h) (Or.inr ⟨by rfl, rfl⟩) hHeld0 ?_
    try simp only [Act.put, sA, sB, sC]
    refine wpAnyH_take (i := 15) (oi := ⟨some 18, _, _, _, _, _⟩) (v := undef) rfl (by kernel_rfl) (by kernel_rfl) (by kernel_rfl) (fun _ _ _ h => h) (Or.inr ⟨by rfl, rfl⟩) hHeld0 ?_
    try simp only [Act.put, sA, sB, sC]
    refine wpAnyH_take (i := 16) (oi := ⟨some 19, _, _, _, _, _⟩) (v := undef) rfl (by kernel_rfl) (by kernel_rfl) (by kernel_rfl) (fun _ _ _ h => h) (Or.inr ⟨by rfl, rfl⟩) hHeld0 ?_
    try simp only [Act.put, sA, sB, sC]
    refine wpAnyH_take (i := 17) (oi := ⟨some 20, _, _, _, _, _⟩) (v := ?_) rfl (by kernel_rfl) (by kernel_rfl) (by kernel_rfl) (fun _ _ _ h => h) (Or.inl ⟨by rfl, ?_⟩) hHeld0 ?_
    rotate_left
    · (intro w' hSw; (try dsimp only at hSw); go_simp; all_goals (with_reducible rfl))
    try simp only [Act.put, sA, sB, sC]
    refine wpAnyH_take (i := 18) (oi := ⟨some 21, _, _, _, _, _⟩) (v := ?_) rfl (by kernel_rfl) (by kernel_rfl) (by kernel_rfl) (fun _ _ _ h => h) (Or.inl ⟨by rfl, ?_⟩) hHeld0 ?_
    rotate_left
    · (intro w' hSw; (try dsimp only at hSw); go_simp; all_goals (with_reducible rfl))
    try simp only [Act.put, sA, sB, sC]
    refine wpAnyH_take (i := 19) (oi := ⟨some 22, _, _, _, _, _⟩) (v := undef) rfl (by kernel_rfl) (by kernel_rfl) (by kernel_rfl) (fun _ _ _ h => h) (Or.inr ⟨by rfl, rfl⟩) hHeld0 ?_
    try simp only [Act.put, sA, sB, sC]
    refine wpAnyH_take (i := 20) (oi := ⟨some 23, _, _, _, _, _⟩) (v := undef) rfl (by kernel_rfl) (by kernel_rfl) (by kernel_rfl) (fun _ _ _ h => h) (Or.inr ⟨by rfl, rfl⟩) hHeld0 ?_
    try simp only [Act.put, sA, sB, sC]
    refine wpAnyH_take (i := 21) (oi := ⟨some 24, _, _, _, _, _⟩) (v := undef) rfl (by kernel_rfl) (by kernel_rfl) (by kernel_rfl) (fun _ _ _ h => h) (Or.inr ⟨by rfl, rfl⟩) hHeld0 ?_
    try simp only [Act.put, sA, sB, sC]
    refine wpAnyH_take (i := 22) (oi := ⟨some 25, _, _, _, _, _⟩) (v := ?_) rfl (by kernel_rfl) (by kernel_rfl) (by kernel_rfl) (fun _ _ _ h => h) (Or.inl ⟨by rfl, ?_⟩) hHeld0 ?_
    rotate_left
    · (intro w' hSw; (try dsimp only at hSw); go_simp; all_goals (with_reducible rfl))
    try simp only [Act.put, sA, sB, sC]
    refine wpAnyH_take (i := 23) (oi := ⟨some 26, _, _, _, _, _⟩) (v := ?_) rfl (by kernel_rfl) (by kernel_rfl) (by kernel_rfl) (fun _ _ _ h => h) (Or.inl ⟨by rfl, ?_⟩) hHeld0 ?_
    rotate_left
    · (intro w' hSw; (try dsimp only at hSw); go_simp; all_goals (with_reducible rfl))
    try simp only [Act.put, sA, sB, sC]
    refine wpAnyH_take (i := 24) (oi := ⟨some 27, _, _, _, _, _⟩) (v := undef) rfl (by kernel_rfl) (by kernel_rfl) (by kernel_rfl) (fun _ _ _ h => h) (Or.inr ⟨by rfl, rfl⟩) hHeld0 ?_
    try simp only [Act.put, sA, sB, sC]
    refine wpAnyH_take (i := 25) (oi := ⟨some 28, _, _, _, _, _⟩) (v := undef) rfl (by kernel_rfl) (by kernel_rfl) (by kernel_rfl) (fun _ _ _ h => h) (Or.inr ⟨by rfl, rfl⟩) hHeld0 ?_
    try simp only [Act.put, sA, sB, sC]
    refine wpAnyH_take (i := 26) (oi := ⟨some 29, _, _, _, _, _⟩) (v := undef) rfl (by kernel_rfl) (by kernel_rfl) (by kernel_rfl) (fun _ _ _ h => h) (Or.inr ⟨by rfl, rfl⟩) hHeld0 ?_
    try simp only [Act.put, sA, sB, sC]
    refine wpAnyH_take (i := 27) (oi := ⟨some 30, _, _, _, _, _⟩) (v := undef) rfl (by kernel_rfl) (by kernel_rfl) (by kernel_rfl) (fun _ _ _ h => h) (Or.inr ⟨by rfl, rfl⟩) hHeld0 ?_
    try simp only [Act.put, sA, sB, sC]
    refine wpAnyH_take (i := 28) (oi := ⟨some 31, _, _, _, _, _⟩) (v := undef) rfl (by kernel_rfl) (by kernel_rfl) (by kernel_rfl) (fun _ _ _ h => h) (Or.inr ⟨by rfl, rfl⟩) hHeld0 ?_
    try simp only [Act.put, sA, sB, sC]
    refine wpAnyH_take (i := 29) (oi := ⟨some 32, _, _, _, _, _⟩) (v := undef) rfl (by kernel_rfl) (by kernel_rfl) (by kernel_rfl) (fun _ _ _ h => h) (Or.inr ⟨by rfl, rfl⟩) hHeld0 ?_
    try simp only [Act.put, sA, sB, sC]
    refine wpAnyH_take (i := 30) (oi := ⟨some 33, _, _, _, _, _⟩) (v := undef) rfl (by kernel_rfl) (by kernel_rfl) (by kernel_rfl) (fun _ _ _ h => h) (Or.inr ⟨by rfl, rfl⟩) hHeld0 ?_
    try simp only [Act.put, sA, sB, sC]
    refine wpAnyH_take (i := 31) (oi := ⟨some 34, _, _, _, _, _⟩) (v := undef) rfl (by kernel_rfl) (by kernel_rfl) (by kernel_rfl) (fun _ _ _ h => h) (Or.inr ⟨by rfl, rfl⟩) hHeld0 ?_
    try simp only [Act.put, sA, sB, sC]
    refine wpAnyH_take (i := 32) (oi := ⟨some 35, _, _, _, _, _⟩) (v := ?_) rfl (by kernel_rfl) (by kernel_rfl) (by kernel_rfl) (fun _ _ _ h => h) (Or.inl ⟨by rfl, ?_⟩) hHeld0 ?_
    rotate_left
    · (intro w' hSw; (try dsimp only at hSw); go_simp; all_goals (with_reducible rfl))
    try simp only [Act.put, sA, sB, sC]
    refine wpAnyH_take (i := 33) (oi := ⟨some 2, _, _, _, _, _⟩) (v := ?_) rfl (by kernel_rfl) (by kernel_rfl) (by kernel_rfl) (fun _ _ _ h => h) (Or.inl ⟨by rfl, ?_⟩) hHeld0 ?_
    rotate_left
    · (intro w' hSw; (try dsimp only at hSw); go_simp; all_goals (with_reducible rfl))
    try simp only [Act.put, sA, sB, sC]
    refine wpAnyH_done (by kernel_rfl) ?_ _
    go_wp2
    go_ret
    exact ⟨ret_bool HD.out.symm, b1.drew⟩

set_option maxHeartbeats 1000000 in
theorem lcall_any (node : Int) (v : Sv) (w : World) : Calls Try.prog 37 #[.int .i64 node, sv v] w fun e w' => e = .returned (lv ⟨node, 0, v⟩) ∧ Below w.heap.size w w' := by
  obtain ⟨⟨g, t, tl⟩, A, n, c⟩ := v
  simp only [sv]
  have b1 : Below w.heap.size w (w.alloc (.cells #[.int .i64 g, .int .i64 t, .slice A n c] 40)) := (Below.refl _ _).alloc (Nat.le_refl _) _
  have hse : (w.alloc (.cells #[.int .i64 g, .int .i64 t, .slice A n c] 40)).heap.size = w.heap.size + 1 := by simp
  have x1 := Box.new w #[.int .i64 g, .int .i64 t, .slice A n c] 40
  have b2 := b1.alloc b1.size (.cells #[.int .i64 0, .int .i64 0, .int .i64 0, .int .i64 0, .slice none 0 0] 42)
  have x2 := Box.new (w.alloc (.cells #[.int .i64 g, .int .i64 t, .slice A n c] 40)) #[.int .i64 0, .int .i64 0, .int .i64 0, .int .i64 0, .slice none 0 0] 42
  have k0 := (x1.alloc (.cells #[.int .i64 0, .int .i64 0, .int .i64 0, .int .i64 0, .slice none 0 0] 42)).at 0 rfl
  have k1 := (x1.alloc (.cells #[.int .i64 0, .int .i64 0, .int .i64 0, .int .i64 0, .slice none 0 0] 42)).at 1 rfl
  have k2 := (x1.alloc (.cells #[.int .i64 0, .int .i64 0, .int .i64 0, .int .i64 0, .slice none 0 0] 42)).at 2 rfl
  rw [hse] at x2
  go_enter Try.func37, Try.ntmps37
  go_wp2_with fail
  generalize (w.alloc (.cells #[.int .i64 g, .int .i64 t, .slice A n c] 40)).alloc (.cells #[.int .i64 0, .int .i64 0, .int .i64 0, .int .i64 0, .slice none 0 0] 42) = w2 at *
  have y0 := x2.at 0 rfl
  have y1 := x2.at 1 rfl
  have y2 := x2.at 2 rfl
  have y3 := x2.at 3 rfl
  have y4 := x2.at 4 rfl
  have yf := x2.cold
  have z := x2.lt
  go_wp2
  refine bodyPost_ret (v := lv ⟨node, 0, ⟨⟨g, t, tl⟩, A, n, c⟩⟩) (by simp [results, Try.results37, go_sem, y0, y1, y2, y3, y4, z, lv]; try rfl) rfl ⟨rfl, ?_⟩
  exact below2 w _ _
end Go.Proofs.Ytkabkpeamggnnaa

namespace Go.Proofs.Ytkabkpeamggnnaa
set_option linter.unusedVariables false
set_option linter.unusedSimpArgs false
open Go.RowKit

theorem legSame : ∀ args w, (callFunc 45 args).run Try.prog w = .ok (.enter 45 args) w := enters_of Try.func45 (by kernel_rfl) rfl

set_option maxHeartbeats 1000000 in
theorem lsame1_any (x y : Lv) (w : World) (h : SRd w x.v) (h' : SRd w y.v) (hn : x.v.n ≤ 4000) (hn' : y.v.n ≤ 4000) :
    Calls Try.prog 45 #[lv x, lv y] w fun e w' => e = .returned (.bool (decide (x.dl = y.dl))) ∧ Below w.heap.size w w' := by
  have hd : decide (x.dl = y.dl) = (decide (x.node = y.node) && decide (x.frm = y.frm) && sameB x.v.s y.v.s) := by
    unfold sameB
    rw [← Bool.decide_and, ← Bool.decide_and]
    exact decide_eq_decide.2 (dl_eq.trans and_assoc.symm)
  obtain ⟨node, frm, ⟨⟨g, t, tl⟩, At, nt, ct⟩⟩ := x
  obtain ⟨node', frm', ⟨⟨g', t', tl'⟩, At', nt', ct'⟩⟩ := y
  simp only [lv]
  simp only at hn hn' h h' hd
  have hb := below2 w (.cells #[.int .i64 node, .int .i64 frm, .int .i64 g, .int .i64 t, .slice At nt ct] 42) (.cells #[.int .i64 node', .int .i64 frm', .int .i64 g', .int .i64 t', .slice At' nt' ct'] 42)
  have h1 := (h.allocH (.cells #[.int .i64 node, .int .i64 frm, .int .i64 g, .int .i64 t, .slice At nt ct] 42)).allocH (.cells #[.int .i64 node', .int .i64 frm', .int .i64 g', .int .i64 t', .slice At' nt' ct'] 42)
  have h2 := (h'.allocH (.cells #[.int .i64 node, .int .i64 frm, .int .i64 g, .int .i64 t, .slice At nt ct] 42)).allocH (.cells #[.int .i64 node', .int .i64 frm', .int .i64 g', .int .i64 t', .slice At' nt' ct'] 42)
  clear h h'
  by_cases e1 : node = node'
  · by_cases e2 : frm = frm'
    · have t1 : (node == node') = true := beq_iff_eq.2 e1
      have t2 : (frm == frm') = true := beq_iff_eq.2 e2
      have HS : Hid (sameB ⟨g, t, tl⟩ ⟨g', t', tl'⟩ = decide (Lv.dl ⟨node, frm, ⟨⟨g, t, tl⟩, At, nt, ct⟩⟩ = Lv.dl ⟨node', frm', ⟨⟨g', t', tl'⟩, At', nt', ct'⟩⟩)) := Lib.hid (by rw [hd]; simp [e1, e2])
      clear hd e1 e2
      go_enter Try.func45, Try.ntmps45
      go_wp2_with fail
      refine (ssame_any ⟨⟨g, t, tl⟩, At, nt, ct⟩ ⟨⟨g', t', tl'⟩, At', nt', ct'⟩ _ h1 h2 (by show nt * 32 ≤ _; omega) (by show nt' * 32 ≤ _; omega)).mono ?_
      rintro e w2 ⟨rfl, hb2⟩
      go_wp2
      go_ret
      exact ⟨ret_bool HS.out, hb.trans (hb2.mono hb.size)⟩
    · have HS : Hid (decide (Lv.dl ⟨node, frm, ⟨⟨g, t, tl⟩, At, nt, ct⟩⟩ = Lv.dl ⟨node', frm', ⟨⟨g', t', tl'⟩, At', nt', ct'⟩⟩) = false) := Lib.hid (by rw [hd]; simp [e2])
      have t1 : (node == node') = true := beq_iff_eq.2 e1
      have t2 : (frm == frm') = false := beq_eq_false_iff_ne.2 e2
      clear hd e1 e2
      go_enter Try.func45, Try.ntmps45
      go_wp2
      go_ret
      exact ⟨ret_bool HS.out.symm, hb⟩
  · have HS : Hid (decide (Lv.dl ⟨node, frm, ⟨⟨g, t, tl⟩, At, nt, ct⟩⟩ = Lv.dl ⟨node', frm', ⟨⟨g', t', tl'⟩, At', nt', ct'⟩⟩) = false) := Lib.hid (by rw [hd]; simp [e1])
    have t1 : (node == node') = false := beq_eq_false_iff_ne.2 e1
    clear hd e1
    go_enter Try.func45, Try.ntmps45
    go_wp2
    go_ret
    exact ⟨ret_bool HS.out.symm, hb⟩

set_option maxHeartbeats 2000000 in
set_option maxRecDepth 20000 in
theorem leqf_any (U U' : Lw) (g : Nat) (eg : ∀ args w, (callFunc g args).run Try.prog w = .ok (.enter g args) w) (w : World) (h : LRd w U) (h' : LRd w U') (hn : U.n ≤ 1000) (hn' : U'.n ≤ 1000)
    (hp : ∀ (x y : Lv) (W : World), x ∈ U.l → y ∈ U'.l → SRd W x.v → SRd W y.v → Calls Try.prog g #[lv x, lv y] W fun e w' => e = .returned (.bool (decide (x.dl = y.dl))) ∧ Below W.heap.size W w') :
    Calls Try.prog 44 #[lval U, lval U', .func (.func g) #[] #[]] w fun e w' => e = .returned (.bool (decide (U.dls = U'.dls))) ∧ Below w.heap.size w w' := by
  obtain ⟨l, A, n, c⟩ := U
  obtain ⟨l', A', n', c'⟩ := U'
  have hl := h.len
  have hl' := h'.len
  simp only at hn hn' hl hl' hp
  have HL := Lib.hid hl
  have HL' := Lib.hid hl'
  have HP := Lib.hid hp
  clear hl hl' hp
  simp only [lval]
  by_cases hnn : n = n'
  · subst hnn
    go_enter Try.func44, Try.ntmps44
    go_wp2
    go_loopw [17] (fun i wr => ∃ k : Nat, k ≤ n ∧ i = .int .i64 k ∧ (l.take k).map Lv.dl = (l'.take k).map Lv.dl ∧ Below w.heap.size w wr) (fun i _ => n - (intOf i).toNat)
    case atStart => exact ⟨0, by omega, rfl, rfl, Below.refl _ _⟩
    case round =>
      obtain ⟨k, hk, rfl, hno, hbel⟩ := hrel
      have HN := Lib.hid hno
      have hbs := hbel.size
      clear hno
      by_cases hlt : k < n
      · obtain ⟨b, o, x, e1, hb, hx, hsx, c0, c1, c2, c3, c4⟩ := (h.belowH hbel).at hlt
        obtain ⟨b', o', y, e2, hb', hy, hsy, d0, d1, d2, d3, d4⟩ := (h'.belowH hbel).at hlt
        simp only at e1 e2 hx hy
        subst e1 e2
        have hk0 : (0 : Int) ≤ (k : Int) := by omega
        have HX := Lib.hid hx
        have HY := Lib.hid hy
        have hxl : x ∈ l := List.mem_of_getElem? hx
        have hyl : y ∈ l' := List.mem_of_getElem? hy
        clear hx hy
        have hbel4 := (hbel.alloc hbs (.cells #[.int .i64 x.node, .int .i64 x.frm, .int .i64 x.v.s.gen, .int .i64 x.v.s.beat, .slice x.v.A x.v.n x.v.c] 42)).alloc (by simp; omega) (.cells #[.int .i64 y.node, .int .i64 y.frm, .int .i64 y.v.s.gen, .int .i64 y.v.s.beat, .slice y.v.A y.v.n y.v.c] 42)
        have hsx4 := (hsx.allocH (.cells #[.int .i64 x.node, .int .i64 x.frm, .int .i64 x.v.s.gen, .int .i64 x.v.s.beat, .slice x.v.A x.v.n x.v.c] 42)).allocH (.cells #[.int .i64 y.node, .int .i64 y.frm, .int .i64 y.v.s.gen, .int .i64 y.v.s.beat, .slice y.v.A y.v.n y.v.c] 42)
        have hsy4 := (hsy.allocH (.cells #[.int .i64 x.node, .int .i64 x.frm, .int .i64 x.v.s.gen, .int .i64 x.v.s.beat, .slice x.v.A x.v.n x.v.c] 42)).allocH (.cells #[.int .i64 y.node, .int .i64 y.frm, .int .i64 y.v.s.gen, .int .i64 y.v.s.beat, .slice y.v.A y.v.n y.v.c] 42)
        replace d0 := (World.cell?_alloc_lt wr (.cells #[.int .i64 x.node, .int .i64 x.frm, .int .i64 x.v.s.gen, .int .i64 x.v.s.beat, .slice x.v.A x.v.n x.v.c] 42) ⟨b', o' + k * 5, none⟩ hb').trans d0
        replace d1 := (World.cell?_alloc_lt wr (.cells #[.int .i64 x.node, .int .i64 x.frm, .int .i64 x.v.s.gen, .int .i64 x.v.s.beat, .slice x.v.A x.v.n x.v.c] 42) ⟨b', o' + k * 5 + 1, none⟩ hb').trans d1
        replace d2 := (World.cell?_alloc_lt wr (.cells #[.int .i64 x.node, .int .i64 x.frm, .int .i64 x.v.s.gen, .int .i64 x.v.s.beat, .slice x.v.A x.v.n x.v.c] 42) ⟨b', o' + k * 5 + 2, none⟩ hb').trans d2
        replace d3 := (World.cell?_alloc_lt wr (.cells #[.int .i64 x.node, .int .i64 x.frm, .int .i64 x.v.s.gen, .int .i64 x.v.s.beat, .slice x.v.A x.v.n x.v.c] 42) ⟨b', o' + k * 5 + 3, none⟩ hb').trans d3
        replace d4 := (World.cell?_alloc_lt wr (.cells #[.int .i64 x.node, .int .i64 x.frm, .int .i64 x.v.s.gen, .int .i64 x.v.s.beat, .slice x.v.A x.v.n x.v.c] 42) ⟨b', o' + k * 5 + 4, none⟩ hb').trans d4
        clear hsx hsy
        have hd : decide (x.dl = y.dl) = true ∨ decide (x.dl = y.dl) = false := by cases decide (x.dl = y.dl) <;> simp
        go_wp2_with fail
        refine (HP.out x y _ hxl hyl hsx4 hsy4).mono ?_
        rintro e w2 ⟨rfl, hb2⟩
        have hbel5 := hbel4.trans (hb2.mono hbel4.size)
        clear hb2 hsx4 hsy4 hbel4 c0 c1 c2 c3 c4 d0 d1 d2 d3 d4
        rcases hd with hd | hd
        · have HE := Lib.hid (of_decide_eq_true hd)
          simp only [hd]
          clear hd
          go_wp2
          go_roundw
          case rel => exact ⟨k + 1, by omega, by go_num, by rw [take_more HX.out, take_more HY.out, List.map_append, List.map_append, HN.out, List.map_singleton, List.map_singleton, HE.out], hbel5⟩
          case measure => simp [intOf]; omega
        · have hne : decide (Lw.dls ⟨l, some ⟨b, o, none⟩, n, c⟩ = Lw.dls ⟨l', some ⟨b', o', none⟩, n, c'⟩) = false := decide_eq_false fun e => (of_decide_eq_false hd) (by
            have h1 := dl_at HX.out
            have h2 := dl_at HY.out
            rw [show l.map Lv.dl = l'.map Lv.dl from e, h2] at h1
            injection h1 with h1
            exact h1.symm)
          have HNE := Lib.hid hne
          simp only [hd]
          clear hne hd
          go_wp2
          go_ret
          exact ⟨ret_bool HNE.out.symm, hbel5⟩
      · have he : decide (Lw.dls ⟨l, A, n, c⟩ = Lw.dls ⟨l', A', n, c'⟩) = true := decide_eq_true (by
          have h1 := HN.out
          rwa [List.take_of_length_le (by have := HL.out; omega), List.take_of_length_le (by have := HL'.out; omega)] at h1)
        have HE := Lib.hid he
        clear he
        go_wp2
        go_ret
        exact ⟨ret_bool HE.out.symm, hbel⟩
  · have t1 : ((n : Int) != (n' : Int)) = true := by rw [bne_iff_ne]; omega
    have hne : decide (Lw.dls ⟨l, A, n, c⟩ = Lw.dls ⟨l', A', n', c'⟩) = false := decide_eq_false fun e => by
      have h1 := congrArg List.length (show l.map Lv.dl = l'.map Lv.dl from e)
      rw [List.length_map, List.length_map, HL.out, HL'.out] at h1
      exact hnn h1
    have HNE := Lib.hid hne
    clear hne hnn
    go_enter Try.func44, Try.ntmps44
    go_wp2
    go_ret
    exact ⟨ret_bool HNE.out.symm, Below.refl _ _⟩

theorem lcsame_any (U U' : Lw) (w : World) (h : LRd w U) (h' : LRd w U') (hn : U.n ≤ 1000) (hn' : U'.n ≤ 1000) (hf : LFit U) (hf' : LFit U') : Calls Try.prog 19 #[lval U, lval U'] w fun e w' => e = .returned (.bool (decide (U.dls = U'.dls))) ∧ Below w.heap.size w w' := by
  have cp := leqf_any U U' _ legSame w h h' hn hn' (fun x y W hx hy hsx hsy => lsame1_any x y W hsx hsy (hf x hx) (hf' y hy))
  have CP := Lib.hid cp
  clear cp h h'
  obtain ⟨l, A, n, c⟩ := U
  obtain ⟨l', A', n', c'⟩ := U'
  simp only [lval]
  go_enter Try.func19, Try.ntmps19
  go_wp2_with fail
  refine CP.out.mono ?_
  rintro e w2 ⟨rfl, hb⟩
  go_wp2
  go_ret
  exact ⟨rfl, hb⟩

end Go.Proofs.Ytkabkpeamggnnaa

namespace Go.Proofs.Ytkabkpeamggnnaa
set_option linter.unusedVariables false
set_option linter.unusedSimpArgs false
open Go.RowKit

set_option maxHeartbeats 1600000 in
set_option maxRecDepth 20000 in
theorem lcright_any (U : Lw) (w : World) (h : LRd w U) (hn : U.n ≤ 1000) (hf : LFit U) : Calls Try.prog 16 #[lval U] w fun e w' => e = .returned (.bool (lrightB U.dls)) ∧ Below w.heap.size w w' := by
  obtain ⟨l, A, n, c⟩ := U
  have hl := h.len
  simp only at hn hl hf
  have HL := Lib.hid hl
  have HF := Lib.hid hf
  clear hl hf
  simp only [lval]
  go_enter Try.func16, Try.ntmps16
  go_wp2
  go_loopw [7] (fun i wr => ∃ k : Nat, k ≤ n ∧ i = .int .i64 k ∧ L.right ((l.take k).map Lv.dl) ∧ Below w.heap.size w wr) (fun i _ => n - (intOf i).toNat)
  case atStart => exact ⟨0, by omega, rfl, ⟨by simp, (trivial : L.rising [])⟩, Below.refl _ _⟩
  case round =>
    obtain ⟨k, hk, rfl, hno, hbel⟩ := hrel
    have HN := Lib.hid hno
    have hbs := hbel.size
    clear hno
    by_cases hlt : k < n
    · obtain ⟨b, o, x, e1, hb, hx, hsx, c0, c1, c2, c3, c4⟩ := (h.belowH hbel).at hlt
      simp only at e1 hx
      subst e1
      have hk0 : (0 : Int) ≤ (k : Int) := by omega
      have hfx := HF.out x (List.mem_of_getElem? hx)
      have hxm : (l.map Lv.dl)[k]? = some x.dl := dl_at hx
      have HX := Lib.hid hxm
      have hxl : x.dl ∈ l.map Lv.dl := List.mem_of_getElem? hxm
      have HXL := Lib.hid hxl
      have htk : (l.take (k + 1)).map Lv.dl = (l.take k).map Lv.dl ++ [x.dl] := by rw [take_more hx, List.map_append]; rfl
      have HTK := Lib.hid htk
      clear hx hxm hxl htk
      have X3 := Box.new wr #[.int .i64 x.node, .int .i64 x.frm, .int .i64 x.v.s.gen, .int .i64 x.v.s.beat, .slice x.v.A x.v.n x.v.c] 42
      have HB3 := Lib.hid (hbel.alloc hbs (.cells #[.int .i64 x.node, .int .i64 x.frm, .int .i64 x.v.s.gen, .int .i64 x.v.s.beat, .slice x.v.A x.v.n x.v.c] 42))
      have hs3 : wr.heap.size < (wr.alloc (.cells #[.int .i64 x.node, .int .i64 x.frm, .int .i64 x.v.s.gen, .int .i64 x.v.s.beat, .slice x.v.A x.v.n x.v.c] 42)).heap.size := by simp
      have hsx3 := hsx.allocH (.cells #[.int .i64 x.node, .int .i64 x.frm, .int .i64 x.v.s.gen, .int .i64 x.v.s.beat, .slice x.v.A x.v.n x.v.c] 42)
      have hbl : b < wr.heap.size := by omega
      have cm := lcmay_any x (wr.alloc (.cells #[.int .i64 x.node, .int .i64 x.frm, .int .i64 x.v.s.gen, .int .i64 x.v.s.beat, .slice x.v.A x.v.n x.v.c] 42)).drew hsx3.drew hfx
      clear hsx hsx3
      rcases hm : lmayB x.dl
      · have hno : lrightB (l.map Lv.dl) = false := lrightB_no fun hr => lmayB_no hm (hr.1 x.dl HXL.out)
        have HNO := Lib.hid hno
        rw [hm] at cm
        have CM := Lib.hid cm
        clear hno cm hm
        go_wp2
        generalize wr.alloc (.cells #[.int .i64 x.node, .int .i64 x.frm, .int .i64 x.v.s.gen, .int .i64 x.v.s.beat, .slice x.v.A x.v.n x.v.c] 42) = w3 at *
        have g0 := X3.at 0 rfl
        have g1 := X3.at 1 rfl
        have g2 := X3.at 2 rfl
        have g3 := X3.at 3 rfl
        have g4 := X3.at 4 rfl
        refine wp_region_held_drew (S := (fun w' => w'.cell? ⟨wr.heap.size, 0, none⟩ = some (.int .i64 x.node) ∧ w'.cell? ⟨wr.heap.size, 1, none⟩ = some (.int .i64 x.frm) ∧ w'.cell? ⟨wr.heap.size, 2, none⟩ = some (.int .i64 x.v.s.gen) ∧ w'.cell? ⟨wr.heap.size, 3, none⟩ = some (.int .i64 x.v.s.beat) ∧ w'.cell? ⟨wr.heap.size, 4, none⟩ = some (.slice x.v.A x.v.n x.v.c))) (by kernel_rfl) (by exact ⟨g0, g1, g2, g3, g4⟩) (fun hHeld0 => ?_)
        refine wpAnyH_take (i := 0) (oi := ⟨some 12, _, _, _, _, _⟩) (v := ?_) rfl (by kernel_rfl) (by kernel_rfl) (by kernel_rfl) (fun _ _ _ h => h) (Or.inl ⟨by rfl, ?_⟩) hHeld0 ?_
        rotate_left
        · (intro w' hSw; (try dsimp only at hSw); go_simp; all_goals (with_reducible rfl))
        try simp only [Act.put, sA, sB, sC]
        refine wpAnyH_ready (rs := [1]) (by kernel_rfl) (by simp) (AllReadyH.cons (o := ⟨some 13, _, _, _, _, _⟩) rfl (fun K hK => ?_) AllReadyH.nil)
        go_simp
        (refine CM.out.mono ?_; rintro e w4 ⟨rfl, hb4⟩; have X4 := X3.drew.below hb4 hs3; replace g0 := X4.at 0 rfl; replace g1 := X4.at 1 rfl; replace g2 := X4.at 2 rfl; replace g3 := X4.at 3 rfl; replace g4 := X4.at 4 rfl)
        go_simp
        refine hK.out _ _ (by exact ⟨g0, g1, g2, g3, g4⟩) (fun hHeld1 => ?_)
        clear hK hHeld0 K
        try simp only [Act.put, sA, sB, sC]
        refine wpAnyH_take (i := 2) (oi := ⟨some 14, _, _, _, _, _⟩) (v := ?_) rfl (by kernel_rfl) (by kernel_rfl) (by kernel_rfl) (fun _ _ _ h => h) (Or.inl ⟨by rfl, ?_⟩) hHeld1 ?_
        rotate_left
        · (intro w' hSw; (try dsimp only at hSw); go_simp; all_goals (with_reducible rfl))
        try simp only [Act.put, sA, sB, sC]
        refine wpAnyH_take (i := 3) (oi := ⟨some 15, _, _, _, _, _⟩) (v := ?_) rfl (by kernel_rfl) (by kernel_rfl) (by kernel_rfl) (fun _ _ _ h => h) (Or.inl ⟨by rfl, ?_⟩) hHeld1 ?_
        rotate_left
        · (intro w' hSw; (try dsimp only at hSw); go_simp; all_goals (with_reducible rfl))
        try simp only [Act.put, sA, sB, sC]
        refine wpAnyH_take (i := 4) (oi := ⟨some 16, _, _, _, _, _⟩) (v := undef) rfl (by kernel_rfl) (by kernel_rfl) (by kernel_rfl) (fun _ _ _ h => h) (Or.inr ⟨by rfl, rfl⟩) hHeld1 ?_
        try simp only [Act.put, sA, sB, sC]
        refine wpAnyH_take (i := 5) (oi := ⟨some 17, _, _, _, _, _⟩) (v := undef) rfl (by kernel_rfl) (by kernel_rfl) (by kernel_rfl) (fun _ _ _ h => h) (Or.inr ⟨by rfl, rfl⟩) hHeld1 ?_
        try simp only [Act.put, sA, sB, sC]
        refine wpAnyH_take (i := 6) (oi := ⟨some 18, _, _, _, _, _⟩) (v := undef) rfl (by kernel_rfl) (by kernel_rfl) (by kernel_rfl) (fun _ _ _ h => h) (Or.inr ⟨by rfl, rfl⟩) hHeld1 ?_
        try simp only [Act.put, sA, sB, sC]
        refine wpAnyH_take (i := 7) (oi := ⟨some 19, _, _, _, _, _⟩) (v := undef) rfl (by kernel_rfl) (by kernel_rfl) (by kernel_rfl) (fun _ _ _ h => h) (Or.inr ⟨by rfl, rfl⟩) hHeld1 ?_
        try simp only [Act.put, sA, sB, sC]
        refine wpAnyH_take (i := 8) (oi := ⟨some 20, _, _, _, _, _⟩) (v := undef) rfl (by kernel_rfl) (by kernel_rfl) (by kernel_rfl) (fun _ _ _ h => h) (Or.inr ⟨by rfl, rfl⟩) hHeld1 ?_
        try simp only [Act.put, sA, sB, sC]
        refine wpAnyH_take (i := 9) (oi := ⟨some 21, _, _, _, _, _⟩) (v := undef) rfl (by kernel_rfl) (by kernel_rfl) (by kernel_rfl) (fun _ _ _ h => h) (Or.inr ⟨by rfl, rfl⟩) hHeld1 ?_
        try simp only [Act.put, sA, sB, sC]
        refine wpAnyH_take (i := 10) (oi := ⟨some 22, _, _, _, _, _⟩) (v := undef) rfl (by kernel_rfl) (by kernel_rfl) (by kernel_rfl) (fun _ _ _ h => h) (Or.inr ⟨by rfl, rfl⟩) hHeld1 ?_
        try simp only [Act.put, sA, sB, sC]
        refine wpAnyH_take (i := 11) (oi := ⟨some 23, _, _, _, _, _⟩) (v := undef) rfl (by kernel_rfl) (by kernel_rfl) (by kernel_rfl) (fun _ _ _ h => h) (Or.inr ⟨by rfl, rfl⟩) hHeld1 ?_
        try simp only [Act.put, sA, sB, sC]
        refine wpAnyH_take (i := 12) (oi := ⟨some 24, _, _, _, _, _⟩) (v := undef) rfl (by kernel_rfl) (by kernel_rfl) (by kernel_rfl) (fun _ _ _ h => h) (Or.inr ⟨by rfl, rfl⟩) hHeld1 ?_
        try simp only [Act.put, sA, sB, sC]
        refine wpAnyH_take (i := 13) (oi := ⟨some 25, _, _, _, _, _⟩) (v := undef) rfl (by kernel_rfl) (by kernel_rfl) (by kernel_rfl) (fun _ _ _ h => h) (Or.inr ⟨by rfl, rfl⟩) hHeld1 ?_
        try simp only [Act.put, sA, sB, sC]
        refine wpAnyH_take (i := 14) (oi := ⟨some 26, _, _, _, _, _⟩) (v := undef) rfl (by kernel_rfl) (by kernel_rfl) (by kernel_rfl) (fun _ _ _ h => h) (Or.inr ⟨by rfl, rfl⟩) hHeld1 ?_
        try simp only [Act.put, sA, sB, sC]
        refine wpAnyH_take (i := 15) (oi := ⟨some 27, _, _, _, _, _⟩) (v := undef) rfl (by kernel_rfl) (by kernel_rfl) (by kernel_rfl) (fun _ _ _ h => h) (Or.inr ⟨by rfl, rfl⟩) hHeld1 ?_
        try simp only [Act.put, sA, sB, sC]
        refine wpAnyH_take (i := 16) (oi := ⟨some 28, _, _, _, _, _⟩) (v := undef) rfl (by kernel_rfl) (by kernel_rfl) (by kernel_rfl) (fun _ _ _ h => h) (Or.inr ⟨by rfl, rfl⟩) hHeld1 ?_
        try simp only [Act.put, sA, sB, sC]
        refine wpAnyH_take (i := 17) (oi := ⟨some 29, _, _, _, _, _⟩) (v := ?_) rfl (by kernel_rfl) (by kernel_rfl) (by kernel_rfl) (fun _ _ _ h => h) (Or.inl ⟨by rfl, ?_⟩) hHeld1 ?_
        rotate_left
        · (intro w' hSw; (try dsimp only at hSw); go_simp; all_goals (with_reducible rfl))
        try simp only [Act.put, sA, sB, sC]
        refine wpAnyH_done (by kernel_rfl) ?_ _
        go_wp2
        go_ret
        exact ⟨ret_bool HNO.out.symm, (HB3.out.drew).trans (hb4.mono (by show w.heap.size ≤ w3.heap.size; omega))⟩
      · rw [hm] at cm
        have hmx : L.may x.dl := lmayB_out hm
        have CM := Lib.hid cm
        have HMX := Lib.hid hmx
        clear cm hm hmx
        by_cases hkp : 0 < k
        · obtain ⟨b', o', y, e2, hb', hy, hsy, f0, f1, f2, f3, f4⟩ := (h.belowH hbel).at (show k - 1 < n by omega)
          simp only at e2 hy
          obtain ⟨rfl, rfl⟩ : b = b' ∧ o = o' := by simpa using e2
          have HY := Lib.hid (dl_at hy)
          have f0' : (wr.alloc (.cells #[.int .i64 x.node, .int .i64 x.frm, .int .i64 x.v.s.gen, .int .i64 x.v.s.beat, .slice x.v.A x.v.n x.v.c] 42)).cell? ⟨b, o + (k - 1) * 5, none⟩ = some (.int .i64 y.node) := (World.cell?_alloc_lt wr _ ⟨b, o + (k - 1) * 5, none⟩ hbl).trans f0
          clear hy e2 f1 f2 f3 f4 hsy
          have g1i : (0 : Int) ≤ (k : Int) - 1 := by omega
          have g1' : (1 : Int) ≤ (k : Int) := by omega
          have g2i : (k : Int) - 1 < (n : Int) := by omega
          have g3i : ((k : Int) - 1).toNat = k - 1 := by omega
          have g4i : IntKind.i64.wrap ((k : Int) - 1) = (k : Int) - 1 := IntWalk.i64_in _ (by omega)
          by_cases hlt2 : y.node < x.node
          · have hd : decide (x.node ≤ y.node) = false := decide_eq_false (by omega)
            have hd2 : ¬ x.node ≤ y.node := by omega
            have HLT2 := Lib.hid hlt2
            clear hlt2 f0
            go_wp2
            generalize wr.alloc (.cells #[.int .i64 x.node, .int .i64 x.frm, .int .i64 x.v.s.gen, .int .i64 x.v.s.beat, .slice x.v.A x.v.n x.v.c] 42) = w3 at *
            have g0 := X3.at 0 rfl
            have g1 := X3.at 1 rfl
            have g2 := X3.at 2 rfl
            have g3 := X3.at 3 rfl
            have g4 := X3.at 4 rfl
            refine wp_region_held_drew (S := (fun w' => (w'.cell? ⟨wr.heap.size, 0, none⟩ = some (.int .i64 x.node) ∧ w'.cell? ⟨wr.heap.size, 1, none⟩ = some (.int .i64 x.frm) ∧ w'.cell? ⟨wr.heap.size, 2, none⟩ = some (.int .i64 x.v.s.gen) ∧ w'.cell? ⟨wr.heap.size, 3, none⟩ = some (.int .i64 x.v.s.beat) ∧ w'.cell? ⟨wr.heap.size, 4, none⟩ = some (.slice x.v.A x.v.n x.v.c)) ∧ w'.cell? ⟨b, o + (k - 1) * 5, none⟩ = some (.int .i64 y.node))) (by kernel_rfl) (by exact ⟨⟨g0, g1, g2, g3, g4⟩, f0'⟩) (fun hHeld0 => ?_)
            refine wpAnyH_take (i := 0) (oi := ⟨some 12, _, _, _, _, _⟩) (v := ?_) rfl (by kernel_rfl) (by kernel_rfl) (by kernel_rfl) (fun _ _ _ h => h) (Or.inl ⟨by rfl, ?_⟩) hHeld0 ?_
            rotate_left
            · (intro w' hSw; (try dsimp only at hSw); go_simp; all_goals (with_reducible rfl))
            try simp only [Act.put, sA, sB, sC]
            refine wpAnyH_ready (rs := [1]) (by kernel_rfl) (by simp) (AllReadyH.cons (o := ⟨some 13, _, _, _, _, _⟩) rfl (fun K hK => ?_) AllReadyH.nil)
            go_simp
            (refine CM.out.mono ?_; rintro e w4 ⟨rfl, hb4⟩; have X4 := X3.drew.below hb4 hs3; replace g0 := X4.at 0 rfl; replace g1 := X4.at 1 rfl; replace g2 := X4.at 2 rfl; replace g3 := X4.at 3 rfl; replace g4 := X4.at 4 rfl; replace f0' := (hb4.cell (p := ⟨b, o + (k - 1) * 5, none⟩) (by show b < w3.heap.size; omega)).trans f0')
            go_simp
            refine hK.out _ _ (by exact ⟨⟨g0, g1, g2, g3, g4⟩, f0'⟩) (fun hHeld1 => ?_)
            clear hK hHeld0 K
            try simp only [Act.put, sA, sB, sC]
            refine wpAnyH_take (i := 2) (oi := ⟨some 14, _, _, _, _, _⟩) (v := ?_) rfl (by kernel_rfl) (by kernel_rfl) (by kernel_rfl) (fun _ _ _ h => h) (Or.inl ⟨by rfl, ?_⟩) hHeld1 ?_
            rotate_left
            · (intro w' hSw; (try dsimp only at hSw); go_simp; all_goals (with_reducible rfl))
            try simp only [Act.put, sA, sB, sC]
            refine wpAnyH_take (i := 3) (oi := ⟨some 15, _, _, _, _, _⟩) (v := ?_) rfl (by kernel_rfl) (by kernel_rfl) (by kernel_rfl) (fun _ _ _ h => h) (Or.inl ⟨by rfl, ?_⟩) hHeld1 ?_
            rotate_left
            · (intro w' hSw; (try dsimp only at hSw); go_simp; all_goals (with_reducible rfl))
            try simp only [Act.put, sA, sB, sC]
            refine wpAnyH_take (i := 4) (oi := ⟨some 16, _, _, _, _, _⟩) (v := ?_) rfl (by kernel_rfl) (by kernel_rfl) (by kernel_rfl) (fun _ _ _ h => h) (Or.inl ⟨by rfl, ?_⟩) hHeld1 ?_
            rotate_left
            · (intro w' hSw; (try dsimp only at hSw); go_simp; all_goals (with_reducible rfl))
            try simp only [Act.put, sA, sB, sC]
            refine wpAnyH_take (i := 5) (oi := ⟨some 17, _, _, _, _, _⟩) (v := ?_) rfl (by kernel_rfl) (by kernel_rfl) (by kernel_rfl) (fun _ _ _ h => h) (Or.inl ⟨by rfl, ?_⟩) hHeld1 ?_
            rotate_left
            · (intro w' hSw; (try dsimp only at hSw); go_simp; all_goals (with_reducible rfl))
            try simp only [Act.put, sA, sB, sC]
            refine wpAnyH_take (i := 6) (oi := ⟨some 18, _, _, _, _, _⟩) (v := ?_) rfl (by kernel_rfl) (by kernel_rfl) (by kernel_rfl) (fun _ _ _ h => h) (Or.inl ⟨by rfl, ?_⟩) hHeld1 ?_
            rotate_left
            · (intro w' hSw; (try dsimp only at hSw); go_simp; all_goals (with_reducible rfl))
            try simp only [Act.put, sA, sB, sC]
            refine wpAnyH_take (i := 7) (oi := ⟨some 19, _, _, _, _, _⟩) (v := ?_) rfl (by kernel_rfl) (by kernel_rfl) (by kernel_rfl) (fun _ _ _ h => h) (Or.inl ⟨by rfl, ?_⟩) hHeld1 ?_
            rotate_left
            · (intro w' hSw; (try dsimp only at hSw); go_simp; all_goals (with_reducible rfl))
            try simp only [Act.put, sA, sB, sC]
            refine wpAnyH_take (i := 8) (oi := ⟨some 20, _, _, _, _, _⟩) (v := ?_) rfl (by kernel_rfl) (by kernel_rfl) (by kernel_rfl) (fun _ _ _ h => h) (Or.inl ⟨by rfl, ?_⟩) hHeld1 ?_
            rotate_left
            · (intro w' hSw; (try dsimp only at hSw); go_simp; all_goals (with_reducible rfl))
            try simp only [Act.put, sA, sB, sC]
            refine wpAnyH_take (i := 9) (oi := ⟨some 21, _, _, _, _, _⟩) (v := ?_) rfl (by kernel_rfl) (by kernel_rfl) (by kernel_rfl) (fun _ _ _ h => h) (Or.inl ⟨by rfl, ?_⟩) hHeld1 ?_
            rotate_left
            · (intro w' hSw; (try dsimp only at hSw); go_simp; all_goals (with_reducible rfl))
            try simp only [Act.put, sA, sB, sC]
            refine wpAnyH_take (i := 10) (oi := ⟨some 22, _, _, _, _, _⟩) (v := ?_) rfl (by kernel_rfl) (by kernel_rfl) (by kernel_rfl) (fun _ _ _ h => h) (Or.inl ⟨by rfl, ?_⟩) hHeld1 ?_
            rotate_left
            · (intro w' hSw; (try dsimp only at hSw); go_simp; all_goals (with_reducible rfl))
            try simp only [Act.put, sA, sB, sC]
            refine wpAnyH_take (i := 11) (oi := ⟨some 23, _, _, _, _, _⟩) (v := ?_) rfl (by kernel_rfl) (by kernel_rfl) (by kernel_rfl) (fun _ _ _ h => h) (Or.inl ⟨by rfl, ?_⟩) hHeld1 ?_
            rotate_left
            · (intro w' hSw; (try dsimp only at hSw); go_simp; all_goals (with_reducible rfl))
            try simp only [Act.put, sA, sB, sC]
            refine wpAnyH_take (i := 12) (oi := ⟨some 24, _, _, _, _, _⟩) (v := ?_) rfl (by kernel_rfl) (by kernel_rfl) (by kernel_rfl) (fun _ _ _ h => h) (Or.inl ⟨by rfl, ?_⟩) hHeld1 ?_
            rotate_left
            · (intro w' hSw; (try dsimp only at hSw); go_simp; all_goals (with_reducible rfl))
            try simp only [Act.put, sA, sB, sC]
            refine wpAnyH_take (i := 13) (oi := ⟨some 25, _, _, _, _, _⟩) (v := ?_) rfl (by kernel_rfl) (by kernel_rfl) (by kernel_rfl) (fun _ _ _ h => h) (Or.inl ⟨by rfl, ?_⟩) hHeld1 ?_
            rotate_left
            · (intro w' hSw; (try dsimp only at hSw); go_simp; all_goals (with_reducible rfl))
            try simp only [Act.put, sA, sB, sC]
            refine wpAnyH_take (i := 14) (oi := ⟨some 26, _, _, _, _, _⟩) (v := ?_) rfl (by kernel_rfl) (by kernel_rfl) (by kernel_rfl) (fun _ _ _ h => h) (Or.inl ⟨by rfl, ?_⟩) hHeld1 ?_
            rotate_left
            · (intro w' hSw; (try dsimp only at hSw); go_simp; all_goals (with_reducible rfl))
            try simp only [Act.put, sA, sB, sC]
            refine wpAnyH_take (i := 15) (oi := ⟨some 27, _, _, _, _, _⟩) (v := ?_) rfl (by kernel_rfl) (by kernel_rfl) (by kernel_rfl) (fun _ _ _ h => h) (Or.inl ⟨by rfl, ?_⟩) hHeld1 ?_
            rotate_left
            · (intro w' hSw; (try dsimp only at hSw); go_simp; all_goals (with_reducible rfl))
            try simp only [Act.put, sA, sB, sC]
            refine wpAnyH_take (i := 16) (oi := ⟨some 28, _, _, _, _, _⟩) (v := ?_) rfl (by kernel_rfl) (by kernel_rfl) (by kernel_rfl) (fun _ _ _ h => h) (Or.inl ⟨by rfl, ?_⟩) hHeld1 ?_
            rotate_left
            · (intro w' hSw; (try dsimp only at hSw); go_simp; all_goals (with_reducible rfl))
            try simp only [Act.put, sA, sB, sC]
            refine wpAnyH_take (i := 17) (oi := ⟨some 29, _, _, _, _, _⟩) (v := ?_) rfl (by kernel_rfl) (by kernel_rfl) (by kernel_rfl) (fun _ _ _ h => h) (Or.inl ⟨by rfl, ?_⟩) hHeld1 ?_
            rotate_left
            · (intro w' hSw; (try dsimp only at hSw); go_simp; all_goals (with_reducible rfl))
            try simp only [Act.put, sA, sB, sC]
            refine wpAnyH_done (by kernel_rfl) ?_ _
            go_wp2
            go_roundw
            case rel =>
              refine ⟨k + 1, by omega, by go_num, ?_, (HB3.out.drew).trans (hb4.mono (by show w.heap.size ≤ w3.heap.size; omega))⟩
              rw [HTK.out]
              exact rightL_snoc HN.out HMX.out (by rw [take_map]; exact below_lastL (by rw [← take_map]; exact HN.out.2) HY.out HLT2.out hkp)
            case measure => simp [intOf]; omega
          · have hd : decide (x.node ≤ y.node) = true := decide_eq_true (by omega)
            have hno : lrightB (l.map Lv.dl) = false := lrightB_no fun hr => hlt2 (riseL_at hr.2 (show k - 1 < k by omega) HY.out HX.out)
            have HNO := Lib.hid hno
            clear hno hlt2 f0
            go_wp2
            generalize wr.alloc (.cells #[.int .i64 x.node, .int .i64 x.frm, .int .i64 x.v.s.gen, .int .i64 x.v.s.beat, .slice x.v.A x.v.n x.v.c] 42) = w3 at *
            have g0 := X3.at 0 rfl
            have g1 := X3.at 1 rfl
            have g2 := X3.at 2 rfl
            have g3 := X3.at 3 rfl
            have g4 := X3.at 4 rfl
            refine wp_region_held_drew (S := (fun w' => (w'.cell? ⟨wr.heap.size, 0, none⟩ = some (.int .i64 x.node) ∧ w'.cell? ⟨wr.heap.size, 1, none⟩ = some (.int .i64 x.frm) ∧ w'.cell? ⟨wr.heap.size, 2, none⟩ = some (.int .i64 x.v.s.gen) ∧ w'.cell? ⟨wr.heap.size, 3, none⟩ = some (.int .i64 x.v.s.beat) ∧ w'.cell? ⟨wr.heap.size, 4, none⟩ = some (.slice x.v.A x.v.n x.v.c)) ∧ w'.cell? ⟨b, o + (k - 1) * 5, none⟩ = some (.int .i64 y.node))) (by kernel_rfl) (by exact ⟨⟨g0, g1, g2, g3, g4⟩, f0'⟩) (fun hHeld0 => ?_)
            refine wpAnyH_take (i := 0) (oi := ⟨some 12, _, _, _, _, _⟩) (v := ?_) rfl (by kernel_rfl) (by kernel_rfl) (by kernel_rfl) (fun _ _ _ h => h) (Or.inl ⟨by rfl, ?_⟩) hHeld0 ?_
            rotate_left
            · (intro w' hSw; (try dsimp only at hSw); go_simp; all_goals (with_reducible rfl))
            try simp only [Act.put, sA, sB, sC]
            refine wpAnyH_ready (rs := [1]) (by kernel_rfl) (by simp) (AllReadyH.cons (o := ⟨some 13, _, _, _, _, _⟩) rfl (fun K hK => ?_) AllReadyH.nil)
            go_simp
            (refine CM.out.mono ?_; rintro e w4 ⟨rfl, hb4⟩; have X4 := X3.drew.below hb4 hs3; replace g0 := X4.at 0 rfl; replace g1 := X4.at 1 rfl; replace g2 := X4.at 2 rfl; replace g3 := X4.at 3 rfl; replace g4 := X4.at 4 rfl; replace f0' := (hb4.cell (p := ⟨b, o + (k - 1) * 5, none⟩) (by show b < w3.heap.size; omega)).trans f0')
            go_simp
            refine hK.out _ _ (by exact ⟨⟨g0, g1, g2, g3, g4⟩, f0'⟩) (fun hHeld1 => ?_)
            clear hK hHeld0 K
            try simp only [Act.put, sA, sB, sC]
            refine wpAnyH_take (i := 2) (oi := ⟨some 14, _, _, _, _, _⟩) (v := ?_) rfl (by kernel_rfl) (by kernel_rfl) (by kernel_rfl) (fun _ _ _ h => h) (Or.inl ⟨by rfl, ?_⟩) hHeld1 ?_
            rotate_left
            · (intro w' hSw; (try dsimp only at hSw); go_simp; all_goals (with_reducible rfl))
            try simp only [Act.put, sA, sB, sC]
            refine wpAnyH_take (i := 3) (oi := ⟨some 15, _, _, _, _, _⟩) (v := ?_) rfl (by kernel_rfl) (by kernel_rfl) (by kernel_rfl) (fun _ _ _ h => h) (Or.inl ⟨by rfl, ?_⟩) hHeld1 ?_
            rotate_left
            · (intro w' hSw; (try dsimp only at hSw); go_simp; all_goals (with_reducible rfl))
            try simp only [Act.put, sA, sB, sC]
            refine wpAnyH_take (i := 4) (oi := ⟨some 16, _, _, _, _, _⟩) (v := ?_) rfl (by kernel_rfl) (by kernel_rfl) (by kernel_rfl) (fun _ _ _ h => h) (Or.inl ⟨by rfl, ?_⟩) hHeld1 ?_
            rotate_left
            · (intro w' hSw; (try dsimp only at hSw); go_simp; all_goals (with_reducible rfl))
            try simp only [Act.put, sA, sB, sC]
            refine wpAnyH_take (i := 5) (oi := ⟨some 17, _, _, _, _, _⟩) (v := ?_) rfl (by kernel_rfl) (by kernel_rfl) (by kernel_rfl) (fun _ _ _ h => h) (Or.inl ⟨by rfl, ?_⟩) hHeld1 ?_
            rotate_left
            · (intro w' hSw; (try dsimp only at hSw); go_simp; all_goals (with_reducible rfl))
            try simp only [Act.put, sA, sB, sC]
            refine wpAnyH_take (i := 6) (oi := ⟨some 18, _, _, _, _, _⟩) (v := ?_) rfl (by kernel_rfl) (by kernel_rfl) (by kernel_rfl) (fun _ _ _ h => h) (Or.inl ⟨by rfl, ?_⟩) hHeld1 ?_
            rotate_left
            · (intro w' hSw; (try dsimp only at hSw); go_simp; all_goals (with_reducible rfl))
            try simp only [Act.put, sA, sB, sC]
            refine wpAnyH_take (i := 7) (oi := ⟨some 19, _, _, _, _, _⟩) (v := ?_) rfl (by kernel_rfl) (by kernel_rfl) (by kernel_rfl) (fun _ _ _ h => h) (Or.inl ⟨by rfl, ?_⟩) hHeld1 ?_
            rotate_left
            · (intro w' hSw; (try dsimp only at hSw); go_simp; all_goals (with_reducible rfl))
            try simp only [Act.put, sA, sB, sC]
            refine wpAnyH_take (i := 8) (oi := ⟨some 20, _, _, _, _, _⟩) (v := ?_) rfl (by kernel_rfl) (by kernel_rfl) (by kernel_rfl) (fun _ _ _ h => h) (Or.inl ⟨by rfl, ?_⟩) hHeld1 ?_
            rotate_left
            · (intro w' hSw; (try dsimp only at hSw); go_simp; all_goals (with_reducible rfl))
            try simp only [Act.put, sA, sB, sC]
            refine wpAnyH_take (i := 9) (oi := ⟨some 21, _, _, _, _, _⟩) (v := ?_) rfl (by kernel_rfl) (by kernel_rfl) (by kernel_rfl) (fun _ _ _ h => h) (Or.inl ⟨by rfl, ?_⟩) hHeld1 ?_
            rotate_left
            · (intro w' hSw; (try dsimp only at hSw); go_simp; all_goals (with_reducible rfl))
            try simp only [Act.put, sA, sB, sC]
            refine wpAnyH_take (i := 10) (oi := ⟨some 22, _, _, _, _, _⟩) (v := ?_) rfl (by kernel_rfl) (by kernel_rfl) (by kernel_rfl) (fun _ _ _ h => h) (Or.inl ⟨by rfl, ?_⟩) hHeld1 ?_
            rotate_left
            · (intro w' hSw; (try dsimp only at hSw); go_simp; all_goals (with_reducible rfl))
            try simp only [Act.put, sA, sB, sC]
            refine wpAnyH_take (i := 11) (oi := ⟨some 23, _, _, _, _, _⟩) (v := ?_) rfl (by kernel_rfl) (by kernel_rfl) (by kernel_rfl) (fun _ _ _ h => h) (Or.inl ⟨by rfl, ?_⟩) hHeld1 ?_
            rotate_left
            · (intro w' hSw; (try dsimp only at hSw); go_simp; all_goals (with_reducible rfl))
            try simp only [Act.put, sA, sB, sC]
            refine wpAnyH_take (i := 12) (oi := ⟨some 24, _, _, _, _, _⟩) (v := ?_) rfl (by kernel_rfl) (by kernel_rfl) (by kernel_rfl) (fun _ _ _ h => h) (Or.inl ⟨by rfl, ?_⟩) hHeld1 ?_
            rotate_left
            · (intro w' hSw; (try dsimp only at hSw); go_simp; all_goals (with_reducible rfl))
            try simp only [Act.put, sA, sB, sC]
            refine wpAnyH_take (i := 13) (oi := ⟨some 25, _, _, _, _, _⟩) (v := ?_) rfl (by kernel_rfl) (by kernel_rfl) (by kernel_rfl) (fun _ _ _ h => h) (Or.inl ⟨by rfl, ?_⟩) hHeld1 ?_
            rotate_left
            · (intro w' hSw; (try dsimp only at hSw); go_simp; all_goals (with_reducible rfl))
            try simp only [Act.put, sA, sB, sC]
            refine wpAnyH_take (i := 14) (oi := ⟨some 26, _, _, _, _, _⟩) (v := ?_) rfl (by kernel_rfl) (by kernel_rfl) (by kernel_rfl) (fun _ _ _ h => h) (Or.inl ⟨by rfl, ?_⟩) hHeld1 ?_
            rotate_left
            · (intro w' hSw; (try dsimp only at hSw); go_simp; all_goals (with_reducible rfl))
            try simp only [Act.put, sA, sB, sC]
            refine wpAnyH_take (i := 15) (oi := ⟨some 27, _, _, _, _, _⟩) (v := ?_) rfl (by kernel_rfl) (by kernel_rfl) (by kernel_rfl) (fun _ _ _ h => h) (Or.inl ⟨by rfl, ?_⟩) hHeld1 ?_
            rotate_left
            · (intro w' hSw; (try dsimp only at hSw); go_simp; all_goals (with_reducible rfl))
            try simp only [Act.put, sA, sB, sC]
            refine wpAnyH_take (i := 16) (oi := ⟨some 28, _, _, _, _, _⟩) (v := ?_) rfl (by kernel_rfl) (by kernel_rfl) (by kernel_rfl) (fun _ _ _ h => h) (Or.inl ⟨by rfl, ?_⟩) hHeld1 ?_
            rotate_left
            · (intro w' hSw; (try dsimp only at hSw); go_simp; all_goals (with_reducible rfl))
            try simp only [Act.put, sA, sB, sC]
            refine wpAnyH_take (i := 17) (oi := ⟨some 29, _, _, _, _, _⟩) (v := ?_) rfl (by kernel_rfl) (by kernel_rfl) (by kernel_rfl) (fun _ _ _ h => h) (Or.inl ⟨by rfl, ?_⟩) hHeld1 ?_
            rotate_left
            · (intro w' hSw; (try dsimp only at hSw); go_simp; all_goals (with_reducible rfl))
            try simp only [Act.put, sA, sB, sC]
            refine wpAnyH_done (by kernel_rfl) ?_ _
            go_wp2
            go_ret
            exact ⟨ret_bool HNO.out.symm, (HB3.out.drew).trans (hb4.mono (by show w.heap.size ≤ w3.heap.size; omega))⟩
        · have hk1 : ¬ (0 : Int) < (k : Int) := by omega
          go_wp2
          generalize wr.alloc (.cells #[.int .i64 x.node, .int .i64 x.frm, .int .i64 x.v.s.gen, .int .i64 x.v.s.beat, .slice x.v.A x.v.n x.v.c] 42) = w3 at *
          have g0 := X3.at 0 rfl
          have g1 := X3.at 1 rfl
          have g2 := X3.at 2 rfl
          have g3 := X3.at 3 rfl
          have g4 := X3.at 4 rfl
          refine wp_region_held_drew (S := (fun w' => w'.cell? ⟨wr.heap.size, 0, none⟩ = some (.int .i64 x.node) ∧ w'.cell? ⟨wr.heap.size, 1, none⟩ = some (.int .i64 x.frm) ∧ w'.cell? ⟨wr.heap.size, 2, none⟩ = some (.int .i64 x.v.s.gen) ∧ w'.cell? ⟨wr.heap.size, 3, none⟩ = some (.int .i64 x.v.s.beat) ∧ w'.cell? ⟨wr.heap.size, 4, none⟩ = some (.slice x.v.A x.v.n x.v.c))) (by kernel_rfl) (by exact ⟨g0, g1, g2, g3, g4⟩) (fun hHeld0 => ?_)
          refine wpAnyH_take (i := 0) (oi := ⟨some 12, _, _, _, _, _⟩) (v := ?_) rfl (by kernel_rfl) (by kernel_rfl) (by kernel_rfl) (fun _ _ _ h => h) (Or.inl ⟨by rfl, ?_⟩) hHeld0 ?_
          rotate_left
          · (intro w' hSw; (try dsimp only at hSw); go_simp; all_goals (with_reducible rfl))
          try simp only [Act.put, sA, sB, sC]
          refine wpAnyH_ready (rs := [1]) (by kernel_rfl) (by simp) (AllReadyH.cons (o := ⟨some 13, _, _, _, _, _⟩) rfl (fun K hK => ?_) AllReadyH.nil)
          go_simp
          (refine CM.out.mono ?_; rintro e w4 ⟨rfl, hb4⟩; have X4 := X3.drew.below hb4 hs3; replace g0 := X4.at 0 rfl; replace g1 := X4.at 1 rfl; replace g2 := X4.at 2 rfl; replace g3 := X4.at 3 rfl; replace g4 := X4.at 4 rfl)
          go_simp
          refine hK.out _ _ (by exact ⟨g0, g1, g2, g3, g4⟩) (fun hHeld1 => ?_)
          clear hK hHeld0 K
          try simp only [Act.put, sA, sB, sC]
          refine wpAnyH_take (i := 2) (oi := ⟨some 14, _, _, _, _, _⟩) (v := ?_) rfl (by kernel_rfl) (by kernel_rfl) (by kernel_rfl) (fun _ _ _ h => h) (Or.inl ⟨by rfl, ?_⟩) hHeld1 ?_
          rotate_left
          · (intro w' hSw; (try dsimp only at hSw); go_simp; all_goals (with_reducible rfl))
          try simp only [Act.put, sA, sB, sC]
          refine wpAnyH_take (i := 3) (oi := ⟨some 15, _, _, _, _, _⟩) (v := ?_) rfl (by kernel_rfl) (by kernel_rfl) (by kernel_rfl) (fun _ _ _ h => h) (Or.inl ⟨by rfl, ?_⟩) hHeld1 ?_
          rotate_left
          · (intro w' hSw; (try dsimp only at hSw); go_simp; all_goals (with_reducible rfl))
          try simp only [Act.put, sA, sB, sC]
          refine wpAnyH_take (i := 4) (oi := ⟨some 16, _, _, _, _, _⟩) (v := ?_) rfl (by kernel_rfl) (by kernel_rfl) (by kernel_rfl) (fun _ _ _ h => h) (Or.inl ⟨by rfl, ?_⟩) hHeld1 ?_
          rotate_left
          · (intro w' hSw; (try dsimp only at hSw); go_simp; all_goals (with_reducible rfl))
          try simp only [Act.put, sA, sB, sC]
          refine wpAnyH_take (i := 5) (oi := ⟨some 17, _, _, _, _, _⟩) (v := ?_) rfl (by kernel_rfl) (by kernel_rfl) (by kernel_rfl) (fun _ _ _ h => h) (Or.inl ⟨by rfl, ?_⟩) hHeld1 ?_
          rotate_left
          · (intro w' hSw; (try dsimp only at hSw); go_simp; all_goals (with_reducible rfl))
          try simp only [Act.put, sA, sB, sC]
          refine wpAnyH_take (i := 6) (oi := ⟨some 18, _, _, _, _, _⟩) (v := ?_) rfl (by kernel_rfl) (by kernel_rfl) (by kernel_rfl) (fun _ _ _ h => h) (Or.inl ⟨by rfl, ?_⟩) hHeld1 ?_
          rotate_left
          · (intro w' hSw; (try dsimp only at hSw); go_simp; all_goals (with_reducible rfl))
          try simp only [Act.put, sA, sB, sC]
          refine wpAnyH_take (i := 7) (oi := ⟨some 19, _, _, _, _, _⟩) (v := undef) rfl (by kernel_rfl) (by kernel_rfl) (by kernel_rfl) (fun _ _ _ h => h) (Or.inr ⟨by rfl, rfl⟩) hHeld1 ?_
          try simp only [Act.put, sA, sB, sC]
          refine wpAnyH_take (i := 8) (oi := ⟨some 20, _, _, _, _, _⟩) (v := undef) rfl (by kernel_rfl) (by kernel_rfl) (by kernel_rfl) (fun _ _ _ h => h) (Or.inr ⟨by rfl, rfl⟩) hHeld1 ?_
          try simp only [Act.put, sA, sB, sC]
          refine wpAnyH_take (i := 9) (oi := ⟨some 21, _, _, _, _, _⟩) (v := undef) rfl (by kernel_rfl) (by kernel_rfl) (by kernel_rfl) (fun _ _ _ h => h) (Or.inr ⟨by rfl, rfl⟩) hHeld1 ?_
          try simp only [Act.put, sA, sB, sC]
          refine wpAnyH_take (i := 10) (oi := ⟨some 22, _, _, _, _, _⟩) (v := undef) rfl (by kernel_rfl) (by kernel_rfl) (by kernel_rfl) (fun _ _ _ h => h) (Or.inr ⟨by rfl, rfl⟩) hHeld1 ?_
          try simp only [Act.put, sA, sB, sC]
          refine wpAnyH_take (i := 11) (oi := ⟨some 23, _, _, _, _, _⟩) (v := undef) rfl (by kernel_rfl) (by kernel_rfl) (by kernel_rfl) (fun _ _ _ h => h) (Or.inr ⟨by rfl, rfl⟩) hHeld1 ?_
          try simp only [Act.put, sA, sB, sC]
          refine wpAnyH_take (i := 12) (oi := ⟨some 24, _, _, _, _, _⟩) (v := undef) rfl (by kernel_rfl) (by kernel_rfl) (by kernel_rfl) (fun _ _ _ h => h) (Or.inr ⟨by rfl, rfl⟩) hHeld1 ?_
          try simp only [Act.put, sA, sB, sC]
          refine wpAnyH_take (i := 13) (oi := ⟨some 25, _, _, _, _, _⟩) (v := undef) rfl (by kernel_rfl) (by kernel_rfl) (by kernel_rfl) (fun _ _ _ h => h) (Or.inr ⟨by rfl, rfl⟩) hHeld1 ?_
          try simp only [Act.put, sA, sB, sC]
          refine wpAnyH_take (i := 14) (oi := ⟨some 26, _, _, _, _, _⟩) (v := undef) rfl (by kernel_rfl) (by kernel_rfl) (by kernel_rfl) (fun _ _ _ h => h) (Or.inr ⟨by rfl, rfl⟩) hHeld1 ?_
          try simp only [Act.put, sA, sB, sC]
          refine wpAnyH_take (i := 15) (oi := ⟨some 27, _, _, _, _, _⟩) (v := undef) rfl (by kernel_rfl) (by kernel_rfl) (by kernel_rfl) (fun _ _ _ h => h) (Or.inr ⟨by rfl, rfl⟩) hHeld1 ?_
          try simp only [Act.put, sA, sB, sC]
          refine wpAnyH_take (i := 16) (oi := ⟨some 28, _, _, _, _, _⟩) (v := ?_) rfl (by kernel_rfl) (by kernel_rfl) (by kernel_rfl) (fun _ _ _ h => h) (Or.inl ⟨by rfl, ?_⟩) hHeld1 ?_
          rotate_left
          · (intro w' hSw; (try dsimp only at hSw); go_simp; all_goals (with_reducible rfl))
          try simp only [Act.put, sA, sB, sC]
          refine wpAnyH_take (i := 17) (oi := ⟨some 29, _, _, _, _, _⟩) (v := ?_) rfl (by kernel_rfl) (by kernel_rfl) (by kernel_rfl) (fun _ _ _ h => h) (Or.inl ⟨by rfl, ?_⟩) hHeld1 ?_
          rotate_left
          · (intro w' hSw; (try dsimp only at hSw); go_simp; all_goals (with_reducible rfl))
          try simp only [Act.put, sA, sB, sC]
          refine wpAnyH_done (by kernel_rfl) ?_ _
          go_wp2
          go_roundw
          case rel =>
            refine ⟨k + 1, by omega, by go_num, ?_, (HB3.out.drew).trans (hb4.mono (by show w.heap.size ≤ w3.heap.size; omega))⟩
            rw [HTK.out]
            exact rightL_snoc HN.out HMX.out (fun y hy => by rw [show k = 0 by omega] at hy; simp at hy)
          case measure => simp [intOf]; omega
    · have he : lrightB (l.map Lv.dl) = true := lrightB_yes (by have := HN.out; rwa [List.take_of_length_le (by have := HL.out; omega)] at this)
      have HE := Lib.hid he
      clear he
      go_wp2
      go_ret
      exact ⟨ret_bool HE.out.symm, hbel⟩
end Go.Proofs.Ytkabkpeamggnnaa

namespace Go.Proofs.Ytkabkpeamggnnaa
set_option linter.unusedVariables false
set_option linter.unusedSimpArgs false
open Go.RowKit

set_option maxHeartbeats 8000000 in
set_option maxRecDepth 20000 in
theorem lcpick_any (U : Vw) (asks : List Dg) (A : Option Addr) (n c : Nat) (w : World) (h : VRd w U) (hd : DRd w A n asks) (hn : U.n ≤ 1000) (hnd : n ≤ 1000) (hf : VFit U) :
    Calls Try.prog 11 #[vval U, .slice A n c] w (MadeL w (L.pick U.view asks)) := by
  obtain ⟨lv', Av, nv', cv⟩ := U
  have HF := Lib.hid hf
  have HLD := Lib.hid hd.len
  simp only at hn
  clear hf
  simp only [vval]
  go_enter Try.func11, Try.ntmps11
  go_wp2
  go_loopw [5, 12] (fun s i wr => ∃ (k m : Nat) (A1 : Option Addr) (c1 : Nat) (O : List Lv), k ≤ n ∧ i = .int .i64 k ∧ s = .slice A1 m c1 ∧ m ≤ k ∧ O.map Lv.dl = L.pick (Vw.view ⟨lv', Av, nv', cv⟩) (asks.take k) ∧
      wr.ownsRow w.heap.size 42 5 (.slice A1 m c1) m (FC lcl O) ∧ (∀ x ∈ O, SRd wr x.v ∧ Off (.slice A1 m c1) x.v.A x.v.n) ∧ Below w.heap.size w wr) (fun _ i _ => n - (intOf i).toNat)
  case atStart => exact ⟨0, 0, none, 0, [], by omega, rfl, rfl, by omega, rfl, World.ownsRow_nil _ _ _ _, by simp, Below.refl _ _⟩
  case round =>
    obtain ⟨k, m, A1, c1, O, hk, rfl, rfl, hmk, hO, hown, hall, hbel⟩ := hrel
    have HO := Lib.hid hO
    have hbs := hbel.size
    clear hO
    by_cases hlt : k < n
    · obtain ⟨b, o, a, e1, hbw, hx, a0, a1, a2⟩ := hd.at hlt
      subst e1
      have hk0 : (0 : Int) ≤ (k : Int) := by omega
      have HPK : Hid (L.pick (Vw.view ⟨lv', Av, nv', cv⟩) (asks.take (k + 1)) = L.pick (Vw.view ⟨lv', Av, nv', cv⟩) (asks.take k) ++ L.pick1 (V.get (Vw.view ⟨lv', Av, nv', cv⟩) a.node) a) := Lib.hid (by rw [take_more hx]; unfold L.pick; rw [List.flatMap_append]; simp)
      clear hx
      replace a0 := (hbel.cell (p := ⟨b, o + k * 3, none⟩) hbw).trans a0
      replace a1 := (hbel.cell (p := ⟨b, o + k * 3 + 1, none⟩) hbw).trans a1
      replace a2 := (hbel.cell (p := ⟨b, o + k * 3 + 2, none⟩) hbw).trans a2
      have X := Box.new wr #[.int .i64 a.node, .int .i64 a.gen, .int .i64 a.ver] 60
      have hbX : Below wr.heap.size wr (wr.alloc (.cells #[.int .i64 a.node, .int .i64 a.gen, .int .i64 a.ver] 60)) := (Below.refl _ _).alloc (Nat.le_refl _) _
      have hbel1 := hbel.trans (hbX.mono hbs)
      have hown1 := own_below hown hbX
      have hall1 : ∀ x ∈ O, SRd (wr.alloc (.cells #[.int .i64 a.node, .int .i64 a.gen, .int .i64 a.ver] 60)) x.v ∧ Off (.slice A1 m c1) x.v.A x.v.n := fun x hx => ⟨(hall x hx).1.belowH hbX, (hall x hx).2⟩
      have HNX : Hid ((Value.slice A1 m c1).ownBlock ≠ some wr.heap.size) := Lib.hid fun e => by have := (World.ownsRow.lt hown _ e).2; omega
      have hs1 : wr.heap.size < (wr.alloc (.cells #[.int .i64 a.node, .int .i64 a.gen, .int .i64 a.ver] 60)).heap.size := by simp
      have hv1 := h.belowH hbel1
      have x0 := X.at 0 rfl
      clear hown hall hbel hbX
      go_wp2_with fail
      clear a0 a1 a2
      generalize wr.alloc (.cells #[.int .i64 a.node, .int .i64 a.gen, .int .i64 a.ver] 60) = w1 at *
      refine (vgetF_any ⟨lv', Av, nv', cv⟩ a.node w1 hv1 (by show nv' ≤ _; omega) HF.out).mono ?_
      rintro e w2 ⟨⟨sg, Ag, ng, cg⟩, rfl, hsg, ⟨hrg, hfr⟩, hb2⟩
      simp only at hsg
      have hng : ng ≤ 4000 := by
        have hq : sg.apps.length = ng := hrg.len
        have hq2 := vget_short hv1 HF.out (V.get (Vw.view ⟨lv', Av, nv', cv⟩) a.node) rfl
        rw [← hsg] at hq2
        omega
      have HSG := Lib.hid hsg
      have HOFF : Hid (Off (.slice A1 m c1) Ag ng) := Lib.hid (off_fresh hown1 hfr)
      clear hsg hfr x0
      simp only [sv]
      have hb3 : Below w1.heap.size w1 (w2.alloc (.cells #[.int .i64 sg.gen, .int .i64 sg.beat, .slice Ag ng cg] 40)) := hb2.alloc hb2.size (.cells #[.int .i64 sg.gen, .int .i64 sg.beat, .slice Ag ng cg] 40)
      have HNE : Hid ((Value.slice A1 m c1).ownBlock ≠ some w2.heap.size) := Lib.hid fun e => by have := (World.ownsRow.lt hown1 _ e).2; have := hb2.size; omega
      have X3 := (X.below hb2 hs1).alloc (.cells #[.int .i64 sg.gen, .int .i64 sg.beat, .slice Ag ng cg] 40)
      have S3 := Box.new w2 #[.int .i64 sg.gen, .int .i64 sg.beat, .slice Ag ng cg] 40
      have hrg3 := hrg.allocH (.cells #[.int .i64 sg.gen, .int .i64 sg.beat, .slice Ag ng cg] 40)
      have hbel3 := hbel1.trans (hb3.mono hbel1.size)
      have hown3 := own_below hown1 hb3
      have hall3 : ∀ x ∈ O, SRd (w2.alloc (.cells #[.int .i64 sg.gen, .int .i64 sg.beat, .slice Ag ng cg] 40)) x.v ∧ Off (.slice A1 m c1) x.v.A x.v.n := fun x hx => ⟨(hall1 x hx).1.belowH hb3, (hall1 x hx).2⟩
      have hlX := X3.lt
      have hlS := S3.lt
      have hbw3 := hbel3.size
      clear hown1 hall1 hbel1 hb2 hb3 hrg X hs1 hv1
      rcases hg : V.get (Vw.view ⟨lv', Av, nv', cv⟩) a.node with _ | so
      · have HP1 : Hid (L.pick1 (V.get (Vw.view ⟨lv', Av, nv', cv⟩) a.node) a = []) := Lib.hid (by rw [hg]; rfl)
        clear hg
        simp only [Option.isSome_none]
        go_wp2
        go_roundw
        case rel => exact ⟨k + 1, m, A1, c1, O, by omega, by go_num, rfl, by omega, by rw [HPK.out, HP1.out, List.append_nil]; exact HO.out, hown3, hall3, hbel3⟩
        case measure => simp [intOf]; omega
      · obtain rfl : sg = so := by have hq := HSG.out; rw [hg] at hq; exact hq
        simp only [Option.isSome_some]
        by_cases x1 : a.gen < sg.gen
        · have t1 : decide (a.gen < sg.gen) = true := decide_eq_true x1
          have HP1 : Hid (L.pick1 (V.get (Vw.view ⟨lv', Av, nv', cv⟩) a.node) a = [⟨a.node, 0, sg⟩]) := Lib.hid (by rw [hg]; simp [L.pick1, x1, show ¬ sg.gen < a.gen by omega])
          clear hg
          have e0 := X3.at 0 rfl
          have e1 := X3.at 1 rfl
          have s0 := S3.at 0 rfl
          have s1 := S3.at 1 rfl
          have s2 := S3.at 2 rfl
          go_wp2_with fail
          generalize w2.alloc (.cells #[.int .i64 sg.gen, .int .i64 sg.beat, .slice Ag ng cg] 40) = w3 at *
          refine (lcall_any a.node ⟨sg, Ag, ng, cg⟩ w3).mono ?_
          rintro e w4 ⟨rfl, hb4⟩
          have hown4 := own_below hown3 hb4
          have hall4 : ∀ x ∈ O, SRd w4 x.v ∧ Off (.slice A1 m c1) x.v.A x.v.n := fun x hx => ⟨(hall3 x hx).1.belowH hb4, (hall3 x hx).2⟩
          have hrg4 := hrg3.belowH hb4
          have hbel4 := hbel3.trans (hb4.mono hbel3.size)
          have hbs4 := hbel4.size
          simp only [lv]
          clear hb4 hown3 hall3 hrg3 hbel3
          go_wp2_with (at_builtin; refine pushF_law (f := lcl) (y := ⟨a.node, 0, ⟨sg, Ag, ng, cg⟩⟩) dlT lcl_len lcl_one rfl (.tmp 32) (.tmp 37) rfl w.heap.size rfl rfl rfl hown4 (by omega) (by omega) hbs4 ?_; rintro A5 c5 w5 hown5 hb5 hkeep)
          go_wp2
          go_roundw
          case rel =>
            refine ⟨k + 1, m + 1, A5, c5, O ++ [⟨a.node, 0, ⟨sg, Ag, ng, cg⟩⟩], by omega, by go_num, rfl, by omega, ?_, hown5, ?_, hbel4.trans hb5⟩
            · rw [HPK.out, HP1.out, List.map_append, HO.out]; rfl
            · intro y hy
              rcases List.mem_append.1 hy with hy | hy
              · have h9 := hall4 y hy
                exact hkeep (h9.1) h9.2
              · obtain rfl : y = ⟨a.node, 0, ⟨sg, Ag, ng, cg⟩⟩ := by simpa using hy
                exact hkeep (hrg4) (HOFF.out)
          case measure => simp [intOf]; omega
        · have t1 : decide (a.gen < sg.gen) = false := decide_eq_false x1
          by_cases x2 : sg.gen = a.gen
          · have t2 : (sg.gen == a.gen) = true := beq_iff_eq.2 x2
            have HP1 : Hid (L.pick1 (V.get (Vw.view ⟨lv', Av, nv', cv⟩) a.node) a = [⟨a.node, a.ver, S.above sg a.ver⟩]) := Lib.hid (by rw [hg]; simp [L.pick1, x2])
            clear hg x2
            have x0 := X3.at 0 rfl
            have x1 := X3.at 1 rfl
            have x2 := X3.at 2 rfl
            have s0 := S3.at 0 rfl
            have s1 := S3.at 1 rfl
            have s2 := S3.at 2 rfl
            go_wp2
            generalize w2.alloc (.cells #[.int .i64 sg.gen, .int .i64 sg.beat, .slice Ag ng cg] 40) = w3 at *
            refine wp_region_held_drew (S := (fun w' => (w'.cell? ⟨wr.heap.size, 0, none⟩ = some (.int .i64 a.node) ∧ w'.cell? ⟨wr.heap.size, 1, none⟩ = some (.int .i64 a.gen) ∧ w'.cell? ⟨wr.heap.size, 2, none⟩ = some (.int .i64 a.ver)) ∧ w'.cell? ⟨w2.heap.size, 0, none⟩ = some (.int .i64 sg.gen) ∧ w'.cell? ⟨w2.heap.size, 1, none⟩ = some (.int .i64 sg.beat) ∧ w'.cell? ⟨w2.heap.size, 2, none⟩ = some (.slice Ag ng cg))) (by kernel_rfl) (by exact ⟨⟨x0, x1, x2⟩, s0, s1, s2⟩) (fun hHeld0 => ?_)
            refine wpAnyH_take (i := 0) (oi := ⟨some 45, _, _, _, _, _⟩) (v := ?_) rfl (by kernel_rfl) (by kernel_rfl) (by kernel_rfl) (fun _ _ _ h => h) (Or.inl ⟨by rfl, ?_⟩) hHeld0 ?_
            rotate_left
            · (intro w' hSw; (try dsimp only at hSw); go_simp; all_goals (with_reducible rfl))
            try simp only [Act.put, sA, sB, sC]
            refine wpAnyH_take (i := 1) (oi := ⟨some 46, _, _, _, _, _⟩) (v := ?_) rfl (by kernel_rfl) (by kernel_rfl) (by kernel_rfl) (fun _ _ _ h => h) (Or.inl ⟨by rfl, ?_⟩) hHeld0 ?_
            rotate_left
            · (intro w' hSw; (try dsimp only at hSw); go_simp; all_goals (with_reducible rfl))
            try simp only [Act.put, sA, sB, sC]
            refine wpAnyH_take (i := 2) (oi := ⟨some 47, _, _, _, _, _⟩) (v := ?_) rfl (by kernel_rfl) (by kernel_rfl) (by kernel_rfl) (fun _ _ _ h => h) (Or.inl ⟨by rfl, ?_⟩) hHeld0 ?_
            rotate_left
            · (intro w' hSw; (try dsimp only at hSw); go_simp; all_goals (with_reducible rfl))
            try simp only [Act.put, sA, sB, sC]
            refine wpAnyH_take (i := 3) (oi := ⟨some 48, _, _, _, _, _⟩) (v := ?_) rfl (by kernel_rfl) (by kernel_rfl) (by kernel_rfl) (fun _ _ _ h => h) (Or.inl ⟨by rfl, ?_⟩) hHeld0 ?_
            rotate_left
            · (intro w' hSw; (try dsimp only at hSw); go_simp; all_goals (with_reducible rfl))
            try simp only [Act.put, sA, sB, sC]
            refine wpAnyH_take (i := 4) (oi := ⟨some 49, _, _, _, _, _⟩) (v := ?_) rfl (by kernel_rfl) (by kernel_rfl) (by kernel_rfl) (fun _ _ _ h => h) (Or.inl ⟨by rfl, ?_⟩) hHeld0 ?_
            rotate_left
            · (intro w' hSw; (try dsimp only at hSw); go_simp; all_goals (with_reducible rfl))
            try simp only [Act.put, sA, sB, sC]
            refine wpAnyH_take (i := 5) (oi := ⟨some 50, _, _, _, _, _⟩) (v := ?_) rfl (by kernel_rfl) (by kernel_rfl) (by kernel_rfl) (fun _ _ _ h => h) (Or.inl ⟨by rfl, ?_⟩) hHeld0 ?_
            rotate_left
            · (intro w' hSw; (try dsimp only at hSw); go_simp; all_goals (with_reducible rfl))
            try simp only [Act.put, sA, sB, sC]
            refine wpAnyH_take (i := 6) (oi := ⟨some 51, _, _, _, _, _⟩) (v := ?_) rfl (by kernel_rfl) (by kernel_rfl) (by kernel_rfl) (fun _ _ _ h => h) (Or.inl ⟨by rfl, ?_⟩) hHeld0 ?_
            rotate_left
            · (intro w' hSw; (try dsimp only at hSw); go_simp; all_goals (with_reducible rfl))
            try simp only [Act.put, sA, sB, sC]
            refine wpAnyH_take (i := 7) (oi := ⟨some 52, _, _, _, _, _⟩) (v := ?_) rfl (by kernel_rfl) (by kernel_rfl) (by kernel_rfl) (fun _ _ _ h => h) (Or.inl ⟨by rfl, ?_⟩) hHeld0 ?_
            rotate_left
            · (intro w' hSw; (try dsimp only at hSw); go_simp; all_goals (with_reducible rfl))
            try simp only [Act.put, sA, sB, sC]
            refine wpAnyH_ready (rs := [8]) (by kernel_rfl) (by simp) (AllReadyH.cons (o := ⟨some 53, _, _, _, _, _⟩) rfl (fun K hK => ?_) AllReadyH.nil)
            go_simp
            (refine (sabove_any ⟨sg, Ag, ng, cg⟩ a.ver _ hrg3.drewH (by show ng ≤ _; omega)).mono ?_; rintro e w4 ⟨⟨s4, A4, n4, c4⟩, rfl, hs4, hown4, hb4⟩; simp only at hs4; have HS4 := Lib.hid hs4; clear hs4; have hb4' : Below w3.heap.size w3 w4 := (Below.refl _ _).drew.trans hb4; have hown6 := own_below hown3 hb4'; have X4 := X3.below hb4' hlX; have S4 := S3.below hb4' hlS; have hlX4 := X4.lt; have hlS4 := S4.lt; replace x0 := X4.at 0 rfl; replace s0 := S4.at 0 rfl; replace x1 := X4.at 1 rfl; replace s1 := S4.at 1 rfl; replace x2 := X4.at 2 rfl; replace s2 := S4.at 2 rfl; simp only [sv])
            go_simp
            refine hK.out _ _ (by exact ⟨⟨x0, x1, x2⟩, s0, s1, s2⟩) (fun hHeld1 => ?_)
            clear hK hHeld0 K
            try simp only [Act.put, sA, sB, sC]
            refine wpAnyH_take (i := 9) (oi := ⟨some 54, _, _, _, _, _⟩) (v := ?_) rfl (by kernel_rfl) (by kernel_rfl) (by kernel_rfl) (fun _ _ _ h => h) (Or.inl ⟨by rfl, ?_⟩) hHeld1 ?_
            rotate_left
            · (intro w' hSw; (try dsimp only at hSw); go_simp; all_goals (with_reducible rfl))
            try simp only [Act.put, sA, sB, sC]
            refine wpAnyH_ready (rs := [10]) (by kernel_rfl) (by simp) (AllReadyH.cons (o := ⟨some 55, _, _, _, _, _⟩) rfl (fun K hK => ?_) AllReadyH.nil)
            go_simp
            (have Z := X4.alloc (.cells #[.int .i64 a.node, .int .i64 a.ver, .int .i64 s4.gen, .int .i64 s4.beat, .slice A4 n4 c4] 42); have Z2 := S4.alloc (.cells #[.int .i64 a.node, .int .i64 a.ver, .int .i64 s4.gen, .int .i64 s4.beat, .slice A4 n4 c4] 42); replace x0 := Z.at 0 rfl; replace s0 := Z2.at 0 rfl; replace x1 := Z.at 1 rfl; replace s1 := Z2.at 1 rfl; replace x2 := Z.at 2 rfl; replace s2 := Z2.at 2 rfl)
            go_simp
            refine hK.out _ _ (by exact ⟨⟨x0, x1, x2⟩, s0, s1, s2⟩) (fun hHeld2 => ?_)
            clear hK hHeld1 K
            try simp only [Act.put, sA, sB, sC]
            refine wpAnyH_ready (rs := [11]) (by kernel_rfl) (by simp) (AllReadyH.cons (o := ⟨some 56, _, _, _, _, _⟩) rfl (fun K hK => ?_) AllReadyH.nil)
            (refine pushF_step (f := lcl) (y := ⟨a.node, a.ver, ⟨s4, A4, n4, c4⟩⟩) dlT lcl_len lcl_one rfl (.tmp 45) (.tmp 55) (by rfl) w.heap.size rfl (by rfl) (by rfl) hown6 (by omega) (by omega) (by have := hb4'.size; omega) ?_; rintro A5 c5 w5 hown5 hb5 hkeep; replace x0 := keeps_box hkeep X4 HNX.out 0 rfl; replace s0 := keeps_box hkeep S4 HNE.out 0 rfl; replace x1 := keeps_box hkeep X4 HNX.out 1 rfl; replace s1 := keeps_box hkeep S4 HNE.out 1 rfl; replace x2 := keeps_box hkeep X4 HNX.out 2 rfl; replace s2 := keeps_box hkeep S4 HNE.out 2 rfl)
            go_simp
            refine hK.out _ _ (by exact ⟨⟨x0, x1, x2⟩, s0, s1, s2⟩) (fun hHeld3 => ?_)
            clear hK hHeld2 K
            try simp only [Act.put, sA, sB, sC]
            refine wpAnyH_take (i := 12) (oi := ⟨some 5, _, _, _, _, _⟩) (v := ?_) rfl (by kernel_rfl) (by kernel_rfl) (by kernel_rfl) (fun _ _ _ h => h) (Or.inl ⟨by rfl, ?_⟩) hHeld3 ?_
            rotate_left
            · (intro w' hSw; (try dsimp only at hSw); go_simp; all_goals (with_reducible rfl))
            try simp only [Act.put, sA, sB, sC]
            refine wpAnyH_done (by kernel_rfl) ?_ _
            have hall4 : ∀ x ∈ O, SRd w4 x.v ∧ Off (.slice A1 m c1) x.v.A x.v.n := fun x hx => ⟨(hall3 x hx).1.belowH hb4', (hall3 x hx).2⟩
            go_wp2
            go_roundw
            case rel =>
              refine ⟨k + 1, m + 1, A5, c5, O ++ [⟨a.node, a.ver, ⟨s4, A4, n4, c4⟩⟩], by omega, by go_num, rfl, by omega, ?_, hown5, ?_, (hbel3.trans (hb4'.mono hbel3.size)).trans hb5⟩
              · rw [HPK.out, HP1.out, List.map_append, HO.out, ← HS4.out]; rfl
              · intro y hy
                rcases List.mem_append.1 hy with hy | hy
                · have h9 := hall4 y hy
                  exact hkeep (h9.1) h9.2
                · obtain rfl : y = ⟨a.node, a.ver, ⟨s4, A4, n4, c4⟩⟩ := by simpa using hy
                  exact hkeep (hown4.srd) (off_made hown3 hown4 (Nat.le_refl _))
            case measure => simp [intOf]; omega
          · have t2 : (sg.gen == a.gen) = false := beq_eq_false_iff_ne.2 x2
            have HP1 : Hid (L.pick1 (V.get (Vw.view ⟨lv', Av, nv', cv⟩) a.node) a = []) := Lib.hid (by rw [hg]; simp [L.pick1, show sg.gen < a.gen by omega])
            clear hg x2
            have e1 := X3.at 1 rfl
            have s0 := S3.at 0 rfl
            have s1 := S3.at 1 rfl
            have s2 := S3.at 2 rfl
            go_wp2
            go_roundw
            case rel => exact ⟨k + 1, m, A1, c1, O, by omega, by go_num, rfl, by omega, by rw [HPK.out, HP1.out, List.append_nil]; exact HO.out, hown3, hall3, hbel3⟩
            case measure => simp [intOf]; omega
    · have he : asks.take k = asks := List.take_of_length_le (by have := HLD.out; omega)
      have hO := HO.out
      rw [he] at hO
      have HO2 := Lib.hid hO
      clear hO he
      go_wp2
      go_ret
      exact ⟨⟨O, A1, m, c1⟩, rfl, HO2.out, ⟨hown, hall⟩, hbel⟩
end Go.Proofs.Ytkabkpeamggnnaa

namespace Go.Proofs.Ytkabkpeamggnnaa
set_option linter.unusedVariables false
set_option linter.unusedSimpArgs false
open Go.RowKit

set_option maxHeartbeats 4000000 in
set_option maxRecDepth 20000 in
theorem lcfits_any (U : Vw) (x : Lv) (w : World) (h0 : VRd w U) (h : SRd w x.v) (hn0 : U.n ≤ 1000) (hf : VFit U) (hn : x.v.n ≤ 4000) :
    Calls Try.prog 23 #[vval U, lv x] w fun e w' => e = .returned (.bool (L.fits U.view x.dl)) ∧ Below w.heap.size w w' := by
  obtain ⟨node, frm, ⟨⟨g, t, tl⟩, At, nt, ct⟩⟩ := x
  simp only [lv]
  simp only at hn h
  have X := Box.new w #[.int .i64 node, .int .i64 frm, .int .i64 g, .int .i64 t, .slice At nt ct] 42
  have b1 : Below w.heap.size w (w.alloc (.cells #[.int .i64 node, .int .i64 frm, .int .i64 g, .int .i64 t, .slice At nt ct] 42)) := (Below.refl _ _).alloc (Nat.le_refl _) _
  have h1 := h.allocH (.cells #[.int .i64 node, .int .i64 frm, .int .i64 g, .int .i64 t, .slice At nt ct] 42)
  have hs1 : w.heap.size < (w.alloc (.cells #[.int .i64 node, .int .i64 frm, .int .i64 g, .int .i64 t, .slice At nt ct] 42)).heap.size := by simp
  clear h
  simp only [vval]
  have hv1 := h0.allocH (.cells #[.int .i64 node, .int .i64 frm, .int .i64 g, .int .i64 t, .slice At nt ct] 42)
  have HF := Lib.hid hf
  clear hf h0
  have HGET : Hid (L.fits U.view (Lv.dl ⟨node, frm, ⟨⟨g, t, tl⟩, At, nt, ct⟩⟩) = L.fits1 (V.get U.view node) ⟨node, frm, ⟨g, t, tl⟩⟩) := Lib.hid rfl
  by_cases hz : frm = 0
  · have tz : (frm == 0) = true := beq_iff_eq.2 hz
    have HZ := Lib.hid hz
    clear hz
    have HV : Hid (L.fits U.view (Lv.dl ⟨node, frm, ⟨⟨g, t, tl⟩, At, nt, ct⟩⟩) = true) := Lib.hid (HGET.out.trans (fits_zero HZ.out))
    have d1 := X.at 1 rfl
    go_enter Try.func23, Try.ntmps23
    go_wp2
    go_ret
    exact ⟨ret_bool HV.out.symm, b1⟩
  · have tz : (frm == 0) = false := beq_eq_false_iff_ne.2 hz
    have HZ := Lib.hid hz
    clear hz
    have d0 := X.at 0 rfl
    have d1 := X.at 1 rfl
    go_enter Try.func23, Try.ntmps23
    go_wp2_with fail
    generalize w.alloc (.cells #[.int .i64 node, .int .i64 frm, .int .i64 g, .int .i64 t, .slice At nt ct] 42) = w1 at *
    refine (vget_any U node w1 hv1 hn0 HF.out).mono ?_
    rintro e w2 ⟨⟨sg, Ag, ng, cg⟩, rfl, hsg, hrg, hb2⟩
    simp only at hsg
    have HNG : Hid (ng ≤ 4000) := Lib.hid (by
      have hq : sg.apps.length = ng := hrg.len
      have hq2 := vget_short hv1 HF.out (V.get U.view node) rfl
      rw [← hsg] at hq2
      omega)
    have HSG := Lib.hid hsg
    clear hsg
    have X2 := X.below hb2 hs1
    have b2 := b1.trans (hb2.mono b1.size)
    have hs2 := X2.lt
    clear X hb2 hv1 b1 d0 d1
    simp only [sv]
    replace X2 := X2.alloc (.cells #[.int .i64 sg.gen, .int .i64 sg.beat, .slice Ag ng cg] 40)
    have S2 := Box.new w2 #[.int .i64 sg.gen, .int .i64 sg.beat, .slice Ag ng cg] 40
    replace b2 := b2.alloc b2.size (.cells #[.int .i64 sg.gen, .int .i64 sg.beat, .slice Ag ng cg] 40)
    have hrg2 := hrg.allocH (.cells #[.int .i64 sg.gen, .int .i64 sg.beat, .slice Ag ng cg] 40)
    have hs3 : w2.heap.size < (w2.alloc (.cells #[.int .i64 sg.gen, .int .i64 sg.beat, .slice Ag ng cg] 40)).heap.size := by simp
    clear hrg
    have ho : ∀ o, V.get U.view node = o → sg = o.getD ⟨0, 0, []⟩ := fun o e => by rw [← e]; exact HSG.out
    have HO := Lib.hid ho
    clear ho
    generalize V.get U.view node = og at *
    rcases og with _ | so
    · simp only [Option.isSome_none]
      have HV : Hid (L.fits U.view (Lv.dl ⟨node, frm, ⟨⟨g, t, tl⟩, At, nt, ct⟩⟩) = false) := Lib.hid (HGET.out.trans (fits_none HZ.out))
      go_wp2
      generalize w2.alloc (.cells #[.int .i64 sg.gen, .int .i64 sg.beat, .slice Ag ng cg] 40) = w3 at *
      have d0 := X2.at 0 rfl
      have d1 := X2.at 1 rfl
      have d2 := X2.at 2 rfl
      have d3 := X2.at 3 rfl
      have d4 := X2.at 4 rfl
      have s0 := S2.at 0 rfl
      have s1 := S2.at 1 rfl
      have s2 := S2.at 2 rfl
      refine wp_region_held_drew (S := (fun w' => (w'.cell? ⟨w.heap.size, 0, none⟩ = some (.int .i64 node) ∧ w'.cell? ⟨w.heap.size, 1, none⟩ = some (.int .i64 frm) ∧ w'.cell? ⟨w.heap.size, 2, none⟩ = some (.int .i64 g) ∧ w'.cell? ⟨w.heap.size, 3, none⟩ = some (.int .i64 t) ∧ w'.cell? ⟨w.heap.size, 4, none⟩ = some (.slice At nt ct)) ∧ w'.cell? ⟨w2.heap.size, 0, none⟩ = some (.int .i64 sg.gen) ∧ w'.cell? ⟨w2.heap.size, 1, none⟩ = some (.int .i64 sg.beat) ∧ w'.cell? ⟨w2.heap.size, 2, none⟩ = some (.slice Ag ng cg))) (by kernel_rfl) (by exact ⟨⟨d0, d1, d2, d3, d4⟩, s0, s1, s2⟩) (fun hHeld0 => ?_)
      refine wpAnyH_take (i := 0) (oi := ⟨some 17, _, _, _, _, _⟩) (v := ?_) rfl (by kernel_rfl) (by kernel_rfl) (by kernel_rfl) (fun _ _ _ h => h) (Or.inl ⟨by rfl, ?_⟩) hHeld0 ?_
      rotate_left
      · (intro w' hSw; (try dsimp only at hSw); go_simp; all_goals (with_reducible rfl))
      try simp only [Act.put, sA, sB, sC]
      refine wpAnyH_take (i := 1) (oi := ⟨some 18, _, _, _, _, _⟩) (v := ?_) rfl (by kernel_rfl) (by kernel_rfl) (by kernel_rfl) (fun _ _ _ h => h) (Or.inl ⟨by rfl, ?_⟩) hHeld0 ?_
      rotate_left
      · (intro w' hSw; (try dsimp only at hSw); go_simp; all_goals (with_reducible rfl))
      try simp only [Act.put, sA, sB, sC]
      refine wpAnyH_take (i := 2) (oi := ⟨some 19, _, _, _, _, _⟩) (v := undef) rfl (by kernel_rfl) (by kernel_rfl) (by kernel_rfl) (fun _ _ _ h => h) (Or.inr ⟨by rfl, rfl⟩) hHeld0 ?_
      try simp only [Act.put, sA, sB, sC]
      refine wpAnyH_take (i := 3) (oi := ⟨some 20, _, _, _, _, _⟩) (v := undef) rfl (by kernel_rfl) (by kernel_rfl) (by kernel_rfl) (fun _ _ _ h => h) (Or.inr ⟨by rfl, rfl⟩) hHeld0 ?_
      try simp only [Act.put, sA, sB, sC]
      refine wpAnyH_take (i := 4) (oi := ⟨some 21, _, _, _, _, _⟩) (v := undef) rfl (by kernel_rfl) (by kernel_rfl) (by kernel_rfl) (fun _ _ _ h => h) (Or.inr ⟨by rfl, rfl⟩) hHeld0 ?_
      try simp only [Act.put, sA, sB, sC]
      refine wpAnyH_take (i := 5) (oi := ⟨some 22, _, _, _, _, _⟩) (v := undef) rfl (by kernel_rfl) (by kernel_rfl) (by kernel_rfl) (fun _ _ _ h => h) (Or.inr ⟨by rfl, rfl⟩) hHeld0 ?_
      try simp only [Act.put, sA, sB, sC]
      refine wpAnyH_take (i := 6) (oi := ⟨some 23, _, _, _, _, _⟩) (v := undef) rfl (by kernel_rfl) (by kernel_rfl) (by kernel_rfl) (fun _ _ _ h => h) (Or.inr ⟨by rfl, rfl⟩) hHeld0 ?_
      try simp only [Act.put, sA, sB, sC]
      refine wpAnyH_take (i := 7) (oi := ⟨some 24, _, _, _, _, _⟩) (v := undef) rfl (by kernel_rfl) (by kernel_rfl) (by kernel_rfl) (fun _ _ _ h => h) (Or.inr ⟨by rfl, rfl⟩) hHeld0 ?_
      try simp only [Act.put, sA, sB, sC]
      refine wpAnyH_take (i := 8) (oi := ⟨some 25, _, _, _, _, _⟩) (v := ?_) rfl (by kernel_rfl) (by kernel_rfl) (by kernel_rfl) (fun _ _ _ h => h) (Or.inl ⟨by rfl, ?_⟩) hHeld0 ?_
      rotate_left
      · (intro w' hSw; (try dsimp only at hSw); go_simp; all_goals (with_reducible rfl))
      try simp only [Act.put, sA, sB, sC]
      refine wpAnyH_take (i := 9) (oi := ⟨some 26, _, _, _, _, _⟩) (v := ?_) rfl (by kernel_rfl) (by kernel_rfl) (by kernel_rfl) (fun _ _ _ h => h) (Or.inl ⟨by rfl, ?_⟩) hHeld0 ?_
      rotate_left
      · (intro w' hSw; (try dsimp only at hSw); go_simp; all_goals (with_reducible rfl))
      try simp only [Act.put, sA, sB, sC]
      refine wpAnyH_take (i := 10) (oi := ⟨some 27, _, _, _, _, _⟩) (v := undef) rfl (by kernel_rfl) (by kernel_rfl) (by kernel_rfl) (fun _ _ _ h => h) (Or.inr ⟨by rfl, rfl⟩) hHeld0 ?_
      try simp only [Act.put, sA, sB, sC]
      refine wpAnyH_take (i := 11) (oi := ⟨some 28, _, _, _, _, _⟩) (v := undef) rfl (by kernel_rfl) (by kernel_rfl) (by kernel_rfl) (fun _ _ _ h => h) (Or.inr ⟨by rfl, rfl⟩) hHeld0 ?_
      try simp only [Act.put, sA, sB, sC]
      refine wpAnyH_take (i := 12) (oi := ⟨some 29, _, _, _, _, _⟩) (v := undef) rfl (by kernel_rfl) (by kernel_rfl) (by kernel_rfl) (fun _ _ _ h => h) (Or.inr ⟨by rfl, rfl⟩) hHeld0 ?_
      try simp only [Act.put, sA, sB, sC]
      refine wpAnyH_take (i := 13) (oi := ⟨some 30, _, _, _, _, _⟩) (v := undef) rfl (by kernel_rfl) (by kernel_rfl) (by kernel_rfl) (fun _ _ _ h => h) (Or.inr ⟨by rfl, rfl⟩) hHeld0 ?_
      try simp only [Act.put, sA, sB, sC]
      refine wpAnyH_take (i := 14) (oi := ⟨some 31, _, _, _, _, _⟩) (v := undef) rfl (by kernel_rfl) (by kernel_rfl) (by kernel_rfl) (fun _ _ _ h => h) (Or.inr ⟨by rfl, rfl⟩) hHeld0 ?_
      try simp only [Act.put, sA, sB, sC]
      refine wpAnyH_take (i := 15) (oi := ⟨some 32, _, _, _, _, _⟩) (v := ?_) rfl (by kernel_rfl) (by kernel_rfl) (by kernel_rfl) (fun _ _ _ h => h) (Or.inl ⟨by rfl, ?_⟩) hHeld0 ?_
      rotate_left
      · (intro w' hSw; (try dsimp only at hSw); go_simp; all_goals (with_reducible rfl))
      try simp only [Act.put, sA, sB, sC]
      refine wpAnyH_take (i := 16) (oi := ⟨some 4, _, _, _, _, _⟩) (v := ?_) rfl (by kernel_rfl) (by kernel_rfl) (by kernel_rfl) (fun _ _ _ h => h) (Or.inl ⟨by rfl, ?_⟩) hHeld0 ?_
      rotate_left
      · (intro w' hSw; (try dsimp only at hSw); go_simp; all_goals (with_reducible rfl))
      try simp only [Act.put, sA, sB, sC]
      refine wpAnyH_done (by kernel_rfl) ?_ _
      go_wp2
      go_ret
      exact ⟨ret_bool HV.out.symm, b2.drew⟩
    · simp only [Option.isSome_some]
      obtain rfl : sg = so := HSG.out
      by_cases hg : sg.gen = g
      · have tg : (sg.gen == g) = true := beq_iff_eq.2 hg
        have HG := Lib.hid hg
        clear hg
        have HV : Hid (L.fits U.view (Lv.dl ⟨node, frm, ⟨⟨g, t, tl⟩, At, nt, ct⟩⟩) = decide (frm ≤ S.top sg)) := Lib.hid (HGET.out.trans (fits_top HZ.out HG.out))
        go_wp2
        generalize w2.alloc (.cells #[.int .i64 sg.gen, .int .i64 sg.beat, .slice Ag ng cg] 40) = w3 at *
        have d0 := X2.at 0 rfl
        have d1 := X2.at 1 rfl
        have d2 := X2.at 2 rfl
        have d3 := X2.at 3 rfl
        have d4 := X2.at 4 rfl
        have s0 := S2.at 0 rfl
        have s1 := S2.at 1 rfl
        have s2 := S2.at 2 rfl
        refine wp_region_held_drew (S := (fun w' => (w'.cell? ⟨w.heap.size, 0, none⟩ = some (.int .i64 node) ∧ w'.cell? ⟨w.heap.size, 1, none⟩ = some (.int .i64 frm) ∧ w'.cell? ⟨w.heap.size, 2, none⟩ = some (.int .i64 g) ∧ w'.cell? ⟨w.heap.size, 3, none⟩ = some (.int .i64 t) ∧ w'.cell? ⟨w.heap.size, 4, none⟩ = some (.slice At nt ct)) ∧ w'.cell? ⟨w2.heap.size, 0, none⟩ = some (.int .i64 sg.gen) ∧ w'.cell? ⟨w2.heap.size, 1, none⟩ = some (.int .i64 sg.beat) ∧ w'.cell? ⟨w2.heap.size, 2, none⟩ = some (.slice Ag ng cg))) (by kernel_rfl) (by exact ⟨⟨d0, d1, d2, d3, d4⟩, s0, s1, s2⟩) (fun hHeld0 => ?_)
        refine wpAnyH_take (i := 0) (oi := ⟨some 17, _, _, _, _, _⟩) (v := ?_) rfl (by kernel_rfl) (by kernel_rfl) (by kernel_rfl) (fun _ _ _ h => h) (Or.inl ⟨by rfl, ?_⟩) hHeld0 ?_
        rotate_left
        · (intro w' hSw; (try dsimp only at hSw); go_simp; all_goals (with_reducible rfl))
        try simp only [Act.put, sA, sB, sC]
        refine wpAnyH_take (i := 1) (oi := ⟨some 18, _, _, _, _, _⟩) (v := ?_) rfl (by kernel_rfl) (by kernel_rfl) (by kernel_rfl) (fun _ _ _ h => h) (Or.inl ⟨by rfl, ?_⟩) hHeld0 ?_
        rotate_left
        · (intro w' hSw; (try dsimp only at hSw); go_simp; all_goals (with_reducible rfl))
        try simp only [Act.put, sA, sB, sC]
        refine wpAnyH_take (i := 2) (oi := ⟨some 19, _, _, _, _, _⟩) (v := ?_) rfl (by kernel_rfl) (by kernel_rfl) (by kernel_rfl) (fun _ _ _ h => h) (Or.inl ⟨by rfl, ?_⟩) hHeld0 ?_
        rotate_left
        · (intro w' hSw; (try dsimp only at hSw); go_simp; all_goals (with_reducible rfl))
        try simp only [Act.put, sA, sB, sC]
        refine wpAnyH_take (i := 3) (oi := ⟨some 20, _, _, _, _, _⟩) (v := ?_) rfl (by kernel_rfl) (by kernel_rfl) (by kernel_rfl) (fun _ _ _ h => h) (Or.inl ⟨by rfl, ?_⟩) hHeld0 ?_
        rotate_left
        · (intro w' hSw; (try dsimp only at hSw); go_simp; all_goals (with_reducible rfl))
        try simp only [Act.put, sA, sB, sC]
        refine wpAnyH_take (i := 4) (oi := ⟨some 21, _, _, _, _, _⟩) (v := ?_) rfl (by kernel_rfl) (by kernel_rfl) (by kernel_rfl) (fun _ _ _ h => h) (Or.inl ⟨by rfl, ?_⟩) hHeld0 ?_
        rotate_left
        · (intro w' hSw; (try dsimp only at hSw); go_simp; all_goals (with_reducible rfl))
        try simp only [Act.put, sA, sB, sC]
        refine wpAnyH_take (i := 5) (oi := ⟨some 22, _, _, _, _, _⟩) (v := ?_) rfl (by kernel_rfl) (by kernel_rfl) (by kernel_rfl) (fun _ _ _ h => h) (Or.inl ⟨by rfl, ?_⟩) hHeld0 ?_
        rotate_left
        · (intro w' hSw; (try dsimp only at hSw); go_simp; all_goals (with_reducible rfl))
        try simp only [Act.put, sA, sB, sC]
        refine wpAnyH_take (i := 6) (oi := ⟨some 23, _, _, _, _, _⟩) (v := ?_) rfl (by kernel_rfl) (by kernel_rfl) (by kernel_rfl) (fun _ _ _ h => h) (Or.inl ⟨by rfl, ?_⟩) hHeld0 ?_
        rotate_left
        · (intro w' hSw; (try dsimp only at hSw); go_simp; all_goals (with_reducible rfl))
        try simp only [Act.put, sA, sB, sC]
        refine wpAnyH_take (i := 7) (oi := ⟨some 24, _, _, _, _, _⟩) (v := ?_) rfl (by kernel_rfl) (by kernel_rfl) (by kernel_rfl) (fun _ _ _ h => h) (Or.inl ⟨by rfl, ?_⟩) hHeld0 ?_
        rotate_left
        · (intro w' hSw; (try dsimp only at hSw); go_simp; all_goals (with_reducible rfl))
        try simp only [Act.put, sA, sB, sC]
        refine wpAnyH_take (i := 8) (oi := ⟨some 25, _, _, _, _, _⟩) (v := ?_) rfl (by kernel_rfl) (by kernel_rfl) (by kernel_rfl) (fun _ _ _ h => h) (Or.inl ⟨by rfl, ?_⟩) hHeld0 ?_
        rotate_left
        · (intro w' hSw; (try dsimp only at hSw); go_simp; all_goals (with_reducible rfl))
        try simp only [Act.put, sA, sB, sC]
        refine wpAnyH_take (i := 9) (oi := ⟨some 26, _, _, _, _, _⟩) (v := ?_) rfl (by kernel_rfl) (by kernel_rfl) (by kernel_rfl) (fun _ _ _ h => h) (Or.inl ⟨by rfl, ?_⟩) hHeld0 ?_
        rotate_left
        · (intro w' hSw; (try dsimp only at hSw); go_simp; all_goals (with_reducible rfl))
        try simp only [Act.put, sA, sB, sC]
        refine wpAnyH_take (i := 10) (oi := ⟨some 27, _, _, _, _, _⟩) (v := ?_) rfl (by kernel_rfl) (by kernel_rfl) (by kernel_rfl) (fun _ _ _ h => h) (Or.inl ⟨by rfl, ?_⟩) hHeld0 ?_
        rotate_left
        · (intro w' hSw; (try dsimp only at hSw); go_simp; all_goals (with_reducible rfl))
        try simp only [Act.put, sA, sB, sC]
        refine wpAnyH_take (i := 12) (oi := ⟨some 29, _, _, _, _, _⟩) (v := ?_) rfl (by kernel_rfl) (by kernel_rfl) (by kernel_rfl) (fun _ _ _ h => h) (Or.inl ⟨by rfl, ?_⟩) hHeld0 ?_
        rotate_left
        · (intro w' hSw; (try dsimp only at hSw); go_simp; all_goals (with_reducible rfl))
        try simp only [Act.put, sA, sB, sC]
        refine wpAnyH_take (i := 13) (oi := ⟨some 30, _, _, _, _, _⟩) (v := ?_) rfl (by kernel_rfl) (by kernel_rfl) (by kernel_rfl) (fun _ _ _ h => h) (Or.inl ⟨by rfl, ?_⟩) hHeld0 ?_
        rotate_left
        · (intro w' hSw; (try dsimp only at hSw); go_simp; all_goals (with_reducible rfl))
        try simp only [Act.put, sA, sB, sC]
        refine wpAnyH_ready (rs := [11]) (by kernel_rfl) (by simp) (AllReadyH.cons (o := ⟨some 28, _, _, _, _, _⟩) rfl (fun K hK => ?_) AllReadyH.nil)
        go_simp
        (refine (stop_any ⟨sg, Ag, ng, cg⟩ _ hrg2.drewH (by show ng * 32 ≤ _; have := HNG.out; omega)).mono ?_; rintro e w4 ⟨rfl, hb4⟩; have X4 := X2.drew.below hb4 (by show w.heap.size < w3.heap.size; omega); have S4 := S2.drew.below hb4 hs3; replace d0 := X4.at 0 rfl; replace d1 := X4.at 1 rfl; replace d2 := X4.at 2 rfl; replace d3 := X4.at 3 rfl; replace d4 := X4.at 4 rfl; replace s0 := S4.at 0 rfl; replace s1 := S4.at 1 rfl; replace s2 := S4.at 2 rfl)
        go_simp
        refine hK.out _ _ (by exact ⟨⟨d0, d1, d2, d3, d4⟩, s0, s1, s2⟩) (fun hHeld1 => ?_)
        clear hK hHeld0 K
        try simp only [Act.put, sA, sB, sC]
        refine wpAnyH_take (i := 14) (oi := ⟨some 31, _, _, _, _, _⟩) (v := ?_) rfl (by kernel_rfl) (by kernel_rfl) (by kernel_rfl) (fun _ _ _ h => h) (Or.inl ⟨by rfl, ?_⟩) hHeld1 ?_
        rotate_left
        · (intro w' hSw; (try dsimp only at hSw); go_simp; all_goals (with_reducible rfl))
        try simp only [Act.put, sA, sB, sC]
        refine wpAnyH_take (i := 15) (oi := ⟨some 32, _, _, _, _, _⟩) (v := ?_) rfl (by kernel_rfl) (by kernel_rfl) (by kernel_rfl) (fun _ _ _ h => h) (Or.inl ⟨by rfl, ?_⟩) hHeld1 ?_
        rotate_left
        · (intro w' hSw; (try dsimp only at hSw); go_simp; all_goals (with_reducible rfl))
        try simp only [Act.put, sA, sB, sC]
        refine wpAnyH_take (i := 16) (oi := ⟨some 4, _, _, _, _, _⟩) (v := ?_) rfl (by kernel_rfl) (by kernel_rfl) (by kernel_rfl) (fun _ _ _ h => h) (Or.inl ⟨by rfl, ?_⟩) hHeld1 ?_
        rotate_left
        · (intro w' hSw; (try dsimp only at hSw); go_simp; all_goals (with_reducible rfl))
        try simp only [Act.put, sA, sB, sC]
        refine wpAnyH_done (by kernel_rfl) ?_ _
        go_wp2
        go_ret
        exact ⟨ret_bool HV.out.symm, b2.drew.trans (hb4.mono (by show w.heap.size ≤ w3.heap.size; omega))⟩
      · have tg : (sg.gen == g) = false := beq_eq_false_iff_ne.2 hg
        have HG := Lib.hid hg
        clear hg
        have HV : Hid (L.fits U.view (Lv.dl ⟨node, frm, ⟨⟨g, t, tl⟩, At, nt, ct⟩⟩) = false) := Lib.hid (HGET.out.trans (fits_gen HZ.out HG.out))
        go_wp2
        generalize w2.alloc (.cells #[.int .i64 sg.gen, .int .i64 sg.beat, .slice Ag ng cg] 40) = w3 at *
        have d0 := X2.at 0 rfl
        have d1 := X2.at 1 rfl
        have d2 := X2.at 2 rfl
        have d3 := X2.at 3 rfl
        have d4 := X2.at 4 rfl
        have s0 := S2.at 0 rfl
        have s1 := S2.at 1 rfl
        have s2 := S2.at 2 rfl
        refine wp_region_held_drew (S := (fun w' => (w'.cell? ⟨w.heap.size, 0, none⟩ = some (.int .i64 node) ∧ w'.cell? ⟨w.heap.size, 1, none⟩ = some (.int .i64 frm) ∧ w'.cell? ⟨w.heap.size, 2, none⟩ = some (.int .i64 g) ∧ w'.cell? ⟨w.heap.size, 3, none⟩ = some (.int .i64 t) ∧ w'.cell? ⟨w.heap.size, 4, none⟩ = some (.slice At nt ct)) ∧ w'.cell? ⟨w2.heap.size, 0, none⟩ = some (.int .i64 sg.gen) ∧ w'.cell? ⟨w2.heap.size, 1, none⟩ = some (.int .i64 sg.beat) ∧ w'.cell? ⟨w2.heap.size, 2, none⟩ = some (.slice Ag ng cg))) (by kernel_rfl) (by exact ⟨⟨d0, d1, d2, d3, d4⟩, s0, s1, s2⟩) (fun hHeld0 => ?_)
        refine wpAnyH_take (i := 0) (oi := ⟨some 17, _, _, _, _, _⟩) (v := ?_) rfl (by kernel_rfl) (by kernel_rfl) (by kernel_rfl) (fun _ _ _ h => h) (Or.inl ⟨by rfl, ?_⟩) hHeld0 ?_
        rotate_left
        · (intro w' hSw; (try dsimp only at hSw); go_simp; all_goals (with_reducible rfl))
        try simp only [Act.put, sA, sB, sC]
        refine wpAnyH_take (i := 1) (oi := ⟨some 18, _, _, _, _, _⟩) (v := ?_) rfl (by kernel_rfl) (by kernel_rfl) (by kernel_rfl) (fun _ _ _ h => h) (Or.inl ⟨by rfl, ?_⟩) hHeld0 ?_
        rotate_left
        · (intro w' hSw; (try dsimp only at hSw); go_simp; all_goals (with_reducible rfl))
        try simp only [Act.put, sA, sB, sC]
        refine wpAnyH_take (i := 2) (oi := ⟨some 19, _, _, _, _, _⟩) (v := ?_) rfl (by kernel_rfl) (by kernel_rfl) (by kernel_rfl) (fun _ _ _ h => h) (Or.inl ⟨by rfl, ?_⟩) hHeld0 ?_
        rotate_left
        · (intro w' hSw; (try dsimp only at hSw); go_simp; all_goals (with_reducible rfl))
        try simp only [Act.put, sA, sB, sC]
        refine wpAnyH_take (i := 3) (oi := ⟨some 20, _, _, _, _, _⟩) (v := ?_) rfl (by kernel_rfl) (by kernel_rfl) (by kernel_rfl) (fun _ _ _ h => h) (Or.inl ⟨by rfl, ?_⟩) hHeld0 ?_
        rotate_left
        · (intro w' hSw; (try dsimp only at hSw); go_simp; all_goals (with_reducible rfl))
        try simp only [Act.put, sA, sB, sC]
        refine wpAnyH_take (i := 4) (oi := ⟨some 21, _, _, _, _, _⟩) (v := ?_) rfl (by kernel_rfl) (by kernel_rfl) (by kernel_rfl) (fun _ _ _ h => h) (Or.inl ⟨by rfl, ?_⟩) hHeld0 ?_
        rotate_left
        · (intro w' hSw; (try dsimp only at hSw); go_simp; all_goals (with_reducible rfl))
        try simp only [Act.put, sA, sB, sC]
        refine wpAnyH_take (i := 5) (oi := ⟨some 22, _, _, _, _, _⟩) (v := ?_) rfl (by kernel_rfl) (by kernel_rfl) (by kernel_rfl) (fun _ _ _ h => h) (Or.inl ⟨by rfl, ?_⟩) hHeld0 ?_
        rotate_left
        · (intro w' hSw; (try dsimp only at hSw); go_simp; all_goals (with_reducible rfl))
        try simp only [Act.put, sA, sB, sC]
        refine wpAnyH_take (i := 6) (oi := ⟨some 23, _, _, _, _, _⟩) (v := ?_) rfl (by kernel_rfl) (by kernel_rfl) (by kernel_rfl) (fun _ _ _ h => h) (Or.inl ⟨by rfl, ?_⟩) hHeld0 ?_
        rotate_left
        · (intro w' hSw; (try dsimp only at hSw); go_simp; all_goals (with_reducible rfl))
        try simp only [Act.put, sA, sB, sC]
        refine wpAnyH_take (i := 7) (oi := ⟨some 24, _, _, _, _, _⟩) (v := ?_) rfl (by kernel_rfl) (by kernel_rfl) (by kernel_rfl) (fun _ _ _ h => h) (Or.inl ⟨by rfl, ?_⟩) hHeld0 ?_
        rotate_left
        · (intro w' hSw; (try dsimp only at hSw); go_simp; all_goals (with_reducible rfl))
        try simp only [Act.put, sA, sB, sC]
        refine wpAnyH_take (i := 8) (oi := ⟨some 25, _, _, _, _, _⟩) (v := ?_) rfl (by kernel_rfl) (by kernel_rfl) (by kernel_rfl) (fun _ _ _ h => h) (Or.inl ⟨by rfl, ?_⟩) hHeld0 ?_
        rotate_left
        · (intro w' hSw; (try dsimp only at hSw); go_simp; all_goals (with_reducible rfl))
        try simp only [Act.put, sA, sB, sC]
        refine wpAnyH_take (i := 9) (oi := ⟨some 26, _, _, _, _, _⟩) (v := ?_) rfl (by kernel_rfl) (by kernel_rfl) (by kernel_rfl) (fun _ _ _ h => h) (Or.inl ⟨by rfl, ?_⟩) hHeld0 ?_
        rotate_left
        · (intro w' hSw; (try dsimp only at hSw); go_simp; all_goals (with_reducible rfl))
        try simp only [Act.put, sA, sB, sC]
        refine wpAnyH_take (i := 10) (oi := ⟨some 27, _, _, _, _, _⟩) (v := undef) rfl (by kernel_rfl) (by kernel_rfl) (by kernel_rfl) (fun _ _ _ h => h) (Or.inr ⟨by rfl, rfl⟩) hHeld0 ?_
        try simp only [Act.put, sA, sB, sC]
        refine wpAnyH_take (i := 11) (oi := ⟨some 28, _, _, _, _, _⟩) (v := undef) rfl (by kernel_rfl) (by kernel_rfl) (by kernel_rfl) (fun _ _ _ h => h) (Or.inr ⟨by rfl, rfl⟩) hHeld0 ?_
        try simp only [Act.put, sA, sB, sC]
        refine wpAnyH_take (i := 12) (oi := ⟨some 29, _, _, _, _, _⟩) (v := undef) rfl (by kernel_rfl) (by kernel_rfl) (by kernel_rfl) (fun _ _ _ h => h) (Or.inr ⟨by rfl, rfl⟩) hHeld0 ?_
        try simp only [Act.put, sA, sB, sC]
        refine wpAnyH_take (i := 13) (oi := ⟨some 30, _, _, _, _, _⟩) (v := undef) rfl (by kernel_rfl) (by kernel_rfl) (by kernel_rfl) (fun _ _ _ h => h) (Or.inr ⟨by rfl, rfl⟩) hHeld0 ?_
        try simp only [Act.put, sA, sB, sC]
        refine wpAnyH_take (i := 14) (oi := ⟨some 31, _, _, _, _, _⟩) (v := undef) rfl (by kernel_rfl) (by kernel_rfl) (by kernel_rfl) (fun _ _ _ h => h) (Or.inr ⟨by rfl, rfl⟩) hHeld0 ?_
        try simp only [Act.put, sA, sB, sC]
        refine wpAnyH_take (i := 15) (oi := ⟨some 32, _, _, _, _, _⟩) (v := ?_) rfl (by kernel_rfl) (by kernel_rfl) (by kernel_rfl) (fun _ _ _ h => h) (Or.inl ⟨by rfl, ?_⟩) hHeld0 ?_
        rotate_left
        · (intro w' hSw; (try dsimp only at hSw); go_simp; all_goals (with_reducible rfl))
        try simp only [Act.put, sA, sB, sC]
        refine wpAnyH_take (i := 16) (oi := ⟨some 4, _, _, _, _, _⟩) (v := ?_) rfl (by kernel_rfl) (by kernel_rfl) (by kernel_rfl) (fun _ _ _ h => h) (Or.inl ⟨by rfl, ?_⟩) hHeld0 ?_
        rotate_left
        · (intro w' hSw; (try dsimp only at hSw); go_simp; all_goals (with_reducible rfl))
        try simp only [Act.put, sA, sB, sC]
        refine wpAnyH_done (by kernel_rfl) ?_ _
        go_wp2
        go_ret
        exact ⟨ret_bool HV.out.symm, b2.drew⟩
end Go.Proofs.Ytkabkpeamggnnaa

namespace Go.Proofs.Ytkabkpeamggnnaa
set_option linter.unusedVariables false
set_option linter.unusedSimpArgs false
open Go.RowKit

set_option maxHeartbeats 8000000 in
set_option maxRecDepth 20000 in
theorem lcfull_any (V : Vw) (w : World) (h : VRd w V) (hn : V.n ≤ 1000) (hf : VFit V) :
    Calls Try.prog 14 #[vval V] w (MadeL w (L.full V.view)) := by
  obtain ⟨l, A, n, c⟩ := V
  have hl := h.len
  simp only at hn hl hf
  have HL := Lib.hid hl
  have HF := Lib.hid hf
  clear hl hf
  simp only [vval]
  go_enter Try.func14, Try.ntmps14
  go_wp2_with (at_make; refine make0_law dlT rfl _ _ rfl w.heap.size rfl rfl (by omega) (by omega) (by omega) (Nat.le_refl _) ?_; intro A0 c0' w0 hown0 hg0)
  have b0 : Below w.heap.size w w0 := (Below.refl _ _).grown hg0 (Nat.le_refl _) (fun k hk => by cases hk)
  clear hg0
  go_loopw [3, 11] (fun s i wr => ∃ (k : Nat) (A1 : Option Addr) (c1 : Nat) (O : List Lv), k ≤ n ∧ i = .int .i64 k ∧ s = .slice A1 k c1 ∧ O.map Lv.dl = L.full ((l.take k).map Nv.nm) ∧
      wr.ownsRow w.heap.size 42 5 (.slice A1 k c1) k (FC lcl O) ∧ (∀ x ∈ O, SRd wr x.v ∧ Off (.slice A1 k c1) x.v.A x.v.n) ∧ Below w.heap.size w wr) (fun _ i _ => n - (intOf i).toNat)
  case atStart => exact ⟨0, A0, c0', [], by omega, rfl, rfl, rfl, hown0, by simp, b0⟩
  case round =>
    obtain ⟨k, A1, c1, O, hk, rfl, rfl, hO, hown, hall, hbel⟩ := hrel
    have HO := Lib.hid hO
    have hbs := hbel.size
    clear hO
    by_cases hlt : k < n
    · obtain ⟨b, o, x, e1, hbw, hx, hsx, d0, d1, d2, d3⟩ := (h.belowH hbel).at hlt
      simp only at e1 hx
      subst e1
      have hk0 : (0 : Int) ≤ (k : Int) := by omega
      have hfx := HF.out x (List.mem_of_getElem? hx)
      have HTK : Hid (L.full ((l.take (k + 1)).map Nv.nm) = L.full ((l.take k).map Nv.nm) ++ [⟨x.node, 0, x.v.s⟩]) := Lib.hid (by rw [take_more hx, List.map_append]; unfold L.full; rw [List.map_append]; rfl)
      clear hx
      have hb3 : Below wr.heap.size wr (wr.alloc (.cells #[.int .i64 x.node, .int .i64 x.v.s.gen, .int .i64 x.v.s.beat, .slice x.v.A x.v.n x.v.c] 49)) := (Below.refl _ _).alloc (Nat.le_refl _) _
      have X3 := Box.new wr #[.int .i64 x.node, .int .i64 x.v.s.gen, .int .i64 x.v.s.beat, .slice x.v.A x.v.n x.v.c] 49
      have HNX : Hid ((Value.slice A1 k c1).ownBlock ≠ some wr.heap.size) := Lib.hid fun e => by have := (World.ownsRow.lt hown _ e).2; omega
      have hown3 := own_below hown hb3
      have hall3 : ∀ y ∈ O, SRd (wr.alloc (.cells #[.int .i64 x.node, .int .i64 x.v.s.gen, .int .i64 x.v.s.beat, .slice x.v.A x.v.n x.v.c] 49)) y.v ∧ Off (.slice A1 k c1) y.v.A y.v.n := fun y hy => ⟨(hall y hy).1.belowH hb3, (hall y hy).2⟩
      have hbel3 := hbel.trans (hb3.mono hbs)
      have hsx3 := hsx.belowH hb3
      have hlX := X3.lt
      have hbw3 := hbel3.size
      clear hown hall hbel hb3 hsx
      go_wp2_with fail
      clear d0 d1 d2 d3
      generalize wr.alloc (.cells #[.int .i64 x.node, .int .i64 x.v.s.gen, .int .i64 x.v.s.beat, .slice x.v.A x.v.n x.v.c] 49) = w3 at *
      have y0 := X3.at 0 rfl
      have y1 := X3.at 1 rfl
      have y2 := X3.at 2 rfl
      have y3 := X3.at 3 rfl
      refine wp_region_held_drew (S := (fun w' => w'.cell? ⟨wr.heap.size, 0, none⟩ = some (.int .i64 x.node) ∧ w'.cell? ⟨wr.heap.size, 1, none⟩ = some (.int .i64 x.v.s.gen) ∧ w'.cell? ⟨wr.heap.size, 2, none⟩ = some (.int .i64 x.v.s.beat) ∧ w'.cell? ⟨wr.heap.size, 3, none⟩ = some (.slice x.v.A x.v.n x.v.c))) (by kernel_rfl) (by exact ⟨y0, y1, y2, y3⟩) (fun hHeld0 => ?_)
      refine wpAnyH_take (i := 0) (oi := ⟨some 15, _, _, _, _, _⟩) (v := ?_) rfl (by kernel_rfl) (by kernel_rfl) (by kernel_rfl) (fun _ _ _ h => h) (Or.inl ⟨by rfl, ?_⟩) hHeld0 ?_
      rotate_left
      · (intro w' hSw; (try dsimp only at hSw); go_simp; all_goals (with_reducible rfl))
      try simp only [Act.put, sA, sB, sC]
      refine wpAnyH_take (i := 1) (oi := ⟨some 16, _, _, _, _, _⟩) (v := ?_) rfl (by kernel_rfl) (by kernel_rfl) (by kernel_rfl) (fun _ _ _ h => h) (Or.inl ⟨by rfl, ?_⟩) hHeld0 ?_
      rotate_left
      · (intro w' hSw; (try dsimp only at hSw); go_simp; all_goals (with_reducible rfl))
      try simp only [Act.put, sA, sB, sC]
      refine wpAnyH_take (i := 2) (oi := ⟨some 17, _, _, _, _, _⟩) (v := ?_) rfl (by kernel_rfl) (by kernel_rfl) (by kernel_rfl) (fun _ _ _ h => h) (Or.inl ⟨by rfl, ?_⟩) hHeld0 ?_
      rotate_left
      · (intro w' hSw; (try dsimp only at hSw); go_simp; all_goals (with_reducible rfl))
      try simp only [Act.put, sA, sB, sC]
      refine wpAnyH_take (i := 3) (oi := ⟨some 18, _, _, _, _, _⟩) (v := ?_) rfl (by kernel_rfl) (by kernel_rfl) (by kernel_rfl) (fun _ _ _ h => h) (Or.inl ⟨by rfl, ?_⟩) hHeld0 ?_
      rotate_left
      · (intro w' hSw; (try dsimp only at hSw); go_simp; all_goals (with_reducible rfl))
      try simp only [Act.put, sA, sB, sC]
      refine wpAnyH_take (i := 4) (oi := ⟨some 19, _, _, _, _, _⟩) (v := ?_) rfl (by kernel_rfl) (by kernel_rfl) (by kernel_rfl) (fun _ _ _ h => h) (Or.inl ⟨by rfl, ?_⟩) hHeld0 ?_
      rotate_left
      · (intro w' hSw; (try dsimp only at hSw); go_simp; all_goals (with_reducible rfl))
      try simp only [Act.put, sA, sB, sC]
      refine wpAnyH_ready (rs := [5]) (by kernel_rfl) (by simp) (AllReadyH.cons (o := ⟨some 20, _, _, _, _, _⟩) rfl (fun K hK => ?_) AllReadyH.nil)
      go_simp
      (refine (scopy_any x.v _ hsx3.drewH (by omega)).mono ?_; rintro e w4 ⟨⟨s4, A4, n4, c4⟩, rfl, hs4, hown4, hb4⟩; simp only at hs4; have HS4 := Lib.hid hs4; clear hs4; have hb4' : Below w3.heap.size w3 w4 := (Below.refl _ _).drew.trans hb4; have hown6 := own_below hown3 hb4'; have X4 := X3.below hb4' hlX; have hlX4 := X4.lt; replace y0 := X4.at 0 rfl; replace y1 := X4.at 1 rfl; replace y2 := X4.at 2 rfl; replace y3 := X4.at 3 rfl; simp only [sv])
      go_simp
      refine hK.out _ _ (by exact ⟨y0, y1, y2, y3⟩) (fun hHeld1 => ?_)
      clear hK hHeld0 K
      try simp only [Act.put, sA, sB, sC]
      refine wpAnyH_ready (rs := [6]) (by kernel_rfl) (by simp) (AllReadyH.cons (o := ⟨some 21, _, _, _, _, _⟩) rfl (fun K hK => ?_) AllReadyH.nil)
      go_simp
      (refine (lcall_any x.node ⟨s4, A4, n4, c4⟩ w4).mono ?_; rintro e w5 ⟨rfl, hb5⟩; have hown7 := own_below hown6 hb5; have X5 := X4.below hb5 hlX4; replace y0 := X5.at 0 rfl; replace y1 := X5.at 1 rfl; replace y2 := X5.at 2 rfl; replace y3 := X5.at 3 rfl; simp only [lv])
      go_simp
      refine hK.out _ _ (by exact ⟨y0, y1, y2, y3⟩) (fun hHeld2 => ?_)
      clear hK hHeld1 K
      try simp only [Act.put, sA, sB, sC]
      refine wpAnyH_ready (rs := [7]) (by kernel_rfl) (by simp) (AllReadyH.cons (o := ⟨some 22, _, _, _, _, _⟩) rfl (fun K hK => ?_) AllReadyH.nil)
      go_simp
      (have Z := X5.alloc (.cells #[.int .i64 x.node, .int .i64 0, .int .i64 s4.gen, .int .i64 s4.beat, .slice A4 n4 c4] 42); replace y0 := Z.at 0 rfl; replace y1 := Z.at 1 rfl; replace y2 := Z.at 2 rfl; replace y3 := Z.at 3 rfl)
      go_simp
      refine hK.out _ _ (by exact ⟨y0, y1, y2, y3⟩) (fun hHeld3 => ?_)
      clear hK hHeld2 K
      try simp only [Act.put, sA, sB, sC]
      refine wpAnyH_ready (rs := [8]) (by kernel_rfl) (by simp) (AllReadyH.cons (o := ⟨some 23, _, _, _, _, _⟩) rfl (fun K hK => ?_) AllReadyH.nil)
      (refine pushF_step (f := lcl) (y := ⟨x.node, 0, ⟨s4, A4, n4, c4⟩⟩) dlT lcl_len lcl_one rfl (.tmp 15) (.tmp 22) (by rfl) w.heap.size rfl (by rfl) (by rfl) hown7 (by omega) (by omega) (by have := hb4'.size; have := hb5.size; omega) ?_; rintro A5 c5 w6 hown8 hb6 hkeep; replace y0 := keeps_box hkeep X5 HNX.out 0 rfl; replace y1 := keeps_box hkeep X5 HNX.out 1 rfl; replace y2 := keeps_box hkeep X5 HNX.out 2 rfl; replace y3 := keeps_box hkeep X5 HNX.out 3 rfl)
      go_simp
      refine hK.out _ _ (by exact ⟨y0, y1, y2, y3⟩) (fun hHeld4 => ?_)
      clear hK hHeld3 K
      try simp only [Act.put, sA, sB, sC]
      refine wpAnyH_take (i := 9) (oi := ⟨some 3, _, _, _, _, _⟩) (v := ?_) rfl (by kernel_rfl) (by kernel_rfl) (by kernel_rfl) (fun _ _ _ h => h) (Or.inl ⟨by rfl, ?_⟩) hHeld4 ?_
      rotate_left
      · (intro w' hSw; (try dsimp only at hSw); go_simp; all_goals (with_reducible rfl))
      try simp only [Act.put, sA, sB, sC]
      refine wpAnyH_done (by kernel_rfl) ?_ _
      go_wp2
      go_roundw
      case rel =>
        refine ⟨k + 1, A5, c5, O ++ [⟨x.node, 0, ⟨s4, A4, n4, c4⟩⟩], by omega, by go_num, rfl, ?_, hown8, ?_, ((hbel3.trans (hb4'.mono hbel3.size)).trans (hb5.mono (by have := hb4'.size; omega))).trans hb6⟩
        · rw [HTK.out, List.map_append, HO.out]; simp only [List.map_cons, List.map_nil, Lv.dl, HS4.out]
        · intro y hy
          rcases List.mem_append.1 hy with hy | hy
          · have h9 := hall3 y hy
            exact hkeep ((h9.1.belowH hb4').belowH hb5) h9.2
          · obtain rfl : y = ⟨x.node, 0, ⟨s4, A4, n4, c4⟩⟩ := by simpa using hy
            exact hkeep (hown4.srd.belowH hb5) (off_made hown3 hown4 (Nat.le_refl _))
      case measure => simp [intOf]; omega
    · have he : l.take k = l := List.take_of_length_le (by have := HL.out; omega)
      have hO := HO.out
      rw [he] at hO
      have HO2 := Lib.hid hO
      clear hO he
      go_wp2
      go_ret
      exact ⟨⟨O, A1, k, c1⟩, rfl, HO2.out, ⟨hown, hall⟩, hbel⟩

set_option maxHeartbeats 8000000 in
set_option maxRecDepth 20000 in
theorem lcapply_any (U : Vw) (D : Lw) (w : World) (h : VRd w U) (hd : LRd w D) (hra : V.right U.view) (hrl : L.right D.dls) (hnd : D.n ≤ 1000) :
    Calls Try.prog 21 #[vval U, lval D] w (MadeVN w (L.apply U.view D.dls).1 (L.apply U.view D.dls).2) := by
  obtain ⟨l, A, n, c⟩ := D
  have hf := right_fitR h hra
  have hn := right_n h hra
  have HRA := Lib.hid hra
  have HRL := Lib.hid hrl
  have HLD := Lib.hid hd.dlslen
  simp only at hnd
  clear hra hrl
  simp only [vval, lval]
  go_enter Try.func21, Try.ntmps21
  go_wp2_with fail
  refine (vcopy_any U w h (by omega) hf).mono ?_
  rintro e w1 ⟨V1, rfl, hv1, ho1, hb1⟩
  have HV1 := Lib.hid hv1
  have HOWN1 := Lib.hid ho1
  have HB1 := Lib.hid hb1
  clear hv1 ho1 hb1
  simp only [vval]
  go_wp2
  go_loopw [6, 7, 14] (fun s1 s2 i wr => ∃ (k : Nat) (Vo : Vw) (m : Nat) (A1 : Option Addr) (c1 : Nat) (ns : List Int), k ≤ n ∧ i = .int .i64 k ∧ s1 = .slice Vo.A Vo.n Vo.c ∧ s2 = .slice A1 m c1 ∧ m ≤ k ∧ (Vo.view, ns) = ((Lw.dls ⟨l, A, n, c⟩).take k).foldl L.step (U.view, []) ∧
      VRd wr Vo ∧ OffV (.slice A1 m c1) Vo ∧ wr.ownsRow w.heap.size 3 1 (.slice A1 m c1) m (FC icl (ns)) ∧ Below w.heap.size w wr) (fun _ _ i _ => n - (intOf i).toNat)
  case atStart => exact ⟨0, V1, 0, none, 0, [], by omega, rfl, rfl, rfl, by omega, by rw [HV1.out]; rfl, HOWN1.out.vrd, ⟨off_nil _ _, fun x _ => off_nil _ _⟩, World.ownsRow_nil _ _ _ _, HB1.out⟩
  case round =>
    obtain ⟨k, Vo, m, A1, c1, ns, hk, rfl, rfl, rfl, hmk, hP, hvo, hoff, hown, hbel⟩ := hrel
    have HP := Lib.hid hP
    have hbs := hbel.size
    have HRO : Hid (V.right Vo.view) := Lib.hid (by rw [show Vo.view = (((Lw.dls ⟨l, A, n, c⟩).take k).foldl L.step (U.view, [])).1 by rw [← hP]]; exact L.fold_right HRA.out (fun d hd => HRL.out.1 d (List.mem_of_mem_take hd)))
    clear hP
    by_cases hlt : k < n
    · obtain ⟨b, o, x, e1, hb, hx, hsx, c0, c1', c2, c3, c4⟩ := (hd.belowH hbel).at hlt
      simp only at e1 hx
      subst e1
      have hk0 : (0 : Int) ≤ (k : Int) := by omega
      have HX : Hid ((Lw.dls ⟨l, some ⟨b, o, none⟩, n, c⟩)[k]? = some x.dl) := Lib.hid (dl_at hx)
      have HMX : Hid (L.may x.dl) := Lib.hid (HRL.out.1 _ (List.mem_of_getElem? HX.out))
      have HST : Hid (((Lw.dls ⟨l, some ⟨b, o, none⟩, n, c⟩).take (k + 1)).foldl L.step (U.view, []) = L.step (Vo.view, ns) x.dl) := Lib.hid (by rw [take_more HX.out, List.foldl_append, ← HP.out]; rfl)
      have hno := right_n hvo HRO.out
      have hxn : x.v.n ≤ 12 := by have hq := right_len HMX.out.2.2.2.2.1.2.2.2.2; have hq2 : x.v.s.apps.length = x.v.n := hsx.len; rw [show x.dl.st.apps = x.v.s.apps from rfl] at hq; omega
      clear hx
      have hb3 : Below wr.heap.size wr (wr.alloc (.cells #[.int .i64 x.node, .int .i64 x.frm, .int .i64 x.v.s.gen, .int .i64 x.v.s.beat, .slice x.v.A x.v.n x.v.c] 42)) := (Below.refl _ _).alloc (Nat.le_refl _) _
      have X3 := Box.new wr #[.int .i64 x.node, .int .i64 x.frm, .int .i64 x.v.s.gen, .int .i64 x.v.s.beat, .slice x.v.A x.v.n x.v.c] 42
      have hown3 := own_below hown hb3
      have HNX : Hid ((Value.slice A1 m c1).ownBlock ≠ some wr.heap.size) := Lib.hid fun e => by have := (World.ownsRow.lt hown _ e).2; omega
      have hvo3 := hvo.belowH hb3
      have hbel3 := hbel.trans (hb3.mono hbs)
      have hsx3 := hsx.belowH hb3
      have hlX := X3.lt
      have y0 := X3.at 0 rfl
      have y1 := X3.at 1 rfl
      have y2 := X3.at 2 rfl
      have y3 := X3.at 3 rfl
      have y4 := X3.at 4 rfl
      clear hown hvo hbel hb3 hsx
      go_wp2_with fail
      clear c0 c1' c2 c3 c4
      generalize wr.alloc (.cells #[.int .i64 x.node, .int .i64 x.frm, .int .i64 x.v.s.gen, .int .i64 x.v.s.beat, .slice x.v.A x.v.n x.v.c] 42) = w3 at *
      have hbw3 := hbel3.size
      refine (lcfits_any Vo x w3 hvo3 hsx3 (by omega) (right_fitR hvo3 HRO.out) (by omega)).mono ?_
      rintro e w4 ⟨rfl, hb4⟩
      have hown4 := own_below hown3 hb4
      have hvo4 := hvo3.belowH hb4
      have hbel4 := hbel3.trans (hb4.mono hbw3)
      have hsx4 := hsx3.belowH hb4
      have X4 := X3.below hb4 hlX
      have hlX4 := X4.lt
      clear hown3 hvo3 hbel3 hsx3 hb4 X3 y0 y1 y2 y3 y4
      rcases hfit : L.fits Vo.view x.dl
      · have HS2 : Hid (L.step (Vo.view, ns) x.dl = (Vo.view, ns)) := Lib.hid (by unfold L.step; rw [if_neg (by rw [hfit]; exact Bool.false_ne_true)])
        clear hfit
        go_wp2
        go_roundw
        case rel => exact ⟨k + 1, Vo, m, A1, c1, ns, by omega, by go_num, rfl, rfl, by omega, by rw [HST.out, HS2.out], hvo4, hoff, hown4, hbel4⟩
        case measure => simp [intOf]; omega
      · have HS2 : Hid (L.step (Vo.view, ns) x.dl = (V.join Vo.view [⟨x.node, x.v.s⟩], ns ++ [x.node])) := Lib.hid (by unfold L.step; rw [if_pos hfit]; rfl)
        clear hfit
        have hb5 : Below w4.heap.size w4 (w4.alloc (.cells #[.int .i64 x.node, .int .i64 x.v.s.gen, .int .i64 x.v.s.beat, .slice x.v.A x.v.n x.v.c] 49)) := (Below.refl _ _).alloc (Nat.le_refl _) _
        have hvl : VRd (w4.alloc (.cells #[.int .i64 x.node, .int .i64 x.v.s.gen, .int .i64 x.v.s.beat, .slice x.v.A x.v.n x.v.c] 49)) ⟨[⟨x.node, x.v⟩], some ⟨w4.heap.size, 0, none⟩, 1, 1⟩ := ⟨(Rd.lit w4 #[.int .i64 x.node, .int .i64 x.v.s.gen, .int .i64 x.v.s.beat, .slice x.v.A x.v.n x.v.c] 49 4 1 rfl).more (by simp), fun y hy => (by rw [List.mem_singleton.1 hy]; exact hsx4.allocH (.cells #[.int .i64 x.node, .int .i64 x.v.s.gen, .int .i64 x.v.s.beat, .slice x.v.A x.v.n x.v.c] 49))⟩
        have HRL2 : Hid (V.right (Vw.view ⟨[⟨x.node, x.v⟩], some ⟨w4.heap.size, 0, none⟩, 1, 1⟩)) := Lib.hid ⟨fun y hy => (by rw [List.mem_singleton.1 (show y ∈ [(⟨x.node, x.v.s⟩ : Nm)] from hy)]; exact ⟨HMX.out.1, HMX.out.2.1, HMX.out.2.2.2.2.1⟩), (by simp [Vw.view, V.rising])⟩
        have hown5 := own_below hown4 hb5
        have hvo5 := hvo4.belowH hb5
        have hbel5 := hbel4.trans (hb5.mono hbel4.size)
        have X5 := X4.below hb5 hlX4
        have hlX5 := X5.lt
        have y0 := X4.at 0 rfl
        have y1 := X4.at 1 rfl
        have y2 := X4.at 2 rfl
        have y3 := X4.at 3 rfl
        have y4 := X4.at 4 rfl
        clear hown4 hvo4 hbel4 hb5
        go_wp2_with fail
        generalize w4.alloc (.cells #[.int .i64 x.node, .int .i64 x.v.s.gen, .int .i64 x.v.s.beat, .slice x.v.A x.v.n x.v.c] 49) = w5 at *
        refine (vjoin_any Vo ⟨[⟨x.node, x.v⟩], some ⟨w4.heap.size, 0, none⟩, 1, 1⟩ w5 hvo5 hvl HRO.out HRL2.out).mono ?_
        rintro e w6 ⟨V6, rfl, hv6, ho6, hb6⟩
        have HV6 : Hid (V6.view = V.join Vo.view [⟨x.node, x.v.s⟩]) := Lib.hid hv6
        have hown6 := own_below hown5 hb6
        have hbel6 := hbel5.trans (hb6.mono hbel5.size)
        have hbs6 := hbel6.size
        have hoff6 : OffV (.slice A1 m c1) V6 := ⟨off_made hown5 ho6.1 (Nat.le_refl _), fun y hy => off_fresh hown5 (ho6.2 y hy).2.2⟩
        have hvo6 := ho6.vrd
        have X6 := X5.below hb6 hlX5
        clear hv6 hown5 hb6 ho6 hvl hvo5 hoff hbel5 y0 y1 y2 y3 y4
        have y0 := X6.at 0 rfl
        have y1 := X6.at 1 rfl
        have y2 := X6.at 2 rfl
        have y3 := X6.at 3 rfl
        have y4 := X6.at 4 rfl
        simp only [vval]
        go_wp2_with (at_builtin; refine pushF_law (f := icl) (y := x.node) i64T icl_len icl_one rfl (.tmp 29) (.tmp 32) rfl w.heap.size rfl rfl rfl hown6 (by omega) (by omega) hbs6 ?_; rintro A7 c7 w7 hown7 hb7 hkeep)
        go_roundw
        case rel =>
          refine ⟨k + 1, V6, m + 1, A7, c7, ns ++ [x.node], by omega, by go_num, rfl, rfl, by omega, by rw [HST.out, HS2.out, HV6.out], ?_, ?_, hown7, hbel6.trans hb7⟩
          · exact ⟨(hkeep hvo6.1 hoff6.1).1, fun y hy => (hkeep (hvo6.2 y hy) (hoff6.2 y hy)).1⟩
          · exact ⟨(hkeep hvo6.1 hoff6.1).2, fun y hy => (hkeep (hvo6.2 y hy) (hoff6.2 y hy)).2⟩
        case measure => simp [intOf]; omega
    · have he : (Lw.dls ⟨l, A, n, c⟩).take k = Lw.dls ⟨l, A, n, c⟩ := List.take_of_length_le (by have := HLD.out; omega)
      have hP := HP.out
      rw [he] at hP
      have HP2 : Hid (L.apply U.view (Lw.dls ⟨l, A, n, c⟩) = (Vo.view, ns)) := Lib.hid hP.symm
      clear hP he
      go_wp2
      go_ret2
      exact ⟨Vo, A1, m, c1, rfl, by rw [HP2.out], hvo, by rw [HP2.out]; rw [← FC_icl]; exact Rd.of_own hown, hbel⟩
end Go.Proofs.Ytkabkpeamggnnaa

