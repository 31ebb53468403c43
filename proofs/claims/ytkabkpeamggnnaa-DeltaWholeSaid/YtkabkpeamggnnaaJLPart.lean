/- LPart (merged). -/
import Derived.Test.YtkabkpeamggnnaaJTRef
import Derived.Test.YtkabkpeamggnnaaJLRef
namespace Go.Proofs.Ytkabkpeamggnnaa
set_option linter.unusedVariables false
set_option linter.unusedSimpArgs false
open Go.RowKit

theorem soverB_out {a b : St} (h : soverB a b = true) : S.over a b := by unfold soverB sameB at h; unfold S.over; exact of_decide_eq_true h
theorem part_same {x y : St} (h : x = y) : L.part x y := by
  subst h
  right
  rw [if_neg (Int.lt_irrefl _), if_pos rfl]
theorem part_low {x y : St} (h1 : S.top x ≤ S.top y) (h2 : ¬ S.top x = S.top y) (h3 : ∀ e ∈ y.apps, e.ver ≤ S.top x → E.get x.apps e.key = some e) (h4 : S.over y x) : L.part x y := by
  right
  rw [if_neg (by omega), if_neg h2]
  exact ⟨h3, h4⟩
set_option maxHeartbeats 8000000 in
set_option maxRecDepth 20000 in
theorem lpart_any (x y : Sv) (w : World) (h : SRd w x) (h' : SRd w y) (hn : x.n ≤ 4000) (hn' : y.n ≤ 4000) (hr : S.rise x.s) (hr' : S.rise y.s) :
    Calls Try.prog 29 #[sv x, sv y] w fun e w' => (∃ r : Bool, e = .returned (.bool r) ∧ (r = true → L.part x.s y.s)) ∧ Below w.heap.size w w' := by
  obtain ⟨⟨ga, ta, la⟩, Aa, na, ca⟩ := x
  obtain ⟨⟨gb, tb, lb⟩, Ab, nb, cb⟩ := y
  simp only [sv]
  simp only at hn hn' hr hr' h h'
  have hra := hr
  have hrb := hr'
  clear hr hr'
  have X := (Box.new w #[.int .i64 ga, .int .i64 ta, .slice Aa na ca] 40).alloc (.cells #[.int .i64 gb, .int .i64 tb, .slice Ab nb cb] 40)
  have Y := Box.new (w.alloc (.cells #[.int .i64 ga, .int .i64 ta, .slice Aa na ca] 40)) #[.int .i64 gb, .int .i64 tb, .slice Ab nb cb] 40
  rw [show (w.alloc (.cells #[.int .i64 ga, .int .i64 ta, .slice Aa na ca] 40)).heap.size = w.heap.size + 1 by simp] at Y
  have b2 := below2 w (.cells #[.int .i64 ga, .int .i64 ta, .slice Aa na ca] 40) (.cells #[.int .i64 gb, .int .i64 tb, .slice Ab nb cb] 40)
  have ra2 := (h.allocH (.cells #[.int .i64 ga, .int .i64 ta, .slice Aa na ca] 40)).allocH (.cells #[.int .i64 gb, .int .i64 tb, .slice Ab nb cb] 40)
  have rb2 := (h'.allocH (.cells #[.int .i64 ga, .int .i64 ta, .slice Aa na ca] 40)).allocH (.cells #[.int .i64 gb, .int .i64 tb, .slice Ab nb cb] 40)
  have H0 := Lib.hid h
  have H0' := Lib.hid h'
  clear h h'
  by_cases hg : ga = gb
  · have tg : (ga != gb) = false := by simp [hg]
    have HG := Lib.hid hg
    clear hg
    go_enter Try.func29, Try.ntmps29
    go_wp2
    generalize (w.alloc (.cells #[.int .i64 ga, .int .i64 ta, .slice Aa na ca] 40)).alloc (.cells #[.int .i64 gb, .int .i64 tb, .slice Ab nb cb] 40) = w2 at *
    have hlX := X.lt
    have hlY := Y.lt
    have x0 := X.at 0 rfl
    have y0 := Y.at 0 rfl
    have x1 := X.at 1 rfl
    have y1 := Y.at 1 rfl
    have x2 := X.at 2 rfl
    have y2 := Y.at 2 rfl
    by_cases hs : S.top ⟨gb, tb, lb⟩ < S.top ⟨ga, ta, la⟩
    · have ts : decide (S.top ⟨gb, tb, lb⟩ < S.top ⟨ga, ta, la⟩) = true := decide_eq_true hs
      have HS := Lib.hid hs
      clear hs
      refine wp_region_held_drew (S := (fun w' => (w'.cell? ⟨w.heap.size, 0, none⟩ = some (.int .i64 ga) ∧ w'.cell? ⟨w.heap.size, 1, none⟩ = some (.int .i64 ta) ∧ w'.cell? ⟨w.heap.size, 2, none⟩ = some (.slice Aa na ca)) ∧ w'.cell? ⟨w.heap.size + 1, 0, none⟩ = some (.int .i64 gb) ∧ w'.cell? ⟨w.heap.size + 1, 1, none⟩ = some (.int .i64 tb) ∧ w'.cell? ⟨w.heap.size + 1, 2, none⟩ = some (.slice Ab nb cb))) (by kernel_rfl) (by exact ⟨⟨x0, x1, x2⟩, y0, y1, y2⟩) (fun hHeld0 => ?_)
      refine wpAnyH_take (i := 0) (oi := ⟨some 14, _, _, _, _, _⟩) (v := ?_) rfl (by kernel_rfl) (by kernel_rfl) (by kernel_rfl) (fun _ _ _ h => h) (Or.inl ⟨by rfl, ?_⟩) hHeld0 ?_
      rotate_left
      · (intro w' hSw; (try dsimp only at hSw); go_simp; all_goals (with_reducible rfl))
      try simp only [Act.put, sA, sB, sC]
      refine wpAnyH_take (i := 2) (oi := ⟨some 16, _, _, _, _, _⟩) (v := ?_) rfl (by kernel_rfl) (by kernel_rfl) (by kernel_rfl) (fun _ _ _ h => h) (Or.inl ⟨by rfl, ?_⟩) hHeld0 ?_
      rotate_left
      · (intro w' hSw; (try dsimp only at hSw); go_simp; all_goals (with_reducible rfl))
      try simp only [Act.put, sA, sB, sC]
      refine wpAnyH_ready (rs := [1]) (by kernel_rfl) (by simp) (AllReadyH.cons (o := ⟨some 15, _, _, _, _, _⟩) rfl (fun K hK => ?_) AllReadyH.nil)
      go_simp
      (refine (rstop_any ⟨⟨ga, ta, la⟩, Aa, na, ca⟩ _ ra2.drewH (by show na * 32 ≤ _; omega)).mono ?_; rintro e w3 ⟨rfl, hb3⟩; have X3 := X.drew.below hb3 hlX; have Y3 := Y.drew.below hb3 hlY; have ra3 := (show SRd w2.drew ⟨⟨ga, ta, la⟩, Aa, na, ca⟩ from ra2.drewH).belowH hb3; have rb3 := (show SRd w2.drew ⟨⟨gb, tb, lb⟩, Ab, nb, cb⟩ from rb2.drewH).belowH hb3; have b3 := b2.drew.trans (hb3.mono b2.size); have hlX3 := X3.lt; have hlY3 := Y3.lt; replace x0 := X3.at 0 rfl; replace y0 := Y3.at 0 rfl; replace x1 := X3.at 1 rfl; replace y1 := Y3.at 1 rfl; replace x2 := X3.at 2 rfl; replace y2 := Y3.at 2 rfl)
      go_simp
      refine hK.out _ _ (by exact ⟨⟨x0, x1, x2⟩, y0, y1, y2⟩) (fun hHeld1 => ?_)
      clear hK hHeld0 K
      try simp only [Act.put, sA, sB, sC]
      refine wpAnyH_ready (rs := [3]) (by kernel_rfl) (by simp) (AllReadyH.cons (o := ⟨some 17, _, _, _, _, _⟩) rfl (fun K hK => ?_) AllReadyH.nil)
      go_simp
      (refine (rstop_any ⟨⟨gb, tb, lb⟩, Ab, nb, cb⟩ _ rb3 (by show nb * 32 ≤ _; omega)).mono ?_; rintro e w4 ⟨rfl, hb4⟩; have X4 := X3.below hb4 hlX3; have Y4 := Y3.below hb4 hlY3; have ra4 := ra3.belowH hb4; have rb4 := rb3.belowH hb4; have b4 := b3.trans (hb4.mono b3.size); have hlX4 := X4.lt; have hlY4 := Y4.lt; replace x0 := X4.at 0 rfl; replace y0 := Y4.at 0 rfl; replace x1 := X4.at 1 rfl; replace y1 := Y4.at 1 rfl; replace x2 := X4.at 2 rfl; replace y2 := Y4.at 2 rfl)
      go_simp
      refine hK.out _ _ (by exact ⟨⟨x0, x1, x2⟩, y0, y1, y2⟩) (fun hHeld2 => ?_)
      clear hK hHeld1 K
      try simp only [Act.put, sA, sB, sC]
      refine wpAnyH_take (i := 4) (oi := ⟨some 18, _, _, _, _, _⟩) (v := ?_) rfl (by kernel_rfl) (by kernel_rfl) (by kernel_rfl) (fun _ _ _ h => h) (Or.inl ⟨by rfl, ?_⟩) hHeld2 ?_
      rotate_left
      · (intro w' hSw; (try dsimp only at hSw); go_simp; all_goals (with_reducible rfl))
      try simp only [Act.put, sA, sB, sC]
      refine wpAnyH_done (by kernel_rfl) ?_ _
      clear hb3 hb4 X3 Y3 ra3 rb3 b3 hlX3 hlY3 X Y ra2 rb2 b2 hlX hlY
      have f4x := X4.cold
      have f4y := Y4.cold
      have X5 := (((X4.set 0 (.int .i64 gb)).set 1 (.int .i64 tb)).set 2 (.slice Ab nb cb)).other3 (b' := w.heap.size + 1) (by omega) (.int .i64 ga) (.int .i64 ta) (.slice Aa na ca)
      have Y5 := (((Y4.other3 (b' := w.heap.size) (by omega) (.int .i64 gb) (.int .i64 tb) (.slice Ab nb cb)).set 0 (.int .i64 ga)).set 1 (.int .i64 ta)).set 2 (.slice Aa na ca)
      have b5 := below_set (below_set (below_set (below_set (below_set (below_set b4 (b := w.heap.size) (o := 0) (by omega) (.int .i64 gb)) (b := w.heap.size) (o := 1) (by omega) (.int .i64 tb)) (b := w.heap.size) (o := 2) (by omega) (.slice Ab nb cb)) (b := w.heap.size + 1) (o := 0) (by omega) (.int .i64 ga)) (b := w.heap.size + 1) (o := 1) (by omega) (.int .i64 ta)) (b := w.heap.size + 1) (o := 2) (by omega) (.slice Aa na ca)
      have ra5 := H0.out.belowH b5
      have rb5 := H0'.out.belowH b5
      have hlX5 := X5.lt
      have hlY5 := Y5.lt
      clear X4 Y4 ra4 rb4 b4 hlX4 hlY4
      go_wp2_with fail
      have X5' : Box _ w.heap.size 40 #[.int .i64 gb, .int .i64 tb, .slice Ab nb cb] := X5
      have Y5' : Box _ (w.heap.size + 1) 40 #[.int .i64 ga, .int .i64 ta, .slice Aa na ca] := Y5
      clear X5 Y5 hHeld2 f4x f4y
      have X5 := X5'
      have Y5 := Y5'
      clear X5' Y5'
      generalize ((((((w4.setCell ⟨w.heap.size, 0, none⟩ (.int .i64 gb)).setCell ⟨w.heap.size, 1, none⟩ (.int .i64 tb)).setCell ⟨w.heap.size, 2, none⟩ (.slice Ab nb cb)).setCell ⟨w.heap.size + 1, 0, none⟩ (.int .i64 ga)).setCell ⟨w.heap.size + 1, 1, none⟩ (.int .i64 ta)).setCell ⟨w.heap.size + 1, 2, none⟩ (.slice Aa na ca)) = w5 at *
      refine (rstop_any ⟨⟨gb, tb, lb⟩, Ab, nb, cb⟩ _ rb5 (by show nb * 32 ≤ _; omega)).mono ?_
      rintro e w6 ⟨rfl, hb6⟩
      have X6 := X5.below hb6 hlX5
      have Y6 := Y5.below hb6 hlY5
      have rb6 := rb5.belowH hb6
      have ra6 := ra5.belowH hb6
      have b6 := b5.trans (hb6.mono b5.size)
      have hlX6 := X6.lt
      have hlY6 := Y6.lt
      clear hb6 X5 Y5 rb5 ra5 b5 x0 x1 x2 y0 y1 y2
      have x0 := X6.at 0 rfl
      have y0 := Y6.at 0 rfl
      have x1 := X6.at 1 rfl
      have y1 := Y6.at 1 rfl
      have x2 := X6.at 2 rfl
      have y2 := Y6.at 2 rfl
      go_wp2_with fail
      refine (rstop_any ⟨⟨ga, ta, la⟩, Aa, na, ca⟩ _ ra6 (by show na * 32 ≤ _; omega)).mono ?_
      rintro e w7 ⟨rfl, hb7⟩
      have X7 := X6.below hb7 hlX6
      have Y7 := Y6.below hb7 hlY6
      have rb7 := rb6.belowH hb7
      have ra7 := ra6.belowH hb7
      have b7 := b6.trans (hb7.mono b6.size)
      have hlX7 := X7.lt
      have hlY7 := Y7.lt
      clear hb7 X6 Y6 rb6 ra6 b6 x0 x1 x2 y0 y1 y2
      have x0 := X7.at 0 rfl
      have y0 := Y7.at 0 rfl
      have x1 := X7.at 1 rfl
      have y1 := Y7.at 1 rfl
      have x2 := X7.at 2 rfl
      have y2 := Y7.at 2 rfl
      by_cases he : S.top ⟨gb, tb, lb⟩ = S.top ⟨ga, ta, la⟩
      · have te : (S.top ⟨gb, tb, lb⟩ == S.top ⟨ga, ta, la⟩) = true := beq_iff_eq.2 he
        have HE := Lib.hid he
        clear he
        go_wp2_with fail
        refine (rssame_any ⟨⟨gb, tb, lb⟩, Ab, nb, cb⟩ ⟨⟨ga, ta, la⟩, Aa, na, ca⟩ _ rb7 ra7 (by show nb * 32 ≤ _; omega) (by show na * 32 ≤ _; omega)).mono ?_
        rintro e w8 ⟨rfl, hb8⟩
        go_wp2
        go_ret
        exact ⟨⟨_, rfl, fun hr => L.part_symm (part_same (of_decide_eq_true hr))⟩, b7.trans (hb8.mono b7.size)⟩
      · have te : (S.top ⟨gb, tb, lb⟩ == S.top ⟨ga, ta, la⟩) = false := beq_eq_false_iff_ne.2 he
        have HE := Lib.hid he
        clear he
        generalize ht : S.top ⟨gb, tb, lb⟩ = top at *
        have HT := Lib.hid ht
        clear ht
        go_wp2
        go_loopw [6] (fun i wr => ∃ k : Nat, k ≤ na ∧ i = .int .i64 k ∧ (∀ e ∈ la.take k, e.ver ≤ top → E.get lb e.key = some e) ∧ Box wr (w.heap.size) 40 #[.int .i64 gb, .int .i64 tb, .slice Ab nb cb] ∧ Box wr (w.heap.size + 1) 40 #[.int .i64 ga, .int .i64 ta, .slice Aa na ca] ∧ SRd wr ⟨⟨gb, tb, lb⟩, Ab, nb, cb⟩ ∧ SRd wr ⟨⟨ga, ta, la⟩, Aa, na, ca⟩ ∧ Below w.heap.size w wr) (fun i _ => na - (intOf i).toNat)
        case atStart => exact ⟨0, by omega, rfl, by simp, X7, Y7, rb7, ra7, b7⟩
        case round =>
          obtain ⟨k, hk, rfl, hno, X8, Y8, rb8, ra8, b8⟩ := hrel
          have HN := Lib.hid hno
          have hlX8 := X8.lt
          have hlY8 := Y8.lt
          clear hno X7 Y7 rb7 ra7 b7 x0 x1 x2 y0 y1 y2
          have x0 := X8.at 0 rfl
          have y0 := Y8.at 0 rfl
          have x1 := X8.at 1 rfl
          have y1 := Y8.at 1 rfl
          have x2 := X8.at 2 rfl
          have y2 := Y8.at 2 rfl
          by_cases hlt : k < na
          · obtain ⟨be, oe, en, e1, hbe, hen, z0, z1, z2⟩ := Rd.atE (show Rd wr wr.heap.size 3 Aa na (EC la) from ra8) hlt
            subst e1
            have HEN := Lib.hid hen
            clear hen
            have hk0 : (0 : Int) ≤ (k : Int) := by omega
            go_wp2
            have RP := rb8.drewH
            have RQ := ra8.drewH
            have XX := X8.drew
            have YY := Y8.drew
            have bb := b8.drew
            have hbe' : be < wr.drew.heap.size := hbe
            have zz0 : wr.drew.cell? ⟨be, oe + k * 3, none⟩ = some (.int .i64 en.key) := z0
            have zz1 : wr.drew.cell? ⟨be, oe + k * 3 + 1, none⟩ = some (.int .i64 en.ver) := z1
            have zz2 : wr.drew.cell? ⟨be, oe + k * 3 + 2, none⟩ = some (.string (strB en.val)) := z2
            have XS := Lib.hid XX
            have YS := Lib.hid YY
            have ZS0 := Lib.hid zz0
            have ZS1 := Lib.hid zz1
            have ZS2 := Lib.hid zz2
            have HBE := Lib.hid hbe'
            clear zz0 zz1 zz2 hbe'
            rcases hzz : E.get lb en.key with _ | ez
            · have HZZ := Lib.hid hzz
              clear hzz
              refine wp_region_held_drew (S := (fun w' => ((w'.cell? ⟨w.heap.size, 0, none⟩ = some (.int .i64 gb) ∧ w'.cell? ⟨w.heap.size, 1, none⟩ = some (.int .i64 tb) ∧ w'.cell? ⟨w.heap.size, 2, none⟩ = some (.slice Ab nb cb)) ∧ w'.cell? ⟨w.heap.size + 1, 0, none⟩ = some (.int .i64 ga) ∧ w'.cell? ⟨w.heap.size + 1, 1, none⟩ = some (.int .i64 ta) ∧ w'.cell? ⟨w.heap.size + 1, 2, none⟩ = some (.slice (some ⟨be, oe, none⟩) na ca)) ∧ w'.cell? ⟨be, oe + k * 3, none⟩ = some (.int .i64 en.key))) (by kernel_rfl) (by exact ⟨⟨⟨x0, x1, x2⟩, y0, y1, y2⟩, z0⟩) (fun hHeld0 => ?_)
              clear XX YY X8 Y8 b8 z1 z2
              generalize wr.drew = wd at *
              have bd := Below.refl wd.heap.size wd
              replace x0 := (bd.cell (p := ⟨w.heap.size, 0, none⟩) XS.out.lt).trans (XS.out.at 0 rfl)
              replace y0 := (bd.cell (p := ⟨w.heap.size + 1, 0, none⟩) YS.out.lt).trans (YS.out.at 0 rfl)
              replace x1 := (bd.cell (p := ⟨w.heap.size, 1, none⟩) XS.out.lt).trans (XS.out.at 1 rfl)
              replace y1 := (bd.cell (p := ⟨w.heap.size + 1, 1, none⟩) YS.out.lt).trans (YS.out.at 1 rfl)
              replace x2 := (bd.cell (p := ⟨w.heap.size, 2, none⟩) XS.out.lt).trans (XS.out.at 2 rfl)
              replace y2 := (bd.cell (p := ⟨w.heap.size + 1, 2, none⟩) YS.out.lt).trans (YS.out.at 2 rfl)
              replace z0 := (bd.cell (p := ⟨be, oe + k * 3, none⟩) HBE.out).trans ZS0.out
              refine wpAnyH_take (i := 0) (oi := ⟨some 38, _, _, _, _, _⟩) (v := ?_) rfl (by kernel_rfl) (by kernel_rfl) (by kernel_rfl) (fun _ _ _ h => h) (Or.inl ⟨by rfl, ?_⟩) hHeld0 ?_
              rotate_left
              · (intro w' hSw; (try dsimp only at hSw); go_simp; all_goals (with_reducible rfl))
              try simp only [Act.put, sA, sB, sC]
              refine wpAnyH_take (i := 1) (oi := ⟨some 39, _, _, _, _, _⟩) (v := ?_) rfl (by kernel_rfl) (by kernel_rfl) (by kernel_rfl) (fun _ _ _ h => h) (Or.inl ⟨by rfl, ?_⟩) hHeld0 ?_
              rotate_left
              · (intro w' hSw; (try dsimp only at hSw); go_simp; all_goals (with_reducible rfl))
              try simp only [Act.put, sA, sB, sC]
              refine wpAnyH_take (i := 2) (oi := ⟨some 40, _, _, _, _, _⟩) (v := ?_) rfl (by kernel_rfl) (by kernel_rfl) (by kernel_rfl) (fun _ _ _ h => h) (Or.inl ⟨by rfl, ?_⟩) hHeld0 ?_
              rotate_left
              · (intro w' hSw; (try dsimp only at hSw); go_simp; all_goals (with_reducible rfl))
              try simp only [Act.put, sA, sB, sC]
              refine wpAnyH_take (i := 3) (oi := ⟨some 41, _, _, _, _, _⟩) (v := ?_) rfl (by kernel_rfl) (by kernel_rfl) (by kernel_rfl) (fun _ _ _ h => h) (Or.inl ⟨by rfl, ?_⟩) hHeld0 ?_
              rotate_left
              · (intro w' hSw; (try dsimp only at hSw); go_simp; all_goals (with_reducible rfl))
              try simp only [Act.put, sA, sB, sC]
              refine wpAnyH_take (i := 4) (oi := ⟨some 42, _, _, _, _, _⟩) (v := ?_) rfl (by kernel_rfl) (by kernel_rfl) (by kernel_rfl) (fun _ _ _ h => h) (Or.inl ⟨by rfl, ?_⟩) hHeld0 ?_
              rotate_left
              · (intro w' hSw; (try dsimp only at hSw); go_simp; all_goals (with_reducible rfl))
              try simp only [Act.put, sA, sB, sC]
              refine wpAnyH_take (i := 5) (oi := ⟨some 43, _, _, _, _, _⟩) (v := ?_) rfl (by kernel_rfl) (by kernel_rfl) (by kernel_rfl) (fun _ _ _ h => h) (Or.inl ⟨by rfl, ?_⟩) hHeld0 ?_
              rotate_left
              · (intro w' hSw; (try dsimp only at hSw); go_simp; all_goals (with_reducible rfl))
              try simp only [Act.put, sA, sB, sC]
              refine wpAnyH_take (i := 6) (oi := ⟨some 44, _, _, _, _, _⟩) (v := ?_) rfl (by kernel_rfl) (by kernel_rfl) (by kernel_rfl) (fun _ _ _ h => h) (Or.inl ⟨by rfl, ?_⟩) hHeld0 ?_
              rotate_left
              · (intro w' hSw; (try dsimp only at hSw); go_simp; all_goals (with_reducible rfl))
              try simp only [Act.put, sA, sB, sC]
              refine wpAnyH_take (i := 7) (oi := ⟨some 45, _, _, _, _, _⟩) (v := ?_) rfl (by kernel_rfl) (by kernel_rfl) (by kernel_rfl) (fun _ _ _ h => h) (Or.inl ⟨by rfl, ?_⟩) hHeld0 ?_
              rotate_left
              · (intro w' hSw; (try dsimp only at hSw); go_simp; all_goals (with_reducible rfl))
              try simp only [Act.put, sA, sB, sC]
              refine wpAnyH_ready (rs := [8, 12]) (by kernel_rfl) (by simp) (AllReadyH.cons (o := ⟨some 46, _, _, _, _, _⟩) rfl (fun K hK => ?_) (AllReadyH.cons (o := ⟨some 7, _, _, _, _, _⟩) rfl (fun K hK => ?_) AllReadyH.nil))
              · skip
                go_simp
                have cg := rget_any lb en.key Ab nb cb _ wd (show Rd _ _ 3 Ab nb (EC lb) from RP.belowH bd) (Nat.le_refl _) (by omega)
                rw [HZZ.out] at cg
                simp only [getV, ev, Option.isSome_none, Option.isSome_some] at cg
                refine cg.mono ?_
                rintro e wg ⟨rfl, hbg⟩
                clear cg
                replace bd := bd.trans (hbg.mono bd.size)
                clear hbg
                replace x0 := (bd.cell (p := ⟨w.heap.size, 0, none⟩) XS.out.lt).trans (XS.out.at 0 rfl)
                replace y0 := (bd.cell (p := ⟨w.heap.size + 1, 0, none⟩) YS.out.lt).trans (YS.out.at 0 rfl)
                replace x1 := (bd.cell (p := ⟨w.heap.size, 1, none⟩) XS.out.lt).trans (XS.out.at 1 rfl)
                replace y1 := (bd.cell (p := ⟨w.heap.size + 1, 1, none⟩) YS.out.lt).trans (YS.out.at 1 rfl)
                replace x2 := (bd.cell (p := ⟨w.heap.size, 2, none⟩) XS.out.lt).trans (XS.out.at 2 rfl)
                replace y2 := (bd.cell (p := ⟨w.heap.size + 1, 2, none⟩) YS.out.lt).trans (YS.out.at 2 rfl)
                replace z0 := (bd.cell (p := ⟨be, oe + k * 3, none⟩) HBE.out).trans ZS0.out
                go_simp
                refine hK.out _ _ (by exact ⟨⟨⟨x0, x1, x2⟩, y0, y1, y2⟩, z0⟩) (fun hHeld1 => ?_)
                clear hK hHeld0 K
                try simp only [Act.put, sA, sB, sC]
                refine wpAnyH_take (i := 9) (oi := ⟨some 37, _, _, _, _, _⟩) (v := ?_) rfl (by kernel_rfl) (by kernel_rfl) (by kernel_rfl) (fun _ _ _ h => h) (Or.inl ⟨by rfl, ?_⟩) hHeld1 ?_
                rotate_left
                · (intro w' hSw; (try dsimp only at hSw); go_simp; all_goals (with_reducible rfl))
                try simp only [Act.put, sA, sB, sC]
                refine wpAnyH_take (i := 10) (oi := ⟨some 47, _, _, _, _, _⟩) (v := ?_) rfl (by kernel_rfl) (by kernel_rfl) (by kernel_rfl) (fun _ _ _ h => h) (Or.inl ⟨by rfl, ?_⟩) hHeld1 ?_
                rotate_left
                · (intro w' hSw; (try dsimp only at hSw); go_simp; all_goals (with_reducible rfl))
                try simp only [Act.put, sA, sB, sC]
                refine wpAnyH_take (i := 11) (oi := ⟨some 48, _, _, _, _, _⟩) (v := ?_) rfl (by kernel_rfl) (by kernel_rfl) (by kernel_rfl) (fun _ _ _ h => h) (Or.inl ⟨by rfl, ?_⟩) hHeld1 ?_
                rotate_left
                · (intro w' hSw; (try dsimp only at hSw); go_simp; all_goals (with_reducible rfl))
                try simp only [Act.put, sA, sB, sC]
                refine wpAnyH_ready (rs := [12]) (by kernel_rfl) (by simp) (AllReadyH.cons (o := ⟨some 7, _, _, _, _, _⟩) rfl (fun K hK => ?_) AllReadyH.nil)
                go_simp
                have bd0 := bd
                have hbz := bd.size
                have ZB := Box.new wg #[.int .i64 0, .int .i64 0, .string ByteArray.empty] 58
                replace bd := bd.alloc bd.size (.cells #[.int .i64 0, .int .i64 0, .string ByteArray.empty] 58)
                replace x0 := (bd.cell (p := ⟨w.heap.size, 0, none⟩) XS.out.lt).trans (XS.out.at 0 rfl)
                replace y0 := (bd.cell (p := ⟨w.heap.size + 1, 0, none⟩) YS.out.lt).trans (YS.out.at 0 rfl)
                replace x1 := (bd.cell (p := ⟨w.heap.size, 1, none⟩) XS.out.lt).trans (XS.out.at 1 rfl)
                replace y1 := (bd.cell (p := ⟨w.heap.size + 1, 1, none⟩) YS.out.lt).trans (YS.out.at 1 rfl)
                replace x2 := (bd.cell (p := ⟨w.heap.size, 2, none⟩) XS.out.lt).trans (XS.out.at 2 rfl)
                replace y2 := (bd.cell (p := ⟨w.heap.size + 1, 2, none⟩) YS.out.lt).trans (YS.out.at 2 rfl)
                replace z0 := (bd.cell (p := ⟨be, oe + k * 3, none⟩) HBE.out).trans ZS0.out
                go_simp
                refine hK.out _ _ (by exact ⟨⟨⟨x0, x1, x2⟩, y0, y1, y2⟩, z0⟩) (fun hHeld2 => ?_)
                clear hK hHeld1 K
                try simp only [Act.put, sA, sB, sC]
                refine wpAnyH_ready (rs := [13]) (by kernel_rfl) (by simp) (AllReadyH.cons (o := ⟨none, _, _, _, _, _⟩) rfl (fun K hK => ?_) AllReadyH.nil)
                have q0 := ZB.at 0 rfl
                have q1 := ZB.at 1 rfl
                have q2 := ZB.at 2 rfl
                have qf := ZB.cold
                have ql := ZB.lt
                go_simp
                replace bd := bd0.alloc bd0.size (.cells #[.int .i64 0, .int .i64 0, .string ⟨#[]⟩] 58)
                have ZB' := Box.new wg #[.int .i64 0, .int .i64 0, .string ⟨#[]⟩] 58
                clear bd0
                clear ZB q0 q1 q2 qf ql
                replace x0 := (bd.cell (p := ⟨w.heap.size, 0, none⟩) XS.out.lt).trans (XS.out.at 0 rfl)
                replace y0 := (bd.cell (p := ⟨w.heap.size + 1, 0, none⟩) YS.out.lt).trans (YS.out.at 0 rfl)
                replace x1 := (bd.cell (p := ⟨w.heap.size, 1, none⟩) XS.out.lt).trans (XS.out.at 1 rfl)
                replace y1 := (bd.cell (p := ⟨w.heap.size + 1, 1, none⟩) YS.out.lt).trans (YS.out.at 1 rfl)
                replace x2 := (bd.cell (p := ⟨w.heap.size, 2, none⟩) XS.out.lt).trans (XS.out.at 2 rfl)
                replace y2 := (bd.cell (p := ⟨w.heap.size + 1, 2, none⟩) YS.out.lt).trans (YS.out.at 2 rfl)
                replace z0 := (bd.cell (p := ⟨be, oe + k * 3, none⟩) HBE.out).trans ZS0.out
                refine hK.out _ _ (by exact ⟨⟨⟨x0, x1, x2⟩, y0, y1, y2⟩, z0⟩) (fun hHeld3 => ?_)
                clear hK hHeld2 K
                try simp only [Act.put, sA, sB, sC]
                clear x0 x1 x2 y0 y1 y2 z0 hbz
                have XE := XS.out.below bd XS.out.lt
                have YE := YS.out.below bd YS.out.lt
                have RPE := RP.belowH bd
                have RQE := RQ.belowH bd
                have be' := bb.trans (bd.mono bb.size)
                have z0 := (bd.cell (p := ⟨be, oe + k * 3, none⟩) HBE.out).trans ZS0.out
                have z1 := (bd.cell (p := ⟨be, oe + k * 3 + 1, none⟩) HBE.out).trans ZS1.out
                have z2 := (bd.cell (p := ⟨be, oe + k * 3 + 2, none⟩) HBE.out).trans ZS2.out
                clear bd RP RQ XS YS ZS0 ZS1 ZS2 HBE bb
                generalize (wg.alloc (.cells #[.int .i64 0, .int .i64 0, .string ⟨#[]⟩] 58)) = we at *
                refine wpAnyH_take (i := 14) (oi := ⟨some 8, _, _, _, _, _⟩) (v := ?_) rfl (by kernel_rfl) (by kernel_rfl) (by kernel_rfl) (fun _ _ _ h => h) (Or.inl ⟨by rfl, ?_⟩) hHeld3 ?_
                rotate_left
                · (intro w' hSw; (try dsimp only at hSw); go_simp; all_goals (with_reducible rfl))
                try simp only [Act.put, sA, sB, sC]
                refine wpAnyH_done (by kernel_rfl) ?_ _
                clear hHeld3
                have x0 := XE.at 0 rfl
                have y0 := YE.at 0 rfl
                have x1 := XE.at 1 rfl
                have y1 := YE.at 1 rfl
                have x2 := XE.at 2 rfl
                have y2 := YE.at 2 rfl
                have q0 := ZB'.at 0 rfl
                have q1 := ZB'.at 1 rfl
                have q2 := ZB'.at 2 rfl
                go_wp2
                by_cases hv : en.ver ≤ top
                · have tv : decide (en.ver ≤ top) = true := decide_eq_true hv
                  have HV := Lib.hid hv
                  clear hv
                  go_quiet (fail)
                  go_wp2
                  go_ret
                  exact ⟨⟨_, rfl, fun hr => by cases hr⟩, below_dn be' nq⟩
                · have tv : decide (en.ver ≤ top) = false := decide_eq_false hv
                  have HV := Lib.hid hv
                  clear hv
                  go_quiet (fail)
                  go_wp2
                  go_roundw
                  case rel => exact ⟨k + 1, by omega, by go_num, fun x hx hv => (by rw [take_more HEN.out] at hx; rcases List.mem_append.1 hx with hx | hx; exact HN.out x hx hv; obtain rfl : x = en := (by simpa using hx); exact absurd hv (by have hq := HV.out; omega)), XE.drewN nq, YE.drewN nq, RPE.drewN nq, RQE.drewN nq, below_dn be' nq⟩
                  case measure => simp [intOf]; omega
              · skip
                go_simp
                have bd0 := bd
                have hbz := bd.size
                have ZB := Box.new wd #[.int .i64 0, .int .i64 0, .string ByteArray.empty] 58
                replace bd := bd.alloc bd.size (.cells #[.int .i64 0, .int .i64 0, .string ByteArray.empty] 58)
                replace x0 := (bd.cell (p := ⟨w.heap.size, 0, none⟩) XS.out.lt).trans (XS.out.at 0 rfl)
                replace y0 := (bd.cell (p := ⟨w.heap.size + 1, 0, none⟩) YS.out.lt).trans (YS.out.at 0 rfl)
                replace x1 := (bd.cell (p := ⟨w.heap.size, 1, none⟩) XS.out.lt).trans (XS.out.at 1 rfl)
                replace y1 := (bd.cell (p := ⟨w.heap.size + 1, 1, none⟩) YS.out.lt).trans (YS.out.at 1 rfl)
                replace x2 := (bd.cell (p := ⟨w.heap.size, 2, none⟩) XS.out.lt).trans (XS.out.at 2 rfl)
                replace y2 := (bd.cell (p := ⟨w.heap.size + 1, 2, none⟩) YS.out.lt).trans (YS.out.at 2 rfl)
                replace z0 := (bd.cell (p := ⟨be, oe + k * 3, none⟩) HBE.out).trans ZS0.out
                go_simp
                refine hK.out _ _ (by exact ⟨⟨⟨x0, x1, x2⟩, y0, y1, y2⟩, z0⟩) (fun hHeld1 => ?_)
                clear hK hHeld0 K
                try simp only [Act.put, sA, sB, sC]
                refine wpAnyH_ready (rs := [8]) (by kernel_rfl) (by simp) (AllReadyH.cons (o := ⟨some 46, _, _, _, _, _⟩) rfl (fun K hK => ?_) AllReadyH.nil)
                go_simp
                have cg := rget_any lb en.key Ab nb cb _ (wd.alloc (.cells #[.int .i64 0, .int .i64 0, .string ByteArray.empty] 58)) (show Rd _ _ 3 Ab nb (EC lb) from RP.belowH bd) (Nat.le_refl _) (by omega)
                rw [HZZ.out] at cg
                simp only [getV, ev, Option.isSome_none, Option.isSome_some] at cg
                refine cg.mono ?_
                rintro e wg ⟨rfl, hbg⟩
                clear cg
                replace bd := bd.trans (hbg.mono bd.size)
                replace ZB := ZB.belowH hbg
                clear hbg
                replace x0 := (bd.cell (p := ⟨w.heap.size, 0, none⟩) XS.out.lt).trans (XS.out.at 0 rfl)
                replace y0 := (bd.cell (p := ⟨w.heap.size + 1, 0, none⟩) YS.out.lt).trans (YS.out.at 0 rfl)
                replace x1 := (bd.cell (p := ⟨w.heap.size, 1, none⟩) XS.out.lt).trans (XS.out.at 1 rfl)
                replace y1 := (bd.cell (p := ⟨w.heap.size + 1, 1, none⟩) YS.out.lt).trans (YS.out.at 1 rfl)
                replace x2 := (bd.cell (p := ⟨w.heap.size, 2, none⟩) XS.out.lt).trans (XS.out.at 2 rfl)
                replace y2 := (bd.cell (p := ⟨w.heap.size + 1, 2, none⟩) YS.out.lt).trans (YS.out.at 2 rfl)
                replace z0 := (bd.cell (p := ⟨be, oe + k * 3, none⟩) HBE.out).trans ZS0.out
                go_simp
                refine hK.out _ _ (by exact ⟨⟨⟨x0, x1, x2⟩, y0, y1, y2⟩, z0⟩) (fun hHeld2 => ?_)
                clear hK hHeld1 K
                try simp only [Act.put, sA, sB, sC]
                refine wpAnyH_take (i := 9) (oi := ⟨some 37, _, _, _, _, _⟩) (v := ?_) rfl (by kernel_rfl) (by kernel_rfl) (by kernel_rfl) (fun _ _ _ h => h) (Or.inl ⟨by rfl, ?_⟩) hHeld2 ?_
                rotate_left
                · (intro w' hSw; (try dsimp only at hSw); go_simp; all_goals (with_reducible rfl))
                try simp only [Act.put, sA, sB, sC]
                refine wpAnyH_take (i := 10) (oi := ⟨some 47, _, _, _, _, _⟩) (v := ?_) rfl (by kernel_rfl) (by kernel_rfl) (by kernel_rfl) (fun _ _ _ h => h) (Or.inl ⟨by rfl, ?_⟩) hHeld2 ?_
                rotate_left
                · (intro w' hSw; (try dsimp only at hSw); go_simp; all_goals (with_reducible rfl))
                try simp only [Act.put, sA, sB, sC]
                refine wpAnyH_take (i := 11) (oi := ⟨some 48, _, _, _, _, _⟩) (v := ?_) rfl (by kernel_rfl) (by kernel_rfl) (by kernel_rfl) (fun _ _ _ h => h) (Or.inl ⟨by rfl, ?_⟩) hHeld2 ?_
                rotate_left
                · (intro w' hSw; (try dsimp only at hSw); go_simp; all_goals (with_reducible rfl))
                try simp only [Act.put, sA, sB, sC]
                refine wpAnyH_ready (rs := [13]) (by kernel_rfl) (by simp) (AllReadyH.cons (o := ⟨none, _, _, _, _, _⟩) rfl (fun K hK => ?_) AllReadyH.nil)
                have q0 := ZB.at 0 rfl
                have q1 := ZB.at 1 rfl
                have q2 := ZB.at 2 rfl
                have qf := ZB.cold
                have ql := ZB.lt
                go_simp
                replace bd := below_set (o := 2) (below_set (o := 1) (below_set (o := 0) bd hbz (.int .i64 0)) hbz (.int .i64 0)) hbz (.string ⟨#[]⟩)
                have ZB' : Box _ (wd.heap.size) 58 #[.int .i64 0, .int .i64 0, .string ⟨#[]⟩] := ((ZB.set 0 (.int .i64 0)).set 1 (.int .i64 0)).set 2 (.string ⟨#[]⟩)
                clear bd0
                clear ZB q0 q1 q2 qf ql
                replace x0 := (bd.cell (p := ⟨w.heap.size, 0, none⟩) XS.out.lt).trans (XS.out.at 0 rfl)
                replace y0 := (bd.cell (p := ⟨w.heap.size + 1, 0, none⟩) YS.out.lt).trans (YS.out.at 0 rfl)
                replace x1 := (bd.cell (p := ⟨w.heap.size, 1, none⟩) XS.out.lt).trans (XS.out.at 1 rfl)
                replace y1 := (bd.cell (p := ⟨w.heap.size + 1, 1, none⟩) YS.out.lt).trans (YS.out.at 1 rfl)
                replace x2 := (bd.cell (p := ⟨w.heap.size, 2, none⟩) XS.out.lt).trans (XS.out.at 2 rfl)
                replace y2 := (bd.cell (p := ⟨w.heap.size + 1, 2, none⟩) YS.out.lt).trans (YS.out.at 2 rfl)
                replace z0 := (bd.cell (p := ⟨be, oe + k * 3, none⟩) HBE.out).trans ZS0.out
                refine hK.out _ _ (by exact ⟨⟨⟨x0, x1, x2⟩, y0, y1, y2⟩, z0⟩) (fun hHeld3 => ?_)
                clear hK hHeld2 K
                try simp only [Act.put, sA, sB, sC]
                clear x0 x1 x2 y0 y1 y2 z0 hbz
                have XE := XS.out.below bd XS.out.lt
                have YE := YS.out.below bd YS.out.lt
                have RPE := RP.belowH bd
                have RQE := RQ.belowH bd
                have be' := bb.trans (bd.mono bb.size)
                have z0 := (bd.cell (p := ⟨be, oe + k * 3, none⟩) HBE.out).trans ZS0.out
                have z1 := (bd.cell (p := ⟨be, oe + k * 3 + 1, none⟩) HBE.out).trans ZS1.out
                have z2 := (bd.cell (p := ⟨be, oe + k * 3 + 2, none⟩) HBE.out).trans ZS2.out
                clear bd RP RQ XS YS ZS0 ZS1 ZS2 HBE bb
                generalize ((((wg).setCell ⟨wd.heap.size, 0, none⟩ (.int .i64 0)).setCell ⟨wd.heap.size, 1, none⟩ (.int .i64 0)).setCell ⟨wd.heap.size, 2, none⟩ (.string ⟨#[]⟩)) = we at *
                refine wpAnyH_take (i := 14) (oi := ⟨some 8, _, _, _, _, _⟩) (v := ?_) rfl (by kernel_rfl) (by kernel_rfl) (by kernel_rfl) (fun _ _ _ h => h) (Or.inl ⟨by rfl, ?_⟩) hHeld3 ?_
                rotate_left
                · (intro w' hSw; (try dsimp only at hSw); go_simp; all_goals (with_reducible rfl))
                try simp only [Act.put, sA, sB, sC]
                refine wpAnyH_done (by kernel_rfl) ?_ _
                clear hHeld3
                have x0 := XE.at 0 rfl
                have y0 := YE.at 0 rfl
                have x1 := XE.at 1 rfl
                have y1 := YE.at 1 rfl
                have x2 := XE.at 2 rfl
                have y2 := YE.at 2 rfl
                have q0 := ZB'.at 0 rfl
                have q1 := ZB'.at 1 rfl
                have q2 := ZB'.at 2 rfl
                go_wp2
                by_cases hv : en.ver ≤ top
                · have tv : decide (en.ver ≤ top) = true := decide_eq_true hv
                  have HV := Lib.hid hv
                  clear hv
                  go_quiet (fail)
                  go_wp2
                  go_ret
                  exact ⟨⟨_, rfl, fun hr => by cases hr⟩, below_dn be' nq⟩
                · have tv : decide (en.ver ≤ top) = false := decide_eq_false hv
                  have HV := Lib.hid hv
                  clear hv
                  go_quiet (fail)
                  go_wp2
                  go_roundw
                  case rel => exact ⟨k + 1, by omega, by go_num, fun x hx hv => (by rw [take_more HEN.out] at hx; rcases List.mem_append.1 hx with hx | hx; exact HN.out x hx hv; obtain rfl : x = en := (by simpa using hx); exact absurd hv (by have hq := HV.out; omega)), XE.drewN nq, YE.drewN nq, RPE.drewN nq, RQE.drewN nq, below_dn be' nq⟩
                  case measure => simp [intOf]; omega
            · have HZZ := Lib.hid hzz
              clear hzz
              refine wp_region_held_drew (S := (fun w' => ((w'.cell? ⟨w.heap.size, 0, none⟩ = some (.int .i64 gb) ∧ w'.cell? ⟨w.heap.size, 1, none⟩ = some (.int .i64 tb) ∧ w'.cell? ⟨w.heap.size, 2, none⟩ = some (.slice Ab nb cb)) ∧ w'.cell? ⟨w.heap.size + 1, 0, none⟩ = some (.int .i64 ga) ∧ w'.cell? ⟨w.heap.size + 1, 1, none⟩ = some (.int .i64 ta) ∧ w'.cell? ⟨w.heap.size + 1, 2, none⟩ = some (.slice (some ⟨be, oe, none⟩) na ca)) ∧ w'.cell? ⟨be, oe + k * 3, none⟩ = some (.int .i64 en.key))) (by kernel_rfl) (by exact ⟨⟨⟨x0, x1, x2⟩, y0, y1, y2⟩, z0⟩) (fun hHeld0 => ?_)
              clear XX YY X8 Y8 b8 z1 z2
              generalize wr.drew = wd at *
              have bd := Below.refl wd.heap.size wd
              replace x0 := (bd.cell (p := ⟨w.heap.size, 0, none⟩) XS.out.lt).trans (XS.out.at 0 rfl)
              replace y0 := (bd.cell (p := ⟨w.heap.size + 1, 0, none⟩) YS.out.lt).trans (YS.out.at 0 rfl)
              replace x1 := (bd.cell (p := ⟨w.heap.size, 1, none⟩) XS.out.lt).trans (XS.out.at 1 rfl)
              replace y1 := (bd.cell (p := ⟨w.heap.size + 1, 1, none⟩) YS.out.lt).trans (YS.out.at 1 rfl)
              replace x2 := (bd.cell (p := ⟨w.heap.size, 2, none⟩) XS.out.lt).trans (XS.out.at 2 rfl)
              replace y2 := (bd.cell (p := ⟨w.heap.size + 1, 2, none⟩) YS.out.lt).trans (YS.out.at 2 rfl)
              replace z0 := (bd.cell (p := ⟨be, oe + k * 3, none⟩) HBE.out).trans ZS0.out
              refine wpAnyH_take (i := 0) (oi := ⟨some 38, _, _, _, _, _⟩) (v := ?_) rfl (by kernel_rfl) (by kernel_rfl) (by kernel_rfl) (fun _ _ _ h => h) (Or.inl ⟨by rfl, ?_⟩) hHeld0 ?_
              rotate_left
              · (intro w' hSw; (try dsimp only at hSw); go_simp; all_goals (with_reducible rfl))
              try simp only [Act.put, sA, sB, sC]
              refine wpAnyH_take (i := 1) (oi := ⟨some 39, _, _, _, _, _⟩) (v := ?_) rfl (by kernel_rfl) (by kernel_rfl) (by kernel_rfl) (fun _ _ _ h => h) (Or.inl ⟨by rfl, ?_⟩) hHeld0 ?_
              rotate_left
              · (intro w' hSw; (try dsimp only at hSw); go_simp; all_goals (with_reducible rfl))
              try simp only [Act.put, sA, sB, sC]
              refine wpAnyH_take (i := 2) (oi := ⟨some 40, _, _, _, _, _⟩) (v := ?_) rfl (by kernel_rfl) (by kernel_rfl) (by kernel_rfl) (fun _ _ _ h => h) (Or.inl ⟨by rfl, ?_⟩) hHeld0 ?_
              rotate_left
              · (intro w' hSw; (try dsimp only at hSw); go_simp; all_goals (with_reducible rfl))
              try simp only [Act.put, sA, sB, sC]
              refine wpAnyH_take (i := 3) (oi := ⟨some 41, _, _, _, _, _⟩) (v := ?_) rfl (by kernel_rfl) (by kernel_rfl) (by kernel_rfl) (fun _ _ _ h => h) (Or.inl ⟨by rfl, ?_⟩) hHeld0 ?_
              rotate_left
              · (intro w' hSw; (try dsimp only at hSw); go_simp; all_goals (with_reducible rfl))
              try simp only [Act.put, sA, sB, sC]
              refine wpAnyH_take (i := 4) (oi := ⟨some 42, _, _, _, _, _⟩) (v := ?_) rfl (by kernel_rfl) (by kernel_rfl) (by kernel_rfl) (fun _ _ _ h => h) (Or.inl ⟨by rfl, ?_⟩) hHeld0 ?_
              rotate_left
              · (intro w' hSw; (try dsimp only at hSw); go_simp; all_goals (with_reducible rfl))
              try simp only [Act.put, sA, sB, sC]
              refine wpAnyH_take (i := 5) (oi := ⟨some 43, _, _, _, _, _⟩) (v := ?_) rfl (by kernel_rfl) (by kernel_rfl) (by kernel_rfl) (fun _ _ _ h => h) (Or.inl ⟨by rfl, ?_⟩) hHeld0 ?_
              rotate_left
              · (intro w' hSw; (try dsimp only at hSw); go_simp; all_goals (with_reducible rfl))
              try simp only [Act.put, sA, sB, sC]
              refine wpAnyH_take (i := 6) (oi := ⟨some 44, _, _, _, _, _⟩) (v := ?_) rfl (by kernel_rfl) (by kernel_rfl) (by kernel_rfl) (fun _ _ _ h => h) (Or.inl ⟨by rfl, ?_⟩) hHeld0 ?_
              rotate_left
              · (intro w' hSw; (try dsimp only at hSw); go_simp; all_goals (with_reducible rfl))
              try simp only [Act.put, sA, sB, sC]
              refine wpAnyH_take (i := 7) (oi := ⟨some 45, _, _, _, _, _⟩) (v := ?_) rfl (by kernel_rfl) (by kernel_rfl) (by kernel_rfl) (fun _ _ _ h => h) (Or.inl ⟨by rfl, ?_⟩) hHeld0 ?_
              rotate_left
              · (intro w' hSw; (try dsimp only at hSw); go_simp; all_goals (with_reducible rfl))
              try simp only [Act.put, sA, sB, sC]
              refine wpAnyH_ready (rs := [8, 12]) (by kernel_rfl) (by simp) (AllReadyH.cons (o := ⟨some 46, _, _, _, _, _⟩) rfl (fun K hK => ?_) (AllReadyH.cons (o := ⟨some 7, _, _, _, _, _⟩) rfl (fun K hK => ?_) AllReadyH.nil))
              · skip
                go_simp
                have cg := rget_any lb en.key Ab nb cb _ wd (show Rd _ _ 3 Ab nb (EC lb) from RP.belowH bd) (Nat.le_refl _) (by omega)
                rw [HZZ.out] at cg
                simp only [getV, ev, Option.isSome_none, Option.isSome_some] at cg
                refine cg.mono ?_
                rintro e wg ⟨rfl, hbg⟩
                clear cg
                replace bd := bd.trans (hbg.mono bd.size)
                clear hbg
                replace x0 := (bd.cell (p := ⟨w.heap.size, 0, none⟩) XS.out.lt).trans (XS.out.at 0 rfl)
                replace y0 := (bd.cell (p := ⟨w.heap.size + 1, 0, none⟩) YS.out.lt).trans (YS.out.at 0 rfl)
                replace x1 := (bd.cell (p := ⟨w.heap.size, 1, none⟩) XS.out.lt).trans (XS.out.at 1 rfl)
                replace y1 := (bd.cell (p := ⟨w.heap.size + 1, 1, none⟩) YS.out.lt).trans (YS.out.at 1 rfl)
                replace x2 := (bd.cell (p := ⟨w.heap.size, 2, none⟩) XS.out.lt).trans (XS.out.at 2 rfl)
                replace y2 := (bd.cell (p := ⟨w.heap.size + 1, 2, none⟩) YS.out.lt).trans (YS.out.at 2 rfl)
                replace z0 := (bd.cell (p := ⟨be, oe + k * 3, none⟩) HBE.out).trans ZS0.out
                go_simp
                refine hK.out _ _ (by exact ⟨⟨⟨x0, x1, x2⟩, y0, y1, y2⟩, z0⟩) (fun hHeld1 => ?_)
                clear hK hHeld0 K
                try simp only [Act.put, sA, sB, sC]
                refine wpAnyH_take (i := 9) (oi := ⟨some 37, _, _, _, _, _⟩) (v := ?_) rfl (by kernel_rfl) (by kernel_rfl) (by kernel_rfl) (fun _ _ _ h => h) (Or.inl ⟨by rfl, ?_⟩) hHeld1 ?_
                rotate_left
                · (intro w' hSw; (try dsimp only at hSw); go_simp; all_goals (with_reducible rfl))
                try simp only [Act.put, sA, sB, sC]
                refine wpAnyH_take (i := 10) (oi := ⟨some 47, _, _, _, _, _⟩) (v := ?_) rfl (by kernel_rfl) (by kernel_rfl) (by kernel_rfl) (fun _ _ _ h => h) (Or.inl ⟨by rfl, ?_⟩) hHeld1 ?_
                rotate_left
                · (intro w' hSw; (try dsimp only at hSw); go_simp; all_goals (with_reducible rfl))
                try simp only [Act.put, sA, sB, sC]
                refine wpAnyH_take (i := 11) (oi := ⟨some 48, _, _, _, _, _⟩) (v := ?_) rfl (by kernel_rfl) (by kernel_rfl) (by kernel_rfl) (fun _ _ _ h => h) (Or.inl ⟨by rfl, ?_⟩) hHeld1 ?_
                rotate_left
                · (intro w' hSw; (try dsimp only at hSw); go_simp; all_goals (with_reducible rfl))
                try simp only [Act.put, sA, sB, sC]
                refine wpAnyH_ready (rs := [12]) (by kernel_rfl) (by simp) (AllReadyH.cons (o := ⟨some 7, _, _, _, _, _⟩) rfl (fun K hK => ?_) AllReadyH.nil)
                go_simp
                have bd0 := bd
                have hbz := bd.size
                have ZB := Box.new wg #[.int .i64 0, .int .i64 0, .string ByteArray.empty] 58
                replace bd := bd.alloc bd.size (.cells #[.int .i64 0, .int .i64 0, .string ByteArray.empty] 58)
                replace x0 := (bd.cell (p := ⟨w.heap.size, 0, none⟩) XS.out.lt).trans (XS.out.at 0 rfl)
                replace y0 := (bd.cell (p := ⟨w.heap.size + 1, 0, none⟩) YS.out.lt).trans (YS.out.at 0 rfl)
                replace x1 := (bd.cell (p := ⟨w.heap.size, 1, none⟩) XS.out.lt).trans (XS.out.at 1 rfl)
                replace y1 := (bd.cell (p := ⟨w.heap.size + 1, 1, none⟩) YS.out.lt).trans (YS.out.at 1 rfl)
                replace x2 := (bd.cell (p := ⟨w.heap.size, 2, none⟩) XS.out.lt).trans (XS.out.at 2 rfl)
                replace y2 := (bd.cell (p := ⟨w.heap.size + 1, 2, none⟩) YS.out.lt).trans (YS.out.at 2 rfl)
                replace z0 := (bd.cell (p := ⟨be, oe + k * 3, none⟩) HBE.out).trans ZS0.out
                go_simp
                refine hK.out _ _ (by exact ⟨⟨⟨x0, x1, x2⟩, y0, y1, y2⟩, z0⟩) (fun hHeld2 => ?_)
                clear hK hHeld1 K
                try simp only [Act.put, sA, sB, sC]
                refine wpAnyH_ready (rs := [13]) (by kernel_rfl) (by simp) (AllReadyH.cons (o := ⟨none, _, _, _, _, _⟩) rfl (fun K hK => ?_) AllReadyH.nil)
                have q0 := ZB.at 0 rfl
                have q1 := ZB.at 1 rfl
                have q2 := ZB.at 2 rfl
                have qf := ZB.cold
                have ql := ZB.lt
                go_simp
                replace bd := bd0.alloc bd0.size (.cells #[.int .i64 ez.key, .int .i64 ez.ver, .string (strB ez.val)] 58)
                have ZB' := Box.new wg #[.int .i64 ez.key, .int .i64 ez.ver, .string (strB ez.val)] 58
                clear bd0
                clear ZB q0 q1 q2 qf ql
                replace x0 := (bd.cell (p := ⟨w.heap.size, 0, none⟩) XS.out.lt).trans (XS.out.at 0 rfl)
                replace y0 := (bd.cell (p := ⟨w.heap.size + 1, 0, none⟩) YS.out.lt).trans (YS.out.at 0 rfl)
                replace x1 := (bd.cell (p := ⟨w.heap.size, 1, none⟩) XS.out.lt).trans (XS.out.at 1 rfl)
                replace y1 := (bd.cell (p := ⟨w.heap.size + 1, 1, none⟩) YS.out.lt).trans (YS.out.at 1 rfl)
                replace x2 := (bd.cell (p := ⟨w.heap.size, 2, none⟩) XS.out.lt).trans (XS.out.at 2 rfl)
                replace y2 := (bd.cell (p := ⟨w.heap.size + 1, 2, none⟩) YS.out.lt).trans (YS.out.at 2 rfl)
                replace z0 := (bd.cell (p := ⟨be, oe + k * 3, none⟩) HBE.out).trans ZS0.out
                refine hK.out _ _ (by exact ⟨⟨⟨x0, x1, x2⟩, y0, y1, y2⟩, z0⟩) (fun hHeld3 => ?_)
                clear hK hHeld2 K
                try simp only [Act.put, sA, sB, sC]
                clear x0 x1 x2 y0 y1 y2 z0 hbz
                have XE := XS.out.below bd XS.out.lt
                have YE := YS.out.below bd YS.out.lt
                have RPE := RP.belowH bd
                have RQE := RQ.belowH bd
                have be' := bb.trans (bd.mono bb.size)
                have z0 := (bd.cell (p := ⟨be, oe + k * 3, none⟩) HBE.out).trans ZS0.out
                have z1 := (bd.cell (p := ⟨be, oe + k * 3 + 1, none⟩) HBE.out).trans ZS1.out
                have z2 := (bd.cell (p := ⟨be, oe + k * 3 + 2, none⟩) HBE.out).trans ZS2.out
                clear bd RP RQ XS YS ZS0 ZS1 ZS2 HBE bb
                generalize (wg.alloc (.cells #[.int .i64 ez.key, .int .i64 ez.ver, .string (strB ez.val)] 58)) = we at *
                refine wpAnyH_take (i := 14) (oi := ⟨some 8, _, _, _, _, _⟩) (v := ?_) rfl (by kernel_rfl) (by kernel_rfl) (by kernel_rfl) (fun _ _ _ h => h) (Or.inl ⟨by rfl, ?_⟩) hHeld3 ?_
                rotate_left
                · (intro w' hSw; (try dsimp only at hSw); go_simp; all_goals (with_reducible rfl))
                try simp only [Act.put, sA, sB, sC]
                refine wpAnyH_done (by kernel_rfl) ?_ _
                clear hHeld3
                have x0 := XE.at 0 rfl
                have y0 := YE.at 0 rfl
                have x1 := XE.at 1 rfl
                have y1 := YE.at 1 rfl
                have x2 := XE.at 2 rfl
                have y2 := YE.at 2 rfl
                have q0 := ZB'.at 0 rfl
                have q1 := ZB'.at 1 rfl
                have q2 := ZB'.at 2 rfl
                go_wp2
                by_cases hv : en.ver ≤ top
                · have tv : decide (en.ver ≤ top) = true := decide_eq_true hv
                  have HV := Lib.hid hv
                  clear hv
                  have heq := fun w => eq_ent ez en w
                  have hgd := guard_ent
                  rcases hee : eqB ez en
                  · rw [hee] at heq
                    clear hee
                    go_quiet (fail)
                    go_wp2
                    go_ret
                    exact ⟨⟨_, rfl, fun hr => by cases hr⟩, below_dn be' nq⟩
                  · have HEE : Hid (ez = en) := Lib.hid (of_decide_eq_true hee)
                    rw [hee] at heq
                    clear hee
                    go_quiet (fail)
                    go_wp2
                    go_roundw
                    case rel => exact ⟨k + 1, by omega, by go_num, fun x hx hv => (by rw [take_more HEN.out] at hx; rcases List.mem_append.1 hx with hx | hx; exact HN.out x hx hv; obtain rfl : x = en := (by simpa using hx); rw [HZZ.out, HEE.out]), XE.drewN nq, YE.drewN nq, RPE.drewN nq, RQE.drewN nq, below_dn be' nq⟩
                    case measure => simp [intOf]; omega
                · have tv : decide (en.ver ≤ top) = false := decide_eq_false hv
                  have HV := Lib.hid hv
                  clear hv
                  go_quiet (fail)
                  go_wp2
                  go_roundw
                  case rel => exact ⟨k + 1, by omega, by go_num, fun x hx hv => (by rw [take_more HEN.out] at hx; rcases List.mem_append.1 hx with hx | hx; exact HN.out x hx hv; obtain rfl : x = en := (by simpa using hx); exact absurd hv (by have hq := HV.out; omega)), XE.drewN nq, YE.drewN nq, RPE.drewN nq, RQE.drewN nq, below_dn be' nq⟩
                  case measure => simp [intOf]; omega
              · skip
                go_simp
                have bd0 := bd
                have hbz := bd.size
                have ZB := Box.new wd #[.int .i64 0, .int .i64 0, .string ByteArray.empty] 58
                replace bd := bd.alloc bd.size (.cells #[.int .i64 0, .int .i64 0, .string ByteArray.empty] 58)
                replace x0 := (bd.cell (p := ⟨w.heap.size, 0, none⟩) XS.out.lt).trans (XS.out.at 0 rfl)
                replace y0 := (bd.cell (p := ⟨w.heap.size + 1, 0, none⟩) YS.out.lt).trans (YS.out.at 0 rfl)
                replace x1 := (bd.cell (p := ⟨w.heap.size, 1, none⟩) XS.out.lt).trans (XS.out.at 1 rfl)
                replace y1 := (bd.cell (p := ⟨w.heap.size + 1, 1, none⟩) YS.out.lt).trans (YS.out.at 1 rfl)
                replace x2 := (bd.cell (p := ⟨w.heap.size, 2, none⟩) XS.out.lt).trans (XS.out.at 2 rfl)
                replace y2 := (bd.cell (p := ⟨w.heap.size + 1, 2, none⟩) YS.out.lt).trans (YS.out.at 2 rfl)
                replace z0 := (bd.cell (p := ⟨be, oe + k * 3, none⟩) HBE.out).trans ZS0.out
                go_simp
                refine hK.out _ _ (by exact ⟨⟨⟨x0, x1, x2⟩, y0, y1, y2⟩, z0⟩) (fun hHeld1 => ?_)
                clear hK hHeld0 K
                try simp only [Act.put, sA, sB, sC]
                refine wpAnyH_ready (rs := [8]) (by kernel_rfl) (by simp) (AllReadyH.cons (o := ⟨some 46, _, _, _, _, _⟩) rfl (fun K hK => ?_) AllReadyH.nil)
                go_simp
                have cg := rget_any lb en.key Ab nb cb _ (wd.alloc (.cells #[.int .i64 0, .int .i64 0, .string ByteArray.empty] 58)) (show Rd _ _ 3 Ab nb (EC lb) from RP.belowH bd) (Nat.le_refl _) (by omega)
                rw [HZZ.out] at cg
                simp only [getV, ev, Option.isSome_none, Option.isSome_some] at cg
                refine cg.mono ?_
                rintro e wg ⟨rfl, hbg⟩
                clear cg
                replace bd := bd.trans (hbg.mono bd.size)
                replace ZB := ZB.belowH hbg
                clear hbg
                replace x0 := (bd.cell (p := ⟨w.heap.size, 0, none⟩) XS.out.lt).trans (XS.out.at 0 rfl)
                replace y0 := (bd.cell (p := ⟨w.heap.size + 1, 0, none⟩) YS.out.lt).trans (YS.out.at 0 rfl)
                replace x1 := (bd.cell (p := ⟨w.heap.size, 1, none⟩) XS.out.lt).trans (XS.out.at 1 rfl)
                replace y1 := (bd.cell (p := ⟨w.heap.size + 1, 1, none⟩) YS.out.lt).trans (YS.out.at 1 rfl)
                replace x2 := (bd.cell (p := ⟨w.heap.size, 2, none⟩) XS.out.lt).trans (XS.out.at 2 rfl)
                replace y2 := (bd.cell (p := ⟨w.heap.size + 1, 2, none⟩) YS.out.lt).trans (YS.out.at 2 rfl)
                replace z0 := (bd.cell (p := ⟨be, oe + k * 3, none⟩) HBE.out).trans ZS0.out
                go_simp
                refine hK.out _ _ (by exact ⟨⟨⟨x0, x1, x2⟩, y0, y1, y2⟩, z0⟩) (fun hHeld2 => ?_)
                clear hK hHeld1 K
                try simp only [Act.put, sA, sB, sC]
                refine wpAnyH_take (i := 9) (oi := ⟨some 37, _, _, _, _, _⟩) (v := ?_) rfl (by kernel_rfl) (by kernel_rfl) (by kernel_rfl) (fun _ _ _ h => h) (Or.inl ⟨by rfl, ?_⟩) hHeld2 ?_
                rotate_left
                · (intro w' hSw; (try dsimp only at hSw); go_simp; all_goals (with_reducible rfl))
                try simp only [Act.put, sA, sB, sC]
                refine wpAnyH_take (i := 10) (oi := ⟨some 47, _, _, _, _, _⟩) (v := ?_) rfl (by kernel_rfl) (by kernel_rfl) (by kernel_rfl) (fun _ _ _ h => h) (Or.inl ⟨by rfl, ?_⟩) hHeld2 ?_
                rotate_left
                · (intro w' hSw; (try dsimp only at hSw); go_simp; all_goals (with_reducible rfl))
                try simp only [Act.put, sA, sB, sC]
                refine wpAnyH_take (i := 11) (oi := ⟨some 48, _, _, _, _, _⟩) (v := ?_) rfl (by kernel_rfl) (by kernel_rfl) (by kernel_rfl) (fun _ _ _ h => h) (Or.inl ⟨by rfl, ?_⟩) hHeld2 ?_
                rotate_left
                · (intro w' hSw; (try dsimp only at hSw); go_simp; all_goals (with_reducible rfl))
                try simp only [Act.put, sA, sB, sC]
                refine wpAnyH_ready (rs := [13]) (by kernel_rfl) (by simp) (AllReadyH.cons (o := ⟨none, _, _, _, _, _⟩) rfl (fun K hK => ?_) AllReadyH.nil)
                have q0 := ZB.at 0 rfl
                have q1 := ZB.at 1 rfl
                have q2 := ZB.at 2 rfl
                have qf := ZB.cold
                have ql := ZB.lt
                go_simp
                replace bd := below_set (o := 2) (below_set (o := 1) (below_set (o := 0) bd hbz (.int .i64 ez.key)) hbz (.int .i64 ez.ver)) hbz (.string (strB ez.val))
                have ZB' : Box _ (wd.heap.size) 58 #[.int .i64 ez.key, .int .i64 ez.ver, .string (strB ez.val)] := ((ZB.set 0 (.int .i64 ez.key)).set 1 (.int .i64 ez.ver)).set 2 (.string (strB ez.val))
                clear bd0
                clear ZB q0 q1 q2 qf ql
                replace x0 := (bd.cell (p := ⟨w.heap.size, 0, none⟩) XS.out.lt).trans (XS.out.at 0 rfl)
                replace y0 := (bd.cell (p := ⟨w.heap.size + 1, 0, none⟩) YS.out.lt).trans (YS.out.at 0 rfl)
                replace x1 := (bd.cell (p := ⟨w.heap.size, 1, none⟩) XS.out.lt).trans (XS.out.at 1 rfl)
                replace y1 := (bd.cell (p := ⟨w.heap.size + 1, 1, none⟩) YS.out.lt).trans (YS.out.at 1 rfl)
                replace x2 := (bd.cell (p := ⟨w.heap.size, 2, none⟩) XS.out.lt).trans (XS.out.at 2 rfl)
                replace y2 := (bd.cell (p := ⟨w.heap.size + 1, 2, none⟩) YS.out.lt).trans (YS.out.at 2 rfl)
                replace z0 := (bd.cell (p := ⟨be, oe + k * 3, none⟩) HBE.out).trans ZS0.out
                refine hK.out _ _ (by exact ⟨⟨⟨x0, x1, x2⟩, y0, y1, y2⟩, z0⟩) (fun hHeld3 => ?_)
                clear hK hHeld2 K
                try simp only [Act.put, sA, sB, sC]
                clear x0 x1 x2 y0 y1 y2 z0 hbz
                have XE := XS.out.below bd XS.out.lt
                have YE := YS.out.below bd YS.out.lt
                have RPE := RP.belowH bd
                have RQE := RQ.belowH bd
                have be' := bb.trans (bd.mono bb.size)
                have z0 := (bd.cell (p := ⟨be, oe + k * 3, none⟩) HBE.out).trans ZS0.out
                have z1 := (bd.cell (p := ⟨be, oe + k * 3 + 1, none⟩) HBE.out).trans ZS1.out
                have z2 := (bd.cell (p := ⟨be, oe + k * 3 + 2, none⟩) HBE.out).trans ZS2.out
                clear bd RP RQ XS YS ZS0 ZS1 ZS2 HBE bb
                generalize ((((wg).setCell ⟨wd.heap.size, 0, none⟩ (.int .i64 ez.key)).setCell ⟨wd.heap.size, 1, none⟩ (.int .i64 ez.ver)).setCell ⟨wd.heap.size, 2, none⟩ (.string (strB ez.val))) = we at *
                refine wpAnyH_take (i := 14) (oi := ⟨some 8, _, _, _, _, _⟩) (v := ?_) rfl (by kernel_rfl) (by kernel_rfl) (by kernel_rfl) (fun _ _ _ h => h) (Or.inl ⟨by rfl, ?_⟩) hHeld3 ?_
                rotate_left
                · (intro w' hSw; (try dsimp only at hSw); go_simp; all_goals (with_reducible rfl))
                try simp only [Act.put, sA, sB, sC]
                refine wpAnyH_done (by kernel_rfl) ?_ _
                clear hHeld3
                have x0 := XE.at 0 rfl
                have y0 := YE.at 0 rfl
                have x1 := XE.at 1 rfl
                have y1 := YE.at 1 rfl
                have x2 := XE.at 2 rfl
                have y2 := YE.at 2 rfl
                have q0 := ZB'.at 0 rfl
                have q1 := ZB'.at 1 rfl
                have q2 := ZB'.at 2 rfl
                go_wp2
                by_cases hv : en.ver ≤ top
                · have tv : decide (en.ver ≤ top) = true := decide_eq_true hv
                  have HV := Lib.hid hv
                  clear hv
                  have heq := fun w => eq_ent ez en w
                  have hgd := guard_ent
                  rcases hee : eqB ez en
                  · rw [hee] at heq
                    clear hee
                    go_quiet (fail)
                    go_wp2
                    go_ret
                    exact ⟨⟨_, rfl, fun hr => by cases hr⟩, below_dn be' nq⟩
                  · have HEE : Hid (ez = en) := Lib.hid (of_decide_eq_true hee)
                    rw [hee] at heq
                    clear hee
                    go_quiet (fail)
                    go_wp2
                    go_roundw
                    case rel => exact ⟨k + 1, by omega, by go_num, fun x hx hv => (by rw [take_more HEN.out] at hx; rcases List.mem_append.1 hx with hx | hx; exact HN.out x hx hv; obtain rfl : x = en := (by simpa using hx); rw [HZZ.out, HEE.out]), XE.drewN nq, YE.drewN nq, RPE.drewN nq, RQE.drewN nq, below_dn be' nq⟩
                    case measure => simp [intOf]; omega
                · have tv : decide (en.ver ≤ top) = false := decide_eq_false hv
                  have HV := Lib.hid hv
                  clear hv
                  go_quiet (fail)
                  go_wp2
                  go_roundw
                  case rel => exact ⟨k + 1, by omega, by go_num, fun x hx hv => (by rw [take_more HEN.out] at hx; rcases List.mem_append.1 hx with hx | hx; exact HN.out x hx hv; obtain rfl : x = en := (by simpa using hx); exact absurd hv (by have hq := HV.out; omega)), XE.drewN nq, YE.drewN nq, RPE.drewN nq, RQE.drewN nq, below_dn be' nq⟩
                  case measure => simp [intOf]; omega
          · have HALL : Hid (∀ e ∈ la, e.ver ≤ top → E.get lb e.key = some e) := Lib.hid (by have hq := HN.out; rwa [List.take_of_length_le (by have hq2 : la.length = na := ra8.len; omega)] at hq)
            go_wp2_with fail
            refine (rsover_any ⟨⟨ga, ta, la⟩, Aa, na, ca⟩ ⟨⟨gb, tb, lb⟩, Ab, nb, cb⟩ _ ra8 rb8 (by show na ≤ _; omega) (by show nb ≤ _; omega) hra).mono ?_
            rintro e w9 ⟨rfl, hb9⟩
            go_wp2
            go_ret
            exact ⟨⟨_, rfl, fun hr => L.part_symm (part_low (by rw [HT.out]; have hq := HS.out; omega) (by rw [HT.out]; exact HE.out) (fun e he hv => HALL.out e he (by rw [← HT.out]; exact hv)) (soverB_out hr))⟩, b8.trans (hb9.mono b8.size)⟩
    · have ts : decide (S.top ⟨gb, tb, lb⟩ < S.top ⟨ga, ta, la⟩) = false := decide_eq_false hs
      have HS := Lib.hid hs
      clear hs
      refine wp_region_held_drew (S := (fun w' => (w'.cell? ⟨w.heap.size, 0, none⟩ = some (.int .i64 ga) ∧ w'.cell? ⟨w.heap.size, 1, none⟩ = some (.int .i64 ta) ∧ w'.cell? ⟨w.heap.size, 2, none⟩ = some (.slice Aa na ca)) ∧ w'.cell? ⟨w.heap.size + 1, 0, none⟩ = some (.int .i64 gb) ∧ w'.cell? ⟨w.heap.size + 1, 1, none⟩ = some (.int .i64 tb) ∧ w'.cell? ⟨w.heap.size + 1, 2, none⟩ = some (.slice Ab nb cb))) (by kernel_rfl) (by exact ⟨⟨x0, x1, x2⟩, y0, y1, y2⟩) (fun hHeld0 => ?_)
      refine wpAnyH_take (i := 0) (oi := ⟨some 14, _, _, _, _, _⟩) (v := ?_) rfl (by kernel_rfl) (by kernel_rfl) (by kernel_rfl) (fun _ _ _ h => h) (Or.inl ⟨by rfl, ?_⟩) hHeld0 ?_
      rotate_left
      · (intro w' hSw; (try dsimp only at hSw); go_simp; all_goals (with_reducible rfl))
      try simp only [Act.put, sA, sB, sC]
      refine wpAnyH_take (i := 2) (oi := ⟨some 16, _, _, _, _, _⟩) (v := ?_) rfl (by kernel_rfl) (by kernel_rfl) (by kernel_rfl) (fun _ _ _ h => h) (Or.inl ⟨by rfl, ?_⟩) hHeld0 ?_
      rotate_left
      · (intro w' hSw; (try dsimp only at hSw); go_simp; all_goals (with_reducible rfl))
      try simp only [Act.put, sA, sB, sC]
      refine wpAnyH_ready (rs := [1]) (by kernel_rfl) (by simp) (AllReadyH.cons (o := ⟨some 15, _, _, _, _, _⟩) rfl (fun K hK => ?_) AllReadyH.nil)
      go_simp
      (refine (rstop_any ⟨⟨ga, ta, la⟩, Aa, na, ca⟩ _ ra2.drewH (by show na * 32 ≤ _; omega)).mono ?_; rintro e w3 ⟨rfl, hb3⟩; have X3 := X.drew.below hb3 hlX; have Y3 := Y.drew.below hb3 hlY; have ra3 := (show SRd w2.drew ⟨⟨ga, ta, la⟩, Aa, na, ca⟩ from ra2.drewH).belowH hb3; have rb3 := (show SRd w2.drew ⟨⟨gb, tb, lb⟩, Ab, nb, cb⟩ from rb2.drewH).belowH hb3; have b3 := b2.drew.trans (hb3.mono b2.size); have hlX3 := X3.lt; have hlY3 := Y3.lt; replace x0 := X3.at 0 rfl; replace y0 := Y3.at 0 rfl; replace x1 := X3.at 1 rfl; replace y1 := Y3.at 1 rfl; replace x2 := X3.at 2 rfl; replace y2 := Y3.at 2 rfl)
      go_simp
      refine hK.out _ _ (by exact ⟨⟨x0, x1, x2⟩, y0, y1, y2⟩) (fun hHeld1 => ?_)
      clear hK hHeld0 K
      try simp only [Act.put, sA, sB, sC]
      refine wpAnyH_ready (rs := [3]) (by kernel_rfl) (by simp) (AllReadyH.cons (o := ⟨some 17, _, _, _, _, _⟩) rfl (fun K hK => ?_) AllReadyH.nil)
      go_simp
      (refine (rstop_any ⟨⟨gb, tb, lb⟩, Ab, nb, cb⟩ _ rb3 (by show nb * 32 ≤ _; omega)).mono ?_; rintro e w4 ⟨rfl, hb4⟩; have X4 := X3.below hb4 hlX3; have Y4 := Y3.below hb4 hlY3; have ra4 := ra3.belowH hb4; have rb4 := rb3.belowH hb4; have b4 := b3.trans (hb4.mono b3.size); have hlX4 := X4.lt; have hlY4 := Y4.lt; replace x0 := X4.at 0 rfl; replace y0 := Y4.at 0 rfl; replace x1 := X4.at 1 rfl; replace y1 := Y4.at 1 rfl; replace x2 := X4.at 2 rfl; replace y2 := Y4.at 2 rfl)
      go_simp
      refine hK.out _ _ (by exact ⟨⟨x0, x1, x2⟩, y0, y1, y2⟩) (fun hHeld2 => ?_)
      clear hK hHeld1 K
      try simp only [Act.put, sA, sB, sC]
      refine wpAnyH_take (i := 4) (oi := ⟨some 18, _, _, _, _, _⟩) (v := ?_) rfl (by kernel_rfl) (by kernel_rfl) (by kernel_rfl) (fun _ _ _ h => h) (Or.inl ⟨by rfl, ?_⟩) hHeld2 ?_
      rotate_left
      · (intro w' hSw; (try dsimp only at hSw); go_simp; all_goals (with_reducible rfl))
      try simp only [Act.put, sA, sB, sC]
      refine wpAnyH_done (by kernel_rfl) ?_ _
      clear hb3 hb4 X3 Y3 ra3 rb3 b3 hlX3 hlY3 X Y ra2 rb2 b2 hlX hlY
      have X5 := X4
      have Y5 := Y4
      have ra5 := ra4
      have rb5 := rb4
      have b5 := b4
      have hlX5 := X5.lt
      have hlY5 := Y5.lt
      clear X4 Y4 ra4 rb4 b4 hlX4 hlY4
      go_wp2_with fail
      refine (rstop_any ⟨⟨ga, ta, la⟩, Aa, na, ca⟩ _ ra5 (by show na * 32 ≤ _; omega)).mono ?_
      rintro e w6 ⟨rfl, hb6⟩
      have X6 := X5.below hb6 hlX5
      have Y6 := Y5.below hb6 hlY5
      have ra6 := ra5.belowH hb6
      have rb6 := rb5.belowH hb6
      have b6 := b5.trans (hb6.mono b5.size)
      have hlX6 := X6.lt
      have hlY6 := Y6.lt
      clear hb6 X5 Y5 ra5 rb5 b5 x0 x1 x2 y0 y1 y2
      have x0 := X6.at 0 rfl
      have y0 := Y6.at 0 rfl
      have x1 := X6.at 1 rfl
      have y1 := Y6.at 1 rfl
      have x2 := X6.at 2 rfl
      have y2 := Y6.at 2 rfl
      go_wp2_with fail
      refine (rstop_any ⟨⟨gb, tb, lb⟩, Ab, nb, cb⟩ _ rb6 (by show nb * 32 ≤ _; omega)).mono ?_
      rintro e w7 ⟨rfl, hb7⟩
      have X7 := X6.below hb7 hlX6
      have Y7 := Y6.below hb7 hlY6
      have ra7 := ra6.belowH hb7
      have rb7 := rb6.belowH hb7
      have b7 := b6.trans (hb7.mono b6.size)
      have hlX7 := X7.lt
      have hlY7 := Y7.lt
      clear hb7 X6 Y6 ra6 rb6 b6 x0 x1 x2 y0 y1 y2
      have x0 := X7.at 0 rfl
      have y0 := Y7.at 0 rfl
      have x1 := X7.at 1 rfl
      have y1 := Y7.at 1 rfl
      have x2 := X7.at 2 rfl
      have y2 := Y7.at 2 rfl
      by_cases he : S.top ⟨ga, ta, la⟩ = S.top ⟨gb, tb, lb⟩
      · have te : (S.top ⟨ga, ta, la⟩ == S.top ⟨gb, tb, lb⟩) = true := beq_iff_eq.2 he
        have HE := Lib.hid he
        clear he
        go_wp2_with fail
        refine (rssame_any ⟨⟨ga, ta, la⟩, Aa, na, ca⟩ ⟨⟨gb, tb, lb⟩, Ab, nb, cb⟩ _ ra7 rb7 (by show na * 32 ≤ _; omega) (by show nb * 32 ≤ _; omega)).mono ?_
        rintro e w8 ⟨rfl, hb8⟩
        go_wp2
        go_ret
        exact ⟨⟨_, rfl, fun hr => part_same (of_decide_eq_true hr)⟩, b7.trans (hb8.mono b7.size)⟩
      · have te : (S.top ⟨ga, ta, la⟩ == S.top ⟨gb, tb, lb⟩) = false := beq_eq_false_iff_ne.2 he
        have HE := Lib.hid he
        clear he
        generalize ht : S.top ⟨ga, ta, la⟩ = top at *
        have HT := Lib.hid ht
        clear ht
        go_wp2
        go_loopw [6] (fun i wr => ∃ k : Nat, k ≤ nb ∧ i = .int .i64 k ∧ (∀ e ∈ lb.take k, e.ver ≤ top → E.get la e.key = some e) ∧ Box wr (w.heap.size) 40 #[.int .i64 ga, .int .i64 ta, .slice Aa na ca] ∧ Box wr (w.heap.size + 1) 40 #[.int .i64 gb, .int .i64 tb, .slice Ab nb cb] ∧ SRd wr ⟨⟨ga, ta, la⟩, Aa, na, ca⟩ ∧ SRd wr ⟨⟨gb, tb, lb⟩, Ab, nb, cb⟩ ∧ Below w.heap.size w wr) (fun i _ => nb - (intOf i).toNat)
        case atStart => exact ⟨0, by omega, rfl, by simp, X7, Y7, ra7, rb7, b7⟩
        case round =>
          obtain ⟨k, hk, rfl, hno, X8, Y8, ra8, rb8, b8⟩ := hrel
          have HN := Lib.hid hno
          have hlX8 := X8.lt
          have hlY8 := Y8.lt
          clear hno X7 Y7 ra7 rb7 b7 x0 x1 x2 y0 y1 y2
          have x0 := X8.at 0 rfl
          have y0 := Y8.at 0 rfl
          have x1 := X8.at 1 rfl
          have y1 := Y8.at 1 rfl
          have x2 := X8.at 2 rfl
          have y2 := Y8.at 2 rfl
          by_cases hlt : k < nb
          · obtain ⟨be, oe, en, e1, hbe, hen, z0, z1, z2⟩ := Rd.atE (show Rd wr wr.heap.size 3 Ab nb (EC lb) from rb8) hlt
            subst e1
            have HEN := Lib.hid hen
            clear hen
            have hk0 : (0 : Int) ≤ (k : Int) := by omega
            go_wp2
            have RP := ra8.drewH
            have RQ := rb8.drewH
            have XX := X8.drew
            have YY := Y8.drew
            have bb := b8.drew
            have hbe' : be < wr.drew.heap.size := hbe
            have zz0 : wr.drew.cell? ⟨be, oe + k * 3, none⟩ = some (.int .i64 en.key) := z0
            have zz1 : wr.drew.cell? ⟨be, oe + k * 3 + 1, none⟩ = some (.int .i64 en.ver) := z1
            have zz2 : wr.drew.cell? ⟨be, oe + k * 3 + 2, none⟩ = some (.string (strB en.val)) := z2
            have XS := Lib.hid XX
            have YS := Lib.hid YY
            have ZS0 := Lib.hid zz0
            have ZS1 := Lib.hid zz1
            have ZS2 := Lib.hid zz2
            have HBE := Lib.hid hbe'
            clear zz0 zz1 zz2 hbe'
            rcases hzz : E.get la en.key with _ | ez
            · have HZZ := Lib.hid hzz
              clear hzz
              refine wp_region_held_drew (S := (fun w' => ((w'.cell? ⟨w.heap.size, 0, none⟩ = some (.int .i64 ga) ∧ w'.cell? ⟨w.heap.size, 1, none⟩ = some (.int .i64 ta) ∧ w'.cell? ⟨w.heap.size, 2, none⟩ = some (.slice Aa na ca)) ∧ w'.cell? ⟨w.heap.size + 1, 0, none⟩ = some (.int .i64 gb) ∧ w'.cell? ⟨w.heap.size + 1, 1, none⟩ = some (.int .i64 tb) ∧ w'.cell? ⟨w.heap.size + 1, 2, none⟩ = some (.slice (some ⟨be, oe, none⟩) nb cb)) ∧ w'.cell? ⟨be, oe + k * 3, none⟩ = some (.int .i64 en.key))) (by kernel_rfl) (by exact ⟨⟨⟨x0, x1, x2⟩, y0, y1, y2⟩, z0⟩) (fun hHeld0 => ?_)
              clear XX YY X8 Y8 b8 z1 z2
              generalize wr.drew = wd at *
              have bd := Below.refl wd.heap.size wd
              replace x0 := (bd.cell (p := ⟨w.heap.size, 0, none⟩) XS.out.lt).trans (XS.out.at 0 rfl)
              replace y0 := (bd.cell (p := ⟨w.heap.size + 1, 0, none⟩) YS.out.lt).trans (YS.out.at 0 rfl)
              replace x1 := (bd.cell (p := ⟨w.heap.size, 1, none⟩) XS.out.lt).trans (XS.out.at 1 rfl)
              replace y1 := (bd.cell (p := ⟨w.heap.size + 1, 1, none⟩) YS.out.lt).trans (YS.out.at 1 rfl)
              replace x2 := (bd.cell (p := ⟨w.heap.size, 2, none⟩) XS.out.lt).trans (XS.out.at 2 rfl)
              replace y2 := (bd.cell (p := ⟨w.heap.size + 1, 2, none⟩) YS.out.lt).trans (YS.out.at 2 rfl)
              replace z0 := (bd.cell (p := ⟨be, oe + k * 3, none⟩) HBE.out).trans ZS0.out
              refine wpAnyH_take (i := 0) (oi := ⟨some 38, _, _, _, _, _⟩) (v := ?_) rfl (by kernel_rfl) (by kernel_rfl) (by kernel_rfl) (fun _ _ _ h => h) (Or.inl ⟨by rfl, ?_⟩) hHeld0 ?_
              rotate_left
              · (intro w' hSw; (try dsimp only at hSw); go_simp; all_goals (with_reducible rfl))
              try simp only [Act.put, sA, sB, sC]
              refine wpAnyH_take (i := 1) (oi := ⟨some 39, _, _, _, _, _⟩) (v := ?_) rfl (by kernel_rfl) (by kernel_rfl) (by kernel_rfl) (fun _ _ _ h => h) (Or.inl ⟨by rfl, ?_⟩) hHeld0 ?_
              rotate_left
              · (intro w' hSw; (try dsimp only at hSw); go_simp; all_goals (with_reducible rfl))
              try simp only [Act.put, sA, sB, sC]
              refine wpAnyH_take (i := 2) (oi := ⟨some 40, _, _, _, _, _⟩) (v := ?_) rfl (by kernel_rfl) (by kernel_rfl) (by kernel_rfl) (fun _ _ _ h => h) (Or.inl ⟨by rfl, ?_⟩) hHeld0 ?_
              rotate_left
              · (intro w' hSw; (try dsimp only at hSw); go_simp; all_goals (with_reducible rfl))
              try simp only [Act.put, sA, sB, sC]
              refine wpAnyH_take (i := 3) (oi := ⟨some 41, _, _, _, _, _⟩) (v := ?_) rfl (by kernel_rfl) (by kernel_rfl) (by kernel_rfl) (fun _ _ _ h => h) (Or.inl ⟨by rfl, ?_⟩) hHeld0 ?_
              rotate_left
              · (intro w' hSw; (try dsimp only at hSw); go_simp; all_goals (with_reducible rfl))
              try simp only [Act.put, sA, sB, sC]
              refine wpAnyH_take (i := 4) (oi := ⟨some 42, _, _, _, _, _⟩) (v := ?_) rfl (by kernel_rfl) (by kernel_rfl) (by kernel_rfl) (fun _ _ _ h => h) (Or.inl ⟨by rfl, ?_⟩) hHeld0 ?_
              rotate_left
              · (intro w' hSw; (try dsimp only at hSw); go_simp; all_goals (with_reducible rfl))
              try simp only [Act.put, sA, sB, sC]
              refine wpAnyH_take (i := 5) (oi := ⟨some 43, _, _, _, _, _⟩) (v := ?_) rfl (by kernel_rfl) (by kernel_rfl) (by kernel_rfl) (fun _ _ _ h => h) (Or.inl ⟨by rfl, ?_⟩) hHeld0 ?_
              rotate_left
              · (intro w' hSw; (try dsimp only at hSw); go_simp; all_goals (with_reducible rfl))
              try simp only [Act.put, sA, sB, sC]
              refine wpAnyH_take (i := 6) (oi := ⟨some 44, _, _, _, _, _⟩) (v := ?_) rfl (by kernel_rfl) (by kernel_rfl) (by kernel_rfl) (fun _ _ _ h => h) (Or.inl ⟨by rfl, ?_⟩) hHeld0 ?_
              rotate_left
              · (intro w' hSw; (try dsimp only at hSw); go_simp; all_goals (with_reducible rfl))
              try simp only [Act.put, sA, sB, sC]
              refine wpAnyH_take (i := 7) (oi := ⟨some 45, _, _, _, _, _⟩) (v := ?_) rfl (by kernel_rfl) (by kernel_rfl) (by kernel_rfl) (fun _ _ _ h => h) (Or.inl ⟨by rfl, ?_⟩) hHeld0 ?_
              rotate_left
              · (intro w' hSw; (try dsimp only at hSw); go_simp; all_goals (with_reducible rfl))
              try simp only [Act.put, sA, sB, sC]
              refine wpAnyH_ready (rs := [8, 12]) (by kernel_rfl) (by simp) (AllReadyH.cons (o := ⟨some 46, _, _, _, _, _⟩) rfl (fun K hK => ?_) (AllReadyH.cons (o := ⟨some 7, _, _, _, _, _⟩) rfl (fun K hK => ?_) AllReadyH.nil))
              · skip
                go_simp
                have cg := rget_any la en.key Aa na ca _ wd (show Rd _ _ 3 Aa na (EC la) from RP.belowH bd) (Nat.le_refl _) (by omega)
                rw [HZZ.out] at cg
                simp only [getV, ev, Option.isSome_none, Option.isSome_some] at cg
                refine cg.mono ?_
                rintro e wg ⟨rfl, hbg⟩
                clear cg
                replace bd := bd.trans (hbg.mono bd.size)
                clear hbg
                replace x0 := (bd.cell (p := ⟨w.heap.size, 0, none⟩) XS.out.lt).trans (XS.out.at 0 rfl)
                replace y0 := (bd.cell (p := ⟨w.heap.size + 1, 0, none⟩) YS.out.lt).trans (YS.out.at 0 rfl)
                replace x1 := (bd.cell (p := ⟨w.heap.size, 1, none⟩) XS.out.lt).trans (XS.out.at 1 rfl)
                replace y1 := (bd.cell (p := ⟨w.heap.size + 1, 1, none⟩) YS.out.lt).trans (YS.out.at 1 rfl)
                replace x2 := (bd.cell (p := ⟨w.heap.size, 2, none⟩) XS.out.lt).trans (XS.out.at 2 rfl)
                replace y2 := (bd.cell (p := ⟨w.heap.size + 1, 2, none⟩) YS.out.lt).trans (YS.out.at 2 rfl)
                replace z0 := (bd.cell (p := ⟨be, oe + k * 3, none⟩) HBE.out).trans ZS0.out
                go_simp
                refine hK.out _ _ (by exact ⟨⟨⟨x0, x1, x2⟩, y0, y1, y2⟩, z0⟩) (fun hHeld1 => ?_)
                clear hK hHeld0 K
                try simp only [Act.put, sA, sB, sC]
                refine wpAnyH_take (i := 9) (oi := ⟨some 37, _, _, _, _, _⟩) (v := ?_) rfl (by kernel_rfl) (by kernel_rfl) (by kernel_rfl) (fun _ _ _ h => h) (Or.inl ⟨by rfl, ?_⟩) hHeld1 ?_
                rotate_left
                · (intro w' hSw; (try dsimp only at hSw); go_simp; all_goals (with_reducible rfl))
                try simp only [Act.put, sA, sB, sC]
                refine wpAnyH_take (i := 10) (oi := ⟨some 47, _, _, _, _, _⟩) (v := ?_) rfl (by kernel_rfl) (by kernel_rfl) (by kernel_rfl) (fun _ _ _ h => h) (Or.inl ⟨by rfl, ?_⟩) hHeld1 ?_
                rotate_left
                · (intro w' hSw; (try dsimp only at hSw); go_simp; all_goals (with_reducible rfl))
                try simp only [Act.put, sA, sB, sC]
                refine wpAnyH_take (i := 11) (oi := ⟨some 48, _, _, _, _, _⟩) (v := ?_) rfl (by kernel_rfl) (by kernel_rfl) (by kernel_rfl) (fun _ _ _ h => h) (Or.inl ⟨by rfl, ?_⟩) hHeld1 ?_
                rotate_left
                · (intro w' hSw; (try dsimp only at hSw); go_simp; all_goals (with_reducible rfl))
                try simp only [Act.put, sA, sB, sC]
                refine wpAnyH_ready (rs := [12]) (by kernel_rfl) (by simp) (AllReadyH.cons (o := ⟨some 7, _, _, _, _, _⟩) rfl (fun K hK => ?_) AllReadyH.nil)
                go_simp
                have bd0 := bd
                have hbz := bd.size
                have ZB := Box.new wg #[.int .i64 0, .int .i64 0, .string ByteArray.empty] 58
                replace bd := bd.alloc bd.size (.cells #[.int .i64 0, .int .i64 0, .string ByteArray.empty] 58)
                replace x0 := (bd.cell (p := ⟨w.heap.size, 0, none⟩) XS.out.lt).trans (XS.out.at 0 rfl)
                replace y0 := (bd.cell (p := ⟨w.heap.size + 1, 0, none⟩) YS.out.lt).trans (YS.out.at 0 rfl)
                replace x1 := (bd.cell (p := ⟨w.heap.size, 1, none⟩) XS.out.lt).trans (XS.out.at 1 rfl)
                replace y1 := (bd.cell (p := ⟨w.heap.size + 1, 1, none⟩) YS.out.lt).trans (YS.out.at 1 rfl)
                replace x2 := (bd.cell (p := ⟨w.heap.size, 2, none⟩) XS.out.lt).trans (XS.out.at 2 rfl)
                replace y2 := (bd.cell (p := ⟨w.heap.size + 1, 2, none⟩) YS.out.lt).trans (YS.out.at 2 rfl)
                replace z0 := (bd.cell (p := ⟨be, oe + k * 3, none⟩) HBE.out).trans ZS0.out
                go_simp
                refine hK.out _ _ (by exact ⟨⟨⟨x0, x1, x2⟩, y0, y1, y2⟩, z0⟩) (fun hHeld2 => ?_)
                clear hK hHeld1 K
                try simp only [Act.put, sA, sB, sC]
                refine wpAnyH_ready (rs := [13]) (by kernel_rfl) (by simp) (AllReadyH.cons (o := ⟨none, _, _, _, _, _⟩) rfl (fun K hK => ?_) AllReadyH.nil)
                have q0 := ZB.at 0 rfl
                have q1 := ZB.at 1 rfl
                have q2 := ZB.at 2 rfl
                have qf := ZB.cold
                have ql := ZB.lt
                go_simp
                replace bd := bd0.alloc bd0.size (.cells #[.int .i64 0, .int .i64 0, .string ⟨#[]⟩] 58)
                have ZB' := Box.new wg #[.int .i64 0, .int .i64 0, .string ⟨#[]⟩] 58
                clear bd0
                clear ZB q0 q1 q2 qf ql
                replace x0 := (bd.cell (p := ⟨w.heap.size, 0, none⟩) XS.out.lt).trans (XS.out.at 0 rfl)
                replace y0 := (bd.cell (p := ⟨w.heap.size + 1, 0, none⟩) YS.out.lt).trans (YS.out.at 0 rfl)
                replace x1 := (bd.cell (p := ⟨w.heap.size, 1, none⟩) XS.out.lt).trans (XS.out.at 1 rfl)
                replace y1 := (bd.cell (p := ⟨w.heap.size + 1, 1, none⟩) YS.out.lt).trans (YS.out.at 1 rfl)
                replace x2 := (bd.cell (p := ⟨w.heap.size, 2, none⟩) XS.out.lt).trans (XS.out.at 2 rfl)
                replace y2 := (bd.cell (p := ⟨w.heap.size + 1, 2, none⟩) YS.out.lt).trans (YS.out.at 2 rfl)
                replace z0 := (bd.cell (p := ⟨be, oe + k * 3, none⟩) HBE.out).trans ZS0.out
                refine hK.out _ _ (by exact ⟨⟨⟨x0, x1, x2⟩, y0, y1, y2⟩, z0⟩) (fun hHeld3 => ?_)
                clear hK hHeld2 K
                try simp only [Act.put, sA, sB, sC]
                clear x0 x1 x2 y0 y1 y2 z0 hbz
                have XE := XS.out.below bd XS.out.lt
                have YE := YS.out.below bd YS.out.lt
                have RPE := RP.belowH bd
                have RQE := RQ.belowH bd
                have be' := bb.trans (bd.mono bb.size)
                have z0 := (bd.cell (p := ⟨be, oe + k * 3, none⟩) HBE.out).trans ZS0.out
                have z1 := (bd.cell (p := ⟨be, oe + k * 3 + 1, none⟩) HBE.out).trans ZS1.out
                have z2 := (bd.cell (p := ⟨be, oe + k * 3 + 2, none⟩) HBE.out).trans ZS2.out
                clear bd RP RQ XS YS ZS0 ZS1 ZS2 HBE bb
                generalize (wg.alloc (.cells #[.int .i64 0, .int .i64 0, .string ⟨#[]⟩] 58)) = we at *
                refine wpAnyH_take (i := 14) (oi := ⟨some 8, _, _, _, _, _⟩) (v := ?_) rfl (by kernel_rfl) (by kernel_rfl) (by kernel_rfl) (fun _ _ _ h => h) (Or.inl ⟨by rfl, ?_⟩) hHeld3 ?_
                rotate_left
                · (intro w' hSw; (try dsimp only at hSw); go_simp; all_goals (with_reducible rfl))
                try simp only [Act.put, sA, sB, sC]
                refine wpAnyH_done (by kernel_rfl) ?_ _
                clear hHeld3
                have x0 := XE.at 0 rfl
                have y0 := YE.at 0 rfl
                have x1 := XE.at 1 rfl
                have y1 := YE.at 1 rfl
                have x2 := XE.at 2 rfl
                have y2 := YE.at 2 rfl
                have q0 := ZB'.at 0 rfl
                have q1 := ZB'.at 1 rfl
                have q2 := ZB'.at 2 rfl
                go_wp2
                by_cases hv : en.ver ≤ top
                · have tv : decide (en.ver ≤ top) = true := decide_eq_true hv
                  have HV := Lib.hid hv
                  clear hv
                  go_quiet (fail)
                  go_wp2
                  go_ret
                  exact ⟨⟨_, rfl, fun hr => by cases hr⟩, below_dn be' nq⟩
                · have tv : decide (en.ver ≤ top) = false := decide_eq_false hv
                  have HV := Lib.hid hv
                  clear hv
                  go_quiet (fail)
                  go_wp2
                  go_roundw
                  case rel => exact ⟨k + 1, by omega, by go_num, fun x hx hv => (by rw [take_more HEN.out] at hx; rcases List.mem_append.1 hx with hx | hx; exact HN.out x hx hv; obtain rfl : x = en := (by simpa using hx); exact absurd hv (by have hq := HV.out; omega)), XE.drewN nq, YE.drewN nq, RPE.drewN nq, RQE.drewN nq, below_dn be' nq⟩
                  case measure => simp [intOf]; omega
              · skip
                go_simp
                have bd0 := bd
                have hbz := bd.size
                have ZB := Box.new wd #[.int .i64 0, .int .i64 0, .string ByteArray.empty] 58
                replace bd := bd.alloc bd.size (.cells #[.int .i64 0, .int .i64 0, .string ByteArray.empty] 58)
                replace x0 := (bd.cell (p := ⟨w.heap.size, 0, none⟩) XS.out.lt).trans (XS.out.at 0 rfl)
                replace y0 := (bd.cell (p := ⟨w.heap.size + 1, 0, none⟩) YS.out.lt).trans (YS.out.at 0 rfl)
                replace x1 := (bd.cell (p := ⟨w.heap.size, 1, none⟩) XS.out.lt).trans (XS.out.at 1 rfl)
                replace y1 := (bd.cell (p := ⟨w.heap.size + 1, 1, none⟩) YS.out.lt).trans (YS.out.at 1 rfl)
                replace x2 := (bd.cell (p := ⟨w.heap.size, 2, none⟩) XS.out.lt).trans (XS.out.at 2 rfl)
                replace y2 := (bd.cell (p := ⟨w.heap.size + 1, 2, none⟩) YS.out.lt).trans (YS.out.at 2 rfl)
                replace z0 := (bd.cell (p := ⟨be, oe + k * 3, none⟩) HBE.out).trans ZS0.out
                go_simp
                refine hK.out _ _ (by exact ⟨⟨⟨x0, x1, x2⟩, y0, y1, y2⟩, z0⟩) (fun hHeld1 => ?_)
                clear hK hHeld0 K
                try simp only [Act.put, sA, sB, sC]
                refine wpAnyH_ready (rs := [8]) (by kernel_rfl) (by simp) (AllReadyH.cons (o := ⟨some 46, _, _, _, _, _⟩) rfl (fun K hK => ?_) AllReadyH.nil)
                go_simp
                have cg := rget_any la en.key Aa na ca _ (wd.alloc (.cells #[.int .i64 0, .int .i64 0, .string ByteArray.empty] 58)) (show Rd _ _ 3 Aa na (EC la) from RP.belowH bd) (Nat.le_refl _) (by omega)
                rw [HZZ.out] at cg
                simp only [getV, ev, Option.isSome_none, Option.isSome_some] at cg
                refine cg.mono ?_
                rintro e wg ⟨rfl, hbg⟩
                clear cg
                replace bd := bd.trans (hbg.mono bd.size)
                replace ZB := ZB.belowH hbg
                clear hbg
                replace x0 := (bd.cell (p := ⟨w.heap.size, 0, none⟩) XS.out.lt).trans (XS.out.at 0 rfl)
                replace y0 := (bd.cell (p := ⟨w.heap.size + 1, 0, none⟩) YS.out.lt).trans (YS.out.at 0 rfl)
                replace x1 := (bd.cell (p := ⟨w.heap.size, 1, none⟩) XS.out.lt).trans (XS.out.at 1 rfl)
                replace y1 := (bd.cell (p := ⟨w.heap.size + 1, 1, none⟩) YS.out.lt).trans (YS.out.at 1 rfl)
                replace x2 := (bd.cell (p := ⟨w.heap.size, 2, none⟩) XS.out.lt).trans (XS.out.at 2 rfl)
                replace y2 := (bd.cell (p := ⟨w.heap.size + 1, 2, none⟩) YS.out.lt).trans (YS.out.at 2 rfl)
                replace z0 := (bd.cell (p := ⟨be, oe + k * 3, none⟩) HBE.out).trans ZS0.out
                go_simp
                refine hK.out _ _ (by exact ⟨⟨⟨x0, x1, x2⟩, y0, y1, y2⟩, z0⟩) (fun hHeld2 => ?_)
                clear hK hHeld1 K
                try simp only [Act.put, sA, sB, sC]
                refine wpAnyH_take (i := 9) (oi := ⟨some 37, _, _, _, _, _⟩) (v := ?_) rfl (by kernel_rfl) (by kernel_rfl) (by kernel_rfl) (fun _ _ _ h => h) (Or.inl ⟨by rfl, ?_⟩) hHeld2 ?_
                rotate_left
                · (intro w' hSw; (try dsimp only at hSw); go_simp; all_goals (with_reducible rfl))
                try simp only [Act.put, sA, sB, sC]
                refine wpAnyH_take (i := 10) (oi := ⟨some 47, _, _, _, _, _⟩) (v := ?_) rfl (by kernel_rfl) (by kernel_rfl) (by kernel_rfl) (fun _ _ _ h => h) (Or.inl ⟨by rfl, ?_⟩) hHeld2 ?_
                rotate_left
                · (intro w' hSw; (try dsimp only at hSw); go_simp; all_goals (with_reducible rfl))
                try simp only [Act.put, sA, sB, sC]
                refine wpAnyH_take (i := 11) (oi := ⟨some 48, _, _, _, _, _⟩) (v := ?_) rfl (by kernel_rfl) (by kernel_rfl) (by kernel_rfl) (fun _ _ _ h => h) (Or.inl ⟨by rfl, ?_⟩) hHeld2 ?_
                rotate_left
                · (intro w' hSw; (try dsimp only at hSw); go_simp; all_goals (with_reducible rfl))
                try simp only [Act.put, sA, sB, sC]
                refine wpAnyH_ready (rs := [13]) (by kernel_rfl) (by simp) (AllReadyH.cons (o := ⟨none, _, _, _, _, _⟩) rfl (fun K hK => ?_) AllReadyH.nil)
                have q0 := ZB.at 0 rfl
                have q1 := ZB.at 1 rfl
                have q2 := ZB.at 2 rfl
                have qf := ZB.cold
                have ql := ZB.lt
                go_simp
                replace bd := below_set (o := 2) (below_set (o := 1) (below_set (o := 0) bd hbz (.int .i64 0)) hbz (.int .i64 0)) hbz (.string ⟨#[]⟩)
                have ZB' : Box _ (wd.heap.size) 58 #[.int .i64 0, .int .i64 0, .string ⟨#[]⟩] := ((ZB.set 0 (.int .i64 0)).set 1 (.int .i64 0)).set 2 (.string ⟨#[]⟩)
                clear bd0
                clear ZB q0 q1 q2 qf ql
                replace x0 := (bd.cell (p := ⟨w.heap.size, 0, none⟩) XS.out.lt).trans (XS.out.at 0 rfl)
                replace y0 := (bd.cell (p := ⟨w.heap.size + 1, 0, none⟩) YS.out.lt).trans (YS.out.at 0 rfl)
                replace x1 := (bd.cell (p := ⟨w.heap.size, 1, none⟩) XS.out.lt).trans (XS.out.at 1 rfl)
                replace y1 := (bd.cell (p := ⟨w.heap.size + 1, 1, none⟩) YS.out.lt).trans (YS.out.at 1 rfl)
                replace x2 := (bd.cell (p := ⟨w.heap.size, 2, none⟩) XS.out.lt).trans (XS.out.at 2 rfl)
                replace y2 := (bd.cell (p := ⟨w.heap.size + 1, 2, none⟩) YS.out.lt).trans (YS.out.at 2 rfl)
                replace z0 := (bd.cell (p := ⟨be, oe + k * 3, none⟩) HBE.out).trans ZS0.out
                refine hK.out _ _ (by exact ⟨⟨⟨x0, x1, x2⟩, y0, y1, y2⟩, z0⟩) (fun hHeld3 => ?_)
                clear hK hHeld2 K
                try simp only [Act.put, sA, sB, sC]
                clear x0 x1 x2 y0 y1 y2 z0 hbz
                have XE := XS.out.below bd XS.out.lt
                have YE := YS.out.below bd YS.out.lt
                have RPE := RP.belowH bd
                have RQE := RQ.belowH bd
                have be' := bb.trans (bd.mono bb.size)
                have z0 := (bd.cell (p := ⟨be, oe + k * 3, none⟩) HBE.out).trans ZS0.out
                have z1 := (bd.cell (p := ⟨be, oe + k * 3 + 1, none⟩) HBE.out).trans ZS1.out
                have z2 := (bd.cell (p := ⟨be, oe + k * 3 + 2, none⟩) HBE.out).trans ZS2.out
                clear bd RP RQ XS YS ZS0 ZS1 ZS2 HBE bb
                generalize ((((wg).setCell ⟨wd.heap.size, 0, none⟩ (.int .i64 0)).setCell ⟨wd.heap.size, 1, none⟩ (.int .i64 0)).setCell ⟨wd.heap.size, 2, none⟩ (.string ⟨#[]⟩)) = we at *
                refine wpAnyH_take (i := 14) (oi := ⟨some 8, _, _, _, _, _⟩) (v := ?_) rfl (by kernel_rfl) (by kernel_rfl) (by kernel_rfl) (fun _ _ _ h => h) (Or.inl ⟨by rfl, ?_⟩) hHeld3 ?_
                rotate_left
                · (intro w' hSw; (try dsimp only at hSw); go_simp; all_goals (with_reducible rfl))
                try simp only [Act.put, sA, sB, sC]
                refine wpAnyH_done (by kernel_rfl) ?_ _
                clear hHeld3
                have x0 := XE.at 0 rfl
                have y0 := YE.at 0 rfl
                have x1 := XE.at 1 rfl
                have y1 := YE.at 1 rfl
                have x2 := XE.at 2 rfl
                have y2 := YE.at 2 rfl
                have q0 := ZB'.at 0 rfl
                have q1 := ZB'.at 1 rfl
                have q2 := ZB'.at 2 rfl
                go_wp2
                by_cases hv : en.ver ≤ top
                · have tv : decide (en.ver ≤ top) = true := decide_eq_true hv
                  have HV := Lib.hid hv
                  clear hv
                  go_quiet (fail)
                  go_wp2
                  go_ret
                  exact ⟨⟨_, rfl, fun hr => by cases hr⟩, below_dn be' nq⟩
                · have tv : decide (en.ver ≤ top) = false := decide_eq_false hv
                  have HV := Lib.hid hv
                  clear hv
                  go_quiet (fail)
                  go_wp2
                  go_roundw
                  case rel => exact ⟨k + 1, by omega, by go_num, fun x hx hv => (by rw [take_more HEN.out] at hx; rcases List.mem_append.1 hx with hx | hx; exact HN.out x hx hv; obtain rfl : x = en := (by simpa using hx); exact absurd hv (by have hq := HV.out; omega)), XE.drewN nq, YE.drewN nq, RPE.drewN nq, RQE.drewN nq, below_dn be' nq⟩
                  case measure => simp [intOf]; omega
            · have HZZ := Lib.hid hzz
              clear hzz
              refine wp_region_held_drew (S := (fun w' => ((w'.cell? ⟨w.heap.size, 0, none⟩ = some (.int .i64 ga) ∧ w'.cell? ⟨w.heap.size, 1, none⟩ = some (.int .i64 ta) ∧ w'.cell? ⟨w.heap.size, 2, none⟩ = some (.slice Aa na ca)) ∧ w'.cell? ⟨w.heap.size + 1, 0, none⟩ = some (.int .i64 gb) ∧ w'.cell? ⟨w.heap.size + 1, 1, none⟩ = some (.int .i64 tb) ∧ w'.cell? ⟨w.heap.size + 1, 2, none⟩ = some (.slice (some ⟨be, oe, none⟩) nb cb)) ∧ w'.cell? ⟨be, oe + k * 3, none⟩ = some (.int .i64 en.key))) (by kernel_rfl) (by exact ⟨⟨⟨x0, x1, x2⟩, y0, y1, y2⟩, z0⟩) (fun hHeld0 => ?_)
              clear XX YY X8 Y8 b8 z1 z2
              generalize wr.drew = wd at *
              have bd := Below.refl wd.heap.size wd
              replace x0 := (bd.cell (p := ⟨w.heap.size, 0, none⟩) XS.out.lt).trans (XS.out.at 0 rfl)
              replace y0 := (bd.cell (p := ⟨w.heap.size + 1, 0, none⟩) YS.out.lt).trans (YS.out.at 0 rfl)
              replace x1 := (bd.cell (p := ⟨w.heap.size, 1, none⟩) XS.out.lt).trans (XS.out.at 1 rfl)
              replace y1 := (bd.cell (p := ⟨w.heap.size + 1, 1, none⟩) YS.out.lt).trans (YS.out.at 1 rfl)
              replace x2 := (bd.cell (p := ⟨w.heap.size, 2, none⟩) XS.out.lt).trans (XS.out.at 2 rfl)
              replace y2 := (bd.cell (p := ⟨w.heap.size + 1, 2, none⟩) YS.out.lt).trans (YS.out.at 2 rfl)
              replace z0 := (bd.cell (p := ⟨be, oe + k * 3, none⟩) HBE.out).trans ZS0.out
              refine wpAnyH_take (i := 0) (oi := ⟨some 38, _, _, _, _, _⟩) (v := ?_) rfl (by kernel_rfl) (by kernel_rfl) (by kernel_rfl) (fun _ _ _ h => h) (Or.inl ⟨by rfl, ?_⟩) hHeld0 ?_
              rotate_left
              · (intro w' hSw; (try dsimp only at hSw); go_simp; all_goals (with_reducible rfl))
              try simp only [Act.put, sA, sB, sC]
              refine wpAnyH_take (i := 1) (oi := ⟨some 39, _, _, _, _, _⟩) (v := ?_) rfl (by kernel_rfl) (by kernel_rfl) (by kernel_rfl) (fun _ _ _ h => h) (Or.inl ⟨by rfl, ?_⟩) hHeld0 ?_
              rotate_left
              · (intro w' hSw; (try dsimp only at hSw); go_simp; all_goals (with_reducible rfl))
              try simp only [Act.put, sA, sB, sC]
              refine wpAnyH_take (i := 2) (oi := ⟨some 40, _, _, _, _, _⟩) (v := ?_) rfl (by kernel_rfl) (by kernel_rfl) (by kernel_rfl) (fun _ _ _ h => h) (Or.inl ⟨by rfl, ?_⟩) hHeld0 ?_
              rotate_left
              · (intro w' hSw; (try dsimp only at hSw); go_simp; all_goals (with_reducible rfl))
              try simp only [Act.put, sA, sB, sC]
              refine wpAnyH_take (i := 3) (oi := ⟨some 41, _, _, _, _, _⟩) (v := ?_) rfl (by kernel_rfl) (by kernel_rfl) (by kernel_rfl) (fun _ _ _ h => h) (Or.inl ⟨by rfl, ?_⟩) hHeld0 ?_
              rotate_left
              · (intro w' hSw; (try dsimp only at hSw); go_simp; all_goals (with_reducible rfl))
              try simp only [Act.put, sA, sB, sC]
              refine wpAnyH_take (i := 4) (oi := ⟨some 42, _, _, _, _, _⟩) (v := ?_) rfl (by kernel_rfl) (by kernel_rfl) (by kernel_rfl) (fun _ _ _ h => h) (Or.inl ⟨by rfl, ?_⟩) hHeld0 ?_
              rotate_left
              · (intro w' hSw; (try dsimp only at hSw); go_simp; all_goals (with_reducible rfl))
              try simp only [Act.put, sA, sB, sC]
              refine wpAnyH_take (i := 5) (oi := ⟨some 43, _, _, _, _, _⟩) (v := ?_) rfl (by kernel_rfl) (by kernel_rfl) (by kernel_rfl) (fun _ _ _ h => h) (Or.inl ⟨by rfl, ?_⟩) hHeld0 ?_
              rotate_left
              · (intro w' hSw; (try dsimp only at hSw); go_simp; all_goals (with_reducible rfl))
              try simp only [Act.put, sA, sB, sC]
              refine wpAnyH_take (i := 6) (oi := ⟨some 44, _, _, _, _, _⟩) (v := ?_) rfl (by kernel_rfl) (by kernel_rfl) (by kernel_rfl) (fun _ _ _ h => h) (Or.inl ⟨by rfl, ?_⟩) hHeld0 ?_
              rotate_left
              · (intro w' hSw; (try dsimp only at hSw); go_simp; all_goals (with_reducible rfl))
              try simp only [Act.put, sA, sB, sC]
              refine wpAnyH_take (i := 7) (oi := ⟨some 45, _, _, _, _, _⟩) (v := ?_) rfl (by kernel_rfl) (by kernel_rfl) (by kernel_rfl) (fun _ _ _ h => h) (Or.inl ⟨by rfl, ?_⟩) hHeld0 ?_
              rotate_left
              · (intro w' hSw; (try dsimp only at hSw); go_simp; all_goals (with_reducible rfl))
              try simp only [Act.put, sA, sB, sC]
              refine wpAnyH_ready (rs := [8, 12]) (by kernel_rfl) (by simp) (AllReadyH.cons (o := ⟨some 46, _, _, _, _, _⟩) rfl (fun K hK => ?_) (AllReadyH.cons (o := ⟨some 7, _, _, _, _, _⟩) rfl (fun K hK => ?_) AllReadyH.nil))
              · skip
                go_simp
                have cg := rget_any la en.key Aa na ca _ wd (show Rd _ _ 3 Aa na (EC la) from RP.belowH bd) (Nat.le_refl _) (by omega)
                rw [HZZ.out] at cg
                simp only [getV, ev, Option.isSome_none, Option.isSome_some] at cg
                refine cg.mono ?_
                rintro e wg ⟨rfl, hbg⟩
                clear cg
                replace bd := bd.trans (hbg.mono bd.size)
                clear hbg
                replace x0 := (bd.cell (p := ⟨w.heap.size, 0, none⟩) XS.out.lt).trans (XS.out.at 0 rfl)
                replace y0 := (bd.cell (p := ⟨w.heap.size + 1, 0, none⟩) YS.out.lt).trans (YS.out.at 0 rfl)
                replace x1 := (bd.cell (p := ⟨w.heap.size, 1, none⟩) XS.out.lt).trans (XS.out.at 1 rfl)
                replace y1 := (bd.cell (p := ⟨w.heap.size + 1, 1, none⟩) YS.out.lt).trans (YS.out.at 1 rfl)
                replace x2 := (bd.cell (p := ⟨w.heap.size, 2, none⟩) XS.out.lt).trans (XS.out.at 2 rfl)
                replace y2 := (bd.cell (p := ⟨w.heap.size + 1, 2, none⟩) YS.out.lt).trans (YS.out.at 2 rfl)
                replace z0 := (bd.cell (p := ⟨be, oe + k * 3, none⟩) HBE.out).trans ZS0.out
                go_simp
                refine hK.out _ _ (by exact ⟨⟨⟨x0, x1, x2⟩, y0, y1, y2⟩, z0⟩) (fun hHeld1 => ?_)
                clear hK hHeld0 K
                try simp only [Act.put, sA, sB, sC]
                refine wpAnyH_take (i := 9) (oi := ⟨some 37, _, _, _, _, _⟩) (v := ?_) rfl (by kernel_rfl) (by kernel_rfl) (by kernel_rfl) (fun _ _ _ h => h) (Or.inl ⟨by rfl, ?_⟩) hHeld1 ?_
                rotate_left
                · (intro w' hSw; (try dsimp only at hSw); go_simp; all_goals (with_reducible rfl))
                try simp only [Act.put, sA, sB, sC]
                refine wpAnyH_take (i := 10) (oi := ⟨some 47, _, _, _, _, _⟩) (v := ?_) rfl (by kernel_rfl) (by kernel_rfl) (by kernel_rfl) (fun _ _ _ h => h) (Or.inl ⟨by rfl, ?_⟩) hHeld1 ?_
                rotate_left
                · (intro w' hSw; (try dsimp only at hSw); go_simp; all_goals (with_reducible rfl))
                try simp only [Act.put, sA, sB, sC]
                refine wpAnyH_take (i := 11) (oi := ⟨some 48, _, _, _, _, _⟩) (v := ?_) rfl (by kernel_rfl) (by kernel_rfl) (by kernel_rfl) (fun _ _ _ h => h) (Or.inl ⟨by rfl, ?_⟩) hHeld1 ?_
                rotate_left
                · (intro w' hSw; (try dsimp only at hSw); go_simp; all_goals (with_reducible rfl))
                try simp only [Act.put, sA, sB, sC]
                refine wpAnyH_ready (rs := [12]) (by kernel_rfl) (by simp) (AllReadyH.cons (o := ⟨some 7, _, _, _, _, _⟩) rfl (fun K hK => ?_) AllReadyH.nil)
                go_simp
                have bd0 := bd
                have hbz := bd.size
                have ZB := Box.new wg #[.int .i64 0, .int .i64 0, .string ByteArray.empty] 58
                replace bd := bd.alloc bd.size (.cells #[.int .i64 0, .int .i64 0, .string ByteArray.empty] 58)
                replace x0 := (bd.cell (p := ⟨w.heap.size, 0, none⟩) XS.out.lt).trans (XS.out.at 0 rfl)
                replace y0 := (bd.cell (p := ⟨w.heap.size + 1, 0, none⟩) YS.out.lt).trans (YS.out.at 0 rfl)
                replace x1 := (bd.cell (p := ⟨w.heap.size, 1, none⟩) XS.out.lt).trans (XS.out.at 1 rfl)
                replace y1 := (bd.cell (p := ⟨w.heap.size + 1, 1, none⟩) YS.out.lt).trans (YS.out.at 1 rfl)
                replace x2 := (bd.cell (p := ⟨w.heap.size, 2, none⟩) XS.out.lt).trans (XS.out.at 2 rfl)
                replace y2 := (bd.cell (p := ⟨w.heap.size + 1, 2, none⟩) YS.out.lt).trans (YS.out.at 2 rfl)
                replace z0 := (bd.cell (p := ⟨be, oe + k * 3, none⟩) HBE.out).trans ZS0.out
                go_simp
                refine hK.out _ _ (by exact ⟨⟨⟨x0, x1, x2⟩, y0, y1, y2⟩, z0⟩) (fun hHeld2 => ?_)
                clear hK hHeld1 K
                try simp only [Act.put, sA, sB, sC]
                refine wpAnyH_ready (rs := [13]) (by kernel_rfl) (by simp) (AllReadyH.cons (o := ⟨none, _, _, _, _, _⟩) rfl (fun K hK => ?_) AllReadyH.nil)
                have q0 := ZB.at 0 rfl
                have q1 := ZB.at 1 rfl
                have q2 := ZB.at 2 rfl
                have qf := ZB.cold
                have ql := ZB.lt
                go_simp
                replace bd := bd0.alloc bd0.size (.cells #[.int .i64 ez.key, .int .i64 ez.ver, .string (strB ez.val)] 58)
                have ZB' := Box.new wg #[.int .i64 ez.key, .int .i64 ez.ver, .string (strB ez.val)] 58
                clear bd0
                clear ZB q0 q1 q2 qf ql
                replace x0 := (bd.cell (p := ⟨w.heap.size, 0, none⟩) XS.out.lt).trans (XS.out.at 0 rfl)
                replace y0 := (bd.cell (p := ⟨w.heap.size + 1, 0, none⟩) YS.out.lt).trans (YS.out.at 0 rfl)
                replace x1 := (bd.cell (p := ⟨w.heap.size, 1, none⟩) XS.out.lt).trans (XS.out.at 1 rfl)
                replace y1 := (bd.cell (p := ⟨w.heap.size + 1, 1, none⟩) YS.out.lt).trans (YS.out.at 1 rfl)
                replace x2 := (bd.cell (p := ⟨w.heap.size, 2, none⟩) XS.out.lt).trans (XS.out.at 2 rfl)
                replace y2 := (bd.cell (p := ⟨w.heap.size + 1, 2, none⟩) YS.out.lt).trans (YS.out.at 2 rfl)
                replace z0 := (bd.cell (p := ⟨be, oe + k * 3, none⟩) HBE.out).trans ZS0.out
                refine hK.out _ _ (by exact ⟨⟨⟨x0, x1, x2⟩, y0, y1, y2⟩, z0⟩) (fun hHeld3 => ?_)
                clear hK hHeld2 K
                try simp only [Act.put, sA, sB, sC]
                clear x0 x1 x2 y0 y1 y2 z0 hbz
                have XE := XS.out.below bd XS.out.lt
                have YE := YS.out.below bd YS.out.lt
                have RPE := RP.belowH bd
                have RQE := RQ.belowH bd
                have be' := bb.trans (bd.mono bb.size)
                have z0 := (bd.cell (p := ⟨be, oe + k * 3, none⟩) HBE.out).trans ZS0.out
                have z1 := (bd.cell (p := ⟨be, oe + k * 3 + 1, none⟩) HBE.out).trans ZS1.out
                have z2 := (bd.cell (p := ⟨be, oe + k * 3 + 2, none⟩) HBE.out).trans ZS2.out
                clear bd RP RQ XS YS ZS0 ZS1 ZS2 HBE bb
                generalize (wg.alloc (.cells #[.int .i64 ez.key, .int .i64 ez.ver, .string (strB ez.val)] 58)) = we at *
                refine wpAnyH_take (i := 14) (oi := ⟨some 8, _, _, _, _, _⟩) (v := ?_) rfl (by kernel_rfl) (by kernel_rfl) (by kernel_rfl) (fun _ _ _ h => h) (Or.inl ⟨by rfl, ?_⟩) hHeld3 ?_
                rotate_left
                · (intro w' hSw; (try dsimp only at hSw); go_simp; all_goals (with_reducible rfl))
                try simp only [Act.put, sA, sB, sC]
                refine wpAnyH_done (by kernel_rfl) ?_ _
                clear hHeld3
                have x0 := XE.at 0 rfl
                have y0 := YE.at 0 rfl
                have x1 := XE.at 1 rfl
                have y1 := YE.at 1 rfl
                have x2 := XE.at 2 rfl
                have y2 := YE.at 2 rfl
                have q0 := ZB'.at 0 rfl
                have q1 := ZB'.at 1 rfl
                have q2 := ZB'.at 2 rfl
                go_wp2
                by_cases hv : en.ver ≤ top
                · have tv : decide (en.ver ≤ top) = true := decide_eq_true hv
                  have HV := Lib.hid hv
                  clear hv
                  have heq := fun w => eq_ent ez en w
                  have hgd := guard_ent
                  rcases hee : eqB ez en
                  · rw [hee] at heq
                    clear hee
                    go_quiet (fail)
                    go_wp2
                    go_ret
                    exact ⟨⟨_, rfl, fun hr => by cases hr⟩, below_dn be' nq⟩
                  · have HEE : Hid (ez = en) := Lib.hid (of_decide_eq_true hee)
                    rw [hee] at heq
                    clear hee
                    go_quiet (fail)
                    go_wp2
                    go_roundw
                    case rel => exact ⟨k + 1, by omega, by go_num, fun x hx hv => (by rw [take_more HEN.out] at hx; rcases List.mem_append.1 hx with hx | hx; exact HN.out x hx hv; obtain rfl : x = en := (by simpa using hx); rw [HZZ.out, HEE.out]), XE.drewN nq, YE.drewN nq, RPE.drewN nq, RQE.drewN nq, below_dn be' nq⟩
                    case measure => simp [intOf]; omega
                · have tv : decide (en.ver ≤ top) = false := decide_eq_false hv
                  have HV := Lib.hid hv
                  clear hv
                  go_quiet (fail)
                  go_wp2
                  go_roundw
                  case rel => exact ⟨k + 1, by omega, by go_num, fun x hx hv => (by rw [take_more HEN.out] at hx; rcases List.mem_append.1 hx with hx | hx; exact HN.out x hx hv; obtain rfl : x = en := (by simpa using hx); exact absurd hv (by have hq := HV.out; omega)), XE.drewN nq, YE.drewN nq, RPE.drewN nq, RQE.drewN nq, below_dn be' nq⟩
                  case measure => simp [intOf]; omega
              · skip
                go_simp
                have bd0 := bd
                have hbz := bd.size
                have ZB := Box.new wd #[.int .i64 0, .int .i64 0, .string ByteArray.empty] 58
                replace bd := bd.alloc bd.size (.cells #[.int .i64 0, .int .i64 0, .string ByteArray.empty] 58)
                replace x0 := (bd.cell (p := ⟨w.heap.size, 0, none⟩) XS.out.lt).trans (XS.out.at 0 rfl)
                replace y0 := (bd.cell (p := ⟨w.heap.size + 1, 0, none⟩) YS.out.lt).trans (YS.out.at 0 rfl)
                replace x1 := (bd.cell (p := ⟨w.heap.size, 1, none⟩) XS.out.lt).trans (XS.out.at 1 rfl)
                replace y1 := (bd.cell (p := ⟨w.heap.size + 1, 1, none⟩) YS.out.lt).trans (YS.out.at 1 rfl)
                replace x2 := (bd.cell (p := ⟨w.heap.size, 2, none⟩) XS.out.lt).trans (XS.out.at 2 rfl)
                replace y2 := (bd.cell (p := ⟨w.heap.size + 1, 2, none⟩) YS.out.lt).trans (YS.out.at 2 rfl)
                replace z0 := (bd.cell (p := ⟨be, oe + k * 3, none⟩) HBE.out).trans ZS0.out
                go_simp
                refine hK.out _ _ (by exact ⟨⟨⟨x0, x1, x2⟩, y0, y1, y2⟩, z0⟩) (fun hHeld1 => ?_)
                clear hK hHeld0 K
                try simp only [Act.put, sA, sB, sC]
                refine wpAnyH_ready (rs := [8]) (by kernel_rfl) (by simp) (AllReadyH.cons (o := ⟨some 46, _, _, _, _, _⟩) rfl (fun K hK => ?_) AllReadyH.nil)
                go_simp
                have cg := rget_any la en.key Aa na ca _ (wd.alloc (.cells #[.int .i64 0, .int .i64 0, .string ByteArray.empty] 58)) (show Rd _ _ 3 Aa na (EC la) from RP.belowH bd) (Nat.le_refl _) (by omega)
                rw [HZZ.out] at cg
                simp only [getV, ev, Option.isSome_none, Option.isSome_some] at cg
                refine cg.mono ?_
                rintro e wg ⟨rfl, hbg⟩
                clear cg
                replace bd := bd.trans (hbg.mono bd.size)
                replace ZB := ZB.belowH hbg
                clear hbg
                replace x0 := (bd.cell (p := ⟨w.heap.size, 0, none⟩) XS.out.lt).trans (XS.out.at 0 rfl)
                replace y0 := (bd.cell (p := ⟨w.heap.size + 1, 0, none⟩) YS.out.lt).trans (YS.out.at 0 rfl)
                replace x1 := (bd.cell (p := ⟨w.heap.size, 1, none⟩) XS.out.lt).trans (XS.out.at 1 rfl)
                replace y1 := (bd.cell (p := ⟨w.heap.size + 1, 1, none⟩) YS.out.lt).trans (YS.out.at 1 rfl)
                replace x2 := (bd.cell (p := ⟨w.heap.size, 2, none⟩) XS.out.lt).trans (XS.out.at 2 rfl)
                replace y2 := (bd.cell (p := ⟨w.heap.size + 1, 2, none⟩) YS.out.lt).trans (YS.out.at 2 rfl)
                replace z0 := (bd.cell (p := ⟨be, oe + k * 3, none⟩) HBE.out).trans ZS0.out
                go_simp
                refine hK.out _ _ (by exact ⟨⟨⟨x0, x1, x2⟩, y0, y1, y2⟩, z0⟩) (fun hHeld2 => ?_)
                clear hK hHeld1 K
                try simp only [Act.put, sA, sB, sC]
                refine wpAnyH_take (i := 9) (oi := ⟨some 37, _, _, _, _, _⟩) (v := ?_) rfl (by kernel_rfl) (by kernel_rfl) (by kernel_rfl) (fun _ _ _ h => h) (Or.inl ⟨by rfl, ?_⟩) hHeld2 ?_
                rotate_left
                · (intro w' hSw; (try dsimp only at hSw); go_simp; all_goals (with_reducible rfl))
                try simp only [Act.put, sA, sB, sC]
                refine wpAnyH_take (i := 10) (oi := ⟨some 47, _, _, _, _, _⟩) (v := ?_) rfl (by kernel_rfl) (by kernel_rfl) (by kernel_rfl) (fun _ _ _ h => h) (Or.inl ⟨by rfl, ?_⟩) hHeld2 ?_
                rotate_left
                · (intro w' hSw; (try dsimp only at hSw); go_simp; all_goals (with_reducible rfl))
                try simp only [Act.put, sA, sB, sC]
                refine wpAnyH_take (i := 11) (oi := ⟨some 48, _, _, _, _, _⟩) (v := ?_) rfl (by kernel_rfl) (by kernel_rfl) (by kernel_rfl) (fun _ _ _ h => h) (Or.inl ⟨by rfl, ?_⟩) hHeld2 ?_
                rotate_left
                · (intro w' hSw; (try dsimp only at hSw); go_simp; all_goals (with_reducible rfl))
                try simp only [Act.put, sA, sB, sC]
                refine wpAnyH_ready (rs := [13]) (by kernel_rfl) (by simp) (AllReadyH.cons (o := ⟨none, _, _, _, _, _⟩) rfl (fun K hK => ?_) AllReadyH.nil)
                have q0 := ZB.at 0 rfl
                have q1 := ZB.at 1 rfl
                have q2 := ZB.at 2 rfl
                have qf := ZB.cold
                have ql := ZB.lt
                go_simp
                replace bd := below_set (o := 2) (below_set (o := 1) (below_set (o := 0) bd hbz (.int .i64 ez.key)) hbz (.int .i64 ez.ver)) hbz (.string (strB ez.val))
                have ZB' : Box _ (wd.heap.size) 58 #[.int .i64 ez.key, .int .i64 ez.ver, .string (strB ez.val)] := ((ZB.set 0 (.int .i64 ez.key)).set 1 (.int .i64 ez.ver)).set 2 (.string (strB ez.val))
                clear bd0
                clear ZB q0 q1 q2 qf ql
                replace x0 := (bd.cell (p := ⟨w.heap.size, 0, none⟩) XS.out.lt).trans (XS.out.at 0 rfl)
                replace y0 := (bd.cell (p := ⟨w.heap.size + 1, 0, none⟩) YS.out.lt).trans (YS.out.at 0 rfl)
                replace x1 := (bd.cell (p := ⟨w.heap.size, 1, none⟩) XS.out.lt).trans (XS.out.at 1 rfl)
                replace y1 := (bd.cell (p := ⟨w.heap.size + 1, 1, none⟩) YS.out.lt).trans (YS.out.at 1 rfl)
                replace x2 := (bd.cell (p := ⟨w.heap.size, 2, none⟩) XS.out.lt).trans (XS.out.at 2 rfl)
                replace y2 := (bd.cell (p := ⟨w.heap.size + 1, 2, none⟩) YS.out.lt).trans (YS.out.at 2 rfl)
                replace z0 := (bd.cell (p := ⟨be, oe + k * 3, none⟩) HBE.out).trans ZS0.out
                refine hK.out _ _ (by exact ⟨⟨⟨x0, x1, x2⟩, y0, y1, y2⟩, z0⟩) (fun hHeld3 => ?_)
                clear hK hHeld2 K
                try simp only [Act.put, sA, sB, sC]
                clear x0 x1 x2 y0 y1 y2 z0 hbz
                have XE := XS.out.below bd XS.out.lt
                have YE := YS.out.below bd YS.out.lt
                have RPE := RP.belowH bd
                have RQE := RQ.belowH bd
                have be' := bb.trans (bd.mono bb.size)
                have z0 := (bd.cell (p := ⟨be, oe + k * 3, none⟩) HBE.out).trans ZS0.out
                have z1 := (bd.cell (p := ⟨be, oe + k * 3 + 1, none⟩) HBE.out).trans ZS1.out
                have z2 := (bd.cell (p := ⟨be, oe + k * 3 + 2, none⟩) HBE.out).trans ZS2.out
                clear bd RP RQ XS YS ZS0 ZS1 ZS2 HBE bb
                generalize ((((wg).setCell ⟨wd.heap.size, 0, none⟩ (.int .i64 ez.key)).setCell ⟨wd.heap.size, 1, none⟩ (.int .i64 ez.ver)).setCell ⟨wd.heap.size, 2, none⟩ (.string (strB ez.val))) = we at *
                refine wpAnyH_take (i := 14) (oi := ⟨some 8, _, _, _, _, _⟩) (v := ?_) rfl (by kernel_rfl) (by kernel_rfl) (by kernel_rfl) (fun _ _ _ h => h) (Or.inl ⟨by rfl, ?_⟩) hHeld3 ?_
                rotate_left
                · (intro w' hSw; (try dsimp only at hSw); go_simp; all_goals (with_reducible rfl))
                try simp only [Act.put, sA, sB, sC]
                refine wpAnyH_done (by kernel_rfl) ?_ _
                clear hHeld3
                have x0 := XE.at 0 rfl
                have y0 := YE.at 0 rfl
                have x1 := XE.at 1 rfl
                have y1 := YE.at 1 rfl
                have x2 := XE.at 2 rfl
                have y2 := YE.at 2 rfl
                have q0 := ZB'.at 0 rfl
                have q1 := ZB'.at 1 rfl
                have q2 := ZB'.at 2 rfl
                go_wp2
                by_cases hv : en.ver ≤ top
                · have tv : decide (en.ver ≤ top) = true := decide_eq_true hv
                  have HV := Lib.hid hv
                  clear hv
                  have heq := fun w => eq_ent ez en w
                  have hgd := guard_ent
                  rcases hee : eqB ez en
                  · rw [hee] at heq
                    clear hee
                    go_quiet (fail)
                    go_wp2
                    go_ret
                    exact ⟨⟨_, rfl, fun hr => by cases hr⟩, below_dn be' nq⟩
                  · have HEE : Hid (ez = en) := Lib.hid (of_decide_eq_true hee)
                    rw [hee] at heq
                    clear hee
                    go_quiet (fail)
                    go_wp2
                    go_roundw
                    case rel => exact ⟨k + 1, by omega, by go_num, fun x hx hv => (by rw [take_more HEN.out] at hx; rcases List.mem_append.1 hx with hx | hx; exact HN.out x hx hv; obtain rfl : x = en := (by simpa using hx); rw [HZZ.out, HEE.out]), XE.drewN nq, YE.drewN nq, RPE.drewN nq, RQE.drewN nq, below_dn be' nq⟩
                    case measure => simp [intOf]; omega
                · have tv : decide (en.ver ≤ top) = false := decide_eq_false hv
                  have HV := Lib.hid hv
                  clear hv
                  go_quiet (fail)
                  go_wp2
                  go_roundw
                  case rel => exact ⟨k + 1, by omega, by go_num, fun x hx hv => (by rw [take_more HEN.out] at hx; rcases List.mem_append.1 hx with hx | hx; exact HN.out x hx hv; obtain rfl : x = en := (by simpa using hx); exact absurd hv (by have hq := HV.out; omega)), XE.drewN nq, YE.drewN nq, RPE.drewN nq, RQE.drewN nq, below_dn be' nq⟩
                  case measure => simp [intOf]; omega
          · have HALL : Hid (∀ e ∈ lb, e.ver ≤ top → E.get la e.key = some e) := Lib.hid (by have hq := HN.out; rwa [List.take_of_length_le (by have hq2 : lb.length = nb := rb8.len; omega)] at hq)
            go_wp2_with fail
            refine (rsover_any ⟨⟨gb, tb, lb⟩, Ab, nb, cb⟩ ⟨⟨ga, ta, la⟩, Aa, na, ca⟩ _ rb8 ra8 (by show nb ≤ _; omega) (by show na ≤ _; omega) hrb).mono ?_
            rintro e w9 ⟨rfl, hb9⟩
            go_wp2
            go_ret
            exact ⟨⟨_, rfl, fun hr => part_low (by rw [HT.out]; exact HS.out) (by rw [HT.out]; exact HE.out) (fun e he hv => HALL.out e he (by rw [← HT.out]; exact hv)) (soverB_out hr)⟩, b8.trans (hb9.mono b8.size)⟩
  · have tg : (ga != gb) = true := by simp [hg]
    have HG := Lib.hid hg
    clear hg
    go_enter Try.func29, Try.ntmps29
    go_wp2
    go_ret
    exact ⟨⟨_, rfl, fun _ => Or.inl HG.out⟩, b2⟩
end Go.Proofs.Ytkabkpeamggnnaa

