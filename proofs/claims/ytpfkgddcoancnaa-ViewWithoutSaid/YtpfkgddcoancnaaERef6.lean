/- The reference's Join and Over. -/
import Derived.Test.YtpfkgddcoancnaaERef5
namespace Go.Proofs.Ytpfkgddcoancnaa
set_option linter.unusedVariables false
set_option linter.unusedSimpArgs false
open Go.RowKit

theorem own_below {w w' : World} {base e size n : Nat} {v : Value} {xs : List Value} (h : w.ownsRow base e size v n xs) (hb : Below w.heap.size w w') : w'.ownsRow base e size v n xs := by
  refine ⟨h.1, ?_⟩
  rcases h.2 with h0 | ⟨g, cap, cur, hv, hbg, hg, rest⟩
  · exact .inl h0
  · exact .inr ⟨g, cap, cur, hv, hbg, (hb.block g (lt_of_block hg)).trans hg, rest⟩

theorem cells_alloc {w : World} {o : Obj} {b a0 a1 a2 : Nat} {v0 v1 v2 : Value} (hb : b < w.heap.size) (e0 : w.cell? ⟨b, a0, none⟩ = some v0) (e1 : w.cell? ⟨b, a1, none⟩ = some v1) (e2 : w.cell? ⟨b, a2, none⟩ = some v2) :
    (w.alloc o).cell? ⟨b, a0, none⟩ = some v0 ∧ (w.alloc o).cell? ⟨b, a1, none⟩ = some v1 ∧ (w.alloc o).cell? ⟨b, a2, none⟩ = some v2 :=
  ⟨(World.cell?_alloc_lt w o ⟨b, a0, none⟩ hb).trans e0, (World.cell?_alloc_lt w o ⟨b, a1, none⟩ hb).trans e1, (World.cell?_alloc_lt w o ⟨b, a2, none⟩ hb).trans e2⟩
/-- a step of Join, when nothing is there, or what is above -/
theorem step_put {O : List Ent} {y : Ent} (h : E.get O y.key = none ∨ ∃ x, E.get O y.key = some x ∧ E.above y x = true) : E.step O y = E.put O y := by
  unfold E.step
  rcases h with h | ⟨x, h, h2⟩
  · rw [h]
  · rw [h]; simp [h2]
theorem step_stay {O : List Ent} {x y : Ent} (h : E.get O y.key = some x) (h2 : E.above y x = false) : E.step O y = O := by
  unfold E.step
  rw [h]; simp [h2]
theorem join_more (l : List Ent) {r : List Ent} {k : Nat} {y : Ent} (h : r[k]? = some y) : E.join l (r.take (k + 1)) = E.step (E.join l (r.take k)) y := by rw [take_more h, E.join_snoc]

set_option maxHeartbeats 4000000 in
set_option maxRecDepth 20000 in
theorem rjoin_any (l r : List Ent) (A A' : Option Addr) (n n' c c' B B' : Nat) (w : World) (h : Rd w B 3 A n (EC l)) (hB : B ≤ w.heap.size) (h' : Rd w B' 3 A' n' (EC r)) (hB' : B' ≤ w.heap.size) (hn : n ≤ 500000) (hn' : n' ≤ 500000) (hrise : E.rising l) :
    Calls Try.prog 56 #[.slice A n c, .slice A' n' c'] w (Made w (E.join l r)) := by
  have hl := h.lenE
  have hl' := h'.lenE
  have HL := Lib.hid hl
  have HL' := Lib.hid hl'
  have HR := Lib.hid hrise
  clear hl hl' hrise
  go_enter Try.func56, Try.ntmps56
  have hlit : (w.alloc (.cells #[] 59)).ownsRow w.heap.size 59 3 (.slice (some ⟨w.heap.size, 0, none⟩) 0 0) 0 [] := World.ownsRow_lit w #[] 0 (Nat.le_refl _) (by unfold maxLen; omega) rfl
  go_wp2_with (at_builtin; refine app_law0 enT rfl (.tmp 9) (.tmp 10) rfl w.heap.size rfl hlit rfl (h.alloc hB _) (EC_one l) (by omega) (by omega) (by simp) ?_; rintro A1 c1 w1 ⟨hown1, hg1, _, _⟩)
  have hbel1 : Below w.heap.size w w1 := below_app ((Below.refl _ _).alloc (Nat.le_refl _) _) hlit hg1 (Nat.le_refl _) (by simp)
  have HB1 := Lib.hid hbel1
  clear hlit hg1
  go_loopw [5, 6] (fun s i wr => ∃ (k m : Nat) (A2 : Option Addr) (c2 : Nat) (O : List Ent), k ≤ n' ∧ i = .int .i64 k ∧ s = .slice A2 m c2 ∧ O = E.join l (r.take k) ∧ m = O.length ∧ E.rising O ∧
      wr.ownsRow w.heap.size 59 3 (.slice A2 m c2) m (EC O) ∧ Below w.heap.size w wr) (fun _ i _ => n' - (intOf i).toNat)
  case atStart => exact ⟨0, n, A1, c1, l, by omega, rfl, rfl, rfl, HL.out.symm, HR.out, hown1, HB1.out⟩
  case round =>
    obtain ⟨k, m, A2, c2, O, hk, rfl, rfl, hO, hm, hro, hown, hbel⟩ := hrel
    have HO := Lib.hid hO
    have HM := Lib.hid hm
    have HRO := Lib.hid hro
    have hml : m ≤ n + k := by
      have := E.join_length l (r.take k)
      rw [← hO, ← hm, List.length_take] at this
      have := HL.out
      omega
    have hbs := hbel.size
    clear hO hm hro
    by_cases hlt : k < n'
    · obtain ⟨b, o, y, e, hb, hy, d0, d1, d2⟩ := (h'.below (hbel.mono hB')).atE hlt
      subst e
      have HY := Lib.hid hy
      clear hy
      have hk0 : (0 : Int) ≤ (k : Int) := by omega
      go_wp2_with fail
      refine (rget_any O y.key A2 m c2 _ wr (Rd.of_own hown) (Nat.le_refl _) (by omega)).mono ?_
      rintro e w2 ⟨rfl, hb2⟩
      have hown2 := own_below hown hb2
      have hbel2 := hbel.trans (hb2.mono hbs)
      have e0 := (hb2.cell (p := ⟨b, o + k * 3, none⟩) (by show b < wr.heap.size; omega)).trans d0
      have e1 := (hb2.cell (p := ⟨b, o + k * 3 + 1, none⟩) (by show b < wr.heap.size; omega)).trans d1
      have e2 := (hb2.cell (p := ⟨b, o + k * 3 + 2, none⟩) (by show b < wr.heap.size; omega)).trans d2
      have hbs2 := hbel2.size
      clear hown hbel hb2 d0 d1 d2 hbs
      rcases hg : E.get O y.key with _ | x
      · have hst := step_put (Or.inl hg)
        have HST := Lib.hid hst
        clear hst hg
        simp only [getV, Option.isSome]
        obtain ⟨f0, f1, f2⟩ := cells_alloc (o := .cells #[.int .i64 0, .int .i64 0, .string ⟨#[]⟩] 59) (by omega) e0 e1 e2
        clear e0 e1 e2
        go_wp2
        go_quiet (fail)
        go_wp2_with fail
        refine (rput_any O y A2 m c2 _ _ (((Rd.of_own hown2).alloc (Nat.le_refl _) _).drewN _) (by show w2.heap.size ≤ (w2.alloc _).heap.size; simp) (by omega) HRO.out).mono ?_
        rintro e w3 ⟨A3, m3, c3, rfl, hm3, hown3, hb3⟩
        have hb3' : Below w.heap.size w w3 := (below_dn (hbel2.alloc hbs2 _) _).trans (hb3.mono (by show w.heap.size ≤ (w2.alloc _).heap.size; simp; omega))
        have HM3 := Lib.hid hm3
        clear hm3
        go_wp2
        go_roundw
        case rel => exact ⟨k + 1, m3, A3, c3, E.put O y, by omega, by go_num, rfl, by rw [join_more l HY.out, ← HO.out, HST.out], HM3.out, E.put_rising HRO.out y, own_mono hown3 (by show w.heap.size ≤ (w2.alloc _).heap.size; simp; omega), hb3'⟩
        case measure => simp [intOf]; omega
      · have HG := Lib.hid hg
        clear hg
        simp only [getV, Option.isSome, ev]
        obtain ⟨f0, f1, f2⟩ := cells_alloc (o := .cells #[.int .i64 x.key, .int .i64 x.ver, .string (strB x.val)] 59) (by omega) e0 e1 e2
        have X3 := Box.new w2 #[.int .i64 x.key, .int .i64 x.ver, .string (strB x.val)] 59
        have hown3 := hown2.alloc (.cells #[.int .i64 x.key, .int .i64 x.ver, .string (strB x.val)] 59)
        have hbel3 := hbel2.alloc hbs2 (.cells #[.int .i64 x.key, .int .i64 x.ver, .string (strB x.val)] 59)
        have hs3 : w2.heap.size < (w2.alloc (.cells #[.int .i64 x.key, .int .i64 x.ver, .string (strB x.val)] 59)).heap.size := by simp
        clear e0 e1 e2 hown2 hbel2
        go_wp2
        generalize w2.alloc (.cells #[.int .i64 x.key, .int .i64 x.ver, .string (strB x.val)] 59) = w3 at *
        have g0 := X3.at 0 rfl
        have g1 := X3.at 1 rfl
        have g2 := X3.at 2 rfl
        have cm := fun w => rabove_any y x w
        rcases hab : E.above y x
        all_goals
          rw [hab] at cm
          have CM := Lib.hid cm
          have HAB := Lib.hid hab
          clear cm hab
        · skip
          refine wp_region_held_drew (S := (fun w' => (w'.cell? ⟨b, o + k * 3, none⟩ = some (.int .i64 y.key) ∧ w'.cell? ⟨b, o + k * 3 + 1, none⟩ = some (.int .i64 y.ver) ∧ w'.cell? ⟨b, o + k * 3 + 2, none⟩ = some (.string (strB y.val))) ∧ w'.cell? ⟨w2.heap.size, 0, none⟩ = some (.int .i64 x.key) ∧ w'.cell? ⟨w2.heap.size, 1, none⟩ = some (.int .i64 x.ver) ∧ w'.cell? ⟨w2.heap.size, 2, none⟩ = some (.string (strB x.val)))) (by kernel_rfl) (by first | exact ⟨⟨f0, f1, f2⟩, g0, g1, g2⟩ | exact ⟨⟨d0.trans f0, d1.trans f1, d2.trans f2⟩, p0.trans g0, p1.trans g1, p2.trans g2⟩) (fun hHeld0 => ?_)
          refine wpAnyH_take (i := 0) (oi := ⟨some 28, _, _, _, _, _⟩) (v := ?_) rfl (by kernel_rfl) (by kernel_rfl) (by kernel_rfl) (fun _ _ _ h => h) (Or.inl ⟨by rfl, ?_⟩) hHeld0 ?_
          rotate_left
          · (intro w' hSw; (try dsimp only at hSw); go_simp; all_goals (with_reducible rfl))
          try simp only [Act.put, List.setIfInBounds_toArray, List.set_cons_zero, List.set_cons_succ]
          refine wpAnyH_take (i := 1) (oi := ⟨some 29, _, _, _, _, _⟩) (v := ?_) rfl (by kernel_rfl) (by kernel_rfl) (by kernel_rfl) (fun _ _ _ h => h) (Or.inl ⟨by rfl, ?_⟩) hHeld0 ?_
          rotate_left
          · (intro w' hSw; (try dsimp only at hSw); go_simp; all_goals (with_reducible rfl))
          try simp only [Act.put, List.setIfInBounds_toArray, List.set_cons_zero, List.set_cons_succ]
          refine wpAnyH_take (i := 2) (oi := ⟨some 30, _, _, _, _, _⟩) (v := ?_) rfl (by kernel_rfl) (by kernel_rfl) (by kernel_rfl) (fun _ _ _ h => h) (Or.inl ⟨by rfl, ?_⟩) hHeld0 ?_
          rotate_left
          · (intro w' hSw; (try dsimp only at hSw); go_simp; all_goals (with_reducible rfl))
          try simp only [Act.put, List.setIfInBounds_toArray, List.set_cons_zero, List.set_cons_succ]
          refine wpAnyH_take (i := 3) (oi := ⟨some 31, _, _, _, _, _⟩) (v := ?_) rfl (by kernel_rfl) (by kernel_rfl) (by kernel_rfl) (fun _ _ _ h => h) (Or.inl ⟨by rfl, ?_⟩) hHeld0 ?_
          rotate_left
          · (intro w' hSw; (try dsimp only at hSw); go_simp; all_goals (with_reducible rfl))
          try simp only [Act.put, List.setIfInBounds_toArray, List.set_cons_zero, List.set_cons_succ]
          refine wpAnyH_take (i := 4) (oi := ⟨some 32, _, _, _, _, _⟩) (v := ?_) rfl (by kernel_rfl) (by kernel_rfl) (by kernel_rfl) (fun _ _ _ h => h) (Or.inl ⟨by rfl, ?_⟩) hHeld0 ?_
          rotate_left
          · (intro w' hSw; (try dsimp only at hSw); go_simp; all_goals (with_reducible rfl))
          try simp only [Act.put, List.setIfInBounds_toArray, List.set_cons_zero, List.set_cons_succ]
          refine wpAnyH_take (i := 5) (oi := ⟨some 33, _, _, _, _, _⟩) (v := ?_) rfl (by kernel_rfl) (by kernel_rfl) (by kernel_rfl) (fun _ _ _ h => h) (Or.inl ⟨by rfl, ?_⟩) hHeld0 ?_
          rotate_left
          · (intro w' hSw; (try dsimp only at hSw); go_simp; all_goals (with_reducible rfl))
          try simp only [Act.put, List.setIfInBounds_toArray, List.set_cons_zero, List.set_cons_succ]
          refine wpAnyH_take (i := 6) (oi := ⟨some 34, _, _, _, _, _⟩) (v := ?_) rfl (by kernel_rfl) (by kernel_rfl) (by kernel_rfl) (fun _ _ _ h => h) (Or.inl ⟨by rfl, ?_⟩) hHeld0 ?_
          rotate_left
          · (intro w' hSw; (try dsimp only at hSw); go_simp; all_goals (with_reducible rfl))
          try simp only [Act.put, List.setIfInBounds_toArray, List.set_cons_zero, List.set_cons_succ]
          refine wpAnyH_take (i := 7) (oi := ⟨some 35, _, _, _, _, _⟩) (v := ?_) rfl (by kernel_rfl) (by kernel_rfl) (by kernel_rfl) (fun _ _ _ h => h) (Or.inl ⟨by rfl, ?_⟩) hHeld0 ?_
          rotate_left
          · (intro w' hSw; (try dsimp only at hSw); go_simp; all_goals (with_reducible rfl))
          try simp only [Act.put, List.setIfInBounds_toArray, List.set_cons_zero, List.set_cons_succ]
          refine wpAnyH_ready (rs := [8]) (by kernel_rfl) (by simp) (AllReadyH.cons (o := ⟨some 36, _, _, _, _, _⟩) rfl (fun K hK => ?_) AllReadyH.nil)
          go_simp
          (refine (CM.out _).mono ?_; rintro e w4 ⟨rfl, hb4⟩; have d0 := hb4.cell (p := ⟨b, o + k * 3, none⟩) (by show b < w3.heap.size; omega); have d1 := hb4.cell (p := ⟨b, o + k * 3 + 1, none⟩) (by show b < w3.heap.size; omega); have d2 := hb4.cell (p := ⟨b, o + k * 3 + 2, none⟩) (by show b < w3.heap.size; omega); have p0 := hb4.cell (p := ⟨w2.heap.size, 0, none⟩) hs3; have p1 := hb4.cell (p := ⟨w2.heap.size, 1, none⟩) hs3; have p2 := hb4.cell (p := ⟨w2.heap.size, 2, none⟩) hs3)
          go_simp
          refine hK.out _ _ (by first | exact ⟨⟨f0, f1, f2⟩, g0, g1, g2⟩ | exact ⟨⟨d0.trans f0, d1.trans f1, d2.trans f2⟩, p0.trans g0, p1.trans g1, p2.trans g2⟩) (fun hHeld1 => ?_)
          clear hK hHeld0 K
          try simp only [Act.put, List.setIfInBounds_toArray, List.set_cons_zero, List.set_cons_succ]
          refine wpAnyH_take (i := 9) (oi := ⟨some 37, _, _, _, _, _⟩) (v := ?_) rfl (by kernel_rfl) (by kernel_rfl) (by kernel_rfl) (fun _ _ _ h => h) (Or.inl ⟨by rfl, ?_⟩) hHeld1 ?_
          rotate_left
          · (intro w' hSw; (try dsimp only at hSw); go_simp; all_goals (with_reducible rfl))
          try simp only [Act.put, List.setIfInBounds_toArray, List.set_cons_zero, List.set_cons_succ]
          refine wpAnyH_done (by kernel_rfl) ?_ _
          have hbel4 := hbel3.drew.trans (hb4.mono (by show w.heap.size ≤ w3.heap.size; omega))
          have hown4 := own_below hown3.drew hb4
          have hst := step_stay HG.out HAB.out
          have HST := Lib.hid hst
          clear hst
          go_wp2
          go_roundw
          case rel => exact ⟨k + 1, m, A2, c2, O, by omega, by go_num, rfl, by rw [join_more l HY.out, ← HO.out, HST.out], HM.out, HRO.out, hown4, hbel4⟩
          case measure => simp [intOf]; omega
        · skip
          refine wp_region_held_drew (S := (fun w' => (w'.cell? ⟨b, o + k * 3, none⟩ = some (.int .i64 y.key) ∧ w'.cell? ⟨b, o + k * 3 + 1, none⟩ = some (.int .i64 y.ver) ∧ w'.cell? ⟨b, o + k * 3 + 2, none⟩ = some (.string (strB y.val))) ∧ w'.cell? ⟨w2.heap.size, 0, none⟩ = some (.int .i64 x.key) ∧ w'.cell? ⟨w2.heap.size, 1, none⟩ = some (.int .i64 x.ver) ∧ w'.cell? ⟨w2.heap.size, 2, none⟩ = some (.string (strB x.val)))) (by kernel_rfl) (by first | exact ⟨⟨f0, f1, f2⟩, g0, g1, g2⟩ | exact ⟨⟨d0.trans f0, d1.trans f1, d2.trans f2⟩, p0.trans g0, p1.trans g1, p2.trans g2⟩) (fun hHeld0 => ?_)
          refine wpAnyH_take (i := 0) (oi := ⟨some 28, _, _, _, _, _⟩) (v := ?_) rfl (by kernel_rfl) (by kernel_rfl) (by kernel_rfl) (fun _ _ _ h => h) (Or.inl ⟨by rfl, ?_⟩) hHeld0 ?_
          rotate_left
          · (intro w' hSw; (try dsimp only at hSw); go_simp; all_goals (with_reducible rfl))
          try simp only [Act.put, List.setIfInBounds_toArray, List.set_cons_zero, List.set_cons_succ]
          refine wpAnyH_take (i := 1) (oi := ⟨some 29, _, _, _, _, _⟩) (v := ?_) rfl (by kernel_rfl) (by kernel_rfl) (by kernel_rfl) (fun _ _ _ h => h) (Or.inl ⟨by rfl, ?_⟩) hHeld0 ?_
          rotate_left
          · (intro w' hSw; (try dsimp only at hSw); go_simp; all_goals (with_reducible rfl))
          try simp only [Act.put, List.setIfInBounds_toArray, List.set_cons_zero, List.set_cons_succ]
          refine wpAnyH_take (i := 2) (oi := ⟨some 30, _, _, _, _, _⟩) (v := ?_) rfl (by kernel_rfl) (by kernel_rfl) (by kernel_rfl) (fun _ _ _ h => h) (Or.inl ⟨by rfl, ?_⟩) hHeld0 ?_
          rotate_left
          · (intro w' hSw; (try dsimp only at hSw); go_simp; all_goals (with_reducible rfl))
          try simp only [Act.put, List.setIfInBounds_toArray, List.set_cons_zero, List.set_cons_succ]
          refine wpAnyH_take (i := 3) (oi := ⟨some 31, _, _, _, _, _⟩) (v := ?_) rfl (by kernel_rfl) (by kernel_rfl) (by kernel_rfl) (fun _ _ _ h => h) (Or.inl ⟨by rfl, ?_⟩) hHeld0 ?_
          rotate_left
          · (intro w' hSw; (try dsimp only at hSw); go_simp; all_goals (with_reducible rfl))
          try simp only [Act.put, List.setIfInBounds_toArray, List.set_cons_zero, List.set_cons_succ]
          refine wpAnyH_take (i := 4) (oi := ⟨some 32, _, _, _, _, _⟩) (v := ?_) rfl (by kernel_rfl) (by kernel_rfl) (by kernel_rfl) (fun _ _ _ h => h) (Or.inl ⟨by rfl, ?_⟩) hHeld0 ?_
          rotate_left
          · (intro w' hSw; (try dsimp only at hSw); go_simp; all_goals (with_reducible rfl))
          try simp only [Act.put, List.setIfInBounds_toArray, List.set_cons_zero, List.set_cons_succ]
          refine wpAnyH_take (i := 5) (oi := ⟨some 33, _, _, _, _, _⟩) (v := ?_) rfl (by kernel_rfl) (by kernel_rfl) (by kernel_rfl) (fun _ _ _ h => h) (Or.inl ⟨by rfl, ?_⟩) hHeld0 ?_
          rotate_left
          · (intro w' hSw; (try dsimp only at hSw); go_simp; all_goals (with_reducible rfl))
          try simp only [Act.put, List.setIfInBounds_toArray, List.set_cons_zero, List.set_cons_succ]
          refine wpAnyH_take (i := 6) (oi := ⟨some 34, _, _, _, _, _⟩) (v := ?_) rfl (by kernel_rfl) (by kernel_rfl) (by kernel_rfl) (fun _ _ _ h => h) (Or.inl ⟨by rfl, ?_⟩) hHeld0 ?_
          rotate_left
          · (intro w' hSw; (try dsimp only at hSw); go_simp; all_goals (with_reducible rfl))
          try simp only [Act.put, List.setIfInBounds_toArray, List.set_cons_zero, List.set_cons_succ]
          refine wpAnyH_take (i := 7) (oi := ⟨some 35, _, _, _, _, _⟩) (v := ?_) rfl (by kernel_rfl) (by kernel_rfl) (by kernel_rfl) (fun _ _ _ h => h) (Or.inl ⟨by rfl, ?_⟩) hHeld0 ?_
          rotate_left
          · (intro w' hSw; (try dsimp only at hSw); go_simp; all_goals (with_reducible rfl))
          try simp only [Act.put, List.setIfInBounds_toArray, List.set_cons_zero, List.set_cons_succ]
          refine wpAnyH_ready (rs := [8]) (by kernel_rfl) (by simp) (AllReadyH.cons (o := ⟨some 36, _, _, _, _, _⟩) rfl (fun K hK => ?_) AllReadyH.nil)
          go_simp
          (refine (CM.out _).mono ?_; rintro e w4 ⟨rfl, hb4⟩; have d0 := hb4.cell (p := ⟨b, o + k * 3, none⟩) (by show b < w3.heap.size; omega); have d1 := hb4.cell (p := ⟨b, o + k * 3 + 1, none⟩) (by show b < w3.heap.size; omega); have d2 := hb4.cell (p := ⟨b, o + k * 3 + 2, none⟩) (by show b < w3.heap.size; omega); have p0 := hb4.cell (p := ⟨w2.heap.size, 0, none⟩) hs3; have p1 := hb4.cell (p := ⟨w2.heap.size, 1, none⟩) hs3; have p2 := hb4.cell (p := ⟨w2.heap.size, 2, none⟩) hs3)
          go_simp
          refine hK.out _ _ (by first | exact ⟨⟨f0, f1, f2⟩, g0, g1, g2⟩ | exact ⟨⟨d0.trans f0, d1.trans f1, d2.trans f2⟩, p0.trans g0, p1.trans g1, p2.trans g2⟩) (fun hHeld1 => ?_)
          clear hK hHeld0 K
          try simp only [Act.put, List.setIfInBounds_toArray, List.set_cons_zero, List.set_cons_succ]
          refine wpAnyH_take (i := 9) (oi := ⟨some 37, _, _, _, _, _⟩) (v := ?_) rfl (by kernel_rfl) (by kernel_rfl) (by kernel_rfl) (fun _ _ _ h => h) (Or.inl ⟨by rfl, ?_⟩) hHeld1 ?_
          rotate_left
          · (intro w' hSw; (try dsimp only at hSw); go_simp; all_goals (with_reducible rfl))
          try simp only [Act.put, List.setIfInBounds_toArray, List.set_cons_zero, List.set_cons_succ]
          refine wpAnyH_done (by kernel_rfl) ?_ _
          have hbel4 := hbel3.drew.trans (hb4.mono (by show w.heap.size ≤ w3.heap.size; omega))
          have hown4 := own_below hown3.drew hb4
          have hst := step_put (Or.inr ⟨x, HG.out, HAB.out⟩)
          have HST := Lib.hid hst
          have hbs4 := hbel4.size
          have q0 := d0.trans f0
          have q1 := d1.trans f1
          have q2 := d2.trans f2
          clear hst d0 d1 d2 f0 f1 f2 g0 g1 g2 p0 p1 p2 hHeld1
          go_wp2_with fail
          refine (rput_any O y A2 m c2 _ _ (Rd.of_own hown4) (Nat.le_refl _) (by omega) HRO.out).mono ?_
          rintro e w5 ⟨A3, m3, c3, rfl, hm3, hown5, hb5⟩
          have HM3 := Lib.hid hm3
          clear hm3
          go_wp2
          go_roundw
          case rel => exact ⟨k + 1, m3, A3, c3, E.put O y, by omega, by go_num, rfl, by rw [join_more l HY.out, ← HO.out, HST.out], HM3.out, E.put_rising HRO.out y, own_mono hown5 hbs4, hbel4.trans (hb5.mono hbs4)⟩
          case measure => simp [intOf]; omega
    · have he : r.take k = r := List.take_of_length_le (by have := HL'.out; omega)
      have HE := Lib.hid he
      clear he
      go_wp2
      go_ret
      have h1 := HO.out
      rw [HE.out] at h1
      subst h1
      exact ⟨A2, m, c2, rfl, HM.out, hown, hbel⟩

noncomputable def rightB (l : List Ent) : Bool := open Classical in decide (E.right l)
theorem rightB_iff {l : List Ent} {b : Bool} (h : b = true ↔ E.right l) : b = rightB l := by
  unfold rightB
  by_cases hr : E.right l
  · rw [h.2 hr]; simp [hr]
  · cases b
    · simp [hr]
    · exact absurd (h.1 rfl) hr
theorem rightB_no {l : List Ent} (h : ¬ E.right l) : rightB l = false := (rightB_iff (b := false) ⟨(fun e => by cases e), fun hr => absurd hr h⟩).symm
theorem rightB_yes {l : List Ent} (h : E.right l) : rightB l = true := (rightB_iff (b := true) ⟨fun _ => h, fun _ => rfl⟩).symm
theorem rightB_out {l : List Ent} (h : rightB l = true) : E.right l := by
  by_cases hr : E.right l
  · exact hr
  · rw [rightB_no hr] at h; cases h
theorem rright_any (l : List Ent) (A : Option Addr) (n c B : Nat) (w : World) (h : Rd w B 3 A n (EC l)) (hB : B ≤ w.heap.size) (hn : n * 32 ≤ 140737488351232) :
    Calls Try.prog 46 #[.slice A n c] w fun e w' => e = .returned (.bool (rightB l)) ∧ Below w.heap.size w w' :=
  (rright_t l A n c B w h hB hn).mono fun e w' ⟨⟨b, he, hb⟩, hw⟩ => ⟨by rw [he, rightB_iff hb], hw⟩

def overB (l r : List Ent) : Bool := decide (E.join l r = l)
end Go.Proofs.Ytpfkgddcoancnaa
