/- ECode ECode2 ECode3 ECode4 ECode5 ECode6 ECode7 (merged). -/
import Derived.Shelf.Abstract
import Derived.Lib.LazyBuf
import Derived.Test.YtkabkpeamggnnaaJERef
namespace Go.Proofs.Ytkabkpeamggnnaa
set_option linter.unusedVariables false
set_option linter.unusedSimpArgs false
open Go.RowKit

set_option maxHeartbeats 1000000 in
theorem may_any (x : Ent) (w : World) :
    Calls Try.prog 83 #[ev x] w fun e w' => e = .returned (.bool (emayB x)) ∧ Below w.heap.size w w' := by
  obtain ⟨k, v, s⟩ := x
  simp only [ev]
  have hs : (strB s).size = s.length := strB_size s
  by_cases h1 : 0 ≤ k
  · by_cases h2 : k < 12
    · by_cases h3 : 1 ≤ v
      · by_cases h4 : v ≤ 1099511627776
        all_goals
          go_enter Try.func83, Try.ntmps83
          go_wp2
          go_ret
          exact ⟨ret_bool (by first | exact emay_no (by unfold E.may; dsimp only; omega) | exact emay_eq (by unfold E.may; dsimp only; omega)), (Below.refl _ _).alloc (Nat.le_refl _) _⟩
      · go_enter Try.func83, Try.ntmps83
        go_wp2
        go_ret
        exact ⟨ret_bool (emay_no (by unfold E.may; dsimp only; omega)), (Below.refl _ _).alloc (Nat.le_refl _) _⟩
    · go_enter Try.func83, Try.ntmps83
      go_wp2
      go_ret
      exact ⟨ret_bool (emay_no (by unfold E.may; dsimp only; omega)), (Below.refl _ _).alloc (Nat.le_refl _) _⟩
  · go_enter Try.func83, Try.ntmps83
    go_wp2
    go_ret
    exact ⟨ret_bool (emay_no (by unfold E.may; dsimp only; omega)), (Below.refl _ _).alloc (Nat.le_refl _) _⟩

set_option maxHeartbeats 1000000 in
theorem above_any (x y : Ent) (w : World) :
    Calls Try.prog 85 #[ev x, ev y] w fun e w' => e = .returned (.bool (E.above x y)) ∧ Below w.heap.size w w' := by
  obtain ⟨k, v, s⟩ := x
  obtain ⟨k', v', s'⟩ := y
  simp only [ev]
  have hb : Below w.heap.size w ((w.alloc (.cells #[.int .i64 k, .int .i64 v, .string (strB s)] 58)).alloc (.cells #[.int .i64 k', .int .i64 v', .string (strB s')] 58)) := ((Below.refl _ _).alloc (Nat.le_refl _) _).alloc (by simp) _
  by_cases h1 : v' < v
  · go_enter Try.func85, Try.ntmps85
    go_wp2
    go_ret
    exact ⟨ret_bool (by simp [E.above, h1]), hb⟩
  · by_cases h2 : v = v'
    · subst h2
      go_enter Try.func85, Try.ntmps85
      go_wp2
      go_ret
      exact ⟨ret_bool (by have h := E.gt_eq s s'; unfold E.lt at h; simp [E.above, E.lt]; rw [h, Bool.not_or]), hb⟩
    · have t2 : (v == v') = false := beq_eq_false_iff_ne.2 h2
      have H2 := Lib.hid h2
      have H1 := Lib.hid h1
      clear h2
      go_enter Try.func85, Try.ntmps85
      go_wp2
      go_ret
      exact ⟨ret_bool (by simp [E.above, H1.out, H2.out]), hb⟩

theorem top_any (l : List Ent) (A : Option Addr) (n c B : Nat) (w : World) (h : Rd w B 3 A n (EC l)) (hB : B ≤ w.heap.size) (hn : n ≤ 70368744177664) :
    Calls Try.prog 70 #[.slice A n c] w fun e w' => e = .returned (.int .i64 (E.top l)) ∧ Below w.heap.size w w' := by
  have hl := h.lenE
  have HL := Lib.hid hl
  clear hl
  go_enter Try.func70, Try.ntmps70
  go_wp2
  go_loopw [3, 8] (fun m i wr => ∃ k : Nat, k ≤ n ∧ i = .int .i64 k ∧ m = .int .i64 (E.top (l.take k)) ∧ Below w.heap.size w wr) (fun _ i _ => n - (intOf i).toNat)
  case atStart => exact ⟨0, by omega, rfl, rfl, Below.refl _ _⟩
  case round =>
    obtain ⟨k, hk, rfl, rfl, hbel⟩ := hrel
    have hbs := hbel.size
    by_cases hlt : k < n
    · obtain ⟨b, o, x, rfl, hb, hx, c0, c1, c2⟩ := (h.below (hbel.mono hB)).atE hlt
      have HX := Lib.hid hx
      clear hx
      go_wp2
      go_roundw
      case rel => exact ⟨k + 1, by omega, by go_num, by rw [take_more HX.out, E.top_snoc, imax], by first | exact hbel.alloc hbs _ | exact below_set (below_set (below_set (hbel.alloc hbs _) hbs _) hbs _) hbs _⟩
      case measure => simp [intOf]; omega
    · go_wp2
      go_ret
      exact ⟨ret_int (by rw [List.take_of_length_le (by have := HL.out; omega)]), hbel⟩
end Go.Proofs.Ytkabkpeamggnnaa

namespace Go.Proofs.Ytkabkpeamggnnaa
set_option linter.unusedVariables false
set_option linter.unusedSimpArgs false
open Go.RowKit

set_option maxHeartbeats 1600000 in
set_option maxRecDepth 20000 in
theorem right_any (l : List Ent) (A : Option Addr) (n c B : Nat) (w : World) (h : Rd w B 3 A n (EC l)) (hB : B ≤ w.heap.size) (hn : n * 32 ≤ 140737488351232) :
    Calls Try.prog 76 #[.slice A n c] w fun e w' => e = .returned (.bool (rightB l)) ∧ Below w.heap.size w w' := by
  have hl := h.lenE
  have HL := Lib.hid hl
  clear hl
  go_enter Try.func76, Try.ntmps76
  go_wp2
  go_loopw [7] (fun i wr => ∃ k : Nat, k ≤ n ∧ i = .int .i64 k ∧ E.right (l.take k) ∧ Below w.heap.size w wr) (fun i _ => n - (intOf i).toNat)
  case atStart => exact ⟨0, by omega, rfl, ⟨by simp, trivial⟩, Below.refl _ _⟩
  case round =>
    obtain ⟨k, hk, rfl, hno, hbel⟩ := hrel
    have HN := Lib.hid hno
    have hbs := hbel.size
    clear hno
    by_cases hlt : k < n
    · obtain ⟨b, o, x, e1, hb, hx, c0, c1, c2⟩ := (h.below (hbel.mono hB)).atE hlt
      subst e1
      have HX := Lib.hid hx
      clear hx
      have hk0 : (0 : Int) ≤ (k : Int) := by omega
      have X3 := Box.new wr #[.int .i64 x.key, .int .i64 x.ver, .string (strB x.val)] 58
      have HB3 := Lib.hid (hbel.alloc hbs (.cells #[.int .i64 x.key, .int .i64 x.ver, .string (strB x.val)] 58))
      have hs3 : wr.heap.size < (wr.alloc (.cells #[.int .i64 x.key, .int .i64 x.ver, .string (strB x.val)] 58)).heap.size := by simp
      have hbl : b < wr.heap.size := by omega
      have cm := fun w => may_any x w
      rcases hm : emayB x
      · have hno : rightB l = false := rightB_no fun hr => (of_decide_eq_false hm) (hr.1 x (List.mem_of_getElem? HX.out))
        have HNO := Lib.hid hno
        rw [hm] at cm
        have CM := Lib.hid cm
        clear hno cm hm
        go_wp2
        generalize wr.alloc (.cells #[.int .i64 x.key, .int .i64 x.ver, .string (strB x.val)] 58) = w3 at *
        have g0 := X3.at 0 rfl
        have g1 := X3.at 1 rfl
        have g2 := X3.at 2 rfl
        refine wp_region_held_drew (S := (fun w' => w'.cell? ⟨wr.heap.size, 0, none⟩ = some (.int .i64 x.key) ∧ w'.cell? ⟨wr.heap.size, 1, none⟩ = some (.int .i64 x.ver) ∧ w'.cell? ⟨wr.heap.size, 2, none⟩ = some (.string (strB x.val)))) (by kernel_rfl) (by first | exact ⟨g0, g1, g2⟩ | exact ⟨p0.trans g0, p1.trans g1, p2.trans g2⟩) (fun hHeld0 => ?_)
        refine wpAnyH_take (i := 0) (oi := ⟨some 12, _, _, _, _, _⟩) (v := ?_) rfl (by kernel_rfl) (by kernel_rfl) (by kernel_rfl) (fun _ _ _ h => h) (Or.inl ⟨by rfl, ?_⟩) hHeld0 ?_
        rotate_left
        · (intro w' hSw; (try dsimp only at hSw); go_simp; all_goals (with_reducible rfl))
        try simp only [Act.put, sA, sB, sC]
        refine wpAnyH_ready (rs := [1]) (by kernel_rfl) (by simp) (AllReadyH.cons (o := ⟨some 13, _, _, _, _, _⟩) rfl (fun K hK => ?_) AllReadyH.nil)
        go_simp
        (refine (CM.out _).mono ?_; rintro e w4 ⟨rfl, hb4⟩; have p0 := hb4.cell (p := ⟨wr.heap.size, 0, none⟩) hs3; have p1 := hb4.cell (p := ⟨wr.heap.size, 1, none⟩) hs3; have p2 := hb4.cell (p := ⟨wr.heap.size, 2, none⟩) hs3)
        go_simp
        refine hK.out _ _ (by first | exact ⟨g0, g1, g2⟩ | exact ⟨p0.trans g0, p1.trans g1, p2.trans g2⟩) (fun hHeld1 => ?_)
        clear hK hHeld0 K
        try simp only [Act.put, sA, sB, sC]
        refine wpAnyH_take (i := 2) (oi := ⟨some 14, _, _, _, _, _⟩) (v := ?_) rfl (by kernel_rfl) (by kernel_rfl) (by kernel_rfl) (fun _ _ _ h => h) (Or.inl ⟨by rfl, ?_⟩) hHeld1 ?_
        rotate_left
        · (intro w' hSw; (try dsimp only at hSw); go_simp; all_goals (with_reducible rfl))
        try simp only [Act.put, sA, sB, sC]
        refine wpAnyH_take (i := 3) (oi := ⟨some 15, _, _, _, _, _⟩) (v := ?_) rfl (by kernel_rfl) (by kernel_rfl) (by kernel_rfl) (fun _ _ _ h => h) (Or.inl ⟨by rfl, ?_⟩) hHeld1 ?_
        rotate_left
        · (intro w' hSw; (try dsimp only at hSw); go_simp; all_goals (with_reducible rfl))
        try simp only [Act.put, sA, sB, sC]
        refine wpAnyH_take (i := 4) (oi := ⟨some 16, _, _, _, _, _⟩) (v := undef) rfl (by kernel_rfl) (by kernel_rfl) (by kernel_rfl) (fun _ _ _ h => h) (Or.inr ⟨by rfl, rfl⟩) hHeld1 ?_
        try simp only [Act.put, sA, sB, sC]
        refine wpAnyH_take (i := 5) (oi := ⟨some 17, _, _, _, _, _⟩) (v := undef) rfl (by kernel_rfl) (by kernel_rfl) (by kernel_rfl) (fun _ _ _ h => h) (Or.inr ⟨by rfl, rfl⟩) hHeld1 ?_
        try simp only [Act.put, sA, sB, sC]
        refine wpAnyH_take (i := 6) (oi := ⟨some 18, _, _, _, _, _⟩) (v := undef) rfl (by kernel_rfl) (by kernel_rfl) (by kernel_rfl) (fun _ _ _ h => h) (Or.inr ⟨by rfl, rfl⟩) hHeld1 ?_
        try simp only [Act.put, sA, sB, sC]
        refine wpAnyH_take (i := 7) (oi := ⟨some 19, _, _, _, _, _⟩) (v := undef) rfl (by kernel_rfl) (by kernel_rfl) (by kernel_rfl) (fun _ _ _ h => h) (Or.inr ⟨by rfl, rfl⟩) hHeld1 ?_
        try simp only [Act.put, sA, sB, sC]
        refine wpAnyH_take (i := 8) (oi := ⟨some 20, _, _, _, _, _⟩) (v := undef) rfl (by kernel_rfl) (by kernel_rfl) (by kernel_rfl) (fun _ _ _ h => h) (Or.inr ⟨by rfl, rfl⟩) hHeld1 ?_
        try simp only [Act.put, sA, sB, sC]
        refine wpAnyH_take (i := 9) (oi := ⟨some 21, _, _, _, _, _⟩) (v := undef) rfl (by kernel_rfl) (by kernel_rfl) (by kernel_rfl) (fun _ _ _ h => h) (Or.inr ⟨by rfl, rfl⟩) hHeld1 ?_
        try simp only [Act.put, sA, sB, sC]
        refine wpAnyH_take (i := 10) (oi := ⟨some 22, _, _, _, _, _⟩) (v := undef) rfl (by kernel_rfl) (by kernel_rfl) (by kernel_rfl) (fun _ _ _ h => h) (Or.inr ⟨by rfl, rfl⟩) hHeld1 ?_
        try simp only [Act.put, sA, sB, sC]
        refine wpAnyH_take (i := 11) (oi := ⟨some 23, _, _, _, _, _⟩) (v := undef) rfl (by kernel_rfl) (by kernel_rfl) (by kernel_rfl) (fun _ _ _ h => h) (Or.inr ⟨by rfl, rfl⟩) hHeld1 ?_
        try simp only [Act.put, sA, sB, sC]
        refine wpAnyH_take (i := 12) (oi := ⟨some 24, _, _, _, _, _⟩) (v := undef) rfl (by kernel_rfl) (by kernel_rfl) (by kernel_rfl) (fun _ _ _ h => h) (Or.inr ⟨by rfl, rfl⟩) hHeld1 ?_
        try simp only [Act.put, sA, sB, sC]
        refine wpAnyH_take (i := 13) (oi := ⟨some 25, _, _, _, _, _⟩) (v := undef) rfl (by kernel_rfl) (by kernel_rfl) (by kernel_rfl) (fun _ _ _ h => h) (Or.inr ⟨by rfl, rfl⟩) hHeld1 ?_
        try simp only [Act.put, sA, sB, sC]
        refine wpAnyH_take (i := 14) (oi := ⟨some 26, _, _, _, _, _⟩) (v := undef) rfl (by kernel_rfl) (by kernel_rfl) (by kernel_rfl) (fun _ _ _ h => h) (Or.inr ⟨by rfl, rfl⟩) hHeld1 ?_
        try simp only [Act.put, sA, sB, sC]
        refine wpAnyH_take (i := 15) (oi := ⟨some 27, _, _, _, _, _⟩) (v := undef) rfl (by kernel_rfl) (by kernel_rfl) (by kernel_rfl) (fun _ _ _ h => h) (Or.inr ⟨by rfl, rfl⟩) hHeld1 ?_
        try simp only [Act.put, sA, sB, sC]
        refine wpAnyH_take (i := 16) (oi := ⟨some 28, _, _, _, _, _⟩) (v := undef) rfl (by kernel_rfl) (by kernel_rfl) (by kernel_rfl) (fun _ _ _ h => h) (Or.inr ⟨by rfl, rfl⟩) hHeld1 ?_
        try simp only [Act.put, sA, sB, sC]
        refine wpAnyH_take (i := 17) (oi := ⟨some 29, _, _, _, _, _⟩) (v := ?_) rfl (by kernel_rfl) (by kernel_rfl) (by kernel_rfl) (fun _ _ _ h => h) (Or.inl ⟨by rfl, ?_⟩) hHeld1 ?_
        rotate_left
        · (intro w' hSw; (try dsimp only at hSw); go_simp; all_goals (with_reducible rfl))
        try simp only [Act.put, sA, sB, sC]
        refine wpAnyH_done (by kernel_rfl) ?_ _
        go_wp2
        go_ret
        exact ⟨ret_bool HNO.out.symm, (HB3.out.drew).trans (hb4.mono (by show w.heap.size ≤ w3.heap.size; omega))⟩
      · rw [hm] at cm
        have hmx : E.may x := of_decide_eq_true hm
        have CM := Lib.hid cm
        have HMX := Lib.hid hmx
        clear cm hm hmx
        by_cases hkp : 0 < k
        · obtain ⟨b', o', y, e2, hb', hy, f0, f1, f2⟩ := (h.below (hbel.mono hB)).atE (show k - 1 < n by omega)
          obtain ⟨rfl, rfl⟩ : b = b' ∧ o = o' := by simpa using e2
          have HY := Lib.hid hy
          have f0' : (wr.alloc (.cells #[.int .i64 x.key, .int .i64 x.ver, .string (strB x.val)] 58)).cell? ⟨b, o + (k - 1) * 3, none⟩ = some (.int .i64 y.key) := (World.cell?_alloc_lt wr _ ⟨b, o + (k - 1) * 3, none⟩ hbl).trans f0
          clear hy e2 f1 f2
          have g1i : (0 : Int) ≤ (k : Int) - 1 := by omega
          have g1' : (1 : Int) ≤ (k : Int) := by omega
          have g2i : (k : Int) - 1 < (n : Int) := by omega
          have g3i : ((k : Int) - 1).toNat = k - 1 := by omega
          have g4i : IntKind.i64.wrap ((k : Int) - 1) = (k : Int) - 1 := IntWalk.i64_in _ (by omega)
          by_cases hlt2 : y.key < x.key
          · have hd : decide (x.key ≤ y.key) = false := decide_eq_false (by omega)
            have hd2 : ¬ x.key ≤ y.key := by omega
            have HLT2 := Lib.hid hlt2
            clear hlt2 f0
            go_wp2
            generalize wr.alloc (.cells #[.int .i64 x.key, .int .i64 x.ver, .string (strB x.val)] 58) = w3 at *
            have g0 := X3.at 0 rfl
            have g1 := X3.at 1 rfl
            have g2 := X3.at 2 rfl
            refine wp_region_held_drew (S := (fun w' => (w'.cell? ⟨wr.heap.size, 0, none⟩ = some (.int .i64 x.key) ∧ w'.cell? ⟨wr.heap.size, 1, none⟩ = some (.int .i64 x.ver) ∧ w'.cell? ⟨wr.heap.size, 2, none⟩ = some (.string (strB x.val))) ∧ w'.cell? ⟨b, o + (k - 1) * 3, none⟩ = some (.int .i64 y.key))) (by kernel_rfl) (by first | exact ⟨⟨g0, g1, g2⟩, f0'⟩ | exact ⟨⟨p0.trans g0, p1.trans g1, p2.trans g2⟩, p3.trans f0'⟩) (fun hHeld0 => ?_)
            refine wpAnyH_take (i := 0) (oi := ⟨some 12, _, _, _, _, _⟩) (v := ?_) rfl (by kernel_rfl) (by kernel_rfl) (by kernel_rfl) (fun _ _ _ h => h) (Or.inl ⟨by rfl, ?_⟩) hHeld0 ?_
            rotate_left
            · (intro w' hSw; (try dsimp only at hSw); go_simp; all_goals (with_reducible rfl))
            try simp only [Act.put, sA, sB, sC]
            refine wpAnyH_ready (rs := [1]) (by kernel_rfl) (by simp) (AllReadyH.cons (o := ⟨some 13, _, _, _, _, _⟩) rfl (fun K hK => ?_) AllReadyH.nil)
            go_simp
            (refine (CM.out _).mono ?_; rintro e w4 ⟨rfl, hb4⟩; have p0 := hb4.cell (p := ⟨wr.heap.size, 0, none⟩) hs3; have p1 := hb4.cell (p := ⟨wr.heap.size, 1, none⟩) hs3; have p2 := hb4.cell (p := ⟨wr.heap.size, 2, none⟩) hs3; have p3 := hb4.cell (p := ⟨b, o + (k - 1) * 3, none⟩) (by show b < w3.heap.size; omega))
            go_simp
            refine hK.out _ _ (by first | exact ⟨⟨g0, g1, g2⟩, f0'⟩ | exact ⟨⟨p0.trans g0, p1.trans g1, p2.trans g2⟩, p3.trans f0'⟩) (fun hHeld1 => ?_)
            clear hK hHeld0 K
            try simp only [Act.put, sA, sB, sC]
            refine wpAnyH_take (i := 2) (oi := ⟨some 14, _, _, _, _, _⟩) (v := ?_) rfl (by kernel_rfl) (by kernel_rfl) (by kernel_rfl) (fun _ _ _ h => h) (Or.inl ⟨by rfl, ?_⟩) hHeld1 ?_
            rotate_left
            · (intro w' hSw; (try dsimp only at hSw); go_simp; all_goals (with_reducible rfl))
            try simp only [Act.put, sA, sB, sC]
            refine wpAnyH_take (i := 3) (oi := ⟨some 15, _, _, _, _, _⟩) (v := ?_) rfl (by kernel_rfl) (by kernel_rfl) (by kernel_rfl) (fun _ _ _ h => h) (Or.inl ⟨by rfl, ?_⟩) hHeld1 ?_
            rotate_left
            · (intro w' hSw; (try dsimp only at hSw); go_simp; all_goals (with_reducible rfl))
            try simp only [Act.put, sA, sB, sC]
            refine wpAnyH_take (i := 4) (oi := ⟨some 16, _, _, _, _, _⟩) (v := ?_) rfl (by kernel_rfl) (by kernel_rfl) (by kernel_rfl) (fun _ _ _ h => h) (Or.inl ⟨by rfl, ?_⟩) hHeld1 ?_
            rotate_left
            · (intro w' hSw; (try dsimp only at hSw); go_simp; all_goals (with_reducible rfl))
            try simp only [Act.put, sA, sB, sC]
            refine wpAnyH_take (i := 5) (oi := ⟨some 17, _, _, _, _, _⟩) (v := ?_) rfl (by kernel_rfl) (by kernel_rfl) (by kernel_rfl) (fun _ _ _ h => h) (Or.inl ⟨by rfl, ?_⟩) hHeld1 ?_
            rotate_left
            · (intro w' hSw; (try dsimp only at hSw); go_simp; all_goals (with_reducible rfl))
            try simp only [Act.put, sA, sB, sC]
            refine wpAnyH_take (i := 6) (oi := ⟨some 18, _, _, _, _, _⟩) (v := ?_) rfl (by kernel_rfl) (by kernel_rfl) (by kernel_rfl) (fun _ _ _ h => h) (Or.inl ⟨by rfl, ?_⟩) hHeld1 ?_
            rotate_left
            · (intro w' hSw; (try dsimp only at hSw); go_simp; all_goals (with_reducible rfl))
            try simp only [Act.put, sA, sB, sC]
            refine wpAnyH_take (i := 7) (oi := ⟨some 19, _, _, _, _, _⟩) (v := ?_) rfl (by kernel_rfl) (by kernel_rfl) (by kernel_rfl) (fun _ _ _ h => h) (Or.inl ⟨by rfl, ?_⟩) hHeld1 ?_
            rotate_left
            · (intro w' hSw; (try dsimp only at hSw); go_simp; all_goals (with_reducible rfl))
            try simp only [Act.put, sA, sB, sC]
            refine wpAnyH_take (i := 8) (oi := ⟨some 20, _, _, _, _, _⟩) (v := ?_) rfl (by kernel_rfl) (by kernel_rfl) (by kernel_rfl) (fun _ _ _ h => h) (Or.inl ⟨by rfl, ?_⟩) hHeld1 ?_
            rotate_left
            · (intro w' hSw; (try dsimp only at hSw); go_simp; all_goals (with_reducible rfl))
            try simp only [Act.put, sA, sB, sC]
            refine wpAnyH_take (i := 9) (oi := ⟨some 21, _, _, _, _, _⟩) (v := ?_) rfl (by kernel_rfl) (by kernel_rfl) (by kernel_rfl) (fun _ _ _ h => h) (Or.inl ⟨by rfl, ?_⟩) hHeld1 ?_
            rotate_left
            · (intro w' hSw; (try dsimp only at hSw); go_simp; all_goals (with_reducible rfl))
            try simp only [Act.put, sA, sB, sC]
            refine wpAnyH_take (i := 10) (oi := ⟨some 22, _, _, _, _, _⟩) (v := ?_) rfl (by kernel_rfl) (by kernel_rfl) (by kernel_rfl) (fun _ _ _ h => h) (Or.inl ⟨by rfl, ?_⟩) hHeld1 ?_
            rotate_left
            · (intro w' hSw; (try dsimp only at hSw); go_simp; all_goals (with_reducible rfl))
            try simp only [Act.put, sA, sB, sC]
            refine wpAnyH_take (i := 11) (oi := ⟨some 23, _, _, _, _, _⟩) (v := ?_) rfl (by kernel_rfl) (by kernel_rfl) (by kernel_rfl) (fun _ _ _ h => h) (Or.inl ⟨by rfl, ?_⟩) hHeld1 ?_
            rotate_left
            · (intro w' hSw; (try dsimp only at hSw); go_simp; all_goals (with_reducible rfl))
            try simp only [Act.put, sA, sB, sC]
            refine wpAnyH_take (i := 12) (oi := ⟨some 24, _, _, _, _, _⟩) (v := ?_) rfl (by kernel_rfl) (by kernel_rfl) (by kernel_rfl) (fun _ _ _ h => h) (Or.inl ⟨by rfl, ?_⟩) hHeld1 ?_
            rotate_left
            · (intro w' hSw; (try dsimp only at hSw); go_simp; all_goals (with_reducible rfl))
            try simp only [Act.put, sA, sB, sC]
            refine wpAnyH_take (i := 13) (oi := ⟨some 25, _, _, _, _, _⟩) (v := ?_) rfl (by kernel_rfl) (by kernel_rfl) (by kernel_rfl) (fun _ _ _ h => h) (Or.inl ⟨by rfl, ?_⟩) hHeld1 ?_
            rotate_left
            · (intro w' hSw; (try dsimp only at hSw); go_simp; all_goals (with_reducible rfl))
            try simp only [Act.put, sA, sB, sC]
            refine wpAnyH_take (i := 14) (oi := ⟨some 26, _, _, _, _, _⟩) (v := ?_) rfl (by kernel_rfl) (by kernel_rfl) (by kernel_rfl) (fun _ _ _ h => h) (Or.inl ⟨by rfl, ?_⟩) hHeld1 ?_
            rotate_left
            · (intro w' hSw; (try dsimp only at hSw); go_simp; all_goals (with_reducible rfl))
            try simp only [Act.put, sA, sB, sC]
            refine wpAnyH_take (i := 15) (oi := ⟨some 27, _, _, _, _, _⟩) (v := ?_) rfl (by kernel_rfl) (by kernel_rfl) (by kernel_rfl) (fun _ _ _ h => h) (Or.inl ⟨by rfl, ?_⟩) hHeld1 ?_
            rotate_left
            · (intro w' hSw; (try dsimp only at hSw); go_simp; all_goals (with_reducible rfl))
            try simp only [Act.put, sA, sB, sC]
            refine wpAnyH_take (i := 16) (oi := ⟨some 28, _, _, _, _, _⟩) (v := ?_) rfl (by kernel_rfl) (by kernel_rfl) (by kernel_rfl) (fun _ _ _ h => h) (Or.inl ⟨by rfl, ?_⟩) hHeld1 ?_
            rotate_left
            · (intro w' hSw; (try dsimp only at hSw); go_simp; all_goals (with_reducible rfl))
            try simp only [Act.put, sA, sB, sC]
            refine wpAnyH_take (i := 17) (oi := ⟨some 29, _, _, _, _, _⟩) (v := ?_) rfl (by kernel_rfl) (by kernel_rfl) (by kernel_rfl) (fun _ _ _ h => h) (Or.inl ⟨by rfl, ?_⟩) hHeld1 ?_
            rotate_left
            · (intro w' hSw; (try dsimp only at hSw); go_simp; all_goals (with_reducible rfl))
            try simp only [Act.put, sA, sB, sC]
            refine wpAnyH_done (by kernel_rfl) ?_ _
            go_wp2
            go_roundw
            case rel =>
              refine ⟨k + 1, by omega, by go_num, ?_, (HB3.out.drew).trans (hb4.mono (by show w.heap.size ≤ w3.heap.size; omega))⟩
              rw [take_more HX.out]
              exact right_snoc.2 ⟨HN.out, HMX.out, below_last HN.out.2 (k := k - 1) (by rw [List.length_take, HL.out]; omega) (by rw [List.getElem?_take, if_pos (by omega)]; exact HY.out) HLT2.out⟩
            case measure => simp [intOf]; omega
          · have hd : decide (x.key ≤ y.key) = true := decide_eq_true (by omega)
            have hno : rightB l = false := rightB_no fun hr => hlt2 (E.rising_at hr.2 (show k - 1 < k by omega) HY.out HX.out)
            have HNO := Lib.hid hno
            clear hno hlt2 f0
            go_wp2
            generalize wr.alloc (.cells #[.int .i64 x.key, .int .i64 x.ver, .string (strB x.val)] 58) = w3 at *
            have g0 := X3.at 0 rfl
            have g1 := X3.at 1 rfl
            have g2 := X3.at 2 rfl
            refine wp_region_held_drew (S := (fun w' => (w'.cell? ⟨wr.heap.size, 0, none⟩ = some (.int .i64 x.key) ∧ w'.cell? ⟨wr.heap.size, 1, none⟩ = some (.int .i64 x.ver) ∧ w'.cell? ⟨wr.heap.size, 2, none⟩ = some (.string (strB x.val))) ∧ w'.cell? ⟨b, o + (k - 1) * 3, none⟩ = some (.int .i64 y.key))) (by kernel_rfl) (by first | exact ⟨⟨g0, g1, g2⟩, f0'⟩ | exact ⟨⟨p0.trans g0, p1.trans g1, p2.trans g2⟩, p3.trans f0'⟩) (fun hHeld0 => ?_)
            refine wpAnyH_take (i := 0) (oi := ⟨some 12, _, _, _, _, _⟩) (v := ?_) rfl (by kernel_rfl) (by kernel_rfl) (by kernel_rfl) (fun _ _ _ h => h) (Or.inl ⟨by rfl, ?_⟩) hHeld0 ?_
            rotate_left
            · (intro w' hSw; (try dsimp only at hSw); go_simp; all_goals (with_reducible rfl))
            try simp only [Act.put, sA, sB, sC]
            refine wpAnyH_ready (rs := [1]) (by kernel_rfl) (by simp) (AllReadyH.cons (o := ⟨some 13, _, _, _, _, _⟩) rfl (fun K hK => ?_) AllReadyH.nil)
            go_simp
            (refine (CM.out _).mono ?_; rintro e w4 ⟨rfl, hb4⟩; have p0 := hb4.cell (p := ⟨wr.heap.size, 0, none⟩) hs3; have p1 := hb4.cell (p := ⟨wr.heap.size, 1, none⟩) hs3; have p2 := hb4.cell (p := ⟨wr.heap.size, 2, none⟩) hs3; have p3 := hb4.cell (p := ⟨b, o + (k - 1) * 3, none⟩) (by show b < w3.heap.size; omega))
            go_simp
            refine hK.out _ _ (by first | exact ⟨⟨g0, g1, g2⟩, f0'⟩ | exact ⟨⟨p0.trans g0, p1.trans g1, p2.trans g2⟩, p3.trans f0'⟩) (fun hHeld1 => ?_)
            clear hK hHeld0 K
            try simp only [Act.put, sA, sB, sC]
            refine wpAnyH_take (i := 2) (oi := ⟨some 14, _, _, _, _, _⟩) (v := ?_) rfl (by kernel_rfl) (by kernel_rfl) (by kernel_rfl) (fun _ _ _ h => h) (Or.inl ⟨by rfl, ?_⟩) hHeld1 ?_
            rotate_left
            · (intro w' hSw; (try dsimp only at hSw); go_simp; all_goals (with_reducible rfl))
            try simp only [Act.put, sA, sB, sC]
            refine wpAnyH_take (i := 3) (oi := ⟨some 15, _, _, _, _, _⟩) (v := ?_) rfl (by kernel_rfl) (by kernel_rfl) (by kernel_rfl) (fun _ _ _ h => h) (Or.inl ⟨by rfl, ?_⟩) hHeld1 ?_
            rotate_left
            · (intro w' hSw; (try dsimp only at hSw); go_simp; all_goals (with_reducible rfl))
            try simp only [Act.put, sA, sB, sC]
            refine wpAnyH_take (i := 4) (oi := ⟨some 16, _, _, _, _, _⟩) (v := ?_) rfl (by kernel_rfl) (by kernel_rfl) (by kernel_rfl) (fun _ _ _ h => h) (Or.inl ⟨by rfl, ?_⟩) hHeld1 ?_
            rotate_left
            · (intro w' hSw; (try dsimp only at hSw); go_simp; all_goals (with_reducible rfl))
            try simp only [Act.put, sA, sB, sC]
            refine wpAnyH_take (i := 5) (oi := ⟨some 17, _, _, _, _, _⟩) (v := ?_) rfl (by kernel_rfl) (by kernel_rfl) (by kernel_rfl) (fun _ _ _ h => h) (Or.inl ⟨by rfl, ?_⟩) hHeld1 ?_
            rotate_left
            · (intro w' hSw; (try dsimp only at hSw); go_simp; all_goals (with_reducible rfl))
            try simp only [Act.put, sA, sB, sC]
            refine wpAnyH_take (i := 6) (oi := ⟨some 18, _, _, _, _, _⟩) (v := ?_) rfl (by kernel_rfl) (by kernel_rfl) (by kernel_rfl) (fun _ _ _ h => h) (Or.inl ⟨by rfl, ?_⟩) hHeld1 ?_
            rotate_left
            · (intro w' hSw; (try dsimp only at hSw); go_simp; all_goals (with_reducible rfl))
            try simp only [Act.put, sA, sB, sC]
            refine wpAnyH_take (i := 7) (oi := ⟨some 19, _, _, _, _, _⟩) (v := ?_) rfl (by kernel_rfl) (by kernel_rfl) (by kernel_rfl) (fun _ _ _ h => h) (Or.inl ⟨by rfl, ?_⟩) hHeld1 ?_
            rotate_left
            · (intro w' hSw; (try dsimp only at hSw); go_simp; all_goals (with_reducible rfl))
            try simp only [Act.put, sA, sB, sC]
            refine wpAnyH_take (i := 8) (oi := ⟨some 20, _, _, _, _, _⟩) (v := ?_) rfl (by kernel_rfl) (by kernel_rfl) (by kernel_rfl) (fun _ _ _ h => h) (Or.inl ⟨by rfl, ?_⟩) hHeld1 ?_
            rotate_left
            · (intro w' hSw; (try dsimp only at hSw); go_simp; all_goals (with_reducible rfl))
            try simp only [Act.put, sA, sB, sC]
            refine wpAnyH_take (i := 9) (oi := ⟨some 21, _, _, _, _, _⟩) (v := ?_) rfl (by kernel_rfl) (by kernel_rfl) (by kernel_rfl) (fun _ _ _ h => h) (Or.inl ⟨by rfl, ?_⟩) hHeld1 ?_
            rotate_left
            · (intro w' hSw; (try dsimp only at hSw); go_simp; all_goals (with_reducible rfl))
            try simp only [Act.put, sA, sB, sC]
            refine wpAnyH_take (i := 10) (oi := ⟨some 22, _, _, _, _, _⟩) (v := ?_) rfl (by kernel_rfl) (by kernel_rfl) (by kernel_rfl) (fun _ _ _ h => h) (Or.inl ⟨by rfl, ?_⟩) hHeld1 ?_
            rotate_left
            · (intro w' hSw; (try dsimp only at hSw); go_simp; all_goals (with_reducible rfl))
            try simp only [Act.put, sA, sB, sC]
            refine wpAnyH_take (i := 11) (oi := ⟨some 23, _, _, _, _, _⟩) (v := ?_) rfl (by kernel_rfl) (by kernel_rfl) (by kernel_rfl) (fun _ _ _ h => h) (Or.inl ⟨by rfl, ?_⟩) hHeld1 ?_
            rotate_left
            · (intro w' hSw; (try dsimp only at hSw); go_simp; all_goals (with_reducible rfl))
            try simp only [Act.put, sA, sB, sC]
            refine wpAnyH_take (i := 12) (oi := ⟨some 24, _, _, _, _, _⟩) (v := ?_) rfl (by kernel_rfl) (by kernel_rfl) (by kernel_rfl) (fun _ _ _ h => h) (Or.inl ⟨by rfl, ?_⟩) hHeld1 ?_
            rotate_left
            · (intro w' hSw; (try dsimp only at hSw); go_simp; all_goals (with_reducible rfl))
            try simp only [Act.put, sA, sB, sC]
            refine wpAnyH_take (i := 13) (oi := ⟨some 25, _, _, _, _, _⟩) (v := ?_) rfl (by kernel_rfl) (by kernel_rfl) (by kernel_rfl) (fun _ _ _ h => h) (Or.inl ⟨by rfl, ?_⟩) hHeld1 ?_
            rotate_left
            · (intro w' hSw; (try dsimp only at hSw); go_simp; all_goals (with_reducible rfl))
            try simp only [Act.put, sA, sB, sC]
            refine wpAnyH_take (i := 14) (oi := ⟨some 26, _, _, _, _, _⟩) (v := ?_) rfl (by kernel_rfl) (by kernel_rfl) (by kernel_rfl) (fun _ _ _ h => h) (Or.inl ⟨by rfl, ?_⟩) hHeld1 ?_
            rotate_left
            · (intro w' hSw; (try dsimp only at hSw); go_simp; all_goals (with_reducible rfl))
            try simp only [Act.put, sA, sB, sC]
            refine wpAnyH_take (i := 15) (oi := ⟨some 27, _, _, _, _, _⟩) (v := ?_) rfl (by kernel_rfl) (by kernel_rfl) (by kernel_rfl) (fun _ _ _ h => h) (Or.inl ⟨by rfl, ?_⟩) hHeld1 ?_
            rotate_left
            · (intro w' hSw; (try dsimp only at hSw); go_simp; all_goals (with_reducible rfl))
            try simp only [Act.put, sA, sB, sC]
            refine wpAnyH_take (i := 16) (oi := ⟨some 28, _, _, _, _, _⟩) (v := ?_) rfl (by kernel_rfl) (by kernel_rfl) (by kernel_rfl) (fun _ _ _ h => h) (Or.inl ⟨by rfl, ?_⟩) hHeld1 ?_
            rotate_left
            · (intro w' hSw; (try dsimp only at hSw); go_simp; all_goals (with_reducible rfl))
            try simp only [Act.put, sA, sB, sC]
            refine wpAnyH_take (i := 17) (oi := ⟨some 29, _, _, _, _, _⟩) (v := ?_) rfl (by kernel_rfl) (by kernel_rfl) (by kernel_rfl) (fun _ _ _ h => h) (Or.inl ⟨by rfl, ?_⟩) hHeld1 ?_
            rotate_left
            · (intro w' hSw; (try dsimp only at hSw); go_simp; all_goals (with_reducible rfl))
            try simp only [Act.put, sA, sB, sC]
            refine wpAnyH_done (by kernel_rfl) ?_ _
            go_wp2
            go_ret
            exact ⟨ret_bool HNO.out.symm, (HB3.out.drew).trans (hb4.mono (by show w.heap.size ≤ w3.heap.size; omega))⟩
        · have hk1 : ¬ (0 : Int) < (k : Int) := by omega
          go_wp2
          generalize wr.alloc (.cells #[.int .i64 x.key, .int .i64 x.ver, .string (strB x.val)] 58) = w3 at *
          have g0 := X3.at 0 rfl
          have g1 := X3.at 1 rfl
          have g2 := X3.at 2 rfl
          refine wp_region_held_drew (S := (fun w' => w'.cell? ⟨wr.heap.size, 0, none⟩ = some (.int .i64 x.key) ∧ w'.cell? ⟨wr.heap.size, 1, none⟩ = some (.int .i64 x.ver) ∧ w'.cell? ⟨wr.heap.size, 2, none⟩ = some (.string (strB x.val)))) (by kernel_rfl) (by first | exact ⟨g0, g1, g2⟩ | exact ⟨p0.trans g0, p1.trans g1, p2.trans g2⟩) (fun hHeld0 => ?_)
          refine wpAnyH_take (i := 0) (oi := ⟨some 12, _, _, _, _, _⟩) (v := ?_) rfl (by kernel_rfl) (by kernel_rfl) (by kernel_rfl) (fun _ _ _ h => h) (Or.inl ⟨by rfl, ?_⟩) hHeld0 ?_
          rotate_left
          · (intro w' hSw; (try dsimp only at hSw); go_simp; all_goals (with_reducible rfl))
          try simp only [Act.put, sA, sB, sC]
          refine wpAnyH_ready (rs := [1]) (by kernel_rfl) (by simp) (AllReadyH.cons (o := ⟨some 13, _, _, _, _, _⟩) rfl (fun K hK => ?_) AllReadyH.nil)
          go_simp
          (refine (CM.out _).mono ?_; rintro e w4 ⟨rfl, hb4⟩; have p0 := hb4.cell (p := ⟨wr.heap.size, 0, none⟩) hs3; have p1 := hb4.cell (p := ⟨wr.heap.size, 1, none⟩) hs3; have p2 := hb4.cell (p := ⟨wr.heap.size, 2, none⟩) hs3)
          go_simp
          refine hK.out _ _ (by first | exact ⟨g0, g1, g2⟩ | exact ⟨p0.trans g0, p1.trans g1, p2.trans g2⟩) (fun hHeld1 => ?_)
          clear hK hHeld0 K
          try simp only [Act.put, sA, sB, sC]
          refine wpAnyH_take (i := 2) (oi := ⟨some 14, _, _, _, _, _⟩) (v := ?_) rfl (by kernel_rfl) (by kernel_rfl) (by kernel_rfl) (fun _ _ _ h => h) (Or.inl ⟨by rfl, ?_⟩) hHeld1 ?_
          rotate_left
          · (intro w' hSw; (try dsimp only at hSw); go_simp; all_goals (with_reducible rfl))
          try simp only [Act.put, sA, sB, sC]
          refine wpAnyH_take (i := 3) (oi := ⟨some 15, _, _, _, _, _⟩) (v := ?_) rfl (by kernel_rfl) (by kernel_rfl) (by kernel_rfl) (fun _ _ _ h => h) (Or.inl ⟨by rfl, ?_⟩) hHeld1 ?_
          rotate_left
          · (intro w' hSw; (try dsimp only at hSw); go_simp; all_goals (with_reducible rfl))
          try simp only [Act.put, sA, sB, sC]
          refine wpAnyH_take (i := 4) (oi := ⟨some 16, _, _, _, _, _⟩) (v := ?_) rfl (by kernel_rfl) (by kernel_rfl) (by kernel_rfl) (fun _ _ _ h => h) (Or.inl ⟨by rfl, ?_⟩) hHeld1 ?_
          rotate_left
          · (intro w' hSw; (try dsimp only at hSw); go_simp; all_goals (with_reducible rfl))
          try simp only [Act.put, sA, sB, sC]
          refine wpAnyH_take (i := 5) (oi := ⟨some 17, _, _, _, _, _⟩) (v := ?_) rfl (by kernel_rfl) (by kernel_rfl) (by kernel_rfl) (fun _ _ _ h => h) (Or.inl ⟨by rfl, ?_⟩) hHeld1 ?_
          rotate_left
          · (intro w' hSw; (try dsimp only at hSw); go_simp; all_goals (with_reducible rfl))
          try simp only [Act.put, sA, sB, sC]
          refine wpAnyH_take (i := 6) (oi := ⟨some 18, _, _, _, _, _⟩) (v := ?_) rfl (by kernel_rfl) (by kernel_rfl) (by kernel_rfl) (fun _ _ _ h => h) (Or.inl ⟨by rfl, ?_⟩) hHeld1 ?_
          rotate_left
          · (intro w' hSw; (try dsimp only at hSw); go_simp; all_goals (with_reducible rfl))
          try simp only [Act.put, sA, sB, sC]
          refine wpAnyH_take (i := 7) (oi := ⟨some 19, _, _, _, _, _⟩) (v := undef) rfl (by kernel_rfl) (by kernel_rfl) (by kernel_rfl) (fun _ _ _ h => h) (Or.inr ⟨by rfl, rfl⟩) hHeld1 ?_
          try simp only [Act.put, sA, sB, sC]
          refine wpAnyH_take (i := 8) (oi := ⟨some 20, _, _, _, _, _⟩) (v := undef) rfl (by kernel_rfl) (by kernel_rfl) (by kernel_rfl) (fun _ _ _ h => h) (Or.inr ⟨by rfl, rfl⟩) hHeld1 ?_
          try simp only [Act.put, sA, sB, sC]
          refine wpAnyH_take (i := 9) (oi := ⟨some 21, _, _, _, _, _⟩) (v := undef) rfl (by kernel_rfl) (by kernel_rfl) (by kernel_rfl) (fun _ _ _ h => h) (Or.inr ⟨by rfl, rfl⟩) hHeld1 ?_
          try simp only [Act.put, sA, sB, sC]
          refine wpAnyH_take (i := 10) (oi := ⟨some 22, _, _, _, _, _⟩) (v := undef) rfl (by kernel_rfl) (by kernel_rfl) (by kernel_rfl) (fun _ _ _ h => h) (Or.inr ⟨by rfl, rfl⟩) hHeld1 ?_
          try simp only [Act.put, sA, sB, sC]
          refine wpAnyH_take (i := 11) (oi := ⟨some 23, _, _, _, _, _⟩) (v := undef) rfl (by kernel_rfl) (by kernel_rfl) (by kernel_rfl) (fun _ _ _ h => h) (Or.inr ⟨by rfl, rfl⟩) hHeld1 ?_
          try simp only [Act.put, sA, sB, sC]
          refine wpAnyH_take (i := 12) (oi := ⟨some 24, _, _, _, _, _⟩) (v := undef) rfl (by kernel_rfl) (by kernel_rfl) (by kernel_rfl) (fun _ _ _ h => h) (Or.inr ⟨by rfl, rfl⟩) hHeld1 ?_
          try simp only [Act.put, sA, sB, sC]
          refine wpAnyH_take (i := 13) (oi := ⟨some 25, _, _, _, _, _⟩) (v := undef) rfl (by kernel_rfl) (by kernel_rfl) (by kernel_rfl) (fun _ _ _ h => h) (Or.inr ⟨by rfl, rfl⟩) hHeld1 ?_
          try simp only [Act.put, sA, sB, sC]
          refine wpAnyH_take (i := 14) (oi := ⟨some 26, _, _, _, _, _⟩) (v := undef) rfl (by kernel_rfl) (by kernel_rfl) (by kernel_rfl) (fun _ _ _ h => h) (Or.inr ⟨by rfl, rfl⟩) hHeld1 ?_
          try simp only [Act.put, sA, sB, sC]
          refine wpAnyH_take (i := 15) (oi := ⟨some 27, _, _, _, _, _⟩) (v := undef) rfl (by kernel_rfl) (by kernel_rfl) (by kernel_rfl) (fun _ _ _ h => h) (Or.inr ⟨by rfl, rfl⟩) hHeld1 ?_
          try simp only [Act.put, sA, sB, sC]
          refine wpAnyH_take (i := 16) (oi := ⟨some 28, _, _, _, _, _⟩) (v := ?_) rfl (by kernel_rfl) (by kernel_rfl) (by kernel_rfl) (fun _ _ _ h => h) (Or.inl ⟨by rfl, ?_⟩) hHeld1 ?_
          rotate_left
          · (intro w' hSw; (try dsimp only at hSw); go_simp; all_goals (with_reducible rfl))
          try simp only [Act.put, sA, sB, sC]
          refine wpAnyH_take (i := 17) (oi := ⟨some 29, _, _, _, _, _⟩) (v := ?_) rfl (by kernel_rfl) (by kernel_rfl) (by kernel_rfl) (fun _ _ _ h => h) (Or.inl ⟨by rfl, ?_⟩) hHeld1 ?_
          rotate_left
          · (intro w' hSw; (try dsimp only at hSw); go_simp; all_goals (with_reducible rfl))
          try simp only [Act.put, sA, sB, sC]
          refine wpAnyH_done (by kernel_rfl) ?_ _
          go_wp2
          go_roundw
          case rel =>
            refine ⟨k + 1, by omega, by go_num, ?_, (HB3.out.drew).trans (hb4.mono (by show w.heap.size ≤ w3.heap.size; omega))⟩
            rw [take_more HX.out]
            exact right_snoc.2 ⟨HN.out, HMX.out, fun y hy => by rw [show k = 0 by omega] at hy; simp at hy⟩
          case measure => simp [intOf]; omega
    · have he : rightB l = true := rightB_yes (by have := HN.out; rwa [List.take_of_length_le (by have := HL.out; omega)] at this)
      have HE := Lib.hid he
      clear he
      go_wp2
      go_ret
      exact ⟨ret_bool HE.out.symm, hbel⟩
end Go.Proofs.Ytkabkpeamggnnaa

namespace Go.Proofs.Ytkabkpeamggnnaa
set_option linter.unusedVariables false
set_option linter.unusedSimpArgs false
open Go.RowKit

/-- a predicate that captures one variable, in whatever later world -/
def Meant (base g : Nat) (bp : Value) (p : Ent → Bool) (w : World) : Prop :=
  ∀ (x : Ent) (W : World), Below base w W → Calls Try.prog g #[ev x, bp] W fun e w' => e = .returned (.bool (p x)) ∧ Below W.heap.size W w'
theorem egKey : ∀ args w, (callFunc 88 args).run Try.prog w = .ok (.enter 88 args) w := enters_of Try.func88 (by kernel_rfl) rfl
theorem egVer : ∀ args w, (callFunc 75 args).run Try.prog w = .ok (.enter 75 args) w := enters_of Try.func75 (by kernel_rfl) rfl
theorem egLt : ∀ args w, (callFunc 89 args).run Try.prog w = .ok (.enter 89 args) w := enters_of Try.func89 (by kernel_rfl) rfl
theorem egGt : ∀ args w, (callFunc 90 args).run Try.prog w = .ok (.enter 90 args) w := enters_of Try.func90 (by kernel_rfl) rfl

theorem meant_key {base b : Nat} {key : Int} {w : World} (hb : b < base) (hw : base ≤ w.heap.size) (hc : w.cell? ⟨b, 0, none⟩ = some (.int .i64 key)) : Meant base 88 (.pointer (some ⟨b, 0, none⟩)) (fun y => y.key == key) w := fun x W hbel => by
  have h1 := (hbel.cell (p := ⟨b, 0, none⟩) hb).trans hc
  have h2 := (World.cell?_alloc_lt W (.cells #[.int .i64 x.key, .int .i64 x.ver, .string (strB x.val)] 58) ⟨b, 0, none⟩ (by have := hbel.size; show b < _; omega)).trans h1
  clear h1 hc
  simp only [ev]
  go_enter Try.func88, Try.ntmps88
  go_wp2
  go_ret
  exact ⟨rfl, (Below.refl _ _).alloc (Nat.le_refl _) _⟩
theorem meant_ver {base b : Nat} {v : Int} {w : World} (hb : b < base) (hw : base ≤ w.heap.size) (hc : w.cell? ⟨b, 0, none⟩ = some (.int .i64 v)) : Meant base 75 (.pointer (some ⟨b, 0, none⟩)) (fun y => decide (v < y.ver)) w := fun x W hbel => by
  have h1 := (hbel.cell (p := ⟨b, 0, none⟩) hb).trans hc
  have h2 := (World.cell?_alloc_lt W (.cells #[.int .i64 x.key, .int .i64 x.ver, .string (strB x.val)] 58) ⟨b, 0, none⟩ (by have := hbel.size; show b < _; omega)).trans h1
  clear h1 hc
  simp only [ev]
  go_enter Try.func75, Try.ntmps75
  go_wp2
  go_ret
  exact ⟨rfl, (Below.refl _ _).alloc (Nat.le_refl _) _⟩
theorem meant_lt {base b : Nat} {k : Int} {w : World} (hb : b < base) (hw : base ≤ w.heap.size) (hc : w.cell? ⟨b, 0, none⟩ = some (.int .i64 k)) : Meant base 89 (.pointer (some ⟨b, 0, none⟩)) (fun y => decide (y.key < k)) w := fun x W hbel => by
  have h1 := (hbel.cell (p := ⟨b, 0, none⟩) hb).trans hc
  have h2 := (World.cell?_alloc_lt W (.cells #[.int .i64 x.key, .int .i64 x.ver, .string (strB x.val)] 58) ⟨b, 0, none⟩ (by have := hbel.size; show b < _; omega)).trans h1
  clear h1 hc
  simp only [ev]
  go_enter Try.func89, Try.ntmps89
  go_wp2
  go_ret
  exact ⟨rfl, (Below.refl _ _).alloc (Nat.le_refl _) _⟩
theorem meant_gt {base b : Nat} {k : Int} {w : World} (hb : b < base) (hw : base ≤ w.heap.size) (hc : w.cell? ⟨b, 0, none⟩ = some (.int .i64 k)) : Meant base 90 (.pointer (some ⟨b, 0, none⟩)) (fun y => decide (k < y.key)) w := fun x W hbel => by
  have h1 := (hbel.cell (p := ⟨b, 0, none⟩) hb).trans hc
  have h2 := (World.cell?_alloc_lt W (.cells #[.int .i64 x.key, .int .i64 x.ver, .string (strB x.val)] 58) ⟨b, 0, none⟩ (by have := hbel.size; show b < _; omega)).trans h1
  clear h1 hc
  simp only [ev]
  go_enter Try.func90, Try.ntmps90
  go_wp2
  go_ret
  exact ⟨rfl, (Below.refl _ _).alloc (Nat.le_refl _) _⟩

/-- where the first one is of which p holds -/
def Found (p : Ent → Bool) (l : List Ent) (i : Int) : Prop :=
  (i = -1 ∧ ∀ y ∈ l, p y = false) ∨ ∃ (k : Nat) (x : Ent), i = k ∧ l[k]? = some x ∧ p x = true ∧ ∀ y ∈ l.take k, p y = false

theorem idx_any (l : List Ent) (p : Ent → Bool) (g : Nat) (bp : Value) (eg : ∀ args w, (callFunc g args).run Try.prog w = .ok (.enter g args) w) (A : Option Addr) (n c B : Nat) (w : World) (h : Rd w B 3 A n (EC l)) (hB : B ≤ w.heap.size) (hn : n * 32 ≤ 140737488351232) (hp : Meant w.heap.size g bp p w) :
    Calls Try.prog 87 #[.slice A n c, .func (.func g) #[] #[bp]] w fun e w' => (∃ i, e = .returned (.int .i64 i) ∧ Found p l i) ∧ Below w.heap.size w w' := by
  have hl := h.lenE
  have HL := Lib.hid hl
  have HP := Lib.hid hp
  clear hl hp
  go_enter Try.func87, Try.ntmps87
  go_wp2
  go_loopw [8] (fun i wr => ∃ k : Nat, k ≤ n ∧ i = .int .i64 k ∧ (∀ y ∈ l.take k, p y = false) ∧ Below w.heap.size w wr) (fun i _ => n - (intOf i).toNat)
  case atStart => exact ⟨0, by omega, rfl, by simp, Below.refl _ _⟩
  case round =>
    obtain ⟨k, hk, rfl, hno, hbel⟩ := hrel
    have HN := Lib.hid hno
    have hbs := hbel.size
    clear hno
    by_cases hlt : k < n
    · obtain ⟨b, o, x, e1, hb, hx, c0, c1, c2⟩ := (h.below (hbel.mono hB)).atE hlt
      subst e1
      have HX := Lib.hid hx
      clear hx
      go_wp2_with fail
      refine (HP.out x _ hbel).mono ?_
      rintro e w2 ⟨rfl, hb2⟩
      have HB2 := Lib.hid hb2
      clear hb2
      rcases hpx : p x
      · have HPX := Lib.hid hpx
        clear hpx
        go_wp2
        go_roundw
        case rel =>
          refine ⟨k + 1, by omega, by go_num, fun y hy => ?_, hbel.trans (HB2.out.mono hbs)⟩
          rw [take_more HX.out] at hy
          rcases List.mem_append.1 hy with hy | hy
          · exact HN.out y hy
          · obtain rfl : y = x := by simpa using hy
            exact HPX.out
        case measure => simp [intOf]; omega
      · have HPX := Lib.hid hpx
        clear hpx
        go_wp2
        go_ret
        exact ⟨⟨_, rfl, Or.inr ⟨k, x, rfl, HX.out, HPX.out, HN.out⟩⟩, hbel.trans (HB2.out.mono hbs)⟩
    · go_wp2
      go_ret
      exact ⟨⟨_, rfl, Or.inl ⟨rfl, by have := HN.out; rwa [List.take_of_length_le (by have := HL.out; omega)] at this⟩⟩, hbel⟩
end Go.Proofs.Ytkabkpeamggnnaa

namespace Go.Proofs.Ytkabkpeamggnnaa
set_option linter.unusedVariables false
set_option linter.unusedSimpArgs false
open Go.RowKit

theorem found_key {l : List Ent} {key i : Int} (h : Found (fun y => y.key == key) l i) : (i = -1 ∧ E.get l key = none) ∨ ∃ (k : Nat) (x : Ent), i = k ∧ l[k]? = some x ∧ E.get l key = some x := by
  rcases h with ⟨rfl, h⟩ | ⟨k, x, rfl, hx, he, hno⟩
  · exact Or.inl ⟨rfl, E.get_rising_none fun y hy => by simpa using h y hy⟩
  · exact Or.inr ⟨k, x, rfl, hx, E.get_at hx (by simpa using he) fun y hy => by simpa using hno y hy⟩

set_option maxHeartbeats 1000000 in
theorem get_any (l : List Ent) (key : Int) (A : Option Addr) (n c B : Nat) (w : World) (h : Rd w B 3 A n (EC l)) (hB : B ≤ w.heap.size) (hn : n * 32 ≤ 140737488351232) :
    Calls Try.prog 84 #[.slice A n c, .int .i64 key] w fun e w' => e = .returned (getV (E.get l key)) ∧ Below w.heap.size w w' := by
  have hl := h.lenE
  have HL := Lib.hid hl
  clear hl
  have b1 : Below w.heap.size w (w.alloc (.cells #[.int .i64 key] 3)) := (Below.refl _ _).alloc (Nat.le_refl _) _
  have x1 := Box.new w #[.int .i64 key] 3
  have hs1 : w.heap.size < (w.alloc (.cells #[.int .i64 key] 3)).heap.size := by simp
  have hse : (w.alloc (.cells #[.int .i64 key] 3)).heap.size = w.heap.size + 1 := by simp
  have b2 := b1.alloc b1.size (.cells #[.int .i64 0, .int .i64 0, .string ⟨#[]⟩] 58)
  have x2 := Box.new (w.alloc (.cells #[.int .i64 key] 3)) #[.int .i64 0, .int .i64 0, .string ⟨#[]⟩] 58
  rw [hse] at x2
  have hs2 : w.heap.size + 1 < ((w.alloc (.cells #[.int .i64 key] 3)).alloc (.cells #[.int .i64 0, .int .i64 0, .string ⟨#[]⟩] 58)).heap.size := by simp
  have k1 := (x1.alloc (.cells #[.int .i64 0, .int .i64 0, .string ⟨#[]⟩] 58)).at 0 rfl
  have h2 := (h.alloc hB (.cells #[.int .i64 key] 3)).alloc (by omega) (.cells #[.int .i64 0, .int .i64 0, .string ⟨#[]⟩] 58)
  have HB2 := Lib.hid b2
  have HX2 := Lib.hid x2
  have HK1 := Lib.hid k1
  clear b1 x1 hs1 hse b2 x2 k1 h
  go_enter Try.func84, Try.ntmps84
  go_wp2_with fail
  generalize (w.alloc (.cells #[.int .i64 key] 3)).alloc (.cells #[.int .i64 0, .int .i64 0, .string ⟨#[]⟩] 58) = w2 at *
  refine (idx_any l _ _ _ egKey A n c B w2 h2 (by omega) hn (meant_key (b := w.heap.size) (by omega) (Nat.le_refl _) HK1.out)).mono ?_
  rintro e w3 ⟨⟨i, rfl, hf⟩, hb3⟩
  have X3 := HX2.out.below hb3 hs2
  have b3 : Below w.heap.size w w3 := HB2.out.trans (hb3.mono (by omega))
  have h3 := h2.below (hb3.mono (by omega))
  have y0 := X3.at 0 rfl
  have y1 := X3.at 1 rfl
  have y2 := X3.at 2 rfl
  have yf := X3.cold
  have z := X3.lt
  clear hb3 h2 HB2 HX2 HK1
  rcases found_key hf with ⟨rfl, hg⟩ | ⟨k, x, rfl, hx, hg⟩
  · have HG := Lib.hid hg
    clear hg hf
    go_wp2
    refine bodyPost_ret (v := getV none) (by simp [results, Try.results84, go_sem, y0, y1, y2, z, getV]; try rfl) rfl ⟨by rw [HG.out], ?_⟩
    repeat (first | (with_reducible exact b3) | (with_reducible refine below_set ?_ (by omega) _))
  · have hkn : k < n := by have := (List.getElem?_eq_some_iff.1 hx).1; have := HL.out; omega
    obtain ⟨b, o, x', e1, hb, hx', c0, c1, c2⟩ := h3.atE hkn
    obtain rfl : x' = x := by rw [hx] at hx'; simpa using hx'.symm
    subst e1
    have HG := Lib.hid hg
    clear hg hf hx hx'
    have hk0 : (0 : Int) ≤ (k : Int) := by omega
    go_wp2
    refine bodyPost_ret (v := getV (some x')) (by simp [results, Try.results84, go_sem, y0, y1, y2, z, getV]; try rfl) rfl ⟨by rw [HG.out], ?_⟩
    repeat (first | (with_reducible exact b3) | (with_reducible refine below_set ?_ (by omega) _))
end Go.Proofs.Ytkabkpeamggnnaa

namespace Go.Proofs.Ytkabkpeamggnnaa
set_option linter.unusedVariables false
set_option linter.unusedSimpArgs false
open Go.RowKit

/-- a table that was made behind what lay there already -/
def MadeB (base : Nat) (W : World) (l : List Ent) (e : Ending) (w' : World) : Prop :=
  ∃ A' n' c', e = .returned (.slice A' n' c') ∧ n' = l.length ∧ w'.ownsRow base 58 3 (.slice A' n' c') n' (EC l) ∧ Below base W w'
theorem filter_more {p : Ent → Bool} {l : List Ent} {k : Nat} {x : Ent} (h : l[k]? = some x) : (l.take (k + 1)).filter p = (l.take k).filter p ++ if p x then [x] else [] := by
  rw [take_more h, List.filter_append]
  cases hp : p x <;> simp [hp]

set_option maxHeartbeats 1000000 in
theorem add_any (base : Nat) (O l : List Ent) (p : Ent → Bool) (g : Nat) (bp : Value) (eg : ∀ args w, (callFunc g args).run Try.prog w = .ok (.enter g args) w) (A0 A : Option Addr) (m0 c0 n c B : Nat) (w : World) (h : Rd w B 3 A n (EC l)) (hB : B ≤ base) (hbase : base ≤ w.heap.size)
    (hown : w.ownsRow base 58 3 (.slice A0 m0 c0) m0 (EC O)) (hn : n ≤ 1000000) (hm0 : m0 ≤ 1000000) (hp : Meant base g bp p w) :
    Calls Try.prog 74 #[.slice A0 m0 c0, .slice A n c, .func (.func g) #[] #[bp]] w (MadeB base w (O ++ l.filter p)) := by
  have hl := h.lenE
  have HL := Lib.hid hl
  have HP := Lib.hid hp
  have hO := (Rd.of_own hown).lenE
  have HO := Lib.hid hO
  clear hl hp hO
  go_enter Try.func74, Try.ntmps74
  go_wp2
  go_loopw [0, 11] (fun s i wr => ∃ (k m : Nat) (A1 : Option Addr) (c1 : Nat), k ≤ n ∧ i = .int .i64 k ∧ s = .slice A1 m c1 ∧ m ≤ m0 + k ∧ m = (O ++ (l.take k).filter p).length ∧
      wr.ownsRow base 58 3 (.slice A1 m c1) m (EC (O ++ (l.take k).filter p)) ∧ Below base w wr) (fun _ i _ => n - (intOf i).toNat)
  case atStart => exact ⟨0, m0, A0, c0, by omega, rfl, rfl, by omega, by simp [HO.out], by simpa using hown, Below.refl _ _⟩
  case round =>
    obtain ⟨k, m, A1, c1, hk, rfl, rfl, hmk, hm, hown, hbel⟩ := hrel
    have HM := Lib.hid hm
    have hbs : base ≤ wr.heap.size := Nat.le_trans hbase hbel.size
    clear hm
    by_cases hlt : k < n
    · obtain ⟨b, o, x, e1, hb, hx, d0, d1, d2⟩ := (h.below (hbel.mono hB)).atE hlt
      subst e1
      have hf := filter_more (p := p) hx
      have HF := Lib.hid hf
      have hbel3 := hbel.alloc hbs (.cells #[.int .i64 x.key, .int .i64 x.ver, .string (strB x.val)] 58)
      have hown3 := hown.alloc (.cells #[.int .i64 x.key, .int .i64 x.ver, .string (strB x.val)] 58)
      have X3 := Box.new wr #[.int .i64 x.key, .int .i64 x.ver, .string (strB x.val)] 58
      have hs3 : wr.heap.size < (wr.alloc (.cells #[.int .i64 x.key, .int .i64 x.ver, .string (strB x.val)] 58)).heap.size := by simp
      clear hx hf hown
      go_wp2_with fail
      generalize wr.alloc (.cells #[.int .i64 x.key, .int .i64 x.ver, .string (strB x.val)] 58) = w3 at *
      refine (HP.out x _ hbel3).mono ?_
      rintro e w4 ⟨rfl, hb4⟩
      have hbel4 := hbel3.trans (hb4.mono (by omega))
      have hown4 := own_below hown3 hb4
      have X4 := X3.below hb4 hs3
      have y0 := X4.at 0 rfl
      have y1 := X4.at 1 rfl
      have y2 := X4.at 2 rfl
      have hbs4 : base ≤ w4.heap.size := Nat.le_trans hbase hbel4.size
      clear hb4 hown3 X3 hbel3
      rcases hpx : p x
      · have HPX := Lib.hid hpx
        clear hpx
        go_wp2
        go_roundw
        case rel => exact ⟨k + 1, m, A1, c1, by omega, by go_num, rfl, by omega, by rw [HF.out, HPX.out]; simpa using HM.out, by rw [HF.out, HPX.out]; simpa using hown4, hbel4⟩
        case measure => simp [intOf]; omega
      · have HPX := Lib.hid hpx
        clear hpx
        go_wp2_with (refine push_law rfl (.tmp 18) (.tmp 20) rfl base rfl rfl hown4 (by omega) hbs4 ?_; rintro A2 c2 w5 hown5 hb5)
        go_roundw
        case rel =>
          refine ⟨k + 1, m + 1, A2, c2, by omega, by go_num, rfl, by omega, ?_, ?_, hbel4.trans hb5⟩
          · rw [HF.out, HPX.out]; have := HM.out; simp only [List.length_append] at this ⊢; simp; omega
          · rw [HF.out, HPX.out, if_pos rfl, ← List.append_assoc]; exact hown5
        case measure => simp [intOf]; omega
    · have he : l.take k = l := List.take_of_length_le (by have := HL.out; omega)
      have HE := Lib.hid he
      clear he
      go_wp2
      go_ret
      have hm := HM.out
      rw [HE.out] at hm hown
      exact ⟨A1, m, c1, rfl, hm, hown, hbel⟩

theorem aboves_any (l : List Ent) (v : Int) (A : Option Addr) (n c B : Nat) (w : World) (h : Rd w B 3 A n (EC l)) (hB : B ≤ w.heap.size) (hn : n ≤ 1000000) :
    Calls Try.prog 60 #[.slice A n c, .int .i64 v] w (Made w (E.aboves l v)) := by
  have b1 : Below w.heap.size w (w.alloc (.cells #[.int .i64 v] 3)) := (Below.refl _ _).alloc (Nat.le_refl _) _
  have x1 := (Box.new w #[.int .i64 v] 3).at 0 rfl
  have hs1 : w.heap.size < (w.alloc (.cells #[.int .i64 v] 3)).heap.size := by simp
  have h2 := h.alloc hB (.cells #[.int .i64 v] 3)
  have HB1 := Lib.hid b1
  have HX1 := Lib.hid x1
  clear b1 x1 h
  go_enter Try.func60, Try.ntmps60
  go_wp2_with fail
  generalize w.alloc (.cells #[.int .i64 v] 3) = w2 at *
  refine (add_any w2.heap.size [] l _ _ _ egVer none A 0 0 n c B w2 h2 (by omega) (Nat.le_refl _) (World.ownsRow_nil _ _ _ _) hn (by omega) (meant_ver (b := w.heap.size) hs1 (Nat.le_refl _) HX1.out)).mono ?_
  rintro e w3 ⟨A2, n2, c2, rfl, hn2, hown, hb⟩
  have HN := Lib.hid hn2
  clear hn2
  go_wp2
  go_ret
  exact ⟨A2, n2, c2, rfl, HN.out, own_mono hown (by omega), HB1.out.trans (hb.mono (by omega))⟩
end Go.Proofs.Ytkabkpeamggnnaa

namespace Go.Proofs.Ytkabkpeamggnnaa
set_option linter.unusedVariables false
set_option linter.unusedSimpArgs false
open Go.RowKit

theorem clone_any (l : List Ent) (A : Option Addr) (n c B : Nat) (w : World) (h : Rd w B 3 A n (EC l)) (hB : B ≤ w.heap.size) (hn : n ≤ 1000000) :
    Calls Try.prog 63 #[.slice A n c] w (Made w l) := by
  have hl := h.lenE
  have HL := Lib.hid hl
  clear hl
  rcases A with _ | a
  · have hnil := Lib.run_eql_slice_nil (P := Try.prog) w 38 58 none n c 0 0 Try.underlying38
    have h0 : n = 0 ∧ l = [] := by
      rcases h.shape with ⟨h1, h2⟩ | ⟨_, b, o, e⟩
      · refine ⟨h1, List.eq_nil_of_length_eq_zero (by have := HL.out; omega)⟩
      · cases e
    obtain ⟨rfl, rfl⟩ := h0
    go_enter Try.func63, Try.ntmps63
    go_wp2
    go_ret
    exact ⟨none, 0, 0, rfl, rfl, World.ownsRow_nil _ _ _ _, Below.refl _ _⟩
  · have hnil := Lib.run_eql_slice_nil (P := Try.prog) w 38 58 (some a) n c 0 0 Try.underlying38
    have hlit : (w.alloc (.cells #[] 58)).ownsRow w.heap.size 58 3 (.slice (some ⟨w.heap.size, 0, none⟩) 0 0) 0 [] := World.ownsRow_lit w #[] 0 (Nat.le_refl _) (by unfold maxLen; omega) rfl
    go_enter Try.func63, Try.ntmps63
    go_wp2_with (at_builtin; refine app_law0 enT rfl (.tmp 5) (.tmp 6) rfl w.heap.size rfl hlit rfl (h.alloc hB _) (EC_one l) (by omega) (by omega) (by simp) ?_; rintro A1 c1 w1 ⟨hown1, hg1, _, _⟩)
    go_ret
    exact ⟨A1, n, c1, rfl, HL.out.symm, hown1, below_app ((Below.refl _ _).alloc (Nat.le_refl _) _) hlit hg1 (Nat.le_refl _) (by simp)⟩

set_option maxHeartbeats 1000000 in
theorem equal_any (l l' : List Ent) (A A' : Option Addr) (n n' c c' B B' : Nat) (w : World) (h : Rd w B 3 A n (EC l)) (h' : Rd w B' 3 A' n' (EC l')) (hn : n * 32 ≤ 140737488351232) (hn' : n' * 32 ≤ 140737488351232) :
    Calls Try.prog 77 #[.slice A n c, .slice A' n' c'] w fun e w' => e = .returned (.bool (decide (l = l'))) ∧ ∃ q, w' = w.drewN q := by
  have hl := h.lenE
  have hl' := h'.lenE
  have HL := Lib.hid hl
  have HL' := Lib.hid hl'
  clear hl hl'
  by_cases hnn : n = n'
  · subst hnn
    go_enter Try.func77, Try.ntmps77
    go_wp2
    go_loopw [13] (fun i wr => ∃ k q : Nat, k ≤ n ∧ i = .int .i64 k ∧ l.take k = l'.take k ∧ wr = w.drewN q) (fun i _ => n - (intOf i).toNat)
    case atStart => exact ⟨0, 0, by omega, rfl, rfl, rfl⟩
    case round =>
      obtain ⟨k, q, hk, rfl, hno, rfl⟩ := hrel
      have HN := Lib.hid hno
      clear hno
      by_cases hlt : k < n
      · obtain ⟨b, o, x, e1, hb, hx, c0, c1, c2⟩ := h.atE hlt
        obtain ⟨b', o', y, e2, hb', hy, d0, d1, d2⟩ := h'.atE hlt
        subst e1 e2
        have HX := Lib.hid hx
        have HY := Lib.hid hy
        clear hx hy
        have hk0 : (0 : Int) ≤ (k : Int) := by omega
        have heq := fun w => eq_ent x y w
        have hgd := guard_ent
        rcases hxy : eqB x y
        · have hne : l ≠ l' := fun e => by
            have h1 := HX.out
            rw [e, HY.out] at h1
            injection h1 with h1
            rw [h1] at hxy
            simp [eqB] at hxy
          have HNE := Lib.hid hne
          rw [hxy] at heq
          clear hne hxy
          go_wp2
          go_quiet (fail)
          go_wp2
          go_ret
          exact ⟨ret_bool (decide_eq_false HNE.out).symm, q + nq, by simp⟩
        · have hex : x = y := of_decide_eq_true hxy
          have HXY := Lib.hid hex
          rw [hxy] at heq
          clear hex hxy
          go_wp2
          go_quiet (fail)
          go_wp2
          go_roundw
          case rel => exact ⟨k + 1, q + nq, by omega, by go_num, by rw [take_more HX.out, take_more HY.out, HN.out, HXY.out], by simp⟩
          case measure => simp [intOf]; omega
      · have he : l = l' := by
          have h1 := HN.out
          rwa [List.take_of_length_le (by have := HL.out; omega), List.take_of_length_le (by have := HL'.out; omega)] at h1
        have HE := Lib.hid he
        clear he
        go_wp2
        go_ret
        exact ⟨ret_bool (decide_eq_true HE.out).symm, q, rfl⟩
  · have t1 : ((n : Int) != (n' : Int)) = true := by rw [bne_iff_ne]; omega
    have hne : l ≠ l' := fun e => by
      have h1 := HL.out
      rw [e, HL'.out] at h1
      exact hnn h1.symm
    have HNE := Lib.hid hne
    clear hne hnn
    go_enter Try.func77, Try.ntmps77
    go_wp2
    go_ret
    exact ⟨ret_bool (decide_eq_false HNE.out).symm, 0, rfl⟩

theorem same_any (l l' : List Ent) (A A' : Option Addr) (n n' c c' B B' : Nat) (w : World) (h : Rd w B 3 A n (EC l)) (h' : Rd w B' 3 A' n' (EC l')) (hn : n * 32 ≤ 140737488351232) (hn' : n' * 32 ≤ 140737488351232) :
    Calls Try.prog 65 #[.slice A n c, .slice A' n' c'] w fun e w' => e = .returned (.bool (decide (l = l'))) ∧ ∃ q, w' = w.drewN q := by
  go_enter Try.func65, Try.ntmps65
  go_wp2_with fail
  refine (equal_any l l' A A' n n' c c' B B' w h h' hn hn').mono ?_
  rintro e w2 ⟨rfl, q, rfl⟩
  go_wp2
  go_ret
  exact ⟨rfl, q, rfl⟩

theorem put_parts {l : List Ent} (h : E.rising l) (x : Ent) : E.put l x = l.filter (fun y => decide (y.key < x.key)) ++ [x] ++ l.filter (fun y => decide (x.key < y.key)) := by
  induction l with
  | nil => rfl
  | cons y r ih =>
    simp only [E.put, List.filter_cons]
    have none_lt : ∀ z : Ent, x.key ≤ z.key → (∀ y ∈ r, z.key < y.key) → r.filter (fun y => decide (y.key < x.key)) = [] := fun z hz hr => List.filter_eq_nil_iff.2 fun y hy => by have := hr y hy; simp; omega
    have all_gt : ∀ z : Ent, x.key ≤ z.key → (∀ y ∈ r, z.key < y.key) → r.filter (fun y => decide (x.key < y.key)) = r := fun z hz hr => List.filter_eq_self.2 fun y hy => by have := hr y hy; simp; omega
    by_cases h1 : y.key < x.key
    · have h2 : ¬ x.key < y.key := by omega
      simp [h1, h2, ih h.2]
    · by_cases h2 : y.key = x.key
      · have h3 : ¬ x.key < y.key := by omega
        rw [if_neg h1, if_pos h2]
        simp only [h1, h3, decide_false, Bool.false_eq_true, if_false]
        rw [none_lt y (by omega) h.1, all_gt y (by omega) h.1]; rfl
      · have h3 : x.key < y.key := by omega
        rw [if_neg h1, if_neg h2]
        simp only [h1, h3, decide_false, decide_true, Bool.false_eq_true, if_false, if_true]
        rw [none_lt y (by omega) h.1, all_gt y (by omega) h.1]; rfl

set_option maxHeartbeats 1000000 in
theorem put_any (l : List Ent) (x : Ent) (A : Option Addr) (n c B : Nat) (w : World) (h : Rd w B 3 A n (EC l)) (hB : B ≤ w.heap.size) (hn : n ≤ 900000) (hrise : E.rising l) :
    Calls Try.prog 86 #[.slice A n c, ev x] w (Made w (E.put l x)) := by
  have hl := h.lenE
  have HL := Lib.hid hl
  have HR := Lib.hid hrise
  clear hl hrise
  have b1 : Below w.heap.size w (w.alloc (.cells #[.int .i64 x.key, .int .i64 x.ver, .string (strB x.val)] 58)) := (Below.refl _ _).alloc (Nat.le_refl _) _
  have X1 := Box.new w #[.int .i64 x.key, .int .i64 x.ver, .string (strB x.val)] 58
  have hs1 : w.heap.size < (w.alloc (.cells #[.int .i64 x.key, .int .i64 x.ver, .string (strB x.val)] 58)).heap.size := by simp
  have h1 := h.alloc hB (.cells #[.int .i64 x.key, .int .i64 x.ver, .string (strB x.val)] 58)
  have HB1 := Lib.hid b1
  clear b1 h
  simp only [ev]
  go_enter Try.func86, Try.ntmps86
  go_wp2_with (at_make; generalize w.alloc (.cells #[.int .i64 x.key, .int .i64 x.ver, .string (strB x.val)] 58) = w2 at *; refine make0_law enT rfl _ _ rfl w2.heap.size rfl rfl (by omega) (by omega) (by omega) (Nat.le_refl _) ?_; intro A1 c1 w3 hown1 hg1)
  have b3 : Below w2.heap.size w2 w3 := (Below.refl _ _).grown hg1 (Nat.le_refl _) (fun k hk => by cases hk)
  clear hg1
  have k3 := (X1.below b3 hs1).at 0 rfl
  have hs3 := b3.size
  refine (add_any w2.heap.size [] l _ _ _ egLt A1 A 0 c1 n c B w3 (h1.below (b3.mono (by omega))) (by omega) hs3 hown1 (by omega) (by omega) (meant_lt (b := w.heap.size) hs1 hs3 k3)).mono ?_
  rintro e w4 ⟨A2, m2, c2, rfl, hm2, hown2, hb4⟩
  have b4 := b3.trans hb4
  have X4 := X1.below b4 hs1
  have y0 := X4.at 0 rfl
  have y1 := X4.at 1 rfl
  have y2 := X4.at 2 rfl
  have hs4 := b4.size
  have hl2 : m2 ≤ n := by rw [hm2, List.nil_append]; have := List.length_filter_le (fun y : Ent => decide (y.key < x.key)) l; have := HL.out; omega
  have HM2 := Lib.hid hm2
  clear b3 hs3 k3 hown1 hb4 hm2
  go_wp2_with (refine push_law (y := x) rfl (.tmp 14) (.tmp 16) rfl w2.heap.size rfl rfl hown2 (by omega) hs4 ?_; rintro A3 c3 w5 hown5 hb5)
  have b5 := b4.trans hb5
  have k5 := (X1.below b5 hs1).at 0 rfl
  have hs5 := b5.size
  clear y0 y1 y2 X4 b4 hb5 hown2
  refine (add_any w2.heap.size _ l _ _ _ egGt A3 A (m2 + 1) c3 n c B w5 (h1.below (b5.mono (by omega))) (by omega) hs5 hown5 (by omega) (by omega) (meant_gt (b := w.heap.size) hs1 hs5 k5)).mono ?_
  rintro e w6 ⟨A4, m4, c4, rfl, hm4, hown6, hb6⟩
  have HM4 := Lib.hid hm4
  have hpp := put_parts HR.out x
  have HPP := Lib.hid hpp
  clear hm4 hpp
  go_wp2
  go_ret
  refine ⟨A4, m4, c4, rfl, ?_, ?_, HB1.out.trans ((b5.trans hb6).mono (by omega))⟩
  · rw [HPP.out]; exact HM4.out
  · rw [HPP.out]; exact own_mono hown6 (by omega)
end Go.Proofs.Ytkabkpeamggnnaa

namespace Go.Proofs.Ytkabkpeamggnnaa
set_option linter.unusedVariables false
set_option linter.unusedSimpArgs false
open Go.RowKit

/-- what Join asks of the first table is what it would ask of what it has so far -/
theorem get_sofar {l r : List Ent} (hl : E.rising l) (hr : E.rising r) {k : Nat} {y : Ent} (hy : r[k]? = some y) : E.get (E.join l (r.take k)) y.key = E.get l y.key := by
  rw [E.get_join hl (E.rising_take hr k)]
  have : E.get (r.take k) y.key = none := E.get_rising_none fun z hz => by
    obtain ⟨i, hi, rfl⟩ := List.mem_iff_getElem.1 hz
    have hi2 : i < k := by rw [List.length_take] at hi; omega
    have := E.rising_at hr hi2 (x := (r.take k)[i]) (by rw [List.getElem_take]; exact List.getElem?_eq_getElem _) hy
    omega
  rw [this, E.best_none]

set_option maxHeartbeats 4000000 in
set_option maxRecDepth 20000 in
theorem join_any (l r : List Ent) (A A' : Option Addr) (n n' c c' B B' : Nat) (w : World) (h : Rd w B 3 A n (EC l)) (hB : B ≤ w.heap.size) (h' : Rd w B' 3 A' n' (EC r)) (hB' : B' ≤ w.heap.size) (hn : n ≤ 400000) (hn' : n' ≤ 400000) (hrise : E.rising l) (hrise' : E.rising r) :
    Calls Try.prog 78 #[.slice A n c, .slice A' n' c'] w (Made w (E.join l r)) := by
  have hl := h.lenE
  have hl' := h'.lenE
  have HL := Lib.hid hl
  have HL' := Lib.hid hl'
  have HR := Lib.hid hrise
  have HR' := Lib.hid hrise'
  clear hl hl' hrise hrise'
  go_enter Try.func78, Try.ntmps78
  go_wp2_with fail
  refine (clone_any l A n c B w h hB (by omega)).mono ?_
  rintro e w1 ⟨A1, n1, c1, rfl, hn1, hown1, hb1⟩
  obtain rfl : n1 = n := by rw [hn1, HL.out]
  have HB1 := Lib.hid hb1
  clear hb1 hn1
  go_wp2
  go_loopw [5, 14] (fun s i wr => ∃ (k m : Nat) (A2 : Option Addr) (c2 : Nat) (O : List Ent), k ≤ n' ∧ i = .int .i64 k ∧ s = .slice A2 m c2 ∧ O = E.join l (r.take k) ∧ m = O.length ∧ E.rising O ∧
      wr.ownsRow w.heap.size 58 3 (.slice A2 m c2) m (EC O) ∧ Below w.heap.size w wr) (fun _ i _ => n' - (intOf i).toNat)
  case atStart => exact ⟨0, n1, A1, c1, l, by omega, rfl, rfl, rfl, HL.out.symm, HR.out, hown1, HB1.out⟩
  case round =>
    obtain ⟨k, m, A2, c2, O, hk, rfl, rfl, hO, hm, hro, hown, hbel⟩ := hrel
    have HO := Lib.hid hO
    have HM := Lib.hid hm
    have HRO := Lib.hid hro
    have hml : m ≤ n1 + k := by
      have := E.join_length l (r.take k)
      rw [← hO, ← hm, List.length_take] at this
      have := HL.out
      omega
    have hbs := hbel.size
    clear hO hm hro
    by_cases hlt : k < n'
    · obtain ⟨b, o, y, e, hb, hy, d0, d1, d2⟩ := (h'.below (hbel.mono hB')).atE hlt
      subst e
      have hso := get_sofar HR.out HR'.out hy
      rw [← HO.out] at hso
      have HSO := Lib.hid hso
      have HY := Lib.hid hy
      have hbel3 := hbel.alloc hbs (.cells #[.int .i64 y.key, .int .i64 y.ver, .string (strB y.val)] 58)
      have hown3 := hown.alloc (.cells #[.int .i64 y.key, .int .i64 y.ver, .string (strB y.val)] 58)
      have X3 := Box.new wr #[.int .i64 y.key, .int .i64 y.ver, .string (strB y.val)] 58
      have hs3 : wr.heap.size < (wr.alloc (.cells #[.int .i64 y.key, .int .i64 y.ver, .string (strB y.val)] 58)).heap.size := by simp
      clear hy hso hown hbel
      go_wp2_with fail
      generalize wr.alloc (.cells #[.int .i64 y.key, .int .i64 y.ver, .string (strB y.val)] 58) = w3 at *
      refine (get_any l y.key A n1 c B w3 (h.below (hbel3.mono hB)) (by omega) (by omega)).mono ?_
      rintro e w4 ⟨rfl, hb4⟩
      have hbel4 := hbel3.trans (hb4.mono (by omega))
      have hown4 := own_below hown3 hb4
      have X4 := X3.below hb4 hs3
      have hbs4 := hbel4.size
      have hlt4 := X4.lt
      clear hb4 hown3 X3 hbel3
      rcases hg : E.get l y.key with _ | x
      · have hst := step_put (O := O) (y := y) (Or.inl (HSO.out.trans hg))
        have HST := Lib.hid hst
        clear hst hg
        simp only [getV, Option.isSome]
        have hbel5 := hbel4.alloc hbs4 (.cells #[.int .i64 0, .int .i64 0, .string ⟨#[]⟩] 58)
        have hown5 := hown4.alloc (.cells #[.int .i64 0, .int .i64 0, .string ⟨#[]⟩] 58)
        have X5 := X4.alloc (.cells #[.int .i64 0, .int .i64 0, .string ⟨#[]⟩] 58)
        have y0 := X5.at 0 rfl
        have y1 := X5.at 1 rfl
        have y2 := X5.at 2 rfl
        have hs5 : w.heap.size ≤ (w4.alloc (.cells #[.int .i64 0, .int .i64 0, .string ⟨#[]⟩] 58)).heap.size := hbel5.size
        clear hbel4 hown4 X4 X5
        go_wp2_with fail
        generalize w4.alloc (.cells #[.int .i64 0, .int .i64 0, .string ⟨#[]⟩] 58) = w5 at *
        refine (put_any O y A2 m c2 _ _ (Rd.of_own hown5) (Nat.le_refl _) (by omega) HRO.out).mono ?_
        rintro e w6 ⟨A3, m3, c3, rfl, hm3, hown6, hb6⟩
        have HM3 := Lib.hid hm3
        clear hm3
        go_wp2
        go_roundw
        case rel => exact ⟨k + 1, m3, A3, c3, E.put O y, by omega, by go_num, rfl, by rw [join_more l HY.out, ← HO.out, HST.out], HM3.out, E.put_rising HRO.out y, own_mono hown6 hs5, hbel5.trans (hb6.mono hs5)⟩
        case measure => simp [intOf]; omega
      · have HG := Lib.hid (HSO.out.trans hg)
        clear hg
        simp only [getV, Option.isSome, ev]
        have hbel5 := hbel4.alloc hbs4 (.cells #[.int .i64 x.key, .int .i64 x.ver, .string (strB x.val)] 58)
        have hown5 := hown4.alloc (.cells #[.int .i64 x.key, .int .i64 x.ver, .string (strB x.val)] 58)
        have X5 := X4.alloc (.cells #[.int .i64 x.key, .int .i64 x.ver, .string (strB x.val)] 58)
        have Z5 := Box.new w4 #[.int .i64 x.key, .int .i64 x.ver, .string (strB x.val)] 58
        have y0 := X5.at 0 rfl
        have y1 := X5.at 1 rfl
        have y2 := X5.at 2 rfl
        have z0 := Z5.at 0 rfl
        have z1 := Z5.at 1 rfl
        have z2 := Z5.at 2 rfl
        have hs5 : w.heap.size ≤ (w4.alloc (.cells #[.int .i64 x.key, .int .i64 x.ver, .string (strB x.val)] 58)).heap.size := hbel5.size
        have hs6 : w4.heap.size < (w4.alloc (.cells #[.int .i64 x.key, .int .i64 x.ver, .string (strB x.val)] 58)).heap.size := by simp
        clear hbel4 hown4 X4
        go_wp2_with fail
        generalize w4.alloc (.cells #[.int .i64 x.key, .int .i64 x.ver, .string (strB x.val)] 58) = w5 at *
        refine (above_any y x _).mono ?_
        rintro e w6 ⟨rfl, hb6⟩
        have hbel6 := hbel5.trans (hb6.mono hs5)
        have hown6 := own_below hown5 hb6
        have X6 := X5.below hb6 (by omega)
        have hs7 := hbel6.size
        clear y0 y1 y2 z0 z1 z2 hbel5 hown5 X5 Z5
        rcases hab : E.above y x
        · have hst := step_stay HG.out hab
          have HST := Lib.hid hst
          clear hst hab
          go_wp2
          go_roundw
          case rel => exact ⟨k + 1, m, A2, c2, O, by omega, by go_num, rfl, by rw [join_more l HY.out, ← HO.out, HST.out], HM.out, HRO.out, hown6, hbel6⟩
          case measure => simp [intOf]; omega
        · have hst := step_put (Or.inr ⟨x, HG.out, hab⟩)
          have HST := Lib.hid hst
          have y0 := X6.at 0 rfl
          have y1 := X6.at 1 rfl
          have y2 := X6.at 2 rfl
          clear hst hab
          go_wp2_with fail
          refine (put_any O y A2 m c2 _ _ (Rd.of_own hown6) (Nat.le_refl _) (by omega) HRO.out).mono ?_
          rintro e w7 ⟨A3, m3, c3, rfl, hm3, hown7, hb7⟩
          have HM3 := Lib.hid hm3
          clear hm3
          go_wp2
          go_roundw
          case rel => exact ⟨k + 1, m3, A3, c3, E.put O y, by omega, by go_num, rfl, by rw [join_more l HY.out, ← HO.out, HST.out], HM3.out, E.put_rising HRO.out y, own_mono hown7 hs7, hbel6.trans (hb7.mono hs7)⟩
          case measure => simp [intOf]; omega
    · have he : r.take k = r := List.take_of_length_le (by have := HL'.out; omega)
      have HE := Lib.hid he
      clear he
      go_wp2
      go_ret
      have h1 := HO.out
      rw [HE.out] at h1
      subst h1
      exact ⟨A2, m, c2, rfl, HM.out, hown, hbel⟩

end Go.Proofs.Ytkabkpeamggnnaa

