/- frame.Decode: what bytes are a frame of a cluster. -/
import Derived.Test.YtbnbljkkfgieoaaFDec
namespace Go.Proofs.Ytbnbljkkfgieoaa
set_option linter.unusedVariables false
set_option linter.unusedSimpArgs false
open Go.RowKit

theorem open_any2 (A : Option Addr) (n c B : Nat) (l : List UInt8) (w : World) (h : Rd w B 1 A n (U l)) (hB : B ≤ w.heap.size) (hc1 : n ≤ c) (hn : n ≤ 35184372088832) :
    Calls Try.prog 25 #[.slice A n c] w fun e w' => (∃ A' c', e = .returned (.tuple #[.slice A' (innerOf l).length c', .int .i64 (codeOf l)]) ∧ Rd w' w'.heap.size 1 A' (innerOf l).length (U (innerOf l)) ∧ (innerOf l).length ≤ c' ∧ c' ≤ 9223372036854775807) ∧ Below w.heap.size w w' := by
  have hl : l.length = n := by have := h.len1; rwa [U_length] at this
  by_cases h4 : n < 4
  · refine (open_short A n c w h4).mono ?_
    rintro e w' ⟨rfl, rfl⟩
    have e1 : innerOf l = [] := if_neg fun k => by have := k.1; omega
    have e2 : codeOf l = 2 := if_pos (by omega)
    rw [e1, e2]
    exact ⟨⟨none, 0, rfl, Rd.zero _ _ _ _, Nat.le_refl _, by omega⟩, Below.refl _ _⟩
  · refine (open_long A n c B l w h hB hc1 hn (by omega)).mono ?_
    rintro e w' ⟨h5, h6⟩
    refine ⟨?_, h6⟩
    rcases h5 with ⟨hk, A', c', rfl, hown⟩ | ⟨hk, rfl⟩
    · have e1 : innerOf l = l.take (n - 4) := by unfold innerOf; rw [if_pos hk, hl]
      have e2 : codeOf l = 0 := by unfold codeOf; rw [if_neg (by omega), if_pos hk]
      have e3 : (l.take (n - 4)).length = n - 4 := by rw [List.length_take]; omega
      rw [e1, e2, e3]
      exact ⟨A', c', rfl, Rd.of_own hown, own_cap hown⟩
    · have e1 : innerOf l = [] := if_neg hk
      have e2 : codeOf l = 5 := by unfold codeOf; rw [if_neg (by omega), if_neg hk]
      rw [e1, e2]
      exact ⟨none, 0, rfl, Rd.zero _ _ _ _, Nat.le_refl _, by omega⟩

theorem ropen_any2 (A : Option Addr) (n c B : Nat) (l : List UInt8) (w : World) (h : Rd w B 1 A n (U l)) (hB : B ≤ w.heap.size) (hc1 : n ≤ c) (hm : c ≤ 9223372036854775807) (hn : n ≤ 35184372088832) :
    Calls Try.prog 28 #[.slice A n c] w fun e w' => (∃ A' c', e = .returned (.tuple #[.slice A' (innerOf l).length c', .int .i64 (codeOf l)]) ∧ Rd w' w'.heap.size 1 A' (innerOf l).length (U (innerOf l)) ∧ (innerOf l).length ≤ c' ∧ c' ≤ 9223372036854775807) ∧ Below w.heap.size w w' := by
  have hl : l.length = n := by have := h.len1; rwa [U_length] at this
  by_cases h4 : n < 4
  · refine (ropen_short A n c w h4).mono ?_
    rintro e w' ⟨rfl, rfl⟩
    have e1 : innerOf l = [] := if_neg fun k => by have := k.1; omega
    have e2 : codeOf l = 2 := if_pos (by omega)
    rw [e1, e2]
    exact ⟨⟨none, 0, rfl, Rd.zero _ _ _ _, Nat.le_refl _, by omega⟩, Below.refl _ _⟩
  · refine (ropen_long A n c B l w h hB hc1 hn (by omega)).mono ?_
    rintro e w' ⟨h5, h6⟩
    refine ⟨?_, h6⟩
    rcases h5 with ⟨hk, rfl⟩ | ⟨hk, rfl⟩
    · have e1 : innerOf l = l.take (n - 4) := by unfold innerOf; rw [if_pos hk, hl]
      have e2 : codeOf l = 0 := by unfold codeOf; rw [if_neg (by omega), if_pos hk]
      have e3 : (l.take (n - 4)).length = n - 4 := by rw [List.length_take]; omega
      have h7 := h.take1 (k := n - 4) (by omega)
      rw [U_take] at h7
      rw [e1, e2, e3]
      exact ⟨A, c, rfl, (h7.below (h6.mono hB)).more (Nat.le_trans hB h6.size), by omega, hm⟩
    · have e1 : innerOf l = [] := if_neg hk
      have e2 : codeOf l = 5 := by unfold codeOf; rw [if_neg (by omega), if_neg hk]
      rw [e1, e2]
      exact ⟨none, 0, rfl, Rd.zero _ _ _ _, Nat.le_refl _, by omega⟩

theorem strB_bne (l l' : List UInt8) : (strB l != strB l') = !decide (l = l') := by
  rw [bne, show (strB l == strB l') = decide (l = l') from beq_strB l l']

set_option maxHeartbeats 1600000 in
set_option maxRecDepth 20000 in
theorem decode_any (l cl : List UInt8) (A : Option Addr) (n c B : Nat) (w : World) (h : Rd w B 1 A n (U l)) (hB : B ≤ w.heap.size) (hc : n ≤ c) (hn : n ≤ 35184372088832) :
    Calls Try.prog 16 #[.slice A n c, .string (strB cl)] w (FrameR (F.dec l cl).1 (F.dec l cl).2 w) := by
  have ep : F.dec l cl = F.dec l cl := rfl
  conv at ep => rhs; unfold F.dec
  have co := open_any2 A n c B l
  have cp := parse_any ((innerOf l).drop 3)
  have hil := inner_le l
  generalize F.dec l cl = X at *
  generalize F.parse ((innerOf l).drop 3) = Y at *
  generalize codeOf l = er at *
  generalize innerOf l = il at *
  obtain ⟨ey, gy⟩ := Y
  dsimp only at *
  have CO := Lib.hid co
  have CP := Lib.hid cp
  have EP := Lib.hid ep
  clear co cp ep
  have b0 : Below w.heap.size w (w.alloc (.cells #[.int .i64 0, .string ⟨#[]⟩, .int .i64 0, .slice none 0 0] 24)) := (Below.refl _ _).alloc (Nat.le_refl _) _
  have x0 := Box.new w #[.int .i64 0, .string ⟨#[]⟩, .int .i64 0, .slice none 0 0] 24
  by_cases he : er = 0
  · subst he
    go_enter Try.func16, Try.ntmps16
    go_wp2_with fail
    refine (CO.out _ (h.below (b0.mono hB)) (by simp; omega) hc hn).mono ?_
    rintro e w1 ⟨⟨A1, c1, rfl, hr1, hc1, hm1⟩, hb1⟩
    have b1 : Below w.heap.size w w1 := b0.trans (hb1.mono b0.size)
    have x1 := x0.belowH hb1
    have hmk := mark_head w1
    have z1 := x1.lt
    have hb2 : Below w.heap.size w (w1.alloc (litO F.head)) := b1.alloc b1.size _
    have hr2 : Rd (w1.alloc (litO F.head)) (w1.heap.size) 1 A1 il.length (U il) := hr1.alloc (Nat.le_refl _) _
    go_wp2_with fail
    refine (cutpref_any A1 _ il.length 3 c1 3 _ _ il F.head _ hr2 (Rd.mark w1 F.head rfl) hc1).mono ?_
    rintro e w2 ⟨hcase, hw2⟩
    have x2 : Box w2 w.heap.size 24 #[.int .i64 0, .string ⟨#[]⟩, .int .i64 0, .slice none 0 0] := by rw [← hw2]; exact x1.alloc (litO F.head)
    have b2 : Below w.heap.size w w2 := by rw [← hw2]; exact hb2
    have hr3 : Rd w2 w2.heap.size 1 A1 il.length (U il) := by rw [← hw2]; exact hr2.more (by simp)
    have y0 := x2.at 0 rfl
    have y1 := x2.at 1 rfl
    have y2 := x2.at 2 rfl
    have y3 := x2.at 3 rfl
    have yf := x2.cold
    clear hmk hw2 hb2 hr2
    rcases hcase with ⟨hp, h3, rfl⟩ | ⟨hp, rfl⟩
    · have hp' : il.take 3 = F.head := hp
      have HP := Lib.hid hp'
      clear hp hp'
      have hr4 := hr3.cut1 (k := 3) (cap := c1) h3 hc1
      rw [U_drop] at hr4
      by_cases hey : ey = 0
      · subst hey
        go_wp2_with fail
        refine (CP.out _ _ (c1 - 3) _ _ hr4 (Nat.le_refl _) (by omega) (by omega)).mono ?_
        rintro e w3 ⟨⟨A3, c3, rfl, hr5, hc3, hA3⟩, hb3⟩
        have b3 : Below w.heap.size w w3 := b2.trans (hb3.mono b2.size)
        have x3 := x2.belowH hb3
        clear y0 y1 y2 y3 yf
        have y0 := x3.at 0 rfl
        have y1 := x3.at 1 rfl
        have y2 := x3.at 2 rfl
        have y3 := x3.at 3 rfl
        have yf := x3.cold
        have z3 := x3.lt
        obtain ⟨gk, gc, gf, gp⟩ := gy
        simp only [fv]
        dsimp only at hr5 hc3
        by_cases hcl : gc = cl
        · subst hcl
          have tcl : (strB gc != strB gc) = false := by rw [strB_bne]; simp
          go_wp2
          refine bodyPost_ret (by simp [results, Try.results16, go_sem, y0, y1, y2, y3, z3]; try rfl) rfl ?_
          have ep := EP.out
          rw [if_neg (by decide : ¬ (0 : Int) ≠ 0), if_neg (fun h => h HP.out), if_neg (by decide : ¬ (0 : Nat) ≠ 0), if_neg (fun h => h rfl)] at ep
          rw [ep]
          have z2 := x2.lt
          have hne : ∀ b o, A3 = some ⟨b, o, none⟩ → b ≠ w.heap.size := fun b o e => by have := hA3 b o e; omega
          have h9 := (((hr5.other (o := 0) hne (.int .i64 gk)).other (o := 1) hne (.string (strB gc))).other (o := 2) hne (.int .i64 gf)).other (o := 3) hne (.slice A3 gp.length c3)
          refine ⟨⟨A3, c3, rfl, ((h9.alloc (by simp) _).more (by simp)), hc3, fun b o e => by have := hA3 b o e; omega⟩, (below_set (below_set (below_set (below_set b3 (Nat.le_refl _) _) (Nat.le_refl _) _) (Nat.le_refl _) _) (Nat.le_refl _) _).alloc (by have := b3.size; simp; omega) _⟩
        · have tcl : (strB gc != strB cl) = true := by rw [strB_bne, decide_eq_false hcl]; rfl
          have tcl2 : (strB gc == strB cl) = false := by rw [show (strB gc == strB cl) = decide (gc = cl) from beq_strB gc cl, decide_eq_false hcl]
          have tcl3 : (gc == cl) = false := beq_eq_false_iff_ne.2 hcl
          have tcl4 : (gc != cl) = true := bne_iff_ne.2 hcl
          have HC := Lib.hid hcl
          clear hcl
          go_wp2
          refine bodyPost_ret (by simp [results, Try.results16, go_sem, y0, y1, y2, y3, z3]; try rfl) rfl ?_
          have ep := EP.out
          rw [if_neg (by decide : ¬ (0 : Int) ≠ 0), if_neg (fun h => h HP.out), if_neg (by decide : ¬ (0 : Nat) ≠ 0), if_pos HC.out] at ep
          rw [ep]
          exact FrameR.none ((below_set (below_set (below_set (below_set b3 (Nat.le_refl _) _) (Nat.le_refl _) _) (Nat.le_refl _) _) (Nat.le_refl _) _).alloc (by have := b3.size; simp; omega) _)
      · have t1 : ((ey : Int) != 0) = true := by rw [bne_iff_ne]; omega
        have HE := Lib.hid hey
        clear hey
        go_wp2_with fail
        refine (CP.out _ _ (c1 - 3) _ _ hr4 (Nat.le_refl _) (by omega) (by omega)).mono ?_
        rintro e w3 ⟨⟨A3, c3, rfl, hr5, hc3, hA3⟩, hb3⟩
        have b3 : Below w.heap.size w w3 := b2.trans (hb3.mono b2.size)
        have x3 := x2.belowH hb3
        clear y0 y1 y2 y3 yf
        have y0 := x3.at 0 rfl
        have y1 := x3.at 1 rfl
        have y2 := x3.at 2 rfl
        have y3 := x3.at 3 rfl
        have yf := x3.cold
        have z3 := x3.lt
        simp only [fv]
        go_wp2
        refine bodyPost_ret (by simp [results, Try.results16, go_sem, y0, y1, y2, y3, z3]; try rfl) rfl ?_
        have ep := EP.out
        rw [if_neg (by decide : ¬ (0 : Int) ≠ 0), if_neg (fun h => h HP.out), if_pos HE.out] at ep
        rw [ep]
        exact FrameR.none ((below_set (below_set (below_set (below_set b3 (Nat.le_refl _) _) (Nat.le_refl _) _) (Nat.le_refl _) _) (Nat.le_refl _) _).alloc (by have := b3.size; simp; omega) _)
    · have hp' : il.take 3 ≠ F.head := hp
      have HP := Lib.hid hp'
      clear hp hp'
      go_wp2
      refine bodyPost_ret (by simp [results, Try.results16, go_sem, y0, y1, y2, y3]; try rfl) rfl ?_
      have ep := EP.out
      rw [if_neg (by decide : ¬ (0 : Int) ≠ 0), if_pos HP.out] at ep
      rw [ep]
      exact FrameR.none (below_set (below_set (below_set (below_set b2 (Nat.le_refl _) _) (Nat.le_refl _) _) (Nat.le_refl _) _) (Nat.le_refl _) _)
  · have t1 : (er != 0) = true := by rw [bne_iff_ne]; exact he
    have HE := Lib.hid he
    clear he
    go_enter Try.func16, Try.ntmps16
    go_wp2_with fail
    refine (CO.out _ (h.below (b0.mono hB)) (by simp; omega) hc hn).mono ?_
    rintro e w1 ⟨⟨A1, c1, rfl, hr1, hc1, hm1⟩, hb1⟩
    have b1 : Below w.heap.size w w1 := b0.trans (hb1.mono b0.size)
    have x1 := x0.belowH hb1
    have y0 := x1.at 0 rfl
    have y1 := x1.at 1 rfl
    have y2 := x1.at 2 rfl
    have y3 := x1.at 3 rfl
    have yf := x1.cold
    go_wp2
    refine bodyPost_ret (by simp [results, Try.results16, go_sem, y0, y1, y2, y3]; try rfl) rfl ?_
    have ep := EP.out
    rw [if_pos HE.out] at ep
    rw [ep]
    exact FrameR.none (below_set (below_set (below_set (below_set b1 (Nat.le_refl _) _) (Nat.le_refl _) _) (Nat.le_refl _) _) (Nat.le_refl _) _)
end Go.Proofs.Ytbnbljkkfgieoaa
