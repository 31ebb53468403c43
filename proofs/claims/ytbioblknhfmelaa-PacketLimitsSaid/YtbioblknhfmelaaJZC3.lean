/- ZC3 (merged). -/
import Derived.Test.YtbioblknhfmelaaJZC2
namespace Go.Proofs.Ytbioblknhfmelaa
set_option linter.unusedVariables false
set_option linter.unusedSimpArgs false
open Go.RowKit
set_option maxHeartbeats 4000000 in
set_option maxRecDepth 20000 in
theorem psame_z (u v : Pv) (w : World) (h : PRd w u) (h' : PRd w v) (hu : PMod u) (hv : PMod v) {z : Bool} (hz : decide (u.x = v.x) = z) : Calls Try.prog 14 #[pval u, pval v] w (BoB z w) := by
  have HZ := Lib.hid hz
  have HU := Lib.hid hu
  have HV := Lib.hid hv
  clear hz hu hv
  have NO : Hid (u.x ≠ v.x → z = false) := Lib.hid fun h1 => by rw [← HZ.out]; exact decide_eq_false h1
  have YES : Hid (u.x.id = v.x.id ∧ u.x.flags = v.x.flags ∧ u.x.qs = v.x.qs ∧ u.x.an = v.x.an ∧ u.x.au = v.x.au ∧ u.x.mo = v.x.mo → z = true) := Lib.hid fun h1 => by
    rw [← HZ.out]
    refine decide_eq_true ?_
    obtain ⟨e1, e2, e3, e4, e5, e6⟩ := h1
    obtain ⟨x, _⟩ := u
    obtain ⟨y, _⟩ := v
    obtain ⟨x1, x2, x3, x4, x5, x6⟩ := x
    obtain ⟨y1, y2, y3, y4, y5, y6⟩ := y
    simp only at e1 e2 e3 e4 e5 e6
    subst e1 e2 e3 e4 e5 e6
    rfl
  clear HZ
  have b0 : Below w.heap.size w (w.alloc (.cells #[.int .i64 u.x.id, .int .i64 u.x.flags, .slice u.A1 u.n1 u.c1, .slice u.A2 u.n2 u.c2, .slice u.A3 u.n3 u.c3, .slice u.A4 u.n4 u.c4] 25)) := (Below.refl _ _).alloc (Nat.le_refl _) _
  have hse : (w.alloc (.cells #[.int .i64 u.x.id, .int .i64 u.x.flags, .slice u.A1 u.n1 u.c1, .slice u.A2 u.n2 u.c2, .slice u.A3 u.n3 u.c3, .slice u.A4 u.n4 u.c4] 25)).heap.size = w.heap.size + 1 := by simp
  have X := (Box.new w #[.int .i64 u.x.id, .int .i64 u.x.flags, .slice u.A1 u.n1 u.c1, .slice u.A2 u.n2 u.c2, .slice u.A3 u.n3 u.c3, .slice u.A4 u.n4 u.c4] 25).alloc (.cells #[.int .i64 v.x.id, .int .i64 v.x.flags, .slice v.A1 v.n1 v.c1, .slice v.A2 v.n2 v.c2, .slice v.A3 v.n3 v.c3, .slice v.A4 v.n4 v.c4] 25)
  have b1 := b0.alloc b0.size (.cells #[.int .i64 v.x.id, .int .i64 v.x.flags, .slice v.A1 v.n1 v.c1, .slice v.A2 v.n2 v.c2, .slice v.A3 v.n3 v.c3, .slice v.A4 v.n4 v.c4] 25)
  have Y := Box.new (w.alloc (.cells #[.int .i64 u.x.id, .int .i64 u.x.flags, .slice u.A1 u.n1 u.c1, .slice u.A2 u.n2 u.c2, .slice u.A3 u.n3 u.c3, .slice u.A4 u.n4 u.c4] 25)) #[.int .i64 v.x.id, .int .i64 v.x.flags, .slice v.A1 v.n1 v.c1, .slice v.A2 v.n2 v.c2, .slice v.A3 v.n3 v.c3, .slice v.A4 v.n4 v.c4] 25
  rw [hse] at Y
  have P1 := h.belowH b1
  have Q1 := h'.belowH b1
  clear h h' b0 hse
  simp only [pval]
  have x0 := X.at 0 rfl
  have x1 := X.at 1 rfl
  have x2 := X.at 2 rfl
  have y0 := Y.at 0 rfl
  have y1 := Y.at 1 rfl
  have y2 := Y.at 2 rfl
  by_cases h1 : u.x.id = v.x.id
  rotate_left
  · have t1 : (u.x.id != v.x.id) = true := bne_iff_ne.2 h1
    have Z : Hid (z = false) := Lib.hid (NO.out fun e => h1 (by rw [e]))
    clear h1
    go_enter Try.func14, Try.ntmps14
    go_wp2
    go_ret
    exact ⟨ret_bool Z.out.symm, b1⟩
  have t1 : (u.x.id != v.x.id) = false := by rw [bne_eq_false_iff_eq]; exact h1
  have H1 := Lib.hid h1
  clear h1
  by_cases h2 : u.x.flags = v.x.flags
  rotate_left
  · have t2 : (u.x.flags != v.x.flags) = true := bne_iff_ne.2 h2
    have Z : Hid (z = false) := Lib.hid (NO.out fun e => h2 (by rw [e]))
    clear h2
    go_enter Try.func14, Try.ntmps14
    go_wp2
    go_ret
    exact ⟨ret_bool Z.out.symm, b1⟩
  have t2 : (u.x.flags != v.x.flags) = false := by rw [bne_eq_false_iff_eq]; exact h2
  have H2 := Lib.hid h2
  clear h2
  go_enter Try.func14, Try.ntmps14
  go_wp2_with fail
  generalize ((w.alloc (.cells #[.int .i64 u.x.id, .int .i64 u.x.flags, .slice u.A1 u.n1 u.c1, .slice u.A2 u.n2 u.c2, .slice u.A3 u.n3 u.c3, .slice u.A4 u.n4 u.c4] 25)).alloc (.cells #[.int .i64 v.x.id, .int .i64 v.x.flags, .slice v.A1 v.n1 v.c1, .slice v.A2 v.n2 v.c2, .slice v.A3 v.n3 v.c3, .slice v.A4 v.n4 v.c4] 25)) = w1 at *
  refine (pequalQ_any u.x.qs v.x.qs u.A1 v.A1 u.n1 v.n1 u.c1 v.c1 w1 P1.1 Q1.1 (by have := HU.out.1; omega) (by have := HV.out.1; omega)).mono ?_
  rintro e w2 ⟨rfl, q, rfl⟩
  have X2 := X.drewN q
  have Y2 := Y.drewN q
  have P2 := P1.belowH (kdrewB (Below.refl _ _) q)
  have Q2 := Q1.belowH (kdrewB (Below.refl _ _) q)
  have b2 := kdrewB b1 q
  clear x0 x1 x2 y0 y1 y2 X Y P1 Q1 b1 t1 t2
  generalize w1.drewN q = w2 at *
  have hlx := X2.lt
  have hly := Y2.lt
  obtain ⟨z1, hz1⟩ : ∃ z, decide (u.x.qs = v.x.qs) = z := ⟨_, rfl⟩
  rw [hz1]
  have HZ1 := Lib.hid hz1
  clear hz1
  have x0 := X2.at 0 rfl
  have x1 := X2.at 1 rfl
  have x2 := X2.at 2 rfl
  have x3 := X2.at 3 rfl
  have x4 := X2.at 4 rfl
  have x5 := X2.at 5 rfl
  have y0 := Y2.at 0 rfl
  have y1 := Y2.at 1 rfl
  have y2 := Y2.at 2 rfl
  have y3 := Y2.at 3 rfl
  have y4 := Y2.at 4 rfl
  have y5 := Y2.at 5 rfl
  cases z1
  · have Z : Hid (z = false) := Lib.hid (NO.out fun e => of_decide_eq_false HZ1.out (by rw [e]))
    go_wp2
    go_ret
    exact ⟨ret_bool Z.out.symm, b2⟩
  have HQ : Hid (u.x.qs = v.x.qs) := Lib.hid (of_decide_eq_true HZ1.out)
  clear HZ1
  go_wp2_with fail
  refine (plists_any v w2).mono ?_
  rintro e w3 ⟨rfl, hb⟩
  have X3 := X2.below hb hlx
  have Y3 := Y2.below hb hly
  have P3 := P2.belowH hb
  have Q3 := Q2.belowH hb
  have b3 := b2.trans (hb.mono b2.size)
  clear x0 x1 x2 x3 x4 x5 y0 y1 y2 y3 y4 y5 X2 Y2 P2 Q2 b2 hb hlx hly
  have bb : Below w3.heap.size w3 (w3.alloc (.cells #[.slice v.A2 v.n2 v.c2, .slice v.A3 v.n3 v.c3, .slice v.A4 v.n4 v.c4] 51)) := (Below.refl _ _).alloc (Nat.le_refl _) _
  have X4 := X3.below bb X3.lt
  have P4 := P3.belowH bb
  have Q4 := Q3.belowH bb
  have b4 := b3.trans (bb.mono b3.size)
  have L4 := Box.new w3 #[.slice v.A2 v.n2 v.c2, .slice v.A3 v.n3 v.c3, .slice v.A4 v.n4 v.c4] 51
  have x0 := X4.at 0 rfl
  have x1 := X4.at 1 rfl
  have x2 := X4.at 2 rfl
  have x3 := X4.at 3 rfl
  have x4 := X4.at 4 rfl
  have x5 := X4.at 5 rfl
  have hll := L4.lt
  have hwl : w.heap.size ≤ w3.heap.size := b3.size
  clear X3 Y3 P3 Q3 b3 bb
  simp only [zls]
  go_wp2_with fail
  generalize (w3.alloc (.cells #[.slice v.A2 v.n2 v.c2, .slice v.A3 v.n3 v.c3, .slice v.A4 v.n4 v.c4] 51)) = w4 at *
  refine (plists_any u w4).mono ?_
  rintro e w5 ⟨rfl, hb⟩
  have P5 := P4.belowH hb
  have Q5 := Q4.belowH hb
  have b5 := b4.trans (hb.mono b4.size)
  have L5 := L4.below hb hll
  clear x0 x1 x2 x3 x4 x5 X4 P4 Q4 b4 L4 hb hll
  simp only [zls]
  go_wp2
  go_loopw [32] (fun i wr => (i = .int .i64 0 ∨ (i = .int .i64 1 ∧ Hid (u.x.an = v.x.an)) ∨ (i = .int .i64 2 ∧ Hid (u.x.an = v.x.an ∧ u.x.au = v.x.au)) ∨ (i = .int .i64 3 ∧ Hid (u.x.an = v.x.an ∧ u.x.au = v.x.au ∧ u.x.mo = v.x.mo))) ∧ PRd wr u ∧ PRd wr v ∧ Box wr w3.heap.size 51 #[.slice v.A2 v.n2 v.c2, .slice v.A3 v.n3 v.c3, .slice v.A4 v.n4 v.c4] ∧ Below w.heap.size w wr) (fun i _ => 3 - (intOf i).toNat)
  case atStart => exact ⟨Or.inl rfl, P5, Q5, L5, b5⟩
  case round =>
    clear P5 Q5 L5 b5
    obtain ⟨hi, PR, QR, L, b⟩ := hrel
    have l0 := L.at 0 rfl
    have l1 := L.at 1 rfl
    have l2 := L.at 2 rfl
    rcases hi with rfl | ⟨rfl, HH⟩ | ⟨rfl, HH⟩ | ⟨rfl, HH⟩
    · have IX : ∀ w, (Instr.index 51 (.agg #[.slice u.A2 u.n2 u.c2, .slice u.A3 u.n3 u.c3, .slice u.A4 u.n4 u.c4]) (.int .i64 0)).run Try.prog w = .ok (.slice u.A2 u.n2 u.c2) w := fun w => by kernel_rfl
      go_wp2_with fail
      clear IX
      obtain ⟨zl, hzl⟩ : ∃ z, decide (u.x.an = v.x.an) = z := ⟨_, rfl⟩
      have ZL := Lib.hid hzl
      refine (pequalR_any u.x.an v.x.an u.A2 v.A2 u.n2 v.n2 u.c2 v.c2 wr PR.2.1 QR.2.1 (by have := HU.out.1; omega) (by have := HV.out.1; omega)).mono ?_
      rw [hzl]
      clear hzl
      rintro e w6 ⟨rfl, q, rfl⟩
      replace PR := PR.belowH (kdrewB (Below.refl _ _) q)
      replace QR := QR.belowH (kdrewB (Below.refl _ _) q)
      replace L := L.drewN q
      replace b := kdrewB b q
      clear l0 l1 l2
      cases zl
      · have Z : Hid (z = false) := Lib.hid (NO.out fun e => of_decide_eq_false ZL.out (by rw [e]))
        go_wp2
        go_ret
        exact ⟨ret_bool Z.out.symm, b⟩
      · go_wp2
        go_roundw
        case rel => exact ⟨Or.inr (Or.inl ⟨by go_num, Lib.hid (of_decide_eq_true ZL.out)⟩), PR, QR, L, b⟩
        case measure => simp [intOf]
    · have IX : ∀ w, (Instr.index 51 (.agg #[.slice u.A2 u.n2 u.c2, .slice u.A3 u.n3 u.c3, .slice u.A4 u.n4 u.c4]) (.int .i64 1)).run Try.prog w = .ok (.slice u.A3 u.n3 u.c3) w := fun w => by kernel_rfl
      go_wp2_with fail
      clear IX
      obtain ⟨zl, hzl⟩ : ∃ z, decide (u.x.au = v.x.au) = z := ⟨_, rfl⟩
      have ZL := Lib.hid hzl
      refine (pequalR_any u.x.au v.x.au u.A3 v.A3 u.n3 v.n3 u.c3 v.c3 wr PR.2.2.1 QR.2.2.1 (by have := HU.out.1; omega) (by have := HV.out.1; omega)).mono ?_
      rw [hzl]
      clear hzl
      rintro e w6 ⟨rfl, q, rfl⟩
      replace PR := PR.belowH (kdrewB (Below.refl _ _) q)
      replace QR := QR.belowH (kdrewB (Below.refl _ _) q)
      replace L := L.drewN q
      replace b := kdrewB b q
      clear l0 l1 l2
      cases zl
      · have Z : Hid (z = false) := Lib.hid (NO.out fun e => of_decide_eq_false ZL.out (by rw [e]))
        go_wp2
        go_ret
        exact ⟨ret_bool Z.out.symm, b⟩
      · go_wp2
        go_roundw
        case rel => exact ⟨Or.inr (Or.inr (Or.inl ⟨by go_num, Lib.hid ⟨HH.out, of_decide_eq_true ZL.out⟩⟩)), PR, QR, L, b⟩
        case measure => simp [intOf]
    · have IX : ∀ w, (Instr.index 51 (.agg #[.slice u.A2 u.n2 u.c2, .slice u.A3 u.n3 u.c3, .slice u.A4 u.n4 u.c4]) (.int .i64 2)).run Try.prog w = .ok (.slice u.A4 u.n4 u.c4) w := fun w => by kernel_rfl
      go_wp2_with fail
      clear IX
      obtain ⟨zl, hzl⟩ : ∃ z, decide (u.x.mo = v.x.mo) = z := ⟨_, rfl⟩
      have ZL := Lib.hid hzl
      refine (pequalR_any u.x.mo v.x.mo u.A4 v.A4 u.n4 v.n4 u.c4 v.c4 wr PR.2.2.2 QR.2.2.2 (by have := HU.out.1; omega) (by have := HV.out.1; omega)).mono ?_
      rw [hzl]
      clear hzl
      rintro e w6 ⟨rfl, q, rfl⟩
      replace PR := PR.belowH (kdrewB (Below.refl _ _) q)
      replace QR := QR.belowH (kdrewB (Below.refl _ _) q)
      replace L := L.drewN q
      replace b := kdrewB b q
      clear l0 l1 l2
      cases zl
      · have Z : Hid (z = false) := Lib.hid (NO.out fun e => of_decide_eq_false ZL.out (by rw [e]))
        go_wp2
        go_ret
        exact ⟨ret_bool Z.out.symm, b⟩
      · go_wp2
        go_roundw
        case rel => exact ⟨Or.inr (Or.inr (Or.inr ⟨by go_num, Lib.hid ⟨HH.out.1, HH.out.2, of_decide_eq_true ZL.out⟩⟩)), PR, QR, L, b⟩
        case measure => simp [intOf]
    · have Z : Hid (z = true) := Lib.hid (YES.out ⟨H1.out, H2.out, HQ.out, HH.out⟩)
      go_wp2
      go_ret
      exact ⟨ret_bool Z.out.symm, b⟩
theorem psame_any (u v : Pv) (w : World) (h : PRd w u) (h' : PRd w v) (hu : PMod u) (hv : PMod v) : Calls Try.prog 14 #[pval u, pval v] w (BoB (decide (u.x = v.x)) w) := psame_z u v w h h' hu hv rfl
end Go.Proofs.Ytbioblknhfmelaa

