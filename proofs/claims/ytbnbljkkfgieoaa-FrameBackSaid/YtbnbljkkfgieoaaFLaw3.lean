/- The walk of FrameBack. -/
import Derived.Test.YtbnbljkkfgieoaaFLaw1
namespace Go.Proofs.Ytbnbljkkfgieoaa
set_option linter.unusedVariables false
set_option linter.unusedSimpArgs false
open Go.RowKit

theorem FrameR.cut {er : Int} {f : Fr} {w : World} {e : Ending} {w' : World} (h : FrameR er f w e w') : ∃ A' c', e = .returned (.tuple #[fv f A' f.pay.length c', .int .i64 er]) ∧ Rd w' w'.heap.size 1 A' f.pay.length (U f.pay) ∧ Below w.heap.size w w' := by
  obtain ⟨⟨A', c', h1, h2, _, _⟩, h3⟩ := h
  exact ⟨A', c', h1, h2, h3⟩
theorem rfsame_one (f : Fr) (A A' : Option Addr) (n n' c c' B B' : Nat) (w : World) (h : Rd w B 1 A n (U f.pay)) (h' : Rd w B' 1 A' n' (U f.pay)) (hB : B ≤ w.heap.size) (hB' : B' ≤ w.heap.size) :
    Calls Try.prog 15 #[fv f A n c, fv f A' n' c'] w fun e w' => e = .returned (.bool true) ∧ Below w.heap.size w w' :=
  (rfsame_any f f A A' n n' c c' B B' w h h' hB hB').mono fun _ _ ⟨h1, h2⟩ => ⟨by rw [h1, sameB, decide_eq_true rfl], h2⟩

set_option maxHeartbeats 3200000 in
set_option maxRecDepth 100000 in
/-- behind what is encoded: what is decoded has just those bytes -/
theorem law_FrameBack (f : Fr) (A : Option Addr) (n c : Nat) (a1 : Option Addr) (len1 cap1 : Nat) (z1 : List Int) (a2 : ByteArray) (w : World) (w0 : FrameIn w f A n c) (w1 : Row .u8 w a1 len1 cap1 z1) (w2 : a2.size ≤ maxLen) :
    Calls Try.prog 5 #[fv f A n c, .slice a1 len1 cap1, .string a2] w fun e w' => e = .returned (.bool true) ∧ Below w.heap.size w w' := by
  obtain ⟨hf, hfc, hfm, hfl⟩ := w0
  obtain ⟨l, hl, hr⟩ := w1.bytes
  have hc := w1.cap_
  obtain ⟨cl, rfl⟩ : ∃ cl, a2 = strB cl := ⟨a2.data.toList, rfl⟩
  have hcl : (strB cl).size = cl.length := strB_size cl
  have hn : n = f.pay.length := by have := hf.len1; rw [U_length] at this; exact this.symm
  have HN := Lib.hid hn
  have HL := Lib.hid hl
  unfold maxLen at w2
  clear w1 hl hn
  have b0 : Below w.heap.size w (w.alloc (.cells (fcells f A n c) 24)) := (Below.refl _ _).alloc (Nat.le_refl _) _
  have x0 := Box.new w (fcells f A n c) 24
  simp only [fv]
  go_enter Try.func5, Try.ntmps5
  go_wp2_with fail
  refine (alive_any _).mono ?_
  rintro e u1 ⟨rfl, hb1⟩
  have b1 : Below w.heap.size w u1 := b0.trans (hb1.mono b0.size)
  have x1 := x0.belowH hb1
  obtain ⟨y0, y1, y2, y3⟩ := fbox x1
  go_wp2_with fail
  refine (great_any f A n c _ HN.out).mono ?_
  rintro e u2 ⟨rfl, hb2⟩
  have b2 : Below w.heap.size w u2 := b1.trans (hb2.mono b1.size)
  have x2 := x1.belowH hb2
  clear y0 y1 y2 y3
  obtain ⟨y0, y1, y2, y3⟩ := fbox x2
  rcases hgr : greatB f
  case true => go_wp2; go_ret; exact ⟨rfl, b2⟩
  by_cases h1 : 4000 < len1
  · go_wp2; go_ret; exact ⟨rfl, b2⟩
  by_cases h2 : 300 < cl.length
  · go_wp2; go_ret; exact ⟨rfl, b2⟩
  go_wp2_with fail
  refine (encode_r f A n c _ _ (hf.belowH b2) (Nat.le_refl _)).mono ?_
  rintro e u3 ⟨⟨A3, c3, rfl, hr3, hc3, hm3⟩, hb3⟩
  have b3 : Below w.heap.size w u3 := b2.trans (hb3.mono b2.size)
  have x3 := x2.belowH hb3
  clear y0 y1 y2 y3
  obtain ⟨y0, y1, y2, y3⟩ := fbox x3
  have hle := F.encL_le f
  by_cases hmay : F.may f
  · have e1 : F.encL f = F.enc f := if_pos hmay
    have e2 : F.encE f = 0 := if_pos hmay
    have d1 := F.dec_enc f hmay f.clu
    have d2 := F.dec_enc f hmay cl
    rw [if_pos rfl] at d1
    have D1 := Lib.hid d1
    have D2 := Lib.hid d2
    have HM := Lib.hid hmay
    rw [e1] at hr3 hc3 hle ⊢
    clear d1 d2 hmay e1
    go_wp2_with fail
    refine (decode_any (F.enc f) f.clu A3 _ c3 _ _ hr3 (Nat.le_refl _) hc3 (by omega)).mono ?_
    rw [D1.out]
    intro e u4 hd
    obtain ⟨A4, c4, rfl, hr4, hb4⟩ := hd.cut
    clear hd
    have b4 : Below w.heap.size w u4 := b3.trans (hb4.mono b3.size)
    have x4 := x3.belowH hb4
    have hr3' := (hr3.belowH hb4).alloc (Nat.le_refl _) (.cells (fcells f A4 f.pay.length c4) 24)
    have p4 := Box.new u4 (fcells f A4 f.pay.length c4) 24
    have b4' : Below w.heap.size w (u4.alloc (.cells (fcells f A4 f.pay.length c4) 24)) := b4.alloc b4.size _
    have x4' := x4.alloc (.cells (fcells f A4 f.pay.length c4) 24)
    have hr4' : Rd (u4.alloc (.cells (fcells f A4 f.pay.length c4) 24)) u4.heap.size 1 A4 f.pay.length (U f.pay) := hr4.alloc (Nat.le_refl _) _
    simp only [fv]
    go_wp2_with fail
    refine (decode_any (F.enc f) cl A3 _ c3 _ _ hr3' (by simp) hc3 (by omega)).mono ?_
    rw [D2.out]
    by_cases hcc : f.clu = cl
    · subst hcc
      rw [if_pos rfl]
      intro e u5 hd
      obtain ⟨A5, c5, rfl, hr5, hb5⟩ := hd.cut
      clear hd
      have b5 : Below w.heap.size w u5 := b4'.trans (hb5.mono b4'.size)
      have x5 := (x4'.belowH hb5).alloc (.cells (fcells f A5 f.pay.length c5) 24)
      have p5 := (p4.belowH hb5).alloc (.cells (fcells f A5 f.pay.length c5) 24)
      have hr6 := (hr4'.below (hb5.mono (by simp))).alloc (by have := hb5.size; simp at this; omega) (.cells (fcells f A5 f.pay.length c5) 24)
      have b5' : Below w.heap.size w (u5.alloc (.cells (fcells f A5 f.pay.length c5) 24)) := b5.alloc b5.size _
      have hz5 : u4.heap.size ≤ (u5.alloc (.cells (fcells f A5 f.pay.length c5) 24)).heap.size := by have := hb5.size; simp at this ⊢; omega
      clear y0 y1 y2 y3
      obtain ⟨y0, y1, y2, y3⟩ := fbox (x4'.belowH hb5)
      obtain ⟨v0, v1, v2, v3⟩ := fbox (p4.belowH hb5)
      have zx := (x4'.belowH hb5).lt
      have zp := (p4.belowH hb5).lt
      simp only [fv]
      go_wp2_with fail
      refine (rfsame_one f A A4 n _ c c4 _ _ _ (hf.belowH b5') hr6 (Nat.le_refl _) hz5).mono ?_
      rintro e u6 ⟨rfl, hb6⟩
      have b6 : Below w.heap.size w u6 := b5'.trans (hb6.mono b5'.size)
      have x6 := x5.belowH hb6
      clear y0 y1 y2 y3 v0 v1 v2 v3
      obtain ⟨y0, y1, y2, y3⟩ := fbox x6
      go_wp2_with fail
      refine (decode_any l f.clu a1 len1 cap1 _ _ (hr.belowH b6) (Nat.le_refl _) hc.1 (by omega)).mono ?_
      intro e k1 hd
      obtain ⟨A7, c7, rfl, hq7, hk1⟩ := hd.cut
      clear hd
      have bk1 : Below w.heap.size w k1 := Below.trans b6 (hk1.mono (Below.size b6))
      have xk1 := Box.new k1 (fcells (F.dec l f.clu).2 A7 (F.dec l f.clu).2.pay.length c7) 24
      have hq8 : Rd (k1.alloc (.cells (fcells (F.dec l f.clu).2 A7 (F.dec l f.clu).2.pay.length c7) 24)) k1.heap.size 1 A7 (F.dec l f.clu).2.pay.length (U (F.dec l f.clu).2.pay) := hq7.alloc (Nat.le_refl _) _
      have bk2 : Below w.heap.size w (k1.alloc (.cells (fcells (F.dec l f.clu).2 A7 (F.dec l f.clu).2.pay.length c7) 24)) := bk1.alloc bk1.size _
      by_cases hz : (F.dec l f.clu).1 = 0
      · have hx := F.dec_once hz
        have hm := hx.1
        have he := hx.2.1
        clear hx
        generalize F.dec l f.clu = X at *
        obtain ⟨er, g⟩ := X
        dsimp only at *
        subst hz
        have e1 : F.encL g = l := by rw [← he]; exact if_pos hm
        have e2 : F.encE g = 0 := if_pos hm
        have E1 := Lib.hid e1
        clear e1 hm he
        obtain ⟨v0, v1, v2, v3⟩ := fbox xk1
        simp only [fv]
        go_wp2_with fail
        refine (encode_r g A7 _ c7 _ _ hq8 (by simp)).mono ?_
        rintro e k2 ⟨⟨A8, c8, rfl, hr8, hc8, hm8⟩, hk2⟩
        have bk3 : Below w.heap.size w k2 := bk2.trans (hk2.mono bk2.size)
        rw [E1.out] at hr8
        go_wp2_with (go_at_call 11; rw [E1.out]; refine (same_yes A8 a1 _ _ c8 cap1 _ _ l _ hr8 (hr.belowH bk3)).mono ?_; rintro e w' ⟨rfl, rfl⟩)
        go_ret
        exact ⟨rfl, bk3⟩
      · have e1 := F.dec_err hz
        generalize F.dec l f.clu = X at *
        obtain ⟨er, g⟩ := X
        dsimp only at *
        subst e1
        have t1 : (er != 0) = true := by rw [bne_iff_ne]; exact hz
        have HZ := Lib.hid hz
        clear hz
        obtain ⟨v0, v1, v2, v3⟩ := fbox xk1
        simp only [fv, F.zero]
        go_wp2
        go_ret
        exact ⟨rfl, bk2⟩
    · rw [if_neg hcc]
      have tcl2 : (strB cl == strB f.clu) = false := by rw [show (strB cl == strB f.clu) = decide (cl = f.clu) from beq_strB cl f.clu, decide_eq_false (fun h => hcc h.symm)]
      have tcl3 : (cl == f.clu) = false := beq_eq_false_iff_ne.2 (fun h => hcc h.symm)
      have HC := Lib.hid hcc
      clear hcc
      intro e u5 hd
      obtain ⟨A5, c5, rfl, hr5, hb5⟩ := hd.cut
      clear hd
      have b5 : Below w.heap.size w u5 := b4'.trans (hb5.mono b4'.size)
      have x5 := (x4'.belowH hb5).alloc (.cells (fcells F.zero A5 0 c5) 24)
      have hr6 := (hr4'.below (hb5.mono (by simp))).alloc (by have := hb5.size; simp at this; omega) (.cells (fcells F.zero A5 0 c5) 24)
      have b5' : Below w.heap.size w (u5.alloc (.cells (fcells F.zero A5 0 c5) 24)) := b5.alloc b5.size _
      have hz5 : u4.heap.size ≤ (u5.alloc (.cells (fcells F.zero A5 0 c5) 24)).heap.size := by have := hb5.size; simp at this ⊢; omega
      clear y0 y1 y2 y3
      obtain ⟨y0, y1, y2, y3⟩ := fbox (x4'.belowH hb5)
      obtain ⟨v0, v1, v2, v3⟩ := fbox (p4.belowH hb5)
      have zx := (x4'.belowH hb5).lt
      have zp := (p4.belowH hb5).lt
      simp only [fv]
      go_wp2_with fail
      refine (rfsame_one f A A4 n _ c c4 _ _ _ (hf.belowH b5') hr6 (Nat.le_refl _) hz5).mono ?_
      rintro e u6 ⟨rfl, hb6⟩
      have b6 : Below w.heap.size w u6 := b5'.trans (hb6.mono b5'.size)
      have x6 := x5.belowH hb6
      clear y0 y1 y2 y3 v0 v1 v2 v3
      obtain ⟨y0, y1, y2, y3⟩ := fbox x6
      go_wp2_with fail
      refine (decode_any l cl a1 len1 cap1 _ _ (hr.belowH b6) (Nat.le_refl _) hc.1 (by omega)).mono ?_
      intro e k1 hd
      obtain ⟨A7, c7, rfl, hq7, hk1⟩ := hd.cut
      clear hd
      have bk1 : Below w.heap.size w k1 := Below.trans b6 (hk1.mono (Below.size b6))
      have xk1 := Box.new k1 (fcells (F.dec l cl).2 A7 (F.dec l cl).2.pay.length c7) 24
      have hq8 : Rd (k1.alloc (.cells (fcells (F.dec l cl).2 A7 (F.dec l cl).2.pay.length c7) 24)) k1.heap.size 1 A7 (F.dec l cl).2.pay.length (U (F.dec l cl).2.pay) := hq7.alloc (Nat.le_refl _) _
      have bk2 : Below w.heap.size w (k1.alloc (.cells (fcells (F.dec l cl).2 A7 (F.dec l cl).2.pay.length c7) 24)) := bk1.alloc bk1.size _
      by_cases hz : (F.dec l cl).1 = 0
      · have hx := F.dec_once hz
        have hm := hx.1
        have he := hx.2.1
        clear hx
        generalize F.dec l cl = X at *
        obtain ⟨er, g⟩ := X
        dsimp only at *
        subst hz
        have e1 : F.encL g = l := by rw [← he]; exact if_pos hm
        have e2 : F.encE g = 0 := if_pos hm
        have E1 := Lib.hid e1
        clear e1 hm he
        obtain ⟨v0, v1, v2, v3⟩ := fbox xk1
        simp only [fv]
        go_wp2_with fail
        refine (encode_r g A7 _ c7 _ _ hq8 (by simp)).mono ?_
        rintro e k2 ⟨⟨A8, c8, rfl, hr8, hc8, hm8⟩, hk2⟩
        have bk3 : Below w.heap.size w k2 := bk2.trans (hk2.mono bk2.size)
        rw [E1.out] at hr8
        go_wp2_with (go_at_call 11; rw [E1.out]; refine (same_yes A8 a1 _ _ c8 cap1 _ _ l _ hr8 (hr.belowH bk3)).mono ?_; rintro e w' ⟨rfl, rfl⟩)
        go_ret
        exact ⟨rfl, bk3⟩
      · have e1 := F.dec_err hz
        generalize F.dec l cl = X at *
        obtain ⟨er, g⟩ := X
        dsimp only at *
        subst e1
        have t1 : (er != 0) = true := by rw [bne_iff_ne]; exact hz
        have HZ := Lib.hid hz
        clear hz
        obtain ⟨v0, v1, v2, v3⟩ := fbox xk1
        simp only [fv, F.zero]
        go_wp2
        go_ret
        exact ⟨rfl, bk2⟩
  · have e1 : F.encL f = [] := if_neg hmay
    have e2 : F.encE f = 1 := if_neg hmay
    have HM := Lib.hid hmay
    rw [e1] at hr3 hc3 hle ⊢
    clear hmay e1
    go_wp2_with fail
    refine (decode_any l cl a1 len1 cap1 _ _ (hr.belowH b3) (Nat.le_refl _) hc.1 (by omega)).mono ?_
    intro e k1 hd
    obtain ⟨A7, c7, rfl, hq7, hk1⟩ := hd.cut
    clear hd
    have bk1 : Below w.heap.size w k1 := Below.trans b3 (hk1.mono (Below.size b3))
    have xk1 := Box.new k1 (fcells (F.dec l cl).2 A7 (F.dec l cl).2.pay.length c7) 24
    have hq8 : Rd (k1.alloc (.cells (fcells (F.dec l cl).2 A7 (F.dec l cl).2.pay.length c7) 24)) k1.heap.size 1 A7 (F.dec l cl).2.pay.length (U (F.dec l cl).2.pay) := hq7.alloc (Nat.le_refl _) _
    have bk2 : Below w.heap.size w (k1.alloc (.cells (fcells (F.dec l cl).2 A7 (F.dec l cl).2.pay.length c7) 24)) := bk1.alloc bk1.size _
    by_cases hz : (F.dec l cl).1 = 0
    · have hx := F.dec_once hz
      have hm := hx.1
      have he := hx.2.1
      clear hx
      generalize F.dec l cl = X at *
      obtain ⟨er, g⟩ := X
      dsimp only at *
      subst hz
      have e1 : F.encL g = l := by rw [← he]; exact if_pos hm
      have e2 : F.encE g = 0 := if_pos hm
      have E1 := Lib.hid e1
      clear e1 hm he
      obtain ⟨v0, v1, v2, v3⟩ := fbox xk1
      simp only [fv]
      go_wp2_with fail
      refine (encode_r g A7 _ c7 _ _ hq8 (by simp)).mono ?_
      rintro e k2 ⟨⟨A8, c8, rfl, hr8, hc8, hm8⟩, hk2⟩
      have bk3 : Below w.heap.size w k2 := bk2.trans (hk2.mono bk2.size)
      rw [E1.out] at hr8
      go_wp2_with (go_at_call 11; rw [E1.out]; refine (same_yes A8 a1 _ _ c8 cap1 _ _ l _ hr8 (hr.belowH bk3)).mono ?_; rintro e w' ⟨rfl, rfl⟩)
      go_ret
      exact ⟨rfl, bk3⟩
    · have e1 := F.dec_err hz
      generalize F.dec l cl = X at *
      obtain ⟨er, g⟩ := X
      dsimp only at *
      subst e1
      have t1 : (er != 0) = true := by rw [bne_iff_ne]; exact hz
      have HZ := Lib.hid hz
      clear hz
      obtain ⟨v0, v1, v2, v3⟩ := fbox xk1
      simp only [fv, F.zero]
      go_wp2
      go_ret
      exact ⟨rfl, bk2⟩
end Go.Proofs.Ytbnbljkkfgieoaa
