/- The walks of layer 2's laws: SealTwice, SealSums. -/
import Derived.Test.YtobbdpmhpmmjgaaSAlive
namespace Go.Proofs.Ytobbdpmhpmmjgaa
open Go.RowKit

theorem turnI_turnI (l : List UInt8) (i : Int) : S.turnI (S.turnI l i) i = l := by
  unfold S.turnI
  split
  · exact S.turn_turn l _
  · rfl

set_option maxHeartbeats 1600000 in
set_option maxRecDepth 20000 in
theorem law_SealTwice (a0 : Option Addr) (len0 cap0 : Nat) (z0 : List Int) (a1 : Int) (w : World) (w0 : Row .u8 w a0 len0 cap0 z0) (w1 : (Lit.int .u16 a1).wf = true) :
    Calls Try.prog 6 #[.slice a0 len0 cap0, .int .u16 a1] w fun e w' => e = .returned (.bool true) ∧ Below w.heap.size w w' := by
  obtain ⟨l, hl, hr⟩ := w0.bytes
  have hc := w0.cap_
  have hb := wf_bounds_u16 w1
  have HL := Lib.hid hl
  clear hl w0 w1
  by_cases hn : 1000 < len0
  · go_enter Try.func6, Try.ntmps6
    go_wp2_with (go_at_call 7; refine (alive_any _).mono ?_; rintro e w1 ⟨rfl, hb1⟩)
    go_ret
    exact ⟨rfl, hb1⟩
  · go_enter Try.func6, Try.ntmps6
    go_wp2_with (go_at_call 7; refine (alive_any _).mono ?_; rintro e w1 ⟨rfl, hb1⟩)
    have hr1 := hr.belowH hb1
    have hl : l.length = len0 := HL.out
    refine (seal_any a0 len0 cap0 _ l _ hr1 (Nat.le_refl _) (by omega)).mono ?_
    rintro e w2 ⟨A2, c2, rfl, hown2, hb2⟩
    go_wp2_with fail
    refine (seal_any A2 _ c2 _ (S.sealed l) _ (Rd.of_own hown2) (Nat.le_refl _) (by omega)).mono ?_
    rintro e w3 ⟨A3, c3, rfl, hown3, hb3⟩
    have hc3 := own_cap hown3
    go_wp2_with fail
    refine (open_any A3 _ c3 _ (S.sealed (S.sealed l)) _ (Rd.of_own hown3) (Nat.le_refl _) hc3.1 (by omega)).mono ?_
    rintro e w4 ⟨⟨A4, c4, rfl, hr4, hc4⟩, hb4⟩
    rw [innerOf_sealed] at hr4 hc4 ⊢
    rw [codeOf_sealed]
    have e4 : (S.sealed l).length = len0 + 4 := by rw [S.length_sealed, hl]
    rw [e4] at hr4 hc4 ⊢
    go_wp2_with fail
    refine (open_any A4 _ c4 _ (S.sealed l) _ hr4 (Nat.le_refl _) hc4 (by omega)).mono ?_
    rintro e w5 ⟨⟨A5, c5, rfl, hr5, hc5⟩, hb5⟩
    rw [innerOf_sealed] at hr5 hc5 ⊢
    rw [codeOf_sealed, hl]
    rw [hl] at hr5 hc5
    clear hl e4
    have hr05 := ((((hr1.belowH hb2).belowH hb3).belowH hb4).belowH hb5)
    go_wp2_with fail
    refine (same_any A5 a0 len0 len0 c5 cap0 _ _ l l _ hr5 hr05).mono ?_
    rintro e w' ⟨rfl, rfl⟩
    rw [decide_eq_true rfl]
    go_wp2_with fail
    refine (turn_any a0 len0 cap0 _ a1 l _ hr05 (Nat.le_refl _) (by omega) (by omega) (by omega)).mono ?_
    rintro e w6 ⟨A6, c6, rfl, hown6, hb6⟩
    go_wp2_with fail
    refine (turn_any A6 len0 c6 _ a1 (S.turnI l a1) _ (Rd.of_own hown6) (Nat.le_refl _) (by omega) (by omega) (by omega)).mono ?_
    rintro e w7 ⟨A7, c7, rfl, hown7, hb7⟩
    rw [turnI_turnI] at hown7
    go_wp2_with fail
    refine (same_any A7 a0 len0 len0 c7 cap0 _ _ l l _ (Rd.of_own hown7) ((hr05.belowH hb6).belowH hb7)).mono ?_
    rintro e w' ⟨rfl, rfl⟩
    rw [decide_eq_true rfl]
    go_wp2
    go_ret
    have s1 := hb1.size
    have s2 := hb2.size
    have s3 := hb3.size
    have s4 := hb4.size
    have s5 := hb5.size
    have s6 := hb6.size
    exact ⟨rfl, (((((hb1.trans (hb2.mono s1)).trans (hb3.mono (by omega))).trans (hb4.mono (by omega))).trans (hb5.mono (by omega))).trans (hb6.mono (by omega))).trans (hb7.mono (by omega))⟩

theorem innerOf_le (l : List UInt8) : (innerOf l).length ≤ l.length := by
  unfold innerOf; split
  · rw [List.length_take]; omega
  · simp

set_option maxHeartbeats 1600000 in
set_option maxRecDepth 20000 in
theorem law_SealSums (a0 : Option Addr) (len0 cap0 : Nat) (z0 : List Int) (a1 : Int) (w : World) (w0 : Row .u8 w a0 len0 cap0 z0) (w1 : (Lit.int .i64 a1).wf = true) :
    Calls Try.prog 3 #[.slice a0 len0 cap0, .int .i64 a1] w fun e w' => e = .returned (.bool true) ∧ Below w.heap.size w w' := by
  obtain ⟨l, hl, hr⟩ := w0.bytes
  have hc := w0.cap_
  have hb := wf_bounds_i64 w1
  have HL := Lib.hid hl
  clear hl w0 w1
  by_cases hn : 3000 < len0
  · go_enter Try.func3, Try.ntmps3
    go_wp2_with (go_at_call 7; refine (alive_any _).mono ?_; rintro e w1 ⟨rfl, hb1⟩)
    go_ret
    exact ⟨rfl, hb1⟩
  · go_enter Try.func3, Try.ntmps3
    go_wp2_with (first
      | (go_at_call 7; refine (alive_any _).mono ?_; rintro e w1 ⟨rfl, hb1⟩; have hr1 := hr.belowH hb1)
      | (at_builtin; refine app_law0 u8T rfl (.tmp 15) (.tmp 16) rfl w1.heap.size rfl (lit0 w1) rfl (hr1.alloc (Nat.le_refl _) _) (U_one _) (by omega) (by omega) (by simp) ?_; rintro A2 c2 w2 ⟨hown2, hg2, _, _⟩; have hb2 := below_app ((Below.refl w1.heap.size w1).alloc (Nat.le_refl _) _) (lit0 w1) hg2 (Nat.le_refl _) (by simp); rw [List.nil_append] at hown2; clear hg2))
    have hr2 := Rd.of_own hown2
    have hc2 := own_cap hown2
    have hr02 := hr1.belowH hb2
    refine (open_any A2 len0 c2 _ l _ hr2 (Nat.le_refl _) hc2.1 (by omega)).mono ?_
    rintro e w3 ⟨⟨A3, c3, rfl, hr3, hc3⟩, hb3⟩
    go_wp2_with fail
    have hr23 := hr2.belowH hb3
    have hr03 := hr02.belowH hb3
    refine (ropen_any a0 len0 cap0 _ l _ hr03 (Nat.le_refl _) hc.1 (by omega)).mono ?_
    rintro e w4 ⟨⟨A4, c4, rfl, hr4, hc4⟩, hb4⟩
    have hr24 := hr23.belowH hb4
    have hr04 := hr03.belowH hb4
    have hr34 := hr3.belowH hb4
    go_wp2_with fail
    refine (sum_any A2 len0 c2 _ l _ hr24 (by omega)).mono ?_
    rintro e w' ⟨rfl, rfl⟩
    go_wp2_with fail
    refine (rsum_any a0 len0 cap0 _ l _ hr04 (by omega)).mono ?_
    rintro e w' ⟨rfl, rfl⟩
    go_wp2_with fail
    refine (seal_any A2 len0 c2 _ l _ hr24 (Nat.le_refl _) (by omega)).mono ?_
    rintro e w5 ⟨A5, c5, rfl, hown5, hb5⟩
    go_wp2_with fail
    refine (rseal_any a0 len0 cap0 _ l _ (hr04.belowH hb5) (Nat.le_refl _) (by omega)).mono ?_
    rintro e w6 ⟨A6, c6, rfl, hown6, hb6⟩
    go_wp2_with fail
    refine (same_any A5 A6 _ _ c5 c6 _ _ (S.sealed l) (S.sealed l) _ ((Rd.of_own hown5).belowH hb6) (Rd.of_own hown6)).mono ?_
    rintro e w' ⟨rfl, rfl⟩
    rw [decide_eq_true rfl]
    go_wp2_with fail
    refine (same_any A3 A4 _ _ c3 c4 _ _ (innerOf l) (innerOf l) _ ((hr34.belowH hb5).belowH hb6) ((hr4.belowH hb5).belowH hb6)).mono ?_
    rintro e w' ⟨rfl, rfl⟩
    rw [decide_eq_true rfl]
    have hr26 := (hr24.belowH hb5).belowH hb6
    have hr06 := (hr04.belowH hb5).belowH hb6
    go_wp2_with fail
    refine (turn_any A2 len0 c2 _ a1 l _ hr26 (Nat.le_refl _) (by omega) (by omega) (by omega)).mono ?_
    rintro e w7 ⟨A7, c7, rfl, hown7, hb7⟩
    go_wp2_with fail
    refine (rturn_any a0 len0 cap0 _ a1 l _ (hr06.belowH hb7) (Nat.le_refl _) (by omega) (by omega) (by omega)).mono ?_
    rintro e w8 ⟨A8, c8, rfl, hown8, hb8⟩
    go_wp2_with fail
    refine (same_any A7 A8 _ _ c7 c8 _ _ (S.turnI l a1) (S.turnI l a1) _ ((Rd.of_own hown7).belowH hb8) (Rd.of_own hown8)).mono ?_
    rintro e w' ⟨rfl, rfl⟩
    rw [decide_eq_true rfl]
    go_wp2_with fail
    refine (same_any A2 a0 _ _ c2 cap0 _ _ l l _ ((hr26.belowH hb7).belowH hb8) ((hr06.belowH hb7).belowH hb8)).mono ?_
    rintro e w' ⟨rfl, rfl⟩
    rw [decide_eq_true rfl]
    go_wp2
    go_ret
    have s1 := hb1.size
    have s2 := hb2.size
    have s3 := hb3.size
    have s4 := hb4.size
    have s5 := hb5.size
    have s6 := hb6.size
    have s7 := hb7.size
    exact ⟨rfl, ((((((hb1.trans (hb2.mono s1)).trans (hb3.mono (by omega))).trans (hb4.mono (by omega))).trans (hb5.mono (by omega))).trans (hb6.mono (by omega))).trans (hb7.mono (by omega))).trans (hb8.mono (by omega))⟩
end Go.Proofs.Ytobbdpmhpmmjgaa
