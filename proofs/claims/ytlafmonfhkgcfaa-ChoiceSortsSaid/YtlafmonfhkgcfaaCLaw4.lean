/- The walk of choice's law on what rises, and what goes. -/
import Derived.Test.YtlafmonfhkgcfaaCAlive
import Derived.Deep.QuietTactic
namespace Go.Proofs.Ytlafmonfhkgcfaa
set_option linter.unusedVariables false
set_option linter.unusedSimpArgs false
open Go.RowKit
set_option maxHeartbeats 8000000 in
set_option maxRecDepth 100000 in
theorem law_ChoiceSorts (a0 : Option Addr) (len0 cap0 : Nat) (z0 : List Int) (m : Int) (W : World) (w0 : Row .i64 W a0 len0 cap0 z0) (w1 : (Lit.int .i64 m).wf = true) :
    Calls Try.prog 6 #[.slice a0 len0 cap0, .int .i64 m] W fun e w' => e = .returned (.bool true) ∧ Below W.heap.size W w' := by
  obtain ⟨l, hl, h⟩ := w0.ints
  have HL := Lib.hid hl
  clear w0 w1 hl z0
  go_enter Try.func6, Try.ntmps6
  go_wp2_with fail
  refine (calive_any _).mono ?_
  rintro _ wb ⟨rfl, b⟩
  replace h := h.belowH b
  by_cases hn : 200 < len0
  · go_wp2
    go_ret
    exact ⟨rfl, b⟩
  obtain ⟨u, hu⟩ : ∃ u, Ch.rising l = u := ⟨_, rfl⟩
  obtain ⟨v, hv⟩ : ∃ v, Ch.without l m = v := ⟨_, rfl⟩
  have EU := Lib.hid hu
  have EV := Lib.hid hv
  have UP : Hid (Ch.Up u) := Lib.hid (by rw [← hu]; exact Ch.rising_up l)
  have UM : Hid (∀ y, y ∈ u ↔ y ∈ l) := Lib.hid (by rw [← hu]; exact fun y => Ch.rising_mem)
  have UL : Hid (u.length ≤ len0) := Lib.hid (by rw [← hu, ← HL.out]; exact Ch.rising_len l)
  have VN : Hid (decide (m ∈ v) = false) := Lib.hid (decide_eq_false (by rw [← hv]; intro h; exact (Ch.without_mem.1 h).2 rfl))
  have VL : Hid (v.length ≤ len0) := Lib.hid (by rw [← hv, ← HL.out]; exact Ch.without_le l m)
  have VT : Hid (decide (m ∈ l) = decide (v.length < len0)) := Lib.hid (by rw [← hv, ← HL.out]; exact decide_eq_decide.2 (Ch.without_lt l m))
  clear hu hv
  go_wp2_with fail
  refine (crising_at EU.out a0 len0 cap0 _ h (by omega)).mono ?_
  rintro _ wc ⟨⟨A4, n4, c4, rfl, R4, hc4⟩, hb⟩
  replace h := h.belowH hb
  replace b := b.trans (hb.mono b.size)
  clear hb hc4
  have L4 := Lib.hid (ilen R4)
  have hn4 : n4 ≤ len0 := by have := L4.out; have := UL.out; omega
  go_wp2_with fail
  go_loopw [6] (fun v wr => ∃ k : Nat, k ≤ n4 ∧ v = .int .i64 (k : Int) ∧ Below W.heap.size W wr ∧ Rd wr wr.heap.size 1 a0 len0 (I l) ∧ Rd wr wr.heap.size 1 A4 n4 (I u)) (fun v _ => n4 - (intOf v).toNat)
  case atStart => exact ⟨0, by omega, rfl, b, h, R4⟩
  case round =>
    clear b h R4
    obtain ⟨k, hk, rfl, b, h, R4⟩ := hrel
    by_cases hlt : k < n4
    · obtain ⟨bx, ox, x, e1, hbx, hx, c0⟩ := R4.atI hlt
      subst e1
      have HX := Lib.hid hx
      have hD : ∀ q, Rd (wr.drewN q) (wr.drewN q).heap.size 1 a0 len0 (I l) := fun q => h
      have HM : Hid (decide (x ∈ l) = true) := Lib.hid (decide_eq_true ((UM.out x).1 (List.mem_of_getElem? hx)))
      have hk0 : (0 : Int) ≤ (k : Int) := by omega
      have hk4 : (k : Int) < (n4 : Int) := by omega
      clear hx
      by_cases h0 : k = 0
      · have g1 : decide ((0 : Int) < (k : Int)) = false := decide_eq_false (by omega)
        have g1' : decide (0 < k) = false := decide_eq_false (by omega)
        clear h0
        go_wp2_with fail
        go_quiet ((go_at_call 16; exact Calls.quiet_of (chas_at HM.out a0 len0 cap0 _ (hD _) (by omega))))
        go_wp2
        go_roundw
        case rel => exact ⟨k + 1, by omega, by go_num, kdrewC b _, h, R4⟩
        case measure => simp [intOf]; omega
      · obtain ⟨j, hj⟩ : ∃ j, k = j + 1 := ⟨k - 1, by omega⟩
        obtain ⟨by_, oy, y, e2, hby, hy, d0⟩ := R4.atI (show j < n4 by omega)
        obtain ⟨rfl, rfl⟩ : bx = by_ ∧ ox = oy := by simpa using e2
        have hyx := Ch.up_at UP.out hy (by rw [← hj]; exact HX.out)
        have g1 : decide ((0 : Int) < (k : Int)) = true := decide_eq_true (by omega)
        have g1' : decide (0 < k) = true := decide_eq_true (by omega)
        have g2 : decide (x ≤ y) = false := decide_eq_false (by omega)
        have w1 : wrap64 ((k : Int) - 1) = (j : Int) := by unfold wrap64; omega
        have w1' : IntKind.i64.wrap ((k : Int) - 1) = (j : Int) := by rw [IntWalk.i64_in _ (by omega)]; omega
        have hj0 : (0 : Int) ≤ (j : Int) := by omega
        have hj1 : (j : Int) < (n4 : Int) := by omega
        have HJ := Lib.hid hj
        clear e2 hy hj h0
        go_wp2_with fail
        go_quiet ((go_at_call 16; exact Calls.quiet_of (chas_at HM.out a0 len0 cap0 _ (hD _) (by omega))))
        go_wp2
        go_roundw
        case rel => exact ⟨k + 1, by omega, by go_num, kdrewC b _, h, R4⟩
        case measure => simp [intOf]; omega
    · have hk2 : ¬ (k : Int) < (n4 : Int) := by omega
      have b2 := b
      have h2 := h
      have R2 := R4
      clear h R4 b hk hlt
      go_wp2_with fail
      go_loopw [7] (fun v wr => ∃ k : Nat, k ≤ len0 ∧ v = .int .i64 (k : Int) ∧ Below W.heap.size W wr ∧ Rd wr wr.heap.size 1 a0 len0 (I l) ∧ Rd wr wr.heap.size 1 A4 n4 (I u)) (fun v _ => len0 - (intOf v).toNat)
      case atStart => exact ⟨0, by omega, rfl, b2, h2, R2⟩
      case round =>
        clear b2 h2 R2 hk2
        obtain ⟨k, hk, rfl, b, h, R4⟩ := hrel
        by_cases hlt : k < len0
        · obtain ⟨bx, ox, x, e1, hbx, hx, c0⟩ := h.atI hlt
          subst e1
          have HM : Hid (decide (x ∈ u) = true) := Lib.hid (decide_eq_true ((UM.out x).2 (List.mem_of_getElem? hx)))
          have hk0 : (0 : Int) ≤ (k : Int) := by omega
          clear hx
          go_wp2_with fail
          refine (chas_b HM.out A4 n4 c4 _ R4 (by omega)).mono ?_
          rintro _ we ⟨rfl, hb⟩
          replace h := h.belowH hb
          replace R4 := R4.belowH hb
          replace b := b.trans (hb.mono b.size)
          clear hb c0
          go_wp2
          go_roundw
          case rel => exact ⟨k + 1, by omega, by go_num, b, h, R4⟩
          case measure => simp [intOf]; omega
        · have hk2 : ¬ (k : Int) < (len0 : Int) := by omega
          go_wp2_with fail
          refine (cwithout_at EV.out a0 len0 cap0 _ h (by omega)).mono ?_
          rintro _ wf ⟨⟨A5, n5, c5, rfl, R5, hc5⟩, hb⟩
          replace h := h.belowH hb
          replace R4 := R4.belowH hb
          replace b := b.trans (hb.mono b.size)
          clear hb hc5
          have L5 := ilen R5
          have hn5 : n5 ≤ len0 := by have := VL.out; omega
          have g5 : decide ((n5 : Int) ≤ (len0 : Int)) = true := decide_eq_true (by omega)
          have EE : Hid (decide (m ∈ l) = decide ((n5 : Int) < (len0 : Int))) := Lib.hid (VT.out.trans (decide_eq_decide.2 (by omega)))
          clear L5
          go_wp2_with fail
          refine (chas_b VN.out A5 n5 c5 _ R5 (by omega)).mono ?_
          rintro _ wg ⟨rfl, hb⟩
          replace h := h.belowH hb
          replace R4 := R4.belowH hb
          replace b := b.trans (hb.mono b.size)
          clear hb R5
          go_wp2_with fail
          refine (chas_b EE.out a0 len0 cap0 _ h (by omega)).mono ?_
          rintro _ wh ⟨rfl, hb⟩
          replace h := h.belowH hb
          replace R4 := R4.belowH hb
          replace b := b.trans (hb.mono b.size)
          clear hb
          have EUU : Hid (Ch.rising u = u) := Lib.hid (Ch.rising_of UP.out)
          by_cases h5 : n5 < len0
          · have g6 : decide ((n5 : Int) < (len0 : Int)) = true := decide_eq_true (by omega)
            go_wp2_with fail
            refine (crising_at EUU.out A4 n4 c4 _ R4 (by omega)).mono ?_
            rintro _ wi ⟨⟨A6, n6, c6, rfl, R6, hc6⟩, hb⟩
            replace R4 := R4.belowH hb
            replace b := b.trans (hb.mono b.size)
            clear hb hc6
            go_wp2_with fail
            refine (cints_b A6 A4 n6 n4 c6 c4 _ R6 R4 (by have h9 := ilen R6; have := L4.out; omega)).mono ?_
            rintro _ wj ⟨rfl, hb⟩
            replace b := b.trans (hb.mono b.size)
            clear hb
            go_wp2
            go_ret
            exact ⟨rfl, b⟩
          · have g6 : decide ((n5 : Int) < (len0 : Int)) = false := decide_eq_false (by omega)
            go_wp2_with fail
            refine (crising_at EUU.out A4 n4 c4 _ R4 (by omega)).mono ?_
            rintro _ wi ⟨⟨A6, n6, c6, rfl, R6, hc6⟩, hb⟩
            replace R4 := R4.belowH hb
            replace b := b.trans (hb.mono b.size)
            clear hb hc6
            go_wp2_with fail
            refine (cints_b A6 A4 n6 n4 c6 c4 _ R6 R4 (by have h9 := ilen R6; have := L4.out; omega)).mono ?_
            rintro _ wj ⟨rfl, hb⟩
            replace b := b.trans (hb.mono b.size)
            clear hb
            go_wp2
            go_ret
            exact ⟨rfl, b⟩
end Go.Proofs.Ytlafmonfhkgcfaa
