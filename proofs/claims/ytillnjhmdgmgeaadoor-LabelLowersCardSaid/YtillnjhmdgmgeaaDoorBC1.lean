/- Package label: is it a name, its labels. -/
import Derived.Test.YtillnjhmdgmgeaaDoorBRef6
namespace Go.Proofs.YtillnjhmdgmgeaaDoor
set_option linter.unusedVariables false
set_option linter.unusedSimpArgs false
open Go.RowKit
namespace Lab
theorem right_end {s : List UInt8} {o : List (List UInt8)} {k : Nat} (h : At s o k) (hd : s.drop k = []) : right s = false := by unfold right; rw [at_end h hd]; rfl
theorem right_bad {s r : List UInt8} {o : List (List UInt8)} {k : Nat} {c : UInt8} (h : At s o k) (hd : s.drop k = c :: r) (hc : c ≠ 0) (hb : 63 < c.toNat ∨ r.length < c.toNat) : right s = false := by unfold right; rw [at_bad h hd hc hb]; rfl
theorem right_long {s : List UInt8} (h : 255 < s.length) : right s = false := by unfold right cut; rw [if_pos h]; rfl
theorem right_zero {s r : List UInt8} {o : List (List UInt8)} {k : Nat} (h : At s o k) (hd : s.drop k = 0 :: r) (hl : s.length ≤ 255) : right s = decide (r.length = 0) := by
  unfold right
  rw [at_zero h hd, if_neg (by omega)]
  cases r with
  | nil => rfl
  | cons a b => simp
end Lab
set_option maxHeartbeats 4000000 in
set_option maxRecDepth 20000 in
theorem cright_any (s : List UInt8) (hs : s.length ≤ 1100000) (w : World) : Calls Tryd.prog 13 #[.string (strB s)] w (BoB (Lab.right s) w) := by
  obtain ⟨n, hn⟩ : ∃ n, s.length = n := ⟨_, rfl⟩
  have hsz : (strB s).size = n := by rw [strB_sz, hn]
  rw [hn] at hs
  have HN := Lib.hid hn
  clear hn
  by_cases h255 : 255 < n
  · have R0 : Hid (Lab.right s = false) := Lib.hid (Lab.right_long (by rw [HN.out]; exact h255))
    have g0 : decide (255 < (n : Int)) = true := decide_eq_true (by omega)
    go_enter Tryd.func13, Tryd.ntmps13
    go_wp2
    go_ret
    exact ⟨ret_bool R0.out.symm, Below.refl _ _⟩
  have g0 : decide (255 < (n : Int)) = false := decide_eq_false (by omega)
  have n255 : n ≤ 255 := by omega
  clear h255 hs
  obtain ⟨nm1, hnm1⟩ : ∃ z : Int, (n : Int) - 1 = z := ⟨_, rfl⟩
  have V : Hid (wrap64 ((n : Int) - 1) = nm1 ∧ IntKind.i64.wrap ((n : Int) - 1) = nm1) := Lib.hid ⟨by rw [← hnm1]; exact w64_of (by omega) (by omega), by rw [← hnm1]; exact i64_of (by omega) (by omega)⟩
  have HM1 := Lib.hid hnm1
  clear hnm1
  go_enter Tryd.func13, Tryd.ntmps13
  go_wp2
  go_loop [3] (fun i => ∃ k : Nat, k ≤ n + 64 ∧ i = .int .i64 (k : Int) ∧ Hid ((k ≤ n ∧ ∃ o, Lab.At s o k) ∨ (n < k ∧ Lab.right s = false))) (fun i => n + 100 - (intOf i).toNat)
  case atStart => exact ⟨0, by omega, rfl, Lib.hid (Or.inl ⟨by omega, [], by simp, by simp [Lab.wires], rfl⟩)⟩
  case round =>
    obtain ⟨k, hk, rfl, HA⟩ := hrel
    have hk0 : (0 : Int) ≤ (k : Int) := by omega
    by_cases hkn : k < n
    · have g1 : decide ((k : Int) < (n : Int)) = true := decide_eq_true (by omega)
      have g3 : decide (k < n) = true := decide_eq_true hkn
      obtain ⟨o, HAt⟩ : ∃ o, Hid (Lab.At s o k) := by
        rcases HA.out with ⟨_, o, h⟩ | ⟨h, _⟩
        · exact ⟨o, Lib.hid h⟩
        · omega
      clear HA
      rcases hd : s.drop k with _ | ⟨x, r⟩
      · exact absurd (congrArg List.length hd) (by rw [List.length_drop]; have := HN.out; simp; omega)
      · obtain ⟨hx, hlr, _⟩ := drop_at hd
        have hrl : k + 1 + r.length = n := by have := HN.out; omega
        have HD := Lib.hid hd
        have IXA : ∀ w, (Instr.index 9 (.string (strB s)) (.int .i64 (k : Int))).run Tryd.prog w = .ok (.int .u8 (x.toNat : Int)) w := fun w => run_chr hx
        clear hd hx hlr
        by_cases hx0 : x = 0
        · subst hx0
          have CZ := Lib.hid (Lab.right_zero HAt.out HD.out (by rw [HN.out]; exact n255))
          by_cases hr : r.length = 0
          · have g2 : ((k : Int) == nm1) = true := by rw [beq_iff_eq]; have := HM1.out; omega
            have CN : Hid (Lab.right s = true) := Lib.hid (by rw [CZ.out, hr]; rfl)
            clear HAt CZ hr
            obtain ⟨v1, v2⟩ := V.out
            go_wp2
            go_ret
            exact ⟨ret_bool CN.out.symm, Below.refl _ _⟩
          · have g2 : ((k : Int) == nm1) = false := by rw [beq_eq_false_iff_ne]; have := HM1.out; omega
            have CN : Hid (Lab.right s = false) := Lib.hid (by rw [CZ.out]; exact decide_eq_false hr)
            clear HAt CZ hr
            obtain ⟨v1, v2⟩ := V.out
            go_wp2
            go_ret
            exact ⟨ret_bool CN.out.symm, Below.refl _ _⟩
        · have hp := Lab.pos_of hx0
          have h256 : x.toNat < 256 := x.toNat_lt
          obtain ⟨y, hy⟩ : ∃ y, x.toNat = y := ⟨_, rfl⟩
          rw [hy] at IXA hp h256
          obtain ⟨ci, hci⟩ : ∃ z : Int, (y : Int) = z := ⟨_, rfl⟩
          rw [hci] at IXA
          have g4 : (ci != 0) = true := by rw [bne_iff_ne]; omega
          have CV : Hid (IntKind.i64.wrap ci = ci) := Lib.hid (i64_of (by omega) (by omega))
          have HY := Lib.hid hy
          have HX0 := Lib.hid hx0
          obtain ⟨k1, hk1⟩ : ∃ z : Int, 1 + ci = z := ⟨_, rfl⟩
          obtain ⟨k2, hk2⟩ : ∃ z : Int, (k : Int) + k1 = z := ⟨_, rfl⟩
          have U1 : Hid (wrap64 (1 + ci) = k1 ∧ IntKind.i64.wrap (1 + ci) = k1) := Lib.hid ⟨by rw [← hk1]; exact w64_of (by omega) (by omega), by rw [← hk1]; exact i64_of (by omega) (by omega)⟩
          have U2 : Hid (wrap64 ((k : Int) + k1) = k2 ∧ IntKind.i64.wrap ((k : Int) + k1) = k2) := Lib.hid ⟨by rw [← hk2]; exact w64_of (by omega) (by omega), by rw [← hk2]; exact i64_of (by omega) (by omega)⟩
          have CI := Lib.hid hci
          have HP := Lib.hid hp
          have K1 := Lib.hid hk1
          have K2 := Lib.hid hk2
          by_cases hb1 : 63 < y
          · have CN := Lib.hid (Lab.right_bad HAt.out HD.out HX0.out (Or.inl (by rw [HY.out]; exact hb1)))
            have g6 : decide (63 < ci) = true := decide_eq_true (by omega)
            clear HAt hy hx0 hk1 hk2 hci h256 hp hb1
            obtain ⟨u1, u2⟩ := U1.out
            obtain ⟨u3, u4⟩ := U2.out
            have cv := CV.out
            go_wp2
            go_ret
            exact ⟨ret_bool CN.out.symm, Below.refl _ _⟩
          have g6 : decide (63 < ci) = false := decide_eq_false (by omega)
          have NX : Hid (k + 1 + y ≤ n + 64 ∧ k2 = ((k + 1 + y : Nat) : Int) ∧ ((k + 1 + y ≤ n ∧ ∃ o, Lab.At s o (k + 1 + y)) ∨ (n < k + 1 + y ∧ Lab.right s = false))) := Lib.hid (by
            refine ⟨by omega, by omega, ?_⟩
            by_cases hb2 : r.length < y
            · exact Or.inr ⟨by omega, Lab.right_bad HAt.out HD.out HX0.out (Or.inr (by rw [HY.out]; exact hb2))⟩
            · exact Or.inl ⟨by omega, _, by have h1 := Lab.at_next HAt.out HD.out HX0.out (by rw [HY.out]; omega); rwa [HY.out] at h1⟩)
          clear HAt hy hx0 hk1 hk2 hci h256 hp hb1
          obtain ⟨u1, u2⟩ := U1.out
          obtain ⟨u3, u4⟩ := U2.out
          have cv := CV.out
          go_wp2
          go_round
          case rel => exact ⟨k + 1 + y, NX.out.1, by rw [NX.out.2.1], Lib.hid NX.out.2.2⟩
          case measure => rw [NX.out.2.1]; have h1 := NX.out.1; simp only [intOf]; omega
    · have g1 : decide ((k : Int) < (n : Int)) = false := decide_eq_false (by omega)
      have g3 : decide (k < n) = false := decide_eq_false hkn
      have CN : Hid (Lab.right s = false) := Lib.hid (by
        rcases HA.out with ⟨h1, o, h⟩ | ⟨_, h⟩
        · exact Lab.right_end h (List.eq_nil_of_length_eq_zero (by rw [List.length_drop]; have := HN.out; omega))
        · exact h)
      have g2 : ((k : Int) == nm1) = false := by rw [beq_eq_false_iff_ne]; have := HM1.out; omega
      clear HA
      obtain ⟨v1, v2⟩ := V.out
      go_wp2
      go_ret
      exact ⟨ret_bool CN.out.symm, Below.refl _ _⟩
end Go.Proofs.YtillnjhmdgmgeaaDoor
