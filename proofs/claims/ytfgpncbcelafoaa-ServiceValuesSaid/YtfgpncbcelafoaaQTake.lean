/- quill.Take, quill.TakeText and the reference's take a number, and a text, off bytes. -/
import Derived.Test.YtfgpncbcelafoaaQLay
import Derived.RegionTactic
import Derived.BigQuiet
import Derived.Deep.QuietTactic
namespace Go.Proofs.Ytfgpncbcelafoaa
open Go.RowKit

theorem shl_or {k acc x : Nat} (hk : k ≤ 8) (ha : acc < 128 ^ k) (hx : x < 256) :
    bits .or .i64 (acc : Int) (wrap64 (wrap64 (bits .and .u8 (x : Int) 127) * 2 ^ (7 * k))) = ((acc + x % 128 * 128 ^ k : Nat) : Int) := by
  have hu := Q.takeAt_unit hk
  have h1 : bits .and .u8 (x : Int) 127 = ((x % 128 : Nat) : Int) := by
    rw [show (127 : Int) = ((127 : Nat) : Int) from rfl, u8_and_nat x 127 hx (by omega), nat_mask7]
  have h2 : (2 : Int) ^ (7 * k) = ((128 ^ k : Nat) : Int) := by
    rw [Int.pow_mul]; simp
  have h3 : x % 128 * 128 ^ k ≤ 127 * 72057594037927936 := Nat.mul_le_mul (by omega) hu
  rw [h1, IntWalk.wrap64_in ((x % 128 : Nat) : Int) ⟨by omega, by omega⟩, h2, ← Int.natCast_mul, IntWalk.wrap64_in _ ⟨by omega, by omega⟩, i64_or _ _ (by omega) (by omega)]
  rw [Nat.or_comm, nat_join (7 * k) _ _ ?_ ?_, Nat.add_comm]
  · rw [Nat.pow_mul]; exact Nat.mul_mod_left _ _
  · rw [Nat.pow_mul]; exact ha

theorem behind_any (A : Option Addr) (n c k : Nat) (w : World) (hk : k ≤ n) (hc : n ≤ c) :
    Calls Try.prog 39 #[.slice A n c, .int .i64 k] w fun e w' => e = .returned (.slice (cutA A n k 1) (n - k) (n - k)) ∧ w' = w := by
  have hcut := run_cut_lhm u8T w A n c k n n k n n rfl rfl rfl hk (Nat.le_refl _) hc
  go_enter Try.func39, Try.ntmps39
  go_wp2
  go_ret
  exact ⟨rfl, rfl⟩

set_option maxRecDepth 20000 in
set_option maxHeartbeats 1000000 in
theorem take_any (A : Option Addr) (n c B : Nat) (l : List UInt8) (w : World) (h : Rd w B 1 A n (U l)) (hc : n ≤ c) (hm : c ≤ 9223372036854775807) :
    Calls Try.prog 27 #[.slice A n c] w fun e w' => (∃ A' c', e = .returned (.tuple #[.int .i64 (Q.take l).2.1, .slice A' (Q.rest l).length c', .int .i64 (Q.take l).1]) ∧
      Rd w B 1 A' (Q.rest l).length (U (Q.rest l)) ∧ (Q.rest l).length ≤ c' ∧ c' ≤ 9223372036854775807) ∧ w = w' := by
  have hln := h.len1
  rw [U_length] at hln
  have HLN := Lib.hid hln
  clear hln
  go_enter Try.func27, Try.ntmps27
  go_wp2
  go_loop [2, 6] (fun s i => ∃ (k acc : Nat), Q.TakeAt l k acc ∧ k ≤ 9 ∧ k ≤ n ∧ s = .int .i64 acc ∧ i = .int .i64 k) (fun _ i => 9 - (intOf i).toNat)
  case atStart => exact ⟨0, 0, Q.takeAt_start l, by omega, by omega, rfl, rfl⟩
  case round =>
    obtain ⟨k, acc, hta, hk, hkn0, rfl, rfl⟩ := hrel
    have hacc := Q.takeAt_acc hta
    have HT := Lib.hid hta
    clear hta
    by_cases hk9 : k < 9
    · by_cases hkn : k < n
      · obtain ⟨b, o, x, rfl, hb, hx, hcell⟩ := h.atU hkn
        have HX := Lib.hid hx
        have hx8 : x.toNat < 256 := UInt8.toNat_lt x
        clear hx
        have eor := shl_or (k := k) (acc := acc) (x := x.toNat) (by omega) (HT.out.2.1) hx8
        have hacc2 := Q.takeAt_next (x := x.toNat) HT.out.2.1
        have hu2 := Q.takeAt_unit (k := k) (by omega)
        have EOR := Lib.hid eor
        have HACC := Lib.hid hacc2
        clear eor hacc2 hu2
        by_cases hx7 : 128 ≤ x.toNat
        · go_wp2
          go_round
          case rel => exact ⟨k + 1, _, Q.takeAt_more HT.out hk9 HX.out hx7, by omega, by omega, by rw [EOR.out], by go_num⟩
          case measure => simp [intOf]; omega
        · have eT := Q.takeAt_end HT.out hk9 HX.out (by omega)
          obtain ⟨m, em⟩ : ∃ m, m = acc + x.toNat % 128 * 128 ^ k := ⟨_, rfl⟩
          rw [← em] at eT
          have EM := Lib.hid em
          clear em
          by_cases hsz : Q.size (m : Int) = k + 1
          · rw [if_pos hsz] at eT
            have eR : Q.rest l = l.drop (k + 1) := by simp [Q.rest, eT]
            have hb1 : ((Q.size (m : Int) : Int) != (k : Int) + 1) = false := by rw [hsz]; simp
            have ET := Lib.hid eT
            have ER := Lib.hid eR
            clear eT eR hsz
            go_wp2_with (first
              | (go_at_call 36; rw [EOR.out, ← EM.out]; refine (size_any _ _).mono ?_; rintro e w' ⟨rfl, rfl⟩)
              | (go_at_call 39; refine (behind_any _ _ _ (k + 1) _ (by omega) hc).mono ?_; rintro e w' ⟨rfl, rfl⟩))
            go_ret3
            have hlr : (Q.rest l).length = n - (k + 1) := by rw [ER.out, List.length_drop, HLN.out]
            refine ⟨⟨cutA (some ⟨b, o, none⟩) n (k + 1) 1, n - (k + 1), ?_, ?_, by omega, by omega⟩, rfl⟩
            · rw [ET.out, hlr]; rfl
            · rw [hlr, ER.out, ← U_drop]; exact h.cut1 (by omega) (Nat.le_refl _)
          · rw [if_neg hsz] at eT
            have eR : Q.rest l = [] := by simp [Q.rest, eT]
            have hb1 : ((Q.size (m : Int) : Int) != (k : Int) + 1) = true := by rw [bne_iff_ne]; omega
            have ET := Lib.hid eT
            have ER := Lib.hid eR
            clear eT eR hsz
            go_wp2_with (first
              | (go_at_call 36; rw [EOR.out, ← EM.out]; refine (size_any _ _).mono ?_; rintro e w' ⟨rfl, rfl⟩))
            go_ret3
            refine ⟨⟨none, 0, by rw [ET.out, ER.out]; rfl, by rw [ER.out]; exact Rd.zero _ _ _ _, by rw [ER.out]; simp, by omega⟩, rfl⟩
      · have eT := Q.takeAt_short HT.out hk9 (by rw [HLN.out]; omega)
        have eR : Q.rest l = [] := by simp [Q.rest, eT]
        have ET := Lib.hid eT
        have ER := Lib.hid eR
        have hb1 : ((k : Int) == (n : Int)) = true := beq_iff_eq.2 (by omega)
        clear eT eR
        go_wp2
        go_ret3
        refine ⟨⟨none, 0, by rw [ET.out, ER.out]; rfl, by rw [ER.out]; exact Rd.zero _ _ _ _, by rw [ER.out]; simp, by omega⟩, rfl⟩
    · obtain rfl : k = 9 := by omega
      have eT := Q.takeAt_long HT.out
      have eR : Q.rest l = [] := by simp [Q.rest, eT]
      have ET := Lib.hid eT
      have ER := Lib.hid eR
      clear eT eR
      go_wp2
      go_ret3
      refine ⟨⟨none, 0, by rw [ET.out, ER.out]; rfl, by rw [ER.out]; exact Rd.zero _ _ _ _, by rw [ER.out]; simp, by omega⟩, rfl⟩

/-! ### Texts -/
theorem taketext_any (A : Option Addr) (n c B : Nat) (l : List UInt8) (most : Int) (w : World) (h : Rd w B 1 A n (U l)) (hc : n ≤ c) (hm : c ≤ 9223372036854775807) :
    Calls Try.prog 26 #[.slice A n c, .int .i64 most] w fun e w' => (∃ A' c', e = .returned (.tuple #[.string (strB (Q.taketext l most).2.1), .slice A' (Q.taketext l most).2.2.length c', .int .i64 (Q.taketext l most).1]) ∧
      Rd w B 1 A' (Q.taketext l most).2.2.length (U (Q.taketext l most).2.2) ∧ (Q.taketext l most).2.2.length ≤ c' ∧ c' ≤ 9223372036854775807) ∧ ∃ q, w' = w.drewN q := by
  have hT := take_any A n c B l w h hc hm
  have e0 : Q.taketext l most = if (Q.take l).1 ≠ 0 then ((Q.take l).1, [], []) else if most < (Q.take l).2.1 then (4, [], []) else if (Q.rest l).length < (Q.take l).2.1 then (2, [], [])
    else (0, (Q.rest l).take (Q.take l).2.1, (Q.rest l).drop (Q.take l).2.1) := rfl
  generalize Q.taketext l most = R at *
  generalize Q.rest l = r at *
  generalize Q.take l = T at hT e0
  obtain ⟨er, N, k⟩ := T
  dsimp only at hT e0
  have HT := Lib.hid hT
  clear hT h
  by_cases he : er = 0
  · subst he
    rw [if_neg (by simp)] at e0
    by_cases h1 : most < (N : Int)
    · rw [if_pos h1] at e0
      have E1 := Lib.hid e0
      clear e0
      go_enter Try.func26, Try.ntmps26
      go_wp2_with (go_at_call 27; refine HT.out.mono ?_; rintro e w' ⟨⟨A', c', rfl, hr', hc', hm'⟩, rfl⟩)
      go_ret3
      exact ⟨⟨none, 0, by rw [E1.out]; rfl, by rw [E1.out]; exact Rd.zero _ _ _ _, by rw [E1.out]; simp, by omega⟩, 0, rfl⟩
    · rw [if_neg h1] at e0
      by_cases h2 : r.length < N
      · rw [if_pos h2] at e0
        have E1 := Lib.hid e0
        clear e0
        go_enter Try.func26, Try.ntmps26
        go_wp2_with (go_at_call 27; refine HT.out.mono ?_; rintro e w' ⟨⟨A', c', rfl, hr', hc', hm'⟩, rfl⟩)
        go_ret3
        exact ⟨⟨none, 0, by rw [E1.out]; rfl, by rw [E1.out]; exact Rd.zero _ _ _ _, by rw [E1.out]; simp, by omega⟩, 0, rfl⟩
      · rw [if_neg h2] at e0
        have E1 := Lib.hid e0
        clear e0
        go_enter Try.func26, Try.ntmps26
        go_wp2_with (go_at_call 27; refine HT.out.mono ?_; rintro e w' ⟨⟨A', c', rfl, hr', hc', hm'⟩, rfl⟩)
        have hcut := fun q => run_cut_h u8T (w.drewN q) A' r.length c' N N rfl (by omega)
        have hstr := fun q => run_str (P := Try.prog) (c := c') 44 9 5 Try.underlying44 Try.underlying5 Try.underlying9 (U_take r N ▸ (hr'.drewN q).take1 (k := N) (by omega))
        go_quiet ((go_at_call 39; exact Calls.quiet_of_same (behind_any _ _ _ _ _ (by omega) (by omega))))
        go_wp2
        go_ret3
        have el : R.2.2.length = r.length - N := by rw [E1.out, List.length_drop]
        refine ⟨⟨cutA A' r.length N 1, r.length - N, ?_, ?_, by omega, by omega⟩, nq, rfl⟩
        · rw [el, E1.out]; rfl
        · rw [el, E1.out, ← U_drop]; exact hr'.cut1 (by omega) (Nat.le_refl _)
  · have h1 : ((er : Int) != 0) = true := by rw [bne_iff_ne]; omega
    rw [if_pos he] at e0
    have E1 := Lib.hid e0
    clear e0 he
    go_enter Try.func26, Try.ntmps26
    go_wp2_with (go_at_call 27; refine HT.out.mono ?_; rintro e w' ⟨⟨A', c', rfl, hr', hc', hm'⟩, rfl⟩)
    go_ret3
    exact ⟨⟨none, 0, by rw [E1.out]; rfl, by rw [E1.out]; exact Rd.zero _ _ _ _, by rw [E1.out]; simp, by omega⟩, 0, rfl⟩

/-! ### The reference's -/
theorem uval {acc x u m : Nat} (e : m = acc + x % 128 * u) (hm : m < 9223372036854775808) : IntKind.u64.wrap ((acc : Int) + IntKind.u64.wrap ((x : Int) % 128 * (u : Int))) = (m : Int) := by
  have e1 : ((x : Int) % 128 * (u : Int)) = ((x % 128 * u : Nat) : Int) := by simp
  rw [e1, IntKind.wrap_u64, IntKind.wrap_u64, e]
  omega
theorem rval {k acc x : Nat} (hk : k ≤ 8) (ha : acc < 128 ^ k) : acc + x % 128 * 128 ^ k < 9223372036854775808 := by
  have h := Q.takeAt_next (x := x) ha
  have : 128 ^ (k + 1) ≤ 128 ^ 9 := Nat.pow_le_pow_right (by omega) (by omega)
  simp only [Nat.reducePow] at this
  omega

set_option maxRecDepth 20000 in
set_option maxHeartbeats 1000000 in
theorem rtake_any (A : Option Addr) (n c B : Nat) (l : List UInt8) (w : World) (h : Rd w B 1 A n (U l)) (hc : n ≤ c) (hm : c ≤ 9223372036854775807) :
    Calls Try.prog 29 #[.slice A n c] w fun e w' => (∃ A' c', e = .returned (.tuple #[.int .i64 (Q.take l).2.1, .slice A' (Q.rest l).length c', .int .i64 (Q.take l).1]) ∧
      Rd w B 1 A' (Q.rest l).length (U (Q.rest l)) ∧ (Q.rest l).length ≤ c' ∧ c' ≤ 9223372036854775807) ∧ ∃ q, w' = w.drewN q := by
  have hln := h.len1
  rw [U_length] at hln
  have HLN := Lib.hid hln
  clear hln
  go_enter Try.func29, Try.ntmps29
  go_wp2
  go_loop [5, 6, 7] (fun s u i => ∃ (k acc : Nat), Q.TakeAt l k acc ∧ k ≤ 9 ∧ k ≤ n ∧ s = .int .u64 acc ∧ u = .int .u64 (128 ^ k : Nat) ∧ i = .int .i64 k) (fun _ _ i => 9 - (intOf i).toNat)
  case atStart => exact ⟨0, 0, Q.takeAt_start l, by omega, by omega, rfl, rfl, rfl⟩
  case round =>
    obtain ⟨k, acc, hta, hk, hkn0, rfl, rfl, rfl⟩ := hrel
    have hacc := Q.takeAt_acc hta
    have HT := Lib.hid hta
    clear hta
    by_cases hk9 : k < 9
    · have hu2 := Q.takeAt_unit (k := k) (by omega)
      obtain ⟨u, eu⟩ : ∃ u, u = 128 ^ k := ⟨_, rfl⟩
      rw [← eu] at hu2 ⊢
      have EU := Lib.hid eu
      clear eu
      by_cases hkn : k < n
      · obtain ⟨b, o, x, rfl, hb, hx, hcell⟩ := h.atU hkn
        have HX := Lib.hid hx
        have hx8 : x.toNat < 256 := UInt8.toNat_lt x
        clear hx
        obtain ⟨m, em⟩ : ∃ m, m = acc + x.toNat % 128 * u := ⟨_, rfl⟩
        have hm63 : m < 9223372036854775808 := by rw [em, EU.out]; exact rval (by omega) HT.out.2.1
        have hp : x.toNat % 128 * u ≤ 9223372036854775807 := by omega
        have hval := uval em hm63
        have EM := Lib.hid em
        clear em hp
        by_cases hx7 : 128 ≤ x.toNat
        · go_wp2
          go_round
          case rel =>
            refine ⟨k + 1, m, ?_, by omega, by omega, rfl, ?_, by go_num⟩
            · rw [EM.out, EU.out]; exact Q.takeAt_more HT.out hk9 HX.out hx7
            · rw [Nat.pow_succ, EU.out]; simp
          case measure => simp [intOf]; omega
        · have eT := Q.takeAt_end HT.out hk9 HX.out (by omega)
          rw [← EU.out, ← EM.out] at eT
          by_cases hsz : Q.size (m : Int) = k + 1
          · rw [if_pos hsz] at eT
            have eR : Q.rest l = l.drop (k + 1) := by simp [Q.rest, eT]
            have hb1 : ((Q.size (m : Int) : Int) != (k : Int) + 1) = false := by rw [hsz]; simp
            have hm62 : m ≤ 4611686018427387904 := by
              have : Q.may (m : Int) := by
                by_cases h : Q.may (m : Int)
                · exact h
                · simp [Q.size, h] at hsz
              have := this.2; omega
            have ET := Lib.hid eT
            have ER := Lib.hid eR
            clear eT eR hsz
            have hlr : (Q.rest l).length = n - (k + 1) := by rw [ER.out, List.length_drop, HLN.out]
            have HLR := Lib.hid hlr
            clear hlr
            have hR := h
            clear h
            go_wp2_with (go_at_call 40; refine (rsize_any _ _).mono ?_; rintro e w' ⟨rfl, rfl⟩)
            go_quiet (fail)
            go_wp2
            all_goals
              go_ret3
              first
                | exact ⟨⟨some ⟨b, o + (k + 1), none⟩, c - (k + 1), by rw [ET.out, HLR.out]; rfl, by rw [HLR.out, ER.out, ← U_drop]; exact hR.drop1, by have := HLR.out; omega, by omega⟩, nq, rfl⟩
                | exact ⟨⟨some ⟨b, o, none⟩, 0, by rw [ET.out, HLR.out]; rfl, Rd.of_zero _ _ _ _ (by have := HLR.out; omega) (by rw [ER.out, List.drop_of_length_le (by rw [HLN.out]; omega)]; rfl), by have := HLR.out; omega, by omega⟩, nq, rfl⟩
          · rw [if_neg hsz] at eT
            have eR : Q.rest l = [] := by simp [Q.rest, eT]
            have ET := Lib.hid eT
            have ER := Lib.hid eR
            have hb1 : ((Q.size (m : Int) : Int) != (k : Int) + 1) = true := by rw [bne_iff_ne]; omega
            clear eT eR hsz
            by_cases hbig : m ≤ 4611686018427387904
            all_goals
              go_wp2_with (go_at_call 40; refine (rsize_any _ _).mono ?_; rintro e w' ⟨rfl, rfl⟩)
              go_ret3
              exact ⟨⟨none, 0, by rw [ET.out, ER.out]; rfl, by rw [ER.out]; exact Rd.zero _ _ _ _, by rw [ER.out]; simp, by omega⟩, 0, rfl⟩
      · have eT := Q.takeAt_short HT.out hk9 (by rw [HLN.out]; omega)
        have eR : Q.rest l = [] := by simp [Q.rest, eT]
        have ET := Lib.hid eT
        have ER := Lib.hid eR
        have hb1 : ((k : Int) == (n : Int)) = true := beq_iff_eq.2 (by omega)
        clear eT eR
        go_wp2
        go_ret3
        exact ⟨⟨none, 0, by rw [ET.out, ER.out]; rfl, by rw [ER.out]; exact Rd.zero _ _ _ _, by rw [ER.out]; simp, by omega⟩, 0, rfl⟩
    · obtain rfl : k = 9 := by omega
      have eT := Q.takeAt_long HT.out
      have eR : Q.rest l = [] := by simp [Q.rest, eT]
      have ET := Lib.hid eT
      have ER := Lib.hid eR
      clear eT eR
      go_wp2
      go_ret3
      exact ⟨⟨none, 0, by rw [ET.out, ER.out]; rfl, by rw [ER.out]; exact Rd.zero _ _ _ _, by rw [ER.out]; simp, by omega⟩, 0, rfl⟩

theorem rtaketext_any (A : Option Addr) (n c B : Nat) (l : List UInt8) (most : Int) (w : World) (h : Rd w B 1 A n (U l)) (hc : n ≤ c) (hm : c ≤ 9223372036854775807) :
    Calls Try.prog 28 #[.slice A n c, .int .i64 most] w fun e w' => (∃ A' c', e = .returned (.tuple #[.string (strB (Q.taketext l most).2.1), .slice A' (Q.taketext l most).2.2.length c', .int .i64 (Q.taketext l most).1]) ∧
      Rd w B 1 A' (Q.taketext l most).2.2.length (U (Q.taketext l most).2.2) ∧ (Q.taketext l most).2.2.length ≤ c' ∧ c' ≤ 9223372036854775807) ∧ ∃ q, w' = w.drewN q := by
  have hT := rtake_any A n c B l w h hc hm
  have e0 : Q.taketext l most = if (Q.take l).1 ≠ 0 then ((Q.take l).1, [], []) else if most < (Q.take l).2.1 then (4, [], []) else if (Q.rest l).length < (Q.take l).2.1 then (2, [], [])
    else (0, (Q.rest l).take (Q.take l).2.1, (Q.rest l).drop (Q.take l).2.1) := rfl
  generalize Q.taketext l most = R at *
  generalize Q.rest l = r at *
  generalize Q.take l = T at hT e0
  obtain ⟨er, N, k⟩ := T
  dsimp only at hT e0
  have HT := Lib.hid hT
  clear hT h
  by_cases he : er = 0
  · subst he
    rw [if_neg (by simp)] at e0
    by_cases h1 : most < (N : Int)
    · rw [if_pos h1] at e0
      have E1 := Lib.hid e0
      clear e0
      go_enter Try.func28, Try.ntmps28
      go_wp2_with (go_at_call 29; refine HT.out.mono ?_; rintro e w' ⟨⟨A', c', rfl, hr', hc', hm'⟩, q, rfl⟩)
      go_ret3
      exact ⟨⟨none, 0, by rw [E1.out]; rfl, by rw [E1.out]; exact Rd.zero _ _ _ _, by rw [E1.out]; simp, by omega⟩, q, rfl⟩
    · rw [if_neg h1] at e0
      by_cases h2 : r.length < N
      · rw [if_pos h2] at e0
        have E1 := Lib.hid e0
        clear e0
        go_enter Try.func28, Try.ntmps28
        go_wp2_with (go_at_call 29; refine HT.out.mono ?_; rintro e w' ⟨⟨A', c', rfl, hr', hc', hm'⟩, q, rfl⟩)
        go_ret3
        exact ⟨⟨none, 0, by rw [E1.out]; rfl, by rw [E1.out]; exact Rd.zero _ _ _ _, by rw [E1.out]; simp, by omega⟩, q, rfl⟩
      · rw [if_neg h2] at e0
        have E1 := Lib.hid e0
        clear e0
        go_enter Try.func28, Try.ntmps28
        go_wp2_with (go_at_call 29; refine HT.out.mono ?_; rintro e w' ⟨⟨A', c', rfl, hr', hc', hm'⟩, q, rfl⟩)
        have hstr := fun q => run_str (P := Try.prog) (c := c') 44 9 5 Try.underlying44 Try.underlying5 Try.underlying9 (U_take r N ▸ (hr'.drewN q).take1 (k := N) (by omega))
        have el : R.2.2.length = r.length - N := by rw [E1.out, List.length_drop]
        have EL := Lib.hid el
        clear el
        go_quiet (fail)
        go_wp2
        all_goals
          go_ret3
          refine ⟨⟨cutA A' c' N 1, c' - N, ?_, by rw [EL.out, E1.out, ← U_drop]; exact hr'.cut1 (by omega) hc', by rw [EL.out]; omega, by omega⟩, q + nq, ?_⟩
          · rw [EL.out, E1.out]
            simp [cutA, strB, *]
          · simp
  · have h1 : ((er : Int) != 0) = true := by rw [bne_iff_ne]; omega
    rw [if_pos he] at e0
    have E1 := Lib.hid e0
    clear e0 he
    go_enter Try.func28, Try.ntmps28
    go_wp2_with (go_at_call 29; refine HT.out.mono ?_; rintro e w' ⟨⟨A', c', rfl, hr', hc', hm'⟩, q, rfl⟩)
    go_ret3
    exact ⟨⟨none, 0, by rw [E1.out]; rfl, by rw [E1.out]; exact Rd.zero _ _ _ _, by rw [E1.out]; simp, by omega⟩, q, rfl⟩
end Go.Proofs.Ytfgpncbcelafoaa
