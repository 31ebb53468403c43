/- The document's means, and fractions held against each other. -/
import Derived.Test.YtlnhdakafidhiaaRRef3
import Derived.Test.YtlnhdakafidhiaaRCode3
namespace Go.Proofs.Ytlnhdakafidhiaa
set_option linter.unusedVariables false
set_option linter.unusedSimpArgs false
open Go.RowKit

set_option maxHeartbeats 1000000 in
set_option maxRecDepth 20000 in
theorem rcmp_any (a b c d : Int) (ha : -9223372036854775808 ≤ a ∧ a ≤ 9223372036854775807) (hb : -9223372036854775808 ≤ b ∧ b ≤ 9223372036854775807) (hc : -9223372036854775808 ≤ c ∧ c ≤ 9223372036854775807) (hd : -9223372036854775808 ≤ d ∧ d ≤ 9223372036854775807) (w : World) :
    Calls Try.prog 20 #[.int .i64 a, .int .i64 b, .int .i64 c, .int .i64 d] w (IntBR (R.cmp a b c d) w) := by
  by_cases h1 : a < 0
  · rw [cmp_args (Or.inl h1)]
    go_enter Try.func20, Try.ntmps20
    go_wp2
    go_ret
    exact ⟨rfl, Below.refl _ _⟩
  by_cases h3 : c < 0
  · rw [cmp_args (Or.inr (Or.inl h3))]
    go_enter Try.func20, Try.ntmps20
    go_wp2
    go_ret
    exact ⟨rfl, Below.refl _ _⟩
  by_cases h2 : b < 1
  · rw [cmp_args (Or.inr (Or.inr (Or.inl h2)))]
    go_enter Try.func20, Try.ntmps20
    go_wp2
    go_ret
    exact ⟨rfl, Below.refl _ _⟩
  by_cases h4 : d < 1
  · rw [cmp_args (Or.inr (Or.inr (Or.inr h4)))]
    go_enter Try.func20, Try.ntmps20
    go_wp2
    go_ret
    exact ⟨rfl, Below.refl _ _⟩
  obtain ⟨x, rfl⟩ := Int.eq_ofNat_of_zero_le (show 0 ≤ a by omega)
  obtain ⟨y, rfl⟩ := Int.eq_ofNat_of_zero_le (show 0 ≤ b by omega)
  obtain ⟨z, rfl⟩ := Int.eq_ofNat_of_zero_le (show 0 ≤ c by omega)
  obtain ⟨t, rfl⟩ := Int.eq_ofNat_of_zero_le (show 0 ≤ d by omega)
  have hy1 : ¬ (y : Int) < 1 := by omega
  have ht1 : ¬ (t : Int) < 1 := by omega
  have hxb : x < 9223372036854775808 := by omega
  have hyb : y < 9223372036854775808 := by omega
  have hzb : z < 9223372036854775808 := by omega
  have htb : t < 9223372036854775808 := by omega
  rw [cmp_nat x y z t (by omega) (by omega)]
  obtain ⟨P, eP⟩ : ∃ P, x * t = P := ⟨_, rfl⟩
  obtain ⟨Q, eQ⟩ : ∃ Q, z * y = Q := ⟨_, rfl⟩
  rw [eP, eQ]
  have HP := Lib.hid eP
  have HQ := Lib.hid eQ
  clear eP eQ h1 h2 h3 h4 ha hb hc hd
  go_enter Try.func20, Try.ntmps20
  go_wp2_with fail
  refine (rmul_any x t hxb htb _).mono ?_
  rw [HP.out]
  rintro e w2 ⟨⟨h, l, rfl, e1, hl, hh⟩, hb2⟩
  have E1 := Lib.hid e1
  clear e1
  go_wp2_with fail
  refine (rmul_any z y hzb hyb _).mono ?_
  rw [HQ.out]
  rintro e w3 ⟨⟨h', l', rfl, e2, hl', hh'⟩, hb3⟩
  have E2 := Lib.hid e2
  clear e2
  replace hb3 := hb2.trans (hb3.mono hb2.size)
  clear hb2
  have X := (Box.new w3 #[.int .u64 h, .int .u64 l] 54).alloc (.cells #[.int .u64 h', .int .u64 l'] 54)
  have Y := Box.new (w3.alloc (.cells #[.int .u64 h, .int .u64 l] 54)) #[.int .u64 h', .int .u64 l'] 54
  rw [show (w3.alloc (.cells #[.int .u64 h, .int .u64 l] 54)).heap.size = w3.heap.size + 1 by simp] at Y
  have hb4 := (hb3.alloc hb3.size (.cells #[.int .u64 h, .int .u64 l] 54)).alloc (by have := hb3.size; simp; omega) (.cells #[.int .u64 h', .int .u64 l'] 54)
  clear hb3
  go_wp2_with fail
  generalize (w3.alloc (.cells #[.int .u64 h, .int .u64 l] 54)).alloc (.cells #[.int .u64 h', .int .u64 l'] 54) = w4 at *
  refine (rbelow_any h l h' l' hl hl' _).mono ?_
  rw [E1.out, E2.out]
  rintro e w5 ⟨rfl, hb5⟩
  replace X := X.belowH hb5
  replace Y := Y.belowH hb5
  replace hb4 := hb4.trans (hb5.mono hb4.size)
  clear hb5
  have y0 := X.at 0 rfl
  have y1 := X.at 1 rfl
  have z0 := Y.at 0 rfl
  have z1 := Y.at 1 rfl
  by_cases c1 : P < Q
  · rw [decide_eq_true c1]
    go_wp2
    go_ret
    exact ⟨ret_int (by unfold side; rw [if_pos c1]), hb4⟩
  · rw [decide_eq_false c1]
    go_wp2_with fail
    refine (rbelow_any h' l' h l hl' hl _).mono ?_
    rw [E1.out, E2.out]
    rintro e w6 ⟨rfl, hb6⟩
    replace hb4 := hb4.trans (hb6.mono hb4.size)
    clear hb6 y0 y1 z0 z1 X Y
    by_cases c2 : Q < P
    · rw [decide_eq_true c2]
      go_wp2
      go_ret
      exact ⟨ret_int (by unfold side; rw [if_neg c1, if_pos c2]), hb4⟩
    · rw [decide_eq_false c2]
      go_wp2
      go_ret
      exact ⟨ret_int (by unfold side; rw [if_neg c1, if_neg c2]), hb4⟩

theorem radd0 (H L p : Nat) (hx : L < 18446744073709551616) (hy : p < 18446744073709551616) (hxh : H < 18446744073709551616) (hs : H * 18446744073709551616 + L + (0 * 18446744073709551616 + p) < 340282366920938463463374607431768211456) (w : World) :
    Calls Try.prog 39 #[.agg #[.int .u64 H, .int .u64 L], .agg #[.int .u64 0, .int .u64 p]] w (WideR (H * 18446744073709551616 + L + (0 * 18446744073709551616 + p)) w) :=
  radd_any H L 0 p hx hy hxh (by omega) hs w
set_option maxHeartbeats 2000000 in
set_option maxRecDepth 20000 in
theorem rmean_any (A : Option Addr) (n c : Nat) (l : List Int) (w : World) (h : Rd w w.heap.size 1 A n (I l)) (hn : n ≤ 140737488355328) :
    Calls Try.prog 31 #[.slice A n c] w (IntBR (R.mean l) w) := by
  have hl : l.length = n := by have := h.len1; rwa [I_length] at this
  have HL := Lib.hid hl
  have HR := Lib.hid h
  clear hl
  go_enter Try.func31, Try.ntmps31
  go_wp2
  go_loopw [4] (fun i wr => ∃ k H L s : Nat, k ≤ n ∧ i = .int .i64 k ∧ H * 18446744073709551616 + L = s ∧ L < 18446744073709551616 ∧ H < 18446744073709551616 ∧ R.sum (l.take k) = s ∧ Box wr w.heap.size 54 #[.int .u64 H, .int .u64 L] ∧ Below w.heap.size w wr) (fun i _ => n - (intOf i).toNat)
  case atStart => exact ⟨0, 0, 0, 0, by omega, rfl, rfl, by omega, by omega, by simp [R.sum], Box.new _ _ _, (Below.refl _ _).alloc (Nat.le_refl _) _⟩
  case round =>
    obtain ⟨k, H, L, s, hk, rfl, hs, hL, hH, hsum, X, hb1⟩ := hrel
    have y0 := X.at 0 rfl
    have y1 := X.at 1 rfl
    by_cases hlt : k < n
    · obtain ⟨b, o, x, rfl, hb, hx, hcell⟩ := (HR.out.belowH hb1).atI hlt
      obtain ⟨p, hp⟩ := Int.eq_ofNat_of_zero_le (R.pin_bounds x).1
      have hpb := (R.pin_bounds x).2
      have hc : min (max x 0) 1125899906842624 = (p : Int) := hp
      have hsum2 : R.sum (l.take (k + 1)) = ((s + p : Nat) : Int) := by rw [take_more hx, R.sum_snoc, hsum, hp]; push_cast; rfl
      have hbd := (R.sum_bounds (l.take (k + 1))).2
      have hlen : (l.take (k + 1)).length ≤ n := by rw [List.length_take]; omega
      have hsp : s + p ≤ n * 1125899906842624 := by
        rw [hsum2] at hbd
        have : (l.take (k + 1)).length * 1125899906842624 ≤ n * 1125899906842624 := Nat.mul_le_mul_right _ hlen
        omega
      have hk0 : (0 : Int) ≤ (k : Int) := by omega
      have e3 : IntKind.u64.wrap (p : Int) = (p : Int) := wrapN _ (by omega)
      have hp2 : p < 18446744073709551616 := by omega
      have hov : H * 18446744073709551616 + L + (0 * 18446744073709551616 + p) < 340282366920938463463374607431768211456 := by rw [hs]; omega
      have HOV := Lib.hid hov
      have hsx : H * 18446744073709551616 + L + (0 * 18446744073709551616 + p) = s + p := by rw [hs]; omega
      have HSX := Lib.hid hsx
      have HS2 := Lib.hid hsum2
      have hXlt := X.lt
      have yc := X.cold
      clear hp hpb hsum hs hsum2 hx hbd hlen hsp hov hsx
      go_wp2_with fail
      go_region_with ((go_at_call 39; refine (radd0 H L p hL hp2 hH HOV.out _).mono ?_; rw [HSX.out]; rintro e w6 ⟨⟨H', L', rfl, e1, hL', hH'⟩, hb6⟩; have E1 := Lib.hid e1; clear e1; have X6 := X.drew.belowH hb6; have hb7 := hb1.drew.trans (hb6.mono hb1.drew.size); have y06 := X6.at 0 rfl; have y16 := X6.at 1 rfl; have yc6 := X6.cold))
      all_goals
        clear hb6
        go_wp2
        go_roundw
        case rel => exact ⟨k + 1, H', L', _, by omega, by go_num, E1.out, hL', hH', HS2.out, (X6.set 0 (.int .u64 H')).set 1 (.int .u64 L'), below_set (below_set hb7 (Nat.le_refl _) _) (Nat.le_refl _) _⟩
        case measure => simp [intOf]; omega
    · have e : k = n := by omega
      subst e
      have hsum3 : R.sum l = s := by rw [← hsum, List.take_of_length_le (by have := HL.out; omega)]
      by_cases hk0 : k = 0
      · subst hk0
        have HL2 := Lib.hid HL.out
        clear hsum hs hsum3
        go_wp2
        go_ret
        exact ⟨ret_int (by rw [mean_zero HL2.out]), hb1⟩
      · have hne : ((k : Int) == 0) = false := beq_eq_false_iff_ne.2 (by omega)
        obtain ⟨Q, eQ⟩ : ∃ Q, Q = s / k := ⟨_, rfl⟩
        have hmean := mean_nat HL.out hk0 hsum3 eQ
        have hQb : Q ≤ 1125899906842624 := by rw [eQ]; exact Nat.div_le_of_le_mul (mean_le HL.out hk0 hsum3)
        have HM := Lib.hid hmean
        have HQ := Lib.hid eQ
        have HSS := Lib.hid hs
        clear hsum hs hsum3 hmean eQ
        go_wp2
        go_loopw [5, 6] (fun u v wr => ∃ j m : Nat, j ≤ 51 ∧ u = .int .i64 m ∧ v = .int .i64 ((j : Int) - 1) ∧ m = Q / 2 ^ j * 2 ^ j ∧ Box wr w.heap.size 54 #[.int .u64 H, .int .u64 L] ∧ Below w.heap.size w wr) (fun _ v _ => (intOf v + 1).toNat)
        case atStart => exact ⟨51, 0, by omega, rfl, rfl, R.bit_start (by omega), X, hb1⟩
        case round =>
          obtain ⟨j, m, hj, rfl, rfl, hm, X, hb3⟩ := hrel
          have hmQ : m ≤ Q := by rw [hm]; exact Nat.div_mul_le_self _ _
          rcases j with _ | j
          · have en : m = Q := by rw [hm]; exact R.bit_end Q
            have EN := Lib.hid en
            have e : ((0 : Nat) : Int) - 1 = -1 := rfl
            rw [e]
            clear hm en e
            go_wp2
            go_ret
            exact ⟨ret_int (by rw [EN.out, HM.out]), hb3⟩
          · have e : ((j + 1 : Nat) : Int) - 1 = (j : Int) := by omega
            rw [e]
            have hp2 : 2 ^ j ≤ 1125899906842624 := Nat.le_trans (Nat.pow_le_pow_right (by omega) (show j ≤ 50 by omega)) (by decide)
            obtain ⟨t, et⟩ : ∃ t, 2 ^ j = t := ⟨_, rfl⟩
            obtain ⟨g, em⟩ : ∃ g, m + t = g := ⟨_, rfl⟩
            obtain ⟨ti, eti⟩ : ∃ ti : Int, (t : Int) = ti := ⟨_, rfl⟩
            obtain ⟨gi, emi⟩ : ∃ gi : Int, (g : Int) = gi := ⟨_, rfl⟩
            have hst : (if g ≤ Q then g else m) = Q / 2 ^ j * 2 ^ j := by rw [← em, ← et]; exact R.bit_step hm
            have HST := Lib.hid hst
            clear hst
            rw [et] at hp2
            have hgb : g < 9223372036854775808 := by omega
            have g1 : wrap64 ((2 : Int) ^ j) = ti := by rw [two_pow_cast, et]; exact wrap64_nat eti (by omega)
            have g2 : wrap64 ((m : Int) + ti) = gi := wrap64_sum em eti emi (by omega)
            have hkb : k < 9223372036854775808 := by omega
            have EMI := Lib.hid emi
            have y0 := X.at 0 rfl
            have y1 := X.at 1 rfl
            have hQm : s < k * g ↔ ¬ g ≤ Q := by
              have e1 := R.le_quot (p := s) (c := k) (m := g) (by omega)
              rw [← HQ.out] at e1
              omega
            by_cases hgQ : g ≤ Q
            · have HDm : Hid (decide (s < k * g) = false) := Lib.hid (decide_eq_false (by omega))
              clear hm e et em eti emi hQm hp2
              go_wp2_with fail
              refine wp_region_held_drew (S := (fun w' => w'.cell? ⟨w.heap.size, 0, none⟩ = some (.int .u64 H) ∧ w'.cell? ⟨w.heap.size, 1, none⟩ = some (.int .u64 L))) (by kernel_rfl) (by exact ⟨y0, y1⟩) (fun hHeld0 => ?_)
              refine tk 0 37 rfl hHeld0 ?_
              refine tk 1 38 rfl hHeld0 ?_
              refine tk 2 39 rfl hHeld0 ?_
              refine tk 3 40 rfl hHeld0 ?_
              refine wpAnyH_ready (rs := [4]) (by kernel_rfl) (by simp) (AllReadyH.cons (o := ⟨some 41, _, _, _, _, _⟩) rfl (fun K hK => ?_) AllReadyH.nil)
              go_simp
              (refine (rmul_int k g rfl EMI.out hkb hgb _).mono ?_; rintro e w6 ⟨⟨h3, l3, rfl, e3, hl3, hh3⟩, hb6⟩; have E3 := Lib.hid e3; clear e3; replace X := X.drew.belowH hb6; replace hb3 := hb3.drew.trans (hb6.mono hb3.drew.size); clear hb6; replace y0 := X.at 0 rfl; replace y1 := X.at 1 rfl)
              go_simp
              refine hK.out _ _ (by exact ⟨y0, y1⟩) (fun hHeld1 => ?_)
              clear hK hHeld0 K
              try simp only [Act.put, sA, sB, sC]
              refine wpAnyH_ready (rs := [5]) (by kernel_rfl) (by simp) (AllReadyH.cons (o := ⟨some 42, _, _, _, _, _⟩) rfl (fun K hK => ?_) AllReadyH.nil)
              go_simp
              (refine (rbelow_any H L h3 l3 hL hl3 _).mono ?_; rw [HSS.out, E3.out, HDm.out]; rintro e w7 ⟨rfl, hb7⟩; replace X := X.belowH hb7; replace hb3 := hb3.trans (hb7.mono hb3.size); clear hb7; replace y0 := X.at 0 rfl; replace y1 := X.at 1 rfl)
              go_simp
              refine hK.out _ _ (by exact ⟨y0, y1⟩) (fun hHeld2 => ?_)
              clear hK hHeld1 K
              try simp only [Act.put, sA, sB, sC]
              refine tk 6 43 rfl hHeld2 ?_
              refine wpAnyH_done (by kernel_rfl) ?_ _
              clear hHeld2
              go_wp2
              go_roundw
              case rel => exact ⟨j, g, by omega, by rw [EMI.out], by go_num, by rw [← HST.out, if_pos hgQ], X, hb3⟩
              case measure => simp [intOf]
            · have HDm : Hid (decide (s < k * g) = true) := Lib.hid (decide_eq_true (by omega))
              clear hm e et em eti emi hQm hp2
              go_wp2_with fail
              refine wp_region_held_drew (S := (fun w' => w'.cell? ⟨w.heap.size, 0, none⟩ = some (.int .u64 H) ∧ w'.cell? ⟨w.heap.size, 1, none⟩ = some (.int .u64 L))) (by kernel_rfl) (by exact ⟨y0, y1⟩) (fun hHeld0 => ?_)
              refine tk 0 37 rfl hHeld0 ?_
              refine tk 1 38 rfl hHeld0 ?_
              refine tk 2 39 rfl hHeld0 ?_
              refine tk 3 40 rfl hHeld0 ?_
              refine wpAnyH_ready (rs := [4]) (by kernel_rfl) (by simp) (AllReadyH.cons (o := ⟨some 41, _, _, _, _, _⟩) rfl (fun K hK => ?_) AllReadyH.nil)
              go_simp
              (refine (rmul_int k g rfl EMI.out hkb hgb _).mono ?_; rintro e w6 ⟨⟨h3, l3, rfl, e3, hl3, hh3⟩, hb6⟩; have E3 := Lib.hid e3; clear e3; replace X := X.drew.belowH hb6; replace hb3 := hb3.drew.trans (hb6.mono hb3.drew.size); clear hb6; replace y0 := X.at 0 rfl; replace y1 := X.at 1 rfl)
              go_simp
              refine hK.out _ _ (by exact ⟨y0, y1⟩) (fun hHeld1 => ?_)
              clear hK hHeld0 K
              try simp only [Act.put, sA, sB, sC]
              refine wpAnyH_ready (rs := [5]) (by kernel_rfl) (by simp) (AllReadyH.cons (o := ⟨some 42, _, _, _, _, _⟩) rfl (fun K hK => ?_) AllReadyH.nil)
              go_simp
              (refine (rbelow_any H L h3 l3 hL hl3 _).mono ?_; rw [HSS.out, E3.out, HDm.out]; rintro e w7 ⟨rfl, hb7⟩; replace X := X.belowH hb7; replace hb3 := hb3.trans (hb7.mono hb3.size); clear hb7; replace y0 := X.at 0 rfl; replace y1 := X.at 1 rfl)
              go_simp
              refine hK.out _ _ (by exact ⟨y0, y1⟩) (fun hHeld2 => ?_)
              clear hK hHeld1 K
              try simp only [Act.put, sA, sB, sC]
              refine tk 6 43 rfl hHeld2 ?_
              refine wpAnyH_done (by kernel_rfl) ?_ _
              clear hHeld2
              go_wp2
              go_roundw
              case rel => exact ⟨j, m, by omega, rfl, by go_num, by rw [← HST.out, if_neg hgQ], X, hb3⟩
              case measure => simp [intOf]
end Go.Proofs.Ytlnhdakafidhiaa
