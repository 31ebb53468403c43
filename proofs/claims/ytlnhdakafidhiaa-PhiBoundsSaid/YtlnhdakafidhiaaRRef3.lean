/- The document's product over a divisor, bit by bit. -/
import Derived.Test.YtlnhdakafidhiaaRRef2
import Derived.Test.YtlnhdakafidhiaaRCode2
namespace Go.Proofs.Ytlnhdakafidhiaa
set_option linter.unusedVariables false
set_option linter.unusedSimpArgs false
open Go.RowKit

theorem rmul_int {A' B' : Int} (a b : Nat) (ea : (a : Int) = A') (eb : (b : Int) = B') (ha : a < 9223372036854775808) (hb : b < 9223372036854775808) (w : World) :
    Calls Try.prog 29 #[.int .i64 A', .int .i64 B'] w (WideR (a * b) w) := by
  subst ea eb
  exact rmul_any a b ha hb w
theorem wrap64_in {x : Int} (h0 : 0 ≤ x) (h1 : x < 9223372036854775808) : wrap64 x = x := by unfold wrap64; omega
theorem wrap64_nat {t : Nat} {ti : Int} (e : (t : Int) = ti) (h : t < 9223372036854775808) : wrap64 (t : Int) = ti := by rw [wrap64_in (by omega) (by omega), e]
theorem wrap64_sum {n t m : Nat} {ti mi : Int} (em : n + t = m) (et : (t : Int) = ti) (e : (m : Int) = mi) (h : n + t < 9223372036854775808) : wrap64 ((n : Int) + ti) = mi := by
  subst et e em
  rw [wrap64_in (by omega) (by omega)]
  push_cast; rfl
/-- a product over a divisor, as a result -/
def PairBR (x : Int × Int) (w : World) (e : Ending) (w' : World) : Prop := e = .returned (.tuple #[.int .i64 x.1, .int .i64 x.2]) ∧ Below w.heap.size w w'
theorem full_iff {P z : Nat} (hz : 0 < z) : ¬ P < z * 4611686018427387905 ↔ 4611686018427387904 < P / z := by
  rw [Nat.not_lt, R.le_quot hz]
  omega

set_option maxHeartbeats 1000000 in
set_option maxRecDepth 20000 in
theorem rmuldiv_any (a b c : Int) (ha : -9223372036854775808 ≤ a ∧ a ≤ 9223372036854775807) (hb : -9223372036854775808 ≤ b ∧ b ≤ 9223372036854775807) (hc : -9223372036854775808 ≤ c ∧ c ≤ 9223372036854775807) (w : World) :
    Calls Try.prog 27 #[.int .i64 a, .int .i64 b, .int .i64 c] w (PairBR (R.mulDiv a b c) w) := by
  by_cases h1 : a < 0
  · rw [mulDiv_args (Or.inl h1)]
    go_enter Try.func27, Try.ntmps27
    go_wp2
    go_ret2
    exact ⟨rfl, Below.refl _ _⟩
  by_cases h2 : b < 0
  · rw [mulDiv_args (Or.inr (Or.inl h2))]
    go_enter Try.func27, Try.ntmps27
    go_wp2
    go_ret2
    exact ⟨rfl, Below.refl _ _⟩
  by_cases h3 : c < 1
  · rw [mulDiv_args (Or.inr (Or.inr h3))]
    go_enter Try.func27, Try.ntmps27
    go_wp2
    go_ret2
    exact ⟨rfl, Below.refl _ _⟩
  obtain ⟨x, rfl⟩ := Int.eq_ofNat_of_zero_le (show 0 ≤ a by omega)
  obtain ⟨y, rfl⟩ := Int.eq_ofNat_of_zero_le (show 0 ≤ b by omega)
  obtain ⟨z, rfl⟩ := Int.eq_ofNat_of_zero_le (show 0 ≤ c by omega)
  have hz : 0 < z := by omega
  have hz1 : ¬ (z : Int) < 1 := by omega
  have hxb : x < 9223372036854775808 := by omega
  have hyb : y < 9223372036854775808 := by omega
  have hzb : z < 9223372036854775808 := by omega
  rw [mulDiv_nat x y z hz]
  obtain ⟨P, eP⟩ : ∃ P, x * y = P := ⟨_, rfl⟩
  obtain ⟨Q, eQ⟩ : ∃ Q, P / z = Q := ⟨_, rfl⟩
  have hf := full_iff (P := P) hz
  rw [eP, eQ]
  rw [eQ] at hf
  have HP := Lib.hid eP
  have HQ := Lib.hid eQ
  have HF := Lib.hid hf
  clear eP eQ h1 h2 h3 ha hb hc hf
  by_cases hfull : 4611686018427387904 < Q
  · rw [if_pos hfull]
    have HD : Hid (decide (P < z * 4611686018427387905) = false) := Lib.hid (decide_eq_false (HF.out.2 hfull))
    clear hfull
    go_enter Try.func27, Try.ntmps27
    go_wp2_with fail
    refine (rmul_any x y hxb hyb _).mono ?_
    rw [HP.out]
    rintro e w2 ⟨⟨h, l, rfl, e1, hl, hh⟩, hb2⟩
    have E1 := Lib.hid e1
    clear e1
    go_wp2
    have X := Box.new w2 #[.int .u64 h, .int .u64 l] 54
    have hb3 := hb2.alloc hb2.size (.cells #[.int .u64 h, .int .u64 l] 54)
    generalize hbx : w2.heap.size = bx at *
    generalize w2.alloc (.cells #[.int .u64 h, .int .u64 l] 54) = w3 at *
    have y0 := X.at 0 rfl
    have y1 := X.at 1 rfl
    clear hb2 hbx
    refine wp_region_held_drew (S := (fun w' => w'.cell? ⟨bx, 0, none⟩ = some (.int .u64 h) ∧ w'.cell? ⟨bx, 1, none⟩ = some (.int .u64 l))) (by kernel_rfl) (by exact ⟨y0, y1⟩) (fun hHeld0 => ?_)
    refine tk 0 25 rfl hHeld0 ?_
    refine tk 1 26 rfl hHeld0 ?_
    refine wpAnyH_ready (rs := [2]) (by kernel_rfl) (by simp) (AllReadyH.cons (o := ⟨some 27, _, _, _, _, _⟩) rfl (fun K hK => ?_) AllReadyH.nil)
    go_simp
    (refine (rmul_int z 4611686018427387905 rfl rfl hzb (by omega) _).mono ?_; rintro e w4 ⟨⟨h2, l2, rfl, e2, hl2, hh2⟩, hb4⟩; have E2 := Lib.hid e2; clear e2; replace X := X.drew.belowH hb4; replace hb3 := hb3.drew.trans (hb4.mono hb3.drew.size); clear hb4; replace y0 := X.at 0 rfl; replace y1 := X.at 1 rfl)
    go_simp
    refine hK.out _ _ (by exact ⟨y0, y1⟩) (fun hHeld1 => ?_)
    clear hK hHeld0 K
    try simp only [Act.put, sA, sB, sC]
    refine wpAnyH_ready (rs := [3]) (by kernel_rfl) (by simp) (AllReadyH.cons (o := ⟨some 28, _, _, _, _, _⟩) rfl (fun K hK => ?_) AllReadyH.nil)
    go_simp
    (refine (rbelow_any h l h2 l2 hl hl2 _).mono ?_; rw [E1.out, E2.out, HD.out]; rintro e w5 ⟨rfl, hb5⟩; replace X := X.belowH hb5; replace hb3 := hb3.trans (hb5.mono hb3.size); clear hb5; replace y0 := X.at 0 rfl; replace y1 := X.at 1 rfl)
    go_simp
    refine hK.out _ _ (by exact ⟨y0, y1⟩) (fun hHeld2 => ?_)
    clear hK hHeld1 K
    try simp only [Act.put, sA, sB, sC]
    refine tk 4 29 rfl hHeld2 ?_
    refine wpAnyH_done (by kernel_rfl) ?_ _
    go_wp2
    go_ret2
    exact ⟨rfl, hb3⟩
  · rw [if_neg hfull]
    have HD : Hid (decide (P < z * 4611686018427387905) = true) := Lib.hid (by
      apply decide_eq_true
      have := HF.out
      omega)
    have hQ62 : Q ≤ 4611686018427387904 := by omega
    clear hfull
    go_enter Try.func27, Try.ntmps27
    go_wp2_with fail
    refine (rmul_any x y hxb hyb _).mono ?_
    rw [HP.out]
    rintro e w2 ⟨⟨h, l, rfl, e1, hl, hh⟩, hb2⟩
    have E1 := Lib.hid e1
    clear e1
    go_wp2
    have X := Box.new w2 #[.int .u64 h, .int .u64 l] 54
    have hb3 := hb2.alloc hb2.size (.cells #[.int .u64 h, .int .u64 l] 54)
    generalize hbx : w2.heap.size = bx at *
    generalize w2.alloc (.cells #[.int .u64 h, .int .u64 l] 54) = w3 at *
    have y0 := X.at 0 rfl
    have y1 := X.at 1 rfl
    clear hb2 hbx
    refine wp_region_held_drew (S := (fun w' => w'.cell? ⟨bx, 0, none⟩ = some (.int .u64 h) ∧ w'.cell? ⟨bx, 1, none⟩ = some (.int .u64 l))) (by kernel_rfl) (by exact ⟨y0, y1⟩) (fun hHeld0 => ?_)
    refine tk 0 25 rfl hHeld0 ?_
    refine tk 1 26 rfl hHeld0 ?_
    refine wpAnyH_ready (rs := [2]) (by kernel_rfl) (by simp) (AllReadyH.cons (o := ⟨some 27, _, _, _, _, _⟩) rfl (fun K hK => ?_) AllReadyH.nil)
    go_simp
    (refine (rmul_int z 4611686018427387905 rfl rfl hzb (by omega) _).mono ?_; rintro e w4 ⟨⟨h2, l2, rfl, e2, hl2, hh2⟩, hb4⟩; have E2 := Lib.hid e2; clear e2; replace X := X.drew.belowH hb4; replace hb3 := hb3.drew.trans (hb4.mono hb3.drew.size); clear hb4; replace y0 := X.at 0 rfl; replace y1 := X.at 1 rfl)
    go_simp
    refine hK.out _ _ (by exact ⟨y0, y1⟩) (fun hHeld1 => ?_)
    clear hK hHeld0 K
    try simp only [Act.put, sA, sB, sC]
    refine wpAnyH_ready (rs := [3]) (by kernel_rfl) (by simp) (AllReadyH.cons (o := ⟨some 28, _, _, _, _, _⟩) rfl (fun K hK => ?_) AllReadyH.nil)
    go_simp
    (refine (rbelow_any h l h2 l2 hl hl2 _).mono ?_; rw [E1.out, E2.out, HD.out]; rintro e w5 ⟨rfl, hb5⟩; replace X := X.belowH hb5; replace hb3 := hb3.trans (hb5.mono hb3.size); clear hb5; replace y0 := X.at 0 rfl; replace y1 := X.at 1 rfl)
    go_simp
    refine hK.out _ _ (by exact ⟨y0, y1⟩) (fun hHeld2 => ?_)
    clear hK hHeld1 K
    try simp only [Act.put, sA, sB, sC]
    refine tk 4 29 rfl hHeld2 ?_
    refine wpAnyH_done (by kernel_rfl) ?_ _
    go_wp2
    clear hHeld2
    go_loopw [9, 10] (fun u v wr => ∃ k n : Nat, k ≤ 63 ∧ u = .int .i64 n ∧ v = .int .i64 ((k : Int) - 1) ∧ n = Q / 2 ^ k * 2 ^ k ∧ Box wr bx 54 #[.int .u64 h, .int .u64 l] ∧ Below w.heap.size w wr) (fun _ v _ => (intOf v + 1).toNat)
    case atStart => exact ⟨63, 0, by omega, rfl, rfl, R.bit_start (by omega), X, hb3⟩
    case round =>
      obtain ⟨k, n, hk, rfl, rfl, hn, X, hb3⟩ := hrel
      have hnQ : n ≤ Q := by rw [hn]; exact Nat.div_mul_le_self _ _
      rcases k with _ | j
      · have en : n = Q := by rw [hn]; exact R.bit_end Q
        have EN := Lib.hid en
        have e : ((0 : Nat) : Int) - 1 = -1 := rfl
        rw [e]
        clear hn en e
        go_wp2
        go_ret2
        exact ⟨by rw [EN.out]; rfl, hb3⟩
      · have e : ((j + 1 : Nat) : Int) - 1 = (j : Int) := by omega
        rw [e]
        have hp2 : 2 ^ j ≤ 4611686018427387904 := Nat.le_trans (Nat.pow_le_pow_right (by omega) (show j ≤ 62 by omega)) (by decide)
        have hnt : n + 2 ^ j < 9223372036854775808 := by
          rcases Nat.lt_or_ge j 62 with h62 | h62
          · have h61 : 2 ^ j ≤ 2305843009213693952 := Nat.le_trans (Nat.pow_le_pow_right (by omega) (show j ≤ 61 by omega)) (by decide)
            omega
          · obtain rfl : j = 62 := by omega
            have e0 := R.bit_start (q := Q) (b := 62 + 1) (by omega)
            rw [hn, ← e0]
            decide
        obtain ⟨t, et⟩ : ∃ t, 2 ^ j = t := ⟨_, rfl⟩
        obtain ⟨m, em⟩ : ∃ m, n + t = m := ⟨_, rfl⟩
        obtain ⟨ti, eti⟩ : ∃ ti : Int, (t : Int) = ti := ⟨_, rfl⟩
        obtain ⟨mi, emi⟩ : ∃ mi : Int, (m : Int) = mi := ⟨_, rfl⟩
        have hst : (if m ≤ Q then m else n) = Q / 2 ^ j * 2 ^ j := by rw [← em, ← et]; exact R.bit_step hn
        have HST := Lib.hid hst
        clear hst
        rw [et] at hp2 hnt
        have g1 : wrap64 ((2 : Int) ^ j) = ti := by rw [two_pow_cast, et]; exact wrap64_nat eti (by omega)
        have g2 : wrap64 ((n : Int) + ti) = mi := wrap64_sum em eti emi hnt
        have hmb : m < 9223372036854775808 := by omega
        have EMI := Lib.hid emi
        have y0 := X.at 0 rfl
        have y1 := X.at 1 rfl
        have hQm : P < z * m ↔ ¬ m ≤ Q := by
          have e1 := R.le_quot (p := P) (c := z) (m := m) hz
          rw [HQ.out] at e1
          omega
        by_cases hm62 : m ≤ 4611686018427387904
        · have hd : decide (mi ≤ 4611686018427387904) = true := decide_eq_true (by omega)
          have i2 : mi ≤ 4611686018427387904 := by omega
          by_cases hmQ : m ≤ Q
          · have HDm : Hid (decide (P < z * m) = false) := Lib.hid (decide_eq_false (by omega))
            clear hn e et em eti emi hQm hm62 hp2 hnt
            go_wp2_with fail
            refine wp_region_held_drew (S := (fun w' => w'.cell? ⟨bx, 0, none⟩ = some (.int .u64 h) ∧ w'.cell? ⟨bx, 1, none⟩ = some (.int .u64 l))) (by kernel_rfl) (by exact ⟨y0, y1⟩) (fun hHeld0 => ?_)
            refine tk 0 39 rfl hHeld0 ?_
            refine tk 1 40 rfl hHeld0 ?_
            refine tk 2 41 rfl hHeld0 ?_
            refine tk 3 42 rfl hHeld0 ?_
            refine tk 4 43 rfl hHeld0 ?_
            refine tk 5 44 rfl hHeld0 ?_
            refine wpAnyH_ready (rs := [6]) (by kernel_rfl) (by simp) (AllReadyH.cons (o := ⟨some 45, _, _, _, _, _⟩) rfl (fun K hK => ?_) AllReadyH.nil)
            go_simp
            (refine (rmul_int z m rfl EMI.out hzb hmb _).mono ?_; rintro e w6 ⟨⟨h3, l3, rfl, e3, hl3, hh3⟩, hb6⟩; have E3 := Lib.hid e3; clear e3; replace X := X.drew.belowH hb6; replace hb3 := hb3.drew.trans (hb6.mono hb3.drew.size); clear hb6; replace y0 := X.at 0 rfl; replace y1 := X.at 1 rfl)
            go_simp
            refine hK.out _ _ (by exact ⟨y0, y1⟩) (fun hHeld1 => ?_)
            clear hK hHeld0 K
            try simp only [Act.put, sA, sB, sC]
            refine wpAnyH_ready (rs := [7]) (by kernel_rfl) (by simp) (AllReadyH.cons (o := ⟨some 46, _, _, _, _, _⟩) rfl (fun K hK => ?_) AllReadyH.nil)
            go_simp
            (refine (rbelow_any h l h3 l3 hl hl3 _).mono ?_; rw [E1.out, E3.out, HDm.out]; rintro e w7 ⟨rfl, hb7⟩; replace X := X.belowH hb7; replace hb3 := hb3.trans (hb7.mono hb3.size); clear hb7; replace y0 := X.at 0 rfl; replace y1 := X.at 1 rfl)
            go_simp
            refine hK.out _ _ (by exact ⟨y0, y1⟩) (fun hHeld2 => ?_)
            clear hK hHeld1 K
            try simp only [Act.put, sA, sB, sC]
            refine tk 8 47 rfl hHeld2 ?_
            refine tk 9 48 rfl hHeld2 ?_
            refine wpAnyH_done (by kernel_rfl) ?_ _
            clear hHeld2
            go_wp2
            go_roundw
            case rel => exact ⟨j, m, by omega, by rw [EMI.out], by go_num, by rw [← HST.out, if_pos hmQ], X, hb3⟩
            case measure => simp [intOf]
          · have HDm : Hid (decide (P < z * m) = true) := Lib.hid (decide_eq_true (by omega))
            clear hn e et em eti emi hQm hm62 hp2 hnt
            go_wp2_with fail
            refine wp_region_held_drew (S := (fun w' => w'.cell? ⟨bx, 0, none⟩ = some (.int .u64 h) ∧ w'.cell? ⟨bx, 1, none⟩ = some (.int .u64 l))) (by kernel_rfl) (by exact ⟨y0, y1⟩) (fun hHeld0 => ?_)
            refine tk 0 39 rfl hHeld0 ?_
            refine tk 1 40 rfl hHeld0 ?_
            refine tk 2 41 rfl hHeld0 ?_
            refine tk 3 42 rfl hHeld0 ?_
            refine tk 4 43 rfl hHeld0 ?_
            refine tk 5 44 rfl hHeld0 ?_
            refine wpAnyH_ready (rs := [6]) (by kernel_rfl) (by simp) (AllReadyH.cons (o := ⟨some 45, _, _, _, _, _⟩) rfl (fun K hK => ?_) AllReadyH.nil)
            go_simp
            (refine (rmul_int z m rfl EMI.out hzb hmb _).mono ?_; rintro e w6 ⟨⟨h3, l3, rfl, e3, hl3, hh3⟩, hb6⟩; have E3 := Lib.hid e3; clear e3; replace X := X.drew.belowH hb6; replace hb3 := hb3.drew.trans (hb6.mono hb3.drew.size); clear hb6; replace y0 := X.at 0 rfl; replace y1 := X.at 1 rfl)
            go_simp
            refine hK.out _ _ (by exact ⟨y0, y1⟩) (fun hHeld1 => ?_)
            clear hK hHeld0 K
            try simp only [Act.put, sA, sB, sC]
            refine wpAnyH_ready (rs := [7]) (by kernel_rfl) (by simp) (AllReadyH.cons (o := ⟨some 46, _, _, _, _, _⟩) rfl (fun K hK => ?_) AllReadyH.nil)
            go_simp
            (refine (rbelow_any h l h3 l3 hl hl3 _).mono ?_; rw [E1.out, E3.out, HDm.out]; rintro e w7 ⟨rfl, hb7⟩; replace X := X.belowH hb7; replace hb3 := hb3.trans (hb7.mono hb3.size); clear hb7; replace y0 := X.at 0 rfl; replace y1 := X.at 1 rfl)
            go_simp
            refine hK.out _ _ (by exact ⟨y0, y1⟩) (fun hHeld2 => ?_)
            clear hK hHeld1 K
            try simp only [Act.put, sA, sB, sC]
            refine tk 8 47 rfl hHeld2 ?_
            refine tk 9 48 rfl hHeld2 ?_
            refine wpAnyH_done (by kernel_rfl) ?_ _
            clear hHeld2
            go_wp2
            go_roundw
            case rel => exact ⟨j, n, by omega, rfl, by go_num, by rw [← HST.out, if_neg hmQ], X, hb3⟩
            case measure => simp [intOf]
        · have hd : decide (mi ≤ 4611686018427387904) = false := decide_eq_false (by omega)
          have i2 : ¬ mi ≤ 4611686018427387904 := by omega
          have hmQ : ¬ m ≤ Q := by omega
          clear hn e et em eti emi hQm hm62 hp2 hnt
          go_wp2_with fail
          refine wp_region_held_drew (S := (fun w' => w'.cell? ⟨bx, 0, none⟩ = some (.int .u64 h) ∧ w'.cell? ⟨bx, 1, none⟩ = some (.int .u64 l))) (by kernel_rfl) (by exact ⟨y0, y1⟩) (fun hHeld0 => ?_)
          refine tk 0 39 rfl hHeld0 ?_
          refine tk 1 40 rfl hHeld0 ?_
          refine tk 2 41 rfl hHeld0 ?_
          refine tu 3 42 rfl hHeld0 ?_
          refine tu 4 43 rfl hHeld0 ?_
          refine tu 5 44 rfl hHeld0 ?_
          refine tu 6 45 rfl hHeld0 ?_
          refine tu 7 46 rfl hHeld0 ?_
          refine tu 8 47 rfl hHeld0 ?_
          refine tk 9 48 rfl hHeld0 ?_
          refine wpAnyH_done (by kernel_rfl) ?_ _
          replace X := X.drew
          replace hb3 := hb3.drew
          go_wp2
          go_roundw
          case rel => exact ⟨j, n, by omega, rfl, by go_num, by rw [← HST.out, if_neg hmQ], X, hb3⟩
          case measure => simp [intOf]
end Go.Proofs.Ytlnhdakafidhiaa
