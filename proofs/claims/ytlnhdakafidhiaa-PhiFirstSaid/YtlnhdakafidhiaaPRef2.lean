/- The document's bounds, bit by bit. -/
import Derived.Test.YtlnhdakafidhiaaRRef3
import Derived.Test.YtlnhdakafidhiaaRCode3
import Derived.Test.YtlnhdakafidhiaaRAlive
import Derived.Test.YtlnhdakafidhiaaPMath
namespace Go.Proofs.Ytlnhdakafidhiaa
set_option linter.unusedVariables false
set_option linter.unusedSimpArgs false
open Go.RowKit

theorem bit_under {Q N t m : Nat} (e : N + t = m + 1) : (if m < Q then m + 1 else N) = if N + t ≤ Q then N + t else N := by
  rw [e]
  by_cases h : m < Q
  · rw [if_pos h, if_pos (by omega)]
  · rw [if_neg h, if_neg (by omega)]
theorem wrap64_less {N t m : Nat} {ti mi ni : Int} (em : N + t = m + 1) (en : (N : Int) - 1 = ni) (et : (t : Int) = ti) (e : (m : Int) = mi) (h : N + t < 9223372036854775808) : wrap64 (ni + ti) = mi := by
  rw [show ni + ti = mi by omega]
  exact wrap64_in (by omega) (by omega)

set_option maxHeartbeats 4000000 in
set_option maxRecDepth 20000 in
theorem rbound_any (th mean : Int) (w : World) :
    Calls Try.prog 17 #[.int .i64 th, .int .i64 mean] w (IntBR (Ph.bound th mean) w) := by
  by_cases h1 : th < 0
  · rw [Ph.bound_bad (Or.inl h1)]
    go_enter Try.func17, Try.ntmps17
    go_wp2
    go_ret
    exact ⟨rfl, Below.refl _ _⟩
  by_cases h2 : 1099511627776 < th
  · rw [Ph.bound_bad (Or.inr (Or.inl h2))]
    go_enter Try.func17, Try.ntmps17
    go_wp2
    go_ret
    exact ⟨rfl, Below.refl _ _⟩
  by_cases h3 : mean < 1
  · rw [Ph.bound_bad (Or.inr (Or.inr (Or.inl h3)))]
    go_enter Try.func17, Try.ntmps17
    go_wp2
    go_ret
    exact ⟨rfl, Below.refl _ _⟩
  by_cases h4 : 1099511627776 < mean
  · rw [Ph.bound_bad (Or.inr (Or.inr (Or.inr h4)))]
    go_enter Try.func17, Try.ntmps17
    go_wp2
    go_ret
    exact ⟨rfl, Below.refl _ _⟩
  have hok : ¬ Ph.bad th mean := by unfold Ph.bad; omega
  have hpos := Ph.prod_pos hok
  have hbp := Ph.bound_pos hok
  have hbn := (Ph.bound_nonneg th mean).2
  have hbd := Ph.bound_ok hok
  obtain ⟨x, hx⟩ := Int.eq_ofNat_of_zero_le (show 0 ≤ th + 1 by omega)
  obtain ⟨y, hy⟩ := Int.eq_ofNat_of_zero_le (show 0 ≤ mean by omega)
  obtain ⟨Q, hQ⟩ := Int.eq_ofNat_of_zero_le (show 0 ≤ Ph.bound th mean by omega)
  obtain ⟨P, eP⟩ : ∃ P, x * y = P := ⟨_, rfl⟩
  have hPI : (th + 1) * mean = (P : Int) := by rw [← eP, hx, hy]; push_cast; rfl
  rw [hPI] at hbd
  have hlt : ∀ m : Nat, m < Q ↔ m < 4611686018427387904 ∧ m * 434 < P := fun m => by
    have h := Ph.cnt_lt (P : Int) (m : Int)
    have h9 : (m < Q) ↔ ((m : Int) < Ph.bound th mean) := by rw [hQ]; exact Int.ofNat_lt.symm
    rw [h9, hbd]
    omega
  have hQ62 : Q ≤ 4611686018427387904 := by omega
  have hxb : x < 9223372036854775808 := by omega
  have hyb : y < 9223372036854775808 := by omega
  rw [hQ]
  have HP := Lib.hid eP
  have HX := Lib.hid hx.symm
  have HY := Lib.hid hy.symm
  have HLT := Lib.hid hlt
  have e0 : wrap64 (th + 1) = th + 1 := wrap64_in (by omega) (by omega)
  clear hok hpos hbp hbn hbd eP hPI hlt hx hy hQ
  go_enter Try.func17, Try.ntmps17
  go_wp2_with fail
  refine (rmul_int x y HX.out HY.out hxb hyb _).mono ?_
  rw [HP.out]
  rintro e w2 ⟨⟨h, l, rfl, e1, hl, hh⟩, b⟩
  have E1 := Lib.hid e1
  clear e1
  go_wp2
  have X := Box.new w2 #[.int .u64 h, .int .u64 l] 54
  replace b := b.alloc b.size (.cells #[.int .u64 h, .int .u64 l] 54)
  generalize w2.alloc (.cells #[.int .u64 h, .int .u64 l] 54) = w3 at *
  generalize w2.heap.size = bx at *
  go_loopw [6, 7] (fun u v wr => ∃ k n : Nat, k ≤ 63 ∧ u = .int .i64 ((n : Int) - 1) ∧ v = .int .i64 ((k : Int) - 1) ∧ n = Q / 2 ^ k * 2 ^ k ∧ Box wr bx 54 #[.int .u64 h, .int .u64 l] ∧ Below w.heap.size w wr) (fun _ v _ => (intOf v + 1).toNat)
  case atStart => exact ⟨63, 0, by omega, rfl, rfl, R.bit_start (by omega), X, b⟩
  case round =>
    clear X b
    obtain ⟨k, n, hk, rfl, rfl, hn, X, b⟩ := hrel
    have hnQ : n ≤ Q := by rw [hn]; exact Nat.div_mul_le_self _ _
    obtain ⟨ni, hni⟩ : ∃ ni : Int, (n : Int) - 1 = ni := ⟨_, rfl⟩
    rw [hni]
    have HNI := Lib.hid hni
    have hnib : -1 ≤ ni ∧ ni ≤ 4611686018427387903 := by omega
    rcases k with _ | j
    · have en : n = Q := by rw [hn]; exact R.bit_end Q
      have e : ((0 : Nat) : Int) - 1 = -1 := rfl
      have e2 : ni + 1 = (Q : Int) := by omega
      have E2 := Lib.hid e2
      rw [e]
      clear hn en e e2 hni
      go_wp2
      go_ret
      exact ⟨ret_int (by have := E2.out; omega), b⟩
    · have e : ((j + 1 : Nat) : Int) - 1 = (j : Int) := by omega
      rw [e]
      have hnt : n + 2 ^ j < 9223372036854775808 := by
        rcases Nat.lt_or_ge j 62 with h62 | h62
        · have h61 : 2 ^ j ≤ 2305843009213693952 := Nat.le_trans (Nat.pow_le_pow_right (by omega) (show j ≤ 61 by omega)) (by decide)
          omega
        · obtain rfl : j = 62 := by omega
          have e0 := R.bit_start (q := Q) (b := 62 + 1) (by omega)
          rw [hn, ← e0]
          decide
      have hp2 : 0 < 2 ^ j := Nat.two_pow_pos j
      obtain ⟨t, et⟩ : ∃ t, 2 ^ j = t := ⟨_, rfl⟩
      have hp3 : 0 < t := by rw [← et]; exact hp2
      obtain ⟨m, em⟩ : ∃ m, n + t = m + 1 := ⟨n + t - 1, by omega⟩
      obtain ⟨ti, eti⟩ : ∃ ti : Int, (t : Int) = ti := ⟨_, rfl⟩
      obtain ⟨mi, emi⟩ : ∃ mi : Int, (m : Int) = mi := ⟨_, rfl⟩
      have hst : (if m < Q then m + 1 else n) = Q / 2 ^ j * 2 ^ j := by rw [bit_under em, ← et]; exact R.bit_step hn
      have HST := Lib.hid hst
      clear hst hp2
      rw [et] at hnt
      have g1 : wrap64 ((2 : Int) ^ j) = ti := by rw [two_pow_cast, et]; exact wrap64_nat eti (by omega)
      have g2 : wrap64 (ni + ti) = mi := wrap64_less em hni eti emi hnt
      have hmb : m < 9223372036854775808 := by omega
      have EMI := Lib.hid emi
      have y0 := X.at 0 rfl
      have y1 := X.at 1 rfl
      have hQm := HLT.out m
      by_cases hm62 : m < 4611686018427387904
      · have hd : decide (mi < 4611686018427387904) = true := decide_eq_true (by omega)
        have i2 : mi < 4611686018427387904 := by omega
        have e434 : ((434 : Nat) : Int) = 434 := rfl
        by_cases hmQ : m < Q
        · have HDm : Hid (decide (m * 434 < P) = true) := Lib.hid (decide_eq_true (hQm.1 hmQ).2)
          have em1 : (((m + 1 : Nat) : Int)) - 1 = mi := by omega
          have EM1 := Lib.hid em1
          clear hn e et em eti emi hQm hm62 hnt hni em1 e434
          go_wp2_with fail
          refine wp_region_held_drew (S := (fun w' => w'.cell? ⟨bx, 0, none⟩ = some (.int .u64 h) ∧ w'.cell? ⟨bx, 1, none⟩ = some (.int .u64 l))) (by kernel_rfl) (by exact ⟨y0, y1⟩) (fun hHeld0 => ?_)
          refine tk 0 36 rfl hHeld0 ?_
          refine tk 1 37 rfl hHeld0 ?_
          refine tk 2 38 rfl hHeld0 ?_
          refine tk 3 39 rfl hHeld0 ?_
          refine tk 5 41 rfl hHeld0 ?_
          refine wpAnyH_ready (rs := [4]) (by kernel_rfl) (by simp) (AllReadyH.cons (o := ⟨some 40, _, _, _, _, _⟩) rfl (fun K hK => ?_) AllReadyH.nil)
          go_simp
          (refine (rmul_int m 434 EMI.out rfl hmb (by omega) _).mono ?_; rintro e w6 ⟨⟨h3, l3, rfl, e3, hl3, hh3⟩, hb6⟩; have E3 := Lib.hid e3; clear e3; replace X := X.drew.belowH hb6; replace b := b.drew.trans (hb6.mono b.drew.size); clear hb6; replace y0 := X.at 0 rfl; replace y1 := X.at 1 rfl)
          go_simp
          refine hK.out _ _ (by exact ⟨y0, y1⟩) (fun hHeld1 => ?_)
          clear hK hHeld0 K
          try simp only [Act.put, sA, sB, sC]
          refine wpAnyH_ready (rs := [6]) (by kernel_rfl) (by simp) (AllReadyH.cons (o := ⟨some 42, _, _, _, _, _⟩) rfl (fun K hK => ?_) AllReadyH.nil)
          go_simp
          (refine (rbelow_any h3 l3 h l hl3 hl _).mono ?_; rw [E1.out, E3.out, HDm.out]; rintro e w7 ⟨rfl, hb7⟩; replace X := X.belowH hb7; replace b := b.trans (hb7.mono b.size); clear hb7; replace y0 := X.at 0 rfl; replace y1 := X.at 1 rfl)
          go_simp
          refine hK.out _ _ (by exact ⟨y0, y1⟩) (fun hHeld2 => ?_)
          clear hK hHeld1 K
          try simp only [Act.put, sA, sB, sC]
          refine tk 7 43 rfl hHeld2 ?_
          refine wpAnyH_done (by kernel_rfl) ?_ _
          clear hHeld2
          go_wp2
          go_roundw
          case rel => exact ⟨j, m + 1, by omega, by rw [EM1.out], by go_num, by rw [← HST.out, if_pos hmQ], X, b⟩
          case measure => simp [intOf]
        · have HDm : Hid (decide (m * 434 < P) = false) := Lib.hid (decide_eq_false (fun h9 => hmQ (hQm.2 ⟨hm62, h9⟩)))
          clear hn e et em eti emi hQm hm62 hnt hni e434
          go_wp2_with fail
          refine wp_region_held_drew (S := (fun w' => w'.cell? ⟨bx, 0, none⟩ = some (.int .u64 h) ∧ w'.cell? ⟨bx, 1, none⟩ = some (.int .u64 l))) (by kernel_rfl) (by exact ⟨y0, y1⟩) (fun hHeld0 => ?_)
          refine tk 0 36 rfl hHeld0 ?_
          refine tk 1 37 rfl hHeld0 ?_
          refine tk 2 38 rfl hHeld0 ?_
          refine tk 3 39 rfl hHeld0 ?_
          refine tk 5 41 rfl hHeld0 ?_
          refine wpAnyH_ready (rs := [4]) (by kernel_rfl) (by simp) (AllReadyH.cons (o := ⟨some 40, _, _, _, _, _⟩) rfl (fun K hK => ?_) AllReadyH.nil)
          go_simp
          (refine (rmul_int m 434 EMI.out rfl hmb (by omega) _).mono ?_; rintro e w6 ⟨⟨h3, l3, rfl, e3, hl3, hh3⟩, hb6⟩; have E3 := Lib.hid e3; clear e3; replace X := X.drew.belowH hb6; replace b := b.drew.trans (hb6.mono b.drew.size); clear hb6; replace y0 := X.at 0 rfl; replace y1 := X.at 1 rfl)
          go_simp
          refine hK.out _ _ (by exact ⟨y0, y1⟩) (fun hHeld1 => ?_)
          clear hK hHeld0 K
          try simp only [Act.put, sA, sB, sC]
          refine wpAnyH_ready (rs := [6]) (by kernel_rfl) (by simp) (AllReadyH.cons (o := ⟨some 42, _, _, _, _, _⟩) rfl (fun K hK => ?_) AllReadyH.nil)
          go_simp
          (refine (rbelow_any h3 l3 h l hl3 hl _).mono ?_; rw [E1.out, E3.out, HDm.out]; rintro e w7 ⟨rfl, hb7⟩; replace X := X.belowH hb7; replace b := b.trans (hb7.mono b.size); clear hb7; replace y0 := X.at 0 rfl; replace y1 := X.at 1 rfl)
          go_simp
          refine hK.out _ _ (by exact ⟨y0, y1⟩) (fun hHeld2 => ?_)
          clear hK hHeld1 K
          try simp only [Act.put, sA, sB, sC]
          refine tk 7 43 rfl hHeld2 ?_
          refine wpAnyH_done (by kernel_rfl) ?_ _
          clear hHeld2
          go_wp2
          go_roundw
          case rel => exact ⟨j, n, by omega, by rw [HNI.out], by go_num, by rw [← HST.out, if_neg hmQ], X, b⟩
          case measure => simp [intOf]
      · have hd : decide (mi < 4611686018427387904) = false := decide_eq_false (by omega)
        have i2 : ¬ mi < 4611686018427387904 := by omega
        have hmQ : ¬ m < Q := by omega
        clear hn e et em eti emi hQm hm62 hnt hni
        go_wp2_with fail
        refine wp_region_held_drew (S := (fun w' => w'.cell? ⟨bx, 0, none⟩ = some (.int .u64 h) ∧ w'.cell? ⟨bx, 1, none⟩ = some (.int .u64 l))) (by kernel_rfl) (by exact ⟨y0, y1⟩) (fun hHeld0 => ?_)
        refine tk 0 36 rfl hHeld0 ?_
        refine tk 1 37 rfl hHeld0 ?_
        refine tk 2 38 rfl hHeld0 ?_
        refine tu 3 39 rfl hHeld0 ?_
        refine tu 4 40 rfl hHeld0 ?_
        refine tu 5 41 rfl hHeld0 ?_
        refine tu 6 42 rfl hHeld0 ?_
        refine tk 7 43 rfl hHeld0 ?_
        refine wpAnyH_done (by kernel_rfl) ?_ _
        replace X := X.drew
        replace b := b.drew
        go_wp2
        go_roundw
        case rel => exact ⟨j, n, by omega, by rw [HNI.out], by go_num, by rw [← HST.out, if_neg hmQ], X, b⟩
        case measure => simp [intOf]
end Go.Proofs.Ytlnhdakafidhiaa
