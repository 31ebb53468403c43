/- The walk of label's law on labels joined. -/
import Derived.Test.YtillnjhmdgmgeaaDoorBAlive
import Derived.Test.YtillnjhmdgmgeaaDoorBRows
namespace Go.Proofs.YtillnjhmdgmgeaaDoor
set_option linter.unusedVariables false
set_option linter.unusedSimpArgs false
open Go.RowKit
set_option maxHeartbeats 8000000 in
set_option maxRecDepth 100000 in
theorem law_LabelJoins (A : Option Addr) (n c : Nat) (l : List (List UInt8)) (W : World) (w0 : StrsIn W A n c l) :
    Calls Tryd.prog 4 #[.slice A n c] W fun e w' => e = .returned (.bool true) ∧ Below W.heap.size W w' := by
  obtain ⟨R, hc1, hc2, hls⟩ := w0
  have hlen : l.length = n := by have h1 := R.len1; rwa [Tt_len] at h1
  have HL := Lib.hid hlen
  have HLS := Lib.hid hls
  clear hlen hls
  obtain ⟨⟨x, er⟩, hj⟩ : ∃ z, Lab.join l = z := ⟨_, rfl⟩
  have HJ := Lib.hid hj
  clear hj
  have b := Below.refl W.heap.size W
  go_enter Tryd.func4, Tryd.ntmps4
  go_wp2_with fail
  refine (blalive_any W).mono ?_
  rintro e v1 ⟨rfl, hb⟩
  replace R := R.belowH hb
  replace b := b.trans (hb.mono b.size)
  clear hb
  by_cases hn : 200 < n
  · go_wp2
    go_ret
    exact ⟨rfl, b⟩
  go_wp2
  go_loop [3] (fun i => ∃ k : Nat, k ≤ n ∧ i = .int .i64 (k : Int) ∧ Hid (∀ y ∈ l.take k, y.length ≤ 300)) (fun i => n - (intOf i).toNat)
  case atStart => exact ⟨0, by omega, rfl, Lib.hid (by simp)⟩
  case round =>
    obtain ⟨k, hk, rfl, HK⟩ := hrel
    have hk0 : (0 : Int) ≤ (k : Int) := by omega
    by_cases hlt : k < n
    · obtain ⟨bk, ok', y, rfl, hbk, hy, hc⟩ := R.atT hlt
      have hys : (strB y).size = y.length := strB_sz y
      have hym := HLS.out y (List.mem_of_getElem? hy)
      have hys2 : (strB y).size ≤ 9223372036854775807 := by omega
      have HY := Lib.hid hy
      have HYS := Lib.hid hys
      clear hy hys hym
      by_cases h3 : 300 < (strB y).size
      · go_wp2
        go_ret
        exact ⟨rfl, b⟩
      · have HK2 : Hid (∀ z ∈ l.take (k + 1), z.length ≤ 300) := Lib.hid (by
          rw [take_more HY.out]
          intro z hz
          rcases List.mem_append.1 hz with hz | hz
          · exact HK.out z hz
          · obtain rfl := List.mem_singleton.1 hz; have := HYS.out; omega)
        go_wp2
        go_round
        case rel => exact ⟨k + 1, by omega, by go_num, HK2⟩
        case measure => simp [intOf]; omega
    · have hkk : ¬ (k : Int) < (n : Int) := by omega
      have HA : Hid (∀ y ∈ l, y.length ≤ 100000) := Lib.hid (fun y hy => by
        have h1 := HK.out
        rw [List.take_of_length_le (by have := HL.out; omega)] at h1
        have := h1 y hy
        omega)
      have HA2 : Hid (∀ y ∈ l, y.length ≤ 1000000) := Lib.hid (fun y hy => by have := HA.out y hy; omega)
      have hn5 : n ≤ 100000 := by omega
      go_wp2_with fail
      refine (bljoin_at HJ.out A n c v1 R hn5 HA.out).mono ?_
      rintro e v2 ⟨rfl, hb⟩
      replace R := R.belowH hb
      replace b := b.trans (hb.mono b.size)
      clear hb
      go_wp2_with fail
      refine (rjoinl_at HJ.out A n c _ v2 R (Nat.le_refl _) (by omega) HA2.out).mono ?_
      rintro e v3 ⟨rfl, hb⟩
      replace R := R.belowH hb
      replace b := b.trans (hb.mono b.size)
      clear hb
      by_cases he : er = 0
      rotate_left
      · have t1 : (er != 0) = true := bne_iff_ne.2 he
        clear he
        go_wp2
        go_ret
        exact ⟨ret_bool (by simp), b⟩
      have hjo := Lab.join_once (l := l) (by rw [HJ.out]; exact he)
      rw [HJ.out] at hjo
      obtain ⟨hok, hx⟩ := hjo
      simp only at hx
      subst he
      have HRX : Hid (Lab.right x = true) := Lib.hid (by rw [hx]; exact Lab.right_names hok)
      have HLX : Hid (Lab.labels x = l) := Lib.hid (by rw [hx]; exact Lab.labels_names hok)
      have HXL : Hid (x.length ≤ 100000) := Lib.hid (by rw [hx]; have := hok.2; omega)
      have HUX := Lib.hid (Lab.under_self HRX.out)
      have HU0 := Lib.hid (Lab.under_root HRX.out)
      have HSX := Lib.hid (Lab.same_lower HRX.out)
      obtain ⟨lo, hlo⟩ : ∃ z, Lab.lower x = z := ⟨_, rfl⟩
      rw [hlo] at HSX
      have HLO := Lib.hid hlo
      have HOL : Hid (lo.length ≤ 100000) := Lib.hid (by rw [← hlo, Lab.lower_len]; exact HXL.out)
      clear hok hx hlo
      go_wp2_with fail
      refine (bllabels_at HLX.out HXL.out v3).mono ?_
      rintro e v4 ⟨⟨A1, n1, c1, rfl, hn1, R1, hc3⟩, hb⟩
      replace b := b.trans (hb.mono b.size)
      replace R := R.belowH hb
      have N1 : Hid (n1 ≤ 1000000) := Lib.hid (by rw [hn1, HL.out]; omega)
      clear hb hn1 hc3
      go_wp2_with fail
      refine (rtexts_at (decide_eq_true rfl : decide (l = l) = true) A1 A n1 n c1 c _ _ v4 R1 R N1.out).mono ?_
      rintro e v5 ⟨rfl, hb⟩
      replace b := b.trans (hb.mono b.size)
      clear hb
      go_wp2_with fail
      refine (blright_at HRX.out HXL.out v5).mono ?_
      rintro e v6 ⟨rfl, hb⟩
      replace b := b.trans (hb.mono b.size)
      clear hb
      go_wp2_with fail
      refine (bllower_at HLO.out HXL.out v6).mono ?_
      rintro e v7 ⟨rfl, hb⟩
      replace b := b.trans (hb.mono b.size)
      clear hb
      go_wp2_with fail
      refine (blsame_at HSX.out HXL.out HOL.out v7).mono ?_
      rintro e v8 ⟨rfl, hb⟩
      replace b := b.trans (hb.mono b.size)
      clear hb
      go_wp2_with fail
      refine (blunder_at HUX.out HXL.out HXL.out v8).mono ?_
      rintro e v9 ⟨rfl, hb⟩
      replace b := b.trans (hb.mono b.size)
      clear hb
      go_wp2_with fail
      refine (blunder_at HU0.out HXL.out (by decide) v9).mono ?_
      rintro e v10 ⟨rfl, hb⟩
      replace b := b.trans (hb.mono b.size)
      clear hb
      go_wp2
      go_ret
      exact ⟨rfl, b⟩
end Go.Proofs.YtillnjhmdgmgeaaDoor
