/- The walk of label's law on small letters. -/
import Derived.Test.YtillnjhmdgmgeaaDoorBAlive
namespace Go.Proofs.YtillnjhmdgmgeaaDoor
set_option linter.unusedVariables false
set_option linter.unusedSimpArgs false
open Go.RowKit
set_option maxHeartbeats 8000000 in
set_option maxRecDepth 100000 in
theorem law_LabelLowers (ta : ByteArray) (W : World) (wta : ta.size ≤ maxLen) :
    Calls Tryd.prog 7 #[.string ta] W fun e w' => e = .returned (.bool true) ∧ Below W.heap.size W w' := by
  obtain ⟨a, rfl⟩ : ∃ v : List UInt8, ta = strB v := ⟨ta.data.toList, by unfold strB; rw [Array.toArray_toList]⟩
  have ha1 : (strB a).size = a.length := strB_sz a
  have ha2 : (strB a).size ≤ 9223372036854775807 := by unfold maxLen at wta; omega
  have Za := Lib.hid ha1
  clear ha1 wta
  obtain ⟨zr, hHR⟩ : ∃ z, Lab.right a = z := ⟨_, rfl⟩
  have HR := Lib.hid hHR
  clear hHR
  obtain ⟨la, hHL⟩ : ∃ z, Lab.labels a = z := ⟨_, rfl⟩
  have HL := Lib.hid hHL
  clear hHL
  obtain ⟨lo, hHLO⟩ : ∃ z, Lab.lower a = z := ⟨_, rfl⟩
  have HLO := Lib.hid hHLO
  clear hHLO
  obtain ⟨ll, hHLL⟩ : ∃ z, Lab.labels lo = z := ⟨_, rfl⟩
  have HLL := Lib.hid hHLL
  clear hHLL
  have b := Below.refl W.heap.size W
  go_enter Tryd.func7, Tryd.ntmps7
  go_wp2_with fail
  refine (blalive_any W).mono ?_
  rintro e v1 ⟨rfl, hb⟩
  replace b := b.trans (hb.mono b.size)
  clear hb
  by_cases ga : 600 < (strB a).size
  · have da : decide (600 < (((strB a).size : Nat) : Int)) = true := decide_eq_true (by omega)
    go_wp2
    go_ret
    exact ⟨rfl, b⟩
  have da : decide (600 < (((strB a).size : Nat) : Int)) = false := decide_eq_false (by omega)
  have len_a : a.length ≤ 600 := by have := Za.out; omega
  have La : Hid (a.length ≤ 100000) := Lib.hid (by omega)
  have HOL : Hid (lo.length = a.length) := Lib.hid (by rw [← HLO.out, Lab.lower_len])
  have HOL2 : Hid (lo.length ≤ 100000) := Lib.hid (by rw [HOL.out]; exact La.out)
  obtain ⟨n, hn⟩ : ∃ n, (strB a).size = n := ⟨_, rfl⟩
  have hn2 : (strB lo).size = n := by rw [strB_sz, HOL.out, ← hn, Za.out]
  have hn6 : n ≤ 600 := by omega
  have HNN := Lib.hid hn
  have HN2 := Lib.hid hn2
  have HLEN : Hid (ll.length = la.length) := Lib.hid (by rw [← HLL.out, ← HL.out, ← HLO.out]; exact Lab.labels_lower a)
  cases zr
  · have e1 : lo = a := by rw [← HLO.out]; exact Lab.lower_no HR.out
    subst e1
    clear hn hn2
    go_wp2_with fail
    refine (rlright_at HR.out La.out v1).mono ?_
    rintro e v2 ⟨rfl, hb⟩
    replace b := b.trans (hb.mono b.size)
    clear hb
    go_wp2_with fail
    refine (bllower_at HLO.out La.out v2).mono ?_
    rintro e v3 ⟨rfl, hb⟩
    replace b := b.trans (hb.mono b.size)
    clear hb
    go_wp2
    go_ret
    exact ⟨ret_bool (by simp), b⟩
  have HSM : Hid (Lab.same a lo = true) := Lib.hid (by rw [← HLO.out]; exact Lab.same_lower HR.out)
  have HRL : Hid (Lab.right lo = true) := Lib.hid (by rw [← HLO.out, Lab.right_lower]; exact HR.out)
  have HNG : Hid (∀ c ∈ lo, ¬ (65 ≤ c.toNat ∧ c.toNat ≤ 90)) := Lib.hid (fun c hc => by rw [← HLO.out] at hc; exact Lab.no_great HR.out hc)
  clear hn
  go_wp2_with fail
  refine (rlright_at HR.out La.out v1).mono ?_
  rintro e v2 ⟨rfl, hb⟩
  replace b := b.trans (hb.mono b.size)
  clear hb
  go_wp2_with fail
  refine (bllower_at HLO.out La.out v2).mono ?_
  rintro e v3 ⟨rfl, hb⟩
  replace b := b.trans (hb.mono b.size)
  clear hb
  go_wp2
  go_loop [4] (fun i => ∃ k : Nat, k ≤ n ∧ i = .int .i64 (k : Int)) (fun i => n - (intOf i).toNat)
  case atStart => exact ⟨0, by omega, rfl⟩
  case round =>
    obtain ⟨k, hk, rfl⟩ := hrel
    have hk0 : (0 : Int) ≤ (k : Int) := by omega
    by_cases hlt : k < n
    · obtain ⟨y, hy⟩ : ∃ y, lo[k]? = some y := ⟨_, List.getElem?_eq_getElem (by have h1 := HN2.out; rw [strB_sz] at h1; omega)⟩
      have IX : ∀ w, (Instr.index 9 (.string (strB lo)) (.int .i64 (k : Int))).run Tryd.prog w = .ok (.int .u8 (y.toNat : Int)) w := fun w => run_chr hy
      have hng := HNG.out y (List.mem_of_getElem? hy)
      obtain ⟨ci, hci⟩ : ∃ z : Int, (y.toNat : Int) = z := ⟨_, rfl⟩
      rw [hci] at IX
      by_cases h65 : 65 ≤ y.toNat
      · have t1 : decide (65 ≤ ci) = true := decide_eq_true (by omega)
        have t2 : decide (ci ≤ 90) = false := decide_eq_false (by omega)
        clear hy hng hci h65
        go_wp2
        go_round
        case rel => exact ⟨k + 1, by omega, by go_num⟩
        case measure => simp [intOf]; omega
      · have t1 : decide (65 ≤ ci) = false := decide_eq_false (by omega)
        clear hy hng hci h65
        go_wp2
        go_round
        case rel => exact ⟨k + 1, by omega, by go_num⟩
        case measure => simp [intOf]; omega
    · have hkk : ¬ (k : Int) < (n : Int) := by omega
      go_wp2_with fail
      refine (blsame_at HSM.out La.out HOL2.out v3).mono ?_
      rintro e v4 ⟨rfl, hb⟩
      replace b := b.trans (hb.mono b.size)
      clear hb
      go_wp2_with fail
      refine (bllabels_at HLL.out HOL2.out v4).mono ?_
      rintro e v5 ⟨⟨A1, n1, c1, rfl, hn1, R1, hc3⟩, hb⟩
      replace b := b.trans (hb.mono b.size)
      have N1 := Lib.hid hn1
      clear hb hn1 hc3
      go_wp2_with fail
      refine (bllabels_at HL.out La.out v5).mono ?_
      rintro e v6 ⟨⟨A2, n2, c2, rfl, hn2', R2, hc4⟩, hb⟩
      replace b := b.trans (hb.mono b.size)
      have e12 : n1 = n2 := by rw [N1.out, hn2', HLEN.out]
      clear hb hn2' hc4 R1 R2 N1
      subst e12
      have hna : (strB a).size = n := HNN.out
      go_wp2_with fail
      refine (blright_at HRL.out HOL2.out v6).mono ?_
      rintro e v7 ⟨rfl, hb⟩
      replace b := b.trans (hb.mono b.size)
      clear hb
      go_wp2
      go_ret
      exact ⟨ret_bool (by simp), b⟩
end Go.Proofs.YtillnjhmdgmgeaaDoor
