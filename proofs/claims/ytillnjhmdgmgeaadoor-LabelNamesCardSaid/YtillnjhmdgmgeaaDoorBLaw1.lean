/- The walk of label's law on names. -/
import Derived.Test.YtillnjhmdgmgeaaDoorBAlive
namespace Go.Proofs.YtillnjhmdgmgeaaDoor
set_option linter.unusedVariables false
set_option linter.unusedSimpArgs false
open Go.RowKit
set_option maxHeartbeats 8000000 in
set_option maxRecDepth 100000 in
theorem law_LabelNames (ta tb tt : ByteArray) (W : World) (wta : ta.size ≤ maxLen) (wtb : tb.size ≤ maxLen) (wtt : tt.size ≤ maxLen) :
    Calls Tryd.prog 3 #[.string ta, .string tb, .string tt] W fun e w' => e = .returned (.bool true) ∧ Below W.heap.size W w' := by
  obtain ⟨a, rfl⟩ : ∃ v : List UInt8, ta = strB v := ⟨ta.data.toList, by unfold strB; rw [Array.toArray_toList]⟩
  have ha1 : (strB a).size = a.length := strB_sz a
  have ha2 : (strB a).size ≤ 9223372036854775807 := by unfold maxLen at wta; omega
  have Za := Lib.hid ha1
  clear ha1 wta
  obtain ⟨c, rfl⟩ : ∃ v : List UInt8, tb = strB v := ⟨tb.data.toList, by unfold strB; rw [Array.toArray_toList]⟩
  have hc1 : (strB c).size = c.length := strB_sz c
  have hc2 : (strB c).size ≤ 9223372036854775807 := by unfold maxLen at wtb; omega
  have Zc := Lib.hid hc1
  clear hc1 wtb
  obtain ⟨t, rfl⟩ : ∃ v : List UInt8, tt = strB v := ⟨tt.data.toList, by unfold strB; rw [Array.toArray_toList]⟩
  have ht1 : (strB t).size = t.length := strB_sz t
  have ht2 : (strB t).size ≤ 9223372036854775807 := by unfold maxLen at wtt; omega
  have Zt := Lib.hid ht1
  clear ht1 wtt
  obtain ⟨⟨x, e1⟩, hHOF⟩ : ∃ z, Lab.of t = z := ⟨_, rfl⟩
  have HOF := Lib.hid hHOF
  clear hHOF
  obtain ⟨⟨y, e2⟩, hHTX⟩ : ∃ z, Lab.text a = z := ⟨_, rfl⟩
  have HTX := Lib.hid hHTX
  clear hHTX
  obtain ⟨zr, hHR⟩ : ∃ z, Lab.right a = z := ⟨_, rfl⟩
  have HR := Lib.hid hHR
  clear hHR
  obtain ⟨la, hHL⟩ : ∃ z, Lab.labels a = z := ⟨_, rfl⟩
  have HL := Lib.hid hHL
  clear hHL
  obtain ⟨lo, hHW⟩ : ∃ z, Lab.lower a = z := ⟨_, rfl⟩
  have HW := Lib.hid hHW
  clear hHW
  obtain ⟨zs, hHSM⟩ : ∃ z, Lab.same a c = z := ⟨_, rfl⟩
  have HSM := Lib.hid hHSM
  clear hHSM
  obtain ⟨zu, hHU⟩ : ∃ z, Lab.under a c = z := ⟨_, rfl⟩
  have HU := Lib.hid hHU
  clear hHU
  have HFL : Hid (la.length ≤ 254) := Lib.hid (by rw [← HL.out]; exact labels_few a)
  have b := Below.refl W.heap.size W
  go_enter Tryd.func3, Tryd.ntmps3
  go_wp2_with fail
  refine (blalive_any W).mono ?_
  rintro e v1 ⟨rfl, hb⟩
  replace b := b.trans (hb.mono b.size)
  clear hb
  by_cases ga : 600 < (strB a).size
  · have da : decide (600 < (((strB a).size : Nat) : Int)) = true := decide_eq_true (by omega)
    go_wp2
    go_ret
    exact ⟨rfl, b⟩
  have da : decide (600 < (((strB a).size : Nat) : Int)) = false := decide_eq_false (by omega)
  have len_a : a.length ≤ 600 := by have := Za.out; omega
  have La : Hid (a.length ≤ 100000) := Lib.hid (by omega)
  by_cases gc : 600 < (strB c).size
  · have dc : decide (600 < (((strB c).size : Nat) : Int)) = true := decide_eq_true (by omega)
    go_wp2
    go_ret
    exact ⟨rfl, b⟩
  have dc : decide (600 < (((strB c).size : Nat) : Int)) = false := decide_eq_false (by omega)
  have len_c : c.length ≤ 600 := by have := Zc.out; omega
  have Lc : Hid (c.length ≤ 100000) := Lib.hid (by omega)
  by_cases gt : 600 < (strB t).size
  · have dt : decide (600 < (((strB t).size : Nat) : Int)) = true := decide_eq_true (by omega)
    go_wp2
    go_ret
    exact ⟨rfl, b⟩
  have dt : decide (600 < (((strB t).size : Nat) : Int)) = false := decide_eq_false (by omega)
  have len_t : t.length ≤ 600 := by have := Zt.out; omega
  have Lt : Hid (t.length ≤ 100000) := Lib.hid (by omega)
  clear ga gc gt
  go_wp2_with fail
  refine (blof_at HOF.out Lt.out v1).mono ?_
  rintro e v2 ⟨rfl, hb⟩
  replace b := b.trans (hb.mono b.size)
  clear hb
  go_wp2_with fail
  refine (rof_at HOF.out Lt.out v2).mono ?_
  rintro e v3 ⟨rfl, hb⟩
  replace b := b.trans (hb.mono b.size)
  clear hb
  go_wp2_with fail
  refine (bltext_at HTX.out La.out v3).mono ?_
  rintro e v4 ⟨rfl, hb⟩
  replace b := b.trans (hb.mono b.size)
  clear hb
  go_wp2_with fail
  refine (rltext_at HTX.out La.out v4).mono ?_
  rintro e v5 ⟨rfl, hb⟩
  replace b := b.trans (hb.mono b.size)
  clear hb
  go_wp2_with fail
  refine (blright_at HR.out La.out v5).mono ?_
  rintro e v6 ⟨rfl, hb⟩
  replace b := b.trans (hb.mono b.size)
  clear hb
  go_wp2_with fail
  refine (rlright_at HR.out La.out v6).mono ?_
  rintro e v7 ⟨rfl, hb⟩
  replace b := b.trans (hb.mono b.size)
  clear hb
  go_wp2_with fail
  refine (bllabels_at HL.out La.out v7).mono ?_
  rintro e v8 ⟨⟨A1, n1, c1, rfl, hn1, R1, hc1⟩, hb⟩
  replace b := b.trans (hb.mono b.size)
  have N1 : Hid (n1 ≤ 254) := Lib.hid (by rw [hn1]; exact HFL.out)
  clear hb hn1 hc1
  go_wp2_with fail
  refine (rlabels_at HL.out La.out v8).mono ?_
  rintro e v9 ⟨⟨A2, n2, c2, rfl, hn2, R2, hc2⟩, hb⟩
  replace b := b.trans (hb.mono b.size)
  replace R1 := R1.belowH hb
  clear hb hn2 hc2
  go_wp2_with fail
  refine (rtexts_at (decide_eq_true rfl : decide (la = la) = true) A1 A2 n1 n2 c1 c2 _ _ v9 R1 R2 (by have := N1.out; omega)).mono ?_
  rintro e v10 ⟨rfl, hb⟩
  replace b := b.trans (hb.mono b.size)
  clear hb
  go_wp2_with fail
  refine (bllower_at HW.out La.out v10).mono ?_
  rintro e v11 ⟨rfl, hb⟩
  replace b := b.trans (hb.mono b.size)
  clear hb
  go_wp2_with fail
  refine (rlower_at HW.out La.out v11).mono ?_
  rintro e v12 ⟨rfl, hb⟩
  replace b := b.trans (hb.mono b.size)
  clear hb
  go_wp2_with fail
  refine (blsame_at HSM.out La.out Lc.out v12).mono ?_
  rintro e v13 ⟨rfl, hb⟩
  replace b := b.trans (hb.mono b.size)
  clear hb
  go_wp2_with fail
  refine (rsamel_at HSM.out La.out Lc.out v13).mono ?_
  rintro e v14 ⟨rfl, hb⟩
  replace b := b.trans (hb.mono b.size)
  clear hb
  go_wp2_with fail
  refine (blunder_at HU.out La.out Lc.out v14).mono ?_
  rintro e v15 ⟨rfl, hb⟩
  replace b := b.trans (hb.mono b.size)
  clear hb
  go_wp2_with fail
  refine (runder_at HU.out La.out Lc.out v15).mono ?_
  rintro e v16 ⟨rfl, hb⟩
  replace b := b.trans (hb.mono b.size)
  clear hb
  go_wp2
  go_ret
  exact ⟨ret_bool (by simp), b⟩
end Go.Proofs.YtillnjhmdgmgeaaDoor
