/- The walk of label's law on there and back. -/
import Derived.Test.YtillnjhmdgmgeaaDoorBAlive
namespace Go.Proofs.YtillnjhmdgmgeaaDoor
set_option linter.unusedVariables false
set_option linter.unusedSimpArgs false
open Go.RowKit
set_option maxHeartbeats 8000000 in
set_option maxRecDepth 100000 in
theorem law_LabelBack (ta : ByteArray) (W : World) (wta : ta.size ≤ maxLen) :
    Calls Tryd.prog 5 #[.string ta] W fun e w' => e = .returned (.bool true) ∧ Below W.heap.size W w' := by
  obtain ⟨a, rfl⟩ : ∃ v : List UInt8, ta = strB v := ⟨ta.data.toList, by unfold strB; rw [Array.toArray_toList]⟩
  have ha1 : (strB a).size = a.length := strB_sz a
  have ha2 : (strB a).size ≤ 9223372036854775807 := by unfold maxLen at wta; omega
  have Za := Lib.hid ha1
  clear ha1 wta
  obtain ⟨⟨t, er⟩, hHTX⟩ : ∃ z, Lab.text a = z := ⟨_, rfl⟩
  have HTX := Lib.hid hHTX
  clear hHTX
  have b := Below.refl W.heap.size W
  go_enter Tryd.func5, Tryd.ntmps5
  go_wp2_with fail
  refine (blalive_any W).mono ?_
  rintro e v1 ⟨rfl, hb⟩
  replace b := b.trans (hb.mono b.size)
  clear hb
  by_cases ga : 600 < (strB a).size
  · have da : decide (600 < (((strB a).size : Nat) : Int)) = true := decide_eq_true (by omega)
    go_wp2
    go_ret
    exact ⟨rfl, b⟩
  have da : decide (600 < (((strB a).size : Nat) : Int)) = false := decide_eq_false (by omega)
  have len_a : a.length ≤ 600 := by have := Za.out; omega
  have La : Hid (a.length ≤ 100000) := Lib.hid (by omega)
  go_wp2_with fail
  refine (bltext_at HTX.out La.out v1).mono ?_
  rintro e v2 ⟨rfl, hb⟩
  replace b := b.trans (hb.mono b.size)
  clear hb
  by_cases he : er = 0
  rotate_left
  · have t1 : (er != 0) = true := bne_iff_ne.2 he
    have ht := Lab.text_err (s := a) (by rw [HTX.out]; exact he)
    rw [HTX.out] at ht
    simp only at ht
    have q1 : (strB t == (⟨#[]⟩ : ByteArray)) = true := by rw [ht]; rfl
    have q2 : t.isEmpty = true := by rw [ht]; rfl
    clear he ht
    go_wp2
    go_ret
    exact ⟨rfl, b⟩
  have hti := Lab.text_is (s := a) (by rw [HTX.out]; exact he)
  rw [HTX.out] at hti
  subst he
  obtain ⟨l, ol, hl, hb2, hsh⟩ := hti
  simp only at hsh
  have HOF : Hid (Lab.of t = (a, 0)) := Lib.hid (by rw [hsh, Lab.of_shown ol hb2, hl])
  have HTL : Hid (t.length ≤ 100000) := Lib.hid (by rw [hsh]; have := Lab.shown_len ol; omega)
  have HLB : Hid (Lab.labels a = l) := Lib.hid (by rw [← hl]; exact Lab.labels_names ol)
  have HJN : Hid (Lab.join l = (a, 0)) := Lib.hid (by rw [Lab.join_ok ol, hl])
  have HLS : Hid (∀ x ∈ l, x.length ≤ 100000) := Lib.hid (fun x hx => by have := (ol.1 x hx).2; omega)
  have HLN : Hid (l.length ≤ 254) := Lib.hid (Lab.ok_few ol)
  obtain ⟨lo, hlo⟩ : ∃ z, Lab.lower a = z := ⟨_, rfl⟩
  have HLO := Lib.hid hlo
  have HLL : Hid (Lab.lower lo = lo) := Lib.hid (by rw [← hlo]; exact Lab.lower_lower a)
  have HOL : Hid (lo.length ≤ 100000) := Lib.hid (by rw [← hlo, Lab.lower_len]; exact La.out)
  clear ol hl hb2 hsh hlo
  go_wp2_with fail
  refine (blof_at HOF.out HTL.out v2).mono ?_
  rintro e v3 ⟨rfl, hb⟩
  replace b := b.trans (hb.mono b.size)
  clear hb
  go_wp2_with fail
  refine (bllabels_at HLB.out La.out v3).mono ?_
  rintro e v4 ⟨⟨A1, n1, c1, rfl, hn1, R1, hc3⟩, hb⟩
  replace b := b.trans (hb.mono b.size)
  have N1 : Hid (n1 ≤ 100000) := Lib.hid (by rw [hn1]; have := HLN.out; omega)
  clear hb hn1 hc3
  go_wp2_with fail
  refine (bljoin_at HJN.out A1 n1 c1 v4 R1 N1.out HLS.out).mono ?_
  rintro e v5 ⟨rfl, hb⟩
  replace b := b.trans (hb.mono b.size)
  clear hb
  go_wp2_with fail
  refine (bllower_at HLO.out La.out v5).mono ?_
  rintro e v6 ⟨rfl, hb⟩
  replace b := b.trans (hb.mono b.size)
  clear hb
  go_wp2_with fail
  refine (bllower_at HLL.out HOL.out v6).mono ?_
  rintro e v7 ⟨rfl, hb⟩
  replace b := b.trans (hb.mono b.size)
  clear hb
  go_wp2_with fail
  refine (bllower_at HLO.out La.out v7).mono ?_
  rintro e v8 ⟨rfl, hb⟩
  replace b := b.trans (hb.mono b.size)
  clear hb
  go_wp2
  go_ret
  exact ⟨ret_bool (by simp), b⟩
end Go.Proofs.YtillnjhmdgmgeaaDoor
