/- The walk of label's law on what is under what. -/
import Derived.Test.YtillnjhmdgmgeaaDoorBAlive
namespace Go.Proofs.YtillnjhmdgmgeaaDoor
set_option linter.unusedVariables false
set_option linter.unusedSimpArgs false
open Go.RowKit
set_option maxHeartbeats 8000000 in
set_option maxRecDepth 100000 in
theorem law_LabelUnders (ta tb tt : ByteArray) (W : World) (wta : ta.size ≤ maxLen) (wtb : tb.size ≤ maxLen) (wtt : tt.size ≤ maxLen) :
    Calls Tryd.prog 6 #[.string ta, .string tb, .string tt] W fun e w' => e = .returned (.bool true) ∧ Below W.heap.size W w' := by
  obtain ⟨a, rfl⟩ : ∃ v : List UInt8, ta = strB v := ⟨ta.data.toList, by unfold strB; rw [Array.toArray_toList]⟩
  have ha1 : (strB a).size = a.length := strB_sz a
  have ha2 : (strB a).size ≤ 9223372036854775807 := by unfold maxLen at wta; omega
  have Za := Lib.hid ha1
  clear ha1 wta
  obtain ⟨c, rfl⟩ : ∃ v : List UInt8, tb = strB v := ⟨tb.data.toList, by unfold strB; rw [Array.toArray_toList]⟩
  have hc1 : (strB c).size = c.length := strB_sz c
  have hc2 : (strB c).size ≤ 9223372036854775807 := by unfold maxLen at wtb; omega
  have Zc := Lib.hid hc1
  clear hc1 wtb
  obtain ⟨d, rfl⟩ : ∃ v : List UInt8, tt = strB v := ⟨tt.data.toList, by unfold strB; rw [Array.toArray_toList]⟩
  have hd1 : (strB d).size = d.length := strB_sz d
  have hd2 : (strB d).size ≤ 9223372036854775807 := by unfold maxLen at wtt; omega
  have Zd := Lib.hid hd1
  clear hd1 wtt
  obtain ⟨uac, hUAC⟩ : ∃ z, Lab.under a c = z := ⟨_, rfl⟩
  have UAC := Lib.hid hUAC
  clear hUAC
  obtain ⟨ucd, hUCD⟩ : ∃ z, Lab.under c d = z := ⟨_, rfl⟩
  have UCD := Lib.hid hUCD
  clear hUCD
  obtain ⟨uad, hUAD⟩ : ∃ z, Lab.under a d = z := ⟨_, rfl⟩
  have UAD := Lib.hid hUAD
  clear hUAD
  obtain ⟨uca, hUCA⟩ : ∃ z, Lab.under c a = z := ⟨_, rfl⟩
  have UCA := Lib.hid hUCA
  clear hUCA
  obtain ⟨sac, hSAC⟩ : ∃ z, Lab.same a c = z := ⟨_, rfl⟩
  have SAC := Lib.hid hSAC
  clear hSAC
  obtain ⟨zr, hHR⟩ : ∃ z, Lab.right a = z := ⟨_, rfl⟩
  have HR := Lib.hid hHR
  clear hHR
  obtain ⟨la, hHL⟩ : ∃ z, Lab.labels a = z := ⟨_, rfl⟩
  have HL := Lib.hid hHL
  clear hHL
  obtain ⟨lo, hHLO⟩ : ∃ z, Lab.lower a = z := ⟨_, rfl⟩
  have HLO := Lib.hid hHLO
  clear hHLO
  have HFL : Hid (la.length ≤ 254) := Lib.hid (by rw [← HL.out]; exact labels_few a)
  obtain ⟨⟨x, er⟩, hj⟩ : ∃ z, Lab.join ([120] :: la) = z := ⟨_, rfl⟩
  have HJ := Lib.hid hj
  clear hj
  have own0 := fun w : World => World.ownsRow_lit (base := w.heap.size) (e := 9) (size := 1) w #[.string ⟨#[120]⟩] 1 (Nat.le_refl _) (by decide) rfl
  have b := Below.refl W.heap.size W
  go_enter Tryd.func6, Tryd.ntmps6
  go_wp2_with fail
  refine (blalive_any W).mono ?_
  rintro e v1 ⟨rfl, hb⟩
  replace b := b.trans (hb.mono b.size)
  clear hb
  by_cases ga : 200 < (strB a).size
  · have da : decide (200 < (((strB a).size : Nat) : Int)) = true := decide_eq_true (by omega)
    go_wp2
    go_ret
    exact ⟨rfl, b⟩
  have da : decide (200 < (((strB a).size : Nat) : Int)) = false := decide_eq_false (by omega)
  have len_a : a.length ≤ 200 := by have := Za.out; omega
  have La : Hid (a.length ≤ 100000) := Lib.hid (by omega)
  by_cases gc : 200 < (strB c).size
  · have dc : decide (200 < (((strB c).size : Nat) : Int)) = true := decide_eq_true (by omega)
    go_wp2
    go_ret
    exact ⟨rfl, b⟩
  have dc : decide (200 < (((strB c).size : Nat) : Int)) = false := decide_eq_false (by omega)
  have len_c : c.length ≤ 200 := by have := Zc.out; omega
  have Lc : Hid (c.length ≤ 100000) := Lib.hid (by omega)
  by_cases gd : 200 < (strB d).size
  · have dd : decide (200 < (((strB d).size : Nat) : Int)) = true := decide_eq_true (by omega)
    go_wp2
    go_ret
    exact ⟨rfl, b⟩
  have dd : decide (200 < (((strB d).size : Nat) : Int)) = false := decide_eq_false (by omega)
  have len_d : d.length ≤ 200 := by have := Zd.out; omega
  have Ld : Hid (d.length ≤ 100000) := Lib.hid (by omega)
  have HLS : Hid (∀ y ∈ [120] :: la, y.length ≤ 100000) := Lib.hid (fun y hy => by
    rcases List.mem_cons.1 hy with rfl | hy
    · decide
    · rw [← HL.out] at hy
      cases hc : Lab.cut a with
      | none => unfold Lab.labels at hy; rw [hc] at hy; simp at hy
      | some l =>
        unfold Lab.labels at hy; rw [hc] at hy
        have := ((Lab.cut_some hc).1.1 y hy).2
        omega)
  have HXL : Hid (x.length ≤ 100000) := Lib.hid (by
    have h1 : x = (Lab.join ([120] :: la)).1 := by rw [HJ.out]
    rw [h1]
    unfold Lab.join
    split
    · simp
    · split
      · rename_i h2; have := h2.2; simp only; omega
      · simp)
  have HLOL : Hid (lo.length ≤ 100000) := Lib.hid (by rw [← HLO.out, Lab.lower_len]; exact La.out)
  have TR : Hid (uac = true → ucd = true → uad = true) := Lib.hid (fun h1 h2 => by rw [← UAD.out]; exact Lab.under_trans (UAC.out.trans h1) (UCD.out.trans h2))
  have BO : Hid (uac = true → uca = true → sac = true) := Lib.hid (fun h1 h2 => by rw [← SAC.out]; exact Lab.under_both (UAC.out.trans h1) (UCA.out.trans h2))
  have AH : Hid (zr = true → er = 0 ∧ Lab.under x a = true ∧ Lab.under a x = false ∧ Lab.under x lo = true) := Lib.hid (fun h => by
    have h1 := Lab.ahead (a := a) (x := [120]) (by decide) (HR.out.trans h) (by show a.length + 1 + 1 ≤ 255; omega)
    rw [HL.out] at h1
    obtain ⟨h2, h3, h4, h5⟩ := h1
    have h6 := Lab.join_ok h2
    rw [HJ.out] at h6
    injection h6 with h7 h8
    rw [← h7] at h3 h4 h5
    rw [HLO.out] at h5
    exact ⟨h8, h3, h4, h5⟩)
  clear ga gc gd
  cases uac
  · skip
    go_wp2_with fail
    refine (blunder_at UAC.out La.out Lc.out v1).mono ?_
    rintro e v2 ⟨rfl, hb⟩
    replace b := b.trans (hb.mono b.size)
    clear hb
    go_wp2_with fail
    refine (blunder_at UAC.out La.out Lc.out v2).mono ?_
    rintro e v3 ⟨rfl, hb⟩
    replace b := b.trans (hb.mono b.size)
    clear hb
    have O0 := own0 v3
    have b0 := b.alloc b.size (.cells #[.string ⟨#[120]⟩] 9)
    go_wp2_with fail
    refine (bllabels_at HL.out La.out _).mono ?_
    rintro e y1 ⟨⟨A1, n1, c1, rfl, hn1, R1, hc3⟩, hb⟩
    have N1 : Hid (n1 ≤ 254) := Lib.hid (by rw [hn1]; exact HFL.out)
    have hn1b : n1 ≤ 254 := N1.out
    clear hn1
    have O1 := own_belowB O0 hb
    have hsz : v3.heap.size ≤ y1.heap.size := by have := hb.size; simp at this; omega
    have b1 := b0.trans (hb.mono b0.size)
    clear O0 b0 hb
    go_wp2_with (at_builtin; refine app_law strT rfl (.tmp 55) (.tmp 57) rfl v3.heap.size rfl O1 rfl R1 (Tt_one la) (by omega) (by omega) hsz ?_; rintro A2 c2 y2 ⟨O2, hg2, _, _⟩)
    have R2 : Rd y2 y2.heap.size 1 A2 (1 + n1) (Tt ([120] :: la)) := Rd.of_own O2
    have b2 := below_app b1 O1 hg2 b.size hsz
    refine (bljoin_at HJ.out A2 _ c2 y2 R2 (by omega) HLS.out).mono ?_
    rintro e y3 ⟨rfl, hb⟩
    replace b := b2.trans (hb.mono b2.size)
    clear hb b1 b2 O1 O2 R1 R2 hg2 own0
    go_wp2_with fail
    refine (blright_at HR.out La.out y3).mono ?_
    rintro e y4 ⟨rfl, hb⟩
    replace b := b.trans (hb.mono b.size)
    clear hb
    cases zr
    · go_wp2
      go_ret
      exact ⟨rfl, b⟩
    obtain ⟨e0, U1, U2, U3⟩ := AH.out rfl
    have U1 := Lib.hid U1
    have U2 := Lib.hid U2
    have U3 := Lib.hid U3
    subst e0
    go_wp2_with fail
    refine (blunder_at U1.out HXL.out La.out y4).mono ?_
    rintro e y5 ⟨rfl, hb⟩
    replace b := b.trans (hb.mono b.size)
    clear hb
    go_wp2_with fail
    refine (blunder_at U2.out La.out HXL.out y5).mono ?_
    rintro e y6 ⟨rfl, hb⟩
    replace b := b.trans (hb.mono b.size)
    clear hb
    go_wp2_with fail
    refine (bllower_at HLO.out La.out y6).mono ?_
    rintro e y7 ⟨rfl, hb⟩
    replace b := b.trans (hb.mono b.size)
    clear hb
    go_wp2_with fail
    refine (blunder_at U3.out HXL.out HLOL.out y7).mono ?_
    rintro e y8 ⟨rfl, hb⟩
    replace b := b.trans (hb.mono b.size)
    clear hb
    go_wp2
    go_ret
    exact ⟨rfl, b⟩
  cases ucd
  · skip
    cases uca
    · skip
      go_wp2_with fail
      refine (blunder_at UAC.out La.out Lc.out v1).mono ?_
      rintro e v2 ⟨rfl, hb⟩
      replace b := b.trans (hb.mono b.size)
      clear hb
      go_wp2_with fail
      refine (blunder_at UCD.out Lc.out Ld.out v2).mono ?_
      rintro e v3 ⟨rfl, hb⟩
      replace b := b.trans (hb.mono b.size)
      clear hb
      go_wp2_with fail
      refine (blunder_at UAC.out La.out Lc.out v3).mono ?_
      rintro e v4 ⟨rfl, hb⟩
      replace b := b.trans (hb.mono b.size)
      clear hb
      go_wp2_with fail
      refine (blunder_at UCA.out Lc.out La.out v4).mono ?_
      rintro e v5 ⟨rfl, hb⟩
      replace b := b.trans (hb.mono b.size)
      clear hb
      have O0 := own0 v5
      have b0 := b.alloc b.size (.cells #[.string ⟨#[120]⟩] 9)
      go_wp2_with fail
      refine (bllabels_at HL.out La.out _).mono ?_
      rintro e y1 ⟨⟨A1, n1, c1, rfl, hn1, R1, hc3⟩, hb⟩
      have N1 : Hid (n1 ≤ 254) := Lib.hid (by rw [hn1]; exact HFL.out)
      have hn1b : n1 ≤ 254 := N1.out
      clear hn1
      have O1 := own_belowB O0 hb
      have hsz : v5.heap.size ≤ y1.heap.size := by have := hb.size; simp at this; omega
      have b1 := b0.trans (hb.mono b0.size)
      clear O0 b0 hb
      go_wp2_with (at_builtin; refine app_law strT rfl (.tmp 55) (.tmp 57) rfl v5.heap.size rfl O1 rfl R1 (Tt_one la) (by omega) (by omega) hsz ?_; rintro A2 c2 y2 ⟨O2, hg2, _, _⟩)
      have R2 : Rd y2 y2.heap.size 1 A2 (1 + n1) (Tt ([120] :: la)) := Rd.of_own O2
      have b2 := below_app b1 O1 hg2 b.size hsz
      refine (bljoin_at HJ.out A2 _ c2 y2 R2 (by omega) HLS.out).mono ?_
      rintro e y3 ⟨rfl, hb⟩
      replace b := b2.trans (hb.mono b2.size)
      clear hb b1 b2 O1 O2 R1 R2 hg2 own0
      go_wp2_with fail
      refine (blright_at HR.out La.out y3).mono ?_
      rintro e y4 ⟨rfl, hb⟩
      replace b := b.trans (hb.mono b.size)
      clear hb
      cases zr
      · go_wp2
        go_ret
        exact ⟨rfl, b⟩
      obtain ⟨e0, U1, U2, U3⟩ := AH.out rfl
      have U1 := Lib.hid U1
      have U2 := Lib.hid U2
      have U3 := Lib.hid U3
      subst e0
      go_wp2_with fail
      refine (blunder_at U1.out HXL.out La.out y4).mono ?_
      rintro e y5 ⟨rfl, hb⟩
      replace b := b.trans (hb.mono b.size)
      clear hb
      go_wp2_with fail
      refine (blunder_at U2.out La.out HXL.out y5).mono ?_
      rintro e y6 ⟨rfl, hb⟩
      replace b := b.trans (hb.mono b.size)
      clear hb
      go_wp2_with fail
      refine (bllower_at HLO.out La.out y6).mono ?_
      rintro e y7 ⟨rfl, hb⟩
      replace b := b.trans (hb.mono b.size)
      clear hb
      go_wp2_with fail
      refine (blunder_at U3.out HXL.out HLOL.out y7).mono ?_
      rintro e y8 ⟨rfl, hb⟩
      replace b := b.trans (hb.mono b.size)
      clear hb
      go_wp2
      go_ret
      exact ⟨rfl, b⟩
    · have e5 := BO.out rfl rfl
      subst e5
      go_wp2_with fail
      refine (blunder_at UAC.out La.out Lc.out v1).mono ?_
      rintro e v2 ⟨rfl, hb⟩
      replace b := b.trans (hb.mono b.size)
      clear hb
      go_wp2_with fail
      refine (blunder_at UCD.out Lc.out Ld.out v2).mono ?_
      rintro e v3 ⟨rfl, hb⟩
      replace b := b.trans (hb.mono b.size)
      clear hb
      go_wp2_with fail
      refine (blunder_at UAC.out La.out Lc.out v3).mono ?_
      rintro e v4 ⟨rfl, hb⟩
      replace b := b.trans (hb.mono b.size)
      clear hb
      go_wp2_with fail
      refine (blunder_at UCA.out Lc.out La.out v4).mono ?_
      rintro e v5 ⟨rfl, hb⟩
      replace b := b.trans (hb.mono b.size)
      clear hb
      go_wp2_with fail
      refine (blsame_at SAC.out La.out Lc.out v5).mono ?_
      rintro e v6 ⟨rfl, hb⟩
      replace b := b.trans (hb.mono b.size)
      clear hb
      have O0 := own0 v6
      have b0 := b.alloc b.size (.cells #[.string ⟨#[120]⟩] 9)
      go_wp2_with fail
      refine (bllabels_at HL.out La.out _).mono ?_
      rintro e y1 ⟨⟨A1, n1, c1, rfl, hn1, R1, hc3⟩, hb⟩
      have N1 : Hid (n1 ≤ 254) := Lib.hid (by rw [hn1]; exact HFL.out)
      have hn1b : n1 ≤ 254 := N1.out
      clear hn1
      have O1 := own_belowB O0 hb
      have hsz : v6.heap.size ≤ y1.heap.size := by have := hb.size; simp at this; omega
      have b1 := b0.trans (hb.mono b0.size)
      clear O0 b0 hb
      go_wp2_with (at_builtin; refine app_law strT rfl (.tmp 55) (.tmp 57) rfl v6.heap.size rfl O1 rfl R1 (Tt_one la) (by omega) (by omega) hsz ?_; rintro A2 c2 y2 ⟨O2, hg2, _, _⟩)
      have R2 : Rd y2 y2.heap.size 1 A2 (1 + n1) (Tt ([120] :: la)) := Rd.of_own O2
      have b2 := below_app b1 O1 hg2 b.size hsz
      refine (bljoin_at HJ.out A2 _ c2 y2 R2 (by omega) HLS.out).mono ?_
      rintro e y3 ⟨rfl, hb⟩
      replace b := b2.trans (hb.mono b2.size)
      clear hb b1 b2 O1 O2 R1 R2 hg2 own0
      go_wp2_with fail
      refine (blright_at HR.out La.out y3).mono ?_
      rintro e y4 ⟨rfl, hb⟩
      replace b := b.trans (hb.mono b.size)
      clear hb
      cases zr
      · go_wp2
        go_ret
        exact ⟨rfl, b⟩
      obtain ⟨e0, U1, U2, U3⟩ := AH.out rfl
      have U1 := Lib.hid U1
      have U2 := Lib.hid U2
      have U3 := Lib.hid U3
      subst e0
      go_wp2_with fail
      refine (blunder_at U1.out HXL.out La.out y4).mono ?_
      rintro e y5 ⟨rfl, hb⟩
      replace b := b.trans (hb.mono b.size)
      clear hb
      go_wp2_with fail
      refine (blunder_at U2.out La.out HXL.out y5).mono ?_
      rintro e y6 ⟨rfl, hb⟩
      replace b := b.trans (hb.mono b.size)
      clear hb
      go_wp2_with fail
      refine (bllower_at HLO.out La.out y6).mono ?_
      rintro e y7 ⟨rfl, hb⟩
      replace b := b.trans (hb.mono b.size)
      clear hb
      go_wp2_with fail
      refine (blunder_at U3.out HXL.out HLOL.out y7).mono ?_
      rintro e y8 ⟨rfl, hb⟩
      replace b := b.trans (hb.mono b.size)
      clear hb
      go_wp2
      go_ret
      exact ⟨rfl, b⟩
  · have e6 := TR.out rfl rfl
    subst e6
    cases uca
    · skip
      go_wp2_with fail
      refine (blunder_at UAC.out La.out Lc.out v1).mono ?_
      rintro e v2 ⟨rfl, hb⟩
      replace b := b.trans (hb.mono b.size)
      clear hb
      go_wp2_with fail
      refine (blunder_at UCD.out Lc.out Ld.out v2).mono ?_
      rintro e v3 ⟨rfl, hb⟩
      replace b := b.trans (hb.mono b.size)
      clear hb
      go_wp2_with fail
      refine (blunder_at UAD.out La.out Ld.out v3).mono ?_
      rintro e v4 ⟨rfl, hb⟩
      replace b := b.trans (hb.mono b.size)
      clear hb
      go_wp2_with fail
      refine (blunder_at UAC.out La.out Lc.out v4).mono ?_
      rintro e v5 ⟨rfl, hb⟩
      replace b := b.trans (hb.mono b.size)
      clear hb
      go_wp2_with fail
      refine (blunder_at UCA.out Lc.out La.out v5).mono ?_
      rintro e v6 ⟨rfl, hb⟩
      replace b := b.trans (hb.mono b.size)
      clear hb
      have O0 := own0 v6
      have b0 := b.alloc b.size (.cells #[.string ⟨#[120]⟩] 9)
      go_wp2_with fail
      refine (bllabels_at HL.out La.out _).mono ?_
      rintro e y1 ⟨⟨A1, n1, c1, rfl, hn1, R1, hc3⟩, hb⟩
      have N1 : Hid (n1 ≤ 254) := Lib.hid (by rw [hn1]; exact HFL.out)
      have hn1b : n1 ≤ 254 := N1.out
      clear hn1
      have O1 := own_belowB O0 hb
      have hsz : v6.heap.size ≤ y1.heap.size := by have := hb.size; simp at this; omega
      have b1 := b0.trans (hb.mono b0.size)
      clear O0 b0 hb
      go_wp2_with (at_builtin; refine app_law strT rfl (.tmp 55) (.tmp 57) rfl v6.heap.size rfl O1 rfl R1 (Tt_one la) (by omega) (by omega) hsz ?_; rintro A2 c2 y2 ⟨O2, hg2, _, _⟩)
      have R2 : Rd y2 y2.heap.size 1 A2 (1 + n1) (Tt ([120] :: la)) := Rd.of_own O2
      have b2 := below_app b1 O1 hg2 b.size hsz
      refine (bljoin_at HJ.out A2 _ c2 y2 R2 (by omega) HLS.out).mono ?_
      rintro e y3 ⟨rfl, hb⟩
      replace b := b2.trans (hb.mono b2.size)
      clear hb b1 b2 O1 O2 R1 R2 hg2 own0
      go_wp2_with fail
      refine (blright_at HR.out La.out y3).mono ?_
      rintro e y4 ⟨rfl, hb⟩
      replace b := b.trans (hb.mono b.size)
      clear hb
      cases zr
      · go_wp2
        go_ret
        exact ⟨rfl, b⟩
      obtain ⟨e0, U1, U2, U3⟩ := AH.out rfl
      have U1 := Lib.hid U1
      have U2 := Lib.hid U2
      have U3 := Lib.hid U3
      subst e0
      go_wp2_with fail
      refine (blunder_at U1.out HXL.out La.out y4).mono ?_
      rintro e y5 ⟨rfl, hb⟩
      replace b := b.trans (hb.mono b.size)
      clear hb
      go_wp2_with fail
      refine (blunder_at U2.out La.out HXL.out y5).mono ?_
      rintro e y6 ⟨rfl, hb⟩
      replace b := b.trans (hb.mono b.size)
      clear hb
      go_wp2_with fail
      refine (bllower_at HLO.out La.out y6).mono ?_
      rintro e y7 ⟨rfl, hb⟩
      replace b := b.trans (hb.mono b.size)
      clear hb
      go_wp2_with fail
      refine (blunder_at U3.out HXL.out HLOL.out y7).mono ?_
      rintro e y8 ⟨rfl, hb⟩
      replace b := b.trans (hb.mono b.size)
      clear hb
      go_wp2
      go_ret
      exact ⟨rfl, b⟩
    · have e5 := BO.out rfl rfl
      subst e5
      go_wp2_with fail
      refine (blunder_at UAC.out La.out Lc.out v1).mono ?_
      rintro e v2 ⟨rfl, hb⟩
      replace b := b.trans (hb.mono b.size)
      clear hb
      go_wp2_with fail
      refine (blunder_at UCD.out Lc.out Ld.out v2).mono ?_
      rintro e v3 ⟨rfl, hb⟩
      replace b := b.trans (hb.mono b.size)
      clear hb
      go_wp2_with fail
      refine (blunder_at UAD.out La.out Ld.out v3).mono ?_
      rintro e v4 ⟨rfl, hb⟩
      replace b := b.trans (hb.mono b.size)
      clear hb
      go_wp2_with fail
      refine (blunder_at UAC.out La.out Lc.out v4).mono ?_
      rintro e v5 ⟨rfl, hb⟩
      replace b := b.trans (hb.mono b.size)
      clear hb
      go_wp2_with fail
      refine (blunder_at UCA.out Lc.out La.out v5).mono ?_
      rintro e v6 ⟨rfl, hb⟩
      replace b := b.trans (hb.mono b.size)
      clear hb
      go_wp2_with fail
      refine (blsame_at SAC.out La.out Lc.out v6).mono ?_
      rintro e v7 ⟨rfl, hb⟩
      replace b := b.trans (hb.mono b.size)
      clear hb
      have O0 := own0 v7
      have b0 := b.alloc b.size (.cells #[.string ⟨#[120]⟩] 9)
      go_wp2_with fail
      refine (bllabels_at HL.out La.out _).mono ?_
      rintro e y1 ⟨⟨A1, n1, c1, rfl, hn1, R1, hc3⟩, hb⟩
      have N1 : Hid (n1 ≤ 254) := Lib.hid (by rw [hn1]; exact HFL.out)
      have hn1b : n1 ≤ 254 := N1.out
      clear hn1
      have O1 := own_belowB O0 hb
      have hsz : v7.heap.size ≤ y1.heap.size := by have := hb.size; simp at this; omega
      have b1 := b0.trans (hb.mono b0.size)
      clear O0 b0 hb
      go_wp2_with (at_builtin; refine app_law strT rfl (.tmp 55) (.tmp 57) rfl v7.heap.size rfl O1 rfl R1 (Tt_one la) (by omega) (by omega) hsz ?_; rintro A2 c2 y2 ⟨O2, hg2, _, _⟩)
      have R2 : Rd y2 y2.heap.size 1 A2 (1 + n1) (Tt ([120] :: la)) := Rd.of_own O2
      have b2 := below_app b1 O1 hg2 b.size hsz
      refine (bljoin_at HJ.out A2 _ c2 y2 R2 (by omega) HLS.out).mono ?_
      rintro e y3 ⟨rfl, hb⟩
      replace b := b2.trans (hb.mono b2.size)
      clear hb b1 b2 O1 O2 R1 R2 hg2 own0
      go_wp2_with fail
      refine (blright_at HR.out La.out y3).mono ?_
      rintro e y4 ⟨rfl, hb⟩
      replace b := b.trans (hb.mono b.size)
      clear hb
      cases zr
      · go_wp2
        go_ret
        exact ⟨rfl, b⟩
      obtain ⟨e0, U1, U2, U3⟩ := AH.out rfl
      have U1 := Lib.hid U1
      have U2 := Lib.hid U2
      have U3 := Lib.hid U3
      subst e0
      go_wp2_with fail
      refine (blunder_at U1.out HXL.out La.out y4).mono ?_
      rintro e y5 ⟨rfl, hb⟩
      replace b := b.trans (hb.mono b.size)
      clear hb
      go_wp2_with fail
      refine (blunder_at U2.out La.out HXL.out y5).mono ?_
      rintro e y6 ⟨rfl, hb⟩
      replace b := b.trans (hb.mono b.size)
      clear hb
      go_wp2_with fail
      refine (bllower_at HLO.out La.out y6).mono ?_
      rintro e y7 ⟨rfl, hb⟩
      replace b := b.trans (hb.mono b.size)
      clear hb
      go_wp2_with fail
      refine (blunder_at U3.out HXL.out HLOL.out y7).mono ?_
      rintro e y8 ⟨rfl, hb⟩
      replace b := b.trans (hb.mono b.size)
      clear hb
      go_wp2
      go_ret
      exact ⟨rfl, b⟩
end Go.Proofs.YtillnjhmdgmgeaaDoor
