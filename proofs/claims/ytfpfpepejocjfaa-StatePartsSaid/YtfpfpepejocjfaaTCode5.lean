/- The code's next and Beat on states. -/
import Derived.Test.YtfpfpepejocjfaaTCode4
namespace Go.Proofs.Ytfpfpepejocjfaa
set_option linter.unusedVariables false
set_option linter.unusedSimpArgs false
open Go.RowKit

/-- what next answers -/
noncomputable def snext (s : St) : Int × Int := if srightB s = true then (if S.top s = 1099511627776 then (0, 11) else (S.top s + 1, 0)) else (0, 1)
set_option maxHeartbeats 2000000 in
set_option maxRecDepth 20000 in
theorem snext_any (v : Sv) (w : World) (h : SRd w v) (hn : v.n ≤ 400000) :
    Calls Try.prog 40 #[sv v] w fun e w' => e = .returned (.tuple #[.int .i64 (snext v.s).1, .int .i64 (snext v.s).2]) ∧ Below w.heap.size w w' := by
  obtain ⟨⟨g, t, l⟩, A, n, c⟩ := v
  simp only at hn
  simp only [sv]
  replace h := h.alloc (.cells #[.int .i64 g, .int .i64 t, .slice A n c] 24)
  have X := Box.new w #[.int .i64 g, .int .i64 t, .slice A n c] 24
  have hb : Below w.heap.size w (w.alloc (.cells #[.int .i64 g, .int .i64 t, .slice A n c] 24)) := (Below.refl _ _).alloc (Nat.le_refl _) _
  have HS : Hid ((w.alloc (.cells #[.int .i64 g, .int .i64 t, .slice A n c] 24)).heap.size = w.heap.size + 1) := Lib.hid (by simp)
  replace HS : Hid (w.heap.size + 1 ≤ _) := Lib.hid (Nat.le_of_eq HS.out.symm)
  have y0 := X.at 0 rfl
  have y1 := X.at 1 rfl
  have y2 := X.at 2 rfl
  go_enter Try.func40, Try.ntmps40
  go_wp2_with fail
  generalize w.alloc (.cells #[.int .i64 g, .int .i64 t, .slice A n c] 24) = w1 at *
  refine (sright_any ⟨⟨g, t, l⟩, A, n, c⟩ _ h (by show n * 32 ≤ _; omega)).mono ?_
  rintro e w2 ⟨rfl, hb2⟩
  clear y0 y1 y2
  have hz := HS.out
  replace X := X.below hb2 (by omega)
  replace h := h.belowH hb2
  replace HS : Hid (w.heap.size + 1 ≤ _) := Lib.hid (Nat.le_trans HS.out hb2.size)
  replace hb := hb.trans (hb2.mono hb.size)
  clear hz hb2
  rcases hr : srightB ⟨g, t, l⟩
  · have HE : Hid (snext ⟨g, t, l⟩ = (0, 1)) := Lib.hid (by unfold snext; simp [hr])
    clear hr
    go_wp2
    go_ret2
    exact ⟨by rw [HE.out]; rfl, hb⟩
  · have HRT := Lib.hid (srightB_out hr)
    have HRB := Lib.hid hr
    have ht0 := S.top_nonneg ⟨g, t, l⟩
    have ht1 := S.top_right HRT.out
    clear hr
    have y0 := X.at 0 rfl
    have y1 := X.at 1 rfl
    have y2 := X.at 2 rfl
    go_wp2_with fail
    refine (stop_any ⟨⟨g, t, l⟩, A, n, c⟩ _ h (by show n * 32 ≤ _; omega)).mono ?_
    rintro e w3 ⟨rfl, hb2⟩
    clear y0 y1 y2
    have hz := HS.out
    replace X := X.below hb2 (by omega)
    replace h := h.belowH hb2
    replace HS : Hid (w.heap.size + 1 ≤ _) := Lib.hid (Nat.le_trans HS.out hb2.size)
    replace hb := hb.trans (hb2.mono hb.size)
    clear hz hb2
    by_cases htt : S.top ⟨g, t, l⟩ = 1099511627776
    · have tq : (S.top ⟨g, t, l⟩ == 1099511627776) = true := beq_iff_eq.2 htt
      have HE : Hid (snext ⟨g, t, l⟩ = (0, 11)) := Lib.hid (by unfold snext; rw [if_pos HRB.out, if_pos htt])
      clear htt ht0 ht1
      go_wp2
      go_ret2
      exact ⟨by rw [HE.out]; rfl, hb⟩
    · have tq : (S.top ⟨g, t, l⟩ == 1099511627776) = false := beq_eq_false_iff_ne.2 htt
      have HE : Hid (snext ⟨g, t, l⟩ = (S.top ⟨g, t, l⟩ + 1, 0)) := Lib.hid (by unfold snext; rw [if_pos HRB.out, if_neg htt])
      clear htt
      go_wp2
      go_ret2
      exact ⟨by rw [HE.out]; rfl, hb⟩

theorem snext_cases (s : St) : (∃ e, snext s = (0, e) ∧ e ≠ 0 ∧ (e = 1 ∨ e = 11) ∧ sbeat s = (s, e) ∧ (e = 1 → srightB s = false) ∧ (e = 11 → srightB s = true ∧ S.top s = 1099511627776)) ∨ (snext s = (S.top s + 1, 0) ∧ sbeat s = (S.beaten s, 0) ∧ srightB s = true ∧ S.top s ≠ 1099511627776) := by
  rcases hr : srightB s
  · refine Or.inl ⟨1, ?_, by decide, Or.inl rfl, ?_, fun _ => rfl, fun h => absurd h (by decide)⟩
    · unfold snext; simp [hr]
    · unfold sbeat; simp [hr]
  · by_cases ht : S.top s = 1099511627776
    · refine Or.inl ⟨11, ?_, by decide, Or.inr rfl, ?_, fun h => absurd h (by decide), fun _ => ⟨rfl, ht⟩⟩
      · unfold snext; rw [if_pos hr, if_pos ht]
      · unfold sbeat; rw [if_pos hr, if_pos ht]
    · refine Or.inr ⟨?_, ?_, rfl, ht⟩
      · unfold snext; rw [if_pos hr, if_neg ht]
      · unfold sbeat; rw [if_pos hr, if_neg ht]

set_option maxHeartbeats 2000000 in
set_option maxRecDepth 20000 in
theorem sbeat_any (v : Sv) (w : World) (h : SRd w v) (hn : v.n ≤ 400000) :
    Calls Try.prog 23 #[sv v] w (MadeE w (sbeat v.s)) := by
  obtain ⟨⟨g, t, l⟩, A, n, c⟩ := v
  simp only at hn
  simp only [sv]
  replace h := h.alloc (.cells #[.int .i64 g, .int .i64 t, .slice A n c] 24)
  have X := Box.new w #[.int .i64 g, .int .i64 t, .slice A n c] 24
  have hb : Below w.heap.size w (w.alloc (.cells #[.int .i64 g, .int .i64 t, .slice A n c] 24)) := (Below.refl _ _).alloc (Nat.le_refl _) _
  replace h := h.alloc (.cells #[.int .i64 0, .int .i64 0, .slice none 0 0] 24)
  replace X := X.alloc (.cells #[.int .i64 0, .int .i64 0, .slice none 0 0] 24)
  have Z := Box.new (w.alloc (.cells #[.int .i64 g, .int .i64 t, .slice A n c] 24)) #[.int .i64 0, .int .i64 0, .slice none 0 0] 24
  rw [show (w.alloc (.cells #[.int .i64 g, .int .i64 t, .slice A n c] 24)).heap.size = w.heap.size + 1 by simp] at Z
  replace hb := hb.alloc hb.size (.cells #[.int .i64 0, .int .i64 0, .slice none 0 0] 24)
  have HS : Hid (((w.alloc (.cells #[.int .i64 g, .int .i64 t, .slice A n c] 24)).alloc (.cells #[.int .i64 0, .int .i64 0, .slice none 0 0] 24)).heap.size = w.heap.size + 2) := Lib.hid (by simp)
  replace HS : Hid (w.heap.size + 2 ≤ _) := Lib.hid (Nat.le_of_eq HS.out.symm)
  have y0 := X.at 0 rfl
  have y1 := X.at 1 rfl
  have y2 := X.at 2 rfl
  go_enter Try.func23, Try.ntmps23
  go_wp2_with fail
  generalize (w.alloc (.cells #[.int .i64 g, .int .i64 t, .slice A n c] 24)).alloc (.cells #[.int .i64 0, .int .i64 0, .slice none 0 0] 24) = w1 at *
  refine (scopy_any ⟨⟨g, t, l⟩, A, n, c⟩ _ h (by show n ≤ _; omega)).mono ?_
  rintro e w4 ⟨⟨s2, A2, n2, c2⟩, rfl, hs2, hown, hb2⟩
  simp only at hs2
  subst hs2
  clear y0 y1 y2
  have hbase : w.heap.size + 2 ≤ w1.heap.size := HS.out
  have hz := HS.out
  replace X := X.below hb2 (by omega)
  replace Z := Z.below hb2 (by omega)
  replace h := h.belowH hb2
  replace HS : Hid (w.heap.size + 2 ≤ _) := Lib.hid (Nat.le_trans HS.out hb2.size)
  replace hb := hb.trans (hb2.mono hb.size)
  clear hz hb2
  have hob : (Value.slice A2 n2 c2).ownBlock ≠ some w4.heap.size := fun e => by have := (show w4.ownsRow w1.heap.size 42 3 (.slice A2 n2 c2) n2 (EC l) from hown).lt _ e; omega
  have O := Box.new w4 #[.int .i64 g, .int .i64 t, .slice A2 n2 c2] 24
  have hown5 := (show w4.ownsRow w1.heap.size 42 3 (.slice A2 n2 c2) n2 (EC l) from hown).alloc (.cells #[.int .i64 g, .int .i64 t, .slice A2 n2 c2] 24)
  replace X := X.alloc (.cells #[.int .i64 g, .int .i64 t, .slice A2 n2 c2] 24)
  replace Z := Z.alloc (.cells #[.int .i64 g, .int .i64 t, .slice A2 n2 c2] 24)
  replace h := h.alloc (.cells #[.int .i64 g, .int .i64 t, .slice A2 n2 c2] 24)
  replace hb := hb.alloc hb.size (.cells #[.int .i64 g, .int .i64 t, .slice A2 n2 c2] 24)
  have hs4 : w.heap.size + 2 ≤ w4.heap.size := HS.out
  have hs5 : w4.heap.size < (w4.alloc (.cells #[.int .i64 g, .int .i64 t, .slice A2 n2 c2] 24)).heap.size := by simp
  clear HS hown
  simp only [sv]
  have y0 := X.at 0 rfl
  have y1 := X.at 1 rfl
  have y2 := X.at 2 rfl
  go_wp2_with fail
  generalize w4.alloc (.cells #[.int .i64 g, .int .i64 t, .slice A2 n2 c2] 24) = w5 at *
  refine (snext_any ⟨⟨g, t, l⟩, A, n, c⟩ _ h (by show n ≤ _; omega)).mono ?_
  rintro e w6 ⟨rfl, hb2⟩
  clear y0 y1 y2
  replace O := O.below hb2 hs5
  replace X := X.below hb2 (by omega)
  replace Z := Z.below hb2 (by omega)
  have hown6 := own_below hown5 hb2
  replace hb := hb.trans (hb2.mono hb.size)
  clear hb2 h hown5
  have z0 := Z.at 0 rfl
  have z1 := Z.at 1 rfl
  have z2 := Z.at 2 rfl
  have zf := Z.cold
  have z := Z.lt
  have o0 := O.at 0 rfl
  have o1 := O.at 1 rfl
  have o2 := O.at 2 rfl
  have of := O.cold
  have oz := O.lt
  have hne : w4.heap.size ≠ w.heap.size + 1 := by omega
  have hne' : w.heap.size + 1 ≠ w4.heap.size := by omega
  rcases snext_cases ⟨g, t, l⟩ with ⟨e, hE, he0, _, hB, _, _⟩ | ⟨hE, hB, _, _⟩
  · have HB := Lib.hid hB
    have HE := Lib.hid hE
    have tq : (e == 0) = false := beq_eq_false_iff_ne.2 he0
    clear hB hE he0
    simp only [HE.out]
    go_wp2
    refine bodyPost_ret (v := .tuple #[sv ⟨⟨g, t, l⟩, A2, n2, c2⟩, .int .i64 e]) (by simp [results, Try.results23, go_sem, z0, z1, z2, z, o0, o1, o2, sv, S.beaten, hne, hne']; try rfl) rfl ?_
    refine ⟨⟨⟨g, t, l⟩, A2, n2, c2⟩, by rw [HB.out], by rw [HB.out], ?_, ?_⟩
    · refine Rd.of_own (base := w1.heap.size) (e := 42) (c := c2) ?_
      show World.ownsRow _ _ _ 3 (.slice A2 n2 c2) n2 (EC l)
      repeat (first | (with_reducible exact hown6) | (with_reducible refine own_set ?_ (by omega) _) | (with_reducible refine own_setO ?_ hob _))
    · repeat (first | (with_reducible exact hb) | (with_reducible refine below_set ?_ (by omega) _))
  · have HB := Lib.hid hB
    have HE := Lib.hid hE
    clear hB hE
    simp only [HE.out]
    go_wp2
    refine bodyPost_ret (v := .tuple #[sv ⟨S.beaten ⟨g, t, l⟩, A2, n2, c2⟩, .int .i64 0]) (by simp [results, Try.results23, go_sem, z0, z1, z2, z, o0, o1, o2, sv, S.beaten, hne, hne']; try rfl) rfl ?_
    refine ⟨⟨S.beaten ⟨g, t, l⟩, A2, n2, c2⟩, by rw [HB.out], by rw [HB.out], ?_, ?_⟩
    · refine Rd.of_own (base := w1.heap.size) (e := 42) (c := c2) ?_
      show World.ownsRow _ _ _ 3 (.slice A2 n2 c2) n2 (EC l)
      repeat (first | (with_reducible exact hown6) | (with_reducible refine own_set ?_ (by omega) _) | (with_reducible refine own_setO ?_ hob _))
    · repeat (first | (with_reducible exact hb) | (with_reducible refine below_set ?_ (by omega) _))
end Go.Proofs.Ytfpfpepejocjfaa
