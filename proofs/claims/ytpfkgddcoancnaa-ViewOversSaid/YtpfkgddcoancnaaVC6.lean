/- The code's Join and Over on views. -/
import Derived.Test.YtpfkgddcoancnaaVC4
import Derived.Test.YtpfkgddcoancnaaVC5
namespace Go.Proofs.Ytpfkgddcoancnaa
set_option linter.unusedVariables false
set_option linter.unusedSimpArgs false
open Go.RowKit

/-- what Join asks of the first view is what it would ask of what it has so far -/
theorem vget_sofar {l r : List Nm} (hl : V.rising l) (hr : V.rising r) {k : Nat} {y : Nm} (hy : r[k]? = some y) : V.get (V.join l (r.take k)) y.node = V.get l y.node := by
  rw [V.get_join hl (riseV_take hr k)]
  have : V.get (r.take k) y.node = none := by
    unfold V.get
    rw [List.find?_eq_none.2]
    · rfl
    · intro z hz
      obtain ⟨i, hi, rfl⟩ := List.mem_iff_getElem.1 hz
      have hi2 : i < k := by rw [List.length_take] at hi; omega
      have := riseV_at hr hi2 (x := (r.take k)[i]) (by rw [List.getElem_take]; exact List.getElem?_eq_getElem _) hy
      rw [List.getElem_take] at this ⊢
      simp; omega
  rw [this, V.comb_none]

set_option maxHeartbeats 8000000 in
set_option maxRecDepth 20000 in
theorem vjoin_any (U U' : Vw) (w : World) (h : VRd w U) (h' : VRd w U') (hra : V.right U.view) (hrb : V.right U'.view) : Calls Try.prog 28 #[vval U, vval U'] w (MadeV w (V.join U.view U'.view)) := by
  have HRA := Lib.hid hra
  have HRB := Lib.hid hrb
  have hf := right_fitR h hra
  have hn := right_n h hra
  have hn' := right_n h' hrb
  have HBL := Lib.hid h'.viewlen
  clear hra hrb
  obtain ⟨la, Aa, na, ca⟩ := U
  obtain ⟨l', A', n', c'⟩ := U'
  simp only at hn' hn
  have HFB := Lib.hid (right_fitR h' HRB.out)
  go_enter Try.func28, Try.ntmps28
  simp only [vval]
  go_wp2_with fail
  refine (vcopy_any ⟨la, Aa, na, ca⟩ w h (by show na ≤ _; omega) hf).mono ?_
  rintro e w1 ⟨V1, rfl, hv1, ho1, hb1⟩
  have HV1 := Lib.hid hv1
  have HOWN1 := Lib.hid ho1
  have HB1 := Lib.hid hb1
  clear hv1 ho1 hb1
  simp only [vval]
  go_wp2
  go_loopw [5, 15] (fun s i wr => ∃ (k : Nat) (Vo : Vw), k ≤ n' ∧ i = .int .i64 k ∧ s = .slice Vo.A Vo.n Vo.c ∧ Vo.view = V.join (Vw.view ⟨la, Aa, na, ca⟩) ((Vw.view ⟨l', A', n', c'⟩).take k) ∧ VOwn w.heap.size wr Vo ∧ Below w.heap.size w wr) (fun _ i _ => n' - (intOf i).toNat)
  case atStart => exact ⟨0, V1, by omega, rfl, rfl, HV1.out, HOWN1.out, HB1.out⟩
  case round =>
    obtain ⟨k, Vo, hk, rfl, rfl, hvo, hown, hbel⟩ := hrel
    have HVO := Lib.hid hvo
    have hbs := hbel.size
    have hrt : V.right Vo.view := by rw [hvo]; exact V.join_right HRA.out (right_takeV HRB.out k)
    have hno := right_n hown.vrd hrt
    have HRT := Lib.hid hrt
    have HFO := Lib.hid (right_fitR hown.vrd hrt)
    clear hvo hrt
    by_cases hlt : k < n'
    · obtain ⟨b, o, y, e1, hb, hy, hsy, c0, c1, c2, c3⟩ := (h'.belowH hbel).at hlt
      simp only at e1 hy
      subst e1
      have hk0 : (0 : Int) ≤ (k : Int) := by omega
      have hfy := HFB.out y (List.mem_of_getElem? hy)
      have HY : Hid ((Vw.view ⟨l', some ⟨b, o, none⟩, n', c'⟩)[k]? = some y.nm) := Lib.hid (nm_at hy)
      have HRY : Hid (V.may y.nm) := Lib.hid (HRB.out.1 _ (List.mem_map.2 ⟨y, List.mem_of_getElem? hy, rfl⟩))
      have hso := vget_sofar HRA.out.2 HRB.out.2 HY.out
      rw [← HVO.out] at hso
      have HSO : Hid (V.get Vo.view y.node = V.get (Vw.view ⟨la, Aa, na, ca⟩) y.node) := Lib.hid hso
      have hu := h.belowH hbel
      clear hy hso
      have X1 := Box.new wr #[.int .i64 y.node, .int .i64 y.v.s.gen, .int .i64 y.v.s.beat, .slice y.v.A y.v.n y.v.c] 45
      have hse : (wr.alloc (.cells #[.int .i64 y.node, .int .i64 y.v.s.gen, .int .i64 y.v.s.beat, .slice y.v.A y.v.n y.v.c] 45)).heap.size = wr.heap.size + 1 := by simp
      have S1 := Box.new (wr.alloc (.cells #[.int .i64 y.node, .int .i64 y.v.s.gen, .int .i64 y.v.s.beat, .slice y.v.A y.v.n y.v.c] 45)) #[.int .i64 y.v.s.gen, .int .i64 y.v.s.beat, .slice y.v.A y.v.n y.v.c] 27
      rw [hse] at S1
      replace X1 := X1.alloc (.cells #[.int .i64 y.v.s.gen, .int .i64 y.v.s.beat, .slice y.v.A y.v.n y.v.c] 27)
      have b1 := below2 wr (.cells #[.int .i64 y.node, .int .i64 y.v.s.gen, .int .i64 y.v.s.beat, .slice y.v.A y.v.n y.v.c] 45) (.cells #[.int .i64 y.v.s.gen, .int .i64 y.v.s.beat, .slice y.v.A y.v.n y.v.c] 27)
      have hs1 : wr.heap.size + 1 < ((wr.alloc (.cells #[.int .i64 y.node, .int .i64 y.v.s.gen, .int .i64 y.v.s.beat, .slice y.v.A y.v.n y.v.c] 45)).alloc (.cells #[.int .i64 y.v.s.gen, .int .i64 y.v.s.beat, .slice y.v.A y.v.n y.v.c] 27)).heap.size := by simp
      clear hse
      go_wp2_with fail
      generalize (wr.alloc (.cells #[.int .i64 y.node, .int .i64 y.v.s.gen, .int .i64 y.v.s.beat, .slice y.v.A y.v.n y.v.c] 45)).alloc (.cells #[.int .i64 y.v.s.gen, .int .i64 y.v.s.beat, .slice y.v.A y.v.n y.v.c] 27) = w3 at *
      refine (vget_any ⟨la, Aa, na, ca⟩ y.node w3 (hu.belowH b1) (by show na ≤ _; omega) hf).mono ?_
      rintro e w4 ⟨⟨sg, Ag, ng, cg⟩, rfl, hsg, hrg, hb4⟩
      simp only at hsg
      have X4 := X1.below hb4 (by omega)
      have S4 := S1.below hb4 hs1
      have b4 := b1.trans (hb4.mono (by omega))
      have hs4 : wr.heap.size + 1 < w4.heap.size := S4.lt
      clear X1 S1 b1 hb4 hs1 c0 c1 c2 c3 hu
      replace X4 := X4.alloc (.cells #[.int .i64 sg.gen, .int .i64 sg.beat, .slice Ag ng cg] 27)
      replace S4 := S4.alloc (.cells #[.int .i64 sg.gen, .int .i64 sg.beat, .slice Ag ng cg] 27)
      replace b4 := b4.alloc (by omega) (.cells #[.int .i64 sg.gen, .int .i64 sg.beat, .slice Ag ng cg] 27)
      have hrg4 := hrg.allocH (.cells #[.int .i64 sg.gen, .int .i64 sg.beat, .slice Ag ng cg] 27)
      have hs5 : w4.heap.size < (w4.alloc (.cells #[.int .i64 sg.gen, .int .i64 sg.beat, .slice Ag ng cg] 27)).heap.size := by simp
      have O4 := Box.new w4 #[.int .i64 sg.gen, .int .i64 sg.beat, .slice Ag ng cg] 27
      simp only [sv]
      rcases hg : V.get (Vw.view ⟨la, Aa, na, ca⟩) y.node with _ | xs
      · have hstep : V.step Vo.view y.nm = V.put Vo.view y.node y.v.s := by unfold V.step; rw [show V.get Vo.view y.nm.node = none from HSO.out.trans hg]; rfl
        have HST := Lib.hid hstep
        have q0 := X4.at 0 rfl
        have r0 := S4.at 0 rfl
        have r1 := S4.at 1 rfl
        have r2 := S4.at 2 rfl
        have hsy5 := hsy.belowH b4
        have hvo5 := (hown.below b4).vrd
        clear hstep hg hsg
        simp only [Option.isSome]
        go_wp2_with fail
        generalize w4.alloc (.cells #[.int .i64 sg.gen, .int .i64 sg.beat, .slice Ag ng cg] 27) = w5 at *
        refine (vput_any Vo y.node y.v w5 hvo5 (by omega) HFO.out hsy5 (by omega) HRT.out.2).mono ?_
        rintro e w6 ⟨V6, rfl, hv6, ho6, hb6⟩
        have HV6 := Lib.hid hv6
        clear hv6
        simp only [vval]
        go_wp2
        go_roundw
        case rel => exact ⟨k + 1, V6, by omega, by go_num, rfl, by rw [HV6.out, take_more HY.out, V.join_snoc, ← HVO.out, HST.out], ho6.mono (by omega), (hbel.trans (b4.mono hbs)).trans (hb6.mono (by omega))⟩
        case measure => simp [intOf]; omega
      · have hstep : V.step Vo.view y.nm = V.put Vo.view y.node (S.join sg y.v.s) := by
          unfold V.step; rw [show V.get Vo.view y.nm.node = some xs from HSO.out.trans hg]
          rw [hg] at hsg
          rw [hsg]; rfl
        have HST := Lib.hid hstep
        have hmx : V.may ⟨y.node, xs⟩ := HRA.out.1 _ (V.get_mem hg)
        have hsr : S.right sg := by rw [hg] at hsg; rw [hsg]; exact hmx.2.2
        have HSR := Lib.hid hsr
        have hng : ng ≤ 12 := by
          have h9 : sg.apps.length = ng := hrg.len
          have := right_len hsr.2.2.2.2
          omega
        have q0 := X4.at 0 rfl
        have r0 := S4.at 0 rfl
        have r1 := S4.at 1 rfl
        have r2 := S4.at 2 rfl
        have p0 := O4.at 0 rfl
        have p1 := O4.at 1 rfl
        have p2 := O4.at 2 rfl
        have hsy5 := hsy.belowH b4
        clear hstep hg hsg hsr hmx hrg
        simp only [Option.isSome]
        go_wp2_with fail
        generalize w4.alloc (.cells #[.int .i64 sg.gen, .int .i64 sg.beat, .slice Ag ng cg] 27) = w5 at *
        refine (sjoin_any ⟨sg, Ag, ng, cg⟩ y.v w5 hrg4 hsy5 (by show ng ≤ _; omega) (by omega) (S.right_rise HSR.out) (S.right_rise HRY.out.2.2)).mono ?_
        rintro e w6 ⟨⟨sj, Aj, nj, cj⟩, rfl, hsj, hoj, hb6⟩
        simp only at hsj
        have HSJ := Lib.hid hsj
        have hoj' : w6.ownsRow w5.heap.size 59 3 (.slice Aj nj cj) nj (EC sj.apps) := hoj
        have hnj : nj ≤ 12 := by
          have h9 : sj.apps.length = nj := hoj.srd.len
          have := right_len (by rw [hsj]; exact (S.join_right HSR.out HRY.out.2.2).2.2.2.2 : E.right sj.apps)
          omega
        have X6 := X4.below hb6 (by omega)
        have S6 := S4.below hb6 (by omega)
        have b6 := b4.trans (hb6.mono (by omega))
        have hs6 := hb6.size
        have rf := S6.cold
        have rz := S6.lt
        have X7 := X6.other3 (b' := wr.heap.size + 1) (by omega) (.int .i64 sj.gen) (.int .i64 sj.beat) (.slice Aj nj cj)
        have S7 := ((S6.set 0 (.int .i64 sj.gen)).set 1 (.int .i64 sj.beat)).set 2 (.slice Aj nj cj)
        have b7 := below_set (below_set (below_set b6 (b := wr.heap.size + 1) (o := 0) (by omega) (.int .i64 sj.gen)) (b := wr.heap.size + 1) (o := 1) (by omega) (.int .i64 sj.beat)) (b := wr.heap.size + 1) (o := 2) (by omega) (.slice Aj nj cj)
        have hoj7 := own_set (own_set (own_set hoj' (b := wr.heap.size + 1) (o := 0) (by omega) (.int .i64 sj.gen)) (b := wr.heap.size + 1) (o := 1) (by omega) (.int .i64 sj.beat)) (b := wr.heap.size + 1) (o := 2) (by omega) (.slice Aj nj cj)
        have q0' := X7.at 0 rfl
        have r0' := S7.at 0 (v := .int .i64 sj.gen) (by simp)
        have r1' := S7.at 1 (v := .int .i64 sj.beat) (by simp)
        have r2' := S7.at 2 (v := .slice Aj nj cj) (by simp)
        clear hsj hoj hoj' q0 r0 r1 r2 p0 p1 p2 hb6 O4 X4 S4 hrg4
        have r0 := S6.at 0 rfl
        have r1 := S6.at 1 rfl
        have r2 := S6.at 2 rfl
        simp only [sv]
        go_wp2_with fail
        have hs7 := b7.size
        have hvo7 := (hown.below b7).vrd
        clear r0 r1 r2 q0' r0' r1' r2' rf rz
        refine (vput_any Vo y.node ⟨sj, Aj, nj, cj⟩ _ hvo7 (by omega) HFO.out (Rd.of_own hoj7) (by show nj ≤ _; omega) HRT.out.2).mono ?_
        rintro e w8 ⟨V8, rfl, hv8, ho8, hb8⟩
        have b8 := (hbel.trans (b7.mono hbs)).trans (hb8.mono (by omega))
        have ho8' : VOwn w.heap.size w8 V8 := ho8.mono (by omega)
        have HV8 := Lib.hid hv8
        clear hv8 ho8 hb8 b7 hoj7 X7 S7 hvo7
        simp only [vval]
        go_wp2
        go_roundw
        case rel => exact ⟨k + 1, V8, by omega, by go_num, rfl, by rw [HV8.out, take_more HY.out, V.join_snoc, ← HVO.out, HST.out, HSJ.out], ho8', b8⟩
        case measure => simp [intOf]; omega
    · have he : (Vw.view ⟨l', A', n', c'⟩).take k = Vw.view ⟨l', A', n', c'⟩ := List.take_of_length_le (by have := HBL.out; omega)
      have hvo := HVO.out
      rw [he] at hvo
      have HV2 := Lib.hid hvo
      clear hvo he
      go_wp2
      go_ret
      exact ⟨Vo, rfl, HV2.out, hown, hbel⟩

set_option maxHeartbeats 2000000 in
theorem vover_any (U U' : Vw) (w : World) (h : VRd w U) (h' : VRd w U') (hra : V.right U.view) (hrb : V.right U'.view) :
    Calls Try.prog 30 #[vval U, vval U'] w fun e w' => e = .returned (.bool (decide (V.join U.view U'.view = U.view))) ∧ Below w.heap.size w w' := by
  have HRA := Lib.hid hra
  have HRB := Lib.hid hrb
  clear hra hrb
  go_enter Try.func30, Try.ntmps30
  simp only [vval]
  go_wp2_with fail
  refine (vjoin_any U U' w h h' HRA.out HRB.out).mono ?_
  rintro e w1 ⟨V1, rfl, hv1, ho1, hb1⟩
  have HV1 := Lib.hid hv1
  have hr1 : V.right V1.view := by rw [hv1]; exact V.join_right HRA.out HRB.out
  have h1 := ho1.vrd
  have hn1 := right_n h1 hr1
  have hf1 := right_fitR h1 hr1
  have h0 := h.belowH hb1
  have hn0 := right_n h0 HRA.out
  have hf0 := right_fitR h0 HRA.out
  clear hv1 hr1 ho1
  simp only [vval]
  go_wp2_with fail
  refine (vsame_any V1 U w1 h1 h0 (by omega) (by omega) hf1 hf0).mono ?_
  rintro e w2 ⟨rfl, hb2⟩
  go_wp2
  go_ret
  exact ⟨by rw [HV1.out]; rfl, hb1.trans (hb2.mono hb1.size)⟩
end Go.Proofs.Ytpfkgddcoancnaa
