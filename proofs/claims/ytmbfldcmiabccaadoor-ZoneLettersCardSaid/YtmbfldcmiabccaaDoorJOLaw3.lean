/- OLaw3 (merged). -/
import Derived.Deep.QuietTactic
import Derived.Deep.RegionHeld3
import Derived.Deep.DeepCutAuto
import Derived.Test.YtmbfldcmiabccaaDoorJF21
import Derived.Test.YtmbfldcmiabccaaDoorJORows
namespace Go.Proofs.YtmbfldcmiabccaaDoor
set_option linter.unusedVariables false
set_option linter.unusedSimpArgs false
open Go.RowKit
theorem rcd_at {D : List (List UInt8)} {nm : List UInt8} {ty : Int} {k : Nat} {r : Rrc} (h : (D.map (Zo.rcd nm ty))[k]? = some r) : ∃ d, D[k]? = some d ∧ r = ⟨nm, ty, 1, 5, d⟩ := by
  rw [List.getElem?_map] at h
  cases hd : D[k]? with
  | none => rw [hd] at h; cases h
  | some d => rw [hd] at h; exact ⟨d, rfl, by injection h with h; exact h.symm⟩
set_option maxHeartbeats 16000000 in
set_option maxRecDepth 40000 in
theorem law_ZoneLetters (s : Sn) (a1 : ByteArray) (a2 : Int) (W : World) (w0 : SnIn W s) (w1 : a1.size ≤ maxLen) (w2 : (Lit.int .u8 a2).wf = true) :
    Calls Tryd.prog 4 #[snval s, .string a1, .int .u8 a2] W fun e w' => e = .returned (.bool true) ∧ Below W.heap.size W w' := by
  obtain ⟨nm, rfl⟩ : ∃ nm, strB nm = a1 := ⟨a1.data.toList, rfl⟩
  obtain ⟨nl, hnl⟩ : ∃ k, nm.length = k := ⟨_, rfl⟩
  have hnz : (strB nm).size = nl := by rw [strB_size, hnl]
  have HNL := Lib.hid hnl
  clear hnl
  have SR : SnRd W s := ⟨w0.view.1, w0.al⟩
  have LK : Hid (s.v.n * 48 ≤ 140737488351232 ∧ (∀ x ∈ s.v.l, x.v.n * 32 ≤ 140737488351232 ∧ ∀ y ∈ x.v.s.apps, y.val.length ≤ 140737488351232)) := Lib.hid ⟨w0.view.2.2.1, fun x hx => (w0.view.2.2.2 x hx).1⟩
  have HC := Lib.hid (And.intro w0.cap1 w0.cap2)
  have X := Box.new W (sncs s) 25
  have b := (Below.refl W.heap.size W).alloc (Nat.le_refl _) (.cells (sncs s) 25)
  replace SR := SR.alloc (.cells (sncs s) 25)
  clear w0
  simp only [snval, sncs] at X SR b ⊢
  have x0 := X.at 0 rfl
  have x1 := X.at 1 rfl
  have x2 := X.at 2 rfl
  go_enter Tryd.func4, Tryd.ntmps4
  go_wp2_with fail
  generalize W.alloc (.cells #[.slice s.v.A s.v.n s.v.c, .slice s.B s.m s.d, .string (strB s.dom)] 25) = wa at *
  refine (oalive_any wa).mono ?_
  rintro e v1 ⟨rfl, hb⟩
  replace X := X.belowH hb
  replace SR := SR.belowH hb
  replace b := b.trans (hb.mono b.size)
  clear hb
  clear x0 x1 x2
  have x0 := X.at 0 rfl
  have x1 := X.at 1 rfl
  have x2 := X.at 2 rfl
  go_wp2_with fail
  refine (rogreat_any s v1 ⟨SR, LK.out.1, LK.out.2⟩).mono ?_
  rintro e v2 ⟨rfl, hb⟩
  replace X := X.belowH hb
  replace SR := SR.belowH hb
  replace b := b.trans (hb.mono b.size)
  clear hb
  clear x0 x1 x2
  have x0 := X.at 0 rfl
  have x1 := X.at 1 rfl
  have x2 := X.at 2 rfl
  rcases hg : SnGreat s
  rotate_left
  · skip
    go_wp2
    go_ret
    exact ⟨rfl, b⟩
  obtain ⟨g1, g2, g3, g4⟩ := ogreat_small SR hg
  clear hg
  by_cases h5 : 500 < nl
  · have f5 : decide ((500 : Int) < (nl : Int)) = true := decide_eq_true (by omega)
    have f5' : decide (500 < nl) = true := decide_eq_true h5
    go_wp2
    go_ret
    exact ⟨rfl, b⟩
  have f5 : decide ((500 : Int) < (nl : Int)) = false := decide_eq_false (by omega)
  have f5' : decide (500 < nl) = false := decide_eq_false h5
  have HN : Hid (nm.length ≤ 500) := Lib.hid (by have := HNL.out; omega)
  clear h5
  go_wp2_with fail
  refine (rvright_any s.v v2 SR.1 (by omega) g2).mono ?_
  rintro e v3 ⟨rfl, hb⟩
  replace X := X.belowH hb
  replace SR := SR.belowH hb
  replace b := b.trans (hb.mono b.size)
  clear hb
  clear x0 x1 x2
  have x0 := X.at 0 rfl
  have x1 := X.at 1 rfl
  have x2 := X.at 2 rfl
  rcases hr : vrightB s.v.view
  · skip
    go_wp2
    go_ret
    exact ⟨rfl, b⟩
  have HA : Hid (SnArg s) := Lib.hid ⟨⟨⟨by omega, g2, by omega⟩, fun x hx y hy => by
    obtain ⟨z, hz, rfl⟩ := List.mem_map.1 hx
    exact (LK.out.2 z hz).2 y hy, by omega⟩, vrightB_out hr, HC.out.1, HC.out.2⟩
  have HD := Lib.hid g4
  have HN1 := Lib.hid g1
  obtain ⟨P, Z, hP⟩ : ∃ P, ZCon s P ∧ P v3 := ⟨_, zcon_of HA.out, SR⟩
  clear hr g1 g2 g3 g4 SR LK HC
  clear f5 f5'
  have hu := wf_bounds_u8 w2
  have cv : IntKind.i64.wrap a2 = a2 := IntWalk.i64_in _ (by omega)
  have HTY : TyOk a2 := tyOk (by omega)
  clear w1 w2 hu
  obtain ⟨low, elow⟩ : ∃ z, Lab.lower nm = z := ⟨_, rfl⟩
  obtain ⟨D, eD⟩ : ∃ z, Zo.datas s.sc nm a2 = z := ⟨_, rfl⟩
  obtain ⟨iz, eiz⟩ : ∃ z, Zo.is s.sc nm = z := ⟨_, rfl⟩
  have hlow : low.length ≤ 500 := by rw [← elow]; have := HN.out; have := Lab.lower_len nm; omega
  have HN2 : Hid (nm.length ≤ 1000 ∧ low.length ≤ 1000) := Lib.hid ⟨by have := HN.out; omega, by omega⟩
  have C1 := fun W (h : P W) => Z.tell a2 h HN2.out.1
  have C2 := fun W (h : P W) => Z.tell a2 h HN2.out.2
  have C3 := fun W (h : P W) => Z.is h HN2.out.1
  have C4 := fun W (h : P W) => Z.is h HN2.out.2
  rw [show Zo.tell s.sc nm a2 = D.map (Zo.rcd nm a2) by rw [← eD]; rfl] at C1
  rw [show Zo.tell s.sc low a2 = D.map (Zo.rcd low a2) by rw [← eD, ← elow, ← Zo.datas_low]; rfl] at C2
  simp only [eiz] at C3
  rw [show Zo.is s.sc low = iz by rw [← eiz, ← elow, Zo.is_low]] at C4
  have HC1 := Lib.hid C1
  have HC2 := Lib.hid C2
  have HC3 := Lib.hid C3
  have HC4 := Lib.hid C4
  have TD : Hid (D ≠ [] → iz = true) := Lib.hid (fun h => by rw [← eiz]; exact Zo.told_is (typ := a2) (by rw [eD]; exact h))
  have CW := Lib.hid (fun W => rlower_at elow (by have := HN.out; omega) W)
  clear C1 C2 C3 C4 elow eD eiz hlow
  go_wp2_with fail
  refine (CW.out v3).mono ?_
  rintro e w4 ⟨rfl, hb⟩
  replace X := X.belowH hb
  replace hP := Z.sb hP hb
  replace b := b.trans (hb.mono b.size)
  clear hb
  clear x0 x1 x2
  have x0 := X.at 0 rfl
  have x1 := X.at 1 rfl
  have x2 := X.at 2 rfl
  go_upto_region 6 with fail
  replace X := X.drew
  replace hP := Z.sb hP ((Below.refl _ _).drew)
  replace b := b.drew
  clear x0 x1 x2
  have x0 := X.at 0 rfl
  have x1 := X.at 1 rfl
  have x2 := X.at 2 rfl
  refine wp_region_held_drew (S := (fun w' => w'.cell? ⟨W.heap.size, 0, none⟩ = some (.slice s.v.A s.v.n s.v.c) ∧ w'.cell? ⟨W.heap.size, 1, none⟩ = some (.slice s.B s.m s.d) ∧ w'.cell? ⟨W.heap.size, 2, none⟩ = some (.string (strB s.dom)))) (by kernel_rfl) (by exact ⟨x0, x1, x2⟩) (fun hHeld0 => ?_)
  refine tk 0 28 rfl hHeld0 ?_
  refine tk 1 29 rfl hHeld0 ?_
  refine tk 2 30 rfl hHeld0 ?_
  refine tk 3 31 rfl hHeld0 ?_
  refine tk 5 33 rfl hHeld0 ?_
  refine tk 6 34 rfl hHeld0 ?_
  refine tk 7 35 rfl hHeld0 ?_
  refine tk 8 36 rfl hHeld0 ?_
  refine wpAnyH_ready (rs := [4]) (by kernel_rfl) (by simp) (AllReadyH.cons (o := ⟨some 32, _, _, _, _, _⟩) rfl (fun K hK => ?_) AllReadyH.nil)
  go_simp
  (refine (HC1.out _ hP).mono ?_; rintro e wc1 ⟨A1, n1, c1, rfl, hl1, R1, _, hb⟩; replace X := X.belowH hb; replace hP := Z.sb hP hb; replace b := b.trans (hb.mono b.size); clear hb; clear x0 x1 x2; have x0 := X.at 0 rfl; have x1 := X.at 1 rfl; have x2 := X.at 2 rfl)
  go_simp
  refine hK.out _ _ (by exact ⟨x0, x1, x2⟩) (fun hHeld1 => ?_)
  clear hK hHeld0 K
  try simp only [Act.put, sA, sB, sC]
  refine wpAnyH_ready (rs := [9]) (by kernel_rfl) (by simp) (AllReadyH.cons (o := ⟨some 37, _, _, _, _, _⟩) rfl (fun K hK => ?_) AllReadyH.nil)
  go_simp
  (refine (HC2.out _ hP).mono ?_; rintro e wc2 ⟨A2, n2, c2, rfl, hl2, R2, _, hb⟩; replace X := X.belowH hb; replace hP := Z.sb hP hb; replace R1 := R1.belowH hb; replace b := b.trans (hb.mono b.size); clear hb; clear x0 x1 x2; have x0 := X.at 0 rfl; have x1 := X.at 1 rfl; have x2 := X.at 2 rfl)
  go_simp
  refine hK.out _ _ (by exact ⟨x0, x1, x2⟩) (fun hHeld2 => ?_)
  clear hK hHeld1 K
  try simp only [Act.put, sA, sB, sC]
  refine tk 10 8 rfl hHeld2 ?_
  refine tk 11 9 rfl hHeld2 ?_
  refine wpAnyH_done (by kernel_rfl) ?_ _
  have HL : Hid (D.length = n1) := Lib.hid (by rw [← hl1, List.length_map])
  obtain rfl : n1 = n2 := by rw [← hl1, ← hl2, List.length_map, List.length_map]
  clear hl1 hl2
  have q1 : ((n1 : Int) != (n1 : Int)) = false := by rw [bne_self_eq_false]
  have q1' : (n1 != n1) = false := by rw [bne_self_eq_false]
  have q2 : (iz != iz) = false := by rw [bne_self_eq_false]
  go_upto_region 7 with fail
  replace X := X.drew
  replace hP := Z.sb hP ((Below.refl _ _).drew)
  replace R1 := R1.belowH ((Below.refl _ _).drew)
  replace R2 := R2.belowH ((Below.refl _ _).drew)
  replace b := b.drew
  clear x0 x1 x2
  have x0 := X.at 0 rfl
  have x1 := X.at 1 rfl
  have x2 := X.at 2 rfl
  refine wp_region_held_drew (S := (fun w' => w'.cell? ⟨W.heap.size, 0, none⟩ = some (.slice s.v.A s.v.n s.v.c) ∧ w'.cell? ⟨W.heap.size, 1, none⟩ = some (.slice s.B s.m s.d) ∧ w'.cell? ⟨W.heap.size, 2, none⟩ = some (.string (strB s.dom)))) (by kernel_rfl) (by exact ⟨x0, x1, x2⟩) (fun hHeld0 => ?_)
  refine tk 0 38 rfl hHeld0 ?_
  refine tk 1 39 rfl hHeld0 ?_
  refine tk 2 40 rfl hHeld0 ?_
  refine tk 3 41 rfl hHeld0 ?_
  refine tk 4 42 rfl hHeld0 ?_
  refine tk 5 43 rfl hHeld0 ?_
  refine tk 6 44 rfl hHeld0 ?_
  refine tk 7 45 rfl hHeld0 ?_
  refine tk 9 47 rfl hHeld0 ?_
  refine tk 10 48 rfl hHeld0 ?_
  refine wpAnyH_ready (rs := [8]) (by kernel_rfl) (by simp) (AllReadyH.cons (o := ⟨some 46, _, _, _, _, _⟩) rfl (fun K hK => ?_) AllReadyH.nil)
  go_simp
  (refine (HC3.out _ hP).mono ?_; rintro e wc3 ⟨rfl, hb⟩; replace X := X.belowH hb; replace hP := Z.sb hP hb; replace R1 := R1.belowH hb; replace R2 := R2.belowH hb; replace b := b.trans (hb.mono b.size); clear hb; clear x0 x1 x2; have x0 := X.at 0 rfl; have x1 := X.at 1 rfl; have x2 := X.at 2 rfl)
  go_simp
  refine hK.out _ _ (by exact ⟨x0, x1, x2⟩) (fun hHeld1 => ?_)
  clear hK hHeld0 K
  try simp only [Act.put, sA, sB, sC]
  refine wpAnyH_ready (rs := [11]) (by kernel_rfl) (by simp) (AllReadyH.cons (o := ⟨some 49, _, _, _, _, _⟩) rfl (fun K hK => ?_) AllReadyH.nil)
  go_simp
  (refine (HC4.out _ hP).mono ?_; rintro e wc4 ⟨rfl, hb⟩; replace X := X.belowH hb; replace hP := Z.sb hP hb; replace R1 := R1.belowH hb; replace R2 := R2.belowH hb; replace b := b.trans (hb.mono b.size); clear hb; clear x0 x1 x2; have x0 := X.at 0 rfl; have x1 := X.at 1 rfl; have x2 := X.at 2 rfl)
  go_simp
  refine hK.out _ _ (by exact ⟨x0, x1, x2⟩) (fun hHeld2 => ?_)
  clear hK hHeld1 K
  try simp only [Act.put, sA, sB, sC]
  refine tk 12 50 rfl hHeld2 ?_
  refine tk 13 51 rfl hHeld2 ?_
  refine wpAnyH_done (by kernel_rfl) ?_ _
  clear x0 x1 x2
  go_wp2
  generalize wc4 = wl at *
  go_loopw [10] (fun i wr => ∃ k : Nat, k ≤ n1 ∧ i = .int .i64 (k : Int) ∧ Below wl.heap.size wl wr) (fun i _ => n1 - (intOf i).toNat)
  case atStart => exact ⟨0, Nat.zero_le _, rfl, Below.refl _ _⟩
  case round =>
    obtain ⟨k, hk, rfl, bl⟩ := hrel
    have hk0 : (0 : Int) ≤ (k : Int) := by omega
    have bz := b.trans (bl.mono b.size)
    by_cases hlt : k < n1
    · obtain ⟨b1, o1, r1, rfl, hb1, hr1, d0, d1, d2, d3, d4⟩ := (R1.belowH bl).atR hlt
      obtain ⟨b2, o2, r2, rfl, hb2, hr2, f0, f1, f2, f3, f4⟩ := (R2.belowH bl).atR hlt
      obtain ⟨d, hd, rfl⟩ := rcd_at hr1
      obtain ⟨d', hd', rfl⟩ := rcd_at hr2
      obtain rfl : d = d' := by rw [hd] at hd'; injection hd'
      simp only at d0 d1 d2 d3 d4 f0 f1 f2 f3 f4
      have g1 : decide ((k : Int) < (n1 : Int)) = true := decide_eq_true (by omega)
      have e1 : (strB nm != strB nm) = false := by rw [strB_bne]; simp
      have e1' : (nm != nm) = false := bne_self_eq_false _
      have e2 : (strB low != strB low) = false := by rw [strB_bne]; simp
      have e2' : (low != low) = false := bne_self_eq_false _
      have e3 : (strB d != strB d) = false := by rw [strB_bne]; simp
      have e3' : (d != d) = false := bne_self_eq_false _
      have e4 : (a2 != a2) = false := bne_self_eq_false _
      clear hr1 hr2 hd hd' R1 R2
      go_upto_region 12 with fail
      go_quiet (fail)
      go_wp2
      go_roundw
      case rel => exact ⟨k + 1, by omega, by go_num, kdrewY bl _⟩
      case measure => simp [intOf]; omega
    · have g1 : decide ((k : Int) < (n1 : Int)) = false := decide_eq_false (by omega)
      have X9 := X.belowH bl
      have x0 := X9.at 0 rfl
      have x1 := X9.at 1 rfl
      have x2 := X9.at 2 rfl
      by_cases h0 : n1 = 0
      · have z1 : ((n1 : Int) == 0) = true := by rw [h0]; rfl
        have z1' : (n1 == 0) = true := by rw [h0]; rfl
        have HZ := Lib.hid h0
        clear h0
        go_wp2
        go_ret
        exact ⟨rfl, bz⟩
      · have z1 : ((n1 : Int) == 0) = false := beq_eq_false_iff_ne.2 (by omega)
        have z1' : (n1 == 0) = false := beq_eq_false_iff_ne.2 h0
        have hP9 := Z.sb hP bl
        have hi : iz = true := TD.out (fun h => h0 (by rw [← HL.out, h]; rfl))
        have HI := Lib.hid hi
        clear h0 hi
        go_wp2_with fail
        refine (HC3.out wr hP9).mono ?_
        rintro e w9 ⟨rfl, hb⟩
        rw [HI.out]
        go_wp2
        go_ret
        exact ⟨rfl, bz.trans (hb.mono bz.size)⟩
end Go.Proofs.YtmbfldcmiabccaaDoor

