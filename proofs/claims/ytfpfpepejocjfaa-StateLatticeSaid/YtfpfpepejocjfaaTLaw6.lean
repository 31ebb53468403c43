/- StateLattice walks. -/
import Derived.Test.YtfpfpepejocjfaaTLaw5
import Derived.Deep.DeepCutAuto
namespace Go.Proofs.Ytfpfpepejocjfaa
set_option linter.unusedVariables false
set_option linter.unusedSimpArgs false
open Go.RowKit

set_option maxHeartbeats 8000000 in
set_option maxRecDepth 100000 in
theorem law_StateLattice (v0 : Sv) (v1 : Sv) (v2 : Sv) (W : World) (t0 : SIn W v0) (t1 : SIn W v1) (t2 : SIn W v2) :
    Calls Try.prog 5 #[sv v0, sv v1, sv v2] W fun e w' => e = .returned (.bool true) ∧ Below W.heap.size W w' := by
  obtain ⟨⟨g0, e0, l0⟩, A0, n0, c0⟩ := v0
  obtain ⟨R0, hn0, hv0, _, _⟩ := t0
  simp only at hn0 hv0
  have HL0 := Lib.hid R0.len
  have HV0 := Lib.hid hv0
  clear hv0
  obtain ⟨⟨g1, e1, l1⟩, A1, n1, c1⟩ := v1
  obtain ⟨R1, hn1, hv1, _, _⟩ := t1
  simp only at hn1 hv1
  have HL1 := Lib.hid R1.len
  have HV1 := Lib.hid hv1
  clear hv1
  obtain ⟨⟨g2, e2, l2⟩, A2, n2, c2⟩ := v2
  obtain ⟨R2, hn2, hv2, _, _⟩ := t2
  simp only at hn2 hv2
  have HL2 := Lib.hid R2.len
  have HV2 := Lib.hid hv2
  clear hv2
  simp only [sv]
  have b := Below.refl W.heap.size W
  replace R0 := R0.allocH (.cells #[.int .i64 g0, .int .i64 e0, .slice A0 n0 c0] 24)
  replace R1 := R1.allocH (.cells #[.int .i64 g0, .int .i64 e0, .slice A0 n0 c0] 24)
  replace R2 := R2.allocH (.cells #[.int .i64 g0, .int .i64 e0, .slice A0 n0 c0] 24)
  have X := Box.new (W) #[.int .i64 g0, .int .i64 e0, .slice A0 n0 c0] 24
  replace b := b.alloc b.size (.cells #[.int .i64 g0, .int .i64 e0, .slice A0 n0 c0] 24)
  replace R0 := R0.allocH (.cells #[.int .i64 g1, .int .i64 e1, .slice A1 n1 c1] 24)
  replace R1 := R1.allocH (.cells #[.int .i64 g1, .int .i64 e1, .slice A1 n1 c1] 24)
  replace R2 := R2.allocH (.cells #[.int .i64 g1, .int .i64 e1, .slice A1 n1 c1] 24)
  replace X := X.alloc (.cells #[.int .i64 g1, .int .i64 e1, .slice A1 n1 c1] 24)
  have Y := Box.new (W.alloc (.cells #[.int .i64 g0, .int .i64 e0, .slice A0 n0 c0] 24)) #[.int .i64 g1, .int .i64 e1, .slice A1 n1 c1] 24
  replace b := b.alloc b.size (.cells #[.int .i64 g1, .int .i64 e1, .slice A1 n1 c1] 24)
  rw [show (W.alloc (.cells #[.int .i64 g0, .int .i64 e0, .slice A0 n0 c0] 24)).heap.size = W.heap.size + 1 by simp] at Y
  replace R0 := R0.allocH (.cells #[.int .i64 g2, .int .i64 e2, .slice A2 n2 c2] 24)
  replace R1 := R1.allocH (.cells #[.int .i64 g2, .int .i64 e2, .slice A2 n2 c2] 24)
  replace R2 := R2.allocH (.cells #[.int .i64 g2, .int .i64 e2, .slice A2 n2 c2] 24)
  replace X := X.alloc (.cells #[.int .i64 g2, .int .i64 e2, .slice A2 n2 c2] 24)
  replace Y := Y.alloc (.cells #[.int .i64 g2, .int .i64 e2, .slice A2 n2 c2] 24)
  have Z := Box.new ((W.alloc (.cells #[.int .i64 g0, .int .i64 e0, .slice A0 n0 c0] 24)).alloc (.cells #[.int .i64 g1, .int .i64 e1, .slice A1 n1 c1] 24)) #[.int .i64 g2, .int .i64 e2, .slice A2 n2 c2] 24
  replace b := b.alloc b.size (.cells #[.int .i64 g2, .int .i64 e2, .slice A2 n2 c2] 24)
  rw [show ((W.alloc (.cells #[.int .i64 g0, .int .i64 e0, .slice A0 n0 c0] 24)).alloc (.cells #[.int .i64 g1, .int .i64 e1, .slice A1 n1 c1] 24)).heap.size = W.heap.size + 1 + 1 by simp] at Z
  go_enter Try.func5, Try.ntmps5
  go_wp2_with fail
  refine (alive_any _).mono ?_
  rintro e w2 ⟨rfl, hb⟩
  replace R0 := R0.belowH hb
  replace R1 := R1.belowH hb
  replace R2 := R2.belowH hb
  replace X := X.belowH hb
  replace Y := Y.belowH hb
  replace Z := Z.belowH hb
  replace b := b.trans (hb.mono b.size)
  clear hb
  have x0 := X.at 0 rfl
  have x1 := X.at 1 rfl
  have x2 := X.at 2 rfl
  have y0 := Y.at 0 rfl
  have y1 := Y.at 1 rfl
  have y2 := Y.at 2 rfl
  have z0 := Z.at 0 rfl
  have z1 := Z.at 1 rfl
  have z2 := Z.at 2 rfl
  have LR := Rd.lit w2 #[.int .i64 g0, .int .i64 e0, .slice A0 n0 c0, .int .i64 g1, .int .i64 e1, .slice A1 n1 c1, .int .i64 g2, .int .i64 e2, .slice A2 n2 c2] 24 3 3 rfl
  replace R0 := R0.allocH (.cells #[.int .i64 g0, .int .i64 e0, .slice A0 n0 c0, .int .i64 g1, .int .i64 e1, .slice A1 n1 c1, .int .i64 g2, .int .i64 e2, .slice A2 n2 c2] 24)
  replace R1 := R1.allocH (.cells #[.int .i64 g0, .int .i64 e0, .slice A0 n0 c0, .int .i64 g1, .int .i64 e1, .slice A1 n1 c1, .int .i64 g2, .int .i64 e2, .slice A2 n2 c2] 24)
  replace R2 := R2.allocH (.cells #[.int .i64 g0, .int .i64 e0, .slice A0 n0 c0, .int .i64 g1, .int .i64 e1, .slice A1 n1 c1, .int .i64 g2, .int .i64 e2, .slice A2 n2 c2] 24)
  replace X := X.alloc (.cells #[.int .i64 g0, .int .i64 e0, .slice A0 n0 c0, .int .i64 g1, .int .i64 e1, .slice A1 n1 c1, .int .i64 g2, .int .i64 e2, .slice A2 n2 c2] 24)
  replace Y := Y.alloc (.cells #[.int .i64 g0, .int .i64 e0, .slice A0 n0 c0, .int .i64 g1, .int .i64 e1, .slice A1 n1 c1, .int .i64 g2, .int .i64 e2, .slice A2 n2 c2] 24)
  replace Z := Z.alloc (.cells #[.int .i64 g0, .int .i64 e0, .slice A0 n0 c0, .int .i64 g1, .int .i64 e1, .slice A1 n1 c1, .int .i64 g2, .int .i64 e2, .slice A2 n2 c2] 24)
  have LB := Box.new w2 #[.int .i64 g0, .int .i64 e0, .slice A0 n0 c0, .int .i64 g1, .int .i64 e1, .slice A1 n1 c1, .int .i64 g2, .int .i64 e2, .slice A2 n2 c2] 24
  replace b := b.alloc b.size (.cells #[.int .i64 g0, .int .i64 e0, .slice A0 n0 c0, .int .i64 g1, .int .i64 e1, .slice A1 n1 c1, .int .i64 g2, .int .i64 e2, .slice A2 n2 c2] 24)
  clear LB
  go_wp2_with fail
  refine (greats_any [⟨⟨g0, e0, l0⟩, A0, n0, c0⟩, ⟨⟨g1, e1, l1⟩, A1, n1, c1⟩, ⟨⟨g2, e2, l2⟩, A2, n2, c2⟩] _ 3 3 _ _ LR (by simp) (by omega) (fun v hv => by simp at hv; rcases hv with rfl | rfl | rfl <;> first | exact ⟨R0, hn0, HV0.out⟩ | exact ⟨R1, hn1, HV1.out⟩ | exact ⟨R2, hn2, HV2.out⟩)).mono ?_
  rintro e w3 ⟨rfl, hb⟩
  replace R0 := R0.belowH hb
  replace R1 := R1.belowH hb
  replace R2 := R2.belowH hb
  replace X := X.belowH hb
  replace Y := Y.belowH hb
  replace Z := Z.belowH hb
  replace b := b.trans (hb.mono b.size)
  clear hb
  clear LR
  clear x0 x1 x2
  clear y0 y1 y2
  clear z0 z1 z2
  rcases hgr : greats [⟨⟨g0, e0, l0⟩, A0, n0, c0⟩, ⟨⟨g1, e1, l1⟩, A1, n1, c1⟩, ⟨⟨g2, e2, l2⟩, A2, n2, c2⟩]
  · skip
    simp only [greats, List.any_cons, List.any_nil, Bool.or_false, Bool.or_eq_false_iff] at hgr
    have hs0 := great_small hgr.1 HL0.out
    have hs1 := great_small hgr.2.1 HL1.out
    have hs2 := great_small hgr.2.2 HL2.out
    clear hgr
    have x0 := X.at 0 rfl
    have x1 := X.at 1 rfl
    have x2 := X.at 2 rfl
    have y0 := Y.at 0 rfl
    have y1 := Y.at 1 rfl
    have y2 := Y.at 2 rfl
    have z0 := Z.at 0 rfl
    have z1 := Z.at 1 rfl
    have z2 := Z.at 2 rfl
    go_wp2_with fail
    refine (rsright_any ⟨⟨g0, e0, l0⟩, A0, n0, c0⟩  _ R0 (by show n0 * 32 ≤ _; omega)).mono ?_
    rintro e w4 ⟨rfl, hb⟩
    replace R0 := R0.belowH hb
    replace R1 := R1.belowH hb
    replace R2 := R2.belowH hb
    replace X := X.belowH hb
    replace Y := Y.belowH hb
    replace Z := Z.belowH hb
    replace b := b.trans (hb.mono b.size)
    clear hb
    clear x0 x1 x2
    clear y0 y1 y2
    clear z0 z1 z2
    rcases hr0 : srightB ⟨g0, e0, l0⟩
    · go_wp2
      go_ret
      exact ⟨rfl, b⟩
    · skip
      have HR0 := Lib.hid (srightB_out hr0)
      clear hr0
      have x0 := X.at 0 rfl
      have x1 := X.at 1 rfl
      have x2 := X.at 2 rfl
      have y0 := Y.at 0 rfl
      have y1 := Y.at 1 rfl
      have y2 := Y.at 2 rfl
      have z0 := Z.at 0 rfl
      have z1 := Z.at 1 rfl
      have z2 := Z.at 2 rfl
      go_wp2_with fail
      refine (rsright_any ⟨⟨g1, e1, l1⟩, A1, n1, c1⟩  _ R1 (by show n1 * 32 ≤ _; omega)).mono ?_
      rintro e w5 ⟨rfl, hb⟩
      replace R0 := R0.belowH hb
      replace R1 := R1.belowH hb
      replace R2 := R2.belowH hb
      replace X := X.belowH hb
      replace Y := Y.belowH hb
      replace Z := Z.belowH hb
      replace b := b.trans (hb.mono b.size)
      clear hb
      clear x0 x1 x2
      clear y0 y1 y2
      clear z0 z1 z2
      rcases hr1 : srightB ⟨g1, e1, l1⟩
      · go_wp2
        go_ret
        exact ⟨rfl, b⟩
      · skip
        have HR1 := Lib.hid (srightB_out hr1)
        clear hr1
        have x0 := X.at 0 rfl
        have x1 := X.at 1 rfl
        have x2 := X.at 2 rfl
        have y0 := Y.at 0 rfl
        have y1 := Y.at 1 rfl
        have y2 := Y.at 2 rfl
        have z0 := Z.at 0 rfl
        have z1 := Z.at 1 rfl
        have z2 := Z.at 2 rfl
        go_wp2_with fail
        refine (rsright_any ⟨⟨g2, e2, l2⟩, A2, n2, c2⟩  _ R2 (by show n2 * 32 ≤ _; omega)).mono ?_
        rintro e w6 ⟨rfl, hb⟩
        replace R0 := R0.belowH hb
        replace R1 := R1.belowH hb
        replace R2 := R2.belowH hb
        replace X := X.belowH hb
        replace Y := Y.belowH hb
        replace Z := Z.belowH hb
        replace b := b.trans (hb.mono b.size)
        clear hb
        clear x0 x1 x2
        clear y0 y1 y2
        clear z0 z1 z2
        rcases hr2 : srightB ⟨g2, e2, l2⟩
        · go_wp2
          go_ret
          exact ⟨rfl, b⟩
        · skip
          have HR2 := Lib.hid (srightB_out hr2)
          clear hr2
          have x0 := X.at 0 rfl
          have x1 := X.at 1 rfl
          have x2 := X.at 2 rfl
          have y0 := Y.at 0 rfl
          have y1 := Y.at 1 rfl
          have y2 := Y.at 2 rfl
          have z0 := Z.at 0 rfl
          have z1 := Z.at 1 rfl
          have z2 := Z.at 2 rfl
          go_wp2_with fail
          refine (sjoin_any ⟨⟨g0, e0, l0⟩, A0, n0, c0⟩ ⟨⟨g1, e1, l1⟩, A1, n1, c1⟩ _ R0 R1 (by show n0 ≤ _; omega) (by show n1 ≤ _; omega) (S.right_rise HR0.out) (S.right_rise HR1.out)).mono ?_
          rintro e w7 ⟨⟨sx, Ax, nx, cx⟩, rfl, hs, hown, hb⟩
          simp only at hs
          have Hx : Hid (sx = S.join ⟨g0, e0, l0⟩ ⟨g1, e1, l1⟩) := Lib.hid hs
          have Rx := hown.srd
          have bdx : nx ≤ n0 + n1 := by have hq := Rx.len; have := HL0.out; have := HL1.out; have := HL2.out; have := join_apps_length ⟨g0, e0, l0⟩ ⟨g1, e1, l1⟩; rw [Hx.out] at hq; (try simp only at *); omega
          clear hs hown
          replace R0 := R0.belowH hb
          replace R1 := R1.belowH hb
          replace R2 := R2.belowH hb
          replace X := X.belowH hb
          replace Y := Y.belowH hb
          replace Z := Z.belowH hb
          replace b := b.trans (hb.mono b.size)
          clear hb
          simp only [sv]
          clear x0 x1 x2
          clear y0 y1 y2
          clear z0 z1 z2
          replace R0 := R0.allocH (.cells #[.int .i64 sx.gen, .int .i64 sx.beat, .slice Ax nx cx] 24)
          replace R1 := R1.allocH (.cells #[.int .i64 sx.gen, .int .i64 sx.beat, .slice Ax nx cx] 24)
          replace R2 := R2.allocH (.cells #[.int .i64 sx.gen, .int .i64 sx.beat, .slice Ax nx cx] 24)
          replace Rx := Rx.allocH (.cells #[.int .i64 sx.gen, .int .i64 sx.beat, .slice Ax nx cx] 24)
          replace X := X.alloc (.cells #[.int .i64 sx.gen, .int .i64 sx.beat, .slice Ax nx cx] 24)
          replace Y := Y.alloc (.cells #[.int .i64 sx.gen, .int .i64 sx.beat, .slice Ax nx cx] 24)
          replace Z := Z.alloc (.cells #[.int .i64 sx.gen, .int .i64 sx.beat, .slice Ax nx cx] 24)
          have P := Box.new w7 #[.int .i64 sx.gen, .int .i64 sx.beat, .slice Ax nx cx] 24
          replace b := b.alloc b.size (.cells #[.int .i64 sx.gen, .int .i64 sx.beat, .slice Ax nx cx] 24)
          have x0 := X.at 0 rfl
          have x1 := X.at 1 rfl
          have x2 := X.at 2 rfl
          have y0 := Y.at 0 rfl
          have y1 := Y.at 1 rfl
          have y2 := Y.at 2 rfl
          have z0 := Z.at 0 rfl
          have z1 := Z.at 1 rfl
          have z2 := Z.at 2 rfl
          have p0 := P.at 0 rfl
          have p1 := P.at 1 rfl
          have p2 := P.at 2 rfl
          go_wp2_with fail
          refine (sjoin_any ⟨sx, Ax, nx, cx⟩ ⟨⟨g2, e2, l2⟩, A2, n2, c2⟩ _ Rx R2 (by show nx ≤ _; omega) (by show n2 ≤ _; omega) (show S.rise sx by rw [Hx.out]; exact S.join_rise (S.right_rise HR0.out) (S.right_rise HR1.out)) (S.right_rise HR2.out)).mono ?_
          rintro e w8 ⟨⟨sy, Ay, ny, cy⟩, rfl, hs, hown, hb⟩
          simp only at hs
          have Hy : Hid (sy = S.join sx ⟨g2, e2, l2⟩) := Lib.hid hs
          have Ry := hown.srd
          have bdy : ny ≤ n0 + n1 + n2 := by have hq := Ry.len; have := HL0.out; have := HL1.out; have := HL2.out; have := Rx.len; have := join_apps_length sx ⟨g2, e2, l2⟩; rw [Hy.out] at hq; (try simp only at *); omega
          clear hs hown
          replace R0 := R0.belowH hb
          replace R1 := R1.belowH hb
          replace R2 := R2.belowH hb
          replace Rx := Rx.belowH hb
          replace X := X.belowH hb
          replace Y := Y.belowH hb
          replace Z := Z.belowH hb
          replace P := P.belowH hb
          replace b := b.trans (hb.mono b.size)
          clear hb
          simp only [sv]
          clear x0 x1 x2
          clear y0 y1 y2
          clear z0 z1 z2
          clear p0 p1 p2
          replace R0 := R0.allocH (.cells #[.int .i64 sy.gen, .int .i64 sy.beat, .slice Ay ny cy] 24)
          replace R1 := R1.allocH (.cells #[.int .i64 sy.gen, .int .i64 sy.beat, .slice Ay ny cy] 24)
          replace R2 := R2.allocH (.cells #[.int .i64 sy.gen, .int .i64 sy.beat, .slice Ay ny cy] 24)
          replace Rx := Rx.allocH (.cells #[.int .i64 sy.gen, .int .i64 sy.beat, .slice Ay ny cy] 24)
          replace Ry := Ry.allocH (.cells #[.int .i64 sy.gen, .int .i64 sy.beat, .slice Ay ny cy] 24)
          replace X := X.alloc (.cells #[.int .i64 sy.gen, .int .i64 sy.beat, .slice Ay ny cy] 24)
          replace Y := Y.alloc (.cells #[.int .i64 sy.gen, .int .i64 sy.beat, .slice Ay ny cy] 24)
          replace Z := Z.alloc (.cells #[.int .i64 sy.gen, .int .i64 sy.beat, .slice Ay ny cy] 24)
          replace P := P.alloc (.cells #[.int .i64 sy.gen, .int .i64 sy.beat, .slice Ay ny cy] 24)
          have Q := Box.new w8 #[.int .i64 sy.gen, .int .i64 sy.beat, .slice Ay ny cy] 24
          replace b := b.alloc b.size (.cells #[.int .i64 sy.gen, .int .i64 sy.beat, .slice Ay ny cy] 24)
          go_upto_region 7 with fail
          have hql := Q.lt
          generalize (w8.alloc (.cells #[.int .i64 sy.gen, .int .i64 sy.beat, .slice Ay ny cy] 24)) = w9 at *
          go_cut [9] (fun s9 wx => ∃ (bz nz cz : Nat) (Az : Option Addr) (sz : St), s9 = .pointer (some ⟨bz, 0, none⟩) ∧ sz = S.join ⟨g0, e0, l0⟩ (S.join ⟨g2, e2, l2⟩ ⟨g1, e1, l1⟩) ∧ nz ≤ n0 + (n2 + n1) ∧ SRd wx ⟨sz, Az, nz, cz⟩ ∧ Box wx bz 24 #[.int .i64 sz.gen, .int .i64 sz.beat, .slice Az nz cz] ∧ SRd wx ⟨⟨g0, e0, l0⟩, A0, n0, c0⟩ ∧ SRd wx ⟨⟨g1, e1, l1⟩, A1, n1, c1⟩ ∧ SRd wx ⟨⟨g2, e2, l2⟩, A2, n2, c2⟩ ∧ SRd wx ⟨sx, Ax, nx, cx⟩ ∧ SRd wx ⟨sy, Ay, ny, cy⟩ ∧ Box wx (W.heap.size) 24 #[.int .i64 g0, .int .i64 e0, .slice A0 n0 c0] ∧ Box wx (W.heap.size + 1) 24 #[.int .i64 g1, .int .i64 e1, .slice A1 n1 c1] ∧ Box wx (W.heap.size + 1 + 1) 24 #[.int .i64 g2, .int .i64 e2, .slice A2 n2 c2] ∧ Box wx (w7.heap.size) 24 #[.int .i64 sx.gen, .int .i64 sx.beat, .slice Ax nx cx] ∧ Box wx (w8.heap.size) 24 #[.int .i64 sy.gen, .int .i64 sy.beat, .slice Ay ny cy] ∧ Below W.heap.size W wx)
          case first =>
            replace R0 := R0.drewH
            replace R1 := R1.drewH
            replace R2 := R2.drewH
            replace Rx := Rx.drewH
            replace Ry := Ry.drewH
            replace X := X.drew
            replace Y := Y.drew
            replace Z := Z.drew
            replace P := P.drew
            replace Q := Q.drew
            replace b := b.drew
            refine wp_region_held_drew (S := (fun w' => (w'.cell? ⟨W.heap.size, 0, none⟩ = some (.int .i64 g0) ∧ w'.cell? ⟨W.heap.size, 1, none⟩ = some (.int .i64 e0) ∧ w'.cell? ⟨W.heap.size, 2, none⟩ = some (.slice A0 n0 c0)) ∧ (w'.cell? ⟨W.heap.size + 1, 0, none⟩ = some (.int .i64 g1) ∧ w'.cell? ⟨W.heap.size + 1, 1, none⟩ = some (.int .i64 e1) ∧ w'.cell? ⟨W.heap.size + 1, 2, none⟩ = some (.slice A1 n1 c1)) ∧ (w'.cell? ⟨W.heap.size + 1 + 1, 0, none⟩ = some (.int .i64 g2) ∧ w'.cell? ⟨W.heap.size + 1 + 1, 1, none⟩ = some (.int .i64 e2) ∧ w'.cell? ⟨W.heap.size + 1 + 1, 2, none⟩ = some (.slice A2 n2 c2)))) (by kernel_rfl) (by exact ⟨⟨X.at 0 rfl, X.at 1 rfl, X.at 2 rfl⟩, ⟨Y.at 0 rfl, Y.at 1 rfl, Y.at 2 rfl⟩, ⟨Z.at 0 rfl, Z.at 1 rfl, Z.at 2 rfl⟩⟩) (fun hHeld0 => ?_)
            generalize w9.drew = wd at *
            refine wpAnyH_take (i := 0) (oi := ⟨some 38, _, _, _, _, _⟩) (v := ?_) rfl (by kernel_rfl) (by kernel_rfl) (by kernel_rfl) (fun _ _ _ h => h) (Or.inl ⟨by rfl, ?_⟩) hHeld0 ?_
            rotate_left
            · (intro w' hSw; (try dsimp only at hSw); go_simp; all_goals (with_reducible rfl))
            try simp only [Act.put, List.setIfInBounds_toArray, List.set_cons_zero, List.set_cons_succ]
            refine wpAnyH_take (i := 1) (oi := ⟨some 39, _, _, _, _, _⟩) (v := ?_) rfl (by kernel_rfl) (by kernel_rfl) (by kernel_rfl) (fun _ _ _ h => h) (Or.inl ⟨by rfl, ?_⟩) hHeld0 ?_
            rotate_left
            · (intro w' hSw; (try dsimp only at hSw); go_simp; all_goals (with_reducible rfl))
            try simp only [Act.put, List.setIfInBounds_toArray, List.set_cons_zero, List.set_cons_succ]
            refine wpAnyH_take (i := 2) (oi := ⟨some 40, _, _, _, _, _⟩) (v := ?_) rfl (by kernel_rfl) (by kernel_rfl) (by kernel_rfl) (fun _ _ _ h => h) (Or.inl ⟨by rfl, ?_⟩) hHeld0 ?_
            rotate_left
            · (intro w' hSw; (try dsimp only at hSw); go_simp; all_goals (with_reducible rfl))
            try simp only [Act.put, List.setIfInBounds_toArray, List.set_cons_zero, List.set_cons_succ]
            refine wpAnyH_ready (rs := [3, 5]) (by kernel_rfl) (by simp) (AllReadyH.cons (o := ⟨some 41, _, _, _, _, _⟩) rfl (fun K hK => ?_) (AllReadyH.cons (o := ⟨some 9, _, _, _, _, _⟩) rfl (fun K hK => ?_) AllReadyH.nil))
            · skip
              go_simp
              refine (sjoin_any ⟨⟨g2, e2, l2⟩, A2, n2, c2⟩ ⟨⟨g1, e1, l1⟩, A1, n1, c1⟩ _ R2 R1 (by show n2 ≤ _; omega) (by show n1 ≤ _; omega) (S.right_rise HR2.out) (S.right_rise HR1.out)).mono ?_
              rintro e w9 ⟨⟨sdd, Add, ndd, cdd⟩, rfl, hs, hown, hb⟩
              simp only at hs
              have Hdd : Hid (sdd = S.join ⟨g2, e2, l2⟩ ⟨g1, e1, l1⟩) := Lib.hid hs
              have Rdd := hown.srd
              have bddd : ndd ≤ n2 + n1 := by have hq := Rdd.len; have := HL0.out; have := HL1.out; have := HL2.out; have := join_apps_length ⟨g2, e2, l2⟩ ⟨g1, e1, l1⟩; rw [Hdd.out] at hq; (try simp only at *); omega
              clear hs hown
              replace R0 := R0.belowH hb
              replace R1 := R1.belowH hb
              replace R2 := R2.belowH hb
              replace Rx := Rx.belowH hb
              replace Ry := Ry.belowH hb
              replace X := X.belowH hb
              replace Y := Y.belowH hb
              replace Z := Z.belowH hb
              replace P := P.belowH hb
              replace Q := Q.belowH hb
              replace b := b.trans (hb.mono b.size)
              clear hb
              simp only [sv]
              go_simp
              refine hK.out _ _ (by exact ⟨⟨X.at 0 rfl, X.at 1 rfl, X.at 2 rfl⟩, ⟨Y.at 0 rfl, Y.at 1 rfl, Y.at 2 rfl⟩, ⟨Z.at 0 rfl, Z.at 1 rfl, Z.at 2 rfl⟩⟩) (fun hHeld1 => ?_)
              clear hK hHeld0 K
              try simp only [Act.put, List.setIfInBounds_toArray, List.set_cons_zero, List.set_cons_succ]
              refine wpAnyH_ready (rs := [4, 5]) (by kernel_rfl) (by simp) (AllReadyH.cons (o := ⟨some 42, _, _, _, _, _⟩) rfl (fun K hK => ?_) (AllReadyH.cons (o := ⟨some 9, _, _, _, _, _⟩) rfl (fun K hK => ?_) AllReadyH.nil))
              · skip
                go_simp
                refine (sjoin_any ⟨⟨g0, e0, l0⟩, A0, n0, c0⟩ ⟨sdd, Add, ndd, cdd⟩ _ R0 Rdd (by show n0 ≤ _; omega) (by show ndd ≤ _; omega) (S.right_rise HR0.out) (show S.rise sdd by rw [Hdd.out]; exact S.join_rise (S.right_rise HR2.out) (S.right_rise HR1.out))).mono ?_
                rintro e w10 ⟨⟨sz, Az, nz, cz⟩, rfl, hs, hown, hb⟩
                simp only at hs
                have Hz : Hid (sz = S.join ⟨g0, e0, l0⟩ sdd) := Lib.hid hs
                have Rz := hown.srd
                have bdz : nz ≤ n0 + (n2 + n1) := by have hq := Rz.len; have := HL0.out; have := HL1.out; have := HL2.out; have := Rdd.len; have := join_apps_length ⟨g0, e0, l0⟩ sdd; rw [Hz.out] at hq; (try simp only at *); omega
                clear hs hown
                replace R0 := R0.belowH hb
                replace R1 := R1.belowH hb
                replace R2 := R2.belowH hb
                replace Rx := Rx.belowH hb
                replace Ry := Ry.belowH hb
                replace Rdd := Rdd.belowH hb
                replace X := X.belowH hb
                replace Y := Y.belowH hb
                replace Z := Z.belowH hb
                replace P := P.belowH hb
                replace Q := Q.belowH hb
                replace b := b.trans (hb.mono b.size)
                clear hb
                simp only [sv]
                go_simp
                refine hK.out _ _ (by exact ⟨⟨X.at 0 rfl, X.at 1 rfl, X.at 2 rfl⟩, ⟨Y.at 0 rfl, Y.at 1 rfl, Y.at 2 rfl⟩, ⟨Z.at 0 rfl, Z.at 1 rfl, Z.at 2 rfl⟩⟩) (fun hHeld2 => ?_)
                clear hK hHeld1 K
                try simp only [Act.put, List.setIfInBounds_toArray, List.set_cons_zero, List.set_cons_succ]
                refine wpAnyH_ready (rs := [5]) (by kernel_rfl) (by simp) (AllReadyH.cons (o := ⟨some 9, _, _, _, _, _⟩) rfl (fun K hK => ?_) AllReadyH.nil)
                go_simp
                have bpre := b
                have hbq := b.size
                have ba := (Below.refl w10.heap.size w10).alloc (Nat.le_refl _) (.cells #[.int .i64 0, .int .i64 0, .slice none 0 0] 24)
                have R0a := R0
                have R1a := R1
                have R2a := R2
                have Rxa := Rx
                have Rya := Ry
                have Rdda := Rdd
                have Rza := Rz
                have Xa := X
                have Ya := Y
                have Za := Z
                have Pa := P
                have Qa := Q
                replace R0 := R0.allocH (.cells #[.int .i64 0, .int .i64 0, .slice none 0 0] 24)
                replace R1 := R1.allocH (.cells #[.int .i64 0, .int .i64 0, .slice none 0 0] 24)
                replace R2 := R2.allocH (.cells #[.int .i64 0, .int .i64 0, .slice none 0 0] 24)
                replace Rx := Rx.allocH (.cells #[.int .i64 0, .int .i64 0, .slice none 0 0] 24)
                replace Ry := Ry.allocH (.cells #[.int .i64 0, .int .i64 0, .slice none 0 0] 24)
                replace Rdd := Rdd.allocH (.cells #[.int .i64 0, .int .i64 0, .slice none 0 0] 24)
                replace Rz := Rz.allocH (.cells #[.int .i64 0, .int .i64 0, .slice none 0 0] 24)
                replace X := X.alloc (.cells #[.int .i64 0, .int .i64 0, .slice none 0 0] 24)
                replace Y := Y.alloc (.cells #[.int .i64 0, .int .i64 0, .slice none 0 0] 24)
                replace Z := Z.alloc (.cells #[.int .i64 0, .int .i64 0, .slice none 0 0] 24)
                replace P := P.alloc (.cells #[.int .i64 0, .int .i64 0, .slice none 0 0] 24)
                replace Q := Q.alloc (.cells #[.int .i64 0, .int .i64 0, .slice none 0 0] 24)
                have O9 := Box.new w10 #[.int .i64 0, .int .i64 0, .slice none 0 0] 24
                replace b := b.alloc b.size (.cells #[.int .i64 0, .int .i64 0, .slice none 0 0] 24)
                go_simp
                refine hK.out _ _ (by exact ⟨⟨X.at 0 rfl, X.at 1 rfl, X.at 2 rfl⟩, ⟨Y.at 0 rfl, Y.at 1 rfl, Y.at 2 rfl⟩, ⟨Z.at 0 rfl, Z.at 1 rfl, Z.at 2 rfl⟩⟩) (fun hHeld3 => ?_)
                clear hK hHeld2 K
                try simp only [Act.put, List.setIfInBounds_toArray, List.set_cons_zero, List.set_cons_succ]
                refine wpAnyH_ready (rs := [6]) (by kernel_rfl) (by simp) (AllReadyH.cons (o := ⟨none, _, _, _, _, _⟩) rfl (fun K hK => ?_) AllReadyH.nil)
                have q0 := O9.at 0 rfl
                have q1 := O9.at 1 rfl
                have q2 := O9.at 2 rfl
                have qf := O9.cold
                have ql := O9.lt
                go_simp
                clear q0 q1 q2 qf ql
                replace R0 := R0a.allocH (.cells #[.int .i64 sz.gen, .int .i64 sz.beat, .slice Az nz cz] 24)
                replace R1 := R1a.allocH (.cells #[.int .i64 sz.gen, .int .i64 sz.beat, .slice Az nz cz] 24)
                replace R2 := R2a.allocH (.cells #[.int .i64 sz.gen, .int .i64 sz.beat, .slice Az nz cz] 24)
                replace Rx := Rxa.allocH (.cells #[.int .i64 sz.gen, .int .i64 sz.beat, .slice Az nz cz] 24)
                replace Ry := Rya.allocH (.cells #[.int .i64 sz.gen, .int .i64 sz.beat, .slice Az nz cz] 24)
                replace Rdd := Rdda.allocH (.cells #[.int .i64 sz.gen, .int .i64 sz.beat, .slice Az nz cz] 24)
                replace Rz := Rza.allocH (.cells #[.int .i64 sz.gen, .int .i64 sz.beat, .slice Az nz cz] 24)
                replace X := Xa.alloc (.cells #[.int .i64 sz.gen, .int .i64 sz.beat, .slice Az nz cz] 24)
                replace Y := Ya.alloc (.cells #[.int .i64 sz.gen, .int .i64 sz.beat, .slice Az nz cz] 24)
                replace Z := Za.alloc (.cells #[.int .i64 sz.gen, .int .i64 sz.beat, .slice Az nz cz] 24)
                replace P := Pa.alloc (.cells #[.int .i64 sz.gen, .int .i64 sz.beat, .slice Az nz cz] 24)
                replace Q := Qa.alloc (.cells #[.int .i64 sz.gen, .int .i64 sz.beat, .slice Az nz cz] 24)
                have Rz9 := Rz
                replace b := bpre.alloc bpre.size (.cells #[.int .i64 sz.gen, .int .i64 sz.beat, .slice Az nz cz] 24)
                have O9' := Box.new w10 #[.int .i64 sz.gen, .int .i64 sz.beat, .slice Az nz cz] 24
                go_simp
                refine hK.out _ _ (by exact ⟨⟨X.at 0 rfl, X.at 1 rfl, X.at 2 rfl⟩, ⟨Y.at 0 rfl, Y.at 1 rfl, Y.at 2 rfl⟩, ⟨Z.at 0 rfl, Z.at 1 rfl, Z.at 2 rfl⟩⟩) (fun hHeld4 => ?_)
                clear hK hHeld3 K
                try simp only [Act.put, List.setIfInBounds_toArray, List.set_cons_zero, List.set_cons_succ]
                refine wpAnyH_done (by kernel_rfl) ?_ _
                go_wp2_with fail
                go_meet
                exact ⟨_, nz, cz, Az, sz, rfl, by rw [Hz.out, Hdd.out], by omega, Rz9, O9', R0, R1, R2, Rx, Ry, X, Y, Z, P, Q, b⟩
              · skip
                go_simp
                have bpre := b
                have hbq := b.size
                have ba := (Below.refl w9.heap.size w9).alloc (Nat.le_refl _) (.cells #[.int .i64 0, .int .i64 0, .slice none 0 0] 24)
                have R0a := R0
                have R1a := R1
                have R2a := R2
                have Rxa := Rx
                have Rya := Ry
                have Rdda := Rdd
                have Xa := X
                have Ya := Y
                have Za := Z
                have Pa := P
                have Qa := Q
                replace R0 := R0.allocH (.cells #[.int .i64 0, .int .i64 0, .slice none 0 0] 24)
                replace R1 := R1.allocH (.cells #[.int .i64 0, .int .i64 0, .slice none 0 0] 24)
                replace R2 := R2.allocH (.cells #[.int .i64 0, .int .i64 0, .slice none 0 0] 24)
                replace Rx := Rx.allocH (.cells #[.int .i64 0, .int .i64 0, .slice none 0 0] 24)
                replace Ry := Ry.allocH (.cells #[.int .i64 0, .int .i64 0, .slice none 0 0] 24)
                replace Rdd := Rdd.allocH (.cells #[.int .i64 0, .int .i64 0, .slice none 0 0] 24)
                replace X := X.alloc (.cells #[.int .i64 0, .int .i64 0, .slice none 0 0] 24)
                replace Y := Y.alloc (.cells #[.int .i64 0, .int .i64 0, .slice none 0 0] 24)
                replace Z := Z.alloc (.cells #[.int .i64 0, .int .i64 0, .slice none 0 0] 24)
                replace P := P.alloc (.cells #[.int .i64 0, .int .i64 0, .slice none 0 0] 24)
                replace Q := Q.alloc (.cells #[.int .i64 0, .int .i64 0, .slice none 0 0] 24)
                have O9 := Box.new w9 #[.int .i64 0, .int .i64 0, .slice none 0 0] 24
                replace b := b.alloc b.size (.cells #[.int .i64 0, .int .i64 0, .slice none 0 0] 24)
                go_simp
                refine hK.out _ _ (by exact ⟨⟨X.at 0 rfl, X.at 1 rfl, X.at 2 rfl⟩, ⟨Y.at 0 rfl, Y.at 1 rfl, Y.at 2 rfl⟩, ⟨Z.at 0 rfl, Z.at 1 rfl, Z.at 2 rfl⟩⟩) (fun hHeld2 => ?_)
                clear hK hHeld1 K
                try simp only [Act.put, List.setIfInBounds_toArray, List.set_cons_zero, List.set_cons_succ]
                refine wpAnyH_ready (rs := [4]) (by kernel_rfl) (by simp) (AllReadyH.cons (o := ⟨some 42, _, _, _, _, _⟩) rfl (fun K hK => ?_) AllReadyH.nil)
                go_simp
                have hqz := O9.lt
                refine (sjoin_any ⟨⟨g0, e0, l0⟩, A0, n0, c0⟩ ⟨sdd, Add, ndd, cdd⟩ _ R0 Rdd (by show n0 ≤ _; omega) (by show ndd ≤ _; omega) (S.right_rise HR0.out) (show S.rise sdd by rw [Hdd.out]; exact S.join_rise (S.right_rise HR2.out) (S.right_rise HR1.out))).mono ?_
                rintro e w10 ⟨⟨sz, Az, nz, cz⟩, rfl, hs, hown, hb⟩
                simp only at hs
                have Hz : Hid (sz = S.join ⟨g0, e0, l0⟩ sdd) := Lib.hid hs
                have Rz := hown.srd
                have bdz : nz ≤ n0 + (n2 + n1) := by have hq := Rz.len; have := HL0.out; have := HL1.out; have := HL2.out; have := Rdd.len; have := join_apps_length ⟨g0, e0, l0⟩ sdd; rw [Hz.out] at hq; (try simp only at *); omega
                have hownz := hown
                clear hs hown
                replace ba := ba.trans (hb.mono ba.size)
                replace R0 := R0.belowH hb
                replace R1 := R1.belowH hb
                replace R2 := R2.belowH hb
                replace Rx := Rx.belowH hb
                replace Ry := Ry.belowH hb
                replace Rdd := Rdd.belowH hb
                replace X := X.belowH hb
                replace Y := Y.belowH hb
                replace Z := Z.belowH hb
                replace P := P.belowH hb
                replace Q := Q.belowH hb
                replace O9 := O9.belowH hb
                replace b := b.trans (hb.mono b.size)
                clear hb
                simp only [sv]
                go_simp
                refine hK.out _ _ (by exact ⟨⟨X.at 0 rfl, X.at 1 rfl, X.at 2 rfl⟩, ⟨Y.at 0 rfl, Y.at 1 rfl, Y.at 2 rfl⟩, ⟨Z.at 0 rfl, Z.at 1 rfl, Z.at 2 rfl⟩⟩) (fun hHeld3 => ?_)
                clear hK hHeld2 K
                try simp only [Act.put, List.setIfInBounds_toArray, List.set_cons_zero, List.set_cons_succ]
                refine wpAnyH_ready (rs := [6]) (by kernel_rfl) (by simp) (AllReadyH.cons (o := ⟨none, _, _, _, _, _⟩) rfl (fun K hK => ?_) AllReadyH.nil)
                have q0 := O9.at 0 rfl
                have q1 := O9.at 1 rfl
                have q2 := O9.at 2 rfl
                have qf := O9.cold
                have ql := O9.lt
                go_simp
                clear q0 q1 q2 qf ql
                have Rz9 := Rd.of_own (own_set (o := 2) (own_set (o := 1) (own_set (o := 0) (show World.ownsRow _ _ _ 3 (.slice Az nz cz) nz (EC sz.apps) from hownz) hqz (.int .i64 sz.gen)) hqz (.int .i64 sz.beat)) hqz (.slice Az nz cz))
                replace b := below_set (o := 2) (below_set (o := 1) (below_set (o := 0) b hbq (.int .i64 sz.gen)) hbq (.int .i64 sz.beat)) hbq (.slice Az nz cz)
                replace ba := below_set (o := 2) (below_set (o := 1) (below_set (o := 0) ba (Nat.le_refl _) (.int .i64 sz.gen)) (Nat.le_refl _) (.int .i64 sz.beat)) (Nat.le_refl _) (.slice Az nz cz)
                replace R0 := R0a.belowH ba
                replace R1 := R1a.belowH ba
                replace R2 := R2a.belowH ba
                replace Rx := Rxa.belowH ba
                replace Ry := Rya.belowH ba
                replace Rdd := Rdda.belowH ba
                replace X := Xa.belowH ba
                replace Y := Ya.belowH ba
                replace Z := Za.belowH ba
                replace P := Pa.belowH ba
                replace Q := Qa.belowH ba
                have O9' : Box _ w9.heap.size 24 #[.int .i64 sz.gen, .int .i64 sz.beat, .slice Az nz cz] := ((O9.set 0 (.int .i64 sz.gen)).set 1 (.int .i64 sz.beat)).set 2 (.slice Az nz cz)
                go_simp
                refine hK.out _ _ (by exact ⟨⟨X.at 0 rfl, X.at 1 rfl, X.at 2 rfl⟩, ⟨Y.at 0 rfl, Y.at 1 rfl, Y.at 2 rfl⟩, ⟨Z.at 0 rfl, Z.at 1 rfl, Z.at 2 rfl⟩⟩) (fun hHeld4 => ?_)
                clear hK hHeld3 K
                try simp only [Act.put, List.setIfInBounds_toArray, List.set_cons_zero, List.set_cons_succ]
                refine wpAnyH_done (by kernel_rfl) ?_ _
                go_wp2_with fail
                go_meet
                exact ⟨_, nz, cz, Az, sz, rfl, by rw [Hz.out, Hdd.out], by omega, Rz9, O9', R0, R1, R2, Rx, Ry, X, Y, Z, P, Q, b⟩
            · skip
              go_simp
              have bpre := b
              have hbq := b.size
              have ba := (Below.refl wd.heap.size wd).alloc (Nat.le_refl _) (.cells #[.int .i64 0, .int .i64 0, .slice none 0 0] 24)
              have R0a := R0
              have R1a := R1
              have R2a := R2
              have Rxa := Rx
              have Rya := Ry
              have Xa := X
              have Ya := Y
              have Za := Z
              have Pa := P
              have Qa := Q
              replace R0 := R0.allocH (.cells #[.int .i64 0, .int .i64 0, .slice none 0 0] 24)
              replace R1 := R1.allocH (.cells #[.int .i64 0, .int .i64 0, .slice none 0 0] 24)
              replace R2 := R2.allocH (.cells #[.int .i64 0, .int .i64 0, .slice none 0 0] 24)
              replace Rx := Rx.allocH (.cells #[.int .i64 0, .int .i64 0, .slice none 0 0] 24)
              replace Ry := Ry.allocH (.cells #[.int .i64 0, .int .i64 0, .slice none 0 0] 24)
              replace X := X.alloc (.cells #[.int .i64 0, .int .i64 0, .slice none 0 0] 24)
              replace Y := Y.alloc (.cells #[.int .i64 0, .int .i64 0, .slice none 0 0] 24)
              replace Z := Z.alloc (.cells #[.int .i64 0, .int .i64 0, .slice none 0 0] 24)
              replace P := P.alloc (.cells #[.int .i64 0, .int .i64 0, .slice none 0 0] 24)
              replace Q := Q.alloc (.cells #[.int .i64 0, .int .i64 0, .slice none 0 0] 24)
              have O9 := Box.new wd #[.int .i64 0, .int .i64 0, .slice none 0 0] 24
              replace b := b.alloc b.size (.cells #[.int .i64 0, .int .i64 0, .slice none 0 0] 24)
              go_simp
              refine hK.out _ _ (by exact ⟨⟨X.at 0 rfl, X.at 1 rfl, X.at 2 rfl⟩, ⟨Y.at 0 rfl, Y.at 1 rfl, Y.at 2 rfl⟩, ⟨Z.at 0 rfl, Z.at 1 rfl, Z.at 2 rfl⟩⟩) (fun hHeld1 => ?_)
              clear hK hHeld0 K
              try simp only [Act.put, List.setIfInBounds_toArray, List.set_cons_zero, List.set_cons_succ]
              refine wpAnyH_ready (rs := [3]) (by kernel_rfl) (by simp) (AllReadyH.cons (o := ⟨some 41, _, _, _, _, _⟩) rfl (fun K hK => ?_) AllReadyH.nil)
              go_simp
              refine (sjoin_any ⟨⟨g2, e2, l2⟩, A2, n2, c2⟩ ⟨⟨g1, e1, l1⟩, A1, n1, c1⟩ _ R2 R1 (by show n2 ≤ _; omega) (by show n1 ≤ _; omega) (S.right_rise HR2.out) (S.right_rise HR1.out)).mono ?_
              rintro e w9 ⟨⟨sdd, Add, ndd, cdd⟩, rfl, hs, hown, hb⟩
              simp only at hs
              have Hdd : Hid (sdd = S.join ⟨g2, e2, l2⟩ ⟨g1, e1, l1⟩) := Lib.hid hs
              have Rdd := hown.srd
              have bddd : ndd ≤ n2 + n1 := by have hq := Rdd.len; have := HL0.out; have := HL1.out; have := HL2.out; have := join_apps_length ⟨g2, e2, l2⟩ ⟨g1, e1, l1⟩; rw [Hdd.out] at hq; (try simp only at *); omega
              clear hs hown
              replace ba := ba.trans (hb.mono ba.size)
              replace R0 := R0.belowH hb
              replace R1 := R1.belowH hb
              replace R2 := R2.belowH hb
              replace Rx := Rx.belowH hb
              replace Ry := Ry.belowH hb
              replace X := X.belowH hb
              replace Y := Y.belowH hb
              replace Z := Z.belowH hb
              replace P := P.belowH hb
              replace Q := Q.belowH hb
              replace O9 := O9.belowH hb
              replace b := b.trans (hb.mono b.size)
              clear hb
              simp only [sv]
              go_simp
              refine hK.out _ _ (by exact ⟨⟨X.at 0 rfl, X.at 1 rfl, X.at 2 rfl⟩, ⟨Y.at 0 rfl, Y.at 1 rfl, Y.at 2 rfl⟩, ⟨Z.at 0 rfl, Z.at 1 rfl, Z.at 2 rfl⟩⟩) (fun hHeld2 => ?_)
              clear hK hHeld1 K
              try simp only [Act.put, List.setIfInBounds_toArray, List.set_cons_zero, List.set_cons_succ]
              refine wpAnyH_ready (rs := [4]) (by kernel_rfl) (by simp) (AllReadyH.cons (o := ⟨some 42, _, _, _, _, _⟩) rfl (fun K hK => ?_) AllReadyH.nil)
              go_simp
              have hqz := O9.lt
              refine (sjoin_any ⟨⟨g0, e0, l0⟩, A0, n0, c0⟩ ⟨sdd, Add, ndd, cdd⟩ _ R0 Rdd (by show n0 ≤ _; omega) (by show ndd ≤ _; omega) (S.right_rise HR0.out) (show S.rise sdd by rw [Hdd.out]; exact S.join_rise (S.right_rise HR2.out) (S.right_rise HR1.out))).mono ?_
              rintro e w10 ⟨⟨sz, Az, nz, cz⟩, rfl, hs, hown, hb⟩
              simp only at hs
              have Hz : Hid (sz = S.join ⟨g0, e0, l0⟩ sdd) := Lib.hid hs
              have Rz := hown.srd
              have bdz : nz ≤ n0 + (n2 + n1) := by have hq := Rz.len; have := HL0.out; have := HL1.out; have := HL2.out; have := Rdd.len; have := join_apps_length ⟨g0, e0, l0⟩ sdd; rw [Hz.out] at hq; (try simp only at *); omega
              have hownz := hown
              clear hs hown
              replace ba := ba.trans (hb.mono ba.size)
              replace R0 := R0.belowH hb
              replace R1 := R1.belowH hb
              replace R2 := R2.belowH hb
              replace Rx := Rx.belowH hb
              replace Ry := Ry.belowH hb
              replace Rdd := Rdd.belowH hb
              replace X := X.belowH hb
              replace Y := Y.belowH hb
              replace Z := Z.belowH hb
              replace P := P.belowH hb
              replace Q := Q.belowH hb
              replace O9 := O9.belowH hb
              replace b := b.trans (hb.mono b.size)
              clear hb
              simp only [sv]
              go_simp
              refine hK.out _ _ (by exact ⟨⟨X.at 0 rfl, X.at 1 rfl, X.at 2 rfl⟩, ⟨Y.at 0 rfl, Y.at 1 rfl, Y.at 2 rfl⟩, ⟨Z.at 0 rfl, Z.at 1 rfl, Z.at 2 rfl⟩⟩) (fun hHeld3 => ?_)
              clear hK hHeld2 K
              try simp only [Act.put, List.setIfInBounds_toArray, List.set_cons_zero, List.set_cons_succ]
              refine wpAnyH_ready (rs := [6]) (by kernel_rfl) (by simp) (AllReadyH.cons (o := ⟨none, _, _, _, _, _⟩) rfl (fun K hK => ?_) AllReadyH.nil)
              have q0 := O9.at 0 rfl
              have q1 := O9.at 1 rfl
              have q2 := O9.at 2 rfl
              have qf := O9.cold
              have ql := O9.lt
              go_simp
              clear q0 q1 q2 qf ql
              have Rz9 := Rd.of_own (own_set (o := 2) (own_set (o := 1) (own_set (o := 0) (show World.ownsRow _ _ _ 3 (.slice Az nz cz) nz (EC sz.apps) from hownz) hqz (.int .i64 sz.gen)) hqz (.int .i64 sz.beat)) hqz (.slice Az nz cz))
              replace b := below_set (o := 2) (below_set (o := 1) (below_set (o := 0) b hbq (.int .i64 sz.gen)) hbq (.int .i64 sz.beat)) hbq (.slice Az nz cz)
              replace ba := below_set (o := 2) (below_set (o := 1) (below_set (o := 0) ba (Nat.le_refl _) (.int .i64 sz.gen)) (Nat.le_refl _) (.int .i64 sz.beat)) (Nat.le_refl _) (.slice Az nz cz)
              replace R0 := R0a.belowH ba
              replace R1 := R1a.belowH ba
              replace R2 := R2a.belowH ba
              replace Rx := Rxa.belowH ba
              replace Ry := Rya.belowH ba
              replace X := Xa.belowH ba
              replace Y := Ya.belowH ba
              replace Z := Za.belowH ba
              replace P := Pa.belowH ba
              replace Q := Qa.belowH ba
              have O9' : Box _ wd.heap.size 24 #[.int .i64 sz.gen, .int .i64 sz.beat, .slice Az nz cz] := ((O9.set 0 (.int .i64 sz.gen)).set 1 (.int .i64 sz.beat)).set 2 (.slice Az nz cz)
              go_simp
              refine hK.out _ _ (by exact ⟨⟨X.at 0 rfl, X.at 1 rfl, X.at 2 rfl⟩, ⟨Y.at 0 rfl, Y.at 1 rfl, Y.at 2 rfl⟩, ⟨Z.at 0 rfl, Z.at 1 rfl, Z.at 2 rfl⟩⟩) (fun hHeld4 => ?_)
              clear hK hHeld3 K
              try simp only [Act.put, List.setIfInBounds_toArray, List.set_cons_zero, List.set_cons_succ]
              refine wpAnyH_done (by kernel_rfl) ?_ _
              go_wp2_with fail
              go_meet
              exact ⟨_, nz, cz, Az, sz, rfl, by rw [Hz.out, Hdd.out], by omega, Rz9, O9', R0, R1, R2, Rx, Ry, X, Y, Z, P, Q, b⟩
          case rest =>
            clear R0 R1 R2 Rx Ry X Y Z P Q b hql
            obtain ⟨bz, nz, cz, Az, sz, rfl, hz, bdz, Rz, O9, R0, R1, R2, Rx, Ry, X, Y, Z, P, Q, b⟩ := hcut
            have Hz := Lib.hid hz
            clear hz
            go_wp2
            replace Rz := Rz.drewH
            replace R0 := R0.drewH
            replace R1 := R1.drewH
            replace R2 := R2.drewH
            replace Rx := Rx.drewH
            replace Ry := Ry.drewH
            replace O9 := O9.drew
            replace X := X.drew
            replace Y := Y.drew
            replace Z := Z.drew
            replace P := P.drew
            replace Q := Q.drew
            replace b := b.drew
            refine wp_region_held_drew (S := (fun w' => (w'.cell? ⟨W.heap.size, 0, none⟩ = some (.int .i64 g0) ∧ w'.cell? ⟨W.heap.size, 1, none⟩ = some (.int .i64 e0) ∧ w'.cell? ⟨W.heap.size, 2, none⟩ = some (.slice A0 n0 c0)) ∧ (w'.cell? ⟨W.heap.size + 1, 0, none⟩ = some (.int .i64 g1) ∧ w'.cell? ⟨W.heap.size + 1, 1, none⟩ = some (.int .i64 e1) ∧ w'.cell? ⟨W.heap.size + 1, 2, none⟩ = some (.slice A1 n1 c1)) ∧ (w'.cell? ⟨W.heap.size + 1 + 1, 0, none⟩ = some (.int .i64 g2) ∧ w'.cell? ⟨W.heap.size + 1 + 1, 1, none⟩ = some (.int .i64 e2) ∧ w'.cell? ⟨W.heap.size + 1 + 1, 2, none⟩ = some (.slice A2 n2 c2)) ∧ (w'.cell? ⟨w7.heap.size, 0, none⟩ = some (.int .i64 sx.gen) ∧ w'.cell? ⟨w7.heap.size, 1, none⟩ = some (.int .i64 sx.beat) ∧ w'.cell? ⟨w7.heap.size, 2, none⟩ = some (.slice Ax nx cx)) ∧ (w'.cell? ⟨w8.heap.size, 0, none⟩ = some (.int .i64 sy.gen) ∧ w'.cell? ⟨w8.heap.size, 1, none⟩ = some (.int .i64 sy.beat) ∧ w'.cell? ⟨w8.heap.size, 2, none⟩ = some (.slice Ay ny cy)) ∧ (w'.cell? ⟨bz, 0, none⟩ = some (.int .i64 sz.gen) ∧ w'.cell? ⟨bz, 1, none⟩ = some (.int .i64 sz.beat) ∧ w'.cell? ⟨bz, 2, none⟩ = some (.slice Az nz cz)))) (by kernel_rfl) (by exact ⟨⟨X.at 0 rfl, X.at 1 rfl, X.at 2 rfl⟩, ⟨Y.at 0 rfl, Y.at 1 rfl, Y.at 2 rfl⟩, ⟨Z.at 0 rfl, Z.at 1 rfl, Z.at 2 rfl⟩, ⟨P.at 0 rfl, P.at 1 rfl, P.at 2 rfl⟩, ⟨Q.at 0 rfl, Q.at 1 rfl, Q.at 2 rfl⟩, ⟨O9.at 0 rfl, O9.at 1 rfl, O9.at 2 rfl⟩⟩) (fun hHeld0 => ?_)
            generalize wc.drew = we at *
            refine wpAnyH_take (i := 0) (oi := ⟨some 43, _, _, _, _, _⟩) (v := ?_) rfl (by kernel_rfl) (by kernel_rfl) (by kernel_rfl) (fun _ _ _ h => h) (Or.inl ⟨by rfl, ?_⟩) hHeld0 ?_
            rotate_left
            · (intro w' hSw; (try dsimp only at hSw); go_simp; all_goals (with_reducible rfl))
            try simp only [Act.put, List.setIfInBounds_toArray, List.set_cons_zero, List.set_cons_succ]
            refine wpAnyH_take (i := 1) (oi := ⟨some 44, _, _, _, _, _⟩) (v := ?_) rfl (by kernel_rfl) (by kernel_rfl) (by kernel_rfl) (fun _ _ _ h => h) (Or.inl ⟨by rfl, ?_⟩) hHeld0 ?_
            rotate_left
            · (intro w' hSw; (try dsimp only at hSw); go_simp; all_goals (with_reducible rfl))
            try simp only [Act.put, List.setIfInBounds_toArray, List.set_cons_zero, List.set_cons_succ]
            refine wpAnyH_take (i := 2) (oi := ⟨some 45, _, _, _, _, _⟩) (v := ?_) rfl (by kernel_rfl) (by kernel_rfl) (by kernel_rfl) (fun _ _ _ h => h) (Or.inl ⟨by rfl, ?_⟩) hHeld0 ?_
            rotate_left
            · (intro w' hSw; (try dsimp only at hSw); go_simp; all_goals (with_reducible rfl))
            try simp only [Act.put, List.setIfInBounds_toArray, List.set_cons_zero, List.set_cons_succ]
            refine wpAnyH_ready (rs := [3]) (by kernel_rfl) (by simp) (AllReadyH.cons (o := ⟨some 46, _, _, _, _, _⟩) rfl (fun K hK => ?_) AllReadyH.nil)
            go_simp
            refine (rsjoin_any ⟨⟨g0, e0, l0⟩, A0, n0, c0⟩ ⟨⟨g1, e1, l1⟩, A1, n1, c1⟩ _ R0 R1 (by show n0 ≤ _; omega) (by show n1 ≤ _; omega) (S.right_rise HR0.out)).mono ?_
            rintro e w9 ⟨⟨sj, Aj, nj, cj⟩, rfl, hs, hown, hb⟩
            simp only at hs
            have Hj : Hid (sj = S.join ⟨g0, e0, l0⟩ ⟨g1, e1, l1⟩) := Lib.hid hs
            have Rj := hown.srd
            have bdj : nj ≤ n0 + n1 := by have hq := Rj.len; have := HL0.out; have := HL1.out; have := HL2.out; have := join_apps_length ⟨g0, e0, l0⟩ ⟨g1, e1, l1⟩; rw [Hj.out] at hq; (try simp only at *); omega
            clear hs hown
            replace Rz := Rz.belowH hb
            replace R0 := R0.belowH hb
            replace R1 := R1.belowH hb
            replace R2 := R2.belowH hb
            replace Rx := Rx.belowH hb
            replace Ry := Ry.belowH hb
            replace O9 := O9.belowH hb
            replace X := X.belowH hb
            replace Y := Y.belowH hb
            replace Z := Z.belowH hb
            replace P := P.belowH hb
            replace Q := Q.belowH hb
            replace b := b.trans (hb.mono b.size)
            clear hb
            simp only [sv]
            go_simp
            refine hK.out _ _ (by exact ⟨⟨X.at 0 rfl, X.at 1 rfl, X.at 2 rfl⟩, ⟨Y.at 0 rfl, Y.at 1 rfl, Y.at 2 rfl⟩, ⟨Z.at 0 rfl, Z.at 1 rfl, Z.at 2 rfl⟩, ⟨P.at 0 rfl, P.at 1 rfl, P.at 2 rfl⟩, ⟨Q.at 0 rfl, Q.at 1 rfl, Q.at 2 rfl⟩, ⟨O9.at 0 rfl, O9.at 1 rfl, O9.at 2 rfl⟩⟩) (fun hHeld1 => ?_)
            clear hK hHeld0 K
            try simp only [Act.put, List.setIfInBounds_toArray, List.set_cons_zero, List.set_cons_succ]
            refine wpAnyH_ready (rs := [4]) (by kernel_rfl) (by simp) (AllReadyH.cons (o := ⟨some 47, _, _, _, _, _⟩) rfl (fun K hK => ?_) AllReadyH.nil)
            go_simp
            refine (rssame_any ⟨sx, Ax, nx, cx⟩ ⟨sj, Aj, nj, cj⟩ _ Rx Rj (by show nx * 32 ≤ _; omega) (by show nj * 32 ≤ _; omega)).mono ?_
            rw [show sameB sx sj = true from sameB_yes (Hx.out.trans Hj.out.symm)]
            rintro e w10 ⟨rfl, hb⟩
            replace Rz := Rz.belowH hb
            replace R0 := R0.belowH hb
            replace R1 := R1.belowH hb
            replace R2 := R2.belowH hb
            replace Rx := Rx.belowH hb
            replace Ry := Ry.belowH hb
            replace Rj := Rj.belowH hb
            replace O9 := O9.belowH hb
            replace X := X.belowH hb
            replace Y := Y.belowH hb
            replace Z := Z.belowH hb
            replace P := P.belowH hb
            replace Q := Q.belowH hb
            replace b := b.trans (hb.mono b.size)
            clear hb
            go_simp
            refine hK.out _ _ (by exact ⟨⟨X.at 0 rfl, X.at 1 rfl, X.at 2 rfl⟩, ⟨Y.at 0 rfl, Y.at 1 rfl, Y.at 2 rfl⟩, ⟨Z.at 0 rfl, Z.at 1 rfl, Z.at 2 rfl⟩, ⟨P.at 0 rfl, P.at 1 rfl, P.at 2 rfl⟩, ⟨Q.at 0 rfl, Q.at 1 rfl, Q.at 2 rfl⟩, ⟨O9.at 0 rfl, O9.at 1 rfl, O9.at 2 rfl⟩⟩) (fun hHeld2 => ?_)
            clear hK hHeld1 K
            try simp only [Act.put, List.setIfInBounds_toArray, List.set_cons_zero, List.set_cons_succ]
            refine wpAnyH_take (i := 5) (oi := ⟨some 48, _, _, _, _, _⟩) (v := ?_) rfl (by kernel_rfl) (by kernel_rfl) (by kernel_rfl) (fun _ _ _ h => h) (Or.inl ⟨by rfl, ?_⟩) hHeld2 ?_
            rotate_left
            · (intro w' hSw; (try dsimp only at hSw); go_simp; all_goals (with_reducible rfl))
            try simp only [Act.put, List.setIfInBounds_toArray, List.set_cons_zero, List.set_cons_succ]
            refine wpAnyH_take (i := 6) (oi := ⟨some 49, _, _, _, _, _⟩) (v := ?_) rfl (by kernel_rfl) (by kernel_rfl) (by kernel_rfl) (fun _ _ _ h => h) (Or.inl ⟨by rfl, ?_⟩) hHeld2 ?_
            rotate_left
            · (intro w' hSw; (try dsimp only at hSw); go_simp; all_goals (with_reducible rfl))
            try simp only [Act.put, List.setIfInBounds_toArray, List.set_cons_zero, List.set_cons_succ]
            refine wpAnyH_take (i := 7) (oi := ⟨some 50, _, _, _, _, _⟩) (v := ?_) rfl (by kernel_rfl) (by kernel_rfl) (by kernel_rfl) (fun _ _ _ h => h) (Or.inl ⟨by rfl, ?_⟩) hHeld2 ?_
            rotate_left
            · (intro w' hSw; (try dsimp only at hSw); go_simp; all_goals (with_reducible rfl))
            try simp only [Act.put, List.setIfInBounds_toArray, List.set_cons_zero, List.set_cons_succ]
            refine wpAnyH_take (i := 8) (oi := ⟨some 51, _, _, _, _, _⟩) (v := ?_) rfl (by kernel_rfl) (by kernel_rfl) (by kernel_rfl) (fun _ _ _ h => h) (Or.inl ⟨by rfl, ?_⟩) hHeld2 ?_
            rotate_left
            · (intro w' hSw; (try dsimp only at hSw); go_simp; all_goals (with_reducible rfl))
            try simp only [Act.put, List.setIfInBounds_toArray, List.set_cons_zero, List.set_cons_succ]
            refine wpAnyH_ready (rs := [9]) (by kernel_rfl) (by simp) (AllReadyH.cons (o := ⟨some 52, _, _, _, _, _⟩) rfl (fun K hK => ?_) AllReadyH.nil)
            go_simp
            refine (sjoin_any ⟨⟨g1, e1, l1⟩, A1, n1, c1⟩ ⟨⟨g0, e0, l0⟩, A0, n0, c0⟩ _ R1 R0 (by show n1 ≤ _; omega) (by show n0 ≤ _; omega) (S.right_rise HR1.out) (S.right_rise HR0.out)).mono ?_
            rintro e w11 ⟨⟨sk, Ak, nk, ck⟩, rfl, hs, hown, hb⟩
            simp only at hs
            have Hk : Hid (sk = S.join ⟨g1, e1, l1⟩ ⟨g0, e0, l0⟩) := Lib.hid hs
            have Rk := hown.srd
            have bdk : nk ≤ n1 + n0 := by have hq := Rk.len; have := HL0.out; have := HL1.out; have := HL2.out; have := join_apps_length ⟨g1, e1, l1⟩ ⟨g0, e0, l0⟩; rw [Hk.out] at hq; (try simp only at *); omega
            clear hs hown
            replace Rz := Rz.belowH hb
            replace R0 := R0.belowH hb
            replace R1 := R1.belowH hb
            replace R2 := R2.belowH hb
            replace Rx := Rx.belowH hb
            replace Ry := Ry.belowH hb
            replace Rj := Rj.belowH hb
            replace O9 := O9.belowH hb
            replace X := X.belowH hb
            replace Y := Y.belowH hb
            replace Z := Z.belowH hb
            replace P := P.belowH hb
            replace Q := Q.belowH hb
            replace b := b.trans (hb.mono b.size)
            clear hb
            simp only [sv]
            go_simp
            refine hK.out _ _ (by exact ⟨⟨X.at 0 rfl, X.at 1 rfl, X.at 2 rfl⟩, ⟨Y.at 0 rfl, Y.at 1 rfl, Y.at 2 rfl⟩, ⟨Z.at 0 rfl, Z.at 1 rfl, Z.at 2 rfl⟩, ⟨P.at 0 rfl, P.at 1 rfl, P.at 2 rfl⟩, ⟨Q.at 0 rfl, Q.at 1 rfl, Q.at 2 rfl⟩, ⟨O9.at 0 rfl, O9.at 1 rfl, O9.at 2 rfl⟩⟩) (fun hHeld3 => ?_)
            clear hK hHeld2 K
            try simp only [Act.put, List.setIfInBounds_toArray, List.set_cons_zero, List.set_cons_succ]
            refine wpAnyH_ready (rs := [10]) (by kernel_rfl) (by simp) (AllReadyH.cons (o := ⟨some 53, _, _, _, _, _⟩) rfl (fun K hK => ?_) AllReadyH.nil)
            go_simp
            refine (rssame_any ⟨sx, Ax, nx, cx⟩ ⟨sk, Ak, nk, ck⟩ _ Rx Rk (by show nx * 32 ≤ _; omega) (by show nk * 32 ≤ _; omega)).mono ?_
            rw [show sameB sx sk = true from sameB_yes (Hx.out.trans ((S.join_comm (S.right_rise HR0.out) (S.right_rise HR1.out)).trans Hk.out.symm))]
            rintro e w12 ⟨rfl, hb⟩
            replace Rz := Rz.belowH hb
            replace R0 := R0.belowH hb
            replace R1 := R1.belowH hb
            replace R2 := R2.belowH hb
            replace Rx := Rx.belowH hb
            replace Ry := Ry.belowH hb
            replace Rj := Rj.belowH hb
            replace Rk := Rk.belowH hb
            replace O9 := O9.belowH hb
            replace X := X.belowH hb
            replace Y := Y.belowH hb
            replace Z := Z.belowH hb
            replace P := P.belowH hb
            replace Q := Q.belowH hb
            replace b := b.trans (hb.mono b.size)
            clear hb
            go_simp
            refine hK.out _ _ (by exact ⟨⟨X.at 0 rfl, X.at 1 rfl, X.at 2 rfl⟩, ⟨Y.at 0 rfl, Y.at 1 rfl, Y.at 2 rfl⟩, ⟨Z.at 0 rfl, Z.at 1 rfl, Z.at 2 rfl⟩, ⟨P.at 0 rfl, P.at 1 rfl, P.at 2 rfl⟩, ⟨Q.at 0 rfl, Q.at 1 rfl, Q.at 2 rfl⟩, ⟨O9.at 0 rfl, O9.at 1 rfl, O9.at 2 rfl⟩⟩) (fun hHeld4 => ?_)
            clear hK hHeld3 K
            try simp only [Act.put, List.setIfInBounds_toArray, List.set_cons_zero, List.set_cons_succ]
            refine wpAnyH_take (i := 11) (oi := ⟨some 54, _, _, _, _, _⟩) (v := ?_) rfl (by kernel_rfl) (by kernel_rfl) (by kernel_rfl) (fun _ _ _ h => h) (Or.inl ⟨by rfl, ?_⟩) hHeld4 ?_
            rotate_left
            · (intro w' hSw; (try dsimp only at hSw); go_simp; all_goals (with_reducible rfl))
            try simp only [Act.put, List.setIfInBounds_toArray, List.set_cons_zero, List.set_cons_succ]
            refine wpAnyH_take (i := 12) (oi := ⟨some 55, _, _, _, _, _⟩) (v := ?_) rfl (by kernel_rfl) (by kernel_rfl) (by kernel_rfl) (fun _ _ _ h => h) (Or.inl ⟨by rfl, ?_⟩) hHeld4 ?_
            rotate_left
            · (intro w' hSw; (try dsimp only at hSw); go_simp; all_goals (with_reducible rfl))
            try simp only [Act.put, List.setIfInBounds_toArray, List.set_cons_zero, List.set_cons_succ]
            refine wpAnyH_take (i := 13) (oi := ⟨some 56, _, _, _, _, _⟩) (v := ?_) rfl (by kernel_rfl) (by kernel_rfl) (by kernel_rfl) (fun _ _ _ h => h) (Or.inl ⟨by rfl, ?_⟩) hHeld4 ?_
            rotate_left
            · (intro w' hSw; (try dsimp only at hSw); go_simp; all_goals (with_reducible rfl))
            try simp only [Act.put, List.setIfInBounds_toArray, List.set_cons_zero, List.set_cons_succ]
            refine wpAnyH_take (i := 14) (oi := ⟨some 57, _, _, _, _, _⟩) (v := ?_) rfl (by kernel_rfl) (by kernel_rfl) (by kernel_rfl) (fun _ _ _ h => h) (Or.inl ⟨by rfl, ?_⟩) hHeld4 ?_
            rotate_left
            · (intro w' hSw; (try dsimp only at hSw); go_simp; all_goals (with_reducible rfl))
            try simp only [Act.put, List.setIfInBounds_toArray, List.set_cons_zero, List.set_cons_succ]
            refine wpAnyH_ready (rs := [15]) (by kernel_rfl) (by simp) (AllReadyH.cons (o := ⟨some 58, _, _, _, _, _⟩) rfl (fun K hK => ?_) AllReadyH.nil)
            go_simp
            refine (rssame_any ⟨sy, Ay, ny, cy⟩ ⟨sz, Az, nz, cz⟩ _ Ry Rz (by show ny * 32 ≤ _; omega) (by show nz * 32 ≤ _; omega)).mono ?_
            rw [show sameB sy sz = true from sameB_yes (by rw [Hy.out, Hz.out, Hx.out, S.join_comm (S.right_rise HR2.out) (S.right_rise HR1.out)]; exact S.join_assoc (S.right_rise HR0.out) (S.right_rise HR1.out) (S.right_rise HR2.out))]
            rintro e w13 ⟨rfl, hb⟩
            replace Rz := Rz.belowH hb
            replace R0 := R0.belowH hb
            replace R1 := R1.belowH hb
            replace R2 := R2.belowH hb
            replace Rx := Rx.belowH hb
            replace Ry := Ry.belowH hb
            replace Rj := Rj.belowH hb
            replace Rk := Rk.belowH hb
            replace O9 := O9.belowH hb
            replace X := X.belowH hb
            replace Y := Y.belowH hb
            replace Z := Z.belowH hb
            replace P := P.belowH hb
            replace Q := Q.belowH hb
            replace b := b.trans (hb.mono b.size)
            clear hb
            go_simp
            refine hK.out _ _ (by exact ⟨⟨X.at 0 rfl, X.at 1 rfl, X.at 2 rfl⟩, ⟨Y.at 0 rfl, Y.at 1 rfl, Y.at 2 rfl⟩, ⟨Z.at 0 rfl, Z.at 1 rfl, Z.at 2 rfl⟩, ⟨P.at 0 rfl, P.at 1 rfl, P.at 2 rfl⟩, ⟨Q.at 0 rfl, Q.at 1 rfl, Q.at 2 rfl⟩, ⟨O9.at 0 rfl, O9.at 1 rfl, O9.at 2 rfl⟩⟩) (fun hHeld5 => ?_)
            clear hK hHeld4 K
            try simp only [Act.put, List.setIfInBounds_toArray, List.set_cons_zero, List.set_cons_succ]
            refine wpAnyH_take (i := 16) (oi := ⟨some 59, _, _, _, _, _⟩) (v := ?_) rfl (by kernel_rfl) (by kernel_rfl) (by kernel_rfl) (fun _ _ _ h => h) (Or.inl ⟨by rfl, ?_⟩) hHeld5 ?_
            rotate_left
            · (intro w' hSw; (try dsimp only at hSw); go_simp; all_goals (with_reducible rfl))
            try simp only [Act.put, List.setIfInBounds_toArray, List.set_cons_zero, List.set_cons_succ]
            refine wpAnyH_take (i := 17) (oi := ⟨some 60, _, _, _, _, _⟩) (v := ?_) rfl (by kernel_rfl) (by kernel_rfl) (by kernel_rfl) (fun _ _ _ h => h) (Or.inl ⟨by rfl, ?_⟩) hHeld5 ?_
            rotate_left
            · (intro w' hSw; (try dsimp only at hSw); go_simp; all_goals (with_reducible rfl))
            try simp only [Act.put, List.setIfInBounds_toArray, List.set_cons_zero, List.set_cons_succ]
            refine wpAnyH_take (i := 18) (oi := ⟨some 61, _, _, _, _, _⟩) (v := ?_) rfl (by kernel_rfl) (by kernel_rfl) (by kernel_rfl) (fun _ _ _ h => h) (Or.inl ⟨by rfl, ?_⟩) hHeld5 ?_
            rotate_left
            · (intro w' hSw; (try dsimp only at hSw); go_simp; all_goals (with_reducible rfl))
            try simp only [Act.put, List.setIfInBounds_toArray, List.set_cons_zero, List.set_cons_succ]
            refine wpAnyH_take (i := 19) (oi := ⟨some 62, _, _, _, _, _⟩) (v := ?_) rfl (by kernel_rfl) (by kernel_rfl) (by kernel_rfl) (fun _ _ _ h => h) (Or.inl ⟨by rfl, ?_⟩) hHeld5 ?_
            rotate_left
            · (intro w' hSw; (try dsimp only at hSw); go_simp; all_goals (with_reducible rfl))
            try simp only [Act.put, List.setIfInBounds_toArray, List.set_cons_zero, List.set_cons_succ]
            refine wpAnyH_take (i := 21) (oi := ⟨some 64, _, _, _, _, _⟩) (v := ?_) rfl (by kernel_rfl) (by kernel_rfl) (by kernel_rfl) (fun _ _ _ h => h) (Or.inl ⟨by rfl, ?_⟩) hHeld5 ?_
            rotate_left
            · (intro w' hSw; (try dsimp only at hSw); go_simp; all_goals (with_reducible rfl))
            try simp only [Act.put, List.setIfInBounds_toArray, List.set_cons_zero, List.set_cons_succ]
            refine wpAnyH_ready (rs := [20]) (by kernel_rfl) (by simp) (AllReadyH.cons (o := ⟨some 63, _, _, _, _, _⟩) rfl (fun K hK => ?_) AllReadyH.nil)
            go_simp
            refine (sjoin_any ⟨sx, Ax, nx, cx⟩ ⟨sx, Ax, nx, cx⟩ _ Rx Rx (by show nx ≤ _; omega) (by show nx ≤ _; omega) (show S.rise sx by rw [Hx.out]; exact S.join_rise (S.right_rise HR0.out) (S.right_rise HR1.out)) (show S.rise sx by rw [Hx.out]; exact S.join_rise (S.right_rise HR0.out) (S.right_rise HR1.out))).mono ?_
            rintro e w14 ⟨⟨sm, Am, nm, cm⟩, rfl, hs, hown, hb⟩
            simp only at hs
            have Hm : Hid (sm = S.join sx sx) := Lib.hid hs
            have Rm := hown.srd
            have bdm : nm ≤ nx + nx := by have hq := Rm.len; have := Rx.len; have := join_apps_length sx sx; rw [Hm.out] at hq; (try simp only at *); omega
            clear hs hown
            replace Rz := Rz.belowH hb
            replace R0 := R0.belowH hb
            replace R1 := R1.belowH hb
            replace R2 := R2.belowH hb
            replace Rx := Rx.belowH hb
            replace Ry := Ry.belowH hb
            replace Rj := Rj.belowH hb
            replace Rk := Rk.belowH hb
            replace O9 := O9.belowH hb
            replace X := X.belowH hb
            replace Y := Y.belowH hb
            replace Z := Z.belowH hb
            replace P := P.belowH hb
            replace Q := Q.belowH hb
            replace b := b.trans (hb.mono b.size)
            clear hb
            simp only [sv]
            go_simp
            refine hK.out _ _ (by exact ⟨⟨X.at 0 rfl, X.at 1 rfl, X.at 2 rfl⟩, ⟨Y.at 0 rfl, Y.at 1 rfl, Y.at 2 rfl⟩, ⟨Z.at 0 rfl, Z.at 1 rfl, Z.at 2 rfl⟩, ⟨P.at 0 rfl, P.at 1 rfl, P.at 2 rfl⟩, ⟨Q.at 0 rfl, Q.at 1 rfl, Q.at 2 rfl⟩, ⟨O9.at 0 rfl, O9.at 1 rfl, O9.at 2 rfl⟩⟩) (fun hHeld6 => ?_)
            clear hK hHeld5 K
            try simp only [Act.put, List.setIfInBounds_toArray, List.set_cons_zero, List.set_cons_succ]
            refine wpAnyH_ready (rs := [22]) (by kernel_rfl) (by simp) (AllReadyH.cons (o := ⟨some 65, _, _, _, _, _⟩) rfl (fun K hK => ?_) AllReadyH.nil)
            go_simp
            refine (rssame_any ⟨sm, Am, nm, cm⟩ ⟨sx, Ax, nx, cx⟩ _ Rm Rx (by show nm * 32 ≤ _; omega) (by show nx * 32 ≤ _; omega)).mono ?_
            rw [show sameB sm sx = true from sameB_yes (Hm.out.trans (S.join_self (show S.rise sx by rw [Hx.out]; exact S.join_rise (S.right_rise HR0.out) (S.right_rise HR1.out))))]
            rintro e w15 ⟨rfl, hb⟩
            replace Rz := Rz.belowH hb
            replace R0 := R0.belowH hb
            replace R1 := R1.belowH hb
            replace R2 := R2.belowH hb
            replace Rx := Rx.belowH hb
            replace Ry := Ry.belowH hb
            replace Rj := Rj.belowH hb
            replace Rk := Rk.belowH hb
            replace Rm := Rm.belowH hb
            replace O9 := O9.belowH hb
            replace X := X.belowH hb
            replace Y := Y.belowH hb
            replace Z := Z.belowH hb
            replace P := P.belowH hb
            replace Q := Q.belowH hb
            replace b := b.trans (hb.mono b.size)
            clear hb
            go_simp
            refine hK.out _ _ (by exact ⟨⟨X.at 0 rfl, X.at 1 rfl, X.at 2 rfl⟩, ⟨Y.at 0 rfl, Y.at 1 rfl, Y.at 2 rfl⟩, ⟨Z.at 0 rfl, Z.at 1 rfl, Z.at 2 rfl⟩, ⟨P.at 0 rfl, P.at 1 rfl, P.at 2 rfl⟩, ⟨Q.at 0 rfl, Q.at 1 rfl, Q.at 2 rfl⟩, ⟨O9.at 0 rfl, O9.at 1 rfl, O9.at 2 rfl⟩⟩) (fun hHeld7 => ?_)
            clear hK hHeld6 K
            try simp only [Act.put, List.setIfInBounds_toArray, List.set_cons_zero, List.set_cons_succ]
            refine wpAnyH_take (i := 23) (oi := ⟨some 66, _, _, _, _, _⟩) (v := ?_) rfl (by kernel_rfl) (by kernel_rfl) (by kernel_rfl) (fun _ _ _ h => h) (Or.inl ⟨by rfl, ?_⟩) hHeld7 ?_
            rotate_left
            · (intro w' hSw; (try dsimp only at hSw); go_simp; all_goals (with_reducible rfl))
            try simp only [Act.put, List.setIfInBounds_toArray, List.set_cons_zero, List.set_cons_succ]
            refine wpAnyH_take (i := 24) (oi := ⟨some 67, _, _, _, _, _⟩) (v := ?_) rfl (by kernel_rfl) (by kernel_rfl) (by kernel_rfl) (fun _ _ _ h => h) (Or.inl ⟨by rfl, ?_⟩) hHeld7 ?_
            rotate_left
            · (intro w' hSw; (try dsimp only at hSw); go_simp; all_goals (with_reducible rfl))
            try simp only [Act.put, List.setIfInBounds_toArray, List.set_cons_zero, List.set_cons_succ]
            refine wpAnyH_take (i := 25) (oi := ⟨some 68, _, _, _, _, _⟩) (v := ?_) rfl (by kernel_rfl) (by kernel_rfl) (by kernel_rfl) (fun _ _ _ h => h) (Or.inl ⟨by rfl, ?_⟩) hHeld7 ?_
            rotate_left
            · (intro w' hSw; (try dsimp only at hSw); go_simp; all_goals (with_reducible rfl))
            try simp only [Act.put, List.setIfInBounds_toArray, List.set_cons_zero, List.set_cons_succ]
            refine wpAnyH_take (i := 26) (oi := ⟨some 69, _, _, _, _, _⟩) (v := ?_) rfl (by kernel_rfl) (by kernel_rfl) (by kernel_rfl) (fun _ _ _ h => h) (Or.inl ⟨by rfl, ?_⟩) hHeld7 ?_
            rotate_left
            · (intro w' hSw; (try dsimp only at hSw); go_simp; all_goals (with_reducible rfl))
            try simp only [Act.put, List.setIfInBounds_toArray, List.set_cons_zero, List.set_cons_succ]
            refine wpAnyH_ready (rs := [27]) (by kernel_rfl) (by simp) (AllReadyH.cons (o := ⟨some 70, _, _, _, _, _⟩) rfl (fun K hK => ?_) AllReadyH.nil)
            go_simp
            refine (sover_any ⟨sx, Ax, nx, cx⟩ ⟨⟨g0, e0, l0⟩, A0, n0, c0⟩ _ Rx R0 (by show nx ≤ _; omega) (by show n0 ≤ _; omega) (show S.rise sx by rw [Hx.out]; exact S.join_rise (S.right_rise HR0.out) (S.right_rise HR1.out)) (S.right_rise HR0.out)).mono ?_
            rw [soverB_iff.2 (show S.over sx ⟨g0, e0, l0⟩ by rw [Hx.out]; exact S.over_join (S.right_rise HR0.out) (S.right_rise HR1.out))]
            rintro e w16 ⟨rfl, hb⟩
            replace Rz := Rz.belowH hb
            replace R0 := R0.belowH hb
            replace R1 := R1.belowH hb
            replace R2 := R2.belowH hb
            replace Rx := Rx.belowH hb
            replace Ry := Ry.belowH hb
            replace Rj := Rj.belowH hb
            replace Rk := Rk.belowH hb
            replace Rm := Rm.belowH hb
            replace O9 := O9.belowH hb
            replace X := X.belowH hb
            replace Y := Y.belowH hb
            replace Z := Z.belowH hb
            replace P := P.belowH hb
            replace Q := Q.belowH hb
            replace b := b.trans (hb.mono b.size)
            clear hb
            go_simp
            refine hK.out _ _ (by exact ⟨⟨X.at 0 rfl, X.at 1 rfl, X.at 2 rfl⟩, ⟨Y.at 0 rfl, Y.at 1 rfl, Y.at 2 rfl⟩, ⟨Z.at 0 rfl, Z.at 1 rfl, Z.at 2 rfl⟩, ⟨P.at 0 rfl, P.at 1 rfl, P.at 2 rfl⟩, ⟨Q.at 0 rfl, Q.at 1 rfl, Q.at 2 rfl⟩, ⟨O9.at 0 rfl, O9.at 1 rfl, O9.at 2 rfl⟩⟩) (fun hHeld8 => ?_)
            clear hK hHeld7 K
            try simp only [Act.put, List.setIfInBounds_toArray, List.set_cons_zero, List.set_cons_succ]
            refine wpAnyH_take (i := 28) (oi := ⟨some 71, _, _, _, _, _⟩) (v := ?_) rfl (by kernel_rfl) (by kernel_rfl) (by kernel_rfl) (fun _ _ _ h => h) (Or.inl ⟨by rfl, ?_⟩) hHeld8 ?_
            rotate_left
            · (intro w' hSw; (try dsimp only at hSw); go_simp; all_goals (with_reducible rfl))
            try simp only [Act.put, List.setIfInBounds_toArray, List.set_cons_zero, List.set_cons_succ]
            refine wpAnyH_take (i := 29) (oi := ⟨some 72, _, _, _, _, _⟩) (v := ?_) rfl (by kernel_rfl) (by kernel_rfl) (by kernel_rfl) (fun _ _ _ h => h) (Or.inl ⟨by rfl, ?_⟩) hHeld8 ?_
            rotate_left
            · (intro w' hSw; (try dsimp only at hSw); go_simp; all_goals (with_reducible rfl))
            try simp only [Act.put, List.setIfInBounds_toArray, List.set_cons_zero, List.set_cons_succ]
            refine wpAnyH_take (i := 30) (oi := ⟨some 73, _, _, _, _, _⟩) (v := ?_) rfl (by kernel_rfl) (by kernel_rfl) (by kernel_rfl) (fun _ _ _ h => h) (Or.inl ⟨by rfl, ?_⟩) hHeld8 ?_
            rotate_left
            · (intro w' hSw; (try dsimp only at hSw); go_simp; all_goals (with_reducible rfl))
            try simp only [Act.put, List.setIfInBounds_toArray, List.set_cons_zero, List.set_cons_succ]
            refine wpAnyH_take (i := 31) (oi := ⟨some 74, _, _, _, _, _⟩) (v := ?_) rfl (by kernel_rfl) (by kernel_rfl) (by kernel_rfl) (fun _ _ _ h => h) (Or.inl ⟨by rfl, ?_⟩) hHeld8 ?_
            rotate_left
            · (intro w' hSw; (try dsimp only at hSw); go_simp; all_goals (with_reducible rfl))
            try simp only [Act.put, List.setIfInBounds_toArray, List.set_cons_zero, List.set_cons_succ]
            refine wpAnyH_ready (rs := [32]) (by kernel_rfl) (by simp) (AllReadyH.cons (o := ⟨some 75, _, _, _, _, _⟩) rfl (fun K hK => ?_) AllReadyH.nil)
            go_simp
            refine (sover_any ⟨sx, Ax, nx, cx⟩ ⟨⟨g1, e1, l1⟩, A1, n1, c1⟩ _ Rx R1 (by show nx ≤ _; omega) (by show n1 ≤ _; omega) (show S.rise sx by rw [Hx.out]; exact S.join_rise (S.right_rise HR0.out) (S.right_rise HR1.out)) (S.right_rise HR1.out)).mono ?_
            rw [soverB_iff.2 (show S.over sx ⟨g1, e1, l1⟩ by rw [Hx.out]; exact S.over_join2 (S.right_rise HR0.out) (S.right_rise HR1.out))]
            rintro e w17 ⟨rfl, hb⟩
            replace Rz := Rz.belowH hb
            replace R0 := R0.belowH hb
            replace R1 := R1.belowH hb
            replace R2 := R2.belowH hb
            replace Rx := Rx.belowH hb
            replace Ry := Ry.belowH hb
            replace Rj := Rj.belowH hb
            replace Rk := Rk.belowH hb
            replace Rm := Rm.belowH hb
            replace O9 := O9.belowH hb
            replace X := X.belowH hb
            replace Y := Y.belowH hb
            replace Z := Z.belowH hb
            replace P := P.belowH hb
            replace Q := Q.belowH hb
            replace b := b.trans (hb.mono b.size)
            clear hb
            go_simp
            refine hK.out _ _ (by exact ⟨⟨X.at 0 rfl, X.at 1 rfl, X.at 2 rfl⟩, ⟨Y.at 0 rfl, Y.at 1 rfl, Y.at 2 rfl⟩, ⟨Z.at 0 rfl, Z.at 1 rfl, Z.at 2 rfl⟩, ⟨P.at 0 rfl, P.at 1 rfl, P.at 2 rfl⟩, ⟨Q.at 0 rfl, Q.at 1 rfl, Q.at 2 rfl⟩, ⟨O9.at 0 rfl, O9.at 1 rfl, O9.at 2 rfl⟩⟩) (fun hHeld9 => ?_)
            clear hK hHeld8 K
            try simp only [Act.put, List.setIfInBounds_toArray, List.set_cons_zero, List.set_cons_succ]
            refine wpAnyH_take (i := 33) (oi := ⟨some 76, _, _, _, _, _⟩) (v := ?_) rfl (by kernel_rfl) (by kernel_rfl) (by kernel_rfl) (fun _ _ _ h => h) (Or.inl ⟨by rfl, ?_⟩) hHeld9 ?_
            rotate_left
            · (intro w' hSw; (try dsimp only at hSw); go_simp; all_goals (with_reducible rfl))
            try simp only [Act.put, List.setIfInBounds_toArray, List.set_cons_zero, List.set_cons_succ]
            refine wpAnyH_take (i := 34) (oi := ⟨some 77, _, _, _, _, _⟩) (v := ?_) rfl (by kernel_rfl) (by kernel_rfl) (by kernel_rfl) (fun _ _ _ h => h) (Or.inl ⟨by rfl, ?_⟩) hHeld9 ?_
            rotate_left
            · (intro w' hSw; (try dsimp only at hSw); go_simp; all_goals (with_reducible rfl))
            try simp only [Act.put, List.setIfInBounds_toArray, List.set_cons_zero, List.set_cons_succ]
            refine wpAnyH_take (i := 35) (oi := ⟨some 78, _, _, _, _, _⟩) (v := ?_) rfl (by kernel_rfl) (by kernel_rfl) (by kernel_rfl) (fun _ _ _ h => h) (Or.inl ⟨by rfl, ?_⟩) hHeld9 ?_
            rotate_left
            · (intro w' hSw; (try dsimp only at hSw); go_simp; all_goals (with_reducible rfl))
            try simp only [Act.put, List.setIfInBounds_toArray, List.set_cons_zero, List.set_cons_succ]
            refine wpAnyH_ready (rs := [36]) (by kernel_rfl) (by simp) (AllReadyH.cons (o := ⟨some 79, _, _, _, _, _⟩) rfl (fun K hK => ?_) AllReadyH.nil)
            go_simp
            refine (sright_any ⟨sx, Ax, nx, cx⟩  _ Rx (by show nx * 32 ≤ _; omega)).mono ?_
            rw [srightB_yes (show S.right sx by rw [Hx.out]; exact S.join_right HR0.out HR1.out)]
            rintro e w18 ⟨rfl, hb⟩
            replace Rz := Rz.belowH hb
            replace R0 := R0.belowH hb
            replace R1 := R1.belowH hb
            replace R2 := R2.belowH hb
            replace Rx := Rx.belowH hb
            replace Ry := Ry.belowH hb
            replace Rj := Rj.belowH hb
            replace Rk := Rk.belowH hb
            replace Rm := Rm.belowH hb
            replace O9 := O9.belowH hb
            replace X := X.belowH hb
            replace Y := Y.belowH hb
            replace Z := Z.belowH hb
            replace P := P.belowH hb
            replace Q := Q.belowH hb
            replace b := b.trans (hb.mono b.size)
            clear hb
            go_simp
            refine hK.out _ _ (by exact ⟨⟨X.at 0 rfl, X.at 1 rfl, X.at 2 rfl⟩, ⟨Y.at 0 rfl, Y.at 1 rfl, Y.at 2 rfl⟩, ⟨Z.at 0 rfl, Z.at 1 rfl, Z.at 2 rfl⟩, ⟨P.at 0 rfl, P.at 1 rfl, P.at 2 rfl⟩, ⟨Q.at 0 rfl, Q.at 1 rfl, Q.at 2 rfl⟩, ⟨O9.at 0 rfl, O9.at 1 rfl, O9.at 2 rfl⟩⟩) (fun hHeld10 => ?_)
            clear hK hHeld9 K
            try simp only [Act.put, List.setIfInBounds_toArray, List.set_cons_zero, List.set_cons_succ]
            refine wpAnyH_take (i := 37) (oi := ⟨some 80, _, _, _, _, _⟩) (v := ?_) rfl (by kernel_rfl) (by kernel_rfl) (by kernel_rfl) (fun _ _ _ h => h) (Or.inl ⟨by rfl, ?_⟩) hHeld10 ?_
            rotate_left
            · (intro w' hSw; (try dsimp only at hSw); go_simp; all_goals (with_reducible rfl))
            try simp only [Act.put, List.setIfInBounds_toArray, List.set_cons_zero, List.set_cons_succ]
            refine wpAnyH_take (i := 38) (oi := ⟨some 81, _, _, _, _, _⟩) (v := ?_) rfl (by kernel_rfl) (by kernel_rfl) (by kernel_rfl) (fun _ _ _ h => h) (Or.inl ⟨by rfl, ?_⟩) hHeld10 ?_
            rotate_left
            · (intro w' hSw; (try dsimp only at hSw); go_simp; all_goals (with_reducible rfl))
            try simp only [Act.put, List.setIfInBounds_toArray, List.set_cons_zero, List.set_cons_succ]
            refine wpAnyH_take (i := 39) (oi := ⟨some 82, _, _, _, _, _⟩) (v := ?_) rfl (by kernel_rfl) (by kernel_rfl) (by kernel_rfl) (fun _ _ _ h => h) (Or.inl ⟨by rfl, ?_⟩) hHeld10 ?_
            rotate_left
            · (intro w' hSw; (try dsimp only at hSw); go_simp; all_goals (with_reducible rfl))
            try simp only [Act.put, List.setIfInBounds_toArray, List.set_cons_zero, List.set_cons_succ]
            refine wpAnyH_take (i := 40) (oi := ⟨some 83, _, _, _, _, _⟩) (v := ?_) rfl (by kernel_rfl) (by kernel_rfl) (by kernel_rfl) (fun _ _ _ h => h) (Or.inl ⟨by rfl, ?_⟩) hHeld10 ?_
            rotate_left
            · (intro w' hSw; (try dsimp only at hSw); go_simp; all_goals (with_reducible rfl))
            try simp only [Act.put, List.setIfInBounds_toArray, List.set_cons_zero, List.set_cons_succ]
            refine wpAnyH_take (i := 42) (oi := ⟨some 85, _, _, _, _, _⟩) (v := ?_) rfl (by kernel_rfl) (by kernel_rfl) (by kernel_rfl) (fun _ _ _ h => h) (Or.inl ⟨by rfl, ?_⟩) hHeld10 ?_
            rotate_left
            · (intro w' hSw; (try dsimp only at hSw); go_simp; all_goals (with_reducible rfl))
            try simp only [Act.put, List.setIfInBounds_toArray, List.set_cons_zero, List.set_cons_succ]
            refine wpAnyH_take (i := 43) (oi := ⟨some 86, _, _, _, _, _⟩) (v := ?_) rfl (by kernel_rfl) (by kernel_rfl) (by kernel_rfl) (fun _ _ _ h => h) (Or.inl ⟨by rfl, ?_⟩) hHeld10 ?_
            rotate_left
            · (intro w' hSw; (try dsimp only at hSw); go_simp; all_goals (with_reducible rfl))
            try simp only [Act.put, List.setIfInBounds_toArray, List.set_cons_zero, List.set_cons_succ]
            refine wpAnyH_ready (rs := [41]) (by kernel_rfl) (by simp) (AllReadyH.cons (o := ⟨some 84, _, _, _, _, _⟩) rfl (fun K hK => ?_) AllReadyH.nil)
            go_simp
            refine (sover_any ⟨⟨g0, e0, l0⟩, A0, n0, c0⟩ ⟨⟨g1, e1, l1⟩, A1, n1, c1⟩ _ R0 R1 (by show n0 ≤ _; omega) (by show n1 ≤ _; omega) (S.right_rise HR0.out) (S.right_rise HR1.out)).mono ?_
            rintro e w19 ⟨rfl, hb⟩
            replace Rz := Rz.belowH hb
            replace R0 := R0.belowH hb
            replace R1 := R1.belowH hb
            replace R2 := R2.belowH hb
            replace Rx := Rx.belowH hb
            replace Ry := Ry.belowH hb
            replace Rj := Rj.belowH hb
            replace Rk := Rk.belowH hb
            replace Rm := Rm.belowH hb
            replace O9 := O9.belowH hb
            replace X := X.belowH hb
            replace Y := Y.belowH hb
            replace Z := Z.belowH hb
            replace P := P.belowH hb
            replace Q := Q.belowH hb
            replace b := b.trans (hb.mono b.size)
            clear hb
            go_simp
            refine hK.out _ _ (by exact ⟨⟨X.at 0 rfl, X.at 1 rfl, X.at 2 rfl⟩, ⟨Y.at 0 rfl, Y.at 1 rfl, Y.at 2 rfl⟩, ⟨Z.at 0 rfl, Z.at 1 rfl, Z.at 2 rfl⟩, ⟨P.at 0 rfl, P.at 1 rfl, P.at 2 rfl⟩, ⟨Q.at 0 rfl, Q.at 1 rfl, Q.at 2 rfl⟩, ⟨O9.at 0 rfl, O9.at 1 rfl, O9.at 2 rfl⟩⟩) (fun hHeld11 => ?_)
            clear hK hHeld10 K
            try simp only [Act.put, List.setIfInBounds_toArray, List.set_cons_zero, List.set_cons_succ]
            refine wpAnyH_ready (rs := [44]) (by kernel_rfl) (by simp) (AllReadyH.cons (o := ⟨some 87, _, _, _, _, _⟩) rfl (fun K hK => ?_) AllReadyH.nil)
            go_simp
            refine (rsover_any ⟨⟨g0, e0, l0⟩, A0, n0, c0⟩ ⟨⟨g1, e1, l1⟩, A1, n1, c1⟩ _ R0 R1 (by show n0 ≤ _; omega) (by show n1 ≤ _; omega) (S.right_rise HR0.out)).mono ?_
            rintro e w20 ⟨rfl, hb⟩
            replace Rz := Rz.belowH hb
            replace R0 := R0.belowH hb
            replace R1 := R1.belowH hb
            replace R2 := R2.belowH hb
            replace Rx := Rx.belowH hb
            replace Ry := Ry.belowH hb
            replace Rj := Rj.belowH hb
            replace Rk := Rk.belowH hb
            replace Rm := Rm.belowH hb
            replace O9 := O9.belowH hb
            replace X := X.belowH hb
            replace Y := Y.belowH hb
            replace Z := Z.belowH hb
            replace P := P.belowH hb
            replace Q := Q.belowH hb
            replace b := b.trans (hb.mono b.size)
            clear hb
            go_simp
            refine hK.out _ _ (by exact ⟨⟨X.at 0 rfl, X.at 1 rfl, X.at 2 rfl⟩, ⟨Y.at 0 rfl, Y.at 1 rfl, Y.at 2 rfl⟩, ⟨Z.at 0 rfl, Z.at 1 rfl, Z.at 2 rfl⟩, ⟨P.at 0 rfl, P.at 1 rfl, P.at 2 rfl⟩, ⟨Q.at 0 rfl, Q.at 1 rfl, Q.at 2 rfl⟩, ⟨O9.at 0 rfl, O9.at 1 rfl, O9.at 2 rfl⟩⟩) (fun hHeld12 => ?_)
            clear hK hHeld11 K
            try simp only [Act.put, List.setIfInBounds_toArray, List.set_cons_zero, List.set_cons_succ]
            refine wpAnyH_take (i := 45) (oi := ⟨some 88, _, _, _, _, _⟩) (v := ?_) rfl (by kernel_rfl) (by kernel_rfl) (by kernel_rfl) (fun _ _ _ h => h) (Or.inl ⟨by rfl, ?_⟩) hHeld12 ?_
            rotate_left
            · (intro w' hSw; (try dsimp only at hSw); go_simp; all_goals (with_reducible rfl))
            try simp only [Act.put, List.setIfInBounds_toArray, List.set_cons_zero, List.set_cons_succ]
            refine wpAnyH_take (i := 46) (oi := ⟨some 89, _, _, _, _, _⟩) (v := ?_) rfl (by kernel_rfl) (by kernel_rfl) (by kernel_rfl) (fun _ _ _ h => h) (Or.inl ⟨by rfl, ?_⟩) hHeld12 ?_
            rotate_left
            · (intro w' hSw; (try dsimp only at hSw); go_simp; all_goals (with_reducible rfl))
            try simp only [Act.put, List.setIfInBounds_toArray, List.set_cons_zero, List.set_cons_succ]
            refine wpAnyH_take (i := 47) (oi := ⟨some 90, _, _, _, _, _⟩) (v := ?_) rfl (by kernel_rfl) (by kernel_rfl) (by kernel_rfl) (fun _ _ _ h => h) (Or.inl ⟨by rfl, ?_⟩) hHeld12 ?_
            rotate_left
            · (intro w' hSw; (try dsimp only at hSw); go_simp; all_goals (with_reducible rfl))
            try simp only [Act.put, List.setIfInBounds_toArray, List.set_cons_zero, List.set_cons_succ]
            refine wpAnyH_take (i := 48) (oi := ⟨some 91, _, _, _, _, _⟩) (v := ?_) rfl (by kernel_rfl) (by kernel_rfl) (by kernel_rfl) (fun _ _ _ h => h) (Or.inl ⟨by rfl, ?_⟩) hHeld12 ?_
            rotate_left
            · (intro w' hSw; (try dsimp only at hSw); go_simp; all_goals (with_reducible rfl))
            try simp only [Act.put, List.setIfInBounds_toArray, List.set_cons_zero, List.set_cons_succ]
            refine wpAnyH_take (i := 49) (oi := ⟨some 92, _, _, _, _, _⟩) (v := ?_) rfl (by kernel_rfl) (by kernel_rfl) (by kernel_rfl) (fun _ _ _ h => h) (Or.inl ⟨by rfl, ?_⟩) hHeld12 ?_
            rotate_left
            · (intro w' hSw; (try dsimp only at hSw); go_simp; all_goals (with_reducible rfl))
            try simp only [Act.put, List.setIfInBounds_toArray, List.set_cons_zero, List.set_cons_succ]
            refine wpAnyH_ready (rs := [50]) (by kernel_rfl) (by simp) (AllReadyH.cons (o := ⟨some 93, _, _, _, _, _⟩) rfl (fun K hK => ?_) AllReadyH.nil)
            go_simp
            refine (sover_any ⟨⟨g2, e2, l2⟩, A2, n2, c2⟩ ⟨⟨g0, e0, l0⟩, A0, n0, c0⟩ _ R2 R0 (by show n2 ≤ _; omega) (by show n0 ≤ _; omega) (S.right_rise HR2.out) (S.right_rise HR0.out)).mono ?_
            rintro e w21 ⟨rfl, hb⟩
            replace Rz := Rz.belowH hb
            replace R0 := R0.belowH hb
            replace R1 := R1.belowH hb
            replace R2 := R2.belowH hb
            replace Rx := Rx.belowH hb
            replace Ry := Ry.belowH hb
            replace Rj := Rj.belowH hb
            replace Rk := Rk.belowH hb
            replace Rm := Rm.belowH hb
            replace O9 := O9.belowH hb
            replace X := X.belowH hb
            replace Y := Y.belowH hb
            replace Z := Z.belowH hb
            replace P := P.belowH hb
            replace Q := Q.belowH hb
            replace b := b.trans (hb.mono b.size)
            clear hb
            rcases o1 : soverB ⟨g2, e2, l2⟩ ⟨g0, e0, l0⟩
            · clear o1
              go_simp
              refine hK.out _ _ (by exact ⟨⟨X.at 0 rfl, X.at 1 rfl, X.at 2 rfl⟩, ⟨Y.at 0 rfl, Y.at 1 rfl, Y.at 2 rfl⟩, ⟨Z.at 0 rfl, Z.at 1 rfl, Z.at 2 rfl⟩, ⟨P.at 0 rfl, P.at 1 rfl, P.at 2 rfl⟩, ⟨Q.at 0 rfl, Q.at 1 rfl, Q.at 2 rfl⟩, ⟨O9.at 0 rfl, O9.at 1 rfl, O9.at 2 rfl⟩⟩) (fun hHeld13 => ?_)
              clear hK hHeld12 K
              try simp only [Act.put, List.setIfInBounds_toArray, List.set_cons_zero, List.set_cons_succ]
              refine wpAnyH_take (i := 51) (oi := ⟨some 94, _, _, _, _, _⟩) (v := ?_) rfl (by kernel_rfl) (by kernel_rfl) (by kernel_rfl) (fun _ _ _ h => h) (Or.inl ⟨by rfl, ?_⟩) hHeld13 ?_
              rotate_left
              · (intro w' hSw; (try dsimp only at hSw); go_simp; all_goals (with_reducible rfl))
              try simp only [Act.put, List.setIfInBounds_toArray, List.set_cons_zero, List.set_cons_succ]
              refine wpAnyH_take (i := 52) (oi := ⟨some 95, _, _, _, _, _⟩) (v := ?_) rfl (by kernel_rfl) (by kernel_rfl) (by kernel_rfl) (fun _ _ _ h => h) (Or.inl ⟨by rfl, ?_⟩) hHeld13 ?_
              rotate_left
              · (intro w' hSw; (try dsimp only at hSw); go_simp; all_goals (with_reducible rfl))
              try simp only [Act.put, List.setIfInBounds_toArray, List.set_cons_zero, List.set_cons_succ]
              refine wpAnyH_take (i := 53) (oi := ⟨some 96, _, _, _, _, _⟩) (v := undef) rfl (by kernel_rfl) (by kernel_rfl) (by kernel_rfl) (fun _ _ _ h => h) (Or.inr ⟨by rfl, rfl⟩) hHeld13 ?_
              try simp only [Act.put, List.setIfInBounds_toArray, List.set_cons_zero, List.set_cons_succ]
              refine wpAnyH_take (i := 54) (oi := ⟨some 97, _, _, _, _, _⟩) (v := undef) rfl (by kernel_rfl) (by kernel_rfl) (by kernel_rfl) (fun _ _ _ h => h) (Or.inr ⟨by rfl, rfl⟩) hHeld13 ?_
              try simp only [Act.put, List.setIfInBounds_toArray, List.set_cons_zero, List.set_cons_succ]
              refine wpAnyH_take (i := 55) (oi := ⟨some 98, _, _, _, _, _⟩) (v := undef) rfl (by kernel_rfl) (by kernel_rfl) (by kernel_rfl) (fun _ _ _ h => h) (Or.inr ⟨by rfl, rfl⟩) hHeld13 ?_
              try simp only [Act.put, List.setIfInBounds_toArray, List.set_cons_zero, List.set_cons_succ]
              refine wpAnyH_take (i := 56) (oi := ⟨some 99, _, _, _, _, _⟩) (v := undef) rfl (by kernel_rfl) (by kernel_rfl) (by kernel_rfl) (fun _ _ _ h => h) (Or.inr ⟨by rfl, rfl⟩) hHeld13 ?_
              try simp only [Act.put, List.setIfInBounds_toArray, List.set_cons_zero, List.set_cons_succ]
              refine wpAnyH_take (i := 57) (oi := ⟨some 100, _, _, _, _, _⟩) (v := ?_) rfl (by kernel_rfl) (by kernel_rfl) (by kernel_rfl) (fun _ _ _ h => h) (Or.inl ⟨by rfl, ?_⟩) hHeld13 ?_
              rotate_left
              · (intro w' hSw; (try dsimp only at hSw); go_simp; all_goals (with_reducible rfl))
              try simp only [Act.put, List.setIfInBounds_toArray, List.set_cons_zero, List.set_cons_succ]
              refine wpAnyH_take (i := 58) (oi := ⟨some 101, _, _, _, _, _⟩) (v := ?_) rfl (by kernel_rfl) (by kernel_rfl) (by kernel_rfl) (fun _ _ _ h => h) (Or.inl ⟨by rfl, ?_⟩) hHeld13 ?_
              rotate_left
              · (intro w' hSw; (try dsimp only at hSw); go_simp; all_goals (with_reducible rfl))
              try simp only [Act.put, List.setIfInBounds_toArray, List.set_cons_zero, List.set_cons_succ]
              refine wpAnyH_take (i := 59) (oi := ⟨some 102, _, _, _, _, _⟩) (v := undef) rfl (by kernel_rfl) (by kernel_rfl) (by kernel_rfl) (fun _ _ _ h => h) (Or.inr ⟨by rfl, rfl⟩) hHeld13 ?_
              try simp only [Act.put, List.setIfInBounds_toArray, List.set_cons_zero, List.set_cons_succ]
              refine wpAnyH_take (i := 60) (oi := ⟨some 103, _, _, _, _, _⟩) (v := undef) rfl (by kernel_rfl) (by kernel_rfl) (by kernel_rfl) (fun _ _ _ h => h) (Or.inr ⟨by rfl, rfl⟩) hHeld13 ?_
              try simp only [Act.put, List.setIfInBounds_toArray, List.set_cons_zero, List.set_cons_succ]
              refine wpAnyH_take (i := 61) (oi := ⟨some 104, _, _, _, _, _⟩) (v := undef) rfl (by kernel_rfl) (by kernel_rfl) (by kernel_rfl) (fun _ _ _ h => h) (Or.inr ⟨by rfl, rfl⟩) hHeld13 ?_
              try simp only [Act.put, List.setIfInBounds_toArray, List.set_cons_zero, List.set_cons_succ]
              refine wpAnyH_take (i := 62) (oi := ⟨some 105, _, _, _, _, _⟩) (v := ?_) rfl (by kernel_rfl) (by kernel_rfl) (by kernel_rfl) (fun _ _ _ h => h) (Or.inl ⟨by rfl, ?_⟩) hHeld13 ?_
              rotate_left
              · (intro w' hSw; (try dsimp only at hSw); go_simp; all_goals (with_reducible rfl))
              try simp only [Act.put, List.setIfInBounds_toArray, List.set_cons_zero, List.set_cons_succ]
              refine wpAnyH_take (i := 63) (oi := ⟨some 106, _, _, _, _, _⟩) (v := ?_) rfl (by kernel_rfl) (by kernel_rfl) (by kernel_rfl) (fun _ _ _ h => h) (Or.inl ⟨by rfl, ?_⟩) hHeld13 ?_
              rotate_left
              · (intro w' hSw; (try dsimp only at hSw); go_simp; all_goals (with_reducible rfl))
              try simp only [Act.put, List.setIfInBounds_toArray, List.set_cons_zero, List.set_cons_succ]
              refine wpAnyH_take (i := 64) (oi := ⟨some 6, _, _, _, _, _⟩) (v := ?_) rfl (by kernel_rfl) (by kernel_rfl) (by kernel_rfl) (fun _ _ _ h => h) (Or.inl ⟨by rfl, ?_⟩) hHeld13 ?_
              rotate_left
              · (intro w' hSw; (try dsimp only at hSw); go_simp; all_goals (with_reducible rfl))
              try simp only [Act.put, List.setIfInBounds_toArray, List.set_cons_zero, List.set_cons_succ]
              refine wpAnyH_done (by kernel_rfl) ?_ _
              go_wp2
              go_ret
              exact ⟨rfl, b⟩
            · have O1 := Lib.hid o1
              clear o1
              go_simp
              refine hK.out _ _ (by exact ⟨⟨X.at 0 rfl, X.at 1 rfl, X.at 2 rfl⟩, ⟨Y.at 0 rfl, Y.at 1 rfl, Y.at 2 rfl⟩, ⟨Z.at 0 rfl, Z.at 1 rfl, Z.at 2 rfl⟩, ⟨P.at 0 rfl, P.at 1 rfl, P.at 2 rfl⟩, ⟨Q.at 0 rfl, Q.at 1 rfl, Q.at 2 rfl⟩, ⟨O9.at 0 rfl, O9.at 1 rfl, O9.at 2 rfl⟩⟩) (fun hHeld13 => ?_)
              clear hK hHeld12 K
              try simp only [Act.put, List.setIfInBounds_toArray, List.set_cons_zero, List.set_cons_succ]
              refine wpAnyH_take (i := 51) (oi := ⟨some 94, _, _, _, _, _⟩) (v := ?_) rfl (by kernel_rfl) (by kernel_rfl) (by kernel_rfl) (fun _ _ _ h => h) (Or.inl ⟨by rfl, ?_⟩) hHeld13 ?_
              rotate_left
              · (intro w' hSw; (try dsimp only at hSw); go_simp; all_goals (with_reducible rfl))
              try simp only [Act.put, List.setIfInBounds_toArray, List.set_cons_zero, List.set_cons_succ]
              refine wpAnyH_take (i := 52) (oi := ⟨some 95, _, _, _, _, _⟩) (v := ?_) rfl (by kernel_rfl) (by kernel_rfl) (by kernel_rfl) (fun _ _ _ h => h) (Or.inl ⟨by rfl, ?_⟩) hHeld13 ?_
              rotate_left
              · (intro w' hSw; (try dsimp only at hSw); go_simp; all_goals (with_reducible rfl))
              try simp only [Act.put, List.setIfInBounds_toArray, List.set_cons_zero, List.set_cons_succ]
              refine wpAnyH_take (i := 53) (oi := ⟨some 96, _, _, _, _, _⟩) (v := ?_) rfl (by kernel_rfl) (by kernel_rfl) (by kernel_rfl) (fun _ _ _ h => h) (Or.inl ⟨by rfl, ?_⟩) hHeld13 ?_
              rotate_left
              · (intro w' hSw; (try dsimp only at hSw); go_simp; all_goals (with_reducible rfl))
              try simp only [Act.put, List.setIfInBounds_toArray, List.set_cons_zero, List.set_cons_succ]
              refine wpAnyH_take (i := 54) (oi := ⟨some 97, _, _, _, _, _⟩) (v := ?_) rfl (by kernel_rfl) (by kernel_rfl) (by kernel_rfl) (fun _ _ _ h => h) (Or.inl ⟨by rfl, ?_⟩) hHeld13 ?_
              rotate_left
              · (intro w' hSw; (try dsimp only at hSw); go_simp; all_goals (with_reducible rfl))
              try simp only [Act.put, List.setIfInBounds_toArray, List.set_cons_zero, List.set_cons_succ]
              refine wpAnyH_ready (rs := [55]) (by kernel_rfl) (by simp) (AllReadyH.cons (o := ⟨some 98, _, _, _, _, _⟩) rfl (fun K hK => ?_) AllReadyH.nil)
              go_simp
              refine (sover_any ⟨⟨g2, e2, l2⟩, A2, n2, c2⟩ ⟨⟨g1, e1, l1⟩, A1, n1, c1⟩ _ R2 R1 (by show n2 ≤ _; omega) (by show n1 ≤ _; omega) (S.right_rise HR2.out) (S.right_rise HR1.out)).mono ?_
              rintro e w22 ⟨rfl, hb⟩
              replace Rz := Rz.belowH hb
              replace R0 := R0.belowH hb
              replace R1 := R1.belowH hb
              replace R2 := R2.belowH hb
              replace Rx := Rx.belowH hb
              replace Ry := Ry.belowH hb
              replace Rj := Rj.belowH hb
              replace Rk := Rk.belowH hb
              replace Rm := Rm.belowH hb
              replace O9 := O9.belowH hb
              replace X := X.belowH hb
              replace Y := Y.belowH hb
              replace Z := Z.belowH hb
              replace P := P.belowH hb
              replace Q := Q.belowH hb
              replace b := b.trans (hb.mono b.size)
              clear hb
              rcases o2 : soverB ⟨g2, e2, l2⟩ ⟨g1, e1, l1⟩
              · clear o2
                go_simp
                refine hK.out _ _ (by exact ⟨⟨X.at 0 rfl, X.at 1 rfl, X.at 2 rfl⟩, ⟨Y.at 0 rfl, Y.at 1 rfl, Y.at 2 rfl⟩, ⟨Z.at 0 rfl, Z.at 1 rfl, Z.at 2 rfl⟩, ⟨P.at 0 rfl, P.at 1 rfl, P.at 2 rfl⟩, ⟨Q.at 0 rfl, Q.at 1 rfl, Q.at 2 rfl⟩, ⟨O9.at 0 rfl, O9.at 1 rfl, O9.at 2 rfl⟩⟩) (fun hHeld14 => ?_)
                clear hK hHeld13 K
                try simp only [Act.put, List.setIfInBounds_toArray, List.set_cons_zero, List.set_cons_succ]
                refine wpAnyH_take (i := 56) (oi := ⟨some 99, _, _, _, _, _⟩) (v := ?_) rfl (by kernel_rfl) (by kernel_rfl) (by kernel_rfl) (fun _ _ _ h => h) (Or.inl ⟨by rfl, ?_⟩) hHeld14 ?_
                rotate_left
                · (intro w' hSw; (try dsimp only at hSw); go_simp; all_goals (with_reducible rfl))
                try simp only [Act.put, List.setIfInBounds_toArray, List.set_cons_zero, List.set_cons_succ]
                refine wpAnyH_take (i := 57) (oi := ⟨some 100, _, _, _, _, _⟩) (v := ?_) rfl (by kernel_rfl) (by kernel_rfl) (by kernel_rfl) (fun _ _ _ h => h) (Or.inl ⟨by rfl, ?_⟩) hHeld14 ?_
                rotate_left
                · (intro w' hSw; (try dsimp only at hSw); go_simp; all_goals (with_reducible rfl))
                try simp only [Act.put, List.setIfInBounds_toArray, List.set_cons_zero, List.set_cons_succ]
                refine wpAnyH_take (i := 58) (oi := ⟨some 101, _, _, _, _, _⟩) (v := ?_) rfl (by kernel_rfl) (by kernel_rfl) (by kernel_rfl) (fun _ _ _ h => h) (Or.inl ⟨by rfl, ?_⟩) hHeld14 ?_
                rotate_left
                · (intro w' hSw; (try dsimp only at hSw); go_simp; all_goals (with_reducible rfl))
                try simp only [Act.put, List.setIfInBounds_toArray, List.set_cons_zero, List.set_cons_succ]
                refine wpAnyH_take (i := 59) (oi := ⟨some 102, _, _, _, _, _⟩) (v := undef) rfl (by kernel_rfl) (by kernel_rfl) (by kernel_rfl) (fun _ _ _ h => h) (Or.inr ⟨by rfl, rfl⟩) hHeld14 ?_
                try simp only [Act.put, List.setIfInBounds_toArray, List.set_cons_zero, List.set_cons_succ]
                refine wpAnyH_take (i := 60) (oi := ⟨some 103, _, _, _, _, _⟩) (v := undef) rfl (by kernel_rfl) (by kernel_rfl) (by kernel_rfl) (fun _ _ _ h => h) (Or.inr ⟨by rfl, rfl⟩) hHeld14 ?_
                try simp only [Act.put, List.setIfInBounds_toArray, List.set_cons_zero, List.set_cons_succ]
                refine wpAnyH_take (i := 61) (oi := ⟨some 104, _, _, _, _, _⟩) (v := undef) rfl (by kernel_rfl) (by kernel_rfl) (by kernel_rfl) (fun _ _ _ h => h) (Or.inr ⟨by rfl, rfl⟩) hHeld14 ?_
                try simp only [Act.put, List.setIfInBounds_toArray, List.set_cons_zero, List.set_cons_succ]
                refine wpAnyH_take (i := 62) (oi := ⟨some 105, _, _, _, _, _⟩) (v := ?_) rfl (by kernel_rfl) (by kernel_rfl) (by kernel_rfl) (fun _ _ _ h => h) (Or.inl ⟨by rfl, ?_⟩) hHeld14 ?_
                rotate_left
                · (intro w' hSw; (try dsimp only at hSw); go_simp; all_goals (with_reducible rfl))
                try simp only [Act.put, List.setIfInBounds_toArray, List.set_cons_zero, List.set_cons_succ]
                refine wpAnyH_take (i := 63) (oi := ⟨some 106, _, _, _, _, _⟩) (v := ?_) rfl (by kernel_rfl) (by kernel_rfl) (by kernel_rfl) (fun _ _ _ h => h) (Or.inl ⟨by rfl, ?_⟩) hHeld14 ?_
                rotate_left
                · (intro w' hSw; (try dsimp only at hSw); go_simp; all_goals (with_reducible rfl))
                try simp only [Act.put, List.setIfInBounds_toArray, List.set_cons_zero, List.set_cons_succ]
                refine wpAnyH_take (i := 64) (oi := ⟨some 6, _, _, _, _, _⟩) (v := ?_) rfl (by kernel_rfl) (by kernel_rfl) (by kernel_rfl) (fun _ _ _ h => h) (Or.inl ⟨by rfl, ?_⟩) hHeld14 ?_
                rotate_left
                · (intro w' hSw; (try dsimp only at hSw); go_simp; all_goals (with_reducible rfl))
                try simp only [Act.put, List.setIfInBounds_toArray, List.set_cons_zero, List.set_cons_succ]
                refine wpAnyH_done (by kernel_rfl) ?_ _
                go_wp2
                go_ret
                exact ⟨rfl, b⟩
              · have O2 := Lib.hid o2
                clear o2
                go_simp
                refine hK.out _ _ (by exact ⟨⟨X.at 0 rfl, X.at 1 rfl, X.at 2 rfl⟩, ⟨Y.at 0 rfl, Y.at 1 rfl, Y.at 2 rfl⟩, ⟨Z.at 0 rfl, Z.at 1 rfl, Z.at 2 rfl⟩, ⟨P.at 0 rfl, P.at 1 rfl, P.at 2 rfl⟩, ⟨Q.at 0 rfl, Q.at 1 rfl, Q.at 2 rfl⟩, ⟨O9.at 0 rfl, O9.at 1 rfl, O9.at 2 rfl⟩⟩) (fun hHeld14 => ?_)
                clear hK hHeld13 K
                try simp only [Act.put, List.setIfInBounds_toArray, List.set_cons_zero, List.set_cons_succ]
                refine wpAnyH_take (i := 56) (oi := ⟨some 99, _, _, _, _, _⟩) (v := ?_) rfl (by kernel_rfl) (by kernel_rfl) (by kernel_rfl) (fun _ _ _ h => h) (Or.inl ⟨by rfl, ?_⟩) hHeld14 ?_
                rotate_left
                · (intro w' hSw; (try dsimp only at hSw); go_simp; all_goals (with_reducible rfl))
                try simp only [Act.put, List.setIfInBounds_toArray, List.set_cons_zero, List.set_cons_succ]
                refine wpAnyH_take (i := 57) (oi := ⟨some 100, _, _, _, _, _⟩) (v := ?_) rfl (by kernel_rfl) (by kernel_rfl) (by kernel_rfl) (fun _ _ _ h => h) (Or.inl ⟨by rfl, ?_⟩) hHeld14 ?_
                rotate_left
                · (intro w' hSw; (try dsimp only at hSw); go_simp; all_goals (with_reducible rfl))
                try simp only [Act.put, List.setIfInBounds_toArray, List.set_cons_zero, List.set_cons_succ]
                refine wpAnyH_take (i := 58) (oi := ⟨some 101, _, _, _, _, _⟩) (v := ?_) rfl (by kernel_rfl) (by kernel_rfl) (by kernel_rfl) (fun _ _ _ h => h) (Or.inl ⟨by rfl, ?_⟩) hHeld14 ?_
                rotate_left
                · (intro w' hSw; (try dsimp only at hSw); go_simp; all_goals (with_reducible rfl))
                try simp only [Act.put, List.setIfInBounds_toArray, List.set_cons_zero, List.set_cons_succ]
                refine wpAnyH_take (i := 59) (oi := ⟨some 102, _, _, _, _, _⟩) (v := ?_) rfl (by kernel_rfl) (by kernel_rfl) (by kernel_rfl) (fun _ _ _ h => h) (Or.inl ⟨by rfl, ?_⟩) hHeld14 ?_
                rotate_left
                · (intro w' hSw; (try dsimp only at hSw); go_simp; all_goals (with_reducible rfl))
                try simp only [Act.put, List.setIfInBounds_toArray, List.set_cons_zero, List.set_cons_succ]
                refine wpAnyH_take (i := 60) (oi := ⟨some 103, _, _, _, _, _⟩) (v := ?_) rfl (by kernel_rfl) (by kernel_rfl) (by kernel_rfl) (fun _ _ _ h => h) (Or.inl ⟨by rfl, ?_⟩) hHeld14 ?_
                rotate_left
                · (intro w' hSw; (try dsimp only at hSw); go_simp; all_goals (with_reducible rfl))
                try simp only [Act.put, List.setIfInBounds_toArray, List.set_cons_zero, List.set_cons_succ]
                refine wpAnyH_ready (rs := [61]) (by kernel_rfl) (by simp) (AllReadyH.cons (o := ⟨some 104, _, _, _, _, _⟩) rfl (fun K hK => ?_) AllReadyH.nil)
                go_simp
                refine (sover_any ⟨⟨g2, e2, l2⟩, A2, n2, c2⟩ ⟨sx, Ax, nx, cx⟩ _ R2 Rx (by show n2 ≤ _; omega) (by show nx ≤ _; omega) (S.right_rise HR2.out) (show S.rise sx by rw [Hx.out]; exact S.join_rise (S.right_rise HR0.out) (S.right_rise HR1.out))).mono ?_
                rw [soverB_iff.2 (show S.over ⟨g2, e2, l2⟩ sx by rw [Hx.out]; exact S.over_least (S.right_rise HR0.out) (S.right_rise HR1.out) (S.right_rise HR2.out) (soverB_iff.1 O1.out) (soverB_iff.1 O2.out))]
                rintro e w23 ⟨rfl, hb⟩
                replace Rz := Rz.belowH hb
                replace R0 := R0.belowH hb
                replace R1 := R1.belowH hb
                replace R2 := R2.belowH hb
                replace Rx := Rx.belowH hb
                replace Ry := Ry.belowH hb
                replace Rj := Rj.belowH hb
                replace Rk := Rk.belowH hb
                replace Rm := Rm.belowH hb
                replace O9 := O9.belowH hb
                replace X := X.belowH hb
                replace Y := Y.belowH hb
                replace Z := Z.belowH hb
                replace P := P.belowH hb
                replace Q := Q.belowH hb
                replace b := b.trans (hb.mono b.size)
                clear hb
                go_simp
                refine hK.out _ _ (by exact ⟨⟨X.at 0 rfl, X.at 1 rfl, X.at 2 rfl⟩, ⟨Y.at 0 rfl, Y.at 1 rfl, Y.at 2 rfl⟩, ⟨Z.at 0 rfl, Z.at 1 rfl, Z.at 2 rfl⟩, ⟨P.at 0 rfl, P.at 1 rfl, P.at 2 rfl⟩, ⟨Q.at 0 rfl, Q.at 1 rfl, Q.at 2 rfl⟩, ⟨O9.at 0 rfl, O9.at 1 rfl, O9.at 2 rfl⟩⟩) (fun hHeld15 => ?_)
                clear hK hHeld14 K
                try simp only [Act.put, List.setIfInBounds_toArray, List.set_cons_zero, List.set_cons_succ]
                refine wpAnyH_take (i := 62) (oi := ⟨some 105, _, _, _, _, _⟩) (v := ?_) rfl (by kernel_rfl) (by kernel_rfl) (by kernel_rfl) (fun _ _ _ h => h) (Or.inl ⟨by rfl, ?_⟩) hHeld15 ?_
                rotate_left
                · (intro w' hSw; (try dsimp only at hSw); go_simp; all_goals (with_reducible rfl))
                try simp only [Act.put, List.setIfInBounds_toArray, List.set_cons_zero, List.set_cons_succ]
                refine wpAnyH_take (i := 63) (oi := ⟨some 106, _, _, _, _, _⟩) (v := ?_) rfl (by kernel_rfl) (by kernel_rfl) (by kernel_rfl) (fun _ _ _ h => h) (Or.inl ⟨by rfl, ?_⟩) hHeld15 ?_
                rotate_left
                · (intro w' hSw; (try dsimp only at hSw); go_simp; all_goals (with_reducible rfl))
                try simp only [Act.put, List.setIfInBounds_toArray, List.set_cons_zero, List.set_cons_succ]
                refine wpAnyH_take (i := 64) (oi := ⟨some 6, _, _, _, _, _⟩) (v := ?_) rfl (by kernel_rfl) (by kernel_rfl) (by kernel_rfl) (fun _ _ _ h => h) (Or.inl ⟨by rfl, ?_⟩) hHeld15 ?_
                rotate_left
                · (intro w' hSw; (try dsimp only at hSw); go_simp; all_goals (with_reducible rfl))
                try simp only [Act.put, List.setIfInBounds_toArray, List.set_cons_zero, List.set_cons_succ]
                refine wpAnyH_done (by kernel_rfl) ?_ _
                go_wp2
                go_ret
                exact ⟨rfl, b⟩
  · go_wp2
    go_ret
    exact ⟨rfl, b⟩
end Go.Proofs.Ytfpfpepejocjfaa
