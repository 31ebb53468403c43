/- DigestEnds walks. -/
import Derived.Test.YtoemefoppkgfaaaDAlive
namespace Go.Proofs.Ytoemefoppkgfaaa
set_option linter.unusedVariables false
set_option linter.unusedSimpArgs false
open Go.RowKit

set_option maxHeartbeats 8000000 in
set_option maxRecDepth 100000 in
theorem law_DigestEnds (v0 : Vw) (A1 : Option Addr) (n1 c1 : Nat) (l1 : List Dg) (W : World) (t0 : VIn W v0) (t1 : DIn W A1 n1 c1 l1) :
    Calls Try.prog 5 #[vval v0, .slice A1 n1 c1] W fun e w' => e = .returned (.bool true) ∧ Below W.heap.size W w' := by
  have R0 := t0.1
  have HK0 : Hid (v0.n * 48 ≤ 140737488351232 ∧ ∀ x ∈ v0.l, x.v.n * 32 ≤ 140737488351232 ∧ ∀ y ∈ x.v.s.apps, y.val.length ≤ 140737488351232) := Lib.hid ⟨t0.2.2.1, fun x hx => (t0.2.2.2 x hx).1⟩
  clear t0
  have R1 := t1.1
  clear t1
  simp only [vval]
  have b := Below.refl W.heap.size W
  go_enter Try.func5, Try.ntmps5
  go_wp2_with fail
  refine (alive_any _).mono ?_
  rintro e w2 ⟨rfl, hb⟩
  replace R0 := R0.belowH hb
  replace R1 := R1.belowH hb
  replace b := b.trans (hb.mono b.size)
  clear hb
  go_wp2_with fail
  refine (rvgreat_any v0 _ R0 HK0.out.1 HK0.out.2).mono ?_
  rintro e w3 ⟨rfl, hb⟩
  replace R0 := R0.belowH hb
  replace R1 := R1.belowH hb
  replace b := b.trans (hb.mono b.size)
  clear hb
  rcases hgr : vgreatB v0.l
  · skip
    have HG0 := Lib.hid (vgreat_small R0 hgr)
    clear hgr
    by_cases hg1 : 40 < n1
    · have hgb : decide ((40 : Int) < (n1 : Int)) = true := decide_eq_true (by omega)
      go_wp2
      go_ret
      exact ⟨rfl, b⟩
    · have hgb1 : decide ((40 : Int) < (n1 : Int)) = false := decide_eq_false (by omega)
      go_wp2_with fail
      refine (rvright_any v0  _ R0 (by have hq := HG0.out.1; omega) HG0.out.2).mono ?_
      rintro e w4 ⟨rfl, hb⟩
      replace R0 := R0.belowH hb
      replace R1 := R1.belowH hb
      replace b := b.trans (hb.mono b.size)
      clear hb
      rcases hr0 : vrightB v0.view
      · go_wp2
        go_ret
        exact ⟨rfl, b⟩
      · skip
        have HR0 := Lib.hid (vrightB_out hr0)
        clear hr0
        go_wp2_with fail
        refine (rdright_any l1 A1 n1 c1 _ R1 (by omega)).mono ?_
        rintro e w5 ⟨rfl, hb⟩
        replace R0 := R0.belowH hb
        replace R1 := R1.belowH hb
        replace b := b.trans (hb.mono b.size)
        clear hb
        rcases hr1 : drightB l1
        · go_wp2
          go_ret
          exact ⟨rfl, b⟩
        · skip
          have HR1 := Lib.hid (drightB_out hr1)
          clear hr1
          have Rz : VRd w5 ⟨[], none, 0, 0⟩ := ⟨Rd.zero _ _ _ _, by simp⟩
          have Re : DRd w5 none 0 [] := DRd.zero _ _
          go_wp2_with fail
          refine (dcompare_any ⟨[], none, 0, 0⟩ l1 A1 n1 c1 _ Rz R1 right_nilV HR1.out).mono ?_
          rintro e w6 ⟨Aa, na, ca, Ag, ng, cg, rfl, hown, hown2, hb⟩
          have Ra : DRd w6 Aa na (D.wants [] l1 8) := Rd.of_own hown
          have Rg : DRd w6 Ag ng (D.gives [] l1 8) := Rd.of_own hown2
          clear hown hown2
          replace R0 := R0.belowH hb
          replace R1 := R1.belowH hb
          replace Rz := Rz.belowH hb
          replace Re := Re.belowH hb
          replace b := b.trans (hb.mono b.size)
          clear hb
          have bda : na ≤ 8 := by have hq := Ra.len; have := D.wants_len [] l1 8; omega
          have bdg : ng ≤ 8 := by have hq := Rg.len; have := D.gives_len [] l1 8; omega
          go_wp2_with fail
          refine (dcompare_any v0 [] none 0 0 _ R0 Re HR0.out right_nilD).mono ?_
          rintro e w7 ⟨Ax, nx, cx, Ay, ny, cy, rfl, hown, hown2, hb⟩
          have Rx : DRd w7 Ax nx (D.wants v0.view [] 8) := Rd.of_own hown
          have Ry : DRd w7 Ay ny (D.gives v0.view [] 8) := Rd.of_own hown2
          clear hown hown2
          replace R0 := R0.belowH hb
          replace R1 := R1.belowH hb
          replace Rz := Rz.belowH hb
          replace Re := Re.belowH hb
          replace Ra := Ra.belowH hb
          replace Rg := Rg.belowH hb
          replace b := b.trans (hb.mono b.size)
          clear hb
          have bdx : nx ≤ 8 := by have hq := Rx.len; have := D.wants_len v0.view [] 8; omega
          have bdy : ny ≤ 8 := by have hq := Ry.len; have := D.gives_len v0.view [] 8; omega
          rw [D.wants_none HR1.out] at Ra
          rw [D.gives_told HR0.out] at Ry
          obtain rfl : ng = 0 := by have hq := Rg.len; rw [D.gives_none] at hq; exact hq.symm
          obtain rfl : nx = 0 := by have hq := Rx.len; rw [D.wants_told] at hq; exact hq.symm
          have hna : na = n1 := by have hq := Ra.len; have hq2 := R1.len; rw [List.length_map] at hq; omega
          have hny : ny = v0.n := by have hq := Ry.len; have hq2 := R0.viewlen; rw [List.length_map] at hq; omega
          subst hna
          obtain ⟨lv, Av, nv', cv⟩ := v0
          simp only at hny
          subst hny
          clear Rg Rx Rz Re
          have hw0 := R0
          simp only [vval]
          go_wp2
          go_loopw [9] (fun i wr => ∃ k q : Nat, k ≤ na ∧ i = .int .i64 k ∧ wr = w7.drewN q) (fun i _ => na - (intOf i).toNat)
          case atStart => exact ⟨0, 0, by omega, rfl, rfl⟩
          case round =>
            obtain ⟨k, q, hk, rfl, rfl⟩ := hrel
            by_cases hlt : k < na
            · obtain ⟨ba, oa, x, ea, hba, hx, p0, p1, p2⟩ := Ra.at hlt
              obtain ⟨bl, ol, y, el, hbl, hy, d0, d1, d2⟩ := R1.at hlt
              subst ea el
              have hxy : x = ⟨y.node, y.gen, 0⟩ := by rw [List.getElem?_map, hy] at hx; simpa using hx.symm
              subst hxy
              simp only at p0 p1 p2
              have hk0 : (0 : Int) ≤ (k : Int) := by omega
              have u1 : (y.node != y.node) = false := bne_self_eq_false _
              have u2 : (y.gen != y.gen) = false := bne_self_eq_false _
              clear hx hy
              go_wp2
              go_quiet (fail)
              go_wp2
              go_roundw
              case rel => exact ⟨k + 1, q + nq, by omega, by go_num, by simp⟩
              case measure => simp [intOf]; omega
            · go_wp2
              go_loopw [10] (fun i wr => ∃ k q : Nat, k ≤ ny ∧ i = .int .i64 k ∧ wr = w7.drewN q) (fun i _ => ny - (intOf i).toNat)
              case atStart => exact ⟨0, q, by omega, rfl, rfl⟩
              case round =>
                obtain ⟨j, q', hj, rfl, rfl⟩ := hrel
                by_cases hlt2 : j < ny
                · obtain ⟨bd, od, x, ed, hbd, hx, p0, p1, p2⟩ := Ry.at hlt2
                  obtain ⟨bv, ov, y, ev, hbv, hy, _, d0, d1, _, _⟩ := R0.at hlt2
                  simp only at ev
                  subst ed ev
                  have hxy : x = ⟨y.node, y.v.s.gen, 0⟩ := by rw [List.getElem?_map, show (Vw.view ⟨lv, some ⟨bv, ov, none⟩, ny, cv⟩)[j]? = some y.nm from nm_at hy] at hx; simpa [Nv.nm] using hx.symm
                  subst hxy
                  simp only at p0 p1 p2
                  have hj0 : (0 : Int) ≤ (j : Int) := by omega
                  have u1 : (y.node != y.node) = false := bne_self_eq_false _
                  have u2 : (y.v.s.gen != y.v.s.gen) = false := bne_self_eq_false _
                  clear hx hy
                  go_wp2
                  go_quiet (fail)
                  go_wp2
                  go_roundw
                  case rel => exact ⟨j + 1, q' + nq, by omega, by go_num, by simp⟩
                  case measure => simp [intOf]; omega
                · go_wp2
                  go_ret
                  exact ⟨rfl, below_dn b q'⟩
  · go_wp2
    go_ret
    exact ⟨rfl, b⟩
end Go.Proofs.Ytoemefoppkgfaaa
