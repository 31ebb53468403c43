/- ViewPuts walks. -/
import Derived.Test.YtpfkgddcoancnaaVAlive
namespace Go.Proofs.Ytpfkgddcoancnaa
set_option linter.unusedVariables false
set_option linter.unusedSimpArgs false
open Go.RowKit

set_option maxHeartbeats 8000000 in
set_option maxRecDepth 100000 in
theorem law_ViewPuts (v0 : Vw) (a1 : Int) (v2 : Sv) (W : World) (t0 : VIn W v0) (t1 : (Lit.int .u8 a1).wf = true) (t2 : SIn W v2) :
    Calls Try.prog 4 #[vval v0, .int .u8 a1, sv v2] W fun e w' => e = .returned (.bool true) ∧ Below W.heap.size W w' := by
  have hk0 : 0 ≤ a1 ∧ a1 ≤ 255 := by
    have e1 : IntKind.u8.min = 0 := by decide
    have e2 : IntKind.u8.max = 255 := by decide
    simp [Lit.wf, e1, e2] at t1
    omega
  obtain ⟨hk0, hk1⟩ := hk0
  clear t1
  have R0 := t0.1
  have HK0 : Hid (v0.n * 48 ≤ 140737488351232 ∧ ∀ x ∈ v0.l, x.v.n * 32 ≤ 140737488351232 ∧ ∀ y ∈ x.v.s.apps, y.val.length ≤ 140737488351232) := Lib.hid ⟨t0.2.2.1, fun x hx => (t0.2.2.2 x hx).1⟩
  clear t0
  simp only [vval, sv]
  have b := Below.refl W.heap.size W
  obtain ⟨⟨g2, e2, l2⟩, A2, n2, c2⟩ := v2
  obtain ⟨R2, hn2, hv2, _, _⟩ := t2
  simp only at hn2 hv2
  have HV2 := Lib.hid hv2
  clear hv2
  simp only [sv]
  replace R0 := R0.allocH (.cells #[.int .i64 g2, .int .i64 e2, .slice A2 n2 c2] 27)
  replace R2 := R2.allocH (.cells #[.int .i64 g2, .int .i64 e2, .slice A2 n2 c2] 27)
  have S := Box.new W #[.int .i64 g2, .int .i64 e2, .slice A2 n2 c2] 27
  replace b := b.alloc b.size (.cells #[.int .i64 g2, .int .i64 e2, .slice A2 n2 c2] 27)
  go_enter Try.func4, Try.ntmps4
  go_wp2_with fail
  refine (alive_any _).mono ?_
  rintro e w2 ⟨rfl, hb⟩
  replace R0 := R0.belowH hb
  replace R2 := R2.belowH hb
  replace S := S.belowH hb
  replace b := b.trans (hb.mono b.size)
  clear hb
  have LR := Rd.lit w2 #[.slice v0.A v0.n v0.c] 22 1 1 rfl
  replace R0 := R0.allocH (.cells #[.slice v0.A v0.n v0.c] 22)
  replace R2 := R2.allocH (.cells #[.slice v0.A v0.n v0.c] 22)
  replace S := S.alloc (.cells #[.slice v0.A v0.n v0.c] 22)
  have LB := Box.new w2 #[.slice v0.A v0.n v0.c] 22
  replace b := b.alloc b.size (.cells #[.slice v0.A v0.n v0.c] 22)
  clear LB
  go_wp2_with fail
  refine (greatvs_any [v0] _ 1 1 _ _ LR (by simp) (by omega) (fun v hv => by simp at hv; rcases hv with rfl <;> first | exact ⟨R0, HK0.out⟩)).mono ?_
  rintro e w3 ⟨rfl, hb⟩
  replace R0 := R0.belowH hb
  replace R2 := R2.belowH hb
  replace S := S.belowH hb
  replace b := b.trans (hb.mono b.size)
  clear hb
  clear LR
  rcases hgr : greatvs [v0]
  · skip
    simp only [greatvs, List.any_cons, List.any_nil, Bool.or_false, Bool.or_eq_false_iff] at hgr
    have HG0 := Lib.hid (vgreat_small R0 hgr)
    clear hgr
    have s0 := S.at 0 rfl
    have s1 := S.at 1 rfl
    have s2 := S.at 2 rfl
    go_wp2_with fail
    refine (rsgreat_any ⟨⟨g2, e2, l2⟩, A2, n2, c2⟩ _ R2 (by show n2 * 32 ≤ _; omega) HV2.out).mono ?_
    rintro e w4 ⟨rfl, hb⟩
    replace R0 := R0.belowH hb
    replace R2 := R2.belowH hb
    replace S := S.belowH hb
    replace b := b.trans (hb.mono b.size)
    clear hb
    clear s0 s1 s2
    rcases hgs : E.great l2
    · have hs2 := great_small hgs R2.len
      clear hgs
      go_wp2_with fail
      refine (rvright_any v0  _ R0 (by have hq := HG0.out.1; omega) HG0.out.2).mono ?_
      rintro e w5 ⟨rfl, hb⟩
      replace R0 := R0.belowH hb
      replace R2 := R2.belowH hb
      replace S := S.belowH hb
      replace b := b.trans (hb.mono b.size)
      clear hb
      rcases hr0 : vrightB v0.view
      · go_wp2
        go_ret
        exact ⟨rfl, b⟩
      · skip
        have HR0 := Lib.hid (vrightB_out hr0)
        clear hr0
        have s0 := S.at 0 rfl
        have s1 := S.at 1 rfl
        have s2 := S.at 2 rfl
        go_wp2_with fail
        refine (rsright_any ⟨⟨g2, e2, l2⟩, A2, n2, c2⟩ _ R2 (by show n2 * 32 ≤ _; omega)).mono ?_
        rintro e w6 ⟨rfl, hb⟩
        replace R0 := R0.belowH hb
        replace R2 := R2.belowH hb
        replace S := S.belowH hb
        replace b := b.trans (hb.mono b.size)
        clear hb
        clear s0 s1 s2
        rcases hrs : srightB ⟨g2, e2, l2⟩
        · go_wp2
          go_ret
          exact ⟨rfl, b⟩
        · skip
          have HRS := Lib.hid (srightB_out hrs)
          clear hrs
          go_wp2_with fail
          refine (rvcopy_any v0  _ R0 (by have hq := right_n R0 HR0.out; omega) (right_fitR R0 HR0.out)).mono ?_
          rintro e w7 ⟨Uo, rfl, hv, hown, hb⟩
          have Ho : Hid (Uo.view = v0.view) := Lib.hid hv
          have Ro := hown.vrd
          clear hv hown
          replace R0 := R0.belowH hb
          replace R2 := R2.belowH hb
          replace S := S.belowH hb
          replace b := b.trans (hb.mono b.size)
          clear hb
          have HRo : Hid (V.right Uo.view) := Lib.hid (by rw [Ho.out]; exact HR0.out)
          simp only [vval]
          have HM : Hid (V.may ⟨a1 % 8, ⟨g2, e2, l2⟩⟩) := Lib.hid ⟨by show 0 ≤ a1 % 8; omega, by show a1 % 8 < 8; omega, HRS.out⟩
          have s0 := S.at 0 rfl
          have s1 := S.at 1 rfl
          have s2 := S.at 2 rfl
          go_wp2_with fail
          refine (vput_any Uo (a1 % 8) ⟨⟨g2, e2, l2⟩, A2, n2, c2⟩ _ Ro (by have hq := right_n Ro HRo.out; omega) (right_fitR Ro HRo.out) R2 (by show n2 ≤ _; omega) HRo.out.2).mono ?_
          rintro e w8 ⟨Ux, rfl, hv, hown, hb⟩
          have Hx : Hid (Ux.view = V.put Uo.view (a1 % 8) ⟨g2, e2, l2⟩) := Lib.hid hv
          have Rx := hown.vrd
          clear hv hown
          replace R0 := R0.belowH hb
          replace R2 := R2.belowH hb
          replace Ro := Ro.belowH hb
          replace S := S.belowH hb
          replace b := b.trans (hb.mono b.size)
          clear hb
          have HRx : Hid (V.right Ux.view) := Lib.hid (by rw [Hx.out]; exact V.put_right HRo.out HM.out)
          simp only [vval]
          clear s0 s1 s2
          go_wp2_with fail
          refine (vget_any Ux (a1 % 8) _ Rx (by have hq := right_n Rx HRx.out; omega) (right_fitR Rx HRx.out)).mono ?_
          rintro e w9 ⟨⟨st, At, nt, ct⟩, rfl, hs, Rt, hb⟩
          simp only at hs
          have Ht : Hid (st = (V.get Ux.view (a1 % 8)).getD ⟨0, 0, []⟩) := Lib.hid hs
          clear hs
          replace R0 := R0.belowH hb
          replace R2 := R2.belowH hb
          replace Ro := Ro.belowH hb
          replace Rx := Rx.belowH hb
          replace S := S.belowH hb
          replace b := b.trans (hb.mono b.size)
          clear hb
          have hg : V.get Ux.view (a1 % 8) = some ⟨g2, e2, l2⟩ := by rw [Hx.out, V.get_put HRo.out.2, if_pos rfl]
          have hst : st = ⟨g2, e2, l2⟩ := by rw [Ht.out, hg]; rfl
          subst hst
          rw [hg]
          clear hg Ht
          simp only [Option.isSome]
          simp only [sv]
          replace R0 := R0.allocH (.cells #[.int .i64 g2, .int .i64 e2, .slice At nt ct] 27)
          replace R2 := R2.allocH (.cells #[.int .i64 g2, .int .i64 e2, .slice At nt ct] 27)
          replace Ro := Ro.allocH (.cells #[.int .i64 g2, .int .i64 e2, .slice At nt ct] 27)
          replace Rx := Rx.allocH (.cells #[.int .i64 g2, .int .i64 e2, .slice At nt ct] 27)
          replace Rt := Rt.allocH (.cells #[.int .i64 g2, .int .i64 e2, .slice At nt ct] 27)
          replace S := S.alloc (.cells #[.int .i64 g2, .int .i64 e2, .slice At nt ct] 27)
          have T := Box.new w9 #[.int .i64 g2, .int .i64 e2, .slice At nt ct] 27
          replace b := b.alloc b.size (.cells #[.int .i64 g2, .int .i64 e2, .slice At nt ct] 27)
          have hnt : nt ≤ 4000 := by have hq := Rt.len; have hq2 := R2.len; simp only at hq hq2; omega
          have s0 := S.at 0 rfl
          have s1 := S.at 1 rfl
          have s2 := S.at 2 rfl
          have t0 := T.at 0 rfl
          have t1 := T.at 1 rfl
          have t2 := T.at 2 rfl
          go_wp2_with fail
          refine (rvput_any v0 (a1 % 8) ⟨⟨g2, e2, l2⟩, A2, n2, c2⟩ _ R0 (by have hq := right_n R0 HR0.out; omega) (right_fitR R0 HR0.out) R2 (by show n2 ≤ _; omega) HR0.out.2).mono ?_
          rintro e w10 ⟨Uy, rfl, hv, hown, hb⟩
          have Hy : Hid (Uy.view = V.put v0.view (a1 % 8) ⟨g2, e2, l2⟩) := Lib.hid hv
          have Ry := hown.vrd
          clear hv hown
          replace R0 := R0.belowH hb
          replace R2 := R2.belowH hb
          replace Ro := Ro.belowH hb
          replace Rx := Rx.belowH hb
          replace Rt := Rt.belowH hb
          replace S := S.belowH hb
          replace T := T.belowH hb
          replace b := b.trans (hb.mono b.size)
          clear hb
          have HRy : Hid (V.right Uy.view) := Lib.hid (by rw [Hy.out]; exact V.put_right HR0.out HM.out)
          simp only [vval]
          go_wp2_with fail
          refine (rvsame_any Ux Uy _ Rx Ry (by have hq := right_n Rx HRx.out; omega) (by have hq := right_n Ry HRy.out; omega) (right_fitR Rx HRx.out) (right_fitR Ry HRy.out)).mono ?_
          rw [decide_eq_true (show Ux.view = Uy.view by rw [Hx.out, Hy.out, Ho.out])]
          rintro e w11 ⟨rfl, hb⟩
          replace R0 := R0.belowH hb
          replace R2 := R2.belowH hb
          replace Ro := Ro.belowH hb
          replace Rx := Rx.belowH hb
          replace Rt := Rt.belowH hb
          replace Ry := Ry.belowH hb
          replace S := S.belowH hb
          replace T := T.belowH hb
          replace b := b.trans (hb.mono b.size)
          clear hb
          clear s0 s1 s2
          clear t0 t1 t2
          have s0 := S.at 0 rfl
          have s1 := S.at 1 rfl
          have s2 := S.at 2 rfl
          have t0 := T.at 0 rfl
          have t1 := T.at 1 rfl
          have t2 := T.at 2 rfl
          go_wp2_with fail
          refine (rssame_any ⟨⟨g2, e2, l2⟩, At, nt, ct⟩ ⟨⟨g2, e2, l2⟩, A2, n2, c2⟩ _ Rt R2 (by show nt * 32 ≤ _; omega) (by show n2 * 32 ≤ _; omega)).mono ?_
          rw [show sameB (Sv.mk ⟨g2, e2, l2⟩ At nt ct).s (Sv.mk ⟨g2, e2, l2⟩ A2 n2 c2).s = true from decide_eq_true rfl]
          rintro e w12 ⟨rfl, hb⟩
          replace R0 := R0.belowH hb
          replace R2 := R2.belowH hb
          replace Ro := Ro.belowH hb
          replace Rx := Rx.belowH hb
          replace Rt := Rt.belowH hb
          replace Ry := Ry.belowH hb
          replace S := S.belowH hb
          replace T := T.belowH hb
          replace b := b.trans (hb.mono b.size)
          clear hb
          clear s0 s1 s2
          clear t0 t1 t2
          go_wp2_with fail
          refine (vright_any Ux  _ Rx (by have hq := right_n Rx HRx.out; omega) (right_fitR Rx HRx.out)).mono ?_
          rw [vrightB_yes HRx.out]
          rintro e w13 ⟨rfl, hb⟩
          replace R0 := R0.belowH hb
          replace R2 := R2.belowH hb
          replace Ro := Ro.belowH hb
          replace Rx := Rx.belowH hb
          replace Rt := Rt.belowH hb
          replace Ry := Ry.belowH hb
          replace S := S.belowH hb
          replace T := T.belowH hb
          replace b := b.trans (hb.mono b.size)
          clear hb
          go_wp2_with fail
          refine (rvsame_any Uo v0 _ Ro R0 (by have hq := right_n Ro HRo.out; omega) (by have hq := right_n R0 HR0.out; omega) (right_fitR Ro HRo.out) (right_fitR R0 HR0.out)).mono ?_
          rw [decide_eq_true Ho.out]
          rintro e w14 ⟨rfl, hb⟩
          replace R0 := R0.belowH hb
          replace R2 := R2.belowH hb
          replace Ro := Ro.belowH hb
          replace Rx := Rx.belowH hb
          replace Rt := Rt.belowH hb
          replace Ry := Ry.belowH hb
          replace S := S.belowH hb
          replace T := T.belowH hb
          replace b := b.trans (hb.mono b.size)
          clear hb
          go_wp2
          go_ret
          exact ⟨rfl, b⟩
    · go_wp2
      go_ret
      exact ⟨rfl, b⟩
  · go_wp2
    go_ret
    exact ⟨rfl, b⟩
end Go.Proofs.Ytpfkgddcoancnaa
