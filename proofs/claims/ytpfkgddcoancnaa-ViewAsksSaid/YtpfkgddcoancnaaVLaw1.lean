/- ViewAsks walks. -/
import Derived.Test.YtpfkgddcoancnaaVAlive
namespace Go.Proofs.Ytpfkgddcoancnaa
set_option linter.unusedVariables false
set_option linter.unusedSimpArgs false
open Go.RowKit

theorem vfit_apps {w : World} {U : Vw} (h : VRd w U) (hf : VFit U) {x : Nm} (hx : x ∈ U.view) : x.st.apps.length ≤ 4000 := by
  obtain ⟨y, hy, rfl⟩ := List.mem_map.1 hx
  have h1 := (h.2 y hy).len
  have h2 := hf y hy
  show y.v.s.apps.length ≤ _
  omega
/-- a view all of whose endpoints' states stand in one that is short is short -/
theorem vfit_of_view {w w' : World} {U U' : Vw} (h : VRd w U) (h' : VRd w' U') (hf : VFit U) (hs : ∀ x ∈ U'.view, x ∈ U.view) : VFit U' := fun y hy => by
  have h1 := vfit_apps h hf (hs y.nm (List.mem_map.2 ⟨y, hy, rfl⟩))
  have h2 := (h'.2 y hy).len
  have h3 : y.v.s.apps.length ≤ 4000 := h1
  omega
theorem vget_short {w : World} {U : Vw} (h : VRd w U) (hf : VFit U) {k : Int} (o : Option St) (ho : V.get U.view k = o) : (o.getD ⟨0, 0, []⟩).apps.length ≤ 4000 := by
  rcases o with _ | s
  · show (0 : Nat) ≤ _; omega
  · exact vfit_apps h hf (V.get_mem ho)

set_option maxHeartbeats 8000000 in
set_option maxRecDepth 100000 in
theorem law_ViewAsks (v0 v1 : Vw) (a2 : Int) (W : World) (t0 : VIn W v0) (t1 : VIn W v1) (t2 : (Lit.int .i64 a2).wf = true) :
    Calls Try.prog 3 #[vval v0, vval v1, .int .i64 a2] W fun e w' => e = .returned (.bool true) ∧ Below W.heap.size W w' := by
  have R0 := t0.1
  have HK0 : Hid (v0.n * 48 ≤ 140737488351232 ∧ ∀ x ∈ v0.l, x.v.n * 32 ≤ 140737488351232 ∧ ∀ y ∈ x.v.s.apps, y.val.length ≤ 140737488351232) := Lib.hid ⟨t0.2.2.1, fun x hx => (t0.2.2.2 x hx).1⟩
  clear t0
  have R1 := t1.1
  have HK1 : Hid (v1.n * 48 ≤ 140737488351232 ∧ ∀ x ∈ v1.l, x.v.n * 32 ≤ 140737488351232 ∧ ∀ y ∈ x.v.s.apps, y.val.length ≤ 140737488351232) := Lib.hid ⟨t1.2.2.1, fun x hx => (t1.2.2.2 x hx).1⟩
  clear t1
  simp only [vval]
  have b := Below.refl W.heap.size W
  go_enter Try.func3, Try.ntmps3
  go_wp2_with fail
  refine (alive_any _).mono ?_
  rintro e w2 ⟨rfl, hb⟩
  replace R0 := R0.belowH hb
  replace R1 := R1.belowH hb
  replace b := b.trans (hb.mono b.size)
  clear hb
  have LR := Rd.lit w2 #[.slice v0.A v0.n v0.c, .slice v1.A v1.n v1.c] 22 1 2 rfl
  replace R0 := R0.allocH (.cells #[.slice v0.A v0.n v0.c, .slice v1.A v1.n v1.c] 22)
  replace R1 := R1.allocH (.cells #[.slice v0.A v0.n v0.c, .slice v1.A v1.n v1.c] 22)
  have LB := Box.new w2 #[.slice v0.A v0.n v0.c, .slice v1.A v1.n v1.c] 22
  replace b := b.alloc b.size (.cells #[.slice v0.A v0.n v0.c, .slice v1.A v1.n v1.c] 22)
  clear LB
  go_wp2_with fail
  refine (greatvs_any [v0, v1] _ 2 2 _ _ LR (by simp) (by omega) (fun v hv => by simp at hv; rcases hv with rfl | rfl <;> first | exact ⟨R0, HK0.out⟩ | exact ⟨R1, HK1.out⟩)).mono ?_
  rintro e w3 ⟨rfl, hb⟩
  replace R0 := R0.belowH hb
  replace R1 := R1.belowH hb
  replace b := b.trans (hb.mono b.size)
  clear hb
  clear LR
  rcases hgr : greatvs [v0, v1]
  · skip
    simp only [greatvs, List.any_cons, List.any_nil, Bool.or_false, Bool.or_eq_false_iff] at hgr
    have HG0 := Lib.hid (vgreat_small R0 hgr.1)
    have HG1 := Lib.hid (vgreat_small R1 hgr.2)
    clear hgr
    go_wp2_with fail
    refine (vget_any v0 a2 _ R0 (by have hq := HG0.out.1; omega) HG0.out.2).mono ?_
    rintro e w4 ⟨⟨sx, Ax, nx, cx⟩, rfl, hs, Rx, hb⟩
    simp only at hs
    have Hx : Hid (sx = (V.get v0.view a2).getD ⟨0, 0, []⟩) := Lib.hid hs
    clear hs
    replace R0 := R0.belowH hb
    replace R1 := R1.belowH hb
    replace b := b.trans (hb.mono b.size)
    clear hb
    simp only [sv]
    replace R0 := R0.allocH (.cells #[.int .i64 sx.gen, .int .i64 sx.beat, .slice Ax nx cx] 27)
    replace R1 := R1.allocH (.cells #[.int .i64 sx.gen, .int .i64 sx.beat, .slice Ax nx cx] 27)
    replace Rx := Rx.allocH (.cells #[.int .i64 sx.gen, .int .i64 sx.beat, .slice Ax nx cx] 27)
    have X := Box.new w4 #[.int .i64 sx.gen, .int .i64 sx.beat, .slice Ax nx cx] 27
    replace b := b.alloc b.size (.cells #[.int .i64 sx.gen, .int .i64 sx.beat, .slice Ax nx cx] 27)
    go_wp2_with fail
    refine (rvget_any v0 a2 _ R0 (by have hq := HG0.out.1; omega) HG0.out.2).mono ?_
    rintro e w5 ⟨⟨sy, Ay, ny, cy⟩, rfl, hs, Ry, hb⟩
    simp only at hs
    have Hy : Hid (sy = (V.get v0.view a2).getD ⟨0, 0, []⟩) := Lib.hid hs
    clear hs
    replace R0 := R0.belowH hb
    replace R1 := R1.belowH hb
    replace Rx := Rx.belowH hb
    replace X := X.belowH hb
    replace b := b.trans (hb.mono b.size)
    clear hb
    simp only [sv]
    replace R0 := R0.allocH (.cells #[.int .i64 sy.gen, .int .i64 sy.beat, .slice Ay ny cy] 27)
    replace R1 := R1.allocH (.cells #[.int .i64 sy.gen, .int .i64 sy.beat, .slice Ay ny cy] 27)
    replace Rx := Rx.allocH (.cells #[.int .i64 sy.gen, .int .i64 sy.beat, .slice Ay ny cy] 27)
    replace Ry := Ry.allocH (.cells #[.int .i64 sy.gen, .int .i64 sy.beat, .slice Ay ny cy] 27)
    replace X := X.alloc (.cells #[.int .i64 sy.gen, .int .i64 sy.beat, .slice Ay ny cy] 27)
    have Y := Box.new w5 #[.int .i64 sy.gen, .int .i64 sy.beat, .slice Ay ny cy] 27
    replace b := b.alloc b.size (.cells #[.int .i64 sy.gen, .int .i64 sy.beat, .slice Ay ny cy] 27)
    have hsm : sameB sx sy = true := decide_eq_true (Hx.out.trans Hy.out.symm)
    have hnx : nx ≤ 4000 := by have hq := Rx.len; simp only at hq; have := vget_short R0 HG0.out.2 (V.get v0.view a2) rfl; rw [← Hx.out] at this; omega
    have hny : ny ≤ 4000 := by have hq := Ry.len; simp only at hq; have := vget_short R0 HG0.out.2 (V.get v0.view a2) rfl; rw [← Hy.out] at this; omega
    generalize V.get v0.view a2 = og at *
    have x0 := X.at 0 rfl
    have x1 := X.at 1 rfl
    have x2 := X.at 2 rfl
    have y0 := Y.at 0 rfl
    have y1 := Y.at 1 rfl
    have y2 := Y.at 2 rfl
    go_wp2_with fail
    refine (rssame_any ⟨sx, Ax, nx, cx⟩ ⟨sy, Ay, ny, cy⟩ _ Rx Ry (by show nx * 32 ≤ _; omega) (by show ny * 32 ≤ _; omega)).mono ?_
    rw [show sameB (Sv.mk sx Ax nx cx).s (Sv.mk sy Ay ny cy).s = true from hsm]
    rintro e w6 ⟨rfl, hb⟩
    replace R0 := R0.belowH hb
    replace R1 := R1.belowH hb
    replace Rx := Rx.belowH hb
    replace Ry := Ry.belowH hb
    replace X := X.belowH hb
    replace Y := Y.belowH hb
    replace b := b.trans (hb.mono b.size)
    clear hb
    clear x0 x1 x2
    clear y0 y1 y2
    have hbo : (og.isSome == og.isSome) = true := beq_self_eq_true _
    go_wp2_with fail
    refine (vright_any v0  _ R0 (by have hq := HG0.out.1; omega) HG0.out.2).mono ?_
    rintro e w7 ⟨rfl, hb⟩
    replace R0 := R0.belowH hb
    replace R1 := R1.belowH hb
    replace Rx := Rx.belowH hb
    replace Ry := Ry.belowH hb
    replace X := X.belowH hb
    replace Y := Y.belowH hb
    replace b := b.trans (hb.mono b.size)
    clear hb
    go_wp2_with fail
    refine (rvright_any v0  _ R0 (by have hq := HG0.out.1; omega) HG0.out.2).mono ?_
    rintro e w8 ⟨rfl, hb⟩
    replace R0 := R0.belowH hb
    replace R1 := R1.belowH hb
    replace Rx := Rx.belowH hb
    replace Ry := Ry.belowH hb
    replace X := X.belowH hb
    replace Y := Y.belowH hb
    replace b := b.trans (hb.mono b.size)
    clear hb
    have hbv : (vrightB v0.view == vrightB v0.view) = true := beq_self_eq_true _
    go_wp2_with fail
    refine (vnodes_any v0 _ R0 (by have hq := HG0.out.1; omega)).mono ?_
    rintro e w9 ⟨Ap, cp, rfl, hown, hb⟩
    have Rp := Rd.of_own hown
    clear hown
    replace R0 := R0.belowH hb
    replace R1 := R1.belowH hb
    replace Rx := Rx.belowH hb
    replace Ry := Ry.belowH hb
    replace X := X.belowH hb
    replace Y := Y.belowH hb
    replace b := b.trans (hb.mono b.size)
    clear hb
    go_wp2_with fail
    refine (rnodes_any v0 _ R0 (by have hq := HG0.out.1; omega)).mono ?_
    rintro e w10 ⟨Aq, cq, rfl, hown, hb⟩
    have Rq := Rd.of_own hown
    clear hown
    replace R0 := R0.belowH hb
    replace R1 := R1.belowH hb
    replace Rx := Rx.belowH hb
    replace Ry := Ry.belowH hb
    replace Rp := Rp.belowH hb
    replace X := X.belowH hb
    replace Y := Y.belowH hb
    replace b := b.trans (hb.mono b.size)
    clear hb
    have hb0 := HG0.out.1
    go_wp2_with fail
    refine (rints_any (v0.l.map Nv.node) (v0.l.map Nv.node) Ap Aq v0.n v0.n cp cq _ _ _ Rp Rq (by omega)).mono ?_
    rw [show decide (v0.l.map Nv.node = v0.l.map Nv.node) = true from decide_eq_true rfl]
    rintro e w11 ⟨rfl, q, hq⟩
    have hb := below_of_drew hq
    clear hq
    replace R0 := R0.belowH hb
    replace R1 := R1.belowH hb
    replace Rx := Rx.belowH hb
    replace Ry := Ry.belowH hb
    replace Rp := Rp.belowH hb
    replace Rq := Rq.belowH hb
    replace X := X.belowH hb
    replace Y := Y.belowH hb
    replace b := b.trans (hb.mono b.size)
    clear hb
    clear Rp Rq
    go_wp2_with fail
    refine (vsame_any v0 v1 _ R0 R1 (by have hq := HG0.out.1; omega) (by have hq := HG1.out.1; omega) HG0.out.2 HG1.out.2).mono ?_
    rintro e w12 ⟨rfl, hb⟩
    replace R0 := R0.belowH hb
    replace R1 := R1.belowH hb
    replace Rx := Rx.belowH hb
    replace Ry := Ry.belowH hb
    replace X := X.belowH hb
    replace Y := Y.belowH hb
    replace b := b.trans (hb.mono b.size)
    clear hb
    go_wp2_with fail
    refine (rvsame_any v0 v1 _ R0 R1 (by have hq := HG0.out.1; omega) (by have hq := HG1.out.1; omega) HG0.out.2 HG1.out.2).mono ?_
    rintro e w13 ⟨rfl, hb⟩
    replace R0 := R0.belowH hb
    replace R1 := R1.belowH hb
    replace Rx := Rx.belowH hb
    replace Ry := Ry.belowH hb
    replace X := X.belowH hb
    replace Y := Y.belowH hb
    replace b := b.trans (hb.mono b.size)
    clear hb
    have hbs : (decide (v0.view = v1.view) == decide (v0.view = v1.view)) = true := beq_self_eq_true _
    go_wp2_with fail
    refine (vcopy_any v0  _ R0 (by have hq := HG0.out.1; omega) HG0.out.2).mono ?_
    rintro e w14 ⟨Uc, rfl, hv, hown, hb⟩
    have Hc : Hid (Uc.view = v0.view) := Lib.hid hv
    have Rc := hown.vrd
    clear hv hown
    replace R0 := R0.belowH hb
    replace R1 := R1.belowH hb
    replace Rx := Rx.belowH hb
    replace Ry := Ry.belowH hb
    replace X := X.belowH hb
    replace Y := Y.belowH hb
    replace b := b.trans (hb.mono b.size)
    clear hb
    simp only [vval]
    go_wp2_with fail
    refine (rvsame_any Uc v0 _ Rc R0 (by have hq := Rc.viewlen; have hq2 := R0.viewlen; have := HG0.out.1; rw [Hc.out] at hq; omega) (by have hq := HG0.out.1; omega) (vfit_of_view R0 Rc HG0.out.2 (fun x hx => by rw [← Hc.out]; exact hx)) HG0.out.2).mono ?_
    rw [decide_eq_true Hc.out]
    rintro e w15 ⟨rfl, hb⟩
    replace R0 := R0.belowH hb
    replace R1 := R1.belowH hb
    replace Rx := Rx.belowH hb
    replace Ry := Ry.belowH hb
    replace Rc := Rc.belowH hb
    replace X := X.belowH hb
    replace Y := Y.belowH hb
    replace b := b.trans (hb.mono b.size)
    clear hb
    go_wp2_with fail
    refine (vwithout_any v0 a2 _ R0 (by have hq := HG0.out.1; omega) HG0.out.2).mono ?_
    rintro e w16 ⟨Uo, rfl, hv, hown, hb⟩
    have Ho : Hid (Uo.view = V.without v0.view a2) := Lib.hid hv
    have Ro := hown.vrd
    clear hv hown
    replace R0 := R0.belowH hb
    replace R1 := R1.belowH hb
    replace Rx := Rx.belowH hb
    replace Ry := Ry.belowH hb
    replace Rc := Rc.belowH hb
    replace X := X.belowH hb
    replace Y := Y.belowH hb
    replace b := b.trans (hb.mono b.size)
    clear hb
    simp only [vval]
    go_wp2_with fail
    refine (rvwithout_any v0 a2 _ R0 (by have hq := HG0.out.1; omega) HG0.out.2).mono ?_
    rintro e w17 ⟨Ur, rfl, hv, hown, hb⟩
    have Hr : Hid (Ur.view = V.without v0.view a2) := Lib.hid hv
    have Rr := hown.vrd
    clear hv hown
    replace R0 := R0.belowH hb
    replace R1 := R1.belowH hb
    replace Rx := Rx.belowH hb
    replace Ry := Ry.belowH hb
    replace Rc := Rc.belowH hb
    replace Ro := Ro.belowH hb
    replace X := X.belowH hb
    replace Y := Y.belowH hb
    replace b := b.trans (hb.mono b.size)
    clear hb
    simp only [vval]
    go_wp2_with fail
    refine (rvsame_any Uo Ur _ Ro Rr (by have hq := Ro.viewlen; have hq2 := R0.viewlen; have := HG0.out.1; rw [Ho.out] at hq; have h9 : (V.without v0.view a2).length ≤ v0.view.length := List.length_filter_le _ _; omega) (by have hq := Rr.viewlen; have hq2 := R0.viewlen; have := HG0.out.1; rw [Hr.out] at hq; have h9 : (V.without v0.view a2).length ≤ v0.view.length := List.length_filter_le _ _; omega) (vfit_of_view R0 Ro HG0.out.2 (fun x hx => by rw [Ho.out] at hx; exact (List.mem_filter.1 hx).1)) (vfit_of_view R0 Rr HG0.out.2 (fun x hx => by rw [Hr.out] at hx; exact (List.mem_filter.1 hx).1))).mono ?_
    rw [decide_eq_true (Ho.out.trans Hr.out.symm)]
    rintro e w18 ⟨rfl, hb⟩
    replace R0 := R0.belowH hb
    replace R1 := R1.belowH hb
    replace Rx := Rx.belowH hb
    replace Ry := Ry.belowH hb
    replace Rc := Rc.belowH hb
    replace Ro := Ro.belowH hb
    replace Rr := Rr.belowH hb
    replace X := X.belowH hb
    replace Y := Y.belowH hb
    replace b := b.trans (hb.mono b.size)
    clear hb
    go_wp2
    go_ret
    exact ⟨rfl, b⟩
  · go_wp2
    go_ret
    exact ⟨rfl, b⟩
end Go.Proofs.Ytpfkgddcoancnaa
