/- ViewWithout walks. -/
import Derived.Test.YtpfkgddcoancnaaVAlive
namespace Go.Proofs.Ytpfkgddcoancnaa
set_option linter.unusedVariables false
set_option linter.unusedSimpArgs false
open Go.RowKit

set_option maxHeartbeats 8000000 in
set_option maxRecDepth 100000 in
theorem law_ViewWithout (v0 : Vw) (a1 : Int) (W : World) (t0 : VIn W v0) (t1 : (Lit.int .u8 a1).wf = true) :
    Calls Try.prog 6 #[vval v0, .int .u8 a1] W fun e w' => e = .returned (.bool true) ∧ Below W.heap.size W w' := by
  have hk0 : 0 ≤ a1 ∧ a1 ≤ 255 := by
    have e1 : IntKind.u8.min = 0 := by decide
    have e2 : IntKind.u8.max = 255 := by decide
    simp [Lit.wf, e1, e2] at t1
    omega
  obtain ⟨hk0, hk1⟩ := hk0
  clear t1
  have R0 := t0.1
  have HK0 : Hid (v0.n * 48 ≤ 140737488351232 ∧ ∀ x ∈ v0.l, x.v.n * 32 ≤ 140737488351232 ∧ ∀ y ∈ x.v.s.apps, y.val.length ≤ 140737488351232) := Lib.hid ⟨t0.2.2.1, fun x hx => (t0.2.2.2 x hx).1⟩
  clear t0
  simp only [vval]
  have b := Below.refl W.heap.size W
  go_enter Try.func6, Try.ntmps6
  go_wp2_with fail
  refine (alive_any _).mono ?_
  rintro e w2 ⟨rfl, hb⟩
  replace R0 := R0.belowH hb
  replace b := b.trans (hb.mono b.size)
  clear hb
  have LR := Rd.lit w2 #[.slice v0.A v0.n v0.c] 22 1 1 rfl
  replace R0 := R0.allocH (.cells #[.slice v0.A v0.n v0.c] 22)
  have LB := Box.new w2 #[.slice v0.A v0.n v0.c] 22
  replace b := b.alloc b.size (.cells #[.slice v0.A v0.n v0.c] 22)
  clear LB
  go_wp2_with fail
  refine (greatvs_any [v0] _ 1 1 _ _ LR (by simp) (by omega) (fun v hv => by simp at hv; rcases hv with rfl <;> first | exact ⟨R0, HK0.out⟩)).mono ?_
  rintro e w3 ⟨rfl, hb⟩
  replace R0 := R0.belowH hb
  replace b := b.trans (hb.mono b.size)
  clear hb
  clear LR
  rcases hgr : greatvs [v0]
  · skip
    simp only [greatvs, List.any_cons, List.any_nil, Bool.or_false, Bool.or_eq_false_iff] at hgr
    have HG0 := Lib.hid (vgreat_small R0 hgr)
    clear hgr
    go_wp2_with fail
    refine (rvright_any v0  _ R0 (by have hq := HG0.out.1; omega) HG0.out.2).mono ?_
    rintro e w4 ⟨rfl, hb⟩
    replace R0 := R0.belowH hb
    replace b := b.trans (hb.mono b.size)
    clear hb
    rcases hr0 : vrightB v0.view
    · go_wp2
      go_ret
      exact ⟨rfl, b⟩
    · skip
      have HR0 := Lib.hid (vrightB_out hr0)
      clear hr0
      go_wp2_with fail
      refine (vget_any v0 (a1 % 8) _ R0 (by have hq := right_n R0 HR0.out; omega) (right_fitR R0 HR0.out)).mono ?_
      rintro e w5 ⟨⟨ss, As, ns, cs⟩, rfl, hs, Rs, hb⟩
      simp only at hs
      have Hs : Hid (ss = (V.get v0.view (a1 % 8)).getD ⟨0, 0, []⟩) := Lib.hid hs
      clear hs
      replace R0 := R0.belowH hb
      replace b := b.trans (hb.mono b.size)
      clear hb
      simp only [sv]
      replace R0 := R0.allocH (.cells #[.int .i64 ss.gen, .int .i64 ss.beat, .slice As ns cs] 27)
      replace Rs := Rs.allocH (.cells #[.int .i64 ss.gen, .int .i64 ss.beat, .slice As ns cs] 27)
      have S := Box.new w5 #[.int .i64 ss.gen, .int .i64 ss.beat, .slice As ns cs] 27
      replace b := b.alloc b.size (.cells #[.int .i64 ss.gen, .int .i64 ss.beat, .slice As ns cs] 27)
      go_wp2_with fail
      refine (vwithout_any v0 (a1 % 8) _ R0 (by have hq := right_n R0 HR0.out; omega) (right_fitR R0 HR0.out)).mono ?_
      rintro e w6 ⟨Ux, rfl, hv, hown, hb⟩
      have Hx : Hid (Ux.view = V.without v0.view (a1 % 8)) := Lib.hid hv
      have Rx := hown.vrd
      clear hv hown
      replace R0 := R0.belowH hb
      replace Rs := Rs.belowH hb
      replace S := S.belowH hb
      replace b := b.trans (hb.mono b.size)
      clear hb
      have HRx : Hid (V.right Ux.view) := Lib.hid (by rw [Hx.out]; exact V.without_right HR0.out _)
      simp only [vval]
      go_wp2_with fail
      refine (vget_any Ux (a1 % 8) _ Rx (by have hq := right_n Rx HRx.out; omega) (right_fitR Rx HRx.out)).mono ?_
      rintro e w7 ⟨⟨sq, Aq, nq, cq⟩, rfl, hs, Rq, hb⟩
      simp only at hs
      have Hq : Hid (sq = (V.get Ux.view (a1 % 8)).getD ⟨0, 0, []⟩) := Lib.hid hs
      clear hs
      replace R0 := R0.belowH hb
      replace Rs := Rs.belowH hb
      replace Rx := Rx.belowH hb
      replace S := S.belowH hb
      replace b := b.trans (hb.mono b.size)
      clear hb
      have hg : V.get Ux.view (a1 % 8) = none := by rw [Hx.out, V.get_without, if_pos rfl]
      rw [hg] at Hq ⊢
      clear hg
      simp only [Option.isSome_none]
      simp only [sv]
      replace R0 := R0.allocH (.cells #[.int .i64 sq.gen, .int .i64 sq.beat, .slice Aq nq cq] 27)
      replace Rs := Rs.allocH (.cells #[.int .i64 sq.gen, .int .i64 sq.beat, .slice Aq nq cq] 27)
      replace Rx := Rx.allocH (.cells #[.int .i64 sq.gen, .int .i64 sq.beat, .slice Aq nq cq] 27)
      replace Rq := Rq.allocH (.cells #[.int .i64 sq.gen, .int .i64 sq.beat, .slice Aq nq cq] 27)
      replace S := S.alloc (.cells #[.int .i64 sq.gen, .int .i64 sq.beat, .slice Aq nq cq] 27)
      have Q := Box.new w7 #[.int .i64 sq.gen, .int .i64 sq.beat, .slice Aq nq cq] 27
      replace b := b.alloc b.size (.cells #[.int .i64 sq.gen, .int .i64 sq.beat, .slice Aq nq cq] 27)
      go_wp2_with fail
      refine (vover_any v0 Ux _ R0 Rx HR0.out HRx.out).mono ?_
      rw [decide_eq_true (show V.join v0.view Ux.view = v0.view by rw [Hx.out]; exact V.over_without (V.right_good HR0.out) _)]
      rintro e w8 ⟨rfl, hb⟩
      replace R0 := R0.belowH hb
      replace Rs := Rs.belowH hb
      replace Rx := Rx.belowH hb
      replace Rq := Rq.belowH hb
      replace S := S.belowH hb
      replace Q := Q.belowH hb
      replace b := b.trans (hb.mono b.size)
      clear hb
      go_wp2_with fail
      refine (vright_any Ux  _ Rx (by have hq := right_n Rx HRx.out; omega) (right_fitR Rx HRx.out)).mono ?_
      rw [vrightB_yes HRx.out]
      rintro e w9 ⟨rfl, hb⟩
      replace R0 := R0.belowH hb
      replace Rs := Rs.belowH hb
      replace Rx := Rx.belowH hb
      replace Rq := Rq.belowH hb
      replace S := S.belowH hb
      replace Q := Q.belowH hb
      replace b := b.trans (hb.mono b.size)
      clear hb
      rcases hg : V.get v0.view (a1 % 8) with _ | ys
      · have HG := Lib.hid hg
        clear hg
        simp only [Option.isSome]
        go_wp2_with fail
        refine (rvsame_any Ux v0 _ Rx R0 (by have hq := right_n Rx HRx.out; omega) (by have hq := right_n R0 HR0.out; omega) (right_fitR Rx HRx.out) (right_fitR R0 HR0.out)).mono ?_
        rw [decide_eq_true (Hx.out.trans (V.without_none HG.out))]
        rintro e w10 ⟨rfl, hb⟩
        replace R0 := R0.belowH hb
        replace Rs := Rs.belowH hb
        replace Rx := Rx.belowH hb
        replace Rq := Rq.belowH hb
        replace S := S.belowH hb
        replace Q := Q.belowH hb
        replace b := b.trans (hb.mono b.size)
        clear hb
        go_wp2
        go_ret
        exact ⟨rfl, b⟩
      · have hss : ss = ys := by rw [Hs.out, hg]; rfl
        subst hss
        have HG := Lib.hid hg
        clear hg Hs
        simp only [Option.isSome]
        have HM : Hid (V.may ⟨a1 % 8, ss⟩) := Lib.hid (HR0.out.1 _ (V.get_mem HG.out))
        have hns : ns ≤ 12 := by have hq : ss.apps.length = ns := Rs.len; have := right_len HM.out.2.2.2.2.2.2; simp only at this; omega
        have HLEN : Hid (v0.n = Ux.n + 1) := Lib.hid (by have hq := Rx.viewlen; have hq2 := R0.viewlen; have hq3 := V.without_length HR0.out.2 HG.out; rw [Hx.out] at hq; omega)
        have s0 := S.at 0 rfl
        have s1 := S.at 1 rfl
        have s2 := S.at 2 rfl
        go_wp2_with fail
        refine (vput_any Ux (a1 % 8) ⟨ss, As, ns, cs⟩ _ Rx (by have hq := right_n Rx HRx.out; omega) (right_fitR Rx HRx.out) Rs (by show ns ≤ _; omega) HRx.out.2).mono ?_
        rintro e w10 ⟨Up, rfl, hv, hown, hb⟩
        have Hp : Hid (Up.view = V.put Ux.view (a1 % 8) ss) := Lib.hid hv
        have Rp := hown.vrd
        clear hv hown
        replace R0 := R0.belowH hb
        replace Rs := Rs.belowH hb
        replace Rx := Rx.belowH hb
        replace Rq := Rq.belowH hb
        replace S := S.belowH hb
        replace Q := Q.belowH hb
        replace b := b.trans (hb.mono b.size)
        clear hb
        have HRp : Hid (V.right Up.view) := Lib.hid (by rw [Hp.out]; exact V.put_right HRx.out HM.out)
        simp only [vval]
        clear s0 s1 s2
        go_wp2_with fail
        refine (rvsame_any Up v0 _ Rp R0 (by have hq := right_n Rp HRp.out; omega) (by have hq := right_n R0 HR0.out; omega) (right_fitR Rp HRp.out) (right_fitR R0 HR0.out)).mono ?_
        rw [decide_eq_true (show Up.view = v0.view by rw [Hp.out, Hx.out]; exact V.put_without HR0.out.2 HG.out)]
        rintro e w11 ⟨rfl, hb⟩
        replace R0 := R0.belowH hb
        replace Rs := Rs.belowH hb
        replace Rx := Rx.belowH hb
        replace Rq := Rq.belowH hb
        replace Rp := Rp.belowH hb
        replace S := S.belowH hb
        replace Q := Q.belowH hb
        replace b := b.trans (hb.mono b.size)
        clear hb
        have hw : IntKind.i64.wrap ((v0.n : Int) - 1) = (v0.n : Int) - 1 := IntWalk.i64_in _ (by have := right_n R0 HR0.out; omega)
        have hlb : ((Ux.n : Int) == (v0.n : Int) - 1) = true := beq_iff_eq.2 (by have := HLEN.out; omega)
        have s0 := S.at 0 rfl
        have s1 := S.at 1 rfl
        have s2 := S.at 2 rfl
        have LR := Rd.lit w11 #[.int .i64 (a1 % 8), .int .i64 ss.gen, .int .i64 ss.beat, .slice As ns cs] 45 4 1 rfl
        replace R0 := R0.allocH (.cells #[.int .i64 (a1 % 8), .int .i64 ss.gen, .int .i64 ss.beat, .slice As ns cs] 45)
        replace Rs := Rs.allocH (.cells #[.int .i64 (a1 % 8), .int .i64 ss.gen, .int .i64 ss.beat, .slice As ns cs] 45)
        replace Rx := Rx.allocH (.cells #[.int .i64 (a1 % 8), .int .i64 ss.gen, .int .i64 ss.beat, .slice As ns cs] 45)
        replace Rq := Rq.allocH (.cells #[.int .i64 (a1 % 8), .int .i64 ss.gen, .int .i64 ss.beat, .slice As ns cs] 45)
        replace Rp := Rp.allocH (.cells #[.int .i64 (a1 % 8), .int .i64 ss.gen, .int .i64 ss.beat, .slice As ns cs] 45)
        replace S := S.alloc (.cells #[.int .i64 (a1 % 8), .int .i64 ss.gen, .int .i64 ss.beat, .slice As ns cs] 45)
        replace Q := Q.alloc (.cells #[.int .i64 (a1 % 8), .int .i64 ss.gen, .int .i64 ss.beat, .slice As ns cs] 45)
        have LB := Box.new w11 #[.int .i64 (a1 % 8), .int .i64 ss.gen, .int .i64 ss.beat, .slice As ns cs] 45
        replace b := b.alloc b.size (.cells #[.int .i64 (a1 % 8), .int .i64 ss.gen, .int .i64 ss.beat, .slice As ns cs] 45)
        clear LB
        have Rl : VRd (w11.alloc (.cells #[.int .i64 (a1 % 8), .int .i64 ss.gen, .int .i64 ss.beat, .slice As ns cs] 45)) ⟨[⟨a1 % 8, ⟨ss, As, ns, cs⟩⟩], some ⟨w11.heap.size, 0, none⟩, 1, 1⟩ := ⟨LR.more (by simp), fun x hx => (by rw [List.mem_singleton.1 hx]; exact Rs)⟩
        clear LR
        have HRl : Hid (V.right (Vw.view ⟨[⟨a1 % 8, ⟨ss, As, ns, cs⟩⟩], some ⟨w11.heap.size, 0, none⟩, 1, 1⟩)) := Lib.hid ⟨fun x hx => (by rw [List.mem_singleton.1 (show x ∈ [(⟨a1 % 8, ss⟩ : Nm)] from hx)]; exact HM.out), by simp [Vw.view, V.rising]⟩
        go_wp2_with fail
        refine (vjoin_any Ux ⟨[⟨a1 % 8, ⟨ss, As, ns, cs⟩⟩], some ⟨w11.heap.size, 0, none⟩, 1, 1⟩ _ Rx Rl HRx.out HRl.out).mono ?_
        rintro e w12 ⟨Uj, rfl, hv, hown, hb⟩
        have Hj : Hid (Uj.view = V.join Ux.view [⟨a1 % 8, ss⟩]) := Lib.hid hv
        have Rj := hown.vrd
        clear hv hown
        replace R0 := R0.belowH hb
        replace Rs := Rs.belowH hb
        replace Rx := Rx.belowH hb
        replace Rq := Rq.belowH hb
        replace Rp := Rp.belowH hb
        replace Rl := Rl.belowH hb
        replace S := S.belowH hb
        replace Q := Q.belowH hb
        replace b := b.trans (hb.mono b.size)
        clear hb
        have HRj : Hid (V.right Uj.view) := Lib.hid (by rw [Hj.out]; exact V.join_right HRx.out HRl.out)
        simp only [vval]
        clear s0 s1 s2
        go_wp2_with fail
        refine (rvsame_any Uj v0 _ Rj R0 (by have hq := right_n Rj HRj.out; omega) (by have hq := right_n R0 HR0.out; omega) (right_fitR Rj HRj.out) (right_fitR R0 HR0.out)).mono ?_
        rw [decide_eq_true (show Uj.view = v0.view by rw [Hj.out, Hx.out]; exact V.join_without HR0.out.2 HG.out)]
        rintro e w13 ⟨rfl, hb⟩
        replace R0 := R0.belowH hb
        replace Rs := Rs.belowH hb
        replace Rx := Rx.belowH hb
        replace Rq := Rq.belowH hb
        replace Rp := Rp.belowH hb
        replace Rl := Rl.belowH hb
        replace Rj := Rj.belowH hb
        replace S := S.belowH hb
        replace Q := Q.belowH hb
        replace b := b.trans (hb.mono b.size)
        clear hb
        go_wp2
        go_ret
        exact ⟨rfl, b⟩
  · go_wp2
    go_ret
    exact ⟨rfl, b⟩
end Go.Proofs.Ytpfkgddcoancnaa
