/- LAlive (merged). -/
import Derived.Test.YtkabkpeamggnnaaJVRef
import Derived.Test.YtkabkpeamggnnaaJVRef6
import Derived.Test.YtkabkpeamggnnaaJLRef
import Derived.Test.YtkabkpeamggnnaaJLRt
import Derived.Test.YtkabkpeamggnnaaJLC
namespace Go.Proofs.Ytkabkpeamggnnaa
set_option linter.unusedVariables false
set_option linter.unusedSimpArgs false
open Go.RowKit

def la_s : St := ⟨2, 7, [⟨0, 4, []⟩, ⟨1, 6, []⟩]⟩
def la_v : List Nm := [⟨3, la_s⟩]
def la_l : List Dl := [⟨3, 5, ⟨2, 7, [⟨1, 6, []⟩]⟩⟩]
theorem la_r0 : V.right (Vw.view ⟨[], none, 0, 0⟩) := ⟨fun x hx => (by cases hx), trivial⟩
theorem la_ent {k v : Int} (h1 : 0 ≤ k) (h2 : k < 12) (h3 : 1 ≤ v) (h4 : v ≤ 1099511627776) : E.may ⟨k, v, []⟩ := ⟨h1, h2, h3, h4, by simp⟩
theorem la_rv : V.right la_v := by
  refine ⟨fun x hx => ?_, by simp [la_v, V.rising]⟩
  obtain rfl : x = ⟨3, la_s⟩ := by simpa [la_v] using hx
  refine ⟨by decide, by decide, by decide, by decide, by decide, by decide, fun y hy => ?_, by simp [la_s, E.rising]⟩
  have h : y = ⟨0, 4, []⟩ ∨ y = ⟨1, 6, []⟩ := by simpa [la_s] using hy
  rcases h with rfl | rfl <;> exact la_ent (by decide) (by decide) (by decide) (by decide)
theorem la_rd : D.right [⟨3, 2, 5⟩] := by
  refine ⟨fun x hx => ?_, by simp [D.rising]⟩
  obtain rfl : x = ⟨3, 2, 5⟩ := by simpa using hx
  exact ⟨by decide, by decide, by decide, by decide, by decide, by decide⟩
theorem la_pick : L.pick la_v [⟨3, 2, 5⟩] = la_l := by decide +kernel
theorem la_rl : L.right la_l := by rw [← la_pick]; exact L.pick_right la_rv la_rd
theorem riseL_bound : ∀ {l : List Dl} {a b : Int}, L.rising l → (∀ x ∈ l, a ≤ x.node ∧ x.node < b) → a ≤ b → (l.length : Int) ≤ b - a := by
  intro l
  induction l with
  | nil => intro a b _ _ h; simp; omega
  | cons x r ih =>
    intro a b hr hb hab
    have h1 := hb x (List.mem_cons_self ..)
    have h2 := ih (a := x.node + 1) (b := b) hr.2 (fun y hy => ⟨by have := hr.1 y hy; omega, (hb y (List.mem_cons_of_mem _ hy)).2⟩) (by omega)
    rw [List.length_cons]; push_cast; omega
theorem right_nL {w : World} {U : Lw} (h : LRd w U) (hr : L.right U.dls) : U.n ≤ 8 := by
  have h1 := riseL_bound (a := 0) (b := 8) hr.2 (fun x hx => ⟨(hr.1 x hx).1, (hr.1 x hx).2.1⟩) (by omega)
  rw [h.dlslen] at h1
  omega
theorem right_fitL {w : World} {U : Lw} (h : LRd w U) (hr : L.right U.dls) : LFit U := fun x hx => by
  have h1 := (hr.1 x.dl (List.mem_map.2 ⟨x, hx, rfl⟩)).2.2.2.2.1.2.2.2.2
  have h2 := right_len h1
  have h3 : x.v.s.apps.length = x.v.n := (h.2 x hx).len
  have h4 : x.v.s.apps.length ≤ 12 := h2
  omega
theorem lgreat_small {w : World} {U : Lw} (h : LRd w U) (hg : lgreatB U.l = false) : U.n ≤ 40 ∧ LFit U := by
  unfold lgreatB at hg
  rw [Bool.or_eq_false_iff] at hg
  have h1 : U.l.length ≤ 40 := by have := of_decide_eq_false hg.2; omega
  refine ⟨by have := h.len; omega, fun x hx => ?_⟩
  have h2 := hg.1
  rw [List.take_of_length_le (by omega)] at h2
  exact great_small (by simpa using List.any_eq_false.1 h2 x hx) (h.2 x hx).len
theorem vgreat_small {w : World} {U : Vw} (h : VRd w U) (hg : vgreatB U.l = false) : U.n ≤ 40 ∧ VFit U := by
  unfold vgreatB at hg
  rw [Bool.or_eq_false_iff] at hg
  have h1 : U.l.length ≤ 40 := by have := of_decide_eq_false hg.2; omega
  refine ⟨by have := h.len; omega, fun x hx => ?_⟩
  have h2 := hg.1
  rw [List.take_of_length_le (by omega)] at h2
  exact great_small (by simpa using List.any_eq_false.1 h2 x hx) (h.2 x hx).len

set_option maxHeartbeats 4000000 in
set_option maxRecDepth 20000 in
theorem alive_any (w : World) : Calls Try.prog 7 #[] w fun e w' => e = .returned (.bool true) ∧ Below w.heap.size w w' := by
  have b := Below.refl w.heap.size w
  have Rz : VRd w ⟨[], none, 0, 0⟩ := ⟨Rd.zero _ _ _ _, by simp⟩
  go_enter Try.func7, Try.ntmps7
  have LE := Rd.lit w #[.int .i64 0, .int .i64 4, .string ⟨#[]⟩, .int .i64 1, .int .i64 6, .string ⟨#[]⟩] 58 3 2 rfl
  replace Rz := Rz.allocH (.cells #[.int .i64 0, .int .i64 4, .string ⟨#[]⟩, .int .i64 1, .int .i64 6, .string ⟨#[]⟩] 58)
  have EB := Box.new w #[.int .i64 0, .int .i64 4, .string ⟨#[]⟩, .int .i64 1, .int .i64 6, .string ⟨#[]⟩] 58
  replace b := b.alloc b.size (.cells #[.int .i64 0, .int .i64 4, .string ⟨#[]⟩, .int .i64 1, .int .i64 6, .string ⟨#[]⟩] 58)
  clear EB
  have Rs : SRd (w.alloc (.cells #[.int .i64 0, .int .i64 4, .string ⟨#[]⟩, .int .i64 1, .int .i64 6, .string ⟨#[]⟩] 58)) ⟨la_s, some ⟨w.heap.size, 0, none⟩, 2, 2⟩ := LE.more (by simp)
  clear LE
  go_wp2_with fail
  refine (rvput_any ⟨[], none, 0, 0⟩ 3 ⟨la_s, some ⟨w.heap.size, 0, none⟩, 2, 2⟩ _ Rz (by show (0 : Nat) ≤ _; omega) (fun x hx => by cases hx) Rs (by show (2 : Nat) ≤ _; omega) trivial).mono ?_
  rintro e w2 ⟨Uv, rfl, hv, hown, hb⟩
  have Hv : Hid (Uv.view = la_v) := Lib.hid (hv.trans rfl)
  have Rv := hown.vrd
  clear hv hown
  replace Rz := Rz.belowH hb
  replace Rs := Rs.belowH hb
  replace b := b.trans (hb.mono b.size)
  clear hb
  have HRv : Hid (V.right Uv.view) := Lib.hid (by rw [Hv.out]; exact la_rv)
  simp only [vval]
  have LR := Rd.lit w2 #[.int .i64 3, .int .i64 2, .int .i64 5] 60 3 1 rfl
  replace Rz := Rz.allocH (.cells #[.int .i64 3, .int .i64 2, .int .i64 5] 60)
  replace Rs := Rs.allocH (.cells #[.int .i64 3, .int .i64 2, .int .i64 5] 60)
  replace Rv := Rv.allocH (.cells #[.int .i64 3, .int .i64 2, .int .i64 5] 60)
  have LB := Box.new w2 #[.int .i64 3, .int .i64 2, .int .i64 5] 60
  replace b := b.alloc b.size (.cells #[.int .i64 3, .int .i64 2, .int .i64 5] 60)
  clear LB
  have Ra : DRd (w2.alloc (.cells #[.int .i64 3, .int .i64 2, .int .i64 5] 60)) (some ⟨w2.heap.size, 0, none⟩) 1 [⟨3, 2, 5⟩] := LR.more (by simp)
  clear LR
  go_wp2_with fail
  refine (lcpick_any Uv [⟨3, 2, 5⟩] (some ⟨w2.heap.size, 0, none⟩) 1 1 _ Rv Ra (by have hq := right_n Rv HRv.out; omega) (by omega) (right_fitR Rv HRv.out)).mono ?_
  rintro e w3 ⟨Ul, rfl, hv, hown, hb⟩
  have Hl : Hid (Ul.dls = la_l) := Lib.hid (hv.trans (by rw [Hv.out]; exact la_pick))
  have Rl := hown.lrd
  clear hv hown
  replace Rz := Rz.belowH hb
  replace Rs := Rs.belowH hb
  replace Rv := Rv.belowH hb
  replace Ra := Ra.belowH hb
  replace b := b.trans (hb.mono b.size)
  clear hb
  have HRl : Hid (L.right Ul.dls) := Lib.hid (by rw [Hl.out]; exact la_rl)
  simp only [lval]
  go_wp2_with fail
  refine (lcapply_any ⟨[], none, 0, 0⟩ Ul _ Rz Rl la_r0 HRl.out (by have hq := right_nL Rl HRl.out; omega)).mono ?_
  rintro e w4 ⟨Uw, Am, nm, cm, rfl, hv, Rw, Rm, hb⟩
  have Hw : Hid (Uw.view = (L.apply (Vw.view ⟨[], none, 0, 0⟩) Ul.dls).1) := Lib.hid hv
  clear hv
  replace Rz := Rz.belowH hb
  replace Rs := Rs.belowH hb
  replace Rv := Rv.belowH hb
  replace Ra := Ra.belowH hb
  replace Rl := Rl.belowH hb
  replace b := b.trans (hb.mono b.size)
  clear hb
  simp only [vval]
  go_wp2_with fail
  refine (lcfull_any Uv  _ Rv (by have hq := right_n Rv HRv.out; omega) (right_fitR Rv HRv.out)).mono ?_
  rintro e w5 ⟨Uf, rfl, hv, hown, hb⟩
  have Hf : Hid (Uf.dls = L.full Uv.view) := Lib.hid hv
  have Rf := hown.lrd
  clear hv hown
  replace Rz := Rz.belowH hb
  replace Rs := Rs.belowH hb
  replace Rv := Rv.belowH hb
  replace Ra := Ra.belowH hb
  replace Rl := Rl.belowH hb
  replace Rw := Rw.belowH hb
  replace Rm := Rm.belowH hb
  replace b := b.trans (hb.mono b.size)
  clear hb
  have HRf : Hid (L.right Uf.dls) := Lib.hid (by rw [Hf.out]; exact L.full_right HRv.out)
  simp only [lval]
  go_wp2_with fail
  refine (lcapply_any ⟨[], none, 0, 0⟩ Uf _ Rz Rf la_r0 HRf.out (by have hq := right_nL Rf HRf.out; omega)).mono ?_
  rintro e w6 ⟨Ux, Ay, ny, cy, rfl, hv, Rx, Ry, hb⟩
  have Hx : Hid (Ux.view = (L.apply (Vw.view ⟨[], none, 0, 0⟩) Uf.dls).1) := Lib.hid hv
  clear hv
  replace Rz := Rz.belowH hb
  replace Rs := Rs.belowH hb
  replace Rv := Rv.belowH hb
  replace Ra := Ra.belowH hb
  replace Rl := Rl.belowH hb
  replace Rw := Rw.belowH hb
  replace Rm := Rm.belowH hb
  replace Rf := Rf.belowH hb
  replace b := b.trans (hb.mono b.size)
  clear hb
  have HRx : Hid (V.right Ux.view) := Lib.hid (by rw [Hx.out]; exact L.apply_right la_r0 HRf.out)
  simp only [vval]
  obtain ⟨ll, Al, nl, cl⟩ := Ul
  have hnl : nl = 1 := by have hq := Rl.dlslen; rw [Hl.out] at hq; exact hq.symm
  subst hnl
  obtain ⟨bl, ol, xl, hAl, hbl, hxl, _, _, _, _, _, p4⟩ := Rl.at (show 0 < 1 by omega)
  simp only at hAl hxl
  subst hAl
  have hnx : xl.v.n = 1 := by
    have hq := dl_at hxl
    rw [show ll.map Lv.dl = la_l from Hl.out] at hq
    have hq2 : xl.dl = ⟨3, 5, ⟨2, 7, [⟨1, 6, []⟩]⟩⟩ := by simpa [la_l] using hq.symm
    have hq3 := (Rl.2 xl (List.mem_of_getElem? hxl)).len
    rw [← hq3, show xl.v.s.apps = xl.dl.st.apps from rfl, hq2]; rfl
  simp only [Nat.zero_mul, Nat.add_zero, Nat.zero_add, hnx] at p4
  have hnw : Uw.n = 0 := by have hq := Rw.viewlen; rw [Hw.out, show Lw.dls ⟨ll, some ⟨bl, ol, none⟩, 1, cl⟩ = la_l from Hl.out] at hq; exact hq.symm
  have hnm : nm = 0 := by have hq := Rm.len1; rw [show Lw.dls ⟨ll, some ⟨bl, ol, none⟩, 1, cl⟩ = la_l from Hl.out] at hq; exact hq.symm
  have hm : (L.apply (Vw.view ⟨[], none, 0, 0⟩) Uf.dls).2 = [3] := by rw [Hf.out, Hv.out]; decide +kernel
  rw [hm] at Ry
  have hy : ny ≤ 1 := by rw [← Ry.len1]; exact Nat.le_refl _
  have hx : Ux.view = Uv.view := by rw [Hx.out, Hf.out, Hv.out]; decide +kernel
  have HXV := Lib.hid hx
  clear hxl hnx hm hx
  simp only [hnw, hnm]
  clear hnw hnm
  go_wp2_with fail
  refine (rvsame_any Ux Uv _ Rx Rv (by have hq := right_n Rx HRx.out; omega) (by have hq := right_n Rv HRv.out; omega) (right_fitR Rx HRx.out) (right_fitR Rv HRv.out)).mono ?_
  rw [decide_eq_true HXV.out]
  rintro e w7 ⟨rfl, hb⟩
  replace Rz := Rz.belowH hb
  replace Rs := Rs.belowH hb
  replace Rv := Rv.belowH hb
  replace Ra := Ra.belowH hb
  replace Rl := Rl.belowH hb
  replace Rw := Rw.belowH hb
  replace Rm := Rm.belowH hb
  replace Rf := Rf.belowH hb
  replace Rx := Rx.belowH hb
  replace Ry := Ry.belowH hb
  replace b := b.trans (hb.mono b.size)
  clear hb
  have LI := Rd.lit w7 #[.int .i64 3] 3 1 1 rfl
  replace Rz := Rz.allocH (.cells #[.int .i64 3] 3)
  replace Rs := Rs.allocH (.cells #[.int .i64 3] 3)
  replace Rv := Rv.allocH (.cells #[.int .i64 3] 3)
  replace Ra := Ra.allocH (.cells #[.int .i64 3] 3)
  replace Rl := Rl.allocH (.cells #[.int .i64 3] 3)
  replace Rw := Rw.allocH (.cells #[.int .i64 3] 3)
  replace Rm := Rm.allocH (.cells #[.int .i64 3] 3)
  replace Rf := Rf.allocH (.cells #[.int .i64 3] 3)
  replace Rx := Rx.allocH (.cells #[.int .i64 3] 3)
  replace Ry := Ry.allocH (.cells #[.int .i64 3] 3)
  have IB := Box.new w7 #[.int .i64 3] 3
  replace b := b.alloc b.size (.cells #[.int .i64 3] 3)
  clear IB p4
  go_wp2_with fail
  refine (rints_any [3] [3] Ay (some ⟨w7.heap.size, 0, none⟩) ny 1 cy 1 _ _ _ Ry LI (by omega)).mono ?_
  rw [decide_eq_true (show ([3] : List Int) = [3] from rfl)]
  rintro e w8 ⟨rfl, q, hq⟩
  have hb := below_of_drew hq
  clear hq
  replace Rz := Rz.belowH hb
  replace Rs := Rs.belowH hb
  replace Rv := Rv.belowH hb
  replace Ra := Ra.belowH hb
  replace Rl := Rl.belowH hb
  replace Rw := Rw.belowH hb
  replace Rm := Rm.belowH hb
  replace Rf := Rf.belowH hb
  replace Rx := Rx.belowH hb
  replace Ry := Ry.belowH hb
  replace b := b.trans (hb.mono b.size)
  clear hb
  go_wp2_with fail
  refine (lcright_any ⟨ll, some ⟨bl, ol, none⟩, 1, cl⟩ _ Rl (by have hq := right_nL Rl HRl.out; omega) (right_fitL Rl HRl.out)).mono ?_
  rw [lrightB_yes HRl.out]
  rintro e w9 ⟨rfl, hb⟩
  replace Rz := Rz.belowH hb
  replace Rs := Rs.belowH hb
  replace Rv := Rv.belowH hb
  replace Ra := Ra.belowH hb
  replace Rl := Rl.belowH hb
  replace Rw := Rw.belowH hb
  replace Rm := Rm.belowH hb
  replace Rf := Rf.belowH hb
  replace Rx := Rx.belowH hb
  replace Ry := Ry.belowH hb
  replace b := b.trans (hb.mono b.size)
  clear hb
  go_wp2
  go_ret
  exact ⟨rfl, b⟩
end Go.Proofs.Ytkabkpeamggnnaa

