/- The fixed fact of view's laws. -/
import Derived.Test.YtpfkgddcoancnaaVC6
import Derived.Test.YtpfkgddcoancnaaVGreat
namespace Go.Proofs.Ytpfkgddcoancnaa
set_option linter.unusedVariables false
set_option linter.unusedSimpArgs false
open Go.RowKit

def va_a : List Nm := [⟨2, ⟨1, 5, []⟩⟩]
def va_p : List Nm := [⟨2, ⟨1, 3, []⟩⟩]
def va_b : List Nm := [⟨1, ⟨4, 0, []⟩⟩, ⟨2, ⟨1, 3, []⟩⟩]
def va_c : List Nm := [⟨1, ⟨4, 0, []⟩⟩, ⟨2, ⟨1, 5, []⟩⟩]
theorem va_r0 : V.right (Vw.view ⟨[], none, 0, 0⟩) := ⟨fun x hx => (by cases hx), trivial⟩
theorem va_st {g t : Int} (h1 : 1 ≤ g) (h2 : g ≤ 1099511627776) (h3 : 0 ≤ t) (h4 : t ≤ 1099511627776) : S.right ⟨g, t, []⟩ := ⟨h1, h2, h3, h4, by simp [E.right, E.rising]⟩
theorem va_ra : V.right va_a := by
  refine ⟨fun x hx => ?_, by simp [va_a, V.rising]⟩
  obtain rfl : x = ⟨2, ⟨1, 5, []⟩⟩ := by simpa [va_a] using hx
  exact ⟨by decide, by decide, va_st (by decide) (by decide) (by decide) (by decide)⟩
theorem va_rp : V.right va_p := by
  refine ⟨fun x hx => ?_, by simp [va_p, V.rising]⟩
  obtain rfl : x = ⟨2, ⟨1, 3, []⟩⟩ := by simpa [va_p] using hx
  exact ⟨by decide, by decide, va_st (by decide) (by decide) (by decide) (by decide)⟩
theorem va_rb : V.right va_b := ⟨fun x hx => (by
  have h : x = ⟨1, ⟨4, 0, []⟩⟩ ∨ x = ⟨2, ⟨1, 3, []⟩⟩ := by simpa [va_b] using hx
  rcases h with rfl | rfl <;> exact ⟨by decide, by decide, va_st (by decide) (by decide) (by decide) (by decide)⟩), by simp [va_b, V.rising]⟩
theorem va_rc : V.right va_c := ⟨fun x hx => (by
  have h : x = ⟨1, ⟨4, 0, []⟩⟩ ∨ x = ⟨2, ⟨1, 5, []⟩⟩ := by simpa [va_c] using hx
  rcases h with rfl | rfl <;> exact ⟨by decide, by decide, va_st (by decide) (by decide) (by decide) (by decide)⟩), by simp [va_c, V.rising]⟩
theorem vgreat_small {w : World} {U : Vw} (h : VRd w U) (hg : vgreatB U.l = false) : U.n ≤ 40 ∧ VFit U := by
  unfold vgreatB at hg
  rw [Bool.or_eq_false_iff] at hg
  have h1 : U.l.length ≤ 40 := by have := of_decide_eq_false hg.2; omega
  refine ⟨by have := h.len; omega, fun x hx => ?_⟩
  have h2 := hg.1
  rw [List.take_of_length_le (by omega)] at h2
  exact great_small (by simpa using List.any_eq_false.1 h2 x hx) (h.2 x hx).len

set_option maxHeartbeats 4000000 in
set_option maxRecDepth 20000 in
theorem alive_any (w : World) : Calls Try.prog 8 #[] w fun e w' => e = .returned (.bool true) ∧ Below w.heap.size w w' := by
  have b := Below.refl w.heap.size w
  have Rz : VRd w ⟨[], none, 0, 0⟩ := ⟨Rd.zero _ _ _ _, by simp⟩
  go_enter Try.func8, Try.ntmps8
  go_wp2_with fail
  refine (vput_any ⟨[], none, 0, 0⟩ 2 ⟨⟨1, 5, []⟩, none, 0, 0⟩ _ Rz (by show (0 : Nat) ≤ _; omega) (fun x hx => by cases hx) (Rd.zero _ _ _ _) (by show (0 : Nat) ≤ _; omega) trivial).mono ?_
  rintro e w2 ⟨Ua, rfl, hv, hown, hb⟩
  have Ha : Hid (Ua.view = va_a) := Lib.hid (hv.trans rfl)
  have Ra := hown.vrd
  clear hv hown
  replace Rz := Rz.belowH hb
  replace b := b.trans (hb.mono b.size)
  clear hb
  have HRa : Hid (V.right Ua.view) := Lib.hid (by rw [Ha.out]; exact va_ra)
  simp only [vval]
  go_wp2_with fail
  refine (vput_any ⟨[], none, 0, 0⟩ 2 ⟨⟨1, 3, []⟩, none, 0, 0⟩ _ Rz (by show (0 : Nat) ≤ _; omega) (fun x hx => by cases hx) (Rd.zero _ _ _ _) (by show (0 : Nat) ≤ _; omega) trivial).mono ?_
  rintro e w3 ⟨Up, rfl, hv, hown, hb⟩
  have Hp : Hid (Up.view = va_p) := Lib.hid (hv.trans rfl)
  have Rp := hown.vrd
  clear hv hown
  replace Rz := Rz.belowH hb
  replace Ra := Ra.belowH hb
  replace b := b.trans (hb.mono b.size)
  clear hb
  have HRp : Hid (V.right Up.view) := Lib.hid (by rw [Hp.out]; exact va_rp)
  simp only [vval]
  go_wp2_with fail
  refine (vput_any Up 1 ⟨⟨4, 0, []⟩, none, 0, 0⟩ _ Rp (by have hq := right_n Rp HRp.out; omega) (right_fitR Rp HRp.out) (Rd.zero _ _ _ _) (by show (0 : Nat) ≤ _; omega) HRp.out.2).mono ?_
  rintro e w4 ⟨Ub, rfl, hv, hown, hb⟩
  have Hb : Hid (Ub.view = va_b) := Lib.hid (hv.trans (by rw [Hp.out]; rfl))
  have Rb := hown.vrd
  clear hv hown
  replace Rz := Rz.belowH hb
  replace Ra := Ra.belowH hb
  replace Rp := Rp.belowH hb
  replace b := b.trans (hb.mono b.size)
  clear hb
  have HRb : Hid (V.right Ub.view) := Lib.hid (by rw [Hb.out]; exact va_rb)
  simp only [vval]
  go_wp2_with fail
  refine (vjoin_any Ua Ub _ Ra Rb HRa.out HRb.out).mono ?_
  rintro e w5 ⟨Uc, rfl, hv, hown, hb⟩
  have Hc : Hid (Uc.view = va_c) := Lib.hid (hv.trans (by rw [Ha.out, Hb.out]; decide +kernel))
  have Rc := hown.vrd
  clear hv hown
  replace Rz := Rz.belowH hb
  replace Ra := Ra.belowH hb
  replace Rp := Rp.belowH hb
  replace Rb := Rb.belowH hb
  replace b := b.trans (hb.mono b.size)
  clear hb
  have HRc : Hid (V.right Uc.view) := Lib.hid (by rw [Hc.out]; exact va_rc)
  simp only [vval]
  go_wp2_with fail
  refine (vget_any Uc 2 _ Rc (by have hq := right_n Rc HRc.out; omega) (right_fitR Rc HRc.out)).mono ?_
  rintro e w6 ⟨⟨sg, Ag, ng, cg⟩, rfl, hs, Rg, hb⟩
  simp only at hs
  have Hg : Hid (sg = (V.get Uc.view 2).getD ⟨0, 0, []⟩) := Lib.hid hs
  clear hs
  replace Rz := Rz.belowH hb
  replace Ra := Ra.belowH hb
  replace Rp := Rp.belowH hb
  replace Rb := Rb.belowH hb
  replace Rc := Rc.belowH hb
  replace b := b.trans (hb.mono b.size)
  clear hb
  have hg : V.get Uc.view 2 = some ⟨1, 5, []⟩ := by rw [Hc.out]; rfl
  have hsg : sg = ⟨1, 5, []⟩ := by rw [Hg.out, hg]; rfl
  subst hsg
  rw [hg]
  clear hg Hg
  simp only [Option.isSome]
  simp only [sv]
  replace Rz := Rz.allocH (.cells #[.int .i64 1, .int .i64 5, .slice Ag ng cg] 27)
  replace Ra := Ra.allocH (.cells #[.int .i64 1, .int .i64 5, .slice Ag ng cg] 27)
  replace Rp := Rp.allocH (.cells #[.int .i64 1, .int .i64 5, .slice Ag ng cg] 27)
  replace Rb := Rb.allocH (.cells #[.int .i64 1, .int .i64 5, .slice Ag ng cg] 27)
  replace Rc := Rc.allocH (.cells #[.int .i64 1, .int .i64 5, .slice Ag ng cg] 27)
  replace Rg := Rg.allocH (.cells #[.int .i64 1, .int .i64 5, .slice Ag ng cg] 27)
  have G := Box.new w6 #[.int .i64 1, .int .i64 5, .slice Ag ng cg] 27
  replace b := b.alloc b.size (.cells #[.int .i64 1, .int .i64 5, .slice Ag ng cg] 27)
  obtain ⟨lc, Ac, nc, cc⟩ := Uc
  have hcn : nc = 2 := by have hq := Rc.viewlen; rw [Hc.out] at hq; exact hq.symm
  subst hcn
  obtain ⟨bc, oc, xc, hA, hbc, hxc, _, d0, _, _, _⟩ := Rc.at (show 0 < 2 by omega)
  simp only at hA hxc
  subst hA
  have hx1 : xc.node = 1 := by have hq := nm_at hxc; rw [show lc.map Nv.nm = _ from Hc.out] at hq; injection hq with hq; rw [← show xc.nm.node = xc.node from rfl, ← hq]
  rw [hx1] at d0
  simp only [Nat.zero_mul, Nat.add_zero] at d0
  clear hxc hx1
  have g0 := G.at 0 rfl
  have g1 := G.at 1 rfl
  have g2 := G.at 2 rfl
  go_wp2_with fail
  refine (vover_any ⟨lc, some ⟨bc, oc, none⟩, 2, cc⟩ Ub _ Rc Rb HRc.out HRb.out).mono ?_
  rw [decide_eq_true (show V.join (Vw.view ⟨lc, some ⟨bc, oc, none⟩, 2, cc⟩) Ub.view = Vw.view ⟨lc, some ⟨bc, oc, none⟩, 2, cc⟩ by rw [Hc.out, Hb.out]; decide +kernel)]
  rintro e w7 ⟨rfl, hb⟩
  replace Rz := Rz.belowH hb
  replace Ra := Ra.belowH hb
  replace Rp := Rp.belowH hb
  replace Rb := Rb.belowH hb
  replace Rc := Rc.belowH hb
  replace Rg := Rg.belowH hb
  replace G := G.belowH hb
  replace b := b.trans (hb.mono b.size)
  clear hb
  go_wp2_with fail
  refine (vover_any Ua Ub _ Ra Rb HRa.out HRb.out).mono ?_
  rw [decide_eq_false (show ¬ V.join Ua.view Ub.view = Ua.view by rw [Ha.out, Hb.out]; decide +kernel)]
  rintro e w8 ⟨rfl, hb⟩
  replace Rz := Rz.belowH hb
  replace Ra := Ra.belowH hb
  replace Rp := Rp.belowH hb
  replace Rb := Rb.belowH hb
  replace Rc := Rc.belowH hb
  replace Rg := Rg.belowH hb
  replace G := G.belowH hb
  replace b := b.trans (hb.mono b.size)
  clear hb
  go_wp2_with fail
  refine (vright_any ⟨lc, some ⟨bc, oc, none⟩, 2, cc⟩  _ Rc (by have hq := right_n Rc HRc.out; omega) (right_fitR Rc HRc.out)).mono ?_
  rw [vrightB_yes HRc.out]
  rintro e w9 ⟨rfl, hb⟩
  replace Rz := Rz.belowH hb
  replace Ra := Ra.belowH hb
  replace Rp := Rp.belowH hb
  replace Rb := Rb.belowH hb
  replace Rc := Rc.belowH hb
  replace Rg := Rg.belowH hb
  replace G := G.belowH hb
  replace b := b.trans (hb.mono b.size)
  clear hb
  go_wp2_with fail
  refine (vwithout_any ⟨lc, some ⟨bc, oc, none⟩, 2, cc⟩ 1 _ Rc (by have hq := right_n Rc HRc.out; omega) (right_fitR Rc HRc.out)).mono ?_
  rintro e w10 ⟨Uo, rfl, hv, hown, hb⟩
  have Ho : Hid (Uo.view = V.without (Vw.view ⟨lc, some ⟨bc, oc, none⟩, 2, cc⟩) 1) := Lib.hid hv
  have Ro := hown.vrd
  clear hv hown
  replace Rz := Rz.belowH hb
  replace Ra := Ra.belowH hb
  replace Rp := Rp.belowH hb
  replace Rb := Rb.belowH hb
  replace Rc := Rc.belowH hb
  replace Rg := Rg.belowH hb
  replace G := G.belowH hb
  replace b := b.trans (hb.mono b.size)
  clear hb
  simp only [vval]
  have hon : Uo.n = 1 := by have hq := Ro.viewlen; rw [Ho.out, Hc.out] at hq; exact hq.symm
  simp only [hon]
  go_wp2
  go_ret
  exact ⟨rfl, b⟩
end Go.Proofs.Ytpfkgddcoancnaa
