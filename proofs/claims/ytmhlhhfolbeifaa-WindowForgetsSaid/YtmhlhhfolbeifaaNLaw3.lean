/- The walk of window's law on forgetting. -/
import Derived.Test.YtmhlhhfolbeifaaNAlive
import Derived.Test.YtmhlhhfolbeifaaNMath2
import Derived.Test.YtmhlhhfolbeifaaNRows
import Derived.Test.YtmhlhhfolbeifaaOpenA
import Derived.Deep.DeepCutAuto
namespace Go.Proofs.Ytmhlhhfolbeifaa
set_option linter.unusedVariables false
set_option linter.unusedSimpArgs false
open Go.RowKit Go.ChangeShapes Go.WideShapes

def In8 (p : Int) : Prop := 0 ≤ p ∧ p ≤ 255
def Sixteen (xa xb xc xd xe xf xg xh xi xj xk xl xm xn xo xp : Int) : Prop := In8 xa ∧ In8 xb ∧ In8 xc ∧ In8 xd ∧ In8 xe ∧ In8 xf ∧ In8 xg ∧ In8 xh ∧ In8 xi ∧ In8 xj ∧ In8 xk ∧ In8 xl ∧ In8 xm ∧ In8 xn ∧ In8 xo ∧ In8 xp
theorem opens_Sixteen {H : Type} {enc : TypeId × Value → H} {W : World} {base b0 : Nat} {held : Bool} {r : Reach} {v : Value} {d : DataW H} {p : List MemPlace} (hv : Value.okWide Try.prog W r b0 38 v)
    (h : DataW.Trod enc Try.prog W base (fun _ => true) held 38 v d p) : ∃ xa xb xc xd xe xf xg xh xi xj xk xl xm xn xo xp, v = .agg #[.int .u8 xa, .int .u8 xb, .int .u8 xc, .int .u8 xd, .int .u8 xe, .int .u8 xf, .int .u8 xg, .int .u8 xh, .int .u8 xi, .int .u8 xj, .int .u8 xk, .int .u8 xl, .int .u8 xm, .int .u8 xn, .int .u8 xo, .int .u8 xp] ∧ Sixteen xa xb xc xd xe xf xg xh xi xj xk xl xm xn xo xp := by
  obtain ⟨zs, rfl, hl, hw⟩ := array_ints Try.underlying38 Try.underlying5 (by kernel_rfl) (by kernel_rfl) hv h
  match zs, hl, hw with
  | [xa, xb, xc, xd, xe, xf, xg, xh, xi, xj, xk, xl, xm, xn, xo, xp], _, hw => exact ⟨xa, xb, xc, xd, xe, xf, xg, xh, xi, xj, xk, xl, xm, xn, xo, xp, rfl, wf_bounds_u8 (hw xa (by simp)), wf_bounds_u8 (hw xb (by simp)), wf_bounds_u8 (hw xc (by simp)), wf_bounds_u8 (hw xd (by simp)), wf_bounds_u8 (hw xe (by simp)), wf_bounds_u8 (hw xf (by simp)), wf_bounds_u8 (hw xg (by simp)), wf_bounds_u8 (hw xh (by simp)), wf_bounds_u8 (hw xi (by simp)), wf_bounds_u8 (hw xj (by simp)), wf_bounds_u8 (hw xk (by simp)), wf_bounds_u8 (hw xl (by simp)), wf_bounds_u8 (hw xm (by simp)), wf_bounds_u8 (hw xn (by simp)), wf_bounds_u8 (hw xo (by simp)), wf_bounds_u8 (hw xp (by simp))⟩
theorem sixteen_small {xa xb xc xd xe xf xg xh xi xj xk xl xm xn xo xp : Int} (h : Sixteen xa xb xc xd xe xf xg xh xi xj xk xl xm xn xo xp) : ∀ v ∈ (#[.int .u8 xa, .int .u8 xb, .int .u8 xc, .int .u8 xd, .int .u8 xe, .int .u8 xf, .int .u8 xg, .int .u8 xh, .int .u8 xi, .int .u8 xj, .int .u8 xk, .int .u8 xl, .int .u8 xm, .int .u8 xn, .int .u8 xo, .int .u8 xp] : Array Value).toList, ∃ s, v = .int .u8 s ∧ 0 ≤ s ∧ s ≤ 255 := by
  obtain ⟨hxa, hxb, hxc, hxd, hxe, hxf, hxg, hxh, hxi, hxj, hxk, hxl, hxm, hxn, hxo, hxp⟩ := h
  intro v hv
  simp only [List.mem_cons, List.not_mem_nil, or_false] at hv
  rcases hv with rfl | rfl | rfl | rfl | rfl | rfl | rfl | rfl | rfl | rfl | rfl | rfl | rfl | rfl | rfl | rfl
  · exact ⟨_, rfl, hxa⟩
  · exact ⟨_, rfl, hxb⟩
  · exact ⟨_, rfl, hxc⟩
  · exact ⟨_, rfl, hxd⟩
  · exact ⟨_, rfl, hxe⟩
  · exact ⟨_, rfl, hxf⟩
  · exact ⟨_, rfl, hxg⟩
  · exact ⟨_, rfl, hxh⟩
  · exact ⟨_, rfl, hxi⟩
  · exact ⟨_, rfl, hxj⟩
  · exact ⟨_, rfl, hxk⟩
  · exact ⟨_, rfl, hxl⟩
  · exact ⟨_, rfl, hxm⟩
  · exact ⟨_, rfl, hxn⟩
  · exact ⟨_, rfl, hxo⟩
  · exact ⟨_, rfl, hxp⟩
theorem small_at {cs : Array Value} (h : ∀ v ∈ cs.toList, ∃ s, v = .int .u8 s ∧ 0 ≤ s ∧ s ≤ 255) {k : Nat} (hk : k < cs.size) : ∃ s, cs[k]? = some (.int .u8 s) ∧ 0 ≤ s ∧ s ≤ 255 := by
  obtain ⟨s, e, hs⟩ := h cs[k] (by simp)
  exact ⟨s, by rw [Array.getElem?_eq_getElem hk, e], hs⟩
theorem arr_new {now most : Int} (h0 : 0 ≤ now) (h1 : now ≤ 1099511627776) : arr N.new now most = (⟨now, []⟩, 0) := by
  rw [arr_yes ⟨N.right_new, h0, by show -1 ≤ now; omega, h1⟩]
  rfl
set_option maxHeartbeats 8000000 in
set_option maxRecDepth 100000 in
theorem law_WindowForgets (u : Wv) (xa xb xc xd xe xf xg xh xi xj xk xl xm xn xo xp : Int) (W : World) (w0 : WIn W u) (w1 : Sixteen xa xb xc xd xe xf xg xh xi xj xk xl xm xn xo xp) :
    Calls Try.prog 5 #[wval u, .agg #[.int .u8 xa, .int .u8 xb, .int .u8 xc, .int .u8 xd, .int .u8 xe, .int .u8 xf, .int .u8 xg, .int .u8 xh, .int .u8 xi, .int .u8 xj, .int .u8 xk, .int .u8 xl, .int .u8 xm, .int .u8 xn, .int .u8 xo, .int .u8 xp]] W fun e w' => e = .returned (.bool true) ∧ Below W.heap.size W w' := by
  obtain ⟨⟨last, l⟩, A, n, c⟩ := u
  obtain ⟨R0, hlb⟩ := w0
  simp only at hlb
  have hsm := sixteen_small w1
  have HSM := Lib.hid hsm
  have hsz : (#[.int .u8 xa, .int .u8 xb, .int .u8 xc, .int .u8 xd, .int .u8 xe, .int .u8 xf, .int .u8 xg, .int .u8 xh, .int .u8 xi, .int .u8 xj, .int .u8 xk, .int .u8 xl, .int .u8 xm, .int .u8 xn, .int .u8 xo, .int .u8 xp] : Array Value).size = 16 := rfl
  clear hsm w1
  simp only [wval]
  have P := (Box.new W #[.int .i64 last, .slice A n c] 24).alloc (.cells #[.int .u8 xa, .int .u8 xb, .int .u8 xc, .int .u8 xd, .int .u8 xe, .int .u8 xf, .int .u8 xg, .int .u8 xh, .int .u8 xi, .int .u8 xj, .int .u8 xk, .int .u8 xl, .int .u8 xm, .int .u8 xn, .int .u8 xo, .int .u8 xp] 38)
  have Q := Box.new (W.alloc (.cells #[.int .i64 last, .slice A n c] 24)) #[.int .u8 xa, .int .u8 xb, .int .u8 xc, .int .u8 xd, .int .u8 xe, .int .u8 xf, .int .u8 xg, .int .u8 xh, .int .u8 xi, .int .u8 xj, .int .u8 xk, .int .u8 xl, .int .u8 xm, .int .u8 xn, .int .u8 xo, .int .u8 xp] 38
  rw [show (W.alloc (.cells #[.int .i64 last, .slice A n c] 24)).heap.size = W.heap.size + 1 by simp] at Q
  have b := ((Below.refl W.heap.size W).alloc (Nat.le_refl _) (.cells #[.int .i64 last, .slice A n c] 24)).alloc (by simp) (.cells #[.int .u8 xa, .int .u8 xb, .int .u8 xc, .int .u8 xd, .int .u8 xe, .int .u8 xf, .int .u8 xg, .int .u8 xh, .int .u8 xi, .int .u8 xj, .int .u8 xk, .int .u8 xl, .int .u8 xm, .int .u8 xn, .int .u8 xo, .int .u8 xp] 38)
  replace R0 := R0.belowH b
  obtain ⟨cs, hcs⟩ : ∃ cs, cs = (#[.int .u8 xa, .int .u8 xb, .int .u8 xc, .int .u8 xd, .int .u8 xe, .int .u8 xf, .int .u8 xg, .int .u8 xh, .int .u8 xi, .int .u8 xj, .int .u8 xk, .int .u8 xl, .int .u8 xm, .int .u8 xn, .int .u8 xo, .int .u8 xp] : Array Value) := ⟨_, rfl⟩
  rw [← hcs] at HSM hsz
  have hcs16 : 16 ≤ cs.size := by omega
  have HCS := Lib.hid hcs
  clear hsz hcs
  go_enter Try.func5, Try.ntmps5
  go_wp2_with fail
  generalize (W.alloc (.cells #[.int .i64 last, .slice A n c] 24)).alloc (.cells #[.int .u8 xa, .int .u8 xb, .int .u8 xc, .int .u8 xd, .int .u8 xe, .int .u8 xf, .int .u8 xg, .int .u8 xh, .int .u8 xi, .int .u8 xj, .int .u8 xk, .int .u8 xl, .int .u8 xm, .int .u8 xn, .int .u8 xo, .int .u8 xp] 38) = w1 at *
  have Q0 : Box w1 (W.heap.size + 1) 38 cs := by rw [HCS.out]; exact Q
  clear Q HCS
  refine (nalive_any _).mono ?_
  rintro e w2 ⟨rfl, hb⟩
  replace P := P.belowH hb
  replace Q0 := Q0.belowH hb
  replace R0 := R0.belowH hb
  replace b := b.trans (hb.mono b.size)
  clear hb
  have p0 := P.at 0 rfl
  have p1 := P.at 1 rfl
  obtain ⟨rb, hrb⟩ : ∃ rb, N.rightB ⟨last, l⟩ = rb := ⟨_, rfl⟩
  have HRB := Lib.hid hrb
  clear hrb
  go_wp2_with fail
  refine (rnright_at A n c HRB.out _ R0).mono ?_
  rintro e w3 ⟨rfl, hb⟩
  replace P := P.belowH hb
  replace Q0 := Q0.belowH hb
  replace R0 := R0.belowH hb
  replace b := b.trans (hb.mono b.size)
  clear hb p0 p1
  have p0 := P.at 0 rfl
  have p1 := P.at 1 rfl
  rcases rb
  · go_wp2
    go_ret
    exact ⟨rfl, b⟩
  have hright := rightB_iff_out HRB.out
  have hlast0 : -1 ≤ last := hright.1
  have hxn : n ≤ 16 := wv_le R0 hright.2.2.1
  by_cases hgreat : 549755813888 < last
  · go_wp2
    go_ret
    exact ⟨rfl, b⟩
  obtain ⟨now, hnow⟩ : ∃ t, max last 0 = t := ⟨_, rfl⟩
  have hnow0 : 0 ≤ now ∧ now ≤ 549755813888 := by omega
  have HN := Lib.hid hnow
  have HR := Lib.hid hright
  clear hright
  have hbA := b.size
  have hQlt := Q0.lt
  have X := Box.new w3 #[.int .i64 last, .slice A n c] 24
  have oA := (Below.refl w3.heap.size w3).alloc (Nat.le_refl _) (.cells #[.int .i64 last, .slice A n c] 24)
  replace P := P.belowH oA
  replace Q0 := Q0.belowH oA
  replace R0 := R0.belowH oA
  replace b := b.trans (oA.mono hbA)
  clear oA
  go_wp2_with fail
  clear p0 p1
  generalize w3.alloc (.cells #[.int .i64 last, .slice A n c] 24) = w4 at *
  refine (rnnew_any _).mono ?_
  rintro e w5 ⟨⟨A5, n5, c5, rfl, R5⟩, hb⟩
  replace P := P.belowH hb
  replace Q0 := Q0.belowH hb
  replace R0 := R0.belowH hb
  replace X := X.belowH hb
  replace b := b.trans (hb.mono b.size)
  clear hb
  have l5 : n5 ≤ 16 := wv_le R5 (by decide)
  go_wp2_with fail
  refine (rnarrive_at A5 n5 c5 now 5 (by omega) (by omega) (arr_new hnow0.1 (by omega)) _ R5).mono ?_
  rintro e w6 ⟨⟨A6, n6, c6, rfl, R6, g6⟩, hb⟩
  replace g6 := g6 rfl
  have hXlt := X.lt
  replace P := P.belowH hb
  replace Q0 := Q0.belowH hb
  replace R0 := R0.belowH hb
  replace X := X.belowH hb
  replace b := b.trans (hb.mono b.size)
  have hlt6 := hb.size
  clear hb R5 l5
  (try dsimp only)
  have hbB := b.size
  have Y := Box.new w6 #[.int .i64 now, .slice A6 n6 c6] 24
  have oB := (Below.refl w6.heap.size w6).alloc (Nat.le_refl _) (.cells #[.int .i64 now, .slice A6 n6 c6] 24)
  replace P := P.belowH oB
  replace Q0 := Q0.belowH oB
  replace R0 := R0.belowH oB
  replace R6 := R6.belowH oB
  replace X := X.belowH oB
  replace b := b.trans (oB.mono hbB)
  have hAB : w3.heap.size < w6.heap.size := by omega
  clear oB hlt6
  go_upto_region 8 with fail
  generalize w6.alloc (.cells #[.int .i64 now, .slice A6 n6 c6] 24) = w7 at *
  have p0 := P.at 0 rfl
  have x0 := X.at 0 rfl
  have x1 := X.at 1 rfl
  have kc := X.cold
  have y0 := Y.at 0 rfl
  have y1 := Y.at 1 rfl
  by_cases hneg : last < 0
  · have hn0 : now = 0 := by omega
    have R6' := R6.set2 g6 (b := w3.heap.size) hXlt 0 1 (.int .i64 now) (.slice A6 n6 c6)
    have Y' := (Y.other (show w6.heap.size ≠ w3.heap.size by omega) (o := 0) (.int .i64 now)).other (show w6.heap.size ≠ w3.heap.size by omega) (o := 1) (.slice A6 n6 c6)
    have Q' := (Q0.other (show W.heap.size + 1 ≠ w3.heap.size by omega) (o := 0) (.int .i64 now)).other (show W.heap.size + 1 ≠ w3.heap.size by omega) (o := 1) (.slice A6 n6 c6)
    have X' := X.two (u0 := .int .i64 now) (u1 := .slice A6 n6 c6)
    have b' := below_set (o := 1) (below_set (o := 0) b hbA (.int .i64 now)) hbA (.slice A6 n6 c6)
    have hru : N.right ⟨now, []⟩ := ⟨by show -1 ≤ now; omega, by show now ≤ _; omega, by simp, by simp⟩
    have HRU := Lib.hid hru
    clear hn0 hru
    go_wp2
    clear p0 x0 x1 kc y0 y1
    generalize (w7.setCell ⟨w3.heap.size, 0, none⟩ (.int .i64 now)).setCell ⟨w3.heap.size, 1, none⟩ (.slice A6 n6 c6) = w12 at *
    go_loopw [5, 9] (fun q i wr => ∃ (k : Nat) (x y : Wi) (Ax : Option Addr) (nx cx : Nat) (Ay : Option Addr) (ny cy : Nat) (t : Int), k ≤ 16 ∧ q = .int .i64 t ∧ i = .int .i64 k ∧ N.Both [] x y k t ∧ 0 ≤ t ∧ t ≤ 549755813888 + k * 255 ∧ Box wr w3.heap.size 24 #[.int .i64 x.last, .slice Ax nx cx] ∧ Box wr w6.heap.size 24 #[.int .i64 y.last, .slice Ay ny cy] ∧ WRd wr ⟨x, Ax, nx, cx⟩ ∧ WRd wr ⟨y, Ay, ny, cy⟩ ∧ Box wr (W.heap.size + 1) 38 cs ∧ Below W.heap.size W wr) (fun _ i _ => 16 - (intOf i).toNat)
    case atStart => exact ⟨0, ⟨now, []⟩, ⟨now, []⟩, A6, n6, c6, A6, n6, c6, now, by omega, rfl, rfl, N.Both.start (x := ⟨now, []⟩) HRU.out HRU.out rfl rfl rfl, by omega, by omega, X', Y', R6', R6', Q', b'⟩
    case round =>
      clear P Q0 R0 X Y R6 b X' Y' R6' Q' b'
      obtain ⟨k, x, y, Ax, nx, cx, Ay, ny, cy, t, hk, rfl, rfl, hbo, ht0, htb, X, Y, Rx, Ry, Q0, b⟩ := hrel
      have hnx : nx ≤ 16 := wv_le Rx hbo.rx.2.2.1
      have hny : ny ≤ 16 := wv_le Ry hbo.ry.2.2.1
      by_cases hlt : k < 16
      · obtain ⟨s, hs, hsb⟩ := small_at HSM.out (k := k) (by omega)
        have q0 := Q0.at k hs
        have hk0 : (0 : Int) ≤ (k : Int) := by omega
        have hk16 : (k : Int) < 16 := by omega
        have hmx := arr_yes (most := 100) (hbo.mayx ht0 hsb.1 (by omega))
        have hmy := arr_yes (most := 100) (hbo.mayy ht0 hsb.1 (by omega))
        have hnb := hbo.next (most := 100) ht0 hsb.1 (by omega)
        obtain ⟨x', hx'⟩ : ∃ z, N.next x (t + s) 100 = z := ⟨_, rfl⟩
        obtain ⟨y', hy'⟩ : ∃ z, N.next y (t + s) 100 = z := ⟨_, rfl⟩
        rw [hx'] at hmx hnb
        rw [hy'] at hmy hnb
        have HMX := Lib.hid hmx
        have HMY := Lib.hid hmy
        have HNB := Lib.hid hnb
        clear hmx hmy hnb hx' hy' hs hbo
        have x0 := X.at 0 rfl
        have x1 := X.at 1 rfl
        have hXlt := X.lt
        have hYlt := Y.lt
        go_wp2_with fail
        refine (narrive_at Ax nx cx (t + s) 100 (by omega) (by omega) HMX.out _ Rx (by omega)).mono ?_
        rintro e w8 ⟨⟨A8, n8, c8, rfl, R8, g8⟩, hb⟩
        replace g8 := g8 rfl
        replace X := X.belowH hb
        replace Y := Y.belowH hb
        replace Ry := Ry.belowH hb
        replace Q0 := Q0.belowH hb
        replace b := b.trans (hb.mono b.size)
        have hs8 := hb.size
        clear hb x0 x1 q0 Rx
        have Z1 := Box.new w8 #[.int .i64 x'.last, .slice A8 n8 c8] 24
        have o8 := (Below.refl w8.heap.size w8).alloc (Nat.le_refl _) (.cells #[.int .i64 x'.last, .slice A8 n8 c8] 24)
        replace X := X.belowH o8
        replace Y := Y.belowH o8
        replace Ry := Ry.belowH o8
        replace R8 := R8.belowH o8
        replace Q0 := Q0.belowH o8
        have hz8 := b.size
        replace b := b.trans (o8.mono b.size)
        clear o8
        have y0 := Y.at 0 rfl
        have y1 := Y.at 1 rfl
        have hYl8 := Y.lt
        have hZl8 := Z1.lt
        (try dsimp only)
        go_wp2_with fail
        generalize w8.alloc (.cells #[.int .i64 x'.last, .slice A8 n8 c8] 24) = w9 at *
        refine (narrive_at Ay ny cy (t + s) 100 (by omega) (by omega) HMY.out _ Ry (by omega)).mono ?_
        rintro e w10 ⟨⟨A10, n10, c10, rfl, R10, g10⟩, hb⟩
        replace g10 := g10 rfl
        replace X := X.belowH hb
        replace Y := Y.belowH hb
        replace Z1 := Z1.belowH hb
        replace R8 := R8.belowH hb
        replace Q0 := Q0.belowH hb
        replace b := b.trans (hb.mono b.size)
        have hs10 := hb.size
        clear hb y0 y1 Ry
        have Z2 := Box.new w10 #[.int .i64 y'.last, .slice A10 n10 c10] 24
        have o10 := (Below.refl w10.heap.size w10).alloc (Nat.le_refl _) (.cells #[.int .i64 y'.last, .slice A10 n10 c10] 24)
        replace X := X.belowH o10
        replace Y := Y.belowH o10
        replace Z1 := Z1.belowH o10
        replace R8 := R8.belowH o10
        replace R10 := R10.belowH o10
        replace Q0 := Q0.belowH o10
        have hz10 := b.size
        replace b := b.trans (o10.mono b.size)
        clear o10
        (try dsimp only)
        go_upto_region 18 with fail
        generalize w10.alloc (.cells #[.int .i64 y'.last, .slice A10 n10 c10] 24) = w11 at *
        have e8 : w3.heap.size < w8.heap.size := by omega
        have e9 : w6.heap.size < w8.heap.size := by omega
        have e10 : w8.heap.size < w10.heap.size := by omega
        have g8' : ∀ bk o, A8 = some ⟨bk, o, none⟩ → w6.heap.size + 1 ≤ bk := fun bk o h => by have := g8 bk o h; omega
        have g10' : ∀ bk o, A10 = some ⟨bk, o, none⟩ → w6.heap.size + 1 ≤ bk := fun bk o h => by have := g10 bk o h; omega
        replace X := X.drew
        replace Y := Y.drew
        replace Z1 := Z1.drew
        replace Z2 := Z2.drew
        replace Q0 := Q0.drew
        replace R8 := R8.drew
        replace R10 := R10.drew
        replace b := b.drew
        have x0 := X.at 0 rfl
        have x1 := X.at 1 rfl
        have kx := X.cold
        refine wp_region_held_drew (S := (fun w' => (w'.cell? ⟨w8.heap.size, 0, none⟩ = some (.int .i64 x'.last) ∧ w'.cell? ⟨w8.heap.size, 1, none⟩ = some (.slice A8 n8 c8)) ∧ w'.cell? ⟨w10.heap.size, 0, none⟩ = some (.int .i64 y'.last) ∧ w'.cell? ⟨w10.heap.size, 1, none⟩ = some (.slice A10 n10 c10))) (by kernel_rfl) (by exact ⟨⟨Z1.at 0 rfl, Z1.at 1 rfl⟩, Z2.at 0 rfl, Z2.at 1 rfl⟩) (fun hHeld0 => ?_)
        generalize w11.drew = wd at *
        refine tk 0 66 rfl hHeld0 ?_
        refine tk 1 67 rfl hHeld0 ?_
        refine wpAnyH_ready (rs := [2]) (by kernel_rfl) (by simp) (AllReadyH.cons (o := ⟨none, _, _, _, _, _⟩) rfl (fun K hK => ?_) AllReadyH.nil)
        go_simp
        replace X := X.two (u0 := .int .i64 x'.last) (u1 := .slice A8 n8 c8)
        replace Y := (Y.other (show w6.heap.size ≠ w3.heap.size by omega) (o := 0) (.int .i64 x'.last)).other (show w6.heap.size ≠ w3.heap.size by omega) (o := 1) (.slice A8 n8 c8)
        replace Z1 := (Z1.other (show w8.heap.size ≠ w3.heap.size by omega) (o := 0) (.int .i64 x'.last)).other (show w8.heap.size ≠ w3.heap.size by omega) (o := 1) (.slice A8 n8 c8)
        replace Z2 := (Z2.other (show w10.heap.size ≠ w3.heap.size by omega) (o := 0) (.int .i64 x'.last)).other (show w10.heap.size ≠ w3.heap.size by omega) (o := 1) (.slice A8 n8 c8)
        replace Q0 := (Q0.other (show W.heap.size + 1 ≠ w3.heap.size by omega) (o := 0) (.int .i64 x'.last)).other (show W.heap.size + 1 ≠ w3.heap.size by omega) (o := 1) (.slice A8 n8 c8)
        replace R8 := R8.set2 (b := w3.heap.size) g8' (by omega) 0 1 (.int .i64 x'.last) (.slice A8 n8 c8)
        replace R10 := R10.set2 (b := w3.heap.size) g10' (by omega) 0 1 (.int .i64 x'.last) (.slice A8 n8 c8)
        replace b := below_set (o := 1) (below_set (o := 0) b (show W.heap.size ≤ w3.heap.size by omega) (.int .i64 x'.last)) (show W.heap.size ≤ w3.heap.size by omega) (.slice A8 n8 c8)
        refine hK.out _ _ (by exact ⟨⟨Z1.at 0 rfl, Z1.at 1 rfl⟩, Z2.at 0 rfl, Z2.at 1 rfl⟩) (fun hHeld1 => ?_)
        clear hK hHeld0 K x0 x1 kx
        try simp only [Act.put, sA, sB, sC]
        generalize (wd.setCell ⟨w3.heap.size, 0, none⟩ (.int .i64 x'.last)).setCell ⟨w3.heap.size, 1, none⟩ (.slice A8 n8 c8) = we at *
        have y0 := Y.at 0 rfl
        have y1 := Y.at 1 rfl
        have ky := Y.cold
        refine wpAnyH_ready (rs := [3]) (by kernel_rfl) (by simp) (AllReadyH.cons (o := ⟨none, _, _, _, _, _⟩) rfl (fun K hK => ?_) AllReadyH.nil)
        go_simp
        replace Y := Y.two (u0 := .int .i64 y'.last) (u1 := .slice A10 n10 c10)
        replace X := (X.other (show w3.heap.size ≠ w6.heap.size by omega) (o := 0) (.int .i64 y'.last)).other (show w3.heap.size ≠ w6.heap.size by omega) (o := 1) (.slice A10 n10 c10)
        replace Z1 := (Z1.other (show w8.heap.size ≠ w6.heap.size by omega) (o := 0) (.int .i64 y'.last)).other (show w8.heap.size ≠ w6.heap.size by omega) (o := 1) (.slice A10 n10 c10)
        replace Z2 := (Z2.other (show w10.heap.size ≠ w6.heap.size by omega) (o := 0) (.int .i64 y'.last)).other (show w10.heap.size ≠ w6.heap.size by omega) (o := 1) (.slice A10 n10 c10)
        replace Q0 := (Q0.other (show W.heap.size + 1 ≠ w6.heap.size by omega) (o := 0) (.int .i64 y'.last)).other (show W.heap.size + 1 ≠ w6.heap.size by omega) (o := 1) (.slice A10 n10 c10)
        replace R8 := R8.set2 (b := w6.heap.size) g8' (by omega) 0 1 (.int .i64 y'.last) (.slice A10 n10 c10)
        replace R10 := R10.set2 (b := w6.heap.size) g10' (by omega) 0 1 (.int .i64 y'.last) (.slice A10 n10 c10)
        replace b := below_set (o := 1) (below_set (o := 0) b (show W.heap.size ≤ w6.heap.size by omega) (.int .i64 y'.last)) (show W.heap.size ≤ w6.heap.size by omega) (.slice A10 n10 c10)
        refine hK.out _ _ (by exact ⟨⟨Z1.at 0 rfl, Z1.at 1 rfl⟩, Z2.at 0 rfl, Z2.at 1 rfl⟩) (fun hHeld2 => ?_)
        clear hK hHeld1 K y0 y1 ky
        try simp only [Act.put, sA, sB, sC]
        generalize (we.setCell ⟨w6.heap.size, 0, none⟩ (.int .i64 y'.last)).setCell ⟨w6.heap.size, 1, none⟩ (.slice A10 n10 c10) = wf at *
        refine wpAnyH_done (by kernel_rfl) ?_ _
        clear hHeld2
        go_wp2
        go_roundw
        case rel => exact ⟨k + 1, x', y', A8, n8, c8, A10, n10, c10, t + s, by omega, rfl, by go_num, HNB.out, by omega, by push_cast; omega, X, Y, R8, R10, Q0, b⟩
        case measure => simp [intOf]; omega
      · have e : k = 16 := by omega
        subst e
        have hdone := hbo.done
        obtain ⟨m, hm⟩ : ∃ m, N.mean x 1 = m := ⟨_, rfl⟩
        have hm2 : N.mean y 99 = m := by rw [← hdone.1, ← hm]; exact N.mean_boot (by rw [hdone.2]; omega) _ _
        have HD := Lib.hid (show decide (x = y) = true from decide_eq_true hdone.1)
        have HM := Lib.hid hm
        have HM2 := Lib.hid hm2
        clear hdone hm hm2 hbo
        go_wp2_with fail
        replace X := X.drew
        replace Y := Y.drew
        replace Rx := Rx.drew
        replace Ry := Ry.drew
        replace b := b.drew
        have x0 := X.at 0 rfl
        have x1 := X.at 1 rfl
        have y0 := Y.at 0 rfl
        have y1 := Y.at 1 rfl
        refine wp_region_held_drew (S := (fun w' => (w'.cell? ⟨w3.heap.size, 0, none⟩ = some (.int .i64 x.last) ∧ w'.cell? ⟨w3.heap.size, 1, none⟩ = some (.slice Ax nx cx)) ∧ w'.cell? ⟨w6.heap.size, 0, none⟩ = some (.int .i64 y.last) ∧ w'.cell? ⟨w6.heap.size, 1, none⟩ = some (.slice Ay ny cy))) (by kernel_rfl) (by exact ⟨⟨x0, x1⟩, y0, y1⟩) (fun hHeld0 => ?_)
        refine tk 0 68 rfl hHeld0 ?_
        refine tk 1 69 rfl hHeld0 ?_
        refine wpAnyH_ready (rs := [2]) (by kernel_rfl) (by simp) (AllReadyH.cons (o := ⟨some 70, _, _, _, _, _⟩) rfl (fun K hK => ?_) AllReadyH.nil)
        go_simp
        (refine (rnsame_at Ax nx cx Ay ny cy HD.out _ Rx Ry (by omega)).mono ?_; rintro e w12 ⟨rfl, hb⟩; replace X := X.belowH hb; replace Y := Y.belowH hb; replace Rx := Rx.belowH hb; replace Ry := Ry.belowH hb; replace b := b.trans (hb.mono b.size); clear hb x0 x1 y0 y1; have x0 := X.at 0 rfl; have x1 := X.at 1 rfl; have y0 := Y.at 0 rfl; have y1 := Y.at 1 rfl)
        go_simp
        refine hK.out _ _ (by exact ⟨⟨x0, x1⟩, y0, y1⟩) (fun hHeld1 => ?_)
        clear hK hHeld0 K
        try simp only [Act.put, sA, sB, sC]
        refine tk 3 71 rfl hHeld1 ?_
        refine tk 4 72 rfl hHeld1 ?_
        refine tk 6 74 rfl hHeld1 ?_
        refine wpAnyH_ready (rs := [5]) (by kernel_rfl) (by simp) (AllReadyH.cons (o := ⟨some 73, _, _, _, _, _⟩) rfl (fun K hK => ?_) AllReadyH.nil)
        go_simp
        (refine (nmean_at Ax nx cx 1 HM.out _ Rx (by omega)).mono ?_; rintro e w13 ⟨rfl, hb⟩; replace X := X.belowH hb; replace Y := Y.belowH hb; replace Rx := Rx.belowH hb; replace Ry := Ry.belowH hb; replace b := b.trans (hb.mono b.size); clear hb x0 x1 y0 y1; have x0 := X.at 0 rfl; have x1 := X.at 1 rfl; have y0 := Y.at 0 rfl; have y1 := Y.at 1 rfl)
        go_simp
        refine hK.out _ _ (by exact ⟨⟨x0, x1⟩, y0, y1⟩) (fun hHeld2 => ?_)
        clear hK hHeld1 K
        try simp only [Act.put, sA, sB, sC]
        refine wpAnyH_ready (rs := [7]) (by kernel_rfl) (by simp) (AllReadyH.cons (o := ⟨some 75, _, _, _, _, _⟩) rfl (fun K hK => ?_) AllReadyH.nil)
        go_simp
        (refine (nmean_at Ay ny cy 99 HM2.out _ Ry (by omega)).mono ?_; rintro e w14 ⟨rfl, hb⟩; replace X := X.belowH hb; replace Y := Y.belowH hb; replace Rx := Rx.belowH hb; replace Ry := Ry.belowH hb; replace b := b.trans (hb.mono b.size); clear hb x0 x1 y0 y1; have x0 := X.at 0 rfl; have x1 := X.at 1 rfl; have y0 := Y.at 0 rfl; have y1 := Y.at 1 rfl)
        go_simp
        refine hK.out _ _ (by exact ⟨⟨x0, x1⟩, y0, y1⟩) (fun hHeld3 => ?_)
        clear hK hHeld2 K
        try simp only [Act.put, sA, sB, sC]
        refine tk 8 76 rfl hHeld3 ?_
        refine tk 9 77 rfl hHeld3 ?_
        refine tk 10 4 rfl hHeld3 ?_
        refine wpAnyH_done (by kernel_rfl) ?_ _
        go_wp2
        go_ret
        exact ⟨by simp, b⟩
  · have hn0 : now = last := by omega
    subst hn0
    have hru : N.right ⟨now, []⟩ := ⟨by show -1 ≤ now; omega, by show now ≤ _; omega, by simp, by simp⟩
    have HRU := Lib.hid hru
    clear hru
    go_wp2
    clear p0 x0 x1 kc y0 y1
    go_loopw [5, 9] (fun q i wr => ∃ (k : Nat) (x y : Wi) (Ax : Option Addr) (nx cx : Nat) (Ay : Option Addr) (ny cy : Nat) (t : Int), k ≤ 16 ∧ q = .int .i64 t ∧ i = .int .i64 k ∧ N.Both l x y k t ∧ 0 ≤ t ∧ t ≤ 549755813888 + k * 255 ∧ Box wr w3.heap.size 24 #[.int .i64 x.last, .slice Ax nx cx] ∧ Box wr w6.heap.size 24 #[.int .i64 y.last, .slice Ay ny cy] ∧ WRd wr ⟨x, Ax, nx, cx⟩ ∧ WRd wr ⟨y, Ay, ny, cy⟩ ∧ Box wr (W.heap.size + 1) 38 cs ∧ Below W.heap.size W wr) (fun _ i _ => 16 - (intOf i).toNat)
    case atStart => exact ⟨0, ⟨now, l⟩, ⟨now, []⟩, A, n, c, A6, n6, c6, now, by omega, rfl, rfl, N.Both.start (x := ⟨now, l⟩) HR.out HRU.out rfl rfl rfl, by omega, by omega, X, Y, R0, R6, Q0, b⟩
    case round =>
      clear P Q0 R0 X Y R6 b
      obtain ⟨k, x, y, Ax, nx, cx, Ay, ny, cy, t, hk, rfl, rfl, hbo, ht0, htb, X, Y, Rx, Ry, Q0, b⟩ := hrel
      have hnx : nx ≤ 16 := wv_le Rx hbo.rx.2.2.1
      have hny : ny ≤ 16 := wv_le Ry hbo.ry.2.2.1
      by_cases hlt : k < 16
      · obtain ⟨s, hs, hsb⟩ := small_at HSM.out (k := k) (by omega)
        have q0 := Q0.at k hs
        have hk0 : (0 : Int) ≤ (k : Int) := by omega
        have hk16 : (k : Int) < 16 := by omega
        have hmx := arr_yes (most := 100) (hbo.mayx ht0 hsb.1 (by omega))
        have hmy := arr_yes (most := 100) (hbo.mayy ht0 hsb.1 (by omega))
        have hnb := hbo.next (most := 100) ht0 hsb.1 (by omega)
        obtain ⟨x', hx'⟩ : ∃ z, N.next x (t + s) 100 = z := ⟨_, rfl⟩
        obtain ⟨y', hy'⟩ : ∃ z, N.next y (t + s) 100 = z := ⟨_, rfl⟩
        rw [hx'] at hmx hnb
        rw [hy'] at hmy hnb
        have HMX := Lib.hid hmx
        have HMY := Lib.hid hmy
        have HNB := Lib.hid hnb
        clear hmx hmy hnb hx' hy' hs hbo
        have x0 := X.at 0 rfl
        have x1 := X.at 1 rfl
        have hXlt := X.lt
        have hYlt := Y.lt
        go_wp2_with fail
        refine (narrive_at Ax nx cx (t + s) 100 (by omega) (by omega) HMX.out _ Rx (by omega)).mono ?_
        rintro e w8 ⟨⟨A8, n8, c8, rfl, R8, g8⟩, hb⟩
        replace g8 := g8 rfl
        replace X := X.belowH hb
        replace Y := Y.belowH hb
        replace Ry := Ry.belowH hb
        replace Q0 := Q0.belowH hb
        replace b := b.trans (hb.mono b.size)
        have hs8 := hb.size
        clear hb x0 x1 q0 Rx
        have Z1 := Box.new w8 #[.int .i64 x'.last, .slice A8 n8 c8] 24
        have o8 := (Below.refl w8.heap.size w8).alloc (Nat.le_refl _) (.cells #[.int .i64 x'.last, .slice A8 n8 c8] 24)
        replace X := X.belowH o8
        replace Y := Y.belowH o8
        replace Ry := Ry.belowH o8
        replace R8 := R8.belowH o8
        replace Q0 := Q0.belowH o8
        have hz8 := b.size
        replace b := b.trans (o8.mono b.size)
        clear o8
        have y0 := Y.at 0 rfl
        have y1 := Y.at 1 rfl
        have hYl8 := Y.lt
        have hZl8 := Z1.lt
        (try dsimp only)
        go_wp2_with fail
        generalize w8.alloc (.cells #[.int .i64 x'.last, .slice A8 n8 c8] 24) = w9 at *
        refine (narrive_at Ay ny cy (t + s) 100 (by omega) (by omega) HMY.out _ Ry (by omega)).mono ?_
        rintro e w10 ⟨⟨A10, n10, c10, rfl, R10, g10⟩, hb⟩
        replace g10 := g10 rfl
        replace X := X.belowH hb
        replace Y := Y.belowH hb
        replace Z1 := Z1.belowH hb
        replace R8 := R8.belowH hb
        replace Q0 := Q0.belowH hb
        replace b := b.trans (hb.mono b.size)
        have hs10 := hb.size
        clear hb y0 y1 Ry
        have Z2 := Box.new w10 #[.int .i64 y'.last, .slice A10 n10 c10] 24
        have o10 := (Below.refl w10.heap.size w10).alloc (Nat.le_refl _) (.cells #[.int .i64 y'.last, .slice A10 n10 c10] 24)
        replace X := X.belowH o10
        replace Y := Y.belowH o10
        replace Z1 := Z1.belowH o10
        replace R8 := R8.belowH o10
        replace R10 := R10.belowH o10
        replace Q0 := Q0.belowH o10
        have hz10 := b.size
        replace b := b.trans (o10.mono b.size)
        clear o10
        (try dsimp only)
        go_upto_region 18 with fail
        generalize w10.alloc (.cells #[.int .i64 y'.last, .slice A10 n10 c10] 24) = w11 at *
        have e8 : w3.heap.size < w8.heap.size := by omega
        have e9 : w6.heap.size < w8.heap.size := by omega
        have e10 : w8.heap.size < w10.heap.size := by omega
        have g8' : ∀ bk o, A8 = some ⟨bk, o, none⟩ → w6.heap.size + 1 ≤ bk := fun bk o h => by have := g8 bk o h; omega
        have g10' : ∀ bk o, A10 = some ⟨bk, o, none⟩ → w6.heap.size + 1 ≤ bk := fun bk o h => by have := g10 bk o h; omega
        replace X := X.drew
        replace Y := Y.drew
        replace Z1 := Z1.drew
        replace Z2 := Z2.drew
        replace Q0 := Q0.drew
        replace R8 := R8.drew
        replace R10 := R10.drew
        replace b := b.drew
        have x0 := X.at 0 rfl
        have x1 := X.at 1 rfl
        have kx := X.cold
        refine wp_region_held_drew (S := (fun w' => (w'.cell? ⟨w8.heap.size, 0, none⟩ = some (.int .i64 x'.last) ∧ w'.cell? ⟨w8.heap.size, 1, none⟩ = some (.slice A8 n8 c8)) ∧ w'.cell? ⟨w10.heap.size, 0, none⟩ = some (.int .i64 y'.last) ∧ w'.cell? ⟨w10.heap.size, 1, none⟩ = some (.slice A10 n10 c10))) (by kernel_rfl) (by exact ⟨⟨Z1.at 0 rfl, Z1.at 1 rfl⟩, Z2.at 0 rfl, Z2.at 1 rfl⟩) (fun hHeld0 => ?_)
        generalize w11.drew = wd at *
        refine tk 0 66 rfl hHeld0 ?_
        refine tk 1 67 rfl hHeld0 ?_
        refine wpAnyH_ready (rs := [2]) (by kernel_rfl) (by simp) (AllReadyH.cons (o := ⟨none, _, _, _, _, _⟩) rfl (fun K hK => ?_) AllReadyH.nil)
        go_simp
        replace X := X.two (u0 := .int .i64 x'.last) (u1 := .slice A8 n8 c8)
        replace Y := (Y.other (show w6.heap.size ≠ w3.heap.size by omega) (o := 0) (.int .i64 x'.last)).other (show w6.heap.size ≠ w3.heap.size by omega) (o := 1) (.slice A8 n8 c8)
        replace Z1 := (Z1.other (show w8.heap.size ≠ w3.heap.size by omega) (o := 0) (.int .i64 x'.last)).other (show w8.heap.size ≠ w3.heap.size by omega) (o := 1) (.slice A8 n8 c8)
        replace Z2 := (Z2.other (show w10.heap.size ≠ w3.heap.size by omega) (o := 0) (.int .i64 x'.last)).other (show w10.heap.size ≠ w3.heap.size by omega) (o := 1) (.slice A8 n8 c8)
        replace Q0 := (Q0.other (show W.heap.size + 1 ≠ w3.heap.size by omega) (o := 0) (.int .i64 x'.last)).other (show W.heap.size + 1 ≠ w3.heap.size by omega) (o := 1) (.slice A8 n8 c8)
        replace R8 := R8.set2 (b := w3.heap.size) g8' (by omega) 0 1 (.int .i64 x'.last) (.slice A8 n8 c8)
        replace R10 := R10.set2 (b := w3.heap.size) g10' (by omega) 0 1 (.int .i64 x'.last) (.slice A8 n8 c8)
        replace b := below_set (o := 1) (below_set (o := 0) b (show W.heap.size ≤ w3.heap.size by omega) (.int .i64 x'.last)) (show W.heap.size ≤ w3.heap.size by omega) (.slice A8 n8 c8)
        refine hK.out _ _ (by exact ⟨⟨Z1.at 0 rfl, Z1.at 1 rfl⟩, Z2.at 0 rfl, Z2.at 1 rfl⟩) (fun hHeld1 => ?_)
        clear hK hHeld0 K x0 x1 kx
        try simp only [Act.put, sA, sB, sC]
        generalize (wd.setCell ⟨w3.heap.size, 0, none⟩ (.int .i64 x'.last)).setCell ⟨w3.heap.size, 1, none⟩ (.slice A8 n8 c8) = we at *
        have y0 := Y.at 0 rfl
        have y1 := Y.at 1 rfl
        have ky := Y.cold
        refine wpAnyH_ready (rs := [3]) (by kernel_rfl) (by simp) (AllReadyH.cons (o := ⟨none, _, _, _, _, _⟩) rfl (fun K hK => ?_) AllReadyH.nil)
        go_simp
        replace Y := Y.two (u0 := .int .i64 y'.last) (u1 := .slice A10 n10 c10)
        replace X := (X.other (show w3.heap.size ≠ w6.heap.size by omega) (o := 0) (.int .i64 y'.last)).other (show w3.heap.size ≠ w6.heap.size by omega) (o := 1) (.slice A10 n10 c10)
        replace Z1 := (Z1.other (show w8.heap.size ≠ w6.heap.size by omega) (o := 0) (.int .i64 y'.last)).other (show w8.heap.size ≠ w6.heap.size by omega) (o := 1) (.slice A10 n10 c10)
        replace Z2 := (Z2.other (show w10.heap.size ≠ w6.heap.size by omega) (o := 0) (.int .i64 y'.last)).other (show w10.heap.size ≠ w6.heap.size by omega) (o := 1) (.slice A10 n10 c10)
        replace Q0 := (Q0.other (show W.heap.size + 1 ≠ w6.heap.size by omega) (o := 0) (.int .i64 y'.last)).other (show W.heap.size + 1 ≠ w6.heap.size by omega) (o := 1) (.slice A10 n10 c10)
        replace R8 := R8.set2 (b := w6.heap.size) g8' (by omega) 0 1 (.int .i64 y'.last) (.slice A10 n10 c10)
        replace R10 := R10.set2 (b := w6.heap.size) g10' (by omega) 0 1 (.int .i64 y'.last) (.slice A10 n10 c10)
        replace b := below_set (o := 1) (below_set (o := 0) b (show W.heap.size ≤ w6.heap.size by omega) (.int .i64 y'.last)) (show W.heap.size ≤ w6.heap.size by omega) (.slice A10 n10 c10)
        refine hK.out _ _ (by exact ⟨⟨Z1.at 0 rfl, Z1.at 1 rfl⟩, Z2.at 0 rfl, Z2.at 1 rfl⟩) (fun hHeld2 => ?_)
        clear hK hHeld1 K y0 y1 ky
        try simp only [Act.put, sA, sB, sC]
        generalize (we.setCell ⟨w6.heap.size, 0, none⟩ (.int .i64 y'.last)).setCell ⟨w6.heap.size, 1, none⟩ (.slice A10 n10 c10) = wf at *
        refine wpAnyH_done (by kernel_rfl) ?_ _
        clear hHeld2
        go_wp2
        go_roundw
        case rel => exact ⟨k + 1, x', y', A8, n8, c8, A10, n10, c10, t + s, by omega, rfl, by go_num, HNB.out, by omega, by push_cast; omega, X, Y, R8, R10, Q0, b⟩
        case measure => simp [intOf]; omega
      · have e : k = 16 := by omega
        subst e
        have hdone := hbo.done
        obtain ⟨m, hm⟩ : ∃ m, N.mean x 1 = m := ⟨_, rfl⟩
        have hm2 : N.mean y 99 = m := by rw [← hdone.1, ← hm]; exact N.mean_boot (by rw [hdone.2]; omega) _ _
        have HD := Lib.hid (show decide (x = y) = true from decide_eq_true hdone.1)
        have HM := Lib.hid hm
        have HM2 := Lib.hid hm2
        clear hdone hm hm2 hbo
        go_wp2_with fail
        replace X := X.drew
        replace Y := Y.drew
        replace Rx := Rx.drew
        replace Ry := Ry.drew
        replace b := b.drew
        have x0 := X.at 0 rfl
        have x1 := X.at 1 rfl
        have y0 := Y.at 0 rfl
        have y1 := Y.at 1 rfl
        refine wp_region_held_drew (S := (fun w' => (w'.cell? ⟨w3.heap.size, 0, none⟩ = some (.int .i64 x.last) ∧ w'.cell? ⟨w3.heap.size, 1, none⟩ = some (.slice Ax nx cx)) ∧ w'.cell? ⟨w6.heap.size, 0, none⟩ = some (.int .i64 y.last) ∧ w'.cell? ⟨w6.heap.size, 1, none⟩ = some (.slice Ay ny cy))) (by kernel_rfl) (by exact ⟨⟨x0, x1⟩, y0, y1⟩) (fun hHeld0 => ?_)
        refine tk 0 68 rfl hHeld0 ?_
        refine tk 1 69 rfl hHeld0 ?_
        refine wpAnyH_ready (rs := [2]) (by kernel_rfl) (by simp) (AllReadyH.cons (o := ⟨some 70, _, _, _, _, _⟩) rfl (fun K hK => ?_) AllReadyH.nil)
        go_simp
        (refine (rnsame_at Ax nx cx Ay ny cy HD.out _ Rx Ry (by omega)).mono ?_; rintro e w12 ⟨rfl, hb⟩; replace X := X.belowH hb; replace Y := Y.belowH hb; replace Rx := Rx.belowH hb; replace Ry := Ry.belowH hb; replace b := b.trans (hb.mono b.size); clear hb x0 x1 y0 y1; have x0 := X.at 0 rfl; have x1 := X.at 1 rfl; have y0 := Y.at 0 rfl; have y1 := Y.at 1 rfl)
        go_simp
        refine hK.out _ _ (by exact ⟨⟨x0, x1⟩, y0, y1⟩) (fun hHeld1 => ?_)
        clear hK hHeld0 K
        try simp only [Act.put, sA, sB, sC]
        refine tk 3 71 rfl hHeld1 ?_
        refine tk 4 72 rfl hHeld1 ?_
        refine tk 6 74 rfl hHeld1 ?_
        refine wpAnyH_ready (rs := [5]) (by kernel_rfl) (by simp) (AllReadyH.cons (o := ⟨some 73, _, _, _, _, _⟩) rfl (fun K hK => ?_) AllReadyH.nil)
        go_simp
        (refine (nmean_at Ax nx cx 1 HM.out _ Rx (by omega)).mono ?_; rintro e w13 ⟨rfl, hb⟩; replace X := X.belowH hb; replace Y := Y.belowH hb; replace Rx := Rx.belowH hb; replace Ry := Ry.belowH hb; replace b := b.trans (hb.mono b.size); clear hb x0 x1 y0 y1; have x0 := X.at 0 rfl; have x1 := X.at 1 rfl; have y0 := Y.at 0 rfl; have y1 := Y.at 1 rfl)
        go_simp
        refine hK.out _ _ (by exact ⟨⟨x0, x1⟩, y0, y1⟩) (fun hHeld2 => ?_)
        clear hK hHeld1 K
        try simp only [Act.put, sA, sB, sC]
        refine wpAnyH_ready (rs := [7]) (by kernel_rfl) (by simp) (AllReadyH.cons (o := ⟨some 75, _, _, _, _, _⟩) rfl (fun K hK => ?_) AllReadyH.nil)
        go_simp
        (refine (nmean_at Ay ny cy 99 HM2.out _ Ry (by omega)).mono ?_; rintro e w14 ⟨rfl, hb⟩; replace X := X.belowH hb; replace Y := Y.belowH hb; replace Rx := Rx.belowH hb; replace Ry := Ry.belowH hb; replace b := b.trans (hb.mono b.size); clear hb x0 x1 y0 y1; have x0 := X.at 0 rfl; have x1 := X.at 1 rfl; have y0 := Y.at 0 rfl; have y1 := Y.at 1 rfl)
        go_simp
        refine hK.out _ _ (by exact ⟨⟨x0, x1⟩, y0, y1⟩) (fun hHeld3 => ?_)
        clear hK hHeld2 K
        try simp only [Act.put, sA, sB, sC]
        refine tk 8 76 rfl hHeld3 ?_
        refine tk 9 77 rfl hHeld3 ?_
        refine tk 10 4 rfl hHeld3 ?_
        refine wpAnyH_done (by kernel_rfl) ?_ _
        go_wp2
        go_ret
        exact ⟨by simp, b⟩
end Go.Proofs.Ytmhlhhfolbeifaa
