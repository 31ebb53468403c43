/- The walk of phi's law on news. -/
import Derived.Test.YtlnhdakafidhiaaPLaw3
import Derived.Test.YtlnhdakafidhiaaNRows
import Derived.Test.YtlnhdakafidhiaaPRows
namespace Go.Proofs.Ytlnhdakafidhiaa
set_option linter.unusedVariables false
set_option linter.unusedSimpArgs false
open Go.RowKit
theorem lvl_fresh {x : Wi} {now boot : Int} (hr : N.right x) (hl : x.last = now) (h0 : 0 ≤ now) (h1 : now ≤ 1099511627776) : Ph.lvl x now boot = (0, 0) := by
  rw [Ph.lvl_is ⟨hr, h0, by omega, h1⟩ (by omega), hl, Int.sub_self, Int.zero_mul, Int.zero_ediv]
theorem susp_fresh {x : Wi} {now boot th : Int} (hr : N.right x) (hl : x.last = now) (h0 : 0 ≤ now) (h1 : now ≤ 1099511627776) (ht : 0 ≤ th) : Ph.susp x now boot th = false := by
  unfold Ph.susp
  rw [lvl_fresh hr hl h0 h1]
  exact decide_eq_false (by simp only [true_and]; omega)

set_option maxHeartbeats 8000000 in
set_option maxRecDepth 100000 in
theorem law_PhiNews (u : Wv) (xa xb a2 : Int) (W : World) (w0 : WIn W u) (w1 : Pair16 xa xb) (w2 : (Lit.int .u16 a2).wf = true) :
    Calls Try.prog 8 #[wval u, .agg #[.int .u16 xa, .int .u16 xb], .int .u16 a2] W fun e w' => e = .returned (.bool true) ∧ Below W.heap.size W w' := by
  obtain ⟨⟨last, l⟩, A, n, c⟩ := u
  obtain ⟨R0, hlb⟩ := w0
  simp only at hlb
  have b2 := wf_bounds_u16 w2
  obtain ⟨ba, bb⟩ := w1
  unfold P16 at ba bb
  clear w2
  simp only [wval]
  have P := Box.new (W) #[.int .i64 last, .slice A n c] 24
  have b := (Below.refl W.heap.size W).alloc (Nat.le_refl _) (.cells #[.int .i64 last, .slice A n c] 24)
  have Q := Box.new ((W).alloc (.cells #[.int .i64 last, .slice A n c] 24)) #[.int .u16 xa, .int .u16 xb] 48
  rw [show ((W).alloc (.cells #[.int .i64 last, .slice A n c] 24)).heap.size = W.heap.size + 1 by simp] at Q
  replace P := P.alloc (.cells #[.int .u16 xa, .int .u16 xb] 48)
  replace b := b.alloc b.size (.cells #[.int .u16 xa, .int .u16 xb] 48)
  replace R0 := R0.belowH b
  obtain ⟨rb, hrb⟩ : ∃ rb, N.rightB ⟨last, l⟩ = rb := ⟨_, rfl⟩
  have HRB := Lib.hid hrb
  clear hrb
  go_enter Try.func8, Try.ntmps8
  go_wp2_with fail
  generalize ((W).alloc (.cells #[.int .i64 last, .slice A n c] 24)).alloc (.cells #[.int .u16 xa, .int .u16 xb] 48) = w1 at *
  refine (palive_any _).mono ?_
  rintro e v2 ⟨rfl, hb⟩
  replace P := P.belowH hb
  replace Q := Q.belowH hb
  replace R0 := R0.belowH hb
  replace b := b.trans (hb.mono b.size)
  clear hb
  (try dsimp only)
  have p0 := P.at 0 rfl
  have p1 := P.at 1 rfl
  have q0 := Q.at 0 rfl
  have q1 := Q.at 1 rfl
  go_wp2_with fail
  refine (rnright_at (x := ⟨last, l⟩) A n c HRB.out _ R0).mono ?_
  rintro e v3 ⟨rfl, hb⟩
  clear p0 p1 q0 q1
  replace P := P.belowH hb
  replace Q := Q.belowH hb
  replace R0 := R0.belowH hb
  replace b := b.trans (hb.mono b.size)
  clear hb
  (try dsimp only)
  have p0 := P.at 0 rfl
  have p1 := P.at 1 rfl
  have q0 := Q.at 0 rfl
  have q1 := Q.at 1 rfl
  rcases rb
  · go_wp2
    go_ret
    exact ⟨rfl, b⟩
  by_cases hgreat : 549755813888 < last
  · go_wp2
    go_ret
    exact ⟨rfl, b⟩
  have hr := rightB_iff_out HRB.out
  obtain ⟨base, hbase⟩ : ∃ t, max last 0 = t := ⟨_, rfl⟩
  obtain ⟨now, hnow⟩ : ∃ t, base + xa = t := ⟨_, rfl⟩
  have hnb : 0 ≤ now ∧ now ≤ 1099511627776 ∧ last ≤ now := by omega
  have hmay : N.may ⟨last, l⟩ now := ⟨hr, hnb.1, hnb.2.2, hnb.2.1⟩
  have harr := arr_yes (most := 50) hmay
  have hyr := N.next_right (most := 50) hmay
  have hyl : (N.next ⟨last, l⟩ now 50).last = now := rfl
  obtain ⟨y, hy⟩ : ∃ y, N.next ⟨last, l⟩ now 50 = y := ⟨_, rfl⟩
  rw [hy] at harr hyr hyl
  have HARR := Lib.hid harr
  have HLV := Lib.hid (lvl_fresh (boot := xb) hyr hyl hnb.1 hnb.2.1)
  have HSU := Lib.hid (susp_fresh (boot := xb) (th := a2) hyr hyl hnb.1 hnb.2.1 b2.1)
  have hfw := first_ways (x := y) (boot := xb) (th := a2) hyr (by omega) b2.1 (by omega)
  rw [hyl] at hfw
  have HYR := Lib.hid hyr
  have hy16 : y.gaps.length ≤ 16 := hyr.2.2.1
  have HFW := Lib.hid hfw
  obtain ⟨yl, yg⟩ := y
  obtain rfl : yl = now := hyl
  have hbb : 0 ≤ base ∧ base ≤ 549755813888 := by omega
  clear hr hmay harr hyr hy hfw
  go_wp2_with fail
  refine (rnarrive_at (x := ⟨last, l⟩) A n c yl 50 (by omega) (by omega) HARR.out _ R0).mono ?_
  rintro e v4 ⟨⟨A1, n1, c1, rfl, R1, _⟩, hb⟩
  clear p0 p1 q0 q1
  replace P := P.belowH hb
  replace Q := Q.belowH hb
  replace R0 := R0.belowH hb
  replace b := b.trans (hb.mono b.size)
  clear hb
  (try dsimp only)
  have p0 := P.at 0 rfl
  have p1 := P.at 1 rfl
  have q0 := Q.at 0 rfl
  have q1 := Q.at 1 rfl
  have hn1 : n1 ≤ 16 := wv_le R1 hy16
  clear hbase hnow
  clear p0 p1 q0 q1
  have X := Box.new v4 #[.int .i64 yl, .slice A1 n1 c1] 24
  replace P := P.alloc (.cells #[.int .i64 yl, .slice A1 n1 c1] 24)
  replace Q := Q.alloc (.cells #[.int .i64 yl, .slice A1 n1 c1] 24)
  replace R0 := R0.alloc (.cells #[.int .i64 yl, .slice A1 n1 c1] 24)
  replace R1 := R1.alloc (.cells #[.int .i64 yl, .slice A1 n1 c1] 24)
  replace b := b.alloc b.size (.cells #[.int .i64 yl, .slice A1 n1 c1] 24)
  have p0 := P.at 0 rfl
  have p1 := P.at 1 rfl
  have q0 := Q.at 0 rfl
  have q1 := Q.at 1 rfl
  have x0 := X.at 0 rfl
  have x1 := X.at 1 rfl
  go_wp2_with fail
  generalize v4.alloc (.cells #[.int .i64 yl, .slice A1 n1 c1] 24) = wz at *
  refine (level_at (x := ⟨yl, yg⟩) A1 n1 c1 yl xb (i64_of (by omega)) (i64_of (by omega)) HLV.out _ R1 (by omega)).mono ?_
  rintro e v5 ⟨rfl, hb⟩
  clear p0 p1 q0 q1 x0 x1
  replace P := P.belowH hb
  replace Q := Q.belowH hb
  replace X := X.belowH hb
  replace R0 := R0.belowH hb
  replace R1 := R1.belowH hb
  replace b := b.trans (hb.mono b.size)
  clear hb
  (try dsimp only)
  have p0 := P.at 0 rfl
  have p1 := P.at 1 rfl
  have q0 := Q.at 0 rfl
  have q1 := Q.at 1 rfl
  have x0 := X.at 0 rfl
  have x1 := X.at 1 rfl
  rcases HFW.out with hf | ⟨t, hf, ht1, ht2, _, _, _⟩
  · have HF := Lib.hid hf
    clear hf
    go_wp2_with fail
    refine (first_at (x := ⟨yl, yg⟩) A1 n1 c1 xb a2 (i64_of (by omega)) (i64_of (by omega)) HF.out _ R1 (by omega)).mono ?_
    rintro e v6 ⟨rfl, hb⟩
    clear p0 p1 q0 q1 x0 x1
    replace P := P.belowH hb
    replace Q := Q.belowH hb
    replace X := X.belowH hb
    replace R0 := R0.belowH hb
    replace R1 := R1.belowH hb
    replace b := b.trans (hb.mono b.size)
    clear hb
    (try dsimp only)
    have p0 := P.at 0 rfl
    have p1 := P.at 1 rfl
    have q0 := Q.at 0 rfl
    have q1 := Q.at 1 rfl
    have x0 := X.at 0 rfl
    have x1 := X.at 1 rfl
    go_wp2_with fail
    refine (suspect_at (x := ⟨yl, yg⟩) A1 n1 c1 yl xb a2 (i64_of (by omega)) (i64_of (by omega)) (i64_of (by omega)) HSU.out _ R1 (by omega)).mono ?_
    rintro e v7 ⟨rfl, hb⟩
    clear p0 p1 q0 q1 x0 x1
    replace P := P.belowH hb
    replace Q := Q.belowH hb
    replace X := X.belowH hb
    replace R0 := R0.belowH hb
    replace R1 := R1.belowH hb
    replace b := b.trans (hb.mono b.size)
    clear hb
    (try dsimp only)
    have p0 := P.at 0 rfl
    have p1 := P.at 1 rfl
    have q0 := Q.at 0 rfl
    have q1 := Q.at 1 rfl
    have x0 := X.at 0 rfl
    have x1 := X.at 1 rfl
    go_wp2
    go_ret
    exact ⟨by first | rfl | simp, b⟩
  · have HF := Lib.hid hf
    clear hf
    go_wp2_with fail
    refine (first_at (x := ⟨yl, yg⟩) A1 n1 c1 xb a2 (i64_of (by omega)) (i64_of (by omega)) HF.out _ R1 (by omega)).mono ?_
    rintro e v6 ⟨rfl, hb⟩
    clear p0 p1 q0 q1 x0 x1
    replace P := P.belowH hb
    replace Q := Q.belowH hb
    replace X := X.belowH hb
    replace R0 := R0.belowH hb
    replace R1 := R1.belowH hb
    replace b := b.trans (hb.mono b.size)
    clear hb
    (try dsimp only)
    have p0 := P.at 0 rfl
    have p1 := P.at 1 rfl
    have q0 := Q.at 0 rfl
    have q1 := Q.at 1 rfl
    have x0 := X.at 0 rfl
    have x1 := X.at 1 rfl
    go_wp2_with fail
    refine (suspect_at (x := ⟨yl, yg⟩) A1 n1 c1 yl xb a2 (i64_of (by omega)) (i64_of (by omega)) (i64_of (by omega)) HSU.out _ R1 (by omega)).mono ?_
    rintro e v7 ⟨rfl, hb⟩
    clear p0 p1 q0 q1 x0 x1
    replace P := P.belowH hb
    replace Q := Q.belowH hb
    replace X := X.belowH hb
    replace R0 := R0.belowH hb
    replace R1 := R1.belowH hb
    replace b := b.trans (hb.mono b.size)
    clear hb
    (try dsimp only)
    have p0 := P.at 0 rfl
    have p1 := P.at 1 rfl
    have q0 := Q.at 0 rfl
    have q1 := Q.at 1 rfl
    have x0 := X.at 0 rfl
    have x1 := X.at 1 rfl
    go_wp2
    go_ret
    exact ⟨by first | rfl | simp, b⟩
end Go.Proofs.Ytlnhdakafidhiaa
