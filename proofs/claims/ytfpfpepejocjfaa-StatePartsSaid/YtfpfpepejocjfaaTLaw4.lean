/- StateSets walks. -/
import Derived.Test.YtfpfpepejocjfaaTLaw3
namespace Go.Proofs.Ytfpfpepejocjfaa
set_option linter.unusedVariables false
set_option linter.unusedSimpArgs false
open Go.RowKit

theorem sset_length (s : St) (k : Int) (u : List UInt8) : (sset s k u).1.apps.length ≤ s.apps.length + 1 := by
  unfold sset
  split
  · split
    · show s.apps.length ≤ _; omega
    · exact E.put_length _ _
  · show s.apps.length ≤ _; omega
theorem sbeat_length (s : St) : (sbeat s).1.apps.length ≤ s.apps.length := by
  unfold sbeat
  split
  · split <;> exact Nat.le_refl _
  · exact Nat.le_refl _

set_option maxHeartbeats 8000000 in
set_option maxRecDepth 100000 in
theorem law_StateSets (v0 : Sv) (a1 : Int) (a2 : ByteArray) (W : World) (t0 : SIn W v0) (t1 : (Lit.int .i64 a1).wf = true) (t2 : a2.size ≤ maxLen) :
    Calls Try.prog 4 #[sv v0, .int .i64 a1, .string a2] W fun e w' => e = .returned (.bool true) ∧ Below W.heap.size W w' := by
  obtain ⟨u, rfl⟩ : ∃ u, a2 = strB u := ⟨a2.data.toList, rfl⟩
  have hus : (strB u).size = u.length := strB_size u
  rw [hus] at t2
  have HU := Lib.hid hus
  clear hus
  obtain ⟨⟨g0, e0, l0⟩, A0, n0, c0⟩ := v0
  obtain ⟨R0, hn0, hv0, _, _⟩ := t0
  simp only at hn0 hv0
  have HL0 := Lib.hid R0.len
  have HV0 := Lib.hid hv0
  clear hv0
  simp only [sv]
  have b := Below.refl W.heap.size W
  replace R0 := R0.allocH (.cells #[.int .i64 g0, .int .i64 e0, .slice A0 n0 c0] 24)
  have X := Box.new (W) #[.int .i64 g0, .int .i64 e0, .slice A0 n0 c0] 24
  replace b := b.alloc b.size (.cells #[.int .i64 g0, .int .i64 e0, .slice A0 n0 c0] 24)
  go_enter Try.func4, Try.ntmps4
  go_wp2_with fail
  refine (alive_any _).mono ?_
  rintro e w2 ⟨rfl, hb⟩
  replace R0 := R0.belowH hb
  replace X := X.belowH hb
  replace b := b.trans (hb.mono b.size)
  clear hb
  have x0 := X.at 0 rfl
  have x1 := X.at 1 rfl
  have x2 := X.at 2 rfl
  have LR := Rd.lit w2 #[.int .i64 g0, .int .i64 e0, .slice A0 n0 c0] 24 3 1 rfl
  replace R0 := R0.allocH (.cells #[.int .i64 g0, .int .i64 e0, .slice A0 n0 c0] 24)
  replace X := X.alloc (.cells #[.int .i64 g0, .int .i64 e0, .slice A0 n0 c0] 24)
  have LB := Box.new w2 #[.int .i64 g0, .int .i64 e0, .slice A0 n0 c0] 24
  replace b := b.alloc b.size (.cells #[.int .i64 g0, .int .i64 e0, .slice A0 n0 c0] 24)
  clear LB
  go_wp2_with fail
  refine (greats_any [⟨⟨g0, e0, l0⟩, A0, n0, c0⟩] _ 1 1 _ _ LR (by simp) (by omega) (fun v hv => by simp at hv; rcases hv with rfl <;> first | exact ⟨R0, hn0, HV0.out⟩)).mono ?_
  rintro e w3 ⟨rfl, hb⟩
  replace R0 := R0.belowH hb
  replace X := X.belowH hb
  replace b := b.trans (hb.mono b.size)
  clear hb
  clear LR
  clear x0 x1 x2
  rcases hgr : greats [⟨⟨g0, e0, l0⟩, A0, n0, c0⟩]
  · skip
    simp only [greats, List.any_cons, List.any_nil, Bool.or_false, Bool.or_eq_false_iff] at hgr
    have hs0 := great_small hgr HL0.out
    clear hgr
    by_cases hul : u.length ≤ 1000
    · have hsz : (strB u).size = u.length := HU.out
      have hlb : decide ((1000 : Int) < (((strB u).size : Nat) : Int)) = false := decide_eq_false (by rw [hsz]; omega)
      clear hsz
      have x0 := X.at 0 rfl
      have x1 := X.at 1 rfl
      have x2 := X.at 2 rfl
      go_wp2_with fail
      refine (rscopy_any ⟨⟨g0, e0, l0⟩, A0, n0, c0⟩  _ R0 (by show n0 ≤ _; omega)).mono ?_
      rintro e w4 ⟨⟨so, Ao, no, co⟩, rfl, hs, hown, hb⟩
      simp only at hs
      have Ho : Hid (so = ⟨g0, e0, l0⟩) := Lib.hid hs
      have Ro := hown.srd
      have bdo : no ≤ n0 := by have hq := Ro.len; have := HL0.out; rw [Ho.out] at hq; (try simp only at *); omega
      clear hs hown
      replace R0 := R0.belowH hb
      replace X := X.belowH hb
      replace b := b.trans (hb.mono b.size)
      clear hb
      simp only [sv]
      clear x0 x1 x2
      obtain rfl := Ho.out
      clear Ho hlb
      simp only
      replace R0 := R0.allocH (.cells #[.int .i64 g0, .int .i64 e0, .slice Ao no co] 24)
      replace Ro := Ro.allocH (.cells #[.int .i64 g0, .int .i64 e0, .slice Ao no co] 24)
      replace X := X.alloc (.cells #[.int .i64 g0, .int .i64 e0, .slice Ao no co] 24)
      have O := Box.new w4 #[.int .i64 g0, .int .i64 e0, .slice Ao no co] 24
      replace b := b.alloc b.size (.cells #[.int .i64 g0, .int .i64 e0, .slice Ao no co] 24)
      have x0 := X.at 0 rfl
      have x1 := X.at 1 rfl
      have x2 := X.at 2 rfl
      have o0 := O.at 0 rfl
      have o1 := O.at 1 rfl
      have o2 := O.at 2 rfl
      go_wp2_with fail
      refine (sset_any ⟨⟨g0, e0, l0⟩, Ao, no, co⟩ a1 u _ Ro (by show no ≤ _; omega) (by omega)).mono ?_
      rintro e w5 ⟨⟨sx, Ax, nx, cx⟩, rfl, hs, Rx, hb⟩
      simp only at hs
      have Hx : Hid (sx = (sset ⟨g0, e0, l0⟩ a1 u).1) := Lib.hid hs
      have bdx : nx ≤ n0 + 1 := by have hq := Rx.len; have := HL0.out; have := sset_length ⟨g0, e0, l0⟩ a1 u; rw [Hx.out] at hq; (try simp only at *); omega
      clear hs
      replace R0 := R0.belowH hb
      replace Ro := Ro.belowH hb
      replace X := X.belowH hb
      replace O := O.belowH hb
      replace b := b.trans (hb.mono b.size)
      clear hb
      simp only [sv]
      clear x0 x1 x2
      clear o0 o1 o2
      replace R0 := R0.allocH (.cells #[.int .i64 sx.gen, .int .i64 sx.beat, .slice Ax nx cx] 24)
      replace Ro := Ro.allocH (.cells #[.int .i64 sx.gen, .int .i64 sx.beat, .slice Ax nx cx] 24)
      replace Rx := Rx.allocH (.cells #[.int .i64 sx.gen, .int .i64 sx.beat, .slice Ax nx cx] 24)
      replace X := X.alloc (.cells #[.int .i64 sx.gen, .int .i64 sx.beat, .slice Ax nx cx] 24)
      replace O := O.alloc (.cells #[.int .i64 sx.gen, .int .i64 sx.beat, .slice Ax nx cx] 24)
      have Xa := Box.new w5 #[.int .i64 sx.gen, .int .i64 sx.beat, .slice Ax nx cx] 24
      replace b := b.alloc b.size (.cells #[.int .i64 sx.gen, .int .i64 sx.beat, .slice Ax nx cx] 24)
      have x0 := X.at 0 rfl
      have x1 := X.at 1 rfl
      have x2 := X.at 2 rfl
      have o0 := O.at 0 rfl
      have o1 := O.at 1 rfl
      have o2 := O.at 2 rfl
      go_wp2_with fail
      refine (rsset_any ⟨⟨g0, e0, l0⟩, A0, n0, c0⟩ a1 u _ R0 (by show n0 ≤ _; omega) (by omega)).mono ?_
      rintro e w6 ⟨⟨sy, Ay, ny, cy⟩, rfl, hs, Ry, hb⟩
      simp only at hs
      have Hy : Hid (sy = (sset ⟨g0, e0, l0⟩ a1 u).1) := Lib.hid hs
      have bdy : ny ≤ n0 + 1 := by have hq := Ry.len; have := HL0.out; have := sset_length ⟨g0, e0, l0⟩ a1 u; rw [Hy.out] at hq; (try simp only at *); omega
      clear hs
      replace R0 := R0.belowH hb
      replace Ro := Ro.belowH hb
      replace Rx := Rx.belowH hb
      replace X := X.belowH hb
      replace O := O.belowH hb
      replace Xa := Xa.belowH hb
      replace b := b.trans (hb.mono b.size)
      clear hb
      simp only [sv]
      clear x0 x1 x2
      clear o0 o1 o2
      replace R0 := R0.allocH (.cells #[.int .i64 sy.gen, .int .i64 sy.beat, .slice Ay ny cy] 24)
      replace Ro := Ro.allocH (.cells #[.int .i64 sy.gen, .int .i64 sy.beat, .slice Ay ny cy] 24)
      replace Rx := Rx.allocH (.cells #[.int .i64 sy.gen, .int .i64 sy.beat, .slice Ay ny cy] 24)
      replace Ry := Ry.allocH (.cells #[.int .i64 sy.gen, .int .i64 sy.beat, .slice Ay ny cy] 24)
      replace X := X.alloc (.cells #[.int .i64 sy.gen, .int .i64 sy.beat, .slice Ay ny cy] 24)
      replace O := O.alloc (.cells #[.int .i64 sy.gen, .int .i64 sy.beat, .slice Ay ny cy] 24)
      replace Xa := Xa.alloc (.cells #[.int .i64 sy.gen, .int .i64 sy.beat, .slice Ay ny cy] 24)
      have Xb := Box.new w6 #[.int .i64 sy.gen, .int .i64 sy.beat, .slice Ay ny cy] 24
      replace b := b.alloc b.size (.cells #[.int .i64 sy.gen, .int .i64 sy.beat, .slice Ay ny cy] 24)
      have x0 := X.at 0 rfl
      have x1 := X.at 1 rfl
      have x2 := X.at 2 rfl
      have o0 := O.at 0 rfl
      have o1 := O.at 1 rfl
      have o2 := O.at 2 rfl
      go_wp2_with fail
      refine (sbeat_any ⟨⟨g0, e0, l0⟩, Ao, no, co⟩ _ Ro (by show no ≤ _; omega)).mono ?_
      rintro e w7 ⟨⟨sz, Az, nz, cz⟩, rfl, hs, Rz, hb⟩
      simp only at hs
      have Hz : Hid (sz = (sbeat ⟨g0, e0, l0⟩).1) := Lib.hid hs
      have bdz : nz ≤ n0 := by have hq := Rz.len; have := HL0.out; have := sbeat_length ⟨g0, e0, l0⟩; rw [Hz.out] at hq; (try simp only at *); omega
      clear hs
      replace R0 := R0.belowH hb
      replace Ro := Ro.belowH hb
      replace Rx := Rx.belowH hb
      replace Ry := Ry.belowH hb
      replace X := X.belowH hb
      replace O := O.belowH hb
      replace Xa := Xa.belowH hb
      replace Xb := Xb.belowH hb
      replace b := b.trans (hb.mono b.size)
      clear hb
      simp only [sv]
      clear x0 x1 x2
      clear o0 o1 o2
      replace R0 := R0.allocH (.cells #[.int .i64 sz.gen, .int .i64 sz.beat, .slice Az nz cz] 24)
      replace Ro := Ro.allocH (.cells #[.int .i64 sz.gen, .int .i64 sz.beat, .slice Az nz cz] 24)
      replace Rx := Rx.allocH (.cells #[.int .i64 sz.gen, .int .i64 sz.beat, .slice Az nz cz] 24)
      replace Ry := Ry.allocH (.cells #[.int .i64 sz.gen, .int .i64 sz.beat, .slice Az nz cz] 24)
      replace Rz := Rz.allocH (.cells #[.int .i64 sz.gen, .int .i64 sz.beat, .slice Az nz cz] 24)
      replace X := X.alloc (.cells #[.int .i64 sz.gen, .int .i64 sz.beat, .slice Az nz cz] 24)
      replace O := O.alloc (.cells #[.int .i64 sz.gen, .int .i64 sz.beat, .slice Az nz cz] 24)
      replace Xa := Xa.alloc (.cells #[.int .i64 sz.gen, .int .i64 sz.beat, .slice Az nz cz] 24)
      replace Xb := Xb.alloc (.cells #[.int .i64 sz.gen, .int .i64 sz.beat, .slice Az nz cz] 24)
      have Xc := Box.new w7 #[.int .i64 sz.gen, .int .i64 sz.beat, .slice Az nz cz] 24
      replace b := b.alloc b.size (.cells #[.int .i64 sz.gen, .int .i64 sz.beat, .slice Az nz cz] 24)
      have x0 := X.at 0 rfl
      have x1 := X.at 1 rfl
      have x2 := X.at 2 rfl
      have o0 := O.at 0 rfl
      have o1 := O.at 1 rfl
      have o2 := O.at 2 rfl
      go_wp2_with fail
      refine (rsbeat_any ⟨⟨g0, e0, l0⟩, A0, n0, c0⟩ _ R0 (by show n0 ≤ _; omega)).mono ?_
      rintro e w8 ⟨⟨sq, Aq, nq, cq⟩, rfl, hs, Rq, hb⟩
      simp only at hs
      have Hq : Hid (sq = (sbeat ⟨g0, e0, l0⟩).1) := Lib.hid hs
      have bdq : nq ≤ n0 := by have hq := Rq.len; have := HL0.out; have := sbeat_length ⟨g0, e0, l0⟩; rw [Hq.out] at hq; (try simp only at *); omega
      clear hs
      replace R0 := R0.belowH hb
      replace Ro := Ro.belowH hb
      replace Rx := Rx.belowH hb
      replace Ry := Ry.belowH hb
      replace Rz := Rz.belowH hb
      replace X := X.belowH hb
      replace O := O.belowH hb
      replace Xa := Xa.belowH hb
      replace Xb := Xb.belowH hb
      replace Xc := Xc.belowH hb
      replace b := b.trans (hb.mono b.size)
      clear hb
      simp only [sv]
      clear x0 x1 x2
      clear o0 o1 o2
      replace R0 := R0.allocH (.cells #[.int .i64 sq.gen, .int .i64 sq.beat, .slice Aq nq cq] 24)
      replace Ro := Ro.allocH (.cells #[.int .i64 sq.gen, .int .i64 sq.beat, .slice Aq nq cq] 24)
      replace Rx := Rx.allocH (.cells #[.int .i64 sq.gen, .int .i64 sq.beat, .slice Aq nq cq] 24)
      replace Ry := Ry.allocH (.cells #[.int .i64 sq.gen, .int .i64 sq.beat, .slice Aq nq cq] 24)
      replace Rz := Rz.allocH (.cells #[.int .i64 sq.gen, .int .i64 sq.beat, .slice Aq nq cq] 24)
      replace Rq := Rq.allocH (.cells #[.int .i64 sq.gen, .int .i64 sq.beat, .slice Aq nq cq] 24)
      replace X := X.alloc (.cells #[.int .i64 sq.gen, .int .i64 sq.beat, .slice Aq nq cq] 24)
      replace O := O.alloc (.cells #[.int .i64 sq.gen, .int .i64 sq.beat, .slice Aq nq cq] 24)
      replace Xa := Xa.alloc (.cells #[.int .i64 sq.gen, .int .i64 sq.beat, .slice Aq nq cq] 24)
      replace Xb := Xb.alloc (.cells #[.int .i64 sq.gen, .int .i64 sq.beat, .slice Aq nq cq] 24)
      replace Xc := Xc.alloc (.cells #[.int .i64 sq.gen, .int .i64 sq.beat, .slice Aq nq cq] 24)
      have Xd := Box.new w8 #[.int .i64 sq.gen, .int .i64 sq.beat, .slice Aq nq cq] 24
      replace b := b.alloc b.size (.cells #[.int .i64 sq.gen, .int .i64 sq.beat, .slice Aq nq cq] 24)
      have x0 := X.at 0 rfl
      have x1 := X.at 1 rfl
      have x2 := X.at 2 rfl
      have o0 := O.at 0 rfl
      have o1 := O.at 1 rfl
      have o2 := O.at 2 rfl
      have xa0 := Xa.at 0 rfl
      have xa1 := Xa.at 1 rfl
      have xa2 := Xa.at 2 rfl
      have xb0 := Xb.at 0 rfl
      have xb1 := Xb.at 1 rfl
      have xb2 := Xb.at 2 rfl
      have xc0 := Xc.at 0 rfl
      have xc1 := Xc.at 1 rfl
      have xc2 := Xc.at 2 rfl
      have xd0 := Xd.at 0 rfl
      have xd1 := Xd.at 1 rfl
      have xd2 := Xd.at 2 rfl
      go_wp2_with fail
      refine (rssame_any ⟨sx, Ax, nx, cx⟩ ⟨sy, Ay, ny, cy⟩ _ Rx Ry (by show nx * 32 ≤ _; omega) (by show ny * 32 ≤ _; omega)).mono ?_
      rw [show sameB sx sy = true from sameB_yes (Hx.out.trans Hy.out.symm)]
      rintro e w9 ⟨rfl, hb⟩
      replace R0 := R0.belowH hb
      replace Ro := Ro.belowH hb
      replace Rx := Rx.belowH hb
      replace Ry := Ry.belowH hb
      replace Rz := Rz.belowH hb
      replace Rq := Rq.belowH hb
      replace X := X.belowH hb
      replace O := O.belowH hb
      replace Xa := Xa.belowH hb
      replace Xb := Xb.belowH hb
      replace Xc := Xc.belowH hb
      replace Xd := Xd.belowH hb
      replace b := b.trans (hb.mono b.size)
      clear hb
      clear x0 x1 x2
      clear o0 o1 o2
      clear xa0 xa1 xa2
      clear xb0 xb1 xb2
      clear xc0 xc1 xc2
      clear xd0 xd1 xd2
      have x0 := X.at 0 rfl
      have x1 := X.at 1 rfl
      have x2 := X.at 2 rfl
      have o0 := O.at 0 rfl
      have o1 := O.at 1 rfl
      have o2 := O.at 2 rfl
      have xa0 := Xa.at 0 rfl
      have xa1 := Xa.at 1 rfl
      have xa2 := Xa.at 2 rfl
      have xb0 := Xb.at 0 rfl
      have xb1 := Xb.at 1 rfl
      have xb2 := Xb.at 2 rfl
      have xc0 := Xc.at 0 rfl
      have xc1 := Xc.at 1 rfl
      have xc2 := Xc.at 2 rfl
      have xd0 := Xd.at 0 rfl
      have xd1 := Xd.at 1 rfl
      have xd2 := Xd.at 2 rfl
      go_wp2_with fail
      refine (rssame_any ⟨sz, Az, nz, cz⟩ ⟨sq, Aq, nq, cq⟩ _ Rz Rq (by show nz * 32 ≤ _; omega) (by show nq * 32 ≤ _; omega)).mono ?_
      rw [show sameB sz sq = true from sameB_yes (Hz.out.trans Hq.out.symm)]
      rintro e w10 ⟨rfl, hb⟩
      replace R0 := R0.belowH hb
      replace Ro := Ro.belowH hb
      replace Rx := Rx.belowH hb
      replace Ry := Ry.belowH hb
      replace Rz := Rz.belowH hb
      replace Rq := Rq.belowH hb
      replace X := X.belowH hb
      replace O := O.belowH hb
      replace Xa := Xa.belowH hb
      replace Xb := Xb.belowH hb
      replace Xc := Xc.belowH hb
      replace Xd := Xd.belowH hb
      replace b := b.trans (hb.mono b.size)
      clear hb
      clear x0 x1 x2
      clear o0 o1 o2
      clear xa0 xa1 xa2
      clear xb0 xb1 xb2
      clear xc0 xc1 xc2
      clear xd0 xd1 xd2
      have x0 := X.at 0 rfl
      have x1 := X.at 1 rfl
      have x2 := X.at 2 rfl
      have o0 := O.at 0 rfl
      have o1 := O.at 1 rfl
      have o2 := O.at 2 rfl
      have xa0 := Xa.at 0 rfl
      have xa1 := Xa.at 1 rfl
      have xa2 := Xa.at 2 rfl
      have xb0 := Xb.at 0 rfl
      have xb1 := Xb.at 1 rfl
      have xb2 := Xb.at 2 rfl
      have xc0 := Xc.at 0 rfl
      have xc1 := Xc.at 1 rfl
      have xc2 := Xc.at 2 rfl
      have xd0 := Xd.at 0 rfl
      have xd1 := Xd.at 1 rfl
      have xd2 := Xd.at 2 rfl
      go_wp2_with fail
      refine (rssame_any ⟨⟨g0, e0, l0⟩, Ao, no, co⟩ ⟨⟨g0, e0, l0⟩, A0, n0, c0⟩ _ Ro R0 (by show no * 32 ≤ _; omega) (by show n0 * 32 ≤ _; omega)).mono ?_
      rw [sameB_yes rfl]
      rintro e w11 ⟨rfl, hb⟩
      replace R0 := R0.belowH hb
      replace Ro := Ro.belowH hb
      replace Rx := Rx.belowH hb
      replace Ry := Ry.belowH hb
      replace Rz := Rz.belowH hb
      replace Rq := Rq.belowH hb
      replace X := X.belowH hb
      replace O := O.belowH hb
      replace Xa := Xa.belowH hb
      replace Xb := Xb.belowH hb
      replace Xc := Xc.belowH hb
      replace Xd := Xd.belowH hb
      replace b := b.trans (hb.mono b.size)
      clear hb
      go_wp2
      go_ret
      exact ⟨rfl, b⟩
    · have hsz : (strB u).size = u.length := HU.out
      have hlb : decide ((1000 : Int) < (((strB u).size : Nat) : Int)) = true := decide_eq_true (by rw [hsz]; omega)
      go_wp2
      go_ret
      exact ⟨rfl, b⟩
  · go_wp2
    go_ret
    exact ⟨rfl, b⟩
end Go.Proofs.Ytfpfpepejocjfaa
