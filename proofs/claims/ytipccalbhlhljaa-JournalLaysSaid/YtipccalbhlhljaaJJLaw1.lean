/- JLaw1 (merged). -/
import Derived.Test.YtipccalbhlhljaaJJA
import Derived.Test.YtipccalbhlhljaaJJRows
namespace Go.Proofs.Ytipccalbhlhljaa
set_option linter.unusedVariables false
set_option linter.unusedSimpArgs false
open Go.RowKit
set_option maxHeartbeats 8000000 in
set_option maxRecDepth 100000 in
theorem law_JournalLays (x : Rc) (sb : List UInt8) (W : World) (w0 : RcIn x) (w1 : sb.length = 64) :
    Calls Try.prog 3 #[.agg #[.int .i64 x.seq, .int .i64 x.gen, .string (strB x.note)], .agg (U sb).toArray] W fun e w' => e = .returned (.bool true) ∧ Below W.heap.size W w' := by
  have hs : Hid (sb.length = 64) := Lib.hid w1
  clear w1
  have hsz : (strB x.note).size = x.note.length := J.strB_size x.note
  have HSZ := Lib.hid hsz
  have hnt : (strB x.note).size ≤ 9223372036854775807 := by have := w0.2.2; omega
  clear hsz
  obtain ⟨⟨lt, le⟩, hl⟩ : ∃ z, J.lay x = z := ⟨_, rfl⟩
  have HLY := Lib.hid hl
  have hlt : Hid (lt.length = 64) := Lib.hid (by have := J.lay_len x; rw [hl] at this; exact this)
  obtain ⟨⟨y, ye⟩, hy⟩ : ∃ z, J.find sb = z := ⟨_, rfl⟩
  have HFY := Lib.hid hy
  clear hl hy
  have EQ1 := sec_in lt lt hlt.out hlt.out
  have qy := fun w => (eq_rc y y w).trans (by rw [rcB_self])
  have hgd := guard_rc
  have hgs := guard_sec
  have P := Box.new (W) #[.int .i64 x.seq, .int .i64 x.gen, .string (strB x.note)] 23
  have b := (Below.refl W.heap.size W).alloc (Nat.le_refl _) (.cells #[.int .i64 x.seq, .int .i64 x.gen, .string (strB x.note)] 23)
  have D := Box.new ((W).alloc (.cells #[.int .i64 x.seq, .int .i64 x.gen, .string (strB x.note)] 23)) (U sb).toArray 24
  rw [show ((W).alloc (.cells #[.int .i64 x.seq, .int .i64 x.gen, .string (strB x.note)] 23)).heap.size = W.heap.size + 1 by simp] at D
  replace P := P.alloc (.cells (U sb).toArray 24)
  replace b := b.alloc b.size (.cells (U sb).toArray 24)
  go_enter Try.func3, Try.ntmps3
  go_wp2_with fail
  generalize ((W).alloc (.cells #[.int .i64 x.seq, .int .i64 x.gen, .string (strB x.note)] 23)).alloc (.cells (U sb).toArray 24) = w1' at *
  refine (jalive_any _).mono ?_
  rintro e v1 ⟨rfl, hb⟩
  replace P := P.belowH hb
  replace D := D.belowH hb
  replace b := b.trans (hb.mono b.size)
  clear hb
  (try dsimp only)
  have p0 := P.at 0 rfl
  have p1 := P.at 1 rfl
  have p2 := P.at 2 rfl
  by_cases hn : 300 < (strB x.note).size
  · go_wp2
    go_ret
    exact ⟨rfl, b⟩
  go_wp2_with (first | ((with_reducible refine sec_take _ (W.heap.size + 1) 0 sb hs.out (sec_box D) ?hw ?hx ?_); (case hw => rfl); (case hx => rfl)))
  refine (jlay_at HLY.out w0 _).mono ?_
  rintro e v2 ⟨rfl, hb⟩
  clear p0 p1 p2
  replace P := P.belowH hb
  replace D := D.belowH hb
  replace b := b.trans (hb.mono b.size)
  clear hb
  (try dsimp only)
  have C := Box.new v2 (U lt).toArray 24
  replace P := P.alloc (.cells (U lt).toArray 24)
  replace D := D.alloc (.cells (U lt).toArray 24)
  replace b := b.alloc b.size (.cells (U lt).toArray 24)
  have p0 := P.at 0 rfl
  have p1 := P.at 1 rfl
  have p2 := P.at 2 rfl
  go_wp2_with (first | ((with_reducible refine sec_new _ lt hlt.out ?hd ?hy ?_); (case hd => rfl); (case hy => rfl)) | ((with_reducible refine sec_take _ (W.heap.size + 1) 0 sb hs.out (sec_box D) ?hw ?hx ?_); (case hw => rfl); (case hx => rfl)) | ((with_reducible refine sec_take _ (v2.heap.size) 0 lt hlt.out (sec_box C) ?hw ?hx ?_); (case hw => rfl); (case hx => rfl)))
  generalize v2.alloc (.cells (U lt).toArray 24) = s2 at *
  refine (rjlay_at HLY.out w0 _).mono ?_
  rintro e v3 ⟨rfl, hb⟩
  clear p0 p1 p2
  replace P := P.belowH hb
  replace D := D.belowH hb
  replace C := C.belowH hb
  replace b := b.trans (hb.mono b.size)
  clear hb
  (try dsimp only)
  have A := Box.new v3 (U lt).toArray 24
  replace P := P.alloc (.cells (U lt).toArray 24)
  replace D := D.alloc (.cells (U lt).toArray 24)
  replace C := C.alloc (.cells (U lt).toArray 24)
  replace b := b.alloc b.size (.cells (U lt).toArray 24)
  have p0 := P.at 0 rfl
  have p1 := P.at 1 rfl
  have p2 := P.at 2 rfl
  go_wp2_with (first | ((with_reducible refine sec_new _ lt hlt.out ?hd ?hy ?_); (case hd => rfl); (case hy => rfl)) | ((with_reducible refine sec_take _ (W.heap.size + 1) 0 sb hs.out (sec_box D) ?hw ?hx ?_); (case hw => rfl); (case hx => rfl)) | ((with_reducible refine sec_take _ (v2.heap.size) 0 lt hlt.out (sec_box C) ?hw ?hx ?_); (case hw => rfl); (case hx => rfl)) | ((with_reducible refine sec_take _ (v3.heap.size) 0 lt hlt.out (sec_box A) ?hw ?hx ?_); (case hw => rfl); (case hx => rfl)))
  generalize v3.alloc (.cells (U lt).toArray 24) = s3 at *
  refine (jfind_at HFY.out hs.out _).mono ?_
  rintro e v4 ⟨rfl, hb⟩
  clear p0 p1 p2
  replace P := P.belowH hb
  replace D := D.belowH hb
  replace C := C.belowH hb
  replace A := A.belowH hb
  replace b := b.trans (hb.mono b.size)
  clear hb
  (try dsimp only)
  simp only [rv]
  have Y := Box.new v4 #[.int .i64 y.seq, .int .i64 y.gen, .string (strB y.note)] 23
  replace P := P.alloc (.cells #[.int .i64 y.seq, .int .i64 y.gen, .string (strB y.note)] 23)
  replace D := D.alloc (.cells #[.int .i64 y.seq, .int .i64 y.gen, .string (strB y.note)] 23)
  replace C := C.alloc (.cells #[.int .i64 y.seq, .int .i64 y.gen, .string (strB y.note)] 23)
  replace A := A.alloc (.cells #[.int .i64 y.seq, .int .i64 y.gen, .string (strB y.note)] 23)
  replace b := b.alloc b.size (.cells #[.int .i64 y.seq, .int .i64 y.gen, .string (strB y.note)] 23)
  have p0 := P.at 0 rfl
  have p1 := P.at 1 rfl
  have p2 := P.at 2 rfl
  have y0 := Y.at 0 rfl
  have y1 := Y.at 1 rfl
  have y2 := Y.at 2 rfl
  go_wp2_with (first | ((with_reducible refine sec_take _ (W.heap.size + 1) 0 sb hs.out (sec_box D) ?hw ?hx ?_); (case hw => rfl); (case hx => rfl)) | ((with_reducible refine sec_take _ (v2.heap.size) 0 lt hlt.out (sec_box C) ?hw ?hx ?_); (case hw => rfl); (case hx => rfl)) | ((with_reducible refine sec_take _ (v3.heap.size) 0 lt hlt.out (sec_box A) ?hw ?hx ?_); (case hw => rfl); (case hx => rfl)))
  generalize v4.alloc (.cells #[.int .i64 y.seq, .int .i64 y.gen, .string (strB y.note)] 23) = s4 at *
  refine (rjfind_at HFY.out hs.out _).mono ?_
  rintro e v5 ⟨rfl, hb⟩
  clear p0 p1 p2 y0 y1 y2
  replace P := P.belowH hb
  replace D := D.belowH hb
  replace C := C.belowH hb
  replace A := A.belowH hb
  replace Y := Y.belowH hb
  replace b := b.trans (hb.mono b.size)
  clear hb
  (try dsimp only)
  simp only [rv]
  have Z := Box.new v5 #[.int .i64 y.seq, .int .i64 y.gen, .string (strB y.note)] 23
  replace P := P.alloc (.cells #[.int .i64 y.seq, .int .i64 y.gen, .string (strB y.note)] 23)
  replace D := D.alloc (.cells #[.int .i64 y.seq, .int .i64 y.gen, .string (strB y.note)] 23)
  replace C := C.alloc (.cells #[.int .i64 y.seq, .int .i64 y.gen, .string (strB y.note)] 23)
  replace A := A.alloc (.cells #[.int .i64 y.seq, .int .i64 y.gen, .string (strB y.note)] 23)
  replace Y := Y.alloc (.cells #[.int .i64 y.seq, .int .i64 y.gen, .string (strB y.note)] 23)
  replace b := b.alloc b.size (.cells #[.int .i64 y.seq, .int .i64 y.gen, .string (strB y.note)] 23)
  have p0 := P.at 0 rfl
  have p1 := P.at 1 rfl
  have p2 := P.at 2 rfl
  have y0 := Y.at 0 rfl
  have y1 := Y.at 1 rfl
  have y2 := Y.at 2 rfl
  have z0 := Z.at 0 rfl
  have z1 := Z.at 1 rfl
  have z2 := Z.at 2 rfl
  rcases (show (J.may x ∧ lt = J.sec x ∧ le = 0) ∨ (¬ J.may x ∧ le = 1) from by
    by_cases hm : J.may x
    · left; have h := HLY.out; rw [J.lay_yes hm] at h; injection h with h1 h2; exact ⟨hm, h1.symm, h2.symm⟩
    · right; have h := HLY.out; rw [J.lay_no hm] at h; injection h with h1 h2; exact ⟨hm, h2.symm⟩) with ⟨hm, e1, e2⟩ | ⟨hm, e2⟩
  · subst e2
    have HFX : Hid (J.find lt = (x, 0)) := Lib.hid (by rw [e1]; exact J.find_sec hm)
    have qx := fun w => (eq_rc x x w).trans (by rw [rcB_self])
    clear e1 hm
    go_wp2_with (first | ((with_reducible refine sec_take _ (W.heap.size + 1) 0 sb hs.out (sec_box D) ?hw ?hx ?_); (case hw => rfl); (case hx => rfl)) | ((with_reducible refine sec_take _ (v2.heap.size) 0 lt hlt.out (sec_box C) ?hw ?hx ?_); (case hw => rfl); (case hx => rfl)) | ((with_reducible refine sec_take _ (v3.heap.size) 0 lt hlt.out (sec_box A) ?hw ?hx ?_); (case hw => rfl); (case hx => rfl)))
    generalize v5.alloc (.cells #[.int .i64 y.seq, .int .i64 y.gen, .string (strB y.note)] 23) = s5 at *
    refine (jfind_at HFX.out hlt.out _).mono ?_
    rintro e v6 ⟨rfl, hb⟩
    clear p0 p1 p2 y0 y1 y2 z0 z1 z2
    replace P := P.belowH hb
    replace D := D.belowH hb
    replace C := C.belowH hb
    replace A := A.belowH hb
    replace Y := Y.belowH hb
    replace Z := Z.belowH hb
    replace b := b.trans (hb.mono b.size)
    clear hb
    (try dsimp only)
    simp only [rv]
    have T := Box.new v6 #[.int .i64 x.seq, .int .i64 x.gen, .string (strB x.note)] 23
    replace P := P.alloc (.cells #[.int .i64 x.seq, .int .i64 x.gen, .string (strB x.note)] 23)
    replace D := D.alloc (.cells #[.int .i64 x.seq, .int .i64 x.gen, .string (strB x.note)] 23)
    replace C := C.alloc (.cells #[.int .i64 x.seq, .int .i64 x.gen, .string (strB x.note)] 23)
    replace A := A.alloc (.cells #[.int .i64 x.seq, .int .i64 x.gen, .string (strB x.note)] 23)
    replace Y := Y.alloc (.cells #[.int .i64 x.seq, .int .i64 x.gen, .string (strB x.note)] 23)
    replace Z := Z.alloc (.cells #[.int .i64 x.seq, .int .i64 x.gen, .string (strB x.note)] 23)
    replace b := b.alloc b.size (.cells #[.int .i64 x.seq, .int .i64 x.gen, .string (strB x.note)] 23)
    have p0 := P.at 0 rfl
    have p1 := P.at 1 rfl
    have p2 := P.at 2 rfl
    have y0 := Y.at 0 rfl
    have y1 := Y.at 1 rfl
    have y2 := Y.at 2 rfl
    have z0 := Z.at 0 rfl
    have z1 := Z.at 1 rfl
    have z2 := Z.at 2 rfl
    have t0 := T.at 0 rfl
    have t1 := T.at 1 rfl
    have t2 := T.at 2 rfl
    rcases (show (ye = 10) ∨ (J.may y ∧ J.sec y = sb ∧ ye = 0) from by
      rcases J.find_or sb with h | ⟨z, h1, h2, h3⟩
      · left; rw [HFY.out] at h; injection h with h1 h2
      · right; rw [HFY.out] at h3; injection h3 with h4 h5; subst h4; exact ⟨h1, h2, h5⟩) with ey | ⟨hmy, esb, ey⟩
    · subst ey
      go_wp2_with (first | ((with_reducible refine sec_take _ (W.heap.size + 1) 0 sb hs.out (sec_box D) ?hw ?hx ?_); (case hw => rfl); (case hx => rfl)) | ((with_reducible refine sec_take _ (v2.heap.size) 0 lt hlt.out (sec_box C) ?hw ?hx ?_); (case hw => rfl); (case hx => rfl)) | ((with_reducible refine sec_take _ (v3.heap.size) 0 lt hlt.out (sec_box A) ?hw ?hx ?_); (case hw => rfl); (case hx => rfl)))
      go_ret
      exact ⟨ret_bool (by simp), b⟩
    · subst ey
      have HS2 := Lib.hid (J.lay_yes hmy)
      have h5 : Hid ((J.sec y).length = 64) := Lib.hid (J.sec_len hmy)
      have EQ2 := sec_in (J.sec y) sb h5.out hs.out
      have t2 : (J.sec y == sb) = true := beq_iff_eq.2 esb
      have hiny := may_in hmy
      clear esb hmy
      go_wp2_with (first | ((with_reducible refine sec_take _ (W.heap.size + 1) 0 sb hs.out (sec_box D) ?hw ?hx ?_); (case hw => rfl); (case hx => rfl)) | ((with_reducible refine sec_take _ (v2.heap.size) 0 lt hlt.out (sec_box C) ?hw ?hx ?_); (case hw => rfl); (case hx => rfl)) | ((with_reducible refine sec_take _ (v3.heap.size) 0 lt hlt.out (sec_box A) ?hw ?hx ?_); (case hw => rfl); (case hx => rfl)))
      generalize v6.alloc (.cells #[.int .i64 x.seq, .int .i64 x.gen, .string (strB x.note)] 23) = s6 at *
      refine (jlay_at HS2.out hiny _).mono ?_
      rintro e v7 ⟨rfl, hb⟩
      clear p0 p1 p2 y0 y1 y2 z0 z1 z2 t0 t1 t2
      replace P := P.belowH hb
      replace D := D.belowH hb
      replace C := C.belowH hb
      replace A := A.belowH hb
      replace Y := Y.belowH hb
      replace Z := Z.belowH hb
      replace T := T.belowH hb
      replace b := b.trans (hb.mono b.size)
      clear hb
      (try dsimp only)
      have V := Box.new v7 (U (J.sec y)).toArray 24
      replace P := P.alloc (.cells (U (J.sec y)).toArray 24)
      replace D := D.alloc (.cells (U (J.sec y)).toArray 24)
      replace C := C.alloc (.cells (U (J.sec y)).toArray 24)
      replace A := A.alloc (.cells (U (J.sec y)).toArray 24)
      replace Y := Y.alloc (.cells (U (J.sec y)).toArray 24)
      replace Z := Z.alloc (.cells (U (J.sec y)).toArray 24)
      replace T := T.alloc (.cells (U (J.sec y)).toArray 24)
      replace b := b.alloc b.size (.cells (U (J.sec y)).toArray 24)
      have p0 := P.at 0 rfl
      have p1 := P.at 1 rfl
      have p2 := P.at 2 rfl
      have y0 := Y.at 0 rfl
      have y1 := Y.at 1 rfl
      have y2 := Y.at 2 rfl
      have z0 := Z.at 0 rfl
      have z1 := Z.at 1 rfl
      have z2 := Z.at 2 rfl
      have t0 := T.at 0 rfl
      have t1 := T.at 1 rfl
      have t2 := T.at 2 rfl
      go_wp2_with (first | ((with_reducible refine sec_new _ (J.sec y) h5.out ?hd ?hy ?_); (case hd => rfl); (case hy => rfl)) | ((with_reducible refine sec_take _ (W.heap.size + 1) 0 sb hs.out (sec_box D) ?hw ?hx ?_); (case hw => rfl); (case hx => rfl)) | ((with_reducible refine sec_take _ (v2.heap.size) 0 lt hlt.out (sec_box C) ?hw ?hx ?_); (case hw => rfl); (case hx => rfl)) | ((with_reducible refine sec_take _ (v3.heap.size) 0 lt hlt.out (sec_box A) ?hw ?hx ?_); (case hw => rfl); (case hx => rfl)) | ((with_reducible refine sec_take _ (v7.heap.size) 0 (J.sec y) h5.out (sec_box V) ?hw ?hx ?_); (case hw => rfl); (case hx => rfl)))
      go_ret
      exact ⟨ret_bool (by simp), b⟩
  · subst e2
    clear hm
    rcases (show (ye = 10) ∨ (J.may y ∧ J.sec y = sb ∧ ye = 0) from by
      rcases J.find_or sb with h | ⟨z, h1, h2, h3⟩
      · left; rw [HFY.out] at h; injection h with h1 h2
      · right; rw [HFY.out] at h3; injection h3 with h4 h5; subst h4; exact ⟨h1, h2, h5⟩) with ey | ⟨hmy, esb, ey⟩
    · subst ey
      go_wp2_with (first | ((with_reducible refine sec_take _ (W.heap.size + 1) 0 sb hs.out (sec_box D) ?hw ?hx ?_); (case hw => rfl); (case hx => rfl)) | ((with_reducible refine sec_take _ (v2.heap.size) 0 lt hlt.out (sec_box C) ?hw ?hx ?_); (case hw => rfl); (case hx => rfl)) | ((with_reducible refine sec_take _ (v3.heap.size) 0 lt hlt.out (sec_box A) ?hw ?hx ?_); (case hw => rfl); (case hx => rfl)))
      go_ret
      exact ⟨ret_bool (by simp), b⟩
    · subst ey
      have HS2 := Lib.hid (J.lay_yes hmy)
      have h5 : Hid ((J.sec y).length = 64) := Lib.hid (J.sec_len hmy)
      have EQ2 := sec_in (J.sec y) sb h5.out hs.out
      have t2 : (J.sec y == sb) = true := beq_iff_eq.2 esb
      have hiny := may_in hmy
      clear esb hmy
      go_wp2_with (first | ((with_reducible refine sec_take _ (W.heap.size + 1) 0 sb hs.out (sec_box D) ?hw ?hx ?_); (case hw => rfl); (case hx => rfl)) | ((with_reducible refine sec_take _ (v2.heap.size) 0 lt hlt.out (sec_box C) ?hw ?hx ?_); (case hw => rfl); (case hx => rfl)) | ((with_reducible refine sec_take _ (v3.heap.size) 0 lt hlt.out (sec_box A) ?hw ?hx ?_); (case hw => rfl); (case hx => rfl)))
      generalize v5.alloc (.cells #[.int .i64 y.seq, .int .i64 y.gen, .string (strB y.note)] 23) = s5 at *
      refine (jlay_at HS2.out hiny _).mono ?_
      rintro e v6 ⟨rfl, hb⟩
      clear p0 p1 p2 y0 y1 y2 z0 z1 z2
      replace P := P.belowH hb
      replace D := D.belowH hb
      replace C := C.belowH hb
      replace A := A.belowH hb
      replace Y := Y.belowH hb
      replace Z := Z.belowH hb
      replace b := b.trans (hb.mono b.size)
      clear hb
      (try dsimp only)
      have V := Box.new v6 (U (J.sec y)).toArray 24
      replace P := P.alloc (.cells (U (J.sec y)).toArray 24)
      replace D := D.alloc (.cells (U (J.sec y)).toArray 24)
      replace C := C.alloc (.cells (U (J.sec y)).toArray 24)
      replace A := A.alloc (.cells (U (J.sec y)).toArray 24)
      replace Y := Y.alloc (.cells (U (J.sec y)).toArray 24)
      replace Z := Z.alloc (.cells (U (J.sec y)).toArray 24)
      replace b := b.alloc b.size (.cells (U (J.sec y)).toArray 24)
      have p0 := P.at 0 rfl
      have p1 := P.at 1 rfl
      have p2 := P.at 2 rfl
      have y0 := Y.at 0 rfl
      have y1 := Y.at 1 rfl
      have y2 := Y.at 2 rfl
      have z0 := Z.at 0 rfl
      have z1 := Z.at 1 rfl
      have z2 := Z.at 2 rfl
      go_wp2_with (first | ((with_reducible refine sec_new _ (J.sec y) h5.out ?hd ?hy ?_); (case hd => rfl); (case hy => rfl)) | ((with_reducible refine sec_take _ (W.heap.size + 1) 0 sb hs.out (sec_box D) ?hw ?hx ?_); (case hw => rfl); (case hx => rfl)) | ((with_reducible refine sec_take _ (v2.heap.size) 0 lt hlt.out (sec_box C) ?hw ?hx ?_); (case hw => rfl); (case hx => rfl)) | ((with_reducible refine sec_take _ (v3.heap.size) 0 lt hlt.out (sec_box A) ?hw ?hx ?_); (case hw => rfl); (case hx => rfl)) | ((with_reducible refine sec_take _ (v6.heap.size) 0 (J.sec y) h5.out (sec_box V) ?hw ?hx ?_); (case hw => rfl); (case hx => rfl)))
      go_ret
      exact ⟨ret_bool (by simp), b⟩
end Go.Proofs.Ytipccalbhlhljaa

