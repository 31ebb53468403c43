/- The walk of service's law on there and back. -/
import Derived.Test.YtfgpncbcelafoaaYAlive
import Derived.Test.YtfgpncbcelafoaaYRows
namespace Go.Proofs.Ytfgpncbcelafoaa
set_option linter.unusedVariables false
set_option linter.unusedSimpArgs false
open Go.RowKit
set_option maxHeartbeats 8000000 in
set_option maxRecDepth 100000 in
theorem law_ServiceBack (x : Svc) (t : ByteArray) (W : World) (w0 : SvIn x) (w1 : t.size ≤ maxLen) :
    Calls Try.prog 4 #[.agg #[.string (strB x.name), .string (strB x.proto), .int .i64 x.port, .int .i64 x.prio, .int .i64 x.wt, .bool x.well], .string t] W fun e w' => e = .returned (.bool true) ∧ Below W.heap.size W w' := by
  obtain ⟨v, rfl⟩ : ∃ v : List UInt8, t = strB v := ⟨t.data.toList, by unfold strB; rw [Array.toArray_toList]⟩
  have hv1 : (strB v).size = v.length := strB_size v
  obtain ⟨hy1, hp1, hp2, hp3⟩ := w0
  have hx1 : (strB x.name).size = x.name.length := strB_size x.name
  have hx2 : (strB x.proto).size = x.proto.length := strB_size x.proto
  have hx3 := hy1.1
  have hx4 := hy1.2
  have w2 : (strB v).size ≤ 9223372036854775807 := by unfold maxLen at w1; omega
  have w3 : (strB x.name).size ≤ 140737488351232 := by omega
  have w4 : (strB x.proto).size ≤ 140737488351232 := by omega
  obtain ⟨m, hm⟩ : ∃ m : Nat, (strB x.name).size + (strB x.proto).size = m := ⟨_, rfl⟩
  have wm : wrap64 (((strB x.name).size : Int) + ((strB x.proto).size : Int)) = (m : Int) := by rw [sum_fit _ _ w3 w4, hm]
  have wm2 : IntKind.i64.wrap (((strB x.name).size : Int) + ((strB x.proto).size : Int)) = (m : Int) := by rw [sum_in _ _ w3 w4, hm]
  have HVL := Lib.hid hv1
  have HM := Lib.hid hm
  clear hv1 hx1 hx2 hx3 hx4 hm w1 hp1 hp2 hp3
  have hgd := guard_svc
  obtain ⟨⟨y, ey⟩, hy⟩ : ∃ z, Y.dec v = z := ⟨_, rfl⟩
  have EY := Lib.hid hy
  clear hy
  have qx := fun w => (eq_svc x x w).trans (by rw [svB_self])
  have q0 : ∀ w, (Op.equalIn 10000 23 (.agg #[.string (strB []), .string (strB []), .int .i64 0, .int .i64 0, .int .i64 0, .bool false]) (.agg #[.string ⟨#[]⟩, .string ⟨#[]⟩, .int .i64 0, .int .i64 0, .int .i64 0, .bool false])).run Try.prog w = .ok true w := fun w => (eq_svc ⟨[], [], 0, 0, 0, false⟩ ⟨[], [], 0, 0, 0, false⟩ w).trans (by rw [svB_self])
  have P := Box.new (W) #[.string (strB x.name), .string (strB x.proto), .int .i64 x.port, .int .i64 x.prio, .int .i64 x.wt, .bool x.well] 23
  have b := (Below.refl W.heap.size W).alloc (Nat.le_refl _) (.cells #[.string (strB x.name), .string (strB x.proto), .int .i64 x.port, .int .i64 x.prio, .int .i64 x.wt, .bool x.well] 23)
  go_enter Try.func4, Try.ntmps4
  go_wp2_with fail
  generalize (W).alloc (.cells #[.string (strB x.name), .string (strB x.proto), .int .i64 x.port, .int .i64 x.prio, .int .i64 x.wt, .bool x.well] 23) = w1' at *
  refine (yalive_any _).mono ?_
  rintro e v1 ⟨rfl, hb⟩
  replace P := P.belowH hb
  replace b := b.trans (hb.mono b.size)
  clear hb
  (try dsimp only)
  have p0 := P.at 0 rfl
  have p1 := P.at 1 rfl
  have p2 := P.at 2 rfl
  have p3 := P.at 3 rfl
  have p4 := P.at 4 rfl
  have p5 := P.at 5 rfl
  by_cases g1 : 1000 < (strB v).size
  · go_wp2
    go_ret
    exact ⟨rfl, b⟩
  have hvl : Hid (v.length ≤ 140737488351232) := Lib.hid (by have := HVL.out; omega)
  by_cases g2 : 1000 < m
  · go_wp2
    go_ret
    exact ⟨rfl, b⟩
  clear w2
  by_cases hr : Y.right x
  · have EA := Lib.hid (Y.dec_enc hr)
    have EX := Lib.hid (Y.dec_val hr)
    have hal := Y.val_len hr
    generalize Y.val x = a at *
    have ha1 : (strB a).size = a.length := strB_size a
    have hal2 : Hid (a.length ≤ 140737488351232) := Lib.hid (by omega)
    have hal3 : ¬ 200 < (strB a).size := by omega
    clear hr hal ha1
    go_wp2_with fail
    refine (yencode_at EA.out hy1 _).mono ?_
    rintro e v2 ⟨rfl, hb⟩
    clear p0 p1 p2 p3 p4 p5
    replace P := P.belowH hb
    replace b := b.trans (hb.mono b.size)
    clear hb
    (try dsimp only)
    have p0 := P.at 0 rfl
    have p1 := P.at 1 rfl
    have p2 := P.at 2 rfl
    have p3 := P.at 3 rfl
    have p4 := P.at 4 rfl
    have p5 := P.at 5 rfl
    go_wp2_with fail
    refine (ydecode_at EX.out hal2.out _).mono ?_
    rintro e v3 ⟨rfl, hb⟩
    clear p0 p1 p2 p3 p4 p5
    replace P := P.belowH hb
    replace b := b.trans (hb.mono b.size)
    clear hb
    (try dsimp only)
    simp only [ysv]
    have X := Box.new v3 #[.string (strB x.name), .string (strB x.proto), .int .i64 x.port, .int .i64 x.prio, .int .i64 x.wt, .bool x.well] 23
    replace P := P.alloc (.cells #[.string (strB x.name), .string (strB x.proto), .int .i64 x.port, .int .i64 x.prio, .int .i64 x.wt, .bool x.well] 23)
    replace b := b.alloc b.size (.cells #[.string (strB x.name), .string (strB x.proto), .int .i64 x.port, .int .i64 x.prio, .int .i64 x.wt, .bool x.well] 23)
    have p0 := P.at 0 rfl
    have p1 := P.at 1 rfl
    have p2 := P.at 2 rfl
    have p3 := P.at 3 rfl
    have p4 := P.at 4 rfl
    have p5 := P.at 5 rfl
    have x0 := X.at 0 rfl
    have x1 := X.at 1 rfl
    have x2 := X.at 2 rfl
    have x3 := X.at 3 rfl
    have x4 := X.at 4 rfl
    have x5 := X.at 5 rfl
    go_wp2_with fail
    generalize v3.alloc (.cells #[.string (strB x.name), .string (strB x.proto), .int .i64 x.port, .int .i64 x.prio, .int .i64 x.wt, .bool x.well] 23) = s3 at *
    refine (ydecode_at EY.out hvl.out _).mono ?_
    rintro e v4 ⟨rfl, hb⟩
    clear p0 p1 p2 p3 p4 p5 x0 x1 x2 x3 x4 x5
    replace P := P.belowH hb
    replace X := X.belowH hb
    replace b := b.trans (hb.mono b.size)
    clear hb
    (try dsimp only)
    simp only [ysv]
    by_cases ey0 : ey = 0
    · subst ey0
      have hd := Y.dec_once (v := v) (by rw [EY.out])
      rw [EY.out] at hd
      obtain ⟨hd1, hd2⟩ := hd
      dsimp only at hd1 hd2
      have EB : Hid (Y.enc y = (v, 0)) := Lib.hid (by rw [Y.dec_enc hd1, hd2])
      have hyn : YIn y := ⟨by have := hd1.1.2.1; omega, by have := hd1.2.1.2.1; omega⟩
      clear hd1 hd2
      have Y := Box.new v4 #[.string (strB y.name), .string (strB y.proto), .int .i64 y.port, .int .i64 y.prio, .int .i64 y.wt, .bool y.well] 23
      replace P := P.alloc (.cells #[.string (strB y.name), .string (strB y.proto), .int .i64 y.port, .int .i64 y.prio, .int .i64 y.wt, .bool y.well] 23)
      replace X := X.alloc (.cells #[.string (strB y.name), .string (strB y.proto), .int .i64 y.port, .int .i64 y.prio, .int .i64 y.wt, .bool y.well] 23)
      replace b := b.alloc b.size (.cells #[.string (strB y.name), .string (strB y.proto), .int .i64 y.port, .int .i64 y.prio, .int .i64 y.wt, .bool y.well] 23)
      have p0 := P.at 0 rfl
      have p1 := P.at 1 rfl
      have p2 := P.at 2 rfl
      have p3 := P.at 3 rfl
      have p4 := P.at 4 rfl
      have p5 := P.at 5 rfl
      have x0 := X.at 0 rfl
      have x1 := X.at 1 rfl
      have x2 := X.at 2 rfl
      have x3 := X.at 3 rfl
      have x4 := X.at 4 rfl
      have x5 := X.at 5 rfl
      have y0 := Y.at 0 rfl
      have y1 := Y.at 1 rfl
      have y2 := Y.at 2 rfl
      have y3 := Y.at 3 rfl
      have y4 := Y.at 4 rfl
      have y5 := Y.at 5 rfl
      go_wp2_with fail
      generalize v4.alloc (.cells #[.string (strB y.name), .string (strB y.proto), .int .i64 y.port, .int .i64 y.prio, .int .i64 y.wt, .bool y.well] 23) = s4 at *
      refine (yencode_at EB.out hyn _).mono ?_
      rintro e v5 ⟨rfl, hb⟩
      clear p0 p1 p2 p3 p4 p5 x0 x1 x2 x3 x4 x5 y0 y1 y2 y3 y4 y5
      replace P := P.belowH hb
      replace X := X.belowH hb
      replace Y := Y.belowH hb
      replace b := b.trans (hb.mono b.size)
      clear hb
      (try dsimp only)
      have p0 := P.at 0 rfl
      have p1 := P.at 1 rfl
      have p2 := P.at 2 rfl
      have p3 := P.at 3 rfl
      have p4 := P.at 4 rfl
      have p5 := P.at 5 rfl
      have x0 := X.at 0 rfl
      have x1 := X.at 1 rfl
      have x2 := X.at 2 rfl
      have x3 := X.at 3 rfl
      have x4 := X.at 4 rfl
      have x5 := X.at 5 rfl
      have y0 := Y.at 0 rfl
      have y1 := Y.at 1 rfl
      have y2 := Y.at 2 rfl
      have y3 := Y.at 3 rfl
      have y4 := Y.at 4 rfl
      have y5 := Y.at 5 rfl
      go_wp2_with fail
      go_ret
      exact ⟨ret_bool (by simp), b⟩
    · have hd := Y.dec_err (v := v) (by rw [EY.out]; exact ey0)
      rw [EY.out] at hd
      have hd2 : y = ⟨[], [], 0, 0, 0, false⟩ := hd
      clear hd
      subst hd2
      have t1 : (ey != 0) = true := bne_iff_ne.2 ey0
      have EY0 := Lib.hid ey0
      clear ey0
      have Y := Box.new v4 #[.string (strB []), .string (strB []), .int .i64 0, .int .i64 0, .int .i64 0, .bool false] 23
      replace P := P.alloc (.cells #[.string (strB []), .string (strB []), .int .i64 0, .int .i64 0, .int .i64 0, .bool false] 23)
      replace X := X.alloc (.cells #[.string (strB []), .string (strB []), .int .i64 0, .int .i64 0, .int .i64 0, .bool false] 23)
      replace b := b.alloc b.size (.cells #[.string (strB []), .string (strB []), .int .i64 0, .int .i64 0, .int .i64 0, .bool false] 23)
      have p0 := P.at 0 rfl
      have p1 := P.at 1 rfl
      have p2 := P.at 2 rfl
      have p3 := P.at 3 rfl
      have p4 := P.at 4 rfl
      have p5 := P.at 5 rfl
      have x0 := X.at 0 rfl
      have x1 := X.at 1 rfl
      have x2 := X.at 2 rfl
      have x3 := X.at 3 rfl
      have x4 := X.at 4 rfl
      have x5 := X.at 5 rfl
      have y0 := Y.at 0 rfl
      have y1 := Y.at 1 rfl
      have y2 := Y.at 2 rfl
      have y3 := Y.at 3 rfl
      have y4 := Y.at 4 rfl
      have y5 := Y.at 5 rfl
      go_wp2_with fail
      go_ret
      exact ⟨rfl, b⟩
  · have EA : Hid (Y.enc x = ([], 1)) := Lib.hid (if_neg hr)
    clear hr
    go_wp2_with fail
    refine (yencode_at EA.out hy1 _).mono ?_
    rintro e v2 ⟨rfl, hb⟩
    clear p0 p1 p2 p3 p4 p5
    replace P := P.belowH hb
    replace b := b.trans (hb.mono b.size)
    clear hb
    (try dsimp only)
    have p0 := P.at 0 rfl
    have p1 := P.at 1 rfl
    have p2 := P.at 2 rfl
    have p3 := P.at 3 rfl
    have p4 := P.at 4 rfl
    have p5 := P.at 5 rfl
    go_wp2_with fail
    refine (ydecode_at EY.out hvl.out _).mono ?_
    rintro e v3 ⟨rfl, hb⟩
    clear p0 p1 p2 p3 p4 p5
    replace P := P.belowH hb
    replace b := b.trans (hb.mono b.size)
    clear hb
    (try dsimp only)
    simp only [ysv]
    by_cases ey0 : ey = 0
    · subst ey0
      have hd := Y.dec_once (v := v) (by rw [EY.out])
      rw [EY.out] at hd
      obtain ⟨hd1, hd2⟩ := hd
      dsimp only at hd1 hd2
      have EB : Hid (Y.enc y = (v, 0)) := Lib.hid (by rw [Y.dec_enc hd1, hd2])
      have hyn : YIn y := ⟨by have := hd1.1.2.1; omega, by have := hd1.2.1.2.1; omega⟩
      clear hd1 hd2
      have Y := Box.new v3 #[.string (strB y.name), .string (strB y.proto), .int .i64 y.port, .int .i64 y.prio, .int .i64 y.wt, .bool y.well] 23
      replace P := P.alloc (.cells #[.string (strB y.name), .string (strB y.proto), .int .i64 y.port, .int .i64 y.prio, .int .i64 y.wt, .bool y.well] 23)
      replace b := b.alloc b.size (.cells #[.string (strB y.name), .string (strB y.proto), .int .i64 y.port, .int .i64 y.prio, .int .i64 y.wt, .bool y.well] 23)
      have p0 := P.at 0 rfl
      have p1 := P.at 1 rfl
      have p2 := P.at 2 rfl
      have p3 := P.at 3 rfl
      have p4 := P.at 4 rfl
      have p5 := P.at 5 rfl
      have y0 := Y.at 0 rfl
      have y1 := Y.at 1 rfl
      have y2 := Y.at 2 rfl
      have y3 := Y.at 3 rfl
      have y4 := Y.at 4 rfl
      have y5 := Y.at 5 rfl
      go_wp2_with fail
      generalize v3.alloc (.cells #[.string (strB y.name), .string (strB y.proto), .int .i64 y.port, .int .i64 y.prio, .int .i64 y.wt, .bool y.well] 23) = s3 at *
      refine (yencode_at EB.out hyn _).mono ?_
      rintro e v4 ⟨rfl, hb⟩
      clear p0 p1 p2 p3 p4 p5 y0 y1 y2 y3 y4 y5
      replace P := P.belowH hb
      replace Y := Y.belowH hb
      replace b := b.trans (hb.mono b.size)
      clear hb
      (try dsimp only)
      have p0 := P.at 0 rfl
      have p1 := P.at 1 rfl
      have p2 := P.at 2 rfl
      have p3 := P.at 3 rfl
      have p4 := P.at 4 rfl
      have p5 := P.at 5 rfl
      have y0 := Y.at 0 rfl
      have y1 := Y.at 1 rfl
      have y2 := Y.at 2 rfl
      have y3 := Y.at 3 rfl
      have y4 := Y.at 4 rfl
      have y5 := Y.at 5 rfl
      go_wp2_with fail
      go_ret
      exact ⟨ret_bool (by simp), b⟩
    · have hd := Y.dec_err (v := v) (by rw [EY.out]; exact ey0)
      rw [EY.out] at hd
      have hd2 : y = ⟨[], [], 0, 0, 0, false⟩ := hd
      clear hd
      subst hd2
      have t1 : (ey != 0) = true := bne_iff_ne.2 ey0
      have EY0 := Lib.hid ey0
      clear ey0
      have Y := Box.new v3 #[.string (strB []), .string (strB []), .int .i64 0, .int .i64 0, .int .i64 0, .bool false] 23
      replace P := P.alloc (.cells #[.string (strB []), .string (strB []), .int .i64 0, .int .i64 0, .int .i64 0, .bool false] 23)
      replace b := b.alloc b.size (.cells #[.string (strB []), .string (strB []), .int .i64 0, .int .i64 0, .int .i64 0, .bool false] 23)
      have p0 := P.at 0 rfl
      have p1 := P.at 1 rfl
      have p2 := P.at 2 rfl
      have p3 := P.at 3 rfl
      have p4 := P.at 4 rfl
      have p5 := P.at 5 rfl
      have y0 := Y.at 0 rfl
      have y1 := Y.at 1 rfl
      have y2 := Y.at 2 rfl
      have y3 := Y.at 3 rfl
      have y4 := Y.at 4 rfl
      have y5 := Y.at 5 rfl
      go_wp2_with fail
      go_ret
      exact ⟨rfl, b⟩
end Go.Proofs.Ytfgpncbcelafoaa
