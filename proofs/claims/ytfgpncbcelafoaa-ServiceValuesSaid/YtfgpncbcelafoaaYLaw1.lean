/- The walk of service's law on values. -/
import Derived.Test.YtfgpncbcelafoaaYAlive
import Derived.Test.YtfgpncbcelafoaaYRows
namespace Go.Proofs.Ytfgpncbcelafoaa
set_option linter.unusedVariables false
set_option linter.unusedSimpArgs false
open Go.RowKit
set_option maxHeartbeats 8000000 in
set_option maxRecDepth 100000 in
theorem law_ServiceValues (x : Svc) (t : ByteArray) (W : World) (w0 : SvIn x) (w1 : t.size ≤ maxLen) :
    Calls Try.prog 3 #[.agg #[.string (strB x.name), .string (strB x.proto), .int .i64 x.port, .int .i64 x.prio, .int .i64 x.wt, .bool x.well], .string t] W fun e w' => e = .returned (.bool true) ∧ Below W.heap.size W w' := by
  obtain ⟨v, rfl⟩ : ∃ v : List UInt8, t = strB v := ⟨t.data.toList, by unfold strB; rw [Array.toArray_toList]⟩
  have hv1 : (strB v).size = v.length := strB_size v
  obtain ⟨hy1, hp1, hp2, hp3⟩ := w0
  have hx1 : (strB x.name).size = x.name.length := strB_size x.name
  have hx2 : (strB x.proto).size = x.proto.length := strB_size x.proto
  have hx3 := hy1.1
  have hx4 := hy1.2
  have w2 : (strB v).size ≤ 9223372036854775807 := by unfold maxLen at w1; omega
  have w3 : (strB x.name).size ≤ 140737488351232 := by omega
  have w4 : (strB x.proto).size ≤ 140737488351232 := by omega
  obtain ⟨m, hm⟩ : ∃ m : Nat, (strB x.name).size + (strB x.proto).size = m := ⟨_, rfl⟩
  have wm : wrap64 (((strB x.name).size : Int) + ((strB x.proto).size : Int)) = (m : Int) := by rw [sum_fit _ _ w3 w4, hm]
  have wm2 : IntKind.i64.wrap (((strB x.name).size : Int) + ((strB x.proto).size : Int)) = (m : Int) := by rw [sum_in _ _ w3 w4, hm]
  have HVL := Lib.hid hv1
  have HM := Lib.hid hm
  clear hv1 hx1 hx2 hx3 hx4 hm w1 hp1 hp2 hp3
  have hgd := guard_svc
  obtain ⟨⟨a, ea⟩, ha⟩ : ∃ z, Y.enc x = z := ⟨_, rfl⟩
  obtain ⟨⟨y, ey⟩, hy⟩ : ∃ z, Y.dec v = z := ⟨_, rfl⟩
  have EA := Lib.hid ha
  have EY := Lib.hid hy
  obtain ⟨zr, hzr⟩ : ∃ z, decide (Y.right x) = z := ⟨_, rfl⟩
  obtain ⟨zw, hzw⟩ : ∃ z, decide (Y.word v) = z := ⟨_, rfl⟩
  have ZR := Lib.hid hzr
  have ZW := Lib.hid hzw
  clear ha hy hzr hzw
  have qy := fun w => (eq_svc y y w).trans (by rw [svB_self])
  have P := Box.new (W) #[.string (strB x.name), .string (strB x.proto), .int .i64 x.port, .int .i64 x.prio, .int .i64 x.wt, .bool x.well] 23
  have b := (Below.refl W.heap.size W).alloc (Nat.le_refl _) (.cells #[.string (strB x.name), .string (strB x.proto), .int .i64 x.port, .int .i64 x.prio, .int .i64 x.wt, .bool x.well] 23)
  go_enter Try.func3, Try.ntmps3
  go_wp2_with fail
  generalize (W).alloc (.cells #[.string (strB x.name), .string (strB x.proto), .int .i64 x.port, .int .i64 x.prio, .int .i64 x.wt, .bool x.well] 23) = w1' at *
  refine (yalive_any _).mono ?_
  rintro e v1 ⟨rfl, hb⟩
  replace P := P.belowH hb
  replace b := b.trans (hb.mono b.size)
  clear hb
  (try dsimp only)
  have p0 := P.at 0 rfl
  have p1 := P.at 1 rfl
  have p2 := P.at 2 rfl
  have p3 := P.at 3 rfl
  have p4 := P.at 4 rfl
  have p5 := P.at 5 rfl
  by_cases g1 : 1000 < (strB v).size
  · go_wp2
    go_ret
    exact ⟨rfl, b⟩
  have hvl : Hid (v.length ≤ 140737488351232) := Lib.hid (by have := HVL.out; omega)
  by_cases g2 : 1000 < m
  · go_wp2
    go_ret
    exact ⟨rfl, b⟩
  go_wp2_with fail
  refine (yencode_at EA.out hy1 _).mono ?_
  rintro e v2 ⟨rfl, hb⟩
  clear p0 p1 p2 p3 p4 p5
  replace P := P.belowH hb
  replace b := b.trans (hb.mono b.size)
  clear hb
  (try dsimp only)
  have p0 := P.at 0 rfl
  have p1 := P.at 1 rfl
  have p2 := P.at 2 rfl
  have p3 := P.at 3 rfl
  have p4 := P.at 4 rfl
  have p5 := P.at 5 rfl
  go_wp2_with fail
  refine (ryencode_at EA.out hy1 _).mono ?_
  rintro e v3 ⟨rfl, hb⟩
  clear p0 p1 p2 p3 p4 p5
  replace P := P.belowH hb
  replace b := b.trans (hb.mono b.size)
  clear hb
  (try dsimp only)
  have p0 := P.at 0 rfl
  have p1 := P.at 1 rfl
  have p2 := P.at 2 rfl
  have p3 := P.at 3 rfl
  have p4 := P.at 4 rfl
  have p5 := P.at 5 rfl
  go_wp2_with fail
  refine (ydecode_at EY.out hvl.out _).mono ?_
  rintro e v4 ⟨rfl, hb⟩
  clear p0 p1 p2 p3 p4 p5
  replace P := P.belowH hb
  replace b := b.trans (hb.mono b.size)
  clear hb
  (try dsimp only)
  simp only [ysv]
  have X := Box.new v4 #[.string (strB y.name), .string (strB y.proto), .int .i64 y.port, .int .i64 y.prio, .int .i64 y.wt, .bool y.well] 23
  replace P := P.alloc (.cells #[.string (strB y.name), .string (strB y.proto), .int .i64 y.port, .int .i64 y.prio, .int .i64 y.wt, .bool y.well] 23)
  replace b := b.alloc b.size (.cells #[.string (strB y.name), .string (strB y.proto), .int .i64 y.port, .int .i64 y.prio, .int .i64 y.wt, .bool y.well] 23)
  have p0 := P.at 0 rfl
  have p1 := P.at 1 rfl
  have p2 := P.at 2 rfl
  have p3 := P.at 3 rfl
  have p4 := P.at 4 rfl
  have p5 := P.at 5 rfl
  have x0 := X.at 0 rfl
  have x1 := X.at 1 rfl
  have x2 := X.at 2 rfl
  have x3 := X.at 3 rfl
  have x4 := X.at 4 rfl
  have x5 := X.at 5 rfl
  go_wp2_with fail
  generalize v4.alloc (.cells #[.string (strB y.name), .string (strB y.proto), .int .i64 y.port, .int .i64 y.prio, .int .i64 y.wt, .bool y.well] 23) = s4 at *
  refine (rydecode_at EY.out hvl.out _).mono ?_
  rintro e v5 ⟨rfl, hb⟩
  clear p0 p1 p2 p3 p4 p5 x0 x1 x2 x3 x4 x5
  replace P := P.belowH hb
  replace X := X.belowH hb
  replace b := b.trans (hb.mono b.size)
  clear hb
  (try dsimp only)
  simp only [ysv]
  have Y := Box.new v5 #[.string (strB y.name), .string (strB y.proto), .int .i64 y.port, .int .i64 y.prio, .int .i64 y.wt, .bool y.well] 23
  replace P := P.alloc (.cells #[.string (strB y.name), .string (strB y.proto), .int .i64 y.port, .int .i64 y.prio, .int .i64 y.wt, .bool y.well] 23)
  replace X := X.alloc (.cells #[.string (strB y.name), .string (strB y.proto), .int .i64 y.port, .int .i64 y.prio, .int .i64 y.wt, .bool y.well] 23)
  replace b := b.alloc b.size (.cells #[.string (strB y.name), .string (strB y.proto), .int .i64 y.port, .int .i64 y.prio, .int .i64 y.wt, .bool y.well] 23)
  have p0 := P.at 0 rfl
  have p1 := P.at 1 rfl
  have p2 := P.at 2 rfl
  have p3 := P.at 3 rfl
  have p4 := P.at 4 rfl
  have p5 := P.at 5 rfl
  have x0 := X.at 0 rfl
  have x1 := X.at 1 rfl
  have x2 := X.at 2 rfl
  have x3 := X.at 3 rfl
  have x4 := X.at 4 rfl
  have x5 := X.at 5 rfl
  have y0 := Y.at 0 rfl
  have y1 := Y.at 1 rfl
  have y2 := Y.at 2 rfl
  have y3 := Y.at 3 rfl
  have y4 := Y.at 4 rfl
  have y5 := Y.at 5 rfl
  go_wp2_with fail
  generalize v5.alloc (.cells #[.string (strB y.name), .string (strB y.proto), .int .i64 y.port, .int .i64 y.prio, .int .i64 y.wt, .bool y.well] 23) = s5 at *
  clear p0 p1 p2 p3 p4 p5 x0 x1 x2 x3 x4 x5 y0 y1 y2 y3 y4 y5
  clear wm wm2 g1 g2 w2 w3 w4
  replace P := P.drew
  replace X := X.drew
  replace Y := Y.drew
  replace b := b.drew
  refine wp_region_held_drew (S := (fun w' => w'.cell? ⟨W.heap.size, 0, none⟩ = some (.string (strB x.name)) ∧ w'.cell? ⟨W.heap.size, 1, none⟩ = some (.string (strB x.proto)) ∧ w'.cell? ⟨W.heap.size, 2, none⟩ = some (.int .i64 x.port) ∧ w'.cell? ⟨W.heap.size, 3, none⟩ = some (.int .i64 x.prio) ∧ w'.cell? ⟨W.heap.size, 4, none⟩ = some (.int .i64 x.wt) ∧ w'.cell? ⟨W.heap.size, 5, none⟩ = some (.bool x.well) ∧ w'.cell? ⟨v4.heap.size, 0, none⟩ = some (.string (strB y.name)) ∧ w'.cell? ⟨v4.heap.size, 1, none⟩ = some (.string (strB y.proto)) ∧ w'.cell? ⟨v4.heap.size, 2, none⟩ = some (.int .i64 y.port) ∧ w'.cell? ⟨v4.heap.size, 3, none⟩ = some (.int .i64 y.prio) ∧ w'.cell? ⟨v4.heap.size, 4, none⟩ = some (.int .i64 y.wt) ∧ w'.cell? ⟨v4.heap.size, 5, none⟩ = some (.bool y.well) ∧ w'.cell? ⟨v5.heap.size, 0, none⟩ = some (.string (strB y.name)) ∧ w'.cell? ⟨v5.heap.size, 1, none⟩ = some (.string (strB y.proto)) ∧ w'.cell? ⟨v5.heap.size, 2, none⟩ = some (.int .i64 y.port) ∧ w'.cell? ⟨v5.heap.size, 3, none⟩ = some (.int .i64 y.prio) ∧ w'.cell? ⟨v5.heap.size, 4, none⟩ = some (.int .i64 y.wt) ∧ w'.cell? ⟨v5.heap.size, 5, none⟩ = some (.bool y.well))) (by kernel_rfl) (by exact ⟨P.at 0 rfl, P.at 1 rfl, P.at 2 rfl, P.at 3 rfl, P.at 4 rfl, P.at 5 rfl, X.at 0 rfl, X.at 1 rfl, X.at 2 rfl, X.at 3 rfl, X.at 4 rfl, X.at 5 rfl, Y.at 0 rfl, Y.at 1 rfl, Y.at 2 rfl, Y.at 3 rfl, Y.at 4 rfl, Y.at 5 rfl⟩) (fun hHeld0 => ?_)
  refine tk 0 48 rfl hHeld0 ?_
  refine tk 1 49 rfl hHeld0 ?_
  refine tk 2 50 rfl hHeld0 ?_
  refine tk 3 51 rfl hHeld0 ?_
  refine tk 4 52 rfl hHeld0 ?_
  refine tk 5 53 rfl hHeld0 ?_
  refine tk 6 54 rfl hHeld0 ?_
  refine tk 7 55 rfl hHeld0 ?_
  refine tk 8 56 rfl hHeld0 ?_
  refine tk 9 57 rfl hHeld0 ?_
  refine tk 10 58 rfl hHeld0 ?_
  refine tk 11 59 rfl hHeld0 ?_
  refine tk 12 60 rfl hHeld0 ?_
  refine tk 13 61 rfl hHeld0 ?_
  refine tk 14 62 rfl hHeld0 ?_
  refine tk 15 63 rfl hHeld0 ?_
  refine tk 16 64 rfl hHeld0 ?_
  refine tk 17 65 rfl hHeld0 ?_
  refine tk 18 66 rfl hHeld0 ?_
  refine tk 19 67 rfl hHeld0 ?_
  refine tk 21 69 rfl hHeld0 ?_
  refine wpAnyH_ready (rs := [20]) (by kernel_rfl) (by simp) (AllReadyH.cons (o := ⟨some 68, _, _, _, _, _⟩) rfl (fun K hK => ?_) AllReadyH.nil)
  go_simp
  (refine (yright_at ZR.out hy1 _).mono ?_; rintro e u1 ⟨rfl, hb⟩; replace P := P.belowH hb; replace X := X.belowH hb; replace Y := Y.belowH hb; replace b := b.trans (hb.mono b.size); clear hb)
  go_simp
  refine hK.out _ _ (by exact ⟨P.at 0 rfl, P.at 1 rfl, P.at 2 rfl, P.at 3 rfl, P.at 4 rfl, P.at 5 rfl, X.at 0 rfl, X.at 1 rfl, X.at 2 rfl, X.at 3 rfl, X.at 4 rfl, X.at 5 rfl, Y.at 0 rfl, Y.at 1 rfl, Y.at 2 rfl, Y.at 3 rfl, Y.at 4 rfl, Y.at 5 rfl⟩) (fun hHeld1 => ?_)
  clear hK hHeld0 K
  try simp only [Act.put, sA, sB, sC]
  refine wpAnyH_ready (rs := [22]) (by kernel_rfl) (by simp) (AllReadyH.cons (o := ⟨some 70, _, _, _, _, _⟩) rfl (fun K hK => ?_) AllReadyH.nil)
  go_simp
  (refine (ryright_at ZR.out hy1 _).mono ?_; rintro e u2 ⟨rfl, hb⟩; replace P := P.belowH hb; replace X := X.belowH hb; replace Y := Y.belowH hb; replace b := b.trans (hb.mono b.size); clear hb)
  go_simp
  refine hK.out _ _ (by exact ⟨P.at 0 rfl, P.at 1 rfl, P.at 2 rfl, P.at 3 rfl, P.at 4 rfl, P.at 5 rfl, X.at 0 rfl, X.at 1 rfl, X.at 2 rfl, X.at 3 rfl, X.at 4 rfl, X.at 5 rfl, Y.at 0 rfl, Y.at 1 rfl, Y.at 2 rfl, Y.at 3 rfl, Y.at 4 rfl, Y.at 5 rfl⟩) (fun hHeld2 => ?_)
  clear hK hHeld1 K
  try simp only [Act.put, sA, sB, sC]
  refine tk 23 71 rfl hHeld2 ?_
  refine tk 24 72 rfl hHeld2 ?_
  refine tk 25 73 rfl hHeld2 ?_
  refine tk 26 74 rfl hHeld2 ?_
  refine tk 28 76 rfl hHeld2 ?_
  refine wpAnyH_ready (rs := [27]) (by kernel_rfl) (by simp) (AllReadyH.cons (o := ⟨some 75, _, _, _, _, _⟩) rfl (fun K hK => ?_) AllReadyH.nil)
  go_simp
  (refine (yword_at ZW.out hvl.out _).mono ?_; rintro e u3 ⟨rfl, hb⟩; replace P := P.belowH hb; replace X := X.belowH hb; replace Y := Y.belowH hb; replace b := b.trans (hb.mono b.size); clear hb)
  go_simp
  refine hK.out _ _ (by exact ⟨P.at 0 rfl, P.at 1 rfl, P.at 2 rfl, P.at 3 rfl, P.at 4 rfl, P.at 5 rfl, X.at 0 rfl, X.at 1 rfl, X.at 2 rfl, X.at 3 rfl, X.at 4 rfl, X.at 5 rfl, Y.at 0 rfl, Y.at 1 rfl, Y.at 2 rfl, Y.at 3 rfl, Y.at 4 rfl, Y.at 5 rfl⟩) (fun hHeld3 => ?_)
  clear hK hHeld2 K
  try simp only [Act.put, sA, sB, sC]
  refine wpAnyH_ready (rs := [29]) (by kernel_rfl) (by simp) (AllReadyH.cons (o := ⟨some 77, _, _, _, _, _⟩) rfl (fun K hK => ?_) AllReadyH.nil)
  go_simp
  (refine (ryword_at ZW.out (by have := hvl.out; omega) _).mono ?_; rintro e u4 ⟨rfl, rfl⟩)
  go_simp
  refine hK.out _ _ (by exact ⟨P.at 0 rfl, P.at 1 rfl, P.at 2 rfl, P.at 3 rfl, P.at 4 rfl, P.at 5 rfl, X.at 0 rfl, X.at 1 rfl, X.at 2 rfl, X.at 3 rfl, X.at 4 rfl, X.at 5 rfl, Y.at 0 rfl, Y.at 1 rfl, Y.at 2 rfl, Y.at 3 rfl, Y.at 4 rfl, Y.at 5 rfl⟩) (fun hHeld4 => ?_)
  clear hK hHeld3 K
  try simp only [Act.put, sA, sB, sC]
  refine tk 30 78 rfl hHeld4 ?_
  refine tk 31 79 rfl hHeld4 ?_
  refine tk 32 4 rfl hHeld4 ?_
  refine wpAnyH_done (by kernel_rfl) ?_ _
  go_wp2
  go_ret
  exact ⟨ret_bool (by simp), b⟩
end Go.Proofs.Ytfgpncbcelafoaa
