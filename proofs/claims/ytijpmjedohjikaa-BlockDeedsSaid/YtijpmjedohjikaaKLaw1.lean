/- The walk of block's law on deeds. -/
import Derived.Test.YtijpmjedohjikaaKAlive
import Derived.Test.YtijpmjedohjikaaKRows
import Derived.Test.YtijpmjedohjikaaKLen
namespace Go.Proofs.Ytijpmjedohjikaa
set_option linter.unusedVariables false
set_option linter.unusedSimpArgs false
open Go.RowKit
set_option maxHeartbeats 8000000 in
set_option maxRecDepth 100000 in
theorem law_BlockDeeds (u : Kv) (p q : Int) (sb : List UInt8) (W : World) (w0 : KIn W u) (w1 : PairI p q) (w2 : sb.length = 64) :
    Calls Try.prog 3 #[kval u, .agg #[.int .i64 p, .int .i64 q], .agg (U sb).toArray] W fun e w' => e = .returned (.bool true) ∧ Below W.heap.size W w' := by
  obtain ⟨d, A, n, c⟩ := u
  obtain ⟨R0, hfb, hfu, hsz⟩ := w0
  clear hsz
  simp only at hfb hfu
  unfold PairI I64b at w1
  have hs : Hid (sb.length = 64) := Lib.hid w2
  have hwf : Hid (K.wf d) := Lib.hid R0.2.1
  clear w2
  simp only [kval]
  have P := Box.new (W) #[.slice A n c, .int .i64 d.fuse, .bool d.down] 24
  have b := (Below.refl W.heap.size W).alloc (Nat.le_refl _) (.cells #[.slice A n c, .int .i64 d.fuse, .bool d.down] 24)
  have Q := Box.new ((W).alloc (.cells #[.slice A n c, .int .i64 d.fuse, .bool d.down] 24)) #[.int .i64 p, .int .i64 q] 25
  rw [show ((W).alloc (.cells #[.slice A n c, .int .i64 d.fuse, .bool d.down] 24)).heap.size = W.heap.size + 1 by simp] at Q
  replace P := P.alloc (.cells #[.int .i64 p, .int .i64 q] 25)
  replace b := b.alloc b.size (.cells #[.int .i64 p, .int .i64 q] 25)
  have D := Box.new (((W).alloc (.cells #[.slice A n c, .int .i64 d.fuse, .bool d.down] 24)).alloc (.cells #[.int .i64 p, .int .i64 q] 25)) (U sb).toArray 26
  rw [show (((W).alloc (.cells #[.slice A n c, .int .i64 d.fuse, .bool d.down] 24)).alloc (.cells #[.int .i64 p, .int .i64 q] 25)).heap.size = W.heap.size + 1 + 1 by simp] at D
  replace P := P.alloc (.cells (U sb).toArray 26)
  replace Q := Q.alloc (.cells (U sb).toArray 26)
  replace b := b.alloc b.size (.cells (U sb).toArray 26)
  replace R0 := R0.belowH b
  have hd0 : d.secs.length = n := R0.len
  have HL := Lib.hid hd0
  clear hd0
  obtain ⟨⟨y, er⟩, hy⟩ : ∃ z, K.put d p sb = z := ⟨_, rfl⟩
  have EP := Lib.hid hy
  obtain ⟨⟨y2, er2⟩, hy2⟩ : ∃ z, K.arm d q = z := ⟨_, rfl⟩
  have EA := Lib.hid hy2
  obtain ⟨ge, hge⟩ : ∃ z, K.asked d p = z := ⟨_, rfl⟩
  obtain ⟨gt, hgt⟩ : ∃ z, K.get d p = z := ⟨_, rfl⟩
  have EG := Lib.hid hge
  have ET := Lib.hid hgt
  have ht : Hid (gt.length = 64) := Lib.hid (by rw [← hgt]; exact K.get_len hwf.out p)
  have hyl : Hid (y.secs.length = d.secs.length) := Lib.hid (by have := K.put_len d p sb; rw [hy] at this; exact this)
  have hyl2 : Hid (y2.secs.length = d.secs.length) := Lib.hid (by have := K.arm_len d q; rw [hy2] at this; exact this)
  have EQ := sec_in gt gt ht.out ht.out
  clear hy hy2 hge hgt
  go_enter Try.func3, Try.ntmps3
  go_wp2_with fail
  generalize (((W).alloc (.cells #[.slice A n c, .int .i64 d.fuse, .bool d.down] 24)).alloc (.cells #[.int .i64 p, .int .i64 q] 25)).alloc (.cells (U sb).toArray 26) = w1' at *
  refine (kalive_any _).mono ?_
  rintro e v1 ⟨rfl, hb⟩
  replace P := P.belowH hb
  replace Q := Q.belowH hb
  replace D := D.belowH hb
  replace R0 := R0.belowH hb
  replace b := b.trans (hb.mono b.size)
  clear hb
  (try dsimp only)
  have p0 := P.at 0 rfl
  have p1 := P.at 1 rfl
  have p2 := P.at 2 rfl
  have q0 := Q.at 0 rfl
  have q1 := Q.at 1 rfl
  by_cases hn : 200 < n
  · go_wp2
    go_ret
    exact ⟨rfl, b⟩
  have hn2 : n ≤ 1000 := by omega
  go_wp2_with (first | ((with_reducible refine sec_take _ (W.heap.size + 1 + 1) 0 sb hs.out (sec_box D) ?hw ?hx ?_); (case hw => rfl); (case hx => rfl)))
  refine (rkcopy_at A n c _ R0 hn2).mono ?_
  rintro e v0 ⟨⟨A1, c1, rfl, own⟩, hb⟩
  clear p0 p1 p2 q0 q1
  replace P := P.belowH hb
  replace Q := Q.belowH hb
  replace D := D.belowH hb
  replace R0 := R0.belowH hb
  replace b := b.trans (hb.mono b.size)
  clear hb
  dsimp only at own ⊢
  have R1 := KRd.of_own own hwf.out
  clear own
  have X1 := Box.new v0 #[.slice A1 n c1, .int .i64 d.fuse, .bool d.down] 24
  replace P := P.alloc (.cells #[.slice A1 n c1, .int .i64 d.fuse, .bool d.down] 24)
  replace Q := Q.alloc (.cells #[.slice A1 n c1, .int .i64 d.fuse, .bool d.down] 24)
  replace D := D.alloc (.cells #[.slice A1 n c1, .int .i64 d.fuse, .bool d.down] 24)
  replace R0 := R0.alloc (.cells #[.slice A1 n c1, .int .i64 d.fuse, .bool d.down] 24)
  replace b := b.alloc b.size (.cells #[.slice A1 n c1, .int .i64 d.fuse, .bool d.down] 24)
  replace R1 := R1.alloc (.cells #[.slice A1 n c1, .int .i64 d.fuse, .bool d.down] 24)
  have p0 := P.at 0 rfl
  have p1 := P.at 1 rfl
  have p2 := P.at 2 rfl
  have q0 := Q.at 0 rfl
  have q1 := Q.at 1 rfl
  have x10 := X1.at 0 rfl
  have x11 := X1.at 1 rfl
  have x12 := X1.at 2 rfl
  go_wp2_with (first | ((with_reducible refine sec_take _ (W.heap.size + 1 + 1) 0 sb hs.out (sec_box D) ?hw ?hx ?_); (case hw => rfl); (case hx => rfl)))
  generalize v0.alloc (.cells #[.slice A1 n c1, .int .i64 d.fuse, .bool d.down] 24) = s1 at *
  refine (kput_at A1 n c1 p sb hs.out EP.out _ R1 hn2 hfu).mono ?_
  rintro e v2 ⟨⟨A2, n2, c2, rfl, R2, fr⟩, hb⟩
  clear p0 p1 p2 q0 q1 x10 x11 x12
  replace P := P.belowH hb
  replace Q := Q.belowH hb
  replace D := D.belowH hb
  replace X1 := X1.belowH hb
  replace R0 := R0.belowH hb
  replace R1 := R1.belowH hb
  replace b := b.trans (hb.mono b.size)
  clear hb
  (try dsimp only)
  clear fr
  (try dsimp only at R2)
  have X2 := Box.new v2 #[.slice A2 n2 c2, .int .i64 y.fuse, .bool y.down] 24
  replace P := P.alloc (.cells #[.slice A2 n2 c2, .int .i64 y.fuse, .bool y.down] 24)
  replace Q := Q.alloc (.cells #[.slice A2 n2 c2, .int .i64 y.fuse, .bool y.down] 24)
  replace D := D.alloc (.cells #[.slice A2 n2 c2, .int .i64 y.fuse, .bool y.down] 24)
  replace X1 := X1.alloc (.cells #[.slice A2 n2 c2, .int .i64 y.fuse, .bool y.down] 24)
  replace R0 := R0.alloc (.cells #[.slice A2 n2 c2, .int .i64 y.fuse, .bool y.down] 24)
  replace R1 := R1.alloc (.cells #[.slice A2 n2 c2, .int .i64 y.fuse, .bool y.down] 24)
  replace b := b.alloc b.size (.cells #[.slice A2 n2 c2, .int .i64 y.fuse, .bool y.down] 24)
  replace R2 := R2.alloc (.cells #[.slice A2 n2 c2, .int .i64 y.fuse, .bool y.down] 24)
  have p0 := P.at 0 rfl
  have p1 := P.at 1 rfl
  have p2 := P.at 2 rfl
  have q0 := Q.at 0 rfl
  have q1 := Q.at 1 rfl
  have x10 := X1.at 0 rfl
  have x11 := X1.at 1 rfl
  have x12 := X1.at 2 rfl
  have x20 := X2.at 0 rfl
  have x21 := X2.at 1 rfl
  have x22 := X2.at 2 rfl
  go_wp2_with (first | ((with_reducible refine sec_take _ (W.heap.size + 1 + 1) 0 sb hs.out (sec_box D) ?hw ?hx ?_); (case hw => rfl); (case hx => rfl)))
  generalize v2.alloc (.cells #[.slice A2 n2 c2, .int .i64 y.fuse, .bool y.down] 24) = s2 at *
  refine (rkput_at A n c p sb hs.out EP.out _ R0 hn2 hfu).mono ?_
  rintro e v3 ⟨⟨A3, n3, c3, rfl, R3, fr⟩, hb⟩
  clear p0 p1 p2 q0 q1 x10 x11 x12 x20 x21 x22
  replace P := P.belowH hb
  replace Q := Q.belowH hb
  replace D := D.belowH hb
  replace X1 := X1.belowH hb
  replace X2 := X2.belowH hb
  replace R0 := R0.belowH hb
  replace R1 := R1.belowH hb
  replace R2 := R2.belowH hb
  replace b := b.trans (hb.mono b.size)
  clear hb
  (try dsimp only)
  clear fr
  (try dsimp only at R3)
  have X3 := Box.new v3 #[.slice A3 n3 c3, .int .i64 y.fuse, .bool y.down] 24
  replace P := P.alloc (.cells #[.slice A3 n3 c3, .int .i64 y.fuse, .bool y.down] 24)
  replace Q := Q.alloc (.cells #[.slice A3 n3 c3, .int .i64 y.fuse, .bool y.down] 24)
  replace D := D.alloc (.cells #[.slice A3 n3 c3, .int .i64 y.fuse, .bool y.down] 24)
  replace X1 := X1.alloc (.cells #[.slice A3 n3 c3, .int .i64 y.fuse, .bool y.down] 24)
  replace X2 := X2.alloc (.cells #[.slice A3 n3 c3, .int .i64 y.fuse, .bool y.down] 24)
  replace R0 := R0.alloc (.cells #[.slice A3 n3 c3, .int .i64 y.fuse, .bool y.down] 24)
  replace R1 := R1.alloc (.cells #[.slice A3 n3 c3, .int .i64 y.fuse, .bool y.down] 24)
  replace R2 := R2.alloc (.cells #[.slice A3 n3 c3, .int .i64 y.fuse, .bool y.down] 24)
  replace b := b.alloc b.size (.cells #[.slice A3 n3 c3, .int .i64 y.fuse, .bool y.down] 24)
  replace R3 := R3.alloc (.cells #[.slice A3 n3 c3, .int .i64 y.fuse, .bool y.down] 24)
  have p0 := P.at 0 rfl
  have p1 := P.at 1 rfl
  have p2 := P.at 2 rfl
  have q0 := Q.at 0 rfl
  have q1 := Q.at 1 rfl
  have x10 := X1.at 0 rfl
  have x11 := X1.at 1 rfl
  have x12 := X1.at 2 rfl
  have x20 := X2.at 0 rfl
  have x21 := X2.at 1 rfl
  have x22 := X2.at 2 rfl
  have x30 := X3.at 0 rfl
  have x31 := X3.at 1 rfl
  have x32 := X3.at 2 rfl
  go_wp2_with (first | ((with_reducible refine sec_take _ (W.heap.size + 1 + 1) 0 sb hs.out (sec_box D) ?hw ?hx ?_); (case hw => rfl); (case hx => rfl)))
  generalize v3.alloc (.cells #[.slice A3 n3 c3, .int .i64 y.fuse, .bool y.down] 24) = s3 at *
  refine (kget_at A1 n c1 p EG.out ET.out _ R1).mono ?_
  rintro e v4 ⟨rfl, hb⟩
  clear p0 p1 p2 q0 q1 x10 x11 x12 x20 x21 x22 x30 x31 x32
  replace P := P.belowH hb
  replace Q := Q.belowH hb
  replace D := D.belowH hb
  replace X1 := X1.belowH hb
  replace X2 := X2.belowH hb
  replace X3 := X3.belowH hb
  replace R0 := R0.belowH hb
  replace R1 := R1.belowH hb
  replace R2 := R2.belowH hb
  replace R3 := R3.belowH hb
  replace b := b.trans (hb.mono b.size)
  clear hb
  (try dsimp only)
  have X4 := Box.new v4 (U gt).toArray 26
  replace P := P.alloc (.cells (U gt).toArray 26)
  replace Q := Q.alloc (.cells (U gt).toArray 26)
  replace D := D.alloc (.cells (U gt).toArray 26)
  replace X1 := X1.alloc (.cells (U gt).toArray 26)
  replace X2 := X2.alloc (.cells (U gt).toArray 26)
  replace X3 := X3.alloc (.cells (U gt).toArray 26)
  replace R0 := R0.alloc (.cells (U gt).toArray 26)
  replace R1 := R1.alloc (.cells (U gt).toArray 26)
  replace R2 := R2.alloc (.cells (U gt).toArray 26)
  replace R3 := R3.alloc (.cells (U gt).toArray 26)
  replace b := b.alloc b.size (.cells (U gt).toArray 26)
  have p0 := P.at 0 rfl
  have p1 := P.at 1 rfl
  have p2 := P.at 2 rfl
  have q0 := Q.at 0 rfl
  have q1 := Q.at 1 rfl
  have x10 := X1.at 0 rfl
  have x11 := X1.at 1 rfl
  have x12 := X1.at 2 rfl
  have x20 := X2.at 0 rfl
  have x21 := X2.at 1 rfl
  have x22 := X2.at 2 rfl
  have x30 := X3.at 0 rfl
  have x31 := X3.at 1 rfl
  have x32 := X3.at 2 rfl
  go_wp2_with (first | ((with_reducible refine sec_new _ gt ht.out ?hd ?hy ?_); (case hd => rfl); (case hy => rfl)) | ((with_reducible refine sec_take _ (W.heap.size + 1 + 1) 0 sb hs.out (sec_box D) ?hw ?hx ?_); (case hw => rfl); (case hx => rfl)) | ((with_reducible refine sec_take _ (v4.heap.size) 0 gt ht.out (sec_box X4) ?hw ?hx ?_); (case hw => rfl); (case hx => rfl)))
  generalize v4.alloc (.cells (U gt).toArray 26) = s4 at *
  refine (rkget_at A n c p EG.out ET.out _ R0).mono ?_
  rintro e v5 ⟨rfl, hb⟩
  clear p0 p1 p2 q0 q1 x10 x11 x12 x20 x21 x22 x30 x31 x32
  replace P := P.belowH hb
  replace Q := Q.belowH hb
  replace D := D.belowH hb
  replace X1 := X1.belowH hb
  replace X2 := X2.belowH hb
  replace X3 := X3.belowH hb
  replace X4 := X4.belowH hb
  replace R0 := R0.belowH hb
  replace R1 := R1.belowH hb
  replace R2 := R2.belowH hb
  replace R3 := R3.belowH hb
  replace b := b.trans (hb.mono b.size)
  clear hb
  (try dsimp only)
  have X5 := Box.new v5 (U gt).toArray 26
  replace P := P.alloc (.cells (U gt).toArray 26)
  replace Q := Q.alloc (.cells (U gt).toArray 26)
  replace D := D.alloc (.cells (U gt).toArray 26)
  replace X1 := X1.alloc (.cells (U gt).toArray 26)
  replace X2 := X2.alloc (.cells (U gt).toArray 26)
  replace X3 := X3.alloc (.cells (U gt).toArray 26)
  replace X4 := X4.alloc (.cells (U gt).toArray 26)
  replace R0 := R0.alloc (.cells (U gt).toArray 26)
  replace R1 := R1.alloc (.cells (U gt).toArray 26)
  replace R2 := R2.alloc (.cells (U gt).toArray 26)
  replace R3 := R3.alloc (.cells (U gt).toArray 26)
  replace b := b.alloc b.size (.cells (U gt).toArray 26)
  have p0 := P.at 0 rfl
  have p1 := P.at 1 rfl
  have p2 := P.at 2 rfl
  have q0 := Q.at 0 rfl
  have q1 := Q.at 1 rfl
  have x10 := X1.at 0 rfl
  have x11 := X1.at 1 rfl
  have x12 := X1.at 2 rfl
  have x20 := X2.at 0 rfl
  have x21 := X2.at 1 rfl
  have x22 := X2.at 2 rfl
  have x30 := X3.at 0 rfl
  have x31 := X3.at 1 rfl
  have x32 := X3.at 2 rfl
  go_wp2_with (first | ((with_reducible refine sec_new _ gt ht.out ?hd ?hy ?_); (case hd => rfl); (case hy => rfl)) | ((with_reducible refine sec_take _ (W.heap.size + 1 + 1) 0 sb hs.out (sec_box D) ?hw ?hx ?_); (case hw => rfl); (case hx => rfl)) | ((with_reducible refine sec_take _ (v4.heap.size) 0 gt ht.out (sec_box X4) ?hw ?hx ?_); (case hw => rfl); (case hx => rfl)) | ((with_reducible refine sec_take _ (v5.heap.size) 0 gt ht.out (sec_box X5) ?hw ?hx ?_); (case hw => rfl); (case hx => rfl)))
  generalize v5.alloc (.cells (U gt).toArray 26) = s5 at *
  refine (karm_at A1 n c1 q EA.out _ R1 hn2).mono ?_
  rintro e v6 ⟨⟨A6, n6, c6, rfl, R6, fr⟩, hb⟩
  clear p0 p1 p2 q0 q1 x10 x11 x12 x20 x21 x22 x30 x31 x32
  replace P := P.belowH hb
  replace Q := Q.belowH hb
  replace D := D.belowH hb
  replace X1 := X1.belowH hb
  replace X2 := X2.belowH hb
  replace X3 := X3.belowH hb
  replace X4 := X4.belowH hb
  replace X5 := X5.belowH hb
  replace R0 := R0.belowH hb
  replace R1 := R1.belowH hb
  replace R2 := R2.belowH hb
  replace R3 := R3.belowH hb
  replace b := b.trans (hb.mono b.size)
  clear hb
  (try dsimp only)
  clear fr
  (try dsimp only at R6)
  have X6 := Box.new v6 #[.slice A6 n6 c6, .int .i64 y2.fuse, .bool y2.down] 24
  replace P := P.alloc (.cells #[.slice A6 n6 c6, .int .i64 y2.fuse, .bool y2.down] 24)
  replace Q := Q.alloc (.cells #[.slice A6 n6 c6, .int .i64 y2.fuse, .bool y2.down] 24)
  replace D := D.alloc (.cells #[.slice A6 n6 c6, .int .i64 y2.fuse, .bool y2.down] 24)
  replace X1 := X1.alloc (.cells #[.slice A6 n6 c6, .int .i64 y2.fuse, .bool y2.down] 24)
  replace X2 := X2.alloc (.cells #[.slice A6 n6 c6, .int .i64 y2.fuse, .bool y2.down] 24)
  replace X3 := X3.alloc (.cells #[.slice A6 n6 c6, .int .i64 y2.fuse, .bool y2.down] 24)
  replace X4 := X4.alloc (.cells #[.slice A6 n6 c6, .int .i64 y2.fuse, .bool y2.down] 24)
  replace X5 := X5.alloc (.cells #[.slice A6 n6 c6, .int .i64 y2.fuse, .bool y2.down] 24)
  replace R0 := R0.alloc (.cells #[.slice A6 n6 c6, .int .i64 y2.fuse, .bool y2.down] 24)
  replace R1 := R1.alloc (.cells #[.slice A6 n6 c6, .int .i64 y2.fuse, .bool y2.down] 24)
  replace R2 := R2.alloc (.cells #[.slice A6 n6 c6, .int .i64 y2.fuse, .bool y2.down] 24)
  replace R3 := R3.alloc (.cells #[.slice A6 n6 c6, .int .i64 y2.fuse, .bool y2.down] 24)
  replace b := b.alloc b.size (.cells #[.slice A6 n6 c6, .int .i64 y2.fuse, .bool y2.down] 24)
  replace R6 := R6.alloc (.cells #[.slice A6 n6 c6, .int .i64 y2.fuse, .bool y2.down] 24)
  have p0 := P.at 0 rfl
  have p1 := P.at 1 rfl
  have p2 := P.at 2 rfl
  have q0 := Q.at 0 rfl
  have q1 := Q.at 1 rfl
  have x10 := X1.at 0 rfl
  have x11 := X1.at 1 rfl
  have x12 := X1.at 2 rfl
  have x20 := X2.at 0 rfl
  have x21 := X2.at 1 rfl
  have x22 := X2.at 2 rfl
  have x30 := X3.at 0 rfl
  have x31 := X3.at 1 rfl
  have x32 := X3.at 2 rfl
  have x60 := X6.at 0 rfl
  have x61 := X6.at 1 rfl
  have x62 := X6.at 2 rfl
  go_wp2_with (first | ((with_reducible refine sec_take _ (W.heap.size + 1 + 1) 0 sb hs.out (sec_box D) ?hw ?hx ?_); (case hw => rfl); (case hx => rfl)) | ((with_reducible refine sec_take _ (v4.heap.size) 0 gt ht.out (sec_box X4) ?hw ?hx ?_); (case hw => rfl); (case hx => rfl)) | ((with_reducible refine sec_take _ (v5.heap.size) 0 gt ht.out (sec_box X5) ?hw ?hx ?_); (case hw => rfl); (case hx => rfl)))
  generalize v6.alloc (.cells #[.slice A6 n6 c6, .int .i64 y2.fuse, .bool y2.down] 24) = s6 at *
  refine (rkarm_at A n c q EA.out _ R0 hn2).mono ?_
  rintro e v7 ⟨⟨A7, n7, c7, rfl, R7, fr⟩, hb⟩
  clear p0 p1 p2 q0 q1 x10 x11 x12 x20 x21 x22 x30 x31 x32 x60 x61 x62
  replace P := P.belowH hb
  replace Q := Q.belowH hb
  replace D := D.belowH hb
  replace X1 := X1.belowH hb
  replace X2 := X2.belowH hb
  replace X3 := X3.belowH hb
  replace X4 := X4.belowH hb
  replace X5 := X5.belowH hb
  replace X6 := X6.belowH hb
  replace R0 := R0.belowH hb
  replace R1 := R1.belowH hb
  replace R2 := R2.belowH hb
  replace R3 := R3.belowH hb
  replace R6 := R6.belowH hb
  replace b := b.trans (hb.mono b.size)
  clear hb
  (try dsimp only)
  clear fr
  (try dsimp only at R7)
  have X7 := Box.new v7 #[.slice A7 n7 c7, .int .i64 y2.fuse, .bool y2.down] 24
  replace P := P.alloc (.cells #[.slice A7 n7 c7, .int .i64 y2.fuse, .bool y2.down] 24)
  replace Q := Q.alloc (.cells #[.slice A7 n7 c7, .int .i64 y2.fuse, .bool y2.down] 24)
  replace D := D.alloc (.cells #[.slice A7 n7 c7, .int .i64 y2.fuse, .bool y2.down] 24)
  replace X1 := X1.alloc (.cells #[.slice A7 n7 c7, .int .i64 y2.fuse, .bool y2.down] 24)
  replace X2 := X2.alloc (.cells #[.slice A7 n7 c7, .int .i64 y2.fuse, .bool y2.down] 24)
  replace X3 := X3.alloc (.cells #[.slice A7 n7 c7, .int .i64 y2.fuse, .bool y2.down] 24)
  replace X4 := X4.alloc (.cells #[.slice A7 n7 c7, .int .i64 y2.fuse, .bool y2.down] 24)
  replace X5 := X5.alloc (.cells #[.slice A7 n7 c7, .int .i64 y2.fuse, .bool y2.down] 24)
  replace X6 := X6.alloc (.cells #[.slice A7 n7 c7, .int .i64 y2.fuse, .bool y2.down] 24)
  replace R0 := R0.alloc (.cells #[.slice A7 n7 c7, .int .i64 y2.fuse, .bool y2.down] 24)
  replace R1 := R1.alloc (.cells #[.slice A7 n7 c7, .int .i64 y2.fuse, .bool y2.down] 24)
  replace R2 := R2.alloc (.cells #[.slice A7 n7 c7, .int .i64 y2.fuse, .bool y2.down] 24)
  replace R3 := R3.alloc (.cells #[.slice A7 n7 c7, .int .i64 y2.fuse, .bool y2.down] 24)
  replace R6 := R6.alloc (.cells #[.slice A7 n7 c7, .int .i64 y2.fuse, .bool y2.down] 24)
  replace b := b.alloc b.size (.cells #[.slice A7 n7 c7, .int .i64 y2.fuse, .bool y2.down] 24)
  replace R7 := R7.alloc (.cells #[.slice A7 n7 c7, .int .i64 y2.fuse, .bool y2.down] 24)
  have p0 := P.at 0 rfl
  have p1 := P.at 1 rfl
  have p2 := P.at 2 rfl
  have q0 := Q.at 0 rfl
  have q1 := Q.at 1 rfl
  have x10 := X1.at 0 rfl
  have x11 := X1.at 1 rfl
  have x12 := X1.at 2 rfl
  have x20 := X2.at 0 rfl
  have x21 := X2.at 1 rfl
  have x22 := X2.at 2 rfl
  have x30 := X3.at 0 rfl
  have x31 := X3.at 1 rfl
  have x32 := X3.at 2 rfl
  have x60 := X6.at 0 rfl
  have x61 := X6.at 1 rfl
  have x62 := X6.at 2 rfl
  have x70 := X7.at 0 rfl
  have x71 := X7.at 1 rfl
  have x72 := X7.at 2 rfl
  have hn3 : n2 ≤ 1000 := by have h1 := R2.len; have h2 := hyl.out; have h3 := HL.out; simp only at h1; omega
  have hn6 : n6 ≤ 1000 := by have h1 := R6.len; have h2 := hyl2.out; have h3 := HL.out; simp only at h1; omega
  go_wp2_with (first | ((with_reducible refine sec_take _ (W.heap.size + 1 + 1) 0 sb hs.out (sec_box D) ?hw ?hx ?_); (case hw => rfl); (case hx => rfl)) | ((with_reducible refine sec_take _ (v4.heap.size) 0 gt ht.out (sec_box X4) ?hw ?hx ?_); (case hw => rfl); (case hx => rfl)) | ((with_reducible refine sec_take _ (v5.heap.size) 0 gt ht.out (sec_box X5) ?hw ?hx ?_); (case hw => rfl); (case hx => rfl)))
  generalize v7.alloc (.cells #[.slice A7 n7 c7, .int .i64 y2.fuse, .bool y2.down] 24) = s7 at *
  refine (rksame_at A2 A3 n2 c2 n3 c3 (decide_eq_true rfl) _ R2 R3 hn3).mono ?_
  rintro e v8 ⟨rfl, hb⟩
  clear p0 p1 p2 q0 q1 x10 x11 x12 x20 x21 x22 x30 x31 x32 x60 x61 x62 x70 x71 x72
  replace P := P.belowH hb
  replace Q := Q.belowH hb
  replace D := D.belowH hb
  replace X1 := X1.belowH hb
  replace X2 := X2.belowH hb
  replace X3 := X3.belowH hb
  replace X4 := X4.belowH hb
  replace X5 := X5.belowH hb
  replace X6 := X6.belowH hb
  replace X7 := X7.belowH hb
  replace R0 := R0.belowH hb
  replace R1 := R1.belowH hb
  replace R2 := R2.belowH hb
  replace R3 := R3.belowH hb
  replace R6 := R6.belowH hb
  replace R7 := R7.belowH hb
  replace b := b.trans (hb.mono b.size)
  clear hb
  (try dsimp only)
  have p0 := P.at 0 rfl
  have p1 := P.at 1 rfl
  have p2 := P.at 2 rfl
  have q0 := Q.at 0 rfl
  have q1 := Q.at 1 rfl
  have x10 := X1.at 0 rfl
  have x11 := X1.at 1 rfl
  have x12 := X1.at 2 rfl
  have x20 := X2.at 0 rfl
  have x21 := X2.at 1 rfl
  have x22 := X2.at 2 rfl
  have x30 := X3.at 0 rfl
  have x31 := X3.at 1 rfl
  have x32 := X3.at 2 rfl
  have x60 := X6.at 0 rfl
  have x61 := X6.at 1 rfl
  have x62 := X6.at 2 rfl
  have x70 := X7.at 0 rfl
  have x71 := X7.at 1 rfl
  have x72 := X7.at 2 rfl
  go_wp2_with (first | ((with_reducible refine sec_take _ (W.heap.size + 1 + 1) 0 sb hs.out (sec_box D) ?hw ?hx ?_); (case hw => rfl); (case hx => rfl)) | ((with_reducible refine sec_take _ (v4.heap.size) 0 gt ht.out (sec_box X4) ?hw ?hx ?_); (case hw => rfl); (case hx => rfl)) | ((with_reducible refine sec_take _ (v5.heap.size) 0 gt ht.out (sec_box X5) ?hw ?hx ?_); (case hw => rfl); (case hx => rfl)))
  refine (rksame_at A6 A7 n6 c6 n7 c7 (decide_eq_true rfl) _ R6 R7 hn6).mono ?_
  rintro e v9 ⟨rfl, hb⟩
  clear p0 p1 p2 q0 q1 x10 x11 x12 x20 x21 x22 x30 x31 x32 x60 x61 x62 x70 x71 x72
  replace P := P.belowH hb
  replace Q := Q.belowH hb
  replace D := D.belowH hb
  replace X1 := X1.belowH hb
  replace X2 := X2.belowH hb
  replace X3 := X3.belowH hb
  replace X4 := X4.belowH hb
  replace X5 := X5.belowH hb
  replace X6 := X6.belowH hb
  replace X7 := X7.belowH hb
  replace R0 := R0.belowH hb
  replace R1 := R1.belowH hb
  replace R2 := R2.belowH hb
  replace R3 := R3.belowH hb
  replace R6 := R6.belowH hb
  replace R7 := R7.belowH hb
  replace b := b.trans (hb.mono b.size)
  clear hb
  (try dsimp only)
  have p0 := P.at 0 rfl
  have p1 := P.at 1 rfl
  have p2 := P.at 2 rfl
  have q0 := Q.at 0 rfl
  have q1 := Q.at 1 rfl
  have x10 := X1.at 0 rfl
  have x11 := X1.at 1 rfl
  have x12 := X1.at 2 rfl
  have x20 := X2.at 0 rfl
  have x21 := X2.at 1 rfl
  have x22 := X2.at 2 rfl
  have x30 := X3.at 0 rfl
  have x31 := X3.at 1 rfl
  have x32 := X3.at 2 rfl
  have x60 := X6.at 0 rfl
  have x61 := X6.at 1 rfl
  have x62 := X6.at 2 rfl
  have x70 := X7.at 0 rfl
  have x71 := X7.at 1 rfl
  have x72 := X7.at 2 rfl
  go_wp2_with (first | ((with_reducible refine sec_take _ (W.heap.size + 1 + 1) 0 sb hs.out (sec_box D) ?hw ?hx ?_); (case hw => rfl); (case hx => rfl)) | ((with_reducible refine sec_take _ (v4.heap.size) 0 gt ht.out (sec_box X4) ?hw ?hx ?_); (case hw => rfl); (case hx => rfl)) | ((with_reducible refine sec_take _ (v5.heap.size) 0 gt ht.out (sec_box X5) ?hw ?hx ?_); (case hw => rfl); (case hx => rfl)))
  refine (rksame_at A1 A n c1 n c (decide_eq_true rfl) _ R1 R0 hn2).mono ?_
  rintro e v10 ⟨rfl, hb⟩
  clear p0 p1 p2 q0 q1 x10 x11 x12 x20 x21 x22 x30 x31 x32 x60 x61 x62 x70 x71 x72
  replace P := P.belowH hb
  replace Q := Q.belowH hb
  replace D := D.belowH hb
  replace X1 := X1.belowH hb
  replace X2 := X2.belowH hb
  replace X3 := X3.belowH hb
  replace X4 := X4.belowH hb
  replace X5 := X5.belowH hb
  replace X6 := X6.belowH hb
  replace X7 := X7.belowH hb
  replace R0 := R0.belowH hb
  replace R1 := R1.belowH hb
  replace R2 := R2.belowH hb
  replace R3 := R3.belowH hb
  replace R6 := R6.belowH hb
  replace R7 := R7.belowH hb
  replace b := b.trans (hb.mono b.size)
  clear hb
  (try dsimp only)
  have p0 := P.at 0 rfl
  have p1 := P.at 1 rfl
  have p2 := P.at 2 rfl
  have q0 := Q.at 0 rfl
  have q1 := Q.at 1 rfl
  have x10 := X1.at 0 rfl
  have x11 := X1.at 1 rfl
  have x12 := X1.at 2 rfl
  have x20 := X2.at 0 rfl
  have x21 := X2.at 1 rfl
  have x22 := X2.at 2 rfl
  have x30 := X3.at 0 rfl
  have x31 := X3.at 1 rfl
  have x32 := X3.at 2 rfl
  have x60 := X6.at 0 rfl
  have x61 := X6.at 1 rfl
  have x62 := X6.at 2 rfl
  have x70 := X7.at 0 rfl
  have x71 := X7.at 1 rfl
  have x72 := X7.at 2 rfl
  go_wp2_with (first | ((with_reducible refine sec_take _ (W.heap.size + 1 + 1) 0 sb hs.out (sec_box D) ?hw ?hx ?_); (case hw => rfl); (case hx => rfl)) | ((with_reducible refine sec_take _ (v4.heap.size) 0 gt ht.out (sec_box X4) ?hw ?hx ?_); (case hw => rfl); (case hx => rfl)) | ((with_reducible refine sec_take _ (v5.heap.size) 0 gt ht.out (sec_box X5) ?hw ?hx ?_); (case hw => rfl); (case hx => rfl)))
  go_ret
  exact ⟨rfl, b⟩
end Go.Proofs.Ytijpmjedohjikaa
