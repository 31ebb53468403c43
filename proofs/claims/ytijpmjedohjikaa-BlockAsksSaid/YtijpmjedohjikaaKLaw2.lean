/- The walk of block's law on what is asked. -/
import Derived.Test.YtijpmjedohjikaaKAlive
import Derived.Test.YtijpmjedohjikaaKRows
import Derived.Test.YtijpmjedohjikaaKLen
namespace Go.Proofs.Ytijpmjedohjikaa
set_option linter.unusedVariables false
set_option linter.unusedSimpArgs false
open Go.RowKit
set_option maxHeartbeats 8000000 in
set_option maxRecDepth 100000 in
theorem law_BlockAsks (u v : Kv) (m : Int) (W : World) (w0 : KIn W u) (w1 : KIn W v) (w2 : (Lit.int .i64 m).wf = true) :
    Calls Try.prog 4 #[kval u, kval v, .int .i64 m] W fun e w' => e = .returned (.bool true) ∧ Below W.heap.size W w' := by
  obtain ⟨d, A, n, c⟩ := u
  obtain ⟨g, A', n', c'⟩ := v
  obtain ⟨R0, hfb, hfu, hsz⟩ := w0
  clear hsz
  obtain ⟨G0, hgb, hgu⟩ := w1
  simp only at hfb hfu hgb hgu
  clear w2
  simp only [kval]
  have P := Box.new (W) #[.slice A n c, .int .i64 d.fuse, .bool d.down] 24
  have b := (Below.refl W.heap.size W).alloc (Nat.le_refl _) (.cells #[.slice A n c, .int .i64 d.fuse, .bool d.down] 24)
  have Q := Box.new ((W).alloc (.cells #[.slice A n c, .int .i64 d.fuse, .bool d.down] 24)) #[.slice A' n' c', .int .i64 g.fuse, .bool g.down] 24
  rw [show ((W).alloc (.cells #[.slice A n c, .int .i64 d.fuse, .bool d.down] 24)).heap.size = W.heap.size + 1 by simp] at Q
  replace P := P.alloc (.cells #[.slice A' n' c', .int .i64 g.fuse, .bool g.down] 24)
  replace b := b.alloc b.size (.cells #[.slice A' n' c', .int .i64 g.fuse, .bool g.down] 24)
  replace R0 := R0.belowH b
  replace G0 := G0.belowH b
  have hd0 : d.secs.length = n := R0.len
  have HL := Lib.hid hd0
  clear hd0
  obtain ⟨⟨y, er⟩, hy⟩ : ∃ z, K.new m = z := ⟨_, rfl⟩
  have EN := Lib.hid hy
  obtain ⟨⟨y2, er2⟩, hy2⟩ : ∃ z, K.wake d = z := ⟨_, rfl⟩
  have EW := Lib.hid hy2
  obtain ⟨zs, hzs⟩ : ∃ z, decide (d = g) = z := ⟨_, rfl⟩
  have ES := Lib.hid hzs
  obtain ⟨zr, hzr⟩ : ∃ z, decide (K.right d) = z := ⟨_, rfl⟩
  have ER := Lib.hid hzr
  have hyl : Hid (y.secs.length ≤ 64) := Lib.hid (by have := K.new_len m; rw [hy] at this; exact this)
  have hyl2 : Hid (y2.secs.length = d.secs.length) := Lib.hid (by have := K.wake_len d; rw [hy2] at this; exact this)
  clear hy hy2 hzs hzr
  go_enter Try.func4, Try.ntmps4
  go_wp2_with fail
  generalize ((W).alloc (.cells #[.slice A n c, .int .i64 d.fuse, .bool d.down] 24)).alloc (.cells #[.slice A' n' c', .int .i64 g.fuse, .bool g.down] 24) = w1' at *
  refine (kalive_any _).mono ?_
  rintro e v1 ⟨rfl, hb⟩
  replace P := P.belowH hb
  replace Q := Q.belowH hb
  replace R0 := R0.belowH hb
  replace G0 := G0.belowH hb
  replace b := b.trans (hb.mono b.size)
  clear hb
  (try dsimp only)
  have p0 := P.at 0 rfl
  have p1 := P.at 1 rfl
  have p2 := P.at 2 rfl
  have q0 := Q.at 0 rfl
  have q1 := Q.at 1 rfl
  have q2 := Q.at 2 rfl
  by_cases hn : 200 < n
  · go_wp2
    go_ret
    exact ⟨rfl, b⟩
  by_cases hn' : 200 < n'
  · go_wp2
    go_ret
    exact ⟨rfl, b⟩
  have hn2 : n ≤ 1000 := by omega
  have hn3 : n' ≤ 1000 := by omega
  go_wp2_with fail
  refine (knew_at EN.out _).mono ?_
  rintro e v2 ⟨⟨A2, n2, c2, rfl, R2, fr⟩, hb⟩
  clear p0 p1 p2 q0 q1 q2
  replace P := P.belowH hb
  replace Q := Q.belowH hb
  replace R0 := R0.belowH hb
  replace G0 := G0.belowH hb
  replace b := b.trans (hb.mono b.size)
  clear hb
  (try dsimp only)
  clear fr
  (try dsimp only at R2)
  have X2 := Box.new v2 #[.slice A2 n2 c2, .int .i64 y.fuse, .bool y.down] 24
  replace P := P.alloc (.cells #[.slice A2 n2 c2, .int .i64 y.fuse, .bool y.down] 24)
  replace Q := Q.alloc (.cells #[.slice A2 n2 c2, .int .i64 y.fuse, .bool y.down] 24)
  replace R0 := R0.alloc (.cells #[.slice A2 n2 c2, .int .i64 y.fuse, .bool y.down] 24)
  replace G0 := G0.alloc (.cells #[.slice A2 n2 c2, .int .i64 y.fuse, .bool y.down] 24)
  replace b := b.alloc b.size (.cells #[.slice A2 n2 c2, .int .i64 y.fuse, .bool y.down] 24)
  replace R2 := R2.alloc (.cells #[.slice A2 n2 c2, .int .i64 y.fuse, .bool y.down] 24)
  have p0 := P.at 0 rfl
  have p1 := P.at 1 rfl
  have p2 := P.at 2 rfl
  have q0 := Q.at 0 rfl
  have q1 := Q.at 1 rfl
  have q2 := Q.at 2 rfl
  have x20 := X2.at 0 rfl
  have x21 := X2.at 1 rfl
  have x22 := X2.at 2 rfl
  go_wp2_with fail
  generalize v2.alloc (.cells #[.slice A2 n2 c2, .int .i64 y.fuse, .bool y.down] 24) = s2 at *
  refine (rknew_at EN.out _).mono ?_
  rintro e v3 ⟨⟨A3, n3, c3, rfl, R3, fr⟩, hb⟩
  clear p0 p1 p2 q0 q1 q2 x20 x21 x22
  replace P := P.belowH hb
  replace Q := Q.belowH hb
  replace X2 := X2.belowH hb
  replace R0 := R0.belowH hb
  replace G0 := G0.belowH hb
  replace R2 := R2.belowH hb
  replace b := b.trans (hb.mono b.size)
  clear hb
  (try dsimp only)
  clear fr
  (try dsimp only at R3)
  have X3 := Box.new v3 #[.slice A3 n3 c3, .int .i64 y.fuse, .bool y.down] 24
  replace P := P.alloc (.cells #[.slice A3 n3 c3, .int .i64 y.fuse, .bool y.down] 24)
  replace Q := Q.alloc (.cells #[.slice A3 n3 c3, .int .i64 y.fuse, .bool y.down] 24)
  replace X2 := X2.alloc (.cells #[.slice A3 n3 c3, .int .i64 y.fuse, .bool y.down] 24)
  replace R0 := R0.alloc (.cells #[.slice A3 n3 c3, .int .i64 y.fuse, .bool y.down] 24)
  replace G0 := G0.alloc (.cells #[.slice A3 n3 c3, .int .i64 y.fuse, .bool y.down] 24)
  replace R2 := R2.alloc (.cells #[.slice A3 n3 c3, .int .i64 y.fuse, .bool y.down] 24)
  replace b := b.alloc b.size (.cells #[.slice A3 n3 c3, .int .i64 y.fuse, .bool y.down] 24)
  replace R3 := R3.alloc (.cells #[.slice A3 n3 c3, .int .i64 y.fuse, .bool y.down] 24)
  have p0 := P.at 0 rfl
  have p1 := P.at 1 rfl
  have p2 := P.at 2 rfl
  have q0 := Q.at 0 rfl
  have q1 := Q.at 1 rfl
  have q2 := Q.at 2 rfl
  have x20 := X2.at 0 rfl
  have x21 := X2.at 1 rfl
  have x22 := X2.at 2 rfl
  have x30 := X3.at 0 rfl
  have x31 := X3.at 1 rfl
  have x32 := X3.at 2 rfl
  go_wp2_with fail
  generalize v3.alloc (.cells #[.slice A3 n3 c3, .int .i64 y.fuse, .bool y.down] 24) = s3 at *
  refine (kwake_at A n c EW.out _ R0).mono ?_
  rintro e v4 ⟨⟨A4, n4, c4, rfl, R4, fr⟩, hb⟩
  clear p0 p1 p2 q0 q1 q2 x20 x21 x22 x30 x31 x32
  replace P := P.belowH hb
  replace Q := Q.belowH hb
  replace X2 := X2.belowH hb
  replace X3 := X3.belowH hb
  replace R0 := R0.belowH hb
  replace G0 := G0.belowH hb
  replace R2 := R2.belowH hb
  replace R3 := R3.belowH hb
  replace b := b.trans (hb.mono b.size)
  clear hb
  (try dsimp only)
  clear fr
  (try dsimp only at R4)
  have X4 := Box.new v4 #[.slice A4 n4 c4, .int .i64 y2.fuse, .bool y2.down] 24
  replace P := P.alloc (.cells #[.slice A4 n4 c4, .int .i64 y2.fuse, .bool y2.down] 24)
  replace Q := Q.alloc (.cells #[.slice A4 n4 c4, .int .i64 y2.fuse, .bool y2.down] 24)
  replace X2 := X2.alloc (.cells #[.slice A4 n4 c4, .int .i64 y2.fuse, .bool y2.down] 24)
  replace X3 := X3.alloc (.cells #[.slice A4 n4 c4, .int .i64 y2.fuse, .bool y2.down] 24)
  replace R0 := R0.alloc (.cells #[.slice A4 n4 c4, .int .i64 y2.fuse, .bool y2.down] 24)
  replace G0 := G0.alloc (.cells #[.slice A4 n4 c4, .int .i64 y2.fuse, .bool y2.down] 24)
  replace R2 := R2.alloc (.cells #[.slice A4 n4 c4, .int .i64 y2.fuse, .bool y2.down] 24)
  replace R3 := R3.alloc (.cells #[.slice A4 n4 c4, .int .i64 y2.fuse, .bool y2.down] 24)
  replace b := b.alloc b.size (.cells #[.slice A4 n4 c4, .int .i64 y2.fuse, .bool y2.down] 24)
  replace R4 := R4.alloc (.cells #[.slice A4 n4 c4, .int .i64 y2.fuse, .bool y2.down] 24)
  have p0 := P.at 0 rfl
  have p1 := P.at 1 rfl
  have p2 := P.at 2 rfl
  have q0 := Q.at 0 rfl
  have q1 := Q.at 1 rfl
  have q2 := Q.at 2 rfl
  have x20 := X2.at 0 rfl
  have x21 := X2.at 1 rfl
  have x22 := X2.at 2 rfl
  have x30 := X3.at 0 rfl
  have x31 := X3.at 1 rfl
  have x32 := X3.at 2 rfl
  have x40 := X4.at 0 rfl
  have x41 := X4.at 1 rfl
  have x42 := X4.at 2 rfl
  go_wp2_with fail
  generalize v4.alloc (.cells #[.slice A4 n4 c4, .int .i64 y2.fuse, .bool y2.down] 24) = s4 at *
  refine (rkwake_at A n c EW.out _ R0).mono ?_
  rintro e v5 ⟨⟨A5, n5, c5, rfl, R5, fr⟩, hb⟩
  clear p0 p1 p2 q0 q1 q2 x20 x21 x22 x30 x31 x32 x40 x41 x42
  replace P := P.belowH hb
  replace Q := Q.belowH hb
  replace X2 := X2.belowH hb
  replace X3 := X3.belowH hb
  replace X4 := X4.belowH hb
  replace R0 := R0.belowH hb
  replace G0 := G0.belowH hb
  replace R2 := R2.belowH hb
  replace R3 := R3.belowH hb
  replace R4 := R4.belowH hb
  replace b := b.trans (hb.mono b.size)
  clear hb
  (try dsimp only)
  clear fr
  (try dsimp only at R5)
  have X5 := Box.new v5 #[.slice A5 n5 c5, .int .i64 y2.fuse, .bool y2.down] 24
  replace P := P.alloc (.cells #[.slice A5 n5 c5, .int .i64 y2.fuse, .bool y2.down] 24)
  replace Q := Q.alloc (.cells #[.slice A5 n5 c5, .int .i64 y2.fuse, .bool y2.down] 24)
  replace X2 := X2.alloc (.cells #[.slice A5 n5 c5, .int .i64 y2.fuse, .bool y2.down] 24)
  replace X3 := X3.alloc (.cells #[.slice A5 n5 c5, .int .i64 y2.fuse, .bool y2.down] 24)
  replace X4 := X4.alloc (.cells #[.slice A5 n5 c5, .int .i64 y2.fuse, .bool y2.down] 24)
  replace R0 := R0.alloc (.cells #[.slice A5 n5 c5, .int .i64 y2.fuse, .bool y2.down] 24)
  replace G0 := G0.alloc (.cells #[.slice A5 n5 c5, .int .i64 y2.fuse, .bool y2.down] 24)
  replace R2 := R2.alloc (.cells #[.slice A5 n5 c5, .int .i64 y2.fuse, .bool y2.down] 24)
  replace R3 := R3.alloc (.cells #[.slice A5 n5 c5, .int .i64 y2.fuse, .bool y2.down] 24)
  replace R4 := R4.alloc (.cells #[.slice A5 n5 c5, .int .i64 y2.fuse, .bool y2.down] 24)
  replace b := b.alloc b.size (.cells #[.slice A5 n5 c5, .int .i64 y2.fuse, .bool y2.down] 24)
  replace R5 := R5.alloc (.cells #[.slice A5 n5 c5, .int .i64 y2.fuse, .bool y2.down] 24)
  have p0 := P.at 0 rfl
  have p1 := P.at 1 rfl
  have p2 := P.at 2 rfl
  have q0 := Q.at 0 rfl
  have q1 := Q.at 1 rfl
  have q2 := Q.at 2 rfl
  have x20 := X2.at 0 rfl
  have x21 := X2.at 1 rfl
  have x22 := X2.at 2 rfl
  have x30 := X3.at 0 rfl
  have x31 := X3.at 1 rfl
  have x32 := X3.at 2 rfl
  have x40 := X4.at 0 rfl
  have x41 := X4.at 1 rfl
  have x42 := X4.at 2 rfl
  have x50 := X5.at 0 rfl
  have x51 := X5.at 1 rfl
  have x52 := X5.at 2 rfl
  have hk2 : n2 ≤ 1000 := by have h1 := R2.len; have h2 := hyl.out; simp only at h1; omega
  have hk4 : n4 ≤ 1000 := by have h1 := R4.len; have h2 := hyl2.out; have h3 := HL.out; simp only at h1; omega
  go_wp2_with fail
  generalize v5.alloc (.cells #[.slice A5 n5 c5, .int .i64 y2.fuse, .bool y2.down] 24) = s5 at *
  clear p0 p1 p2 q0 q1 q2 x20 x21 x22 x30 x31 x32 x40 x41 x42 x50 x51 x52
  replace P := P.drew
  replace Q := Q.drew
  replace X2 := X2.drew
  replace X3 := X3.drew
  replace X4 := X4.drew
  replace X5 := X5.drew
  replace R0 := R0.drew
  replace G0 := G0.drew
  replace R2 := R2.drew
  replace R3 := R3.drew
  replace R4 := R4.drew
  replace R5 := R5.drew
  replace b := b.drew
  have p0 := P.at 0 rfl
  have p1 := P.at 1 rfl
  have p2 := P.at 2 rfl
  have q0 := Q.at 0 rfl
  have q1 := Q.at 1 rfl
  have q2 := Q.at 2 rfl
  have x20 := X2.at 0 rfl
  have x21 := X2.at 1 rfl
  have x22 := X2.at 2 rfl
  have x30 := X3.at 0 rfl
  have x31 := X3.at 1 rfl
  have x32 := X3.at 2 rfl
  have x40 := X4.at 0 rfl
  have x41 := X4.at 1 rfl
  have x42 := X4.at 2 rfl
  have x50 := X5.at 0 rfl
  have x51 := X5.at 1 rfl
  have x52 := X5.at 2 rfl
  refine wp_region_held_drew (S := (fun w' => w'.cell? ⟨W.heap.size, 0, none⟩ = some (Value.slice A n c) ∧ w'.cell? ⟨W.heap.size, 1, none⟩ = some (Value.int .i64 d.fuse) ∧ w'.cell? ⟨W.heap.size, 2, none⟩ = some (Value.bool d.down) ∧ w'.cell? ⟨W.heap.size + 1, 0, none⟩ = some (Value.slice A' n' c') ∧ w'.cell? ⟨W.heap.size + 1, 1, none⟩ = some (Value.int .i64 g.fuse) ∧ w'.cell? ⟨W.heap.size + 1, 2, none⟩ = some (Value.bool g.down) ∧ w'.cell? ⟨v2.heap.size, 0, none⟩ = some (Value.slice A2 n2 c2) ∧ w'.cell? ⟨v2.heap.size, 1, none⟩ = some (Value.int .i64 y.fuse) ∧ w'.cell? ⟨v2.heap.size, 2, none⟩ = some (Value.bool y.down) ∧ w'.cell? ⟨v3.heap.size, 0, none⟩ = some (Value.slice A3 n3 c3) ∧ w'.cell? ⟨v3.heap.size, 1, none⟩ = some (Value.int .i64 y.fuse) ∧ w'.cell? ⟨v3.heap.size, 2, none⟩ = some (Value.bool y.down) ∧ w'.cell? ⟨v4.heap.size, 0, none⟩ = some (Value.slice A4 n4 c4) ∧ w'.cell? ⟨v4.heap.size, 1, none⟩ = some (Value.int .i64 y2.fuse) ∧ w'.cell? ⟨v4.heap.size, 2, none⟩ = some (Value.bool y2.down) ∧ w'.cell? ⟨v5.heap.size, 0, none⟩ = some (Value.slice A5 n5 c5) ∧ w'.cell? ⟨v5.heap.size, 1, none⟩ = some (Value.int .i64 y2.fuse) ∧ w'.cell? ⟨v5.heap.size, 2, none⟩ = some (Value.bool y2.down))) (by kernel_rfl) (by exact ⟨p0, p1, p2, q0, q1, q2, x20, x21, x22, x30, x31, x32, x40, x41, x42, x50, x51, x52⟩) (fun hHeld0 => ?_)
  refine tk 0 47 rfl hHeld0 ?_
  refine tk 1 48 rfl hHeld0 ?_
  refine wpAnyH_ready (rs := [2]) (by kernel_rfl) (by simp) (AllReadyH.cons (o := ⟨some 49, _, _, _, _, _⟩) rfl (fun K hK => ?_) AllReadyH.nil)
  go_simp
  (refine (rksame_at A2 A3 n2 c2 n3 c3 (decide_eq_true rfl) _ R2 R3 hk2).mono ?_; rintro e v6 ⟨rfl, hb⟩; replace P := P.belowH hb; replace Q := Q.belowH hb; replace X2 := X2.belowH hb; replace X3 := X3.belowH hb; replace X4 := X4.belowH hb; replace X5 := X5.belowH hb; replace R0 := R0.belowH hb; replace G0 := G0.belowH hb; replace R2 := R2.belowH hb; replace R3 := R3.belowH hb; replace R4 := R4.belowH hb; replace R5 := R5.belowH hb; replace b := b.trans (hb.mono b.size); clear hb p0 p1 p2 q0 q1 q2 x20 x21 x22 x30 x31 x32 x40 x41 x42 x50 x51 x52; have p0 := P.at 0 rfl; have p1 := P.at 1 rfl; have p2 := P.at 2 rfl; have q0 := Q.at 0 rfl; have q1 := Q.at 1 rfl; have q2 := Q.at 2 rfl; have x20 := X2.at 0 rfl; have x21 := X2.at 1 rfl; have x22 := X2.at 2 rfl; have x30 := X3.at 0 rfl; have x31 := X3.at 1 rfl; have x32 := X3.at 2 rfl; have x40 := X4.at 0 rfl; have x41 := X4.at 1 rfl; have x42 := X4.at 2 rfl; have x50 := X5.at 0 rfl; have x51 := X5.at 1 rfl; have x52 := X5.at 2 rfl)
  go_simp
  refine hK.out _ _ (by exact ⟨p0, p1, p2, q0, q1, q2, x20, x21, x22, x30, x31, x32, x40, x41, x42, x50, x51, x52⟩) (fun hHeld1 => ?_)
  clear hK hHeld0 K
  try simp only [Act.put, sA, sB, sC]
  refine tk 3 50 rfl hHeld1 ?_
  refine tk 4 51 rfl hHeld1 ?_
  refine tk 5 52 rfl hHeld1 ?_
  refine tk 6 53 rfl hHeld1 ?_
  refine tk 7 54 rfl hHeld1 ?_
  refine tk 8 55 rfl hHeld1 ?_
  refine tk 9 56 rfl hHeld1 ?_
  refine tk 10 57 rfl hHeld1 ?_
  refine wpAnyH_ready (rs := [11]) (by kernel_rfl) (by simp) (AllReadyH.cons (o := ⟨some 58, _, _, _, _, _⟩) rfl (fun K hK => ?_) AllReadyH.nil)
  go_simp
  (refine (rksame_at A4 A5 n4 c4 n5 c5 (decide_eq_true rfl) _ R4 R5 hk4).mono ?_; rintro e v7 ⟨rfl, hb⟩; replace P := P.belowH hb; replace Q := Q.belowH hb; replace X2 := X2.belowH hb; replace X3 := X3.belowH hb; replace X4 := X4.belowH hb; replace X5 := X5.belowH hb; replace R0 := R0.belowH hb; replace G0 := G0.belowH hb; replace R2 := R2.belowH hb; replace R3 := R3.belowH hb; replace R4 := R4.belowH hb; replace R5 := R5.belowH hb; replace b := b.trans (hb.mono b.size); clear hb p0 p1 p2 q0 q1 q2 x20 x21 x22 x30 x31 x32 x40 x41 x42 x50 x51 x52; have p0 := P.at 0 rfl; have p1 := P.at 1 rfl; have p2 := P.at 2 rfl; have q0 := Q.at 0 rfl; have q1 := Q.at 1 rfl; have q2 := Q.at 2 rfl; have x20 := X2.at 0 rfl; have x21 := X2.at 1 rfl; have x22 := X2.at 2 rfl; have x30 := X3.at 0 rfl; have x31 := X3.at 1 rfl; have x32 := X3.at 2 rfl; have x40 := X4.at 0 rfl; have x41 := X4.at 1 rfl; have x42 := X4.at 2 rfl; have x50 := X5.at 0 rfl; have x51 := X5.at 1 rfl; have x52 := X5.at 2 rfl)
  go_simp
  refine hK.out _ _ (by exact ⟨p0, p1, p2, q0, q1, q2, x20, x21, x22, x30, x31, x32, x40, x41, x42, x50, x51, x52⟩) (fun hHeld2 => ?_)
  clear hK hHeld1 K
  try simp only [Act.put, sA, sB, sC]
  refine tk 12 59 rfl hHeld2 ?_
  refine tk 13 60 rfl hHeld2 ?_
  refine tk 14 61 rfl hHeld2 ?_
  refine tk 15 62 rfl hHeld2 ?_
  refine tk 16 63 rfl hHeld2 ?_
  refine tk 17 64 rfl hHeld2 ?_
  refine tk 18 65 rfl hHeld2 ?_
  refine tk 19 66 rfl hHeld2 ?_
  refine tk 20 67 rfl hHeld2 ?_
  refine tk 22 69 rfl hHeld2 ?_
  refine tk 23 70 rfl hHeld2 ?_
  refine wpAnyH_ready (rs := [21]) (by kernel_rfl) (by simp) (AllReadyH.cons (o := ⟨some 68, _, _, _, _, _⟩) rfl (fun K hK => ?_) AllReadyH.nil)
  go_simp
  (refine (ksame_at A A' n c n' c' ES.out _ R0 G0 hn2).mono ?_; rintro e v8 ⟨rfl, hb⟩; replace P := P.belowH hb; replace Q := Q.belowH hb; replace X2 := X2.belowH hb; replace X3 := X3.belowH hb; replace X4 := X4.belowH hb; replace X5 := X5.belowH hb; replace R0 := R0.belowH hb; replace G0 := G0.belowH hb; replace R2 := R2.belowH hb; replace R3 := R3.belowH hb; replace R4 := R4.belowH hb; replace R5 := R5.belowH hb; replace b := b.trans (hb.mono b.size); clear hb p0 p1 p2 q0 q1 q2 x20 x21 x22 x30 x31 x32 x40 x41 x42 x50 x51 x52; have p0 := P.at 0 rfl; have p1 := P.at 1 rfl; have p2 := P.at 2 rfl; have q0 := Q.at 0 rfl; have q1 := Q.at 1 rfl; have q2 := Q.at 2 rfl; have x20 := X2.at 0 rfl; have x21 := X2.at 1 rfl; have x22 := X2.at 2 rfl; have x30 := X3.at 0 rfl; have x31 := X3.at 1 rfl; have x32 := X3.at 2 rfl; have x40 := X4.at 0 rfl; have x41 := X4.at 1 rfl; have x42 := X4.at 2 rfl; have x50 := X5.at 0 rfl; have x51 := X5.at 1 rfl; have x52 := X5.at 2 rfl)
  go_simp
  refine hK.out _ _ (by exact ⟨p0, p1, p2, q0, q1, q2, x20, x21, x22, x30, x31, x32, x40, x41, x42, x50, x51, x52⟩) (fun hHeld3 => ?_)
  clear hK hHeld2 K
  try simp only [Act.put, sA, sB, sC]
  refine wpAnyH_ready (rs := [24]) (by kernel_rfl) (by simp) (AllReadyH.cons (o := ⟨some 71, _, _, _, _, _⟩) rfl (fun K hK => ?_) AllReadyH.nil)
  go_simp
  (refine (rksame_at A A' n c n' c' ES.out _ R0 G0 hn2).mono ?_; rintro e v9 ⟨rfl, hb⟩; replace P := P.belowH hb; replace Q := Q.belowH hb; replace X2 := X2.belowH hb; replace X3 := X3.belowH hb; replace X4 := X4.belowH hb; replace X5 := X5.belowH hb; replace R0 := R0.belowH hb; replace G0 := G0.belowH hb; replace R2 := R2.belowH hb; replace R3 := R3.belowH hb; replace R4 := R4.belowH hb; replace R5 := R5.belowH hb; replace b := b.trans (hb.mono b.size); clear hb p0 p1 p2 q0 q1 q2 x20 x21 x22 x30 x31 x32 x40 x41 x42 x50 x51 x52; have p0 := P.at 0 rfl; have p1 := P.at 1 rfl; have p2 := P.at 2 rfl; have q0 := Q.at 0 rfl; have q1 := Q.at 1 rfl; have q2 := Q.at 2 rfl; have x20 := X2.at 0 rfl; have x21 := X2.at 1 rfl; have x22 := X2.at 2 rfl; have x30 := X3.at 0 rfl; have x31 := X3.at 1 rfl; have x32 := X3.at 2 rfl; have x40 := X4.at 0 rfl; have x41 := X4.at 1 rfl; have x42 := X4.at 2 rfl; have x50 := X5.at 0 rfl; have x51 := X5.at 1 rfl; have x52 := X5.at 2 rfl)
  go_simp
  refine hK.out _ _ (by exact ⟨p0, p1, p2, q0, q1, q2, x20, x21, x22, x30, x31, x32, x40, x41, x42, x50, x51, x52⟩) (fun hHeld4 => ?_)
  clear hK hHeld3 K
  try simp only [Act.put, sA, sB, sC]
  refine tk 25 72 rfl hHeld4 ?_
  refine tk 26 73 rfl hHeld4 ?_
  refine tk 27 74 rfl hHeld4 ?_
  refine tk 28 75 rfl hHeld4 ?_
  refine tk 29 76 rfl hHeld4 ?_
  refine wpAnyH_ready (rs := [30]) (by kernel_rfl) (by simp) (AllReadyH.cons (o := ⟨some 77, _, _, _, _, _⟩) rfl (fun K hK => ?_) AllReadyH.nil)
  go_simp
  (refine (ksame_at A A n c n c (decide_eq_true rfl) _ R0 R0 hn2).mono ?_; rintro e v10 ⟨rfl, hb⟩; replace P := P.belowH hb; replace Q := Q.belowH hb; replace X2 := X2.belowH hb; replace X3 := X3.belowH hb; replace X4 := X4.belowH hb; replace X5 := X5.belowH hb; replace R0 := R0.belowH hb; replace G0 := G0.belowH hb; replace R2 := R2.belowH hb; replace R3 := R3.belowH hb; replace R4 := R4.belowH hb; replace R5 := R5.belowH hb; replace b := b.trans (hb.mono b.size); clear hb p0 p1 p2 q0 q1 q2 x20 x21 x22 x30 x31 x32 x40 x41 x42 x50 x51 x52; have p0 := P.at 0 rfl; have p1 := P.at 1 rfl; have p2 := P.at 2 rfl; have q0 := Q.at 0 rfl; have q1 := Q.at 1 rfl; have q2 := Q.at 2 rfl; have x20 := X2.at 0 rfl; have x21 := X2.at 1 rfl; have x22 := X2.at 2 rfl; have x30 := X3.at 0 rfl; have x31 := X3.at 1 rfl; have x32 := X3.at 2 rfl; have x40 := X4.at 0 rfl; have x41 := X4.at 1 rfl; have x42 := X4.at 2 rfl; have x50 := X5.at 0 rfl; have x51 := X5.at 1 rfl; have x52 := X5.at 2 rfl)
  go_simp
  refine hK.out _ _ (by exact ⟨p0, p1, p2, q0, q1, q2, x20, x21, x22, x30, x31, x32, x40, x41, x42, x50, x51, x52⟩) (fun hHeld5 => ?_)
  clear hK hHeld4 K
  try simp only [Act.put, sA, sB, sC]
  refine tk 31 78 rfl hHeld5 ?_
  refine tk 32 79 rfl hHeld5 ?_
  refine tk 33 80 rfl hHeld5 ?_
  refine tk 35 82 rfl hHeld5 ?_
  refine wpAnyH_ready (rs := [34]) (by kernel_rfl) (by simp) (AllReadyH.cons (o := ⟨some 81, _, _, _, _, _⟩) rfl (fun K hK => ?_) AllReadyH.nil)
  go_simp
  (refine (kright_at A n c ER.out _ R0).mono ?_; rintro e v11 ⟨rfl, hb⟩; replace P := P.belowH hb; replace Q := Q.belowH hb; replace X2 := X2.belowH hb; replace X3 := X3.belowH hb; replace X4 := X4.belowH hb; replace X5 := X5.belowH hb; replace R0 := R0.belowH hb; replace G0 := G0.belowH hb; replace R2 := R2.belowH hb; replace R3 := R3.belowH hb; replace R4 := R4.belowH hb; replace R5 := R5.belowH hb; replace b := b.trans (hb.mono b.size); clear hb p0 p1 p2 q0 q1 q2 x20 x21 x22 x30 x31 x32 x40 x41 x42 x50 x51 x52; have p0 := P.at 0 rfl; have p1 := P.at 1 rfl; have p2 := P.at 2 rfl; have q0 := Q.at 0 rfl; have q1 := Q.at 1 rfl; have q2 := Q.at 2 rfl; have x20 := X2.at 0 rfl; have x21 := X2.at 1 rfl; have x22 := X2.at 2 rfl; have x30 := X3.at 0 rfl; have x31 := X3.at 1 rfl; have x32 := X3.at 2 rfl; have x40 := X4.at 0 rfl; have x41 := X4.at 1 rfl; have x42 := X4.at 2 rfl; have x50 := X5.at 0 rfl; have x51 := X5.at 1 rfl; have x52 := X5.at 2 rfl)
  go_simp
  refine hK.out _ _ (by exact ⟨p0, p1, p2, q0, q1, q2, x20, x21, x22, x30, x31, x32, x40, x41, x42, x50, x51, x52⟩) (fun hHeld6 => ?_)
  clear hK hHeld5 K
  try simp only [Act.put, sA, sB, sC]
  refine wpAnyH_ready (rs := [36]) (by kernel_rfl) (by simp) (AllReadyH.cons (o := ⟨some 83, _, _, _, _, _⟩) rfl (fun K hK => ?_) AllReadyH.nil)
  go_simp
  (refine (rkright_at A n c ER.out _ R0).mono ?_; rintro e v12 ⟨rfl, hb⟩; replace P := P.belowH hb; replace Q := Q.belowH hb; replace X2 := X2.belowH hb; replace X3 := X3.belowH hb; replace X4 := X4.belowH hb; replace X5 := X5.belowH hb; replace R0 := R0.belowH hb; replace G0 := G0.belowH hb; replace R2 := R2.belowH hb; replace R3 := R3.belowH hb; replace R4 := R4.belowH hb; replace R5 := R5.belowH hb; replace b := b.trans (hb.mono b.size); clear hb p0 p1 p2 q0 q1 q2 x20 x21 x22 x30 x31 x32 x40 x41 x42 x50 x51 x52; have p0 := P.at 0 rfl; have p1 := P.at 1 rfl; have p2 := P.at 2 rfl; have q0 := Q.at 0 rfl; have q1 := Q.at 1 rfl; have q2 := Q.at 2 rfl; have x20 := X2.at 0 rfl; have x21 := X2.at 1 rfl; have x22 := X2.at 2 rfl; have x30 := X3.at 0 rfl; have x31 := X3.at 1 rfl; have x32 := X3.at 2 rfl; have x40 := X4.at 0 rfl; have x41 := X4.at 1 rfl; have x42 := X4.at 2 rfl; have x50 := X5.at 0 rfl; have x51 := X5.at 1 rfl; have x52 := X5.at 2 rfl)
  go_simp
  refine hK.out _ _ (by exact ⟨p0, p1, p2, q0, q1, q2, x20, x21, x22, x30, x31, x32, x40, x41, x42, x50, x51, x52⟩) (fun hHeld7 => ?_)
  clear hK hHeld6 K
  try simp only [Act.put, sA, sB, sC]
  refine tk 37 84 rfl hHeld7 ?_
  refine tk 38 85 rfl hHeld7 ?_
  refine tk 39 6 rfl hHeld7 ?_
  refine wpAnyH_done (by kernel_rfl) ?_ _
  go_wp2
  go_ret
  exact ⟨ret_bool (by simp), b⟩
end Go.Proofs.Ytijpmjedohjikaa
