/- JLaw2 (merged). -/
import Derived.Test.YtipccalbhlhljaaJKRef2
import Derived.Test.YtipccalbhlhljaaJJA
import Derived.Test.YtipccalbhlhljaaJJRows
namespace Go.Proofs.Ytipccalbhlhljaa
set_option linter.unusedVariables false
set_option linter.unusedSimpArgs false
open Go.RowKit
set_option maxHeartbeats 8000000 in
set_option maxRecDepth 100000 in
theorem law_JournalDeeds (u : Kv) (gen : Int) (t : ByteArray) (W : World) (w0 : KIn W u) (w1 : (Lit.int .i64 gen).wf = true) (w2 : t.size ≤ maxLen) :
    Calls Try.prog 4 #[kval u, .int .i64 gen, .string t] W fun e w' => e = .returned (.bool true) ∧ Below W.heap.size W w' := by
  obtain ⟨d, A, n, c⟩ := u
  obtain ⟨R0, hfb, hfu, hsz⟩ := w0
  clear hsz
  simp only at hfb hfu
  have hg := wf_bounds_i64 w1
  unfold maxLen at w2
  obtain ⟨note, hnote⟩ : ∃ l : List UInt8, t = strB l := ⟨t.data.toList, by unfold strB; rw [Array.toArray_toList]⟩
  subst hnote
  have hsz : (strB note).size = note.length := J.strB_size note
  have hnt : note.length ≤ 9223372036854775807 := by omega
  have hst : (strB note).size ≤ 9223372036854775807 := by omega
  have hwf : Hid (K.wf d) := Lib.hid R0.2.1
  clear w1 w2 hsz
  simp only [kval]
  have P := Box.new (W) #[.slice A n c, .int .i64 d.fuse, .bool d.down] 34
  have b := (Below.refl W.heap.size W).alloc (Nat.le_refl _) (.cells #[.slice A n c, .int .i64 d.fuse, .bool d.down] 34)
  replace R0 := R0.belowH b
  have hd0 : d.secs.length = n := R0.len
  have HL := Lib.hid hd0
  clear hd0
  obtain ⟨⟨y1, x1, e1⟩, h1⟩ : ∃ z, J.write d gen note = z := ⟨_, rfl⟩
  have H1 := Lib.hid h1
  have L1 : Hid (y1.secs.length = d.secs.length) := Lib.hid (by have := J.write_len d gen note; rw [h1] at this; exact this)
  clear h1
  have g1 := fun w => (eq_rc x1 x1 w).trans (by rw [rcB_self])
  obtain ⟨⟨y2, x2, e2⟩, h2⟩ : ∃ z, J.next d note = z := ⟨_, rfl⟩
  have H2 := Lib.hid h2
  have L2 : Hid (y2.secs.length = d.secs.length) := Lib.hid (by have := J.next_len d note; rw [h2] at this; exact this)
  clear h2
  have g2 := fun w => (eq_rc x2 x2 w).trans (by rw [rcB_self])
  obtain ⟨⟨y3, x3, e3⟩, h3⟩ : ∃ z, J.format d note = z := ⟨_, rfl⟩
  have H3 := Lib.hid h3
  have L3 : Hid (y3.secs.length = d.secs.length) := Lib.hid (by have := J.format_len d note; rw [h3] at this; exact this)
  clear h3
  have g3 := fun w => (eq_rc x3 x3 w).trans (by rw [rcB_self])
  obtain ⟨⟨x4, e4⟩, h4⟩ : ∃ z, J.last d = z := ⟨_, rfl⟩
  have H4 := Lib.hid h4
  clear h4
  have g4 := fun w => (eq_rc x4 x4 w).trans (by rw [rcB_self])
  have hgd := guard_rc
  go_enter Try.func4, Try.ntmps4
  go_wp2_with fail
  generalize (W).alloc (.cells #[.slice A n c, .int .i64 d.fuse, .bool d.down] 34) = w1' at *
  refine (jalive_any _).mono ?_
  rintro e v1 ⟨rfl, hb⟩
  replace P := P.belowH hb
  replace R0 := R0.belowH hb
  replace b := b.trans (hb.mono b.size)
  clear hb
  (try dsimp only)
  have p0 := P.at 0 rfl
  have p1 := P.at 1 rfl
  have p2 := P.at 2 rfl
  by_cases hn : 100 < n
  · go_wp2
    go_ret
    exact ⟨rfl, b⟩
  by_cases hn' : 300 < (strB note).size
  · go_wp2
    go_ret
    exact ⟨rfl, b⟩
  have hn2 : n ≤ 1000 := by omega
  go_wp2_with fail
  refine (rkcopy_any ⟨d, A, n, c⟩ _ R0 hn2).mono ?_
  rintro e v0 ⟨⟨A1, c1, rfl, own⟩, hb⟩
  clear p0 p1 p2
  replace P := P.belowH hb
  replace R0 := R0.belowH hb
  replace b := b.trans (hb.mono b.size)
  clear hb
  dsimp only at own ⊢
  have R1 := KRd.of_own own hwf.out
  clear own
  have X1 := Box.new v0 #[.slice A1 n c1, .int .i64 d.fuse, .bool d.down] 34
  replace P := P.alloc (.cells #[.slice A1 n c1, .int .i64 d.fuse, .bool d.down] 34)
  replace R0 := R0.alloc (.cells #[.slice A1 n c1, .int .i64 d.fuse, .bool d.down] 34)
  replace b := b.alloc b.size (.cells #[.slice A1 n c1, .int .i64 d.fuse, .bool d.down] 34)
  replace R1 := R1.alloc (.cells #[.slice A1 n c1, .int .i64 d.fuse, .bool d.down] 34)
  have p0 := P.at 0 rfl
  have p1 := P.at 1 rfl
  have p2 := P.at 2 rfl
  have x10 := X1.at 0 rfl
  have x11 := X1.at 1 rfl
  have x12 := X1.at 2 rfl
  go_wp2_with fail
  generalize v0.alloc (.cells #[.slice A1 n c1, .int .i64 d.fuse, .bool d.down] 34) = s1 at *
  refine (jwrite_at A1 n c1 gen note H1.out _ R1 hn2 hfu hg hnt).mono ?_
  rintro e v2 ⟨⟨A2, n2, c2, rfl, R2⟩, hb⟩
  clear p0 p1 p2 x10 x11 x12
  replace P := P.belowH hb
  replace X1 := X1.belowH hb
  replace R0 := R0.belowH hb
  replace R1 := R1.belowH hb
  replace b := b.trans (hb.mono b.size)
  clear hb
  (try dsimp only)
  simp only [rv]
  (try dsimp only at R2)
  have D2 := (Box.new v2 #[.slice A2 n2 c2, .int .i64 y1.fuse, .bool y1.down] 34).alloc (.cells #[.int .i64 x1.seq, .int .i64 x1.gen, .string (strB x1.note)] 23)
  have E2 := Box.new (v2.alloc (.cells #[.slice A2 n2 c2, .int .i64 y1.fuse, .bool y1.down] 34)) #[.int .i64 x1.seq, .int .i64 x1.gen, .string (strB x1.note)] 23
  rw [show (v2.alloc (.cells #[.slice A2 n2 c2, .int .i64 y1.fuse, .bool y1.down] 34)).heap.size = v2.heap.size + 1 by simp] at E2
  replace P := (P.alloc (.cells #[.slice A2 n2 c2, .int .i64 y1.fuse, .bool y1.down] 34)).alloc (.cells #[.int .i64 x1.seq, .int .i64 x1.gen, .string (strB x1.note)] 23)
  replace X1 := (X1.alloc (.cells #[.slice A2 n2 c2, .int .i64 y1.fuse, .bool y1.down] 34)).alloc (.cells #[.int .i64 x1.seq, .int .i64 x1.gen, .string (strB x1.note)] 23)
  replace R0 := (R0.alloc (.cells #[.slice A2 n2 c2, .int .i64 y1.fuse, .bool y1.down] 34)).alloc (.cells #[.int .i64 x1.seq, .int .i64 x1.gen, .string (strB x1.note)] 23)
  replace R1 := (R1.alloc (.cells #[.slice A2 n2 c2, .int .i64 y1.fuse, .bool y1.down] 34)).alloc (.cells #[.int .i64 x1.seq, .int .i64 x1.gen, .string (strB x1.note)] 23)
  replace R2 := (R2.alloc (.cells #[.slice A2 n2 c2, .int .i64 y1.fuse, .bool y1.down] 34)).alloc (.cells #[.int .i64 x1.seq, .int .i64 x1.gen, .string (strB x1.note)] 23)
  replace b := (b.alloc b.size (.cells #[.slice A2 n2 c2, .int .i64 y1.fuse, .bool y1.down] 34)).alloc (by have := b.size; simp; omega) (.cells #[.int .i64 x1.seq, .int .i64 x1.gen, .string (strB x1.note)] 23)
  have p0 := P.at 0 rfl
  have p1 := P.at 1 rfl
  have p2 := P.at 2 rfl
  have x10 := X1.at 0 rfl
  have x11 := X1.at 1 rfl
  have x12 := X1.at 2 rfl
  have d20 := D2.at 0 rfl
  have d21 := D2.at 1 rfl
  have d22 := D2.at 2 rfl
  have e20 := E2.at 0 rfl
  have e21 := E2.at 1 rfl
  have e22 := E2.at 2 rfl
  go_wp2_with fail
  generalize (v2.alloc (.cells #[.slice A2 n2 c2, .int .i64 y1.fuse, .bool y1.down] 34)).alloc (.cells #[.int .i64 x1.seq, .int .i64 x1.gen, .string (strB x1.note)] 23) = s2 at *
  refine (rjwrite_at A n c gen note H1.out _ R0 hn2 hfu hg hnt).mono ?_
  rintro e v3 ⟨⟨A3, n3, c3, rfl, R3⟩, hb⟩
  clear p0 p1 p2 x10 x11 x12 d20 d21 d22 e20 e21 e22
  replace P := P.belowH hb
  replace X1 := X1.belowH hb
  replace D2 := D2.belowH hb
  replace E2 := E2.belowH hb
  replace R0 := R0.belowH hb
  replace R1 := R1.belowH hb
  replace R2 := R2.belowH hb
  replace b := b.trans (hb.mono b.size)
  clear hb
  (try dsimp only)
  simp only [rv]
  (try dsimp only at R3)
  have D3 := (Box.new v3 #[.slice A3 n3 c3, .int .i64 y1.fuse, .bool y1.down] 34).alloc (.cells #[.int .i64 x1.seq, .int .i64 x1.gen, .string (strB x1.note)] 23)
  have E3 := Box.new (v3.alloc (.cells #[.slice A3 n3 c3, .int .i64 y1.fuse, .bool y1.down] 34)) #[.int .i64 x1.seq, .int .i64 x1.gen, .string (strB x1.note)] 23
  rw [show (v3.alloc (.cells #[.slice A3 n3 c3, .int .i64 y1.fuse, .bool y1.down] 34)).heap.size = v3.heap.size + 1 by simp] at E3
  replace P := (P.alloc (.cells #[.slice A3 n3 c3, .int .i64 y1.fuse, .bool y1.down] 34)).alloc (.cells #[.int .i64 x1.seq, .int .i64 x1.gen, .string (strB x1.note)] 23)
  replace X1 := (X1.alloc (.cells #[.slice A3 n3 c3, .int .i64 y1.fuse, .bool y1.down] 34)).alloc (.cells #[.int .i64 x1.seq, .int .i64 x1.gen, .string (strB x1.note)] 23)
  replace D2 := (D2.alloc (.cells #[.slice A3 n3 c3, .int .i64 y1.fuse, .bool y1.down] 34)).alloc (.cells #[.int .i64 x1.seq, .int .i64 x1.gen, .string (strB x1.note)] 23)
  replace E2 := (E2.alloc (.cells #[.slice A3 n3 c3, .int .i64 y1.fuse, .bool y1.down] 34)).alloc (.cells #[.int .i64 x1.seq, .int .i64 x1.gen, .string (strB x1.note)] 23)
  replace R0 := (R0.alloc (.cells #[.slice A3 n3 c3, .int .i64 y1.fuse, .bool y1.down] 34)).alloc (.cells #[.int .i64 x1.seq, .int .i64 x1.gen, .string (strB x1.note)] 23)
  replace R1 := (R1.alloc (.cells #[.slice A3 n3 c3, .int .i64 y1.fuse, .bool y1.down] 34)).alloc (.cells #[.int .i64 x1.seq, .int .i64 x1.gen, .string (strB x1.note)] 23)
  replace R2 := (R2.alloc (.cells #[.slice A3 n3 c3, .int .i64 y1.fuse, .bool y1.down] 34)).alloc (.cells #[.int .i64 x1.seq, .int .i64 x1.gen, .string (strB x1.note)] 23)
  replace R3 := (R3.alloc (.cells #[.slice A3 n3 c3, .int .i64 y1.fuse, .bool y1.down] 34)).alloc (.cells #[.int .i64 x1.seq, .int .i64 x1.gen, .string (strB x1.note)] 23)
  replace b := (b.alloc b.size (.cells #[.slice A3 n3 c3, .int .i64 y1.fuse, .bool y1.down] 34)).alloc (by have := b.size; simp; omega) (.cells #[.int .i64 x1.seq, .int .i64 x1.gen, .string (strB x1.note)] 23)
  have p0 := P.at 0 rfl
  have p1 := P.at 1 rfl
  have p2 := P.at 2 rfl
  have x10 := X1.at 0 rfl
  have x11 := X1.at 1 rfl
  have x12 := X1.at 2 rfl
  have d20 := D2.at 0 rfl
  have d21 := D2.at 1 rfl
  have d22 := D2.at 2 rfl
  have e20 := E2.at 0 rfl
  have e21 := E2.at 1 rfl
  have e22 := E2.at 2 rfl
  have d30 := D3.at 0 rfl
  have d31 := D3.at 1 rfl
  have d32 := D3.at 2 rfl
  have e30 := E3.at 0 rfl
  have e31 := E3.at 1 rfl
  have e32 := E3.at 2 rfl
  go_wp2_with fail
  generalize (v3.alloc (.cells #[.slice A3 n3 c3, .int .i64 y1.fuse, .bool y1.down] 34)).alloc (.cells #[.int .i64 x1.seq, .int .i64 x1.gen, .string (strB x1.note)] 23) = s3 at *
  refine (jnext_at A1 n c1 note H2.out _ R1 hn2 hfu hnt).mono ?_
  rintro e v4 ⟨⟨A4, n4, c4, rfl, R4⟩, hb⟩
  clear p0 p1 p2 x10 x11 x12 d20 d21 d22 e20 e21 e22 d30 d31 d32 e30 e31 e32
  replace P := P.belowH hb
  replace X1 := X1.belowH hb
  replace D2 := D2.belowH hb
  replace E2 := E2.belowH hb
  replace D3 := D3.belowH hb
  replace E3 := E3.belowH hb
  replace R0 := R0.belowH hb
  replace R1 := R1.belowH hb
  replace R2 := R2.belowH hb
  replace R3 := R3.belowH hb
  replace b := b.trans (hb.mono b.size)
  clear hb
  (try dsimp only)
  simp only [rv]
  (try dsimp only at R4)
  have D4 := (Box.new v4 #[.slice A4 n4 c4, .int .i64 y2.fuse, .bool y2.down] 34).alloc (.cells #[.int .i64 x2.seq, .int .i64 x2.gen, .string (strB x2.note)] 23)
  have E4 := Box.new (v4.alloc (.cells #[.slice A4 n4 c4, .int .i64 y2.fuse, .bool y2.down] 34)) #[.int .i64 x2.seq, .int .i64 x2.gen, .string (strB x2.note)] 23
  rw [show (v4.alloc (.cells #[.slice A4 n4 c4, .int .i64 y2.fuse, .bool y2.down] 34)).heap.size = v4.heap.size + 1 by simp] at E4
  replace P := (P.alloc (.cells #[.slice A4 n4 c4, .int .i64 y2.fuse, .bool y2.down] 34)).alloc (.cells #[.int .i64 x2.seq, .int .i64 x2.gen, .string (strB x2.note)] 23)
  replace X1 := (X1.alloc (.cells #[.slice A4 n4 c4, .int .i64 y2.fuse, .bool y2.down] 34)).alloc (.cells #[.int .i64 x2.seq, .int .i64 x2.gen, .string (strB x2.note)] 23)
  replace D2 := (D2.alloc (.cells #[.slice A4 n4 c4, .int .i64 y2.fuse, .bool y2.down] 34)).alloc (.cells #[.int .i64 x2.seq, .int .i64 x2.gen, .string (strB x2.note)] 23)
  replace E2 := (E2.alloc (.cells #[.slice A4 n4 c4, .int .i64 y2.fuse, .bool y2.down] 34)).alloc (.cells #[.int .i64 x2.seq, .int .i64 x2.gen, .string (strB x2.note)] 23)
  replace D3 := (D3.alloc (.cells #[.slice A4 n4 c4, .int .i64 y2.fuse, .bool y2.down] 34)).alloc (.cells #[.int .i64 x2.seq, .int .i64 x2.gen, .string (strB x2.note)] 23)
  replace E3 := (E3.alloc (.cells #[.slice A4 n4 c4, .int .i64 y2.fuse, .bool y2.down] 34)).alloc (.cells #[.int .i64 x2.seq, .int .i64 x2.gen, .string (strB x2.note)] 23)
  replace R0 := (R0.alloc (.cells #[.slice A4 n4 c4, .int .i64 y2.fuse, .bool y2.down] 34)).alloc (.cells #[.int .i64 x2.seq, .int .i64 x2.gen, .string (strB x2.note)] 23)
  replace R1 := (R1.alloc (.cells #[.slice A4 n4 c4, .int .i64 y2.fuse, .bool y2.down] 34)).alloc (.cells #[.int .i64 x2.seq, .int .i64 x2.gen, .string (strB x2.note)] 23)
  replace R2 := (R2.alloc (.cells #[.slice A4 n4 c4, .int .i64 y2.fuse, .bool y2.down] 34)).alloc (.cells #[.int .i64 x2.seq, .int .i64 x2.gen, .string (strB x2.note)] 23)
  replace R3 := (R3.alloc (.cells #[.slice A4 n4 c4, .int .i64 y2.fuse, .bool y2.down] 34)).alloc (.cells #[.int .i64 x2.seq, .int .i64 x2.gen, .string (strB x2.note)] 23)
  replace R4 := (R4.alloc (.cells #[.slice A4 n4 c4, .int .i64 y2.fuse, .bool y2.down] 34)).alloc (.cells #[.int .i64 x2.seq, .int .i64 x2.gen, .string (strB x2.note)] 23)
  replace b := (b.alloc b.size (.cells #[.slice A4 n4 c4, .int .i64 y2.fuse, .bool y2.down] 34)).alloc (by have := b.size; simp; omega) (.cells #[.int .i64 x2.seq, .int .i64 x2.gen, .string (strB x2.note)] 23)
  have p0 := P.at 0 rfl
  have p1 := P.at 1 rfl
  have p2 := P.at 2 rfl
  have x10 := X1.at 0 rfl
  have x11 := X1.at 1 rfl
  have x12 := X1.at 2 rfl
  have d20 := D2.at 0 rfl
  have d21 := D2.at 1 rfl
  have d22 := D2.at 2 rfl
  have e20 := E2.at 0 rfl
  have e21 := E2.at 1 rfl
  have e22 := E2.at 2 rfl
  have d30 := D3.at 0 rfl
  have d31 := D3.at 1 rfl
  have d32 := D3.at 2 rfl
  have e30 := E3.at 0 rfl
  have e31 := E3.at 1 rfl
  have e32 := E3.at 2 rfl
  have d40 := D4.at 0 rfl
  have d41 := D4.at 1 rfl
  have d42 := D4.at 2 rfl
  have e40 := E4.at 0 rfl
  have e41 := E4.at 1 rfl
  have e42 := E4.at 2 rfl
  go_wp2_with fail
  generalize (v4.alloc (.cells #[.slice A4 n4 c4, .int .i64 y2.fuse, .bool y2.down] 34)).alloc (.cells #[.int .i64 x2.seq, .int .i64 x2.gen, .string (strB x2.note)] 23) = s4 at *
  refine (rjnext_at A n c note H2.out _ R0 hn2 hfu hnt).mono ?_
  rintro e v5 ⟨⟨A5, n5, c5, rfl, R5⟩, hb⟩
  clear p0 p1 p2 x10 x11 x12 d20 d21 d22 e20 e21 e22 d30 d31 d32 e30 e31 e32 d40 d41 d42 e40 e41 e42
  replace P := P.belowH hb
  replace X1 := X1.belowH hb
  replace D2 := D2.belowH hb
  replace E2 := E2.belowH hb
  replace D3 := D3.belowH hb
  replace E3 := E3.belowH hb
  replace D4 := D4.belowH hb
  replace E4 := E4.belowH hb
  replace R0 := R0.belowH hb
  replace R1 := R1.belowH hb
  replace R2 := R2.belowH hb
  replace R3 := R3.belowH hb
  replace R4 := R4.belowH hb
  replace b := b.trans (hb.mono b.size)
  clear hb
  (try dsimp only)
  simp only [rv]
  (try dsimp only at R5)
  have D5 := (Box.new v5 #[.slice A5 n5 c5, .int .i64 y2.fuse, .bool y2.down] 34).alloc (.cells #[.int .i64 x2.seq, .int .i64 x2.gen, .string (strB x2.note)] 23)
  have E5 := Box.new (v5.alloc (.cells #[.slice A5 n5 c5, .int .i64 y2.fuse, .bool y2.down] 34)) #[.int .i64 x2.seq, .int .i64 x2.gen, .string (strB x2.note)] 23
  rw [show (v5.alloc (.cells #[.slice A5 n5 c5, .int .i64 y2.fuse, .bool y2.down] 34)).heap.size = v5.heap.size + 1 by simp] at E5
  replace P := (P.alloc (.cells #[.slice A5 n5 c5, .int .i64 y2.fuse, .bool y2.down] 34)).alloc (.cells #[.int .i64 x2.seq, .int .i64 x2.gen, .string (strB x2.note)] 23)
  replace X1 := (X1.alloc (.cells #[.slice A5 n5 c5, .int .i64 y2.fuse, .bool y2.down] 34)).alloc (.cells #[.int .i64 x2.seq, .int .i64 x2.gen, .string (strB x2.note)] 23)
  replace D2 := (D2.alloc (.cells #[.slice A5 n5 c5, .int .i64 y2.fuse, .bool y2.down] 34)).alloc (.cells #[.int .i64 x2.seq, .int .i64 x2.gen, .string (strB x2.note)] 23)
  replace E2 := (E2.alloc (.cells #[.slice A5 n5 c5, .int .i64 y2.fuse, .bool y2.down] 34)).alloc (.cells #[.int .i64 x2.seq, .int .i64 x2.gen, .string (strB x2.note)] 23)
  replace D3 := (D3.alloc (.cells #[.slice A5 n5 c5, .int .i64 y2.fuse, .bool y2.down] 34)).alloc (.cells #[.int .i64 x2.seq, .int .i64 x2.gen, .string (strB x2.note)] 23)
  replace E3 := (E3.alloc (.cells #[.slice A5 n5 c5, .int .i64 y2.fuse, .bool y2.down] 34)).alloc (.cells #[.int .i64 x2.seq, .int .i64 x2.gen, .string (strB x2.note)] 23)
  replace D4 := (D4.alloc (.cells #[.slice A5 n5 c5, .int .i64 y2.fuse, .bool y2.down] 34)).alloc (.cells #[.int .i64 x2.seq, .int .i64 x2.gen, .string (strB x2.note)] 23)
  replace E4 := (E4.alloc (.cells #[.slice A5 n5 c5, .int .i64 y2.fuse, .bool y2.down] 34)).alloc (.cells #[.int .i64 x2.seq, .int .i64 x2.gen, .string (strB x2.note)] 23)
  replace R0 := (R0.alloc (.cells #[.slice A5 n5 c5, .int .i64 y2.fuse, .bool y2.down] 34)).alloc (.cells #[.int .i64 x2.seq, .int .i64 x2.gen, .string (strB x2.note)] 23)
  replace R1 := (R1.alloc (.cells #[.slice A5 n5 c5, .int .i64 y2.fuse, .bool y2.down] 34)).alloc (.cells #[.int .i64 x2.seq, .int .i64 x2.gen, .string (strB x2.note)] 23)
  replace R2 := (R2.alloc (.cells #[.slice A5 n5 c5, .int .i64 y2.fuse, .bool y2.down] 34)).alloc (.cells #[.int .i64 x2.seq, .int .i64 x2.gen, .string (strB x2.note)] 23)
  replace R3 := (R3.alloc (.cells #[.slice A5 n5 c5, .int .i64 y2.fuse, .bool y2.down] 34)).alloc (.cells #[.int .i64 x2.seq, .int .i64 x2.gen, .string (strB x2.note)] 23)
  replace R4 := (R4.alloc (.cells #[.slice A5 n5 c5, .int .i64 y2.fuse, .bool y2.down] 34)).alloc (.cells #[.int .i64 x2.seq, .int .i64 x2.gen, .string (strB x2.note)] 23)
  replace R5 := (R5.alloc (.cells #[.slice A5 n5 c5, .int .i64 y2.fuse, .bool y2.down] 34)).alloc (.cells #[.int .i64 x2.seq, .int .i64 x2.gen, .string (strB x2.note)] 23)
  replace b := (b.alloc b.size (.cells #[.slice A5 n5 c5, .int .i64 y2.fuse, .bool y2.down] 34)).alloc (by have := b.size; simp; omega) (.cells #[.int .i64 x2.seq, .int .i64 x2.gen, .string (strB x2.note)] 23)
  have p0 := P.at 0 rfl
  have p1 := P.at 1 rfl
  have p2 := P.at 2 rfl
  have x10 := X1.at 0 rfl
  have x11 := X1.at 1 rfl
  have x12 := X1.at 2 rfl
  have d20 := D2.at 0 rfl
  have d21 := D2.at 1 rfl
  have d22 := D2.at 2 rfl
  have e20 := E2.at 0 rfl
  have e21 := E2.at 1 rfl
  have e22 := E2.at 2 rfl
  have d30 := D3.at 0 rfl
  have d31 := D3.at 1 rfl
  have d32 := D3.at 2 rfl
  have e30 := E3.at 0 rfl
  have e31 := E3.at 1 rfl
  have e32 := E3.at 2 rfl
  have d40 := D4.at 0 rfl
  have d41 := D4.at 1 rfl
  have d42 := D4.at 2 rfl
  have e40 := E4.at 0 rfl
  have e41 := E4.at 1 rfl
  have e42 := E4.at 2 rfl
  have d50 := D5.at 0 rfl
  have d51 := D5.at 1 rfl
  have d52 := D5.at 2 rfl
  have e50 := E5.at 0 rfl
  have e51 := E5.at 1 rfl
  have e52 := E5.at 2 rfl
  go_wp2_with fail
  generalize (v5.alloc (.cells #[.slice A5 n5 c5, .int .i64 y2.fuse, .bool y2.down] 34)).alloc (.cells #[.int .i64 x2.seq, .int .i64 x2.gen, .string (strB x2.note)] 23) = s5 at *
  refine (jformat_at A1 n c1 note H3.out _ R1 hn2 hfu hnt).mono ?_
  rintro e v6 ⟨⟨A6, n6, c6, rfl, R6⟩, hb⟩
  clear p0 p1 p2 x10 x11 x12 d20 d21 d22 e20 e21 e22 d30 d31 d32 e30 e31 e32 d40 d41 d42 e40 e41 e42 d50 d51 d52 e50 e51 e52
  replace P := P.belowH hb
  replace X1 := X1.belowH hb
  replace D2 := D2.belowH hb
  replace E2 := E2.belowH hb
  replace D3 := D3.belowH hb
  replace E3 := E3.belowH hb
  replace D4 := D4.belowH hb
  replace E4 := E4.belowH hb
  replace D5 := D5.belowH hb
  replace E5 := E5.belowH hb
  replace R0 := R0.belowH hb
  replace R1 := R1.belowH hb
  replace R2 := R2.belowH hb
  replace R3 := R3.belowH hb
  replace R4 := R4.belowH hb
  replace R5 := R5.belowH hb
  replace b := b.trans (hb.mono b.size)
  clear hb
  (try dsimp only)
  simp only [rv]
  (try dsimp only at R6)
  have D6 := (Box.new v6 #[.slice A6 n6 c6, .int .i64 y3.fuse, .bool y3.down] 34).alloc (.cells #[.int .i64 x3.seq, .int .i64 x3.gen, .string (strB x3.note)] 23)
  have E6 := Box.new (v6.alloc (.cells #[.slice A6 n6 c6, .int .i64 y3.fuse, .bool y3.down] 34)) #[.int .i64 x3.seq, .int .i64 x3.gen, .string (strB x3.note)] 23
  rw [show (v6.alloc (.cells #[.slice A6 n6 c6, .int .i64 y3.fuse, .bool y3.down] 34)).heap.size = v6.heap.size + 1 by simp] at E6
  replace P := (P.alloc (.cells #[.slice A6 n6 c6, .int .i64 y3.fuse, .bool y3.down] 34)).alloc (.cells #[.int .i64 x3.seq, .int .i64 x3.gen, .string (strB x3.note)] 23)
  replace X1 := (X1.alloc (.cells #[.slice A6 n6 c6, .int .i64 y3.fuse, .bool y3.down] 34)).alloc (.cells #[.int .i64 x3.seq, .int .i64 x3.gen, .string (strB x3.note)] 23)
  replace D2 := (D2.alloc (.cells #[.slice A6 n6 c6, .int .i64 y3.fuse, .bool y3.down] 34)).alloc (.cells #[.int .i64 x3.seq, .int .i64 x3.gen, .string (strB x3.note)] 23)
  replace E2 := (E2.alloc (.cells #[.slice A6 n6 c6, .int .i64 y3.fuse, .bool y3.down] 34)).alloc (.cells #[.int .i64 x3.seq, .int .i64 x3.gen, .string (strB x3.note)] 23)
  replace D3 := (D3.alloc (.cells #[.slice A6 n6 c6, .int .i64 y3.fuse, .bool y3.down] 34)).alloc (.cells #[.int .i64 x3.seq, .int .i64 x3.gen, .string (strB x3.note)] 23)
  replace E3 := (E3.alloc (.cells #[.slice A6 n6 c6, .int .i64 y3.fuse, .bool y3.down] 34)).alloc (.cells #[.int .i64 x3.seq, .int .i64 x3.gen, .string (strB x3.note)] 23)
  replace D4 := (D4.alloc (.cells #[.slice A6 n6 c6, .int .i64 y3.fuse, .bool y3.down] 34)).alloc (.cells #[.int .i64 x3.seq, .int .i64 x3.gen, .string (strB x3.note)] 23)
  replace E4 := (E4.alloc (.cells #[.slice A6 n6 c6, .int .i64 y3.fuse, .bool y3.down] 34)).alloc (.cells #[.int .i64 x3.seq, .int .i64 x3.gen, .string (strB x3.note)] 23)
  replace D5 := (D5.alloc (.cells #[.slice A6 n6 c6, .int .i64 y3.fuse, .bool y3.down] 34)).alloc (.cells #[.int .i64 x3.seq, .int .i64 x3.gen, .string (strB x3.note)] 23)
  replace E5 := (E5.alloc (.cells #[.slice A6 n6 c6, .int .i64 y3.fuse, .bool y3.down] 34)).alloc (.cells #[.int .i64 x3.seq, .int .i64 x3.gen, .string (strB x3.note)] 23)
  replace R0 := (R0.alloc (.cells #[.slice A6 n6 c6, .int .i64 y3.fuse, .bool y3.down] 34)).alloc (.cells #[.int .i64 x3.seq, .int .i64 x3.gen, .string (strB x3.note)] 23)
  replace R1 := (R1.alloc (.cells #[.slice A6 n6 c6, .int .i64 y3.fuse, .bool y3.down] 34)).alloc (.cells #[.int .i64 x3.seq, .int .i64 x3.gen, .string (strB x3.note)] 23)
  replace R2 := (R2.alloc (.cells #[.slice A6 n6 c6, .int .i64 y3.fuse, .bool y3.down] 34)).alloc (.cells #[.int .i64 x3.seq, .int .i64 x3.gen, .string (strB x3.note)] 23)
  replace R3 := (R3.alloc (.cells #[.slice A6 n6 c6, .int .i64 y3.fuse, .bool y3.down] 34)).alloc (.cells #[.int .i64 x3.seq, .int .i64 x3.gen, .string (strB x3.note)] 23)
  replace R4 := (R4.alloc (.cells #[.slice A6 n6 c6, .int .i64 y3.fuse, .bool y3.down] 34)).alloc (.cells #[.int .i64 x3.seq, .int .i64 x3.gen, .string (strB x3.note)] 23)
  replace R5 := (R5.alloc (.cells #[.slice A6 n6 c6, .int .i64 y3.fuse, .bool y3.down] 34)).alloc (.cells #[.int .i64 x3.seq, .int .i64 x3.gen, .string (strB x3.note)] 23)
  replace R6 := (R6.alloc (.cells #[.slice A6 n6 c6, .int .i64 y3.fuse, .bool y3.down] 34)).alloc (.cells #[.int .i64 x3.seq, .int .i64 x3.gen, .string (strB x3.note)] 23)
  replace b := (b.alloc b.size (.cells #[.slice A6 n6 c6, .int .i64 y3.fuse, .bool y3.down] 34)).alloc (by have := b.size; simp; omega) (.cells #[.int .i64 x3.seq, .int .i64 x3.gen, .string (strB x3.note)] 23)
  have p0 := P.at 0 rfl
  have p1 := P.at 1 rfl
  have p2 := P.at 2 rfl
  have x10 := X1.at 0 rfl
  have x11 := X1.at 1 rfl
  have x12 := X1.at 2 rfl
  have d20 := D2.at 0 rfl
  have d21 := D2.at 1 rfl
  have d22 := D2.at 2 rfl
  have e20 := E2.at 0 rfl
  have e21 := E2.at 1 rfl
  have e22 := E2.at 2 rfl
  have d30 := D3.at 0 rfl
  have d31 := D3.at 1 rfl
  have d32 := D3.at 2 rfl
  have e30 := E3.at 0 rfl
  have e31 := E3.at 1 rfl
  have e32 := E3.at 2 rfl
  have d40 := D4.at 0 rfl
  have d41 := D4.at 1 rfl
  have d42 := D4.at 2 rfl
  have e40 := E4.at 0 rfl
  have e41 := E4.at 1 rfl
  have e42 := E4.at 2 rfl
  have d50 := D5.at 0 rfl
  have d51 := D5.at 1 rfl
  have d52 := D5.at 2 rfl
  have e50 := E5.at 0 rfl
  have e51 := E5.at 1 rfl
  have e52 := E5.at 2 rfl
  have d60 := D6.at 0 rfl
  have d61 := D6.at 1 rfl
  have d62 := D6.at 2 rfl
  have e60 := E6.at 0 rfl
  have e61 := E6.at 1 rfl
  have e62 := E6.at 2 rfl
  go_wp2_with fail
  generalize (v6.alloc (.cells #[.slice A6 n6 c6, .int .i64 y3.fuse, .bool y3.down] 34)).alloc (.cells #[.int .i64 x3.seq, .int .i64 x3.gen, .string (strB x3.note)] 23) = s6 at *
  refine (rjformat_at A n c note H3.out _ R0 hn2 hfu hnt).mono ?_
  rintro e v7 ⟨⟨A7, n7, c7, rfl, R7⟩, hb⟩
  clear p0 p1 p2 x10 x11 x12 d20 d21 d22 e20 e21 e22 d30 d31 d32 e30 e31 e32 d40 d41 d42 e40 e41 e42 d50 d51 d52 e50 e51 e52 d60 d61 d62 e60 e61 e62
  replace P := P.belowH hb
  replace X1 := X1.belowH hb
  replace D2 := D2.belowH hb
  replace E2 := E2.belowH hb
  replace D3 := D3.belowH hb
  replace E3 := E3.belowH hb
  replace D4 := D4.belowH hb
  replace E4 := E4.belowH hb
  replace D5 := D5.belowH hb
  replace E5 := E5.belowH hb
  replace D6 := D6.belowH hb
  replace E6 := E6.belowH hb
  replace R0 := R0.belowH hb
  replace R1 := R1.belowH hb
  replace R2 := R2.belowH hb
  replace R3 := R3.belowH hb
  replace R4 := R4.belowH hb
  replace R5 := R5.belowH hb
  replace R6 := R6.belowH hb
  replace b := b.trans (hb.mono b.size)
  clear hb
  (try dsimp only)
  simp only [rv]
  (try dsimp only at R7)
  have D7 := (Box.new v7 #[.slice A7 n7 c7, .int .i64 y3.fuse, .bool y3.down] 34).alloc (.cells #[.int .i64 x3.seq, .int .i64 x3.gen, .string (strB x3.note)] 23)
  have E7 := Box.new (v7.alloc (.cells #[.slice A7 n7 c7, .int .i64 y3.fuse, .bool y3.down] 34)) #[.int .i64 x3.seq, .int .i64 x3.gen, .string (strB x3.note)] 23
  rw [show (v7.alloc (.cells #[.slice A7 n7 c7, .int .i64 y3.fuse, .bool y3.down] 34)).heap.size = v7.heap.size + 1 by simp] at E7
  replace P := (P.alloc (.cells #[.slice A7 n7 c7, .int .i64 y3.fuse, .bool y3.down] 34)).alloc (.cells #[.int .i64 x3.seq, .int .i64 x3.gen, .string (strB x3.note)] 23)
  replace X1 := (X1.alloc (.cells #[.slice A7 n7 c7, .int .i64 y3.fuse, .bool y3.down] 34)).alloc (.cells #[.int .i64 x3.seq, .int .i64 x3.gen, .string (strB x3.note)] 23)
  replace D2 := (D2.alloc (.cells #[.slice A7 n7 c7, .int .i64 y3.fuse, .bool y3.down] 34)).alloc (.cells #[.int .i64 x3.seq, .int .i64 x3.gen, .string (strB x3.note)] 23)
  replace E2 := (E2.alloc (.cells #[.slice A7 n7 c7, .int .i64 y3.fuse, .bool y3.down] 34)).alloc (.cells #[.int .i64 x3.seq, .int .i64 x3.gen, .string (strB x3.note)] 23)
  replace D3 := (D3.alloc (.cells #[.slice A7 n7 c7, .int .i64 y3.fuse, .bool y3.down] 34)).alloc (.cells #[.int .i64 x3.seq, .int .i64 x3.gen, .string (strB x3.note)] 23)
  replace E3 := (E3.alloc (.cells #[.slice A7 n7 c7, .int .i64 y3.fuse, .bool y3.down] 34)).alloc (.cells #[.int .i64 x3.seq, .int .i64 x3.gen, .string (strB x3.note)] 23)
  replace D4 := (D4.alloc (.cells #[.slice A7 n7 c7, .int .i64 y3.fuse, .bool y3.down] 34)).alloc (.cells #[.int .i64 x3.seq, .int .i64 x3.gen, .string (strB x3.note)] 23)
  replace E4 := (E4.alloc (.cells #[.slice A7 n7 c7, .int .i64 y3.fuse, .bool y3.down] 34)).alloc (.cells #[.int .i64 x3.seq, .int .i64 x3.gen, .string (strB x3.note)] 23)
  replace D5 := (D5.alloc (.cells #[.slice A7 n7 c7, .int .i64 y3.fuse, .bool y3.down] 34)).alloc (.cells #[.int .i64 x3.seq, .int .i64 x3.gen, .string (strB x3.note)] 23)
  replace E5 := (E5.alloc (.cells #[.slice A7 n7 c7, .int .i64 y3.fuse, .bool y3.down] 34)).alloc (.cells #[.int .i64 x3.seq, .int .i64 x3.gen, .string (strB x3.note)] 23)
  replace D6 := (D6.alloc (.cells #[.slice A7 n7 c7, .int .i64 y3.fuse, .bool y3.down] 34)).alloc (.cells #[.int .i64 x3.seq, .int .i64 x3.gen, .string (strB x3.note)] 23)
  replace E6 := (E6.alloc (.cells #[.slice A7 n7 c7, .int .i64 y3.fuse, .bool y3.down] 34)).alloc (.cells #[.int .i64 x3.seq, .int .i64 x3.gen, .string (strB x3.note)] 23)
  replace R0 := (R0.alloc (.cells #[.slice A7 n7 c7, .int .i64 y3.fuse, .bool y3.down] 34)).alloc (.cells #[.int .i64 x3.seq, .int .i64 x3.gen, .string (strB x3.note)] 23)
  replace R1 := (R1.alloc (.cells #[.slice A7 n7 c7, .int .i64 y3.fuse, .bool y3.down] 34)).alloc (.cells #[.int .i64 x3.seq, .int .i64 x3.gen, .string (strB x3.note)] 23)
  replace R2 := (R2.alloc (.cells #[.slice A7 n7 c7, .int .i64 y3.fuse, .bool y3.down] 34)).alloc (.cells #[.int .i64 x3.seq, .int .i64 x3.gen, .string (strB x3.note)] 23)
  replace R3 := (R3.alloc (.cells #[.slice A7 n7 c7, .int .i64 y3.fuse, .bool y3.down] 34)).alloc (.cells #[.int .i64 x3.seq, .int .i64 x3.gen, .string (strB x3.note)] 23)
  replace R4 := (R4.alloc (.cells #[.slice A7 n7 c7, .int .i64 y3.fuse, .bool y3.down] 34)).alloc (.cells #[.int .i64 x3.seq, .int .i64 x3.gen, .string (strB x3.note)] 23)
  replace R5 := (R5.alloc (.cells #[.slice A7 n7 c7, .int .i64 y3.fuse, .bool y3.down] 34)).alloc (.cells #[.int .i64 x3.seq, .int .i64 x3.gen, .string (strB x3.note)] 23)
  replace R6 := (R6.alloc (.cells #[.slice A7 n7 c7, .int .i64 y3.fuse, .bool y3.down] 34)).alloc (.cells #[.int .i64 x3.seq, .int .i64 x3.gen, .string (strB x3.note)] 23)
  replace R7 := (R7.alloc (.cells #[.slice A7 n7 c7, .int .i64 y3.fuse, .bool y3.down] 34)).alloc (.cells #[.int .i64 x3.seq, .int .i64 x3.gen, .string (strB x3.note)] 23)
  replace b := (b.alloc b.size (.cells #[.slice A7 n7 c7, .int .i64 y3.fuse, .bool y3.down] 34)).alloc (by have := b.size; simp; omega) (.cells #[.int .i64 x3.seq, .int .i64 x3.gen, .string (strB x3.note)] 23)
  have p0 := P.at 0 rfl
  have p1 := P.at 1 rfl
  have p2 := P.at 2 rfl
  have x10 := X1.at 0 rfl
  have x11 := X1.at 1 rfl
  have x12 := X1.at 2 rfl
  have d20 := D2.at 0 rfl
  have d21 := D2.at 1 rfl
  have d22 := D2.at 2 rfl
  have e20 := E2.at 0 rfl
  have e21 := E2.at 1 rfl
  have e22 := E2.at 2 rfl
  have d30 := D3.at 0 rfl
  have d31 := D3.at 1 rfl
  have d32 := D3.at 2 rfl
  have e30 := E3.at 0 rfl
  have e31 := E3.at 1 rfl
  have e32 := E3.at 2 rfl
  have d40 := D4.at 0 rfl
  have d41 := D4.at 1 rfl
  have d42 := D4.at 2 rfl
  have e40 := E4.at 0 rfl
  have e41 := E4.at 1 rfl
  have e42 := E4.at 2 rfl
  have d50 := D5.at 0 rfl
  have d51 := D5.at 1 rfl
  have d52 := D5.at 2 rfl
  have e50 := E5.at 0 rfl
  have e51 := E5.at 1 rfl
  have e52 := E5.at 2 rfl
  have d60 := D6.at 0 rfl
  have d61 := D6.at 1 rfl
  have d62 := D6.at 2 rfl
  have e60 := E6.at 0 rfl
  have e61 := E6.at 1 rfl
  have e62 := E6.at 2 rfl
  have d70 := D7.at 0 rfl
  have d71 := D7.at 1 rfl
  have d72 := D7.at 2 rfl
  have e70 := E7.at 0 rfl
  have e71 := E7.at 1 rfl
  have e72 := E7.at 2 rfl
  go_wp2_with fail
  generalize (v7.alloc (.cells #[.slice A7 n7 c7, .int .i64 y3.fuse, .bool y3.down] 34)).alloc (.cells #[.int .i64 x3.seq, .int .i64 x3.gen, .string (strB x3.note)] 23) = s7 at *
  refine (jlast_at A1 n c1 H4.out _ R1 hn2).mono ?_
  rintro e v8 ⟨rfl, hb⟩
  clear p0 p1 p2 x10 x11 x12 d20 d21 d22 e20 e21 e22 d30 d31 d32 e30 e31 e32 d40 d41 d42 e40 e41 e42 d50 d51 d52 e50 e51 e52 d60 d61 d62 e60 e61 e62 d70 d71 d72 e70 e71 e72
  replace P := P.belowH hb
  replace X1 := X1.belowH hb
  replace D2 := D2.belowH hb
  replace E2 := E2.belowH hb
  replace D3 := D3.belowH hb
  replace E3 := E3.belowH hb
  replace D4 := D4.belowH hb
  replace E4 := E4.belowH hb
  replace D5 := D5.belowH hb
  replace E5 := E5.belowH hb
  replace D6 := D6.belowH hb
  replace E6 := E6.belowH hb
  replace D7 := D7.belowH hb
  replace E7 := E7.belowH hb
  replace R0 := R0.belowH hb
  replace R1 := R1.belowH hb
  replace R2 := R2.belowH hb
  replace R3 := R3.belowH hb
  replace R4 := R4.belowH hb
  replace R5 := R5.belowH hb
  replace R6 := R6.belowH hb
  replace R7 := R7.belowH hb
  replace b := b.trans (hb.mono b.size)
  clear hb
  (try dsimp only)
  simp only [rv]
  have M1 := Box.new v8 #[.int .i64 x4.seq, .int .i64 x4.gen, .string (strB x4.note)] 23
  replace P := P.alloc (.cells #[.int .i64 x4.seq, .int .i64 x4.gen, .string (strB x4.note)] 23)
  replace X1 := X1.alloc (.cells #[.int .i64 x4.seq, .int .i64 x4.gen, .string (strB x4.note)] 23)
  replace D2 := D2.alloc (.cells #[.int .i64 x4.seq, .int .i64 x4.gen, .string (strB x4.note)] 23)
  replace E2 := E2.alloc (.cells #[.int .i64 x4.seq, .int .i64 x4.gen, .string (strB x4.note)] 23)
  replace D3 := D3.alloc (.cells #[.int .i64 x4.seq, .int .i64 x4.gen, .string (strB x4.note)] 23)
  replace E3 := E3.alloc (.cells #[.int .i64 x4.seq, .int .i64 x4.gen, .string (strB x4.note)] 23)
  replace D4 := D4.alloc (.cells #[.int .i64 x4.seq, .int .i64 x4.gen, .string (strB x4.note)] 23)
  replace E4 := E4.alloc (.cells #[.int .i64 x4.seq, .int .i64 x4.gen, .string (strB x4.note)] 23)
  replace D5 := D5.alloc (.cells #[.int .i64 x4.seq, .int .i64 x4.gen, .string (strB x4.note)] 23)
  replace E5 := E5.alloc (.cells #[.int .i64 x4.seq, .int .i64 x4.gen, .string (strB x4.note)] 23)
  replace D6 := D6.alloc (.cells #[.int .i64 x4.seq, .int .i64 x4.gen, .string (strB x4.note)] 23)
  replace E6 := E6.alloc (.cells #[.int .i64 x4.seq, .int .i64 x4.gen, .string (strB x4.note)] 23)
  replace D7 := D7.alloc (.cells #[.int .i64 x4.seq, .int .i64 x4.gen, .string (strB x4.note)] 23)
  replace E7 := E7.alloc (.cells #[.int .i64 x4.seq, .int .i64 x4.gen, .string (strB x4.note)] 23)
  replace R0 := R0.alloc (.cells #[.int .i64 x4.seq, .int .i64 x4.gen, .string (strB x4.note)] 23)
  replace R1 := R1.alloc (.cells #[.int .i64 x4.seq, .int .i64 x4.gen, .string (strB x4.note)] 23)
  replace R2 := R2.alloc (.cells #[.int .i64 x4.seq, .int .i64 x4.gen, .string (strB x4.note)] 23)
  replace R3 := R3.alloc (.cells #[.int .i64 x4.seq, .int .i64 x4.gen, .string (strB x4.note)] 23)
  replace R4 := R4.alloc (.cells #[.int .i64 x4.seq, .int .i64 x4.gen, .string (strB x4.note)] 23)
  replace R5 := R5.alloc (.cells #[.int .i64 x4.seq, .int .i64 x4.gen, .string (strB x4.note)] 23)
  replace R6 := R6.alloc (.cells #[.int .i64 x4.seq, .int .i64 x4.gen, .string (strB x4.note)] 23)
  replace R7 := R7.alloc (.cells #[.int .i64 x4.seq, .int .i64 x4.gen, .string (strB x4.note)] 23)
  replace b := b.alloc b.size (.cells #[.int .i64 x4.seq, .int .i64 x4.gen, .string (strB x4.note)] 23)
  have p0 := P.at 0 rfl
  have p1 := P.at 1 rfl
  have p2 := P.at 2 rfl
  have x10 := X1.at 0 rfl
  have x11 := X1.at 1 rfl
  have x12 := X1.at 2 rfl
  have d20 := D2.at 0 rfl
  have d21 := D2.at 1 rfl
  have d22 := D2.at 2 rfl
  have e20 := E2.at 0 rfl
  have e21 := E2.at 1 rfl
  have e22 := E2.at 2 rfl
  have d30 := D3.at 0 rfl
  have d31 := D3.at 1 rfl
  have d32 := D3.at 2 rfl
  have e30 := E3.at 0 rfl
  have e31 := E3.at 1 rfl
  have e32 := E3.at 2 rfl
  have d40 := D4.at 0 rfl
  have d41 := D4.at 1 rfl
  have d42 := D4.at 2 rfl
  have e40 := E4.at 0 rfl
  have e41 := E4.at 1 rfl
  have e42 := E4.at 2 rfl
  have d50 := D5.at 0 rfl
  have d51 := D5.at 1 rfl
  have d52 := D5.at 2 rfl
  have e50 := E5.at 0 rfl
  have e51 := E5.at 1 rfl
  have e52 := E5.at 2 rfl
  have d60 := D6.at 0 rfl
  have d61 := D6.at 1 rfl
  have d62 := D6.at 2 rfl
  have e60 := E6.at 0 rfl
  have e61 := E6.at 1 rfl
  have e62 := E6.at 2 rfl
  have d70 := D7.at 0 rfl
  have d71 := D7.at 1 rfl
  have d72 := D7.at 2 rfl
  have e70 := E7.at 0 rfl
  have e71 := E7.at 1 rfl
  have e72 := E7.at 2 rfl
  have m10 := M1.at 0 rfl
  have m11 := M1.at 1 rfl
  have m12 := M1.at 2 rfl
  go_wp2_with fail
  generalize v8.alloc (.cells #[.int .i64 x4.seq, .int .i64 x4.gen, .string (strB x4.note)] 23) = s8 at *
  refine (rjlast_at A n c H4.out _ R0 hn2).mono ?_
  rintro e v9 ⟨rfl, hb⟩
  clear p0 p1 p2 x10 x11 x12 d20 d21 d22 e20 e21 e22 d30 d31 d32 e30 e31 e32 d40 d41 d42 e40 e41 e42 d50 d51 d52 e50 e51 e52 d60 d61 d62 e60 e61 e62 d70 d71 d72 e70 e71 e72 m10 m11 m12
  replace P := P.belowH hb
  replace X1 := X1.belowH hb
  replace D2 := D2.belowH hb
  replace E2 := E2.belowH hb
  replace D3 := D3.belowH hb
  replace E3 := E3.belowH hb
  replace D4 := D4.belowH hb
  replace E4 := E4.belowH hb
  replace D5 := D5.belowH hb
  replace E5 := E5.belowH hb
  replace D6 := D6.belowH hb
  replace E6 := E6.belowH hb
  replace D7 := D7.belowH hb
  replace E7 := E7.belowH hb
  replace M1 := M1.belowH hb
  replace R0 := R0.belowH hb
  replace R1 := R1.belowH hb
  replace R2 := R2.belowH hb
  replace R3 := R3.belowH hb
  replace R4 := R4.belowH hb
  replace R5 := R5.belowH hb
  replace R6 := R6.belowH hb
  replace R7 := R7.belowH hb
  replace b := b.trans (hb.mono b.size)
  clear hb
  (try dsimp only)
  simp only [rv]
  have M2 := Box.new v9 #[.int .i64 x4.seq, .int .i64 x4.gen, .string (strB x4.note)] 23
  replace P := P.alloc (.cells #[.int .i64 x4.seq, .int .i64 x4.gen, .string (strB x4.note)] 23)
  replace X1 := X1.alloc (.cells #[.int .i64 x4.seq, .int .i64 x4.gen, .string (strB x4.note)] 23)
  replace D2 := D2.alloc (.cells #[.int .i64 x4.seq, .int .i64 x4.gen, .string (strB x4.note)] 23)
  replace E2 := E2.alloc (.cells #[.int .i64 x4.seq, .int .i64 x4.gen, .string (strB x4.note)] 23)
  replace D3 := D3.alloc (.cells #[.int .i64 x4.seq, .int .i64 x4.gen, .string (strB x4.note)] 23)
  replace E3 := E3.alloc (.cells #[.int .i64 x4.seq, .int .i64 x4.gen, .string (strB x4.note)] 23)
  replace D4 := D4.alloc (.cells #[.int .i64 x4.seq, .int .i64 x4.gen, .string (strB x4.note)] 23)
  replace E4 := E4.alloc (.cells #[.int .i64 x4.seq, .int .i64 x4.gen, .string (strB x4.note)] 23)
  replace D5 := D5.alloc (.cells #[.int .i64 x4.seq, .int .i64 x4.gen, .string (strB x4.note)] 23)
  replace E5 := E5.alloc (.cells #[.int .i64 x4.seq, .int .i64 x4.gen, .string (strB x4.note)] 23)
  replace D6 := D6.alloc (.cells #[.int .i64 x4.seq, .int .i64 x4.gen, .string (strB x4.note)] 23)
  replace E6 := E6.alloc (.cells #[.int .i64 x4.seq, .int .i64 x4.gen, .string (strB x4.note)] 23)
  replace D7 := D7.alloc (.cells #[.int .i64 x4.seq, .int .i64 x4.gen, .string (strB x4.note)] 23)
  replace E7 := E7.alloc (.cells #[.int .i64 x4.seq, .int .i64 x4.gen, .string (strB x4.note)] 23)
  replace M1 := M1.alloc (.cells #[.int .i64 x4.seq, .int .i64 x4.gen, .string (strB x4.note)] 23)
  replace R0 := R0.alloc (.cells #[.int .i64 x4.seq, .int .i64 x4.gen, .string (strB x4.note)] 23)
  replace R1 := R1.alloc (.cells #[.int .i64 x4.seq, .int .i64 x4.gen, .string (strB x4.note)] 23)
  replace R2 := R2.alloc (.cells #[.int .i64 x4.seq, .int .i64 x4.gen, .string (strB x4.note)] 23)
  replace R3 := R3.alloc (.cells #[.int .i64 x4.seq, .int .i64 x4.gen, .string (strB x4.note)] 23)
  replace R4 := R4.alloc (.cells #[.int .i64 x4.seq, .int .i64 x4.gen, .string (strB x4.note)] 23)
  replace R5 := R5.alloc (.cells #[.int .i64 x4.seq, .int .i64 x4.gen, .string (strB x4.note)] 23)
  replace R6 := R6.alloc (.cells #[.int .i64 x4.seq, .int .i64 x4.gen, .string (strB x4.note)] 23)
  replace R7 := R7.alloc (.cells #[.int .i64 x4.seq, .int .i64 x4.gen, .string (strB x4.note)] 23)
  replace b := b.alloc b.size (.cells #[.int .i64 x4.seq, .int .i64 x4.gen, .string (strB x4.note)] 23)
  have p0 := P.at 0 rfl
  have p1 := P.at 1 rfl
  have p2 := P.at 2 rfl
  have x10 := X1.at 0 rfl
  have x11 := X1.at 1 rfl
  have x12 := X1.at 2 rfl
  have d20 := D2.at 0 rfl
  have d21 := D2.at 1 rfl
  have d22 := D2.at 2 rfl
  have e20 := E2.at 0 rfl
  have e21 := E2.at 1 rfl
  have e22 := E2.at 2 rfl
  have d30 := D3.at 0 rfl
  have d31 := D3.at 1 rfl
  have d32 := D3.at 2 rfl
  have e30 := E3.at 0 rfl
  have e31 := E3.at 1 rfl
  have e32 := E3.at 2 rfl
  have d40 := D4.at 0 rfl
  have d41 := D4.at 1 rfl
  have d42 := D4.at 2 rfl
  have e40 := E4.at 0 rfl
  have e41 := E4.at 1 rfl
  have e42 := E4.at 2 rfl
  have d50 := D5.at 0 rfl
  have d51 := D5.at 1 rfl
  have d52 := D5.at 2 rfl
  have e50 := E5.at 0 rfl
  have e51 := E5.at 1 rfl
  have e52 := E5.at 2 rfl
  have d60 := D6.at 0 rfl
  have d61 := D6.at 1 rfl
  have d62 := D6.at 2 rfl
  have e60 := E6.at 0 rfl
  have e61 := E6.at 1 rfl
  have e62 := E6.at 2 rfl
  have d70 := D7.at 0 rfl
  have d71 := D7.at 1 rfl
  have d72 := D7.at 2 rfl
  have e70 := E7.at 0 rfl
  have e71 := E7.at 1 rfl
  have e72 := E7.at 2 rfl
  have m10 := M1.at 0 rfl
  have m11 := M1.at 1 rfl
  have m12 := M1.at 2 rfl
  have m20 := M2.at 0 rfl
  have m21 := M2.at 1 rfl
  have m22 := M2.at 2 rfl
  have k2 : n2 ≤ 1000 := by have h1 := R2.len; have h2 := L1.out; have h3 := HL.out; simp only at h1; omega
  have k4 : n4 ≤ 1000 := by have h1 := R4.len; have h2 := L2.out; have h3 := HL.out; simp only at h1; omega
  have k6 : n6 ≤ 1000 := by have h1 := R6.len; have h2 := L3.out; have h3 := HL.out; simp only at h1; omega
  go_wp2_with fail
  generalize v9.alloc (.cells #[.int .i64 x4.seq, .int .i64 x4.gen, .string (strB x4.note)] 23) = s9 at *
  refine (rksame_at' (x := y1) A2 n2 c2 A3 n3 c3 (decide_eq_true rfl) _ R2 R3 k2).mono ?_
  rintro e v10 ⟨rfl, hb⟩
  clear p0 p1 p2 x10 x11 x12 d20 d21 d22 e20 e21 e22 d30 d31 d32 e30 e31 e32 d40 d41 d42 e40 e41 e42 d50 d51 d52 e50 e51 e52 d60 d61 d62 e60 e61 e62 d70 d71 d72 e70 e71 e72 m10 m11 m12 m20 m21 m22
  replace P := P.belowH hb
  replace X1 := X1.belowH hb
  replace D2 := D2.belowH hb
  replace E2 := E2.belowH hb
  replace D3 := D3.belowH hb
  replace E3 := E3.belowH hb
  replace D4 := D4.belowH hb
  replace E4 := E4.belowH hb
  replace D5 := D5.belowH hb
  replace E5 := E5.belowH hb
  replace D6 := D6.belowH hb
  replace E6 := E6.belowH hb
  replace D7 := D7.belowH hb
  replace E7 := E7.belowH hb
  replace M1 := M1.belowH hb
  replace M2 := M2.belowH hb
  replace R0 := R0.belowH hb
  replace R1 := R1.belowH hb
  replace R2 := R2.belowH hb
  replace R3 := R3.belowH hb
  replace R4 := R4.belowH hb
  replace R5 := R5.belowH hb
  replace R6 := R6.belowH hb
  replace R7 := R7.belowH hb
  replace b := b.trans (hb.mono b.size)
  clear hb
  (try dsimp only)
  have p0 := P.at 0 rfl
  have p1 := P.at 1 rfl
  have p2 := P.at 2 rfl
  have x10 := X1.at 0 rfl
  have x11 := X1.at 1 rfl
  have x12 := X1.at 2 rfl
  have d20 := D2.at 0 rfl
  have d21 := D2.at 1 rfl
  have d22 := D2.at 2 rfl
  have e20 := E2.at 0 rfl
  have e21 := E2.at 1 rfl
  have e22 := E2.at 2 rfl
  have d30 := D3.at 0 rfl
  have d31 := D3.at 1 rfl
  have d32 := D3.at 2 rfl
  have e30 := E3.at 0 rfl
  have e31 := E3.at 1 rfl
  have e32 := E3.at 2 rfl
  have d40 := D4.at 0 rfl
  have d41 := D4.at 1 rfl
  have d42 := D4.at 2 rfl
  have e40 := E4.at 0 rfl
  have e41 := E4.at 1 rfl
  have e42 := E4.at 2 rfl
  have d50 := D5.at 0 rfl
  have d51 := D5.at 1 rfl
  have d52 := D5.at 2 rfl
  have e50 := E5.at 0 rfl
  have e51 := E5.at 1 rfl
  have e52 := E5.at 2 rfl
  have d60 := D6.at 0 rfl
  have d61 := D6.at 1 rfl
  have d62 := D6.at 2 rfl
  have e60 := E6.at 0 rfl
  have e61 := E6.at 1 rfl
  have e62 := E6.at 2 rfl
  have d70 := D7.at 0 rfl
  have d71 := D7.at 1 rfl
  have d72 := D7.at 2 rfl
  have e70 := E7.at 0 rfl
  have e71 := E7.at 1 rfl
  have e72 := E7.at 2 rfl
  have m10 := M1.at 0 rfl
  have m11 := M1.at 1 rfl
  have m12 := M1.at 2 rfl
  have m20 := M2.at 0 rfl
  have m21 := M2.at 1 rfl
  have m22 := M2.at 2 rfl
  go_wp2_with fail
  refine (rksame_at' (x := y2) A4 n4 c4 A5 n5 c5 (decide_eq_true rfl) _ R4 R5 k4).mono ?_
  rintro e v11 ⟨rfl, hb⟩
  clear p0 p1 p2 x10 x11 x12 d20 d21 d22 e20 e21 e22 d30 d31 d32 e30 e31 e32 d40 d41 d42 e40 e41 e42 d50 d51 d52 e50 e51 e52 d60 d61 d62 e60 e61 e62 d70 d71 d72 e70 e71 e72 m10 m11 m12 m20 m21 m22
  replace P := P.belowH hb
  replace X1 := X1.belowH hb
  replace D2 := D2.belowH hb
  replace E2 := E2.belowH hb
  replace D3 := D3.belowH hb
  replace E3 := E3.belowH hb
  replace D4 := D4.belowH hb
  replace E4 := E4.belowH hb
  replace D5 := D5.belowH hb
  replace E5 := E5.belowH hb
  replace D6 := D6.belowH hb
  replace E6 := E6.belowH hb
  replace D7 := D7.belowH hb
  replace E7 := E7.belowH hb
  replace M1 := M1.belowH hb
  replace M2 := M2.belowH hb
  replace R0 := R0.belowH hb
  replace R1 := R1.belowH hb
  replace R2 := R2.belowH hb
  replace R3 := R3.belowH hb
  replace R4 := R4.belowH hb
  replace R5 := R5.belowH hb
  replace R6 := R6.belowH hb
  replace R7 := R7.belowH hb
  replace b := b.trans (hb.mono b.size)
  clear hb
  (try dsimp only)
  have p0 := P.at 0 rfl
  have p1 := P.at 1 rfl
  have p2 := P.at 2 rfl
  have x10 := X1.at 0 rfl
  have x11 := X1.at 1 rfl
  have x12 := X1.at 2 rfl
  have d20 := D2.at 0 rfl
  have d21 := D2.at 1 rfl
  have d22 := D2.at 2 rfl
  have e20 := E2.at 0 rfl
  have e21 := E2.at 1 rfl
  have e22 := E2.at 2 rfl
  have d30 := D3.at 0 rfl
  have d31 := D3.at 1 rfl
  have d32 := D3.at 2 rfl
  have e30 := E3.at 0 rfl
  have e31 := E3.at 1 rfl
  have e32 := E3.at 2 rfl
  have d40 := D4.at 0 rfl
  have d41 := D4.at 1 rfl
  have d42 := D4.at 2 rfl
  have e40 := E4.at 0 rfl
  have e41 := E4.at 1 rfl
  have e42 := E4.at 2 rfl
  have d50 := D5.at 0 rfl
  have d51 := D5.at 1 rfl
  have d52 := D5.at 2 rfl
  have e50 := E5.at 0 rfl
  have e51 := E5.at 1 rfl
  have e52 := E5.at 2 rfl
  have d60 := D6.at 0 rfl
  have d61 := D6.at 1 rfl
  have d62 := D6.at 2 rfl
  have e60 := E6.at 0 rfl
  have e61 := E6.at 1 rfl
  have e62 := E6.at 2 rfl
  have d70 := D7.at 0 rfl
  have d71 := D7.at 1 rfl
  have d72 := D7.at 2 rfl
  have e70 := E7.at 0 rfl
  have e71 := E7.at 1 rfl
  have e72 := E7.at 2 rfl
  have m10 := M1.at 0 rfl
  have m11 := M1.at 1 rfl
  have m12 := M1.at 2 rfl
  have m20 := M2.at 0 rfl
  have m21 := M2.at 1 rfl
  have m22 := M2.at 2 rfl
  go_wp2_with fail
  refine (rksame_at' (x := y3) A6 n6 c6 A7 n7 c7 (decide_eq_true rfl) _ R6 R7 k6).mono ?_
  rintro e v12 ⟨rfl, hb⟩
  clear p0 p1 p2 x10 x11 x12 d20 d21 d22 e20 e21 e22 d30 d31 d32 e30 e31 e32 d40 d41 d42 e40 e41 e42 d50 d51 d52 e50 e51 e52 d60 d61 d62 e60 e61 e62 d70 d71 d72 e70 e71 e72 m10 m11 m12 m20 m21 m22
  replace P := P.belowH hb
  replace X1 := X1.belowH hb
  replace D2 := D2.belowH hb
  replace E2 := E2.belowH hb
  replace D3 := D3.belowH hb
  replace E3 := E3.belowH hb
  replace D4 := D4.belowH hb
  replace E4 := E4.belowH hb
  replace D5 := D5.belowH hb
  replace E5 := E5.belowH hb
  replace D6 := D6.belowH hb
  replace E6 := E6.belowH hb
  replace D7 := D7.belowH hb
  replace E7 := E7.belowH hb
  replace M1 := M1.belowH hb
  replace M2 := M2.belowH hb
  replace R0 := R0.belowH hb
  replace R1 := R1.belowH hb
  replace R2 := R2.belowH hb
  replace R3 := R3.belowH hb
  replace R4 := R4.belowH hb
  replace R5 := R5.belowH hb
  replace R6 := R6.belowH hb
  replace R7 := R7.belowH hb
  replace b := b.trans (hb.mono b.size)
  clear hb
  (try dsimp only)
  have p0 := P.at 0 rfl
  have p1 := P.at 1 rfl
  have p2 := P.at 2 rfl
  have x10 := X1.at 0 rfl
  have x11 := X1.at 1 rfl
  have x12 := X1.at 2 rfl
  have d20 := D2.at 0 rfl
  have d21 := D2.at 1 rfl
  have d22 := D2.at 2 rfl
  have e20 := E2.at 0 rfl
  have e21 := E2.at 1 rfl
  have e22 := E2.at 2 rfl
  have d30 := D3.at 0 rfl
  have d31 := D3.at 1 rfl
  have d32 := D3.at 2 rfl
  have e30 := E3.at 0 rfl
  have e31 := E3.at 1 rfl
  have e32 := E3.at 2 rfl
  have d40 := D4.at 0 rfl
  have d41 := D4.at 1 rfl
  have d42 := D4.at 2 rfl
  have e40 := E4.at 0 rfl
  have e41 := E4.at 1 rfl
  have e42 := E4.at 2 rfl
  have d50 := D5.at 0 rfl
  have d51 := D5.at 1 rfl
  have d52 := D5.at 2 rfl
  have e50 := E5.at 0 rfl
  have e51 := E5.at 1 rfl
  have e52 := E5.at 2 rfl
  have d60 := D6.at 0 rfl
  have d61 := D6.at 1 rfl
  have d62 := D6.at 2 rfl
  have e60 := E6.at 0 rfl
  have e61 := E6.at 1 rfl
  have e62 := E6.at 2 rfl
  have d70 := D7.at 0 rfl
  have d71 := D7.at 1 rfl
  have d72 := D7.at 2 rfl
  have e70 := E7.at 0 rfl
  have e71 := E7.at 1 rfl
  have e72 := E7.at 2 rfl
  have m10 := M1.at 0 rfl
  have m11 := M1.at 1 rfl
  have m12 := M1.at 2 rfl
  have m20 := M2.at 0 rfl
  have m21 := M2.at 1 rfl
  have m22 := M2.at 2 rfl
  go_wp2_with fail
  refine (rksame_at' (x := d) A1 n c1 A n c (decide_eq_true rfl) _ R1 R0 hn2).mono ?_
  rintro e v13 ⟨rfl, hb⟩
  clear p0 p1 p2 x10 x11 x12 d20 d21 d22 e20 e21 e22 d30 d31 d32 e30 e31 e32 d40 d41 d42 e40 e41 e42 d50 d51 d52 e50 e51 e52 d60 d61 d62 e60 e61 e62 d70 d71 d72 e70 e71 e72 m10 m11 m12 m20 m21 m22
  replace P := P.belowH hb
  replace X1 := X1.belowH hb
  replace D2 := D2.belowH hb
  replace E2 := E2.belowH hb
  replace D3 := D3.belowH hb
  replace E3 := E3.belowH hb
  replace D4 := D4.belowH hb
  replace E4 := E4.belowH hb
  replace D5 := D5.belowH hb
  replace E5 := E5.belowH hb
  replace D6 := D6.belowH hb
  replace E6 := E6.belowH hb
  replace D7 := D7.belowH hb
  replace E7 := E7.belowH hb
  replace M1 := M1.belowH hb
  replace M2 := M2.belowH hb
  replace R0 := R0.belowH hb
  replace R1 := R1.belowH hb
  replace R2 := R2.belowH hb
  replace R3 := R3.belowH hb
  replace R4 := R4.belowH hb
  replace R5 := R5.belowH hb
  replace R6 := R6.belowH hb
  replace R7 := R7.belowH hb
  replace b := b.trans (hb.mono b.size)
  clear hb
  (try dsimp only)
  have p0 := P.at 0 rfl
  have p1 := P.at 1 rfl
  have p2 := P.at 2 rfl
  have x10 := X1.at 0 rfl
  have x11 := X1.at 1 rfl
  have x12 := X1.at 2 rfl
  have d20 := D2.at 0 rfl
  have d21 := D2.at 1 rfl
  have d22 := D2.at 2 rfl
  have e20 := E2.at 0 rfl
  have e21 := E2.at 1 rfl
  have e22 := E2.at 2 rfl
  have d30 := D3.at 0 rfl
  have d31 := D3.at 1 rfl
  have d32 := D3.at 2 rfl
  have e30 := E3.at 0 rfl
  have e31 := E3.at 1 rfl
  have e32 := E3.at 2 rfl
  have d40 := D4.at 0 rfl
  have d41 := D4.at 1 rfl
  have d42 := D4.at 2 rfl
  have e40 := E4.at 0 rfl
  have e41 := E4.at 1 rfl
  have e42 := E4.at 2 rfl
  have d50 := D5.at 0 rfl
  have d51 := D5.at 1 rfl
  have d52 := D5.at 2 rfl
  have e50 := E5.at 0 rfl
  have e51 := E5.at 1 rfl
  have e52 := E5.at 2 rfl
  have d60 := D6.at 0 rfl
  have d61 := D6.at 1 rfl
  have d62 := D6.at 2 rfl
  have e60 := E6.at 0 rfl
  have e61 := E6.at 1 rfl
  have e62 := E6.at 2 rfl
  have d70 := D7.at 0 rfl
  have d71 := D7.at 1 rfl
  have d72 := D7.at 2 rfl
  have e70 := E7.at 0 rfl
  have e71 := E7.at 1 rfl
  have e72 := E7.at 2 rfl
  have m10 := M1.at 0 rfl
  have m11 := M1.at 1 rfl
  have m12 := M1.at 2 rfl
  have m20 := M2.at 0 rfl
  have m21 := M2.at 1 rfl
  have m22 := M2.at 2 rfl
  go_wp2_with fail
  go_ret
  exact ⟨rfl, b⟩
end Go.Proofs.Ytipccalbhlhljaa

