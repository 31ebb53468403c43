/- JRef6 (merged). -/
import Derived.Test.YtipccalbhlhljaaJJRef5
namespace Go.Proofs.Ytipccalbhlhljaa
set_option linter.unusedVariables false
set_option linter.unusedSimpArgs false
open Go.RowKit
set_option maxHeartbeats 4000000 in
set_option maxRecDepth 20000 in
theorem rjwrite_any (d : Dk) (A : Option Addr) (n c : Nat) (gen : Int) (note : List UInt8) (w : World) (h : KRd w ⟨d, A, n, c⟩) (hn : n ≤ 1000) (hf : d.fuse ≤ 9223372036854775807) (hg : -9223372036854775808 ≤ gen ∧ gen ≤ 9223372036854775807) (hnt : note.length ≤ 9223372036854775807) :
    Calls Try.prog 15 #[.agg #[.slice A n c, .int .i64 d.fuse, .bool d.down], .int .i64 gen, .string (strB note)] w (TripR (J.write d gen note) w) := by
  have hsz : (strB note).size = note.length := J.strB_size note
  have HSZ := Lib.hid hsz
  have hst : (strB note).size ≤ 9223372036854775807 := by omega
  clear hsz
  obtain ⟨⟨x, er⟩, hx⟩ : ∃ z, J.last d = z := ⟨_, rfl⟩
  have HX := Lib.hid hx
  clear hx
  have hlen : d.secs.length = n := h.len
  have HLN := Lib.hid hlen
  clear hlen
  have P := ((Box.new w #[.slice A n c, .int .i64 d.fuse, .bool d.down] 34).alloc (.cells #[.slice none 0 0, .int .i64 0, .bool false] 34)).alloc (.cells #[.int .i64 0, .int .i64 0, .string ⟨#[]⟩] 23)
  have V := (Box.new (w.alloc (.cells #[.slice A n c, .int .i64 d.fuse, .bool d.down] 34)) #[.slice none 0 0, .int .i64 0, .bool false] 34).alloc (.cells #[.int .i64 0, .int .i64 0, .string ⟨#[]⟩] 23)
  have Z := Box.new ((w.alloc (.cells #[.slice A n c, .int .i64 d.fuse, .bool d.down] 34)).alloc (.cells #[.slice none 0 0, .int .i64 0, .bool false] 34)) #[.int .i64 0, .int .i64 0, .string ⟨#[]⟩] 23
  have bl := (((Below.refl w.heap.size w).alloc (Nat.le_refl _) (.cells #[.slice A n c, .int .i64 d.fuse, .bool d.down] 34)).alloc (by simp) (.cells #[.slice none 0 0, .int .i64 0, .bool false] 34)).alloc (by simp; omega) (.cells #[.int .i64 0, .int .i64 0, .string ⟨#[]⟩] 23)
  rw [show (w.alloc (.cells #[.slice A n c, .int .i64 d.fuse, .bool d.down] 34)).heap.size = w.heap.size + 1 by simp] at V
  rw [show ((w.alloc (.cells #[.slice A n c, .int .i64 d.fuse, .bool d.down] 34)).alloc (.cells #[.slice none 0 0, .int .i64 0, .bool false] 34)).heap.size = w.heap.size + 1 + 1 by simp] at Z
  have R := h.belowH bl
  clear h
  go_enter Try.func15, Try.ntmps15
  go_wp2_with fail
  generalize ((w.alloc (.cells #[.slice A n c, .int .i64 d.fuse, .bool d.down] 34)).alloc (.cells #[.slice none 0 0, .int .i64 0, .bool false] 34)).alloc (.cells #[.int .i64 0, .int .i64 0, .string ⟨#[]⟩] 23) = w1 at *
  have ct := rjlast_any ⟨d, A, n, c⟩ w1 R hn
  rw [HX.out] at ct
  refine ct.mono ?_
  clear ct
  rintro e w5 ⟨rfl, hb⟩
  simp only [rv]
  replace P := P.belowH hb
  replace V := V.belowH hb
  replace Z := Z.belowH hb
  replace R := R.belowH hb
  replace bl := bl.trans (hb.mono bl.size)
  clear hb
  have L := Box.new w5 #[.int .i64 x.seq, .int .i64 x.gen, .string (strB x.note)] 23
  replace P := P.alloc (.cells #[.int .i64 x.seq, .int .i64 x.gen, .string (strB x.note)] 23)
  replace V := V.alloc (.cells #[.int .i64 x.seq, .int .i64 x.gen, .string (strB x.note)] 23)
  replace Z := Z.alloc (.cells #[.int .i64 x.seq, .int .i64 x.gen, .string (strB x.note)] 23)
  replace R := R.alloc (.cells #[.int .i64 x.seq, .int .i64 x.gen, .string (strB x.note)] 23)
  replace bl := bl.alloc bl.size (.cells #[.int .i64 x.seq, .int .i64 x.gen, .string (strB x.note)] 23)
  have p0 := P.at 0 rfl
  have p1 := P.at 1 rfl
  have p2 := P.at 2 rfl
  have pc := P.cold
  have v0 := V.at 0 rfl
  have v1 := V.at 1 rfl
  have v2 := V.at 2 rfl
  have vc := V.cold
  have z0 := Z.at 0 rfl
  have z1 := Z.at 1 rfl
  have z2 := Z.at 2 rfl
  have zc := Z.cold
  have l0 := L.at 0 rfl
  have l1 := L.at 1 rfl
  have l2 := L.at 2 rfl
  have lc := L.cold
  by_cases he : er = 0
  rotate_left
  · have t1 : (er != 0) = true := bne_iff_ne.2 he
    have FN := Lib.hid (J.write_e (gen := gen) (note := note) HX.out he)
    clear he
    go_wp2
    have V2 := (V.three (.slice A n c) (.int .i64 d.fuse) (.bool d.down)).other3' (show w.heap.size + 1 ≠ w.heap.size + 1 + 1 by omega) (.int .i64 0) (.int .i64 0) (.string ⟨#[]⟩)
    have Z2 := (Z.other3' (show w.heap.size + 1 + 1 ≠ w.heap.size + 1 by omega) (.slice A n c) (.int .i64 d.fuse) (.bool d.down)).three (.int .i64 0) (.int .i64 0) (.string ⟨#[]⟩)
    have R2 := (R.box3 V (.slice A n c) (.int .i64 d.fuse) (.bool d.down)).box3 (Z.other3' (show w.heap.size + 1 + 1 ≠ w.heap.size + 1 by omega) (.slice A n c) (.int .i64 d.fuse) (.bool d.down)) (.int .i64 0) (.int .i64 0) (.string ⟨#[]⟩)
    have b2 := below_three (below_three bl (show w.heap.size ≤ w.heap.size + 1 by omega) (.slice A n c) (.int .i64 d.fuse) (.bool d.down)) (show w.heap.size ≤ w.heap.size + 1 + 1 by omega) (.int .i64 0) (.int .i64 0) (.string ⟨#[]⟩)
    have k0 := V2.at 0 rfl
    have k1 := V2.at 1 rfl
    have k2 := V2.at 2 rfl
    have r0 := Z2.at 0 rfl
    have r1 := Z2.at 1 rfl
    have r2 := Z2.at 2 rfl
    refine bodyPost_ret (v := .tuple #[.agg #[.slice A n c, .int .i64 d.fuse, .bool d.down], .agg #[.int .i64 0, .int .i64 0, .string ⟨#[]⟩], .int .i64 er]) (by simp [results, Try.results15, go_sem, k0, k1, k2, r0, r1, r2]; try rfl) rfl ⟨⟨_, _, _, by rw [FN.out]; rfl, by rw [FN.out]; exact R2⟩, b2⟩
  subst he
  have hmx : J.may x := by have h1 := (J.last_may (d := d) (by rw [HX.out])).1; rw [HX.out] at h1; exact h1
  obtain ⟨m1, m2, m3, m4, m5⟩ := hmx
  by_cases ha : n < 2 ∨ gen < x.gen ∨ 1099511627776 < gen ∨ 30 < note.length
  · have FN := Lib.hid (J.write_a (gen := gen) (note := note) HX.out (by rw [HLN.out]; exact ha))
    by_cases a1 : n < 2
    · clear ha
      go_wp2
      have V2 := (V.three (.slice A n c) (.int .i64 d.fuse) (.bool d.down)).other3' (show w.heap.size + 1 ≠ w.heap.size + 1 + 1 by omega) (.int .i64 0) (.int .i64 0) (.string ⟨#[]⟩)
      have Z2 := (Z.other3' (show w.heap.size + 1 + 1 ≠ w.heap.size + 1 by omega) (.slice A n c) (.int .i64 d.fuse) (.bool d.down)).three (.int .i64 0) (.int .i64 0) (.string ⟨#[]⟩)
      have R2 := (R.box3 V (.slice A n c) (.int .i64 d.fuse) (.bool d.down)).box3 (Z.other3' (show w.heap.size + 1 + 1 ≠ w.heap.size + 1 by omega) (.slice A n c) (.int .i64 d.fuse) (.bool d.down)) (.int .i64 0) (.int .i64 0) (.string ⟨#[]⟩)
      have b2 := below_three (below_three bl (show w.heap.size ≤ w.heap.size + 1 by omega) (.slice A n c) (.int .i64 d.fuse) (.bool d.down)) (show w.heap.size ≤ w.heap.size + 1 + 1 by omega) (.int .i64 0) (.int .i64 0) (.string ⟨#[]⟩)
      have k0 := V2.at 0 rfl
      have k1 := V2.at 1 rfl
      have k2 := V2.at 2 rfl
      have r0 := Z2.at 0 rfl
      have r1 := Z2.at 1 rfl
      have r2 := Z2.at 2 rfl
      refine bodyPost_ret (v := .tuple #[.agg #[.slice A n c, .int .i64 d.fuse, .bool d.down], .agg #[.int .i64 0, .int .i64 0, .string ⟨#[]⟩], .int .i64 1]) (by simp [results, Try.results15, go_sem, k0, k1, k2, r0, r1, r2]; try rfl) rfl ⟨⟨_, _, _, by rw [FN.out]; rfl, by rw [FN.out]; exact R2⟩, b2⟩
    by_cases a2 : gen < x.gen
    · clear ha
      go_wp2
      have V2 := (V.three (.slice A n c) (.int .i64 d.fuse) (.bool d.down)).other3' (show w.heap.size + 1 ≠ w.heap.size + 1 + 1 by omega) (.int .i64 0) (.int .i64 0) (.string ⟨#[]⟩)
      have Z2 := (Z.other3' (show w.heap.size + 1 + 1 ≠ w.heap.size + 1 by omega) (.slice A n c) (.int .i64 d.fuse) (.bool d.down)).three (.int .i64 0) (.int .i64 0) (.string ⟨#[]⟩)
      have R2 := (R.box3 V (.slice A n c) (.int .i64 d.fuse) (.bool d.down)).box3 (Z.other3' (show w.heap.size + 1 + 1 ≠ w.heap.size + 1 by omega) (.slice A n c) (.int .i64 d.fuse) (.bool d.down)) (.int .i64 0) (.int .i64 0) (.string ⟨#[]⟩)
      have b2 := below_three (below_three bl (show w.heap.size ≤ w.heap.size + 1 by omega) (.slice A n c) (.int .i64 d.fuse) (.bool d.down)) (show w.heap.size ≤ w.heap.size + 1 + 1 by omega) (.int .i64 0) (.int .i64 0) (.string ⟨#[]⟩)
      have k0 := V2.at 0 rfl
      have k1 := V2.at 1 rfl
      have k2 := V2.at 2 rfl
      have r0 := Z2.at 0 rfl
      have r1 := Z2.at 1 rfl
      have r2 := Z2.at 2 rfl
      refine bodyPost_ret (v := .tuple #[.agg #[.slice A n c, .int .i64 d.fuse, .bool d.down], .agg #[.int .i64 0, .int .i64 0, .string ⟨#[]⟩], .int .i64 1]) (by simp [results, Try.results15, go_sem, k0, k1, k2, r0, r1, r2]; try rfl) rfl ⟨⟨_, _, _, by rw [FN.out]; rfl, by rw [FN.out]; exact R2⟩, b2⟩
    by_cases a3 : 1099511627776 < gen
    · clear ha
      go_wp2
      have V2 := (V.three (.slice A n c) (.int .i64 d.fuse) (.bool d.down)).other3' (show w.heap.size + 1 ≠ w.heap.size + 1 + 1 by omega) (.int .i64 0) (.int .i64 0) (.string ⟨#[]⟩)
      have Z2 := (Z.other3' (show w.heap.size + 1 + 1 ≠ w.heap.size + 1 by omega) (.slice A n c) (.int .i64 d.fuse) (.bool d.down)).three (.int .i64 0) (.int .i64 0) (.string ⟨#[]⟩)
      have R2 := (R.box3 V (.slice A n c) (.int .i64 d.fuse) (.bool d.down)).box3 (Z.other3' (show w.heap.size + 1 + 1 ≠ w.heap.size + 1 by omega) (.slice A n c) (.int .i64 d.fuse) (.bool d.down)) (.int .i64 0) (.int .i64 0) (.string ⟨#[]⟩)
      have b2 := below_three (below_three bl (show w.heap.size ≤ w.heap.size + 1 by omega) (.slice A n c) (.int .i64 d.fuse) (.bool d.down)) (show w.heap.size ≤ w.heap.size + 1 + 1 by omega) (.int .i64 0) (.int .i64 0) (.string ⟨#[]⟩)
      have k0 := V2.at 0 rfl
      have k1 := V2.at 1 rfl
      have k2 := V2.at 2 rfl
      have r0 := Z2.at 0 rfl
      have r1 := Z2.at 1 rfl
      have r2 := Z2.at 2 rfl
      refine bodyPost_ret (v := .tuple #[.agg #[.slice A n c, .int .i64 d.fuse, .bool d.down], .agg #[.int .i64 0, .int .i64 0, .string ⟨#[]⟩], .int .i64 1]) (by simp [results, Try.results15, go_sem, k0, k1, k2, r0, r1, r2]; try rfl) rfl ⟨⟨_, _, _, by rw [FN.out]; rfl, by rw [FN.out]; exact R2⟩, b2⟩
    have a4 : 30 < (strB note).size := by have := HSZ.out; omega
    clear ha
    go_wp2
    have V2 := (V.three (.slice A n c) (.int .i64 d.fuse) (.bool d.down)).other3' (show w.heap.size + 1 ≠ w.heap.size + 1 + 1 by omega) (.int .i64 0) (.int .i64 0) (.string ⟨#[]⟩)
    have Z2 := (Z.other3' (show w.heap.size + 1 + 1 ≠ w.heap.size + 1 by omega) (.slice A n c) (.int .i64 d.fuse) (.bool d.down)).three (.int .i64 0) (.int .i64 0) (.string ⟨#[]⟩)
    have R2 := (R.box3 V (.slice A n c) (.int .i64 d.fuse) (.bool d.down)).box3 (Z.other3' (show w.heap.size + 1 + 1 ≠ w.heap.size + 1 by omega) (.slice A n c) (.int .i64 d.fuse) (.bool d.down)) (.int .i64 0) (.int .i64 0) (.string ⟨#[]⟩)
    have b2 := below_three (below_three bl (show w.heap.size ≤ w.heap.size + 1 by omega) (.slice A n c) (.int .i64 d.fuse) (.bool d.down)) (show w.heap.size ≤ w.heap.size + 1 + 1 by omega) (.int .i64 0) (.int .i64 0) (.string ⟨#[]⟩)
    have k0 := V2.at 0 rfl
    have k1 := V2.at 1 rfl
    have k2 := V2.at 2 rfl
    have r0 := Z2.at 0 rfl
    have r1 := Z2.at 1 rfl
    have r2 := Z2.at 2 rfl
    refine bodyPost_ret (v := .tuple #[.agg #[.slice A n c, .int .i64 d.fuse, .bool d.down], .agg #[.int .i64 0, .int .i64 0, .string ⟨#[]⟩], .int .i64 1]) (by simp [results, Try.results15, go_sem, k0, k1, k2, r0, r1, r2]; try rfl) rfl ⟨⟨_, _, _, by rw [FN.out]; rfl, by rw [FN.out]; exact R2⟩, b2⟩
  have a1 : ¬ n < 2 := fun h => ha (Or.inl h)
  have a2 : ¬ gen < x.gen := fun h => ha (Or.inr (Or.inl h))
  have a3 : ¬ 1099511627776 < gen := fun h => ha (Or.inr (Or.inr (Or.inl h)))
  have a5 : ¬ 30 < note.length := fun h => ha (Or.inr (Or.inr (Or.inr h)))
  have a4 : ¬ 30 < (strB note).size := by have := HSZ.out; omega
  by_cases hu : x.seq = 1099511627776
  · have t1 : (x.seq == 1099511627776) = true := beq_iff_eq.2 hu
    have FN := Lib.hid (J.write_u (gen := gen) (note := note) HX.out (by rw [HLN.out]; exact ha) hu)
    clear hu ha
    go_wp2
    have V2 := (V.three (.slice A n c) (.int .i64 d.fuse) (.bool d.down)).other3' (show w.heap.size + 1 ≠ w.heap.size + 1 + 1 by omega) (.int .i64 0) (.int .i64 0) (.string ⟨#[]⟩)
    have Z2 := (Z.other3' (show w.heap.size + 1 + 1 ≠ w.heap.size + 1 by omega) (.slice A n c) (.int .i64 d.fuse) (.bool d.down)).three (.int .i64 0) (.int .i64 0) (.string ⟨#[]⟩)
    have R2 := (R.box3 V (.slice A n c) (.int .i64 d.fuse) (.bool d.down)).box3 (Z.other3' (show w.heap.size + 1 + 1 ≠ w.heap.size + 1 by omega) (.slice A n c) (.int .i64 d.fuse) (.bool d.down)) (.int .i64 0) (.int .i64 0) (.string ⟨#[]⟩)
    have b2 := below_three (below_three bl (show w.heap.size ≤ w.heap.size + 1 by omega) (.slice A n c) (.int .i64 d.fuse) (.bool d.down)) (show w.heap.size ≤ w.heap.size + 1 + 1 by omega) (.int .i64 0) (.int .i64 0) (.string ⟨#[]⟩)
    have k0 := V2.at 0 rfl
    have k1 := V2.at 1 rfl
    have k2 := V2.at 2 rfl
    have r0 := Z2.at 0 rfl
    have r1 := Z2.at 1 rfl
    have r2 := Z2.at 2 rfl
    refine bodyPost_ret (v := .tuple #[.agg #[.slice A n c, .int .i64 d.fuse, .bool d.down], .agg #[.int .i64 0, .int .i64 0, .string ⟨#[]⟩], .int .i64 11]) (by simp [results, Try.results15, go_sem, k0, k1, k2, r0, r1, r2]; try rfl) rfl ⟨⟨_, _, _, by rw [FN.out]; rfl, by rw [FN.out]; exact R2⟩, b2⟩
  have t1 : (x.seq == 1099511627776) = false := beq_eq_false_iff_ne.2 hu
  have FN := Lib.hid (J.write_p (gen := gen) (note := note) HX.out (by rw [HLN.out]; exact ha) hu)
  clear hu ha
  obtain ⟨⟨y, x2, e2⟩, hz⟩ : ∃ z, J.putr d ⟨x.seq + 1, gen, note⟩ = z := ⟨_, rfl⟩
  have FZ := Lib.hid (FN.out.trans hz)
  have HZ := Lib.hid hz
  have hin : RcIn ⟨x.seq + 1, gen, note⟩ := ⟨⟨by show _ ≤ x.seq + 1; omega, by show x.seq + 1 ≤ _; omega⟩, hg, hnt⟩
  have e1 : wrap64 (x.seq + 1) = x.seq + 1 := wrap64_fit (by omega) (by omega)
  clear hz
  go_wp2_with fail
  generalize w5.alloc (.cells #[.int .i64 x.seq, .int .i64 x.gen, .string (strB x.note)] 23) = w6 at *
  have ct := rjput_any d A n c ⟨x.seq + 1, gen, note⟩ w6 R hin (by omega) hn hf
  rw [HZ.out] at ct
  refine ct.mono ?_
  clear ct hin
  rintro e w7 ⟨⟨A3, n3, c3, rfl, R3⟩, hb⟩
  (try dsimp only at R3)
  simp only [rv]
  clear p0 p1 p2 pc v0 v1 v2 vc z0 z1 z2 zc l0 l1 l2 lc
  replace P := P.belowH hb
  replace V := V.belowH hb
  replace Z := Z.belowH hb
  replace R := R.belowH hb
  replace bl := bl.trans (hb.mono bl.size)
  clear hb
  have p0 := P.at 0 rfl
  have p1 := P.at 1 rfl
  have p2 := P.at 2 rfl
  have pc := P.cold
  have v0 := V.at 0 rfl
  have v1 := V.at 1 rfl
  have v2 := V.at 2 rfl
  have vc := V.cold
  have z0 := Z.at 0 rfl
  have z1 := Z.at 1 rfl
  have z2 := Z.at 2 rfl
  have zc := Z.cold
  go_wp2
  have V2 := (V.three (.slice A3 n3 c3) (.int .i64 y.fuse) (.bool y.down)).other3' (show w.heap.size + 1 ≠ w.heap.size + 1 + 1 by omega) (.int .i64 x2.seq) (.int .i64 x2.gen) (.string (strB x2.note))
  have Z2 := (Z.other3' (show w.heap.size + 1 + 1 ≠ w.heap.size + 1 by omega) (.slice A3 n3 c3) (.int .i64 y.fuse) (.bool y.down)).three (.int .i64 x2.seq) (.int .i64 x2.gen) (.string (strB x2.note))
  have R2 := (R3.box3 V (.slice A3 n3 c3) (.int .i64 y.fuse) (.bool y.down)).box3 (Z.other3' (show w.heap.size + 1 + 1 ≠ w.heap.size + 1 by omega) (.slice A3 n3 c3) (.int .i64 y.fuse) (.bool y.down)) (.int .i64 x2.seq) (.int .i64 x2.gen) (.string (strB x2.note))
  have b2 := below_three (below_three bl (show w.heap.size ≤ w.heap.size + 1 by omega) (.slice A3 n3 c3) (.int .i64 y.fuse) (.bool y.down)) (show w.heap.size ≤ w.heap.size + 1 + 1 by omega) (.int .i64 x2.seq) (.int .i64 x2.gen) (.string (strB x2.note))
  have k0 := V2.at 0 rfl
  have k1 := V2.at 1 rfl
  have k2 := V2.at 2 rfl
  have r0 := Z2.at 0 rfl
  have r1 := Z2.at 1 rfl
  have r2 := Z2.at 2 rfl
  refine bodyPost_ret (v := .tuple #[.agg #[.slice A3 n3 c3, .int .i64 y.fuse, .bool y.down], .agg #[.int .i64 x2.seq, .int .i64 x2.gen, .string (strB x2.note)], .int .i64 e2]) (by simp [results, Try.results15, go_sem, k0, k1, k2, r0, r1, r2]; try rfl) rfl ⟨⟨_, _, _, by rw [FZ.out]; rfl, by rw [FZ.out]; exact R2⟩, b2⟩
set_option maxHeartbeats 4000000 in
set_option maxRecDepth 20000 in
theorem rjnext_any (d : Dk) (A : Option Addr) (n c : Nat) (note : List UInt8) (w : World) (h : KRd w ⟨d, A, n, c⟩) (hn : n ≤ 1000) (hf : d.fuse ≤ 9223372036854775807) (hnt : note.length ≤ 9223372036854775807) :
    Calls Try.prog 17 #[.agg #[.slice A n c, .int .i64 d.fuse, .bool d.down], .string (strB note)] w (TripR (J.next d note) w) := by
  obtain ⟨⟨x, er⟩, hx⟩ : ∃ z, J.last d = z := ⟨_, rfl⟩
  have HX := Lib.hid hx
  clear hx
  have hlen : d.secs.length = n := h.len
  have HLN := Lib.hid hlen
  clear hlen
  have P := ((Box.new w #[.slice A n c, .int .i64 d.fuse, .bool d.down] 34).alloc (.cells #[.slice none 0 0, .int .i64 0, .bool false] 34)).alloc (.cells #[.int .i64 0, .int .i64 0, .string ⟨#[]⟩] 23)
  have V := (Box.new (w.alloc (.cells #[.slice A n c, .int .i64 d.fuse, .bool d.down] 34)) #[.slice none 0 0, .int .i64 0, .bool false] 34).alloc (.cells #[.int .i64 0, .int .i64 0, .string ⟨#[]⟩] 23)
  have Z := Box.new ((w.alloc (.cells #[.slice A n c, .int .i64 d.fuse, .bool d.down] 34)).alloc (.cells #[.slice none 0 0, .int .i64 0, .bool false] 34)) #[.int .i64 0, .int .i64 0, .string ⟨#[]⟩] 23
  have bl := (((Below.refl w.heap.size w).alloc (Nat.le_refl _) (.cells #[.slice A n c, .int .i64 d.fuse, .bool d.down] 34)).alloc (by simp) (.cells #[.slice none 0 0, .int .i64 0, .bool false] 34)).alloc (by simp; omega) (.cells #[.int .i64 0, .int .i64 0, .string ⟨#[]⟩] 23)
  rw [show (w.alloc (.cells #[.slice A n c, .int .i64 d.fuse, .bool d.down] 34)).heap.size = w.heap.size + 1 by simp] at V
  rw [show ((w.alloc (.cells #[.slice A n c, .int .i64 d.fuse, .bool d.down] 34)).alloc (.cells #[.slice none 0 0, .int .i64 0, .bool false] 34)).heap.size = w.heap.size + 1 + 1 by simp] at Z
  have R := h.belowH bl
  clear h
  go_enter Try.func17, Try.ntmps17
  go_wp2_with fail
  generalize ((w.alloc (.cells #[.slice A n c, .int .i64 d.fuse, .bool d.down] 34)).alloc (.cells #[.slice none 0 0, .int .i64 0, .bool false] 34)).alloc (.cells #[.int .i64 0, .int .i64 0, .string ⟨#[]⟩] 23) = w1 at *
  have ct := rjlast_any ⟨d, A, n, c⟩ w1 R hn
  rw [HX.out] at ct
  refine ct.mono ?_
  clear ct
  rintro e w5 ⟨rfl, hb⟩
  simp only [rv]
  replace P := P.belowH hb
  replace V := V.belowH hb
  replace Z := Z.belowH hb
  replace R := R.belowH hb
  replace bl := bl.trans (hb.mono bl.size)
  clear hb
  have L := Box.new w5 #[.int .i64 x.seq, .int .i64 x.gen, .string (strB x.note)] 23
  replace P := P.alloc (.cells #[.int .i64 x.seq, .int .i64 x.gen, .string (strB x.note)] 23)
  replace V := V.alloc (.cells #[.int .i64 x.seq, .int .i64 x.gen, .string (strB x.note)] 23)
  replace Z := Z.alloc (.cells #[.int .i64 x.seq, .int .i64 x.gen, .string (strB x.note)] 23)
  replace R := R.alloc (.cells #[.int .i64 x.seq, .int .i64 x.gen, .string (strB x.note)] 23)
  replace bl := bl.alloc bl.size (.cells #[.int .i64 x.seq, .int .i64 x.gen, .string (strB x.note)] 23)
  have p0 := P.at 0 rfl
  have p1 := P.at 1 rfl
  have p2 := P.at 2 rfl
  have pc := P.cold
  have v0 := V.at 0 rfl
  have v1 := V.at 1 rfl
  have v2 := V.at 2 rfl
  have vc := V.cold
  have z0 := Z.at 0 rfl
  have z1 := Z.at 1 rfl
  have z2 := Z.at 2 rfl
  have zc := Z.cold
  have l0 := L.at 0 rfl
  have l1 := L.at 1 rfl
  have l2 := L.at 2 rfl
  have lc := L.cold
  by_cases he : er = 0
  rotate_left
  · have t1 : (er != 0) = true := bne_iff_ne.2 he
    have FN := Lib.hid (J.next_e (note := note) HX.out he)
    clear he
    go_wp2
    have V2 := (V.three (.slice A n c) (.int .i64 d.fuse) (.bool d.down)).other3' (show w.heap.size + 1 ≠ w.heap.size + 1 + 1 by omega) (.int .i64 0) (.int .i64 0) (.string ⟨#[]⟩)
    have Z2 := (Z.other3' (show w.heap.size + 1 + 1 ≠ w.heap.size + 1 by omega) (.slice A n c) (.int .i64 d.fuse) (.bool d.down)).three (.int .i64 0) (.int .i64 0) (.string ⟨#[]⟩)
    have R2 := (R.box3 V (.slice A n c) (.int .i64 d.fuse) (.bool d.down)).box3 (Z.other3' (show w.heap.size + 1 + 1 ≠ w.heap.size + 1 by omega) (.slice A n c) (.int .i64 d.fuse) (.bool d.down)) (.int .i64 0) (.int .i64 0) (.string ⟨#[]⟩)
    have b2 := below_three (below_three bl (show w.heap.size ≤ w.heap.size + 1 by omega) (.slice A n c) (.int .i64 d.fuse) (.bool d.down)) (show w.heap.size ≤ w.heap.size + 1 + 1 by omega) (.int .i64 0) (.int .i64 0) (.string ⟨#[]⟩)
    have k0 := V2.at 0 rfl
    have k1 := V2.at 1 rfl
    have k2 := V2.at 2 rfl
    have r0 := Z2.at 0 rfl
    have r1 := Z2.at 1 rfl
    have r2 := Z2.at 2 rfl
    refine bodyPost_ret (v := .tuple #[.agg #[.slice A n c, .int .i64 d.fuse, .bool d.down], .agg #[.int .i64 0, .int .i64 0, .string ⟨#[]⟩], .int .i64 er]) (by simp [results, Try.results17, go_sem, k0, k1, k2, r0, r1, r2]; try rfl) rfl ⟨⟨_, _, _, by rw [FN.out]; rfl, by rw [FN.out]; exact R2⟩, b2⟩
  subst he
  have hmx : J.may x := by have h1 := (J.last_may (d := d) (by rw [HX.out])).1; rw [HX.out] at h1; exact h1
  obtain ⟨m1, m2, m3, m4, m5⟩ := hmx
  by_cases hu : x.gen = 1099511627776
  · have t1 : (x.gen == 1099511627776) = true := beq_iff_eq.2 hu
    have FN := Lib.hid (J.next_u (note := note) HX.out hu)
    clear hu
    go_wp2
    have V2 := (V.three (.slice A n c) (.int .i64 d.fuse) (.bool d.down)).other3' (show w.heap.size + 1 ≠ w.heap.size + 1 + 1 by omega) (.int .i64 0) (.int .i64 0) (.string ⟨#[]⟩)
    have Z2 := (Z.other3' (show w.heap.size + 1 + 1 ≠ w.heap.size + 1 by omega) (.slice A n c) (.int .i64 d.fuse) (.bool d.down)).three (.int .i64 0) (.int .i64 0) (.string ⟨#[]⟩)
    have R2 := (R.box3 V (.slice A n c) (.int .i64 d.fuse) (.bool d.down)).box3 (Z.other3' (show w.heap.size + 1 + 1 ≠ w.heap.size + 1 by omega) (.slice A n c) (.int .i64 d.fuse) (.bool d.down)) (.int .i64 0) (.int .i64 0) (.string ⟨#[]⟩)
    have b2 := below_three (below_three bl (show w.heap.size ≤ w.heap.size + 1 by omega) (.slice A n c) (.int .i64 d.fuse) (.bool d.down)) (show w.heap.size ≤ w.heap.size + 1 + 1 by omega) (.int .i64 0) (.int .i64 0) (.string ⟨#[]⟩)
    have k0 := V2.at 0 rfl
    have k1 := V2.at 1 rfl
    have k2 := V2.at 2 rfl
    have r0 := Z2.at 0 rfl
    have r1 := Z2.at 1 rfl
    have r2 := Z2.at 2 rfl
    refine bodyPost_ret (v := .tuple #[.agg #[.slice A n c, .int .i64 d.fuse, .bool d.down], .agg #[.int .i64 0, .int .i64 0, .string ⟨#[]⟩], .int .i64 11]) (by simp [results, Try.results17, go_sem, k0, k1, k2, r0, r1, r2]; try rfl) rfl ⟨⟨_, _, _, by rw [FN.out]; rfl, by rw [FN.out]; exact R2⟩, b2⟩
  have t1 : (x.gen == 1099511627776) = false := beq_eq_false_iff_ne.2 hu
  have FN := Lib.hid (J.next_w (note := note) HX.out hu)
  clear hu
  obtain ⟨⟨y, x2, e2⟩, hz⟩ : ∃ z, J.write d (x.gen + 1) note = z := ⟨_, rfl⟩
  have FZ := Lib.hid (FN.out.trans hz)
  have HZ := Lib.hid hz
  have e1 : wrap64 (x.gen + 1) = x.gen + 1 := wrap64_fit (by omega) (by omega)
  clear hz
  go_wp2_with fail
  generalize w5.alloc (.cells #[.int .i64 x.seq, .int .i64 x.gen, .string (strB x.note)] 23) = w6 at *
  have ct := rjwrite_any d A n c (x.gen + 1) note w6 R hn hf (by omega) hnt
  rw [HZ.out] at ct
  refine ct.mono ?_
  clear ct
  rintro e w7 ⟨⟨A3, n3, c3, rfl, R3⟩, hb⟩
  (try dsimp only at R3)
  simp only [rv]
  clear p0 p1 p2 pc v0 v1 v2 vc z0 z1 z2 zc l0 l1 l2 lc
  replace P := P.belowH hb
  replace V := V.belowH hb
  replace Z := Z.belowH hb
  replace R := R.belowH hb
  replace bl := bl.trans (hb.mono bl.size)
  clear hb
  have p0 := P.at 0 rfl
  have p1 := P.at 1 rfl
  have p2 := P.at 2 rfl
  have pc := P.cold
  have v0 := V.at 0 rfl
  have v1 := V.at 1 rfl
  have v2 := V.at 2 rfl
  have vc := V.cold
  have z0 := Z.at 0 rfl
  have z1 := Z.at 1 rfl
  have z2 := Z.at 2 rfl
  have zc := Z.cold
  go_wp2
  have V2 := (V.three (.slice A3 n3 c3) (.int .i64 y.fuse) (.bool y.down)).other3' (show w.heap.size + 1 ≠ w.heap.size + 1 + 1 by omega) (.int .i64 x2.seq) (.int .i64 x2.gen) (.string (strB x2.note))
  have Z2 := (Z.other3' (show w.heap.size + 1 + 1 ≠ w.heap.size + 1 by omega) (.slice A3 n3 c3) (.int .i64 y.fuse) (.bool y.down)).three (.int .i64 x2.seq) (.int .i64 x2.gen) (.string (strB x2.note))
  have R2 := (R3.box3 V (.slice A3 n3 c3) (.int .i64 y.fuse) (.bool y.down)).box3 (Z.other3' (show w.heap.size + 1 + 1 ≠ w.heap.size + 1 by omega) (.slice A3 n3 c3) (.int .i64 y.fuse) (.bool y.down)) (.int .i64 x2.seq) (.int .i64 x2.gen) (.string (strB x2.note))
  have b2 := below_three (below_three bl (show w.heap.size ≤ w.heap.size + 1 by omega) (.slice A3 n3 c3) (.int .i64 y.fuse) (.bool y.down)) (show w.heap.size ≤ w.heap.size + 1 + 1 by omega) (.int .i64 x2.seq) (.int .i64 x2.gen) (.string (strB x2.note))
  have k0 := V2.at 0 rfl
  have k1 := V2.at 1 rfl
  have k2 := V2.at 2 rfl
  have r0 := Z2.at 0 rfl
  have r1 := Z2.at 1 rfl
  have r2 := Z2.at 2 rfl
  refine bodyPost_ret (v := .tuple #[.agg #[.slice A3 n3 c3, .int .i64 y.fuse, .bool y.down], .agg #[.int .i64 x2.seq, .int .i64 x2.gen, .string (strB x2.note)], .int .i64 e2]) (by simp [results, Try.results17, go_sem, k0, k1, k2, r0, r1, r2]; try rfl) rfl ⟨⟨_, _, _, by rw [FZ.out]; rfl, by rw [FZ.out]; exact R2⟩, b2⟩
end Go.Proofs.Ytipccalbhlhljaa

