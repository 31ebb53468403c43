/- JC5 (merged). -/
import Derived.Test.YtipccalbhlhljaaJJC4
namespace Go.Proofs.Ytipccalbhlhljaa
set_option linter.unusedVariables false
set_option linter.unusedSimpArgs false
open Go.RowKit
set_option maxHeartbeats 4000000 in
set_option maxRecDepth 20000 in
theorem jput_any (d : Dk) (A : Option Addr) (n c : Nat) (x : Rc) (w : World) (h : KRd w ⟨d, A, n, c⟩) (hx : RcIn x) (hn0 : 0 < n) (hn : n ≤ 1000) (hf : d.fuse ≤ 9223372036854775807) :
    Calls Try.prog 39 #[.agg #[.slice A n c, .int .i64 d.fuse, .bool d.down], rv x] w (TripR (J.putr d x) w) := by
  have hlen : d.secs.length = n := h.len
  have HLN := Lib.hid hlen
  clear hlen
  simp only [rv]
  have P := (((Box.new w #[.slice A n c, .int .i64 d.fuse, .bool d.down] 34).alloc (.cells #[.int .i64 x.seq, .int .i64 x.gen, .string (strB x.note)] 23)).alloc (.cells #[.slice none 0 0, .int .i64 0, .bool false] 34)).alloc (.cells #[.int .i64 0, .int .i64 0, .string ⟨#[]⟩] 23)
  have Q := ((Box.new (w.alloc (.cells #[.slice A n c, .int .i64 d.fuse, .bool d.down] 34)) #[.int .i64 x.seq, .int .i64 x.gen, .string (strB x.note)] 23).alloc (.cells #[.slice none 0 0, .int .i64 0, .bool false] 34)).alloc (.cells #[.int .i64 0, .int .i64 0, .string ⟨#[]⟩] 23)
  have V := (Box.new ((w.alloc (.cells #[.slice A n c, .int .i64 d.fuse, .bool d.down] 34)).alloc (.cells #[.int .i64 x.seq, .int .i64 x.gen, .string (strB x.note)] 23)) #[.slice none 0 0, .int .i64 0, .bool false] 34).alloc (.cells #[.int .i64 0, .int .i64 0, .string ⟨#[]⟩] 23)
  have Z := Box.new (((w.alloc (.cells #[.slice A n c, .int .i64 d.fuse, .bool d.down] 34)).alloc (.cells #[.int .i64 x.seq, .int .i64 x.gen, .string (strB x.note)] 23)).alloc (.cells #[.slice none 0 0, .int .i64 0, .bool false] 34)) #[.int .i64 0, .int .i64 0, .string ⟨#[]⟩] 23
  have bl := ((((Below.refl w.heap.size w).alloc (Nat.le_refl _) (.cells #[.slice A n c, .int .i64 d.fuse, .bool d.down] 34)).alloc (by simp) (.cells #[.int .i64 x.seq, .int .i64 x.gen, .string (strB x.note)] 23)).alloc (by simp; omega) (.cells #[.slice none 0 0, .int .i64 0, .bool false] 34)).alloc (by simp; omega) (.cells #[.int .i64 0, .int .i64 0, .string ⟨#[]⟩] 23)
  rw [show (w.alloc (.cells #[.slice A n c, .int .i64 d.fuse, .bool d.down] 34)).heap.size = w.heap.size + 1 by simp] at Q
  rw [show ((w.alloc (.cells #[.slice A n c, .int .i64 d.fuse, .bool d.down] 34)).alloc (.cells #[.int .i64 x.seq, .int .i64 x.gen, .string (strB x.note)] 23)).heap.size = w.heap.size + 1 + 1 by simp] at V
  rw [show (((w.alloc (.cells #[.slice A n c, .int .i64 d.fuse, .bool d.down] 34)).alloc (.cells #[.int .i64 x.seq, .int .i64 x.gen, .string (strB x.note)] 23)).alloc (.cells #[.slice none 0 0, .int .i64 0, .bool false] 34)).heap.size = w.heap.size + 1 + 1 + 1 by simp] at Z
  have R := h.belowH bl
  clear h
  obtain ⟨⟨ls, le⟩, hly⟩ : ∃ z, J.lay x = z := ⟨_, rfl⟩
  have HLY := Lib.hid hly
  have hls : Hid (ls.length = 64) := Lib.hid (by have := J.lay_len x; rw [hly] at this; exact this)
  clear hly
  go_enter Try.func39, Try.ntmps39
  go_wp2_with fail
  generalize (((w.alloc (.cells #[.slice A n c, .int .i64 d.fuse, .bool d.down] 34)).alloc (.cells #[.int .i64 x.seq, .int .i64 x.gen, .string (strB x.note)] 23)).alloc (.cells #[.slice none 0 0, .int .i64 0, .bool false] 34)).alloc (.cells #[.int .i64 0, .int .i64 0, .string ⟨#[]⟩] 23) = w1 at *
  have q0 := Q.at 0 rfl
  have q1 := Q.at 1 rfl
  have q2 := Q.at 2 rfl
  have ct := jlay_any x w1 hx
  rw [HLY.out] at ct
  refine ct.mono ?_
  clear ct
  rintro e w5 ⟨rfl, hb⟩
  (try dsimp only)
  replace P := P.belowH hb
  replace Q := Q.belowH hb
  replace V := V.belowH hb
  replace Z := Z.belowH hb
  replace R := R.belowH hb
  replace bl := bl.trans (hb.mono bl.size)
  clear hb q0 q1 q2
  have Y := Box.new w5 (U ls).toArray 24
  replace P := P.alloc (.cells (U ls).toArray 24)
  replace Q := Q.alloc (.cells (U ls).toArray 24)
  replace V := V.alloc (.cells (U ls).toArray 24)
  replace Z := Z.alloc (.cells (U ls).toArray 24)
  replace R := R.alloc (.cells (U ls).toArray 24)
  replace bl := bl.alloc bl.size (.cells (U ls).toArray 24)
  have p0 := P.at 0 rfl
  have p1 := P.at 1 rfl
  have p2 := P.at 2 rfl
  have pc := P.cold
  have q0 := Q.at 0 rfl
  have q1 := Q.at 1 rfl
  have q2 := Q.at 2 rfl
  have qc := Q.cold
  have v0 := V.at 0 rfl
  have v1 := V.at 1 rfl
  have v2 := V.at 2 rfl
  have vc := V.cold
  have z0 := Z.at 0 rfl
  have z1 := Z.at 1 rfl
  have z2 := Z.at 2 rfl
  have zc := Z.cold
  by_cases hm : J.may x
  rotate_left
  · have el : le = 1 := by have h := HLY.out; rw [J.lay_no hm] at h; injection h with h1 h2; exact h2.symm
    subst el
    have FN := Lib.hid (J.putr_no (d := d) hm)
    clear hm
    go_wp2_with (first | ((with_reducible refine sec_new _ ls hls.out ?hd ?hy ?_); (case hd => rfl); (case hy => rfl)))
    generalize w5.alloc (.cells (U ls).toArray 24) = w6 at *
    refine (jrefuse_any d A n c 1 w6 R hn).mono ?_
    rintro e w9 ⟨⟨A3, n3, c3, rfl, R3⟩, hb⟩
    (try dsimp only at R3)
    simp only [rv]
    clear p0 p1 p2 pc q0 q1 q2 qc v0 v1 v2 vc z0 z1 z2 zc
    replace V := V.belowH hb
    replace Z := Z.belowH hb
    replace bl := bl.trans (hb.mono bl.size)
    clear hb
    have v0 := V.at 0 rfl
    have v1 := V.at 1 rfl
    have v2 := V.at 2 rfl
    have vc := V.cold
    have z0 := Z.at 0 rfl
    have z1 := Z.at 1 rfl
    have z2 := Z.at 2 rfl
    have zc := Z.cold
    have R := R3
    go_wp2
    have V2 := (V.three (.slice A3 n3 c3) (.int .i64 d.fuse) (.bool d.down)).other3' (show w.heap.size + 1 + 1 ≠ w.heap.size + 1 + 1 + 1 by omega) (.int .i64 J.none.seq) (.int .i64 J.none.gen) (.string (strB J.none.note))
    have Z2 := (Z.other3' (show w.heap.size + 1 + 1 + 1 ≠ w.heap.size + 1 + 1 by omega) (.slice A3 n3 c3) (.int .i64 d.fuse) (.bool d.down)).three (.int .i64 J.none.seq) (.int .i64 J.none.gen) (.string (strB J.none.note))
    have R2 := (R.box3 V (.slice A3 n3 c3) (.int .i64 d.fuse) (.bool d.down)).box3 (Z.other3' (show w.heap.size + 1 + 1 + 1 ≠ w.heap.size + 1 + 1 by omega) (.slice A3 n3 c3) (.int .i64 d.fuse) (.bool d.down)) (.int .i64 J.none.seq) (.int .i64 J.none.gen) (.string (strB J.none.note))
    have b2 := below_three (below_three bl (show w.heap.size ≤ w.heap.size + 1 + 1 by omega) (.slice A3 n3 c3) (.int .i64 d.fuse) (.bool d.down)) (show w.heap.size ≤ w.heap.size + 1 + 1 + 1 by omega) (.int .i64 J.none.seq) (.int .i64 J.none.gen) (.string (strB J.none.note))
    have k0 := V2.at 0 rfl
    have k1 := V2.at 1 rfl
    have k2 := V2.at 2 rfl
    have r0 := Z2.at 0 rfl
    have r1 := Z2.at 1 rfl
    have r2 := Z2.at 2 rfl
    refine bodyPost_ret (v := .tuple #[.agg #[.slice A3 n3 c3, .int .i64 d.fuse, .bool d.down], .agg #[.int .i64 J.none.seq, .int .i64 J.none.gen, .string (strB J.none.note)], .int .i64 1]) (by simp [results, Try.results39, go_sem, k0, k1, k2, r0, r1, r2]; try rfl) rfl ⟨⟨_, _, _, by rw [FN.out]; rfl, by rw [FN.out]; exact R2⟩, b2⟩
  have el : ls = J.sec x ∧ le = 0 := by have h := HLY.out; rw [J.lay_yes hm] at h; injection h with h1 h2; exact ⟨h1.symm, h2.symm⟩
  obtain ⟨els, el⟩ := el
  subst el
  obtain ⟨⟨y, er⟩, hy⟩ : ∃ z, K.put d (x.seq.tmod d.secs.length) (J.sec x) = z := ⟨_, rfl⟩
  have HX := Lib.hid (J.putr_is hm hy)
  obtain ⟨m, hmm⟩ : ∃ m, x.seq.tmod (n : Int) = m := ⟨_, rfl⟩
  have HMM := Lib.hid hmm
  have HM := Lib.hid hm
  have HY : Hid (K.put d m ls = (y, er)) := Lib.hid (by rw [els, ← hmm]; have := HLN.out; rw [← this]; exact hy)
  have hm0 : 0 ≤ m := by rw [← hmm]; exact Int.tmod_nonneg _ (by have := hm.1; omega)
  have hm1 : m < n := by rw [← hmm]; exact Int.tmod_lt_of_pos _ (by omega)
  have hmw : IntKind.i64.wrap m = m := IntWalk.i64_in _ (by omega)
  have hnz : ¬ n = 0 := by omega
  clear els hm hy
  go_wp2_with (first | ((with_reducible refine sec_new _ ls hls.out ?hd ?hy ?_); (case hd => rfl); (case hy => rfl)))
  generalize w5.alloc (.cells (U ls).toArray 24) = w6 at *
  clear p0 p1 p2 pc q0 q1 q2 qc v0 v1 v2 vc z0 z1 z2 zc
  replace P := P.drew
  replace Q := Q.drew
  replace V := V.drew
  replace Z := Z.drew
  replace Y := Y.drew
  replace R := R.drew
  replace bl := bl.drew
  refine wp_region_late (S := (fun w' => w'.cell? ⟨w.heap.size, 0, none⟩ = some (.slice A n c) ∧ w'.cell? ⟨w.heap.size, 1, none⟩ = some (.int .i64 d.fuse) ∧ w'.cell? ⟨w.heap.size, 2, none⟩ = some (.bool d.down) ∧ w'.cell? ⟨w.heap.size + 1, 0, none⟩ = some (.int .i64 x.seq) ∧ w'.cell? ⟨w.heap.size + 1, 1, none⟩ = some (.int .i64 x.gen) ∧ w'.cell? ⟨w.heap.size + 1, 2, none⟩ = some (.string (strB x.note)) ∧ w'.rangeAt w5.heap.size 0 (U ls))) (lates := [9]) (by kernel_rfl) (by exact ⟨P.at 0 rfl, P.at 1 rfl, P.at 2 rfl, Q.at 0 rfl, Q.at 1 rfl, Q.at 2 rfl, sec_box Y⟩) (fun hHeld0 => ?_)
  generalize w6.drew = w7 at *
  refine tl 0 23 rfl hHeld0 ?_
  refine tl 1 24 rfl hHeld0 ?_
  refine tl 2 25 rfl hHeld0 ?_
  refine tl 4 27 rfl hHeld0 ?_ (hv := fun w' hSw => exec_sec w5.heap.size 0 ls hls.out hSw.2.2.2.2.2.2 rfl)
  refine wpAnyL_ready (rs := [3]) (by kernel_rfl) (by simp) (AllReadyL.cons (o := ⟨some 26, _, _, _, _, _⟩) rfl (fun K hK => ?_) AllReadyL.nil)
  go_simp
  refine (jplace_any d.secs d.fuse d.down A n c x w7 HM.out hn0 hn).mono ?_
  rintro e wp ⟨rfl, hb⟩
  rw [HMM.out]
  replace P := P.belowH hb
  replace Q := Q.belowH hb
  replace V := V.belowH hb
  replace Z := Z.belowH hb
  replace Y := Y.belowH hb
  replace R := R.belowH hb
  replace bl := bl.trans (hb.mono bl.size)
  clear hb
  go_simp
  refine hK.out _ _ (by exact ⟨P.at 0 rfl, P.at 1 rfl, P.at 2 rfl, Q.at 0 rfl, Q.at 1 rfl, Q.at 2 rfl, sec_box Y⟩) (fun hHeld1 => ?_)
  clear hK hHeld0 K
  try simp only [Act.put, sA, sB, sC]
  refine wpAnyL_ready (rs := [5]) (by kernel_rfl) (by simp) (AllReadyL.cons (o := ⟨some 28, _, _, _, _, _⟩) rfl (fun K hK => ?_) AllReadyL.nil)
  go_simp
  have ct := kput_any ⟨d, A, n, c⟩ m ls hls.out wp R hn hf
  rw [HY.out] at ct
  refine ct.mono ?_
  clear ct
  rintro e w8 ⟨⟨A3, n3, c3, rfl, R3, fr⟩, hb⟩
  clear fr R
  try dsimp only at R3
  (try dsimp only)
  replace P := P.belowH hb
  replace Q := Q.belowH hb
  replace V := V.belowH hb
  replace Z := Z.belowH hb
  replace Y := Y.belowH hb
  replace bl := bl.trans (hb.mono bl.size)
  clear hb
  go_simp
  refine hK.out _ _ (by exact ⟨P.at 0 rfl, P.at 1 rfl, P.at 2 rfl, Q.at 0 rfl, Q.at 1 rfl, Q.at 2 rfl, sec_box Y⟩) (fun hHeld2 => ?_)
  clear hK hHeld1 K
  try simp only [Act.put, sA, sB, sC]
  refine tl 6 22 rfl hHeld2 ?_
  refine tl 7 29 rfl hHeld2 ?_
  refine tw 8 30 rfl (fun _ => hHeld2) ?_
  refine wpAnyL_ready (rs := [9]) (by kernel_rfl) (by simp) (AllReadyL.late (o := ⟨none, _, _, _, _, _⟩) rfl (by kernel_rfl) (fun K hK => ?_) AllReadyL.nil)
  have p0 := P.at 0 rfl
  have p1 := P.at 1 rfl
  have p2 := P.at 2 rfl
  have pc := P.cold
  go_simp
  have R := R3.box3 P (.slice A3 n3 c3) (.int .i64 y.fuse) (.bool y.down)
  replace Q := Q.other3' (show w.heap.size + 1 ≠ w.heap.size by omega) (.slice A3 n3 c3) (.int .i64 y.fuse) (.bool y.down)
  replace V := V.other3' (show w.heap.size + 1 + 1 ≠ w.heap.size by omega) (.slice A3 n3 c3) (.int .i64 y.fuse) (.bool y.down)
  replace Z := Z.other3' (show w.heap.size + 1 + 1 + 1 ≠ w.heap.size by omega) (.slice A3 n3 c3) (.int .i64 y.fuse) (.bool y.down)
  replace P := P.three (.slice A3 n3 c3) (.int .i64 y.fuse) (.bool y.down)
  replace bl := below_three bl (Nat.le_refl _) (.slice A3 n3 c3) (.int .i64 y.fuse) (.bool y.down)
  clear R3 Y
  refine hK.out _ _ ?_
  clear hK hHeld2 K
  try simp only [Act.put, sA, sB, sC]
  refine tw 10 8 rfl (fun h => by rw [show quietL _ _ = false from by kernel_rfl] at h; cases h) ?_
  refine wpAnyL_done (by kernel_rfl) ?_ _
  clear p0 p1 p2 pc
  generalize ((w8.setCell ⟨w.heap.size, 0, none⟩ (.slice A3 n3 c3)).setCell ⟨w.heap.size, 1, none⟩ (.int .i64 y.fuse)).setCell ⟨w.heap.size, 2, none⟩ (.bool y.down) = w9 at *
  have p0 := P.at 0 rfl
  have p1 := P.at 1 rfl
  have p2 := P.at 2 rfl
  have pc := P.cold
  have q0 := Q.at 0 rfl
  have q1 := Q.at 1 rfl
  have q2 := Q.at 2 rfl
  have qc := Q.cold
  have v0 := V.at 0 rfl
  have v1 := V.at 1 rfl
  have v2 := V.at 2 rfl
  have vc := V.cold
  have z0 := Z.at 0 rfl
  have z1 := Z.at 1 rfl
  have z2 := Z.at 2 rfl
  have zc := Z.cold
  by_cases he : er = 0
  rotate_left
  · have t1 : (er != 0) = true := bne_iff_ne.2 he
    have FN := Lib.hid (HX.out.trans (if_pos he))
    clear he
    go_wp2
    have V2 := (V.three (.slice A3 n3 c3) (.int .i64 y.fuse) (.bool y.down)).other3' (show w.heap.size + 1 + 1 ≠ w.heap.size + 1 + 1 + 1 by omega) (.int .i64 0) (.int .i64 0) (.string ⟨#[]⟩)
    have Z2 := (Z.other3' (show w.heap.size + 1 + 1 + 1 ≠ w.heap.size + 1 + 1 by omega) (.slice A3 n3 c3) (.int .i64 y.fuse) (.bool y.down)).three (.int .i64 0) (.int .i64 0) (.string ⟨#[]⟩)
    have R2 := (R.box3 V (.slice A3 n3 c3) (.int .i64 y.fuse) (.bool y.down)).box3 (Z.other3' (show w.heap.size + 1 + 1 + 1 ≠ w.heap.size + 1 + 1 by omega) (.slice A3 n3 c3) (.int .i64 y.fuse) (.bool y.down)) (.int .i64 0) (.int .i64 0) (.string ⟨#[]⟩)
    have b2 := below_three (below_three bl (show w.heap.size ≤ w.heap.size + 1 + 1 by omega) (.slice A3 n3 c3) (.int .i64 y.fuse) (.bool y.down)) (show w.heap.size ≤ w.heap.size + 1 + 1 + 1 by omega) (.int .i64 0) (.int .i64 0) (.string ⟨#[]⟩)
    have k0 := V2.at 0 rfl
    have k1 := V2.at 1 rfl
    have k2 := V2.at 2 rfl
    have r0 := Z2.at 0 rfl
    have r1 := Z2.at 1 rfl
    have r2 := Z2.at 2 rfl
    refine bodyPost_ret (v := .tuple #[.agg #[.slice A3 n3 c3, .int .i64 y.fuse, .bool y.down], .agg #[.int .i64 0, .int .i64 0, .string ⟨#[]⟩], .int .i64 er]) (by simp [results, Try.results39, go_sem, k0, k1, k2, r0, r1, r2]; try rfl) rfl ⟨⟨_, _, _, by rw [FN.out]; rfl, by rw [FN.out]; exact R2⟩, b2⟩
  subst he
  have FN := Lib.hid (HX.out.trans (if_neg (by simp)))
  go_wp2_with fail
  go_region
  go_wp2
  have V2 := (V.three (.slice A3 n3 c3) (.int .i64 y.fuse) (.bool y.down)).other3' (show w.heap.size + 1 + 1 ≠ w.heap.size + 1 + 1 + 1 by omega) (.int .i64 x.seq) (.int .i64 x.gen) (.string (strB x.note))
  have Z2 := (Z.other3' (show w.heap.size + 1 + 1 + 1 ≠ w.heap.size + 1 + 1 by omega) (.slice A3 n3 c3) (.int .i64 y.fuse) (.bool y.down)).three (.int .i64 x.seq) (.int .i64 x.gen) (.string (strB x.note))
  have R2 := (R.box3 V (.slice A3 n3 c3) (.int .i64 y.fuse) (.bool y.down)).box3 (Z.other3' (show w.heap.size + 1 + 1 + 1 ≠ w.heap.size + 1 + 1 by omega) (.slice A3 n3 c3) (.int .i64 y.fuse) (.bool y.down)) (.int .i64 x.seq) (.int .i64 x.gen) (.string (strB x.note))
  have b2 := below_three (below_three bl (show w.heap.size ≤ w.heap.size + 1 + 1 by omega) (.slice A3 n3 c3) (.int .i64 y.fuse) (.bool y.down)) (show w.heap.size ≤ w.heap.size + 1 + 1 + 1 by omega) (.int .i64 x.seq) (.int .i64 x.gen) (.string (strB x.note))
  replace V2 := V2.drew
  replace Z2 := Z2.drew
  replace R2 := R2.drew
  replace b2 := b2.drew
  have k0 := V2.at 0 rfl
  have k1 := V2.at 1 rfl
  have k2 := V2.at 2 rfl
  have r0 := Z2.at 0 rfl
  have r1 := Z2.at 1 rfl
  have r2 := Z2.at 2 rfl
  refine bodyPost_ret (v := .tuple #[.agg #[.slice A3 n3 c3, .int .i64 y.fuse, .bool y.down], .agg #[.int .i64 x.seq, .int .i64 x.gen, .string (strB x.note)], .int .i64 0]) (by simp [results, Try.results39, go_sem, k0, k1, k2, r0, r1, r2]; try rfl) rfl ⟨⟨_, _, _, by rw [FN.out]; rfl, by rw [FN.out]; exact R2⟩, b2⟩
end Go.Proofs.Ytipccalbhlhljaa

