/- The walk of block's law on disks that wake. -/
import Derived.Test.YtijpmjedohjikaaKAlive
import Derived.Test.YtijpmjedohjikaaKRows
import Derived.Test.YtijpmjedohjikaaKLen
namespace Go.Proofs.Ytijpmjedohjikaa
set_option linter.unusedVariables false
set_option linter.unusedSimpArgs false
open Go.RowKit
set_option maxHeartbeats 8000000 in
set_option maxRecDepth 100000 in
theorem law_BlockWakes (u : Kv) (a1 : Int) (W : World) (w0 : KIn W u) (w1 : (Lit.int .u8 a1).wf = true) :
    Calls Try.prog 7 #[kval u, .int .u8 a1] W fun e w' => e = .returned (.bool true) ∧ Below W.heap.size W w' := by
  obtain ⟨d, A, n, c⟩ := u
  obtain ⟨R0, hfb, hfu, hsz⟩ := w0
  simp only at hfb hfu hsz
  clear w1
  simp only [kval]
  have P := Box.new (W) #[.slice A n c, .int .i64 d.fuse, .bool d.down] 24
  have b := (Below.refl W.heap.size W).alloc (Nat.le_refl _) (.cells #[.slice A n c, .int .i64 d.fuse, .bool d.down] 24)
  replace R0 := R0.belowH b
  have hd0 : d.secs.length = n := R0.len
  have HL := Lib.hid hd0
  have HWF : Hid (K.wf d) := Lib.hid R0.2.1
  clear hd0
  go_enter Try.func7, Try.ntmps7
  go_wp2_with fail
  generalize (W).alloc (.cells #[.slice A n c, .int .i64 d.fuse, .bool d.down] 24) = w1' at *
  refine (kalive_any _).mono ?_
  rintro e v1 ⟨rfl, hb⟩
  replace P := P.belowH hb
  replace R0 := R0.belowH hb
  replace b := b.trans (hb.mono b.size)
  clear hb
  (try dsimp only)
  have p0 := P.at 0 rfl
  have p1 := P.at 1 rfl
  have p2 := P.at 2 rfl
  by_cases hn : 64 < n
  · have EW := Lib.hid (K.wake_wrong (d := d) (fun h => by have h1 := h.1; have h2 := HL.out; omega))
    go_wp2_with fail
    refine (kwake_at A n c EW.out _ R0).mono ?_
    rintro e v2 ⟨⟨A2, n2, c2, rfl, R2, fr⟩, hb⟩
    clear p0 p1 p2
    replace P := P.belowH hb
    replace R0 := R0.belowH hb
    replace b := b.trans (hb.mono b.size)
    clear hb
    (try dsimp only)
    clear fr
    (try dsimp only at R2)
    have X1 := Box.new v2 #[.slice A2 n2 c2, .int .i64 d.fuse, .bool d.down] 24
    replace P := P.alloc (.cells #[.slice A2 n2 c2, .int .i64 d.fuse, .bool d.down] 24)
    replace R0 := R0.alloc (.cells #[.slice A2 n2 c2, .int .i64 d.fuse, .bool d.down] 24)
    replace b := b.alloc b.size (.cells #[.slice A2 n2 c2, .int .i64 d.fuse, .bool d.down] 24)
    replace R2 := R2.alloc (.cells #[.slice A2 n2 c2, .int .i64 d.fuse, .bool d.down] 24)
    have p0 := P.at 0 rfl
    have p1 := P.at 1 rfl
    have p2 := P.at 2 rfl
    have x10 := X1.at 0 rfl
    have x11 := X1.at 1 rfl
    have x12 := X1.at 2 rfl
    by_cases hn2 : 200 < n
    · go_wp2
      go_ret
      exact ⟨rfl, b⟩
    have hk2 : n2 ≤ 1000 := by have h1 := R2.len; have h3 := HL.out; simp only at h1; omega
    go_wp2_with fail
    generalize v2.alloc (.cells #[.slice A2 n2 c2, .int .i64 d.fuse, .bool d.down] 24) = s2 at *
    refine (rksame_at A2 A n2 c2 n c (decide_eq_true rfl) _ R2 R0 hk2).mono ?_
    rintro e v3 ⟨rfl, hb⟩
    clear p0 p1 p2 x10 x11 x12
    replace P := P.belowH hb
    replace X1 := X1.belowH hb
    replace R0 := R0.belowH hb
    replace R2 := R2.belowH hb
    replace b := b.trans (hb.mono b.size)
    clear hb
    (try dsimp only)
    have p0 := P.at 0 rfl
    have p1 := P.at 1 rfl
    have p2 := P.at 2 rfl
    have x10 := X1.at 0 rfl
    have x11 := X1.at 1 rfl
    have x12 := X1.at 2 rfl
    go_wp2_with fail
    go_ret
    exact ⟨rfl, b⟩
  by_cases hr : K.right d
  rotate_left
  · have EW := Lib.hid (K.wake_wrong hr)
    have ER := Lib.hid (decide_eq_false hr)
    clear hr
    go_wp2_with fail
    refine (kright_at A n c ER.out _ R0).mono ?_
    rintro e v2 ⟨rfl, hb⟩
    clear p0 p1 p2
    replace P := P.belowH hb
    replace R0 := R0.belowH hb
    replace b := b.trans (hb.mono b.size)
    clear hb
    (try dsimp only)
    have p0 := P.at 0 rfl
    have p1 := P.at 1 rfl
    have p2 := P.at 2 rfl
    go_wp2_with fail
    refine (kwake_at A n c EW.out _ R0).mono ?_
    rintro e v3 ⟨⟨A2, n2, c2, rfl, R2, fr⟩, hb⟩
    clear p0 p1 p2
    replace P := P.belowH hb
    replace R0 := R0.belowH hb
    replace b := b.trans (hb.mono b.size)
    clear hb
    (try dsimp only)
    clear fr
    (try dsimp only at R2)
    have X1 := Box.new v3 #[.slice A2 n2 c2, .int .i64 d.fuse, .bool d.down] 24
    replace P := P.alloc (.cells #[.slice A2 n2 c2, .int .i64 d.fuse, .bool d.down] 24)
    replace R0 := R0.alloc (.cells #[.slice A2 n2 c2, .int .i64 d.fuse, .bool d.down] 24)
    replace b := b.alloc b.size (.cells #[.slice A2 n2 c2, .int .i64 d.fuse, .bool d.down] 24)
    replace R2 := R2.alloc (.cells #[.slice A2 n2 c2, .int .i64 d.fuse, .bool d.down] 24)
    have p0 := P.at 0 rfl
    have p1 := P.at 1 rfl
    have p2 := P.at 2 rfl
    have x10 := X1.at 0 rfl
    have x11 := X1.at 1 rfl
    have x12 := X1.at 2 rfl
    have hn2 : ¬ 200 < n := by omega
    have hk2 : n2 ≤ 1000 := by have h1 := R2.len; have h3 := HL.out; simp only at h1; omega
    go_wp2_with fail
    generalize v3.alloc (.cells #[.slice A2 n2 c2, .int .i64 d.fuse, .bool d.down] 24) = s3 at *
    refine (rksame_at A2 A n2 c2 n c (decide_eq_true rfl) _ R2 R0 hk2).mono ?_
    rintro e v4 ⟨rfl, hb⟩
    clear p0 p1 p2 x10 x11 x12
    replace P := P.belowH hb
    replace X1 := X1.belowH hb
    replace R0 := R0.belowH hb
    replace R2 := R2.belowH hb
    replace b := b.trans (hb.mono b.size)
    clear hb
    (try dsimp only)
    have p0 := P.at 0 rfl
    have p1 := P.at 1 rfl
    have p2 := P.at 2 rfl
    have x10 := X1.at 0 rfl
    have x11 := X1.at 1 rfl
    have x12 := X1.at 2 rfl
    go_wp2_with fail
    go_ret
    exact ⟨rfl, b⟩
  have ER := Lib.hid (decide_eq_true hr)
  have EW := Lib.hid (K.wake_right hr)
  have hr2 : K.right ⟨d.secs, -1, false⟩ := ⟨hr.1, by show (-1 : Int) ≤ -1; omega⟩
  have EW2 := Lib.hid (K.wake_right hr2)
  have HR2 := Lib.hid hr2
  clear hr hr2
  go_wp2_with fail
  refine (kright_at A n c ER.out _ R0).mono ?_
  rintro e v2 ⟨rfl, hb⟩
  clear p0 p1 p2
  replace P := P.belowH hb
  replace R0 := R0.belowH hb
  replace b := b.trans (hb.mono b.size)
  clear hb
  (try dsimp only)
  have p0 := P.at 0 rfl
  have p1 := P.at 1 rfl
  have p2 := P.at 2 rfl
  go_wp2_with fail
  refine (kwake_at A n c EW.out _ R0).mono ?_
  rintro e v3 ⟨⟨A2, n2, c2, rfl, R2, fr⟩, hb⟩
  clear p0 p1 p2
  replace P := P.belowH hb
  replace R0 := R0.belowH hb
  replace b := b.trans (hb.mono b.size)
  clear hb
  (try dsimp only)
  clear fr
  (try dsimp only at R2)
  obtain rfl : n2 = n := by have h1 := R2.len; have h3 := HL.out; simp only at h1; omega
  have X1 := Box.new v3 #[.slice A2 n2 c2, .int .i64 (-1), .bool false] 24
  replace P := P.alloc (.cells #[.slice A2 n2 c2, .int .i64 (-1), .bool false] 24)
  replace R0 := R0.alloc (.cells #[.slice A2 n2 c2, .int .i64 (-1), .bool false] 24)
  replace b := b.alloc b.size (.cells #[.slice A2 n2 c2, .int .i64 (-1), .bool false] 24)
  replace R2 := R2.alloc (.cells #[.slice A2 n2 c2, .int .i64 (-1), .bool false] 24)
  have p0 := P.at 0 rfl
  have p1 := P.at 1 rfl
  have p2 := P.at 2 rfl
  have x10 := X1.at 0 rfl
  have x11 := X1.at 1 rfl
  have x12 := X1.at 2 rfl
  go_wp2_with fail
  generalize v3.alloc (.cells #[.slice A2 n2 c2, .int .i64 (-1), .bool false] 24) = s3 at *
  refine (kwake_at (x := ⟨d.secs, -1, false⟩) A2 n2 c2 EW2.out _ R2).mono ?_
  rintro e v4 ⟨⟨A3, n3, c3, rfl, R3, fr⟩, hb⟩
  clear p0 p1 p2 x10 x11 x12
  replace P := P.belowH hb
  replace X1 := X1.belowH hb
  replace R0 := R0.belowH hb
  replace R2 := R2.belowH hb
  replace b := b.trans (hb.mono b.size)
  clear hb
  (try dsimp only)
  clear fr
  (try dsimp only at R3)
  have X2 := Box.new v4 #[.slice A3 n3 c3, .int .i64 (-1), .bool false] 24
  replace P := P.alloc (.cells #[.slice A3 n3 c3, .int .i64 (-1), .bool false] 24)
  replace X1 := X1.alloc (.cells #[.slice A3 n3 c3, .int .i64 (-1), .bool false] 24)
  replace R0 := R0.alloc (.cells #[.slice A3 n3 c3, .int .i64 (-1), .bool false] 24)
  replace R2 := R2.alloc (.cells #[.slice A3 n3 c3, .int .i64 (-1), .bool false] 24)
  replace b := b.alloc b.size (.cells #[.slice A3 n3 c3, .int .i64 (-1), .bool false] 24)
  replace R3 := R3.alloc (.cells #[.slice A3 n3 c3, .int .i64 (-1), .bool false] 24)
  have p0 := P.at 0 rfl
  have p1 := P.at 1 rfl
  have p2 := P.at 2 rfl
  have x10 := X1.at 0 rfl
  have x11 := X1.at 1 rfl
  have x12 := X1.at 2 rfl
  have x20 := X2.at 0 rfl
  have x21 := X2.at 1 rfl
  have x22 := X2.at 2 rfl
  have hk2 : n2 ≤ 1000 := by omega
  go_wp2_with fail
  generalize v4.alloc (.cells #[.slice A3 n3 c3, .int .i64 (-1), .bool false] 24) = s4 at *
  refine (rksame_at (x := ⟨d.secs, -1, false⟩) (y := ⟨d.secs, -1, false⟩) A2 A3 n2 c2 n3 c3 (decide_eq_true rfl) _ R2 R3 hk2).mono ?_
  rintro e v5 ⟨rfl, hb⟩
  clear p0 p1 p2 x10 x11 x12 x20 x21 x22
  replace P := P.belowH hb
  replace X1 := X1.belowH hb
  replace X2 := X2.belowH hb
  replace R0 := R0.belowH hb
  replace R2 := R2.belowH hb
  replace R3 := R3.belowH hb
  replace b := b.trans (hb.mono b.size)
  clear hb
  (try dsimp only)
  have p0 := P.at 0 rfl
  have p1 := P.at 1 rfl
  have p2 := P.at 2 rfl
  have x10 := X1.at 0 rfl
  have x11 := X1.at 1 rfl
  have x12 := X1.at 2 rfl
  have x20 := X2.at 0 rfl
  have x21 := X2.at 1 rfl
  have x22 := X2.at 2 rfl
  go_wp2
  generalize v3.heap.size = xb at *
  go_loopw [11] (fun i wr => ∃ k : Nat, k ≤ n2 ∧ i = .int .i64 (k : Int) ∧ Box wr W.heap.size 24 #[.slice A n2 c, .int .i64 d.fuse, .bool d.down] ∧ Box wr xb 24 #[.slice A2 n2 c2, .int .i64 (-1), .bool false] ∧ KRd wr ⟨d, A, n2, c⟩ ∧ KRd wr ⟨⟨d.secs, -1, false⟩, A2, n2, c2⟩ ∧ Below W.heap.size W wr) (fun i _ => n2 - (intOf i).toNat)
  case atStart => exact ⟨0, by omega, rfl, P, X1, R0, R2, b⟩
  case round =>
    clear P X1 R0 R2 b p0 p1 p2 x10 x11 x12 x20 x21 x22
    obtain ⟨k, hk, rfl, P, X1, R0, R2, b⟩ := hrel
    have p0 := P.at 0 rfl
    have p1 := P.at 1 rfl
    have p2 := P.at 2 rfl
    have x10 := X1.at 0 rfl
    have x11 := X1.at 1 rfl
    have x12 := X1.at 2 rfl
    by_cases hlt : k < n2
    · have hkl : k < d.secs.length := by have := HL.out; omega
      obtain ⟨sk, hsk⟩ : ∃ t, d.secs[k]? = some t := ⟨_, List.getElem?_eq_getElem hkl⟩
      have h64 : Hid (sk.length = 64) := Lib.hid (HWF.out sk (List.mem_of_getElem? hsk))
      have EA := Lib.hid (K.asked_in (d := ⟨d.secs, -1, false⟩) HR2.out rfl hkl)
      have EG := Lib.hid (K.get_at (d := ⟨d.secs, -1, false⟩) EA.out hsk)
      have HSK := Lib.hid hsk
      have EQ := sec_in sk sk h64.out h64.out
      have hk0 : (0 : Int) ≤ (k : Int) := by omega
      clear hkl hsk
      go_wp2_with fail
      refine (kget_at (x := ⟨d.secs, -1, false⟩) A2 n2 c2 (k : Int) EA.out EG.out _ R2).mono ?_
      rintro e w6 ⟨rfl, hb⟩
      clear p0 p1 p2 x10 x11 x12
      replace P := P.belowH hb
      replace X1 := X1.belowH hb
      replace R0 := R0.belowH hb
      replace R2 := R2.belowH hb
      replace b := b.trans (hb.mono b.size)
      clear hb
      have Y := Box.new w6 (U sk).toArray 26
      replace P := P.alloc (.cells (U sk).toArray 26)
      replace X1 := X1.alloc (.cells (U sk).toArray 26)
      replace R0 := R0.alloc (.cells (U sk).toArray 26)
      replace R2 := R2.alloc (.cells (U sk).toArray 26)
      replace b := b.alloc b.size (.cells (U sk).toArray 26)
      have p0 := P.at 0 rfl
      obtain ⟨bk, ok, sk', rfl, hbk, hsk', _, hcell⟩ := R0.1.atS HWF.out HL.out hlt
      obtain rfl : sk' = sk := by rw [HSK.out] at hsk'; injection hsk' with h; exact h.symm
      clear hsk'
      go_wp2_with (first | ((with_reducible refine sec_new _ sk' h64.out ?hd ?hy ?_); (case hd => rfl); (case hy => rfl)))
      generalize w6.alloc (.cells (U sk').toArray 26) = w7 at *
      have L1 := fun m : Nat => sec_load (w7.drewN m) w6.heap.size 0 sk' h64.out (sec_box Y)
      have L2 := fun m : Nat => sec_load (w7.drewN m) bk (ok + k * 64) sk' h64.out hcell
      refine wp_region_quiet_lit (by kernel_rfl) (by kernel_rfl) ?_
      repeat (go_big_quiet_step (fail))
      refine quiet_load _ _ _ _ (fun w' hc => by obtain ⟨m, rfl⟩ := hc; exact L1 m) rfl rfl rfl ?_
      simp only [Act.put, sA, sB, sC]
      repeat (go_big_quiet_step (fail))
      refine quiet_load _ _ _ _ (fun w' hc => by obtain ⟨m, rfl⟩ := hc; exact L2 m) rfl rfl rfl ?_
      simp only [Act.put, sA, sB, sC]
      repeat (go_big_quiet_step (fail))
      refine wpQuiet_nil ?_
      intro _ hw'
      obtain ⟨nq, rfl⟩ := hw'
      go_wp2
      go_roundw
      case rel => exact ⟨k + 1, by omega, by go_num, P, X1, R0, R2, kdrewN b _⟩
      case measure => simp [intOf]; omega
    · go_wp2
      go_ret
      exact ⟨rfl, b⟩
end Go.Proofs.Ytijpmjedohjikaa
