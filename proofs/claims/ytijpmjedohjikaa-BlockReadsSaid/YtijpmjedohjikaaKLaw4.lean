/- The walk of block's law on what is read. -/
import Derived.Test.YtijpmjedohjikaaKAlive
import Derived.Test.YtijpmjedohjikaaKRows
import Derived.Test.YtijpmjedohjikaaKLen
import Derived.Test.YtijpmjedohjikaaEArr
namespace Go.Proofs.Ytijpmjedohjikaa
set_option linter.unusedVariables false
set_option linter.unusedSimpArgs false
open Go.RowKit
set_option maxHeartbeats 8000000 in
set_option maxRecDepth 100000 in
theorem law_BlockReads (u : Kv) (p q : Int) (sb : List UInt8) (W : World) (w0 : KIn W u) (w1 : Two p q) (w2 : sb.length = 64) :
    Calls Try.prog 6 #[kval u, .agg #[.int .u8 p, .int .u8 q], .agg (U sb).toArray] W fun e w' => e = .returned (.bool true) ∧ Below W.heap.size W w' := by
  obtain ⟨d, A, n, c⟩ := u
  obtain ⟨R0, hfb, hfu, hsz⟩ := w0
  clear hsz
  simp only at hfb hfu
  obtain ⟨p0', p1', q0', q1'⟩ := w1
  have hs : Hid (sb.length = 64) := Lib.hid w2
  have hwf : Hid (K.wf d) := Lib.hid R0.2.1
  clear w2
  simp only [kval]
  have P := Box.new (W) #[.slice A n c, .int .i64 d.fuse, .bool d.down] 24
  have b := (Below.refl W.heap.size W).alloc (Nat.le_refl _) (.cells #[.slice A n c, .int .i64 d.fuse, .bool d.down] 24)
  have Q := Box.new ((W).alloc (.cells #[.slice A n c, .int .i64 d.fuse, .bool d.down] 24)) #[.int .u8 p, .int .u8 q] 47
  rw [show ((W).alloc (.cells #[.slice A n c, .int .i64 d.fuse, .bool d.down] 24)).heap.size = W.heap.size + 1 by simp] at Q
  replace P := P.alloc (.cells #[.int .u8 p, .int .u8 q] 47)
  replace b := b.alloc b.size (.cells #[.int .u8 p, .int .u8 q] 47)
  have D := Box.new (((W).alloc (.cells #[.slice A n c, .int .i64 d.fuse, .bool d.down] 24)).alloc (.cells #[.int .u8 p, .int .u8 q] 47)) (U sb).toArray 26
  rw [show (((W).alloc (.cells #[.slice A n c, .int .i64 d.fuse, .bool d.down] 24)).alloc (.cells #[.int .u8 p, .int .u8 q] 47)).heap.size = W.heap.size + 1 + 1 by simp] at D
  replace P := P.alloc (.cells (U sb).toArray 26)
  replace Q := Q.alloc (.cells (U sb).toArray 26)
  replace b := b.alloc b.size (.cells (U sb).toArray 26)
  replace R0 := R0.belowH b
  have hd0 : d.secs.length = n := R0.len
  have HL := Lib.hid hd0
  clear hd0
  go_enter Try.func6, Try.ntmps6
  go_wp2_with fail
  generalize (((W).alloc (.cells #[.slice A n c, .int .i64 d.fuse, .bool d.down] 24)).alloc (.cells #[.int .u8 p, .int .u8 q] 47)).alloc (.cells (U sb).toArray 26) = w1' at *
  refine (kalive_any _).mono ?_
  rintro e v1 ⟨rfl, hb⟩
  replace P := P.belowH hb
  replace Q := Q.belowH hb
  replace D := D.belowH hb
  replace R0 := R0.belowH hb
  replace b := b.trans (hb.mono b.size)
  clear hb
  (try dsimp only)
  have p0 := P.at 0 rfl
  have p1 := P.at 1 rfl
  have p2 := P.at 2 rfl
  have q0 := Q.at 0 rfl
  have q1 := Q.at 1 rfl
  by_cases hn : 64 < n
  · go_wp2
    go_ret
    exact ⟨rfl, b⟩
  by_cases hn0 : n = 0
  · have e0 : ((n : Int) == 0) = true := beq_iff_eq.2 (by omega)
    clear hn0
    go_wp2
    go_ret
    exact ⟨rfl, b⟩
  have hnp : 0 < n := by omega
  have e0 : ((n : Int) == 0) = false := beq_eq_false_iff_ne.2 (by omega)
  have hn2 : n ≤ 1000 := by omega
  obtain ⟨k1, hk1⟩ : ∃ k : Nat, p.tmod n = (k : Int) := Int.eq_ofNat_of_zero_le (Int.tmod_nonneg _ p0')
  obtain ⟨k2, hk2⟩ : ∃ k : Nat, q.tmod n = (k : Int) := Int.eq_ofNat_of_zero_le (Int.tmod_nonneg _ q0')
  have hl1 : k1 < n := by have := Int.tmod_lt_of_pos p (show (0 : Int) < n by omega); omega
  have hl2 : k2 < n := by have := Int.tmod_lt_of_pos q (show (0 : Int) < n by omega); omega
  have wp' : IntKind.i64.wrap p = p := IntWalk.i64_in _ (by omega)
  have wq' : IntKind.i64.wrap q = q := IntWalk.i64_in _ (by omega)
  have wk1 : IntKind.i64.wrap (k1 : Int) = (k1 : Int) := IntWalk.i64_in _ (by omega)
  have wk2 : IntKind.i64.wrap (k2 : Int) = (k2 : Int) := IntWalk.i64_in _ (by omega)
  go_wp2_with (first | ((with_reducible refine sec_take _ (W.heap.size + 1 + 1) 0 sb hs.out (sec_box D) ?hw ?hx ?_); (case hw => rfl); (case hx => rfl)))
  clear p0 p1 p2 q0 q1
  replace P := P.drew
  replace Q := Q.drew
  replace D := D.drew
  replace R0 := R0.drew
  replace b := b.drew
  have p0 := P.at 0 rfl
  have p1 := P.at 1 rfl
  have p2 := P.at 2 rfl
  have q0 := Q.at 0 rfl
  have q1 := Q.at 1 rfl
  refine wp_region_held_drew (S := (fun w' => w'.cell? ⟨W.heap.size, 0, none⟩ = some (Value.slice A n c) ∧ w'.cell? ⟨W.heap.size, 1, none⟩ = some (Value.int .i64 d.fuse) ∧ w'.cell? ⟨W.heap.size, 2, none⟩ = some (Value.bool d.down) ∧ w'.cell? ⟨W.heap.size + 1, 0, none⟩ = some (Value.int .u8 p) ∧ w'.cell? ⟨W.heap.size + 1, 1, none⟩ = some (Value.int .u8 q))) (by kernel_rfl) (by exact ⟨p0, p1, p2, q0, q1⟩) (fun hHeld0 => ?_)
  refine tk 0 29 rfl hHeld0 ?_
  refine tk 1 30 rfl hHeld0 ?_
  refine tk 2 31 rfl hHeld0 ?_
  refine tk 3 32 rfl hHeld0 ?_
  refine tk 4 33 rfl hHeld0 ?_
  refine tk 5 34 rfl hHeld0 ?_
  refine tk 6 35 rfl hHeld0 ?_
  refine tk 7 36 rfl hHeld0 ?_
  refine tk 8 37 rfl hHeld0 ?_
  refine tk 9 38 rfl hHeld0 ?_
  refine tk 10 39 rfl hHeld0 ?_
  refine tk 11 40 rfl hHeld0 ?_
  refine tk 12 41 rfl hHeld0 ?_
  refine tk 13 42 rfl hHeld0 ?_
  refine tk 14 7 rfl hHeld0 ?_
  refine tk 15 8 rfl hHeld0 ?_
  refine wpAnyH_done (by kernel_rfl) ?_ _
  clear wp' wq' wk1 wk2
  by_cases hr : K.right d
  rotate_left
  · have EP : Hid (K.put d (k1 : Int) sb = (d, 1)) := Lib.hid (by rw [K.put_no (by rw [K.asked_wrong hr]; decide), K.asked_wrong hr])
    have ER := Lib.hid (decide_eq_false hr)
    clear hr
    go_wp2_with (first | ((with_reducible refine sec_take _ (W.heap.size + 1 + 1) 0 sb hs.out (sec_box D) ?hw ?hx ?_); (case hw => rfl); (case hx => rfl)))
    refine (kput_at A n c (k1 : Int) sb hs.out EP.out _ R0 hn2 hfu).mono ?_
    rintro e v2 ⟨⟨A2, n2, c2, rfl, R2, fr⟩, hb⟩
    clear p0 p1 p2 q0 q1
    replace P := P.belowH hb
    replace Q := Q.belowH hb
    replace D := D.belowH hb
    replace R0 := R0.belowH hb
    replace b := b.trans (hb.mono b.size)
    clear hb
    (try dsimp only)
    clear fr
    (try dsimp only at R2)
    have X := Box.new v2 #[.slice A2 n2 c2, .int .i64 d.fuse, .bool d.down] 24
    replace P := P.alloc (.cells #[.slice A2 n2 c2, .int .i64 d.fuse, .bool d.down] 24)
    replace Q := Q.alloc (.cells #[.slice A2 n2 c2, .int .i64 d.fuse, .bool d.down] 24)
    replace D := D.alloc (.cells #[.slice A2 n2 c2, .int .i64 d.fuse, .bool d.down] 24)
    replace R0 := R0.alloc (.cells #[.slice A2 n2 c2, .int .i64 d.fuse, .bool d.down] 24)
    replace b := b.alloc b.size (.cells #[.slice A2 n2 c2, .int .i64 d.fuse, .bool d.down] 24)
    replace R2 := R2.alloc (.cells #[.slice A2 n2 c2, .int .i64 d.fuse, .bool d.down] 24)
    have p0 := P.at 0 rfl
    have p1 := P.at 1 rfl
    have p2 := P.at 2 rfl
    have q0 := Q.at 0 rfl
    have q1 := Q.at 1 rfl
    have x0 := X.at 0 rfl
    have x1 := X.at 1 rfl
    have x2 := X.at 2 rfl
    go_wp2_with (first | ((with_reducible refine sec_take _ (W.heap.size + 1 + 1) 0 sb hs.out (sec_box D) ?hw ?hx ?_); (case hw => rfl); (case hx => rfl)))
    generalize v2.alloc (.cells #[.slice A2 n2 c2, .int .i64 d.fuse, .bool d.down] 24) = s2 at *
    refine (kright_at A n c ER.out _ R0).mono ?_
    rintro e v3 ⟨rfl, hb⟩
    clear p0 p1 p2 q0 q1 x0 x1 x2
    replace P := P.belowH hb
    replace Q := Q.belowH hb
    replace D := D.belowH hb
    replace X := X.belowH hb
    replace R0 := R0.belowH hb
    replace R2 := R2.belowH hb
    replace b := b.trans (hb.mono b.size)
    clear hb
    (try dsimp only)
    have p0 := P.at 0 rfl
    have p1 := P.at 1 rfl
    have p2 := P.at 2 rfl
    have q0 := Q.at 0 rfl
    have q1 := Q.at 1 rfl
    have x0 := X.at 0 rfl
    have x1 := X.at 1 rfl
    have x2 := X.at 2 rfl
    go_wp2_with (first | ((with_reducible refine sec_take _ (W.heap.size + 1 + 1) 0 sb hs.out (sec_box D) ?hw ?hx ?_); (case hw => rfl); (case hx => rfl)))
    go_ret
    exact ⟨rfl, b⟩
  by_cases hd : d.down = true
  · have EP : Hid (K.put d (k1 : Int) sb = (d, 9)) := Lib.hid (by rw [K.put_no (by rw [K.asked_down hr hd]; decide), K.asked_down hr hd])
    have HD := Lib.hid hd
    clear hr hd
    go_wp2_with (first | ((with_reducible refine sec_take _ (W.heap.size + 1 + 1) 0 sb hs.out (sec_box D) ?hw ?hx ?_); (case hw => rfl); (case hx => rfl)))
    refine (kput_at A n c (k1 : Int) sb hs.out EP.out _ R0 hn2 hfu).mono ?_
    rintro e v2 ⟨⟨A2, n2, c2, rfl, R2, fr⟩, hb⟩
    clear p0 p1 p2 q0 q1
    replace P := P.belowH hb
    replace Q := Q.belowH hb
    replace D := D.belowH hb
    replace R0 := R0.belowH hb
    replace b := b.trans (hb.mono b.size)
    clear hb
    (try dsimp only)
    clear fr
    (try dsimp only at R2)
    have X := Box.new v2 #[.slice A2 n2 c2, .int .i64 d.fuse, .bool d.down] 24
    replace P := P.alloc (.cells #[.slice A2 n2 c2, .int .i64 d.fuse, .bool d.down] 24)
    replace Q := Q.alloc (.cells #[.slice A2 n2 c2, .int .i64 d.fuse, .bool d.down] 24)
    replace D := D.alloc (.cells #[.slice A2 n2 c2, .int .i64 d.fuse, .bool d.down] 24)
    replace R0 := R0.alloc (.cells #[.slice A2 n2 c2, .int .i64 d.fuse, .bool d.down] 24)
    replace b := b.alloc b.size (.cells #[.slice A2 n2 c2, .int .i64 d.fuse, .bool d.down] 24)
    replace R2 := R2.alloc (.cells #[.slice A2 n2 c2, .int .i64 d.fuse, .bool d.down] 24)
    have p0 := P.at 0 rfl
    have p1 := P.at 1 rfl
    have p2 := P.at 2 rfl
    have q0 := Q.at 0 rfl
    have q1 := Q.at 1 rfl
    have x0 := X.at 0 rfl
    have x1 := X.at 1 rfl
    have x2 := X.at 2 rfl
    go_wp2
    go_ret
    exact ⟨ret_bool (by simp [HD.out]), b⟩
  replace hd : d.down = false := by simpa using hd
  have HA := Lib.hid (K.asked_in hr hd (k := k1) (by have := HL.out; omega))
  have HA2 := Lib.hid (K.asked_in hr hd (k := k2) (by have := HL.out; omega))
  have hf0 : -1 ≤ d.fuse := hr.2
  by_cases ht : 0 ≤ d.fuse ∧ d.fuse < 64
  · have EP : Hid (K.put d (k1 : Int) sb = (⟨d.secs.set k1 (K.torn sb d.fuse.toNat), -1, true⟩, 9)) := Lib.hid (by rw [K.put_torn HA.out (k := d.fuse.toNat) (by omega) (by omega)]; rfl)
    clear hr hd
    go_wp2_with (first | ((with_reducible refine sec_take _ (W.heap.size + 1 + 1) 0 sb hs.out (sec_box D) ?hw ?hx ?_); (case hw => rfl); (case hx => rfl)))
    refine (kput_at A n c (k1 : Int) sb hs.out EP.out _ R0 hn2 hfu).mono ?_
    rintro e v2 ⟨⟨A2, n2, c2, rfl, R2, fr⟩, hb⟩
    clear p0 p1 p2 q0 q1
    replace P := P.belowH hb
    replace Q := Q.belowH hb
    replace D := D.belowH hb
    replace R0 := R0.belowH hb
    replace b := b.trans (hb.mono b.size)
    clear hb
    (try dsimp only)
    clear fr
    (try dsimp only at R2)
    have X := Box.new v2 #[.slice A2 n2 c2, .int .i64 (-1), .bool true] 24
    replace P := P.alloc (.cells #[.slice A2 n2 c2, .int .i64 (-1), .bool true] 24)
    replace Q := Q.alloc (.cells #[.slice A2 n2 c2, .int .i64 (-1), .bool true] 24)
    replace D := D.alloc (.cells #[.slice A2 n2 c2, .int .i64 (-1), .bool true] 24)
    replace R0 := R0.alloc (.cells #[.slice A2 n2 c2, .int .i64 (-1), .bool true] 24)
    replace b := b.alloc b.size (.cells #[.slice A2 n2 c2, .int .i64 (-1), .bool true] 24)
    replace R2 := R2.alloc (.cells #[.slice A2 n2 c2, .int .i64 (-1), .bool true] 24)
    have p0 := P.at 0 rfl
    have p1 := P.at 1 rfl
    have p2 := P.at 2 rfl
    have q0 := Q.at 0 rfl
    have q1 := Q.at 1 rfl
    have x0 := X.at 0 rfl
    have x1 := X.at 1 rfl
    have x2 := X.at 2 rfl
    go_wp2_with (first | ((with_reducible refine sec_take _ (W.heap.size + 1 + 1) 0 sb hs.out (sec_box D) ?hw ?hx ?_); (case hw => rfl); (case hx => rfl)))
    go_ret
    exact ⟨rfl, b⟩
  obtain ⟨φ, hφ⟩ : ∃ φ, (if d.fuse = -1 then -1 else d.fuse - 64) = φ := ⟨_, rfl⟩
  have EP : Hid (K.put d (k1 : Int) sb = (⟨d.secs.set k1 sb, φ, d.down⟩, 0)) := Lib.hid (by rw [K.put_yes HA.out (by omega), hφ]; rfl)
  have hφ1 : -1 ≤ φ := by rw [← hφ]; split <;> omega
  have hlen : d.secs.length = n := HL.out
  have hr2 : K.right ⟨d.secs.set k1 sb, φ, d.down⟩ := ⟨by show (d.secs.set k1 sb).length ≤ 64; rw [List.length_set]; exact hr.1, hφ1⟩
  have GA := Lib.hid (K.asked_in (k := k1) hr2 hd (by show k1 < (d.secs.set k1 sb).length; rw [List.length_set]; omega))
  have GA2 := Lib.hid (K.asked_in (k := k2) hr2 hd (by show k2 < (d.secs.set k1 sb).length; rw [List.length_set]; omega))
  have GG := Lib.hid (K.get_at GA.out (s := sb) (by show (d.secs.set k1 sb)[k1]? = _; rw [List.getElem?_set_self (by omega)]))
  obtain ⟨t3, ht3⟩ : ∃ t, d.secs[k2]? = some t := ⟨_, List.getElem?_eq_getElem (by omega)⟩
  have G3 := Lib.hid (K.get_at HA2.out ht3)
  have h3 : Hid (t3.length = 64) := Lib.hid (hwf.out t3 (List.mem_of_getElem? ht3))
  obtain ⟨t2, ht2⟩ : ∃ t, (d.secs.set k1 sb)[k2]? = some t := ⟨_, List.getElem?_eq_getElem (by rw [List.length_set]; omega)⟩
  have G2 := Lib.hid (K.get_at GA2.out ht2)
  have h2 : Hid (t2.length = 64) := Lib.hid (set_all hwf.out hs.out t2 (List.mem_of_getElem? ht2))
  have HT : Hid (k1 ≠ k2 → t2 = t3) := Lib.hid (fun hne => by rw [List.getElem?_set_ne hne, ht3] at ht2; injection ht2 with h; exact h.symm)
  have EQ1 := sec_in sb sb hs.out hs.out
  have EQ2 := sec_in t2 t3 h2.out h3.out
  have HPHI := Lib.hid hφ
  clear hr hd hφ hr2 ht2 ht3 ht hlen
  go_wp2_with (first | ((with_reducible refine sec_take _ (W.heap.size + 1 + 1) 0 sb hs.out (sec_box D) ?hw ?hx ?_); (case hw => rfl); (case hx => rfl)))
  refine (kput_at A n c (k1 : Int) sb hs.out EP.out _ R0 hn2 hfu).mono ?_
  rintro e v2 ⟨⟨A2, n2, c2, rfl, R2, fr⟩, hb⟩
  clear p0 p1 p2 q0 q1
  replace P := P.belowH hb
  replace Q := Q.belowH hb
  replace D := D.belowH hb
  replace R0 := R0.belowH hb
  replace b := b.trans (hb.mono b.size)
  clear hb
  (try dsimp only)
  clear fr
  (try dsimp only at R2)
  have X := Box.new v2 #[.slice A2 n2 c2, .int .i64 φ, .bool d.down] 24
  replace P := P.alloc (.cells #[.slice A2 n2 c2, .int .i64 φ, .bool d.down] 24)
  replace Q := Q.alloc (.cells #[.slice A2 n2 c2, .int .i64 φ, .bool d.down] 24)
  replace D := D.alloc (.cells #[.slice A2 n2 c2, .int .i64 φ, .bool d.down] 24)
  replace R0 := R0.alloc (.cells #[.slice A2 n2 c2, .int .i64 φ, .bool d.down] 24)
  replace b := b.alloc b.size (.cells #[.slice A2 n2 c2, .int .i64 φ, .bool d.down] 24)
  replace R2 := R2.alloc (.cells #[.slice A2 n2 c2, .int .i64 φ, .bool d.down] 24)
  have p0 := P.at 0 rfl
  have p1 := P.at 1 rfl
  have p2 := P.at 2 rfl
  have q0 := Q.at 0 rfl
  have q1 := Q.at 1 rfl
  have x0 := X.at 0 rfl
  have x1 := X.at 1 rfl
  have x2 := X.at 2 rfl
  go_wp2_with (first | ((with_reducible refine sec_take _ (W.heap.size + 1 + 1) 0 sb hs.out (sec_box D) ?hw ?hx ?_); (case hw => rfl); (case hx => rfl)))
  generalize v2.alloc (.cells #[.slice A2 n2 c2, .int .i64 φ, .bool d.down] 24) = s2 at *
  refine (kget_at (x := ⟨d.secs.set k1 sb, φ, d.down⟩) A2 n2 c2 (k1 : Int) GA.out GG.out _ R2).mono ?_
  rintro e v3 ⟨rfl, hb⟩
  clear p0 p1 p2 q0 q1 x0 x1 x2
  replace P := P.belowH hb
  replace Q := Q.belowH hb
  replace D := D.belowH hb
  replace X := X.belowH hb
  replace R0 := R0.belowH hb
  replace R2 := R2.belowH hb
  replace b := b.trans (hb.mono b.size)
  clear hb
  (try dsimp only)
  have Y1 := Box.new v3 (U sb).toArray 26
  replace P := P.alloc (.cells (U sb).toArray 26)
  replace Q := Q.alloc (.cells (U sb).toArray 26)
  replace D := D.alloc (.cells (U sb).toArray 26)
  replace X := X.alloc (.cells (U sb).toArray 26)
  replace R0 := R0.alloc (.cells (U sb).toArray 26)
  replace R2 := R2.alloc (.cells (U sb).toArray 26)
  replace b := b.alloc b.size (.cells (U sb).toArray 26)
  have p0 := P.at 0 rfl
  have p1 := P.at 1 rfl
  have p2 := P.at 2 rfl
  have q0 := Q.at 0 rfl
  have q1 := Q.at 1 rfl
  have x0 := X.at 0 rfl
  have x1 := X.at 1 rfl
  have x2 := X.at 2 rfl
  go_wp2_with (first | ((with_reducible refine sec_new _ sb hs.out ?hd ?hy ?_); (case hd => rfl); (case hy => rfl)) | ((with_reducible refine sec_take _ (W.heap.size + 1 + 1) 0 sb hs.out (sec_box D) ?hw ?hx ?_); (case hw => rfl); (case hx => rfl)) | ((with_reducible refine sec_take _ (v3.heap.size) 0 sb hs.out (sec_box Y1) ?hw ?hx ?_); (case hw => rfl); (case hx => rfl)))
  generalize v3.alloc (.cells (U sb).toArray 26) = s3 at *
  refine (kget_at (x := ⟨d.secs.set k1 sb, φ, d.down⟩) A2 n2 c2 (k2 : Int) GA2.out G2.out _ R2).mono ?_
  rintro e v4 ⟨rfl, hb⟩
  clear p0 p1 p2 q0 q1 x0 x1 x2
  replace P := P.belowH hb
  replace Q := Q.belowH hb
  replace D := D.belowH hb
  replace X := X.belowH hb
  replace Y1 := Y1.belowH hb
  replace R0 := R0.belowH hb
  replace R2 := R2.belowH hb
  replace b := b.trans (hb.mono b.size)
  clear hb
  (try dsimp only)
  have Y2 := Box.new v4 (U t2).toArray 26
  replace P := P.alloc (.cells (U t2).toArray 26)
  replace Q := Q.alloc (.cells (U t2).toArray 26)
  replace D := D.alloc (.cells (U t2).toArray 26)
  replace X := X.alloc (.cells (U t2).toArray 26)
  replace Y1 := Y1.alloc (.cells (U t2).toArray 26)
  replace R0 := R0.alloc (.cells (U t2).toArray 26)
  replace R2 := R2.alloc (.cells (U t2).toArray 26)
  replace b := b.alloc b.size (.cells (U t2).toArray 26)
  have p0 := P.at 0 rfl
  have p1 := P.at 1 rfl
  have p2 := P.at 2 rfl
  have q0 := Q.at 0 rfl
  have q1 := Q.at 1 rfl
  have x0 := X.at 0 rfl
  have x1 := X.at 1 rfl
  have x2 := X.at 2 rfl
  go_wp2_with (first | ((with_reducible refine sec_new _ t2 h2.out ?hd ?hy ?_); (case hd => rfl); (case hy => rfl)) | ((with_reducible refine sec_take _ (W.heap.size + 1 + 1) 0 sb hs.out (sec_box D) ?hw ?hx ?_); (case hw => rfl); (case hx => rfl)) | ((with_reducible refine sec_take _ (v3.heap.size) 0 sb hs.out (sec_box Y1) ?hw ?hx ?_); (case hw => rfl); (case hx => rfl)) | ((with_reducible refine sec_take _ (v4.heap.size) 0 t2 h2.out (sec_box Y2) ?hw ?hx ?_); (case hw => rfl); (case hx => rfl)))
  generalize v4.alloc (.cells (U t2).toArray 26) = s4 at *
  refine (kget_at A n c (k2 : Int) HA2.out G3.out _ R0).mono ?_
  rintro e v5 ⟨rfl, hb⟩
  clear p0 p1 p2 q0 q1 x0 x1 x2
  replace P := P.belowH hb
  replace Q := Q.belowH hb
  replace D := D.belowH hb
  replace X := X.belowH hb
  replace Y1 := Y1.belowH hb
  replace Y2 := Y2.belowH hb
  replace R0 := R0.belowH hb
  replace R2 := R2.belowH hb
  replace b := b.trans (hb.mono b.size)
  clear hb
  (try dsimp only)
  have Y3 := Box.new v5 (U t3).toArray 26
  replace P := P.alloc (.cells (U t3).toArray 26)
  replace Q := Q.alloc (.cells (U t3).toArray 26)
  replace D := D.alloc (.cells (U t3).toArray 26)
  replace X := X.alloc (.cells (U t3).toArray 26)
  replace Y1 := Y1.alloc (.cells (U t3).toArray 26)
  replace Y2 := Y2.alloc (.cells (U t3).toArray 26)
  replace R0 := R0.alloc (.cells (U t3).toArray 26)
  replace R2 := R2.alloc (.cells (U t3).toArray 26)
  replace b := b.alloc b.size (.cells (U t3).toArray 26)
  have p0 := P.at 0 rfl
  have p1 := P.at 1 rfl
  have p2 := P.at 2 rfl
  have q0 := Q.at 0 rfl
  have q1 := Q.at 1 rfl
  have x0 := X.at 0 rfl
  have x1 := X.at 1 rfl
  have x2 := X.at 2 rfl
  by_cases hk : k1 = k2
  · obtain rfl := hk
    by_cases hm : d.fuse = -1
    · have e1 : (d.fuse == -1) = true := beq_iff_eq.2 hm
      have e2 : (φ == -1) = true := beq_iff_eq.2 (by have := HPHI.out; rw [if_pos hm] at this; exact this.symm)
      clear hm
      go_wp2_with (first | ((with_reducible refine sec_new _ t3 h3.out ?hd ?hy ?_); (case hd => rfl); (case hy => rfl)) | ((with_reducible refine sec_take _ (W.heap.size + 1 + 1) 0 sb hs.out (sec_box D) ?hw ?hx ?_); (case hw => rfl); (case hx => rfl)) | ((with_reducible refine sec_take _ (v3.heap.size) 0 sb hs.out (sec_box Y1) ?hw ?hx ?_); (case hw => rfl); (case hx => rfl)) | ((with_reducible refine sec_take _ (v4.heap.size) 0 t2 h2.out (sec_box Y2) ?hw ?hx ?_); (case hw => rfl); (case hx => rfl)) | ((with_reducible refine sec_take _ (v5.heap.size) 0 t3 h3.out (sec_box Y3) ?hw ?hx ?_); (case hw => rfl); (case hx => rfl)))
      go_ret
      exact ⟨ret_bool (by (first | rfl | (simp; done) | (simp; exact E3.out))), b⟩
    · have e1 : (d.fuse == -1) = false := beq_eq_false_iff_ne.2 hm
      have e2 : wrap64 (d.fuse - 64) = φ := by have := HPHI.out; rw [if_neg hm] at this; rw [this]; exact wrap64_fit (by omega) (by omega)
      have E3 : Hid (φ = d.fuse - 64) := Lib.hid (by have := HPHI.out; rw [if_neg hm] at this; exact this.symm)
      clear hm
      go_wp2_with (first | ((with_reducible refine sec_new _ t3 h3.out ?hd ?hy ?_); (case hd => rfl); (case hy => rfl)) | ((with_reducible refine sec_take _ (W.heap.size + 1 + 1) 0 sb hs.out (sec_box D) ?hw ?hx ?_); (case hw => rfl); (case hx => rfl)) | ((with_reducible refine sec_take _ (v3.heap.size) 0 sb hs.out (sec_box Y1) ?hw ?hx ?_); (case hw => rfl); (case hx => rfl)) | ((with_reducible refine sec_take _ (v4.heap.size) 0 t2 h2.out (sec_box Y2) ?hw ?hx ?_); (case hw => rfl); (case hx => rfl)) | ((with_reducible refine sec_take _ (v5.heap.size) 0 t3 h3.out (sec_box Y3) ?hw ?hx ?_); (case hw => rfl); (case hx => rfl)))
      go_ret
      exact ⟨ret_bool (by (first | rfl | (simp; done) | (simp; exact E3.out))), b⟩
  · have ek : ((k1 : Int) == (k2 : Int)) = false := beq_eq_false_iff_ne.2 (by omega)
    have et : (t2 == t3) = true := beq_iff_eq.2 (HT.out hk)
    clear hk
    by_cases hm : d.fuse = -1
    · have e1 : (d.fuse == -1) = true := beq_iff_eq.2 hm
      have e2 : (φ == -1) = true := beq_iff_eq.2 (by have := HPHI.out; rw [if_pos hm] at this; exact this.symm)
      clear hm
      go_wp2_with (first | ((with_reducible refine sec_new _ t3 h3.out ?hd ?hy ?_); (case hd => rfl); (case hy => rfl)) | ((with_reducible refine sec_take _ (W.heap.size + 1 + 1) 0 sb hs.out (sec_box D) ?hw ?hx ?_); (case hw => rfl); (case hx => rfl)) | ((with_reducible refine sec_take _ (v3.heap.size) 0 sb hs.out (sec_box Y1) ?hw ?hx ?_); (case hw => rfl); (case hx => rfl)) | ((with_reducible refine sec_take _ (v4.heap.size) 0 t2 h2.out (sec_box Y2) ?hw ?hx ?_); (case hw => rfl); (case hx => rfl)) | ((with_reducible refine sec_take _ (v5.heap.size) 0 t3 h3.out (sec_box Y3) ?hw ?hx ?_); (case hw => rfl); (case hx => rfl)))
      go_ret
      exact ⟨ret_bool (by (first | rfl | (simp; done) | (simp; exact E3.out))), b⟩
    · have e1 : (d.fuse == -1) = false := beq_eq_false_iff_ne.2 hm
      have e2 : wrap64 (d.fuse - 64) = φ := by have := HPHI.out; rw [if_neg hm] at this; rw [this]; exact wrap64_fit (by omega) (by omega)
      have E3 : Hid (φ = d.fuse - 64) := Lib.hid (by have := HPHI.out; rw [if_neg hm] at this; exact this.symm)
      clear hm
      go_wp2_with (first | ((with_reducible refine sec_new _ t3 h3.out ?hd ?hy ?_); (case hd => rfl); (case hy => rfl)) | ((with_reducible refine sec_take _ (W.heap.size + 1 + 1) 0 sb hs.out (sec_box D) ?hw ?hx ?_); (case hw => rfl); (case hx => rfl)) | ((with_reducible refine sec_take _ (v3.heap.size) 0 sb hs.out (sec_box Y1) ?hw ?hx ?_); (case hw => rfl); (case hx => rfl)) | ((with_reducible refine sec_take _ (v4.heap.size) 0 t2 h2.out (sec_box Y2) ?hw ?hx ?_); (case hw => rfl); (case hx => rfl)) | ((with_reducible refine sec_take _ (v5.heap.size) 0 t3 h3.out (sec_box Y3) ?hw ?hx ?_); (case hw => rfl); (case hx => rfl)))
      go_ret
      exact ⟨ret_bool (by (first | rfl | (simp; done) | (simp; exact E3.out))), b⟩
end Go.Proofs.Ytijpmjedohjikaa
