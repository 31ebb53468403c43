/- JC3 (merged). -/
import Derived.Test.YtipccalbhlhljaaJJRef3
import Derived.Test.YtipccalbhlhljaaJJC2
namespace Go.Proofs.Ytipccalbhlhljaa
set_option linter.unusedVariables false
set_option linter.unusedSimpArgs false
open Go.RowKit
namespace J
/-- what bytes say, whether they are laid so or not -/
def read (b : List UInt8) : Rc := ⟨(Q.take b).2.1, (Q.take (Q.rest b)).2.1, (Q.taketext (Q.rest (Q.rest b)) 30).2.1⟩
theorem take_most (l : List UInt8) : ((Q.take l).2.1 : Int) ≤ 4611686018427387904 := by
  by_cases h : (Q.take l).1 = 0
  · exact taken_in h
  · rw [(Q.take_err h).1]; decide
theorem text_most (l : List UInt8) : ((Q.taketext l 30).2.1.length : Int) ≤ 30 := by
  by_cases h : (Q.taketext l 30).1 = 0
  · exact taketext_in h
  · unfold Q.taketext at h ⊢
    split
    · simp
    · rename_i h1
      rw [if_neg h1] at h
      split
      · simp
      · rename_i h2
        rw [if_neg h2] at h
        split
        · simp
        · rename_i h3
          rw [if_neg h3] at h
          exact absurd rfl h
theorem read_in (b : List UInt8) : RcIn (read b) := by
  have h1 := take_most b
  have h2 := take_most (Q.rest b)
  have h3 := text_most (Q.rest (Q.rest b))
  refine ⟨⟨?_, ?_⟩, ⟨?_, ?_⟩, ?_⟩
  · show (-9223372036854775808 : Int) ≤ ((Q.take b).2.1 : Int); omega
  · show ((Q.take b).2.1 : Int) ≤ _; omega
  · show (-9223372036854775808 : Int) ≤ ((Q.take (Q.rest b)).2.1 : Int); omega
  · show ((Q.take (Q.rest b)).2.1 : Int) ≤ _; omega
  · show (Q.taketext (Q.rest (Q.rest b)) 30).2.1.length ≤ _; omega
theorem parse_read {b : List UInt8} {x : Rc} {r : List UInt8} (h : parse b = (x, r, true)) : read b = x := by
  unfold parse at h
  split at h
  · simp at h
  · split at h
    · simp at h
    · split at h
      · simp at h
      · injection h
theorem read_sec {x : Rc} (h : may x) : read (sec x) = x := by
  obtain ⟨r, hp, _⟩ := parse_sec h
  exact parse_read hp
theorem find_read (b : List UInt8) : find b = if may (read b) ∧ sec (read b) = b then (read b, 0) else (none, 10) := by
  split
  · rename_i h
    have h1 := find_sec h.1
    rwa [h.2] at h1
  · rename_i h
    rcases find_or b with h1 | ⟨x, hx, hs, h1⟩
    · exact h1
    · refine absurd ?_ h
      rw [← hs, read_sec hx]
      exact ⟨hx, rfl⟩
end J
set_option maxHeartbeats 2000000 in
set_option maxRecDepth 20000 in
theorem jread_any (A : Option Addr) (n c B : Nat) (b : List UInt8) (w : World) (h : Rd w B 1 A n (U b)) (hB : B ≤ w.heap.size) (hc : n ≤ c) (hm : c ≤ 9223372036854775807) :
    Calls Try.prog 34 #[.slice A n c] w fun e w' => e = .returned (rv (J.read b)) ∧ Below w.heap.size w w' := by
  have Z := Box.new w #[.int .i64 0, .int .i64 0, .string ⟨#[]⟩] 23
  have bl := (Below.refl w.heap.size w).alloc (Nat.le_refl _) (.cells #[.int .i64 0, .int .i64 0, .string ⟨#[]⟩] 23)
  have R := h.alloc hB (.cells #[.int .i64 0, .int .i64 0, .string ⟨#[]⟩] 23)
  obtain ⟨⟨e1, n1, k1⟩, ht1⟩ : ∃ z, Q.take b = z := ⟨_, rfl⟩
  obtain ⟨r1, hr1⟩ : ∃ z, Q.rest b = z := ⟨_, rfl⟩
  obtain ⟨⟨e2, n2, k2⟩, ht2⟩ : ∃ z, Q.take r1 = z := ⟨_, rfl⟩
  obtain ⟨r2, hr2⟩ : ∃ z, Q.rest r1 = z := ⟨_, rfl⟩
  obtain ⟨⟨e3, t, r3⟩, ht3⟩ : ∃ z, Q.taketext r2 30 = z := ⟨_, rfl⟩
  have HRD : Hid (J.read b = ⟨(n1 : Int), (n2 : Int), t⟩) := Lib.hid (by unfold J.read; rw [hr1, hr2, ht1, ht2, ht3])
  have HT1 := Lib.hid ht1
  have HT2 := Lib.hid ht2
  have HT3 := Lib.hid ht3
  have HR1 := Lib.hid hr1
  have HR2 := Lib.hid hr2
  clear ht1 ht2 ht3 hr1 hr2 h
  go_enter Try.func34, Try.ntmps34
  go_wp2_with fail
  generalize w.alloc (.cells #[.int .i64 0, .int .i64 0, .string ⟨#[]⟩] 23) = w1 at *
  have ct := take_any A n c B b w1 R hc hm
  rw [HT1.out, HR1.out] at ct
  refine ct.mono ?_
  clear ct
  rintro e w2 ⟨⟨A1, c1, rfl, R1, hc1⟩, rfl⟩
  (try dsimp only)
  (try dsimp only at R1)
  go_wp2_with fail
  have ct := take_any A1 r1.length c1 B r1 w1 R1 hc1.1 hc1.2
  rw [HT2.out, HR2.out] at ct
  refine ct.mono ?_
  clear ct
  rintro e w2 ⟨⟨A2, c2, rfl, R2, hc2⟩, rfl⟩
  (try dsimp only)
  (try dsimp only at R2)
  go_wp2_with fail
  have ct := taketext_any A2 r2.length c2 B r2 30 w1 R2 hc2.1 hc2.2
  rw [HT3.out] at ct
  refine ct.mono ?_
  clear ct
  rintro e w2 ⟨⟨A3, c3, rfl, R3, hc3⟩, q, hq⟩
  have hb : Below w1.heap.size w1 w2 := by rw [hq]; exact kdrewN (Below.refl _ _) _
  clear hq R R1 R2 R3
  (try dsimp only)
  replace Z := Z.belowH hb
  replace bl := bl.trans (hb.mono bl.size)
  clear hb
  have z0 := Z.at 0 rfl
  have z1 := Z.at 1 rfl
  have z2 := Z.at 2 rfl
  have zc := Z.cold
  go_wp2
  have Z2 := ((Z.set 0 (.int .i64 (n1 : Int))).set 1 (.int .i64 (n2 : Int))).set 2 (.string (strB t))
  have q0 := Z2.at 0 rfl
  have q1 := Z2.at 1 rfl
  have q2 := Z2.at 2 rfl
  refine bodyPost_ret (v := .agg #[.int .i64 (n1 : Int), .int .i64 (n2 : Int), .string (strB t)]) (by simp [results, Try.results34, go_sem, q0, q1, q2]; try rfl) rfl ⟨by rw [HRD.out]; rfl, below_three bl (Nat.le_refl _) (.int .i64 (n1 : Int)) (.int .i64 (n2 : Int)) (.string (strB t))⟩
set_option maxHeartbeats 4000000 in
set_option maxRecDepth 20000 in
theorem jfind_any (b : List UInt8) (hb64 : b.length = 64) (w : World) : Calls Try.prog 11 #[.agg (U b).toArray] w (RecR (J.find b).1 (J.find b).2 w) := by
  have B := (Box.new w (U b).toArray 24).alloc (.cells #[.int .i64 0, .int .i64 0, .string ⟨#[]⟩] 23)
  have Z := Box.new (w.alloc (.cells (U b).toArray 24)) #[.int .i64 0, .int .i64 0, .string ⟨#[]⟩] 23
  have bl := ((Below.refl w.heap.size w).alloc (Nat.le_refl _) (.cells (U b).toArray 24)).alloc (by simp) (.cells #[.int .i64 0, .int .i64 0, .string ⟨#[]⟩] 23)
  rw [show (w.alloc (.cells (U b).toArray 24)).heap.size = w.heap.size + 1 by simp] at Z
  have HB := Lib.hid hb64
  have HRI := Lib.hid (J.read_in b)
  have FI := Lib.hid (J.find_read b)
  clear hb64
  obtain ⟨⟨q, g, t⟩, hrd⟩ : ∃ z, J.read b = z := ⟨_, rfl⟩
  rw [hrd] at FI HRI
  have HRD := Lib.hid hrd
  obtain ⟨⟨ls, le⟩, hly⟩ : ∃ z, J.lay ⟨q, g, t⟩ = z := ⟨_, rfl⟩
  have HLY := Lib.hid hly
  have hls : Hid (ls.length = 64) := Lib.hid (by have h1 := J.lay_len ⟨q, g, t⟩; rw [hly] at h1; exact h1)
  clear hrd hly
  go_enter Try.func11, Try.ntmps11
  go_wp2_with fail
  generalize (w.alloc (.cells (U b).toArray 24)).alloc (.cells #[.int .i64 0, .int .i64 0, .string ⟨#[]⟩] 23) = w1 at *
  have R0 : Rd w1 (w.heap.size + 1) 1 (some ⟨w.heap.size, 0, none⟩) 64 (U b) := rd_box B HB.out (by omega)
  have ct := jread_any (some ⟨w.heap.size, 0, none⟩) 64 64 (w.heap.size + 1) b w1 R0 (by have := Z.lt; omega) (by omega) (by omega)
  rw [HRD.out] at ct
  refine ct.mono ?_
  clear ct R0
  rintro e w2 ⟨rfl, hb⟩
  simp only [rv]
  replace B := B.belowH hb
  replace Z := Z.belowH hb
  replace bl := bl.trans (hb.mono bl.size)
  clear hb
  have hxb : w.heap.size + 1 < w2.heap.size := Z.lt
  have X := Box.new w2 #[.int .i64 q, .int .i64 g, .string (strB t)] 23
  replace B := B.alloc (.cells #[.int .i64 q, .int .i64 g, .string (strB t)] 23)
  replace Z := Z.alloc (.cells #[.int .i64 q, .int .i64 g, .string (strB t)] 23)
  replace bl := bl.alloc bl.size (.cells #[.int .i64 q, .int .i64 g, .string (strB t)] 23)
  have x0 := X.at 0 rfl
  have x1 := X.at 1 rfl
  have x2 := X.at 2 rfl
  go_wp2_with fail
  generalize w2.alloc (.cells #[.int .i64 q, .int .i64 g, .string (strB t)] 23) = w3 at *
  generalize w2.heap.size = xb at *
  have ct := jlay_any ⟨q, g, t⟩ w3 HRI.out
  rw [HLY.out] at ct
  refine ct.mono ?_
  clear ct
  rintro e w5 ⟨rfl, hb⟩
  (try dsimp only)
  replace B := B.belowH hb
  replace Z := Z.belowH hb
  replace X := X.belowH hb
  replace bl := bl.trans (hb.mono bl.size)
  clear hb x0 x1 x2
  have Y := Box.new w5 (U ls).toArray 24
  replace B := B.alloc (.cells (U ls).toArray 24)
  replace Z := Z.alloc (.cells (U ls).toArray 24)
  replace X := X.alloc (.cells (U ls).toArray 24)
  replace bl := bl.alloc bl.size (.cells (U ls).toArray 24)
  have z0 := Z.at 0 rfl
  have z1 := Z.at 1 rfl
  have z2 := Z.at 2 rfl
  have zc := Z.cold
  have x0 := X.at 0 rfl
  have x1 := X.at 1 rfl
  have x2 := X.at 2 rfl
  by_cases hm : J.may ⟨q, g, t⟩
  rotate_left
  · have el : le = 1 := by have h := HLY.out; rw [J.lay_no hm] at h; injection h with h1 h2; exact h2.symm
    subst el
    have FN := Lib.hid (FI.out.trans (if_neg (fun hc => hm hc.1)))
    clear hm
    go_wp2_with (first | ((with_reducible refine sec_new _ ls hls.out ?hd ?hy ?_); (case hd => rfl); (case hy => rfl)) | ((with_reducible refine sec_take _ w5.heap.size 0 ls hls.out (sec_box Y) ?hw ?hx ?_); (case hw => rfl); (case hx => rfl)) | ((with_reducible refine sec_take _ w.heap.size 0 b HB.out (sec_box B) ?hw ?hx ?_); (case hw => rfl); (case hx => rfl)))
    have Z2 := ((Z.set 0 (.int .i64 0)).set 1 (.int .i64 0)).set 2 (.string ⟨#[]⟩)
    have q0 := Z2.at 0 rfl
    have q1 := Z2.at 1 rfl
    have q2 := Z2.at 2 rfl
    refine bodyPost_ret (v := .tuple #[.agg #[.int .i64 0, .int .i64 0, .string ⟨#[]⟩], .int .i64 10]) (by simp [results, Try.results11, go_sem, q0, q1, q2]; try rfl) rfl ⟨by rw [FN.out]; rfl, below_three bl (show w.heap.size ≤ w.heap.size + 1 by omega) (.int .i64 0) (.int .i64 0) (.string ⟨#[]⟩)⟩
  have el : ls = J.sec ⟨q, g, t⟩ ∧ le = 0 := by have h := HLY.out; rw [J.lay_yes hm] at h; injection h with h1 h2; exact ⟨h1.symm, h2.symm⟩
  obtain ⟨els, el⟩ := el
  subst el
  have HLS := Lib.hid els
  have HM := Lib.hid hm
  clear els hm
  have EQ := sec_in ls b hls.out HB.out
  by_cases hsb : ls = b
  rotate_left
  · have t1 : (ls == b) = false := beq_eq_false_iff_ne.2 hsb
    have FN := Lib.hid (FI.out.trans (if_neg (fun hc => hsb (HLS.out.trans hc.2))))
    clear hsb
    go_wp2_with (first | ((with_reducible refine sec_new _ ls hls.out ?hd ?hy ?_); (case hd => rfl); (case hy => rfl)) | ((with_reducible refine sec_take _ w5.heap.size 0 ls hls.out (sec_box Y) ?hw ?hx ?_); (case hw => rfl); (case hx => rfl)) | ((with_reducible refine sec_take _ w.heap.size 0 b HB.out (sec_box B) ?hw ?hx ?_); (case hw => rfl); (case hx => rfl)))
    have Z2 := ((Z.set 0 (.int .i64 0)).set 1 (.int .i64 0)).set 2 (.string ⟨#[]⟩)
    have q0 := Z2.at 0 rfl
    have q1 := Z2.at 1 rfl
    have q2 := Z2.at 2 rfl
    refine bodyPost_ret (v := .tuple #[.agg #[.int .i64 0, .int .i64 0, .string ⟨#[]⟩], .int .i64 10]) (by simp [results, Try.results11, go_sem, q0, q1, q2]; try rfl) rfl ⟨by rw [FN.out]; rfl, below_three bl (show w.heap.size ≤ w.heap.size + 1 by omega) (.int .i64 0) (.int .i64 0) (.string ⟨#[]⟩)⟩
  have t1 : (ls == b) = true := beq_iff_eq.2 hsb
  have FY := Lib.hid (FI.out.trans (if_pos ⟨HM.out, HLS.out.symm.trans hsb⟩))
  clear hsb
  go_wp2_with (first | ((with_reducible refine sec_new _ ls hls.out ?hd ?hy ?_); (case hd => rfl); (case hy => rfl)) | ((with_reducible refine sec_take _ w5.heap.size 0 ls hls.out (sec_box Y) ?hw ?hx ?_); (case hw => rfl); (case hx => rfl)) | ((with_reducible refine sec_take _ w.heap.size 0 b HB.out (sec_box B) ?hw ?hx ?_); (case hw => rfl); (case hx => rfl)))
  have Z2 := ((Z.set 0 (.int .i64 q)).set 1 (.int .i64 g)).set 2 (.string (strB t))
  have q0 := Z2.at 0 rfl
  have q1 := Z2.at 1 rfl
  have q2 := Z2.at 2 rfl
  refine bodyPost_ret (v := .tuple #[.agg #[.int .i64 q, .int .i64 g, .string (strB t)], .int .i64 0]) (by simp [results, Try.results11, go_sem, q0, q1, q2]; try rfl) rfl ⟨by rw [FY.out]; rfl, below_three bl (show w.heap.size ≤ w.heap.size + 1 by omega) (.int .i64 q) (.int .i64 g) (.string (strB t))⟩
end Go.Proofs.Ytipccalbhlhljaa

