/- JRef3 (merged). -/
import Derived.Test.YtipccalbhlhljaaJJR
import Derived.Test.YtipccalbhlhljaaJQTake
namespace Go.Proofs.Ytipccalbhlhljaa
set_option linter.unusedVariables false
set_option linter.unusedSimpArgs false
open Go.RowKit
theorem rd_box {w : World} {b n : Nat} {T : TypeId} {l : List UInt8} (h : Box w b T (U l).toArray) (hl : l.length = n) {B : Nat} (hB : b < B) : Rd w B 1 (some ⟨b, 0, none⟩) n (U l) :=
  ⟨by rw [U_length, hl, Nat.mul_one], fun _ => ⟨b, 0, rfl, hB, fun j hj => by rw [Nat.zero_add, h.at j (by rw [List.getElem?_toArray]; exact List.getElem?_eq_getElem hj), List.getElem?_eq_getElem hj]⟩⟩
theorem taken_in {l : List UInt8} (h : (Q.take l).1 = 0) : ((Q.take l).2.1 : Int) ≤ 4611686018427387904 := (Q.take_parts h).1.2
theorem taketext_in {l : List UInt8} {most : Int} (h : (Q.taketext l most).1 = 0) : ((Q.taketext l most).2.1.length : Int) ≤ most := (Q.taketext_parts h).1
theorem rd_set {w : World} {B n b o : Nat} {A : Option Addr} {xs : List Value} (h : Rd w B 1 A n xs) (hb : B ≤ b) (v : Value) : Rd (w.setCell ⟨b, o, none⟩ v) B 1 A n xs := h.below (below_set (Below.refl _ _) hb v)
set_option maxHeartbeats 4000000 in
set_option maxRecDepth 20000 in
theorem rjfind_any (b : List UInt8) (hb64 : b.length = 64) (w : World) : Calls Try.prog 12 #[.agg (U b).toArray] w (RecR (J.find b).1 (J.find b).2 w) := by
  have B := ((Box.new w (U b).toArray 24).alloc (.cells #[.int .i64 0, .int .i64 0, .string ⟨#[]⟩] 23)).alloc (.cells #[.int .i64 0, .int .i64 0, .string ⟨#[]⟩] 23)
  have Z := (Box.new (w.alloc (.cells (U b).toArray 24)) #[.int .i64 0, .int .i64 0, .string ⟨#[]⟩] 23).alloc (.cells #[.int .i64 0, .int .i64 0, .string ⟨#[]⟩] 23)
  have X := Box.new ((w.alloc (.cells (U b).toArray 24)).alloc (.cells #[.int .i64 0, .int .i64 0, .string ⟨#[]⟩] 23)) #[.int .i64 0, .int .i64 0, .string ⟨#[]⟩] 23
  have bl := (((Below.refl w.heap.size w).alloc (Nat.le_refl _) (.cells (U b).toArray 24)).alloc (by simp) (.cells #[.int .i64 0, .int .i64 0, .string ⟨#[]⟩] 23)).alloc (by simp; omega) (.cells #[.int .i64 0, .int .i64 0, .string ⟨#[]⟩] 23)
  rw [show (w.alloc (.cells (U b).toArray 24)).heap.size = w.heap.size + 1 by simp] at Z
  rw [show ((w.alloc (.cells (U b).toArray 24)).alloc (.cells #[.int .i64 0, .int .i64 0, .string ⟨#[]⟩] 23)).heap.size = w.heap.size + 1 + 1 by simp] at X
  have HB := Lib.hid hb64
  clear hb64
  obtain ⟨⟨e1, n1, k1⟩, ht1⟩ : ∃ z, Q.take b = z := ⟨_, rfl⟩
  obtain ⟨r1, hr1⟩ : ∃ z, Q.rest b = z := ⟨_, rfl⟩
  obtain ⟨⟨e2, n2, k2⟩, ht2⟩ : ∃ z, Q.take r1 = z := ⟨_, rfl⟩
  obtain ⟨r2, hr2⟩ : ∃ z, Q.rest r1 = z := ⟨_, rfl⟩
  obtain ⟨⟨e3, t, r3⟩, ht3⟩ : ∃ z, Q.taketext r2 30 = z := ⟨_, rfl⟩
  have HT1 := Lib.hid ht1
  have HT2 := Lib.hid ht2
  have HT3 := Lib.hid ht3
  have HR1 := Lib.hid hr1
  have HR2 := Lib.hid hr2
  clear ht1 ht2 ht3 hr1 hr2
  go_enter Try.func12, Try.ntmps12
  go_wp2_with fail
  generalize ((w.alloc (.cells (U b).toArray 24)).alloc (.cells #[.int .i64 0, .int .i64 0, .string ⟨#[]⟩] 23)).alloc (.cells #[.int .i64 0, .int .i64 0, .string ⟨#[]⟩] 23) = w1 at *
  have R0 : Rd w1 (w.heap.size + 1) 1 (some ⟨w.heap.size, 0, none⟩) 64 (U b) := rd_box B HB.out (by omega)
  have ct := rtake_any (some ⟨w.heap.size, 0, none⟩) 64 64 (w.heap.size + 1) b w1 R0 (by omega) (by omega)
  rw [HT1.out, HR1.out] at ct
  refine ct.mono ?_
  clear ct
  rintro e w2 ⟨⟨A1, c1, rfl, R1, hc0⟩, q0, hq⟩
  have hb : Below w1.heap.size w1 w2 := by rw [hq]; exact kdrewN (Below.refl _ _) _
  replace R1 : Rd w2 (w.heap.size + 1) 1 A1 r1.length (U r1) := by rw [hq]; exact R1.drewN _
  clear hq
  (try dsimp only)
  (try dsimp only at R1)
  replace B := B.belowH hb
  replace Z := Z.belowH hb
  replace X := X.belowH hb
  replace bl := bl.trans (hb.mono bl.size)
  clear hb
  have z0 := Z.at 0 rfl
  have z1 := Z.at 1 rfl
  have z2 := Z.at 2 rfl
  have zc := Z.cold
  have x0 := X.at 0 rfl
  have x1 := X.at 1 rfl
  have x2 := X.at 2 rfl
  have xc := X.cold
  have B2 := B.other (show w.heap.size ≠ w.heap.size + 1 + 1 by omega) (o := 0) (.int .i64 (n1 : Int))
  have Z2 := Z.other (show w.heap.size + 1 ≠ w.heap.size + 1 + 1 by omega) (o := 0) (.int .i64 (n1 : Int))
  have X2 := X.set 0 (.int .i64 (n1 : Int))
  have RR := rd_set (o := 0) (b := w.heap.size + 1 + 1) R1 (by omega) (.int .i64 (n1 : Int))
  have bb := below_set (o := 0) (b := w.heap.size + 1 + 1) bl (by omega) (.int .i64 (n1 : Int))
  by_cases h1 : e1 = 0
  rotate_left
  · have t1 : ((e1 : Int) != 0) = true := bne_iff_ne.2 (by omega)
    have FN := Lib.hid (J.find_e1 (b := b) (by rw [HT1.out]; exact h1))
    clear h1
    go_wp2
    have Z2 := (((Z2).set 0 (.int .i64 0)).set 1 (.int .i64 0)).set 2 (.string ⟨#[]⟩)
    have q0 := Z2.at 0 rfl
    have q1 := Z2.at 1 rfl
    have q2 := Z2.at 2 rfl
    refine bodyPost_ret (v := .tuple #[.agg #[.int .i64 0, .int .i64 0, .string ⟨#[]⟩], .int .i64 10]) (by simp [results, Try.results12, go_sem, q0, q1, q2]; try rfl) rfl ⟨by rw [FN.out]; rfl, below_set (o := 2) (below_set (o := 1) (below_set (o := 0) (bb) (show w.heap.size ≤ w.heap.size + 1 by omega) (.int .i64 0)) (show w.heap.size ≤ w.heap.size + 1 by omega) (.int .i64 0)) (show w.heap.size ≤ w.heap.size + 1 by omega) (.string ⟨#[]⟩)⟩
  subst h1
  clear B Z X R1 bl
  go_wp2_with fail
  clear z0 z1 z2 zc x0 x1 x2 xc
  generalize w2.setCell ⟨w.heap.size + 1 + 1, 0, none⟩ (.int .i64 (n1 : Int)) = u2 at *
  have B := B2
  have Z := Z2
  have X := X2
  have bl := bb
  have R1 := RR
  clear B2 Z2 X2 bb RR
  have ct := rtake_any A1 r1.length c1 (w.heap.size + 1) r1 u2 R1 hc0.1 hc0.2
  rw [HT2.out, HR2.out] at ct
  refine ct.mono ?_
  clear ct
  rintro e w3 ⟨⟨A2, c2, rfl, R2, hc1⟩, q1, hq⟩
  have hb : Below u2.heap.size u2 w3 := by rw [hq]; exact kdrewN (Below.refl _ _) _
  replace R2 : Rd w3 (w.heap.size + 1) 1 A2 r2.length (U r2) := by rw [hq]; exact R2.drewN _
  clear hq
  (try dsimp only)
  (try dsimp only at R2)
  replace B := B.belowH hb
  replace Z := Z.belowH hb
  replace X := X.belowH hb
  replace bl := bl.trans (hb.mono bl.size)
  clear hb
  have z0 := Z.at 0 rfl
  have z1 := Z.at 1 rfl
  have z2 := Z.at 2 rfl
  have zc := Z.cold
  have x0 := X.at 0 rfl
  have x1 := X.at 1 rfl
  have x2 := X.at 2 rfl
  have xc := X.cold
  have B2 := B.other (show w.heap.size ≠ w.heap.size + 1 + 1 by omega) (o := 1) (.int .i64 (n2 : Int))
  have Z2 := Z.other (show w.heap.size + 1 ≠ w.heap.size + 1 + 1 by omega) (o := 1) (.int .i64 (n2 : Int))
  have X2 := X.set 1 (.int .i64 (n2 : Int))
  have RR := rd_set (o := 1) (b := w.heap.size + 1 + 1) R2 (by omega) (.int .i64 (n2 : Int))
  have bb := below_set (o := 1) (b := w.heap.size + 1 + 1) bl (by omega) (.int .i64 (n2 : Int))
  by_cases h2 : e2 = 0
  rotate_left
  · have t1 : ((e2 : Int) != 0) = true := bne_iff_ne.2 (by omega)
    have FN := Lib.hid (J.find_e2 (b := b) (by rw [HT1.out]) (by rw [HR1.out, HT2.out]; exact h2))
    clear h2
    go_wp2
    have Z2 := (((Z2).set 0 (.int .i64 0)).set 1 (.int .i64 0)).set 2 (.string ⟨#[]⟩)
    have q0 := Z2.at 0 rfl
    have q1 := Z2.at 1 rfl
    have q2 := Z2.at 2 rfl
    refine bodyPost_ret (v := .tuple #[.agg #[.int .i64 0, .int .i64 0, .string ⟨#[]⟩], .int .i64 10]) (by simp [results, Try.results12, go_sem, q0, q1, q2]; try rfl) rfl ⟨by rw [FN.out]; rfl, below_set (o := 2) (below_set (o := 1) (below_set (o := 0) (bb) (show w.heap.size ≤ w.heap.size + 1 by omega) (.int .i64 0)) (show w.heap.size ≤ w.heap.size + 1 by omega) (.int .i64 0)) (show w.heap.size ≤ w.heap.size + 1 by omega) (.string ⟨#[]⟩)⟩
  subst h2
  clear B Z X R2 bl
  go_wp2_with fail
  clear z0 z1 z2 zc x0 x1 x2 xc
  generalize w3.setCell ⟨w.heap.size + 1 + 1, 1, none⟩ (.int .i64 (n2 : Int)) = u3 at *
  have B := B2
  have Z := Z2
  have X := X2
  have bl := bb
  have R2 := RR
  clear B2 Z2 X2 bb RR
  have ct := rtaketext_any A2 r2.length c2 (w.heap.size + 1) r2 30 u3 R2 hc1.1 hc1.2
  rw [HT3.out] at ct
  refine ct.mono ?_
  clear ct
  rintro e w4 ⟨⟨A3, c3, rfl, R3, hc2⟩, q2, hq⟩
  have hb : Below u3.heap.size u3 w4 := by rw [hq]; exact kdrewN (Below.refl _ _) _
  replace R3 : Rd w4 (w.heap.size + 1) 1 A3 r3.length (U r3) := by rw [hq]; exact R3.drewN _
  clear hq
  (try dsimp only)
  (try dsimp only at R3)
  replace B := B.belowH hb
  replace Z := Z.belowH hb
  replace X := X.belowH hb
  replace bl := bl.trans (hb.mono bl.size)
  clear hb
  have z0 := Z.at 0 rfl
  have z1 := Z.at 1 rfl
  have z2 := Z.at 2 rfl
  have zc := Z.cold
  have x0 := X.at 0 rfl
  have x1 := X.at 1 rfl
  have x2 := X.at 2 rfl
  have xc := X.cold
  have B2 := B.other (show w.heap.size ≠ w.heap.size + 1 + 1 by omega) (o := 2) (.string (strB t))
  have Z2 := Z.other (show w.heap.size + 1 ≠ w.heap.size + 1 + 1 by omega) (o := 2) (.string (strB t))
  have X2 := X.set 2 (.string (strB t))
  have RR := rd_set (o := 2) (b := w.heap.size + 1 + 1) R3 (by omega) (.string (strB t))
  have bb := below_set (o := 2) (b := w.heap.size + 1 + 1) bl (by omega) (.string (strB t))
  by_cases h3 : e3 = 0
  rotate_left
  · have t1 : ((e3 : Int) != 0) = true := bne_iff_ne.2 (by omega)
    have FN := Lib.hid (J.find_e3 (b := b) (by rw [HT1.out]) (by rw [HR1.out, HT2.out]) (by rw [HR1.out, HR2.out, HT3.out]; exact h3))
    clear h3
    go_wp2
    have Z2 := (((Z2).set 0 (.int .i64 0)).set 1 (.int .i64 0)).set 2 (.string ⟨#[]⟩)
    have q0 := Z2.at 0 rfl
    have q1 := Z2.at 1 rfl
    have q2 := Z2.at 2 rfl
    refine bodyPost_ret (v := .tuple #[.agg #[.int .i64 0, .int .i64 0, .string ⟨#[]⟩], .int .i64 10]) (by simp [results, Try.results12, go_sem, q0, q1, q2]; try rfl) rfl ⟨by rw [FN.out]; rfl, below_set (o := 2) (below_set (o := 1) (below_set (o := 0) (bb) (show w.heap.size ≤ w.heap.size + 1 by omega) (.int .i64 0)) (show w.heap.size ≤ w.heap.size + 1 by omega) (.int .i64 0)) (show w.heap.size ≤ w.heap.size + 1 by omega) (.string ⟨#[]⟩)⟩
  subst h3
  clear B Z X R3 bl
  go_wp2_with fail
  clear z0 z1 z2 zc x0 x1 x2 xc
  generalize w4.setCell ⟨w.heap.size + 1 + 1, 2, none⟩ (.string (strB t)) = u4 at *
  have B := B2
  have Z := Z2
  have X := X2
  have bl := bb
  have R3 := RR
  clear B2 Z2 X2 bb RR
  have i1 : (n1 : Int) ≤ 4611686018427387904 := by have h := taken_in (l := b) (by rw [HT1.out]); rw [HT1.out] at h; exact h
  have i2 : (n2 : Int) ≤ 4611686018427387904 := by have h := taken_in (l := r1) (by rw [HT2.out]); rw [HT2.out] at h; exact h
  have i3 : (t.length : Int) ≤ 30 := by have h := taketext_in (l := r2) (most := 30) (by rw [HT3.out]); rw [HT3.out] at h; exact h
  have FI := Lib.hid (J.find_is (b := b) (n1 := n1) (n2 := n2) (t := t) (r := r3) (by rw [HT1.out]) (by rw [HR1.out, HT2.out]) (by rw [HR1.out, HR2.out, HT3.out]) (by rw [HT1.out]) (by rw [HR1.out, HT2.out]) (by rw [HR1.out, HR2.out, HT3.out]))
  have hin : RcIn ⟨(n1 : Int), (n2 : Int), t⟩ := ⟨⟨by show -9223372036854775808 ≤ (n1 : Int); omega, by show (n1 : Int) ≤ _; omega⟩, ⟨by show -9223372036854775808 ≤ (n2 : Int); omega, by show (n2 : Int) ≤ _; omega⟩, by show t.length ≤ _; omega⟩
  obtain ⟨⟨ls, le⟩, hly⟩ : ∃ z, J.lay ⟨(n1 : Int), (n2 : Int), t⟩ = z := ⟨_, rfl⟩
  have HLY := Lib.hid hly
  have hls : Hid (ls.length = 64) := Lib.hid (by
    unfold J.lay at hly
    split at hly
    · rename_i hm
      injection hly with h1 h2
      rw [← h1]; exact J.sec_len hm
    · injection hly with h1 h2
      rw [← h1]; exact zero_len)
  have ct := rjlay_any ⟨(n1 : Int), (n2 : Int), t⟩ u4 hin
  rw [hly] at ct
  refine ct.mono ?_
  clear ct hly hin
  rintro e w5 ⟨rfl, hb⟩
  (try dsimp only)
  replace X : Box u4 (w.heap.size + 1 + 1) 23 #[.int .i64 (n1 : Int), .int .i64 (n2 : Int), .string (strB t)] := X
  replace R3 := R3.below (hb.mono (show w.heap.size + 1 ≤ u4.heap.size by have := B.lt; omega))
  replace B := B.belowH hb
  replace Z := Z.belowH hb
  replace X := X.belowH hb
  replace bl := bl.trans (hb.mono bl.size)
  clear hb
  have Y := Box.new w5 (U ls).toArray 24
  replace B := B.alloc (.cells (U ls).toArray 24)
  replace Z := Z.alloc (.cells (U ls).toArray 24)
  replace X := X.alloc (.cells (U ls).toArray 24)
  replace bl := bl.alloc bl.size (.cells (U ls).toArray 24)
  have z0 := Z.at 0 rfl
  have z1 := Z.at 1 rfl
  have z2 := Z.at 2 rfl
  have zc := Z.cold
  have x0 := X.at 0 rfl
  have x1 := X.at 1 rfl
  have x2 := X.at 2 rfl
  have xc := X.cold
  by_cases hm : J.may ⟨(n1 : Int), (n2 : Int), t⟩
  rotate_left
  · have el : le = 1 := by have h := HLY.out; unfold J.lay at h; rw [if_neg hm] at h; injection h with h1 h2; exact h2.symm
    subst el
    have FN := Lib.hid (FI.out.trans (if_neg (fun hc => hm hc.1)))
    clear hm
    go_wp2_with (first | ((with_reducible refine sec_new _ ls hls.out ?hd ?hy ?_); (case hd => rfl); (case hy => rfl)) | ((with_reducible refine sec_take _ w5.heap.size 0 ls hls.out (sec_box Y) ?hw ?hx ?_); (case hw => rfl); (case hx => rfl)) | ((with_reducible refine sec_take _ w.heap.size 0 b HB.out (sec_box B) ?hw ?hx ?_); (case hw => rfl); (case hx => rfl)))
    have Z2 := (((Z).set 0 (.int .i64 0)).set 1 (.int .i64 0)).set 2 (.string ⟨#[]⟩)
    have q0 := Z2.at 0 rfl
    have q1 := Z2.at 1 rfl
    have q2 := Z2.at 2 rfl
    refine bodyPost_ret (v := .tuple #[.agg #[.int .i64 0, .int .i64 0, .string ⟨#[]⟩], .int .i64 10]) (by simp [results, Try.results12, go_sem, q0, q1, q2]; try rfl) rfl ⟨by rw [FN.out]; rfl, below_set (o := 2) (below_set (o := 1) (below_set (o := 0) (bl) (show w.heap.size ≤ w.heap.size + 1 by omega) (.int .i64 0)) (show w.heap.size ≤ w.heap.size + 1 by omega) (.int .i64 0)) (show w.heap.size ≤ w.heap.size + 1 by omega) (.string ⟨#[]⟩)⟩
  have el : ls = J.sec ⟨(n1 : Int), (n2 : Int), t⟩ ∧ le = 0 := by have h := HLY.out; unfold J.lay at h; rw [if_pos hm] at h; injection h with h1 h2; exact ⟨h1.symm, h2.symm⟩
  obtain ⟨els, el⟩ := el
  subst el
  have HLS := Lib.hid els
  have HM := Lib.hid hm
  clear els hm
  have EQ := sec_in ls b hls.out HB.out
  by_cases hsb : ls = b
  rotate_left
  · have t1 : (ls == b) = false := beq_eq_false_iff_ne.2 hsb
    have FN := Lib.hid (FI.out.trans (if_neg (fun hc => hsb (HLS.out.trans hc.2.1))))
    clear hsb
    go_wp2_with (first | ((with_reducible refine sec_new _ ls hls.out ?hd ?hy ?_); (case hd => rfl); (case hy => rfl)) | ((with_reducible refine sec_take _ w5.heap.size 0 ls hls.out (sec_box Y) ?hw ?hx ?_); (case hw => rfl); (case hx => rfl)) | ((with_reducible refine sec_take _ w.heap.size 0 b HB.out (sec_box B) ?hw ?hx ?_); (case hw => rfl); (case hx => rfl)))
    have Z2 := (((Z).set 0 (.int .i64 0)).set 1 (.int .i64 0)).set 2 (.string ⟨#[]⟩)
    have q0 := Z2.at 0 rfl
    have q1 := Z2.at 1 rfl
    have q2 := Z2.at 2 rfl
    refine bodyPost_ret (v := .tuple #[.agg #[.int .i64 0, .int .i64 0, .string ⟨#[]⟩], .int .i64 10]) (by simp [results, Try.results12, go_sem, q0, q1, q2]; try rfl) rfl ⟨by rw [FN.out]; rfl, below_set (o := 2) (below_set (o := 1) (below_set (o := 0) (bl) (show w.heap.size ≤ w.heap.size + 1 by omega) (.int .i64 0)) (show w.heap.size ≤ w.heap.size + 1 by omega) (.int .i64 0)) (show w.heap.size ≤ w.heap.size + 1 by omega) (.string ⟨#[]⟩)⟩
  have t1 : (ls == b) = true := beq_iff_eq.2 hsb
  have HSB := Lib.hid hsb
  clear hsb
  by_cases hr5 : r3.length < 5
  · have FN := Lib.hid (FI.out.trans (if_neg (fun hc => absurd hc.2.2 (by omega))))
    have hr5i : (r3.length : Int) < 5 := by omega
    go_wp2_with (first | ((with_reducible refine sec_new _ ls hls.out ?hd ?hy ?_); (case hd => rfl); (case hy => rfl)) | ((with_reducible refine sec_take _ w5.heap.size 0 ls hls.out (sec_box Y) ?hw ?hx ?_); (case hw => rfl); (case hx => rfl)) | ((with_reducible refine sec_take _ w.heap.size 0 b HB.out (sec_box B) ?hw ?hx ?_); (case hw => rfl); (case hx => rfl)))
    have Z2 := (((Z).set 0 (.int .i64 0)).set 1 (.int .i64 0)).set 2 (.string ⟨#[]⟩)
    have q0 := Z2.at 0 rfl
    have q1 := Z2.at 1 rfl
    have q2 := Z2.at 2 rfl
    refine bodyPost_ret (v := .tuple #[.agg #[.int .i64 0, .int .i64 0, .string ⟨#[]⟩], .int .i64 10]) (by simp [results, Try.results12, go_sem, q0, q1, q2]; try rfl) rfl ⟨by rw [FN.out]; rfl, below_set (o := 2) (below_set (o := 1) (below_set (o := 0) (bl) (show w.heap.size ≤ w.heap.size + 1 by omega) (.int .i64 0)) (show w.heap.size ≤ w.heap.size + 1 by omega) (.int .i64 0)) (show w.heap.size ≤ w.heap.size + 1 by omega) (.string ⟨#[]⟩)⟩
  have FY := Lib.hid (FI.out.trans (if_pos ⟨HM.out, HLS.out.symm.trans HSB.out, by omega⟩))
  have hr5i : ¬ (r3.length : Int) < 5 := by omega
  go_wp2_with (first | ((with_reducible refine sec_new _ ls hls.out ?hd ?hy ?_); (case hd => rfl); (case hy => rfl)) | ((with_reducible refine sec_take _ w5.heap.size 0 ls hls.out (sec_box Y) ?hw ?hx ?_); (case hw => rfl); (case hx => rfl)) | ((with_reducible refine sec_take _ w.heap.size 0 b HB.out (sec_box B) ?hw ?hx ?_); (case hw => rfl); (case hx => rfl)))
  have Z2 := ((Z.set 0 (.int .i64 (n1 : Int))).set 1 (.int .i64 (n2 : Int))).set 2 (.string (strB t))
  have q0 := Z2.at 0 rfl
  have q1 := Z2.at 1 rfl
  have q2 := Z2.at 2 rfl
  refine bodyPost_ret (v := .tuple #[.agg #[.int .i64 (n1 : Int), .int .i64 (n2 : Int), .string (strB t)], .int .i64 0]) (by simp [results, Try.results12, go_sem, q0, q1, q2]; try rfl) rfl ⟨by rw [FY.out]; rfl, below_set (o := 2) (below_set (o := 1) (below_set (o := 0) bl (show w.heap.size ≤ w.heap.size + 1 by omega) (.int .i64 (n1 : Int))) (show w.heap.size ≤ w.heap.size + 1 by omega) (.int .i64 (n2 : Int))) (show w.heap.size ≤ w.heap.size + 1 by omega) (.string (strB t))⟩
end Go.Proofs.Ytipccalbhlhljaa

