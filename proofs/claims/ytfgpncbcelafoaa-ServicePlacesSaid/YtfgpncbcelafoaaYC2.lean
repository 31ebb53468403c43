/- Package service: a service's value. -/
import Derived.Test.YtfgpncbcelafoaaYC1
namespace Go.Proofs.Ytfgpncbcelafoaa
set_option linter.unusedVariables false
set_option linter.unusedSimpArgs false
open Go.RowKit
theorem ytext_by (A : Option Addr) (n c : Nat) (l : List UInt8) (s : ByteArray) (w : World) (h : Rd w w.heap.size 1 A n (U l)) (hn : n ≤ 17592186044416) (hs : s.size ≤ 17592186044416) : Calls Try.prog 22 #[.slice A n c, .string s] w (ByY (l ++ Q.txt s) w) :=
  (text_any A n c w.heap.size (U l) s w h (U_one _) (Nat.le_refl _) hn hs).mono fun e w' ⟨A', c', he, ho, hb⟩ => ⟨⟨A', _, c', he, by rw [U_append]; exact Rd.of_own ho, (own_cap ho).1, (own_cap ho).2⟩, hb⟩
theorem ynum4_by (A A1 : Option Addr) (n c c1 : Nat) (l : List UInt8) (a1 a2 a3 a4 : Int) (w : World) (h : Rd w w.heap.size 1 A n (U l)) (hl : Rd w w.heap.size 1 A1 4 (I [a1, a2, a3, a4])) (hn : n ≤ 35184372088832) : Calls Try.prog 23 #[.slice A n c, .slice A1 4 c1] w (ByY ((((l ++ Q.ub a1) ++ Q.ub a2) ++ Q.ub a3) ++ Q.ub a4) w) := by
  refine (num_any A A1 n c 4 c1 w.heap.size (U l) [a1, a2, a3, a4] w h (U_one _) hl (Nat.le_refl _) hn (by omega)).mono ?_
  rintro e w' ⟨A', c', he, ho, hb⟩
  have h1 := Rd.of_own ho
  have e2 : Q.ubs [a1, a2, a3, a4] = Q.ub a1 ++ (Q.ub a2 ++ (Q.ub a3 ++ Q.ub a4)) := by simp [Q.ubs]
  rw [← U_append, e2] at h1
  refine ⟨⟨A', _, c', he, ?_, (own_cap ho).1, (own_cap ho).2⟩, hb⟩
  simpa only [List.append_assoc] using h1
set_option maxHeartbeats 4000000 in
set_option maxRecDepth 20000 in
theorem yencode_any (x : Svc) (hx : YIn x) (w : World) : Calls Try.prog 7 #[ysv x] w (TxtR (Y.enc x).1 (Y.enc x).2 w) := by
  have hR := fun w => yright_any x hx w
  obtain ⟨n, pr, po, pi, wt, we⟩ := x
  simp only [ysv] at hR ⊢
  have X := Box.new w #[.string (strB n), .string (strB pr), .int .i64 po, .int .i64 pi, .int .i64 wt, .bool we] 23
  have b := (Below.refl w.heap.size w).alloc (Nat.le_refl _) (.cells #[.string (strB n), .string (strB pr), .int .i64 po, .int .i64 pi, .int .i64 wt, .bool we] 23)
  have x0 := X.at 0 rfl
  have x1 := X.at 1 rfl
  have x2 := X.at 2 rfl
  have x3 := X.at 3 rfl
  have x4 := X.at 4 rfl
  have x5 := X.at 5 rfl
  go_enter Try.func7, Try.ntmps7
  go_wp2_with fail
  generalize w.alloc (.cells #[.string (strB n), .string (strB pr), .int .i64 po, .int .i64 pi, .int .i64 wt, .bool we] 23) = wa at *
  refine (hR _).mono ?_
  rintro _ wb ⟨rfl, hb⟩
  clear hR x0 x1 x2 x3 x4 x5
  replace X := X.belowH hb
  replace b := b.trans (hb.mono b.size)
  clear hb
  by_cases hr : Y.right ⟨n, pr, po, pi, wt, we⟩
  rotate_left
  · have E : Hid (Y.enc ⟨n, pr, po, pi, wt, we⟩ = ([], 1)) := Lib.hid (if_neg hr)
    rw [decide_eq_false hr]
    clear hr
    go_wp2
    go_ret2
    exact ⟨by rw [E.out]; rfl, b⟩
  have E : Hid (Y.enc ⟨n, pr, po, pi, wt, we⟩ = (Y.val ⟨n, pr, po, pi, wt, we⟩, 0)) := Lib.hid (Y.dec_enc hr)
  rw [decide_eq_true hr]
  have l1 := Y.word_len hr.1
  have l2 := Y.word_len hr.2.1
  simp only at l1 l2
  have s1 : (strB n).size ≤ 20 := by rw [strB_size]; omega
  have s2 : (strB pr).size ≤ 20 := by rw [strB_size]; omega
  have t1 := Q.length_txt (strB n)
  have t2 := Q.length_txt (strB pr)
  have q1 := Q.size_le ((strB n).size : Int)
  have q2 := Q.size_le ((strB pr).size : Int)
  have T1 : Hid ((Q.txt (strB n)).length ≤ 29) := Lib.hid (by omega)
  have T2 : Hid ((Q.txt (strB pr)).length ≤ 29) := Lib.hid (by omega)
  have S1 := Lib.hid s1
  have S2 := Lib.hid s2
  clear hr l1 l2 s1 s2 t1 t2 q1 q2
  have x0 := X.at 0 rfl
  have x1 := X.at 1 rfl
  have x2 := X.at 2 rfl
  have x3 := X.at 3 rfl
  have x4 := X.at 4 rfl
  have x5 := X.at 5 rfl
  have hxl := X.lt
  obtain ⟨wv, hwv⟩ : ∃ v, Y.bit we = v := ⟨_, rfl⟩
  obtain ⟨tn, htn⟩ : ∃ t, [] ++ Q.txt (strB n) = t := ⟨_, rfl⟩
  obtain ⟨tp, htp⟩ : ∃ t, tn ++ Q.txt (strB pr) = t := ⟨_, rfl⟩
  obtain ⟨tz, htz⟩ : ∃ t, (((tp ++ Q.ub po) ++ Q.ub pi) ++ Q.ub wt) ++ Q.ub wv = t := ⟨_, rfl⟩
  have EV : Hid (Y.val ⟨n, pr, po, pi, wt, we⟩ = tz) := Lib.hid (by rw [val_parts, ← htz, ← htp, ← htn, ← hwv])
  have B1 : Hid (tn.length ≤ 29) := Lib.hid (by rw [← htn]; simpa using T1.out)
  have B2 : Hid (tp.length ≤ 58) := Lib.hid (by rw [← htp, List.length_append]; have := B1.out; have := T2.out; omega)
  have E1 := Lib.hid htn
  have E2 := Lib.hid htp
  have E3 := Lib.hid htz
  have EW := Lib.hid hwv
  clear htn htp htz hwv
  cases we
  · skip
    obtain rfl : wv = 0 := EW.out.symm
    go_upto_region 6 with fail
    clear x2 x3 x4 x5
    refine wp_region_held_drew (S := (fun w' => w'.cell? ⟨w.heap.size, 0, none⟩ = some (.string (strB n)) ∧ w'.cell? ⟨w.heap.size, 1, none⟩ = some (.string (strB pr)))) (by kernel_rfl) (by first | exact ⟨x0, x1⟩ | exact ⟨X.at 0 rfl, X.at 1 rfl⟩) (fun hHeld0 => ?_)
    refine tk 0 11 rfl hHeld0 ?_
    refine tk 1 12 rfl hHeld0 ?_
    refine tk 3 14 rfl hHeld0 ?_
    refine tk 4 15 rfl hHeld0 ?_
    refine wpAnyH_ready (rs := [2]) (by kernel_rfl) (by simp) (AllReadyH.cons (o := ⟨some 13, _, _, _, _, _⟩) rfl (fun K hK => ?_) AllReadyH.nil)
    go_simp
    (replace X := X.drew; replace b := b.drew; refine (ytext_by none 0 0 [] (strB n) _ (Rd.zero _ _ _ _) (by omega) (by have := S1.out; omega)).mono ?_; rintro _ wc1 ⟨⟨Ab1, nb1, cb1, rfl, Rb, hcb⟩, hb⟩; rw [E1.out] at Rb; replace X := X.belowH hb; replace b := b.trans (hb.mono b.size); clear hb)
    go_simp
    refine hK.out _ _ (by first | exact ⟨x0, x1⟩ | exact ⟨X.at 0 rfl, X.at 1 rfl⟩) (fun hHeld1 => ?_)
    clear hK hHeld0 K
    try simp only [Act.put, sA, sB, sC]
    refine wpAnyH_ready (rs := [5]) (by kernel_rfl) (by simp) (AllReadyH.cons (o := ⟨some 16, _, _, _, _, _⟩) rfl (fun K hK => ?_) AllReadyH.nil)
    go_simp
    (have hq := ulen Rb; clear hcb; refine (ytext_by Ab1 nb1 cb1 tn (strB pr) _ Rb (by have h9 := ulen Rb; have := B1.out; omega) (by have := S2.out; omega)).mono ?_; rintro _ wc2 ⟨⟨Ab2, nb2, cb2, rfl, Rb, hcb⟩, hb⟩; rw [E2.out] at Rb; replace X := X.belowH hb; replace b := b.trans (hb.mono b.size); clear hb)
    go_simp
    refine hK.out _ _ (by first | exact ⟨x0, x1⟩ | exact ⟨X.at 0 rfl, X.at 1 rfl⟩) (fun hHeld2 => ?_)
    clear hK hHeld1 K
    try simp only [Act.put, sA, sB, sC]
    refine tk 6 5 rfl hHeld2 ?_
    refine wpAnyH_done (by kernel_rfl) ?_ _
    clear x0 x1
    have x2 := X.at 2 rfl
    have x3 := X.at 3 rfl
    have x4 := X.at 4 rfl
    go_wp2_with fail
    clear hcb
    have L : Rd (wc2.alloc (.cells #[.int .i64 po, .int .i64 pi, .int .i64 wt, .int .i64 0] 3)) (wc2.alloc (.cells #[.int .i64 po, .int .i64 pi, .int .i64 wt, .int .i64 0] 3)).heap.size 1 (some ⟨wc2.heap.size, 0, none⟩) 4 (I [po, pi, wt, 0]) := (Rd.lit wc2 #[.int .i64 po, .int .i64 pi, .int .i64 wt, .int .i64 0] 3 1 4 rfl).more (by simp)
    have M := Rb.belowH ((Below.refl wc2.heap.size wc2).alloc (Nat.le_refl _) (.cells #[.int .i64 po, .int .i64 pi, .int .i64 wt, .int .i64 0] 3))
    replace b := b.alloc b.size (.cells #[.int .i64 po, .int .i64 pi, .int .i64 wt, .int .i64 0] 3)
    refine (ynum4_by Ab2 _ nb2 cb2 _ tp po pi wt 0 _ (by exact M) (by exact L) (by have h9 := ulen Rb; have := B2.out; omega)).mono ?_
    rintro _ wd ⟨⟨Ab6, nb6, cb6, rfl, Rz, hcz⟩, hb⟩
    rw [E3.out] at Rz
    replace b := b.trans (hb.mono b.size)
    clear hb X Rb L M x2 x3 x4
    have CV := run_str (P := Try.prog) 44 9 5 Try.underlying44 Try.underlying5 Try.underlying9 (c := cb6) Rz
    go_wp2
    go_ret2
    exact ⟨by rw [E.out, EV.out]; rfl, b⟩
  · skip
    obtain rfl : wv = 1 := EW.out.symm
    go_upto_region 6 with fail
    clear x2 x3 x4 x5
    refine wp_region_held_drew (S := (fun w' => w'.cell? ⟨w.heap.size, 0, none⟩ = some (.string (strB n)) ∧ w'.cell? ⟨w.heap.size, 1, none⟩ = some (.string (strB pr)))) (by kernel_rfl) (by first | exact ⟨x0, x1⟩ | exact ⟨X.at 0 rfl, X.at 1 rfl⟩) (fun hHeld0 => ?_)
    refine tk 0 11 rfl hHeld0 ?_
    refine tk 1 12 rfl hHeld0 ?_
    refine tk 3 14 rfl hHeld0 ?_
    refine tk 4 15 rfl hHeld0 ?_
    refine wpAnyH_ready (rs := [2]) (by kernel_rfl) (by simp) (AllReadyH.cons (o := ⟨some 13, _, _, _, _, _⟩) rfl (fun K hK => ?_) AllReadyH.nil)
    go_simp
    (replace X := X.drew; replace b := b.drew; refine (ytext_by none 0 0 [] (strB n) _ (Rd.zero _ _ _ _) (by omega) (by have := S1.out; omega)).mono ?_; rintro _ wc1 ⟨⟨Ab1, nb1, cb1, rfl, Rb, hcb⟩, hb⟩; rw [E1.out] at Rb; replace X := X.belowH hb; replace b := b.trans (hb.mono b.size); clear hb)
    go_simp
    refine hK.out _ _ (by first | exact ⟨x0, x1⟩ | exact ⟨X.at 0 rfl, X.at 1 rfl⟩) (fun hHeld1 => ?_)
    clear hK hHeld0 K
    try simp only [Act.put, sA, sB, sC]
    refine wpAnyH_ready (rs := [5]) (by kernel_rfl) (by simp) (AllReadyH.cons (o := ⟨some 16, _, _, _, _, _⟩) rfl (fun K hK => ?_) AllReadyH.nil)
    go_simp
    (have hq := ulen Rb; clear hcb; refine (ytext_by Ab1 nb1 cb1 tn (strB pr) _ Rb (by have h9 := ulen Rb; have := B1.out; omega) (by have := S2.out; omega)).mono ?_; rintro _ wc2 ⟨⟨Ab2, nb2, cb2, rfl, Rb, hcb⟩, hb⟩; rw [E2.out] at Rb; replace X := X.belowH hb; replace b := b.trans (hb.mono b.size); clear hb)
    go_simp
    refine hK.out _ _ (by first | exact ⟨x0, x1⟩ | exact ⟨X.at 0 rfl, X.at 1 rfl⟩) (fun hHeld2 => ?_)
    clear hK hHeld1 K
    try simp only [Act.put, sA, sB, sC]
    refine tk 6 5 rfl hHeld2 ?_
    refine wpAnyH_done (by kernel_rfl) ?_ _
    clear x0 x1
    have x2 := X.at 2 rfl
    have x3 := X.at 3 rfl
    have x4 := X.at 4 rfl
    go_wp2_with fail
    clear hcb
    have L : Rd (wc2.alloc (.cells #[.int .i64 po, .int .i64 pi, .int .i64 wt, .int .i64 1] 3)) (wc2.alloc (.cells #[.int .i64 po, .int .i64 pi, .int .i64 wt, .int .i64 1] 3)).heap.size 1 (some ⟨wc2.heap.size, 0, none⟩) 4 (I [po, pi, wt, 1]) := (Rd.lit wc2 #[.int .i64 po, .int .i64 pi, .int .i64 wt, .int .i64 1] 3 1 4 rfl).more (by simp)
    have M := Rb.belowH ((Below.refl wc2.heap.size wc2).alloc (Nat.le_refl _) (.cells #[.int .i64 po, .int .i64 pi, .int .i64 wt, .int .i64 1] 3))
    replace b := b.alloc b.size (.cells #[.int .i64 po, .int .i64 pi, .int .i64 wt, .int .i64 1] 3)
    refine (ynum4_by Ab2 _ nb2 cb2 _ tp po pi wt 1 _ (by exact M) (by exact L) (by have h9 := ulen Rb; have := B2.out; omega)).mono ?_
    rintro _ wd ⟨⟨Ab6, nb6, cb6, rfl, Rz, hcz⟩, hb⟩
    rw [E3.out] at Rz
    replace b := b.trans (hb.mono b.size)
    clear hb X Rb L M x2 x3 x4
    have CV := run_str (P := Try.prog) 44 9 5 Try.underlying44 Try.underlying5 Try.underlying9 (c := cb6) Rz
    go_wp2
    go_ret2
    exact ⟨by rw [E.out, EV.out]; rfl, b⟩
end Go.Proofs.Ytfgpncbcelafoaa
