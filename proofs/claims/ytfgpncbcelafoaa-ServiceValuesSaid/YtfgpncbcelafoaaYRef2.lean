/- The document's services: may one be; its value. -/
import Derived.Test.YtfgpncbcelafoaaYRef
import Derived.Test.YtfgpncbcelafoaaQTake
import Derived.Deep.QuietTactic
import Derived.Deep.DeepCutAuto
namespace Go.Proofs.Ytfgpncbcelafoaa
set_option linter.unusedVariables false
set_option linter.unusedSimpArgs false
open Go.RowKit
def ysv (x : Svc) : Value := .agg #[.string (strB x.name), .string (strB x.proto), .int .i64 x.port, .int .i64 x.prio, .int .i64 x.wt, .bool x.well]
theorem ryword_at {l : List UInt8} {z : Bool} (e : decide (Y.word l) = z) (hm : l.length ≤ 4611686018427387904) (w : World) : Calls Try.prog 14 #[.string (strB l)] w (BoolY z w) := by subst e; exact ryword_any l _ rfl hm w
theorem ryshort_at {n : Int} {z : Bool} (e : decide (Y.short n) = z) (w : World) : Calls Try.prog 30 #[.int .i64 n] w (BoolY z w) := by
  have HE := Lib.hid e
  clear e
  by_cases h1 : 0 ≤ n
  · have f1 : decide (0 ≤ n) = true := decide_eq_true h1
    by_cases h2 : n ≤ 65535
    · have f2 : decide (n ≤ 65535) = true := decide_eq_true h2
      have Z : Hid (z = true) := Lib.hid (by rw [← HE.out]; exact decide_eq_true ⟨h1, h2⟩)
      go_enter Try.func30, Try.ntmps30
      go_wp2
      go_ret
      exact ⟨ret_bool Z.out.symm, rfl⟩
    · have f2 : decide (n ≤ 65535) = false := decide_eq_false h2
      have Z : Hid (z = false) := Lib.hid (by rw [← HE.out]; exact decide_eq_false (fun h => h2 h.2))
      go_enter Try.func30, Try.ntmps30
      go_wp2
      go_ret
      exact ⟨ret_bool Z.out.symm, rfl⟩
  · have f1 : decide (0 ≤ n) = false := decide_eq_false h1
    have Z : Hid (z = false) := Lib.hid (by rw [← HE.out]; exact decide_eq_false (fun h => h1 h.1))
    go_enter Try.func30, Try.ntmps30
    go_wp2
    go_ret
    exact ⟨ret_bool Z.out.symm, rfl⟩
/-- what an argument's texts may weigh -/
def YIn (x : Svc) : Prop := x.name.length ≤ 140737488351232 ∧ x.proto.length ≤ 140737488351232
theorem BoolY.below {b : Bool} {w w' : World} {e : Ending} (h : BoolY b w e w') : e = .returned (.bool b) ∧ Below w.heap.size w w' := ⟨h.1, by rw [h.2]; exact Below.refl _ _⟩
def BoolB (b : Bool) (w : World) (e : Ending) (w' : World) : Prop := e = .returned (.bool b) ∧ Below w.heap.size w w'
set_option maxHeartbeats 2000000 in
set_option maxRecDepth 20000 in
theorem ryright_any (x : Svc) (hx : YIn x) (w : World) : Calls Try.prog 12 #[ysv x] w (BoolB (decide (Y.right x)) w) := by
  obtain ⟨n, pr, po, pi, wt, we⟩ := x
  obtain ⟨hx1, hx2⟩ := hx
  simp only at hx1 hx2
  simp only [ysv]
  have X := Box.new w #[.string (strB n), .string (strB pr), .int .i64 po, .int .i64 pi, .int .i64 wt, .bool we] 23
  have b := (Below.refl w.heap.size w).alloc (Nat.le_refl _) (.cells #[.string (strB n), .string (strB pr), .int .i64 po, .int .i64 pi, .int .i64 wt, .bool we] 23)
  have x0 := X.at 0 rfl
  have x1 := X.at 1 rfl
  have x2 := X.at 2 rfl
  have x3 := X.at 3 rfl
  have x4 := X.at 4 rfl
  obtain ⟨z, hz⟩ : ∃ z, decide (Y.right ⟨n, pr, po, pi, wt, we⟩) = z := ⟨_, rfl⟩
  have HZ := Lib.hid hz
  rw [hz]
  obtain ⟨z1, hz1⟩ : ∃ z, decide (Y.word n) = z := ⟨_, rfl⟩
  obtain ⟨z2, hz2⟩ : ∃ z, decide (Y.word pr) = z := ⟨_, rfl⟩
  obtain ⟨z3, hz3⟩ : ∃ z, decide (1 ≤ po) = z := ⟨_, rfl⟩
  obtain ⟨z4, hz4⟩ : ∃ z, decide (Y.short po) = z := ⟨_, rfl⟩
  obtain ⟨z5, hz5⟩ : ∃ z, decide (Y.short pi) = z := ⟨_, rfl⟩
  obtain ⟨z6, hz6⟩ : ∃ z, decide (Y.short wt) = z := ⟨_, rfl⟩
  have ALL : Hid (z = (z1 && (z2 && (z3 && (z4 && (z5 && z6)))))) := Lib.hid (by
    rw [← hz, ← hz1, ← hz2, ← hz3, ← hz4, ← hz5, ← hz6]
    rw [Bool.eq_iff_iff]
    simp only [decide_eq_true_iff, Bool.and_eq_true]
    exact Iff.rfl)
  have H1 := Lib.hid hz1
  have H2 := Lib.hid hz2
  have H4 := Lib.hid hz4
  have H5 := Lib.hid hz5
  have H6 := Lib.hid hz6
  clear hz hz1 hz2 hz4 hz5 hz6 HZ
  go_enter Try.func12, Try.ntmps12
  go_wp2_with fail
  generalize w.alloc (.cells #[.string (strB n), .string (strB pr), .int .i64 po, .int .i64 pi, .int .i64 wt, .bool we] 23) = wa at *
  refine (ryword_at H1.out (by omega) _).mono ?_
  rintro _ wb ⟨rfl, rfl⟩
  cases z1
  · skip
    have Z : Hid (z = false) := Lib.hid (by rw [ALL.out]; rfl)
    go_wp2
    go_ret
    exact ⟨ret_bool Z.out.symm, b⟩
  · skip
    go_wp2_with fail
    refine (ryword_at H2.out (by omega) _).mono ?_
    rintro _ wb ⟨rfl, rfl⟩
    cases z2
    · skip
      have Z : Hid (z = false) := Lib.hid (by rw [ALL.out]; rfl)
      go_wp2
      go_ret
      exact ⟨ret_bool Z.out.symm, b⟩
    · skip
      cases z3
      · skip
        have Z : Hid (z = false) := Lib.hid (by rw [ALL.out]; rfl)
        go_wp2
        go_ret
        exact ⟨ret_bool Z.out.symm, b⟩
      · skip
        go_wp2_with fail
        refine (ryshort_at H4.out _).mono ?_
        rintro _ wb ⟨rfl, rfl⟩
        cases z4
        · skip
          have Z : Hid (z = false) := Lib.hid (by rw [ALL.out]; rfl)
          go_wp2
          go_ret
          exact ⟨ret_bool Z.out.symm, b⟩
        · skip
          go_wp2_with fail
          refine (ryshort_at H5.out _).mono ?_
          rintro _ wb ⟨rfl, rfl⟩
          cases z5
          · skip
            have Z : Hid (z = false) := Lib.hid (by rw [ALL.out]; rfl)
            go_wp2
            go_ret
            exact ⟨ret_bool Z.out.symm, b⟩
          · skip
            go_wp2_with fail
            refine (ryshort_at H6.out _).mono ?_
            rintro _ wb ⟨rfl, rfl⟩
            cases z6
            · skip
              have Z : Hid (z = false) := Lib.hid (by rw [ALL.out]; rfl)
              go_wp2
              go_ret
              exact ⟨ret_bool Z.out.symm, b⟩
            · skip
              have Z : Hid (z = true) := Lib.hid (by rw [ALL.out]; rfl)
              go_wp2
              go_ret
              exact ⟨ret_bool Z.out.symm, b⟩
/-- bytes that may be read -/
def ByY (l : List UInt8) (w : World) (e : Ending) (w' : World) : Prop := (∃ A n c, e = .returned (.slice A n c) ∧ Rd w' w'.heap.size 1 A n (U l) ∧ n ≤ c ∧ c ≤ 9223372036854775807) ∧ Below w.heap.size w w'
theorem rynum_by (A : Option Addr) (n c : Nat) (l : List UInt8) (m : Int) (w : World) (h : Rd w w.heap.size 1 A n (U l)) (hn : n ≤ 35184372088832) : Calls Try.prog 25 #[.slice A n c, .int .i64 m] w (ByY (l ++ Q.ub m) w) :=
  (rnum_any A n c w.heap.size (U l) m w h (U_one _) (Nat.le_refl _) hn).mono fun e w' ⟨A', c', he, ho, hb⟩ => ⟨⟨A', _, c', he, by rw [U_append]; exact Rd.of_own ho, (own_cap ho).1, (own_cap ho).2⟩, hb⟩
theorem rytext_by (A : Option Addr) (n c : Nat) (l : List UInt8) (s : ByteArray) (w : World) (h : Rd w w.heap.size 1 A n (U l)) (hn : n ≤ 17592186044416) (hs : s.size ≤ 17592186044416) : Calls Try.prog 24 #[.slice A n c, .string s] w (ByY (l ++ Q.txt s) w) :=
  (rtext_any A n c w.heap.size (U l) s w h (U_one _) (Nat.le_refl _) hn hs).mono fun e w' ⟨A', c', he, ho, hb⟩ => ⟨⟨A', _, c', he, by rw [U_append]; exact Rd.of_own ho, (own_cap ho).1, (own_cap ho).2⟩, hb⟩
theorem ulen {w : World} {B n : Nat} {A : Option Addr} {l : List UInt8} (h : Rd w B 1 A n (U l)) : l.length = n := by have := h.len1; rwa [U_length] at this
/-- a text and an error -/
def TxtR (s : List UInt8) (er : Int) (w : World) (e : Ending) (w' : World) : Prop := e = .returned (.tuple #[.string (strB s), .int .i64 er]) ∧ Below w.heap.size w w'
theorem cell_belowY {B : Nat} {W w : World} {q : Addr} {v : Value} (h : W.cell? q = some v) (b : Below B W w) (hlt : q.block < B) : w.cell? q = some v := (b.cell (p := q) hlt).trans h
theorem val_parts (x : Svc) : Y.val x = (((((([] ++ Q.txt (strB x.name)) ++ Q.txt (strB x.proto)) ++ Q.ub x.port) ++ Q.ub x.prio) ++ Q.ub x.wt) ++ Q.ub (Y.bit x.well)) := by simp [Y.val]
set_option maxHeartbeats 4000000 in
set_option maxRecDepth 20000 in
theorem ryencode_any (x : Svc) (hx : YIn x) (w : World) : Calls Try.prog 8 #[ysv x] w (TxtR (Y.enc x).1 (Y.enc x).2 w) := by
  have hR := fun w => ryright_any x hx w
  obtain ⟨n, pr, po, pi, wt, we⟩ := x
  simp only [ysv] at hR ⊢
  have X := Box.new w #[.string (strB n), .string (strB pr), .int .i64 po, .int .i64 pi, .int .i64 wt, .bool we] 23
  have b := (Below.refl w.heap.size w).alloc (Nat.le_refl _) (.cells #[.string (strB n), .string (strB pr), .int .i64 po, .int .i64 pi, .int .i64 wt, .bool we] 23)
  have x0 := X.at 0 rfl
  have x1 := X.at 1 rfl
  have x2 := X.at 2 rfl
  have x3 := X.at 3 rfl
  have x4 := X.at 4 rfl
  have x5 := X.at 5 rfl
  go_enter Try.func8, Try.ntmps8
  go_wp2_with fail
  generalize w.alloc (.cells #[.string (strB n), .string (strB pr), .int .i64 po, .int .i64 pi, .int .i64 wt, .bool we] 23) = wa at *
  refine (hR _).mono ?_
  rintro _ wb ⟨rfl, hb⟩
  clear hR x0 x1 x2 x3 x4 x5
  replace X := X.belowH hb
  replace b := b.trans (hb.mono b.size)
  clear hb
  by_cases hr : Y.right ⟨n, pr, po, pi, wt, we⟩
  · have E : Hid (Y.enc ⟨n, pr, po, pi, wt, we⟩ = (Y.val ⟨n, pr, po, pi, wt, we⟩, 0)) := Lib.hid (Y.dec_enc hr)
    rw [decide_eq_true hr]
    have l1 := Y.word_len hr.1
    have l2 := Y.word_len hr.2.1
    simp only at l1 l2
    have s1 : (strB n).size ≤ 20 := by rw [strB_size]; omega
    have s2 : (strB pr).size ≤ 20 := by rw [strB_size]; omega
    have t1 := Q.length_txt (strB n)
    have t2 := Q.length_txt (strB pr)
    have q1 := Q.size_le ((strB n).size : Int)
    have q2 := Q.size_le ((strB pr).size : Int)
    have T1 : Hid ((Q.txt (strB n)).length ≤ 29) := Lib.hid (by omega)
    have T2 : Hid ((Q.txt (strB pr)).length ≤ 29) := Lib.hid (by omega)
    have S1 := Lib.hid s1
    have S2 := Lib.hid s2
    clear hr l1 l2 s1 s2 t1 t2 q1 q2
    have x0 := X.at 0 rfl
    have x1 := X.at 1 rfl
    have hxl := X.lt
    obtain ⟨tn, htn⟩ : ∃ t, [] ++ Q.txt (strB n) = t := ⟨_, rfl⟩
    obtain ⟨tp, htp⟩ : ∃ t, tn ++ Q.txt (strB pr) = t := ⟨_, rfl⟩
    obtain ⟨tq, hto⟩ : ∃ t, tp ++ Q.ub po = t := ⟨_, rfl⟩
    obtain ⟨ti, hti⟩ : ∃ t, tq ++ Q.ub pi = t := ⟨_, rfl⟩
    obtain ⟨tw, htw⟩ : ∃ t, ti ++ Q.ub wt = t := ⟨_, rfl⟩
    obtain ⟨tz, htz⟩ : ∃ t, tw ++ Q.ub (Y.bit we) = t := ⟨_, rfl⟩
    have EV : Hid (Y.val ⟨n, pr, po, pi, wt, we⟩ = tz) := Lib.hid (by rw [val_parts, ← htz, ← htw, ← hti, ← hto, ← htp, ← htn])
    have B1 : Hid (tn.length ≤ 29) := Lib.hid (by rw [← htn]; simpa using T1.out)
    have B2 : Hid (tp.length ≤ 58) := Lib.hid (by rw [← htp, List.length_append]; have := B1.out; have := T2.out; omega)
    have B3 : Hid (tq.length ≤ 67) := Lib.hid (by rw [← hto, List.length_append, Q.length_ub]; have := B2.out; have := Q.size_le po; omega)
    have B4 : Hid (ti.length ≤ 76) := Lib.hid (by rw [← hti, List.length_append, Q.length_ub]; have := B3.out; have := Q.size_le pi; omega)
    have B5 : Hid (tw.length ≤ 85) := Lib.hid (by rw [← htw, List.length_append, Q.length_ub]; have := B4.out; have := Q.size_le wt; omega)
    have B6 : Hid (tz.length ≤ 94) := Lib.hid (by rw [← htz, List.length_append, Q.length_ub]; have := B5.out; have := Q.size_le (Y.bit we); omega)
    have E1 := Lib.hid htn
    have E2 := Lib.hid htp
    have E3 := Lib.hid hto
    have E4 := Lib.hid hti
    have E5 := Lib.hid htw
    have E6 := Lib.hid htz
    clear htn htp hto hti htw htz
    go_upto_region 3 with fail
    refine wp_region_held_drew (S := (fun w' => w'.cell? ⟨w.heap.size, 0, none⟩ = some (.string (strB n)) ∧ w'.cell? ⟨w.heap.size, 1, none⟩ = some (.string (strB pr)))) (by kernel_rfl) (by first | exact ⟨x0, x1⟩ | exact ⟨X.at 0 rfl, X.at 1 rfl⟩) (fun hHeld0 => ?_)
    refine tk 0 8 rfl hHeld0 ?_
    refine tk 1 9 rfl hHeld0 ?_
    refine tk 3 11 rfl hHeld0 ?_
    refine tk 4 12 rfl hHeld0 ?_
    refine wpAnyH_ready (rs := [2]) (by kernel_rfl) (by simp) (AllReadyH.cons (o := ⟨some 10, _, _, _, _, _⟩) rfl (fun K hK => ?_) AllReadyH.nil)
    go_simp
    (replace X := X.drew; replace b := b.drew; refine (rytext_by none 0 0 [] (strB n) _ (Rd.zero _ _ _ _) (by omega) (by have := S1.out; omega)).mono ?_; rintro _ wc1 ⟨⟨Ab1, nb1, cb1, rfl, Rb, hcb⟩, hb⟩; rw [E1.out] at Rb; replace X := X.belowH hb; replace b := b.trans (hb.mono b.size); clear hb)
    go_simp
    refine hK.out _ _ (by first | exact ⟨x0, x1⟩ | exact ⟨X.at 0 rfl, X.at 1 rfl⟩) (fun hHeld1 => ?_)
    clear hK hHeld0 K
    try simp only [Act.put, sA, sB, sC]
    refine wpAnyH_ready (rs := [5]) (by kernel_rfl) (by simp) (AllReadyH.cons (o := ⟨some 13, _, _, _, _, _⟩) rfl (fun K hK => ?_) AllReadyH.nil)
    go_simp
    (have hq := ulen Rb; clear hcb; refine (rytext_by Ab1 nb1 cb1 tn (strB pr) _ Rb (by have h9 := ulen Rb; have := B1.out; omega) (by have := S2.out; omega)).mono ?_; rintro _ wc2 ⟨⟨Ab2, nb2, cb2, rfl, Rb, hcb⟩, hb⟩; rw [E2.out] at Rb; replace X := X.belowH hb; replace b := b.trans (hb.mono b.size); clear hb)
    go_simp
    refine hK.out _ _ (by first | exact ⟨x0, x1⟩ | exact ⟨X.at 0 rfl, X.at 1 rfl⟩) (fun hHeld2 => ?_)
    clear hK hHeld1 K
    try simp only [Act.put, sA, sB, sC]
    refine tk 6 4 rfl hHeld2 ?_
    refine wpAnyH_done (by kernel_rfl) ?_ _
    have y2 := X.at 2 rfl
    have y3 := X.at 3 rfl
    have y4 := X.at 4 rfl
    clear x0 x1
    go_upto_region 4 with fail
    refine wp_region_held_drew (S := (fun w' => w'.cell? ⟨w.heap.size, 2, none⟩ = some (.int .i64 po) ∧ w'.cell? ⟨w.heap.size, 3, none⟩ = some (.int .i64 pi) ∧ w'.cell? ⟨w.heap.size, 4, none⟩ = some (.int .i64 wt))) (by kernel_rfl) (by first | exact ⟨y2, y3, y4⟩ | exact ⟨X.at 2 rfl, X.at 3 rfl, X.at 4 rfl⟩) (fun hHeld0 => ?_)
    refine tk 0 14 rfl hHeld0 ?_
    refine tk 1 15 rfl hHeld0 ?_
    refine tk 2 16 rfl hHeld0 ?_
    refine tk 4 18 rfl hHeld0 ?_
    refine tk 5 19 rfl hHeld0 ?_
    refine tk 7 21 rfl hHeld0 ?_
    refine tk 8 22 rfl hHeld0 ?_
    refine wpAnyH_ready (rs := [3]) (by kernel_rfl) (by simp) (AllReadyH.cons (o := ⟨some 17, _, _, _, _, _⟩) rfl (fun K hK => ?_) AllReadyH.nil)
    go_simp
    (replace X := X.drew; replace b := b.drew; replace Rb := Rb.drew; clear hcb; refine (rynum_by Ab2 nb2 cb2 tp po _ Rb (by have h9 := ulen Rb; have := B2.out; omega)).mono ?_; rintro _ wc3 ⟨⟨Ab3, nb3, cb3, rfl, Rb, hcb⟩, hb⟩; rw [E3.out] at Rb; replace X := X.belowH hb; replace b := b.trans (hb.mono b.size); clear hb)
    go_simp
    refine hK.out _ _ (by first | exact ⟨y2, y3, y4⟩ | exact ⟨X.at 2 rfl, X.at 3 rfl, X.at 4 rfl⟩) (fun hHeld1 => ?_)
    clear hK hHeld0 K
    try simp only [Act.put, sA, sB, sC]
    refine wpAnyH_ready (rs := [6]) (by kernel_rfl) (by simp) (AllReadyH.cons (o := ⟨some 20, _, _, _, _, _⟩) rfl (fun K hK => ?_) AllReadyH.nil)
    go_simp
    (clear hcb; refine (rynum_by Ab3 nb3 cb3 tq pi _ Rb (by have h9 := ulen Rb; have := B3.out; omega)).mono ?_; rintro _ wc4 ⟨⟨Ab4, nb4, cb4, rfl, Rb, hcb⟩, hb⟩; rw [E4.out] at Rb; replace X := X.belowH hb; replace b := b.trans (hb.mono b.size); clear hb)
    go_simp
    refine hK.out _ _ (by first | exact ⟨y2, y3, y4⟩ | exact ⟨X.at 2 rfl, X.at 3 rfl, X.at 4 rfl⟩) (fun hHeld2 => ?_)
    clear hK hHeld1 K
    try simp only [Act.put, sA, sB, sC]
    refine wpAnyH_ready (rs := [9]) (by kernel_rfl) (by simp) (AllReadyH.cons (o := ⟨some 23, _, _, _, _, _⟩) rfl (fun K hK => ?_) AllReadyH.nil)
    go_simp
    (clear hcb; refine (rynum_by Ab4 nb4 cb4 ti wt _ Rb (by have h9 := ulen Rb; have := B4.out; omega)).mono ?_; rintro _ wc5 ⟨⟨Ab5, nb5, cb5, rfl, Rb, hcb⟩, hb⟩; rw [E5.out] at Rb; replace X := X.belowH hb; replace b := b.trans (hb.mono b.size); clear hb)
    go_simp
    refine hK.out _ _ (by first | exact ⟨y2, y3, y4⟩ | exact ⟨X.at 2 rfl, X.at 3 rfl, X.at 4 rfl⟩) (fun hHeld3 => ?_)
    clear hK hHeld2 K
    try simp only [Act.put, sA, sB, sC]
    refine tk 10 4 rfl hHeld3 ?_
    refine wpAnyH_done (by kernel_rfl) ?_ _
    have x5 := X.at 5 rfl
    clear y2 y3 y4
    cases we
    · go_wp2_with fail
      clear hcb
      refine (rynum_by Ab5 nb5 cb5 tw 0 _ Rb (by have h9 := ulen Rb; have := B5.out; omega)).mono ?_
      rintro _ wd ⟨⟨Ab6, nb6, cb6, rfl, Rz, hcz⟩, hb⟩
      rw [show tw ++ Q.ub 0 = tz from E6.out] at Rz
      replace b := b.trans (hb.mono b.size)
      clear hb X Rb x5
      have CV := run_str (P := Try.prog) 44 9 5 Try.underlying44 Try.underlying5 Try.underlying9 (c := cb6) Rz
      go_wp2
      go_ret2
      exact ⟨by rw [E.out, EV.out]; rfl, b⟩
    · go_wp2_with fail
      clear hcb
      refine (rynum_by Ab5 nb5 cb5 tw 1 _ Rb (by have h9 := ulen Rb; have := B5.out; omega)).mono ?_
      rintro _ wd ⟨⟨Ab6, nb6, cb6, rfl, Rz, hcz⟩, hb⟩
      rw [show tw ++ Q.ub 1 = tz from E6.out] at Rz
      replace b := b.trans (hb.mono b.size)
      clear hb X Rb x5
      have CV := run_str (P := Try.prog) 44 9 5 Try.underlying44 Try.underlying5 Try.underlying9 (c := cb6) Rz
      go_wp2
      go_ret2
      exact ⟨by rw [E.out, EV.out]; rfl, b⟩
  · have E : Hid (Y.enc ⟨n, pr, po, pi, wt, we⟩ = ([], 1)) := Lib.hid (if_neg hr)
    rw [decide_eq_false hr]
    clear hr
    go_wp2
    go_ret2
    exact ⟨by rw [E.out]; rfl, b⟩
end Go.Proofs.Ytfgpncbcelafoaa
