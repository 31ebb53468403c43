/- JC4 (merged). -/
import Derived.Test.YtipccalbhlhljaaJJRef4
import Derived.Test.YtipccalbhlhljaaJJC3
namespace Go.Proofs.Ytipccalbhlhljaa
set_option linter.unusedVariables false
set_option linter.unusedSimpArgs false
open Go.RowKit
set_option maxHeartbeats 4000000 in
set_option maxRecDepth 20000 in
theorem jlast_any (d : Dk) (A : Option Addr) (n c : Nat) (w : World) (h : KRd w ⟨d, A, n, c⟩) (hn : n ≤ 1000) :
    Calls Try.prog 20 #[.agg #[.slice A n c, .int .i64 d.fuse, .bool d.down]] w (RecR (J.last d).1 (J.last d).2 w) := by
  have hlen := h.len
  obtain ⟨l, f, o⟩ := d
  simp only at hlen
  simp only
  have P := (Box.new w #[.slice A n c, .int .i64 f, .bool o] 34).alloc (.cells #[.int .i64 0, .int .i64 0, .string ⟨#[]⟩] 23)
  have Z := Box.new (w.alloc (.cells #[.slice A n c, .int .i64 f, .bool o] 34)) #[.int .i64 0, .int .i64 0, .string ⟨#[]⟩] 23
  have bl := ((Below.refl w.heap.size w).alloc (Nat.le_refl _) (.cells #[.slice A n c, .int .i64 f, .bool o] 34)).alloc (by simp) (.cells #[.int .i64 0, .int .i64 0, .string ⟨#[]⟩] 23)
  rw [show (w.alloc (.cells #[.slice A n c, .int .i64 f, .bool o] 34)).heap.size = w.heap.size + 1 by simp] at Z
  have R := h.belowH bl
  have HWF : Hid (∀ s ∈ l, s.length = 64) := Lib.hid h.2.1
  have HL := Lib.hid hlen
  clear hlen h
  go_enter Try.func20, Try.ntmps20
  go_wp2_with fail
  generalize (w.alloc (.cells #[.slice A n c, .int .i64 f, .bool o] 34)).alloc (.cells #[.int .i64 0, .int .i64 0, .string ⟨#[]⟩] 23) = w1 at *
  refine (kright_any ⟨⟨l, f, o⟩, A, n, c⟩ w1 R).mono ?_
  rintro e w2 ⟨rfl, hb⟩
  replace P := P.belowH hb
  replace Z := Z.belowH hb
  replace R := R.belowH hb
  replace bl := bl.trans (hb.mono bl.size)
  clear hb
  have p0 := P.at 0 rfl
  have p1 := P.at 1 rfl
  have p2 := P.at 2 rfl
  have z0 := Z.at 0 rfl
  have z1 := Z.at 1 rfl
  have z2 := Z.at 2 rfl
  have zc := Z.cold
  by_cases hr : K.right ⟨l, f, o⟩
  rotate_left
  · rw [decide_eq_false hr]
    have FN := Lib.hid (J.last_wrong hr)
    clear hr
    go_wp2
    have Z2 := Z.three (.int .i64 0) (.int .i64 0) (.string ⟨#[]⟩)
    have q0 := Z2.at 0 rfl
    have q1 := Z2.at 1 rfl
    have q2 := Z2.at 2 rfl
    refine bodyPost_ret (v := .tuple #[.agg #[.int .i64 0, .int .i64 0, .string ⟨#[]⟩], .int .i64 1]) (by simp [results, Try.results20, go_sem, q0, q1, q2]; try rfl) rfl ⟨by rw [FN.out]; rfl, below_three bl (show w.heap.size ≤ w.heap.size + 1 by omega) (.int .i64 0) (.int .i64 0) (.string ⟨#[]⟩)⟩
  rw [decide_eq_true hr]
  by_cases hd : o = true
  · have FN := Lib.hid (J.last_down hr hd)
    subst hd
    clear hr
    go_wp2
    have Z2 := Z.three (.int .i64 0) (.int .i64 0) (.string ⟨#[]⟩)
    have q0 := Z2.at 0 rfl
    have q1 := Z2.at 1 rfl
    have q2 := Z2.at 2 rfl
    refine bodyPost_ret (v := .tuple #[.agg #[.int .i64 0, .int .i64 0, .string ⟨#[]⟩], .int .i64 9]) (by simp [results, Try.results20, go_sem, q0, q1, q2]; try rfl) rfl ⟨by rw [FN.out]; rfl, below_three bl (show w.heap.size ≤ w.heap.size + 1 by omega) (.int .i64 0) (.int .i64 0) (.string ⟨#[]⟩)⟩
  have hd' : o = false := by simpa using hd
  subst hd'
  have FL := Lib.hid (J.last_is hr rfl)
  have hn64 : n ≤ 64 := by have h1 := hr.1; have h2 := HL.out; simp only at h1; omega
  clear hr hd
  have hz1 := Z.lt
  have X := Box.new w2 #[.int .i64 0, .int .i64 0, .string ⟨#[]⟩] 23
  replace P := P.alloc (.cells #[.int .i64 0, .int .i64 0, .string ⟨#[]⟩] 23)
  replace Z := Z.alloc (.cells #[.int .i64 0, .int .i64 0, .string ⟨#[]⟩] 23)
  replace R := R.alloc (.cells #[.int .i64 0, .int .i64 0, .string ⟨#[]⟩] 23)
  replace bl := bl.alloc bl.size (.cells #[.int .i64 0, .int .i64 0, .string ⟨#[]⟩] 23)
  have hxb : w.heap.size + 2 ≤ w2.heap.size := by omega
  clear hz1
  have r0 := P.at 0 rfl
  have r1 := P.at 1 rfl
  have r2 := P.at 2 rfl
  go_wp2
  clear r0 r1 r2 p0 p1 p2 z0 z1 z2 zc
  generalize w2.alloc (.cells #[.int .i64 0, .int .i64 0, .string ⟨#[]⟩] 23) = w3 at *
  generalize w2.heap.size = xb at *
  go_loopw [19] (fun iv wr => ∃ k : Nat, k ≤ n ∧ iv = .int .i64 (k : Int) ∧ Box wr w.heap.size 34 #[.slice A n c, .int .i64 f, .bool false] ∧ Box wr (w.heap.size + 1) 23 #[.int .i64 0, .int .i64 0, .string ⟨#[]⟩] ∧ Box wr xb 23 (rcs (J.upto l k)) ∧ KRd wr ⟨⟨l, f, false⟩, A, n, c⟩ ∧ Below w.heap.size w wr) (fun iv _ => n - (intOf iv).toNat)
  case atStart => exact ⟨0, by omega, rfl, P, Z, X, R, bl⟩
  case round =>
    clear P Z X R bl
    obtain ⟨k, hk, rfl, P, Z, X, R, bl⟩ := hrel
    have hup : Hid (J.upto l k = J.none ∨ J.may (J.upto l k)) := Lib.hid (J.upto_or l k)
    by_cases hkn : k < n
    · obtain ⟨bk, ok, s, rfl, hbk, hs, h64, hcell⟩ := R.1.atS HWF.out HL.out hkn
      have H64 := Lib.hid h64
      have HC : Hid (wr.rangeAt bk (ok + k * 64) (U s)) := Lib.hid hcell
      have US := Lib.hid (J.upto_step hs)
      have HLN : Hid (l.length = n) := Lib.hid HL.out
      obtain ⟨bst, hbst⟩ : ∃ y, J.upto l k = y := ⟨_, rfl⟩
      rw [hbst] at X
      have HBST := Lib.hid hbst
      unfold rcs at X
      have Y1 := Box.new wr (U s).toArray 24
      have HT := Lib.hid ((Box.new wr (U K.zero).toArray 24).bytes zero_len)
      have EW : Hid ((wr.alloc (.cells (U K.zero).toArray 24)).setCells wr.heap.size 0 (U s) = wr.alloc (.cells (U s).toArray 24)) := Lib.hid (by rw [new_setCells, laid_all (by rw [U_length, U_length, zero_len, H64.out])])
      replace P := P.alloc (.cells (U s).toArray 24)
      replace Z := Z.alloc (.cells (U s).toArray 24)
      replace X := X.alloc (.cells (U s).toArray 24)
      replace R := R.alloc (.cells (U s).toArray 24)
      replace bl := bl.alloc bl.size (.cells (U s).toArray 24)
      have p0 := P.at 0 rfl
      have hk0 : (0 : Int) ≤ (k : Int) := by omega
      have hnz : ¬ n = 0 := by omega
      clear hs h64 hcell hbst hup
      go_wp2_with (first | ((with_reducible refine sec_take _ bk (ok + k * 64) s H64.out HC.out ?hw ?hx ?_); (case hw => rfl); (case hx => rfl)) | with_reducible refine sec_alloc _ ?_ | ((with_reducible refine sec_put wr.heap.size 0 s H64.out HT.out ?hx ?hy ?_); (case hx => rfl); (case hy => rfl); rw [EW.out]) | ((with_reducible refine sec_take _ wr.heap.size 0 s H64.out (sec_box Y1) ?hw ?hx ?_); (case hw => rfl); (case hx => rfl)))
      generalize wr.alloc (.cells (U s).toArray 24) = wr1 at *
      refine (jfind_any s H64.out wr1).mono ?_
      rintro e w5 ⟨rfl, hb⟩
      clear HC Y1 HT EW
      replace P := P.belowH hb
      replace Z := Z.belowH hb
      replace X := X.belowH hb
      replace R := R.belowH hb
      replace bl := bl.trans (hb.mono bl.size)
      clear hb
      simp only [rv]
      rcases J.find_or s with hf | ⟨x, hx, hsx, hf⟩
      · rw [hf]
        have UB : Hid (J.upto l (k + 1) = bst) := Lib.hid (by rw [US.out, J.better_no hf, HBST.out])
        clear hf
        replace P := P.alloc (.cells #[.int .i64 J.none.seq, .int .i64 J.none.gen, .string (strB J.none.note)] 23)
        replace Z := Z.alloc (.cells #[.int .i64 J.none.seq, .int .i64 J.none.gen, .string (strB J.none.note)] 23)
        replace X := X.alloc (.cells #[.int .i64 J.none.seq, .int .i64 J.none.gen, .string (strB J.none.note)] 23)
        replace R := R.alloc (.cells #[.int .i64 J.none.seq, .int .i64 J.none.gen, .string (strB J.none.note)] 23)
        replace bl := bl.alloc bl.size (.cells #[.int .i64 J.none.seq, .int .i64 J.none.gen, .string (strB J.none.note)] 23)
        go_wp2
        go_roundw
        case rel => exact ⟨k + 1, by omega, by go_num, P, Z, by rw [UB.out]; exact X, R, bl⟩
        case measure => simp [intOf]; omega
      · rw [hf]
        have UB : Hid (J.upto l (k + 1) = if x.seq.tmod n = k ∧ bst.seq < x.seq then x else bst) := Lib.hid (by rw [US.out, J.better_is hf, HBST.out, HLN.out])
        clear hf hsx
        have Y := Box.new w5 #[.int .i64 x.seq, .int .i64 x.gen, .string (strB x.note)] 23
        have hX5 := Lib.hid X.lt
        replace P := P.alloc (.cells #[.int .i64 x.seq, .int .i64 x.gen, .string (strB x.note)] 23)
        replace Z := Z.alloc (.cells #[.int .i64 x.seq, .int .i64 x.gen, .string (strB x.note)] 23)
        replace X := X.alloc (.cells #[.int .i64 x.seq, .int .i64 x.gen, .string (strB x.note)] 23)
        replace R := R.alloc (.cells #[.int .i64 x.seq, .int .i64 x.gen, .string (strB x.note)] 23)
        replace bl := bl.alloc bl.size (.cells #[.int .i64 x.seq, .int .i64 x.gen, .string (strB x.note)] 23)
        have y0 := Y.at 0 rfl
        have y1 := Y.at 1 rfl
        have y2 := Y.at 2 rfl
        have p0 := P.at 0 rfl
        have p1 := P.at 1 rfl
        have p2 := P.at 2 rfl
        have hxy : xb < w5.heap.size := by have h1 := hX5.out; exact h1
        go_wp2_with fail
        clear y0 y1 y2 p0 p1 p2
        generalize w5.alloc (.cells #[.int .i64 x.seq, .int .i64 x.gen, .string (strB x.note)] 23) = w6 at *
        generalize w5.heap.size = yb at *
        refine (jplace_any l f false _ n c x w6 hx (by omega) hn).mono ?_
        rintro e w7 ⟨rfl, hb⟩
        replace P := P.belowH hb
        replace Z := Z.belowH hb
        replace X := X.belowH hb
        replace Y := Y.belowH hb
        replace R := R.belowH hb
        replace bl := bl.trans (hb.mono bl.size)
        clear hb
        have y0 := Y.at 0 rfl
        have y1 := Y.at 1 rfl
        have y2 := Y.at 2 rfl
        have x0 := X.at 0 rfl
        have x1 := X.at 1 rfl
        have x2 := X.at 2 rfl
        have xc := X.cold
        obtain ⟨m, hm⟩ : ∃ m, x.seq.tmod (n : Int) = m := ⟨_, rfl⟩
        have HM := Lib.hid hm
        rw [hm]
        clear hm hx
        by_cases h1 : m = (k : Int)
        · have t1 : (m == (k : Int)) = true := beq_iff_eq.2 h1
          have H1 := Lib.hid h1
          clear h1
          by_cases h2 : bst.seq < x.seq
          · have UX : Hid (J.upto l (k + 1) = x) := Lib.hid (by rw [UB.out, if_pos ⟨by rw [HM.out, H1.out], h2⟩])
            go_wp2
            have R2 := R.box3 X (.int .i64 x.seq) (.int .i64 x.gen) (.string (strB x.note))
            have P2 := P.other3' (show w.heap.size ≠ xb by omega) (.int .i64 x.seq) (.int .i64 x.gen) (.string (strB x.note))
            have Z2 := Z.other3' (show w.heap.size + 1 ≠ xb by omega) (.int .i64 x.seq) (.int .i64 x.gen) (.string (strB x.note))
            have X2 := X.three (.int .i64 x.seq) (.int .i64 x.gen) (.string (strB x.note))
            have b2 := below_three bl (show w.heap.size ≤ xb by omega) (.int .i64 x.seq) (.int .i64 x.gen) (.string (strB x.note))
            go_roundw
            case rel => exact ⟨k + 1, by omega, by go_num, P2, Z2, by rw [UX.out]; exact X2, R2, b2⟩
            case measure => simp [intOf]; omega
          · have UX : Hid (J.upto l (k + 1) = bst) := Lib.hid (by rw [UB.out, if_neg (fun hc => h2 hc.2)])
            go_wp2
            go_roundw
            case rel => exact ⟨k + 1, by omega, by go_num, P, Z, by rw [UX.out]; exact X, R, bl⟩
            case measure => simp [intOf]; omega
        · have t1 : (m == (k : Int)) = false := beq_eq_false_iff_ne.2 h1
          have UX : Hid (J.upto l (k + 1) = bst) := Lib.hid (by rw [UB.out, if_neg (fun hc => h1 (HM.out.symm.trans hc.1))])
          clear h1
          go_wp2
          go_roundw
          case rel => exact ⟨k + 1, by omega, by go_num, P, Z, by rw [UX.out]; exact X, R, bl⟩
          case measure => simp [intOf]; omega
    · have hkk : ¬ (k : Int) < (n : Int) := by omega
      have e : J.lastOf l = J.upto l k := by show J.upto l l.length = _; rw [HL.out]; congr 1; show n = k; omega
      rw [← e] at X
      have hup2 := hup.out
      rw [← e] at hup2
      clear e
      obtain ⟨y, hy⟩ : ∃ y, J.lastOf l = y := ⟨_, rfl⟩
      rw [hy] at X hup2
      have HY := Lib.hid hy
      have HU := Lib.hid hup2
      have HI : Hid (RcIn y) := Lib.hid (by
        rcases hup2 with h1 | h1
        · rw [h1]; exact ⟨⟨by decide, by decide⟩, ⟨by decide, by decide⟩, by decide⟩
        · exact may_in h1)
      unfold rcs at X
      clear hy hup hup2
      have x0 := X.at 0 rfl
      have x1 := X.at 1 rfl
      have x2 := X.at 2 rfl
      go_wp2_with fail
      refine (jmay_any y wr HI.out).mono ?_
      rintro e w7 ⟨rfl, hb⟩
      replace P := P.belowH hb
      replace Z := Z.belowH hb
      replace X := X.belowH hb
      replace R := R.belowH hb
      replace bl := bl.trans (hb.mono bl.size)
      clear hb
      clear x0 x1 x2
      have x0 := X.at 0 rfl
      have x1 := X.at 1 rfl
      have x2 := X.at 2 rfl
      have z0 := Z.at 0 rfl
      have z1 := Z.at 1 rfl
      have z2 := Z.at 2 rfl
      have zc := Z.cold
      by_cases h0 : J.may y
      · rw [decide_eq_true h0]
        have FN := Lib.hid (FL.out.trans (by rw [HY.out, if_neg (by have := h0.1; omega)]))
        clear h0
        go_wp2
        have Z2 := Z.three (.int .i64 y.seq) (.int .i64 y.gen) (.string (strB y.note))
        have q0 := Z2.at 0 rfl
        have q1 := Z2.at 1 rfl
        have q2 := Z2.at 2 rfl
        refine bodyPost_ret (v := .tuple #[.agg #[.int .i64 y.seq, .int .i64 y.gen, .string (strB y.note)], .int .i64 0]) (by simp [results, Try.results20, go_sem, q0, q1, q2]; try rfl) rfl ⟨by rw [FN.out]; rfl, below_three bl (show w.heap.size ≤ w.heap.size + 1 by omega) (.int .i64 y.seq) (.int .i64 y.gen) (.string (strB y.note))⟩
      · rw [decide_eq_false h0]
        have FN := Lib.hid (FL.out.trans (by rw [HY.out, if_pos (by rcases HU.out with h1 | h1; rw [h1]; rfl; exact absurd h1 h0)]))
        clear h0
        go_wp2
        have Z2 := Z.three (.int .i64 0) (.int .i64 0) (.string ⟨#[]⟩)
        have q0 := Z2.at 0 rfl
        have q1 := Z2.at 1 rfl
        have q2 := Z2.at 2 rfl
        refine bodyPost_ret (v := .tuple #[.agg #[.int .i64 0, .int .i64 0, .string ⟨#[]⟩], .int .i64 10]) (by simp [results, Try.results20, go_sem, q0, q1, q2]; try rfl) rfl ⟨by rw [FN.out]; rfl, below_three bl (show w.heap.size ≤ w.heap.size + 1 by omega) (.int .i64 0) (.int .i64 0) (.string ⟨#[]⟩)⟩
end Go.Proofs.Ytipccalbhlhljaa

