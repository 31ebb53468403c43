/- JRef4 (merged). -/
import Derived.Test.YtipccalbhlhljaaJPlain
import Derived.Test.YtipccalbhlhljaaJKMem
import Derived.Test.YtipccalbhlhljaaJJRef3
namespace Go.Proofs.Ytipccalbhlhljaa
set_option linter.unusedVariables false
set_option linter.unusedSimpArgs false
open Go.RowKit
/-- a record's cells -/
def rcs (x : Rc) : Array Value := #[.int .i64 x.seq, .int .i64 x.gen, .string (strB x.note)]
set_option maxHeartbeats 4000000 in
set_option maxRecDepth 20000 in
theorem rjlast_any (u : Kv) (w : World) (h : KRd w u) (hn : u.n ≤ 1000) : Calls Try.prog 21 #[kval u] w (RecR (J.last u.x).1 (J.last u.x).2 w) := by
  have hlen := h.len
  obtain ⟨⟨l, f, o⟩, A, n, c⟩ := u
  simp only at hlen hn
  simp only [kval]
  have P := (Box.new w #[.slice A n c, .int .i64 f, .bool o] 34).alloc (.cells #[.int .i64 0, .int .i64 0, .string ⟨#[]⟩] 23)
  have Z := Box.new (w.alloc (.cells #[.slice A n c, .int .i64 f, .bool o] 34)) #[.int .i64 0, .int .i64 0, .string ⟨#[]⟩] 23
  have bl := ((Below.refl w.heap.size w).alloc (Nat.le_refl _) (.cells #[.slice A n c, .int .i64 f, .bool o] 34)).alloc (by simp) (.cells #[.int .i64 0, .int .i64 0, .string ⟨#[]⟩] 23)
  rw [show (w.alloc (.cells #[.slice A n c, .int .i64 f, .bool o] 34)).heap.size = w.heap.size + 1 by simp] at Z
  have R := h.belowH bl
  have HWF : Hid (∀ s ∈ l, s.length = 64) := Lib.hid h.2.1
  have HL := Lib.hid hlen
  clear hlen h
  go_enter Try.func21, Try.ntmps21
  go_wp2_with fail
  generalize (w.alloc (.cells #[.slice A n c, .int .i64 f, .bool o] 34)).alloc (.cells #[.int .i64 0, .int .i64 0, .string ⟨#[]⟩] 23) = w1 at *
  refine (rkright_any ⟨⟨l, f, o⟩, A, n, c⟩ w1 R).mono ?_
  rintro e w2 ⟨rfl, hb⟩
  replace P := P.belowH hb
  replace Z := Z.belowH hb
  replace R := R.belowH hb
  replace bl := bl.trans (hb.mono bl.size)
  clear hb
  have p0 := P.at 0 rfl
  have p1 := P.at 1 rfl
  have p2 := P.at 2 rfl
  have z0 := Z.at 0 rfl
  have z1 := Z.at 1 rfl
  have z2 := Z.at 2 rfl
  have zc := Z.cold
  by_cases hr : K.right ⟨l, f, o⟩
  rotate_left
  · rw [decide_eq_false hr]
    have FN := Lib.hid (J.last_wrong hr)
    clear hr
    go_wp2
    have Z2 := (((Z).set 0 (.int .i64 0)).set 1 (.int .i64 0)).set 2 (.string ⟨#[]⟩)
    have q0 := Z2.at 0 rfl
    have q1 := Z2.at 1 rfl
    have q2 := Z2.at 2 rfl
    refine bodyPost_ret (v := .tuple #[.agg #[.int .i64 0, .int .i64 0, .string ⟨#[]⟩], .int .i64 1]) (by simp [results, Try.results21, go_sem, q0, q1, q2]; try rfl) rfl ⟨by rw [FN.out]; rfl, below_set (o := 2) (below_set (o := 1) (below_set (o := 0) (bl) (show w.heap.size ≤ w.heap.size + 1 by omega) (.int .i64 0)) (show w.heap.size ≤ w.heap.size + 1 by omega) (.int .i64 0)) (show w.heap.size ≤ w.heap.size + 1 by omega) (.string ⟨#[]⟩)⟩
  rw [decide_eq_true hr]
  by_cases hd : o = true
  · have FN := Lib.hid (J.last_down hr hd)
    subst hd
    clear hr
    go_wp2
    have Z2 := (((Z).set 0 (.int .i64 0)).set 1 (.int .i64 0)).set 2 (.string ⟨#[]⟩)
    have q0 := Z2.at 0 rfl
    have q1 := Z2.at 1 rfl
    have q2 := Z2.at 2 rfl
    refine bodyPost_ret (v := .tuple #[.agg #[.int .i64 0, .int .i64 0, .string ⟨#[]⟩], .int .i64 9]) (by simp [results, Try.results21, go_sem, q0, q1, q2]; try rfl) rfl ⟨by rw [FN.out]; rfl, below_set (o := 2) (below_set (o := 1) (below_set (o := 0) (bl) (show w.heap.size ≤ w.heap.size + 1 by omega) (.int .i64 0)) (show w.heap.size ≤ w.heap.size + 1 by omega) (.int .i64 0)) (show w.heap.size ≤ w.heap.size + 1 by omega) (.string ⟨#[]⟩)⟩
  have hd' : o = false := by simpa using hd
  subst hd'
  have FL := Lib.hid (J.last_is hr rfl)
  have hn64 : n ≤ 64 := by have h1 := hr.1; have h2 := HL.out; simp only at h1; omega
  clear hr hd
  have hz1 := Z.lt
  have X := Box.new w2 #[.int .i64 0, .int .i64 0, .string ⟨#[]⟩] 23
  replace P := P.alloc (.cells #[.int .i64 0, .int .i64 0, .string ⟨#[]⟩] 23)
  replace Z := Z.alloc (.cells #[.int .i64 0, .int .i64 0, .string ⟨#[]⟩] 23)
  replace R := R.alloc (.cells #[.int .i64 0, .int .i64 0, .string ⟨#[]⟩] 23)
  replace bl := bl.alloc bl.size (.cells #[.int .i64 0, .int .i64 0, .string ⟨#[]⟩] 23)
  have hxb : w.heap.size + 2 ≤ w2.heap.size := by omega
  clear hz1
  go_wp2
  clear p0 p1 p2 z0 z1 z2 zc
  generalize w2.alloc (.cells #[.int .i64 0, .int .i64 0, .string ⟨#[]⟩] 23) = w3 at *
  generalize w2.heap.size = xb at *
  go_loopw [5] (fun iv wr => ∃ k : Nat, k ≤ n ∧ iv = .int .i64 (k : Int) ∧ Box wr w.heap.size 34 #[.slice A n c, .int .i64 f, .bool false] ∧ Box wr (w.heap.size + 1) 23 #[.int .i64 0, .int .i64 0, .string ⟨#[]⟩] ∧ Box wr xb 23 (rcs (J.upto l k)) ∧ KRd wr ⟨⟨l, f, false⟩, A, n, c⟩ ∧ Below w.heap.size w wr) (fun iv _ => n - (intOf iv).toNat)
  case atStart => exact ⟨0, by omega, rfl, P, Z, X, R, bl⟩
  case round =>
    clear P Z X R bl
    obtain ⟨k, hk, rfl, P, Z, X, R, bl⟩ := hrel
    have hup : Hid (J.upto l k = J.none ∨ J.may (J.upto l k)) := Lib.hid (J.upto_or l k)
    by_cases hkn : k < n
    · obtain ⟨bk, ok, s, rfl, hbk, hs, h64, hcell⟩ := R.1.atS HWF.out HL.out hkn
      have H64 := Lib.hid h64
      have HC : Hid (wr.rangeAt bk (ok + k * 64) (U s)) := Lib.hid hcell
      have US := Lib.hid (J.upto_step hs)
      have HLN : Hid (l.length = n) := Lib.hid HL.out
      obtain ⟨bst, hbst⟩ : ∃ y, J.upto l k = y := ⟨_, rfl⟩
      rw [hbst] at X
      have HBST := Lib.hid hbst
      unfold rcs at X
      have p0 := P.at 0 rfl
      have p1 := P.at 1 rfl
      have p2 := P.at 2 rfl
      have hk0 : (0 : Int) ≤ (k : Int) := by omega
      have hnz : ¬ n = 0 := by omega
      clear hs h64 hcell hbst
      go_wp2_with (first | ((with_reducible refine sec_take _ bk (ok + k * 64) s H64.out HC.out ?hw ?hx ?_); (case hw => rfl); (case hx => rfl)))
      refine (rjfind_any s H64.out wr).mono ?_
      rintro e w5 ⟨rfl, hb⟩
      clear p0 p1 p2 HC
      replace P := P.belowH hb
      replace Z := Z.belowH hb
      replace X := X.belowH hb
      replace R := R.belowH hb
      replace bl := bl.trans (hb.mono bl.size)
      clear hb
      simp only [rv]
      rcases J.find_or s with hf | ⟨x, hx, hsx, hf⟩
      · rw [hf]
        have UB : Hid (J.upto l (k + 1) = bst) := Lib.hid (by rw [US.out, J.better_no hf, HBST.out])
        clear hf
        replace P := P.alloc (.cells #[.int .i64 J.none.seq, .int .i64 J.none.gen, .string (strB J.none.note)] 23)
        replace Z := Z.alloc (.cells #[.int .i64 J.none.seq, .int .i64 J.none.gen, .string (strB J.none.note)] 23)
        replace X := X.alloc (.cells #[.int .i64 J.none.seq, .int .i64 J.none.gen, .string (strB J.none.note)] 23)
        replace R := R.alloc (.cells #[.int .i64 J.none.seq, .int .i64 J.none.gen, .string (strB J.none.note)] 23)
        replace bl := bl.alloc bl.size (.cells #[.int .i64 J.none.seq, .int .i64 J.none.gen, .string (strB J.none.note)] 23)
        go_wp2
        go_roundw
        case rel => exact ⟨k + 1, by omega, by go_num, P, Z, by rw [UB.out]; exact X, R, bl⟩
        case measure => simp [intOf]; omega
      · rw [hf]
        have UB : Hid (J.upto l (k + 1) = if x.seq.tmod n = k ∧ bst.seq < x.seq then x else bst) := Lib.hid (by rw [US.out, J.better_is hf, HBST.out, HLN.out])
        clear hf hsx
        have Y := Box.new w5 #[.int .i64 x.seq, .int .i64 x.gen, .string (strB x.note)] 23
        replace P := P.alloc (.cells #[.int .i64 x.seq, .int .i64 x.gen, .string (strB x.note)] 23)
        replace Z := Z.alloc (.cells #[.int .i64 x.seq, .int .i64 x.gen, .string (strB x.note)] 23)
        replace X := X.alloc (.cells #[.int .i64 x.seq, .int .i64 x.gen, .string (strB x.note)] 23)
        replace R := R.alloc (.cells #[.int .i64 x.seq, .int .i64 x.gen, .string (strB x.note)] 23)
        replace bl := bl.alloc bl.size (.cells #[.int .i64 x.seq, .int .i64 x.gen, .string (strB x.note)] 23)
        have y0 := Y.at 0 rfl
        have y1 := Y.at 1 rfl
        have y2 := Y.at 2 rfl
        have p0 := P.at 0 rfl
        have x0 := X.at 0 rfl
        have x1 := X.at 1 rfl
        have x2 := X.at 2 rfl
        have xc := X.cold
        obtain ⟨m, hm⟩ : ∃ m, x.seq.tmod (n : Int) = m := ⟨_, rfl⟩
        have hm0 : 0 ≤ m := by rw [← hm]; exact Int.tmod_nonneg _ (by have := hx.1; omega)
        have hm1 : m < n := by rw [← hm]; exact Int.tmod_lt_of_pos _ (by omega)
        have hmw : IntKind.i64.wrap m = m := IntWalk.i64_in _ (by omega)
        have HM := Lib.hid hm
        by_cases h1 : m = (k : Int)
        · have t1 : (m == (k : Int)) = true := beq_iff_eq.2 h1
          have H1 := Lib.hid h1
          clear h1
          by_cases h2 : bst.seq < x.seq
          · have UX : Hid (J.upto l (k + 1) = x) := Lib.hid (by rw [UB.out, if_pos ⟨by rw [HM.out, H1.out], h2⟩])
            go_wp2
            have R2 := R.box3 X (.int .i64 x.seq) (.int .i64 x.gen) (.string (strB x.note))
            have P2 := ((P.other (show w.heap.size ≠ xb by omega) (o := 0) (.int .i64 x.seq)).other (show w.heap.size ≠ xb by omega) (o := 1) (.int .i64 x.gen)).other (show w.heap.size ≠ xb by omega) (o := 2) (.string (strB x.note))
            have Z2 := ((Z.other (show w.heap.size + 1 ≠ xb by omega) (o := 0) (.int .i64 x.seq)).other (show w.heap.size + 1 ≠ xb by omega) (o := 1) (.int .i64 x.gen)).other (show w.heap.size + 1 ≠ xb by omega) (o := 2) (.string (strB x.note))
            have X2 := X.three (.int .i64 x.seq) (.int .i64 x.gen) (.string (strB x.note))
            have b2 := below_set (o := 2) (below_set (o := 1) (below_set (o := 0) bl (show w.heap.size ≤ xb by omega) (.int .i64 x.seq)) (show w.heap.size ≤ xb by omega) (.int .i64 x.gen)) (show w.heap.size ≤ xb by omega) (.string (strB x.note))
            go_roundw
            case rel => exact ⟨k + 1, by omega, by go_num, P2, Z2, by rw [UX.out]; exact X2, R2, b2⟩
            case measure => simp [intOf]; omega
          · have UX : Hid (J.upto l (k + 1) = bst) := Lib.hid (by rw [UB.out, if_neg (fun hc => h2 hc.2)])
            go_wp2
            go_roundw
            case rel => exact ⟨k + 1, by omega, by go_num, P, Z, by rw [UX.out]; exact X, R, bl⟩
            case measure => simp [intOf]; omega
        · have t1 : (m == (k : Int)) = false := beq_eq_false_iff_ne.2 h1
          have UX : Hid (J.upto l (k + 1) = bst) := Lib.hid (by rw [UB.out, if_neg (fun hc => h1 (HM.out.symm.trans hc.1))])
          clear h1
          go_wp2
          go_roundw
          case rel => exact ⟨k + 1, by omega, by go_num, P, Z, by rw [UX.out]; exact X, R, bl⟩
          case measure => simp [intOf]; omega
    · have hkk : ¬ (k : Int) < (n : Int) := by omega
      have X1 : Box wr xb 23 (rcs (J.lastOf l)) := by
        have e : J.lastOf l = J.upto l k := by show J.upto l l.length = _; rw [HL.out]; congr 1; show n = k; omega
        rw [e]; exact X
      obtain ⟨y, hy⟩ : ∃ y, J.lastOf l = y := ⟨_, rfl⟩
      rw [hy] at X1
      have HY := Lib.hid hy
      unfold rcs at X1
      clear X hy hup
      have p0 := P.at 0 rfl
      have z0 := Z.at 0 rfl
      have z1 := Z.at 1 rfl
      have z2 := Z.at 2 rfl
      have zc := Z.cold
      have x0 := X1.at 0 rfl
      have x1 := X1.at 1 rfl
      have x2 := X1.at 2 rfl
      by_cases h0 : y.seq = 0
      · have t0 : (y.seq == 0) = true := beq_iff_eq.2 h0
        have FN := Lib.hid (FL.out.trans (by rw [HY.out, if_pos h0]))
        clear h0
        go_wp2
        have Z2 := (((Z).set 0 (.int .i64 0)).set 1 (.int .i64 0)).set 2 (.string ⟨#[]⟩)
        have q0 := Z2.at 0 rfl
        have q1 := Z2.at 1 rfl
        have q2 := Z2.at 2 rfl
        refine bodyPost_ret (v := .tuple #[.agg #[.int .i64 0, .int .i64 0, .string ⟨#[]⟩], .int .i64 10]) (by simp [results, Try.results21, go_sem, q0, q1, q2]; try rfl) rfl ⟨by rw [FN.out]; rfl, below_set (o := 2) (below_set (o := 1) (below_set (o := 0) (bl) (show w.heap.size ≤ w.heap.size + 1 by omega) (.int .i64 0)) (show w.heap.size ≤ w.heap.size + 1 by omega) (.int .i64 0)) (show w.heap.size ≤ w.heap.size + 1 by omega) (.string ⟨#[]⟩)⟩
      · have t0 : (y.seq == 0) = false := beq_eq_false_iff_ne.2 h0
        have FN := Lib.hid (FL.out.trans (by rw [HY.out, if_neg h0]))
        clear h0
        go_wp2
        have Z2 := (((Z).set 0 (.int .i64 y.seq)).set 1 (.int .i64 y.gen)).set 2 (.string (strB y.note))
        have q0 := Z2.at 0 rfl
        have q1 := Z2.at 1 rfl
        have q2 := Z2.at 2 rfl
        refine bodyPost_ret (v := .tuple #[.agg #[.int .i64 y.seq, .int .i64 y.gen, .string (strB y.note)], .int .i64 0]) (by simp [results, Try.results21, go_sem, q0, q1, q2]; try rfl) rfl ⟨by rw [FN.out]; rfl, below_set (o := 2) (below_set (o := 1) (below_set (o := 0) (bl) (show w.heap.size ≤ w.heap.size + 1 by omega) (.int .i64 y.seq)) (show w.heap.size ≤ w.heap.size + 1 by omega) (.int .i64 y.gen)) (show w.heap.size ≤ w.heap.size + 1 by omega) (.string (strB y.note))⟩
end Go.Proofs.Ytipccalbhlhljaa

