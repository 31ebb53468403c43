/- ZLaw2 (merged). -/
import Derived.Test.YtbioblknhfmelaaJZBegins
namespace Go.Proofs.Ytbioblknhfmelaa
set_option linter.unusedVariables false
set_option linter.unusedSimpArgs false
open Go.RowKit
theorem u16_in {a : Int} (h : (Lit.int .u16 a).wf = true) : IntKind.i64.wrap a = a := by
  have := wf_bounds_u16 h
  exact IntWalk.i64_in _ (by omega)
theorem bytes_in {p : Pck} {m : Int} (h : ¬ m < 12 + (Pk.qsb p.qs).length) (hm : m ≤ 65535) {k : Nat} (hk : (Pk.whole (Pk.kept p m)).length = k) : (k : Int) ≤ m ∧ k ≤ 1000000 := by
  have := Pk.kept_len h
  rw [hk] at this
  exact ⟨this, by omega⟩
set_option maxHeartbeats 8000000 in
set_option maxRecDepth 20000 in
theorem law_PacketBack (u0 : Pv) (a1 : Int) (W : World) (w0 : PkIn W u0) (w1 : (Lit.int .u16 a1).wf = true) :
    Calls Try.prog 4 #[pval u0, .int .u16 a1] W fun e w' => e = .returned (.bool true) ∧ Below W.heap.size W w' := by
  obtain ⟨UR, US, _⟩ := w0
  have b := (Below.refl W.heap.size W).alloc (Nat.le_refl _) (.cells #[.int .i64 u0.x.id, .int .i64 u0.x.flags, .slice u0.A1 u0.n1 u0.c1, .slice u0.A2 u0.n2 u0.c2, .slice u0.A3 u0.n3 u0.c3, .slice u0.A4 u0.n4 u0.c4] 25)
  have X := Box.new W #[.int .i64 u0.x.id, .int .i64 u0.x.flags, .slice u0.A1 u0.n1 u0.c1, .slice u0.A2 u0.n2 u0.c2, .slice u0.A3 u0.n3 u0.c3, .slice u0.A4 u0.n4 u0.c4] 25
  replace UR := UR.belowH b
  have hw := u16_in w1
  have HA := Lib.hid (wf_bounds_u16 w1)
  simp only [pval]
  clear w1
  go_enter Try.func4, Try.ntmps4
  go_wp2_with fail
  generalize W.alloc (.cells #[.int .i64 u0.x.id, .int .i64 u0.x.flags, .slice u0.A1 u0.n1 u0.c1, .slice u0.A2 u0.n2 u0.c2, .slice u0.A3 u0.n3 u0.c3, .slice u0.A4 u0.n4 u0.c4] 25) = w0 at *
  refine (palive_any w0).mono ?_
  rintro e v1 ⟨rfl, hb⟩
  replace X := X.belowH hb
  replace UR := UR.belowH hb
  replace b := b.trans (hb.mono b.size)
  clear hb
  have x0 := X.at 0 rfl
  have x1 := X.at 1 rfl
  have x2 := X.at 2 rfl
  have x3 := X.at 3 rfl
  have x4 := X.at 4 rfl
  have x5 := X.at 5 rfl
  go_wp2_with fail
  refine (rpgreat_any u0 v1 UR US).mono ?_
  rintro e v2 ⟨g1, rfl, hg1, hb⟩
  clear x0 x1 x2 x3 x4 x5
  replace X := X.belowH hb
  replace UR := UR.belowH hb
  replace b := b.trans (hb.mono b.size)
  clear hb
  have x0 := X.at 0 rfl
  have x1 := X.at 1 rfl
  have x2 := X.at 2 rfl
  have x3 := X.at 3 rfl
  have x4 := X.at 4 rfl
  have x5 := X.at 5 rfl
  cases g1 with
  | true =>
    go_wp2
    go_ret
    exact ⟨rfl, b⟩
  | false =>
    have UM := (hg1 rfl).mod
    clear hg1
    by_cases hr : Pk.right u0.x
    rotate_left
    · have E := Pk.build_no (n := a1) hr
      have HR := Lib.hid (decide_eq_false hr)
      clear hr
      go_wp2_with fail
      refine (pbuild_at E (show ([] : List UInt8).length = 0 from rfl) v2 UR UM).mono ?_
      rintro e v3 ⟨⟨B1, k1, rfl, R1, _⟩, hb⟩
      clear x0 x1 x2 x3 x4 x5
      replace X := X.belowH hb
      replace UR := UR.belowH hb
      replace b := b.trans (hb.mono b.size)
      clear hb
      have x0 := X.at 0 rfl
      have x1 := X.at 1 rfl
      have x2 := X.at 2 rfl
      have x3 := X.at 3 rfl
      have x4 := X.at 4 rfl
      have x5 := X.at 5 rfl
      go_wp2_with fail
      refine (rpright_at HR.out v3 UR UM).mono ?_
      rintro e v4 ⟨rfl, hb⟩
      clear x0 x1 x2 x3 x4 x5
      replace X := X.belowH hb
      replace UR := UR.belowH hb
      replace b := b.trans (hb.mono b.size)
      clear hb
      have x0 := X.at 0 rfl
      have x1 := X.at 1 rfl
      have x2 := X.at 2 rfl
      have x3 := X.at 3 rfl
      have x4 := X.at 4 rfl
      have x5 := X.at 5 rfl
      go_wp2
      go_ret
      exact ⟨rfl, b⟩
    have RI := Lib.hid hr
    by_cases hlong : a1 < 12 + (Pk.qsb u0.x.qs).length
    · have E := Pk.build_long hr hlong
      clear hr hlong
      go_wp2_with fail
      refine (pbuild_at E (show ([] : List UInt8).length = 0 from rfl) v2 UR UM).mono ?_
      rintro e v3 ⟨⟨B1, k1, rfl, R1, _⟩, hb⟩
      clear x0 x1 x2 x3 x4 x5
      replace X := X.belowH hb
      replace UR := UR.belowH hb
      replace b := b.trans (hb.mono b.size)
      clear hb
      have x0 := X.at 0 rfl
      have x1 := X.at 1 rfl
      have x2 := X.at 2 rfl
      have x3 := X.at 3 rfl
      have x4 := X.at 4 rfl
      have x5 := X.at 5 rfl
      go_wp2
      go_ret
      exact ⟨rfl, b⟩
    · have E := Pk.build_is hr hlong
      have EP := Lib.hid (Pk.parse_build hr hlong HA.out.2)
      obtain ⟨k, hk⟩ : ∃ k, (Pk.whole (Pk.kept u0.x a1)).length = k := ⟨_, rfl⟩
      obtain ⟨hka, hkb⟩ := bytes_in hlong HA.out.2 hk
      obtain ⟨l, hl⟩ : ∃ l, Pk.whole (Pk.kept u0.x a1) = l := ⟨_, rfl⟩
      rw [hl] at E EP hk
      have EE := Lib.hid E
      have EK := Lib.hid hk
      have KB := Lib.hid hkb
      have dk : decide (a1 < (k : Int)) = false := decide_eq_false (by omega)
      clear hr hlong hk E hl hkb hka
      go_wp2_with fail
      refine (pbuild_at EE.out EK.out v2 UR UM).mono ?_
      rintro e v3 ⟨⟨B1, k1, rfl, R1, hck⟩, hb⟩
      have HCK := Lib.hid hck
      clear hck
      clear x0 x1 x2 x3 x4 x5
      replace X := X.belowH hb
      replace UR := UR.belowH hb
      replace b := b.trans (hb.mono b.size)
      clear hb
      have x0 := X.at 0 rfl
      have x1 := X.at 1 rfl
      have x2 := X.at 2 rfl
      have x3 := X.at 3 rfl
      have x4 := X.at 4 rfl
      have x5 := X.at 5 rfl
      go_wp2_with fail
      refine (pparse_at EP.out B1 k k1 v3 R1 KB.out HCK.out).mono ?_
      rintro e v4 ⟨⟨u5, hx5, rfl, UR5, UM5⟩, hb⟩
      clear x0 x1 x2 x3 x4 x5
      replace X := X.belowH hb
      replace UR := UR.belowH hb
      replace b := b.trans (hb.mono b.size)
      clear hb
      have x0 := X.at 0 rfl
      have x1 := X.at 1 rfl
      have x2 := X.at 2 rfl
      have x3 := X.at 3 rfl
      have x4 := X.at 4 rfl
      have x5 := X.at 5 rfl
      clear R1
      obtain ⟨⟨id5, fl5, qs5, an5, au5, mo5⟩, Q1, m1, d1, Q2, m2, d2, Q3, m3, d3, Q4, m4, d4⟩ := u5
      simp only at hx5
      have hi : id5 = u0.x.id := congrArg Pck.id hx5
      have hq : qs5 = u0.x.qs := congrArg Pck.qs hx5
      have FP : Hid ((an5.length = u0.x.an.length ∧ au5.length = u0.x.au.length ∧ mo5.length = u0.x.mo.length → fl5 = u0.x.flags) ∧ (¬ (an5.length = u0.x.an.length ∧ au5.length = u0.x.au.length ∧ mo5.length = u0.x.mo.length) → fl5 = Pk.cutFlag u0.x.flags)) := Lib.hid (by
        have h := Pk.again_flags u0.x a1
        rw [← hx5] at h
        exact h)
      have GB : Hid (Pk.begins an5 u0.x.an ∧ Pk.begins au5 u0.x.au ∧ Pk.begins mo5 u0.x.mo) := Lib.hid (by
        have h := Pk.again_parts a1 RI.out
        rw [← hx5] at h
        exact h)
      subst hi hq
      clear hx5
      obtain ⟨r1, r2, r3, r4⟩ := UR5
      simp only at r1 r2 r3 r4
      have LN : Hid (an5.length = m2 ∧ au5.length = m3 ∧ mo5.length = m4 ∧ u0.x.an.length = u0.n2 ∧ u0.x.au.length = u0.n3 ∧ u0.x.mo.length = u0.n4) := Lib.hid ⟨r2.lenR, r3.lenR, r4.lenR, UR.2.1.lenR, UR.2.2.1.lenR, UR.2.2.2.lenR⟩
      have NB : Hid ((m2 ≤ 100 ∧ m3 ≤ 100 ∧ m4 ≤ 100) ∧ (u0.n2 ≤ 100 ∧ u0.n3 ≤ 100 ∧ u0.n4 ≤ 100)) := Lib.hid (by
        have c1 := RI.out.2.2.2.1.1
        have c2 := RI.out.2.2.2.2.1.1
        have c3 := RI.out.2.2.2.2.2.1
        obtain ⟨e1, e2, e3, e4, e5, e6⟩ := LN.out
        have f1 := GB.out.1.1
        have f2 := GB.out.2.1.1
        have f3 := GB.out.2.2.1
        omega)
      have U0R := UR
      have bx := (Below.refl v4.heap.size v4).alloc (Nat.le_refl _) (.cells #[.int .i64 u0.x.id, .int .i64 fl5, .slice Q1 m1 d1, .slice Q2 m2 d2, .slice Q3 m3 d3, .slice Q4 m4 d4] 25)
      have Y := Box.new v4 #[.int .i64 u0.x.id, .int .i64 fl5, .slice Q1 m1 d1, .slice Q2 m2 d2, .slice Q3 m3 d3, .slice Q4 m4 d4] 25
      have hv4 := b.size
      replace X := X.belowH bx
      replace UR := UR.belowH bx
      replace r1 := r1.belowH bx
      replace r2 := r2.belowH bx
      replace r3 := r3.belowH bx
      replace r4 := r4.belowH bx
      replace b := b.trans (bx.mono b.size)
      clear bx U0R
      clear x0 x1 x2 x3 x4 x5
      have x0 := X.at 0 rfl
      have x1 := X.at 1 rfl
      have x2 := X.at 2 rfl
      have x3 := X.at 3 rfl
      have x4 := X.at 4 rfl
      have x5 := X.at 5 rfl
      have y0 := Y.at 0 rfl
      have y1 := Y.at 1 rfl
      have y2 := Y.at 2 rfl
      have y3 := Y.at 3 rfl
      have y4 := Y.at 4 rfl
      have y5 := Y.at 5 rfl
      have OR := or_flag (f := u0.x.flags) RI.out.2.1
      simp only [pval]
      have hyb : v4.heap.size < (v4.alloc (.cells #[.int .i64 u0.x.id, .int .i64 fl5, .slice Q1 m1 d1, .slice Q2 m2 d2, .slice Q3 m3 d3, .slice Q4 m4 d4] 25)).heap.size := by simp
      go_wp2_with fail
      generalize v4.alloc (.cells #[.int .i64 u0.x.id, .int .i64 fl5, .slice Q1 m1 d1, .slice Q2 m2 d2, .slice Q3 m3 d3, .slice Q4 m4 d4] 25) = w5 at *
      refine (rsameqs_at (l := u0.x.qs) (l' := u0.x.qs) (by rw [decide_eq_true rfl]) Q1 u0.A1 m1 u0.n1 d1 u0.c1 w5 r1 UR.1 (by have := UM5.1.1; have : m1 ≤ 4398046511104 := this; omega) (by have := UM.1.1; omega)).mono ?_
      rintro e w6 ⟨rfl, hb⟩
      clear x0 x1 x2 x3 x4 x5 y0 y1 y2 y3 y4 y5
      replace Y := Y.belowH hb
      replace r1 := r1.belowH hb
      replace r2 := r2.belowH hb
      replace r3 := r3.belowH hb
      replace r4 := r4.belowH hb
      replace X := X.belowH hb
      replace UR := UR.belowH hb
      replace b := b.trans (hb.mono b.size)
      clear hb
      have x0 := X.at 0 rfl
      have x1 := X.at 1 rfl
      have x2 := X.at 2 rfl
      have x3 := X.at 3 rfl
      have x4 := X.at 4 rfl
      have x5 := X.at 5 rfl
      have y0 := Y.at 0 rfl
      have y1 := Y.at 1 rfl
      have y2 := Y.at 2 rfl
      have y3 := Y.at 3 rfl
      have y4 := Y.at 4 rfl
      have y5 := Y.at 5 rfl
      clear r1
      go_wp2_with fail
      refine (begins_any an5 u0.x.an Q2 u0.A2 m2 d2 u0.n2 u0.c2 w6 r2 UR.2.1 GB.out.1 (fun r hr => (UM5.2.2.1 r hr).1) (fun r hr => (UM.2.2.1 r hr).1) (by have := NB.out; omega) (by have := NB.out; omega)).mono ?_
      rintro e w7 ⟨rfl, hb⟩
      clear x0 x1 x2 x3 x4 x5 y0 y1 y2 y3 y4 y5
      replace Y := Y.belowH hb
      replace r2 := r2.belowH hb
      replace r3 := r3.belowH hb
      replace r4 := r4.belowH hb
      replace X := X.belowH hb
      replace UR := UR.belowH hb
      replace b := b.trans (hb.mono b.size)
      clear hb
      have x0 := X.at 0 rfl
      have x1 := X.at 1 rfl
      have x2 := X.at 2 rfl
      have x3 := X.at 3 rfl
      have x4 := X.at 4 rfl
      have x5 := X.at 5 rfl
      have y0 := Y.at 0 rfl
      have y1 := Y.at 1 rfl
      have y2 := Y.at 2 rfl
      have y3 := Y.at 3 rfl
      have y4 := Y.at 4 rfl
      have y5 := Y.at 5 rfl
      clear r2
      go_wp2_with fail
      refine (begins_any au5 u0.x.au Q3 u0.A3 m3 d3 u0.n3 u0.c3 w7 r3 UR.2.2.1 GB.out.2.1 (fun r hr => (UM5.2.2.2.1 r hr).1) (fun r hr => (UM.2.2.2.1 r hr).1) (by have := NB.out; omega) (by have := NB.out; omega)).mono ?_
      rintro e w8 ⟨rfl, hb⟩
      clear x0 x1 x2 x3 x4 x5 y0 y1 y2 y3 y4 y5
      replace Y := Y.belowH hb
      replace r3 := r3.belowH hb
      replace r4 := r4.belowH hb
      replace X := X.belowH hb
      replace UR := UR.belowH hb
      replace b := b.trans (hb.mono b.size)
      clear hb
      have x0 := X.at 0 rfl
      have x1 := X.at 1 rfl
      have x2 := X.at 2 rfl
      have x3 := X.at 3 rfl
      have x4 := X.at 4 rfl
      have x5 := X.at 5 rfl
      have y0 := Y.at 0 rfl
      have y1 := Y.at 1 rfl
      have y2 := Y.at 2 rfl
      have y3 := Y.at 3 rfl
      have y4 := Y.at 4 rfl
      have y5 := Y.at 5 rfl
      clear r3
      go_wp2_with fail
      refine (begins_any mo5 u0.x.mo Q4 u0.A4 m4 d4 u0.n4 u0.c4 w8 r4 UR.2.2.2 GB.out.2.2 (fun r hr => (UM5.2.2.2.2 r hr).1) (fun r hr => (UM.2.2.2.2 r hr).1) (by have := NB.out; omega) (by have := NB.out; omega)).mono ?_
      rintro e w9 ⟨rfl, hb⟩
      clear x0 x1 x2 x3 x4 x5 y0 y1 y2 y3 y4 y5
      replace Y := Y.belowH hb
      replace r4 := r4.belowH hb
      replace X := X.belowH hb
      replace UR := UR.belowH hb
      replace b := b.trans (hb.mono b.size)
      clear hb
      have x0 := X.at 0 rfl
      have x1 := X.at 1 rfl
      have x2 := X.at 2 rfl
      have x3 := X.at 3 rfl
      have x4 := X.at 4 rfl
      have x5 := X.at 5 rfl
      have y0 := Y.at 0 rfl
      have y1 := Y.at 1 rfl
      have y2 := Y.at 2 rfl
      have y3 := Y.at 3 rfl
      have y4 := Y.at 4 rfl
      have y5 := Y.at 5 rfl
      clear r4 UR UM UM5 NB
      obtain ⟨e1, e2, e3, e4, e5, e6⟩ := LN.out
      rw [e1, e2, e3, e4, e5, e6] at FP
      clear e1 e2 e3 e4 e5 e6 LN GB
      by_cases f2 : m2 = u0.n2
      · by_cases f3 : m3 = u0.n3
        · by_cases f4 : m4 = u0.n4
          · have q2 : ((m2 : Int) == (u0.n2 : Int)) = true := by rw [beq_iff_eq]; omega
            have q3 : ((m3 : Int) == (u0.n3 : Int)) = true := by rw [beq_iff_eq]; omega
            have q4 : ((m4 : Int) == (u0.n4 : Int)) = true := by rw [beq_iff_eq]; omega
            have hf : fl5 = u0.x.flags := FP.out.1 ⟨f2, f3, f4⟩
            have hq : (fl5 == u0.x.flags) = true := by rw [beq_iff_eq]; exact hf
            clear hf f2 f3 f4 FP
            go_wp2
            go_ret
            exact ⟨rfl, b⟩
          · have q2 : ((m2 : Int) == (u0.n2 : Int)) = true := by rw [beq_iff_eq]; omega
            have q3 : ((m3 : Int) == (u0.n3 : Int)) = true := by rw [beq_iff_eq]; omega
            have q4 : ((m4 : Int) == (u0.n4 : Int)) = false := by rw [beq_eq_false_iff_ne]; omega
            have hf : fl5 = Pk.cutFlag u0.x.flags := FP.out.2 (fun h => by omega)
            have hq : (fl5 == Pk.cutFlag u0.x.flags) = true := by rw [beq_iff_eq]; exact hf
            clear hf FP
            go_wp2
            go_ret
            exact ⟨rfl, b⟩
        · have q2 : ((m2 : Int) == (u0.n2 : Int)) = true := by rw [beq_iff_eq]; omega
          have q3 : ((m3 : Int) == (u0.n3 : Int)) = false := by rw [beq_eq_false_iff_ne]; omega
          have hf : fl5 = Pk.cutFlag u0.x.flags := FP.out.2 (fun h => by omega)
          have hq : (fl5 == Pk.cutFlag u0.x.flags) = true := by rw [beq_iff_eq]; exact hf
          clear hf FP
          go_wp2
          go_ret
          exact ⟨rfl, b⟩
      · have q2 : ((m2 : Int) == (u0.n2 : Int)) = false := by rw [beq_eq_false_iff_ne]; omega
        have hf : fl5 = Pk.cutFlag u0.x.flags := FP.out.2 (fun h => by omega)
        have hq : (fl5 == Pk.cutFlag u0.x.flags) = true := by rw [beq_iff_eq]; exact hf
        clear hf FP
        go_wp2
        go_ret
        exact ⟨rfl, b⟩
end Go.Proofs.Ytbioblknhfmelaa

