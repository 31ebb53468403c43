/- Package choice: whom a round asks. -/
import Derived.Test.YtlafmonfhkgcfaaCC2
namespace Go.Proofs.Ytlafmonfhkgcfaa
set_option linter.unusedVariables false
set_option linter.unusedSimpArgs false
open Go.RowKit
theorem cplace_at {p n m : Nat} {z : Int} (hz : (p : Int) = z) (hm : p % n = m) (hp : p ≤ 4294967295) (hn : n ≠ 0) {y : Int} (hy : (n : Int) = y) (w : World) :
    Calls Try.prog 20 #[.int .u32 z, .int .i64 y] w fun e w' => e = .returned (.int .i64 (m : Int)) ∧ w = w' := cplace_any p n m z y hz hy hp hn hm w
theorem cjoin_at {out l l' : List Int} {p : Nat} {z : Int} (hz : (p : Int) = z) (e : jn out l p = l') (base : Nat) (A A2 : Option Addr) (n c n2 c2 : Nat) (hp : p ≤ 4294967295) (w : World) (h : w.ownsRow base 3 1 (.slice A n c) n (I out)) (hb : base ≤ w.heap.size) (h2 : Rd w w.heap.size 1 A2 n2 (I l)) (hn : n ≤ 1000) (hn2 : n2 ≤ 1000) :
    Calls Try.prog 21 #[.slice A n c, .slice A2 n2 c2, .int .u32 z] w (OwnI l' base w) := by subst hz e; exact cjoin_any out l p base A A2 n c n2 c2 hp w h hb h2 hn hn2
theorem o1_jn (al : List Int) (p : Nat) : jn [] al p = Ch.o1 al p := by unfold jn Ch.o1 Ch.add; rfl
theorem o2_jn_yes {al dn out : List Int} {q : Nat} (h : q % (al.length + 1) < dn.length) : jn out dn q = Ch.o2 al dn q out := by
  have : dn ≠ [] := fun e => by rw [e] at h; simp at h
  rw [o2_yes ⟨this, h⟩]; unfold jn; rw [if_neg this]
theorem o2_jn_no {al dn out : List Int} {q : Nat} (h : ¬ q % (al.length + 1) < dn.length) : out = Ch.o2 al dn q out := (o2_no fun h' => h h'.2).symm
theorem o3_jn_yes {al sd out : List Int} {p r : Nat} (h : al = [] ∨ Ch.one al p ∉ sd ∨ al.length < sd.length) : jn out sd r = Ch.o3 al sd p r out := by
  by_cases hs : sd = []
  · rw [o3_no fun h' => h'.1 hs]; unfold jn; rw [if_pos hs]
  · rw [o3_yes ⟨hs, h⟩]; unfold jn; rw [if_neg hs]
theorem o3_jn_no {al sd out : List Int} {p r : Nat} (h : ¬ (al = [] ∨ Ch.one al p ∉ sd ∨ al.length < sd.length)) : out = Ch.o3 al sd p r out := (o3_no fun h' => h h'.2).symm
theorem o1_out (al : List Int) (p : Nat) : Ch.o1 al p = if al = [] then [] else [Ch.one al p] := rfl
set_option maxHeartbeats 8000000 in
set_option maxRecDepth 20000 in
theorem cround_any (al dn sd : List Int) (p q r : Nat) (A1 A2 A3 : Option Addr) (n1 c1 n2 c2 n3 c3 : Nat) (hp : p ≤ 4294967295) (hq : q ≤ 4294967295) (hr : r ≤ 4294967295) (w : World) (h1 : Rd w w.heap.size 1 A1 n1 (I al)) (h2 : Rd w w.heap.size 1 A2 n2 (I dn)) (h3 : Rd w w.heap.size 1 A3 n3 (I sd)) (hn1 : n1 ≤ 1000) (hn2 : n2 ≤ 1000) (hn3 : n3 ≤ 1000) :
    Calls Try.prog 12 #[.slice A1 n1 c1, .slice A2 n2 c2, .slice A3 n3 c3, .agg #[.int .u32 (p : Int), .int .u32 (q : Int), .int .u32 (r : Int)]] w (ReadI (Ch.round al dn sd p q r) w) := by
  have L1 := Lib.hid (ilen h1)
  have L2 := Lib.hid (ilen h2)
  have L3 := Lib.hid (ilen h3)
  have wn : wrap64 ((n1 : Int) + 1) = (n1 : Int) + 1 := by unfold wrap64; omega
  have wn2 : IntKind.i64.wrap ((n1 : Int) + 1) = (n1 : Int) + 1 := IntWalk.i64_in _ (by omega)
  obtain ⟨m, hm⟩ : ∃ m, q % (n1 + 1) = m := ⟨_, rfl⟩
  obtain ⟨zp, hzp⟩ : ∃ z, (p : Int) = z := ⟨_, rfl⟩
  obtain ⟨zq, hzq⟩ : ∃ z, (q : Int) = z := ⟨_, rfl⟩
  obtain ⟨zr, hzr⟩ : ∃ z, (r : Int) = z := ⟨_, rfl⟩
  rw [hzp, hzq, hzr]
  have ZP := Lib.hid hzp
  have ZQ := Lib.hid hzq
  have ZR := Lib.hid hzr
  have HP := Lib.hid hp
  have HQ := Lib.hid hq
  have HR := Lib.hid hr
  have HM := Lib.hid hm
  clear hzp hzq hzr hp hq hr hm
  obtain ⟨a1, ha1⟩ : ∃ l, Ch.o1 al p = l := ⟨_, rfl⟩
  obtain ⟨a2, ha2⟩ : ∃ l, Ch.o2 al dn q a1 = l := ⟨_, rfl⟩
  obtain ⟨a3, ha3⟩ : ∃ l, Ch.o3 al sd p r a2 = l := ⟨_, rfl⟩
  have len1 : a1.length ≤ 1 := by rw [← ha1]; exact Ch.o1_len al p
  have len2 : a2.length ≤ 2 := by have := Ch.o2_len al dn q a1; rw [ha2] at this; omega
  have R : Hid (Ch.round al dn sd p q r = a3) := Lib.hid (by unfold Ch.round; rw [ha1, ha2, ha3])
  have J1 : Hid (jn [] al p = a1) := Lib.hid (by rw [o1_jn, ha1])
  have H1 := Lib.hid ha1
  have H2 := Lib.hid ha2
  have H3 := Lib.hid ha3
  rw [R.out]
  clear ha1 ha2 ha3
  have D := Box.new w #[.int .u32 zp, .int .u32 zq, .int .u32 zr] 26
  have b := (Below.refl w.heap.size w).alloc (Nat.le_refl _) (.cells #[.int .u32 zp, .int .u32 zq, .int .u32 zr] 26)
  replace h1 := h1.belowH b
  replace h2 := h2.belowH b
  replace h3 := h3.belowH b
  have d0 := D.at 0 rfl
  go_enter Try.func12, Try.ntmps12
  go_wp2_with fail
  generalize w.alloc (.cells #[.int .u32 zp, .int .u32 zq, .int .u32 zr] 26) = wa at *
  have bs := b.size
  have h30 := h3
  have hDlt := D.lt
  refine (cjoin_at ZP.out J1.out wa.heap.size none A1 0 0 n1 c1 HP.out wa (World.ownsRow_nil _ _ _ _) (Nat.le_refl _) h1 (by omega) hn1).mono ?_
  rintro e w1 ⟨B1, m1, k1, rfl, hlb, o1, b1⟩
  have LB := Lib.hid hlb
  have hm1 : m1 ≤ 1 := by omega
  replace D := D.belowH b1
  replace h1 := h1.belowH b1
  replace h2 := h2.belowH b1
  replace h3 := h3.belowH b1
  clear hlb d0
  have d1 := D.at 1 rfl
  have d2 := D.at 2 rfl
  have b1s := b1.size
  by_cases ha : n1 = 0
  · have AL : Hid (al = []) := Lib.hid (nil_of_len (by rw [L1.out, ha]))
    have J3 : Hid (jn a2 sd r = a3) := Lib.hid (by rw [← H3.out]; exact o3_jn_yes (.inl AL.out))
    have z1 : m1 = 0 := by have := H1.out; rw [AL.out, o1_no] at this; have h := LB.out; rw [← this] at h; simpa using h.symm
    have tz : decide (0 < (m1 : Int)) = false := decide_eq_false (by omega)
    have tz2 : ((m1 : Int) > 0) = False := by simp; omega
    have tz3 : decide (0 < m1) = false := decide_eq_false (by omega)
    clear z1 ha
    go_wp2_with fail
    refine (cplace_at (y := (n1 : Int) + 1) ZQ.out HM.out HQ.out (by omega) (by push_cast; rfl) w1).mono ?_
    rintro _ vp ⟨rfl, rfl⟩
    by_cases hq2 : m < n2
    · have J2 : Hid (jn a1 dn q = a2) := Lib.hid (by rw [← H2.out]; exact o2_jn_yes (by rw [L1.out, L2.out, HM.out]; exact hq2))
      have tq : decide ((m : Int) < (n2 : Int)) = true := decide_eq_true (by omega)
      have HQ2 := Lib.hid hq2
      clear hq2
      go_wp2_with fail
      refine (cjoin_at ZQ.out J2.out wa.heap.size B1 A2 m1 k1 n2 c2 HQ.out w1 o1 (by omega) h2 (by omega) hn2).mono ?_
      rintro e w2 ⟨B2, m2, k2, rfl, hlb2, o2, b2⟩
      have b2' := b1.trans b2
      replace D := D.below b2 hDlt
      replace h3 := Rd.belowH (w := wa) h30 b2'
      have d2 := D.at 2 rfl
      have hm2 : m2 ≤ 2 := by omega
      have LB2 := Lib.hid hlb2
      clear hlb2
      have b2s := b2'.size
      go_wp2_with fail
      refine (cjoin_at ZR.out J3.out wa.heap.size B2 A3 m2 k2 n3 c3 HR.out w2 o2 (by omega) h3 (by omega) hn3).mono ?_
      rintro e w4 ⟨B4, m4, k4, rfl, hlb4, o4, b4⟩
      clear hlb4
      go_wp2
      go_ret
      exact ⟨⟨B4, m4, k4, rfl, Rd.of_own o4, own_cap o4⟩, b.trans ((b2'.trans b4).mono (by omega))⟩
    · have J2 : Hid (a1 = a2) := Lib.hid (by rw [← H2.out]; exact o2_jn_no (by rw [L1.out, L2.out, HM.out]; exact hq2))
      have tq : decide ((m : Int) < (n2 : Int)) = false := decide_eq_false (by omega)
      have HQ2 := Lib.hid hq2
      clear hq2
      rw [J2.out] at o1
      have b2' := b1
      have b2s := b1s
      go_wp2_with fail
      refine (cjoin_at ZR.out J3.out wa.heap.size B1 A3 m1 k1 n3 c3 HR.out w1 o1 (by omega) h3 (by omega) hn3).mono ?_
      rintro e w4 ⟨B4, m4, k4, rfl, hlb4, o4, b4⟩
      clear hlb4
      go_wp2
      go_ret
      exact ⟨⟨B4, m4, k4, rfl, Rd.of_own o4, own_cap o4⟩, b.trans ((b1.trans b4).mono (by omega))⟩
  · have ANE : Hid (al ≠ []) := Lib.hid (ne_of_len L1.out ha)
    obtain ⟨x, hx⟩ : ∃ x, Ch.one al p = x := ⟨_, rfl⟩
    have X := Lib.hid hx
    clear hx ha
    have e1 : a1 = [x] := by rw [← H1.out, o1_yes ANE.out, X.out]
    have z1 : m1 = 1 := by have h := LB.out; rw [e1] at h; simpa using h.symm
    have tz : decide (0 < (m1 : Int)) = true := decide_eq_true (by omega)
    have tz3 : decide (0 < m1) = true := decide_eq_true (by omega)
    have r1 := Rd.of_own o1
    obtain ⟨bx, ox, y, eB, hbx, hy, cx⟩ := r1.atI (k := 0) (by omega)
    obtain rfl : x = y := by rw [e1] at hy; simpa using hy
    have EB := Lib.hid eB
    clear hy z1 e1 hbx
    simp only [Nat.add_zero] at cx
    subst eB
    have hm10 : (0 : Int) < (m1 : Int) := of_decide_eq_true tz
    by_cases hs : x ∈ sd
    · have SEED : Hid (Ch.one al p ∈ sd) := Lib.hid (by rw [X.out]; exact hs)
      have HS := Lib.hid (decide_eq_true hs)
      clear hs
      go_wp2_with fail
      refine (chas0_at HS.out A3 n3 c3 w1 h3 (by omega)).mono ?_
      rintro _ v2 ⟨rfl, rfl⟩
      go_wp2_with fail
      refine (cplace_at (y := (n1 : Int) + 1) ZQ.out HM.out HQ.out (by omega) (by push_cast; rfl) w1).mono ?_
      rintro _ vp ⟨rfl, rfl⟩
      by_cases hq2 : m < n2
      · have J2 : Hid (jn a1 dn q = a2) := Lib.hid (by rw [← H2.out]; exact o2_jn_yes (by rw [L1.out, L2.out, HM.out]; exact hq2))
        have tq : decide ((m : Int) < (n2 : Int)) = true := decide_eq_true (by omega)
        have HQ2 := Lib.hid hq2
        clear hq2
        go_wp2_with fail
        refine (cjoin_at ZQ.out J2.out wa.heap.size (some ⟨bx, ox, none⟩) A2 m1 k1 n2 c2 HQ.out w1 o1 (by omega) h2 (by omega) hn2).mono ?_
        rintro e w2 ⟨B2, m2, k2, rfl, hlb2, o2, b2⟩
        have b2' := b1.trans b2
        replace D := D.below b2 hDlt
        replace h3 := Rd.belowH (w := wa) h30 b2'
        have d2 := D.at 2 rfl
        have hm2 : m2 ≤ 2 := by omega
        have LB2 := Lib.hid hlb2
        clear hlb2
        have b2s := b2'.size
        by_cases hl3 : n1 < n3
        · have J3 : Hid (jn a2 sd r = a3) := Lib.hid (by rw [← H3.out]; exact o3_jn_yes (.inr (.inr (by rw [L1.out, L3.out]; exact hl3))))
          have tl : decide ((n1 : Int) < (n3 : Int)) = true := decide_eq_true (by omega)
          go_wp2_with fail
          refine (cjoin_at ZR.out J3.out wa.heap.size B2 A3 m2 k2 n3 c3 HR.out w2 o2 (by omega) h3 (by omega) hn3).mono ?_
          rintro e w4 ⟨B4, m4, k4, rfl, hlb4, o4, b4⟩
          clear hlb4
          go_wp2
          go_ret
          exact ⟨⟨B4, m4, k4, rfl, Rd.of_own o4, own_cap o4⟩, b.trans ((b2'.trans b4).mono (by omega))⟩
        · have J3 : Hid (a2 = a3) := Lib.hid (by rw [← H3.out]; exact o3_jn_no (by rintro (h | h | h); exact ANE.out h; exact h SEED.out; exact hl3 (by rwa [L1.out, L3.out] at h)))
          have tl : decide ((n1 : Int) < (n3 : Int)) = false := decide_eq_false (by omega)
          go_wp2
          go_ret
          rw [J3.out] at o2
          exact ⟨⟨B2, m2, k2, rfl, Rd.of_own o2, own_cap o2⟩, b.trans (b2'.mono (by omega))⟩
      · have J2 : Hid (a1 = a2) := Lib.hid (by rw [← H2.out]; exact o2_jn_no (by rw [L1.out, L2.out, HM.out]; exact hq2))
        have tq : decide ((m : Int) < (n2 : Int)) = false := decide_eq_false (by omega)
        have HQ2 := Lib.hid hq2
        clear hq2
        rw [J2.out] at o1
        have b2' := b1
        have b2s := b1s
        by_cases hl3 : n1 < n3
        · have J3 : Hid (jn a2 sd r = a3) := Lib.hid (by rw [← H3.out]; exact o3_jn_yes (.inr (.inr (by rw [L1.out, L3.out]; exact hl3))))
          have tl : decide ((n1 : Int) < (n3 : Int)) = true := decide_eq_true (by omega)
          go_wp2_with fail
          refine (cjoin_at ZR.out J3.out wa.heap.size (some ⟨bx, ox, none⟩) A3 m1 k1 n3 c3 HR.out w1 o1 (by omega) h3 (by omega) hn3).mono ?_
          rintro e w4 ⟨B4, m4, k4, rfl, hlb4, o4, b4⟩
          clear hlb4
          go_wp2
          go_ret
          exact ⟨⟨B4, m4, k4, rfl, Rd.of_own o4, own_cap o4⟩, b.trans ((b1.trans b4).mono (by omega))⟩
        · have J3 : Hid (a2 = a3) := Lib.hid (by rw [← H3.out]; exact o3_jn_no (by rintro (h | h | h); exact ANE.out h; exact h SEED.out; exact hl3 (by rwa [L1.out, L3.out] at h)))
          have tl : decide ((n1 : Int) < (n3 : Int)) = false := decide_eq_false (by omega)
          go_wp2
          go_ret
          rw [J3.out] at o1
          exact ⟨⟨_, m1, k1, rfl, Rd.of_own o1, own_cap o1⟩, b.trans (b1.mono (by omega))⟩
    · have J3 : Hid (jn a2 sd r = a3) := Lib.hid (by rw [← H3.out]; exact o3_jn_yes (.inr (.inl (by rw [X.out]; exact hs))))
      have HS := Lib.hid (decide_eq_false hs)
      clear hs
      go_wp2_with fail
      refine (chas0_at HS.out A3 n3 c3 w1 h3 (by omega)).mono ?_
      rintro _ v2 ⟨rfl, rfl⟩
      go_wp2_with fail
      refine (cplace_at (y := (n1 : Int) + 1) ZQ.out HM.out HQ.out (by omega) (by push_cast; rfl) w1).mono ?_
      rintro _ vp ⟨rfl, rfl⟩
      by_cases hq2 : m < n2
      · have J2 : Hid (jn a1 dn q = a2) := Lib.hid (by rw [← H2.out]; exact o2_jn_yes (by rw [L1.out, L2.out, HM.out]; exact hq2))
        have tq : decide ((m : Int) < (n2 : Int)) = true := decide_eq_true (by omega)
        have HQ2 := Lib.hid hq2
        clear hq2
        go_wp2_with fail
        refine (cjoin_at ZQ.out J2.out wa.heap.size (some ⟨bx, ox, none⟩) A2 m1 k1 n2 c2 HQ.out w1 o1 (by omega) h2 (by omega) hn2).mono ?_
        rintro e w2 ⟨B2, m2, k2, rfl, hlb2, o2, b2⟩
        have b2' := b1.trans b2
        replace D := D.below b2 hDlt
        replace h3 := Rd.belowH (w := wa) h30 b2'
        have d2 := D.at 2 rfl
        have hm2 : m2 ≤ 2 := by omega
        have LB2 := Lib.hid hlb2
        clear hlb2
        have b2s := b2'.size
        go_wp2_with fail
        refine (cjoin_at ZR.out J3.out wa.heap.size B2 A3 m2 k2 n3 c3 HR.out w2 o2 (by omega) h3 (by omega) hn3).mono ?_
        rintro e w4 ⟨B4, m4, k4, rfl, hlb4, o4, b4⟩
        clear hlb4
        go_wp2
        go_ret
        exact ⟨⟨B4, m4, k4, rfl, Rd.of_own o4, own_cap o4⟩, b.trans ((b2'.trans b4).mono (by omega))⟩
      · have J2 : Hid (a1 = a2) := Lib.hid (by rw [← H2.out]; exact o2_jn_no (by rw [L1.out, L2.out, HM.out]; exact hq2))
        have tq : decide ((m : Int) < (n2 : Int)) = false := decide_eq_false (by omega)
        have HQ2 := Lib.hid hq2
        clear hq2
        rw [J2.out] at o1
        have b2' := b1
        have b2s := b1s
        go_wp2_with fail
        refine (cjoin_at ZR.out J3.out wa.heap.size (some ⟨bx, ox, none⟩) A3 m1 k1 n3 c3 HR.out w1 o1 (by omega) h3 (by omega) hn3).mono ?_
        rintro e w4 ⟨B4, m4, k4, rfl, hlb4, o4, b4⟩
        clear hlb4
        go_wp2
        go_ret
        exact ⟨⟨B4, m4, k4, rfl, Rd.of_own o4, own_cap o4⟩, b.trans ((b1.trans b4).mono (by omega))⟩
end Go.Proofs.Ytlafmonfhkgcfaa
