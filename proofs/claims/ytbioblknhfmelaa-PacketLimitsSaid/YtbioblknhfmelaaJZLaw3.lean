/- ZLaw3 (merged). -/
import Derived.Deep.QuietTactic
import Derived.Deep.DeepCutAuto
import Derived.Test.YtbioblknhfmelaaJZAlive
import Derived.Test.YtbioblknhfmelaaJPRows
namespace Go.Proofs.Ytbioblknhfmelaa
set_option linter.unusedVariables false
set_option linter.unusedSimpArgs false
open Go.RowKit
theorem wrap_small {a : Int} (h : 0 ≤ a) (h2 : a ≤ 65535) : wrap64 a = a := by unfold wrap64; omega
namespace Pk
theorem limits {p : Pck} {lo hi top : Int} (h : ¬ lo < 12 + (qsb p.qs).length) (h1 : lo ≤ hi) (h2 : hi ≤ top) :
    12 ≤ (whole (kept p lo)).length ∧ (whole (kept p lo)).length ≤ (whole (kept p hi)).length ∧ (whole (kept p hi)).length ≤ (whole (kept p top)).length ∧
    (((whole (kept p top)).length : Int) ≤ hi → whole (kept p hi) = whole (kept p top)) ∧
    (whole (kept p lo)).drop 12 = ((whole (kept p hi)).take (whole (kept p lo)).length).drop 12 ∧ (whole (kept p hi)).drop 12 = ((whole (kept p top)).take (whole (kept p hi)).length).drop 12 ∧ ((whole (kept p hi)).length : Int) ≤ hi := by
  have hh : ¬ hi < 12 + (qsb p.qs).length := by omega
  have ht : ¬ top < 12 + (qsb p.qs).length := by omega
  have k1 := kept_mono (p := p) h1
  have k2 := kept_mono (p := p) h2
  refine ⟨by rw [whole_len]; omega, whole_first_len p k1, whole_first_len p k2, fun h3 => by rw [first_kept hh ht h2 h3], whole_begins p k1, whole_begins p k2, kept_len hh⟩
end Pk
set_option maxHeartbeats 8000000 in
set_option maxRecDepth 20000 in
theorem law_PacketLimits (u0 : Pv) (p q : Int) (W : World) (w0 : PkIn W u0) (w1 : Pair16 p q) :
    Calls Try.prog 5 #[pval u0, .agg #[.int .u16 p, .int .u16 q]] W fun e w' => e = .returned (.bool true) ∧ Below W.heap.size W w' := by
  obtain ⟨UR, US, _⟩ := w0
  have b := ((Below.refl W.heap.size W).alloc (Nat.le_refl _) (.cells #[.int .i64 u0.x.id, .int .i64 u0.x.flags, .slice u0.A1 u0.n1 u0.c1, .slice u0.A2 u0.n2 u0.c2, .slice u0.A3 u0.n3 u0.c3, .slice u0.A4 u0.n4 u0.c4] 25)).alloc (by simp) (.cells #[.int .u16 p, .int .u16 q] 41)
  have X := (Box.new W #[.int .i64 u0.x.id, .int .i64 u0.x.flags, .slice u0.A1 u0.n1 u0.c1, .slice u0.A2 u0.n2 u0.c2, .slice u0.A3 u0.n3 u0.c3, .slice u0.A4 u0.n4 u0.c4] 25).alloc (.cells #[.int .u16 p, .int .u16 q] 41)
  have Y := Box.new (W.alloc (.cells #[.int .i64 u0.x.id, .int .i64 u0.x.flags, .slice u0.A1 u0.n1 u0.c1, .slice u0.A2 u0.n2 u0.c2, .slice u0.A3 u0.n3 u0.c3, .slice u0.A4 u0.n4 u0.c4] 25)) #[.int .u16 p, .int .u16 q] 41
  rw [show (W.alloc (.cells #[.int .i64 u0.x.id, .int .i64 u0.x.flags, .slice u0.A1 u0.n1 u0.c1, .slice u0.A2 u0.n2 u0.c2, .slice u0.A3 u0.n3 u0.c3, .slice u0.A4 u0.n4 u0.c4] 25)).heap.size = W.heap.size + 1 by simp] at Y
  replace UR := UR.belowH b
  have HA := Lib.hid w1
  simp only [pval]
  clear w1
  go_enter Try.func5, Try.ntmps5
  go_wp2_with fail
  generalize (W.alloc (.cells #[.int .i64 u0.x.id, .int .i64 u0.x.flags, .slice u0.A1 u0.n1 u0.c1, .slice u0.A2 u0.n2 u0.c2, .slice u0.A3 u0.n3 u0.c3, .slice u0.A4 u0.n4 u0.c4] 25)).alloc (.cells #[.int .u16 p, .int .u16 q] 41) = w0 at *
  refine (palive_any w0).mono ?_
  rintro e v1 ⟨rfl, hb⟩
  replace X := X.belowH hb
  replace Y := Y.belowH hb
  replace UR := UR.belowH hb
  replace b := b.trans (hb.mono b.size)
  clear hb
  have x0 := X.at 0 rfl
  have x1 := X.at 1 rfl
  have x2 := X.at 2 rfl
  have x3 := X.at 3 rfl
  have x4 := X.at 4 rfl
  have x5 := X.at 5 rfl
  go_wp2_with fail
  refine (rpgreat_any u0 v1 UR US).mono ?_
  rintro e v2 ⟨g1, rfl, hg1, hb⟩
  clear x0 x1 x2 x3 x4 x5
  replace X := X.belowH hb
  replace Y := Y.belowH hb
  replace UR := UR.belowH hb
  replace b := b.trans (hb.mono b.size)
  clear hb
  have x0 := X.at 0 rfl
  have x1 := X.at 1 rfl
  have x2 := X.at 2 rfl
  have x3 := X.at 3 rfl
  have x4 := X.at 4 rfl
  have x5 := X.at 5 rfl
  cases g1 with
  | true =>
    go_wp2
    go_ret
    exact ⟨rfl, b⟩
  | false =>
    have UM := (hg1 rfl).mod
    clear hg1
    by_cases hr : Pk.right u0.x
    rotate_left
    · have HR := Lib.hid (decide_eq_false hr)
      clear hr
      go_wp2_with fail
      refine (rpright_at HR.out v2 UR UM).mono ?_
      rintro e v3 ⟨rfl, hb⟩
      clear x0 x1 x2 x3 x4 x5
      replace X := X.belowH hb
      replace Y := Y.belowH hb
      replace UR := UR.belowH hb
      replace b := b.trans (hb.mono b.size)
      clear hb
      have x0 := X.at 0 rfl
      have x1 := X.at 1 rfl
      have x2 := X.at 2 rfl
      have x3 := X.at 3 rfl
      have x4 := X.at 4 rfl
      have x5 := X.at 5 rfl
      go_wp2
      go_ret
      exact ⟨rfl, b⟩
    have RI := Lib.hid hr
    have HR := Lib.hid (decide_eq_true hr)
    clear hr
    go_wp2_with fail
    refine (rpright_at HR.out v2 UR UM).mono ?_
    rintro e v3 ⟨rfl, hb⟩
    clear x0 x1 x2 x3 x4 x5
    replace X := X.belowH hb
    replace Y := Y.belowH hb
    replace UR := UR.belowH hb
    replace b := b.trans (hb.mono b.size)
    clear hb
    have x0 := X.at 0 rfl
    have x1 := X.at 1 rfl
    have x2 := X.at 2 rfl
    have x3 := X.at 3 rfl
    have x4 := X.at 4 rfl
    have x5 := X.at 5 rfl
    have y0 := Y.at 0 rfl
    have y1 := Y.at 1 rfl
    obtain ⟨lo, hmin⟩ : ∃ x, (if q < p then q else p) = x := ⟨_, rfl⟩
    obtain ⟨hi, hmax⟩ : ∃ x, (if p < q then q else p) = x := ⟨_, rfl⟩
    have LH : Hid (0 ≤ lo ∧ lo ≤ hi ∧ hi ≤ 65535) := Lib.hid (by
      obtain ⟨h1, h2⟩ := HA.out
      unfold P16 at h1 h2
      split at hmin <;> split at hmax <;> omega)
    have wl : wrap64 lo = lo := wrap_small LH.out.1 (Int.le_trans LH.out.2.1 LH.out.2.2)
    have wh : wrap64 hi = hi := wrap_small (Int.le_trans LH.out.1 LH.out.2.1) LH.out.2.2
    go_upto_region 5 with fail
    go_region
    simp only [hmin, hmax, wl, wh]
    replace X : Box v3.drew W.heap.size _ _ := X
    replace UR : PRd v3.drew u0 := UR
    replace b : Below W.heap.size W v3.drew := b.drew
    generalize v3.drew = v3' at *
    clear hmin hmax wl wh y0 y1 Y
    clear x0 x1 x2 x3 x4 x5
    have x0 := X.at 0 rfl
    have x1 := X.at 1 rfl
    have x2 := X.at 2 rfl
    have x3 := X.at 3 rfl
    have x4 := X.at 4 rfl
    have x5 := X.at 5 rfl
    obtain ⟨qn, hqn⟩ : ∃ n, (Pk.qsb u0.x.qs).length = n := ⟨_, rfl⟩
    have hqn1 : qn ≤ 25900 := by
      have h1 := Pk.qsb_le (l := u0.x.qs) RI.out.2.2.1.2
      have h2 := RI.out.2.2.1.1
      omega
    have QN := Lib.hid hqn
    have EC := Lib.hid (Pk.build_is (n := 1048576) RI.out (by rw [hqn]; omega))
    obtain ⟨lc, hlc⟩ : ∃ l, Pk.whole (Pk.kept u0.x 1048576) = l := ⟨_, rfl⟩
    rw [hlc] at EC
    obtain ⟨nc, hnc⟩ : ∃ n, lc.length = n := ⟨_, rfl⟩
    have NC := Lib.hid hnc
    clear hqn
    by_cases h1 : lo < 12 + (qn : Int)
    · have EA := Lib.hid (Pk.build_long (n := lo) RI.out (by rw [QN.out]; exact h1))
      clear hlc hnc hqn1 h1
      by_cases h2 : hi < 12 + (qn : Int)
      · have EB := Lib.hid (Pk.build_long (n := hi) RI.out (by rw [QN.out]; exact h2))
        clear h2
        go_wp2_with fail
        refine (pbuild_at EA.out (show ([] : List UInt8).length = 0 from rfl) v3' UR UM).mono ?_
        rintro e v4 ⟨⟨B1, k1, rfl, R1, _⟩, hb⟩
        clear x0 x1 x2 x3 x4 x5
        replace X := X.belowH hb
        replace UR := UR.belowH hb
        replace b := b.trans (hb.mono b.size)
        clear hb
        have x0 := X.at 0 rfl
        have x1 := X.at 1 rfl
        have x2 := X.at 2 rfl
        have x3 := X.at 3 rfl
        have x4 := X.at 4 rfl
        have x5 := X.at 5 rfl
        go_wp2_with fail
        refine (pbuild_at EB.out (show ([] : List UInt8).length = 0 from rfl) v4 UR UM).mono ?_
        rintro e v5 ⟨⟨B2, k2, rfl, R2, _⟩, hb⟩
        replace R1 := R1.belowH hb
        clear x0 x1 x2 x3 x4 x5
        replace X := X.belowH hb
        replace UR := UR.belowH hb
        replace b := b.trans (hb.mono b.size)
        clear hb
        have x0 := X.at 0 rfl
        have x1 := X.at 1 rfl
        have x2 := X.at 2 rfl
        have x3 := X.at 3 rfl
        have x4 := X.at 4 rfl
        have x5 := X.at 5 rfl
        go_wp2_with fail
        refine (pbuild_at EC.out NC.out v5 UR UM).mono ?_
        rintro e v6 ⟨⟨B3, k3, rfl, R3, _⟩, hb⟩
        replace R1 := R1.belowH hb
        replace R2 := R2.belowH hb
        clear x0 x1 x2 x3 x4 x5
        replace X := X.belowH hb
        replace UR := UR.belowH hb
        replace b := b.trans (hb.mono b.size)
        clear hb
        have x0 := X.at 0 rfl
        have x1 := X.at 1 rfl
        have x2 := X.at 2 rfl
        have x3 := X.at 3 rfl
        have x4 := X.at 4 rfl
        have x5 := X.at 5 rfl
        go_wp2
        go_ret
        exact ⟨rfl, b⟩
      · have EB := Lib.hid (Pk.build_is (n := hi) RI.out (by rw [QN.out]; exact h2))
        clear h2
        go_wp2_with fail
        refine (pbuild_at EA.out (show ([] : List UInt8).length = 0 from rfl) v3' UR UM).mono ?_
        rintro e v4 ⟨⟨B1, k1, rfl, R1, _⟩, hb⟩
        clear x0 x1 x2 x3 x4 x5
        replace X := X.belowH hb
        replace UR := UR.belowH hb
        replace b := b.trans (hb.mono b.size)
        clear hb
        have x0 := X.at 0 rfl
        have x1 := X.at 1 rfl
        have x2 := X.at 2 rfl
        have x3 := X.at 3 rfl
        have x4 := X.at 4 rfl
        have x5 := X.at 5 rfl
        go_wp2_with fail
        refine (pbuild_at EB.out rfl v4 UR UM).mono ?_
        rintro e v5 ⟨⟨B2, k2, rfl, R2, _⟩, hb⟩
        replace R1 := R1.belowH hb
        clear x0 x1 x2 x3 x4 x5
        replace X := X.belowH hb
        replace UR := UR.belowH hb
        replace b := b.trans (hb.mono b.size)
        clear hb
        have x0 := X.at 0 rfl
        have x1 := X.at 1 rfl
        have x2 := X.at 2 rfl
        have x3 := X.at 3 rfl
        have x4 := X.at 4 rfl
        have x5 := X.at 5 rfl
        go_wp2_with fail
        refine (pbuild_at EC.out NC.out v5 UR UM).mono ?_
        rintro e v6 ⟨⟨B3, k3, rfl, R3, _⟩, hb⟩
        replace R1 := R1.belowH hb
        replace R2 := R2.belowH hb
        clear x0 x1 x2 x3 x4 x5
        replace X := X.belowH hb
        replace UR := UR.belowH hb
        replace b := b.trans (hb.mono b.size)
        clear hb
        have x0 := X.at 0 rfl
        have x1 := X.at 1 rfl
        have x2 := X.at 2 rfl
        have x3 := X.at 3 rfl
        have x4 := X.at 4 rfl
        have x5 := X.at 5 rfl
        go_wp2
        go_ret
        exact ⟨rfl, b⟩
    · have h2 : ¬ hi < 12 + (qn : Int) := by have := LH.out; omega
      obtain ⟨la, hla⟩ : ∃ l, Pk.whole (Pk.kept u0.x lo) = l := ⟨_, rfl⟩
      obtain ⟨lb, hlb⟩ : ∃ l, Pk.whole (Pk.kept u0.x hi) = l := ⟨_, rfl⟩
      have EA := Lib.hid (Pk.build_is (n := lo) RI.out (by rw [QN.out]; exact h1))
      have EB := Lib.hid (Pk.build_is (n := hi) RI.out (by rw [QN.out]; exact h2))
      obtain ⟨na, hna⟩ : ∃ n, la.length = n := ⟨_, rfl⟩
      obtain ⟨nb, hnb⟩ : ∃ n, lb.length = n := ⟨_, rfl⟩
      have FL := Lib.hid (Pk.limits (p := u0.x) (lo := lo) (hi := hi) (top := 1048576) (by rw [QN.out]; exact h1) LH.out.2.1 (by have := LH.out.2.2; omega))
      rw [hla] at EA
      rw [hlb] at EB
      rw [hla, hlb, hlc, hna, hnb, hnc] at FL
      have NA := Lib.hid hna
      have NB := Lib.hid hnb
      clear hla hlb hlc hna hnb hnc h1 h2 hqn1
      go_wp2_with fail
      refine (pbuild_at EA.out NA.out v3' UR UM).mono ?_
      rintro e v4 ⟨⟨B1, k1, rfl, R1, ck1, _⟩, hb⟩
      clear x0 x1 x2 x3 x4 x5
      replace X := X.belowH hb
      replace UR := UR.belowH hb
      replace b := b.trans (hb.mono b.size)
      clear hb
      have x0 := X.at 0 rfl
      have x1 := X.at 1 rfl
      have x2 := X.at 2 rfl
      have x3 := X.at 3 rfl
      have x4 := X.at 4 rfl
      have x5 := X.at 5 rfl
      go_wp2_with fail
      refine (pbuild_at EB.out NB.out v4 UR UM).mono ?_
      rintro e v5 ⟨⟨B2, k2, rfl, R2, ck2, _⟩, hb⟩
      replace R1 := R1.belowH hb
      clear x0 x1 x2 x3 x4 x5
      replace X := X.belowH hb
      replace UR := UR.belowH hb
      replace b := b.trans (hb.mono b.size)
      clear hb
      have x0 := X.at 0 rfl
      have x1 := X.at 1 rfl
      have x2 := X.at 2 rfl
      have x3 := X.at 3 rfl
      have x4 := X.at 4 rfl
      have x5 := X.at 5 rfl
      go_wp2_with fail
      refine (pbuild_at EC.out NC.out v5 UR UM).mono ?_
      rintro e v6 ⟨⟨B3, k3, rfl, R3, ck3, _⟩, hb⟩
      replace R1 := R1.belowH hb
      replace R2 := R2.belowH hb
      clear x0 x1 x2 x3 x4 x5
      replace X := X.belowH hb
      replace UR := UR.belowH hb
      replace b := b.trans (hb.mono b.size)
      clear hb
      have x0 := X.at 0 rfl
      have x1 := X.at 1 rfl
      have x2 := X.at 2 rfl
      have x3 := X.at 3 rfl
      have x4 := X.at 4 rfl
      have x5 := X.at 5 rfl
      clear X UR UM x0 x1 x2 x3 x4 x5
      obtain ⟨f1, f2, f3, f4, f5, f6, f7⟩ := FL.out
      have D1 := Lib.hid f5
      have D2 := Lib.hid f6
      have d1 : decide (hi < (nb : Int)) = false := decide_eq_false (by omega)
      have d2 : decide ((nb : Int) < (na : Int)) = false := decide_eq_false (by omega)
      clear f5 f6 f7
      by_cases hc : (nc : Int) ≤ hi
      · have d3 : decide ((nc : Int) ≤ hi) = true := decide_eq_true hc
        have e1 := f4 hc
        subst e1
        obtain rfl : nb = nc := by rw [← NB.out, ← NC.out]
        clear f4 FL hc
        go_wp2_with fail
        refine (same_any B2 B3 nb nb k2 k3 _ _ lb lb v6 R2 R3).mono ?_
        rintro e w7 ⟨rfl, rfl⟩
        rw [decide_eq_true rfl]
        have SL1 := fun W => run_cut_l u8T W B1 na k1 12 12 rfl f1
        have SL2 := fun W => run_cut_lh u8T W B2 nb k2 12 na 12 (na : Int) rfl rfl f1 (Nat.le_trans f2 ck2)
        have SL3 := fun W => run_cut_l u8T W B2 nb k2 12 12 rfl (Nat.le_trans f1 f2)
        have SL4 := fun W => run_cut_lh u8T W B3 nb k3 12 nb 12 (nb : Int) rfl rfl (Nat.le_trans f1 f2) ck3
        have RA := R1.cut1 (k := 12) f1 ck1
        have RB := (R2.take1 f2).cut1 (k := 12) f1 (Nat.le_trans f2 ck2)
        have RC1 := R2.cut1 (k := 12) (Nat.le_trans f1 f2) ck2
        have RD := (R3.take1 (Nat.le_refl nb)).cut1 (k := 12) (Nat.le_trans f1 f2) ck3
        rw [U_take] at RB RD
        rw [U_drop] at RA RB RC1 RD
        rw [← D1.out] at RB
        rw [← D2.out] at RD
        go_wp2_with fail
        replace RA : Rd v6.drew _ _ _ _ _ := RA
        replace RB : Rd v6.drew _ _ _ _ _ := RB
        replace RC1 : Rd v6.drew _ _ _ _ _ := RC1
        replace RD : Rd v6.drew _ _ _ _ _ := RD
        refine wp_region_held_drew (S := (fun _ => True)) (by kernel_rfl) (by trivial) (fun hHeld0 => ?_)
        refine tk 0 96 rfl hHeld0 ?_
        refine tk 1 97 rfl hHeld0 ?_
        refine tk 2 98 rfl hHeld0 ?_
        refine tk 3 99 rfl hHeld0 ?_
        refine tk 4 100 rfl hHeld0 ?_
        refine tk 5 101 rfl hHeld0 ?_
        refine wpAnyH_ready (rs := [6]) (by kernel_rfl) (by simp) (AllReadyH.cons (o := ⟨some 102, _, _, _, _, _⟩) rfl (fun K hK => ?_) AllReadyH.nil)
        go_simp
        (refine (same_any _ _ (na - 12) (na - 12) _ _ _ _ (la.drop 12) (la.drop 12) _ RA RB).mono ?_; rintro e w7 ⟨rfl, rfl⟩; rw [decide_eq_true rfl])
        go_simp
        refine hK.out _ _ (by trivial) (fun hHeld1 => ?_)
        clear hK hHeld0 K
        try simp only [Act.put, sA, sB, sC]
        refine tk 7 103 rfl hHeld1 ?_
        refine tk 8 104 rfl hHeld1 ?_
        refine tk 9 105 rfl hHeld1 ?_
        refine tk 10 106 rfl hHeld1 ?_
        refine tk 11 107 rfl hHeld1 ?_
        refine tk 12 108 rfl hHeld1 ?_
        refine tk 13 109 rfl hHeld1 ?_
        refine wpAnyH_ready (rs := [14]) (by kernel_rfl) (by simp) (AllReadyH.cons (o := ⟨some 110, _, _, _, _, _⟩) rfl (fun K hK => ?_) AllReadyH.nil)
        go_simp
        (refine (same_any _ _ (nb - 12) (nb - 12) _ _ _ _ (lb.drop 12) (lb.drop 12) _ RC1 RD).mono ?_; rintro e w8 ⟨rfl, rfl⟩; rw [decide_eq_true rfl])
        go_simp
        refine hK.out _ _ (by trivial) (fun hHeld2 => ?_)
        clear hK hHeld1 K
        try simp only [Act.put, sA, sB, sC]
        refine tk 15 111 rfl hHeld2 ?_
        refine tk 16 4 rfl hHeld2 ?_
        refine wpAnyH_done (by kernel_rfl) ?_ _
        go_wp2
        go_ret
        exact ⟨rfl, b.drew⟩
      · have d3 : decide ((nc : Int) ≤ hi) = false := decide_eq_false hc
        clear f4 FL hc
        have SL1 := fun W => run_cut_l u8T W B1 na k1 12 12 rfl f1
        have SL2 := fun W => run_cut_lh u8T W B2 nb k2 12 na 12 (na : Int) rfl rfl f1 (Nat.le_trans f2 ck2)
        have SL3 := fun W => run_cut_l u8T W B2 nb k2 12 12 rfl (Nat.le_trans f1 f2)
        have SL4 := fun W => run_cut_lh u8T W B3 nc k3 12 nb 12 (nb : Int) rfl rfl (Nat.le_trans f1 f2) (Nat.le_trans f3 ck3)
        have RA := R1.cut1 (k := 12) f1 ck1
        have RB := (R2.take1 f2).cut1 (k := 12) f1 (Nat.le_trans f2 ck2)
        have RC1 := R2.cut1 (k := 12) (Nat.le_trans f1 f2) ck2
        have RD := (R3.take1 f3).cut1 (k := 12) (Nat.le_trans f1 f2) (Nat.le_trans f3 ck3)
        rw [U_take] at RB RD
        rw [U_drop] at RA RB RC1 RD
        rw [← D1.out] at RB
        rw [← D2.out] at RD
        go_wp2_with fail
        replace RA : Rd v6.drew _ _ _ _ _ := RA
        replace RB : Rd v6.drew _ _ _ _ _ := RB
        replace RC1 : Rd v6.drew _ _ _ _ _ := RC1
        replace RD : Rd v6.drew _ _ _ _ _ := RD
        refine wp_region_held_drew (S := (fun _ => True)) (by kernel_rfl) (by trivial) (fun hHeld0 => ?_)
        refine tk 0 96 rfl hHeld0 ?_
        refine tk 1 97 rfl hHeld0 ?_
        refine tk 2 98 rfl hHeld0 ?_
        refine tk 3 99 rfl hHeld0 ?_
        refine tk 4 100 rfl hHeld0 ?_
        refine tk 5 101 rfl hHeld0 ?_
        refine wpAnyH_ready (rs := [6]) (by kernel_rfl) (by simp) (AllReadyH.cons (o := ⟨some 102, _, _, _, _, _⟩) rfl (fun K hK => ?_) AllReadyH.nil)
        go_simp
        (refine (same_any _ _ (na - 12) (na - 12) _ _ _ _ (la.drop 12) (la.drop 12) _ RA RB).mono ?_; rintro e w7 ⟨rfl, rfl⟩; rw [decide_eq_true rfl])
        go_simp
        refine hK.out _ _ (by trivial) (fun hHeld1 => ?_)
        clear hK hHeld0 K
        try simp only [Act.put, sA, sB, sC]
        refine tk 7 103 rfl hHeld1 ?_
        refine tk 8 104 rfl hHeld1 ?_
        refine tk 9 105 rfl hHeld1 ?_
        refine tk 10 106 rfl hHeld1 ?_
        refine tk 11 107 rfl hHeld1 ?_
        refine tk 12 108 rfl hHeld1 ?_
        refine tk 13 109 rfl hHeld1 ?_
        refine wpAnyH_ready (rs := [14]) (by kernel_rfl) (by simp) (AllReadyH.cons (o := ⟨some 110, _, _, _, _, _⟩) rfl (fun K hK => ?_) AllReadyH.nil)
        go_simp
        (refine (same_any _ _ (nb - 12) (nb - 12) _ _ _ _ (lb.drop 12) (lb.drop 12) _ RC1 RD).mono ?_; rintro e w8 ⟨rfl, rfl⟩; rw [decide_eq_true rfl])
        go_simp
        refine hK.out _ _ (by trivial) (fun hHeld2 => ?_)
        clear hK hHeld1 K
        try simp only [Act.put, sA, sB, sC]
        refine tk 15 111 rfl hHeld2 ?_
        refine tk 16 4 rfl hHeld2 ?_
        refine wpAnyH_done (by kernel_rfl) ?_ _
        go_wp2
        go_ret
        exact ⟨rfl, b.drew⟩
end Go.Proofs.Ytbioblknhfmelaa

