/- BC1 BC2 (merged). -/
import Derived.Test.YtbioblknhfmelaaJBR
namespace Go.Proofs.Ytbioblknhfmelaa
set_option linter.unusedVariables false
set_option linter.unusedSimpArgs false
open Go.RowKit
namespace Lab
theorem right_end {s : List UInt8} {o : List (List UInt8)} {k : Nat} (h : At s o k) (hd : s.drop k = []) : right s = false := by unfold right; rw [at_end h hd]; rfl
theorem right_bad {s r : List UInt8} {o : List (List UInt8)} {k : Nat} {c : UInt8} (h : At s o k) (hd : s.drop k = c :: r) (hc : c ≠ 0) (hb : 63 < c.toNat ∨ r.length < c.toNat) : right s = false := by unfold right; rw [at_bad h hd hc hb]; rfl
theorem right_long {s : List UInt8} (h : 255 < s.length) : right s = false := by unfold right cut; rw [if_pos h]; rfl
theorem right_zero {s r : List UInt8} {o : List (List UInt8)} {k : Nat} (h : At s o k) (hd : s.drop k = 0 :: r) (hl : s.length ≤ 255) : right s = decide (r.length = 0) := by
  unfold right
  rw [at_zero h hd, if_neg (by omega)]
  cases r with
  | nil => rfl
  | cons a b => simp
end Lab
set_option maxHeartbeats 4000000 in
set_option maxRecDepth 20000 in
theorem cright_any (s : List UInt8) (hs : s.length ≤ 1100000) (w : World) : Calls Try.prog 41 #[.string (strB s)] w (BoB (Lab.right s) w) := by
  obtain ⟨n, hn⟩ : ∃ n, s.length = n := ⟨_, rfl⟩
  have hsz : (strB s).size = n := by rw [strB_sz, hn]
  rw [hn] at hs
  have HN := Lib.hid hn
  clear hn
  by_cases h255 : 255 < n
  · have R0 : Hid (Lab.right s = false) := Lib.hid (Lab.right_long (by rw [HN.out]; exact h255))
    have g0 : decide (255 < (n : Int)) = true := decide_eq_true (by omega)
    go_enter Try.func41, Try.ntmps41
    go_wp2
    go_ret
    exact ⟨ret_bool R0.out.symm, Below.refl _ _⟩
  have g0 : decide (255 < (n : Int)) = false := decide_eq_false (by omega)
  have n255 : n ≤ 255 := by omega
  clear h255 hs
  obtain ⟨nm1, hnm1⟩ : ∃ z : Int, (n : Int) - 1 = z := ⟨_, rfl⟩
  have V : Hid (wrap64 ((n : Int) - 1) = nm1 ∧ IntKind.i64.wrap ((n : Int) - 1) = nm1) := Lib.hid ⟨by rw [← hnm1]; exact w64_of (by omega) (by omega), by rw [← hnm1]; exact i64_of (by omega) (by omega)⟩
  have HM1 := Lib.hid hnm1
  clear hnm1
  go_enter Try.func41, Try.ntmps41
  go_wp2
  go_loop [3] (fun i => ∃ k : Nat, k ≤ n + 64 ∧ i = .int .i64 (k : Int) ∧ Hid ((k ≤ n ∧ ∃ o, Lab.At s o k) ∨ (n < k ∧ Lab.right s = false))) (fun i => n + 100 - (intOf i).toNat)
  case atStart => exact ⟨0, by omega, rfl, Lib.hid (Or.inl ⟨by omega, [], by simp, by simp [Lab.wires], rfl⟩)⟩
  case round =>
    obtain ⟨k, hk, rfl, HA⟩ := hrel
    have hk0 : (0 : Int) ≤ (k : Int) := by omega
    by_cases hkn : k < n
    · have g1 : decide ((k : Int) < (n : Int)) = true := decide_eq_true (by omega)
      have g3 : decide (k < n) = true := decide_eq_true hkn
      obtain ⟨o, HAt⟩ : ∃ o, Hid (Lab.At s o k) := by
        rcases HA.out with ⟨_, o, h⟩ | ⟨h, _⟩
        · exact ⟨o, Lib.hid h⟩
        · omega
      clear HA
      rcases hd : s.drop k with _ | ⟨x, r⟩
      · exact absurd (congrArg List.length hd) (by rw [List.length_drop]; have := HN.out; simp; omega)
      · obtain ⟨hx, hlr, _⟩ := drop_at hd
        have hrl : k + 1 + r.length = n := by have := HN.out; omega
        have HD := Lib.hid hd
        have IXA : ∀ w, (Instr.index 9 (.string (strB s)) (.int .i64 (k : Int))).run Try.prog w = .ok (.int .u8 (x.toNat : Int)) w := fun w => run_chr hx
        clear hd hx hlr
        by_cases hx0 : x = 0
        · subst hx0
          have CZ := Lib.hid (Lab.right_zero HAt.out HD.out (by rw [HN.out]; exact n255))
          by_cases hr : r.length = 0
          · have g2 : ((k : Int) == nm1) = true := by rw [beq_iff_eq]; have := HM1.out; omega
            have CN : Hid (Lab.right s = true) := Lib.hid (by rw [CZ.out, hr]; rfl)
            clear HAt CZ hr
            obtain ⟨v1, v2⟩ := V.out
            go_wp2
            go_ret
            exact ⟨ret_bool CN.out.symm, Below.refl _ _⟩
          · have g2 : ((k : Int) == nm1) = false := by rw [beq_eq_false_iff_ne]; have := HM1.out; omega
            have CN : Hid (Lab.right s = false) := Lib.hid (by rw [CZ.out]; exact decide_eq_false hr)
            clear HAt CZ hr
            obtain ⟨v1, v2⟩ := V.out
            go_wp2
            go_ret
            exact ⟨ret_bool CN.out.symm, Below.refl _ _⟩
        · have hp := Lab.pos_of hx0
          have h256 : x.toNat < 256 := x.toNat_lt
          obtain ⟨y, hy⟩ : ∃ y, x.toNat = y := ⟨_, rfl⟩
          rw [hy] at IXA hp h256
          obtain ⟨ci, hci⟩ : ∃ z : Int, (y : Int) = z := ⟨_, rfl⟩
          rw [hci] at IXA
          have g4 : (ci != 0) = true := by rw [bne_iff_ne]; omega
          have CV : Hid (IntKind.i64.wrap ci = ci) := Lib.hid (i64_of (by omega) (by omega))
          have HY := Lib.hid hy
          have HX0 := Lib.hid hx0
          obtain ⟨k1, hk1⟩ : ∃ z : Int, 1 + ci = z := ⟨_, rfl⟩
          obtain ⟨k2, hk2⟩ : ∃ z : Int, (k : Int) + k1 = z := ⟨_, rfl⟩
          have U1 : Hid (wrap64 (1 + ci) = k1 ∧ IntKind.i64.wrap (1 + ci) = k1) := Lib.hid ⟨by rw [← hk1]; exact w64_of (by omega) (by omega), by rw [← hk1]; exact i64_of (by omega) (by omega)⟩
          have U2 : Hid (wrap64 ((k : Int) + k1) = k2 ∧ IntKind.i64.wrap ((k : Int) + k1) = k2) := Lib.hid ⟨by rw [← hk2]; exact w64_of (by omega) (by omega), by rw [← hk2]; exact i64_of (by omega) (by omega)⟩
          have CI := Lib.hid hci
          have HP := Lib.hid hp
          have K1 := Lib.hid hk1
          have K2 := Lib.hid hk2
          by_cases hb1 : 63 < y
          · have CN := Lib.hid (Lab.right_bad HAt.out HD.out HX0.out (Or.inl (by rw [HY.out]; exact hb1)))
            have g6 : decide (63 < ci) = true := decide_eq_true (by omega)
            clear HAt hy hx0 hk1 hk2 hci h256 hp hb1
            obtain ⟨u1, u2⟩ := U1.out
            obtain ⟨u3, u4⟩ := U2.out
            have cv := CV.out
            go_wp2
            go_ret
            exact ⟨ret_bool CN.out.symm, Below.refl _ _⟩
          have g6 : decide (63 < ci) = false := decide_eq_false (by omega)
          have NX : Hid (k + 1 + y ≤ n + 64 ∧ k2 = ((k + 1 + y : Nat) : Int) ∧ ((k + 1 + y ≤ n ∧ ∃ o, Lab.At s o (k + 1 + y)) ∨ (n < k + 1 + y ∧ Lab.right s = false))) := Lib.hid (by
            refine ⟨by omega, by omega, ?_⟩
            by_cases hb2 : r.length < y
            · exact Or.inr ⟨by omega, Lab.right_bad HAt.out HD.out HX0.out (Or.inr (by rw [HY.out]; exact hb2))⟩
            · exact Or.inl ⟨by omega, _, by have h1 := Lab.at_next HAt.out HD.out HX0.out (by rw [HY.out]; omega); rwa [HY.out] at h1⟩)
          clear HAt hy hx0 hk1 hk2 hci h256 hp hb1
          obtain ⟨u1, u2⟩ := U1.out
          obtain ⟨u3, u4⟩ := U2.out
          have cv := CV.out
          go_wp2
          go_round
          case rel => exact ⟨k + 1 + y, NX.out.1, by rw [NX.out.2.1], Lib.hid NX.out.2.2⟩
          case measure => rw [NX.out.2.1]; have h1 := NX.out.1; simp only [intOf]; omega
    · have g1 : decide ((k : Int) < (n : Int)) = false := decide_eq_false (by omega)
      have g3 : decide (k < n) = false := decide_eq_false hkn
      have CN : Hid (Lab.right s = false) := Lib.hid (by
        rcases HA.out with ⟨h1, o, h⟩ | ⟨_, h⟩
        · exact Lab.right_end h (List.eq_nil_of_length_eq_zero (by rw [List.length_drop]; have := HN.out; omega))
        · exact h)
      have g2 : ((k : Int) == nm1) = false := by rw [beq_eq_false_iff_ne]; have := HM1.out; omega
      clear HA
      obtain ⟨v1, v2⟩ := V.out
      go_wp2
      go_ret
      exact ⟨ret_bool CN.out.symm, Below.refl _ _⟩
end Go.Proofs.Ytbioblknhfmelaa

namespace Go.Proofs.Ytbioblknhfmelaa
set_option linter.unusedVariables false
set_option linter.unusedSimpArgs false
open Go.RowKit
theorem cright_at {s : List UInt8} {z : Bool} (e : Lab.right s = z) (hs : s.length ≤ 1100000) (w : World) : Calls Try.prog 41 #[.string (strB s)] w (BoB z w) := by have h := cright_any s hs w; rw [e] at h; exact h
namespace Lab
end Lab
set_option maxHeartbeats 4000000 in
set_option maxRecDepth 20000 in
theorem bllower_any (s : List UInt8) (hs : s.length ≤ 100000) (w : World) : Calls Try.prog 48 #[.string (strB s)] w (TxO (Lab.lower s) w) := by
  cases hr : Lab.right s with
  | false =>
    have HE := Lib.hid (Lab.lower_no hr)
    have HR := Lib.hid hr
    clear hr
    go_enter Try.func48, Try.ntmps48
    go_wp2_with fail
    refine (cright_at HR.out (by omega) w).mono ?_
    rintro e w1 ⟨rfl, h1⟩
    go_wp2
    go_ret
    exact ⟨by rw [HE.out]; rfl, h1⟩
  | true =>
    have HR := Lib.hid hr
    clear hr
    obtain ⟨n, hn⟩ : ∃ n, s.length = n := ⟨_, rfl⟩
    have hsz : (strB s).size = n := by rw [strB_sz, hn]
    have HN := Lib.hid hn
    have hnm : n ≤ 100000 := by omega
    clear hn
    go_enter Try.func48, Try.ntmps48
    go_wp2_with fail
    refine (cright_at HR.out (by rw [HN.out]; omega) w).mono ?_
    rintro e w0 ⟨rfl, h1⟩
    have hby := run_bytes w0 (strB s)
    rw [hsz] at hby
    have L0 : Lo (w0.alloc (strO w0 (strB s))).drew w0.heap.size s := Lo.new w0 s
    have b0 : Below w.heap.size w (w0.alloc (strO w0 (strB s))).drew := (h1.alloc h1.size (strO w0 (strB s))).drew
    have h0s : w.heap.size ≤ w0.heap.size := h1.size
    obtain ⟨cp, hcp⟩ : ∃ cp, strC w0 (strB s) = cp := ⟨_, rfl⟩
    rw [hcp] at hby
    clear hs hcp h1
    go_wp2
    generalize (w0.alloc (strO w0 (strB s))).drew = w1 at *
    go_loopw [14] (fun i wr => ∃ k : Nat, k ≤ n ∧ i = .int .i64 (k : Int) ∧ Lo wr w0.heap.size (Lab.low (s.take k) ++ s.drop k) ∧ Below w.heap.size w wr) (fun i _ => n - (intOf i).toNat)
    case atStart => exact ⟨0, by omega, rfl, by simpa [Lab.low] using L0, b0⟩
    case round =>
      clear L0 b0
      obtain ⟨k, hk, rfl, L, bl⟩ := hrel
      have hk0 : (0 : Int) ≤ (k : Int) := by omega
      by_cases hlt : k < n
      · obtain ⟨x, hx⟩ : ∃ x, s[k]? = some x := ⟨_, List.getElem?_eq_getElem (by rw [HN.out]; exact hlt)⟩
        have HX := Lib.hid hx
        clear hx
        have g3 : decide (k < n) = true := decide_eq_true hlt
        have g1 : decide ((k : Int) < (n : Int)) = true := decide_eq_true (by omega)
        obtain ⟨c0, f0⟩ := L.2 k x (Lab.low_at HX.out)
        have HST := Lib.hid (Lab.low_step HX.out)
        obtain ⟨ci, hci⟩ : ∃ z : Int, (x.toNat : Int) = z := ⟨_, rfl⟩
        rw [hci] at c0
        have hx256 : x.toNat < 256 := x.toNat_lt
        by_cases hg : 65 ≤ x.toNat ∧ x.toNat ≤ 90
        · have t1 : decide (65 ≤ ci) = true := decide_eq_true (by omega)
          have t2 : decide (ci ≤ 90) = true := decide_eq_true (by omega)
          obtain ⟨z1, hz1⟩ : ∃ z : Int, ci - 65 = z := ⟨_, rfl⟩
          obtain ⟨z2, hz2⟩ : ∃ z : Int, z1 + 97 = z := ⟨_, rfl⟩
          have e1 : ((Lab.lowB x).toNat : Int) = z2 := by rw [Lab.lowB_nat, if_pos hg]; omega
          have L2 := L.set (k := k) (Lab.lowB x)
          rw [HST.out, e1] at L2
          have u1 : IntKind.u8.wrap (ci - 65) = z1 := by rw [hz1]; exact u8_of' (by omega)
          have u2 : IntKind.u8.wrap (z1 + 97) = z2 := by rw [hz2]; exact u8_of' (by omega)
          have b2 := below_set (o := k) bl (by omega) (.int .u8 z2)
          clear hg hci e1 hx256 L bl hz1 hz2
          go_wp2
          go_roundw
          case rel => exact ⟨k + 1, by omega, by go_num, L2, b2⟩
          case measure => simp [intOf]; omega
        · have e1 := Lab.lowB_no hg
          have L2 : Lo wr w0.heap.size (Lab.low (s.take (k + 1)) ++ s.drop (k + 1)) := by
            rw [← HST.out, e1]
            have h1 := Lab.low_at HX.out
            have h2 : (Lab.low (s.take k) ++ s.drop k).set k x = Lab.low (s.take k) ++ s.drop k := by
              refine List.ext_getElem? fun j => ?_
              by_cases e : k = j
              · subst e; rw [List.getElem?_set_self (List.getElem?_eq_some_iff.1 h1).1, h1]
              · rw [List.getElem?_set_ne e]
            rw [h2]
            exact L
          by_cases ha : 65 ≤ x.toNat
          · have t1 : decide (65 ≤ ci) = true := decide_eq_true (by omega)
            have t2 : decide (ci ≤ 90) = false := decide_eq_false (by omega)
            clear hg hci e1 hx256 ha L
            go_wp2
            go_roundw
            case rel => exact ⟨k + 1, by omega, by go_num, L2, bl⟩
            case measure => simp [intOf]; omega
          · have t1 : decide (65 ≤ ci) = false := decide_eq_false (by omega)
            clear hg hci e1 hx256 ha L
            go_wp2
            go_roundw
            case rel => exact ⟨k + 1, by omega, by go_num, L2, bl⟩
            case measure => simp [intOf]; omega
      · have hkn : k = n := by omega
        have g3 : decide (k < n) = false := decide_eq_false hlt
        have g1 : decide ((k : Int) < (n : Int)) = false := decide_eq_false (by omega)
        have ST : Hid (Lab.low (s.take k) ++ s.drop k = Lab.lower s) := Lib.hid (by
          have hl := HN.out
          unfold Lab.lower
          rw [if_pos HR.out, List.take_of_length_le (by omega), List.drop_of_length_le (by omega), List.append_nil])
        obtain ⟨t, ht⟩ : ∃ t, Lab.lower s = t := ⟨_, rfl⟩
        have HTT := Lib.hid ht
        rw [ht] at ST
        clear ht
        have hlen : t.length = n := by rw [← ST.out, Lab.low_mid_len, HN.out]
        rw [ST.out] at L
        have R := L.rd
        rw [hlen] at R
        have E := run_str 28 9 5 Try.underlying28 Try.underlying5 Try.underlying9 (c := cp) R
        clear hkn hlt hlen R
        go_wp2
        go_ret
        exact ⟨by rw [HTT.out]; rfl, bl⟩
theorem clower_at {s t : List UInt8} (e : Lab.lower s = t) (hs : s.length ≤ 100000) (w : World) : Calls Try.prog 48 #[.string (strB s)] w (TxO t w) := by have h := bllower_any s hs w; rw [e] at h; exact h
set_option maxHeartbeats 2000000 in
theorem blsame_any (a b : List UInt8) (ha : a.length ≤ 100000) (hb : b.length ≤ 100000) (w : World) : Calls Try.prog 40 #[.string (strB a), .string (strB b)] w (BoB (Lab.same a b) w) := by
  obtain ⟨za, hza⟩ : ∃ z, Lab.right a = z := ⟨_, rfl⟩
  obtain ⟨zb, hzb⟩ : ∃ z, Lab.right b = z := ⟨_, rfl⟩
  obtain ⟨ta, hta⟩ : ∃ z, Lab.lower a = z := ⟨_, rfl⟩
  obtain ⟨tb, htb⟩ : ∃ z, Lab.lower b = z := ⟨_, rfl⟩
  have EZ : Hid (Lab.same a b = (za && zb && decide (ta = tb))) := Lib.hid (by unfold Lab.same; rw [hza, hzb, hta, htb])
  obtain ⟨z, hz⟩ : ∃ z, Lab.same a b = z := ⟨_, rfl⟩
  rw [hz] at EZ ⊢
  have HZA := Lib.hid hza
  have HZB := Lib.hid hzb
  have HTA := Lib.hid hta
  have HTB := Lib.hid htb
  have b0 := Below.refl w.heap.size w
  clear hz hza hzb hta htb
  cases za
  · have EZ2 : Hid (z = false) := Lib.hid (by rw [EZ.out]; rfl)
    clear EZ
    go_enter Try.func40, Try.ntmps40
    go_wp2_with fail
    refine (cright_at HZA.out (by omega) w).mono ?_
    rintro e w1 ⟨rfl, h1⟩
    replace b0 := b0.trans (h1.mono b0.size)
    clear h1
    go_wp2
    go_ret
    exact ⟨ret_bool EZ2.out.symm, b0⟩
  cases zb
  · have EZ2 : Hid (z = false) := Lib.hid (by rw [EZ.out]; rfl)
    clear EZ
    go_enter Try.func40, Try.ntmps40
    go_wp2_with fail
    refine (cright_at HZA.out (by omega) w).mono ?_
    rintro e w1 ⟨rfl, h1⟩
    replace b0 := b0.trans (h1.mono b0.size)
    clear h1
    go_wp2_with fail
    refine (cright_at HZB.out (by omega) w1).mono ?_
    rintro e w2 ⟨rfl, h1⟩
    replace b0 := b0.trans (h1.mono b0.size)
    clear h1
    go_wp2
    go_ret
    exact ⟨ret_bool EZ2.out.symm, b0⟩
  have EZ2 : Hid ((strB ta == strB tb) = z) := Lib.hid (by rw [EZ.out, strB_beq]; simp)
  have EZ3 : Hid ((ta == tb) = z) := Lib.hid (by rw [EZ.out]; by_cases h : ta = tb <;> simp [h])
  clear EZ
  go_enter Try.func40, Try.ntmps40
  go_wp2_with fail
  refine (cright_at HZA.out (by omega) w).mono ?_
  rintro e w1 ⟨rfl, h1⟩
  replace b0 := b0.trans (h1.mono b0.size)
  clear h1
  go_wp2_with fail
  refine (cright_at HZB.out (by omega) w1).mono ?_
  rintro e w2 ⟨rfl, h1⟩
  replace b0 := b0.trans (h1.mono b0.size)
  clear h1
  go_wp2_with fail
  refine (clower_at HTA.out ha w2).mono ?_
  rintro e w3 ⟨rfl, h1⟩
  replace b0 := b0.trans (h1.mono b0.size)
  clear h1
  go_wp2_with fail
  refine (clower_at HTB.out hb w3).mono ?_
  rintro e w4 ⟨rfl, h1⟩
  replace b0 := b0.trans (h1.mono b0.size)
  clear h1
  have e1 := EZ2.out
  have e2 := EZ3.out
  go_wp2
  go_ret
  exact ⟨ret_bool (by first | exact e1 | exact e2 | simp_all), b0⟩
end Go.Proofs.Ytbioblknhfmelaa

