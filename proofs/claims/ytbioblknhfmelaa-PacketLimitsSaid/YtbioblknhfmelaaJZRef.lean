/- ZRef (merged). -/
import Derived.Test.YtbioblknhfmelaaJZMem
import Derived.Test.YtbioblknhfmelaaJBR
namespace Go.Proofs.Ytbioblknhfmelaa
set_option linter.unusedVariables false
set_option linter.unusedSimpArgs false
open Go.RowKit
theorem rtwo_at {n : Int} {z : Bool} (e : decide (Pk.two n) = z) (w : World) : Calls Try.prog 31 #[.int .i64 n] w fun e w' => e = .returned (.bool z) ∧ w = w' := by
  have HE := Lib.hid e
  clear e
  by_cases h1 : 0 ≤ n
  · have f1 : decide (0 ≤ n) = true := decide_eq_true h1
    by_cases h2 : n ≤ 65535
    · have f2 : decide (n ≤ 65535) = true := decide_eq_true h2
      have Z : Hid (z = true) := Lib.hid (by rw [← HE.out]; exact decide_eq_true ⟨h1, h2⟩)
      go_enter Try.func31, Try.ntmps31
      go_wp2
      go_ret
      exact ⟨ret_bool Z.out.symm, rfl⟩
    · have f2 : decide (n ≤ 65535) = false := decide_eq_false h2
      have Z : Hid (z = false) := Lib.hid (by rw [← HE.out]; exact decide_eq_false (fun h => h2 h.2))
      go_enter Try.func31, Try.ntmps31
      go_wp2
      go_ret
      exact ⟨ret_bool Z.out.symm, rfl⟩
  · have f1 : decide (0 ≤ n) = false := decide_eq_false h1
    have Z : Hid (z = false) := Lib.hid (by rw [← HE.out]; exact decide_eq_false (fun h => h1 h.1))
    go_enter Try.func31, Try.ntmps31
    go_wp2
    go_ret
    exact ⟨ret_bool Z.out.symm, rfl⟩
def qsB (x y : Qst) : Bool := decide (x = y)
def rrB (x y : Rrc) : Bool := decide (x = y)
theorem eq_qst (x y : Qst) (w : World) : (Op.equalIn 10000 48 (.agg #[.string (strB x.name), .int .i64 x.typ, .int .i64 x.cls]) (.agg #[.string (strB y.name), .int .i64 y.typ, .int .i64 y.cls])).run Try.prog w = .ok (qsB x y) w := by
  have h0 := Try.underlying48
  simp [go_sem, run_equalIn_agg]
  obtain ⟨a, b, c⟩ := x
  obtain ⟨a', b', c'⟩ := y
  unfold qsB
  by_cases e1 : a = a'
  · by_cases e2 : b = b'
    · by_cases e3 : c = c'
      · simp [e1, e2, e3]
      · simp [e1, e2, e3]
    · simp [e1, e2]
  · simp [e1]
theorem eq_rrc (x y : Rrc) (w : World) : (Op.equalIn 10000 50 (.agg #[.string (strB x.name), .int .i64 x.typ, .int .i64 x.cls, .int .i64 x.ttl, .string (strB x.data)]) (.agg #[.string (strB y.name), .int .i64 y.typ, .int .i64 y.cls, .int .i64 y.ttl, .string (strB y.data)])).run Try.prog w = .ok (rrB x y) w := by
  have h0 := Try.underlying50
  simp [go_sem, run_equalIn_agg]
  obtain ⟨a, b, c, d, e⟩ := x
  obtain ⟨a', b', c', d', e'⟩ := y
  unfold rrB
  by_cases e1 : a = a'
  · by_cases e2 : b = b'
    · by_cases e3 : c = c'
      · by_cases e4 : d = d'
        · by_cases e5 : e = e'
          · simp [e1, e2, e3, e4, e5]
          · simp [e1, e2, e3, e4, e5]
        · simp [e1, e2, e3, e4]
      · simp [e1, e2, e3]
    · simp [e1, e2]
  · simp [e1]
theorem guard_qst : Try.prog.eqGuardType Try.prog.depth 48 = false := by kernel_rfl
theorem guard_rrc : Try.prog.eqGuardType Try.prog.depth 50 = false := by kernel_rfl
set_option maxHeartbeats 2000000 in
set_option maxRecDepth 20000 in
theorem rsameqs_any (l l' : List Qst) (A A' : Option Addr) (n n' c c' : Nat) (w : World) (h : Rd w w.heap.size 3 A n (QC l)) (h' : Rd w w.heap.size 3 A' n' (QC l')) (hn : n ≤ 70368744177664) (hn' : n' ≤ 70368744177664) :
    Calls Try.prog 17 #[.slice A n c, .slice A' n' c'] w (BoB (decide (l = l')) w) := by
  have hl := h.lenQ
  have hl' := h'.lenQ
  have HL := Lib.hid hl
  have HL' := Lib.hid hl'
  have hgd := guard_qst
  clear hl hl'
  by_cases hnn : n = n'
  · subst hnn
    go_enter Try.func17, Try.ntmps17
    go_wp2
    go_loopw [5] (fun i wr => ∃ k q : Nat, k ≤ n ∧ i = .int .i64 k ∧ l.take k = l'.take k ∧ wr = w.drewN q) (fun i _ => n - (intOf i).toNat)
    case atStart => exact ⟨0, 0, by omega, rfl, rfl, rfl⟩
    case round =>
      obtain ⟨k, q, hk, rfl, hno, rfl⟩ := hrel
      have HN := Lib.hid hno
      clear hno
      by_cases hlt : k < n
      · obtain ⟨bb, oo, x, e1, hb, hx, c0, c1, c2⟩ := h.atQ hlt
        obtain ⟨bb', oo', y, e2, hb', hy, d0, d1, d2⟩ := h'.atQ hlt
        subst e1 e2
        have HX := Lib.hid hx
        have HY := Lib.hid hy
        clear hx hy
        have hk0 : (0 : Int) ≤ (k : Int) := by omega
        have eq := eq_qst x y
        by_cases hxy : x = y
        · have e3 : qsB x y = true := decide_eq_true hxy
          rw [e3] at eq
          have HXY := Lib.hid hxy
          clear hxy
          go_wp2
          go_quiet (fail)
          go_wp2
          go_roundw
          case rel => exact ⟨k + 1, q + nq, by omega, by go_num, by rw [take_more HX.out, take_more HY.out, HN.out, HXY.out], by simp⟩
          case measure => simp [intOf]; omega
        · have e3 : qsB x y = false := decide_eq_false hxy
          rw [e3] at eq
          have hne : l ≠ l' := fun e => by
            have h1 := HX.out
            rw [e, HY.out] at h1
            injection h1 with h1
            exact hxy h1.symm
          have HNE := Lib.hid hne
          clear hne hxy
          go_wp2
          go_quiet (fail)
          go_wp2
          go_ret
          exact ⟨ret_bool (decide_eq_false HNE.out).symm, kdrewB (kdrewB (Below.refl _ _) _) _⟩
      · have he : l = l' := by
          have h1 := HN.out
          rwa [List.take_of_length_le (by have := HL.out; omega), List.take_of_length_le (by have := HL'.out; omega)] at h1
        have HE := Lib.hid he
        clear he
        go_wp2
        go_ret
        exact ⟨ret_bool (decide_eq_true HE.out).symm, kdrewB (Below.refl _ _) _⟩
  · have t1 : ((n : Int) != (n' : Int)) = true := by rw [bne_iff_ne]; omega
    have hne : l ≠ l' := fun e => by
      have h1 := HL.out
      rw [e, HL'.out] at h1
      exact hnn h1.symm
    have HNE := Lib.hid hne
    clear hne hnn
    go_enter Try.func17, Try.ntmps17
    go_wp2
    go_ret
    exact ⟨ret_bool (decide_eq_false HNE.out).symm, Below.refl _ _⟩
set_option maxHeartbeats 2000000 in
set_option maxRecDepth 20000 in
theorem rsamers_any (l l' : List Rrc) (A A' : Option Addr) (n n' c c' : Nat) (w : World) (h : Rd w w.heap.size 5 A n (RC l)) (h' : Rd w w.heap.size 5 A' n' (RC l')) (hn : n ≤ 70368744177664) (hn' : n' ≤ 70368744177664) :
    Calls Try.prog 35 #[.slice A n c, .slice A' n' c'] w (BoB (decide (l = l')) w) := by
  have hl := h.lenR
  have hl' := h'.lenR
  have HL := Lib.hid hl
  have HL' := Lib.hid hl'
  have hgd := guard_rrc
  clear hl hl'
  by_cases hnn : n = n'
  · subst hnn
    go_enter Try.func35, Try.ntmps35
    go_wp2
    go_loopw [5] (fun i wr => ∃ k q : Nat, k ≤ n ∧ i = .int .i64 k ∧ l.take k = l'.take k ∧ wr = w.drewN q) (fun i _ => n - (intOf i).toNat)
    case atStart => exact ⟨0, 0, by omega, rfl, rfl, rfl⟩
    case round =>
      obtain ⟨k, q, hk, rfl, hno, rfl⟩ := hrel
      have HN := Lib.hid hno
      clear hno
      by_cases hlt : k < n
      · obtain ⟨bb, oo, x, e1, hb, hx, c0, c1, c2, c3, c4⟩ := h.atR hlt
        obtain ⟨bb', oo', y, e2, hb', hy, d0, d1, d2, d3, d4⟩ := h'.atR hlt
        subst e1 e2
        have HX := Lib.hid hx
        have HY := Lib.hid hy
        clear hx hy
        have hk0 : (0 : Int) ≤ (k : Int) := by omega
        have eq := eq_rrc x y
        by_cases hxy : x = y
        · have e3 : rrB x y = true := decide_eq_true hxy
          rw [e3] at eq
          have HXY := Lib.hid hxy
          clear hxy
          go_wp2
          go_quiet (fail)
          go_wp2
          go_roundw
          case rel => exact ⟨k + 1, q + nq, by omega, by go_num, by rw [take_more HX.out, take_more HY.out, HN.out, HXY.out], by simp⟩
          case measure => simp [intOf]; omega
        · have e3 : rrB x y = false := decide_eq_false hxy
          rw [e3] at eq
          have hne : l ≠ l' := fun e => by
            have h1 := HX.out
            rw [e, HY.out] at h1
            injection h1 with h1
            exact hxy h1.symm
          have HNE := Lib.hid hne
          clear hne hxy
          go_wp2
          go_quiet (fail)
          go_wp2
          go_ret
          exact ⟨ret_bool (decide_eq_false HNE.out).symm, kdrewB (kdrewB (Below.refl _ _) _) _⟩
      · have he : l = l' := by
          have h1 := HN.out
          rwa [List.take_of_length_le (by have := HL.out; omega), List.take_of_length_le (by have := HL'.out; omega)] at h1
        have HE := Lib.hid he
        clear he
        go_wp2
        go_ret
        exact ⟨ret_bool (decide_eq_true HE.out).symm, kdrewB (Below.refl _ _) _⟩
  · have t1 : ((n : Int) != (n' : Int)) = true := by rw [bne_iff_ne]; omega
    have hne : l ≠ l' := fun e => by
      have h1 := HL.out
      rw [e, HL'.out] at h1
      exact hnn h1.symm
    have HNE := Lib.hid hne
    clear hne hnn
    go_enter Try.func35, Try.ntmps35
    go_wp2
    go_ret
    exact ⟨ret_bool (decide_eq_false HNE.out).symm, Below.refl _ _⟩
set_option maxHeartbeats 4000000 in
set_option maxRecDepth 20000 in
theorem rrecords_any (l : List Rrc) (A : Option Addr) (n c : Nat) (w : World) (h : Rd w w.heap.size 5 A n (RC l)) (hn : n ≤ 70368744177664) (hl : ∀ r ∈ l, r.name.length ≤ 100000 ∧ r.data.length ≤ 140737488351232) :
    Calls Try.prog 32 #[.slice A n c] w (BoB (decide (Pk.rightL l)) w) := by
  have hlen := h.lenR
  have HL := Lib.hid hlen
  have HS := Lib.hid hl
  obtain ⟨z, hz⟩ : ∃ z, decide (Pk.rightL l) = z := ⟨_, rfl⟩
  have HZ := Lib.hid hz
  rw [hz]
  have b := Below.refl w.heap.size w
  clear hlen hl hz
  go_enter Try.func32, Try.ntmps32
  go_wp2
  go_loopw [3] (fun i wr => ∃ k : Nat, k ≤ n ∧ k ≤ 101 ∧ i = .int .i64 (k : Int) ∧ Hid (∀ r ∈ l.take k, Pk.rightR r) ∧ Rd wr wr.heap.size 5 A n (RC l) ∧ Below w.heap.size w wr) (fun i _ => n - (intOf i).toNat)
  case atStart => exact ⟨0, by omega, by omega, rfl, Lib.hid (by simp), h, b⟩
  case round =>
    clear h b
    obtain ⟨k, hk, hk1, rfl, HK, R, b⟩ := hrel
    have hk0 : (0 : Int) ≤ (k : Int) := by omega
    by_cases hlt : k < n
    rotate_left
    · have g1 : decide ((k : Int) < (n : Int)) = false := decide_eq_false (by omega)
      have g2 : decide (k < n) = false := decide_eq_false hlt
      by_cases hc : n ≤ 100
      · have g3 : decide ((n : Int) ≤ 100) = true := decide_eq_true (by omega)
        have Z : Hid (z = true) := Lib.hid (by rw [← HZ.out]; exact decide_eq_true ⟨by rw [HL.out]; exact hc, by have h1 := HK.out; rwa [List.take_of_length_le (by have := HL.out; omega)] at h1⟩)
        go_wp2
        go_ret
        exact ⟨ret_bool Z.out.symm, b⟩
      · have g3 : decide ((n : Int) ≤ 100) = false := decide_eq_false (by omega)
        have Z : Hid (z = false) := Lib.hid (by rw [← HZ.out]; exact decide_eq_false fun h1 => hc (by have := h1.1; rw [HL.out] at this; exact this))
        go_wp2
        go_ret
        exact ⟨ret_bool Z.out.symm, b⟩
    have g1 : decide ((k : Int) < (n : Int)) = true := decide_eq_true (by omega)
    have g2 : decide (k < n) = true := decide_eq_true hlt
    by_cases h101 : k < 101
    rotate_left
    · have g4 : decide ((k : Int) < 101) = false := decide_eq_false (by omega)
      have g5 : decide (k < 101) = false := decide_eq_false h101
      have g3 : decide ((n : Int) ≤ 100) = false := decide_eq_false (by omega)
      have Z : Hid (z = false) := Lib.hid (by rw [← HZ.out]; exact decide_eq_false fun h1 => by have := h1.1; have := HL.out; omega)
      go_wp2
      go_ret
      exact ⟨ret_bool Z.out.symm, b⟩
    have g4 : decide ((k : Int) < 101) = true := decide_eq_true (by omega)
    have g5 : decide (k < 101) = true := decide_eq_true h101
    obtain ⟨bk, ok', r, rfl, hbk, hr, c0, c1, c2, c3, c4⟩ := R.atR hlt
    have hrl := HS.out r (List.mem_of_getElem? hr)
    have HR := Lib.hid hr
    have HRL := Lib.hid hrl
    have no : ¬ Pk.rightR r → z = false := fun h1 => by rw [← HZ.out]; exact decide_eq_false fun h2 => h1 (h2.2 r (List.mem_of_getElem? HR.out))
    have NO := Lib.hid no
    have HK2 : Pk.rightR r → Hid (∀ y ∈ l.take (k + 1), Pk.rightR y) := fun h1 => Lib.hid (by
      rw [take_more HR.out]
      intro y hy
      rcases List.mem_append.1 hy with hy | hy
      · exact HK.out y hy
      · obtain rfl := List.mem_singleton.1 hy; exact h1)
    have HHK := Lib.hid HK2
    clear no HK2 hr
    have hds : (strB r.data).size = r.data.length := strB_sz _
    have hdm : (strB r.data).size ≤ 140737488351232 := by rw [hds]; exact hrl.2
    have HD := Lib.hid hds
    clear hds hrl
    obtain ⟨zn, hzn⟩ : ∃ z, Lab.right r.name = z := ⟨_, rfl⟩
    have ZN := Lib.hid hzn
    clear hzn
    go_wp2_with fail
    refine (rlright_at ZN.out HRL.out.1 wr).mono ?_
    rintro e w2 ⟨rfl, hb⟩
    replace R := R.belowH hb
    replace b := b.trans (hb.mono b.size)
    have d1 := (hb.cell (p := ⟨bk, ok' + k * 5 + 1, none⟩) (by show bk < _; omega)).trans c1
    have d2 := (hb.cell (p := ⟨bk, ok' + k * 5 + 2, none⟩) (by show bk < _; omega)).trans c2
    have d3 := (hb.cell (p := ⟨bk, ok' + k * 5 + 3, none⟩) (by show bk < _; omega)).trans c3
    have d4 := (hb.cell (p := ⟨bk, ok' + k * 5 + 4, none⟩) (by show bk < _; omega)).trans c4
    clear hb c0 c1 c2 c3 c4
    cases zn
    · have Z : Hid (z = false) := Lib.hid (NO.out fun h1 => by rw [h1.1] at ZN; exact absurd ZN.out (by simp))
      go_wp2
      go_ret
      exact ⟨ret_bool Z.out.symm, b⟩
    by_cases ht : Pk.two r.typ
    rotate_left
    · have Z : Hid (z = false) := Lib.hid (NO.out fun h1 => ht h1.2.1)
      have T := decide_eq_false ht
      clear ht
      go_wp2_with fail
      refine (rtwo_at T w2).mono ?_
      rintro e w3 ⟨rfl, rfl⟩
      go_wp2
      go_ret
      exact ⟨ret_bool Z.out.symm, b⟩
    have HT := Lib.hid ht
    clear ht
    by_cases hc : Pk.two r.cls
    rotate_left
    · have Z : Hid (z = false) := Lib.hid (NO.out fun h1 => hc h1.2.2.1)
      have T := decide_eq_false hc
      clear hc
      go_wp2_with fail
      refine (rtwo_at (decide_eq_true HT.out) w2).mono ?_
      rintro e w3 ⟨rfl, rfl⟩
      go_wp2_with fail
      refine (rtwo_at T w2).mono ?_
      rintro e w3 ⟨rfl, rfl⟩
      go_wp2
      go_ret
      exact ⟨ret_bool Z.out.symm, b⟩
    have HC := Lib.hid hc
    clear hc
    go_wp2_with fail
    refine (rtwo_at (decide_eq_true HT.out) w2).mono ?_
    rintro e w3 ⟨rfl, rfl⟩
    go_wp2_with fail
    refine (rtwo_at (decide_eq_true HC.out) w2).mono ?_
    rintro e w3 ⟨rfl, rfl⟩
    by_cases h0 : r.ttl < 0
    · have Z : Hid (z = false) := Lib.hid (NO.out fun h1 => by have := h1.2.2.2.1; omega)
      have t0 : decide (r.ttl < 0) = true := decide_eq_true h0
      clear h0
      go_wp2
      go_ret
      exact ⟨ret_bool Z.out.symm, b⟩
    have t0 : decide (r.ttl < 0) = false := decide_eq_false h0
    by_cases h31 : 2147483647 < r.ttl
    · have Z : Hid (z = false) := Lib.hid (NO.out fun h1 => by have := h1.2.2.2.2.1; omega)
      have t1 : decide (2147483647 < r.ttl) = true := decide_eq_true h31
      clear h31 h0
      go_wp2
      go_ret
      exact ⟨ret_bool Z.out.symm, b⟩
    have t1 : decide (2147483647 < r.ttl) = false := decide_eq_false h31
    by_cases h1k : 1000 < (strB r.data).size
    · have Z : Hid (z = false) := Lib.hid (NO.out fun h1 => by have := h1.2.2.2.2.2; have := HD.out; omega)
      have t2 : decide (1000 < (((strB r.data).size : Nat) : Int)) = true := decide_eq_true (by omega)
      clear h31 h0
      go_wp2
      go_ret
      exact ⟨ret_bool Z.out.symm, b⟩
    have t2 : decide (1000 < (((strB r.data).size : Nat) : Int)) = false := decide_eq_false (by omega)
    have HKN := HHK.out ⟨ZN.out, HT.out, HC.out, by omega, by omega, by have := HD.out; omega⟩
    clear h31 h0 HHK
    go_wp2
    go_roundw
    case rel => exact ⟨k + 1, by omega, by omega, by go_num, HKN, R, b⟩
    case measure => simp [intOf]; omega
end Go.Proofs.Ytbioblknhfmelaa

