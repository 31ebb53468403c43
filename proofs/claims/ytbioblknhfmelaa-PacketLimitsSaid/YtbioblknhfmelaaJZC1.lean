/- ZC1 (merged). -/
import Derived.Shelf.Abstract
import Derived.Test.YtbioblknhfmelaaJZRef2
import Derived.Test.YtbioblknhfmelaaJBC
namespace Go.Proofs.Ytbioblknhfmelaa
set_option linter.unusedVariables false
set_option linter.unusedSimpArgs false
open Go.RowKit
theorem pfits_at {n : Int} {z : Bool} (e : decide (Pk.two n) = z) (w : World) : Calls Try.prog 26 #[.int .i64 n] w fun e w' => e = .returned (.bool z) ∧ w = w' := by
  have HE := Lib.hid e
  clear e
  by_cases h1 : 0 ≤ n
  · have f1 : decide (0 ≤ n) = true := decide_eq_true h1
    by_cases h2 : n ≤ 65535
    · have f2 : decide (n ≤ 65535) = true := decide_eq_true h2
      have Z : Hid (z = true) := Lib.hid (by rw [← HE.out]; exact decide_eq_true ⟨h1, h2⟩)
      go_enter Try.func26, Try.ntmps26
      go_wp2
      go_ret
      exact ⟨ret_bool Z.out.symm, rfl⟩
    · have f2 : decide (n ≤ 65535) = false := decide_eq_false h2
      have Z : Hid (z = false) := Lib.hid (by rw [← HE.out]; exact decide_eq_false (fun h => h2 h.2))
      go_enter Try.func26, Try.ntmps26
      go_wp2
      go_ret
      exact ⟨ret_bool Z.out.symm, rfl⟩
  · have f1 : decide (0 ≤ n) = false := decide_eq_false h1
    have Z : Hid (z = false) := Lib.hid (by rw [← HE.out]; exact decide_eq_false (fun h => h1 h.1))
    go_enter Try.func26, Try.ntmps26
    go_wp2
    go_ret
    exact ⟨ret_bool Z.out.symm, rfl⟩
def zq (q : Qst) : Value := .agg #[.string (strB q.name), .int .i64 q.typ, .int .i64 q.cls]
def zr (r : Rrc) : Value := .agg #[.string (strB r.name), .int .i64 r.typ, .int .i64 r.cls, .int .i64 r.ttl, .string (strB r.data)]
set_option maxHeartbeats 4000000 in
theorem pmayAsk_any (q : Qst) (hs : q.name.length ≤ 100000) (w : World) : Calls Try.prog 28 #[zq q] w (BoB (decide (Pk.rightQ q)) w) := by
  obtain ⟨z, hz⟩ : ∃ z, decide (Pk.rightQ q) = z := ⟨_, rfl⟩
  rw [hz]
  have HZ := Lib.hid hz
  clear hz
  obtain ⟨zn, hzn⟩ : ∃ z, Lab.right q.name = z := ⟨_, rfl⟩
  have ZN := Lib.hid hzn
  have no : ¬ Pk.rightQ q → z = false := fun h1 => by rw [← HZ.out]; exact decide_eq_false h1
  have yes : Pk.rightQ q → z = true := fun h1 => by rw [← HZ.out]; exact decide_eq_true h1
  have NO := Lib.hid no
  have YES := Lib.hid yes
  clear hzn no yes HZ
  have b1 : Below w.heap.size w (w.alloc (.cells #[.string (strB q.name), .int .i64 q.typ, .int .i64 q.cls] 48)) := (Below.refl _ _).alloc (Nat.le_refl _) _
  have X := Box.new w #[.string (strB q.name), .int .i64 q.typ, .int .i64 q.cls] 48
  have HS := Lib.hid hs
  clear hs
  simp only [zq]
  go_enter Try.func28, Try.ntmps28
  go_wp2_with fail
  generalize (w.alloc (.cells #[.string (strB q.name), .int .i64 q.typ, .int .i64 q.cls] 48)) = w1 at *
  refine (cright_at ZN.out (Nat.le_trans HS.out (by omega)) w1).mono ?_
  rintro e w2 ⟨rfl, hb⟩
  have X2 := X.below hb X.lt
  replace b1 := b1.trans (hb.mono b1.size)
  have d0 := X2.at 0 rfl
  have d1 := X2.at 1 rfl
  have d2 := X2.at 2 rfl
  clear hb X X2
  cases zn
  · have Z : Hid (z = false) := Lib.hid (NO.out fun h1 => by rw [h1.1] at ZN; exact absurd ZN.out (by simp))
    go_wp2
    go_ret
    exact ⟨ret_bool Z.out.symm, b1⟩
  by_cases ht0 : Pk.two q.typ
  rotate_left
  · have Z : Hid (z = false) := Lib.hid (NO.out fun h1 => ht0 h1.2.1)
    have T := decide_eq_false ht0
    clear ht0
    go_wp2_with fail
    refine (pfits_at T w2).mono ?_
    rintro e w3 ⟨rfl, rfl⟩
    go_wp2
    go_ret
    exact ⟨ret_bool Z.out.symm, b1⟩
  have HT0 := Lib.hid ht0
  clear ht0
  go_wp2_with fail
  refine (pfits_at (decide_eq_true HT0.out) w2).mono ?_
  rintro e w3 ⟨rfl, rfl⟩
  by_cases ht1 : Pk.two q.cls
  rotate_left
  · have Z : Hid (z = false) := Lib.hid (NO.out fun h1 => ht1 h1.2.2)
    have T := decide_eq_false ht1
    clear ht1
    go_wp2_with fail
    refine (pfits_at T w2).mono ?_
    rintro e w3 ⟨rfl, rfl⟩
    go_wp2
    go_ret
    exact ⟨ret_bool Z.out.symm, b1⟩
  have HT1 := Lib.hid ht1
  clear ht1
  go_wp2_with fail
  refine (pfits_at (decide_eq_true HT1.out) w2).mono ?_
  rintro e w3 ⟨rfl, rfl⟩
  have Z : Hid (z = true) := Lib.hid (YES.out ⟨ZN.out, HT0.out, HT1.out⟩)
  go_wp2
  go_ret
  exact ⟨ret_bool Z.out.symm, b1⟩
set_option maxHeartbeats 4000000 in
theorem pmayTell_any (r : Rrc) (hs : r.name.length ≤ 100000) (hd : r.data.length ≤ 140737488351232) (w : World) : Calls Try.prog 30 #[zr r] w (BoB (decide (Pk.rightR r)) w) := by
  obtain ⟨z, hz⟩ : ∃ z, decide (Pk.rightR r) = z := ⟨_, rfl⟩
  rw [hz]
  have HZ := Lib.hid hz
  clear hz
  obtain ⟨zn, hzn⟩ : ∃ z, Lab.right r.name = z := ⟨_, rfl⟩
  have ZN := Lib.hid hzn
  have no : ¬ Pk.rightR r → z = false := fun h1 => by rw [← HZ.out]; exact decide_eq_false h1
  have yes : Pk.rightR r → z = true := fun h1 => by rw [← HZ.out]; exact decide_eq_true h1
  have NO := Lib.hid no
  have YES := Lib.hid yes
  clear hzn no yes HZ
  have b1 : Below w.heap.size w (w.alloc (.cells #[.string (strB r.name), .int .i64 r.typ, .int .i64 r.cls, .int .i64 r.ttl, .string (strB r.data)] 50)) := (Below.refl _ _).alloc (Nat.le_refl _) _
  have X := Box.new w #[.string (strB r.name), .int .i64 r.typ, .int .i64 r.cls, .int .i64 r.ttl, .string (strB r.data)] 50
  have HS := Lib.hid hs
  clear hs
  have hds : (strB r.data).size = r.data.length := strB_sz _
  have hdm : (strB r.data).size ≤ 140737488351232 := by rw [hds]; exact hd
  have HD := Lib.hid hds
  clear hds hd
  simp only [zr]
  go_enter Try.func30, Try.ntmps30
  go_wp2_with fail
  generalize (w.alloc (.cells #[.string (strB r.name), .int .i64 r.typ, .int .i64 r.cls, .int .i64 r.ttl, .string (strB r.data)] 50)) = w1 at *
  refine (cright_at ZN.out (Nat.le_trans HS.out (by omega)) w1).mono ?_
  rintro e w2 ⟨rfl, hb⟩
  have X2 := X.below hb X.lt
  replace b1 := b1.trans (hb.mono b1.size)
  have d0 := X2.at 0 rfl
  have d1 := X2.at 1 rfl
  have d2 := X2.at 2 rfl
  have d3 := X2.at 3 rfl
  have d4 := X2.at 4 rfl
  clear hb X X2
  cases zn
  · have Z : Hid (z = false) := Lib.hid (NO.out fun h1 => by rw [h1.1] at ZN; exact absurd ZN.out (by simp))
    go_wp2
    go_ret
    exact ⟨ret_bool Z.out.symm, b1⟩
  by_cases ht0 : Pk.two r.typ
  rotate_left
  · have Z : Hid (z = false) := Lib.hid (NO.out fun h1 => ht0 h1.2.1)
    have T := decide_eq_false ht0
    clear ht0
    go_wp2_with fail
    refine (pfits_at T w2).mono ?_
    rintro e w3 ⟨rfl, rfl⟩
    go_wp2
    go_ret
    exact ⟨ret_bool Z.out.symm, b1⟩
  have HT0 := Lib.hid ht0
  clear ht0
  go_wp2_with fail
  refine (pfits_at (decide_eq_true HT0.out) w2).mono ?_
  rintro e w3 ⟨rfl, rfl⟩
  by_cases ht1 : Pk.two r.cls
  rotate_left
  · have Z : Hid (z = false) := Lib.hid (NO.out fun h1 => ht1 h1.2.2.1)
    have T := decide_eq_false ht1
    clear ht1
    go_wp2_with fail
    refine (pfits_at T w2).mono ?_
    rintro e w3 ⟨rfl, rfl⟩
    go_wp2
    go_ret
    exact ⟨ret_bool Z.out.symm, b1⟩
  have HT1 := Lib.hid ht1
  clear ht1
  go_wp2_with fail
  refine (pfits_at (decide_eq_true HT1.out) w2).mono ?_
  rintro e w3 ⟨rfl, rfl⟩
  by_cases h0 : 0 ≤ r.ttl
  rotate_left
  · have Z : Hid (z = false) := Lib.hid (NO.out fun h1 => h0 h1.2.2.2.1)
    have t0 : decide (0 ≤ r.ttl) = false := decide_eq_false h0
    clear h0
    go_wp2
    go_ret
    exact ⟨ret_bool Z.out.symm, b1⟩
  have t0 : decide (0 ≤ r.ttl) = true := decide_eq_true h0
  by_cases h31 : r.ttl ≤ 2147483647
  rotate_left
  · have Z : Hid (z = false) := Lib.hid (NO.out fun h1 => h31 h1.2.2.2.2.1)
    have t1 : decide (r.ttl ≤ 2147483647) = false := decide_eq_false h31
    clear h31 h0
    go_wp2
    go_ret
    exact ⟨ret_bool Z.out.symm, b1⟩
  have t1 : decide (r.ttl ≤ 2147483647) = true := decide_eq_true h31
  by_cases h1k : (strB r.data).size ≤ 1000
  rotate_left
  · have Z : Hid (z = false) := Lib.hid (NO.out fun h1 => h1k (by rw [HD.out]; exact h1.2.2.2.2.2))
    have t2 : decide ((((strB r.data).size : Nat) : Int) ≤ 1000) = false := decide_eq_false (by omega)
    have t2' : decide ((strB r.data).size ≤ 1000) = false := decide_eq_false h1k
    clear h31 h0 h1k
    go_wp2
    go_ret
    exact ⟨ret_bool Z.out.symm, b1⟩
  have t2 : decide ((((strB r.data).size : Nat) : Int) ≤ 1000) = true := decide_eq_true (by omega)
  have t2' : decide ((strB r.data).size ≤ 1000) = true := decide_eq_true h1k
  have Z : Hid (z = true) := Lib.hid (YES.out ⟨ZN.out, HT0.out, HT1.out, h0, h31, by rw [← HD.out]; exact h1k⟩)
  clear h31 h0 h1k
  go_wp2
  go_ret
  exact ⟨ret_bool Z.out.symm, b1⟩
set_option maxHeartbeats 2000000 in
theorem pequalQ_any (l l' : List Qst) (A A' : Option Addr) (n n' c c' : Nat) (w : World) (h : Rd w w.heap.size 3 A n (QC l)) (h' : Rd w w.heap.size 3 A' n' (QC l')) (hn : n ≤ 4398046511104) (hn' : n' ≤ 4398046511104) :
    Calls Try.prog 33 #[.slice A n c, .slice A' n' c'] w fun e w' => e = .returned (.bool (decide (l = l'))) ∧ ∃ q, w' = w.drewN q := by
  have HL := Lib.hid h.lenQ
  have HL' := Lib.hid h'.lenQ
  by_cases hnn : n = n'
  · subst hnn
    go_enter Try.func33, Try.ntmps33
    go_wp2
    go_loopw [13] (fun i wr => ∃ k q : Nat, k ≤ n ∧ i = .int .i64 k ∧ l.take k = l'.take k ∧ wr = w.drewN q) (fun i _ => n - (intOf i).toNat)
    case atStart => exact ⟨0, 0, by omega, rfl, rfl, rfl⟩
    case round =>
      obtain ⟨k, q, hk, rfl, hno, rfl⟩ := hrel
      have HN := Lib.hid hno
      clear hno
      by_cases hlt : k < n
      · obtain ⟨b, o, x, e1, hb, hx, c0, c1, c2⟩ := h.atQ hlt
        obtain ⟨b', o', y, e2, hb', hy, d0, d1, d2⟩ := h'.atQ hlt
        subst e1 e2
        have HX := Lib.hid hx
        have HY := Lib.hid hy
        clear hx hy
        have hk0 : (0 : Int) ≤ (k : Int) := by omega
        have heq := fun w => eq_qst x y w
        have hgd := guard_qst
        rcases hxy : qsB x y
        · have hne : l ≠ l' := fun e => by
            have h1 := HX.out
            rw [e, HY.out] at h1
            injection h1 with h1
            rw [h1] at hxy
            simp [qsB] at hxy
          have HNE := Lib.hid hne
          rw [hxy] at heq
          clear hne hxy
          go_wp2
          go_quiet (fail)
          go_wp2
          go_ret
          exact ⟨ret_bool (decide_eq_false HNE.out).symm, q + nq, by simp⟩
        · have hex : x = y := of_decide_eq_true hxy
          have HXY := Lib.hid hex
          rw [hxy] at heq
          clear hex hxy
          go_wp2
          go_quiet (fail)
          go_wp2
          go_roundw
          case rel => exact ⟨k + 1, q + nq, by omega, by go_num, by rw [take_more HX.out, take_more HY.out, HN.out, HXY.out], by simp⟩
          case measure => simp [intOf]; omega
      · have he : l = l' := by
          have h1 := HN.out
          rwa [List.take_of_length_le (by have := HL.out; omega), List.take_of_length_le (by have := HL'.out; omega)] at h1
        have HE := Lib.hid he
        clear he
        go_wp2
        go_ret
        exact ⟨ret_bool (decide_eq_true HE.out).symm, q, rfl⟩
  · have t1 : ((n : Int) != (n' : Int)) = true := by rw [bne_iff_ne]; omega
    have HNE : Hid (l ≠ l') := Lib.hid fun e => by
      have h1 := HL.out
      rw [e, HL'.out] at h1
      exact hnn h1.symm
    clear hnn
    go_enter Try.func33, Try.ntmps33
    go_wp2
    go_ret
    exact ⟨ret_bool (decide_eq_false HNE.out).symm, 0, rfl⟩
set_option maxHeartbeats 2000000 in
theorem pequalR_any (l l' : List Rrc) (A A' : Option Addr) (n n' c c' : Nat) (w : World) (h : Rd w w.heap.size 5 A n (RC l)) (h' : Rd w w.heap.size 5 A' n' (RC l')) (hn : n ≤ 4398046511104) (hn' : n' ≤ 4398046511104) :
    Calls Try.prog 34 #[.slice A n c, .slice A' n' c'] w fun e w' => e = .returned (.bool (decide (l = l'))) ∧ ∃ q, w' = w.drewN q := by
  have HL := Lib.hid h.lenR
  have HL' := Lib.hid h'.lenR
  by_cases hnn : n = n'
  · subst hnn
    go_enter Try.func34, Try.ntmps34
    go_wp2
    go_loopw [13] (fun i wr => ∃ k q : Nat, k ≤ n ∧ i = .int .i64 k ∧ l.take k = l'.take k ∧ wr = w.drewN q) (fun i _ => n - (intOf i).toNat)
    case atStart => exact ⟨0, 0, by omega, rfl, rfl, rfl⟩
    case round =>
      obtain ⟨k, q, hk, rfl, hno, rfl⟩ := hrel
      have HN := Lib.hid hno
      clear hno
      by_cases hlt : k < n
      · obtain ⟨b, o, x, e1, hb, hx, c0, c1, c2, c3, c4⟩ := h.atR hlt
        obtain ⟨b', o', y, e2, hb', hy, d0, d1, d2, d3, d4⟩ := h'.atR hlt
        subst e1 e2
        have HX := Lib.hid hx
        have HY := Lib.hid hy
        clear hx hy
        have hk0 : (0 : Int) ≤ (k : Int) := by omega
        have heq := fun w => eq_rrc x y w
        have hgd := guard_rrc
        rcases hxy : rrB x y
        · have hne : l ≠ l' := fun e => by
            have h1 := HX.out
            rw [e, HY.out] at h1
            injection h1 with h1
            rw [h1] at hxy
            simp [rrB] at hxy
          have HNE := Lib.hid hne
          rw [hxy] at heq
          clear hne hxy
          go_wp2
          go_quiet (fail)
          go_wp2
          go_ret
          exact ⟨ret_bool (decide_eq_false HNE.out).symm, q + nq, by simp⟩
        · have hex : x = y := of_decide_eq_true hxy
          have HXY := Lib.hid hex
          rw [hxy] at heq
          clear hex hxy
          go_wp2
          go_quiet (fail)
          go_wp2
          go_roundw
          case rel => exact ⟨k + 1, q + nq, by omega, by go_num, by rw [take_more HX.out, take_more HY.out, HN.out, HXY.out], by simp⟩
          case measure => simp [intOf]; omega
      · have he : l = l' := by
          have h1 := HN.out
          rwa [List.take_of_length_le (by have := HL.out; omega), List.take_of_length_le (by have := HL'.out; omega)] at h1
        have HE := Lib.hid he
        clear he
        go_wp2
        go_ret
        exact ⟨ret_bool (decide_eq_true HE.out).symm, q, rfl⟩
  · have t1 : ((n : Int) != (n' : Int)) = true := by rw [bne_iff_ne]; omega
    have HNE : Hid (l ≠ l') := Lib.hid fun e => by
      have h1 := HL.out
      rw [e, HL'.out] at h1
      exact hnn h1.symm
    clear hnn
    go_enter Try.func34, Try.ntmps34
    go_wp2
    go_ret
    exact ⟨ret_bool (decide_eq_false HNE.out).symm, 0, rfl⟩
/-- a packet's lists of records -/
def zls (u : Pv) : Value := .agg #[.slice u.A2 u.n2 u.c2, .slice u.A3 u.n3 u.c3, .slice u.A4 u.n4 u.c4]
set_option maxHeartbeats 2000000 in
theorem plists_any (u : Pv) (w : World) : Calls Try.prog 22 #[pval u] w fun e w' => e = .returned (zls u) ∧ Below w.heap.size w w' := by
  have b1 : Below w.heap.size w (w.alloc (.cells #[.int .i64 u.x.id, .int .i64 u.x.flags, .slice u.A1 u.n1 u.c1, .slice u.A2 u.n2 u.c2, .slice u.A3 u.n3 u.c3, .slice u.A4 u.n4 u.c4] 25)) := (Below.refl _ _).alloc (Nat.le_refl _) _
  have hse : (w.alloc (.cells #[.int .i64 u.x.id, .int .i64 u.x.flags, .slice u.A1 u.n1 u.c1, .slice u.A2 u.n2 u.c2, .slice u.A3 u.n3 u.c3, .slice u.A4 u.n4 u.c4] 25)).heap.size = w.heap.size + 1 := by simp
  have x1 := Box.new w #[.int .i64 u.x.id, .int .i64 u.x.flags, .slice u.A1 u.n1 u.c1, .slice u.A2 u.n2 u.c2, .slice u.A3 u.n3 u.c3, .slice u.A4 u.n4 u.c4] 25
  have b2 := b1.alloc b1.size (.cells #[.slice none 0 0, .slice none 0 0, .slice none 0 0] 51)
  have x2 := Box.new (w.alloc (.cells #[.int .i64 u.x.id, .int .i64 u.x.flags, .slice u.A1 u.n1 u.c1, .slice u.A2 u.n2 u.c2, .slice u.A3 u.n3 u.c3, .slice u.A4 u.n4 u.c4] 25)) #[.slice none 0 0, .slice none 0 0, .slice none 0 0] 51
  have k3 := (x1.alloc (.cells #[.slice none 0 0, .slice none 0 0, .slice none 0 0] 51)).at 3 rfl
  have k4 := (x1.alloc (.cells #[.slice none 0 0, .slice none 0 0, .slice none 0 0] 51)).at 4 rfl
  have k5 := (x1.alloc (.cells #[.slice none 0 0, .slice none 0 0, .slice none 0 0] 51)).at 5 rfl
  have b3 := b1.alloc b1.size (.cells #[.slice u.A2 u.n2 u.c2, .slice u.A3 u.n3 u.c3, .slice u.A4 u.n4 u.c4] 51)
  have x3 := Box.new (w.alloc (.cells #[.int .i64 u.x.id, .int .i64 u.x.flags, .slice u.A1 u.n1 u.c1, .slice u.A2 u.n2 u.c2, .slice u.A3 u.n3 u.c3, .slice u.A4 u.n4 u.c4] 25)) #[.slice u.A2 u.n2 u.c2, .slice u.A3 u.n3 u.c3, .slice u.A4 u.n4 u.c4] 51
  rw [hse] at x2 x3
  have m0 := x3.at 0 rfl
  have m1 := x3.at 1 rfl
  have m2 := x3.at 2 rfl
  have mz := x3.lt
  simp only [pval]
  go_enter Try.func22, Try.ntmps22
  go_wp2_with fail
  refine bodyPost_ret (v := zls u) (by simp [results, Try.results22, go_sem, m0, m1, m2, mz, zls]; try rfl) rfl ⟨rfl, b3⟩
end Go.Proofs.Ytbioblknhfmelaa

