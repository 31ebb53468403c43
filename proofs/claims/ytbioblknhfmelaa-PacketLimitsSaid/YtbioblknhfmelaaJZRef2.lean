/- ZRef2 (merged). -/
import Derived.Test.YtbioblknhfmelaaJZRef
namespace Go.Proofs.Ytbioblknhfmelaa
set_option linter.unusedVariables false
set_option linter.unusedSimpArgs false
open Go.RowKit
theorem rrecords_at {l : List Rrc} {z : Bool} (e : decide (Pk.rightL l) = z) (A : Option Addr) (n c : Nat) (w : World) (h : Rd w w.heap.size 5 A n (RC l)) (hn : n ≤ 70368744177664) (hl : ∀ r ∈ l, r.name.length ≤ 100000 ∧ r.data.length ≤ 140737488351232) :
    Calls Try.prog 32 #[.slice A n c] w (BoB z w) := by have h1 := rrecords_any l A n c w h hn hl; rw [e] at h1; exact h1
theorem rsameqs_at {l l' : List Qst} {z : Bool} (e : decide (l = l') = z) (A A' : Option Addr) (n n' c c' : Nat) (w : World) (h : Rd w w.heap.size 3 A n (QC l)) (h' : Rd w w.heap.size 3 A' n' (QC l')) (hn : n ≤ 70368744177664) (hn' : n' ≤ 70368744177664) :
    Calls Try.prog 17 #[.slice A n c, .slice A' n' c'] w (BoB z w) := by have h1 := rsameqs_any l l' A A' n n' c c' w h h' hn hn'; rw [e] at h1; exact h1
theorem rsamers_at {l l' : List Rrc} {z : Bool} (e : decide (l = l') = z) (A A' : Option Addr) (n n' c c' : Nat) (w : World) (h : Rd w w.heap.size 5 A n (RC l)) (h' : Rd w w.heap.size 5 A' n' (RC l')) (hn : n ≤ 70368744177664) (hn' : n' ≤ 70368744177664) :
    Calls Try.prog 35 #[.slice A n c, .slice A' n' c'] w (BoB z w) := by have h1 := rsamers_any l l' A A' n n' c c' w h h' hn hn'; rw [e] at h1; exact h1
/-- a packet of which each name and each text is as memory holds, no name beyond what the walks take -/
def PMod (u : Pv) : Prop := (u.n1 ≤ 4398046511104 ∧ u.n2 ≤ 4398046511104 ∧ u.n3 ≤ 4398046511104 ∧ u.n4 ≤ 4398046511104) ∧ (∀ q ∈ u.x.qs, q.name.length ≤ 100000) ∧ (∀ r ∈ u.x.an, r.name.length ≤ 100000 ∧ r.data.length ≤ 140737488351232) ∧ (∀ r ∈ u.x.au, r.name.length ≤ 100000 ∧ r.data.length ≤ 140737488351232) ∧ (∀ r ∈ u.x.mo, r.name.length ≤ 100000 ∧ r.data.length ≤ 140737488351232)
set_option maxHeartbeats 4000000 in
set_option maxRecDepth 20000 in
theorem rpright_any (u : Pv) (w : World) (h : PRd w u) (hm : PMod u) : Calls Try.prog 13 #[pval u] w (BoB (decide (Pk.right u.x)) w) := by
  obtain ⟨x, A1, n1, c1, A2, n2, c2, A3, n3, c3, A4, n4, c4⟩ := u

  obtain ⟨z, hz⟩ : ∃ z, decide (Pk.right x) = z := ⟨_, rfl⟩
  have HZ := Lib.hid hz
  rw [hz]
  obtain ⟨⟨hn1, hn2, hn3, hn4⟩, hq, ha, hb', hc⟩ := hm
  have HQ := Lib.hid hq
  have HA := Lib.hid ha
  have HB := Lib.hid hb'
  have HC := Lib.hid hc
  simp only [pval]
  have X := Box.new w #[.int .i64 x.id, .int .i64 x.flags, .slice A1 n1 c1, .slice A2 n2 c2, .slice A3 n3 c3, .slice A4 n4 c4] 25
  have b := (Below.refl w.heap.size w).alloc (Nat.le_refl _) (.cells #[.int .i64 x.id, .int .i64 x.flags, .slice A1 n1 c1, .slice A2 n2 c2, .slice A3 n3 c3, .slice A4 n4 c4] 25)
  replace h := h.belowH b
  obtain ⟨R1, R2, R3, R4⟩ := h
  have hl1 : x.qs.length = n1 := R1.lenQ
  have HL := Lib.hid hl1
  clear hz hq ha hb' hc hl1
  go_enter Try.func13, Try.ntmps13
  go_wp2
  generalize w.alloc (.cells #[.int .i64 x.id, .int .i64 x.flags, .slice A1 n1 c1, .slice A2 n2 c2, .slice A3 n3 c3, .slice A4 n4 c4] 25) = w1 at *
  go_loopw [3] (fun i wr => ∃ k : Nat, k ≤ n1 ∧ k ≤ 101 ∧ i = .int .i64 (k : Int) ∧ Hid (∀ q ∈ x.qs.take k, Pk.rightQ q) ∧ Box wr w.heap.size 25 #[.int .i64 x.id, .int .i64 x.flags, .slice A1 n1 c1, .slice A2 n2 c2, .slice A3 n3 c3, .slice A4 n4 c4] ∧ PRd wr (⟨x, A1, n1, c1, A2, n2, c2, A3, n3, c3, A4, n4, c4⟩ : Pv) ∧ Below w.heap.size w wr) (fun i _ => n1 - (intOf i).toNat)
  case atStart => exact ⟨0, by omega, by omega, rfl, Lib.hid (by simp), X, ⟨R1, R2, R3, R4⟩, b⟩
  case round =>
    clear X R1 R2 R3 R4 b
    obtain ⟨k, hk, hk1, rfl, HK, X, R, b⟩ := hrel
    have hk0 : (0 : Int) ≤ (k : Int) := by omega
    have x0 := X.at 0 rfl
    have x1 := X.at 1 rfl
    have x2 := X.at 2 rfl
    have x3 := X.at 3 rfl
    have x4 := X.at 4 rfl
    have x5 := X.at 5 rfl
    have rest : Hid ((¬ (∀ q ∈ x.qs.take k, Pk.rightQ q) ∨ ¬ k < n1 ∨ ¬ k < 101) → True) := Lib.hid fun _ => trivial
    by_cases hgo : k < n1 ∧ k < 101
    · obtain ⟨hlt, h101⟩ := hgo
      have g1 : decide ((k : Int) < (n1 : Int)) = true := decide_eq_true (by omega)
      have g2 : decide (k < n1) = true := decide_eq_true hlt
      have g4 : decide ((k : Int) < 101) = true := decide_eq_true (by omega)
      have g5 : decide (k < 101) = true := decide_eq_true h101
      have R1 : Rd wr wr.heap.size 3 A1 n1 (QC x.qs) := R.1
      obtain ⟨bk, ok', q, rfl, hbk, hqk, q0, q1, q2⟩ := R1.atQ hlt
      clear R1
      have hql := HQ.out q (List.mem_of_getElem? hqk)
      have HQK := Lib.hid hqk
      have HQL := Lib.hid hql
      have NO : Hid (¬ Pk.rightQ q → z = false) := Lib.hid fun h1 => by rw [← HZ.out]; exact decide_eq_false fun h2 => h1 (h2.2.2.1.2 q (List.mem_of_getElem? HQK.out))
      have HHK : Hid (Pk.rightQ q → Hid (∀ y ∈ x.qs.take (k + 1), Pk.rightQ y)) := Lib.hid fun h1 => Lib.hid (by
        rw [take_more HQK.out]
        intro y hy
        rcases List.mem_append.1 hy with hy | hy
        · exact HK.out y hy
        · obtain rfl := List.mem_singleton.1 hy; exact h1)
      have Y := Box.new wr #[.string (strB q.name), .int .i64 q.typ, .int .i64 q.cls] 48
      replace X := X.alloc (.cells #[.string (strB q.name), .int .i64 q.typ, .int .i64 q.cls] 48)
      replace R := R.belowH ((Below.refl _ _).alloc (Nat.le_refl _) (.cells #[.string (strB q.name), .int .i64 q.typ, .int .i64 q.cls] 48))
      replace b := b.alloc b.size (.cells #[.string (strB q.name), .int .i64 q.typ, .int .i64 q.cls] 48)
      obtain ⟨zn, hzn⟩ : ∃ z, Lab.right q.name = z := ⟨_, rfl⟩
      have ZN := Lib.hid hzn
      have y0 := Y.at 0 rfl
      clear hzn hqk hql
      go_wp2_with fail
      generalize wr.alloc (.cells #[.string (strB q.name), .int .i64 q.typ, .int .i64 q.cls] 48) = w2 at *
      refine (rlright_at ZN.out HQL.out w2).mono ?_
      rintro e w3 ⟨rfl, hb⟩
      replace X := X.belowH hb
      replace Y := Y.belowH hb
      replace R := R.belowH hb
      replace b := b.trans (hb.mono b.size)
      clear hb y0 q0 q1 q2 x0 x1 x2 x3 x4 x5
      have y1 := Y.at 1 rfl
      have y2 := Y.at 2 rfl
      cases zn
      · have Z : Hid (z = false) := Lib.hid (NO.out fun h1 => by rw [h1.1] at ZN; exact absurd ZN.out (by simp))
        go_wp2
        go_ret
        exact ⟨ret_bool Z.out.symm, b⟩
      by_cases ht : Pk.two q.typ
      rotate_left
      · have Z : Hid (z = false) := Lib.hid (NO.out fun h1 => ht h1.2.1)
        have T := decide_eq_false ht
        clear ht
        go_wp2_with fail
        refine (rtwo_at T w3).mono ?_
        rintro e w4 ⟨rfl, rfl⟩
        go_wp2
        go_ret
        exact ⟨ret_bool Z.out.symm, b⟩
      have HT := Lib.hid ht
      clear ht
      go_wp2_with fail
      refine (rtwo_at (decide_eq_true HT.out) w3).mono ?_
      rintro e w4 ⟨rfl, rfl⟩
      by_cases hc : Pk.two q.cls
      rotate_left
      · have Z : Hid (z = false) := Lib.hid (NO.out fun h1 => hc h1.2.2)
        have T := decide_eq_false hc
        clear hc
        go_wp2_with fail
        refine (rtwo_at T w3).mono ?_
        rintro e w4 ⟨rfl, rfl⟩
        go_wp2
        go_ret
        exact ⟨ret_bool Z.out.symm, b⟩
      have HCC := Lib.hid hc
      clear hc
      have HKN := HHK.out ⟨ZN.out, HT.out, HCC.out⟩
      go_wp2_with fail
      refine (rtwo_at (decide_eq_true HCC.out) w3).mono ?_
      rintro e w4 ⟨rfl, rfl⟩
      go_wp2
      go_roundw
      case rel => exact ⟨k + 1, by omega, by omega, by go_num, HKN, X, R, b⟩
      case measure => simp [intOf]; omega
    · have gg : (decide ((k : Int) < (n1 : Int)) = false ∧ decide (k < n1) = false) ∨ ((decide ((k : Int) < (n1 : Int)) = true ∧ decide (k < n1) = true) ∧ (decide ((k : Int) < 101) = false ∧ decide (k < 101) = false)) := by
        by_cases h1 : k < n1
        · exact Or.inr ⟨⟨decide_eq_true (by omega), decide_eq_true h1⟩, ⟨decide_eq_false (by omega), decide_eq_false (by omega)⟩⟩
        · exact Or.inl ⟨decide_eq_false (by omega), decide_eq_false h1⟩
      have HGO := Lib.hid hgo
      have HQS : Hid (decide ((n1 : Int) ≤ 100) = true → x.qs.length ≤ 100 ∧ ∀ q ∈ x.qs, Pk.rightQ q) := Lib.hid fun h1 => by
        have h2 := of_decide_eq_true h1
        have h3 := HGO.out
        have h4 := HK.out
        rw [List.take_of_length_le (by have := HL.out; omega)] at h4
        exact ⟨by have := HL.out; omega, h4⟩
      have HQN : Hid (decide ((n1 : Int) ≤ 100) = false → z = false) := Lib.hid fun h1 => by
        have h2 := of_decide_eq_false h1
        rw [← HZ.out]
        exact decide_eq_false fun h3 => by have := h3.2.2.1.1; have := HL.out; omega
      obtain ⟨g1, hg1⟩ : ∃ g, decide ((n1 : Int) ≤ 100) = g := ⟨_, rfl⟩
      rw [hg1] at HQS HQN
      obtain ⟨zi, hzi⟩ : ∃ z, decide (Pk.two x.id) = z := ⟨_, rfl⟩
      obtain ⟨zf, hzf⟩ : ∃ z, decide (Pk.two x.flags) = z := ⟨_, rfl⟩
      obtain ⟨za, hza⟩ : ∃ z, decide (Pk.rightL x.an) = z := ⟨_, rfl⟩
      obtain ⟨zu, hzu⟩ : ∃ z, decide (Pk.rightL x.au) = z := ⟨_, rfl⟩
      obtain ⟨zm, hzm⟩ : ∃ z, decide (Pk.rightL x.mo) = z := ⟨_, rfl⟩
      have EZ : Hid (z = (zi && zf && g1 && za && zu && zm)) := Lib.hid (by
        cases hg : g1 with
        | false => rw [HQN.out hg]; simp
        | true =>
          have h1 := HQS.out hg
          rw [← HZ.out, ← hzi, ← hzf, ← hza, ← hzu, ← hzm]
          unfold Pk.right
          simp only [Bool.and_true]
          by_cases q1 : Pk.two x.id <;> by_cases q2 : Pk.two x.flags <;> by_cases q3 : Pk.rightL x.an <;> by_cases q4 : Pk.rightL x.au <;> by_cases q5 : Pk.rightL x.mo <;> simp [q1, q2, q3, q4, q5, h1.1] <;> exact h1.2)
      have ZI := Lib.hid hzi
      have ZF := Lib.hid hzf
      have ZA := Lib.hid hza
      have ZU := Lib.hid hzu
      have ZM := Lib.hid hzm
      clear hgo hzi hzf hza hzu hzm HQS HQN
      have again : ∀ (gA : decide ((k : Int) < (n1 : Int)) = false ∨ True), True := fun _ => trivial
      rcases gg with ⟨gA, gA2⟩ | ⟨⟨gA, gA2⟩, ⟨gB, gB2⟩⟩
      · skip
        go_wp2_with fail
        refine (rtwo_at ZI.out wr).mono ?_
        rintro e w4 ⟨rfl, rfl⟩
        cases zi
        · have Z : Hid (z = false) := Lib.hid (by rw [EZ.out]; rfl)
          go_wp2
          go_ret
          exact ⟨ret_bool Z.out.symm, b⟩
        go_wp2_with fail
        refine (rtwo_at ZF.out wr).mono ?_
        rintro e w4 ⟨rfl, rfl⟩
        cases zf
        · have Z : Hid (z = false) := Lib.hid (by rw [EZ.out]; rfl)
          go_wp2
          go_ret
          exact ⟨ret_bool Z.out.symm, b⟩
        cases g1
        · have Z : Hid (z = false) := Lib.hid (by rw [EZ.out]; rfl)
          go_wp2
          go_ret
          exact ⟨ret_bool Z.out.symm, b⟩
        go_wp2_with fail
        refine (rrecords_at ZA.out A2 n2 c2 wr R.2.1 (by omega) HA.out).mono ?_
        rintro e w4 ⟨rfl, hb⟩
        replace X := X.belowH hb
        replace R := R.belowH hb
        replace b := b.trans (hb.mono b.size)
        clear hb x0 x1 x2 x3 x4 x5
        have x4 := X.at 4 rfl
        cases za
        · have Z : Hid (z = false) := Lib.hid (by rw [EZ.out]; rfl)
          go_wp2
          go_ret
          exact ⟨ret_bool Z.out.symm, b⟩
        go_wp2_with fail
        refine (rrecords_at ZU.out A3 n3 c3 w4 R.2.2.1 (by omega) HB.out).mono ?_
        rintro e w5 ⟨rfl, hb⟩
        replace X := X.belowH hb
        replace R := R.belowH hb
        replace b := b.trans (hb.mono b.size)
        clear hb x4
        have x5 := X.at 5 rfl
        cases zu
        · have Z : Hid (z = false) := Lib.hid (by rw [EZ.out]; rfl)
          go_wp2
          go_ret
          exact ⟨ret_bool Z.out.symm, b⟩
        go_wp2_with fail
        refine (rrecords_at ZM.out A4 n4 c4 w5 R.2.2.2 (by omega) HC.out).mono ?_
        rintro e w6 ⟨rfl, hb⟩
        replace b := b.trans (hb.mono b.size)
        have Z : Hid (z = zm) := Lib.hid (by rw [EZ.out]; rfl)
        clear hb EZ
        go_wp2
        go_ret
        exact ⟨ret_bool Z.out.symm, b⟩
      · skip
        go_wp2_with fail
        refine (rtwo_at ZI.out wr).mono ?_
        rintro e w4 ⟨rfl, rfl⟩
        cases zi
        · have Z : Hid (z = false) := Lib.hid (by rw [EZ.out]; rfl)
          go_wp2
          go_ret
          exact ⟨ret_bool Z.out.symm, b⟩
        go_wp2_with fail
        refine (rtwo_at ZF.out wr).mono ?_
        rintro e w4 ⟨rfl, rfl⟩
        cases zf
        · have Z : Hid (z = false) := Lib.hid (by rw [EZ.out]; rfl)
          go_wp2
          go_ret
          exact ⟨ret_bool Z.out.symm, b⟩
        cases g1
        · have Z : Hid (z = false) := Lib.hid (by rw [EZ.out]; rfl)
          go_wp2
          go_ret
          exact ⟨ret_bool Z.out.symm, b⟩
        go_wp2_with fail
        refine (rrecords_at ZA.out A2 n2 c2 wr R.2.1 (by omega) HA.out).mono ?_
        rintro e w4 ⟨rfl, hb⟩
        replace X := X.belowH hb
        replace R := R.belowH hb
        replace b := b.trans (hb.mono b.size)
        clear hb x0 x1 x2 x3 x4 x5
        have x4 := X.at 4 rfl
        cases za
        · have Z : Hid (z = false) := Lib.hid (by rw [EZ.out]; rfl)
          go_wp2
          go_ret
          exact ⟨ret_bool Z.out.symm, b⟩
        go_wp2_with fail
        refine (rrecords_at ZU.out A3 n3 c3 w4 R.2.2.1 (by omega) HB.out).mono ?_
        rintro e w5 ⟨rfl, hb⟩
        replace X := X.belowH hb
        replace R := R.belowH hb
        replace b := b.trans (hb.mono b.size)
        clear hb x4
        have x5 := X.at 5 rfl
        cases zu
        · have Z : Hid (z = false) := Lib.hid (by rw [EZ.out]; rfl)
          go_wp2
          go_ret
          exact ⟨ret_bool Z.out.symm, b⟩
        go_wp2_with fail
        refine (rrecords_at ZM.out A4 n4 c4 w5 R.2.2.2 (by omega) HC.out).mono ?_
        rintro e w6 ⟨rfl, hb⟩
        replace b := b.trans (hb.mono b.size)
        have Z : Hid (z = zm) := Lib.hid (by rw [EZ.out]; rfl)
        clear hb EZ
        go_wp2
        go_ret
        exact ⟨ret_bool Z.out.symm, b⟩
set_option maxHeartbeats 4000000 in
set_option maxRecDepth 20000 in
theorem rpsame_any (u v : Pv) (w : World) (h : PRd w u) (h' : PRd w v) (hu : u.n1 ≤ 70368744177664 ∧ u.n2 ≤ 70368744177664 ∧ u.n3 ≤ 70368744177664 ∧ u.n4 ≤ 70368744177664) (hv : v.n1 ≤ 70368744177664 ∧ v.n2 ≤ 70368744177664 ∧ v.n3 ≤ 70368744177664 ∧ v.n4 ≤ 70368744177664) :
    Calls Try.prog 15 #[pval u, pval v] w (BoB (decide (u.x = v.x)) w) := by
  obtain ⟨z, hz⟩ : ∃ z, decide (u.x = v.x) = z := ⟨_, rfl⟩
  rw [hz]
  obtain ⟨zi, hzi⟩ : ∃ z, (u.x.id == v.x.id) = z := ⟨_, rfl⟩
  obtain ⟨zf, hzf⟩ : ∃ z, (u.x.flags == v.x.flags) = z := ⟨_, rfl⟩
  obtain ⟨zq, hzq⟩ : ∃ z, decide (u.x.qs = v.x.qs) = z := ⟨_, rfl⟩
  obtain ⟨za, hza⟩ : ∃ z, decide (u.x.an = v.x.an) = z := ⟨_, rfl⟩
  obtain ⟨zu, hzu⟩ : ∃ z, decide (u.x.au = v.x.au) = z := ⟨_, rfl⟩
  obtain ⟨zm, hzm⟩ : ∃ z, decide (u.x.mo = v.x.mo) = z := ⟨_, rfl⟩
  have EZ : Hid (z = (zi && zf && zq && za && zu && zm)) := Lib.hid (by
    rw [← hz, ← hzi, ← hzf, ← hzq, ← hza, ← hzu, ← hzm]
    obtain ⟨⟨i1, f1, q1, a1, u1, m1⟩, _, _, _, _, _, _, _, _, _, _, _, _⟩ := u
    obtain ⟨⟨i2, f2, q2, a2, u2, m2⟩, _, _, _, _, _, _, _, _, _, _, _, _⟩ := v
    simp only [Pck.mk.injEq]
    by_cases e1 : i1 = i2 <;> by_cases e2 : f1 = f2 <;> by_cases e3 : q1 = q2 <;> by_cases e4 : a1 = a2 <;> by_cases e5 : u1 = u2 <;> by_cases e6 : m1 = m2 <;> simp [e1, e2, e3, e4, e5, e6])
  have ZQ := Lib.hid hzq
  have ZA := Lib.hid hza
  have ZU := Lib.hid hzu
  have ZM := Lib.hid hzm
  have ZI := Lib.hid hzi
  have ZF := Lib.hid hzf
  clear hz hzi hzf hzq hza hzu hzm
  simp only [pval]
  have X := (Box.new w #[.int .i64 u.x.id, .int .i64 u.x.flags, .slice u.A1 u.n1 u.c1, .slice u.A2 u.n2 u.c2, .slice u.A3 u.n3 u.c3, .slice u.A4 u.n4 u.c4] 25).alloc (.cells #[.int .i64 v.x.id, .int .i64 v.x.flags, .slice v.A1 v.n1 v.c1, .slice v.A2 v.n2 v.c2, .slice v.A3 v.n3 v.c3, .slice v.A4 v.n4 v.c4] 25)
  have Y := Box.new (w.alloc (.cells #[.int .i64 u.x.id, .int .i64 u.x.flags, .slice u.A1 u.n1 u.c1, .slice u.A2 u.n2 u.c2, .slice u.A3 u.n3 u.c3, .slice u.A4 u.n4 u.c4] 25)) #[.int .i64 v.x.id, .int .i64 v.x.flags, .slice v.A1 v.n1 v.c1, .slice v.A2 v.n2 v.c2, .slice v.A3 v.n3 v.c3, .slice v.A4 v.n4 v.c4] 25
  have b := ((Below.refl w.heap.size w).alloc (Nat.le_refl _) (.cells #[.int .i64 u.x.id, .int .i64 u.x.flags, .slice u.A1 u.n1 u.c1, .slice u.A2 u.n2 u.c2, .slice u.A3 u.n3 u.c3, .slice u.A4 u.n4 u.c4] 25)).alloc (by simp) (.cells #[.int .i64 v.x.id, .int .i64 v.x.flags, .slice v.A1 v.n1 v.c1, .slice v.A2 v.n2 v.c2, .slice v.A3 v.n3 v.c3, .slice v.A4 v.n4 v.c4] 25)
  rw [show (w.alloc (.cells #[.int .i64 u.x.id, .int .i64 u.x.flags, .slice u.A1 u.n1 u.c1, .slice u.A2 u.n2 u.c2, .slice u.A3 u.n3 u.c3, .slice u.A4 u.n4 u.c4] 25)).heap.size = w.heap.size + 1 by simp] at Y
  replace h := h.belowH b
  replace h' := h'.belowH b
  have x0 := X.at 0 rfl
  have x1 := X.at 1 rfl
  have x2 := X.at 2 rfl
  have x3 := X.at 3 rfl
  have x4 := X.at 4 rfl
  have x5 := X.at 5 rfl
  have y0 := Y.at 0 rfl
  have y1 := Y.at 1 rfl
  have y2 := Y.at 2 rfl
  have y3 := Y.at 3 rfl
  have y4 := Y.at 4 rfl
  have y5 := Y.at 5 rfl
  have zi2 := ZI.out
  have zf2 := ZF.out
  go_enter Try.func15, Try.ntmps15
  cases zi
  · have Z : Hid (z = false) := Lib.hid (by rw [EZ.out]; rfl)
    go_wp2
    go_ret
    exact ⟨ret_bool Z.out.symm, b⟩
  cases zf
  · have Z : Hid (z = false) := Lib.hid (by rw [EZ.out]; rfl)
    go_wp2
    go_ret
    exact ⟨ret_bool Z.out.symm, b⟩
  go_wp2_with fail
  generalize (w.alloc (.cells #[.int .i64 u.x.id, .int .i64 u.x.flags, .slice u.A1 u.n1 u.c1, .slice u.A2 u.n2 u.c2, .slice u.A3 u.n3 u.c3, .slice u.A4 u.n4 u.c4] 25)).alloc (.cells #[.int .i64 v.x.id, .int .i64 v.x.flags, .slice v.A1 v.n1 v.c1, .slice v.A2 v.n2 v.c2, .slice v.A3 v.n3 v.c3, .slice v.A4 v.n4 v.c4] 25) = w1 at *
  refine (rsameqs_at ZQ.out u.A1 v.A1 u.n1 v.n1 u.c1 v.c1 w1 h.1 h'.1 hu.1 hv.1).mono ?_
  rintro e w2 ⟨rfl, hb⟩
  replace X := X.belowH hb
  replace Y := Y.belowH hb
  replace h := h.belowH hb
  replace h' := h'.belowH hb
  replace b := b.trans (hb.mono b.size)
  clear hb x0 x1 x2 x3 x4 x5 y0 y1 y2 y3 y4 y5
  have x0 := X.at 0 rfl
  have x1 := X.at 1 rfl
  have x2 := X.at 2 rfl
  have x3 := X.at 3 rfl
  have x4 := X.at 4 rfl
  have x5 := X.at 5 rfl
  have y0 := Y.at 0 rfl
  have y1 := Y.at 1 rfl
  have y2 := Y.at 2 rfl
  have y3 := Y.at 3 rfl
  have y4 := Y.at 4 rfl
  have y5 := Y.at 5 rfl
  cases zq
  · have Z : Hid (z = false) := Lib.hid (by rw [EZ.out]; rfl)
    go_wp2
    go_ret
    exact ⟨ret_bool Z.out.symm, b⟩
  go_wp2_with fail
  refine (rsamers_at ZA.out u.A2 v.A2 u.n2 v.n2 u.c2 v.c2 w2 h.2.1 h'.2.1 hu.2.1 hv.2.1).mono ?_
  rintro e w3 ⟨rfl, hb⟩
  replace X := X.belowH hb
  replace Y := Y.belowH hb
  replace h := h.belowH hb
  replace h' := h'.belowH hb
  replace b := b.trans (hb.mono b.size)
  clear hb x0 x1 x2 x3 x4 x5 y0 y1 y2 y3 y4 y5
  have x0 := X.at 0 rfl
  have x1 := X.at 1 rfl
  have x2 := X.at 2 rfl
  have x3 := X.at 3 rfl
  have x4 := X.at 4 rfl
  have x5 := X.at 5 rfl
  have y0 := Y.at 0 rfl
  have y1 := Y.at 1 rfl
  have y2 := Y.at 2 rfl
  have y3 := Y.at 3 rfl
  have y4 := Y.at 4 rfl
  have y5 := Y.at 5 rfl
  cases za
  · have Z : Hid (z = false) := Lib.hid (by rw [EZ.out]; rfl)
    go_wp2
    go_ret
    exact ⟨ret_bool Z.out.symm, b⟩
  go_wp2_with fail
  refine (rsamers_at ZU.out u.A3 v.A3 u.n3 v.n3 u.c3 v.c3 w3 h.2.2.1 h'.2.2.1 hu.2.2.1 hv.2.2.1).mono ?_
  rintro e w4 ⟨rfl, hb⟩
  replace X := X.belowH hb
  replace Y := Y.belowH hb
  replace h := h.belowH hb
  replace h' := h'.belowH hb
  replace b := b.trans (hb.mono b.size)
  clear hb x0 x1 x2 x3 x4 x5 y0 y1 y2 y3 y4 y5
  have x0 := X.at 0 rfl
  have x1 := X.at 1 rfl
  have x2 := X.at 2 rfl
  have x3 := X.at 3 rfl
  have x4 := X.at 4 rfl
  have x5 := X.at 5 rfl
  have y0 := Y.at 0 rfl
  have y1 := Y.at 1 rfl
  have y2 := Y.at 2 rfl
  have y3 := Y.at 3 rfl
  have y4 := Y.at 4 rfl
  have y5 := Y.at 5 rfl
  cases zu
  · have Z : Hid (z = false) := Lib.hid (by rw [EZ.out]; rfl)
    go_wp2
    go_ret
    exact ⟨ret_bool Z.out.symm, b⟩
  go_wp2_with fail
  refine (rsamers_at ZM.out u.A4 v.A4 u.n4 v.n4 u.c4 v.c4 w4 h.2.2.2 h'.2.2.2 hu.2.2.2 hv.2.2.2).mono ?_
  rintro e w5 ⟨rfl, hb⟩
  replace b := b.trans (hb.mono b.size)
  have Z : Hid (z = zm) := Lib.hid (by rw [EZ.out]; rfl)
  clear hb EZ
  go_wp2
  go_ret
  exact ⟨ret_bool Z.out.symm, b⟩
end Go.Proofs.Ytbioblknhfmelaa

