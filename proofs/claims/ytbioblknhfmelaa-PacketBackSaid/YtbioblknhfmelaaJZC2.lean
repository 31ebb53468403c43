/- ZC2 (merged). -/
import Derived.Test.YtbioblknhfmelaaJZC1
namespace Go.Proofs.Ytbioblknhfmelaa
set_option linter.unusedVariables false
set_option linter.unusedSimpArgs false
open Go.RowKit
theorem egAsk : ∀ args w, (callFunc 28 args).run Try.prog w = .ok (.enter 28 args) w := enters_of Try.func28 (by kernel_rfl) rfl
theorem egTell : ∀ args w, (callFunc 30 args).run Try.prog w = .ok (.enter 30 args) w := enters_of Try.func30 (by kernel_rfl) rfl
set_option maxHeartbeats 4000000 in
theorem pallQ_at (l : List Qst) (A : Option Addr) (n c : Nat) (w : World) (h : Rd w w.heap.size 3 A n (QC l)) (hn : n ≤ 4398046511104) (hl : ∀ y ∈ l, y.name.length ≤ 100000) {z : Bool} (hz : decide (l.length ≤ 100 ∧ ∀ y ∈ l, Pk.rightQ y) = z) :
    Calls Try.prog 27 #[.slice A n c, .func (.func 28) #[] #[]] w (BoB z w) := by
  have HL := Lib.hid h.lenQ
  have HS := Lib.hid hl
  have HZ := Lib.hid hz
  have b := Below.refl w.heap.size w
  have eg := egAsk
  clear hl hz
  by_cases hc : 100 < n
  · have g1 : decide ((100 : Int) < (n : Int)) = true := decide_eq_true (by omega)
    have g1' : decide (100 < n) = true := decide_eq_true hc
    have Z : Hid (z = false) := Lib.hid (by rw [← HZ.out]; exact decide_eq_false fun h1 => by have := h1.1; have := HL.out; omega)
    clear hc
    go_enter Try.func27, Try.ntmps27
    go_wp2
    go_ret
    exact ⟨ret_bool Z.out.symm, b⟩
  have g1 : decide ((100 : Int) < (n : Int)) = false := decide_eq_false (by omega)
  have g1' : decide (100 < n) = false := decide_eq_false hc
  have HC := Lib.hid hc
  clear hc
  go_enter Try.func27, Try.ntmps27
  go_wp2
  clear g1 g1'
  go_loopw [12] (fun i wr => ∃ k : Nat, k ≤ n ∧ i = .int .i64 (k : Int) ∧ Hid (∀ y ∈ l.take k, Pk.rightQ y) ∧ Rd wr wr.heap.size 3 A n (QC l) ∧ Below w.heap.size w wr) (fun i _ => n - (intOf i).toNat)
  case atStart => exact ⟨0, by omega, rfl, Lib.hid (by simp), h, b⟩
  case round =>
    clear h b
    obtain ⟨k, hk, rfl, HK, R, b⟩ := hrel
    have hk0 : (0 : Int) ≤ (k : Int) := by omega
    by_cases hlt : k < n
    rotate_left
    · have g1 : decide ((k : Int) < (n : Int)) = false := decide_eq_false (by omega)
      have g2 : decide (k < n) = false := decide_eq_false hlt
      have Z : Hid (z = true) := Lib.hid (by rw [← HZ.out]; exact decide_eq_true ⟨by rw [HL.out]; have := HC.out; omega, by have h1 := HK.out; rwa [List.take_of_length_le (by have := HL.out; omega)] at h1⟩)
      go_wp2
      go_ret
      exact ⟨ret_bool Z.out.symm, b⟩
    have g1 : decide ((k : Int) < (n : Int)) = true := decide_eq_true (by omega)
    have g2 : decide (k < n) = true := decide_eq_true hlt
    obtain ⟨bk, ok', q, rfl, hbk, hr, c0, c1, c2⟩ := R.atQ hlt
    have HR := Lib.hid hr
    have HRL := Lib.hid (HS.out q (List.mem_of_getElem? hr))
    have no : ¬ Pk.rightQ q → z = false := fun h1 => by rw [← HZ.out]; exact decide_eq_false fun h2 => h1 (h2.2 q (List.mem_of_getElem? HR.out))
    have NO := Lib.hid no
    have HK2 : Pk.rightQ q → Hid (∀ y ∈ l.take (k + 1), Pk.rightQ y) := fun h1 => Lib.hid (by
      rw [take_more HR.out]
      intro y hy
      rcases List.mem_append.1 hy with hy | hy
      · exact HK.out y hy
      · obtain rfl := List.mem_singleton.1 hy; exact h1)
    have HHK := Lib.hid HK2
    clear no HK2 hr
    have R1 := R.belowH ((Below.refl _ wr).alloc (Nat.le_refl _) (.cells #[.string (strB q.name), .int .i64 q.typ, .int .i64 q.cls] 48))
    have b1 := b.alloc b.size (.cells #[.string (strB q.name), .int .i64 q.typ, .int .i64 q.cls] 48)
    obtain ⟨zr_, hzr⟩ : ∃ z, decide (Pk.rightQ q) = z := ⟨_, rfl⟩
    have HZR := Lib.hid hzr
    clear hzr
    go_wp2_with fail
    generalize wr.alloc (.cells #[.string (strB q.name), .int .i64 q.typ, .int .i64 q.cls] 48) = w1 at *
    refine (pmayAsk_any q HRL.out w1).mono ?_
    rintro e w2 ⟨rfl, hb⟩
    rw [HZR.out]
    replace R := R1.belowH hb
    replace b := b1.trans (hb.mono b1.size)
    clear R1 b1 hb
    cases zr_
    · have Z : Hid (z = false) := Lib.hid (NO.out (of_decide_eq_false HZR.out))
      go_wp2
      go_ret
      exact ⟨ret_bool Z.out.symm, b⟩
    · have HKN := HHK.out (of_decide_eq_true HZR.out)
      clear HHK
      go_wp2
      go_roundw
      case rel => exact ⟨k + 1, by omega, by go_num, HKN, R, b⟩
      case measure => simp [intOf]; omega
set_option maxHeartbeats 4000000 in
theorem pallR_at (l : List Rrc) (A : Option Addr) (n c : Nat) (w : World) (h : Rd w w.heap.size 5 A n (RC l)) (hn : n ≤ 4398046511104) (hl : ∀ y ∈ l, y.name.length ≤ 100000 ∧ y.data.length ≤ 140737488351232) {z : Bool} (hz : decide (l.length ≤ 100 ∧ ∀ y ∈ l, Pk.rightR y) = z) :
    Calls Try.prog 29 #[.slice A n c, .func (.func 30) #[] #[]] w (BoB z w) := by
  have HL := Lib.hid h.lenR
  have HS := Lib.hid hl
  have HZ := Lib.hid hz
  have b := Below.refl w.heap.size w
  have eg := egTell
  clear hl hz
  by_cases hc : 100 < n
  · have g1 : decide ((100 : Int) < (n : Int)) = true := decide_eq_true (by omega)
    have g1' : decide (100 < n) = true := decide_eq_true hc
    have Z : Hid (z = false) := Lib.hid (by rw [← HZ.out]; exact decide_eq_false fun h1 => by have := h1.1; have := HL.out; omega)
    clear hc
    go_enter Try.func29, Try.ntmps29
    go_wp2
    go_ret
    exact ⟨ret_bool Z.out.symm, b⟩
  have g1 : decide ((100 : Int) < (n : Int)) = false := decide_eq_false (by omega)
  have g1' : decide (100 < n) = false := decide_eq_false hc
  have HC := Lib.hid hc
  clear hc
  go_enter Try.func29, Try.ntmps29
  go_wp2
  clear g1 g1'
  go_loopw [12] (fun i wr => ∃ k : Nat, k ≤ n ∧ i = .int .i64 (k : Int) ∧ Hid (∀ y ∈ l.take k, Pk.rightR y) ∧ Rd wr wr.heap.size 5 A n (RC l) ∧ Below w.heap.size w wr) (fun i _ => n - (intOf i).toNat)
  case atStart => exact ⟨0, by omega, rfl, Lib.hid (by simp), h, b⟩
  case round =>
    clear h b
    obtain ⟨k, hk, rfl, HK, R, b⟩ := hrel
    have hk0 : (0 : Int) ≤ (k : Int) := by omega
    by_cases hlt : k < n
    rotate_left
    · have g1 : decide ((k : Int) < (n : Int)) = false := decide_eq_false (by omega)
      have g2 : decide (k < n) = false := decide_eq_false hlt
      have Z : Hid (z = true) := Lib.hid (by rw [← HZ.out]; exact decide_eq_true ⟨by rw [HL.out]; have := HC.out; omega, by have h1 := HK.out; rwa [List.take_of_length_le (by have := HL.out; omega)] at h1⟩)
      go_wp2
      go_ret
      exact ⟨ret_bool Z.out.symm, b⟩
    have g1 : decide ((k : Int) < (n : Int)) = true := decide_eq_true (by omega)
    have g2 : decide (k < n) = true := decide_eq_true hlt
    obtain ⟨bk, ok', r, rfl, hbk, hr, c0, c1, c2, c3, c4⟩ := R.atR hlt
    have HR := Lib.hid hr
    have HRL := Lib.hid (HS.out r (List.mem_of_getElem? hr))
    have no : ¬ Pk.rightR r → z = false := fun h1 => by rw [← HZ.out]; exact decide_eq_false fun h2 => h1 (h2.2 r (List.mem_of_getElem? HR.out))
    have NO := Lib.hid no
    have HK2 : Pk.rightR r → Hid (∀ y ∈ l.take (k + 1), Pk.rightR y) := fun h1 => Lib.hid (by
      rw [take_more HR.out]
      intro y hy
      rcases List.mem_append.1 hy with hy | hy
      · exact HK.out y hy
      · obtain rfl := List.mem_singleton.1 hy; exact h1)
    have HHK := Lib.hid HK2
    clear no HK2 hr
    have R1 := R.belowH ((Below.refl _ wr).alloc (Nat.le_refl _) (.cells #[.string (strB r.name), .int .i64 r.typ, .int .i64 r.cls, .int .i64 r.ttl, .string (strB r.data)] 50))
    have b1 := b.alloc b.size (.cells #[.string (strB r.name), .int .i64 r.typ, .int .i64 r.cls, .int .i64 r.ttl, .string (strB r.data)] 50)
    obtain ⟨zr_, hzr⟩ : ∃ z, decide (Pk.rightR r) = z := ⟨_, rfl⟩
    have HZR := Lib.hid hzr
    clear hzr
    go_wp2_with fail
    generalize wr.alloc (.cells #[.string (strB r.name), .int .i64 r.typ, .int .i64 r.cls, .int .i64 r.ttl, .string (strB r.data)] 50) = w1 at *
    refine (pmayTell_any r HRL.out.1 HRL.out.2 w1).mono ?_
    rintro e w2 ⟨rfl, hb⟩
    rw [HZR.out]
    replace R := R1.belowH hb
    replace b := b1.trans (hb.mono b1.size)
    clear R1 b1 hb
    cases zr_
    · have Z : Hid (z = false) := Lib.hid (NO.out (of_decide_eq_false HZR.out))
      go_wp2
      go_ret
      exact ⟨ret_bool Z.out.symm, b⟩
    · have HKN := HHK.out (of_decide_eq_true HZR.out)
      clear HHK
      go_wp2
      go_roundw
      case rel => exact ⟨k + 1, by omega, by go_num, HKN, R, b⟩
      case measure => simp [intOf]; omega
set_option maxHeartbeats 4000000 in
set_option maxRecDepth 20000 in
theorem pright_z (u : Pv) (w : World) (h : PRd w u) (hm : PMod u) {z : Bool} (hz : decide (Pk.right u.x) = z) : Calls Try.prog 12 #[pval u] w (BoB z w) := by
  have HZ := Lib.hid hz
  have HM := Lib.hid hm
  clear hz hm
  have no : ¬ Pk.right u.x → z = false := fun h1 => by rw [← HZ.out]; exact decide_eq_false h1
  have NO := Lib.hid no
  have YES : Hid (Pk.right u.x → z = true) := Lib.hid fun h1 => by rw [← HZ.out]; exact decide_eq_true h1
  clear no HZ
  have b1 : Below w.heap.size w (w.alloc (.cells #[.int .i64 u.x.id, .int .i64 u.x.flags, .slice u.A1 u.n1 u.c1, .slice u.A2 u.n2 u.c2, .slice u.A3 u.n3 u.c3, .slice u.A4 u.n4 u.c4] 25)) := (Below.refl _ _).alloc (Nat.le_refl _) _
  have X := Box.new w #[.int .i64 u.x.id, .int .i64 u.x.flags, .slice u.A1 u.n1 u.c1, .slice u.A2 u.n2 u.c2, .slice u.A3 u.n3 u.c3, .slice u.A4 u.n4 u.c4] 25
  have P1 := h.belowH b1
  clear h
  simp only [pval]
  go_enter Try.func12, Try.ntmps12
  go_wp2_with fail
  generalize w.alloc (.cells #[.int .i64 u.x.id, .int .i64 u.x.flags, .slice u.A1 u.n1 u.c1, .slice u.A2 u.n2 u.c2, .slice u.A3 u.n3 u.c3, .slice u.A4 u.n4 u.c4] 25) = w1 at *
  have hlt := X.lt
  have d0 := X.at 0 rfl
  have d1 := X.at 1 rfl
  have d2 := X.at 2 rfl
  by_cases ht0 : Pk.two u.x.id
  rotate_left
  · have Z : Hid (z = false) := Lib.hid (NO.out fun h1 => ht0 h1.1)
    have T := decide_eq_false ht0
    clear ht0
    refine (pfits_at T w1).mono ?_
    rintro e w3 ⟨rfl, rfl⟩
    go_wp2
    go_ret
    exact ⟨ret_bool Z.out.symm, b1⟩
  have HT0 := Lib.hid ht0
  clear ht0
  refine (pfits_at (decide_eq_true HT0.out) w1).mono ?_
  rintro e w3 ⟨rfl, rfl⟩
  go_wp2_with fail
  by_cases ht1 : Pk.two u.x.flags
  rotate_left
  · have Z : Hid (z = false) := Lib.hid (NO.out fun h1 => ht1 h1.2.1)
    have T := decide_eq_false ht1
    clear ht1
    refine (pfits_at T w1).mono ?_
    rintro e w3 ⟨rfl, rfl⟩
    go_wp2
    go_ret
    exact ⟨ret_bool Z.out.symm, b1⟩
  have HT1 := Lib.hid ht1
  clear ht1
  refine (pfits_at (decide_eq_true HT1.out) w1).mono ?_
  rintro e w3 ⟨rfl, rfl⟩
  go_wp2_with fail
  obtain ⟨zq_, hzq⟩ : ∃ z, decide (u.x.qs.length ≤ 100 ∧ ∀ y ∈ u.x.qs, Pk.rightQ y) = z := ⟨_, rfl⟩
  have ZQ := Lib.hid hzq
  refine (pallQ_at u.x.qs u.A1 u.n1 u.c1 w1 P1.1 (by have := HM.out.1; omega) (HM.out.2.1) hzq).mono ?_
  clear hzq
  rintro e w2 ⟨rfl, hb⟩
  have X2 := X.below hb hlt
  have P2 := P1.belowH hb
  have b2 := b1.trans (hb.mono b1.size)
  have hlt2 := X2.lt
  clear d0 d1 d2 X P1 b1 hb
  have d0 := X2.at 0 rfl
  have d1 := X2.at 1 rfl
  have d2 := X2.at 2 rfl
  have d3 := X2.at 3 rfl
  have d4 := X2.at 4 rfl
  have d5 := X2.at 5 rfl
  cases zq_
  · have Z : Hid (z = false) := Lib.hid (NO.out fun h1 => of_decide_eq_false ZQ.out h1.2.2.1)
    go_wp2
    go_ret
    exact ⟨ret_bool Z.out.symm, b2⟩
  go_wp2_with fail
  refine (plists_any u w2).mono ?_
  rintro e w3 ⟨rfl, hb⟩
  have X3 := X2.below hb hlt2
  have P3 := P2.belowH hb
  have b3 := b2.trans (hb.mono b2.size)
  clear d0 d1 d2 d3 d4 d5 X2 P2 b2 hb
  simp only [zls]
  go_wp2
  go_loopw [23] (fun i wr => (i = .int .i64 0 ∨ (i = .int .i64 1 ∧ Hid (Pk.rightL u.x.an)) ∨ (i = .int .i64 2 ∧ Hid (Pk.rightL u.x.an ∧ Pk.rightL u.x.au)) ∨ (i = .int .i64 3 ∧ Hid (Pk.rightL u.x.an ∧ Pk.rightL u.x.au ∧ Pk.rightL u.x.mo))) ∧ PRd wr u ∧ Below w.heap.size w wr) (fun i _ => 3 - (intOf i).toNat)
  case atStart => exact ⟨Or.inl rfl, P3, b3⟩
  case round =>
    clear P3 b3 X3
    obtain ⟨hi, PR, b⟩ := hrel
    rcases hi with rfl | ⟨rfl, HH⟩ | ⟨rfl, HH⟩ | ⟨rfl, HH⟩
    · have IX : ∀ w, (Instr.index 51 (.agg #[.slice u.A2 u.n2 u.c2, .slice u.A3 u.n3 u.c3, .slice u.A4 u.n4 u.c4]) (.int .i64 0)).run Try.prog w = .ok (.slice u.A2 u.n2 u.c2) w := fun w => by kernel_rfl
      go_wp2_with fail
      clear IX
      obtain ⟨zl, hzl⟩ : ∃ z, decide (u.x.an.length ≤ 100 ∧ ∀ y ∈ u.x.an, Pk.rightR y) = z := ⟨_, rfl⟩
      have ZL := Lib.hid hzl
      refine (pallR_at u.x.an u.A2 u.n2 u.c2 wr PR.2.1 (by have := HM.out.1; omega) (HM.out.2.2.1) hzl).mono ?_
      clear hzl
      rintro e w4 ⟨rfl, hb⟩
      replace PR := PR.belowH hb
      replace b := b.trans (hb.mono b.size)
      clear hb
      cases zl
      · have Z : Hid (z = false) := Lib.hid (NO.out fun h1 => of_decide_eq_false ZL.out h1.2.2.2.1)
        go_wp2
        go_ret
        exact ⟨ret_bool Z.out.symm, b⟩
      · go_wp2
        go_roundw
        case rel => exact ⟨Or.inr (Or.inl ⟨by go_num, Lib.hid (of_decide_eq_true ZL.out)⟩), PR, b⟩
        case measure => simp [intOf]
    · have IX : ∀ w, (Instr.index 51 (.agg #[.slice u.A2 u.n2 u.c2, .slice u.A3 u.n3 u.c3, .slice u.A4 u.n4 u.c4]) (.int .i64 1)).run Try.prog w = .ok (.slice u.A3 u.n3 u.c3) w := fun w => by kernel_rfl
      go_wp2_with fail
      clear IX
      obtain ⟨zl, hzl⟩ : ∃ z, decide (u.x.au.length ≤ 100 ∧ ∀ y ∈ u.x.au, Pk.rightR y) = z := ⟨_, rfl⟩
      have ZL := Lib.hid hzl
      refine (pallR_at u.x.au u.A3 u.n3 u.c3 wr PR.2.2.1 (by have := HM.out.1; omega) (HM.out.2.2.2.1) hzl).mono ?_
      clear hzl
      rintro e w4 ⟨rfl, hb⟩
      replace PR := PR.belowH hb
      replace b := b.trans (hb.mono b.size)
      clear hb
      cases zl
      · have Z : Hid (z = false) := Lib.hid (NO.out fun h1 => of_decide_eq_false ZL.out h1.2.2.2.2.1)
        go_wp2
        go_ret
        exact ⟨ret_bool Z.out.symm, b⟩
      · go_wp2
        go_roundw
        case rel => exact ⟨Or.inr (Or.inr (Or.inl ⟨by go_num, Lib.hid ⟨HH.out, of_decide_eq_true ZL.out⟩⟩)), PR, b⟩
        case measure => simp [intOf]
    · have IX : ∀ w, (Instr.index 51 (.agg #[.slice u.A2 u.n2 u.c2, .slice u.A3 u.n3 u.c3, .slice u.A4 u.n4 u.c4]) (.int .i64 2)).run Try.prog w = .ok (.slice u.A4 u.n4 u.c4) w := fun w => by kernel_rfl
      go_wp2_with fail
      clear IX
      obtain ⟨zl, hzl⟩ : ∃ z, decide (u.x.mo.length ≤ 100 ∧ ∀ y ∈ u.x.mo, Pk.rightR y) = z := ⟨_, rfl⟩
      have ZL := Lib.hid hzl
      refine (pallR_at u.x.mo u.A4 u.n4 u.c4 wr PR.2.2.2 (by have := HM.out.1; omega) (HM.out.2.2.2.2) hzl).mono ?_
      clear hzl
      rintro e w4 ⟨rfl, hb⟩
      replace PR := PR.belowH hb
      replace b := b.trans (hb.mono b.size)
      clear hb
      cases zl
      · have Z : Hid (z = false) := Lib.hid (NO.out fun h1 => of_decide_eq_false ZL.out h1.2.2.2.2.2)
        go_wp2
        go_ret
        exact ⟨ret_bool Z.out.symm, b⟩
      · go_wp2
        go_roundw
        case rel => exact ⟨Or.inr (Or.inr (Or.inr ⟨by go_num, Lib.hid ⟨HH.out.1, HH.out.2, of_decide_eq_true ZL.out⟩⟩)), PR, b⟩
        case measure => simp [intOf]
    · have Z : Hid (z = true) := Lib.hid (YES.out ⟨HT0.out, HT1.out, of_decide_eq_true ZQ.out, HH.out⟩)
      go_wp2
      go_ret
      exact ⟨ret_bool Z.out.symm, b⟩
theorem pright_any (u : Pv) (w : World) (h : PRd w u) (hm : PMod u) : Calls Try.prog 12 #[pval u] w (BoB (decide (Pk.right u.x)) w) := pright_z u w h hm rfl
end Go.Proofs.Ytbioblknhfmelaa

