/- The walk of choice's law that three at most are asked. -/
import Derived.Test.YtlafmonfhkgcfaaCGreat
import Derived.Deep.QuietTactic
namespace Go.Proofs.Ytlafmonfhkgcfaa
set_option linter.unusedVariables false
set_option linter.unusedSimpArgs false
open Go.RowKit
theorem mem_take_at {l : List Int} {i : Nat} {x : Int} (hd : l.Nodup) (h : l[i]? = some x) : decide (x ∈ l.take i) = false := decide_eq_false (Ch.nodup_at hd h)
set_option maxHeartbeats 8000000 in
set_option maxRecDepth 100000 in
theorem law_ChoiceThree (u : Tl) (p q r : Int) (W : World) (w0 : TlIn W u) (w1 : ThreeU p q r) :
    Calls Try.prog 4 #[tval u, .agg #[.int .u32 p, .int .u32 q, .int .u32 r]] W fun e w' => e = .returned (.bool true) ∧ Below W.heap.size W w' := by
  obtain ⟨al, dn, sd, A1, n1, c1, A2, n2, c2, A3, n3, c3⟩ := u
  obtain ⟨⟨h1, z1⟩, ⟨h2, z2⟩, ⟨h3, z3⟩⟩ := w0
  obtain ⟨⟨p', hp, hp2⟩, ⟨q', hq, hq2⟩, ⟨r', hr, hr2⟩⟩ : (∃ p' : Nat, (p' : Int) = p ∧ p' ≤ 4294967295) ∧ (∃ q' : Nat, (q' : Int) = q ∧ q' ≤ 4294967295) ∧ (∃ r' : Nat, (r' : Int) = r ∧ r' ≤ 4294967295) := ⟨w1.1.nat, w1.2.1.nat, w1.2.2.nat⟩
  have HZ : Hid ((p' : Int) = p ∧ (q' : Int) = q ∧ (r' : Int) = r) := Lib.hid ⟨hp, hq, hr⟩
  have HB : Hid (p' ≤ 4294967295 ∧ q' ≤ 4294967295 ∧ r' ≤ 4294967295) := Lib.hid ⟨hp2, hq2, hr2⟩
  clear hp hq hr hp2 hq2 hr2 w1
  simp only at h1 h2 h3 z1 z2 z3
  have L1 := Lib.hid (ilen h1)
  have L2 := Lib.hid (ilen h2)
  have L3 := Lib.hid (ilen h3)
  have HG := Lib.hid (And.intro z1 (And.intro z2 z3))
  clear z1 z2 z3
  simp only [tval]
  have X := (Box.new W #[.slice A1 n1 c1, .slice A2 n2 c2, .slice A3 n3 c3] 24).alloc (.cells #[.int .u32 p, .int .u32 q, .int .u32 r] 26)
  have D := Box.new (W.alloc (.cells #[.slice A1 n1 c1, .slice A2 n2 c2, .slice A3 n3 c3] 24)) #[.int .u32 p, .int .u32 q, .int .u32 r] 26
  have b := ((Below.refl W.heap.size W).alloc (Nat.le_refl _) (.cells #[.slice A1 n1 c1, .slice A2 n2 c2, .slice A3 n3 c3] 24)).alloc (by simp) (.cells #[.int .u32 p, .int .u32 q, .int .u32 r] 26)
  rw [show (W.alloc (.cells #[.slice A1 n1 c1, .slice A2 n2 c2, .slice A3 n3 c3] 24)).heap.size = W.heap.size + 1 by simp] at D
  replace h1 := h1.belowH b
  replace h2 := h2.belowH b
  replace h3 := h3.belowH b
  go_enter Try.func4, Try.ntmps4
  go_wp2_with fail
  generalize (W.alloc (.cells #[.slice A1 n1 c1, .slice A2 n2 c2, .slice A3 n3 c3] 24)).alloc (.cells #[.int .u32 p, .int .u32 q, .int .u32 r] 26) = wa at *
  refine (calive_any _).mono ?_
  rintro _ wb ⟨rfl, hb⟩
  replace h1 := h1.belowH hb
  replace h2 := h2.belowH hb
  replace h3 := h3.belowH hb
  replace X := X.belowH hb
  replace D := D.belowH hb
  replace b := b.trans (hb.mono b.size)
  clear hb
  have x0 := X.at 0 rfl
  have x1 := X.at 1 rfl
  have x2 := X.at 2 rfl
  have d0 := D.at 0 rfl
  have d1 := D.at 1 rfl
  have d2 := D.at 2 rfl
  by_cases hg : 200 < n1 + n2 + n3
  · have E := Lib.hid (decide_eq_true hg)
    go_wp2_with fail
    refine (cgreat_any al dn sd A1 A2 A3 n1 c1 n2 c2 n3 c3 HG.out E.out _).mono ?_
    rintro _ wc ⟨rfl, hb⟩
    replace b := b.trans (hb.mono b.size)
    clear hb
    go_wp2
    go_ret
    exact ⟨rfl, b⟩
  have E := Lib.hid (decide_eq_false hg)
  go_wp2_with fail
  refine (cgreat_any al dn sd A1 A2 A3 n1 c1 n2 c2 n3 c3 HG.out E.out _).mono ?_
  rintro _ wc ⟨rfl, hb⟩
  clear x0 x1 x2 d0 d1 d2
  replace h1 := h1.belowH hb
  replace h2 := h2.belowH hb
  replace h3 := h3.belowH hb
  replace X := X.belowH hb
  replace D := D.belowH hb
  replace b := b.trans (hb.mono b.size)
  clear hb
  have x0 := X.at 0 rfl
  have x1 := X.at 1 rfl
  have x2 := X.at 2 rfl
  have d0 := D.at 0 rfl
  have d1 := D.at 1 rfl
  have d2 := D.at 2 rfl
  obtain ⟨l, hlr⟩ : ∃ l, Ch.round al dn sd p' q' r' = l := ⟨_, rfl⟩
  have LR3 : Hid (l.length ≤ 3) := Lib.hid (by rw [← hlr]; exact Ch.round_len _ _ _ _ _ _)
  have LN : Hid l.Nodup := Lib.hid (by rw [← hlr]; exact Ch.round_nodup _ _ _ _ _ _)
  have LM : Hid (∀ x ∈ l, x ∈ al ∨ x ∈ dn ∨ x ∈ sd) := Lib.hid (by rw [← hlr]; exact fun x hx => Ch.round_mem hx)
  have LS : Hid (l.length = 0 → n1 + n3 = 0) := Lib.hid (by rw [← hlr, ← L1.out, ← L3.out]; intro h; have := Ch.round_some h; rw [this.1, this.2]; rfl)
  have ER := Lib.hid hlr
  clear hlr
  go_wp2_with fail
  refine (cround_at HZ.out ER.out A1 A2 A3 n1 c1 n2 c2 n3 c3 HB.out _ h1 h2 h3 (by omega) (by omega) (by omega)).mono ?_
  rintro _ wd ⟨⟨A4, n4, c4, rfl, R4, hc4⟩, hb⟩
  clear x0 x1 x2 d0 d1 d2
  replace h1 := h1.belowH hb
  replace h2 := h2.belowH hb
  replace h3 := h3.belowH hb
  replace X := X.belowH hb
  replace D := D.belowH hb
  replace b := b.trans (hb.mono b.size)
  clear hb
  have L4 := Lib.hid (ilen R4)
  have hn4 : n4 ≤ 3 := by have := L4.out; have := LR3.out; omega
  have hc4' : n4 ≤ c4 := hc4.1
  have hc5 : (c4 : Int) ≤ 9223372036854775807 := by omega
  clear hc4 hc5 ER LR3
  have x0 := X.at 0 rfl
  have x1 := X.at 1 rfl
  have x2 := X.at 2 rfl
  go_wp2_with fail
  go_loopw [6] (fun v wr => ∃ k : Nat, k ≤ n4 ∧ v = .int .i64 (k : Int) ∧ Below W.heap.size W wr ∧ Box wr W.heap.size 24 #[.slice A1 n1 c1, .slice A2 n2 c2, .slice A3 n3 c3] ∧ Rd wr wr.heap.size 1 A1 n1 (I al) ∧ Rd wr wr.heap.size 1 A2 n2 (I dn) ∧ Rd wr wr.heap.size 1 A3 n3 (I sd) ∧ Rd wr wr.heap.size 1 A4 n4 (I l)) (fun v _ => n4 - (intOf v).toNat)
  case atStart => exact ⟨0, by omega, rfl, b, X, h1, h2, h3, R4⟩
  case round =>
    clear b X h1 h2 h3 R4 x0 x1 x2 D
    obtain ⟨k, hk, rfl, b, X, h1, h2, h3, R4⟩ := hrel
    have x0 := X.at 0 rfl
    have x1 := X.at 1 rfl
    have x2 := X.at 2 rfl
    by_cases hlt : k < n4
    · obtain ⟨bx, ox, x, e1, hbx, hx, c0⟩ := R4.atI hlt
      subst e1
      have HX := Lib.hid hx
      have HNT : Hid (decide (x ∈ l.take k) = false) := Lib.hid (mem_take_at LN.out hx)
      have hk0 : (0 : Int) ≤ (k : Int) := by omega
      have hk4 : (k : Int) < (n4 : Int) := by omega
      have SH := fun w => run_cut_h i64C w (some ⟨bx, ox, none⟩) n4 c4 k (k : Int) rfl (by omega)
      have RT : Rd wr wr.heap.size 1 (some ⟨bx, ox, none⟩) k (I (l.take k)) := by have := R4.take1 (k := k) (by omega); rwa [show (I l).take k = I (l.take k) by simp [I]] at this
      have hkk : k ≠ n4 := by omega
      clear hx
      by_cases m1 : x ∈ al
      · have H1 := Lib.hid (decide_eq_true m1)
        have H2 : Hid (decide (x ∈ dn) = decide (x ∈ dn)) := Lib.hid rfl
        have H3 : Hid (decide (x ∈ sd) = decide (x ∈ sd)) := Lib.hid rfl
        clear m1
        go_wp2_with fail
        go_quiet (first | (go_at_call_of 17 (Value.slice A1 n1 c1); exact Calls.quiet_of_same ((rchas_at H1.out A1 n1 c1 _ (by exact h1) (by omega)).mono fun _ _ h => ⟨h.1, h.2.symm⟩)) | (go_at_call_of 17 (Value.slice (some ⟨bx, ox, none⟩) k c4); exact Calls.quiet_of_same ((rchas_at HNT.out (some ⟨bx, ox, none⟩) k c4 _ (by exact RT) (by omega)).mono fun _ _ h => ⟨h.1, h.2.symm⟩)))
        go_wp2
        go_roundw
        case rel => exact ⟨k + 1, by omega, by go_num, kdrewC b _, X.drewN _, h1, h2, h3, R4⟩
        case measure => simp [intOf]; omega
      · have H1 := Lib.hid (decide_eq_false m1)
        by_cases m2 : x ∈ dn
        · have H2 := Lib.hid (decide_eq_true m2)
          clear m1 m2
          go_wp2_with fail
          go_quiet (first | (go_at_call_of 17 (Value.slice A1 n1 c1); exact Calls.quiet_of_same ((rchas_at H1.out A1 n1 c1 _ (by exact h1) (by omega)).mono fun _ _ h => ⟨h.1, h.2.symm⟩)) | (go_at_call_of 17 (Value.slice A2 n2 c2); exact Calls.quiet_of_same ((rchas_at H2.out A2 n2 c2 _ (by exact h2) (by omega)).mono fun _ _ h => ⟨h.1, h.2.symm⟩)) | (go_at_call_of 17 (Value.slice (some ⟨bx, ox, none⟩) k c4); exact Calls.quiet_of_same ((rchas_at HNT.out (some ⟨bx, ox, none⟩) k c4 _ (by exact RT) (by omega)).mono fun _ _ h => ⟨h.1, h.2.symm⟩)))
          go_wp2
          go_roundw
          case rel => exact ⟨k + 1, by omega, by go_num, kdrewC b _, X.drewN _, h1, h2, h3, R4⟩
          case measure => simp [intOf]; omega
        · have H2 := Lib.hid (decide_eq_false m2)
          have H3 := Lib.hid (decide_eq_true (show x ∈ sd by rcases LM.out x (List.mem_of_getElem? HX.out) with h | h | h; exact absurd h m1; exact absurd h m2; exact h))
          clear m1 m2
          go_wp2_with fail
          go_quiet (first | (go_at_call_of 17 (Value.slice A1 n1 c1); exact Calls.quiet_of_same ((rchas_at H1.out A1 n1 c1 _ (by exact h1) (by omega)).mono fun _ _ h => ⟨h.1, h.2.symm⟩)) | (go_at_call_of 17 (Value.slice A2 n2 c2); exact Calls.quiet_of_same ((rchas_at H2.out A2 n2 c2 _ (by exact h2) (by omega)).mono fun _ _ h => ⟨h.1, h.2.symm⟩)) | (go_at_call_of 17 (Value.slice A3 n3 c3); exact Calls.quiet_of_same ((rchas_at H3.out A3 n3 c3 _ (by exact h3) (by omega)).mono fun _ _ h => ⟨h.1, h.2.symm⟩)) | (go_at_call_of 17 (Value.slice (some ⟨bx, ox, none⟩) k c4); exact Calls.quiet_of_same ((rchas_at HNT.out (some ⟨bx, ox, none⟩) k c4 _ (by exact RT) (by omega)).mono fun _ _ h => ⟨h.1, h.2.symm⟩)))
          go_wp2
          go_roundw
          case rel => exact ⟨k + 1, by omega, by go_num, kdrewC b _, X.drewN _, h1, h2, h3, R4⟩
          case measure => simp [intOf]; omega
    · have hk2 : ¬ (k : Int) < (n4 : Int) := by omega
      have b2 := b
      have g1 : decide ((n4 : Int) ≤ 3) = true := decide_eq_true (by omega)
      have g1' : decide (n4 ≤ 3) = true := decide_eq_true (by omega)
      by_cases h0 : n4 = 0
      · have hz := LS.out (by rw [L4.out, h0])
        have g2 : decide ((0 : Int) < (n4 : Int)) = false := decide_eq_false (by omega)
        have g2' : decide (0 < n4) = false := decide_eq_false (by omega)
        have e1 : n1 = 0 := by omega
        have e3 : n3 = 0 := by omega
        have w0 : wrap64 ((n1 : Int) + (n3 : Int)) = (n1 : Int) + (n3 : Int) := by unfold wrap64; omega
        have e0 : ((n1 : Int) + (n3 : Int) == 0) = true := by rw [beq_iff_eq]; omega
        clear e1 e3 h0 hz
        go_wp2
        go_ret
        exact ⟨rfl, b2⟩
      · have g2 : decide ((0 : Int) < (n4 : Int)) = true := decide_eq_true (by omega)
        have g2' : decide (0 < n4) = true := decide_eq_true (by omega)
        go_wp2
        go_ret
        exact ⟨rfl, b2⟩
end Go.Proofs.Ytlafmonfhkgcfaa
