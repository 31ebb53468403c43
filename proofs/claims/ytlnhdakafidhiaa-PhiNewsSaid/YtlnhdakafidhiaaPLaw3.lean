/- The walk of phi's law on the first time. -/
import Derived.Test.YtlnhdakafidhiaaPAlive
import Derived.Test.YtlnhdakafidhiaaNRows
namespace Go.Proofs.Ytlnhdakafidhiaa
set_option linter.unusedVariables false
set_option linter.unusedSimpArgs false
open Go.RowKit
theorem susp_at {x : Wi} {t boot th m : Int} (hm : N.may x t) (hl : ¬ x.last < 0) (e : N.mean x boot = m) : Ph.susp x t boot th = decide ((th + 1) * m ≤ 434 * (t - x.last)) := by
  have hp : 1 ≤ m := by rw [← e]; exact Ph.mean_pos _ _
  unfold Ph.susp
  rw [Ph.lvl_is hm hl, e]
  have := Ph.above_iff (d := t - x.last) (m := m) (th := th) hp
  simp only [true_and]
  by_cases h : (th + 1) * m ≤ 434 * (t - x.last)
  · rw [decide_eq_true h, decide_eq_true (this.2 h)]
  · rw [decide_eq_false h, decide_eq_false (fun h2 => h (this.1 h2))]
/-- what First answers where it answers at all -/
theorem first_ways {x : Wi} {boot th : Int} (hr : N.right x) (hl : ¬ x.last < 0) (h0 : 0 ≤ th) (h1 : th ≤ 1099511627776) :
    Ph.first x boot th = (0, 8) ∨ ∃ t, Ph.first x boot th = (t, 0) ∧ x.last < t ∧ t ≤ 1099511627776 ∧ Ph.susp x t boot th = true ∧ Ph.susp x (t - 1) boot th = false ∧ (t ≠ 1099511627776 → Ph.susp x (t + 1) boot th = true) := by
  obtain ⟨m, hm⟩ : ∃ m, N.mean x boot = m := ⟨_, rfl⟩
  have hp : 1 ≤ m := by rw [← hm]; exact Ph.mean_pos _ _
  unfold Ph.first
  rw [if_neg (by simpa using hr), if_neg hl, if_neg (by omega), hm]
  by_cases hbig : 1099511627776 < m
  · rw [if_pos hbig]; exact Or.inl rfl
  rw [if_neg hbig]
  have hok : ¬ Ph.bad th m := by unfold Ph.bad; omega
  obtain ⟨k, hk⟩ : ∃ k, Ph.bound th m = k := ⟨_, rfl⟩
  have hkp := Ph.bound_pos hok
  rw [hk] at hkp ⊢
  by_cases hfull : 1099511627776 - x.last < k
  · rw [if_pos hfull]; exact Or.inl rfl
  rw [if_neg hfull]
  have hl1 := hr.1
  obtain ⟨g1, g2⟩ := Ph.bound_least hok hk (by omega)
  refine Or.inr ⟨x.last + k, rfl, by omega, by omega, ?_, ?_, fun hne => ?_⟩
  · rw [susp_at (m := m) ⟨hr, by omega, by omega, by omega⟩ hl hm]
    exact decide_eq_true (by rw [show x.last + k - x.last = k by omega]; exact g1)
  · rw [susp_at (m := m) ⟨hr, by omega, by omega, by omega⟩ hl hm]
    exact decide_eq_false (by rw [show x.last + k - 1 - x.last = k - 1 by omega]; omega)
  · rw [susp_at (m := m) ⟨hr, by omega, by omega, by omega⟩ hl hm]
    exact decide_eq_true (by rw [show x.last + k + 1 - x.last = k + 1 by omega]; omega)

set_option maxHeartbeats 8000000 in
set_option maxRecDepth 100000 in
theorem law_PhiFirst (u : Wv) (a1 a2 : Int) (W : World) (w0 : WIn W u) (w1 : (Lit.int .u16 a1).wf = true) (w2 : (Lit.int .u16 a2).wf = true) :
    Calls Try.prog 5 #[wval u, .int .u16 a1, .int .u16 a2] W fun e w' => e = .returned (.bool true) ∧ Below W.heap.size W w' := by
  obtain ⟨⟨last, l⟩, A, n, c⟩ := u
  obtain ⟨R0, hlb⟩ := w0
  simp only at hlb
  have b1 := wf_bounds_u16 w1
  have b2 := wf_bounds_u16 w2
  clear w1 w2
  simp only [wval]
  have P := Box.new (W) #[.int .i64 last, .slice A n c] 24
  have b := (Below.refl W.heap.size W).alloc (Nat.le_refl _) (.cells #[.int .i64 last, .slice A n c] 24)
  replace R0 := R0.belowH b
  obtain ⟨rb, hrb⟩ : ∃ rb, N.rightB ⟨last, l⟩ = rb := ⟨_, rfl⟩
  have HRB := Lib.hid hrb
  clear hrb
  go_enter Try.func5, Try.ntmps5
  go_wp2_with fail
  generalize (W).alloc (.cells #[.int .i64 last, .slice A n c] 24) = w1 at *
  refine (palive_any _).mono ?_
  rintro e v2 ⟨rfl, hb⟩
  replace P := P.belowH hb
  replace R0 := R0.belowH hb
  replace b := b.trans (hb.mono b.size)
  clear hb
  (try dsimp only)
  have p0 := P.at 0 rfl
  have p1 := P.at 1 rfl
  by_cases hn : 16 < n
  · go_wp2
    go_ret
    exact ⟨rfl, b⟩
  go_wp2_with fail
  refine (rnright_at (x := ⟨last, l⟩) A n c HRB.out _ R0).mono ?_
  rintro e v3 ⟨rfl, hb⟩
  clear p0 p1
  replace P := P.belowH hb
  replace R0 := R0.belowH hb
  replace b := b.trans (hb.mono b.size)
  clear hb
  (try dsimp only)
  have p0 := P.at 0 rfl
  have p1 := P.at 1 rfl
  rcases rb
  · go_wp2
    go_ret
    exact ⟨rfl, b⟩
  by_cases hneg : last < 0
  · go_wp2
    go_ret
    exact ⟨rfl, b⟩
  have hr := rightB_iff_out HRB.out
  have hn16 : n ≤ 16 := by omega
  rcases first_ways (boot := a1) (th := a2) hr hneg b2.1 (by omega) with hf | ⟨t, hf, ht1, ht2, hs1, hs2, hs3⟩
  · have HF := Lib.hid hf
    clear hf hr
    go_wp2_with fail
    refine (first_at (x := ⟨last, l⟩) A n c a1 a2 (i64_of (by omega)) (i64_of (by omega)) HF.out _ R0 (by omega)).mono ?_
    rintro e v4 ⟨rfl, hb⟩
    clear p0 p1
    replace P := P.belowH hb
    replace R0 := R0.belowH hb
    replace b := b.trans (hb.mono b.size)
    clear hb
    (try dsimp only)
    have p0 := P.at 0 rfl
    have p1 := P.at 1 rfl
    go_wp2
    go_ret
    exact ⟨rfl, b⟩
  · have HF := Lib.hid hf
    have HS1 := Lib.hid hs1
    have HS2 := Lib.hid hs2
    have ht1 : last < t := ht1
    have ht0 : 0 ≤ t := by omega
    clear hf hr hs1 hs2
    go_wp2_with fail
    refine (first_at (x := ⟨last, l⟩) A n c a1 a2 (i64_of (by omega)) (i64_of (by omega)) HF.out _ R0 (by omega)).mono ?_
    rintro e v4 ⟨rfl, hb⟩
    clear p0 p1
    replace P := P.belowH hb
    replace R0 := R0.belowH hb
    replace b := b.trans (hb.mono b.size)
    clear hb
    (try dsimp only)
    have p0 := P.at 0 rfl
    have p1 := P.at 1 rfl
    go_wp2_with fail
    refine (suspect_at (x := ⟨last, l⟩) A n c t a1 a2 (i64_of (by omega)) (i64_of (by omega)) (i64_of (by omega)) HS1.out _ R0 (by omega)).mono ?_
    rintro e v5 ⟨rfl, hb⟩
    clear p0 p1
    replace P := P.belowH hb
    replace R0 := R0.belowH hb
    replace b := b.trans (hb.mono b.size)
    clear hb
    (try dsimp only)
    have p0 := P.at 0 rfl
    have p1 := P.at 1 rfl
    go_wp2_with fail
    refine (suspect_at (x := ⟨last, l⟩) A n c (t - 1) a1 a2 (i64_of (by omega)) (i64_of (by omega)) (i64_of (by omega)) HS2.out _ R0 (by omega)).mono ?_
    rintro e v6 ⟨rfl, hb⟩
    clear p0 p1
    replace P := P.belowH hb
    replace R0 := R0.belowH hb
    replace b := b.trans (hb.mono b.size)
    clear hb
    (try dsimp only)
    have p0 := P.at 0 rfl
    have p1 := P.at 1 rfl
    by_cases hmax : t = 1099511627776
    · have heq : (t == 1099511627776) = true := beq_iff_eq.2 hmax
      clear hmax hs3
      go_wp2
      go_ret
      exact ⟨by first | rfl | simp, b⟩
    · have heq : (t == 1099511627776) = false := beq_eq_false_iff_ne.2 hmax
      have HS3 := Lib.hid (hs3 hmax)
      have ht3 : t < 1099511627776 := by omega
      clear hmax hs3
      go_wp2_with fail
      refine (suspect_at (x := ⟨last, l⟩) A n c (t + 1) a1 a2 (i64_of (by omega)) (i64_of (by omega)) (i64_of (by omega)) HS3.out _ R0 (by omega)).mono ?_
      rintro e v7 ⟨rfl, hb⟩
      clear p0 p1
      replace P := P.belowH hb
      replace R0 := R0.belowH hb
      replace b := b.trans (hb.mono b.size)
      clear hb
      (try dsimp only)
      have p0 := P.at 0 rfl
      have p1 := P.at 1 rfl
      go_wp2
      go_ret
      exact ⟨by first | rfl | simp, b⟩
end Go.Proofs.Ytlnhdakafidhiaa
