/- Package window: what it answers. -/
import Derived.Test.YtlnhdakafidhiaaNC2
namespace Go.Proofs.Ytlnhdakafidhiaa
set_option linter.unusedVariables false
set_option linter.unusedSimpArgs false
open Go.RowKit
def bad (g : Int) : Bool := decide (g < 1 ∨ 1099511627776 < g)
theorem egWrong : ∀ args w, (callFunc 33 args).run Try.prog w = .ok (.enter 33 args) w := enters_of Try.func33 (by kernel_rfl) rfl
theorem meant_wrong : MeantI 33 bad := fun x W => by
  by_cases c1 : x < 1
  · go_enter Try.func33, Try.ntmps33
    go_wp2
    go_ret
    exact ⟨ret_bool (by simp [bad]; omega), rfl⟩
  · go_enter Try.func33, Try.ntmps33
    go_wp2
    go_ret
    exact ⟨ret_bool (by simp [bad]; omega), rfl⟩
theorem right_iff (x : Wi) : N.rightB x = (decide (-1 ≤ x.last) && decide (x.last ≤ 1099511627776) && decide (x.gaps.length ≤ 16) && !x.gaps.any bad) := by
  rw [Bool.eq_iff_iff, N.rightB_iff]
  unfold N.right
  simp only [decide_eq_true_eq, Bool.and_eq_true, Bool.not_eq_true', List.any_eq_false, bad]
  constructor
  · rintro ⟨h1, h2, h3, h4⟩
    exact ⟨⟨⟨h1, h2⟩, h3⟩, fun g hg => by have := h4 g hg; omega⟩
  · rintro ⟨⟨⟨h1, h2⟩, h3⟩, h4⟩
    exact ⟨h1, h2, h3, fun g hg => by have := h4 g hg; omega⟩

set_option maxHeartbeats 1000000 in
theorem nright_any (u : Wv) (w : World) (h : WRd w u) : Calls Try.prog 23 #[wval u] w (BoolR (N.rightB u.x) w) := by
  obtain ⟨⟨last, l⟩, A, n, c⟩ := u
  obtain ⟨h, hc, hm⟩ := h
  simp only at h hc hm
  have hl : l.length = n := by have := h.len1; rwa [I_length] at this
  have e : N.rightB ⟨last, l⟩ = (decide (-1 ≤ last) && decide (last ≤ 1099511627776) && decide (n ≤ 16) && !l.any bad) := by rw [right_iff, ← hl]
  rw [e]
  clear e hl
  simp only [wval]
  have X := Box.new w #[.int .i64 last, .slice A n c] 24
  have b := (Below.refl w.heap.size w).alloc (Nat.le_refl _) (.cells #[.int .i64 last, .slice A n c] 24)
  replace h := h.alloc (Nat.le_refl _) (.cells #[.int .i64 last, .slice A n c] 24)
  by_cases c1 : -1 ≤ last
  · by_cases c2 : last ≤ 1099511627776
    · by_cases c3 : n ≤ 16
      · have d3 : decide ((n : Int) ≤ 16) = true := decide_eq_true (by omega)
        go_enter Try.func23, Try.ntmps23
        go_wp2_with fail
        refine (ihas_any l bad _ egWrong A n c _ _ h (by omega) meant_wrong).mono ?_
        rintro e w2 ⟨rfl, rfl⟩
        go_wp2
        go_ret
        exact ⟨ret_bool (by simp [c1, c2, c3]), b⟩
      · have d3 : decide ((n : Int) ≤ 16) = false := decide_eq_false (by omega)
        go_enter Try.func23, Try.ntmps23
        go_wp2
        go_ret
        exact ⟨ret_bool (by simp; omega), b⟩
    · go_enter Try.func23, Try.ntmps23
      go_wp2
      go_ret
      exact ⟨ret_bool (by simp; omega), b⟩
  · go_enter Try.func23, Try.ntmps23
    go_wp2
    go_ret
    exact ⟨ret_bool (by simp; omega), b⟩

set_option maxHeartbeats 1000000 in
theorem nmean_any (u : Wv) (boot : Int) (w : World) (h : WRd w u) (hn : u.n ≤ 1000) :
    Calls Try.prog 26 #[wval u, .int .i64 boot] w (IntBR (N.mean u.x boot) w) := by
  obtain ⟨⟨last, l⟩, A, n, c⟩ := u
  obtain ⟨h, hc, hm⟩ := h
  simp only at h hc hm hn
  have hl : l.length = n := by have := h.len1; rwa [I_length] at this
  have HL := Lib.hid hl
  clear hl
  simp only [wval]
  have X := Box.new w #[.int .i64 last, .slice A n c] 24
  have b := (Below.refl w.heap.size w).alloc (Nat.le_refl _) (.cells #[.int .i64 last, .slice A n c] 24)
  replace h : Rd (w.alloc (.cells #[.int .i64 last, .slice A n c] 24)) (w.alloc (.cells #[.int .i64 last, .slice A n c] 24)).heap.size 1 A n (I l) := (h.alloc (Nat.le_refl _) _).more (by simp)
  by_cases h0 : n = 0
  · subst h0
    have e : N.mean ⟨last, l⟩ boot = max 1 boot := by unfold N.mean; rw [if_pos HL.out]
    rw [e]
    clear e
    go_enter Try.func26, Try.ntmps26
    go_wp2
    go_ret
    exact ⟨rfl, b⟩
  · have e : N.mean ⟨last, l⟩ boot = max 1 (R.mean l) := by unfold N.mean; rw [if_neg (by show ¬ l.length = 0; rw [HL.out]; exact h0)]
    rw [e]
    have hne : ((n : Int) == 0) = false := beq_eq_false_iff_ne.2 (by omega)
    clear e
    go_enter Try.func26, Try.ntmps26
    go_wp2_with fail
    refine (mean_any _ _ _ _ l _ h (by omega)).mono ?_
    rintro e w2 ⟨rfl, q, hq⟩
    replace b := b.trans ((below_q hq).mono b.size)
    clear hq
    go_wp2
    go_ret
    exact ⟨rfl, b⟩

theorem clamp_gap (d most : Int) : R.clamp d 1 (max 1 most) = N.gap d most := by
  unfold R.clamp N.gap
  split
  · omega
  · split <;> omega

end Go.Proofs.Ytlnhdakafidhiaa
