/- The document's first time at which somebody is suspect. -/
import Derived.Test.YtlnhdakafidhiaaPRef
import Derived.Test.YtlnhdakafidhiaaPRef2
namespace Go.Proofs.Ytlnhdakafidhiaa
set_option linter.unusedVariables false
set_option linter.unusedSimpArgs false
open Go.RowKit

set_option maxHeartbeats 4000000 in
set_option maxRecDepth 20000 in
theorem rfirst_any {x : Wi} (A : Option Addr) (n c : Nat) (boot th : Int) (hboot : I64 boot) (hth : I64 th) (w : World) (h : WRd w ⟨x, A, n, c⟩) :
    Calls Try.prog 13 #[.agg #[.int .i64 x.last, .slice A n c], .int .i64 boot, .int .i64 th] w (PairBR (Ph.first x boot th) w) := by
  unfold I64 at hboot hth
  obtain ⟨last, l⟩ := x
  dsimp only
  have X := Box.new w #[.int .i64 last, .slice A n c] 24
  have b := (Below.refl w.heap.size w).alloc (Nat.le_refl _) (.cells #[.int .i64 last, .slice A n c] 24)
  replace h := h.alloc (.cells #[.int .i64 last, .slice A n c] 24)
  have x0 := X.at 0 rfl
  have x1 := X.at 1 rfl
  obtain ⟨rb, hrb⟩ : ∃ rb, N.rightB ⟨last, l⟩ = rb := ⟨_, rfl⟩
  have HR := Lib.hid hrb
  clear hrb
  obtain ⟨z, hz⟩ : ∃ z, Ph.first ⟨last, l⟩ boot th = z := ⟨_, rfl⟩
  have hz2 := hz
  unfold Ph.first at hz2
  rw [hz]
  rcases rb
  · have hr : ¬ N.right ⟨last, l⟩ := fun h => by have := HR.out; rw [rightB_yes h] at this; cases this
    rw [if_pos hr] at hz2
    subst hz2
    clear hz hr
    go_enter Try.func13, Try.ntmps13
    go_wp2_with fail
    generalize w.alloc (.cells #[.int .i64 last, .slice A n c] 24) = w1 at *
    refine (rnright_at (x := ⟨last, l⟩) A n c HR.out _ h).mono ?_
    rintro e w2 ⟨rfl, hb⟩
    replace X := X.belowH hb
    replace h := h.belowH hb
    replace b := b.trans (hb.mono b.size)
    clear hb x0 x1
    have x0 := X.at 0 rfl
    have x1 := X.at 1 rfl
    go_wp2
    go_ret2
    exact ⟨rfl, b⟩
  have hr := rightB_iff_out HR.out
  have hn16 : n ≤ 16 := wv_le h hr.2.2.1
  have hl1 : -1 ≤ last := hr.1
  have hl2 : last ≤ 1099511627776 := hr.2.1
  rw [if_neg (by simpa using hr)] at hz2
  by_cases hneg : last < 0
  · rw [if_pos hneg] at hz2
    subst hz2
    clear hz hr
    go_enter Try.func13, Try.ntmps13
    go_wp2_with fail
    generalize w.alloc (.cells #[.int .i64 last, .slice A n c] 24) = w1 at *
    refine (rnright_at (x := ⟨last, l⟩) A n c HR.out _ h).mono ?_
    rintro e w2 ⟨rfl, hb⟩
    replace X := X.belowH hb
    replace h := h.belowH hb
    replace b := b.trans (hb.mono b.size)
    clear hb x0 x1
    have x0 := X.at 0 rfl
    have x1 := X.at 1 rfl
    go_wp2
    go_ret2
    exact ⟨rfl, b⟩
  rw [if_neg hneg] at hz2
  by_cases ht1 : th < 0
  · rw [if_pos (Or.inl ht1)] at hz2
    subst hz2
    clear hz hr
    go_enter Try.func13, Try.ntmps13
    go_wp2_with fail
    generalize w.alloc (.cells #[.int .i64 last, .slice A n c] 24) = w1 at *
    refine (rnright_at (x := ⟨last, l⟩) A n c HR.out _ h).mono ?_
    rintro e w2 ⟨rfl, hb⟩
    replace X := X.belowH hb
    replace h := h.belowH hb
    replace b := b.trans (hb.mono b.size)
    clear hb x0 x1
    have x0 := X.at 0 rfl
    have x1 := X.at 1 rfl
    go_wp2
    go_ret2
    exact ⟨rfl, b⟩
  by_cases ht2 : 1099511627776 < th
  · rw [if_pos (Or.inr ht2)] at hz2
    subst hz2
    clear hz hr
    go_enter Try.func13, Try.ntmps13
    go_wp2_with fail
    generalize w.alloc (.cells #[.int .i64 last, .slice A n c] 24) = w1 at *
    refine (rnright_at (x := ⟨last, l⟩) A n c HR.out _ h).mono ?_
    rintro e w2 ⟨rfl, hb⟩
    replace X := X.belowH hb
    replace h := h.belowH hb
    replace b := b.trans (hb.mono b.size)
    clear hb x0 x1
    have x0 := X.at 0 rfl
    have x1 := X.at 1 rfl
    go_wp2
    go_ret2
    exact ⟨rfl, b⟩
  rw [if_neg (by omega)] at hz2
  obtain ⟨m, hm⟩ : ∃ m, N.mean ⟨last, l⟩ boot = m := ⟨_, rfl⟩
  rw [hm] at hz2
  have HM := Lib.hid hm
  have hmp := Ph.mean_pos ⟨last, l⟩ boot
  rw [hm] at hmp
  clear hm
  by_cases hbig : 1099511627776 < m
  · rw [if_pos hbig] at hz2
    subst hz2
    clear hz hr
    go_enter Try.func13, Try.ntmps13
    go_wp2_with fail
    generalize w.alloc (.cells #[.int .i64 last, .slice A n c] 24) = w1 at *
    refine (rnright_at (x := ⟨last, l⟩) A n c HR.out _ h).mono ?_
    rintro e w2 ⟨rfl, hb⟩
    replace X := X.belowH hb
    replace h := h.belowH hb
    replace b := b.trans (hb.mono b.size)
    clear hb x0 x1
    have x0 := X.at 0 rfl
    have x1 := X.at 1 rfl
    go_wp2_with fail
    refine (rnmean_at (x := ⟨last, l⟩) A n c boot HM.out _ h (by omega)).mono ?_
    rintro e w3 ⟨rfl, hb⟩
    replace X := X.belowH hb
    replace b := b.trans (hb.mono b.size)
    clear hb x0 x1
    have x0 := X.at 0 rfl
    have x1 := X.at 1 rfl
    go_wp2
    go_ret2
    exact ⟨rfl, b⟩
  rw [if_neg hbig] at hz2
  obtain ⟨k, hk⟩ : ∃ k, Ph.bound th m = k := ⟨_, rfl⟩
  rw [hk] at hz2
  have hkb := Ph.bound_nonneg th m
  rw [hk] at hkb
  have HK := Lib.hid hk
  clear hk
  by_cases hfull : 1099511627776 - last < k
  · rw [if_pos hfull] at hz2
    subst hz2
    clear hz hr
    go_enter Try.func13, Try.ntmps13
    go_wp2_with fail
    generalize w.alloc (.cells #[.int .i64 last, .slice A n c] 24) = w1 at *
    refine (rnright_at (x := ⟨last, l⟩) A n c HR.out _ h).mono ?_
    rintro e w2 ⟨rfl, hb⟩
    replace X := X.belowH hb
    replace h := h.belowH hb
    replace b := b.trans (hb.mono b.size)
    clear hb x0 x1
    have x0 := X.at 0 rfl
    have x1 := X.at 1 rfl
    go_wp2_with fail
    refine (rnmean_at (x := ⟨last, l⟩) A n c boot HM.out _ h (by omega)).mono ?_
    rintro e w3 ⟨rfl, hb⟩
    replace X := X.belowH hb
    replace b := b.trans (hb.mono b.size)
    clear hb x0 x1
    have x0 := X.at 0 rfl
    have x1 := X.at 1 rfl
    go_wp2_with fail
    refine (rbound_any th m _).mono ?_
    rw [HK.out]
    rintro e w4 ⟨rfl, hb⟩
    replace X := X.belowH hb
    replace b := b.trans (hb.mono b.size)
    clear hb x0 x1
    have x0 := X.at 0 rfl
    have x1 := X.at 1 rfl
    go_wp2
    go_ret2
    exact ⟨rfl, b⟩
  · rw [if_neg hfull] at hz2
    subst hz2
    clear hz hr
    go_enter Try.func13, Try.ntmps13
    go_wp2_with fail
    generalize w.alloc (.cells #[.int .i64 last, .slice A n c] 24) = w1 at *
    refine (rnright_at (x := ⟨last, l⟩) A n c HR.out _ h).mono ?_
    rintro e w2 ⟨rfl, hb⟩
    replace X := X.belowH hb
    replace h := h.belowH hb
    replace b := b.trans (hb.mono b.size)
    clear hb x0 x1
    have x0 := X.at 0 rfl
    have x1 := X.at 1 rfl
    go_wp2_with fail
    refine (rnmean_at (x := ⟨last, l⟩) A n c boot HM.out _ h (by omega)).mono ?_
    rintro e w3 ⟨rfl, hb⟩
    replace X := X.belowH hb
    replace b := b.trans (hb.mono b.size)
    clear hb x0 x1
    have x0 := X.at 0 rfl
    have x1 := X.at 1 rfl
    go_wp2_with fail
    refine (rbound_any th m _).mono ?_
    rw [HK.out]
    rintro e w4 ⟨rfl, hb⟩
    replace X := X.belowH hb
    replace b := b.trans (hb.mono b.size)
    clear hb x0 x1
    have x0 := X.at 0 rfl
    have x1 := X.at 1 rfl
    go_wp2
    go_ret2
    exact ⟨rfl, b⟩
end Go.Proofs.Ytlnhdakafidhiaa
