/- The document's levels. -/
import Derived.Test.YtlnhdakafidhiaaNAlive
import Derived.Test.YtlnhdakafidhiaaPMath
namespace Go.Proofs.Ytlnhdakafidhiaa
set_option linter.unusedVariables false
set_option linter.unusedSimpArgs false
open Go.RowKit
def I64 (x : Int) : Prop := -9223372036854775808 ≤ x ∧ x ≤ 9223372036854775807

set_option maxHeartbeats 4000000 in
set_option maxRecDepth 20000 in
theorem rlevel_any {x : Wi} (A : Option Addr) (n c : Nat) (now boot : Int) (hnow : I64 now) (hboot : I64 boot) (w : World) (h : WRd w ⟨x, A, n, c⟩) :
    Calls Try.prog 11 #[.agg #[.int .i64 x.last, .slice A n c], .int .i64 now, .int .i64 boot] w (PairBR (Ph.lvl x now boot) w) := by
  unfold I64 at hnow hboot
  obtain ⟨last, l⟩ := x
  dsimp only
  have X := Box.new w #[.int .i64 last, .slice A n c] 24
  have b := (Below.refl w.heap.size w).alloc (Nat.le_refl _) (.cells #[.int .i64 last, .slice A n c] 24)
  replace h := h.alloc (.cells #[.int .i64 last, .slice A n c] 24)
  have x0 := X.at 0 rfl
  have x1 := X.at 1 rfl
  by_cases hm : N.may ⟨last, l⟩ now
  · have hr := rightB_yes hm.1
    have m1 : 0 ≤ now := hm.2.1
    have m2 : last ≤ now := hm.2.2.1
    have m3 : now ≤ 1099511627776 := hm.2.2.2
    have m4 : -1 ≤ last := hm.1.1
    have hn16 : n ≤ 16 := wv_le h hm.1.2.2.1
    have HR := Lib.hid hr
    by_cases hl : last < 0
    · rw [Ph.lvl_none hm hl]
      clear hm hr
      go_enter Try.func11, Try.ntmps11
      go_wp2_with fail
      generalize w.alloc (.cells #[.int .i64 last, .slice A n c] 24) = w1 at *
      refine (rnright_at (x := ⟨last, l⟩) A n c HR.out _ h).mono ?_
      rintro e w2 ⟨rfl, hb⟩
      replace X := X.belowH hb
      replace h := h.belowH hb
      replace b := b.trans (hb.mono b.size)
      clear hb x0 x1
      have x0 := X.at 0 rfl
      have x1 := X.at 1 rfl
      go_wp2
      go_ret2
      exact ⟨rfl, b⟩
    · rw [Ph.lvl_is hm hl]
      obtain ⟨m, hmm⟩ : ∃ m, N.mean ⟨last, l⟩ boot = m := ⟨_, rfl⟩
      have hmd := Ph.lvl_muldiv boot hm hl
      have hmp := Ph.mean_pos ⟨last, l⟩ boot
      have hml := Ph.mean_le ⟨last, l⟩ boot
      have hds := Ph.div_small (d := now - last) (m := m) (by omega) (by omega) (by rw [← hmm]; exact hmp)
      dsimp only at hmd ⊢
      rw [hmm] at hmd hmp hml ⊢
      obtain ⟨k, hk⟩ : ∃ k, (now - last) * 434 / m = k := ⟨_, rfl⟩
      rw [hk] at hmd hds ⊢
      have HM := Lib.hid hmm
      have HMD := Lib.hid hmd
      clear hm hr hmm hmd hk
      go_enter Try.func11, Try.ntmps11
      go_wp2_with fail
      generalize w.alloc (.cells #[.int .i64 last, .slice A n c] 24) = w1 at *
      refine (rnright_at (x := ⟨last, l⟩) A n c HR.out _ h).mono ?_
      rintro e w2 ⟨rfl, hb⟩
      replace X := X.belowH hb
      replace h := h.belowH hb
      replace b := b.trans (hb.mono b.size)
      clear hb x0 x1
      have x0 := X.at 0 rfl
      have x1 := X.at 1 rfl
      go_wp2_with fail
      replace X := X.drew
      replace h := h.drew
      replace b := b.drew
      refine wp_region_held_drew (S := (fun w' => w'.cell? ⟨w.heap.size, 0, none⟩ = some (.int .i64 last) ∧ w'.cell? ⟨w.heap.size, 1, none⟩ = some (.slice A n c))) (by kernel_rfl) (by exact ⟨x0, x1⟩) (fun hHeld0 => ?_)
      refine tk 0 31 rfl hHeld0 ?_
      refine tk 1 32 rfl hHeld0 ?_
      refine tk 2 33 rfl hHeld0 ?_
      refine tk 3 34 rfl hHeld0 ?_
      refine tk 4 35 rfl hHeld0 ?_
      refine tk 5 36 rfl hHeld0 ?_
      refine wpAnyH_ready (rs := [6]) (by kernel_rfl) (by simp) (AllReadyH.cons (o := ⟨some 37, _, _, _, _, _⟩) rfl (fun K hK => ?_) AllReadyH.nil)
      go_simp
      (refine (rnmean_at (x := ⟨last, l⟩) A n c boot HM.out _ h (by omega)).mono ?_; rintro e w3 ⟨rfl, hb⟩; replace X := X.belowH hb; replace b := b.trans (hb.mono b.size); clear hb x0 x1; have x0 := X.at 0 rfl; have x1 := X.at 1 rfl; have e9 : IntKind.i64.wrap (now - last) = now - last := IntWalk.i64_in _ (by omega); (try rw [e9]))
      go_simp
      refine hK.out _ _ (by exact ⟨x0, x1⟩) (fun hHeld1 => ?_)
      clear hK hHeld0 K
      try simp only [Act.put, sA, sB, sC]
      refine wpAnyH_ready (rs := [7]) (by kernel_rfl) (by simp) (AllReadyH.cons (o := ⟨some 38, _, _, _, _, _⟩) rfl (fun K hK => ?_) AllReadyH.nil)
      go_simp
      (refine (rmuldiv_any (now - last) 434 m (by omega) (by omega) (by omega) _).mono ?_; rw [HMD.out]; rintro e w4 ⟨rfl, hb⟩; (try dsimp only); replace X := X.belowH hb; replace b := b.trans (hb.mono b.size); clear hb x0 x1; have x0 := X.at 0 rfl; have x1 := X.at 1 rfl)
      go_simp
      refine hK.out _ _ (by exact ⟨x0, x1⟩) (fun hHeld2 => ?_)
      clear hK hHeld1 K
      try simp only [Act.put, sA, sB, sC]
      refine tk 8 30 rfl hHeld2 ?_
      refine tk 9 39 rfl hHeld2 ?_
      refine tk 10 40 rfl hHeld2 ?_
      refine tk 11 8 rfl hHeld2 ?_
      refine tk 12 9 rfl hHeld2 ?_
      refine wpAnyH_done (by kernel_rfl) ?_ _
      go_wp2
      go_ret2
      exact ⟨rfl, b⟩
  · rw [Ph.lvl_no hm]
    by_cases hr : N.right ⟨last, l⟩
    · have HR := Lib.hid (rightB_yes hr)
      have hbad : now < 0 ∨ 0 ≤ now ∧ now < last ∨ 0 ≤ now ∧ last ≤ now ∧ 1099511627776 < now := by
        have : ¬ (0 ≤ now ∧ last ≤ now ∧ now ≤ 1099511627776) := fun h => hm ⟨hr, h⟩
        omega
      clear hm hr
      rcases hbad with hb1 | ⟨hb1, hb2⟩ | ⟨hb1, hb2, hb3⟩
      all_goals
        go_enter Try.func11, Try.ntmps11
        go_wp2_with fail
        generalize w.alloc (.cells #[.int .i64 last, .slice A n c] 24) = w1 at *
        refine (rnright_at (x := ⟨last, l⟩) A n c HR.out _ h).mono ?_
        rintro e w2 ⟨rfl, hb⟩
        replace X := X.belowH hb
        replace h := h.belowH hb
        replace b := b.trans (hb.mono b.size)
        clear hb x0 x1
        have x0 := X.at 0 rfl
        have x1 := X.at 1 rfl
        go_wp2
        go_ret2
        exact ⟨rfl, b⟩
    · have HR := Lib.hid (rightB_no hr)
      clear hm hr
      go_enter Try.func11, Try.ntmps11
      go_wp2_with fail
      generalize w.alloc (.cells #[.int .i64 last, .slice A n c] 24) = w1 at *
      refine (rnright_at (x := ⟨last, l⟩) A n c HR.out _ h).mono ?_
      rintro e w2 ⟨rfl, hb⟩
      replace X := X.belowH hb
      replace h := h.belowH hb
      replace b := b.trans (hb.mono b.size)
      clear hb x0 x1
      have x0 := X.at 0 rfl
      have x1 := X.at 1 rfl
      go_wp2
      go_ret2
      exact ⟨rfl, b⟩

set_option maxHeartbeats 1000000 in
theorem rsuspect_any {x : Wi} (A : Option Addr) (n c : Nat) (now boot th : Int) (hnow : I64 now) (hboot : I64 boot) (w : World) (h : WRd w ⟨x, A, n, c⟩) :
    Calls Try.prog 15 #[.agg #[.int .i64 x.last, .slice A n c], .int .i64 now, .int .i64 boot, .int .i64 th] w (BoolR (Ph.susp x now boot th) w) := by
  have X := Box.new w #[.int .i64 x.last, .slice A n c] 24
  have b := (Below.refl w.heap.size w).alloc (Nat.le_refl _) (.cells #[.int .i64 x.last, .slice A n c] 24)
  replace h := h.alloc (.cells #[.int .i64 x.last, .slice A n c] 24)
  unfold Ph.susp
  obtain ⟨⟨k, er⟩, hk⟩ : ∃ z, Ph.lvl x now boot = z := ⟨_, rfl⟩
  rw [hk]
  dsimp only
  have HK := Lib.hid hk
  clear hk
  by_cases he : er = 0
  · subst he
    go_enter Try.func15, Try.ntmps15
    go_wp2_with fail
    refine (rlevel_any A n c now boot hnow hboot _ h).mono ?_
    rw [HK.out]
    rintro e w2 ⟨rfl, hb⟩
    replace b := b.trans (hb.mono b.size)
    clear hb
    (try dsimp only)
    go_wp2
    go_ret
    exact ⟨ret_bool (by simp), b⟩
  · have hne : (er == 0) = false := beq_eq_false_iff_ne.2 he
    go_enter Try.func15, Try.ntmps15
    go_wp2_with fail
    refine (rlevel_any A n c now boot hnow hboot _ h).mono ?_
    rw [HK.out]
    rintro e w2 ⟨rfl, hb⟩
    replace b := b.trans (hb.mono b.size)
    clear hb
    (try dsimp only)
    go_wp2
    go_ret
    exact ⟨ret_bool (by simp [he]), b⟩
end Go.Proofs.Ytlnhdakafidhiaa
