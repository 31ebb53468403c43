/- Package phi: what each call answers. -/
import Derived.Test.YtlnhdakafidhiaaPRef3
namespace Go.Proofs.Ytlnhdakafidhiaa
set_option linter.unusedVariables false
set_option linter.unusedSimpArgs false
open Go.RowKit

/-- a product over a divisor; the greatest one where it would be more -/
def pmd (a b c : Int) : Int := if (R.mulDiv a b c).2 = 0 then (R.mulDiv a b c).1 else 4611686018427387904
theorem pmd_any (a b c : Int) (ha : I64 a) (hb : I64 b) (hc : I64 c) (w : World) :
    Calls Try.prog 25 #[.int .i64 a, .int .i64 b, .int .i64 c] w (IntBR (pmd a b c) w) := by
  unfold I64 at ha hb hc
  unfold pmd
  obtain ⟨⟨n, er⟩, hz⟩ : ∃ z, R.mulDiv a b c = z := ⟨_, rfl⟩
  rw [hz]
  dsimp only
  have HZ := Lib.hid hz
  clear hz
  by_cases he : er = 0
  · subst he
    rw [if_pos rfl]
    go_enter Try.func25, Try.ntmps25
    go_wp2_with fail
    refine (muldiv_any a b c ha hb hc _).mono ?_
    rw [HZ.out]
    rintro e w2 ⟨rfl, q, hq⟩
    have b := below_q hq
    clear hq
    (try dsimp only)
    go_wp2
    go_ret
    exact ⟨rfl, b⟩
  · rw [if_neg he]
    have hne : (er == 0) = false := beq_eq_false_iff_ne.2 he
    have hne2 : (er != 0) = true := bne_iff_ne.2 he
    go_enter Try.func25, Try.ntmps25
    go_wp2_with fail
    refine (muldiv_any a b c ha hb hc _).mono ?_
    rw [HZ.out]
    rintro e w2 ⟨rfl, q, hq⟩
    have b := below_q hq
    clear hq
    (try dsimp only)
    go_wp2
    go_ret
    exact ⟨rfl, b⟩

theorem arrived_any (last : Int) (A : Option Addr) (n c : Nat) (w : World) :
    Calls Try.prog 24 #[.agg #[.int .i64 last, .slice A n c]] w (BoolR (decide (0 ≤ last)) w) := by
  have X := Box.new w #[.int .i64 last, .slice A n c] 24
  have b := (Below.refl w.heap.size w).alloc (Nat.le_refl _) (.cells #[.int .i64 last, .slice A n c] 24)
  have x0 := X.at 0 rfl
  have x1 := X.at 1 rfl
  go_enter Try.func24, Try.ntmps24
  go_wp2
  go_ret
  exact ⟨ret_bool rfl, b⟩

theorem mulDiv_turn (a b c : Int) : R.mulDiv a b c = R.mulDiv b a c := by
  unfold R.mulDiv
  rw [Int.mul_comm b a]
  by_cases h : a < 0 ∨ b < 0 ∨ c < 1
  · rw [if_pos h, if_pos (show b < 0 ∨ a < 0 ∨ c < 1 by omega)]
  · rw [if_neg h, if_neg (show ¬ (b < 0 ∨ a < 0 ∨ c < 1) by omega)]
theorem pmd_is {a b c : Int} (ha : 0 ≤ a) (hb : 0 ≤ b) (hc : 1 ≤ c) : pmd a b c = min (a * b / c) 4611686018427387904 := by
  have e : R.mulDiv a b c = if 4611686018427387904 < a * b / c then (0, 8) else (a * b / c, 0) := by
    unfold R.mulDiv
    rw [if_neg (show ¬ (a < 0 ∨ b < 0 ∨ c < 1) by omega)]
  unfold pmd
  rw [e]
  generalize a * b / c = k at *
  by_cases h : 4611686018427387904 < k
  · simp [h]; omega
  · simp [h]; omega
theorem lvl_pmd {x : Wi} {now : Int} (boot : Int) (h : N.may x now) (hl : ¬ x.last < 0) : pmd 434 (now - x.last) (N.mean x boot) = (now - x.last) * 434 / N.mean x boot := by
  unfold pmd
  rw [mulDiv_turn, Ph.lvl_muldiv boot h hl]
  simp
/-- how long it takes: the product, rounded up -/
theorem bound_up {th mean : Int} (h : ¬ Ph.bad th mean) {n : Int} (hn : pmd (th + 1) mean 434 = n) : 0 ≤ n ∧ n ≤ 4611686018427387904 ∧ Ph.bound th mean = if n < 4611686018427387904 ∧ R.cmp n mean (th + 1) 434 < 0 then n + 1 else n := by
  have hb := Ph.bound_ok h
  have hp := Ph.prod_pos h
  unfold Ph.bad at h
  rw [pmd_is (by omega) (by omega) (by omega)] at hn
  have e : R.cmp n mean (th + 1) 434 = if n * 434 < (th + 1) * mean then -1 else if (th + 1) * mean < n * 434 then 1 else 0 := by
    have hp0 : 0 ≤ (th + 1) * mean / 434 := Int.ediv_nonneg (by omega) (by omega)
    unfold R.cmp
    rw [if_neg (show ¬ (n < 0 ∨ th + 1 < 0 ∨ mean < 1 ∨ (434 : Int) < 1) by omega)]
  rw [hb, e]
  unfold Ph.cnt
  generalize (th + 1) * mean = P at *
  clear hb e
  refine ⟨by omega, by omega, ?_⟩
  by_cases c1 : n * 434 < P
  · rw [if_pos c1]
    by_cases c2 : n < 4611686018427387904
    · rw [if_pos ⟨c2, by omega⟩]; omega
    · rw [if_neg (fun h => c2 h.1)]; omega
  · rw [if_neg c1]
    have : ¬ ((if P < n * 434 then 1 else 0 : Int) < 0) := by split <;> omega
    rw [if_neg (fun h => this h.2)]; omega

set_option maxHeartbeats 4000000 in
set_option maxRecDepth 20000 in
theorem level_any {x : Wi} (A : Option Addr) (n c : Nat) (now boot : Int) (hnow : I64 now) (hboot : I64 boot) (w : World) (h : WRd w ⟨x, A, n, c⟩) (hn : n ≤ 1000) :
    Calls Try.prog 10 #[.agg #[.int .i64 x.last, .slice A n c], .int .i64 now, .int .i64 boot] w (PairBR (Ph.lvl x now boot) w) := by
  unfold I64 at hnow hboot
  obtain ⟨last, l⟩ := x
  dsimp only
  have X := Box.new w #[.int .i64 last, .slice A n c] 24
  have b := (Below.refl w.heap.size w).alloc (Nat.le_refl _) (.cells #[.int .i64 last, .slice A n c] 24)
  replace h := h.alloc (.cells #[.int .i64 last, .slice A n c] 24)
  have x0 := X.at 0 rfl
  have x1 := X.at 1 rfl
  by_cases hm : N.may ⟨last, l⟩ now
  · have hr := rightB_yes hm.1
    have m1 : 0 ≤ now := hm.2.1
    have m2 : last ≤ now := hm.2.2.1
    have m3 : now ≤ 1099511627776 := hm.2.2.2
    have m4 : -1 ≤ last := hm.1.1
    have d1 : decide (now < max 0 last) = false := decide_eq_false (by omega)
    have HR := Lib.hid hr
    by_cases hl : last < 0
    · rw [Ph.lvl_none hm hl]
      have AN := Lib.hid (show decide (0 ≤ last) = false from decide_eq_false (by omega))
      clear hm hr
      go_enter Try.func10, Try.ntmps10
      go_wp2_with fail
      generalize w.alloc (.cells #[.int .i64 last, .slice A n c] 24) = w1 at *
      refine (nright_at (x := ⟨last, l⟩) A n c HR.out _ h).mono ?_
      rintro e w2 ⟨rfl, hb⟩
      replace X := X.belowH hb
      replace h := h.belowH hb
      replace b := b.trans (hb.mono b.size)
      clear hb x0 x1
      have x0 := X.at 0 rfl
      have x1 := X.at 1 rfl
      go_wp2_with fail
      refine (arrived_any last A n c _).mono ?_
      rw [AN.out]
      rintro e w2 ⟨rfl, hb⟩
      replace X := X.belowH hb
      replace h := h.belowH hb
      replace b := b.trans (hb.mono b.size)
      clear hb x0 x1
      have x0 := X.at 0 rfl
      have x1 := X.at 1 rfl
      go_wp2
      go_ret2
      exact ⟨rfl, b⟩
    · rw [Ph.lvl_is hm hl]
      have AY := Lib.hid (show decide (0 ≤ last) = true from decide_eq_true (by omega))
      obtain ⟨m, hmm⟩ : ∃ m, N.mean ⟨last, l⟩ boot = m := ⟨_, rfl⟩
      have hmd := lvl_pmd boot hm hl
      have hmp := Ph.mean_pos ⟨last, l⟩ boot
      have hml := Ph.mean_le ⟨last, l⟩ boot
      dsimp only at hmd ⊢
      rw [hmm] at hmd hmp hml ⊢
      obtain ⟨k, hk⟩ : ∃ k, (now - last) * 434 / m = k := ⟨_, rfl⟩
      rw [hk] at hmd ⊢
      have HM := Lib.hid hmm
      have HMD := Lib.hid hmd
      clear hm hr hmm hmd hk
      go_enter Try.func10, Try.ntmps10
      go_wp2_with fail
      generalize w.alloc (.cells #[.int .i64 last, .slice A n c] 24) = w1 at *
      refine (nright_at (x := ⟨last, l⟩) A n c HR.out _ h).mono ?_
      rintro e w2 ⟨rfl, hb⟩
      replace X := X.belowH hb
      replace h := h.belowH hb
      replace b := b.trans (hb.mono b.size)
      clear hb x0 x1
      have x0 := X.at 0 rfl
      have x1 := X.at 1 rfl
      go_wp2_with fail
      refine (arrived_any last A n c _).mono ?_
      rw [AY.out]
      rintro e w2 ⟨rfl, hb⟩
      replace X := X.belowH hb
      replace h := h.belowH hb
      replace b := b.trans (hb.mono b.size)
      clear hb x0 x1
      have x0 := X.at 0 rfl
      have x1 := X.at 1 rfl
      go_wp2_with fail
      replace X := X.drew
      replace h := h.drew
      replace b := b.drew
      clear x0 x1
      have x0 := X.at 0 rfl
      have x1 := X.at 1 rfl
      refine wp_region_held_drew (S := (fun w' => w'.cell? ⟨w.heap.size, 0, none⟩ = some (.int .i64 last) ∧ w'.cell? ⟨w.heap.size, 1, none⟩ = some (.slice A n c))) (by kernel_rfl) (by exact ⟨x0, x1⟩) (fun hHeld0 => ?_)
      refine tk 0 25 rfl hHeld0 ?_
      refine tk 1 26 rfl hHeld0 ?_
      refine tk 2 27 rfl hHeld0 ?_
      refine tk 3 28 rfl hHeld0 ?_
      refine tk 4 29 rfl hHeld0 ?_
      refine tk 5 30 rfl hHeld0 ?_
      refine wpAnyH_ready (rs := [6]) (by kernel_rfl) (by simp) (AllReadyH.cons (o := ⟨some 31, _, _, _, _, _⟩) rfl (fun K hK => ?_) AllReadyH.nil)
      go_simp
      (refine (nmean_at (x := ⟨last, l⟩) A n c boot HM.out _ h (by omega)).mono ?_; rintro e w3 ⟨rfl, hb⟩; replace X := X.belowH hb; replace b := b.trans (hb.mono b.size); clear hb x0 x1; have x0 := X.at 0 rfl; have x1 := X.at 1 rfl; have e9 : IntKind.i64.wrap (now - last) = now - last := IntWalk.i64_in _ (by omega); (try rw [e9]))
      go_simp
      refine hK.out _ _ (by exact ⟨x0, x1⟩) (fun hHeld1 => ?_)
      clear hK hHeld0 K
      try simp only [Act.put, sA, sB, sC]
      refine wpAnyH_ready (rs := [7]) (by kernel_rfl) (by simp) (AllReadyH.cons (o := ⟨some 32, _, _, _, _, _⟩) rfl (fun K hK => ?_) AllReadyH.nil)
      go_simp
      (refine (pmd_any 434 (now - last) m (by unfold I64; omega) (by unfold I64; omega) (by unfold I64; omega) _).mono ?_; rw [HMD.out]; rintro e w4 ⟨rfl, hb⟩; replace X := X.belowH hb; replace b := b.trans (hb.mono b.size); clear hb x0 x1; have x0 := X.at 0 rfl; have x1 := X.at 1 rfl)
      go_simp
      refine hK.out _ _ (by exact ⟨x0, x1⟩) (fun hHeld2 => ?_)
      clear hK hHeld1 K
      try simp only [Act.put, sA, sB, sC]
      refine tk 8 6 rfl hHeld2 ?_
      refine tk 9 7 rfl hHeld2 ?_
      refine wpAnyH_done (by kernel_rfl) ?_ _
      go_wp2
      go_ret2
      exact ⟨rfl, b⟩
  · rw [Ph.lvl_no hm]
    by_cases hr : N.right ⟨last, l⟩
    · have HR := Lib.hid (rightB_yes hr)
      have hbad : now < max 0 last ∨ max 0 last ≤ now ∧ 1099511627776 < now := by
        have : ¬ (0 ≤ now ∧ last ≤ now ∧ now ≤ 1099511627776) := fun h => hm ⟨hr, h⟩
        omega
      clear hm hr
      rcases hbad with hb1 | ⟨hb1, hb2⟩
      all_goals
        go_enter Try.func10, Try.ntmps10
        go_wp2_with fail
        generalize w.alloc (.cells #[.int .i64 last, .slice A n c] 24) = w1 at *
        refine (nright_at (x := ⟨last, l⟩) A n c HR.out _ h).mono ?_
        rintro e w2 ⟨rfl, hb⟩
        replace X := X.belowH hb
        replace h := h.belowH hb
        replace b := b.trans (hb.mono b.size)
        clear hb x0 x1
        have x0 := X.at 0 rfl
        have x1 := X.at 1 rfl
        go_wp2
        go_ret2
        exact ⟨rfl, b⟩
    · have HR := Lib.hid (rightB_no hr)
      clear hm hr
      go_enter Try.func10, Try.ntmps10
      go_wp2_with fail
      generalize w.alloc (.cells #[.int .i64 last, .slice A n c] 24) = w1 at *
      refine (nright_at (x := ⟨last, l⟩) A n c HR.out _ h).mono ?_
      rintro e w2 ⟨rfl, hb⟩
      replace X := X.belowH hb
      replace h := h.belowH hb
      replace b := b.trans (hb.mono b.size)
      clear hb x0 x1
      have x0 := X.at 0 rfl
      have x1 := X.at 1 rfl
      go_wp2
      go_ret2
      exact ⟨rfl, b⟩

set_option maxHeartbeats 1000000 in
theorem suspect_any {x : Wi} (A : Option Addr) (n c : Nat) (now boot th : Int) (hnow : I64 now) (hboot : I64 boot) (hth : I64 th) (w : World) (h : WRd w ⟨x, A, n, c⟩) (hn : n ≤ 1000) :
    Calls Try.prog 14 #[.agg #[.int .i64 x.last, .slice A n c], .int .i64 now, .int .i64 boot, .int .i64 th] w (BoolR (Ph.susp x now boot th) w) := by
  have X := Box.new w #[.int .i64 x.last, .slice A n c] 24
  have b := (Below.refl w.heap.size w).alloc (Nat.le_refl _) (.cells #[.int .i64 x.last, .slice A n c] 24)
  replace h := h.alloc (.cells #[.int .i64 x.last, .slice A n c] 24)
  unfold Ph.susp
  obtain ⟨⟨k, er⟩, hk⟩ : ∃ z, Ph.lvl x now boot = z := ⟨_, rfl⟩
  rw [hk]
  dsimp only
  have HK := Lib.hid hk
  clear hk
  by_cases he : er = 0
  · subst he
    go_enter Try.func14, Try.ntmps14
    go_wp2_with fail
    refine (level_any A n c now boot hnow hboot _ h hn).mono ?_
    rw [HK.out]
    rintro e w2 ⟨rfl, hb⟩
    replace b := b.trans (hb.mono b.size)
    clear hb
    (try dsimp only)
    go_wp2
    go_ret
    exact ⟨ret_bool (by simp), b⟩
  · have hne : (er == 0) = false := beq_eq_false_iff_ne.2 he
    have hne2 : (er != 0) = true := bne_iff_ne.2 he
    go_enter Try.func14, Try.ntmps14
    go_wp2_with fail
    refine (level_any A n c now boot hnow hboot _ h hn).mono ?_
    rw [HK.out]
    rintro e w2 ⟨rfl, hb⟩
    replace b := b.trans (hb.mono b.size)
    clear hb
    (try dsimp only)
    go_wp2
    go_ret
    exact ⟨ret_bool (by simp [he]), b⟩

set_option maxHeartbeats 1000000 in
set_option maxRecDepth 20000 in
theorem bound_any (th mean : Int) (hth : I64 th) (hmean : I64 mean) (w : World) :
    Calls Try.prog 16 #[.int .i64 th, .int .i64 mean] w (IntBR (Ph.bound th mean) w) := by
  unfold I64 at hth hmean
  by_cases h1 : th < 0
  · rw [Ph.bound_bad (Or.inl h1)]
    go_enter Try.func16, Try.ntmps16
    go_wp2
    go_ret
    exact ⟨rfl, Below.refl _ _⟩
  by_cases h2 : 1099511627776 < th
  · rw [Ph.bound_bad (Or.inr (Or.inl h2))]
    go_enter Try.func16, Try.ntmps16
    go_wp2
    go_ret
    exact ⟨rfl, Below.refl _ _⟩
  by_cases h3 : mean < 1
  · rw [Ph.bound_bad (Or.inr (Or.inr (Or.inl h3)))]
    go_enter Try.func16, Try.ntmps16
    go_wp2
    go_ret
    exact ⟨rfl, Below.refl _ _⟩
  by_cases h4 : 1099511627776 < mean
  · rw [Ph.bound_bad (Or.inr (Or.inr (Or.inr h4)))]
    go_enter Try.func16, Try.ntmps16
    go_wp2
    go_ret
    exact ⟨rfl, Below.refl _ _⟩
  have hok : ¬ Ph.bad th mean := by unfold Ph.bad; omega
  obtain ⟨n, hn⟩ : ∃ n, pmd (th + 1) mean 434 = n := ⟨_, rfl⟩
  obtain ⟨n0, n1, hu⟩ := bound_up hok hn
  rw [hu]
  have HN := Lib.hid hn
  obtain ⟨k, hk⟩ : ∃ k, R.cmp n mean (th + 1) 434 = k := ⟨_, rfl⟩
  rw [hk]
  have HK := Lib.hid hk
  have e0 : wrap64 (th + 1) = th + 1 := wrap64_in (by omega) (by omega)
  clear hok hn hu hk
  by_cases c1 : n < 4611686018427387904
  · by_cases c2 : k < 0
    · rw [if_pos ⟨c1, c2⟩]
      go_enter Try.func16, Try.ntmps16
      go_wp2_with fail
      refine (pmd_any (th + 1) mean 434 (by unfold I64; omega) (by unfold I64; omega) (by unfold I64; omega) _).mono ?_
      rw [HN.out]
      rintro e w2 ⟨rfl, b⟩
      go_wp2_with fail
      refine (cmp_any n mean (th + 1) 434 (by omega) (by omega) (by omega) (by omega) _).mono ?_
      rw [HK.out]
      rintro e w3 ⟨rfl, hb⟩
      replace b := b.trans (hb.mono b.size)
      clear hb
      go_wp2
      go_ret
      exact ⟨ret_int (by try omega), b⟩
    · rw [if_neg (by omega)]
      go_enter Try.func16, Try.ntmps16
      go_wp2_with fail
      refine (pmd_any (th + 1) mean 434 (by unfold I64; omega) (by unfold I64; omega) (by unfold I64; omega) _).mono ?_
      rw [HN.out]
      rintro e w2 ⟨rfl, b⟩
      go_wp2_with fail
      refine (cmp_any n mean (th + 1) 434 (by omega) (by omega) (by omega) (by omega) _).mono ?_
      rw [HK.out]
      rintro e w3 ⟨rfl, hb⟩
      replace b := b.trans (hb.mono b.size)
      clear hb
      go_wp2
      go_ret
      exact ⟨rfl, b⟩
  · rw [if_neg (by omega)]
    go_enter Try.func16, Try.ntmps16
    go_wp2_with fail
    refine (pmd_any (th + 1) mean 434 (by unfold I64; omega) (by unfold I64; omega) (by unfold I64; omega) _).mono ?_
    rw [HN.out]
    rintro e w2 ⟨rfl, b⟩
    go_wp2
    go_ret
    exact ⟨rfl, b⟩

set_option maxHeartbeats 4000000 in
set_option maxRecDepth 20000 in
theorem first_any {x : Wi} (A : Option Addr) (n c : Nat) (boot th : Int) (hboot : I64 boot) (hth : I64 th) (w : World) (h : WRd w ⟨x, A, n, c⟩) (hn : n ≤ 1000) :
    Calls Try.prog 12 #[.agg #[.int .i64 x.last, .slice A n c], .int .i64 boot, .int .i64 th] w (PairBR (Ph.first x boot th) w) := by
  unfold I64 at hboot hth
  obtain ⟨last, l⟩ := x
  dsimp only
  have X := Box.new w #[.int .i64 last, .slice A n c] 24
  have b := (Below.refl w.heap.size w).alloc (Nat.le_refl _) (.cells #[.int .i64 last, .slice A n c] 24)
  replace h := h.alloc (.cells #[.int .i64 last, .slice A n c] 24)
  have x0 := X.at 0 rfl
  have x1 := X.at 1 rfl
  obtain ⟨rb, hrb⟩ : ∃ rb, N.rightB ⟨last, l⟩ = rb := ⟨_, rfl⟩
  have HR := Lib.hid hrb
  clear hrb
  obtain ⟨z, hz⟩ : ∃ z, Ph.first ⟨last, l⟩ boot th = z := ⟨_, rfl⟩
  have hz2 := hz
  unfold Ph.first at hz2
  rw [hz]
  rcases rb
  · have hr : ¬ N.right ⟨last, l⟩ := fun h => by have := HR.out; rw [rightB_yes h] at this; cases this
    rw [if_pos hr] at hz2
    subst hz2
    clear hz hr
    go_enter Try.func12, Try.ntmps12
    go_wp2_with fail
    generalize w.alloc (.cells #[.int .i64 last, .slice A n c] 24) = w1 at *
    refine (nright_at (x := ⟨last, l⟩) A n c HR.out _ h).mono ?_
    rintro e w2 ⟨rfl, hb⟩
    replace X := X.belowH hb
    replace h := h.belowH hb
    replace b := b.trans (hb.mono b.size)
    clear hb x0 x1
    have x0 := X.at 0 rfl
    have x1 := X.at 1 rfl
    go_wp2
    go_ret2
    exact ⟨rfl, b⟩
  have hr := rightB_iff_out HR.out
  have hl1 : -1 ≤ last := hr.1
  have hl2 : last ≤ 1099511627776 := hr.2.1
  rw [if_neg (by simpa using hr)] at hz2
  by_cases hneg : last < 0
  · rw [if_pos hneg] at hz2
    subst hz2
    have AN := Lib.hid (show decide (0 ≤ last) = false from decide_eq_false (by omega))
    clear hz hr
    go_enter Try.func12, Try.ntmps12
    go_wp2_with fail
    generalize w.alloc (.cells #[.int .i64 last, .slice A n c] 24) = w1 at *
    refine (nright_at (x := ⟨last, l⟩) A n c HR.out _ h).mono ?_
    rintro e w2 ⟨rfl, hb⟩
    replace X := X.belowH hb
    replace h := h.belowH hb
    replace b := b.trans (hb.mono b.size)
    clear hb x0 x1
    have x0 := X.at 0 rfl
    have x1 := X.at 1 rfl
    go_wp2_with fail
    refine (arrived_any last A n c _).mono ?_
    rw [AN.out]
    rintro e w2 ⟨rfl, hb⟩
    replace X := X.belowH hb
    replace h := h.belowH hb
    replace b := b.trans (hb.mono b.size)
    clear hb x0 x1
    have x0 := X.at 0 rfl
    have x1 := X.at 1 rfl
    go_wp2
    go_ret2
    exact ⟨rfl, b⟩
  rw [if_neg hneg] at hz2
  have AY := Lib.hid (show decide (0 ≤ last) = true from decide_eq_true (by omega))
  by_cases ht1 : th < 0
  · rw [if_pos (Or.inl ht1)] at hz2
    subst hz2
    clear hz hr
    go_enter Try.func12, Try.ntmps12
    go_wp2_with fail
    generalize w.alloc (.cells #[.int .i64 last, .slice A n c] 24) = w1 at *
    refine (nright_at (x := ⟨last, l⟩) A n c HR.out _ h).mono ?_
    rintro e w2 ⟨rfl, hb⟩
    replace X := X.belowH hb
    replace h := h.belowH hb
    replace b := b.trans (hb.mono b.size)
    clear hb x0 x1
    have x0 := X.at 0 rfl
    have x1 := X.at 1 rfl
    go_wp2_with fail
    refine (arrived_any last A n c _).mono ?_
    rw [AY.out]
    rintro e w2 ⟨rfl, hb⟩
    replace X := X.belowH hb
    replace h := h.belowH hb
    replace b := b.trans (hb.mono b.size)
    clear hb x0 x1
    have x0 := X.at 0 rfl
    have x1 := X.at 1 rfl
    go_wp2
    go_ret2
    exact ⟨rfl, b⟩
  by_cases ht2 : 1099511627776 < th
  · rw [if_pos (Or.inr ht2)] at hz2
    subst hz2
    clear hz hr
    go_enter Try.func12, Try.ntmps12
    go_wp2_with fail
    generalize w.alloc (.cells #[.int .i64 last, .slice A n c] 24) = w1 at *
    refine (nright_at (x := ⟨last, l⟩) A n c HR.out _ h).mono ?_
    rintro e w2 ⟨rfl, hb⟩
    replace X := X.belowH hb
    replace h := h.belowH hb
    replace b := b.trans (hb.mono b.size)
    clear hb x0 x1
    have x0 := X.at 0 rfl
    have x1 := X.at 1 rfl
    go_wp2_with fail
    refine (arrived_any last A n c _).mono ?_
    rw [AY.out]
    rintro e w2 ⟨rfl, hb⟩
    replace X := X.belowH hb
    replace h := h.belowH hb
    replace b := b.trans (hb.mono b.size)
    clear hb x0 x1
    have x0 := X.at 0 rfl
    have x1 := X.at 1 rfl
    go_wp2
    go_ret2
    exact ⟨rfl, b⟩
  rw [if_neg (by omega)] at hz2
  obtain ⟨m, hm⟩ : ∃ m, N.mean ⟨last, l⟩ boot = m := ⟨_, rfl⟩
  rw [hm] at hz2
  have HM := Lib.hid hm
  have hmp := Ph.mean_pos ⟨last, l⟩ boot
  rw [hm] at hmp
  clear hm
  by_cases hbig : 1099511627776 < m
  · rw [if_pos hbig] at hz2
    subst hz2
    clear hz hr
    go_enter Try.func12, Try.ntmps12
    go_wp2_with fail
    generalize w.alloc (.cells #[.int .i64 last, .slice A n c] 24) = w1 at *
    refine (nright_at (x := ⟨last, l⟩) A n c HR.out _ h).mono ?_
    rintro e w2 ⟨rfl, hb⟩
    replace X := X.belowH hb
    replace h := h.belowH hb
    replace b := b.trans (hb.mono b.size)
    clear hb x0 x1
    have x0 := X.at 0 rfl
    have x1 := X.at 1 rfl
    go_wp2_with fail
    refine (arrived_any last A n c _).mono ?_
    rw [AY.out]
    rintro e w2 ⟨rfl, hb⟩
    replace X := X.belowH hb
    replace h := h.belowH hb
    replace b := b.trans (hb.mono b.size)
    clear hb x0 x1
    have x0 := X.at 0 rfl
    have x1 := X.at 1 rfl
    go_wp2_with fail
    refine (nmean_at (x := ⟨last, l⟩) A n c boot HM.out _ h (by omega)).mono ?_
    rintro e w3 ⟨rfl, hb⟩
    replace X := X.belowH hb
    replace b := b.trans (hb.mono b.size)
    clear hb x0 x1
    have x0 := X.at 0 rfl
    have x1 := X.at 1 rfl
    go_wp2
    go_ret2
    exact ⟨rfl, b⟩
  rw [if_neg hbig] at hz2
  obtain ⟨k, hk⟩ : ∃ k, Ph.bound th m = k := ⟨_, rfl⟩
  rw [hk] at hz2
  have hkb := Ph.bound_nonneg th m
  rw [hk] at hkb
  have HK := Lib.hid hk
  clear hk
  by_cases hfull : 1099511627776 - last < k
  · rw [if_pos hfull] at hz2
    subst hz2
    clear hz hr
    go_enter Try.func12, Try.ntmps12
    go_wp2_with fail
    generalize w.alloc (.cells #[.int .i64 last, .slice A n c] 24) = w1 at *
    refine (nright_at (x := ⟨last, l⟩) A n c HR.out _ h).mono ?_
    rintro e w2 ⟨rfl, hb⟩
    replace X := X.belowH hb
    replace h := h.belowH hb
    replace b := b.trans (hb.mono b.size)
    clear hb x0 x1
    have x0 := X.at 0 rfl
    have x1 := X.at 1 rfl
    go_wp2_with fail
    refine (arrived_any last A n c _).mono ?_
    rw [AY.out]
    rintro e w2 ⟨rfl, hb⟩
    replace X := X.belowH hb
    replace h := h.belowH hb
    replace b := b.trans (hb.mono b.size)
    clear hb x0 x1
    have x0 := X.at 0 rfl
    have x1 := X.at 1 rfl
    go_wp2_with fail
    refine (nmean_at (x := ⟨last, l⟩) A n c boot HM.out _ h (by omega)).mono ?_
    rintro e w3 ⟨rfl, hb⟩
    replace X := X.belowH hb
    replace b := b.trans (hb.mono b.size)
    clear hb x0 x1
    have x0 := X.at 0 rfl
    have x1 := X.at 1 rfl
    go_wp2_with fail
    replace X := X.drew
    replace b := b.drew
    clear x0 x1
    have x0 := X.at 0 rfl
    have x1 := X.at 1 rfl
    refine wp_region_held_drew (S := (fun w' => w'.cell? ⟨w.heap.size, 0, none⟩ = some (.int .i64 last) ∧ w'.cell? ⟨w.heap.size, 1, none⟩ = some (.slice A n c))) (by kernel_rfl) (by exact ⟨x0, x1⟩) (fun hHeld0 => ?_)
    refine tk 0 27 rfl hHeld0 ?_
    refine tk 1 28 rfl hHeld0 ?_
    refine tk 2 29 rfl hHeld0 ?_
    refine tk 3 30 rfl hHeld0 ?_
    refine wpAnyH_ready (rs := [4]) (by kernel_rfl) (by simp) (AllReadyH.cons (o := ⟨some 31, _, _, _, _, _⟩) rfl (fun K hK => ?_) AllReadyH.nil)
    go_simp
    (refine (bound_any th m (by unfold I64; omega) (by unfold I64; omega) _).mono ?_; rw [HK.out]; rintro e w4 ⟨rfl, hb⟩; replace X := X.belowH hb; replace b := b.trans (hb.mono b.size); clear hb x0 x1; have x0 := X.at 0 rfl; have x1 := X.at 1 rfl; have e9 : IntKind.i64.wrap (last + k) = last + k := IntWalk.i64_in _ (by omega); (try rw [e9]))
    go_simp
    refine hK.out _ _ (by exact ⟨x0, x1⟩) (fun hHeld1 => ?_)
    clear hK hHeld0 K
    try simp only [Act.put, sA, sB, sC]
    refine tk 5 32 rfl hHeld1 ?_
    refine tk 6 9 rfl hHeld1 ?_
    refine wpAnyH_done (by kernel_rfl) ?_ _
    go_wp2
    go_ret2
    exact ⟨rfl, b⟩
  · rw [if_neg hfull] at hz2
    subst hz2
    clear hz hr
    go_enter Try.func12, Try.ntmps12
    go_wp2_with fail
    generalize w.alloc (.cells #[.int .i64 last, .slice A n c] 24) = w1 at *
    refine (nright_at (x := ⟨last, l⟩) A n c HR.out _ h).mono ?_
    rintro e w2 ⟨rfl, hb⟩
    replace X := X.belowH hb
    replace h := h.belowH hb
    replace b := b.trans (hb.mono b.size)
    clear hb x0 x1
    have x0 := X.at 0 rfl
    have x1 := X.at 1 rfl
    go_wp2_with fail
    refine (arrived_any last A n c _).mono ?_
    rw [AY.out]
    rintro e w2 ⟨rfl, hb⟩
    replace X := X.belowH hb
    replace h := h.belowH hb
    replace b := b.trans (hb.mono b.size)
    clear hb x0 x1
    have x0 := X.at 0 rfl
    have x1 := X.at 1 rfl
    go_wp2_with fail
    refine (nmean_at (x := ⟨last, l⟩) A n c boot HM.out _ h (by omega)).mono ?_
    rintro e w3 ⟨rfl, hb⟩
    replace X := X.belowH hb
    replace b := b.trans (hb.mono b.size)
    clear hb x0 x1
    have x0 := X.at 0 rfl
    have x1 := X.at 1 rfl
    go_wp2_with fail
    replace X := X.drew
    replace b := b.drew
    clear x0 x1
    have x0 := X.at 0 rfl
    have x1 := X.at 1 rfl
    refine wp_region_held_drew (S := (fun w' => w'.cell? ⟨w.heap.size, 0, none⟩ = some (.int .i64 last) ∧ w'.cell? ⟨w.heap.size, 1, none⟩ = some (.slice A n c))) (by kernel_rfl) (by exact ⟨x0, x1⟩) (fun hHeld0 => ?_)
    refine tk 0 27 rfl hHeld0 ?_
    refine tk 1 28 rfl hHeld0 ?_
    refine tk 2 29 rfl hHeld0 ?_
    refine tk 3 30 rfl hHeld0 ?_
    refine wpAnyH_ready (rs := [4]) (by kernel_rfl) (by simp) (AllReadyH.cons (o := ⟨some 31, _, _, _, _, _⟩) rfl (fun K hK => ?_) AllReadyH.nil)
    go_simp
    (refine (bound_any th m (by unfold I64; omega) (by unfold I64; omega) _).mono ?_; rw [HK.out]; rintro e w4 ⟨rfl, hb⟩; replace X := X.belowH hb; replace b := b.trans (hb.mono b.size); clear hb x0 x1; have x0 := X.at 0 rfl; have x1 := X.at 1 rfl; have e9 : IntKind.i64.wrap (last + k) = last + k := IntWalk.i64_in _ (by omega); (try rw [e9]))
    go_simp
    refine hK.out _ _ (by exact ⟨x0, x1⟩) (fun hHeld1 => ?_)
    clear hK hHeld0 K
    try simp only [Act.put, sA, sB, sC]
    refine tk 5 32 rfl hHeld1 ?_
    refine tk 6 9 rfl hHeld1 ?_
    refine wpAnyH_done (by kernel_rfl) ?_ _
    go_wp2
    go_ret2
    exact ⟨rfl, b⟩
end Go.Proofs.Ytlnhdakafidhiaa
