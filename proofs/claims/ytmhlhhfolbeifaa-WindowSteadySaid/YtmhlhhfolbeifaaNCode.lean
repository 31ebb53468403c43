/- Package window: what it answers. -/
import Derived.Test.YtmhlhhfolbeifaaNC2
namespace Go.Proofs.Ytmhlhhfolbeifaa
set_option linter.unusedVariables false
set_option linter.unusedSimpArgs false
open Go.RowKit
def bad (g : Int) : Bool := decide (g < 1 ∨ 1099511627776 < g)
theorem egWrong : ∀ args w, (callFunc 26 args).run Try.prog w = .ok (.enter 26 args) w := enters_of Try.func26 (by kernel_rfl) rfl
theorem meant_wrong : MeantI 26 bad := fun x W => by
  by_cases c1 : x < 1
  · go_enter Try.func26, Try.ntmps26
    go_wp2
    go_ret
    exact ⟨ret_bool (by simp [bad]; omega), rfl⟩
  · go_enter Try.func26, Try.ntmps26
    go_wp2
    go_ret
    exact ⟨ret_bool (by simp [bad]; omega), rfl⟩
theorem right_iff (x : Wi) : N.rightB x = (decide (-1 ≤ x.last) && decide (x.last ≤ 1099511627776) && decide (x.gaps.length ≤ 16) && !x.gaps.any bad) := by
  rw [Bool.eq_iff_iff, N.rightB_iff]
  unfold N.right
  simp only [decide_eq_true_eq, Bool.and_eq_true, Bool.not_eq_true', List.any_eq_false, bad]
  constructor
  · rintro ⟨h1, h2, h3, h4⟩
    exact ⟨⟨⟨h1, h2⟩, h3⟩, fun g hg => by have := h4 g hg; omega⟩
  · rintro ⟨⟨⟨h1, h2⟩, h3⟩, h4⟩
    exact ⟨h1, h2, h3, fun g hg => by have := h4 g hg; omega⟩

theorem nnew_any (w : World) : Calls Try.prog 16 #[] w (WinR1 N.new w) := by
  go_enter Try.func16, Try.ntmps16
  go_wp2
  have X := Box.new w #[.int .i64 (-1), .slice none 0 0] 24
  have y0 := X.at 0 rfl
  have y1 := X.at 1 rfl
  refine bodyPost_ret (v := .agg #[.int .i64 (-1), .slice none 0 0]) (by simp [results, Try.results16, go_sem, y0, y1]; try rfl) rfl ⟨⟨none, 0, 0, rfl, Rd.zero _ _ _ _, Nat.le_refl _, by show 0 ≤ _; omega⟩, (Below.refl _ _).alloc (Nat.le_refl _) _⟩

set_option maxHeartbeats 1000000 in
theorem nright_any (u : Wv) (w : World) (h : WRd w u) : Calls Try.prog 13 #[wval u] w (BoolR (N.rightB u.x) w) := by
  obtain ⟨⟨last, l⟩, A, n, c⟩ := u
  obtain ⟨h, hc, hm⟩ := h
  simp only at h hc hm
  have hl : l.length = n := by have := h.len1; rwa [I_length] at this
  have e : N.rightB ⟨last, l⟩ = (decide (-1 ≤ last) && decide (last ≤ 1099511627776) && decide (n ≤ 16) && !l.any bad) := by rw [right_iff, ← hl]
  rw [e]
  clear e hl
  simp only [wval]
  have X := Box.new w #[.int .i64 last, .slice A n c] 24
  have b := (Below.refl w.heap.size w).alloc (Nat.le_refl _) (.cells #[.int .i64 last, .slice A n c] 24)
  replace h := h.alloc (Nat.le_refl _) (.cells #[.int .i64 last, .slice A n c] 24)
  by_cases c1 : -1 ≤ last
  · by_cases c2 : last ≤ 1099511627776
    · by_cases c3 : n ≤ 16
      · have d3 : decide ((n : Int) ≤ 16) = true := decide_eq_true (by omega)
        go_enter Try.func13, Try.ntmps13
        go_wp2_with fail
        refine (ihas_any l bad _ egWrong A n c _ _ h (by omega) meant_wrong).mono ?_
        rintro e w2 ⟨rfl, rfl⟩
        go_wp2
        go_ret
        exact ⟨ret_bool (by simp [c1, c2, c3]), b⟩
      · have d3 : decide ((n : Int) ≤ 16) = false := decide_eq_false (by omega)
        go_enter Try.func13, Try.ntmps13
        go_wp2
        go_ret
        exact ⟨ret_bool (by simp; omega), b⟩
    · go_enter Try.func13, Try.ntmps13
      go_wp2
      go_ret
      exact ⟨ret_bool (by simp; omega), b⟩
  · go_enter Try.func13, Try.ntmps13
    go_wp2
    go_ret
    exact ⟨ret_bool (by simp; omega), b⟩

set_option maxHeartbeats 1000000 in
theorem nmean_any (u : Wv) (boot : Int) (w : World) (h : WRd w u) (hn : u.n ≤ 1000) :
    Calls Try.prog 11 #[wval u, .int .i64 boot] w (IntBR (N.mean u.x boot) w) := by
  obtain ⟨⟨last, l⟩, A, n, c⟩ := u
  obtain ⟨h, hc, hm⟩ := h
  simp only at h hc hm hn
  have hl : l.length = n := by have := h.len1; rwa [I_length] at this
  have HL := Lib.hid hl
  clear hl
  simp only [wval]
  have X := Box.new w #[.int .i64 last, .slice A n c] 24
  have b := (Below.refl w.heap.size w).alloc (Nat.le_refl _) (.cells #[.int .i64 last, .slice A n c] 24)
  replace h : Rd (w.alloc (.cells #[.int .i64 last, .slice A n c] 24)) (w.alloc (.cells #[.int .i64 last, .slice A n c] 24)).heap.size 1 A n (I l) := (h.alloc (Nat.le_refl _) _).more (by simp)
  by_cases h0 : n = 0
  · subst h0
    have e : N.mean ⟨last, l⟩ boot = max 1 boot := by unfold N.mean; rw [if_pos HL.out]
    rw [e]
    clear e
    go_enter Try.func11, Try.ntmps11
    go_wp2
    go_ret
    exact ⟨rfl, b⟩
  · have e : N.mean ⟨last, l⟩ boot = max 1 (R.mean l) := by unfold N.mean; rw [if_neg (by show ¬ l.length = 0; rw [HL.out]; exact h0)]
    rw [e]
    have hne : ((n : Int) == 0) = false := beq_eq_false_iff_ne.2 (by omega)
    clear e
    go_enter Try.func11, Try.ntmps11
    go_wp2_with fail
    refine (mean_any _ _ _ _ l _ h (by omega)).mono ?_
    rintro e w2 ⟨rfl, q, hq⟩
    replace b := b.trans ((below_q hq).mono b.size)
    clear hq
    go_wp2
    go_ret
    exact ⟨rfl, b⟩

set_option maxHeartbeats 1000000 in
theorem nsame_any (u v : Wv) (w : World) (h : WRd w u) (h' : WRd w v) (hn : u.n ≤ 1000) :
    Calls Try.prog 15 #[wval u, wval v] w (BoolR (decide (u.x = v.x)) w) := by
  obtain ⟨⟨last, l⟩, A, n, c⟩ := u
  obtain ⟨⟨last', l'⟩, A', n', c'⟩ := v
  replace h := h.1
  replace h' := h'.1
  simp only at h h' hn
  simp only [wval]
  have X := (Box.new w #[.int .i64 last, .slice A n c] 24).alloc (.cells #[.int .i64 last', .slice A' n' c'] 24)
  have b := ((Below.refl w.heap.size w).alloc (Nat.le_refl _) (.cells #[.int .i64 last, .slice A n c] 24)).alloc (by simp) (.cells #[.int .i64 last', .slice A' n' c'] 24)
  replace h := h.below b
  replace h' := h'.below b
  by_cases hl : last = last'
  · subst hl
    have e : decide ((⟨last, l⟩ : Wi) = ⟨last, l'⟩) = decide (l = l') := by simp
    rw [e]
    clear e
    go_enter Try.func15, Try.ntmps15
    go_wp2_with fail
    refine (iequal_any l l' A A' n n' c c' _ _ _ h h' hn).mono ?_
    rintro e w2 ⟨rfl, q, hq⟩
    replace b := b.trans ((below_q hq).mono b.size)
    clear hq
    go_wp2
    go_ret
    exact ⟨ret_bool (by simp), b⟩
  · have e : decide ((⟨last, l⟩ : Wi) = ⟨last', l'⟩) = false := decide_eq_false fun e => hl (by injection e)
    rw [e]
    have t1 : (last == last') = false := beq_eq_false_iff_ne.2 hl
    clear hl e
    go_enter Try.func15, Try.ntmps15
    go_wp2
    go_ret
    exact ⟨ret_bool rfl, b⟩

set_option maxHeartbeats 2000000 in
theorem nown_any (u : Wv) (w : World) (h : WRd w u) (hn : u.n ≤ 1000000) : Calls Try.prog 18 #[wval u] w fun e w' => ∃ A n c, e = .returned (.agg #[.int .i64 u.x.last, .slice A n c]) ∧ WRd w' ⟨u.x, A, n, c⟩ ∧ (∀ bk o, A = some ⟨bk, o, none⟩ → w.heap.size ≤ bk) ∧ Below w.heap.size w w' := by
  obtain ⟨⟨last, l⟩, A, n, c⟩ := u
  obtain ⟨h, hc, hm⟩ := h
  simp only at h hc hm hn
  simp only [wval]
  have X := (Box.new w #[.int .i64 last, .slice A n c] 24).alloc (.cells #[.int .i64 0, .slice none 0 0] 24)
  have Z := Box.new (w.alloc (.cells #[.int .i64 last, .slice A n c] 24)) #[.int .i64 0, .slice none 0 0] 24
  rw [show (w.alloc (.cells #[.int .i64 last, .slice A n c] 24)).heap.size = w.heap.size + 1 by simp] at Z
  have hb := ((Below.refl w.heap.size w).alloc (Nat.le_refl _) (.cells #[.int .i64 last, .slice A n c] 24)).alloc (by simp) (.cells #[.int .i64 0, .slice none 0 0] 24)
  have HS : Hid (((w.alloc (.cells #[.int .i64 last, .slice A n c] 24)).alloc (.cells #[.int .i64 0, .slice none 0 0] 24)).heap.size = w.heap.size + 2) := Lib.hid (by simp)
  replace h := h.below hb
  have y0 := X.at 0 rfl
  have y1 := X.at 1 rfl
  go_enter Try.func18, Try.ntmps18
  go_wp2
  generalize (w.alloc (.cells #[.int .i64 last, .slice A n c] 24)).alloc (.cells #[.int .i64 0, .slice none 0 0] 24) = w1 at *
  refine wp_region_held_drew (S := (fun w' => w'.cell? ⟨w.heap.size, 0, none⟩ = some (.int .i64 last) ∧ w'.cell? ⟨w.heap.size, 1, none⟩ = some (.slice A n c))) (by kernel_rfl) (by first | exact ⟨y0, y1⟩ | exact ⟨X2.at 0 rfl, X2.at 1 rfl⟩ | exact ⟨((X2.other (by omega) _).other (by omega) _).at 0 rfl, ((X2.other (by omega) _).other (by omega) _).at 1 rfl⟩) (fun hHeld0 => ?_)
  refine tk 0 3 rfl hHeld0 ?_
  refine tk 1 4 rfl hHeld0 ?_
  refine tk 2 5 rfl hHeld0 ?_
  refine tk 3 6 rfl hHeld0 ?_
  refine wpAnyH_ready (rs := [4]) (by kernel_rfl) (by simp) (AllReadyH.cons (o := ⟨some 7, _, _, _, _, _⟩) rfl (fun K hK => ?_) AllReadyH.nil)
  go_simp
  (refine (iclone_any l A n c _ w1.drew h (by have := HS.out; show _ ≤ w1.heap.size; omega) (by omega)).mono ?_; rintro e w2 ⟨A2, n2, c2, rfl, hn2, hown, hb2⟩; have hsz := HS.out; have hb2' : Below w1.heap.size w1 w2 := (Below.refl _ _).drew.trans hb2; have X2 := X.below hb2' (by omega); have Z2 := Z.below hb2' (by omega); have hown' : w2.ownsRow w1.heap.size 3 1 (.slice A2 n2 c2) n2 (I l) := hown; have z0 := Z2.at 0 rfl; have z1 := Z2.at 1 rfl; have zf := Z2.cold; have z := Z2.lt; have hb3 := hb.trans (hb2'.mono hb.size); have HSZ := Lib.hid (show w.heap.size + 1 < w1.heap.size by omega); clear hb2 hb2' hb hsz hown y0 y1 X Z h hn2; have a0 := X2.at 0 rfl; have a1 := X2.at 1 rfl)
  go_simp
  refine hK.out _ _ (by first | exact ⟨y0, y1⟩ | exact ⟨X2.at 0 rfl, X2.at 1 rfl⟩ | exact ⟨((X2.other (by omega) _).other (by omega) _).at 0 rfl, ((X2.other (by omega) _).other (by omega) _).at 1 rfl⟩) (fun hHeld1 => ?_)
  clear hK hHeld0 K
  try simp only [Act.put, sA, sB, sC]
  refine tk 5 8 rfl hHeld1 ?_
  refine wpAnyH_ready (rs := [6]) (by kernel_rfl) (by simp) (AllReadyH.cons (o := ⟨none, _, _, _, _, _⟩) rfl (fun K hK => ?_) AllReadyH.nil)
  go_simp
  (skip)
  go_simp
  refine hK.out _ _ (by first | exact ⟨y0, y1⟩ | exact ⟨X2.at 0 rfl, X2.at 1 rfl⟩ | exact ⟨((X2.other (by omega) _).other (by omega) _).at 0 rfl, ((X2.other (by omega) _).other (by omega) _).at 1 rfl⟩) (fun hHeld2 => ?_)
  clear hK hHeld1 K
  try simp only [Act.put, sA, sB, sC]
  refine wpAnyH_done (by kernel_rfl) ?_ _
  go_wp2
  have hz := HSZ.out
  have hlow : ∀ bk o, A2 = some ⟨bk, o, none⟩ → w.heap.size + 2 ≤ bk := fun bk o hA => by have h9 : w1.heap.size ≤ bk := own_block hown' hA; omega
  have r2 : Rd w2 w2.heap.size 1 A2 n2 (I l) := Rd.of_own hown'
  have cp := own_cap hown'
  refine bodyPost_ret (v := .agg #[.int .i64 last, .slice A2 n2 c2]) (by simp [results, Try.results18, go_sem, z0, z1, z]; try rfl) rfl ?_
  refine ⟨A2, n2, c2, rfl, two_far r2 (fun bk o hA => by have := hlow bk o hA; omega) cp, fun bk o hA => by (have := hlow bk o hA; omega), ?_⟩
  repeat (first | (with_reducible exact hb3) | (with_reducible refine below_set ?_ (by omega) _))

theorem clamp_gap (d most : Int) : R.clamp d 1 (max 1 most) = N.gap d most := by
  unfold R.clamp N.gap
  split
  · omega
  · split <;> omega

set_option maxHeartbeats 4000000 in
set_option maxRecDepth 20000 in
theorem narrive_any (u : Wv) (now most : Int) (hnow : -9223372036854775808 ≤ now ∧ now ≤ 9223372036854775807) (hmost : -9223372036854775808 ≤ most ∧ most ≤ 9223372036854775807) (w : World) (h : WRd w u) (hn : u.n ≤ 1000) :
    Calls Try.prog 8 #[wval u, .int .i64 now, .int .i64 most] w (WinR (arr u.x now most).1 (arr u.x now most).2 w) := by
  obtain ⟨⟨last, l⟩, A, n, c⟩ := u
  have hl : l.length = n := h.len
  have HL := Lib.hid hl
  simp only at hn
  clear hl
  simp only [wval]
  have X := (Box.new w #[.int .i64 last, .slice A n c] 24).alloc (.cells #[.int .i64 0, .slice none 0 0] 24)
  have Z := Box.new (w.alloc (.cells #[.int .i64 last, .slice A n c] 24)) #[.int .i64 0, .slice none 0 0] 24
  rw [show (w.alloc (.cells #[.int .i64 last, .slice A n c] 24)).heap.size = w.heap.size + 1 by simp] at Z
  have b := ((Below.refl w.heap.size w).alloc (Nat.le_refl _) (.cells #[.int .i64 last, .slice A n c] 24)).alloc (by simp) (.cells #[.int .i64 0, .slice none 0 0] 24)
  have h1 := h.belowH b
  clear h
  by_cases hm : N.may ⟨last, l⟩ now
  · rw [arr_yes hm]
    have hr := rightB_yes hm.1
    have hn16 : n ≤ 16 := by have h3 : l.length ≤ 16 := hm.1.2.2.1; have := HL.out; omega
    have m1 : 0 ≤ now := hm.2.1
    have m2 : last ≤ now := hm.2.2.1
    have m3 : now ≤ 1099511627776 := hm.2.2.2
    have m4 : -1 ≤ last := hm.1.1
    have HR := Lib.hid hr
    have d1 : decide (now < max 0 last) = false := decide_eq_false (by omega)
    clear hr hm
    by_cases hl0 : last < 0
    · obtain rfl : last = -1 := by omega
      have en : N.next ⟨-1, l⟩ now most = ⟨now, l⟩ := by unfold N.next N.more; rw [if_pos hl0, N.keep_short (by show l.length ≤ 16; rw [HL.out]; exact hn16)]
      rw [en]
      clear en
      go_enter Try.func8, Try.ntmps8
      go_wp2_with fail
      refine (nright_any ⟨⟨-1, l⟩, A, n, c⟩ _ h1).mono ?_
      rw [HR.out]
      rintro e w2 ⟨rfl, hb⟩
      replace X := X.belowH hb
      replace Z := Z.belowH hb
      replace h1 := h1.belowH hb
      replace b := b.trans (hb.mono b.size)
      clear hb
      have x0 := X.at 0 rfl
      have x1 := X.at 1 rfl
      go_wp2_with fail
      refine (iclone_any l A n c _ w2 h1.1 (Nat.le_refl _) (by omega)).mono ?_
      rintro e w3 ⟨A2, n2, c2, rfl, hn2, hown, hb⟩
      have hXlt := X.lt
      have hZlt := Z.lt
      replace Z := Z.belowH hb
      replace b := b.trans (hb.mono b.size)
      clear hb h1 x0 x1 X
      have z0 := Z.at 0 rfl
      have z1 := Z.at 1 rfl
      have zc := Z.cold
      have hlow : ∀ bk o, A2 = some ⟨bk, o, none⟩ → w.heap.size + 2 ≤ bk := fun bk o hA => by have h9 : w2.heap.size ≤ bk := own_block hown hA; omega
      have r2 := Rd.of_own hown
      have cp := own_cap hown
      have HLOW := Lib.hid hlow
      clear hown hlow
      go_wp2
      have Z2 := (Z.set 0 (.int .i64 now)).set 1 (.slice A2 n2 c2)
      have b2 := below_set (o := 1) (below_set (o := 0) b (show w.heap.size ≤ w.heap.size + 1 by omega) (.int .i64 now)) (show w.heap.size ≤ w.heap.size + 1 by omega) (.slice A2 n2 c2)
      have q0 := Z2.at 0 rfl
      have q1 := Z2.at 1 rfl
      refine bodyPost_ret (v := .tuple #[.agg #[.int .i64 now, .slice A2 n2 c2], .int .i64 0]) (by simp [results, Try.results8, go_sem, q0, q1]; try rfl) rfl ⟨⟨A2, n2, c2, rfl, two_far r2 (fun bk o hA => by have := HLOW.out bk o hA; omega) cp, fun _ bk o hA => by have := HLOW.out bk o hA; omega⟩, b2⟩
    · have en : N.next ⟨last, l⟩ now most = ⟨now, N.keep (l ++ [N.gap (now - last) most])⟩ := by unfold N.next N.more; rw [if_neg hl0]
      have EN := Lib.hid en
      have t1 : (last == -1) = false := beq_eq_false_iff_ne.2 (by omega)
      have hG := clamp_gap (now - last) most
      have HG := Lib.hid hG
      clear en hG
      go_enter Try.func8, Try.ntmps8
      go_wp2_with fail
      refine (nright_any ⟨⟨last, l⟩, A, n, c⟩ _ h1).mono ?_
      rw [HR.out]
      rintro e w2 ⟨rfl, hb⟩
      replace X := X.belowH hb
      replace Z := Z.belowH hb
      replace h1 := h1.belowH hb
      replace b := b.trans (hb.mono b.size)
      clear hb
      have x0 := X.at 0 rfl
      have x1 := X.at 1 rfl
      go_wp2_with fail
      refine (clamp_any (now - last) 1 (max 1 most) w2).mono ?_
      rw [HG.out]
      rintro e w3 ⟨rfl, rfl⟩
      generalize N.gap (now - last) most = G at *
      go_wp2_with fail
      refine (behind_any l G A n c w2 h1.1 h1.2.1 hn16).mono ?_
      rintro e w3 ⟨A2, n2, c2, rfl, hn2, hown, hb⟩
      have hXlt := X.lt
      have hZlt := Z.lt
      replace Z := Z.belowH hb
      replace b := b.trans (hb.mono b.size)
      clear hb h1 x0 x1 X
      have z0 := Z.at 0 rfl
      have z1 := Z.at 1 rfl
      have zc := Z.cold
      have hlow : ∀ bk o, A2 = some ⟨bk, o, none⟩ → w.heap.size + 2 ≤ bk := fun bk o hA => by have h9 : w2.heap.size ≤ bk := own_block hown hA; omega
      have r2 := Rd.of_own hown
      have cp := own_cap hown
      have HLOW := Lib.hid hlow
      clear hown hlow
      go_wp2
      rw [EN.out]
      have Z2 := (Z.set 0 (.int .i64 now)).set 1 (.slice A2 n2 c2)
      have b2 := below_set (o := 1) (below_set (o := 0) b (show w.heap.size ≤ w.heap.size + 1 by omega) (.int .i64 now)) (show w.heap.size ≤ w.heap.size + 1 by omega) (.slice A2 n2 c2)
      have q0 := Z2.at 0 rfl
      have q1 := Z2.at 1 rfl
      refine bodyPost_ret (v := .tuple #[.agg #[.int .i64 now, .slice A2 n2 c2], .int .i64 0]) (by simp [results, Try.results8, go_sem, q0, q1]; try rfl) rfl ⟨⟨A2, n2, c2, rfl, two_far r2 (fun bk o hA => by have := HLOW.out bk o hA; omega) cp, fun _ bk o hA => by have := HLOW.out bk o hA; omega⟩, b2⟩
  · rw [arr_no hm]
    have hbad : N.rightB ⟨last, l⟩ = false ∨ N.rightB ⟨last, l⟩ = true ∧ now < max 0 last ∨ N.rightB ⟨last, l⟩ = true ∧ max 0 last ≤ now ∧ 1099511627776 < now := by
      by_cases hr : N.right ⟨last, l⟩
      · have : ¬ (0 ≤ now ∧ last ≤ now ∧ now ≤ 1099511627776) := fun h => hm ⟨hr, h⟩
        have e := rightB_yes hr
        by_cases h2 : now < max 0 last
        · exact Or.inr (Or.inl ⟨e, h2⟩)
        · exact Or.inr (Or.inr ⟨e, by omega, by omega⟩)
      · exact Or.inl (rightB_no hr)
    clear hm
    rcases hbad with hr | ⟨hr, hb1⟩ | ⟨hr, hb1, hb2⟩
    all_goals
      have HR := Lib.hid hr
      clear hr
      go_enter Try.func8, Try.ntmps8
      go_wp2_with fail
      refine (nright_any ⟨⟨last, l⟩, A, n, c⟩ _ h1).mono ?_
      rw [HR.out]
      rintro e w2 ⟨rfl, hb⟩
      replace X := X.belowH hb
      replace Z := Z.belowH hb
      replace h1 := h1.belowH hb
      replace b := b.trans (hb.mono b.size)
      clear hb
      have x0 := X.at 0 rfl
      have x1 := X.at 1 rfl
      go_wp2_with fail
      refine (nown_any ⟨⟨last, l⟩, A, n, c⟩ w2 h1 (by show n ≤ 1000000; omega)).mono ?_
      rintro e w3 ⟨A2, n2, c2, rfl, r2, hlow, hb⟩
      have hXlt := X.lt
      have hZlt := Z.lt
      replace Z := Z.belowH hb
      replace b := b.trans (hb.mono b.size)
      clear hb h1 x0 x1 X
      have z0 := Z.at 0 rfl
      have z1 := Z.at 1 rfl
      have zc := Z.cold
      go_wp2
      have Z2 := (Z.set 0 (.int .i64 last)).set 1 (.slice A2 n2 c2)
      have b2 := below_set (o := 1) (below_set (o := 0) b (show w.heap.size ≤ w.heap.size + 1 by omega) (.int .i64 last)) (show w.heap.size ≤ w.heap.size + 1 by omega) (.slice A2 n2 c2)
      have q0 := Z2.at 0 rfl
      have q1 := Z2.at 1 rfl
      refine bodyPost_ret (v := .tuple #[.agg #[.int .i64 last, .slice A2 n2 c2], .int .i64 1]) (by simp [results, Try.results8, go_sem, q0, q1]; try rfl) rfl ⟨⟨A2, n2, c2, rfl, two_far r2.1 (fun bk o hA => by have := hlow bk o hA; omega) r2.2, fun h => by cases h⟩, b2⟩
end Go.Proofs.Ytmhlhhfolbeifaa
