/- The walk of phi's law on rising. -/
import Derived.Test.YtlnhdakafidhiaaPAlive
import Derived.Test.YtlnhdakafidhiaaNRows
import Derived.Test.YtlnhdakafidhiaaPRows
namespace Go.Proofs.Ytlnhdakafidhiaa
set_option linter.unusedVariables false
set_option linter.unusedSimpArgs false
open Go.RowKit
theorem frac_in {lo m a kk : Int} (hm : 1 ≤ m) (h0 : 0 ≤ lo) (ha : lo * 434 / m = a) (hk : 434 * lo = kk) : R.cmp a 1 kk m ≤ 0 ∧ 0 < R.cmp (a + 1) 1 kk m := by
  have h1 : 0 ≤ a := by rw [← ha]; exact Int.ediv_nonneg (by omega) (by omega)
  have h2 : a * m ≤ kk := by rw [← ha]; have := Int.ediv_mul_le (lo * 434) (show m ≠ 0 by omega); omega
  have h3 : kk < (a + 1) * m := by rw [← ha]; have := Int.lt_ediv_add_one_mul_self (lo * 434) (show 0 < m by omega); omega
  constructor
  · exact (R.cmp_nonpos h1 (by omega) (by omega) hm).2 (by omega)
  · have := (R.cmp_nonpos (a := a + 1) (b := 1) (c := kk) (d := m) (by omega) (by omega) (by omega) hm).1
    omega

set_option maxHeartbeats 8000000 in
set_option maxRecDepth 100000 in
theorem law_PhiRises (u : Wv) (xa xb a2 : Int) (W : World) (w0 : WIn W u) (w1 : Pair32 xa xb) (w2 : (Lit.int .u16 a2).wf = true) :
    Calls Try.prog 4 #[wval u, .agg #[.int .u32 xa, .int .u32 xb], .int .u16 a2] W fun e w' => e = .returned (.bool true) ∧ Below W.heap.size W w' := by
  obtain ⟨⟨last, l⟩, A, n, c⟩ := u
  obtain ⟨R0, hlb⟩ := w0
  simp only at hlb
  have b2 := wf_bounds_u16 w2
  obtain ⟨ba, bb⟩ := w1
  unfold P32 at ba bb
  clear w2
  simp only [wval]
  have P := Box.new (W) #[.int .i64 last, .slice A n c] 24
  have b := (Below.refl W.heap.size W).alloc (Nat.le_refl _) (.cells #[.int .i64 last, .slice A n c] 24)
  have Q := Box.new ((W).alloc (.cells #[.int .i64 last, .slice A n c] 24)) #[.int .u32 xa, .int .u32 xb] 34
  rw [show ((W).alloc (.cells #[.int .i64 last, .slice A n c] 24)).heap.size = W.heap.size + 1 by simp] at Q
  replace P := P.alloc (.cells #[.int .u32 xa, .int .u32 xb] 34)
  replace b := b.alloc b.size (.cells #[.int .u32 xa, .int .u32 xb] 34)
  replace R0 := R0.belowH b
  obtain ⟨rb, hrb⟩ : ∃ rb, N.rightB ⟨last, l⟩ = rb := ⟨_, rfl⟩
  have HRB := Lib.hid hrb
  clear hrb
  go_enter Try.func4, Try.ntmps4
  go_wp2_with fail
  generalize ((W).alloc (.cells #[.int .i64 last, .slice A n c] 24)).alloc (.cells #[.int .u32 xa, .int .u32 xb] 34) = w1 at *
  refine (palive_any _).mono ?_
  rintro e v2 ⟨rfl, hb⟩
  replace P := P.belowH hb
  replace Q := Q.belowH hb
  replace R0 := R0.belowH hb
  replace b := b.trans (hb.mono b.size)
  clear hb
  (try dsimp only)
  have p0 := P.at 0 rfl
  have p1 := P.at 1 rfl
  have q0 := Q.at 0 rfl
  have q1 := Q.at 1 rfl
  by_cases hn : 16 < n
  · go_wp2
    go_ret
    exact ⟨rfl, b⟩
  go_wp2_with fail
  refine (rnright_at (x := ⟨last, l⟩) A n c HRB.out _ R0).mono ?_
  rintro e v3 ⟨rfl, hb⟩
  clear p0 p1 q0 q1
  replace P := P.belowH hb
  replace Q := Q.belowH hb
  replace R0 := R0.belowH hb
  replace b := b.trans (hb.mono b.size)
  clear hb
  (try dsimp only)
  have p0 := P.at 0 rfl
  have p1 := P.at 1 rfl
  have q0 := Q.at 0 rfl
  have q1 := Q.at 1 rfl
  rcases rb
  · go_wp2
    go_ret
    exact ⟨rfl, b⟩
  by_cases hneg : last < 0
  · go_wp2
    go_ret
    exact ⟨rfl, b⟩
  by_cases hgreat : 549755813888 < last
  · go_wp2
    go_ret
    exact ⟨rfl, b⟩
  have hr := rightB_iff_out HRB.out
  obtain ⟨lo, hlo⟩ : ∃ t, min xa xb = t := ⟨_, rfl⟩
  obtain ⟨hi, hhi⟩ : ∃ t, max xa xb = t := ⟨_, rfl⟩
  have hb1 : 0 ≤ lo ∧ lo ≤ hi ∧ hi ≤ 4294967295 := by omega
  obtain ⟨t1, ht1⟩ : ∃ t, last + lo = t := ⟨_, rfl⟩
  obtain ⟨t2, ht2⟩ : ∃ t, last + hi = t := ⟨_, rfl⟩
  obtain ⟨m, hm⟩ : ∃ m, N.mean ⟨last, l⟩ a2 = m := ⟨_, rfl⟩
  have hmp : 1 ≤ m := by rw [← hm]; exact Ph.mean_pos _ _
  have hml : m ≤ 1125899906842624 := by rw [← hm]; have := Ph.mean_le ⟨last, l⟩ a2; omega
  have may1 : N.may ⟨last, l⟩ t1 := ⟨hr, by omega, by show last ≤ t1; omega, by omega⟩
  have may2 : N.may ⟨last, l⟩ t2 := ⟨hr, by omega, by show last ≤ t2; omega, by omega⟩
  obtain ⟨ka, hka⟩ : ∃ k, lo * 434 / m = k := ⟨_, rfl⟩
  obtain ⟨kb, hkb⟩ : ∃ k, hi * 434 / m = k := ⟨_, rfl⟩
  have lv1 : Ph.lvl ⟨last, l⟩ t1 a2 = (ka, 0) := by rw [Ph.lvl_is may1 hneg, hm, ← hka]; show ((t1 - last) * 434 / m, _) = _; rw [show t1 - last = lo by omega]
  have lv2 : Ph.lvl ⟨last, l⟩ t2 a2 = (kb, 0) := by rw [Ph.lvl_is may2 hneg, hm, ← hkb]; show ((t2 - last) * 434 / m, _) = _; rw [show t2 - last = hi by omega]
  have hab : ka ≤ kb := by rw [← hka, ← hkb]; exact Int.ediv_le_ediv (by omega) (by omega)
  have hk0 := Ph.div_small (d := lo) (m := m) (by omega) (by omega) hmp
  rw [hka] at hk0
  obtain ⟨kk, hkk⟩ : ∃ k, 434 * lo = k := ⟨_, rfl⟩
  have hfr := frac_in hmp hb1.1 hka hkk
  obtain ⟨s1, hs1⟩ : ∃ s, R.cmp ka 1 kk m = s := ⟨_, rfl⟩
  obtain ⟨s2, hs2⟩ : ∃ s, R.cmp (ka + 1) 1 kk m = s := ⟨_, rfl⟩
  rw [hs1, hs2] at hfr
  have hkkb : 0 ≤ kk ∧ kk ≤ 1864015806030 := by omega
  have HL1 := Lib.hid lv1
  have HL2 := Lib.hid lv2
  have HM := Lib.hid hm
  have HS1 := Lib.hid hs1
  have HS2 := Lib.hid hs2
  have e1 : IntKind.i64.wrap lo = lo := IntWalk.i64_in _ (by omega)
  have e2 : IntKind.i64.wrap hi = hi := IntWalk.i64_in _ (by omega)
  have e3 : IntKind.i64.wrap (last + lo) = t1 := by rw [ht1]; exact IntWalk.i64_in _ (by omega)
  have e4 : IntKind.i64.wrap (last + hi) = t2 := by rw [ht2]; exact IntWalk.i64_in _ (by omega)
  have e5 : t1 - last = lo := by omega
  have hn16 : n ≤ 16 := by omega
  have ht1b : 0 ≤ t1 ∧ t1 ≤ 1099511627776 := by omega
  have ht2b : 0 ≤ t2 ∧ t2 ≤ 1099511627776 := by omega
  clear hr hm may1 may2 hka hkb lv1 lv2 hs1 hs2
  go_wp2_with fail
  replace P := P.drew
  replace Q := Q.drew
  replace R0 := R0.drew
  replace b := b.drew
  refine wp_region_held_drew (S := (fun w' => w'.cell? ⟨W.heap.size, 0, none⟩ = some (.int .i64 last) ∧ w'.cell? ⟨W.heap.size + 1, 0, none⟩ = some (.int .u32 xa) ∧ w'.cell? ⟨W.heap.size + 1, 1, none⟩ = some (.int .u32 xb))) (by kernel_rfl) (by exact ⟨p0, q0, q1⟩) (fun hHeld0 => ?_)
  refine tk 0 35 rfl hHeld0 ?_
  refine tk 1 36 rfl hHeld0 ?_
  refine tk 2 37 rfl hHeld0 ?_
  refine tk 3 38 rfl hHeld0 ?_
  refine tk 4 39 rfl hHeld0 ?_
  refine tk 5 40 rfl hHeld0 ?_
  refine tk 6 41 rfl hHeld0 ?_
  refine tk 7 42 rfl hHeld0 ?_
  refine tk 8 43 rfl hHeld0 ?_
  refine tk 9 44 rfl hHeld0 ?_
  refine tk 10 45 rfl hHeld0 ?_
  refine tk 11 46 rfl hHeld0 ?_
  refine tk 12 47 rfl hHeld0 ?_
  refine tk 13 48 rfl hHeld0 ?_
  refine tk 14 49 rfl hHeld0 ?_
  refine tk 15 50 rfl hHeld0 ?_
  refine tk 16 51 rfl hHeld0 ?_
  refine tk 17 52 rfl hHeld0 ?_
  refine tk 18 7 rfl hHeld0 ?_
  refine tk 19 8 rfl hHeld0 ?_
  refine wpAnyH_done (by kernel_rfl) ?_ _
  clear p0 p1 q0 q1
  have p0 := P.at 0 rfl
  have p1 := P.at 1 rfl
  have q0 := Q.at 0 rfl
  have q1 := Q.at 1 rfl
  clear hlo hhi ht1 ht2 e3 e4
  go_wp2_with fail
  refine (level_at (x := ⟨last, l⟩) A n c t1 a2 (i64_of (by omega)) (i64_of (by omega)) HL1.out _ R0 (by omega)).mono ?_
  rintro e v4 ⟨rfl, hb⟩
  clear p0 p1 q0 q1
  replace P := P.belowH hb
  replace Q := Q.belowH hb
  replace R0 := R0.belowH hb
  replace b := b.trans (hb.mono b.size)
  clear hb
  (try dsimp only)
  have p0 := P.at 0 rfl
  have p1 := P.at 1 rfl
  have q0 := Q.at 0 rfl
  have q1 := Q.at 1 rfl
  go_wp2_with fail
  refine (level_at (x := ⟨last, l⟩) A n c t2 a2 (i64_of (by omega)) (i64_of (by omega)) HL2.out _ R0 (by omega)).mono ?_
  rintro e v5 ⟨rfl, hb⟩
  clear p0 p1 q0 q1
  replace P := P.belowH hb
  replace Q := Q.belowH hb
  replace R0 := R0.belowH hb
  replace b := b.trans (hb.mono b.size)
  clear hb
  (try dsimp only)
  have p0 := P.at 0 rfl
  have p1 := P.at 1 rfl
  have q0 := Q.at 0 rfl
  have q1 := Q.at 1 rfl
  go_wp2_with fail
  refine (rnmean_at (x := ⟨last, l⟩) A n c a2 HM.out _ R0 (by omega)).mono ?_
  rintro e v6 ⟨rfl, hb⟩
  clear p0 p1 q0 q1
  replace P := P.belowH hb
  replace Q := Q.belowH hb
  replace R0 := R0.belowH hb
  replace b := b.trans (hb.mono b.size)
  clear hb
  (try dsimp only)
  have p0 := P.at 0 rfl
  have p1 := P.at 1 rfl
  have q0 := Q.at 0 rfl
  have q1 := Q.at 1 rfl
  go_wp2_with fail
  refine (rcmp_any ka 1 kk m (by omega) (by omega) (by omega) (by omega) _).mono ?_
  rw [HS1.out]
  rintro e v7 ⟨rfl, hb⟩
  clear p0 p1 q0 q1
  replace P := P.belowH hb
  replace Q := Q.belowH hb
  replace R0 := R0.belowH hb
  replace b := b.trans (hb.mono b.size)
  clear hb
  (try dsimp only)
  have p0 := P.at 0 rfl
  have p1 := P.at 1 rfl
  have q0 := Q.at 0 rfl
  have q1 := Q.at 1 rfl
  go_wp2_with fail
  refine (rcmp_any (ka + 1) 1 kk m (by omega) (by omega) (by omega) (by omega) _).mono ?_
  rw [HS2.out]
  rintro e v8 ⟨rfl, hb⟩
  clear p0 p1 q0 q1
  replace P := P.belowH hb
  replace Q := Q.belowH hb
  replace R0 := R0.belowH hb
  replace b := b.trans (hb.mono b.size)
  clear hb
  (try dsimp only)
  have p0 := P.at 0 rfl
  have p1 := P.at 1 rfl
  have q0 := Q.at 0 rfl
  have q1 := Q.at 1 rfl
  go_wp2
  go_ret
  exact ⟨ret_bool (by (first | rfl | (simp <;> omega))), b⟩
end Go.Proofs.Ytlnhdakafidhiaa
