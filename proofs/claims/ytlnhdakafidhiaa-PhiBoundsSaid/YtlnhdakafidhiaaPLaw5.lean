/- The walk of phi's law on bounds. -/
import Derived.Test.YtlnhdakafidhiaaPAlive
import Derived.Test.YtlnhdakafidhiaaPRows
namespace Go.Proofs.Ytlnhdakafidhiaa
set_option linter.unusedVariables false
set_option linter.unusedSimpArgs false
open Go.RowKit
theorem bounds_in {lo hi m d : Int} (h0 : 0 ≤ lo) (h1 : lo ≤ hi) (h2 : hi ≤ 65535) (hm : 1 ≤ m) (hm2 : m ≤ 65536) (hd : 0 ≤ d) (hd2 : d ≤ 65535) :
    Ph.bound lo m ≤ Ph.bound hi m ∧ Ph.bound lo m ≤ Ph.bound lo (m + d) ∧ 1 ≤ Ph.bound lo m ∧ Ph.bound lo m ≤ 9896244 ∧ (lo + 1) * m ≤ 434 * Ph.bound lo m ∧ 434 * (Ph.bound lo m - 1) < (lo + 1) * m ∧ 1 ≤ (lo + 1) * m ∧ (lo + 1) * m ≤ 4294967296 := by
  have k1 : ¬ Ph.bad lo m := by unfold Ph.bad; omega
  have k2 : ¬ Ph.bad hi m := by unfold Ph.bad; omega
  have k3 : ¬ Ph.bad lo (m + d) := by unfold Ph.bad; omega
  have p1 := Ph.prod_pos k1
  have p2 : (lo + 1) * m ≤ (hi + 1) * m := Int.mul_le_mul_of_nonneg_right (by omega) (by omega)
  have p3 : (lo + 1) * m ≤ (lo + 1) * (m + d) := Int.mul_le_mul_of_nonneg_left (by omega) (by omega)
  have p4 : (lo + 1) * m ≤ 65536 * 65536 := Int.mul_le_mul (by omega) hm2 (by omega) (by omega)
  have q1 := Ph.bound_ok k1
  have q2 := Ph.bound_ok k2
  have q3 := Ph.bound_ok k3
  have c2 := Ph.cnt_mono p2
  have c3 := Ph.cnt_mono p3
  have c4 : Ph.cnt ((lo + 1) * m) ≤ 9896244 := by unfold Ph.cnt; omega
  have hb := Ph.bound_pos k1
  have hl := Ph.bound_least k1 rfl (by omega)
  exact ⟨by omega, by omega, hb, by omega, hl.1, hl.2, p1, by omega⟩

set_option maxHeartbeats 8000000 in
set_option maxRecDepth 100000 in
theorem law_PhiBounds (xa xb xc a1 : Int) (W : World) (w0 : Three16 xa xb xc) (w1 : (Lit.int .u16 a1).wf = true) :
    Calls Try.prog 7 #[.agg #[.int .u16 xa, .int .u16 xb, .int .u16 xc], .int .u16 a1] W fun e w' => e = .returned (.bool true) ∧ Below W.heap.size W w' := by
  obtain ⟨ba, bb, bc⟩ := w0
  unfold P16 at ba bb bc
  have b1 := wf_bounds_u16 w1
  clear w1
  have H := Box.new (W) #[.int .u16 xa, .int .u16 xb, .int .u16 xc] 46
  have b := (Below.refl W.heap.size W).alloc (Nat.le_refl _) (.cells #[.int .u16 xa, .int .u16 xb, .int .u16 xc] 46)
  obtain ⟨lo, hlo⟩ : ∃ t, min xa xb = t := ⟨_, rfl⟩
  obtain ⟨hi, hhi⟩ : ∃ t, max xa xb = t := ⟨_, rfl⟩
  have hb1 : 0 ≤ lo ∧ lo ≤ hi ∧ hi ≤ 65535 := by omega
  obtain ⟨m, hm⟩ : ∃ t, 1 + a1 = t := ⟨_, rfl⟩
  obtain ⟨m2, hm2⟩ : ∃ t, m + xc = t := ⟨_, rfl⟩
  have hin := bounds_in hb1.1 hb1.2.1 hb1.2.2 (show 1 ≤ m by omega) (by omega) bc.1 bc.2
  rw [hm2] at hin
  obtain ⟨ka, hka⟩ : ∃ k, Ph.bound lo m = k := ⟨_, rfl⟩
  obtain ⟨kb, hkb⟩ : ∃ k, Ph.bound hi m = k := ⟨_, rfl⟩
  obtain ⟨kc, hkc⟩ : ∃ k, Ph.bound lo m2 = k := ⟨_, rfl⟩
  rw [hka, hkb, hkc] at hin
  obtain ⟨W1, hW1⟩ : ∃ k, (lo + 1) * m = k := ⟨_, rfl⟩
  rw [hW1] at hin
  obtain ⟨i1, i2, i3, i4, i5, i6, i7, i8⟩ := hin
  have z1 : Ph.bound (-1 - lo) m = 0 := Ph.bound_bad (Or.inl (by omega))
  have z2 : Ph.bound lo (-a1) = 0 := Ph.bound_bad (Or.inr (Or.inr (Or.inl (by omega))))
  have HA := Lib.hid hka
  have HB := Lib.hid hkb
  have HC := Lib.hid hkc
  have HZ1 := Lib.hid z1
  have HZ2 := Lib.hid z2
  have hmb : 1 ≤ m ∧ m ≤ 65536 := by omega
  have hmb2 : 1 ≤ m2 ∧ m2 ≤ 131071 := by omega
  have e1 : IntKind.i64.wrap lo = lo := IntWalk.i64_in _ (by omega)
  have e2 : IntKind.i64.wrap hi = hi := IntWalk.i64_in _ (by omega)
  have e3 : IntKind.i64.wrap m = m := IntWalk.i64_in _ (by omega)
  have e4 : IntKind.i64.wrap m2 = m2 := IntWalk.i64_in _ (by omega)
  have e5 : IntKind.i64.wrap W1 = W1 := IntWalk.i64_in _ (by omega)
  have e6 : wrap64 W1 = W1 := wrap64_in (by omega) (by omega)
  have e7 : IntKind.i64.wrap a1 = a1 := IntWalk.i64_in _ (by omega)
  have e8 : IntKind.i64.wrap xc = xc := IntWalk.i64_in _ (by omega)
  clear hka hkb hkc z1 z2
  go_enter Try.func7, Try.ntmps7
  go_wp2_with fail
  generalize (W).alloc (.cells #[.int .u16 xa, .int .u16 xb, .int .u16 xc] 46) = w1 at *
  refine (palive_any _).mono ?_
  rintro e v2 ⟨rfl, hb⟩
  replace H := H.belowH hb
  replace b := b.trans (hb.mono b.size)
  clear hb
  (try dsimp only)
  have h0 := H.at 0 rfl
  have h1 := H.at 1 rfl
  have h2 := H.at 2 rfl
  go_wp2_with fail
  replace H := H.drew
  replace b := b.drew
  refine wp_region_held_drew (S := (fun w' => w'.cell? ⟨W.heap.size, 0, none⟩ = some (.int .u16 xa) ∧ w'.cell? ⟨W.heap.size, 1, none⟩ = some (.int .u16 xb))) (by kernel_rfl) (by exact ⟨h0, h1⟩) (fun hHeld0 => ?_)
  refine tk 0 13 rfl hHeld0 ?_
  refine tk 1 14 rfl hHeld0 ?_
  refine tk 2 15 rfl hHeld0 ?_
  refine tk 3 16 rfl hHeld0 ?_
  refine tk 4 17 rfl hHeld0 ?_
  refine tk 5 18 rfl hHeld0 ?_
  refine tk 6 19 rfl hHeld0 ?_
  refine tk 7 20 rfl hHeld0 ?_
  refine tk 8 21 rfl hHeld0 ?_
  refine tk 9 22 rfl hHeld0 ?_
  refine tk 10 23 rfl hHeld0 ?_
  refine tk 11 24 rfl hHeld0 ?_
  refine tk 12 25 rfl hHeld0 ?_
  refine tk 13 26 rfl hHeld0 ?_
  refine tk 14 27 rfl hHeld0 ?_
  refine tk 15 5 rfl hHeld0 ?_
  refine tk 16 6 rfl hHeld0 ?_
  refine tk 17 7 rfl hHeld0 ?_
  refine wpAnyH_done (by kernel_rfl) ?_ _
  clear h0 h1 h2
  have h0 := H.at 0 rfl
  have h1 := H.at 1 rfl
  have h2 := H.at 2 rfl
  clear hlo hhi hm
  go_wp2_with fail
  replace H := H.drew
  replace b := b.drew
  refine wp_region_held_drew (S := (fun w' => w'.cell? ⟨W.heap.size, 2, none⟩ = some (.int .u16 xc))) (by kernel_rfl) (by exact h2) (fun hHeld0 => ?_)
  refine tk 0 28 rfl hHeld0 ?_
  refine tk 1 29 rfl hHeld0 ?_
  refine tk 3 31 rfl hHeld0 ?_
  refine tk 4 32 rfl hHeld0 ?_
  refine tk 6 34 rfl hHeld0 ?_
  refine tk 7 35 rfl hHeld0 ?_
  refine tk 8 36 rfl hHeld0 ?_
  refine tk 9 37 rfl hHeld0 ?_
  refine tk 10 38 rfl hHeld0 ?_
  refine tk 11 39 rfl hHeld0 ?_
  refine wpAnyH_ready (rs := [2]) (by kernel_rfl) (by simp) (AllReadyH.cons (o := ⟨some 30, _, _, _, _, _⟩) rfl (fun K hK => ?_) AllReadyH.nil)
  go_simp
  (refine (bound_at lo m (i64_of (by omega)) (i64_of (by omega)) HA.out _).mono ?_; rintro e xx1 ⟨rfl, hb⟩; replace H := H.belowH hb; replace b := b.trans (hb.mono b.size); clear hb h0 h1 h2; have h0 := H.at 0 rfl; have h1 := H.at 1 rfl; have h2 := H.at 2 rfl)
  go_simp
  refine hK.out _ _ (by exact h2) (fun hHeld1 => ?_)
  clear hK hHeld0 K
  try simp only [Act.put, sA, sB, sC]
  refine wpAnyH_ready (rs := [5]) (by kernel_rfl) (by simp) (AllReadyH.cons (o := ⟨some 33, _, _, _, _, _⟩) rfl (fun K hK => ?_) AllReadyH.nil)
  go_simp
  (refine (bound_at hi m (i64_of (by omega)) (i64_of (by omega)) HB.out _).mono ?_; rintro e xx2 ⟨rfl, hb⟩; replace H := H.belowH hb; replace b := b.trans (hb.mono b.size); clear hb h0 h1 h2; have h0 := H.at 0 rfl; have h1 := H.at 1 rfl; have h2 := H.at 2 rfl)
  go_simp
  refine hK.out _ _ (by exact h2) (fun hHeld2 => ?_)
  clear hK hHeld1 K
  try simp only [Act.put, sA, sB, sC]
  refine wpAnyH_ready (rs := [12]) (by kernel_rfl) (by simp) (AllReadyH.cons (o := ⟨some 40, _, _, _, _, _⟩) rfl (fun K hK => ?_) AllReadyH.nil)
  go_simp
  (refine (bound_at lo m2 (i64_of (by omega)) (i64_of (by omega)) HC.out _).mono ?_; rintro e xx3 ⟨rfl, hb⟩; replace H := H.belowH hb; replace b := b.trans (hb.mono b.size); clear hb h0 h1 h2; have h0 := H.at 0 rfl; have h1 := H.at 1 rfl; have h2 := H.at 2 rfl)
  go_simp
  refine hK.out _ _ (by exact h2) (fun hHeld3 => ?_)
  clear hK hHeld2 K
  try simp only [Act.put, sA, sB, sC]
  refine tk 13 8 rfl hHeld3 ?_
  refine tk 14 9 rfl hHeld3 ?_
  refine tk 15 10 rfl hHeld3 ?_
  refine wpAnyH_done (by kernel_rfl) ?_ _
  go_wp2_with fail
  refine (bound_at (-1 - lo) m (i64_of (by omega)) (i64_of (by omega)) HZ1.out _).mono ?_
  rintro e v3 ⟨rfl, hb⟩
  clear h0 h1 h2
  replace H := H.belowH hb
  replace b := b.trans (hb.mono b.size)
  clear hb
  (try dsimp only)
  have h0 := H.at 0 rfl
  have h1 := H.at 1 rfl
  have h2 := H.at 2 rfl
  go_wp2_with fail
  refine (bound_at lo (-a1) (i64_of (by omega)) (i64_of (by omega)) HZ2.out _).mono ?_
  rintro e v4 ⟨rfl, hb⟩
  clear h0 h1 h2
  replace H := H.belowH hb
  replace b := b.trans (hb.mono b.size)
  clear hb
  (try dsimp only)
  have h0 := H.at 0 rfl
  have h1 := H.at 1 rfl
  have h2 := H.at 2 rfl
  go_wp2
  go_ret
  exact ⟨by first | rfl | simp, b⟩
end Go.Proofs.Ytlnhdakafidhiaa
