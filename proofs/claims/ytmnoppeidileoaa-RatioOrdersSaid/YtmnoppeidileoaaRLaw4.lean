/- The walk of ratio's law on orders. -/
import Derived.Test.YtmnoppeidileoaaRAlive
import Derived.Test.YtmnoppeidileoaaRRows
namespace Go.Proofs.Ytmnoppeidileoaa
set_option linter.unusedVariables false
set_option linter.unusedSimpArgs false
open Go.RowKit

def part (k j : Nat) (v : Int) : Int := if j < k then v else 0
theorem part_no {k j : Nat} {v : Int} (h : ¬ j < k) : part k j v = 0 := by unfold part; rw [if_neg h]
theorem part_yes {k j : Nat} {v : Int} (h : j < k) : part k j v = v := by unfold part; rw [if_pos h]
theorem cmp_range (a b c d : Int) : -1 ≤ R.cmp a b c d ∧ R.cmp a b c d ≤ 1 := by
  unfold R.cmp
  split
  · omega
  · split
    · omega
    · split <;> omega
theorem cmp_low {a b c d e f : Int} (ha : 0 ≤ a) (hc : 0 ≤ c) (he : 0 ≤ e) (hb : 1 ≤ b) (hd : 1 ≤ d) (hf : 1 ≤ f) (h1 : R.cmp a b c d ≤ 0) (h2 : R.cmp c d e f ≤ 0) : R.cmp a b e f ≤ 0 :=
  (R.cmp_nonpos ha he hb hf).2 (R.frac_trans ha hc he hb hd hf ((R.cmp_nonpos ha hc hb hd).1 h1) ((R.cmp_nonpos hc he hd hf).1 h2))
theorem cmp_high {a b c d e f : Int} (ha : 0 ≤ a) (hc : 0 ≤ c) (he : 0 ≤ e) (hb : 1 ≤ b) (hd : 1 ≤ d) (hf : 1 ≤ f) (h1 : 0 ≤ R.cmp a b c d) (h2 : 0 ≤ R.cmp c d e f) : 0 ≤ R.cmp a b e f :=
  (R.cmp_nonneg ha he hb hf).2 (R.frac_trans he hc ha hf hd hb ((R.cmp_nonneg hc he hd hf).1 h2) ((R.cmp_nonneg ha hc hb hd).1 h1))

set_option maxHeartbeats 8000000 in
set_option maxRecDepth 100000 in
theorem law_RatioOrders (p0 p1 p2 p3 p4 p5 : Int) (W : World) (w0 : Six p0 p1 p2 p3 p4 p5) :
    Calls Try.prog 6 #[.agg #[.int .u32 p0, .int .u32 p1, .int .u32 p2, .int .u32 p3, .int .u32 p4, .int .u32 p5]] W fun e w' => e = .returned (.bool true) ∧ Below W.heap.size W w' := by
  obtain ⟨b0, b1, b2, b3, b4, b5⟩ := w0
  unfold In32 at b0 b1 b2 b3 b4 b5
  obtain ⟨v0, ev0⟩ : ∃ v : Int, p0 + 0 = v := ⟨_, rfl⟩
  obtain ⟨v1, ev1⟩ : ∃ v : Int, p1 + 1 = v := ⟨_, rfl⟩
  obtain ⟨v2, ev2⟩ : ∃ v : Int, p2 + 0 = v := ⟨_, rfl⟩
  obtain ⟨v3, ev3⟩ : ∃ v : Int, p3 + 1 = v := ⟨_, rfl⟩
  obtain ⟨v4, ev4⟩ : ∃ v : Int, p4 + 0 = v := ⟨_, rfl⟩
  obtain ⟨v5, ev5⟩ : ∃ v : Int, p5 + 1 = v := ⟨_, rfl⟩
  have r0 : 0 ≤ v0 ∧ v0 ≤ 4294967296 := by omega
  have r1 : 1 ≤ v1 ∧ v1 ≤ 4294967296 := by omega
  have r2 : 0 ≤ v2 ∧ v2 ≤ 4294967296 := by omega
  have r3 : 1 ≤ v3 ∧ v3 ≤ 4294967296 := by omega
  have r4 : 0 ≤ v4 ∧ v4 ≤ 4294967296 := by omega
  have r5 : 1 ≤ v5 ∧ v5 ≤ 4294967296 := by omega
  obtain ⟨s, hs⟩ : ∃ s, R.cmp v0 v1 v2 v3 = s := ⟨_, rfl⟩
  obtain ⟨s', hs'⟩ : ∃ s, R.cmp v2 v3 v0 v1 = s := ⟨_, rfl⟩
  obtain ⟨t, ht⟩ : ∃ s, R.cmp v2 v3 v4 v5 = s := ⟨_, rfl⟩
  obtain ⟨u, hu⟩ : ∃ s, R.cmp v0 v1 v4 v5 = s := ⟨_, rfl⟩
  obtain ⟨cl, hcl⟩ : ∃ s, R.clamp v0 (min v2 v4) (max v2 v4) = s := ⟨_, rfl⟩
  have hmid : min (max v0 (min v2 v4)) (max v2 v4) = cl := by rw [← hcl, R.clamp_mid _ _ _ (by omega)]
  have htn : s = -s' := by rw [← hs, ← hs']; exact R.cmp_turn _ _ _ _
  have rs := cmp_range v0 v1 v2 v3
  have rt := cmp_range v2 v3 v4 v5
  have ru := cmp_range v0 v1 v4 v5
  have hlow : s ≤ 0 → t ≤ 0 → u ≤ 0 := by
    rw [← hs, ← ht, ← hu]
    exact cmp_low (by omega) (by omega) (by omega) (by omega) (by omega) (by omega)
  have hhigh : 0 ≤ s → 0 ≤ t → 0 ≤ u := by
    rw [← hs, ← ht, ← hu]
    exact cmp_high (by omega) (by omega) (by omega) (by omega) (by omega) (by omega)
  rw [hs] at rs
  rw [ht] at rt
  rw [hu] at ru
  have HS := Lib.hid hs
  have HS' := Lib.hid hs'
  have HT := Lib.hid ht
  have HU := Lib.hid hu
  have HCL := Lib.hid hcl
  have HTN := Lib.hid htn
  have HLOW := Lib.hid hlow
  have HHIGH := Lib.hid hhigh
  have HMID := Lib.hid hmid
  have EV := Lib.hid (And.intro ev0 (And.intro ev1 (And.intro ev2 (And.intro ev3 (And.intro ev4 ev5)))))
  clear hs hs' ht hu hcl hmid htn hlow hhigh ev0 ev1 ev2 ev3 ev4 ev5
  have X := Box.new W #[.int .u32 p0, .int .u32 p1, .int .u32 p2, .int .u32 p3, .int .u32 p4, .int .u32 p5] 37
  have b := (Below.refl W.heap.size W).alloc (Nat.le_refl _) (.cells #[.int .u32 p0, .int .u32 p1, .int .u32 p2, .int .u32 p3, .int .u32 p4, .int .u32 p5] 37)
  go_enter Try.func6, Try.ntmps6
  go_wp2_with fail
  generalize W.alloc (.cells #[.int .u32 p0, .int .u32 p1, .int .u32 p2, .int .u32 p3, .int .u32 p4, .int .u32 p5] 37) = w2 at *
  refine (ralive_any _).mono ?_
  rintro e w3 ⟨rfl, hb⟩
  replace X := X.belowH hb
  replace b := b.trans (hb.mono b.size)
  clear hb
  have hXlt := X.lt
  have Nb := Box.new w3 #[.int .i64 0, .int .i64 0, .int .i64 0, .int .i64 0, .int .i64 0, .int .i64 0] 38
  have X4 := X.alloc (.cells #[.int .i64 0, .int .i64 0, .int .i64 0, .int .i64 0, .int .i64 0, .int .i64 0] 38)
  have b4 := b.alloc b.size (.cells #[.int .i64 0, .int .i64 0, .int .i64 0, .int .i64 0, .int .i64 0, .int .i64 0] 38)
  go_wp2
  generalize w3.alloc (.cells #[.int .i64 0, .int .i64 0, .int .i64 0, .int .i64 0, .int .i64 0, .int .i64 0] 38) = w4 at *
  generalize w3.heap.size = bn at *
  go_loopw [4] (fun i wr => ∃ k : Nat, k ≤ 6 ∧ i = .int .i64 k ∧ Box wr W.heap.size 37 #[.int .u32 p0, .int .u32 p1, .int .u32 p2, .int .u32 p3, .int .u32 p4, .int .u32 p5] ∧ Box wr bn 38 #[.int .i64 (part k 0 v0), .int .i64 (part k 1 v1), .int .i64 (part k 2 v2), .int .i64 (part k 3 v3), .int .i64 (part k 4 v4), .int .i64 (part k 5 v5)] ∧ Below W.heap.size W wr) (fun i _ => 6 - (intOf i).toNat)
  case atStart => exact ⟨0, by omega, rfl, X4, Nb, b4⟩
  case round =>
    clear X b X4 Nb b4
    obtain ⟨k, hk, rfl, X, Nb, b⟩ := hrel
    have hlt := Nb.lt
    have nc := Nb.cold
    have hne : bn ≠ W.heap.size := by omega
    match k, hk with
    | 0, _ =>
      have q0 := X.at 0 rfl
      have q1 := Nb.at 0 rfl
      go_wp2
      go_roundw
      case rel =>
        refine ⟨1, by omega, rfl, X.other (Ne.symm hne) _, ?_, below_set b (by omega) _⟩
        have Z := Nb.set 0 (.int .i64 v0)
        have e : p0 = v0 := by have := EV.out; omega
        rw [e]
        exact Z
      case measure => simp [intOf]
    | 1, _ =>
      have q0 := X.at 1 rfl
      have q1 := Nb.at 1 rfl
      go_wp2
      go_roundw
      case rel =>
        refine ⟨2, by omega, rfl, X.other (Ne.symm hne) _, ?_, below_set b (by omega) _⟩
        have Z := Nb.set 1 (.int .i64 v1)
        have e : p1 + 1 = v1 := by have := EV.out; omega
        rw [e]
        exact Z
      case measure => simp [intOf]
    | 2, _ =>
      have q0 := X.at 2 rfl
      have q1 := Nb.at 2 rfl
      go_wp2
      go_roundw
      case rel =>
        refine ⟨3, by omega, rfl, X.other (Ne.symm hne) _, ?_, below_set b (by omega) _⟩
        have Z := Nb.set 2 (.int .i64 v2)
        have e : p2 = v2 := by have := EV.out; omega
        rw [e]
        exact Z
      case measure => simp [intOf]
    | 3, _ =>
      have q0 := X.at 3 rfl
      have q1 := Nb.at 3 rfl
      go_wp2
      go_roundw
      case rel =>
        refine ⟨4, by omega, rfl, X.other (Ne.symm hne) _, ?_, below_set b (by omega) _⟩
        have Z := Nb.set 3 (.int .i64 v3)
        have e : p3 + 1 = v3 := by have := EV.out; omega
        rw [e]
        exact Z
      case measure => simp [intOf]
    | 4, _ =>
      have q0 := X.at 4 rfl
      have q1 := Nb.at 4 rfl
      go_wp2
      go_roundw
      case rel =>
        refine ⟨5, by omega, rfl, X.other (Ne.symm hne) _, ?_, below_set b (by omega) _⟩
        have Z := Nb.set 4 (.int .i64 v4)
        have e : p4 = v4 := by have := EV.out; omega
        rw [e]
        exact Z
      case measure => simp [intOf]
    | 5, _ =>
      have q0 := X.at 5 rfl
      have q1 := Nb.at 5 rfl
      go_wp2
      go_roundw
      case rel =>
        refine ⟨6, by omega, rfl, X.other (Ne.symm hne) _, ?_, below_set b (by omega) _⟩
        have Z := Nb.set 5 (.int .i64 v5)
        have e : p5 + 1 = v5 := by have := EV.out; omega
        rw [e]
        exact Z
      case measure => simp [intOf]
    | 6, _ =>
      replace Nb : Box wr bn 38 #[.int .i64 v0, .int .i64 v1, .int .i64 v2, .int .i64 v3, .int .i64 v4, .int .i64 v5] := Nb
      have n0 := Nb.at 0 rfl
      have n1 := Nb.at 1 rfl
      have n2 := Nb.at 2 rfl
      have n3 := Nb.at 3 rfl
      have n4 := Nb.at 4 rfl
      have n5 := Nb.at 5 rfl
      clear X hlt nc
      go_wp2_with fail
      refine (cmp_any _ _ _ _ (by omega) (by omega) (by omega) (by omega) _).mono ?_
      rw [HS.out]
      rintro e w5 ⟨rfl, hb⟩
      replace Nb := Nb.belowH hb
      replace b := b.trans (hb.mono b.size)
      clear hb n0 n1 n2 n3 n4 n5
      have n0 := Nb.at 0 rfl
      have n1 := Nb.at 1 rfl
      have n2 := Nb.at 2 rfl
      have n3 := Nb.at 3 rfl
      have n4 := Nb.at 4 rfl
      have n5 := Nb.at 5 rfl
      go_wp2_with fail
      refine (cmp_any _ _ _ _ (by omega) (by omega) (by omega) (by omega) _).mono ?_
      rw [HS'.out]
      rintro e w6 ⟨rfl, hb⟩
      replace Nb := Nb.belowH hb
      replace b := b.trans (hb.mono b.size)
      clear hb n0 n1 n2 n3 n4 n5
      have n0 := Nb.at 0 rfl
      have n1 := Nb.at 1 rfl
      have n2 := Nb.at 2 rfl
      have n3 := Nb.at 3 rfl
      have n4 := Nb.at 4 rfl
      have n5 := Nb.at 5 rfl
      go_wp2_with fail
      refine (cmp_any _ _ _ _ (by omega) (by omega) (by omega) (by omega) _).mono ?_
      rw [HT.out]
      rintro e w7 ⟨rfl, hb⟩
      replace Nb := Nb.belowH hb
      replace b := b.trans (hb.mono b.size)
      clear hb n0 n1 n2 n3 n4 n5
      have n0 := Nb.at 0 rfl
      have n1 := Nb.at 1 rfl
      have n2 := Nb.at 2 rfl
      have n3 := Nb.at 3 rfl
      have n4 := Nb.at 4 rfl
      have n5 := Nb.at 5 rfl
      go_wp2_with fail
      refine (cmp_any _ _ _ _ (by omega) (by omega) (by omega) (by omega) _).mono ?_
      rw [HU.out]
      rintro e w8 ⟨rfl, hb⟩
      replace Nb := Nb.belowH hb
      replace b := b.trans (hb.mono b.size)
      clear hb n0 n1 n2 n3 n4 n5
      have n0 := Nb.at 0 rfl
      have n1 := Nb.at 1 rfl
      have n2 := Nb.at 2 rfl
      have n3 := Nb.at 3 rfl
      have n4 := Nb.at 4 rfl
      have n5 := Nb.at 5 rfl
      go_wp2_with fail
      have g0 : -s' = s := by have := HTN.out; omega
      have g1 : IntKind.i64.wrap s = s := IntWalk.i64_in _ (by omega)
      have hmid := HMID.out
      replace Nb := Nb.drew
      replace b := b.drew
      rcases (show s < 0 ∨ s = 0 ∨ 0 < s by omega) with hs | hs | hs
      · rcases (show t ≤ 0 ∨ 0 < t by omega) with ht | ht
        · have d1 : decide (s ≤ 0) = true := decide_eq_true (by omega)
          have d2 : decide (0 ≤ s) = false := decide_eq_false (by omega)
          have d3 : decide (t ≤ 0) = true := decide_eq_true (by omega)
          have d5 : decide (0 < u) = false := decide_eq_false (by have := HLOW.out (by omega) (by omega); omega)
          clear hs ht
          refine wp_region_held_drew (S := (fun w' => (w'.cell? ⟨bn, 0, none⟩ = some (.int .i64 v0) ∧ w'.cell? ⟨bn, 2, none⟩ = some (.int .i64 v2)) ∧ w'.cell? ⟨bn, 4, none⟩ = some (.int .i64 v4))) (by kernel_rfl) (by exact ⟨⟨n0, n2⟩, n4⟩) (fun hHeld0 => ?_)
          refine tk 0 60 rfl hHeld0 ?_
          refine tk 1 61 rfl hHeld0 ?_
          refine tk 2 62 rfl hHeld0 ?_
          refine tk 3 63 rfl hHeld0 ?_
          refine tk 4 64 rfl hHeld0 ?_
          refine tk 5 65 rfl hHeld0 ?_
          refine tk 6 66 rfl hHeld0 ?_
          refine tk 7 67 rfl hHeld0 ?_
          refine tk 8 68 rfl hHeld0 ?_
          refine tk 9 69 rfl hHeld0 ?_
          refine tk 10 70 rfl hHeld0 ?_
          refine tk 11 71 rfl hHeld0 ?_
          refine tk 12 72 rfl hHeld0 ?_
          refine tk 13 73 rfl hHeld0 ?_
          refine tk 14 74 rfl hHeld0 ?_
          refine tk 15 75 rfl hHeld0 ?_
          refine tk 16 76 rfl hHeld0 ?_
          refine tk 17 77 rfl hHeld0 ?_
          refine tk 18 78 rfl hHeld0 ?_
          refine tk 19 79 rfl hHeld0 ?_
          refine tk 20 80 rfl hHeld0 ?_
          refine tu 21 81 rfl hHeld0 ?_
          refine tu 22 82 rfl hHeld0 ?_
          refine tk 23 83 rfl hHeld0 ?_
          refine tk 24 84 rfl hHeld0 ?_
          refine tu 25 85 rfl hHeld0 ?_
          refine tu 26 86 rfl hHeld0 ?_
          refine tk 27 87 rfl hHeld0 ?_
          refine tk 28 88 rfl hHeld0 ?_
          refine tk 29 89 rfl hHeld0 ?_
          refine tk 30 90 rfl hHeld0 ?_
          refine tk 31 91 rfl hHeld0 ?_
          refine tk 32 92 rfl hHeld0 ?_
          refine tk 33 93 rfl hHeld0 ?_
          refine tk 34 94 rfl hHeld0 ?_
          refine tk 35 95 rfl hHeld0 ?_
          refine tk 36 96 rfl hHeld0 ?_
          refine tk 37 97 rfl hHeld0 ?_
          refine tk 38 98 rfl hHeld0 ?_
          refine tk 39 99 rfl hHeld0 ?_
          refine tk 40 100 rfl hHeld0 ?_
          refine tk 41 101 rfl hHeld0 ?_
          refine tk 42 102 rfl hHeld0 ?_
          refine tk 44 104 rfl hHeld0 ?_
          refine tk 45 105 rfl hHeld0 ?_
          refine tk 46 106 rfl hHeld0 ?_
          refine tk 47 107 rfl hHeld0 ?_
          refine tk 48 108 rfl hHeld0 ?_
          refine tk 49 109 rfl hHeld0 ?_
          refine tk 50 110 rfl hHeld0 ?_
          refine tk 51 111 rfl hHeld0 ?_
          refine tk 52 112 rfl hHeld0 ?_
          refine tk 53 113 rfl hHeld0 ?_
          refine tk 54 114 rfl hHeld0 ?_
          refine tk 55 115 rfl hHeld0 ?_
          refine tk 56 116 rfl hHeld0 ?_
          refine tk 57 117 rfl hHeld0 ?_
          refine wpAnyH_ready (rs := [43]) (by kernel_rfl) (by simp) (AllReadyH.cons (o := ⟨some 103, _, _, _, _, _⟩) rfl (fun K hK => ?_) AllReadyH.nil)
          go_simp
          (refine (clamp_any _ _ _ _).mono ?_; rw [HCL.out]; rintro e w' ⟨rfl, rfl⟩)
          go_simp
          refine hK.out _ _ (by exact ⟨⟨n0, n2⟩, n4⟩) (fun hHeld1 => ?_)
          clear hK hHeld0 K
          try simp only [Act.put, sA, sB, sC]
          refine tk 58 118 rfl hHeld1 ?_
          refine tk 59 119 rfl hHeld1 ?_
          refine tk 60 2 rfl hHeld1 ?_
          refine wpAnyH_done (by kernel_rfl) ?_ _
          go_wp2
          go_ret
          exact ⟨by simp, b⟩
        · have d1 : decide (s ≤ 0) = true := decide_eq_true (by omega)
          have d2 : decide (0 ≤ s) = false := decide_eq_false (by omega)
          have d3 : decide (t ≤ 0) = false := decide_eq_false (by omega)
          have d4 : decide (0 ≤ t) = true := decide_eq_true (by omega)
          clear hs ht
          refine wp_region_held_drew (S := (fun w' => (w'.cell? ⟨bn, 0, none⟩ = some (.int .i64 v0) ∧ w'.cell? ⟨bn, 2, none⟩ = some (.int .i64 v2)) ∧ w'.cell? ⟨bn, 4, none⟩ = some (.int .i64 v4))) (by kernel_rfl) (by exact ⟨⟨n0, n2⟩, n4⟩) (fun hHeld0 => ?_)
          refine tk 0 60 rfl hHeld0 ?_
          refine tk 1 61 rfl hHeld0 ?_
          refine tk 2 62 rfl hHeld0 ?_
          refine tk 3 63 rfl hHeld0 ?_
          refine tk 4 64 rfl hHeld0 ?_
          refine tk 5 65 rfl hHeld0 ?_
          refine tk 6 66 rfl hHeld0 ?_
          refine tk 7 67 rfl hHeld0 ?_
          refine tk 8 68 rfl hHeld0 ?_
          refine tk 9 69 rfl hHeld0 ?_
          refine tk 10 70 rfl hHeld0 ?_
          refine tk 11 71 rfl hHeld0 ?_
          refine tu 12 72 rfl hHeld0 ?_
          refine tu 13 73 rfl hHeld0 ?_
          refine tk 14 74 rfl hHeld0 ?_
          refine tk 15 75 rfl hHeld0 ?_
          refine tk 16 76 rfl hHeld0 ?_
          refine tk 17 77 rfl hHeld0 ?_
          refine tk 18 78 rfl hHeld0 ?_
          refine tk 19 79 rfl hHeld0 ?_
          refine tk 20 80 rfl hHeld0 ?_
          refine tu 21 81 rfl hHeld0 ?_
          refine tu 22 82 rfl hHeld0 ?_
          refine tk 23 83 rfl hHeld0 ?_
          refine tk 24 84 rfl hHeld0 ?_
          refine tu 25 85 rfl hHeld0 ?_
          refine tu 26 86 rfl hHeld0 ?_
          refine tk 27 87 rfl hHeld0 ?_
          refine tk 28 88 rfl hHeld0 ?_
          refine tk 29 89 rfl hHeld0 ?_
          refine tk 30 90 rfl hHeld0 ?_
          refine tk 31 91 rfl hHeld0 ?_
          refine tk 32 92 rfl hHeld0 ?_
          refine tk 33 93 rfl hHeld0 ?_
          refine tk 34 94 rfl hHeld0 ?_
          refine tk 35 95 rfl hHeld0 ?_
          refine tk 36 96 rfl hHeld0 ?_
          refine tk 37 97 rfl hHeld0 ?_
          refine tk 38 98 rfl hHeld0 ?_
          refine tk 39 99 rfl hHeld0 ?_
          refine tk 40 100 rfl hHeld0 ?_
          refine tk 41 101 rfl hHeld0 ?_
          refine tk 42 102 rfl hHeld0 ?_
          refine tk 44 104 rfl hHeld0 ?_
          refine tk 45 105 rfl hHeld0 ?_
          refine tk 46 106 rfl hHeld0 ?_
          refine tk 47 107 rfl hHeld0 ?_
          refine tk 48 108 rfl hHeld0 ?_
          refine tk 49 109 rfl hHeld0 ?_
          refine tk 50 110 rfl hHeld0 ?_
          refine tk 51 111 rfl hHeld0 ?_
          refine tk 52 112 rfl hHeld0 ?_
          refine tk 53 113 rfl hHeld0 ?_
          refine tk 54 114 rfl hHeld0 ?_
          refine tk 55 115 rfl hHeld0 ?_
          refine tk 56 116 rfl hHeld0 ?_
          refine tk 57 117 rfl hHeld0 ?_
          refine wpAnyH_ready (rs := [43]) (by kernel_rfl) (by simp) (AllReadyH.cons (o := ⟨some 103, _, _, _, _, _⟩) rfl (fun K hK => ?_) AllReadyH.nil)
          go_simp
          (refine (clamp_any _ _ _ _).mono ?_; rw [HCL.out]; rintro e w' ⟨rfl, rfl⟩)
          go_simp
          refine hK.out _ _ (by exact ⟨⟨n0, n2⟩, n4⟩) (fun hHeld1 => ?_)
          clear hK hHeld0 K
          try simp only [Act.put, sA, sB, sC]
          refine tk 58 118 rfl hHeld1 ?_
          refine tk 59 119 rfl hHeld1 ?_
          refine tk 60 2 rfl hHeld1 ?_
          refine wpAnyH_done (by kernel_rfl) ?_ _
          go_wp2
          go_ret
          exact ⟨by simp, b⟩
      · rcases (show t < 0 ∨ t = 0 ∨ 0 < t by omega) with ht | ht | ht
        · have d1 : decide (s ≤ 0) = true := decide_eq_true (by omega)
          have d2 : decide (0 ≤ s) = true := decide_eq_true (by omega)
          have d3 : decide (t ≤ 0) = true := decide_eq_true (by omega)
          have d4 : decide (0 ≤ t) = false := decide_eq_false (by omega)
          have d5 : decide (0 < u) = false := decide_eq_false (by have := HLOW.out (by omega) (by omega); omega)
          clear hs ht
          refine wp_region_held_drew (S := (fun w' => (w'.cell? ⟨bn, 0, none⟩ = some (.int .i64 v0) ∧ w'.cell? ⟨bn, 2, none⟩ = some (.int .i64 v2)) ∧ w'.cell? ⟨bn, 4, none⟩ = some (.int .i64 v4))) (by kernel_rfl) (by exact ⟨⟨n0, n2⟩, n4⟩) (fun hHeld0 => ?_)
          refine tk 0 60 rfl hHeld0 ?_
          refine tk 1 61 rfl hHeld0 ?_
          refine tk 2 62 rfl hHeld0 ?_
          refine tk 3 63 rfl hHeld0 ?_
          refine tk 4 64 rfl hHeld0 ?_
          refine tk 5 65 rfl hHeld0 ?_
          refine tk 6 66 rfl hHeld0 ?_
          refine tk 7 67 rfl hHeld0 ?_
          refine tk 8 68 rfl hHeld0 ?_
          refine tk 9 69 rfl hHeld0 ?_
          refine tk 10 70 rfl hHeld0 ?_
          refine tk 11 71 rfl hHeld0 ?_
          refine tk 12 72 rfl hHeld0 ?_
          refine tk 13 73 rfl hHeld0 ?_
          refine tk 14 74 rfl hHeld0 ?_
          refine tk 15 75 rfl hHeld0 ?_
          refine tk 16 76 rfl hHeld0 ?_
          refine tk 17 77 rfl hHeld0 ?_
          refine tk 18 78 rfl hHeld0 ?_
          refine tk 19 79 rfl hHeld0 ?_
          refine tk 20 80 rfl hHeld0 ?_
          refine tk 21 81 rfl hHeld0 ?_
          refine tk 22 82 rfl hHeld0 ?_
          refine tk 23 83 rfl hHeld0 ?_
          refine tk 24 84 rfl hHeld0 ?_
          refine tu 25 85 rfl hHeld0 ?_
          refine tu 26 86 rfl hHeld0 ?_
          refine tk 27 87 rfl hHeld0 ?_
          refine tk 28 88 rfl hHeld0 ?_
          refine tk 29 89 rfl hHeld0 ?_
          refine tk 30 90 rfl hHeld0 ?_
          refine tk 31 91 rfl hHeld0 ?_
          refine tk 32 92 rfl hHeld0 ?_
          refine tk 33 93 rfl hHeld0 ?_
          refine tk 34 94 rfl hHeld0 ?_
          refine tk 35 95 rfl hHeld0 ?_
          refine tk 36 96 rfl hHeld0 ?_
          refine tk 37 97 rfl hHeld0 ?_
          refine tk 38 98 rfl hHeld0 ?_
          refine tk 39 99 rfl hHeld0 ?_
          refine tk 40 100 rfl hHeld0 ?_
          refine tk 41 101 rfl hHeld0 ?_
          refine tk 42 102 rfl hHeld0 ?_
          refine tk 44 104 rfl hHeld0 ?_
          refine tk 45 105 rfl hHeld0 ?_
          refine tk 46 106 rfl hHeld0 ?_
          refine tk 47 107 rfl hHeld0 ?_
          refine tk 48 108 rfl hHeld0 ?_
          refine tk 49 109 rfl hHeld0 ?_
          refine tk 50 110 rfl hHeld0 ?_
          refine tk 51 111 rfl hHeld0 ?_
          refine tk 52 112 rfl hHeld0 ?_
          refine tk 53 113 rfl hHeld0 ?_
          refine tk 54 114 rfl hHeld0 ?_
          refine tk 55 115 rfl hHeld0 ?_
          refine tk 56 116 rfl hHeld0 ?_
          refine tk 57 117 rfl hHeld0 ?_
          refine wpAnyH_ready (rs := [43]) (by kernel_rfl) (by simp) (AllReadyH.cons (o := ⟨some 103, _, _, _, _, _⟩) rfl (fun K hK => ?_) AllReadyH.nil)
          go_simp
          (refine (clamp_any _ _ _ _).mono ?_; rw [HCL.out]; rintro e w' ⟨rfl, rfl⟩)
          go_simp
          refine hK.out _ _ (by exact ⟨⟨n0, n2⟩, n4⟩) (fun hHeld1 => ?_)
          clear hK hHeld0 K
          try simp only [Act.put, sA, sB, sC]
          refine tk 58 118 rfl hHeld1 ?_
          refine tk 59 119 rfl hHeld1 ?_
          refine tk 60 2 rfl hHeld1 ?_
          refine wpAnyH_done (by kernel_rfl) ?_ _
          go_wp2
          go_ret
          exact ⟨by simp, b⟩
        · have d1 : decide (s ≤ 0) = true := decide_eq_true (by omega)
          have d2 : decide (0 ≤ s) = true := decide_eq_true (by omega)
          have d3 : decide (t ≤ 0) = true := decide_eq_true (by omega)
          have d4 : decide (0 ≤ t) = true := decide_eq_true (by omega)
          have d5 : decide (0 < u) = false := decide_eq_false (by have := HLOW.out (by omega) (by omega); omega)
          have d6 : decide (u < 0) = false := decide_eq_false (by have := HHIGH.out (by omega) (by omega); omega)
          clear hs ht
          refine wp_region_held_drew (S := (fun w' => (w'.cell? ⟨bn, 0, none⟩ = some (.int .i64 v0) ∧ w'.cell? ⟨bn, 2, none⟩ = some (.int .i64 v2)) ∧ w'.cell? ⟨bn, 4, none⟩ = some (.int .i64 v4))) (by kernel_rfl) (by exact ⟨⟨n0, n2⟩, n4⟩) (fun hHeld0 => ?_)
          refine tk 0 60 rfl hHeld0 ?_
          refine tk 1 61 rfl hHeld0 ?_
          refine tk 2 62 rfl hHeld0 ?_
          refine tk 3 63 rfl hHeld0 ?_
          refine tk 4 64 rfl hHeld0 ?_
          refine tk 5 65 rfl hHeld0 ?_
          refine tk 6 66 rfl hHeld0 ?_
          refine tk 7 67 rfl hHeld0 ?_
          refine tk 8 68 rfl hHeld0 ?_
          refine tk 9 69 rfl hHeld0 ?_
          refine tk 10 70 rfl hHeld0 ?_
          refine tk 11 71 rfl hHeld0 ?_
          refine tk 12 72 rfl hHeld0 ?_
          refine tk 13 73 rfl hHeld0 ?_
          refine tk 14 74 rfl hHeld0 ?_
          refine tk 15 75 rfl hHeld0 ?_
          refine tk 16 76 rfl hHeld0 ?_
          refine tk 17 77 rfl hHeld0 ?_
          refine tk 18 78 rfl hHeld0 ?_
          refine tk 19 79 rfl hHeld0 ?_
          refine tk 20 80 rfl hHeld0 ?_
          refine tk 21 81 rfl hHeld0 ?_
          refine tk 22 82 rfl hHeld0 ?_
          refine tk 23 83 rfl hHeld0 ?_
          refine tk 24 84 rfl hHeld0 ?_
          refine tk 25 85 rfl hHeld0 ?_
          refine tk 26 86 rfl hHeld0 ?_
          refine tk 27 87 rfl hHeld0 ?_
          refine tk 28 88 rfl hHeld0 ?_
          refine tk 29 89 rfl hHeld0 ?_
          refine tk 30 90 rfl hHeld0 ?_
          refine tk 31 91 rfl hHeld0 ?_
          refine tk 32 92 rfl hHeld0 ?_
          refine tk 33 93 rfl hHeld0 ?_
          refine tk 34 94 rfl hHeld0 ?_
          refine tk 35 95 rfl hHeld0 ?_
          refine tk 36 96 rfl hHeld0 ?_
          refine tk 37 97 rfl hHeld0 ?_
          refine tk 38 98 rfl hHeld0 ?_
          refine tk 39 99 rfl hHeld0 ?_
          refine tk 40 100 rfl hHeld0 ?_
          refine tk 41 101 rfl hHeld0 ?_
          refine tk 42 102 rfl hHeld0 ?_
          refine tk 44 104 rfl hHeld0 ?_
          refine tk 45 105 rfl hHeld0 ?_
          refine tk 46 106 rfl hHeld0 ?_
          refine tk 47 107 rfl hHeld0 ?_
          refine tk 48 108 rfl hHeld0 ?_
          refine tk 49 109 rfl hHeld0 ?_
          refine tk 50 110 rfl hHeld0 ?_
          refine tk 51 111 rfl hHeld0 ?_
          refine tk 52 112 rfl hHeld0 ?_
          refine tk 53 113 rfl hHeld0 ?_
          refine tk 54 114 rfl hHeld0 ?_
          refine tk 55 115 rfl hHeld0 ?_
          refine tk 56 116 rfl hHeld0 ?_
          refine tk 57 117 rfl hHeld0 ?_
          refine wpAnyH_ready (rs := [43]) (by kernel_rfl) (by simp) (AllReadyH.cons (o := ⟨some 103, _, _, _, _, _⟩) rfl (fun K hK => ?_) AllReadyH.nil)
          go_simp
          (refine (clamp_any _ _ _ _).mono ?_; rw [HCL.out]; rintro e w' ⟨rfl, rfl⟩)
          go_simp
          refine hK.out _ _ (by exact ⟨⟨n0, n2⟩, n4⟩) (fun hHeld1 => ?_)
          clear hK hHeld0 K
          try simp only [Act.put, sA, sB, sC]
          refine tk 58 118 rfl hHeld1 ?_
          refine tk 59 119 rfl hHeld1 ?_
          refine tk 60 2 rfl hHeld1 ?_
          refine wpAnyH_done (by kernel_rfl) ?_ _
          go_wp2
          go_ret
          exact ⟨by simp, b⟩
        · have d1 : decide (s ≤ 0) = true := decide_eq_true (by omega)
          have d2 : decide (0 ≤ s) = true := decide_eq_true (by omega)
          have d3 : decide (t ≤ 0) = false := decide_eq_false (by omega)
          have d4 : decide (0 ≤ t) = true := decide_eq_true (by omega)
          have d6 : decide (u < 0) = false := decide_eq_false (by have := HHIGH.out (by omega) (by omega); omega)
          clear hs ht
          refine wp_region_held_drew (S := (fun w' => (w'.cell? ⟨bn, 0, none⟩ = some (.int .i64 v0) ∧ w'.cell? ⟨bn, 2, none⟩ = some (.int .i64 v2)) ∧ w'.cell? ⟨bn, 4, none⟩ = some (.int .i64 v4))) (by kernel_rfl) (by exact ⟨⟨n0, n2⟩, n4⟩) (fun hHeld0 => ?_)
          refine tk 0 60 rfl hHeld0 ?_
          refine tk 1 61 rfl hHeld0 ?_
          refine tk 2 62 rfl hHeld0 ?_
          refine tk 3 63 rfl hHeld0 ?_
          refine tk 4 64 rfl hHeld0 ?_
          refine tk 5 65 rfl hHeld0 ?_
          refine tk 6 66 rfl hHeld0 ?_
          refine tk 7 67 rfl hHeld0 ?_
          refine tk 8 68 rfl hHeld0 ?_
          refine tk 9 69 rfl hHeld0 ?_
          refine tk 10 70 rfl hHeld0 ?_
          refine tk 11 71 rfl hHeld0 ?_
          refine tu 12 72 rfl hHeld0 ?_
          refine tu 13 73 rfl hHeld0 ?_
          refine tk 14 74 rfl hHeld0 ?_
          refine tk 15 75 rfl hHeld0 ?_
          refine tk 16 76 rfl hHeld0 ?_
          refine tk 17 77 rfl hHeld0 ?_
          refine tk 18 78 rfl hHeld0 ?_
          refine tk 19 79 rfl hHeld0 ?_
          refine tk 20 80 rfl hHeld0 ?_
          refine tk 21 81 rfl hHeld0 ?_
          refine tk 22 82 rfl hHeld0 ?_
          refine tk 23 83 rfl hHeld0 ?_
          refine tk 24 84 rfl hHeld0 ?_
          refine tk 25 85 rfl hHeld0 ?_
          refine tk 26 86 rfl hHeld0 ?_
          refine tk 27 87 rfl hHeld0 ?_
          refine tk 28 88 rfl hHeld0 ?_
          refine tk 29 89 rfl hHeld0 ?_
          refine tk 30 90 rfl hHeld0 ?_
          refine tk 31 91 rfl hHeld0 ?_
          refine tk 32 92 rfl hHeld0 ?_
          refine tk 33 93 rfl hHeld0 ?_
          refine tk 34 94 rfl hHeld0 ?_
          refine tk 35 95 rfl hHeld0 ?_
          refine tk 36 96 rfl hHeld0 ?_
          refine tk 37 97 rfl hHeld0 ?_
          refine tk 38 98 rfl hHeld0 ?_
          refine tk 39 99 rfl hHeld0 ?_
          refine tk 40 100 rfl hHeld0 ?_
          refine tk 41 101 rfl hHeld0 ?_
          refine tk 42 102 rfl hHeld0 ?_
          refine tk 44 104 rfl hHeld0 ?_
          refine tk 45 105 rfl hHeld0 ?_
          refine tk 46 106 rfl hHeld0 ?_
          refine tk 47 107 rfl hHeld0 ?_
          refine tk 48 108 rfl hHeld0 ?_
          refine tk 49 109 rfl hHeld0 ?_
          refine tk 50 110 rfl hHeld0 ?_
          refine tk 51 111 rfl hHeld0 ?_
          refine tk 52 112 rfl hHeld0 ?_
          refine tk 53 113 rfl hHeld0 ?_
          refine tk 54 114 rfl hHeld0 ?_
          refine tk 55 115 rfl hHeld0 ?_
          refine tk 56 116 rfl hHeld0 ?_
          refine tk 57 117 rfl hHeld0 ?_
          refine wpAnyH_ready (rs := [43]) (by kernel_rfl) (by simp) (AllReadyH.cons (o := ⟨some 103, _, _, _, _, _⟩) rfl (fun K hK => ?_) AllReadyH.nil)
          go_simp
          (refine (clamp_any _ _ _ _).mono ?_; rw [HCL.out]; rintro e w' ⟨rfl, rfl⟩)
          go_simp
          refine hK.out _ _ (by exact ⟨⟨n0, n2⟩, n4⟩) (fun hHeld1 => ?_)
          clear hK hHeld0 K
          try simp only [Act.put, sA, sB, sC]
          refine tk 58 118 rfl hHeld1 ?_
          refine tk 59 119 rfl hHeld1 ?_
          refine tk 60 2 rfl hHeld1 ?_
          refine wpAnyH_done (by kernel_rfl) ?_ _
          go_wp2
          go_ret
          exact ⟨by simp, b⟩
      · rcases (show 0 ≤ t ∨ t < 0 by omega) with ht | ht
        · have d1 : decide (s ≤ 0) = false := decide_eq_false (by omega)
          have d2 : decide (0 ≤ s) = true := decide_eq_true (by omega)
          have d4 : decide (0 ≤ t) = true := decide_eq_true (by omega)
          have d6 : decide (u < 0) = false := decide_eq_false (by have := HHIGH.out (by omega) (by omega); omega)
          clear hs ht
          refine wp_region_held_drew (S := (fun w' => (w'.cell? ⟨bn, 0, none⟩ = some (.int .i64 v0) ∧ w'.cell? ⟨bn, 2, none⟩ = some (.int .i64 v2)) ∧ w'.cell? ⟨bn, 4, none⟩ = some (.int .i64 v4))) (by kernel_rfl) (by exact ⟨⟨n0, n2⟩, n4⟩) (fun hHeld0 => ?_)
          refine tk 0 60 rfl hHeld0 ?_
          refine tk 1 61 rfl hHeld0 ?_
          refine tk 2 62 rfl hHeld0 ?_
          refine tk 3 63 rfl hHeld0 ?_
          refine tk 4 64 rfl hHeld0 ?_
          refine tk 5 65 rfl hHeld0 ?_
          refine tk 6 66 rfl hHeld0 ?_
          refine tk 7 67 rfl hHeld0 ?_
          refine tu 8 68 rfl hHeld0 ?_
          refine tu 9 69 rfl hHeld0 ?_
          refine tk 10 70 rfl hHeld0 ?_
          refine tk 11 71 rfl hHeld0 ?_
          refine tu 12 72 rfl hHeld0 ?_
          refine tu 13 73 rfl hHeld0 ?_
          refine tk 14 74 rfl hHeld0 ?_
          refine tk 15 75 rfl hHeld0 ?_
          refine tk 16 76 rfl hHeld0 ?_
          refine tk 17 77 rfl hHeld0 ?_
          refine tk 18 78 rfl hHeld0 ?_
          refine tk 19 79 rfl hHeld0 ?_
          refine tk 20 80 rfl hHeld0 ?_
          refine tk 21 81 rfl hHeld0 ?_
          refine tk 22 82 rfl hHeld0 ?_
          refine tk 23 83 rfl hHeld0 ?_
          refine tk 24 84 rfl hHeld0 ?_
          refine tk 25 85 rfl hHeld0 ?_
          refine tk 26 86 rfl hHeld0 ?_
          refine tk 27 87 rfl hHeld0 ?_
          refine tk 28 88 rfl hHeld0 ?_
          refine tk 29 89 rfl hHeld0 ?_
          refine tk 30 90 rfl hHeld0 ?_
          refine tk 31 91 rfl hHeld0 ?_
          refine tk 32 92 rfl hHeld0 ?_
          refine tk 33 93 rfl hHeld0 ?_
          refine tk 34 94 rfl hHeld0 ?_
          refine tk 35 95 rfl hHeld0 ?_
          refine tk 36 96 rfl hHeld0 ?_
          refine tk 37 97 rfl hHeld0 ?_
          refine tk 38 98 rfl hHeld0 ?_
          refine tk 39 99 rfl hHeld0 ?_
          refine tk 40 100 rfl hHeld0 ?_
          refine tk 41 101 rfl hHeld0 ?_
          refine tk 42 102 rfl hHeld0 ?_
          refine tk 44 104 rfl hHeld0 ?_
          refine tk 45 105 rfl hHeld0 ?_
          refine tk 46 106 rfl hHeld0 ?_
          refine tk 47 107 rfl hHeld0 ?_
          refine tk 48 108 rfl hHeld0 ?_
          refine tk 49 109 rfl hHeld0 ?_
          refine tk 50 110 rfl hHeld0 ?_
          refine tk 51 111 rfl hHeld0 ?_
          refine tk 52 112 rfl hHeld0 ?_
          refine tk 53 113 rfl hHeld0 ?_
          refine tk 54 114 rfl hHeld0 ?_
          refine tk 55 115 rfl hHeld0 ?_
          refine tk 56 116 rfl hHeld0 ?_
          refine tk 57 117 rfl hHeld0 ?_
          refine wpAnyH_ready (rs := [43]) (by kernel_rfl) (by simp) (AllReadyH.cons (o := ⟨some 103, _, _, _, _, _⟩) rfl (fun K hK => ?_) AllReadyH.nil)
          go_simp
          (refine (clamp_any _ _ _ _).mono ?_; rw [HCL.out]; rintro e w' ⟨rfl, rfl⟩)
          go_simp
          refine hK.out _ _ (by exact ⟨⟨n0, n2⟩, n4⟩) (fun hHeld1 => ?_)
          clear hK hHeld0 K
          try simp only [Act.put, sA, sB, sC]
          refine tk 58 118 rfl hHeld1 ?_
          refine tk 59 119 rfl hHeld1 ?_
          refine tk 60 2 rfl hHeld1 ?_
          refine wpAnyH_done (by kernel_rfl) ?_ _
          go_wp2
          go_ret
          exact ⟨by simp, b⟩
        · have d1 : decide (s ≤ 0) = false := decide_eq_false (by omega)
          have d2 : decide (0 ≤ s) = true := decide_eq_true (by omega)
          have d3 : decide (t ≤ 0) = true := decide_eq_true (by omega)
          have d4 : decide (0 ≤ t) = false := decide_eq_false (by omega)
          clear hs ht
          refine wp_region_held_drew (S := (fun w' => (w'.cell? ⟨bn, 0, none⟩ = some (.int .i64 v0) ∧ w'.cell? ⟨bn, 2, none⟩ = some (.int .i64 v2)) ∧ w'.cell? ⟨bn, 4, none⟩ = some (.int .i64 v4))) (by kernel_rfl) (by exact ⟨⟨n0, n2⟩, n4⟩) (fun hHeld0 => ?_)
          refine tk 0 60 rfl hHeld0 ?_
          refine tk 1 61 rfl hHeld0 ?_
          refine tk 2 62 rfl hHeld0 ?_
          refine tk 3 63 rfl hHeld0 ?_
          refine tk 4 64 rfl hHeld0 ?_
          refine tk 5 65 rfl hHeld0 ?_
          refine tk 6 66 rfl hHeld0 ?_
          refine tk 7 67 rfl hHeld0 ?_
          refine tu 8 68 rfl hHeld0 ?_
          refine tu 9 69 rfl hHeld0 ?_
          refine tk 10 70 rfl hHeld0 ?_
          refine tk 11 71 rfl hHeld0 ?_
          refine tu 12 72 rfl hHeld0 ?_
          refine tu 13 73 rfl hHeld0 ?_
          refine tk 14 74 rfl hHeld0 ?_
          refine tk 15 75 rfl hHeld0 ?_
          refine tk 16 76 rfl hHeld0 ?_
          refine tk 17 77 rfl hHeld0 ?_
          refine tk 18 78 rfl hHeld0 ?_
          refine tk 19 79 rfl hHeld0 ?_
          refine tk 20 80 rfl hHeld0 ?_
          refine tk 21 81 rfl hHeld0 ?_
          refine tk 22 82 rfl hHeld0 ?_
          refine tk 23 83 rfl hHeld0 ?_
          refine tk 24 84 rfl hHeld0 ?_
          refine tu 25 85 rfl hHeld0 ?_
          refine tu 26 86 rfl hHeld0 ?_
          refine tk 27 87 rfl hHeld0 ?_
          refine tk 28 88 rfl hHeld0 ?_
          refine tk 29 89 rfl hHeld0 ?_
          refine tk 30 90 rfl hHeld0 ?_
          refine tk 31 91 rfl hHeld0 ?_
          refine tk 32 92 rfl hHeld0 ?_
          refine tk 33 93 rfl hHeld0 ?_
          refine tk 34 94 rfl hHeld0 ?_
          refine tk 35 95 rfl hHeld0 ?_
          refine tk 36 96 rfl hHeld0 ?_
          refine tk 37 97 rfl hHeld0 ?_
          refine tk 38 98 rfl hHeld0 ?_
          refine tk 39 99 rfl hHeld0 ?_
          refine tk 40 100 rfl hHeld0 ?_
          refine tk 41 101 rfl hHeld0 ?_
          refine tk 42 102 rfl hHeld0 ?_
          refine tk 44 104 rfl hHeld0 ?_
          refine tk 45 105 rfl hHeld0 ?_
          refine tk 46 106 rfl hHeld0 ?_
          refine tk 47 107 rfl hHeld0 ?_
          refine tk 48 108 rfl hHeld0 ?_
          refine tk 49 109 rfl hHeld0 ?_
          refine tk 50 110 rfl hHeld0 ?_
          refine tk 51 111 rfl hHeld0 ?_
          refine tk 52 112 rfl hHeld0 ?_
          refine tk 53 113 rfl hHeld0 ?_
          refine tk 54 114 rfl hHeld0 ?_
          refine tk 55 115 rfl hHeld0 ?_
          refine tk 56 116 rfl hHeld0 ?_
          refine tk 57 117 rfl hHeld0 ?_
          refine wpAnyH_ready (rs := [43]) (by kernel_rfl) (by simp) (AllReadyH.cons (o := ⟨some 103, _, _, _, _, _⟩) rfl (fun K hK => ?_) AllReadyH.nil)
          go_simp
          (refine (clamp_any _ _ _ _).mono ?_; rw [HCL.out]; rintro e w' ⟨rfl, rfl⟩)
          go_simp
          refine hK.out _ _ (by exact ⟨⟨n0, n2⟩, n4⟩) (fun hHeld1 => ?_)
          clear hK hHeld0 K
          try simp only [Act.put, sA, sB, sC]
          refine tk 58 118 rfl hHeld1 ?_
          refine tk 59 119 rfl hHeld1 ?_
          refine tk 60 2 rfl hHeld1 ?_
          refine wpAnyH_done (by kernel_rfl) ?_ _
          go_wp2
          go_ret
          exact ⟨by simp, b⟩
end Go.Proofs.Ytmnoppeidileoaa
