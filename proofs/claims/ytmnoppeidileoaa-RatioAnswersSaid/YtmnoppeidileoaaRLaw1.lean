/- The walk of ratio's law on answers. -/
import Derived.Test.YtmnoppeidileoaaRAlive
import Derived.Test.YtmnoppeidileoaaRRows
namespace Go.Proofs.Ytmnoppeidileoaa
set_option linter.unusedVariables false
set_option linter.unusedSimpArgs false
open Go.RowKit

set_option maxHeartbeats 4000000 in
set_option maxRecDepth 20000 in
theorem law_RatioAnswers (p q r : Int) (a1 : Option Addr) (len1 cap1 : Nat) (z1 : List Int) (s t u v : Int) (W : World) (w0 : Three p q r) (w1 : Row .i64 W a1 len1 cap1 z1) (w2 : Four s t u v) :
    Calls Try.prog 3 #[.agg #[.int .i64 p, .int .i64 q, .int .i64 r], .slice a1 len1 cap1, .agg #[.int .i64 s, .int .i64 t, .int .i64 u, .int .i64 v]] W fun e w' => e = .returned (.bool true) ∧ Below W.heap.size W w' := by
  obtain ⟨l, hl, RW⟩ := w1.ints
  have hc := w1.cap_
  have HL := Lib.hid hl
  obtain ⟨bp, bq, br⟩ := w0
  obtain ⟨bs, bt, bu, bv⟩ := w2
  clear hl w1
  have X := (Box.new W #[.int .i64 p, .int .i64 q, .int .i64 r] 22).alloc (.cells #[.int .i64 s, .int .i64 t, .int .i64 u, .int .i64 v] 24)
  have Y := Box.new (W.alloc (.cells #[.int .i64 p, .int .i64 q, .int .i64 r] 22)) #[.int .i64 s, .int .i64 t, .int .i64 u, .int .i64 v] 24
  rw [show (W.alloc (.cells #[.int .i64 p, .int .i64 q, .int .i64 r] 22)).heap.size = W.heap.size + 1 by simp] at Y
  have b := ((Below.refl W.heap.size W).alloc (Nat.le_refl _) (.cells #[.int .i64 p, .int .i64 q, .int .i64 r] 22)).alloc (by simp) (.cells #[.int .i64 s, .int .i64 t, .int .i64 u, .int .i64 v] 24)
  replace RW := RW.below b
  replace RW := RW.more b.size
  by_cases hn : 1000 < len1
  · go_enter Try.func3, Try.ntmps3
    go_wp2_with fail
    generalize (W.alloc (.cells #[.int .i64 p, .int .i64 q, .int .i64 r] 22)).alloc (.cells #[.int .i64 s, .int .i64 t, .int .i64 u, .int .i64 v] 24) = w2 at *
    refine (ralive_any _).mono ?_
    rintro e w3 ⟨rfl, hb⟩
    replace b := b.trans (hb.mono b.size)
    clear hb
    go_wp2
    go_ret
    exact ⟨rfl, b⟩
  · obtain ⟨⟨x1, x2⟩, hx⟩ : ∃ x, R.mulDiv p q r = x := ⟨_, rfl⟩
    have HX := Lib.hid hx
    clear hx
    obtain ⟨x3, hx⟩ : ∃ x, R.mean l = x := ⟨_, rfl⟩
    have HM := Lib.hid hx
    clear hx
    obtain ⟨x4, hx⟩ : ∃ x, R.clamp p q r = x := ⟨_, rfl⟩
    have HC := Lib.hid hx
    clear hx
    obtain ⟨x5, hx⟩ : ∃ x, R.cmp s t u v = x := ⟨_, rfl⟩
    have HK := Lib.hid hx
    clear hx
    go_enter Try.func3, Try.ntmps3
    go_wp2_with fail
    generalize (W.alloc (.cells #[.int .i64 p, .int .i64 q, .int .i64 r] 22)).alloc (.cells #[.int .i64 s, .int .i64 t, .int .i64 u, .int .i64 v] 24) = w2 at *
    refine (ralive_any _).mono ?_
    rintro e w3 ⟨rfl, hb⟩
    replace X := X.belowH hb
    replace Y := Y.belowH hb
    replace RW := RW.belowH hb
    replace b := b.trans (hb.mono b.size)
    clear hb
    have y0 := X.at 0 rfl
    have y1 := X.at 1 rfl
    have y2 := X.at 2 rfl
    go_wp2_with fail
    refine (muldiv_b _ _ _ bp bq br HX.out _).mono ?_
    rintro e w4 ⟨rfl, hb⟩
    dsimp only
    replace X := X.belowH hb
    replace Y := Y.belowH hb
    replace RW := RW.belowH hb
    replace b := b.trans (hb.mono b.size)
    clear hb y0 y1 y2
    have y0 := X.at 0 rfl
    have y1 := X.at 1 rfl
    have y2 := X.at 2 rfl
    go_wp2_with fail
    refine (rmuldiv_any _ _ _ bp bq br _).mono ?_
    rw [HX.out]
    rintro e w5 ⟨rfl, hb⟩
    dsimp only
    replace X := X.belowH hb
    replace Y := Y.belowH hb
    replace RW := RW.belowH hb
    replace b := b.trans (hb.mono b.size)
    clear hb y0 y1 y2
    go_wp2_with fail
    replace X := X.drew
    replace Y := Y.drew
    replace RW : Rd w5.drew w5.drew.heap.size 1 a1 len1 (I l) := RW
    replace b := b.drew
    have y0 := X.at 0 rfl
    have y1 := X.at 1 rfl
    have y2 := X.at 2 rfl
    have z0 := Y.at 0 rfl
    have z1 := Y.at 1 rfl
    have z2 := Y.at 2 rfl
    have z3 := Y.at 3 rfl
    refine wp_region_held_drew (S := (fun w' => (w'.cell? ⟨W.heap.size, 0, none⟩ = some (.int .i64 p) ∧ w'.cell? ⟨W.heap.size, 1, none⟩ = some (.int .i64 q) ∧ w'.cell? ⟨W.heap.size, 2, none⟩ = some (.int .i64 r)) ∧ w'.cell? ⟨W.heap.size + 1, 0, none⟩ = some (.int .i64 s) ∧ w'.cell? ⟨W.heap.size + 1, 1, none⟩ = some (.int .i64 t) ∧ w'.cell? ⟨W.heap.size + 1, 2, none⟩ = some (.int .i64 u) ∧ w'.cell? ⟨W.heap.size + 1, 3, none⟩ = some (.int .i64 v))) (by kernel_rfl) (by exact ⟨⟨y0, y1, y2⟩, z0, z1, z2, z3⟩) (fun hHeld0 => ?_)
    refine tk 0 36 rfl hHeld0 ?_
    refine tk 1 37 rfl hHeld0 ?_
    refine tk 2 38 rfl hHeld0 ?_
    refine tk 3 39 rfl hHeld0 ?_
    refine tk 4 40 rfl hHeld0 ?_
    refine tk 5 41 rfl hHeld0 ?_
    refine tk 6 42 rfl hHeld0 ?_
    refine tk 7 43 rfl hHeld0 ?_
    refine tk 8 44 rfl hHeld0 ?_
    refine tk 9 45 rfl hHeld0 ?_
    refine tk 11 47 rfl hHeld0 ?_
    refine wpAnyH_ready (rs := [10]) (by kernel_rfl) (by simp) (AllReadyH.cons (o := ⟨some 46, _, _, _, _, _⟩) rfl (fun K hK => ?_) AllReadyH.nil)
    go_simp
    (refine (mean_b _ _ _ _ l _ RW (by omega) HM.out).mono ?_; rintro e w7 ⟨rfl, hb⟩; replace X := X.belowH hb; replace Y := Y.belowH hb; replace RW := RW.belowH hb; replace b := b.trans (hb.mono b.size); clear hb y0 y1 y2 z0 z1 z2 z3; have y0 := X.at 0 rfl; have y1 := X.at 1 rfl; have y2 := X.at 2 rfl; have z0 := Y.at 0 rfl; have z1 := Y.at 1 rfl; have z2 := Y.at 2 rfl; have z3 := Y.at 3 rfl)
    go_simp
    refine hK.out _ _ (by exact ⟨⟨y0, y1, y2⟩, z0, z1, z2, z3⟩) (fun hHeld1 => ?_)
    clear hK hHeld0 K
    try simp only [Act.put, sA, sB, sC]
    refine wpAnyH_ready (rs := [12]) (by kernel_rfl) (by simp) (AllReadyH.cons (o := ⟨some 48, _, _, _, _, _⟩) rfl (fun K hK => ?_) AllReadyH.nil)
    go_simp
    (refine (rmean_any _ _ _ l _ RW (by omega)).mono ?_; rw [HM.out]; rintro e w8 ⟨rfl, hb⟩; replace X := X.belowH hb; replace Y := Y.belowH hb; replace RW := RW.belowH hb; replace b := b.trans (hb.mono b.size); clear hb y0 y1 y2 z0 z1 z2 z3; have y0 := X.at 0 rfl; have y1 := X.at 1 rfl; have y2 := X.at 2 rfl; have z0 := Y.at 0 rfl; have z1 := Y.at 1 rfl; have z2 := Y.at 2 rfl; have z3 := Y.at 3 rfl)
    go_simp
    refine hK.out _ _ (by exact ⟨⟨y0, y1, y2⟩, z0, z1, z2, z3⟩) (fun hHeld2 => ?_)
    clear hK hHeld1 K
    try simp only [Act.put, sA, sB, sC]
    refine tk 13 49 rfl hHeld2 ?_
    refine tk 14 50 rfl hHeld2 ?_
    refine tk 15 51 rfl hHeld2 ?_
    refine tk 16 52 rfl hHeld2 ?_
    refine tk 17 53 rfl hHeld2 ?_
    refine tk 18 54 rfl hHeld2 ?_
    refine tk 19 55 rfl hHeld2 ?_
    refine tk 20 56 rfl hHeld2 ?_
    refine tk 21 57 rfl hHeld2 ?_
    refine tk 23 59 rfl hHeld2 ?_
    refine tk 24 60 rfl hHeld2 ?_
    refine tk 25 61 rfl hHeld2 ?_
    refine tk 26 62 rfl hHeld2 ?_
    refine tk 27 63 rfl hHeld2 ?_
    refine tk 28 64 rfl hHeld2 ?_
    refine wpAnyH_ready (rs := [22]) (by kernel_rfl) (by simp) (AllReadyH.cons (o := ⟨some 58, _, _, _, _, _⟩) rfl (fun K hK => ?_) AllReadyH.nil)
    go_simp
    (refine (clamp_any _ _ _ _).mono ?_; rw [HC.out]; rintro e w' ⟨rfl, rfl⟩)
    go_simp
    refine hK.out _ _ (by exact ⟨⟨y0, y1, y2⟩, z0, z1, z2, z3⟩) (fun hHeld3 => ?_)
    clear hK hHeld2 K
    try simp only [Act.put, sA, sB, sC]
    refine wpAnyH_ready (rs := [29]) (by kernel_rfl) (by simp) (AllReadyH.cons (o := ⟨some 65, _, _, _, _, _⟩) rfl (fun K hK => ?_) AllReadyH.nil)
    go_simp
    (refine (rclamp_any _ _ _ _).mono ?_; rw [HC.out]; rintro e w' ⟨rfl, rfl⟩)
    go_simp
    refine hK.out _ _ (by exact ⟨⟨y0, y1, y2⟩, z0, z1, z2, z3⟩) (fun hHeld4 => ?_)
    clear hK hHeld3 K
    try simp only [Act.put, sA, sB, sC]
    refine tk 30 66 rfl hHeld4 ?_
    refine tk 31 67 rfl hHeld4 ?_
    refine tk 32 68 rfl hHeld4 ?_
    refine tk 33 69 rfl hHeld4 ?_
    refine tk 34 70 rfl hHeld4 ?_
    refine tk 35 71 rfl hHeld4 ?_
    refine tk 36 72 rfl hHeld4 ?_
    refine tk 37 73 rfl hHeld4 ?_
    refine tk 38 74 rfl hHeld4 ?_
    refine tk 39 75 rfl hHeld4 ?_
    refine tk 40 76 rfl hHeld4 ?_
    refine tk 42 78 rfl hHeld4 ?_
    refine tk 43 79 rfl hHeld4 ?_
    refine tk 44 80 rfl hHeld4 ?_
    refine tk 45 81 rfl hHeld4 ?_
    refine tk 46 82 rfl hHeld4 ?_
    refine tk 47 83 rfl hHeld4 ?_
    refine tk 48 84 rfl hHeld4 ?_
    refine tk 49 85 rfl hHeld4 ?_
    refine wpAnyH_ready (rs := [41]) (by kernel_rfl) (by simp) (AllReadyH.cons (o := ⟨some 77, _, _, _, _, _⟩) rfl (fun K hK => ?_) AllReadyH.nil)
    go_simp
    (refine (cmp_any _ _ _ _ bs bt bu bv _).mono ?_; rw [HK.out]; rintro e w9 ⟨rfl, hb⟩; replace X := X.belowH hb; replace Y := Y.belowH hb; replace RW := RW.belowH hb; replace b := b.trans (hb.mono b.size); clear hb y0 y1 y2 z0 z1 z2 z3; have y0 := X.at 0 rfl; have y1 := X.at 1 rfl; have y2 := X.at 2 rfl; have z0 := Y.at 0 rfl; have z1 := Y.at 1 rfl; have z2 := Y.at 2 rfl; have z3 := Y.at 3 rfl)
    go_simp
    refine hK.out _ _ (by exact ⟨⟨y0, y1, y2⟩, z0, z1, z2, z3⟩) (fun hHeld5 => ?_)
    clear hK hHeld4 K
    try simp only [Act.put, sA, sB, sC]
    refine wpAnyH_ready (rs := [50]) (by kernel_rfl) (by simp) (AllReadyH.cons (o := ⟨some 86, _, _, _, _, _⟩) rfl (fun K hK => ?_) AllReadyH.nil)
    go_simp
    (refine (rcmp_any _ _ _ _ bs bt bu bv _).mono ?_; rw [HK.out]; rintro e w10 ⟨rfl, hb⟩; replace X := X.belowH hb; replace Y := Y.belowH hb; replace RW := RW.belowH hb; replace b := b.trans (hb.mono b.size); clear hb y0 y1 y2 z0 z1 z2 z3; have y0 := X.at 0 rfl; have y1 := X.at 1 rfl; have y2 := X.at 2 rfl; have z0 := Y.at 0 rfl; have z1 := Y.at 1 rfl; have z2 := Y.at 2 rfl; have z3 := Y.at 3 rfl)
    go_simp
    refine hK.out _ _ (by exact ⟨⟨y0, y1, y2⟩, z0, z1, z2, z3⟩) (fun hHeld6 => ?_)
    clear hK hHeld5 K
    try simp only [Act.put, sA, sB, sC]
    refine tk 51 87 rfl hHeld6 ?_
    refine tk 52 88 rfl hHeld6 ?_
    refine tk 53 6 rfl hHeld6 ?_
    refine wpAnyH_done (by kernel_rfl) ?_ _
    go_wp2
    go_ret
    exact ⟨by simp, b⟩
end Go.Proofs.Ytmnoppeidileoaa
