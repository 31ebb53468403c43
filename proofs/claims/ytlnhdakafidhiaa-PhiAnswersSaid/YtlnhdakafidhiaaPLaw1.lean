/- The walk of phi's law on answers. -/
import Derived.Test.YtlnhdakafidhiaaPAlive
import Derived.Test.YtlnhdakafidhiaaNRows
import Derived.Test.YtlnhdakafidhiaaRRows
namespace Go.Proofs.Ytlnhdakafidhiaa
set_option linter.unusedVariables false
set_option linter.unusedSimpArgs false
open Go.RowKit
set_option maxHeartbeats 8000000 in
set_option maxRecDepth 100000 in
theorem law_PhiAnswers (u : Wv) (p q r : Int) (W : World) (w0 : WIn W u) (w1 : Three p q r) :
    Calls Try.prog 3 #[wval u, .agg #[.int .i64 p, .int .i64 q, .int .i64 r]] W fun e w' => e = .returned (.bool true) ∧ Below W.heap.size W w' := by
  obtain ⟨⟨last, l⟩, A, n, c⟩ := u
  obtain ⟨R0, hlb⟩ := w0
  simp only at hlb
  obtain ⟨bp, bq, br⟩ := w1
  simp only [wval]
  have P := Box.new (W) #[.int .i64 last, .slice A n c] 24
  have b := (Below.refl W.heap.size W).alloc (Nat.le_refl _) (.cells #[.int .i64 last, .slice A n c] 24)
  have H := Box.new ((W).alloc (.cells #[.int .i64 last, .slice A n c] 24)) #[.int .i64 p, .int .i64 q, .int .i64 r] 25
  rw [show ((W).alloc (.cells #[.int .i64 last, .slice A n c] 24)).heap.size = W.heap.size + 1 by simp] at H
  replace P := P.alloc (.cells #[.int .i64 p, .int .i64 q, .int .i64 r] 25)
  replace b := b.alloc b.size (.cells #[.int .i64 p, .int .i64 q, .int .i64 r] 25)
  replace R0 := R0.belowH b
  obtain ⟨⟨k1, e1⟩, hk⟩ : ∃ z, Ph.lvl ⟨last, l⟩ p q = z := ⟨_, rfl⟩
  have HL := Lib.hid hk
  clear hk
  obtain ⟨⟨k2, e2⟩, hk⟩ : ∃ z, Ph.first ⟨last, l⟩ q r = z := ⟨_, rfl⟩
  have HF := Lib.hid hk
  clear hk
  obtain ⟨sb, hk⟩ : ∃ z, Ph.susp ⟨last, l⟩ p q r = z := ⟨_, rfl⟩
  have HS := Lib.hid hk
  clear hk
  obtain ⟨k3, hk⟩ : ∃ z, Ph.bound r q = z := ⟨_, rfl⟩
  have HB := Lib.hid hk
  clear hk
  go_enter Try.func3, Try.ntmps3
  go_wp2_with fail
  generalize ((W).alloc (.cells #[.int .i64 last, .slice A n c] 24)).alloc (.cells #[.int .i64 p, .int .i64 q, .int .i64 r] 25) = w1 at *
  refine (palive_any _).mono ?_
  rintro e v2 ⟨rfl, hb⟩
  replace P := P.belowH hb
  replace H := H.belowH hb
  replace R0 := R0.belowH hb
  replace b := b.trans (hb.mono b.size)
  clear hb
  (try dsimp only)
  have p0 := P.at 0 rfl
  have p1 := P.at 1 rfl
  have h0 := H.at 0 rfl
  have h1 := H.at 1 rfl
  have h2 := H.at 2 rfl
  by_cases hn : 200 < n
  · go_wp2
    go_ret
    exact ⟨rfl, b⟩
  go_wp2_with fail
  refine (level_at (x := ⟨last, l⟩) A n c p q bp bq HL.out _ R0 (by omega)).mono ?_
  rintro e v3 ⟨rfl, hb⟩
  clear p0 p1 h0 h1 h2
  replace P := P.belowH hb
  replace H := H.belowH hb
  replace R0 := R0.belowH hb
  replace b := b.trans (hb.mono b.size)
  clear hb
  (try dsimp only)
  have p0 := P.at 0 rfl
  have p1 := P.at 1 rfl
  have h0 := H.at 0 rfl
  have h1 := H.at 1 rfl
  have h2 := H.at 2 rfl
  go_wp2_with fail
  refine (rlevel_at (x := ⟨last, l⟩) A n c p q bp bq HL.out _ R0).mono ?_
  rintro e v4 ⟨rfl, hb⟩
  clear p0 p1 h0 h1 h2
  replace P := P.belowH hb
  replace H := H.belowH hb
  replace R0 := R0.belowH hb
  replace b := b.trans (hb.mono b.size)
  clear hb
  (try dsimp only)
  have p0 := P.at 0 rfl
  have p1 := P.at 1 rfl
  have h0 := H.at 0 rfl
  have h1 := H.at 1 rfl
  have h2 := H.at 2 rfl
  go_wp2_with fail
  refine (first_at (x := ⟨last, l⟩) A n c q r bq br HF.out _ R0 (by omega)).mono ?_
  rintro e v5 ⟨rfl, hb⟩
  clear p0 p1 h0 h1 h2
  replace P := P.belowH hb
  replace H := H.belowH hb
  replace R0 := R0.belowH hb
  replace b := b.trans (hb.mono b.size)
  clear hb
  (try dsimp only)
  have p0 := P.at 0 rfl
  have p1 := P.at 1 rfl
  have h0 := H.at 0 rfl
  have h1 := H.at 1 rfl
  have h2 := H.at 2 rfl
  go_wp2_with fail
  refine (rfirst_at (x := ⟨last, l⟩) A n c q r bq br HF.out _ R0).mono ?_
  rintro e v6 ⟨rfl, hb⟩
  clear p0 p1 h0 h1 h2
  replace P := P.belowH hb
  replace H := H.belowH hb
  replace R0 := R0.belowH hb
  replace b := b.trans (hb.mono b.size)
  clear hb
  (try dsimp only)
  have p0 := P.at 0 rfl
  have p1 := P.at 1 rfl
  have h0 := H.at 0 rfl
  have h1 := H.at 1 rfl
  have h2 := H.at 2 rfl
  go_wp2_with fail
  replace P := P.drew
  replace H := H.drew
  replace R0 := R0.drew
  replace b := b.drew
  refine wp_region_held_drew (S := (fun w' => w'.cell? ⟨W.heap.size, 0, none⟩ = some (.int .i64 last) ∧ w'.cell? ⟨W.heap.size, 1, none⟩ = some (.slice A n c) ∧ w'.cell? ⟨W.heap.size + 1, 0, none⟩ = some (.int .i64 p) ∧ w'.cell? ⟨W.heap.size + 1, 1, none⟩ = some (.int .i64 q) ∧ w'.cell? ⟨W.heap.size + 1, 2, none⟩ = some (.int .i64 r))) (by kernel_rfl) (by exact ⟨p0, p1, h0, h1, h2⟩) (fun hHeld0 => ?_)
  refine tk 0 55 rfl hHeld0 ?_
  refine tk 1 56 rfl hHeld0 ?_
  refine tk 2 57 rfl hHeld0 ?_
  refine tk 3 58 rfl hHeld0 ?_
  refine tk 4 59 rfl hHeld0 ?_
  refine tk 5 60 rfl hHeld0 ?_
  refine tk 6 61 rfl hHeld0 ?_
  refine tk 7 62 rfl hHeld0 ?_
  refine tk 8 63 rfl hHeld0 ?_
  refine tk 9 64 rfl hHeld0 ?_
  refine tk 10 65 rfl hHeld0 ?_
  refine tk 11 66 rfl hHeld0 ?_
  refine tk 12 67 rfl hHeld0 ?_
  refine tk 13 68 rfl hHeld0 ?_
  refine tk 14 69 rfl hHeld0 ?_
  refine tk 15 70 rfl hHeld0 ?_
  refine tk 16 71 rfl hHeld0 ?_
  refine tk 17 72 rfl hHeld0 ?_
  refine tk 18 73 rfl hHeld0 ?_
  refine tk 19 74 rfl hHeld0 ?_
  refine tk 20 75 rfl hHeld0 ?_
  refine tk 21 76 rfl hHeld0 ?_
  refine tk 22 77 rfl hHeld0 ?_
  refine tk 23 78 rfl hHeld0 ?_
  refine tk 24 79 rfl hHeld0 ?_
  refine tk 25 80 rfl hHeld0 ?_
  refine tk 27 82 rfl hHeld0 ?_
  refine tk 28 83 rfl hHeld0 ?_
  refine tk 29 84 rfl hHeld0 ?_
  refine tk 30 85 rfl hHeld0 ?_
  refine tk 31 86 rfl hHeld0 ?_
  refine tk 32 87 rfl hHeld0 ?_
  refine tk 33 88 rfl hHeld0 ?_
  refine wpAnyH_ready (rs := [26]) (by kernel_rfl) (by simp) (AllReadyH.cons (o := ⟨some 81, _, _, _, _, _⟩) rfl (fun K hK => ?_) AllReadyH.nil)
  go_simp
  (refine (suspect_at (x := ⟨last, l⟩) A n c p q r bp bq br HS.out _ R0 (by omega)).mono ?_; rintro e x0 ⟨rfl, hb⟩; replace P := P.belowH hb; replace H := H.belowH hb; replace R0 := R0.belowH hb; replace b := b.trans (hb.mono b.size); clear hb p0 p1 h0 h1 h2; have p0 := P.at 0 rfl; have p1 := P.at 1 rfl; have h0 := H.at 0 rfl; have h1 := H.at 1 rfl; have h2 := H.at 2 rfl)
  go_simp
  refine hK.out _ _ (by exact ⟨p0, p1, h0, h1, h2⟩) (fun hHeld1 => ?_)
  clear hK hHeld0 K
  try simp only [Act.put, sA, sB, sC]
  refine wpAnyH_ready (rs := [34]) (by kernel_rfl) (by simp) (AllReadyH.cons (o := ⟨some 89, _, _, _, _, _⟩) rfl (fun K hK => ?_) AllReadyH.nil)
  go_simp
  (refine (rsuspect_at (x := ⟨last, l⟩) A n c p q r bp bq HS.out _ R0).mono ?_; rintro e x1 ⟨rfl, hb⟩; replace P := P.belowH hb; replace H := H.belowH hb; replace R0 := R0.belowH hb; replace b := b.trans (hb.mono b.size); clear hb p0 p1 h0 h1 h2; have p0 := P.at 0 rfl; have p1 := P.at 1 rfl; have h0 := H.at 0 rfl; have h1 := H.at 1 rfl; have h2 := H.at 2 rfl)
  go_simp
  refine hK.out _ _ (by exact ⟨p0, p1, h0, h1, h2⟩) (fun hHeld2 => ?_)
  clear hK hHeld1 K
  try simp only [Act.put, sA, sB, sC]
  refine tk 35 90 rfl hHeld2 ?_
  refine tk 36 91 rfl hHeld2 ?_
  refine tk 37 92 rfl hHeld2 ?_
  refine tk 38 93 rfl hHeld2 ?_
  refine tk 39 94 rfl hHeld2 ?_
  refine tk 40 95 rfl hHeld2 ?_
  refine tk 41 96 rfl hHeld2 ?_
  refine tk 43 98 rfl hHeld2 ?_
  refine tk 44 99 rfl hHeld2 ?_
  refine tk 45 100 rfl hHeld2 ?_
  refine tk 46 101 rfl hHeld2 ?_
  refine wpAnyH_ready (rs := [42]) (by kernel_rfl) (by simp) (AllReadyH.cons (o := ⟨some 97, _, _, _, _, _⟩) rfl (fun K hK => ?_) AllReadyH.nil)
  go_simp
  (refine (bound_at r q br bq HB.out _).mono ?_; rintro e x2 ⟨rfl, hb⟩; replace P := P.belowH hb; replace H := H.belowH hb; replace R0 := R0.belowH hb; replace b := b.trans (hb.mono b.size); clear hb p0 p1 h0 h1 h2; have p0 := P.at 0 rfl; have p1 := P.at 1 rfl; have h0 := H.at 0 rfl; have h1 := H.at 1 rfl; have h2 := H.at 2 rfl)
  go_simp
  refine hK.out _ _ (by exact ⟨p0, p1, h0, h1, h2⟩) (fun hHeld3 => ?_)
  clear hK hHeld2 K
  try simp only [Act.put, sA, sB, sC]
  refine wpAnyH_ready (rs := [47]) (by kernel_rfl) (by simp) (AllReadyH.cons (o := ⟨some 102, _, _, _, _, _⟩) rfl (fun K hK => ?_) AllReadyH.nil)
  go_simp
  (refine (rbound_at r q HB.out _).mono ?_; rintro e x3 ⟨rfl, hb⟩; replace P := P.belowH hb; replace H := H.belowH hb; replace R0 := R0.belowH hb; replace b := b.trans (hb.mono b.size); clear hb p0 p1 h0 h1 h2; have p0 := P.at 0 rfl; have p1 := P.at 1 rfl; have h0 := H.at 0 rfl; have h1 := H.at 1 rfl; have h2 := H.at 2 rfl)
  go_simp
  refine hK.out _ _ (by exact ⟨p0, p1, h0, h1, h2⟩) (fun hHeld4 => ?_)
  clear hK hHeld3 K
  try simp only [Act.put, sA, sB, sC]
  refine tk 48 103 rfl hHeld4 ?_
  refine tk 49 104 rfl hHeld4 ?_
  refine tk 50 4 rfl hHeld4 ?_
  refine wpAnyH_done (by kernel_rfl) ?_ _
  go_wp2
  go_ret
  exact ⟨by first | rfl | simp, b⟩
end Go.Proofs.Ytlnhdakafidhiaa
