/- ZLaw1 (merged). -/
import Derived.Deep.QuietTactic
import Derived.Deep.RegionHeld3
import Derived.Test.YtbioblknhfmelaaJZAlive
namespace Go.Proofs.Ytbioblknhfmelaa
set_option linter.unusedVariables false
set_option linter.unusedSimpArgs false
open Go.RowKit
set_option maxHeartbeats 8000000 in
set_option maxRecDepth 20000 in
theorem law_PacketBuilds (u0 u1 : Pv) (a2 : Int) (W : World) (w0 : PkIn W u0) (w1 : PkIn W u1) (w2 : (Lit.int .i64 a2).wf = true) :
    Calls Try.prog 3 #[pval u0, pval u1, .int .i64 a2] W fun e w' => e = .returned (.bool true) ∧ Below W.heap.size W w' := by
  obtain ⟨UR, US, _⟩ := w0
  obtain ⟨VR, VS, _⟩ := w1
  have b := ((Below.refl W.heap.size W).alloc (Nat.le_refl _) (.cells #[.int .i64 u0.x.id, .int .i64 u0.x.flags, .slice u0.A1 u0.n1 u0.c1, .slice u0.A2 u0.n2 u0.c2, .slice u0.A3 u0.n3 u0.c3, .slice u0.A4 u0.n4 u0.c4] 25)).alloc (by simp) (.cells #[.int .i64 u1.x.id, .int .i64 u1.x.flags, .slice u1.A1 u1.n1 u1.c1, .slice u1.A2 u1.n2 u1.c2, .slice u1.A3 u1.n3 u1.c3, .slice u1.A4 u1.n4 u1.c4] 25)
  have X := (Box.new W #[.int .i64 u0.x.id, .int .i64 u0.x.flags, .slice u0.A1 u0.n1 u0.c1, .slice u0.A2 u0.n2 u0.c2, .slice u0.A3 u0.n3 u0.c3, .slice u0.A4 u0.n4 u0.c4] 25).alloc (.cells #[.int .i64 u1.x.id, .int .i64 u1.x.flags, .slice u1.A1 u1.n1 u1.c1, .slice u1.A2 u1.n2 u1.c2, .slice u1.A3 u1.n3 u1.c3, .slice u1.A4 u1.n4 u1.c4] 25)
  have Y := Box.new (W.alloc (.cells #[.int .i64 u0.x.id, .int .i64 u0.x.flags, .slice u0.A1 u0.n1 u0.c1, .slice u0.A2 u0.n2 u0.c2, .slice u0.A3 u0.n3 u0.c3, .slice u0.A4 u0.n4 u0.c4] 25)) #[.int .i64 u1.x.id, .int .i64 u1.x.flags, .slice u1.A1 u1.n1 u1.c1, .slice u1.A2 u1.n2 u1.c2, .slice u1.A3 u1.n3 u1.c3, .slice u1.A4 u1.n4 u1.c4] 25
  rw [show (W.alloc (.cells #[.int .i64 u0.x.id, .int .i64 u0.x.flags, .slice u0.A1 u0.n1 u0.c1, .slice u0.A2 u0.n2 u0.c2, .slice u0.A3 u0.n3 u0.c3, .slice u0.A4 u0.n4 u0.c4] 25)).heap.size = W.heap.size + 1 by simp] at Y
  replace UR := UR.belowH b
  replace VR := VR.belowH b
  simp only [pval]
  go_enter Try.func3, Try.ntmps3
  go_wp2_with fail
  generalize (W.alloc (.cells #[.int .i64 u0.x.id, .int .i64 u0.x.flags, .slice u0.A1 u0.n1 u0.c1, .slice u0.A2 u0.n2 u0.c2, .slice u0.A3 u0.n3 u0.c3, .slice u0.A4 u0.n4 u0.c4] 25)).alloc (.cells #[.int .i64 u1.x.id, .int .i64 u1.x.flags, .slice u1.A1 u1.n1 u1.c1, .slice u1.A2 u1.n2 u1.c2, .slice u1.A3 u1.n3 u1.c3, .slice u1.A4 u1.n4 u1.c4] 25) = w0 at *
  refine (palive_any w0).mono ?_
  rintro e v1 ⟨rfl, hb⟩
  replace X := X.belowH hb
  replace Y := Y.belowH hb
  replace UR := UR.belowH hb
  replace VR := VR.belowH hb
  replace b := b.trans (hb.mono b.size)
  clear hb
  have x0 := X.at 0 rfl
  have x1 := X.at 1 rfl
  have x2 := X.at 2 rfl
  have x3 := X.at 3 rfl
  have x4 := X.at 4 rfl
  have x5 := X.at 5 rfl
  have y0 := Y.at 0 rfl
  have y1 := Y.at 1 rfl
  have y2 := Y.at 2 rfl
  have y3 := Y.at 3 rfl
  have y4 := Y.at 4 rfl
  have y5 := Y.at 5 rfl
  go_wp2_with fail
  refine (rpgreat_any u0 v1 UR US).mono ?_
  rintro e v2 ⟨g1, rfl, hg1, hb⟩
  clear x0 x1 x2 x3 x4 x5 y0 y1 y2 y3 y4 y5
  replace X := X.belowH hb
  replace Y := Y.belowH hb
  replace UR := UR.belowH hb
  replace VR := VR.belowH hb
  replace b := b.trans (hb.mono b.size)
  clear hb
  have x0 := X.at 0 rfl
  have x1 := X.at 1 rfl
  have x2 := X.at 2 rfl
  have x3 := X.at 3 rfl
  have x4 := X.at 4 rfl
  have x5 := X.at 5 rfl
  have y0 := Y.at 0 rfl
  have y1 := Y.at 1 rfl
  have y2 := Y.at 2 rfl
  have y3 := Y.at 3 rfl
  have y4 := Y.at 4 rfl
  have y5 := Y.at 5 rfl
  cases g1 with
  | true =>
    go_wp2
    go_ret
    exact ⟨rfl, b⟩
  | false =>
    have UM := (hg1 rfl).mod
    clear hg1
    go_wp2_with fail
    refine (rpgreat_any u1 v2 VR VS).mono ?_
    rintro e v3 ⟨g2, rfl, hg2, hb⟩
    clear x0 x1 x2 x3 x4 x5 y0 y1 y2 y3 y4 y5
    replace X := X.belowH hb
    replace Y := Y.belowH hb
    replace UR := UR.belowH hb
    replace VR := VR.belowH hb
    replace b := b.trans (hb.mono b.size)
    clear hb
    have x0 := X.at 0 rfl
    have x1 := X.at 1 rfl
    have x2 := X.at 2 rfl
    have x3 := X.at 3 rfl
    have x4 := X.at 4 rfl
    have x5 := X.at 5 rfl
    have y0 := Y.at 0 rfl
    have y1 := Y.at 1 rfl
    have y2 := Y.at 2 rfl
    have y3 := Y.at 3 rfl
    have y4 := Y.at 4 rfl
    have y5 := Y.at 5 rfl
    cases g2 with
    | true =>
      go_wp2
      go_ret
      exact ⟨rfl, b⟩
    | false =>
      have VM := (hg2 rfl).mod
      clear hg2
      obtain ⟨⟨l, z⟩, hlz⟩ : ∃ x, Pk.build u0.x a2 = x := ⟨_, rfl⟩
      obtain ⟨n, hn⟩ : ∃ n, l.length = n := ⟨_, rfl⟩
      obtain ⟨zr, hzr⟩ : ∃ z, decide (Pk.right u0.x) = z := ⟨_, rfl⟩
      obtain ⟨zs, hzs⟩ : ∃ z, decide (u0.x = u1.x) = z := ⟨_, rfl⟩
      have HLZ := Lib.hid hlz
      have HN := Lib.hid hn
      have HZR := Lib.hid hzr
      have HZS := Lib.hid hzs
      have q1 : (z == z) = true := by simp
      have q2 : (zr == zr) = true := by simp
      have q3 : (zs == zs) = true := by simp
      clear hlz hn hzr hzs
      go_wp2_with fail
      refine (pbuild_at HLZ.out HN.out v3 UR UM).mono ?_
      rintro e v4 ⟨⟨B1, k1, rfl, R1, _⟩, hb⟩
      clear x0 x1 x2 x3 x4 x5 y0 y1 y2 y3 y4 y5
      replace X := X.belowH hb
      replace Y := Y.belowH hb
      replace UR := UR.belowH hb
      replace VR := VR.belowH hb
      replace b := b.trans (hb.mono b.size)
      clear hb
      have x0 := X.at 0 rfl
      have x1 := X.at 1 rfl
      have x2 := X.at 2 rfl
      have x3 := X.at 3 rfl
      have x4 := X.at 4 rfl
      have x5 := X.at 5 rfl
      have y0 := Y.at 0 rfl
      have y1 := Y.at 1 rfl
      have y2 := Y.at 2 rfl
      have y3 := Y.at 3 rfl
      have y4 := Y.at 4 rfl
      have y5 := Y.at 5 rfl
      go_wp2_with fail
      refine (rpbuild_at HLZ.out HN.out v4 UR UM).mono ?_
      rintro e v5 ⟨⟨B2, k2, rfl, R2, _⟩, hb⟩
      replace R1 := R1.belowH hb
      clear x0 x1 x2 x3 x4 x5 y0 y1 y2 y3 y4 y5
      replace X := X.belowH hb
      replace Y := Y.belowH hb
      replace UR := UR.belowH hb
      replace VR := VR.belowH hb
      replace b := b.trans (hb.mono b.size)
      clear hb
      have x0 := X.at 0 rfl
      have x1 := X.at 1 rfl
      have x2 := X.at 2 rfl
      have x3 := X.at 3 rfl
      have x4 := X.at 4 rfl
      have x5 := X.at 5 rfl
      have y0 := Y.at 0 rfl
      have y1 := Y.at 1 rfl
      have y2 := Y.at 2 rfl
      have y3 := Y.at 3 rfl
      have y4 := Y.at 4 rfl
      have y5 := Y.at 5 rfl
      go_wp2_with fail
      replace X : Box v5.drew W.heap.size _ _ := X
      replace Y : Box v5.drew (W.heap.size + 1) _ _ := Y
      replace UR : PRd v5.drew u0 := UR
      replace VR : PRd v5.drew u1 := VR
      replace b : Below W.heap.size W v5.drew := b.drew
      replace R1 : Rd v5.drew v5.drew.heap.size 1 B1 n (U l) := R1
      replace R2 : Rd v5.drew v5.drew.heap.size 1 B2 n (U l) := R2
      clear x0 x1 x2 x3 x4 x5 y0 y1 y2 y3 y4 y5
      have x0 := X.at 0 rfl
      have x1 := X.at 1 rfl
      have x2 := X.at 2 rfl
      have x3 := X.at 3 rfl
      have x4 := X.at 4 rfl
      have x5 := X.at 5 rfl
      have y0 := Y.at 0 rfl
      have y1 := Y.at 1 rfl
      have y2 := Y.at 2 rfl
      have y3 := Y.at 3 rfl
      have y4 := Y.at 4 rfl
      have y5 := Y.at 5 rfl
      go_region_held3 (fun w' => w'.cell? ⟨W.heap.size, 0, none⟩ = some (.int .i64 u0.x.id) ∧ w'.cell? ⟨W.heap.size, 1, none⟩ = some (.int .i64 u0.x.flags) ∧ w'.cell? ⟨W.heap.size, 2, none⟩ = some (.slice u0.A1 u0.n1 u0.c1) ∧ w'.cell? ⟨W.heap.size, 3, none⟩ = some (.slice u0.A2 u0.n2 u0.c2) ∧ w'.cell? ⟨W.heap.size, 4, none⟩ = some (.slice u0.A3 u0.n3 u0.c3) ∧ w'.cell? ⟨W.heap.size, 5, none⟩ = some (.slice u0.A4 u0.n4 u0.c4) ∧ w'.cell? ⟨W.heap.size + 1, 0, none⟩ = some (.int .i64 u1.x.id) ∧ w'.cell? ⟨W.heap.size + 1, 1, none⟩ = some (.int .i64 u1.x.flags) ∧ w'.cell? ⟨W.heap.size + 1, 2, none⟩ = some (.slice u1.A1 u1.n1 u1.c1) ∧ w'.cell? ⟨W.heap.size + 1, 3, none⟩ = some (.slice u1.A2 u1.n2 u1.c2) ∧ w'.cell? ⟨W.heap.size + 1, 4, none⟩ = some (.slice u1.A3 u1.n3 u1.c3) ∧ w'.cell? ⟨W.heap.size + 1, 5, none⟩ = some (.slice u1.A4 u1.n4 u1.c4)) (go_keep)
        (first
        | (go_at_call 14; have q6 := hc4; refine (psame_at (u := u0) (v := u0) (by rw [decide_eq_true rfl]) _ UR UR UM UM).mono ?_; rintro e w6 ⟨rfl, hb⟩; clear x0 x1 x2 x3 x4 x5 y0 y1 y2 y3 y4 y5; replace X := X.belowH hb; replace Y := Y.belowH hb; replace UR := UR.belowH hb; replace VR := VR.belowH hb; replace b := b.trans (hb.mono b.size); clear hb; have x0 := X.at 0 rfl; have x1 := X.at 1 rfl; have x2 := X.at 2 rfl; have x3 := X.at 3 rfl; have x4 := X.at 4 rfl; have x5 := X.at 5 rfl; have y0 := Y.at 0 rfl; have y1 := Y.at 1 rfl; have y2 := Y.at 2 rfl; have y3 := Y.at 3 rfl; have y4 := Y.at 4 rfl; have y5 := Y.at 5 rfl)
        | (go_at_call 15; refine (rpsame_at HZS.out _ UR VR UM VM).mono ?_; rintro e w5 ⟨rfl, hb⟩; clear x0 x1 x2 x3 x4 x5 y0 y1 y2 y3 y4 y5; replace X := X.belowH hb; replace Y := Y.belowH hb; replace UR := UR.belowH hb; replace VR := VR.belowH hb; replace b := b.trans (hb.mono b.size); clear hb; have x0 := X.at 0 rfl; have x1 := X.at 1 rfl; have x2 := X.at 2 rfl; have x3 := X.at 3 rfl; have x4 := X.at 4 rfl; have x5 := X.at 5 rfl; have y0 := Y.at 0 rfl; have y1 := Y.at 1 rfl; have y2 := Y.at 2 rfl; have y3 := Y.at 3 rfl; have y4 := Y.at 4 rfl; have y5 := Y.at 5 rfl)
        | (go_at_call 14; refine (psame_at HZS.out _ UR VR UM VM).mono ?_; rintro e w4 ⟨rfl, hb⟩; clear x0 x1 x2 x3 x4 x5 y0 y1 y2 y3 y4 y5; replace X := X.belowH hb; replace Y := Y.belowH hb; replace UR := UR.belowH hb; replace VR := VR.belowH hb; replace b := b.trans (hb.mono b.size); clear hb; have x0 := X.at 0 rfl; have x1 := X.at 1 rfl; have x2 := X.at 2 rfl; have x3 := X.at 3 rfl; have x4 := X.at 4 rfl; have x5 := X.at 5 rfl; have y0 := Y.at 0 rfl; have y1 := Y.at 1 rfl; have y2 := Y.at 2 rfl; have y3 := Y.at 3 rfl; have y4 := Y.at 4 rfl; have y5 := Y.at 5 rfl; have hc4 : True := trivial)
        | (go_at_call 13; refine (rpright_at HZR.out _ UR UM).mono ?_; rintro e w3 ⟨rfl, hb⟩; clear x0 x1 x2 x3 x4 x5 y0 y1 y2 y3 y4 y5; replace X := X.belowH hb; replace Y := Y.belowH hb; replace UR := UR.belowH hb; replace VR := VR.belowH hb; replace b := b.trans (hb.mono b.size); clear hb; have x0 := X.at 0 rfl; have x1 := X.at 1 rfl; have x2 := X.at 2 rfl; have x3 := X.at 3 rfl; have x4 := X.at 4 rfl; have x5 := X.at 5 rfl; have y0 := Y.at 0 rfl; have y1 := Y.at 1 rfl; have y2 := Y.at 2 rfl; have y3 := Y.at 3 rfl; have y4 := Y.at 4 rfl; have y5 := Y.at 5 rfl)
        | (go_at_call 12; refine (pright_at HZR.out _ UR UM).mono ?_; rintro e w2 ⟨rfl, hb⟩; clear x0 x1 x2 x3 x4 x5 y0 y1 y2 y3 y4 y5; replace X := X.belowH hb; replace Y := Y.belowH hb; replace UR := UR.belowH hb; replace VR := VR.belowH hb; replace b := b.trans (hb.mono b.size); clear hb; have x0 := X.at 0 rfl; have x1 := X.at 1 rfl; have x2 := X.at 2 rfl; have x3 := X.at 3 rfl; have x4 := X.at 4 rfl; have x5 := X.at 5 rfl; have y0 := Y.at 0 rfl; have y1 := Y.at 1 rfl; have y2 := Y.at 2 rfl; have y3 := Y.at 3 rfl; have y4 := Y.at 4 rfl; have y5 := Y.at 5 rfl)
        | (go_at_call 11; refine (same_any B1 B2 n n k1 k2 _ _ l l _ R1 R2).mono ?_; rintro e w1 ⟨rfl, rfl⟩))
      all_goals go_wp2
      all_goals go_ret
      all_goals exact ⟨rfl, b⟩
end Go.Proofs.Ytbioblknhfmelaa

