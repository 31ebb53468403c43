/- OLaw5 (merged). -/
import Derived.Deep.QuietTactic
import Derived.Deep.RegionHeld3
import Derived.Deep.DeepCutAuto
import Derived.Test.YtmbfldcmiabccaaDoorJF21
import Derived.Test.YtmbfldcmiabccaaDoorJORows
namespace Go.Proofs.YtmbfldcmiabccaaDoor
set_option linter.unusedVariables false
set_option linter.unusedSimpArgs false
open Go.RowKit
set_option maxHeartbeats 16000000 in
set_option maxRecDepth 40000 in
theorem law_ZoneApex (s : Sn) (a1 : Int) (W : World) (w0 : SnIn W s) (w1 : (Lit.int .u8 a1).wf = true) :
    Calls Tryd.prog 6 #[snval s, .int .u8 a1] W fun e w' => e = .returned (.bool true) ∧ Below W.heap.size W w' := by
  have SR : SnRd W s := ⟨w0.view.1, w0.al⟩
  have LK : Hid (s.v.n * 48 ≤ 140737488351232 ∧ (∀ x ∈ s.v.l, x.v.n * 32 ≤ 140737488351232 ∧ ∀ y ∈ x.v.s.apps, y.val.length ≤ 140737488351232)) := Lib.hid ⟨w0.view.2.2.1, fun x hx => (w0.view.2.2.2 x hx).1⟩
  have HC := Lib.hid (And.intro w0.cap1 w0.cap2)
  have X := Box.new W (sncs s) 25
  have b := (Below.refl W.heap.size W).alloc (Nat.le_refl _) (.cells (sncs s) 25)
  replace SR := SR.alloc (.cells (sncs s) 25)
  clear w0
  simp only [snval, sncs] at X SR b ⊢
  have x0 := X.at 0 rfl
  have x1 := X.at 1 rfl
  have x2 := X.at 2 rfl
  go_enter Tryd.func6, Tryd.ntmps6
  go_wp2_with fail
  generalize W.alloc (.cells #[.slice s.v.A s.v.n s.v.c, .slice s.B s.m s.d, .string (strB s.dom)] 25) = wa at *
  refine (oalive_any wa).mono ?_
  rintro e v1 ⟨rfl, hb⟩
  replace X := X.belowH hb
  replace SR := SR.belowH hb
  replace b := b.trans (hb.mono b.size)
  clear hb
  clear x0 x1 x2
  have x0 := X.at 0 rfl
  have x1 := X.at 1 rfl
  have x2 := X.at 2 rfl
  go_wp2_with fail
  refine (rogreat_any s v1 ⟨SR, LK.out.1, LK.out.2⟩).mono ?_
  rintro e v2 ⟨rfl, hb⟩
  replace X := X.belowH hb
  replace SR := SR.belowH hb
  replace b := b.trans (hb.mono b.size)
  clear hb
  clear x0 x1 x2
  have x0 := X.at 0 rfl
  have x1 := X.at 1 rfl
  have x2 := X.at 2 rfl
  rcases hg : SnGreat s
  rotate_left
  · skip
    go_wp2
    go_ret
    exact ⟨rfl, b⟩
  obtain ⟨g1, g2, g3, g4⟩ := ogreat_small SR hg
  clear hg
  go_wp2_with fail
  refine (rvright_any s.v v2 SR.1 (by omega) g2).mono ?_
  rintro e v3 ⟨rfl, hb⟩
  replace X := X.belowH hb
  replace SR := SR.belowH hb
  replace b := b.trans (hb.mono b.size)
  clear hb
  clear x0 x1 x2
  have x0 := X.at 0 rfl
  have x1 := X.at 1 rfl
  have x2 := X.at 2 rfl
  rcases hr : vrightB s.v.view
  · skip
    go_wp2
    go_ret
    exact ⟨rfl, b⟩
  have HA : Hid (SnArg s) := Lib.hid ⟨⟨⟨by omega, g2, by omega⟩, fun x hx y hy => by
    obtain ⟨z, hz, rfl⟩ := List.mem_map.1 hx
    exact (LK.out.2 z hz).2 y hy, by omega⟩, vrightB_out hr, HC.out.1, HC.out.2⟩
  have HD := Lib.hid g4
  have HN1 := Lib.hid g1
  obtain ⟨P, Z, hP⟩ : ∃ P, ZCon s P ∧ P v3 := ⟨_, zcon_of HA.out, SR⟩
  clear hr g1 g2 g3 g4 SR LK HC
  have hu := wf_bounds_u8 w1
  have cv : IntKind.i64.wrap a1 = a1 := IntWalk.i64_in _ (by omega)
  clear w1
  obtain ⟨tl, etl⟩ : ∃ z, Zo.tell s.sc s.dom a1 = z := ⟨_, rfl⟩
  obtain ⟨⟨rs, os⟩, ers⟩ : ∃ z, Zo.startOf s.dom = z := ⟨_, rfl⟩
  obtain ⟨rz, erz⟩ : ∃ z, Lab.right s.dom = z := ⟨_, rfl⟩
  obtain ⟨iz, eiz⟩ : ∃ z, Zo.is s.sc s.dom = z := ⟨_, rfl⟩
  have HD2 : Hid (s.dom.length ≤ 1000) := Lib.hid (by have := HD.out; omega)
  have C1 := fun W (h : P W) => Z.tell a1 h HD2.out
  have C2 := fun W (h : P W) => Z.start h
  have C3 := fun W (h : P W) => Z.is h HD2.out
  simp only [etl] at C1
  simp only [ers] at C2
  simp only [eiz] at C3
  have HC1 := Lib.hid C1
  have HC2 := Lib.hid C2
  have HC3 := Lib.hid C3
  have HC4 := Lib.hid (fun W => rlright_at erz (by have := HD.out; omega) W)
  have NO : Hid (rz = false → os = false ∧ tl = [] ∧ iz = false) := Lib.hid (by
    intro h
    obtain ⟨h1, h2, h3⟩ := Zo.apex_no (s := s.sc) (erz.trans h) a1
    rw [start_of, show s.sc.dom = s.dom from rfl, ers] at h1
    refine ⟨congrArg Prod.snd h1, ?_, ?_⟩
    · rw [← etl]; exact h2
    · rw [← eiz]; exact h3)
  have YES : Hid (rz = true → iz = true ∧ tl.length ≤ 1 ∧ (tl.length = 1 → a1 = 2 ∨ a1 = 6) ∧ (a1 = 6 → (os = true → tl = [rs]) ∧ (os = false → tl.length ≠ 1))) := Lib.hid (by
    intro h
    have h0 := Zo.apex_len s.sc a1
    rw [show s.sc.dom = s.dom from rfl, etl] at h0
    refine ⟨?_, h0.1, h0.2, fun h6 => ?_⟩
    · rw [← eiz]; exact Zo.apex_yes (s := s.sc) (erz.trans h)
    · have h1 := Zo.apex_soa (s := s.sc) (erz.trans h)
      rw [start_of, show s.sc.dom = s.dom from rfl, ers, ← h6, etl] at h1
      exact ⟨h1.2, fun ho hl => by have := h1.1.2 hl; rw [ho] at this; cases this⟩)
  clear C1 C2 C3 etl ers erz eiz
  go_wp2_with fail
  refine (HC1.out v3 hP).mono ?_
  rintro e w4 ⟨A1, n1, c1, rfl, hl1, R1, _, hb⟩
  replace X := X.belowH hb
  replace hP := Z.sb hP hb
  replace b := b.trans (hb.mono b.size)
  clear hb
  clear x0 x1 x2
  have x0 := X.at 0 rfl
  have x1 := X.at 1 rfl
  have x2 := X.at 2 rfl
  have HL1 := Lib.hid hl1
  clear hl1
  go_wp2_with fail
  refine (HC2.out w4 hP).mono ?_
  rintro e w5 ⟨rfl, hb⟩
  replace X := X.belowH hb
  replace hP := Z.sb hP hb
  replace R1 := R1.belowH hb
  replace b := b.trans (hb.mono b.size)
  clear hb
  clear x0 x1 x2
  have x0 := X.at 0 rfl
  have x1 := X.at 1 rfl
  have x2 := X.at 2 rfl
  simp only [rrv]
  go_upto_region 7 with fail
  have Y := Box.new w5 #[.string (strB rs.name), .int .i64 rs.typ, .int .i64 rs.cls, .int .i64 rs.ttl, .string (strB rs.data)] 46
  replace X := X.alloc (.cells #[.string (strB rs.name), .int .i64 rs.typ, .int .i64 rs.cls, .int .i64 rs.ttl, .string (strB rs.data)] 46)
  replace hP := Z.sb hP ((Below.refl _ _).alloc (Nat.le_refl _) (.cells #[.string (strB rs.name), .int .i64 rs.typ, .int .i64 rs.cls, .int .i64 rs.ttl, .string (strB rs.data)] 46))
  replace R1 := R1.belowH ((Below.refl _ _).alloc (Nat.le_refl _) (.cells #[.string (strB rs.name), .int .i64 rs.typ, .int .i64 rs.cls, .int .i64 rs.ttl, .string (strB rs.data)] 46))
  replace b := b.alloc b.size (.cells #[.string (strB rs.name), .int .i64 rs.typ, .int .i64 rs.cls, .int .i64 rs.ttl, .string (strB rs.data)] 46)
  generalize w5.alloc (.cells #[.string (strB rs.name), .int .i64 rs.typ, .int .i64 rs.cls, .int .i64 rs.ttl, .string (strB rs.data)] 46) = w6 at *
  generalize w5.heap.size = yb at *
  clear x0 x1 x2
  have x0 := X.at 0 rfl
  have x1 := X.at 1 rfl
  have x2 := X.at 2 rfl
  have y0 := Y.at 0 rfl
  have y1 := Y.at 1 rfl
  have y2 := Y.at 2 rfl
  have y3 := Y.at 3 rfl
  have y4 := Y.at 4 rfl
  go_wp2_with fail
  refine (HC4.out w6).mono ?_
  rintro e w7 ⟨rfl, hb⟩
  replace X := X.belowH hb
  replace Y := Y.belowH hb
  replace hP := Z.sb hP hb
  replace R1 := R1.belowH hb
  replace b := b.trans (hb.mono b.size)
  clear hb
  clear x0 x1 x2
  clear y0 y1 y2 y3 y4
  have x0 := X.at 0 rfl
  have x1 := X.at 1 rfl
  have x2 := X.at 2 rfl
  have y0 := Y.at 0 rfl
  have y1 := Y.at 1 rfl
  have y2 := Y.at 2 rfl
  have y3 := Y.at 3 rfl
  have y4 := Y.at 4 rfl
  cases rz
  · skip
    obtain ⟨rfl, rfl, rfl⟩ := NO.out rfl
    obtain rfl : n1 = 0 := HL1.out.symm
    go_wp2_with fail
    refine (HC3.out w7 hP).mono ?_
    rintro e w8 ⟨rfl, hb⟩
    replace X := X.belowH hb
    replace Y := Y.belowH hb
    replace hP := Z.sb hP hb
    replace R1 := R1.belowH hb
    replace b := b.trans (hb.mono b.size)
    clear hb
    clear x0 x1 x2
    clear y0 y1 y2 y3 y4
    have x0 := X.at 0 rfl
    have x1 := X.at 1 rfl
    have x2 := X.at 2 rfl
    have y0 := Y.at 0 rfl
    have y1 := Y.at 1 rfl
    have y2 := Y.at 2 rfl
    have y3 := Y.at 3 rfl
    have y4 := Y.at 4 rfl
    go_wp2
    go_ret
    exact ⟨rfl, b⟩
  · skip
    obtain ⟨rfl, k1, k2, k3⟩ := YES.out rfl
    have K1 : Hid (n1 ≤ 1 ∧ (n1 = 1 → a1 = 2 ∨ a1 = 6)) := Lib.hid ⟨by have := HL1.out; omega, fun h => k2 (by rw [HL1.out]; exact h)⟩
    have K3 := Lib.hid k3
    clear k1 k2 k3
    go_wp2_with fail
    refine (HC3.out w7 hP).mono ?_
    rintro e w8 ⟨rfl, hb⟩
    replace X := X.belowH hb
    replace Y := Y.belowH hb
    replace hP := Z.sb hP hb
    replace R1 := R1.belowH hb
    replace b := b.trans (hb.mono b.size)
    clear hb
    clear x0 x1 x2
    clear y0 y1 y2 y3 y4
    have x0 := X.at 0 rfl
    have x1 := X.at 1 rfl
    have x2 := X.at 2 rfl
    have y0 := Y.at 0 rfl
    have y1 := Y.at 1 rfl
    have y2 := Y.at 2 rfl
    have y3 := Y.at 3 rfl
    have y4 := Y.at 4 rfl
    have nn : n1 = 0 ∨ n1 = 1 := by have := K1.out.1; omega
    by_cases h6 : a1 = 6
    · have t6 : (a1 == 6) = true := beq_iff_eq.2 h6
      have t6' : (a1 != 6) = false := by rw [h6]; rfl
      have t2 : (a1 != 2) = true := by rw [h6]; rfl
      have t2' : (a1 == 2) = false := by rw [h6]; rfl
      cases os
      · have hn0 : n1 = 0 := by
          have h1 := (K3.out h6).2 rfl
          have h2 := HL1.out
          rcases nn with h | h
          · exact h
          · exact absurd (h2.trans h) h1
        clear nn h6
        obtain rfl := hn0
        go_upto_region 11 with fail
        go_quiet (fail)
        go_wp2
        go_ret
        exact ⟨rfl, kdrewY b _⟩
      · have hl := (K3.out h6).1 rfl
        have hn1 : n1 = 1 := by rw [← HL1.out, hl]; rfl
        clear nn h6
        obtain rfl := hn1
        obtain ⟨br, or, r, rfl, hbr, hr, r0, r1, r2, r3, r4⟩ := R1.atR (k := 0) (by omega)
        obtain rfl : rs = r := by rw [hl] at hr; simpa using hr
        simp only [Nat.zero_mul, Nat.add_zero] at r0 r1 r2 r3 r4
        have heq : ∀ w, (Op.equalIn 10000 46 (.agg #[.string (strB rs.name), .int .i64 rs.typ, .int .i64 rs.cls, .int .i64 rs.ttl, .string (strB rs.data)]) (.agg #[.string (strB rs.name), .int .i64 rs.typ, .int .i64 rs.cls, .int .i64 rs.ttl, .string (strB rs.data)])).run Tryd.prog w = .ok true w := fun w => by rw [eq_rrcO rs rs w, rcBO_self]
        have hgd := guard_rrcO
        clear hl hr R1
        go_upto_region 11 with fail
        go_quiet (fail)
        go_wp2
        go_ret
        exact ⟨rfl, kdrewY b _⟩
    · have t6 : (a1 == 6) = false := beq_eq_false_iff_ne.2 h6
      have t6' : (a1 != 6) = true := bne_iff_ne.2 h6
      rcases nn with rfl | rfl
      · clear h6
        go_upto_region 11 with fail
        go_quiet (fail)
        go_wp2
        go_ret
        exact ⟨rfl, kdrewY b _⟩
      · have h2 : a1 = 2 := by rcases K1.out.2 rfl with h | h; exact h; exact absurd h h6
        have t2 : (a1 != 2) = false := by rw [h2]; rfl
        have t2' : (a1 == 2) = true := beq_iff_eq.2 h2
        clear h6 h2
        go_upto_region 11 with fail
        go_quiet (fail)
        go_wp2
        go_ret
        exact ⟨rfl, kdrewY b _⟩
end Go.Proofs.YtmbfldcmiabccaaDoor

