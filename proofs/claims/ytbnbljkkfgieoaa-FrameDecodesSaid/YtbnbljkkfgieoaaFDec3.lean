/- bellwetherref03.Decode. -/
import Derived.Test.YtbnbljkkfgieoaaFDec2
namespace Go.Proofs.Ytbnbljkkfgieoaa
set_option linter.unusedVariables false
set_option linter.unusedSimpArgs false
open Go.RowKit

theorem below_al {a w : World} (h : Below a.heap.size a w) (o : Obj) : Below a.heap.size a (w.alloc o) := h.alloc h.size o

set_option maxHeartbeats 6400000 in
set_option maxRecDepth 20000 in
theorem rdecode_any (l cl : List UInt8) (A : Option Addr) (n c B : Nat) (w : World) (h : Rd w B 1 A n (U l)) (hB : B ≤ w.heap.size) (hc : n ≤ c) (hn : n ≤ 35184372088832) (hm : c ≤ 9223372036854775807) :
    Calls Try.prog 17 #[.slice A n c, .string (strB cl)] w (FrameR (F.dec l cl).1 (F.dec l cl).2 w) := by
  have ep : F.dec l cl = F.dec l cl := rfl
  conv at ep => rhs; unfold F.dec
  have co := ropen_any2 A n c B l
  have hil := inner_le l
  generalize F.dec l cl = X at *
  generalize codeOf l = er at *
  generalize innerOf l = il at *
  have c1 := rtake_r (il.drop 3)
  have c2 := rtext_r (Q.rest (il.drop 3)) 30
  have c3 := rtake_r (Q.taketext (Q.rest (il.drop 3)) 30).2.2
  have c4 := rtext_r (Q.rest (Q.taketext (Q.rest (il.drop 3)) 30).2.2) 30000
  have ey : F.parse (il.drop 3) = F.parse (il.drop 3) := rfl
  conv at ey => rhs; unfold F.parse
  generalize F.parse (il.drop 3) = Y at *
  generalize Q.taketext (Q.rest (Q.taketext (Q.rest (il.drop 3)) 30).2.2) 30000 = T4 at *
  generalize Q.rest (Q.taketext (Q.rest (il.drop 3)) 30).2.2 = r3 at *
  generalize Q.take (Q.taketext (Q.rest (il.drop 3)) 30).2.2 = T3 at *
  generalize Q.taketext (Q.rest (il.drop 3)) 30 = T2 at *
  generalize Q.rest (il.drop 3) = r1 at *
  generalize Q.take (il.drop 3) = T1 at *
  obtain ⟨er1, N1, k1⟩ := T1
  obtain ⟨er2, s2, r2⟩ := T2
  obtain ⟨er3, N3, k3⟩ := T3
  obtain ⟨er4, s4, r4⟩ := T4
  dsimp only at *
  have CO := Lib.hid co
  have C1 := Lib.hid c1
  have C2 := Lib.hid c2
  have C3 := Lib.hid c3
  have C4 := Lib.hid c4
  have EP := Lib.hid ep
  have EY := Lib.hid ey
  clear co c1 c2 c3 c4 ep ey
  have b0 : Below w.heap.size w (w.alloc (.cells #[.int .i64 0, .string ⟨#[]⟩, .int .i64 0, .slice none 0 0] 24)) := (Below.refl _ _).alloc (Nat.le_refl _) _
  have x0 := Box.new w #[.int .i64 0, .string ⟨#[]⟩, .int .i64 0, .slice none 0 0] 24
  go_enter Try.func17, Try.ntmps17
  go_wp2_with fail
  refine (CO.out _ (h.below (b0.mono hB)) (by simp; omega) hc hm hn).mono ?_
  rintro e w1 ⟨⟨A1, c1, rfl, hr1, hc1, hm1⟩, hb1⟩
  have b1 : Below w.heap.size w w1 := b0.trans (hb1.mono b0.size)
  have x1 := x0.belowH hb1
  have z1 := x1.lt
  have y0 := x1.at 0 rfl
  have y1 := x1.at 1 rfl
  have y2 := x1.at 2 rfl
  have y3 := x1.at 3 rfl
  have yf := x1.cold
  by_cases he : er = 0
  · subst he
    by_cases h3 : 3 ≤ il.length
    · by_cases hp : il.take 3 = F.head
      · have HP := Lib.hid hp
        clear hp
        have hz4 : (strB s4).size = s4.length := strB_size s4
        have hcut := run_cut_h u8T w1 A1 il.length c1 3 3 rfl (by omega)
        have hr3 := hr1.take1 (k := 3) h3
        rw [U_take] at hr3
        have hstr := run_str (P := Try.prog) (c := c1) 22 9 5 Try.underlying22 Try.underlying5 Try.underlying9 hr3
        rw [HP.out] at hstr
        have hhd : (F.head == [66, 87, 1]) = true := by decide
        have hl3 : ∀ w, _ := fun w => run_cut_l u8T w A1 il.length c1 3 3 rfl h3
        have hr4 := hr1.cut1 (k := 3) (cap := c1) h3 hc1
        rw [U_drop] at hr4
        have b1' : Below w.heap.size w (w1.alloc (.cells #[.int .i64 0, .string ⟨#[]⟩, .int .i64 0, .slice none 0 0] 24)) := b1.alloc b1.size _
        have f0 := Box.new w1 #[.int .i64 0, .string ⟨#[]⟩, .int .i64 0, .slice none 0 0] 24
        have x1' := x1.alloc (.cells #[.int .i64 0, .string ⟨#[]⟩, .int .i64 0, .slice none 0 0] 24)
        go_wp2_with fail
        refine (C1.out _ _ (c1 - 3) w1.heap.size _ (hr4.alloc (Nat.le_refl _) _) (by omega) (by omega)).mono ?_
        rintro e u1 ⟨⟨A2, c2, rfl, ha1, hc2, hm2⟩, q1, hq1⟩
        have d1 : Below w1.heap.size w1 u1 := by rw [hq1]; exact below_drewN ((Below.refl _ _).alloc (Nat.le_refl _) _) q1
        have g1 : Box u1 w1.heap.size 24 #[.int .i64 0, .string ⟨#[]⟩, .int .i64 0, .slice none 0 0] := by rw [hq1]; exact f0.drewN q1
        have e1 : Box u1 w.heap.size 24 #[.int .i64 0, .string ⟨#[]⟩, .int .i64 0, .slice none 0 0] := x1.below d1 z1
        have hs1 := ha1.back d1 (Nat.le_refl _)
        clear hq1 y0 y1 y2 y3 yf
        have y0 := e1.at 0 rfl
        have y1 := e1.at 1 rfl
        have y2 := e1.at 2 rfl
        have y3 := e1.at 3 rfl
        have yf := e1.cold
        have v0 := g1.at 0 rfl
        have v1 := g1.at 1 rfl
        have v2 := g1.at 2 rfl
        have v3 := g1.at 3 rfl
        have vf := g1.cold
        by_cases he1 : er1 = 0
        · subst he1
          go_wp2_with fail
          refine (C2.out A2 r1.length c2 w1.heap.size _ (hs1.below (below_set d1 (Nat.le_refl _) _)) hc2 hm2).mono ?_
          rintro e u2 ⟨⟨A3, c3, rfl, ha2, hc3, hm3⟩, q2, hq2⟩
          have d2 : Below w1.heap.size w1 u2 := by rw [hq2]; exact below_drewN (below_set d1 (Nat.le_refl _) _) q2
          have g2 : Box u2 w1.heap.size 24 #[.int .i64 N1, .string ⟨#[]⟩, .int .i64 0, .slice none 0 0] := by rw [hq2]; exact (g1.set 0 (.int .i64 N1)).drewN q2
          have e2 : Box u2 w.heap.size 24 #[.int .i64 0, .string ⟨#[]⟩, .int .i64 0, .slice none 0 0] := x1.below d2 z1
          have hs2 := ha2.back d2 (Nat.le_refl _)
          clear hq2 y0 y1 y2 y3 yf v0 v1 v2 v3 vf
          have y0 := e2.at 0 rfl
          have y1 := e2.at 1 rfl
          have y2 := e2.at 2 rfl
          have y3 := e2.at 3 rfl
          have yf := e2.cold
          have v0 := g2.at 0 rfl
          have v1 := g2.at 1 rfl
          have v2 := g2.at 2 rfl
          have v3 := g2.at 3 rfl
          have vf := g2.cold
          by_cases he2 : er2 = 0
          · subst he2
            go_wp2_with fail
            refine (C3.out A3 r2.length c3 w1.heap.size _ (hs2.below (below_set d2 (Nat.le_refl _) _)) hc3 hm3).mono ?_
            rintro e u3 ⟨⟨A4, c4, rfl, ha3, hc4, hm4⟩, q3, hq3⟩
            have d3 : Below w1.heap.size w1 u3 := by rw [hq3]; exact below_drewN (below_set d2 (Nat.le_refl _) _) q3
            have g3 : Box u3 w1.heap.size 24 #[.int .i64 N1, .string (strB s2), .int .i64 0, .slice none 0 0] := by rw [hq3]; exact (g2.set 1 (.string (strB s2))).drewN q3
            have e3 : Box u3 w.heap.size 24 #[.int .i64 0, .string ⟨#[]⟩, .int .i64 0, .slice none 0 0] := x1.below d3 z1
            have hs3 := ha3.back d3 (Nat.le_refl _)
            clear hq3 y0 y1 y2 y3 yf v0 v1 v2 v3 vf
            have y0 := e3.at 0 rfl
            have y1 := e3.at 1 rfl
            have y2 := e3.at 2 rfl
            have y3 := e3.at 3 rfl
            have yf := e3.cold
            have v0 := g3.at 0 rfl
            have v1 := g3.at 1 rfl
            have v2 := g3.at 2 rfl
            have v3 := g3.at 3 rfl
            have vf := g3.cold
            by_cases he3 : er3 = 0
            · subst he3
              go_wp2_with fail
              refine (C4.out A4 r3.length c4 w1.heap.size _ (hs3.below (below_set d3 (Nat.le_refl _) _)) hc4 hm4).mono ?_
              rintro e u4 ⟨⟨A5, c5, rfl, ha4, hc5, hm5⟩, q4, hq4⟩
              have d4 : Below w1.heap.size w1 u4 := by rw [hq4]; exact below_drewN (below_set d3 (Nat.le_refl _) _) q4
              have g4 : Box u4 w1.heap.size 24 #[.int .i64 N1, .string (strB s2), .int .i64 N3, .slice none 0 0] := by rw [hq4]; exact (g3.set 2 (.int .i64 N3)).drewN q4
              have e4 : Box u4 w.heap.size 24 #[.int .i64 0, .string ⟨#[]⟩, .int .i64 0, .slice none 0 0] := x1.below d4 z1
              have hs4 := ha4.back d4 (Nat.le_refl _)
              clear hq4 y0 y1 y2 y3 yf v0 v1 v2 v3 vf
              have y0 := e4.at 0 rfl
              have y1 := e4.at 1 rfl
              have y2 := e4.at 2 rfl
              have y3 := e4.at 3 rfl
              have yf := e4.cold
              have v0 := g4.at 0 rfl
              have v1 := g4.at 1 rfl
              have v2 := g4.at 2 rfl
              have v3 := g4.at 3 rfl
              have vf := g4.cold
              by_cases he4 : er4 = 0
              · subst he4
                by_cases h5 : r4 = []
                · subst h5
                  by_cases h6 : F.may ⟨N1, s2, N3, s4⟩
                  · have hrb : rightB ⟨N1, s2, N3, s4⟩ = true := decide_eq_true h6
                    have H6 := Lib.hid h6
                    clear h6
                    have zu := e4.lt
                    have zg := g4.lt
                    have b5 : Below w.heap.size w u4 := b1.trans (d4.mono b1.size)
                    have hby := run_bytes u4 (strB s4)
                    rw [hz4] at hby
                    have HS4 := Lib.hid hz4
                    clear hz4
                    go_wp2_with fail
                    refine (rright_any ⟨N1, s2, N3, s4⟩ _ _ _ _ rfl).mono ?_
                    rintro e w5 ⟨rfl, hb5⟩
                    have d5 : Below w1.heap.size w1 (((u4.setCell ⟨w1.heap.size, 3, none⟩ (.slice (some ⟨u4.heap.size, 0, none⟩) s4.length (strC u4 (strB s4)))).alloc (strO u4 (strB s4))).drew) := ((below_set d4 (Nat.le_refl _) _).alloc (by have := d4.size; simp; omega) _).drew
                    have b6 : Below w.heap.size w w5 := (b1.trans (d5.mono b1.size)).trans (hb5.mono (by have h0 := b1.size; have h1 := d5.size; omega))
                    have x5 : Box w5 w.heap.size 24 #[.int .i64 0, .string ⟨#[]⟩, .int .i64 0, .slice none 0 0] := (x1.below d5 z1).belowH hb5
                    have g5 : Box w5 w1.heap.size 24 #[.int .i64 N1, .string (strB s2), .int .i64 N3, (.slice (some ⟨u4.heap.size, 0, none⟩) s4.length (strC u4 (strB s4)))] := (((g4.set 3 (.slice (some ⟨u4.heap.size, 0, none⟩) s4.length (strC u4 (strB s4)))).alloc (strO u4 (strB s4))).drew).belowH hb5
                    clear y0 y1 y2 y3 yf v0 v1 v2 v3 vf hby
                    have y0 := x5.at 0 rfl
                    have y1 := x5.at 1 rfl
                    have y2 := x5.at 2 rfl
                    have y3 := x5.at 3 rfl
                    have yf := x5.cold
                    have v0 := g5.at 0 rfl
                    have v1 := g5.at 1 rfl
                    have v2 := g5.at 2 rfl
                    have v3 := g5.at 3 rfl
                    have vf := g5.cold
                    by_cases hcl : s2 = cl
                    · subst hcl
                      go_wp2
                      refine bodyPost_ret (by simp [results, Try.results17, go_sem, y0, y1, y2, y3, z1, zu, zg]; try rfl) rfl ?_
                      have ey := EY.out
                      rw [if_neg (by decide : ¬ (0 : Nat) ≠ 0), if_neg (by decide : ¬ (0 : Nat) ≠ 0), if_neg (by decide : ¬ (0 : Nat) ≠ 0), if_neg (by decide : ¬ (0 : Nat) ≠ 0), if_pos ⟨by trivial, H6.out⟩] at ey
                      have ep := EP.out
                      rw [ey, if_neg (by decide : ¬ (0 : Int) ≠ 0), if_neg (fun h => h HP.out), if_neg (by decide : ¬ (0 : Nat) ≠ 0), if_neg (fun h => h rfl)] at ep
                      rw [ep]
                      have hne : ∀ b o, (some (⟨u4.heap.size, 0, none⟩ : Addr)) = some ⟨b, o, none⟩ → b ≠ w1.heap.size := fun b o e => by have e1 : u4.heap.size = b := congrArg (fun x : Option Addr => (x.getD ⟨0, 0, none⟩).block) e; omega
                      have hne2 : ∀ b o, (some (⟨u4.heap.size, 0, none⟩ : Addr)) = some ⟨b, o, none⟩ → b ≠ w.heap.size := fun b o e => by have e1 : u4.heap.size = b := congrArg (fun x : Option Addr => (x.getD ⟨0, 0, none⟩).block) e; omega
                      have hp4 := ((Rd.bytes u4 s4).more (by simp : u4.heap.size + 1 ≤ (u4.drew.alloc (strO u4 (strB s4))).heap.size)).other (b' := w1.heap.size) (o := 3) hne (.slice (some ⟨u4.heap.size, 0, none⟩) s4.length (strC u4 (strB s4)))
                      rw [World.setCell_alloc_past (w := u4.drew) _ _ _ _ zg] at hp4
                      have hp5 : Rd w5 w5.heap.size 1 (some ⟨u4.heap.size, 0, none⟩) s4.length (U s4) := Rd.belowH (w := (((u4.setCell ⟨w1.heap.size, 3, none⟩ (.slice (some ⟨u4.heap.size, 0, none⟩) s4.length (strC u4 (strB s4)))).alloc (strO u4 (strB s4))).drew)) (hp4.more (by simp)) hb5
                      have h9 := (((hp5.other (o := 0) hne2 (.int .i64 N1)).other (o := 1) hne2 (.string (strB s2))).other (o := 2) hne2 (.int .i64 N3)).other (o := 3) hne2 (.slice (some ⟨u4.heap.size, 0, none⟩) s4.length (strC u4 (strB s4)))
                      refine ⟨⟨_, strC u4 (strB s4), rfl, by simpa using h9, by rw [← HS4.out]; exact strC_ge _ _, fun b o e => by have e1 : u4.heap.size = b := congrArg (fun x : Option Addr => (x.getD ⟨0, 0, none⟩).block) e; omega⟩, (by repeat (first | (with_reducible exact b6) | (with_reducible refine below_set ?_ (by first | with_reducible exact Nat.le_refl _ | exact Nat.le_of_lt z1) _) | (with_reducible refine Below.drew ?_) | (with_reducible refine below_drewN ?_ _) | (with_reducible refine below_al ?_ _)))⟩
                    · have tcl2 : (strB s2 == strB cl) = false := by rw [show (strB s2 == strB cl) = decide (s2 = cl) from beq_strB s2 cl, decide_eq_false hcl]
                      have tcl3 : (s2 == cl) = false := beq_eq_false_iff_ne.2 hcl
                      have tcl4 : (s2 != cl) = true := bne_iff_ne.2 hcl
                      have HC := Lib.hid hcl
                      clear hcl
                      go_wp2
                      refine bodyPost_ret (by simp [results, Try.results17, go_sem, y0, y1, y2, y3, z1, zu, zg]; try rfl) rfl ?_
                      have ey := EY.out
                      rw [if_neg (by decide : ¬ (0 : Nat) ≠ 0), if_neg (by decide : ¬ (0 : Nat) ≠ 0), if_neg (by decide : ¬ (0 : Nat) ≠ 0), if_neg (by decide : ¬ (0 : Nat) ≠ 0), if_pos ⟨by trivial, H6.out⟩] at ey
                      have ep := EP.out
                      rw [ey, if_neg (by decide : ¬ (0 : Int) ≠ 0), if_neg (fun h => h HP.out), if_neg (by decide : ¬ (0 : Nat) ≠ 0), if_pos HC.out] at ep
                      rw [ep]
                      exact FrameR.none (by repeat (first | (with_reducible exact b6) | (with_reducible refine below_set ?_ (by first | with_reducible exact Nat.le_refl _ | exact Nat.le_of_lt z1) _) | (with_reducible refine Below.drew ?_) | (with_reducible refine below_drewN ?_ _) | (with_reducible refine below_al ?_ _)))
                  · have hrb : rightB ⟨N1, s2, N3, s4⟩ = false := decide_eq_false h6
                    have H6 := Lib.hid h6
                    clear h6
                    have zu := e4.lt
                    have zg := g4.lt
                    have b5 : Below w.heap.size w u4 := b1.trans (d4.mono b1.size)
                    have hby := run_bytes u4 (strB s4)
                    rw [hz4] at hby
                    have HS4 := Lib.hid hz4
                    clear hz4
                    go_wp2_with fail
                    refine (rright_any ⟨N1, s2, N3, s4⟩ _ _ _ _ rfl).mono ?_
                    rintro e w5 ⟨rfl, hb5⟩
                    have d5 : Below w1.heap.size w1 (((u4.setCell ⟨w1.heap.size, 3, none⟩ (.slice (some ⟨u4.heap.size, 0, none⟩) s4.length (strC u4 (strB s4)))).alloc (strO u4 (strB s4))).drew) := ((below_set d4 (Nat.le_refl _) _).alloc (by have := d4.size; simp; omega) _).drew
                    have b6 : Below w.heap.size w w5 := (b1.trans (d5.mono b1.size)).trans (hb5.mono (by have h0 := b1.size; have h1 := d5.size; omega))
                    have x5 : Box w5 w.heap.size 24 #[.int .i64 0, .string ⟨#[]⟩, .int .i64 0, .slice none 0 0] := (x1.below d5 z1).belowH hb5
                    have g5 : Box w5 w1.heap.size 24 #[.int .i64 N1, .string (strB s2), .int .i64 N3, (.slice (some ⟨u4.heap.size, 0, none⟩) s4.length (strC u4 (strB s4)))] := (((g4.set 3 (.slice (some ⟨u4.heap.size, 0, none⟩) s4.length (strC u4 (strB s4)))).alloc (strO u4 (strB s4))).drew).belowH hb5
                    clear y0 y1 y2 y3 yf v0 v1 v2 v3 vf hby
                    have y0 := x5.at 0 rfl
                    have y1 := x5.at 1 rfl
                    have y2 := x5.at 2 rfl
                    have y3 := x5.at 3 rfl
                    have yf := x5.cold
                    have v0 := g5.at 0 rfl
                    have v1 := g5.at 1 rfl
                    have v2 := g5.at 2 rfl
                    have v3 := g5.at 3 rfl
                    have vf := g5.cold
                    go_wp2
                    refine bodyPost_ret (by simp [results, Try.results17, go_sem, y0, y1, y2, y3, z1, zu, zg]; try rfl) rfl ?_
                    have ey := EY.out
                    rw [if_neg (by decide : ¬ (0 : Nat) ≠ 0), if_neg (by decide : ¬ (0 : Nat) ≠ 0), if_neg (by decide : ¬ (0 : Nat) ≠ 0), if_neg (by decide : ¬ (0 : Nat) ≠ 0), if_neg (fun h => H6.out h.2)] at ey
                    have ep := EP.out
                    rw [ey, if_neg (by decide : ¬ (0 : Int) ≠ 0), if_neg (fun h => h HP.out), if_pos (by decide)] at ep
                    rw [ep]
                    exact FrameR.none (by repeat (first | (with_reducible exact b6) | (with_reducible refine below_set ?_ (by first | with_reducible exact Nat.le_refl _ | exact Nat.le_of_lt z1) _) | (with_reducible refine Below.drew ?_) | (with_reducible refine below_drewN ?_ _) | (with_reducible refine below_al ?_ _)))
                · have hl5 : 0 < r4.length := List.length_pos_iff.2 h5
                  have H5 := Lib.hid h5
                  clear h5
                  have zu := e4.lt
                  have zg := g4.lt
                  have b5 : Below w.heap.size w u4 := b1.trans (d4.mono b1.size)
                  have hby := run_bytes u4 (strB s4)
                  rw [hz4] at hby
                  have HS4 := Lib.hid hz4
                  clear hz4
                  go_wp2
                  refine bodyPost_ret (by simp [results, Try.results17, go_sem, y0, y1, y2, y3, z1, zu, zg]; try rfl) rfl ?_
                  have ey := EY.out
                  rw [if_neg (by decide : ¬ (0 : Nat) ≠ 0), if_neg (by decide : ¬ (0 : Nat) ≠ 0), if_neg (by decide : ¬ (0 : Nat) ≠ 0), if_neg (by decide : ¬ (0 : Nat) ≠ 0), if_neg (fun h => H5.out h.1)] at ey
                  have ep := EP.out
                  rw [ey, if_neg (by decide : ¬ (0 : Int) ≠ 0), if_neg (fun h => h HP.out), if_pos (by decide)] at ep
                  rw [ep]
                  exact FrameR.none (by repeat (first | (with_reducible exact b5) | (with_reducible refine below_set ?_ (by first | with_reducible exact Nat.le_refl _ | exact Nat.le_of_lt z1) _) | (with_reducible refine Below.drew ?_) | (with_reducible refine below_drewN ?_ _) | (with_reducible refine below_al ?_ _)))
              · have t4 : ((er4 : Int) != 0) = true := by rw [bne_iff_ne]; omega
                have HE := Lib.hid he4
                clear he4
                have b5 : Below w.heap.size w u4 := b1.trans (d4.mono b1.size)
                have zu := e4.lt
                have zg := g4.lt
                have hby := run_bytes u4 (strB s4)
                rw [hz4] at hby
                have HS4 := Lib.hid hz4
                clear hz4
                go_wp2
                refine bodyPost_ret (by simp [results, Try.results17, go_sem, y0, y1, y2, y3, z1, zu, zg]; try rfl) rfl ?_
                have ey := EY.out
                rw [if_neg (by decide : ¬ (0 : Nat) ≠ 0), if_neg (by decide : ¬ (0 : Nat) ≠ 0), if_neg (by decide : ¬ (0 : Nat) ≠ 0), if_pos HE.out] at ey
                have ep := EP.out
                rw [ey, if_neg (by decide : ¬ (0 : Int) ≠ 0), if_neg (fun h => h HP.out), if_pos HE.out] at ep
                rw [ep]
                exact FrameR.none (by repeat (first | (with_reducible exact b5) | (with_reducible refine below_set ?_ (by first | with_reducible exact Nat.le_refl _ | exact Nat.le_of_lt z1) _) | (with_reducible refine Below.drew ?_) | (with_reducible refine below_drewN ?_ _) | (with_reducible refine below_al ?_ _)))
            · have t3 : ((er3 : Int) != 0) = true := by rw [bne_iff_ne]; omega
              have HE := Lib.hid he3
              clear he3
              have b4 : Below w.heap.size w u3 := b1.trans (d3.mono b1.size)
              go_wp2
              refine bodyPost_ret (by simp [results, Try.results17, go_sem, y0, y1, y2, y3, z1]; try rfl) rfl ?_
              have ey := EY.out
              rw [if_neg (by decide : ¬ (0 : Nat) ≠ 0), if_neg (by decide : ¬ (0 : Nat) ≠ 0), if_pos HE.out] at ey
              have ep := EP.out
              rw [ey, if_neg (by decide : ¬ (0 : Int) ≠ 0), if_neg (fun h => h HP.out), if_pos HE.out] at ep
              rw [ep]
              exact FrameR.none (by repeat (first | (with_reducible exact b4) | (with_reducible refine below_set ?_ (by first | with_reducible exact Nat.le_refl _ | exact Nat.le_of_lt z1) _) | (with_reducible refine Below.drew ?_) | (with_reducible refine below_drewN ?_ _) | (with_reducible refine below_al ?_ _)))
          · have t2 : ((er2 : Int) != 0) = true := by rw [bne_iff_ne]; omega
            have HE := Lib.hid he2
            clear he2
            have b3 : Below w.heap.size w u2 := b1.trans (d2.mono b1.size)
            go_wp2
            refine bodyPost_ret (by simp [results, Try.results17, go_sem, y0, y1, y2, y3, z1]; try rfl) rfl ?_
            have ey := EY.out
            rw [if_neg (by decide : ¬ (0 : Nat) ≠ 0), if_pos HE.out] at ey
            have ep := EP.out
            rw [ey, if_neg (by decide : ¬ (0 : Int) ≠ 0), if_neg (fun h => h HP.out), if_pos HE.out] at ep
            rw [ep]
            exact FrameR.none (by repeat (first | (with_reducible exact b3) | (with_reducible refine below_set ?_ (by first | with_reducible exact Nat.le_refl _ | exact Nat.le_of_lt z1) _) | (with_reducible refine Below.drew ?_) | (with_reducible refine below_drewN ?_ _) | (with_reducible refine below_al ?_ _)))
        · have t1 : ((er1 : Int) != 0) = true := by rw [bne_iff_ne]; omega
          have HE := Lib.hid he1
          clear he1
          have b2 : Below w.heap.size w u1 := b1.trans (d1.mono b1.size)
          go_wp2
          refine bodyPost_ret (by simp [results, Try.results17, go_sem, y0, y1, y2, y3, z1]; try rfl) rfl ?_
          have ey := EY.out
          rw [if_pos HE.out] at ey
          have ep := EP.out
          rw [ey, if_neg (by decide : ¬ (0 : Int) ≠ 0), if_neg (fun h => h HP.out), if_pos HE.out] at ep
          rw [ep]
          exact FrameR.none (by repeat (first | (with_reducible exact b2) | (with_reducible refine below_set ?_ (by first | with_reducible exact Nat.le_refl _ | exact Nat.le_of_lt z1) _) | (with_reducible refine Below.drew ?_) | (with_reducible refine below_drewN ?_ _) | (with_reducible refine below_al ?_ _)))
      · have HP := Lib.hid hp
        have tp1 : (il.take 3 == F.head) = false := beq_eq_false_iff_ne.2 hp
        have tp2 : (il.take 3 != [66, 87, 1]) = true := bne_iff_ne.2 hp
        have tp3 : (il.take 3 == [66, 87, 1]) = false := beq_eq_false_iff_ne.2 hp
        clear hp
        have hcut := run_cut_h u8T w1 A1 il.length c1 3 3 rfl (by omega)
        have hr3 := hr1.take1 (k := 3) h3
        rw [U_take] at hr3
        have hstr := run_str (P := Try.prog) (c := c1) 22 9 5 Try.underlying22 Try.underlying5 Try.underlying9 hr3
        go_wp2
        refine bodyPost_ret (by simp [results, Try.results17, go_sem, y0, y1, y2, y3, z1]; try rfl) rfl ?_
        have ep := EP.out
        rw [if_neg (by decide : ¬ (0 : Int) ≠ 0), if_pos HP.out] at ep
        rw [ep]
        exact FrameR.none (by repeat (first | (with_reducible exact b1) | (with_reducible refine below_set ?_ (by first | with_reducible exact Nat.le_refl _ | exact Nat.le_of_lt z1) _) | (with_reducible refine Below.drew ?_) | (with_reducible refine below_drewN ?_ _) | (with_reducible refine below_al ?_ _)))
    · have hp : il.take 3 ≠ F.head := fun hh => by
        have := congrArg List.length hh
        rw [List.length_take] at this
        have h33 : F.head.length = 3 := rfl
        omega
      have HP := Lib.hid hp
      clear hp
      go_wp2
      refine bodyPost_ret (by simp [results, Try.results17, go_sem, y0, y1, y2, y3, z1]; try rfl) rfl ?_
      have ep := EP.out
      rw [if_neg (by decide : ¬ (0 : Int) ≠ 0), if_pos HP.out] at ep
      rw [ep]
      exact FrameR.none (by repeat (first | (with_reducible exact b1) | (with_reducible refine below_set ?_ (by first | with_reducible exact Nat.le_refl _ | exact Nat.le_of_lt z1) _) | (with_reducible refine Below.drew ?_) | (with_reducible refine below_drewN ?_ _) | (with_reducible refine below_al ?_ _)))
  · have t0 : (er != 0) = true := by rw [bne_iff_ne]; exact he
    have HE := Lib.hid he
    clear he
    go_wp2
    refine bodyPost_ret (by simp [results, Try.results17, go_sem, y0, y1, y2, y3, z1]; try rfl) rfl ?_
    have ep := EP.out
    rw [if_pos HE.out] at ep
    rw [ep]
    exact FrameR.none (by repeat (first | (with_reducible exact b1) | (with_reducible refine below_set ?_ (by first | with_reducible exact Nat.le_refl _ | exact Nat.le_of_lt z1) _) | (with_reducible refine Below.drew ?_) | (with_reducible refine below_drewN ?_ _) | (with_reducible refine below_al ?_ _)))
end Go.Proofs.Ytbnbljkkfgieoaa
