/- frame.take, frame.Decode and bellwetherref03.Decode: what bytes are a frame. -/
import Derived.Test.YtbnbljkkfgieoaaFEnc
namespace Go.Proofs.Ytbnbljkkfgieoaa
set_option linter.unusedVariables false
set_option linter.unusedSimpArgs false
open Go.RowKit

/-- what Take answers -/
def TakeR (B er N : Nat) (r : List UInt8) (w : World) (e : Ending) (w' : World) : Prop :=
  (∃ A' c', e = .returned (.tuple #[.int .i64 N, .slice A' r.length c', .int .i64 er]) ∧ Rd w' B 1 A' r.length (U r) ∧ r.length ≤ c' ∧ c' ≤ 9223372036854775807) ∧ ∃ q, w' = w.drewN q
/-- what TakeText answers -/
def TextR (B er : Nat) (s r : List UInt8) (w : World) (e : Ending) (w' : World) : Prop :=
  (∃ A' c', e = .returned (.tuple #[.string (strB s), .slice A' r.length c', .int .i64 er]) ∧ Rd w' B 1 A' r.length (U r) ∧ r.length ≤ c' ∧ c' ≤ 9223372036854775807) ∧ ∃ q, w' = w.drewN q
theorem take_r (l : List UInt8) (A : Option Addr) (n c B : Nat) (w : World) (h : Rd w B 1 A n (U l)) (hc : n ≤ c) (hm : c ≤ 9223372036854775807) :
    Calls Try.prog 40 #[.slice A n c] w (TakeR B (Q.take l).1 (Q.take l).2.1 (Q.rest l) w) :=
  (take_any A n c B l w h hc hm).mono fun _ _ ⟨⟨A', c', h1, h2, h3, h4⟩, h5⟩ => ⟨⟨A', c', h1, h5 ▸ h2, h3, h4⟩, 0, h5.symm⟩
theorem text_r (l : List UInt8) (most : Int) (A : Option Addr) (n c B : Nat) (w : World) (h : Rd w B 1 A n (U l)) (hc : n ≤ c) (hm : c ≤ 9223372036854775807) :
    Calls Try.prog 41 #[.slice A n c, .int .i64 most] w (TextR B (Q.taketext l most).1 (Q.taketext l most).2.1 (Q.taketext l most).2.2 w) :=
  (taketext_any A n c B l most w h hc hm).mono fun _ _ ⟨⟨A', c', h1, h2, h3, h4⟩, q, h5⟩ => ⟨⟨A', c', h1, by rw [h5]; exact h2.drewN q, h3, h4⟩, q, h5⟩
theorem rtake_r (l : List UInt8) (A : Option Addr) (n c B : Nat) (w : World) (h : Rd w B 1 A n (U l)) (hc : n ≤ c) (hm : c ≤ 9223372036854775807) :
    Calls Try.prog 29 #[.slice A n c] w (TakeR B (Q.take l).1 (Q.take l).2.1 (Q.rest l) w) :=
  (rtake_any A n c B l w h hc hm).mono fun _ _ ⟨⟨A', c', h1, h2, h3, h4⟩, q, h5⟩ => ⟨⟨A', c', h1, by rw [h5]; exact h2.drewN q, h3, h4⟩, q, h5⟩
theorem rtext_r (l : List UInt8) (most : Int) (A : Option Addr) (n c B : Nat) (w : World) (h : Rd w B 1 A n (U l)) (hc : n ≤ c) (hm : c ≤ 9223372036854775807) :
    Calls Try.prog 30 #[.slice A n c, .int .i64 most] w (TextR B (Q.taketext l most).1 (Q.taketext l most).2.1 (Q.taketext l most).2.2 w) :=
  (rtaketext_any A n c B l most w h hc hm).mono fun _ _ ⟨⟨A', c', h1, h2, h3, h4⟩, q, h5⟩ => ⟨⟨A', c', h1, by rw [h5]; exact h2.drewN q, h3, h4⟩, q, h5⟩

/-- what a frame's taking answers -/
def FrameR (er : Int) (f : Fr) (w : World) (e : Ending) (w' : World) : Prop :=
  (∃ A' c', e = .returned (.tuple #[fv f A' f.pay.length c', .int .i64 er]) ∧ Rd w' w'.heap.size 1 A' f.pay.length (U f.pay) ∧ f.pay.length ≤ c' ∧ ∀ b o, A' = some ⟨b, o, Option.none⟩ → w.heap.size ≤ b) ∧ Below w.heap.size w w'
theorem FrameR.none {er : Int} {w w' : World} (hb : Below w.heap.size w w') : FrameR er F.zero w (.returned (.tuple #[.agg #[.int .i64 0, .string ⟨#[]⟩, .int .i64 0, .slice none 0 0], .int .i64 er])) w' :=
  ⟨⟨Option.none, 0, rfl, Rd.zero _ _ _ _, Nat.le_refl _, fun _ _ h => (by cases h)⟩, hb⟩

set_option maxHeartbeats 1600000 in
set_option maxRecDepth 20000 in
theorem parse_any (l : List UInt8) (A : Option Addr) (n c B : Nat) (w : World) (h : Rd w B 1 A n (U l)) (hB : B ≤ w.heap.size) (hc : n ≤ c) (hm : c ≤ 9223372036854775807) :
    Calls Try.prog 27 #[.slice A n c] w (FrameR (F.parse l).1 (F.parse l).2 w) := by
  have c1 := take_r l
  have c2 := text_r (Q.rest l) 30
  have c3 := take_r (Q.taketext (Q.rest l) 30).2.2
  have c4 := text_r (Q.rest (Q.taketext (Q.rest l) 30).2.2) 30000
  have ep : F.parse l = F.parse l := rfl
  conv at ep => rhs; unfold F.parse
  generalize F.parse l = X at *
  generalize Q.taketext (Q.rest (Q.taketext (Q.rest l) 30).2.2) 30000 = T4 at *
  generalize Q.rest (Q.taketext (Q.rest l) 30).2.2 = r3 at *
  generalize Q.take (Q.taketext (Q.rest l) 30).2.2 = T3 at *
  generalize Q.taketext (Q.rest l) 30 = T2 at *
  generalize Q.rest l = r1 at *
  generalize Q.take l = T1 at *
  obtain ⟨er1, N1, k1⟩ := T1
  obtain ⟨er2, s2, r2⟩ := T2
  obtain ⟨er3, N3, k3⟩ := T3
  obtain ⟨er4, s4, r4⟩ := T4
  dsimp only at *
  have C1 := Lib.hid c1
  have C2 := Lib.hid c2
  have C3 := Lib.hid c3
  have C4 := Lib.hid c4
  have EP := Lib.hid ep
  clear c1 c2 c3 c4 ep
  have b0 : Below w.heap.size w (w.alloc (.cells #[.int .i64 0, .string ⟨#[]⟩, .int .i64 0, .slice none 0 0] 24)) := (Below.refl _ _).alloc (Nat.le_refl _) _
  have x0 := Box.new w #[.int .i64 0, .string ⟨#[]⟩, .int .i64 0, .slice none 0 0] 24
  by_cases he1 : er1 = 0
  · subst he1
    by_cases he2 : er2 = 0
    · subst he2
      by_cases he3 : er3 = 0
      · subst he3
        by_cases he4 : er4 = 0
        · subst he4
          have hs4 : (strB s4).size = s4.length := strB_size s4
          by_cases h5 : r4 = []
          · subst h5
            have hlt : ∀ w4 : World, Below w.heap.size w w4 → Below w.heap.size w (((w4.setCell ⟨w.heap.size, 3, none⟩ (.slice (some ⟨w4.heap.size, 0, none⟩) s4.length (strC w4 (strB s4)))).alloc (strO w4 (strB s4))).drew) := fun w4 hb => ((below_set hb (Nat.le_refl _) _).alloc (by have := hb.size; simp; omega) _).drew
            by_cases h6 : F.may ⟨N1, s2, N3, s4⟩
            · have hrb : rightB ⟨N1, s2, N3, s4⟩ = true := decide_eq_true h6
              have H6 := Lib.hid h6
              clear h6
              go_enter Try.func27, Try.ntmps27
              go_wp2_with fail
              refine (C1.out A n c B _ (h.below (b0.mono hB)) hc hm).mono ?_
              rintro e w1 ⟨⟨A1, c1, rfl, hr1, hc1, hm1⟩, q1, hq1⟩
              have b1 : Below w.heap.size w w1 := by rw [hq1]; exact below_drewN b0 q1
              have x1 : Box w1 w.heap.size 24 #[.int .i64 0, .string ⟨#[]⟩, .int .i64 0, .slice none 0 0] := by rw [hq1]; exact x0.drewN q1
              have hw1 := hr1.back b1 hB
              clear hq1
              have y0 := x1.at 0 rfl
              have y1 := x1.at 1 rfl
              have y2 := x1.at 2 rfl
              have y3 := x1.at 3 rfl
              have yf := x1.cold
              go_wp2_with fail
              refine (C2.out A1 r1.length c1 B _ (hw1.below ((below_set b1 (Nat.le_refl _) _).mono hB)) hc1 hm1).mono ?_
              rintro e w2 ⟨⟨A2, c2, rfl, hr2, hc2, hm2⟩, q2, hq2⟩
              have b2 : Below w.heap.size w w2 := by rw [hq2]; exact below_drewN (below_set b1 (Nat.le_refl _) _) q2
              have x2 : Box w2 w.heap.size 24 #[.int .i64 N1, .string ⟨#[]⟩, .int .i64 0, .slice none 0 0] := by rw [hq2]; exact (x1.set 0 (.int .i64 N1)).drewN q2
              have hw2 := hr2.back b2 hB
              clear hq2 y0 y1 y2 y3 yf
              have y0 := x2.at 0 rfl
              have y1 := x2.at 1 rfl
              have y2 := x2.at 2 rfl
              have y3 := x2.at 3 rfl
              have yf := x2.cold
              go_wp2_with fail
              refine (C3.out A2 r2.length c2 B _ (hw2.below ((below_set b2 (Nat.le_refl _) _).mono hB)) hc2 hm2).mono ?_
              rintro e w3 ⟨⟨A3, c3, rfl, hr3, hc3, hm3⟩, q3, hq3⟩
              have b3 : Below w.heap.size w w3 := by rw [hq3]; exact below_drewN (below_set b2 (Nat.le_refl _) _) q3
              have x3 : Box w3 w.heap.size 24 #[.int .i64 N1, .string (strB s2), .int .i64 0, .slice none 0 0] := by rw [hq3]; exact (x2.set 1 (.string (strB s2))).drewN q3
              have hw3 := hr3.back b3 hB
              clear hq3 y0 y1 y2 y3 yf
              have y0 := x3.at 0 rfl
              have y1 := x3.at 1 rfl
              have y2 := x3.at 2 rfl
              have y3 := x3.at 3 rfl
              have yf := x3.cold
              go_wp2_with fail
              refine (C4.out A3 r3.length c3 B _ (hw3.below ((below_set b3 (Nat.le_refl _) _).mono hB)) hc3 hm3).mono ?_
              rintro e w4 ⟨⟨A4, c4, rfl, hr4, hc4, hm4⟩, q4, hq4⟩
              have b4 : Below w.heap.size w w4 := by rw [hq4]; exact below_drewN (below_set b3 (Nat.le_refl _) _) q4
              have x4 : Box w4 w.heap.size 24 #[.int .i64 N1, .string (strB s2), .int .i64 N3, .slice none 0 0] := by rw [hq4]; exact (x3.set 2 (.int .i64 N3)).drewN q4
              have hw4 := hr4.back b4 hB
              clear hq4 y0 y1 y2 y3 yf
              have y0 := x4.at 0 rfl
              have y1 := x4.at 1 rfl
              have y2 := x4.at 2 rfl
              have y3 := x4.at 3 rfl
              have yf := x4.cold
              have z4 := x4.lt
              have hby := run_bytes w4 (strB s4)
              rw [hs4] at hby
              have HS4 := Lib.hid hs4
              clear hs4
              go_wp2_with fail
              refine (right_any ⟨N1, s2, N3, s4⟩ _ _ _ _ rfl).mono ?_
              rintro e w5 ⟨rfl, hb5⟩
              have hw5 := hlt w4 b4
              have b5 : Below w.heap.size w w5 := hw5.trans (hb5.mono hw5.size)
              have x5 : Box w5 w.heap.size 24 #[.int .i64 N1, .string (strB s2), .int .i64 N3, .slice (some ⟨w4.heap.size, 0, none⟩) s4.length (strC w4 (strB s4))] := ((((x4.set 3 (.slice (some ⟨w4.heap.size, 0, none⟩) s4.length (strC w4 (strB s4)))).alloc (strO w4 (strB s4)))).drew).belowH hb5
              clear y0 y1 y2 y3 yf hby
              have y0 := x5.at 0 rfl
              have y1 := x5.at 1 rfl
              have y2 := x5.at 2 rfl
              have y3 := x5.at 3 rfl
              have yf := x5.cold
              go_wp2
              refine bodyPost_ret (by simp [results, Try.results27, go_sem, y0, y1, y2, y3]; try rfl) rfl ?_
              have ep := EP.out
              rw [if_neg (by decide : ¬ (0 : Nat) ≠ 0), if_neg (by decide : ¬ (0 : Nat) ≠ 0), if_neg (by decide : ¬ (0 : Nat) ≠ 0), if_neg (by decide : ¬ (0 : Nat) ≠ 0), if_pos ⟨by trivial, H6.out⟩] at ep
              rw [ep]
              have hne : ∀ b o, (some (⟨w4.heap.size, 0, none⟩ : Addr)) = some ⟨b, o, none⟩ → b ≠ w.heap.size := by rintro b o e; have e1 : w4.heap.size = b := congrArg (fun x : Option Addr => (x.getD ⟨0, 0, none⟩).block) e; omega
              have hr4' := ((Rd.bytes w4 s4).more (by simp : w4.heap.size + 1 ≤ (w4.drew.alloc (strO w4 (strB s4))).heap.size)).other (b' := w.heap.size) (o := 3) hne (.slice (some ⟨w4.heap.size, 0, none⟩) s4.length (strC w4 (strB s4)))
              rw [World.setCell_alloc_past (w := w4.drew) _ _ _ _ z4] at hr4'
              have hr5 : Rd w5 w5.heap.size 1 (some ⟨w4.heap.size, 0, none⟩) s4.length (U s4) := Rd.belowH (w := (((w4.setCell ⟨w.heap.size, 3, none⟩ (.slice (some ⟨w4.heap.size, 0, none⟩) s4.length (strC w4 (strB s4)))).alloc (strO w4 (strB s4))).drew)) (hr4'.more (by simp)) hb5
              refine ⟨⟨_, strC w4 (strB s4), rfl, ?_, by rw [← HS4.out]; exact strC_ge _ _, fun b o e => by have e1 : w4.heap.size = b := congrArg (fun x : Option Addr => (x.getD ⟨0, 0, none⟩).block) e; omega⟩, below_set (below_set (below_set (below_set b5 (Nat.le_refl _) _) (Nat.le_refl _) _) (Nat.le_refl _) _) (Nat.le_refl _) _⟩
              have := (((hr5.other (o := 0) hne (.int .i64 N1)).other (o := 1) hne (.string (strB s2))).other (o := 2) hne (.int .i64 N3)).other (o := 3) hne (.slice (some ⟨w4.heap.size, 0, none⟩) s4.length (strC w4 (strB s4)))
              simpa using this
            · have hrb : rightB ⟨N1, s2, N3, s4⟩ = false := decide_eq_false h6
              have H6 := Lib.hid h6
              clear h6
              go_enter Try.func27, Try.ntmps27
              go_wp2_with fail
              refine (C1.out A n c B _ (h.below (b0.mono hB)) hc hm).mono ?_
              rintro e w1 ⟨⟨A1, c1, rfl, hr1, hc1, hm1⟩, q1, hq1⟩
              have b1 : Below w.heap.size w w1 := by rw [hq1]; exact below_drewN b0 q1
              have x1 : Box w1 w.heap.size 24 #[.int .i64 0, .string ⟨#[]⟩, .int .i64 0, .slice none 0 0] := by rw [hq1]; exact x0.drewN q1
              have hw1 := hr1.back b1 hB
              clear hq1
              have y0 := x1.at 0 rfl
              have y1 := x1.at 1 rfl
              have y2 := x1.at 2 rfl
              have y3 := x1.at 3 rfl
              have yf := x1.cold
              go_wp2_with fail
              refine (C2.out A1 r1.length c1 B _ (hw1.below ((below_set b1 (Nat.le_refl _) _).mono hB)) hc1 hm1).mono ?_
              rintro e w2 ⟨⟨A2, c2, rfl, hr2, hc2, hm2⟩, q2, hq2⟩
              have b2 : Below w.heap.size w w2 := by rw [hq2]; exact below_drewN (below_set b1 (Nat.le_refl _) _) q2
              have x2 : Box w2 w.heap.size 24 #[.int .i64 N1, .string ⟨#[]⟩, .int .i64 0, .slice none 0 0] := by rw [hq2]; exact (x1.set 0 (.int .i64 N1)).drewN q2
              have hw2 := hr2.back b2 hB
              clear hq2 y0 y1 y2 y3 yf
              have y0 := x2.at 0 rfl
              have y1 := x2.at 1 rfl
              have y2 := x2.at 2 rfl
              have y3 := x2.at 3 rfl
              have yf := x2.cold
              go_wp2_with fail
              refine (C3.out A2 r2.length c2 B _ (hw2.below ((below_set b2 (Nat.le_refl _) _).mono hB)) hc2 hm2).mono ?_
              rintro e w3 ⟨⟨A3, c3, rfl, hr3, hc3, hm3⟩, q3, hq3⟩
              have b3 : Below w.heap.size w w3 := by rw [hq3]; exact below_drewN (below_set b2 (Nat.le_refl _) _) q3
              have x3 : Box w3 w.heap.size 24 #[.int .i64 N1, .string (strB s2), .int .i64 0, .slice none 0 0] := by rw [hq3]; exact (x2.set 1 (.string (strB s2))).drewN q3
              have hw3 := hr3.back b3 hB
              clear hq3 y0 y1 y2 y3 yf
              have y0 := x3.at 0 rfl
              have y1 := x3.at 1 rfl
              have y2 := x3.at 2 rfl
              have y3 := x3.at 3 rfl
              have yf := x3.cold
              go_wp2_with fail
              refine (C4.out A3 r3.length c3 B _ (hw3.below ((below_set b3 (Nat.le_refl _) _).mono hB)) hc3 hm3).mono ?_
              rintro e w4 ⟨⟨A4, c4, rfl, hr4, hc4, hm4⟩, q4, hq4⟩
              have b4 : Below w.heap.size w w4 := by rw [hq4]; exact below_drewN (below_set b3 (Nat.le_refl _) _) q4
              have x4 : Box w4 w.heap.size 24 #[.int .i64 N1, .string (strB s2), .int .i64 N3, .slice none 0 0] := by rw [hq4]; exact (x3.set 2 (.int .i64 N3)).drewN q4
              have hw4 := hr4.back b4 hB
              clear hq4 y0 y1 y2 y3 yf
              have y0 := x4.at 0 rfl
              have y1 := x4.at 1 rfl
              have y2 := x4.at 2 rfl
              have y3 := x4.at 3 rfl
              have yf := x4.cold
              have z4 := x4.lt
              have hby := run_bytes w4 (strB s4)
              rw [hs4] at hby
              have HS4 := Lib.hid hs4
              clear hs4
              go_wp2_with fail
              refine (right_any ⟨N1, s2, N3, s4⟩ _ _ _ _ rfl).mono ?_
              rintro e w5 ⟨rfl, hb5⟩
              have hw5 := hlt w4 b4
              have b5 : Below w.heap.size w w5 := hw5.trans (hb5.mono hw5.size)
              have x5 : Box w5 w.heap.size 24 #[.int .i64 N1, .string (strB s2), .int .i64 N3, .slice (some ⟨w4.heap.size, 0, none⟩) s4.length (strC w4 (strB s4))] := ((((x4.set 3 (.slice (some ⟨w4.heap.size, 0, none⟩) s4.length (strC w4 (strB s4)))).alloc (strO w4 (strB s4)))).drew).belowH hb5
              clear y0 y1 y2 y3 yf hby
              have y0 := x5.at 0 rfl
              have y1 := x5.at 1 rfl
              have y2 := x5.at 2 rfl
              have y3 := x5.at 3 rfl
              have yf := x5.cold
              go_wp2
              refine bodyPost_ret (by simp [results, Try.results27, go_sem, y0, y1, y2, y3]; try rfl) rfl ?_
              have ep := EP.out
              rw [if_neg (by decide : ¬ (0 : Nat) ≠ 0), if_neg (by decide : ¬ (0 : Nat) ≠ 0), if_neg (by decide : ¬ (0 : Nat) ≠ 0), if_neg (by decide : ¬ (0 : Nat) ≠ 0), if_neg (fun h => H6.out h.2)] at ep
              rw [ep]
              exact FrameR.none (below_set (below_set (below_set (below_set b5 (Nat.le_refl _) _) (Nat.le_refl _) _) (Nat.le_refl _) _) (Nat.le_refl _) _)
          · have hl5 : 0 < r4.length := List.length_pos_iff.2 h5
            have H5 := Lib.hid h5
            clear h5
            go_enter Try.func27, Try.ntmps27
            go_wp2_with fail
            refine (C1.out A n c B _ (h.below (b0.mono hB)) hc hm).mono ?_
            rintro e w1 ⟨⟨A1, c1, rfl, hr1, hc1, hm1⟩, q1, hq1⟩
            have b1 : Below w.heap.size w w1 := by rw [hq1]; exact below_drewN b0 q1
            have x1 : Box w1 w.heap.size 24 #[.int .i64 0, .string ⟨#[]⟩, .int .i64 0, .slice none 0 0] := by rw [hq1]; exact x0.drewN q1
            have hw1 := hr1.back b1 hB
            clear hq1
            have y0 := x1.at 0 rfl
            have y1 := x1.at 1 rfl
            have y2 := x1.at 2 rfl
            have y3 := x1.at 3 rfl
            have yf := x1.cold
            go_wp2_with fail
            refine (C2.out A1 r1.length c1 B _ (hw1.below ((below_set b1 (Nat.le_refl _) _).mono hB)) hc1 hm1).mono ?_
            rintro e w2 ⟨⟨A2, c2, rfl, hr2, hc2, hm2⟩, q2, hq2⟩
            have b2 : Below w.heap.size w w2 := by rw [hq2]; exact below_drewN (below_set b1 (Nat.le_refl _) _) q2
            have x2 : Box w2 w.heap.size 24 #[.int .i64 N1, .string ⟨#[]⟩, .int .i64 0, .slice none 0 0] := by rw [hq2]; exact (x1.set 0 (.int .i64 N1)).drewN q2
            have hw2 := hr2.back b2 hB
            clear hq2 y0 y1 y2 y3 yf
            have y0 := x2.at 0 rfl
            have y1 := x2.at 1 rfl
            have y2 := x2.at 2 rfl
            have y3 := x2.at 3 rfl
            have yf := x2.cold
            go_wp2_with fail
            refine (C3.out A2 r2.length c2 B _ (hw2.below ((below_set b2 (Nat.le_refl _) _).mono hB)) hc2 hm2).mono ?_
            rintro e w3 ⟨⟨A3, c3, rfl, hr3, hc3, hm3⟩, q3, hq3⟩
            have b3 : Below w.heap.size w w3 := by rw [hq3]; exact below_drewN (below_set b2 (Nat.le_refl _) _) q3
            have x3 : Box w3 w.heap.size 24 #[.int .i64 N1, .string (strB s2), .int .i64 0, .slice none 0 0] := by rw [hq3]; exact (x2.set 1 (.string (strB s2))).drewN q3
            have hw3 := hr3.back b3 hB
            clear hq3 y0 y1 y2 y3 yf
            have y0 := x3.at 0 rfl
            have y1 := x3.at 1 rfl
            have y2 := x3.at 2 rfl
            have y3 := x3.at 3 rfl
            have yf := x3.cold
            go_wp2_with fail
            refine (C4.out A3 r3.length c3 B _ (hw3.below ((below_set b3 (Nat.le_refl _) _).mono hB)) hc3 hm3).mono ?_
            rintro e w4 ⟨⟨A4, c4, rfl, hr4, hc4, hm4⟩, q4, hq4⟩
            have b4 : Below w.heap.size w w4 := by rw [hq4]; exact below_drewN (below_set b3 (Nat.le_refl _) _) q4
            have x4 : Box w4 w.heap.size 24 #[.int .i64 N1, .string (strB s2), .int .i64 N3, .slice none 0 0] := by rw [hq4]; exact (x3.set 2 (.int .i64 N3)).drewN q4
            have hw4 := hr4.back b4 hB
            clear hq4 y0 y1 y2 y3 yf
            have y0 := x4.at 0 rfl
            have y1 := x4.at 1 rfl
            have y2 := x4.at 2 rfl
            have y3 := x4.at 3 rfl
            have yf := x4.cold
            have z4 := x4.lt
            have hby := run_bytes w4 (strB s4)
            rw [hs4] at hby
            have HS4 := Lib.hid hs4
            clear hs4
            go_wp2
            refine bodyPost_ret (by simp [results, Try.results27, go_sem, y0, y1, y2, y3, z4]; rfl) rfl ?_
            have ep := EP.out
            rw [if_neg (by decide : ¬ (0 : Nat) ≠ 0), if_neg (by decide : ¬ (0 : Nat) ≠ 0), if_neg (by decide : ¬ (0 : Nat) ≠ 0), if_neg (by decide : ¬ (0 : Nat) ≠ 0), if_neg (fun h => H5.out h.1)] at ep
            rw [ep]
            exact FrameR.none (((below_set (below_set (below_set (below_set (below_set b4 (Nat.le_refl _) _) (Nat.le_refl _) _) (Nat.le_refl _) _) (Nat.le_refl _) _) (Nat.le_refl _) _).alloc (by have := b4.size; simp; omega) _).drew)
        · have t4 : ((er4 : Int) != 0) = true := by rw [bne_iff_ne]; omega
          have HE := Lib.hid he4
          clear he4
          go_enter Try.func27, Try.ntmps27
          go_wp2_with fail
          refine (C1.out A n c B _ (h.below (b0.mono hB)) hc hm).mono ?_
          rintro e w1 ⟨⟨A1, c1, rfl, hr1, hc1, hm1⟩, q1, hq1⟩
          have b1 : Below w.heap.size w w1 := by rw [hq1]; exact below_drewN b0 q1
          have x1 : Box w1 w.heap.size 24 #[.int .i64 0, .string ⟨#[]⟩, .int .i64 0, .slice none 0 0] := by rw [hq1]; exact x0.drewN q1
          have hw1 := hr1.back b1 hB
          clear hq1
          have y0 := x1.at 0 rfl
          have y1 := x1.at 1 rfl
          have y2 := x1.at 2 rfl
          have y3 := x1.at 3 rfl
          have yf := x1.cold
          go_wp2_with fail
          refine (C2.out A1 r1.length c1 B _ (hw1.below ((below_set b1 (Nat.le_refl _) _).mono hB)) hc1 hm1).mono ?_
          rintro e w2 ⟨⟨A2, c2, rfl, hr2, hc2, hm2⟩, q2, hq2⟩
          have b2 : Below w.heap.size w w2 := by rw [hq2]; exact below_drewN (below_set b1 (Nat.le_refl _) _) q2
          have x2 : Box w2 w.heap.size 24 #[.int .i64 N1, .string ⟨#[]⟩, .int .i64 0, .slice none 0 0] := by rw [hq2]; exact (x1.set 0 (.int .i64 N1)).drewN q2
          have hw2 := hr2.back b2 hB
          clear hq2 y0 y1 y2 y3 yf
          have y0 := x2.at 0 rfl
          have y1 := x2.at 1 rfl
          have y2 := x2.at 2 rfl
          have y3 := x2.at 3 rfl
          have yf := x2.cold
          go_wp2_with fail
          refine (C3.out A2 r2.length c2 B _ (hw2.below ((below_set b2 (Nat.le_refl _) _).mono hB)) hc2 hm2).mono ?_
          rintro e w3 ⟨⟨A3, c3, rfl, hr3, hc3, hm3⟩, q3, hq3⟩
          have b3 : Below w.heap.size w w3 := by rw [hq3]; exact below_drewN (below_set b2 (Nat.le_refl _) _) q3
          have x3 : Box w3 w.heap.size 24 #[.int .i64 N1, .string (strB s2), .int .i64 0, .slice none 0 0] := by rw [hq3]; exact (x2.set 1 (.string (strB s2))).drewN q3
          have hw3 := hr3.back b3 hB
          clear hq3 y0 y1 y2 y3 yf
          have y0 := x3.at 0 rfl
          have y1 := x3.at 1 rfl
          have y2 := x3.at 2 rfl
          have y3 := x3.at 3 rfl
          have yf := x3.cold
          go_wp2_with fail
          refine (C4.out A3 r3.length c3 B _ (hw3.below ((below_set b3 (Nat.le_refl _) _).mono hB)) hc3 hm3).mono ?_
          rintro e w4 ⟨⟨A4, c4, rfl, hr4, hc4, hm4⟩, q4, hq4⟩
          have b4 : Below w.heap.size w w4 := by rw [hq4]; exact below_drewN (below_set b3 (Nat.le_refl _) _) q4
          have x4 : Box w4 w.heap.size 24 #[.int .i64 N1, .string (strB s2), .int .i64 N3, .slice none 0 0] := by rw [hq4]; exact (x3.set 2 (.int .i64 N3)).drewN q4
          have hw4 := hr4.back b4 hB
          clear hq4 y0 y1 y2 y3 yf
          have y0 := x4.at 0 rfl
          have y1 := x4.at 1 rfl
          have y2 := x4.at 2 rfl
          have y3 := x4.at 3 rfl
          have yf := x4.cold
          go_wp2
          refine bodyPost_ret (by simp [results, Try.results27, go_sem, y0, y1, y2, y3]; try rfl) rfl ?_
          have ep := EP.out
          rw [if_neg (by decide : ¬ (0 : Nat) ≠ 0), if_neg (by decide : ¬ (0 : Nat) ≠ 0), if_neg (by decide : ¬ (0 : Nat) ≠ 0), if_pos HE.out] at ep
          rw [ep]
          exact FrameR.none (below_set (below_set (below_set (below_set b4 (Nat.le_refl _) _) (Nat.le_refl _) _) (Nat.le_refl _) _) (Nat.le_refl _) _)
      · have t3 : ((er3 : Int) != 0) = true := by rw [bne_iff_ne]; omega
        have HE := Lib.hid he3
        clear he3
        go_enter Try.func27, Try.ntmps27
        go_wp2_with fail
        refine (C1.out A n c B _ (h.below (b0.mono hB)) hc hm).mono ?_
        rintro e w1 ⟨⟨A1, c1, rfl, hr1, hc1, hm1⟩, q1, hq1⟩
        have b1 : Below w.heap.size w w1 := by rw [hq1]; exact below_drewN b0 q1
        have x1 : Box w1 w.heap.size 24 #[.int .i64 0, .string ⟨#[]⟩, .int .i64 0, .slice none 0 0] := by rw [hq1]; exact x0.drewN q1
        have hw1 := hr1.back b1 hB
        clear hq1
        have y0 := x1.at 0 rfl
        have y1 := x1.at 1 rfl
        have y2 := x1.at 2 rfl
        have y3 := x1.at 3 rfl
        have yf := x1.cold
        go_wp2_with fail
        refine (C2.out A1 r1.length c1 B _ (hw1.below ((below_set b1 (Nat.le_refl _) _).mono hB)) hc1 hm1).mono ?_
        rintro e w2 ⟨⟨A2, c2, rfl, hr2, hc2, hm2⟩, q2, hq2⟩
        have b2 : Below w.heap.size w w2 := by rw [hq2]; exact below_drewN (below_set b1 (Nat.le_refl _) _) q2
        have x2 : Box w2 w.heap.size 24 #[.int .i64 N1, .string ⟨#[]⟩, .int .i64 0, .slice none 0 0] := by rw [hq2]; exact (x1.set 0 (.int .i64 N1)).drewN q2
        have hw2 := hr2.back b2 hB
        clear hq2 y0 y1 y2 y3 yf
        have y0 := x2.at 0 rfl
        have y1 := x2.at 1 rfl
        have y2 := x2.at 2 rfl
        have y3 := x2.at 3 rfl
        have yf := x2.cold
        go_wp2_with fail
        refine (C3.out A2 r2.length c2 B _ (hw2.below ((below_set b2 (Nat.le_refl _) _).mono hB)) hc2 hm2).mono ?_
        rintro e w3 ⟨⟨A3, c3, rfl, hr3, hc3, hm3⟩, q3, hq3⟩
        have b3 : Below w.heap.size w w3 := by rw [hq3]; exact below_drewN (below_set b2 (Nat.le_refl _) _) q3
        have x3 : Box w3 w.heap.size 24 #[.int .i64 N1, .string (strB s2), .int .i64 0, .slice none 0 0] := by rw [hq3]; exact (x2.set 1 (.string (strB s2))).drewN q3
        have hw3 := hr3.back b3 hB
        clear hq3 y0 y1 y2 y3 yf
        have y0 := x3.at 0 rfl
        have y1 := x3.at 1 rfl
        have y2 := x3.at 2 rfl
        have y3 := x3.at 3 rfl
        have yf := x3.cold
        go_wp2
        refine bodyPost_ret (by simp [results, Try.results27, go_sem, y0, y1, y2, y3]; try rfl) rfl ?_
        have ep := EP.out
        rw [if_neg (by decide : ¬ (0 : Nat) ≠ 0), if_neg (by decide : ¬ (0 : Nat) ≠ 0), if_pos HE.out] at ep
        rw [ep]
        exact FrameR.none (below_set (below_set (below_set (below_set (below_set b3 (Nat.le_refl _) _) (Nat.le_refl _) _) (Nat.le_refl _) _) (Nat.le_refl _) _) (Nat.le_refl _) _)
    · have t2 : ((er2 : Int) != 0) = true := by rw [bne_iff_ne]; omega
      have HE := Lib.hid he2
      clear he2
      go_enter Try.func27, Try.ntmps27
      go_wp2_with fail
      refine (C1.out A n c B _ (h.below (b0.mono hB)) hc hm).mono ?_
      rintro e w1 ⟨⟨A1, c1, rfl, hr1, hc1, hm1⟩, q1, hq1⟩
      have b1 : Below w.heap.size w w1 := by rw [hq1]; exact below_drewN b0 q1
      have x1 : Box w1 w.heap.size 24 #[.int .i64 0, .string ⟨#[]⟩, .int .i64 0, .slice none 0 0] := by rw [hq1]; exact x0.drewN q1
      have hw1 := hr1.back b1 hB
      clear hq1
      have y0 := x1.at 0 rfl
      have y1 := x1.at 1 rfl
      have y2 := x1.at 2 rfl
      have y3 := x1.at 3 rfl
      have yf := x1.cold
      go_wp2_with fail
      refine (C2.out A1 r1.length c1 B _ (hw1.below ((below_set b1 (Nat.le_refl _) _).mono hB)) hc1 hm1).mono ?_
      rintro e w2 ⟨⟨A2, c2, rfl, hr2, hc2, hm2⟩, q2, hq2⟩
      have b2 : Below w.heap.size w w2 := by rw [hq2]; exact below_drewN (below_set b1 (Nat.le_refl _) _) q2
      have x2 : Box w2 w.heap.size 24 #[.int .i64 N1, .string ⟨#[]⟩, .int .i64 0, .slice none 0 0] := by rw [hq2]; exact (x1.set 0 (.int .i64 N1)).drewN q2
      have hw2 := hr2.back b2 hB
      clear hq2 y0 y1 y2 y3 yf
      have y0 := x2.at 0 rfl
      have y1 := x2.at 1 rfl
      have y2 := x2.at 2 rfl
      have y3 := x2.at 3 rfl
      have yf := x2.cold
      go_wp2
      refine bodyPost_ret (by simp [results, Try.results27, go_sem, y0, y1, y2, y3]; try rfl) rfl ?_
      have ep := EP.out
      rw [if_neg (by decide : ¬ (0 : Nat) ≠ 0), if_pos HE.out] at ep
      rw [ep]
      exact FrameR.none (below_set (below_set (below_set (below_set (below_set b2 (Nat.le_refl _) _) (Nat.le_refl _) _) (Nat.le_refl _) _) (Nat.le_refl _) _) (Nat.le_refl _) _)
  · have t1 : ((er1 : Int) != 0) = true := by rw [bne_iff_ne]; omega
    have HE := Lib.hid he1
    clear he1
    go_enter Try.func27, Try.ntmps27
    go_wp2_with fail
    refine (C1.out A n c B _ (h.below (b0.mono hB)) hc hm).mono ?_
    rintro e w1 ⟨⟨A1, c1, rfl, hr1, hc1, hm1⟩, q1, hq1⟩
    have b1 : Below w.heap.size w w1 := by rw [hq1]; exact below_drewN b0 q1
    have x1 : Box w1 w.heap.size 24 #[.int .i64 0, .string ⟨#[]⟩, .int .i64 0, .slice none 0 0] := by rw [hq1]; exact x0.drewN q1
    have hw1 := hr1.back b1 hB
    clear hq1
    have y0 := x1.at 0 rfl
    have y1 := x1.at 1 rfl
    have y2 := x1.at 2 rfl
    have y3 := x1.at 3 rfl
    have yf := x1.cold
    go_wp2
    refine bodyPost_ret (by simp [results, Try.results27, go_sem, y0, y1, y2, y3]; try rfl) rfl ?_
    have ep := EP.out
    rw [if_pos HE.out] at ep
    rw [ep]
    exact FrameR.none (below_set (below_set (below_set (below_set (below_set b1 (Nat.le_refl _) _) (Nat.le_refl _) _) (Nat.le_refl _) _) (Nat.le_refl _) _) (Nat.le_refl _) _)
end Go.Proofs.Ytbnbljkkfgieoaa
