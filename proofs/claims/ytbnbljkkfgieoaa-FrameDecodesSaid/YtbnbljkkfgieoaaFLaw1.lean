/- The walk of FrameEncodes. -/
import Derived.Test.YtbnbljkkfgieoaaFAlive
import Derived.Test.YtbnbljkkfgieoaaFRows
import Derived.Deep.RegionHeld3
namespace Go.Proofs.Ytbnbljkkfgieoaa
set_option linter.unusedVariables false
set_option linter.unusedSimpArgs false
open Go.RowKit

namespace F
def encL (f : Fr) : List UInt8 := if may f then enc f else []
def encE (f : Fr) : Int := if may f then 0 else 1
theorem encL_le (f : Fr) : (encL f).length ≤ 30073 := by
  unfold encL
  split
  · rename_i h
    have := length_enc_le f h
    obtain ⟨_, _, _, h4, _, _, h7⟩ := h
    omega
  · simp
end F
/-- what Encode answers -/
def EncR (f : Fr) (w : World) (e : Ending) (w' : World) : Prop :=
  (∃ A' c', e = .returned (.tuple #[.slice A' (F.encL f).length c', .int .i64 (F.encE f)]) ∧ Rd w' w'.heap.size 1 A' (F.encL f).length (U (F.encL f)) ∧ (F.encL f).length ≤ c' ∧ c' ≤ 9223372036854775807) ∧ Below w.heap.size w w'
theorem EncR.of {f : Fr} {w : World} {e : Ending} {w' : World} (h : (F.may f ∧ (∃ A' c', e = .returned (.tuple #[.slice A' (F.enc f).length c', .int .i64 0]) ∧ w'.ownsRow w.heap.size 5 1 (.slice A' (F.enc f).length c') (F.enc f).length (U (F.enc f))) ∨
      ¬ F.may f ∧ e = .returned (.tuple #[.slice none 0 0, .int .i64 1])) ∧ Below w.heap.size w w') : EncR f w e w' := by
  obtain ⟨h, hb⟩ := h
  refine ⟨?_, hb⟩
  rcases h with ⟨hm, A, c, rfl, hown⟩ | ⟨hm, rfl⟩
  · have e1 : F.encL f = F.enc f := if_pos hm
    have e2 : F.encE f = 0 := if_pos hm
    rw [e1, e2]
    exact ⟨A, c, rfl, Rd.of_own hown, own_cap hown⟩
  · have e1 : F.encL f = [] := if_neg hm
    have e2 : F.encE f = 1 := if_neg hm
    rw [e1, e2]
    exact ⟨none, 0, rfl, Rd.zero _ _ _ _, Nat.le_refl _, by omega⟩
theorem encode_r (f : Fr) (A : Option Addr) (n c B : Nat) (w : World) (h : Rd w B 1 A n (U f.pay)) (hB : B ≤ w.heap.size) :
    Calls Try.prog 9 #[fv f A n c] w (EncR f w) := (encode_any f A n c B w h hB).mono fun _ _ h => EncR.of h
theorem rencode_r (f : Fr) (A : Option Addr) (n c B : Nat) (w : World) (h : Rd w B 1 A n (U f.pay)) (hB : B ≤ w.heap.size) :
    Calls Try.prog 10 #[fv f A n c] w (EncR f w) := (rencode_any f A n c B w h hB).mono fun _ _ h => EncR.of h

/-- the cells of a frame's box -/
def fcells (f : Fr) (A : Option Addr) (n c : Nat) : Array Value := #[.int .i64 f.kind, .string (strB f.clu), .int .i64 f.frm, .slice A n c]

theorem fbox {w : World} {b : Nat} {T : TypeId} {f : Fr} {A : Option Addr} {n c : Nat} (h : Box w b T (fcells f A n c)) :
    w.cell? ⟨b, 0, none⟩ = some (.int .i64 f.kind) ∧ w.cell? ⟨b, 1, none⟩ = some (.string (strB f.clu)) ∧ w.cell? ⟨b, 2, none⟩ = some (.int .i64 f.frm) ∧ w.cell? ⟨b, 3, none⟩ = some (.slice A n c) :=
  ⟨h.at 0 rfl, h.at 1 rfl, h.at 2 rfl, h.at 3 rfl⟩
theorem same_yes (A A' : Option Addr) (n n' c c' B B' : Nat) (l : List UInt8) (w : World) (h : Rd w B 1 A n (U l)) (h' : Rd w B' 1 A' n' (U l)) :
    Calls Try.prog 11 #[.slice A n c, .slice A' n' c'] w fun e w' => e = .returned (.bool true) ∧ w = w' :=
  (same_any A A' n n' c c' B B' l l w h h').mono fun _ _ ⟨h1, h2⟩ => ⟨by rw [h1, decide_eq_true rfl], h2⟩
theorem fsame_yes (f : Fr) (A : Option Addr) (n c B : Nat) (w : World) (h : Rd w B 1 A n (U f.pay)) (hB : B ≤ w.heap.size) :
    Calls Try.prog 14 #[fv f A n c, fv f A n c] w fun e w' => e = .returned (.bool true) ∧ Below w.heap.size w w' :=
  (fsame_any f f A A n n c c B B w h h hB hB).mono fun _ _ ⟨h1, h2⟩ => ⟨by rw [h1, sameB, decide_eq_true rfl], h2⟩

set_option maxHeartbeats 3200000 in
set_option maxRecDepth 20000 in
theorem law_FrameEncodes (f : Fr) (A : Option Addr) (n c : Nat) (g : Fr) (A' : Option Addr) (n' c' : Nat) (w : World) (w0 : FrameIn w f A n c) (w1 : FrameIn w g A' n' c') :
    Calls Try.prog 3 #[fv f A n c, fv g A' n' c'] w fun e w' => e = .returned (.bool true) ∧ Below w.heap.size w w' := by
  obtain ⟨hf, hfc, hfm, hfl⟩ := w0
  obtain ⟨hg, hgc, hgm, hgl⟩ := w1
  have hn : n = f.pay.length := by have := hf.len1; rw [U_length] at this; exact this.symm
  have hn' : n' = g.pay.length := by have := hg.len1; rw [U_length] at this; exact this.symm
  have HN := Lib.hid hn
  have HN' := Lib.hid hn'
  clear hn hn'
  have b0 : Below w.heap.size w ((w.alloc (.cells (fcells f A n c) 24)).alloc (.cells (fcells g A' n' c') 24)) := ((Below.refl _ _).alloc (Nat.le_refl _) _).alloc (by simp) _
  have x0 : Box ((w.alloc (.cells (fcells f A n c) 24)).alloc (.cells (fcells g A' n' c') 24)) w.heap.size 24 (fcells f A n c) := (Box.new w _ _).alloc _
  have x1 : Box ((w.alloc (.cells (fcells f A n c) 24)).alloc (.cells (fcells g A' n' c') 24)) (w.heap.size + 1) 24 (fcells g A' n' c') := by
    have := Box.new (w.alloc (.cells (fcells f A n c) 24)) (fcells g A' n' c') 24
    rwa [show (w.alloc (.cells (fcells f A n c) 24)).heap.size = w.heap.size + 1 by simp] at this
  go_enter Try.func3, Try.ntmps3
  simp only [fv]
  go_wp2_with fail
  refine (alive_any _).mono ?_
  rintro e u1 ⟨rfl, hb1⟩
  have b1 : Below w.heap.size w u1 := b0.trans (hb1.mono b0.size)
  have x2 := x0.belowH hb1
  have x3 := x1.belowH hb1
  obtain ⟨y0, y1, y2, y3⟩ := fbox x2
  obtain ⟨v0, v1, v2, v3⟩ := fbox x3
  go_wp2_with fail
  refine (great_any f A n c _ HN.out).mono ?_
  rintro e u2 ⟨rfl, hb2⟩
  have b2 : Below w.heap.size w u2 := b1.trans (hb2.mono b1.size)
  have x4 := x2.belowH hb2
  have x5 := x3.belowH hb2
  clear y0 y1 y2 y3 v0 v1 v2 v3
  obtain ⟨y0, y1, y2, y3⟩ := fbox x4
  obtain ⟨v0, v1, v2, v3⟩ := fbox x5
  rcases hgr : greatB f
  · go_wp2_with fail
    refine (great_any g A' n' c' _ HN'.out).mono ?_
    rintro e u3 ⟨rfl, hb3⟩
    have b3 : Below w.heap.size w u3 := b2.trans (hb3.mono b2.size)
    have x6 := x4.belowH hb3
    have x7 := x5.belowH hb3
    clear y0 y1 y2 y3 v0 v1 v2 v3
    obtain ⟨y0, y1, y2, y3⟩ := fbox x6
    obtain ⟨v0, v1, v2, v3⟩ := fbox x7
    rcases hgr2 : greatB g
    · have hf3 := hf.belowH b3
      go_wp2_with fail
      refine (encode_r f A n c _ _ hf3 (Nat.le_refl _)).mono ?_
      rintro e u4 ⟨⟨A4, c4, rfl, hr4, hc4, hm4⟩, hb4⟩
      have b4 : Below w.heap.size w u4 := b3.trans (hb4.mono b3.size)
      have x8 := x6.belowH hb4
      have x9 := x7.belowH hb4
      clear y0 y1 y2 y3 v0 v1 v2 v3
      obtain ⟨y0, y1, y2, y3⟩ := fbox x8
      have hf4 := hf.belowH b4
      go_wp2_with fail
      refine (rencode_r f A n c _ _ hf4 (Nat.le_refl _)).mono ?_
      rintro e u5 ⟨⟨A5, c5, rfl, hr5, hc5, hm5⟩, hb5⟩
      have b5 : Below w.heap.size w u5 := b4.trans (hb5.mono b4.size)
      have x10 := x8.belowH hb5
      have x11 := x9.belowH hb5
      clear y0 y1 y2 y3
      obtain ⟨y0, y1, y2, y3⟩ := fbox x10
      obtain ⟨v0, v1, v2, v3⟩ := fbox x11
      have hf5 := hf.belowH b5
      have hg5 := hg.belowH b5
      have hr4' := hr4.belowH hb5
      have cR := fun w => right_any f A n c w HN.out
      have cQ := fun w => rright_any f A n c w HN.out
      have cS := fun w h h' => fsame_any f g A A' n n' c c' _ _ w h h' (Nat.le_refl _) (Nat.le_refl _)
      have cT := fun w h h' => rfsame_any f g A A' n n' c c' _ _ w h h' (Nat.le_refl _) (Nat.le_refl _)
      generalize rightB f = rb at cR cQ
      generalize sameB f g = sb at cS cT
      simp only [fv] at cR cQ cS cT
      have CR := Lib.hid cR
      have CQ := Lib.hid cQ
      have CS := Lib.hid cS
      have CT := Lib.hid cT
      clear cR cQ cS cT hr4 hc4 hm4 hc5 hm5 hgr hgr2
      generalize F.encL f = L at *
      generalize F.encE f = E at *
      go_wp2
      have xa5 := x10.drew
      have xb5 := x11.drew
      have b5 := b5.drew
      have hr4' := hr4'.drew
      have hr5 := hr5.drew
      clear x0 x1 x2 x3 x4 x5 x6 x7 x8 x9 x10 x11 hf3 hf4 hf5 hg5
      go_region_held3 (fun w' => w'.cell? ⟨w.heap.size, 0, none⟩ = some (.int .i64 f.kind) ∧ w'.cell? ⟨w.heap.size, 1, none⟩ = some (.string (strB f.clu)) ∧ w'.cell? ⟨w.heap.size, 2, none⟩ = some (.int .i64 f.frm) ∧ w'.cell? ⟨w.heap.size, 3, none⟩ = some (.slice A n c) ∧ w'.cell? ⟨w.heap.size + 1, 0, none⟩ = some (.int .i64 g.kind) ∧ w'.cell? ⟨w.heap.size + 1, 1, none⟩ = some (.string (strB g.clu)) ∧ w'.cell? ⟨w.heap.size + 1, 2, none⟩ = some (.int .i64 g.frm) ∧ w'.cell? ⟨w.heap.size + 1, 3, none⟩ = some (.slice A' n' c')) (go_keep)
        (first
        | (go_at_call 11; refine (same_yes A4 A5 _ _ c4 c5 _ _ L _ hr4' hr5).mono ?_; rintro e w' ⟨rfl, rfl⟩)
        | (go_at_call 12; refine (CR.out _).mono ?_; rintro e u6 ⟨rfl, hb6⟩; have b6 : Below w.heap.size w u6 := Below.trans b5 (hb6.mono b5.size); have xa6 := xa5.belowH hb6; have xb6 := xb5.belowH hb6; obtain ⟨ya6, yb6, yc6, yd6⟩ := fbox xa6; obtain ⟨va6, vb6, vc6, vd6⟩ := fbox xb6)
        | (go_at_call 13; refine (CQ.out _).mono ?_; rintro e u7 ⟨rfl, hb7⟩; have b7 : Below w.heap.size w u7 := Below.trans b6 (hb7.mono b6.size); have xa7 := xa6.belowH hb7; have xb7 := xb6.belowH hb7; obtain ⟨ya7, yb7, yc7, yd7⟩ := fbox xa7; obtain ⟨va7, vb7, vc7, vd7⟩ := fbox xb7)
        | (go_at_call 14; (with_reducible refine (CS.out _ (hf.belowH b7) (hg.belowH b7)).mono ?_); rintro e u8 ⟨rfl, hb8⟩; have b8 : Below w.heap.size w u8 := Below.trans b7 (hb8.mono b7.size); have xa8 := xa7.belowH hb8; have xb8 := xb7.belowH hb8; obtain ⟨ya8, yb8, yc8, yd8⟩ := fbox xa8; obtain ⟨va8, vb8, vc8, vd8⟩ := fbox xb8)
        | (go_at_call 15; refine (CT.out _ (hf.belowH b8) (hg.belowH b8)).mono ?_; rintro e u9 ⟨rfl, hb9⟩; have b9 : Below w.heap.size w u9 := Below.trans b8 (hb9.mono b8.size); have xa9 := xa8.belowH hb9; have xb9 := xb8.belowH hb9; obtain ⟨ya9, yb9, yc9, yd9⟩ := fbox xa9; obtain ⟨va9, vb9, vc9, vd9⟩ := fbox xb9)
        | (go_at_call 14; refine (fsame_yes f A n c _ _ (hf.belowH b9) (Nat.le_refl _)).mono ?_; rintro e u10 ⟨rfl, hb10⟩; have b10 : Below w.heap.size w u10 := Below.trans b9 (hb10.mono b9.size); have xa10 := xa9.belowH hb10; have xb10 := xb9.belowH hb10; obtain ⟨ya10, yb10, yc10, yd10⟩ := fbox xa10; obtain ⟨va10, vb10, vc10, vd10⟩ := fbox xb10))
      go_wp2
      go_ret
      exact ⟨rfl, b10⟩
    · go_wp2
      go_ret
      exact ⟨rfl, b3⟩
  · go_wp2
    go_ret
    exact ⟨rfl, b2⟩
end Go.Proofs.Ytbnbljkkfgieoaa
