/- The walk of FrameDecodes. -/
import Derived.Test.YtbnbljkkfgieoaaFAlive
import Derived.Test.YtbnbljkkfgieoaaFRows
import Derived.Test.YtbnbljkkfgieoaaFDec3
import Derived.Test.YtbnbljkkfgieoaaFLaw1
namespace Go.Proofs.Ytbnbljkkfgieoaa
set_option linter.unusedVariables false
set_option linter.unusedSimpArgs false
open Go.RowKit

theorem FrameR.cap {er : Int} {f : Fr} {w : World} {e : Ending} {w' : World} (h : FrameR er f w e w') : ∃ A' c', e = .returned (.tuple #[fv f A' f.pay.length c', .int .i64 er]) ∧ Rd w' w'.heap.size 1 A' f.pay.length (U f.pay) ∧ Below w.heap.size w w' := by
  obtain ⟨⟨A', c', h1, h2, _, _⟩, h3⟩ := h
  exact ⟨A', c', h1, h2, h3⟩
theorem rfsame_yes (f : Fr) (A A' : Option Addr) (n n' c c' B B' : Nat) (w : World) (h : Rd w B 1 A n (U f.pay)) (h' : Rd w B' 1 A' n' (U f.pay)) (hB : B ≤ w.heap.size) (hB' : B' ≤ w.heap.size) :
    Calls Try.prog 15 #[fv f A n c, fv f A' n' c'] w fun e w' => e = .returned (.bool true) ∧ Below w.heap.size w w' :=
  (rfsame_any f f A A' n n' c c' B B' w h h' hB hB').mono fun _ _ ⟨h1, h2⟩ => ⟨by rw [h1, sameB, decide_eq_true rfl], h2⟩

set_option maxHeartbeats 1600000 in
set_option maxRecDepth 20000 in
theorem law_FrameDecodes (a0 : Option Addr) (len0 cap0 : Nat) (z0 : List Int) (a1 : ByteArray) (w : World) (w0 : Row .u8 w a0 len0 cap0 z0) (w1 : a1.size ≤ maxLen) :
    Calls Try.prog 4 #[.slice a0 len0 cap0, .string a1] w fun e w' => e = .returned (.bool true) ∧ Below w.heap.size w w' := by
  obtain ⟨l, hl, hr⟩ := w0.bytes
  have hc := w0.cap_
  obtain ⟨cl, rfl⟩ : ∃ cl, a1 = strB cl := ⟨a1.data.toList, rfl⟩
  have hcl : (strB cl).size = cl.length := strB_size cl
  have HL := Lib.hid hl
  unfold maxLen at w1
  clear w0 hl
  by_cases h1 : 4000 < len0
  · go_enter Try.func4, Try.ntmps4
    go_wp2_with (go_at_call 7; refine (alive_any _).mono ?_; rintro e w1 ⟨rfl, hb1⟩)
    go_ret
    exact ⟨rfl, hb1⟩
  by_cases h2 : 300 < cl.length
  · go_enter Try.func4, Try.ntmps4
    go_wp2_with (go_at_call 7; refine (alive_any _).mono ?_; rintro e w1 ⟨rfl, hb1⟩)
    go_ret
    exact ⟨rfl, hb1⟩
  go_enter Try.func4, Try.ntmps4
  go_wp2_with fail
  refine (alive_any _).mono ?_
  rintro e u1 ⟨rfl, b1⟩
  go_wp2_with fail
  refine (decode_any l cl a0 len0 cap0 _ _ (hr.belowH b1) (Nat.le_refl _) hc.1 (by omega)).mono ?_
  intro e u2 hd
  obtain ⟨A2, c2, rfl, hr2, hb2⟩ := hd.cap
  clear hd
  have b2 : Below w.heap.size w u2 := b1.trans (hb2.mono b1.size)
  have cR := fun c w h hB hc hm => rdecode_any l cl a0 len0 cap0 c w h hB hc (by omega) hm
  generalize F.dec l cl = X at *
  obtain ⟨er, g⟩ := X
  dsimp only at *
  have CR := Lib.hid cR
  clear cR
  have x2 := Box.new u2 (fcells g A2 g.pay.length c2) 24
  have hr3 : Rd (u2.alloc (.cells (fcells g A2 g.pay.length c2) 24)) u2.heap.size 1 A2 g.pay.length (U g.pay) := hr2.alloc (Nat.le_refl _) _
  have b3 : Below w.heap.size w (u2.alloc (.cells (fcells g A2 g.pay.length c2) 24)) := b2.alloc b2.size _
  simp only [fv]
  go_wp2_with fail
  refine (CR.out _ _ (hr.belowH b3) (Nat.le_refl _) hc.1 hc.2).mono ?_
  intro e u3 hd
  obtain ⟨A3, c3, rfl, hr4, hb3⟩ := hd.cap
  clear hd
  have b4 : Below w.heap.size w u3 := b3.trans (hb3.mono b3.size)
  have x3 := x2.belowH hb3
  have hr5 := (hr3.below (hb3.mono (by simp)))
  have z3 := x3.lt
  obtain ⟨y0, y1, y2, y3⟩ := fbox x3
  have b5 : Below w.heap.size w (u3.alloc (.cells (fcells g A3 g.pay.length c3) 24)) := b4.alloc b4.size _
  simp only [fv]
  go_wp2_with fail
  refine (rfsame_yes g A2 A3 _ _ c2 c3 u2.heap.size u3.heap.size _ (hr5.alloc (by omega) _) (hr4.alloc (Nat.le_refl _) _) (by simp; omega) (by simp)).mono ?_
  rintro e u4 ⟨rfl, hb4⟩
  go_wp2
  go_ret
  exact ⟨rfl, b5.trans (hb4.mono b5.size)⟩
end Go.Proofs.Ytbnbljkkfgieoaa
