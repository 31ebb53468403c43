/- ZBegins (merged). -/
import Derived.Deep.DeepCutAuto
import Derived.Deep.QuietTactic
import Derived.Test.YtbioblknhfmelaaJZAlive
namespace Go.Proofs.Ytbioblknhfmelaa
set_option linter.unusedVariables false
set_option linter.unusedSimpArgs false
open Go.RowKit
/-- two records were laid, in either order -/
def TwoR (w : World) (x y : Rrc) (s6 s7 : Value) (wx : World) : Prop := ∃ bx by_, s6 = .pointer (some ⟨bx, 0, none⟩) ∧ s7 = .pointer (some ⟨by_, 0, none⟩) ∧
  Box wx bx 50 #[.string (strB x.name), .int .i64 x.typ, .int .i64 x.cls, .int .i64 x.ttl, .string (strB x.data)] ∧
  Box wx by_ 50 #[.string (strB y.name), .int .i64 y.typ, .int .i64 y.cls, .int .i64 y.ttl, .string (strB y.data)] ∧ Below w.heap.size w wx
theorem two_laid1 (w : World) (x y : Rrc) : TwoR w x y (.pointer (some ⟨w.heap.size, 0, none⟩)) (.pointer (some ⟨w.heap.size + 1, 0, none⟩)) ((w.alloc (.cells #[.string (strB x.name), .int .i64 x.typ, .int .i64 x.cls, .int .i64 x.ttl, .string (strB x.data)] 50)).alloc (.cells #[.string (strB y.name), .int .i64 y.typ, .int .i64 y.cls, .int .i64 y.ttl, .string (strB y.data)] 50)).drew := by
  have Y := Box.new (w.alloc (.cells #[.string (strB x.name), .int .i64 x.typ, .int .i64 x.cls, .int .i64 x.ttl, .string (strB x.data)] 50)) #[.string (strB y.name), .int .i64 y.typ, .int .i64 y.cls, .int .i64 y.ttl, .string (strB y.data)] 50
  rw [World.size_alloc] at Y
  exact ⟨_, _, rfl, rfl, ((Box.new w _ _).alloc _).drew, Y.drew, (((Below.refl _ _).alloc (Nat.le_refl _) _).alloc (by simp) _).drew⟩
theorem two_laid2 (w : World) (x y : Rrc) : TwoR w x y (.pointer (some ⟨w.heap.size + 1, 0, none⟩)) (.pointer (some ⟨w.heap.size, 0, none⟩)) ((w.alloc (.cells #[.string (strB y.name), .int .i64 y.typ, .int .i64 y.cls, .int .i64 y.ttl, .string (strB y.data)] 50)).alloc (.cells #[.string (strB x.name), .int .i64 x.typ, .int .i64 x.cls, .int .i64 x.ttl, .string (strB x.data)] 50)).drew := by
  have Y := Box.new (w.alloc (.cells #[.string (strB y.name), .int .i64 y.typ, .int .i64 y.cls, .int .i64 y.ttl, .string (strB y.data)] 50)) #[.string (strB x.name), .int .i64 x.typ, .int .i64 x.cls, .int .i64 x.ttl, .string (strB x.data)] 50
  rw [World.size_alloc] at Y
  exact ⟨_, _, rfl, rfl, Y.drew, ((Box.new w _ _).alloc _).drew, (((Below.refl _ _).alloc (Nat.le_refl _) _).alloc (by simp) _).drew⟩
set_option maxHeartbeats 4000000 in
set_option maxRecDepth 20000 in
theorem begins_any (l m : List Rrc) (A A2 : Option Addr) (n c n2 c2 : Nat) (w : World) (h : Rd w w.heap.size 5 A n (RC l)) (h2 : Rd w w.heap.size 5 A2 n2 (RC m)) (hb : Pk.begins l m) (hl : ∀ r ∈ l, r.name.length ≤ 100000) (hm : ∀ r ∈ m, r.name.length ≤ 100000) (hn : n ≤ 10000) (hn2 : n2 ≤ 10000) :
    Calls Try.prog 18 #[.slice A n c, .slice A2 n2 c2] w (BoB true w) := by
  have L1 := Lib.hid h.lenR
  have L2 := Lib.hid h2.lenR
  have hle : n ≤ n2 := by have := hb.1; have := L1.out; have := L2.out; omega
  have HB := Lib.hid hb
  have HL := Lib.hid hl
  have HM := Lib.hid hm
  clear hb hl hm
  go_enter Try.func18, Try.ntmps18
  go_wp2
  go_loopw [5] (fun i wr => ∃ k : Nat, k ≤ n ∧ i = .int .i64 (k : Int) ∧ Below w.heap.size w wr) (fun i _ => n - (intOf i).toNat)
  case atStart => exact ⟨0, Nat.zero_le _, rfl, Below.refl _ _⟩
  case round =>
    obtain ⟨k, hk, rfl, b⟩ := hrel
    by_cases hlt : k < n
    · have hlt2 : k < n2 := by omega
      obtain ⟨p, o, x, rfl, hp, hx, x0, x1, x2, x3, x4⟩ := (h.belowH b).atR hlt
      obtain ⟨p', o', y, rfl, hp', hy, y0, y1, y2, y3, y4⟩ := (h2.belowH b).atR hlt2
      have NE := Lib.hid (HB.out.2 k x y hx hy)
      have NX := Lib.hid (HL.out x (List.mem_of_getElem? hx))
      have NY := Lib.hid (HM.out y (List.mem_of_getElem? hy))
      have hk0 : (0 : Int) ≤ (k : Int) := by omega
      clear hx hy
      go_upto_region 4 with fail
      go_cut [6, 7] (TwoR wr x y)
      case first =>
        go_region
        all_goals go_wp2_with fail
        all_goals go_meet
        · exact two_laid1 wr x y
        · exact two_laid2 wr x y
      case rest =>
        obtain ⟨bx, by_, rfl, rfl, X, Y, bw⟩ := hcut
        replace b := b.trans (bw.mono b.size)
        clear x0 x1 x2 x3 x4 y0 y1 y2 y3 y4 bw hp hp'
        obtain ⟨e0, e1, e2, e3, e4⟩ := NE.out
        have E0 := Lib.hid e0
        obtain ⟨yn, yt, yc, yl, yd⟩ := y
        simp only at e1 e2 e3 e4 X Y
        subst e1 e2 e3 e4
        clear e0
        have x0 := X.at 0 rfl
        have x1 := X.at 1 rfl
        have x2 := X.at 2 rfl
        have x3 := X.at 3 rfl
        have x4 := X.at 4 rfl
        have y0 := Y.at 0 rfl
        have y1 := Y.at 1 rfl
        have y2 := Y.at 2 rfl
        have y3 := Y.at 3 rfl
        have y4 := Y.at 4 rfl
        go_wp2_with fail
        refine (rsamel_at E0.out NX.out NY.out _).mono ?_
        rintro e w5 ⟨rfl, hb5⟩
        replace X := X.belowH hb5
        replace Y := Y.belowH hb5
        replace b := b.trans (hb5.mono b.size)
        clear x0 x1 x2 x3 x4 y0 y1 y2 y3 y4 hb5
        have x1 := X.at 1 rfl
        have x2 := X.at 2 rfl
        have x3 := X.at 3 rfl
        have x4 := X.at 4 rfl
        have y1 := Y.at 1 rfl
        have y2 := Y.at 2 rfl
        have y3 := Y.at 3 rfl
        have y4 := Y.at 4 rfl
        go_wp2
        go_roundw
        case rel => exact ⟨k + 1, hlt, by go_num, b⟩
        case measure => simp [intOf]; omega
    · have g1 : decide ((n : Int) ≤ (n2 : Int)) = true := decide_eq_true (by omega)
      go_wp2
      go_ret
      exact ⟨rfl, b⟩
end Go.Proofs.Ytbioblknhfmelaa

