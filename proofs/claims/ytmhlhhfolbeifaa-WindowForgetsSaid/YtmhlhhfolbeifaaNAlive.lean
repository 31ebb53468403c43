/- The fixed fact of window's laws. -/
import Derived.Test.YtmhlhhfolbeifaaNCode
namespace Go.Proofs.Ytmhlhhfolbeifaa
set_option linter.unusedVariables false
set_option linter.unusedSimpArgs false
open Go.RowKit
theorem arr1 : arr N.new 5 10 = (⟨5, []⟩, 0) := by decide
theorem arr2 : arr ⟨5, []⟩ 8 10 = (⟨8, [3]⟩, 0) := by decide
theorem arr3 : arr ⟨8, [3]⟩ 20 10 = (⟨20, [3, 10]⟩, 0) := by decide
theorem arr4 : arr ⟨20, [3, 10]⟩ 19 10 = (⟨20, [3, 10]⟩, 1) := by decide
theorem mean1 : N.mean ⟨20, [3, 10]⟩ 1 = 6 := by decide
theorem mean2 : N.mean N.new 4 = 4 := by decide
theorem wv_len {w : World} {x : Wi} {A : Option Addr} {n c : Nat} (h : WRd w ⟨x, A, n, c⟩) : x.gaps.length = n := h.len
theorem wv_le {w : World} {x : Wi} {A : Option Addr} {n c k : Nat} (h : WRd w ⟨x, A, n, c⟩) (hk : x.gaps.length ≤ k) : n ≤ k := by rw [← wv_len h]; exact hk
/-- an arrival of what is known, its answer at hand -/
theorem narrive_at {x y : Wi} {er : Int} (A : Option Addr) (n c : Nat) (now most : Int) (hnow : -9223372036854775808 ≤ now ∧ now ≤ 9223372036854775807) (hmost : -9223372036854775808 ≤ most ∧ most ≤ 9223372036854775807) (e : arr x now most = (y, er)) (w : World) (h : WRd w ⟨x, A, n, c⟩) (hn : n ≤ 1000) :
    Calls Try.prog 8 #[.agg #[.int .i64 x.last, .slice A n c], .int .i64 now, .int .i64 most] w (WinR y er w) := by
  have := narrive_any ⟨x, A, n, c⟩ now most hnow hmost w h hn
  rw [e] at this
  exact this
theorem rnarrive_at {x y : Wi} {er : Int} (A : Option Addr) (n c : Nat) (now most : Int) (hnow : -9223372036854775808 ≤ now ∧ now ≤ 9223372036854775807) (hmost : -9223372036854775808 ≤ most ∧ most ≤ 9223372036854775807) (e : arr x now most = (y, er)) (w : World) (h : WRd w ⟨x, A, n, c⟩) :
    Calls Try.prog 9 #[.agg #[.int .i64 x.last, .slice A n c], .int .i64 now, .int .i64 most] w (WinR y er w) := by
  have := rnarrive_any ⟨x, A, n, c⟩ now most hnow hmost w h
  rw [e] at this
  exact this
theorem nmean_at {x : Wi} {m : Int} (A : Option Addr) (n c : Nat) (boot : Int) (e : N.mean x boot = m) (w : World) (h : WRd w ⟨x, A, n, c⟩) (hn : n ≤ 1000) :
    Calls Try.prog 11 #[.agg #[.int .i64 x.last, .slice A n c], .int .i64 boot] w (IntBR m w) := by
  have := nmean_any ⟨x, A, n, c⟩ boot w h hn
  rw [e] at this
  exact this
theorem rnmean_at {x : Wi} {m : Int} (A : Option Addr) (n c : Nat) (boot : Int) (e : N.mean x boot = m) (w : World) (h : WRd w ⟨x, A, n, c⟩) (hn : n ≤ 1000) :
    Calls Try.prog 12 #[.agg #[.int .i64 x.last, .slice A n c], .int .i64 boot] w (IntBR m w) := by
  have := rnmean_any ⟨x, A, n, c⟩ boot w h hn
  rw [e] at this
  exact this
theorem nright_at {x : Wi} {b : Bool} (A : Option Addr) (n c : Nat) (e : N.rightB x = b) (w : World) (h : WRd w ⟨x, A, n, c⟩) :
    Calls Try.prog 13 #[.agg #[.int .i64 x.last, .slice A n c]] w (BoolR b w) := by
  have := nright_any ⟨x, A, n, c⟩ w h
  rw [e] at this
  exact this
theorem rnright_at {x : Wi} {b : Bool} (A : Option Addr) (n c : Nat) (e : N.rightB x = b) (w : World) (h : WRd w ⟨x, A, n, c⟩) :
    Calls Try.prog 14 #[.agg #[.int .i64 x.last, .slice A n c]] w (BoolR b w) := by
  have := rnright_any ⟨x, A, n, c⟩ w h
  rw [e] at this
  exact this
theorem nsame_at {x y : Wi} {b : Bool} (A : Option Addr) (n c : Nat) (A' : Option Addr) (n' c' : Nat) (e : decide (x = y) = b) (w : World) (h : WRd w ⟨x, A, n, c⟩) (h' : WRd w ⟨y, A', n', c'⟩) (hn : n ≤ 1000) :
    Calls Try.prog 15 #[.agg #[.int .i64 x.last, .slice A n c], .agg #[.int .i64 y.last, .slice A' n' c']] w (BoolR b w) := by
  have := nsame_any ⟨x, A, n, c⟩ ⟨y, A', n', c'⟩ w h h' hn
  rw [e] at this
  exact this
theorem rnsame_at {x y : Wi} {b : Bool} (A : Option Addr) (n c : Nat) (A' : Option Addr) (n' c' : Nat) (e : decide (x = y) = b) (w : World) (h : WRd w ⟨x, A, n, c⟩) (h' : WRd w ⟨y, A', n', c'⟩) (hn : n ≤ 1000) :
    Calls Try.prog 10 #[.agg #[.int .i64 x.last, .slice A n c], .agg #[.int .i64 y.last, .slice A' n' c']] w (BoolR b w) := by
  have := rnsame_any ⟨x, A, n, c⟩ ⟨y, A', n', c'⟩ w h h' hn
  rw [e] at this
  exact this
theorem Box.two {w : World} {b : Nat} {T : TypeId} {v0 v1 u0 u1 : Value} (h : Box w b T #[v0, v1]) : Box ((w.setCell ⟨b, 0, none⟩ u0).setCell ⟨b, 1, none⟩ u1) b T #[u0, u1] := (h.set 0 u0).set 1 u1
/-- a window's reading behind stores into a box that is none of its blocks -/
theorem WRd.set2 {w : World} {u : Wv} (h : WRd w u) {b B : Nat} (hb : ∀ bk o, u.A = some ⟨bk, o, none⟩ → B ≤ bk) (hlt : b < B) (o1 o2 : Nat) (v1 v2 : Value) : WRd ((w.setCell ⟨b, o1, none⟩ v1).setCell ⟨b, o2, none⟩ v2) u :=
  by
  have hne : ∀ bk o, u.A = some ⟨bk, o, none⟩ → bk ≠ b := fun bk o hA => by have := hb bk o hA; omega
  exact ⟨((h.1.other hne v1).other hne v2).more (by simp), h.2⟩

set_option maxHeartbeats 4000000 in
set_option maxRecDepth 20000 in
theorem nalive_any (w : World) : Calls Try.prog 7 #[] w fun e w' => e = .returned (.bool true) ∧ Below w.heap.size w w' := by
  have b := Below.refl w.heap.size w
  go_enter Try.func7, Try.ntmps7
  go_wp2_with fail
  refine (nnew_any _).mono ?_
  rintro e w1 ⟨⟨A0, n0, c0, rfl, R0⟩, hb⟩
  replace b := b.trans (hb.mono b.size)
  clear hb
  have l0 : n0 ≤ 16 := wv_le R0 (by decide)
  go_wp2_with fail
  refine (narrive_at A0 n0 c0 5 10 (by omega) (by omega) arr1 _ R0 (by omega)).mono ?_
  rintro e w2 ⟨⟨A1, n1, c1, rfl, R1, _⟩, hb⟩
  replace b := b.trans (hb.mono b.size)
  clear hb R0 l0
  have l1 : n1 ≤ 16 := wv_le R1 (by decide)
  have hW20 := b.size
  have X := Box.new w2 #[.int .i64 5, .slice A1 n1 c1] 24
  replace b := b.alloc b.size (.cells #[.int .i64 5, .slice A1 n1 c1] 24)
  have XL := X.lt
  have hW2 : w.heap.size ≤ w2.heap.size := hW20
  replace R1 := R1.alloc (.cells #[.int .i64 5, .slice A1 n1 c1] 24)
  dsimp only
  have x0 := X.at 0 rfl
  have x1 := X.at 1 rfl
  go_wp2_with fail
  refine (narrive_at A1 n1 c1 8 10 (by omega) (by omega) arr2 _ R1 (by omega)).mono ?_
  rintro e w3 ⟨⟨A2, n2, c2, rfl, R2, g2⟩, hb⟩
  replace X := X.belowH hb
  replace b := b.trans (hb.mono b.size)
  clear hb R1 l1 x0 x1
  have l2 : n2 ≤ 16 := wv_le R2 (by decide)
  have R2' := R2.set2 (g2 rfl) XL 0 1 (.int .i64 8) (.slice A2 n2 c2)
  have x0 := X.at 0 rfl
  have x1 := X.at 1 rfl
  have xc := X.cold
  have xl := X.lt
  dsimp only
  go_wp2_with fail
  replace X := X.two (u0 := .int .i64 8) (u1 := .slice A2 n2 c2)
  replace b := below_set (o := 1) (below_set (o := 0) b hW2 (.int .i64 8)) hW2 (.slice A2 n2 c2)
  clear x0 x1 xc R2 g2 XL
  generalize (w3.setCell ⟨w2.heap.size, 0, none⟩ (.int .i64 8)).setCell ⟨w2.heap.size, 1, none⟩ (.slice A2 n2 c2) = w4 at *
  have XL := X.lt
  refine (narrive_at A2 n2 c2 20 10 (by omega) (by omega) arr3 _ R2' (by omega)).mono ?_
  rintro e w5 ⟨⟨A3, n3, c3, rfl, R3, g3⟩, hb⟩
  replace X := X.belowH hb
  replace b := b.trans (hb.mono b.size)
  clear hb R2' l2
  have l3 : n3 ≤ 16 := wv_le R3 (by decide)
  have R3' := R3.set2 (g3 rfl) XL 0 1 (.int .i64 20) (.slice A3 n3 c3)
  have x0 := X.at 0 rfl
  have x1 := X.at 1 rfl
  have xc := X.cold
  dsimp only
  go_wp2_with fail
  replace X := X.two (u0 := .int .i64 20) (u1 := .slice A3 n3 c3)
  replace b := below_set (o := 1) (below_set (o := 0) b hW2 (.int .i64 20)) hW2 (.slice A3 n3 c3)
  clear x0 x1 xc R3 g3 XL
  generalize (w5.setCell ⟨w2.heap.size, 0, none⟩ (.int .i64 20)).setCell ⟨w2.heap.size, 1, none⟩ (.slice A3 n3 c3) = w6 at *
  refine (narrive_at A3 n3 c3 19 10 (by omega) (by omega) arr4 _ R3' (by omega)).mono ?_
  rintro e w7 ⟨⟨A4, n4, c4, rfl, R4, _⟩, hb⟩
  replace X := X.belowH hb
  replace R3' := R3'.belowH hb
  replace b := b.trans (hb.mono b.size)
  clear hb R4
  have hn3 : 2 = n3 := wv_len R3'
  subst hn3
  obtain ⟨bk, o, y, rfl, hbk, hy, hc0⟩ := R3'.1.atI (k := 0) (by show 0 < 2; omega)
  obtain ⟨bk', o', y', e', hbk', hy', hc1⟩ := R3'.1.atI (k := 1) (by show 1 < 2; omega)
  obtain ⟨rfl, rfl⟩ : bk = bk' ∧ o = o' := by simpa using e'
  obtain rfl : y = 3 := by simpa using hy.symm
  obtain rfl : y' = 10 := by simpa using hy'.symm
  clear hy hy' e' hbk'
  rw [Nat.add_zero] at hc0
  replace X := X.alloc (.cells #[.int .i64 20, .slice A4 n4 c4] 24)
  replace R3' := R3'.alloc (.cells #[.int .i64 20, .slice A4 n4 c4] 24)
  replace b := b.alloc b.size (.cells #[.int .i64 20, .slice A4 n4 c4] 24)
  replace hc0 := (World.cell?_alloc_lt w7 (.cells #[.int .i64 20, .slice A4 n4 c4] 24) ⟨bk, o, none⟩ hbk).trans hc0
  replace hc1 := (World.cell?_alloc_lt w7 (.cells #[.int .i64 20, .slice A4 n4 c4] 24) ⟨bk, o + 1, none⟩ hbk).trans hc1
  have x0 := X.at 0 rfl
  have x1 := X.at 1 rfl
  dsimp only
  go_wp2_with fail
  refine (nmean_at _ 2 c3 1 mean1 _ R3' (by omega)).mono ?_
  rintro e w8 ⟨rfl, hb⟩
  replace b := b.trans (hb.mono b.size)
  clear hb X R3' hc0 hc1 x0 x1
  go_wp2_with fail
  refine (nnew_any _).mono ?_
  rintro e w9 ⟨⟨A5, n5, c5, rfl, R5⟩, hb⟩
  replace b := b.trans (hb.mono b.size)
  clear hb
  have l5 : n5 ≤ 16 := wv_le R5 (by decide)
  go_wp2_with fail
  refine (nmean_at A5 n5 c5 4 mean2 _ R5 (by omega)).mono ?_
  rintro e w10 ⟨rfl, hb⟩
  replace b := b.trans (hb.mono b.size)
  clear hb
  go_wp2
  go_ret
  exact ⟨rfl, b⟩
end Go.Proofs.Ytmhlhhfolbeifaa
