/- Windows in memory. -/
import Derived.Test.YtlnhdakafidhiaaWords
import Derived.Test.YtlnhdakafidhiaaNMath
namespace Go.Proofs.Ytlnhdakafidhiaa
set_option linter.unusedVariables false
set_option linter.unusedSimpArgs false
open Go.RowKit
/-- a window, and where its gaps lie -/
structure Wv where
  x : Wi
  A : Option Addr
  n : Nat
  c : Nat
def wval (u : Wv) : Value := .agg #[.int .i64 u.x.last, .slice u.A u.n u.c]
def WRd (w : World) (u : Wv) : Prop := Rd w w.heap.size 1 u.A u.n (I u.x.gaps) ∧ u.n ≤ u.c ∧ u.c ≤ 9223372036854775807
theorem WRd.len {w : World} {u : Wv} (h : WRd w u) : u.x.gaps.length = u.n := by have := h.1.len1; rwa [I_length] at this
theorem WRd.belowH {w w' : World} {u : Wv} (h : WRd w u) (hb : Below w.heap.size w w') : WRd w' u := ⟨h.1.belowH hb, h.2⟩
theorem WRd.drew {w : World} {u : Wv} (h : WRd w u) : WRd w.drew u := h
theorem WRd.alloc {w : World} {u : Wv} (h : WRd w u) (o : Obj) : WRd (w.alloc o) u := h.belowH ((Below.refl _ _).alloc (Nat.le_refl _) _)
/-- a window that came in -/
def WIn (W : World) (u : Wv) : Prop := WRd W u ∧ (-9223372036854775808 ≤ u.x.last ∧ u.x.last ≤ 9223372036854775807)
/-- a window as a result, beside an error -/
def WinR (x : Wi) (er : Int) (w : World) (e : Ending) (w' : World) : Prop := (∃ (A : Option Addr) (n c : Nat), e = .returned (.tuple #[.agg #[.int .i64 x.last, .slice A n c], .int .i64 er]) ∧ WRd w' ⟨x, A, n, c⟩ ∧ (er = 0 → ∀ bk o, A = some ⟨bk, o, none⟩ → w.heap.size ≤ bk)) ∧ Below w.heap.size w w'
def WinR1 (x : Wi) (w : World) (e : Ending) (w' : World) : Prop := (∃ (A : Option Addr) (n c : Nat), e = .returned (.agg #[.int .i64 x.last, .slice A n c]) ∧ WRd w' ⟨x, A, n, c⟩) ∧ Below w.heap.size w w'
end Go.Proofs.Ytlnhdakafidhiaa
