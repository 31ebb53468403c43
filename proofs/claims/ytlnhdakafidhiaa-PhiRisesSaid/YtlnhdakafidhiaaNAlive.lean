/- The fixed fact of window's laws. -/
import Derived.Test.YtlnhdakafidhiaaNCode
namespace Go.Proofs.Ytlnhdakafidhiaa
set_option linter.unusedVariables false
set_option linter.unusedSimpArgs false
open Go.RowKit
theorem arr1 : arr N.new 5 10 = (⟨5, []⟩, 0) := by decide
theorem arr2 : arr ⟨5, []⟩ 8 10 = (⟨8, [3]⟩, 0) := by decide
theorem arr3 : arr ⟨8, [3]⟩ 20 10 = (⟨20, [3, 10]⟩, 0) := by decide
theorem arr4 : arr ⟨20, [3, 10]⟩ 19 10 = (⟨20, [3, 10]⟩, 1) := by decide
theorem mean1 : N.mean ⟨20, [3, 10]⟩ 1 = 6 := by decide
theorem mean2 : N.mean N.new 4 = 4 := by decide
theorem wv_len {w : World} {x : Wi} {A : Option Addr} {n c : Nat} (h : WRd w ⟨x, A, n, c⟩) : x.gaps.length = n := h.len
theorem wv_le {w : World} {x : Wi} {A : Option Addr} {n c k : Nat} (h : WRd w ⟨x, A, n, c⟩) (hk : x.gaps.length ≤ k) : n ≤ k := by rw [← wv_len h]; exact hk
theorem rnarrive_at {x y : Wi} {er : Int} (A : Option Addr) (n c : Nat) (now most : Int) (hnow : -9223372036854775808 ≤ now ∧ now ≤ 9223372036854775807) (hmost : -9223372036854775808 ≤ most ∧ most ≤ 9223372036854775807) (e : arr x now most = (y, er)) (w : World) (h : WRd w ⟨x, A, n, c⟩) :
    Calls Try.prog 22 #[.agg #[.int .i64 x.last, .slice A n c], .int .i64 now, .int .i64 most] w (WinR y er w) := by
  have := rnarrive_any ⟨x, A, n, c⟩ now most hnow hmost w h
  rw [e] at this
  exact this
theorem nmean_at {x : Wi} {m : Int} (A : Option Addr) (n c : Nat) (boot : Int) (e : N.mean x boot = m) (w : World) (h : WRd w ⟨x, A, n, c⟩) (hn : n ≤ 1000) :
    Calls Try.prog 26 #[.agg #[.int .i64 x.last, .slice A n c], .int .i64 boot] w (IntBR m w) := by
  have := nmean_any ⟨x, A, n, c⟩ boot w h hn
  rw [e] at this
  exact this
theorem rnmean_at {x : Wi} {m : Int} (A : Option Addr) (n c : Nat) (boot : Int) (e : N.mean x boot = m) (w : World) (h : WRd w ⟨x, A, n, c⟩) (hn : n ≤ 1000) :
    Calls Try.prog 19 #[.agg #[.int .i64 x.last, .slice A n c], .int .i64 boot] w (IntBR m w) := by
  have := rnmean_any ⟨x, A, n, c⟩ boot w h hn
  rw [e] at this
  exact this
theorem nright_at {x : Wi} {b : Bool} (A : Option Addr) (n c : Nat) (e : N.rightB x = b) (w : World) (h : WRd w ⟨x, A, n, c⟩) :
    Calls Try.prog 23 #[.agg #[.int .i64 x.last, .slice A n c]] w (BoolR b w) := by
  have := nright_any ⟨x, A, n, c⟩ w h
  rw [e] at this
  exact this
theorem rnright_at {x : Wi} {b : Bool} (A : Option Addr) (n c : Nat) (e : N.rightB x = b) (w : World) (h : WRd w ⟨x, A, n, c⟩) :
    Calls Try.prog 18 #[.agg #[.int .i64 x.last, .slice A n c]] w (BoolR b w) := by
  have := rnright_any ⟨x, A, n, c⟩ w h
  rw [e] at this
  exact this
theorem Box.two {w : World} {b : Nat} {T : TypeId} {v0 v1 u0 u1 : Value} (h : Box w b T #[v0, v1]) : Box ((w.setCell ⟨b, 0, none⟩ u0).setCell ⟨b, 1, none⟩ u1) b T #[u0, u1] := (h.set 0 u0).set 1 u1
/-- a window's reading behind stores into a box that is none of its blocks -/
theorem WRd.set2 {w : World} {u : Wv} (h : WRd w u) {b B : Nat} (hb : ∀ bk o, u.A = some ⟨bk, o, none⟩ → B ≤ bk) (hlt : b < B) (o1 o2 : Nat) (v1 v2 : Value) : WRd ((w.setCell ⟨b, o1, none⟩ v1).setCell ⟨b, o2, none⟩ v2) u :=
  by
  have hne : ∀ bk o, u.A = some ⟨bk, o, none⟩ → bk ≠ b := fun bk o hA => by have := hb bk o hA; omega
  exact ⟨((h.1.other hne v1).other hne v2).more (by simp), h.2⟩

end Go.Proofs.Ytlnhdakafidhiaa
