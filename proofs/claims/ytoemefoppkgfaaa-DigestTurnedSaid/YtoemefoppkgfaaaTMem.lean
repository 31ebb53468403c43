/- States in memory (no program). -/
import Derived.Test.YtoemefoppkgfaaaGen
import Derived.Test.YtoemefoppkgfaaaEMem
import Derived.Test.YtoemefoppkgfaaaTMath
namespace Go.Proofs.Ytoemefoppkgfaaa
set_option linter.unusedVariables false
open Go.RowKit

/-- a state's value: what it is, and where its table lies -/
structure Sv where
  s : St
  A : Option Addr
  n : Nat
  c : Nat
def scl (v : Sv) : List Value := [.int .i64 v.s.gen, .int .i64 v.s.beat, .slice v.A v.n v.c]
/-- a state's value -/
def sv (v : Sv) : Value := .agg #[.int .i64 v.s.gen, .int .i64 v.s.beat, .slice v.A v.n v.c]
theorem scl_len (v : Sv) : (scl v).length = 3 := rfl
theorem scl_one (v : Sv) : ∀ u ∈ scl v, u.oneCell' = true := by
  intro u hu
  simp [scl] at hu
  rcases hu with rfl | rfl | rfl <;> rfl
/-- its table reads -/
def SRd (w : World) (v : Sv) : Prop := Rd w w.heap.size 3 v.A v.n (EC v.s.apps)
theorem SRd.belowH {w w' : World} {v : Sv} (h : SRd w v) (hb : Below w.heap.size w w') : SRd w' v := Rd.belowH h hb
theorem SRd.alloc {w : World} {v : Sv} (h : SRd w v) (o : Obj) : SRd (w.alloc o) v := (Rd.alloc h (Nat.le_refl _) o).more (by simp)
theorem SRd.allocH {w : World} {v : Sv} (h : SRd w v) (o : Obj) : SRd (w.alloc o) v := h.alloc o
theorem SRd.drewH {w : World} {v : Sv} (h : SRd w v) : SRd w.drew v := h
theorem SRd.drew {w : World} {v : Sv} (h : SRd w v) : SRd w.drew v := h
theorem SRd.drewN {w : World} {v : Sv} (h : SRd w v) (q : Nat) : SRd (w.drewN q) v := h
theorem SRd.len {w : World} {v : Sv} (h : SRd w v) : v.s.apps.length = v.n := Rd.lenE h
/-- a state that came in -/
def SIn (W : World) (v : Sv) : Prop := SRd W v ∧ v.n * 32 ≤ 140737488351232 ∧ (∀ x ∈ v.s.apps, x.val.length ≤ 140737488351232) ∧ (Lit.int .i64 v.s.gen).wf = true ∧ (Lit.int .i64 v.s.beat).wf = true
end Go.Proofs.Ytoemefoppkgfaaa
