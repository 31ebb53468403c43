/- Views in memory (no program). -/
import Derived.Test.YtoemefoppkgfaaaGen2
import Derived.Test.YtoemefoppkgfaaaTMem
import Derived.Test.YtoemefoppkgfaaaVMath
import Derived.Test.YtoemefoppkgfaaaRowsOf
namespace Go.Proofs.Ytoemefoppkgfaaa
set_option linter.unusedVariables false
open Go.RowKit

/-- an endpoint's state in memory -/
structure Nv where
  node : Int
  v : Sv
def Nv.nm (x : Nv) : Nm := ⟨x.node, x.v.s⟩
def ncl (x : Nv) : List Value := [.int .i64 x.node, .int .i64 x.v.s.gen, .int .i64 x.v.s.beat, .slice x.v.A x.v.n x.v.c]
theorem ncl_len (x : Nv) : (ncl x).length = 4 := rfl
theorem ncl_one (x : Nv) : ∀ u ∈ ncl x, u.oneCell' = true := by
  intro u hu
  simp [ncl] at hu
  rcases hu with rfl | rfl | rfl | rfl <;> rfl
/-- a view in memory: a slice of endpoints' states -/
structure Vw where
  l : List Nv
  A : Option Addr
  n : Nat
  c : Nat
def Vw.view (v : Vw) : List Nm := v.l.map Nv.nm
def vval (v : Vw) : Value := .slice v.A v.n v.c
def VRd (w : World) (v : Vw) : Prop := Rd w w.heap.size 4 v.A v.n (FC ncl v.l) ∧ ∀ x ∈ v.l, SRd w x.v
theorem VRd.belowH {w w' : World} {v : Vw} (h : VRd w v) (hb : Below w.heap.size w w') : VRd w' v := ⟨Rd.belowH h.1 hb, fun x hx => (h.2 x hx).belowH hb⟩
theorem VRd.allocH {w : World} {v : Vw} (h : VRd w v) (o : Obj) : VRd (w.alloc o) v := ⟨(Rd.alloc h.1 (Nat.le_refl _) o).more (by simp), fun x hx => (h.2 x hx).alloc o⟩
theorem VRd.drewH {w : World} {v : Vw} (h : VRd w v) : VRd w.drew v := h
theorem VRd.drewN {w : World} {v : Vw} (h : VRd w v) (q : Nat) : VRd (w.drewN q) v := h
theorem VRd.len {w : World} {v : Vw} (h : VRd w v) : v.l.length = v.n := h.1.lenF (by omega) ncl_len
theorem VRd.viewlen {w : World} {v : Vw} (h : VRd w v) : v.view.length = v.n := by unfold Vw.view; rw [List.length_map, h.len]
/-- an endpoint that is read -/
theorem VRd.at {w : World} {v : Vw} (h : VRd w v) {k : Nat} (hk : k < v.n) :
    ∃ b o x, v.A = some ⟨b, o, none⟩ ∧ b < w.heap.size ∧ v.l[k]? = some x ∧ SRd w x.v ∧ w.cell? ⟨b, o + k * 4, none⟩ = some (.int .i64 x.node) ∧ w.cell? ⟨b, o + k * 4 + 1, none⟩ = some (.int .i64 x.v.s.gen) ∧
      w.cell? ⟨b, o + k * 4 + 2, none⟩ = some (.int .i64 x.v.s.beat) ∧ w.cell? ⟨b, o + k * 4 + 3, none⟩ = some (.slice x.v.A x.v.n x.v.c) := by
  obtain ⟨b, o, x, e, hb, hx, hc⟩ := h.1.atF (by omega) ncl_len hk
  refine ⟨b, o, x, e, hb, hx, h.2 x (List.mem_of_getElem? hx), hc 0 _ rfl, ?_, ?_, ?_⟩
  · have := hc 1 _ rfl; rwa [← Nat.add_assoc] at this
  · have := hc 2 _ rfl; rwa [← Nat.add_assoc] at this
  · have := hc 3 _ rfl; rwa [← Nat.add_assoc] at this
/-- a view that came in -/
def VIn (W : World) (v : Vw) : Prop := VRd W v ∧ v.n ≤ v.c ∧ v.n * 48 ≤ 140737488351232 ∧ ∀ x ∈ v.l, (x.v.n * 32 ≤ 140737488351232 ∧ ∀ y ∈ x.v.s.apps, y.val.length ≤ 140737488351232) ∧ (Lit.int .i64 x.node).wf = true
end Go.Proofs.Ytoemefoppkgfaaa
