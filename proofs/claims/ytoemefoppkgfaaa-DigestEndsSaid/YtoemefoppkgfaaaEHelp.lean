/- Words that the laws of entry and of what stands on it share. -/
import Derived.Test.YtoemefoppkgfaaaECode7
namespace Go.Proofs.Ytoemefoppkgfaaa
set_option linter.unusedVariables false
set_option linter.unusedSimpArgs false
open Go.RowKit

theorem below_of_drew {w w' : World} {q : Nat} (h : w' = w.drewN q) : Below w.heap.size w w' := by rw [h]; exact below_dn (Below.refl _ _) q
theorem Rd.allocH {w : World} {size n : Nat} {A : Option Addr} {xs : List Value} (h : Rd w w.heap.size size A n xs) (o : Obj) : Rd (w.alloc o) (w.alloc o).heap.size size A n xs := (h.alloc (Nat.le_refl _) o).more (by simp)
theorem Rd.drewH {w : World} {size n : Nat} {A : Option Addr} {xs : List Value} (h : Rd w w.heap.size size A n xs) : Rd w.drew w.drew.heap.size size A n xs := h
theorem great_small {l : List Ent} {n : Nat} (h : E.great l = false) (hl : l.length = n) : n ≤ 4000 := by
  have := of_decide_eq_false h
  omega
theorem overB_iff {l r : List Ent} : overB l r = true ↔ E.over l r := by unfold overB E.over; exact decide_eq_true_iff
theorem overB_self {l : List Ent} (h : E.rising l) : overB l l = true := overB_iff.2 (E.over_self h)
theorem overB_nil (l : List Ent) : overB l [] = true := overB_iff.2 (E.over_nil l)
theorem overB_get {a b : List Ent} (ha : E.rising a) (hb : E.rising b) (h : overB a b = true) {k : Nat} {y : Ent} (hy : b[k]? = some y) : ∃ x, E.get a y.key = some x ∧ y.ver ≤ x.ver :=
  E.over_get ha hb (overB_iff.1 h) (List.mem_of_getElem? hy)

theorem lit_own (w : World) : (w.alloc (.cells #[] 57)).ownsRow w.heap.size 57 3 (.slice (some ⟨w.heap.size, 0, none⟩) 0 0) 0 [] := World.ownsRow_lit w #[] 0 (Nat.le_refl _) (by unfold maxLen; omega) rfl

def dv (o : Option Ent) : Ent := o.getD ⟨0, 0, []⟩
theorem getV_eq (o : Option Ent) : getV o = .tuple #[.agg #[.int .i64 (dv o).key, .int .i64 (dv o).ver, .string (strB (dv o).val)], .bool o.isSome] := by cases o <;> rfl
theorem eqB_self (x : Ent) : eqB x x = true := decide_eq_true rfl
end Go.Proofs.Ytoemefoppkgfaaa
