/- Words (merged). -/
import Derived.Lib.SmallJoins
import Derived.Laws.Rows
import Derived.Laws.NewBlocks
import Derived.Handy
import Derived.SizedLaws
import Derived.Test.YtbioblknhfmelaaJMem
namespace Go.Proofs.Ytbioblknhfmelaa
open Go.RowKit
theorem ret_bool {a b : Bool} (h : a = b) : Ending.returned (.bool a) = .returned (.bool b) := by rw [h]

/-- a block's cells -/
def Cells (w : World) (b : Nat) (xs : List Value) : Prop := b < w.heap.size ∧ ∀ j, j < xs.length → w.cell? ⟨b, j, none⟩ = xs[j]?
theorem Cells.new (w : World) (cs : Array Value) (T : TypeId) : Cells (w.alloc (.cells cs T)) w.heap.size cs.toList :=
  ⟨by simp, fun j _ => by rw [cell_of_row (w.alloc (.cells cs T)) w.heap.size j cs T (0, 0) (heap_alloc_new w _)]; simp⟩
theorem Cells.below {w w' : World} {b B : Nat} {xs : List Value} (h : Cells w b xs) (hb : Below B w w') (hB : b < B) : Cells w' b xs :=
  ⟨Nat.lt_of_lt_of_le h.1 hb.size, fun j hj => (hb.cell (p := ⟨b, j, none⟩) hB).trans (h.2 j hj)⟩
theorem Cells.belowH {w w' : World} {b : Nat} {xs : List Value} (h : Cells w b xs) (hb : Below w.heap.size w w') : Cells w' b xs := h.below hb h.1
theorem Cells.alloc {w : World} {b : Nat} {xs : List Value} (h : Cells w b xs) (o : Obj) : Cells (w.alloc o) b xs :=
  h.belowH ((Below.refl _ _).alloc (Nat.le_refl _) _)
theorem Cells.drew {w : World} {b : Nat} {xs : List Value} (h : Cells w b xs) : Cells w.drew b xs := h
theorem Cells.drewN {w : World} {b : Nat} {xs : List Value} (h : Cells w b xs) (q : Nat) : Cells (w.drewN q) b xs := h
theorem Cells.at {w : World} {b : Nat} {xs : List Value} (h : Cells w b xs) (j : Nat) {v : Value} (hv : xs[j]? = some v) : w.cell? ⟨b, j, none⟩ = some v := by
  rw [h.2 j (List.getElem?_eq_some_iff.1 hv).1, hv]
/-- what reads below a bound read there before, too -/
theorem Rd.back {w w' : World} {B B' size n : Nat} {A : Option Addr} {xs : List Value} (h : Rd w' B size A n xs) (hb : Below B' w w') (hB : B ≤ B') : Rd w B size A n xs :=
  h.keep (Nat.le_refl _) fun b o hlt => (hb.cell (p := ⟨b, o, none⟩) (by show b < B'; omega)).symm
theorem below_set {B : Nat} {a w : World} {b o : Nat} (h : Below B a w) (hb : B ≤ b) (u : Value) : Below B a (w.setCell ⟨b, o, none⟩ u) := h.setCell (p := ⟨b, o, none⟩) hb u

/-! ### A block known whole -/
def Box (w : World) (b : Nat) (T : TypeId) (cs : Array Value) : Prop := w.heap[b]? = some (.cells cs T)
section
variable {w w' : World} {b B : Nat} {T : TypeId} {cs : Array Value}
theorem Box.new (w : World) (cs : Array Value) (T : TypeId) : Box (w.alloc (.cells cs T)) w.heap.size T cs := heap_alloc_new w _
theorem Box.lt (h : Box w b T cs) : b < w.heap.size := lt_of_block h
theorem Box.at (h : Box w b T cs) (j : Nat) {v : Value} (hv : cs[j]? = some v) : w.cell? ⟨b, j, none⟩ = some v := by
  rw [cell_of_row w b j cs T (0, 0) h, hv]
theorem Box.cold (h : Box w b T cs) (o : Nat) : w.frozen? ⟨b, o, none⟩ = false := by
  unfold World.frozen?; unfold Box at h; simp [h]
theorem Box.set (h : Box w b T cs) (j : Nat) (v : Value) : Box (w.setCell ⟨b, j, none⟩ v) b T (cs.setIfInBounds j v) := Joins.block_setCell h v
theorem Box.below (h : Box w b T cs) (hb : Below B w w') (hB : b < B) : Box w' b T cs := (hb.block b hB).trans h
theorem Box.belowH (h : Box w b T cs) (hb : Below w.heap.size w w') : Box w' b T cs := h.below hb h.lt
theorem Box.alloc (h : Box w b T cs) (o : Obj) : Box (w.alloc o) b T cs := h.belowH ((Below.refl _ _).alloc (Nat.le_refl _) _)
theorem Box.drew (h : Box w b T cs) : Box w.drew b T cs := h
theorem Box.drewN (h : Box w b T cs) (q : Nat) : Box (w.drewN q) b T cs := h
theorem Box.other (h : Box w b T cs) {b' o : Nat} (hne : b ≠ b') (v : Value) : Box (w.setCell ⟨b', o, none⟩ v) b T cs := (heap_setCell_other w ⟨b', o, none⟩ b v hne).trans h
theorem Rd.other {size n : Nat} {A : Option Addr} {xs : List Value} (h : Rd w B size A n xs) {b' o : Nat} (hne : ∀ b o, A = some ⟨b, o, none⟩ → b ≠ b') (v : Value) : Rd (w.setCell ⟨b', o, none⟩ v) B size A n xs := by
  refine ⟨h.1, fun hn => ?_⟩
  obtain ⟨b, o', e, hb, hc⟩ := h.2 hn
  refine ⟨b, o', e, hb, fun j hj => ?_⟩
  rw [World.cell?_of_block (a := ⟨b, o' + j, none⟩) (heap_setCell_other w ⟨b', o, none⟩ b v (hne _ _ e))]
  exact hc j hj
end

/-! ### What an argument weighs -/
theorem weights_le {H : Type} {P : Program} {ts : List TypeId} {ds : List (DataW H)} (hsz : (DataW.weightsEach P ts ds).all (· ≤ reachBytes) = true) {j : Nat} {t : TypeId} {d : DataW H} (ht : ts[j]? = some t) (hd : ds[j]? = some d) :
    ∀ n ∈ d.weights P t, n ≤ 140737488351232 := fun n hn => by
  have := List.all_eq_true.1 hsz n (DataW.weights_mem_each ht hd n hn)
  have h2 := of_decide_eq_true this
  unfold reachBytes at h2
  exact h2
theorem weights_all {H : Type} {P : Program} {e : TypeId} {l : List (DataW H)} {d : DataW H} (hd : d ∈ l) : ∀ n ∈ d.weights P e, n ∈ DataW.weightsAll P e l := by
  induction l with
  | nil => cases hd
  | cons x r ih =>
    intro n hn
    rw [DataW.weightsAll, List.mem_append]
    rcases List.mem_cons.1 hd with rfl | hd
    · exact Or.inl hn
    · exact Or.inr (ih hd n hn)
theorem weights_slice {H : Type} {P : Program} {t e : TypeId} {l s : List (DataW H)} (ht : P.underlying t = some (.slice e)) :
    (DataW.slice l s).weights P t = (l.length + s.length) * P.bytesOf e :: (DataW.weightsAll P e l ++ DataW.weightsAll P e s) := by
  simp [DataW.weights, ht]
theorem weights_struct {H : Type} {P : Program} {t : TypeId} {fs : Array Field} {l : List (DataW H)} (ht : P.underlying t = some (.struct fs)) :
    (DataW.agg l).weights P t = DataW.weightsEach P (fs.toList.map (·.type)) l := by
  simp [DataW.weights, ht]
end Go.Proofs.Ytbioblknhfmelaa

