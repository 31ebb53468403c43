/- Sectors in the walk of a law: whole loads, new boxes, literals. -/
import Derived.Test.YtijpmjedohjikaaKRef3
import Derived.Test.YtijpmjedohjikaaKMath2
import Derived.Laws.Alloc2
import Derived.BigFrame
namespace Go.Proofs.Ytijpmjedohjikaa
set_option linter.unusedVariables false
set_option linter.unusedSimpArgs false
open Go.RowKit
theorem sec_box {w : World} {b : Nat} {T : TypeId} {l : List Value} (h : Box w b T l.toArray) : w.rangeAt b 0 l := fun j v hv => by
  rw [Nat.zero_add]
  exact h.at j (by rw [List.getElem?_toArray]; exact hv)
theorem new_setCells (T : TypeId) (w : World) : ∀ (vs : List Value) (o : Nat) (cs : List Value), (w.alloc (.cells cs.toArray T)).setCells w.heap.size o vs = w.alloc (.cells (laid cs o vs).toArray T)
  | [], _, _ => rfl
  | v :: vs, o, cs => by
    show ((w.alloc (.cells cs.toArray T)).setCell ⟨w.heap.size, o, none⟩ v).setCells w.heap.size (o + 1) vs = _
    rw [World.setCell_alloc_new, List.setIfInBounds_toArray, new_setCells T w vs (o + 1) (cs.set o v)]
    rfl
theorem laid_all {cs vs : List Value} (h : vs.length = cs.length) : laid cs 0 vs = vs := by
  refine List.ext_getElem? fun j => ?_
  by_cases hj : j < vs.length
  · have := laid_in vs cs 0 j (by omega) hj
    rwa [Nat.zero_add] at this
  · rw [List.getElem?_eq_none (by rw [laid_length]; omega), List.getElem?_eq_none (by omega)]
theorem sec_take {ops : Array Oper} {rest : List Oper} {T : TypeId} {pos : String} {af : Array Edge} {g : Option (Nat × Bool)} {x : Operand} {a : Act} {w : World} {Q : Exit → Act → World → Prop} (d b o : Nat) (s : List UInt8) (hs : s.length = 64) (hc : w.rangeAt b o (U s))
    (hw : Region.wanted ⟨some d, .load 26 x, T, pos, af, g⟩ (yielded ops a.tmps) = true) (hx : a.eval x = .pointer (some ⟨b, o, none⟩))
    (h : wpList Try.prog ops Q rest (a.put (some d) (.agg (U s).toArray)) w) : wpList Try.prog ops Q (⟨some d, .load 26 x, T, pos, af, g⟩ :: rest) a w :=
  BigFrame.wpList_want hw fun _ hK => wp_load_mid 26 x rfl b o hx (U s) _ hc Try.underlying26 rfl (by rw [U_length, hs]; rfl) (hK _ _ h)
theorem run_alloc_sec (w : World) (ρ : Operand → Value) (d : Option Nat) (T : TypeId) (pos : String) (af : Array Edge) (g : Option (Nat × Bool)) : (execOp ρ ⟨d, .alloc 26, T, pos, af, g⟩).run Try.prog w = .ok (.value (.pointer (some ⟨w.heap.size, 0, none⟩))) (w.alloc (.cells (U K.zero).toArray 26)) := by kernel_rfl
/-- a new block of a sector -/
theorem sec_alloc {ops : Array Oper} {rest : List Oper} {T : TypeId} {pos : String} {af : Array Edge} {a : Act} {w : World} {Q : Exit → Act → World → Prop} (d : Nat)
    (h : wpList Try.prog ops Q rest (a.put (some d) (.pointer (some ⟨w.heap.size, 0, none⟩))) (w.alloc (.cells (U K.zero).toArray 26))) :
    wpList Try.prog ops Q (⟨some d, .alloc 26, T, pos, af, none⟩ :: rest) a w := by
  refine wpList_plain rfl fun KK hK => ?_
  unfold Oper.wp
  rw [run_alloc_sec]
  exact hK _ _ h
/-- a new block of a sector, and what is stored there at once -/
theorem sec_new {ops : Array Oper} {rest : List Oper} {T T' : TypeId} {pos pos' : String} {af af' : Array Edge} {y : Operand} {a : Act} {w : World} {Q : Exit → Act → World → Prop} (d : Nat) (s : List UInt8) (hs : s.length = 64)
    (hd : (a.put (some d) (.pointer (some ⟨w.heap.size, 0, none⟩))).eval (.tmp d) = .pointer (some ⟨w.heap.size, 0, none⟩)) (hy : (a.put (some d) (.pointer (some ⟨w.heap.size, 0, none⟩))).eval y = .agg (U s).toArray)
    (h : wpList Try.prog ops Q rest ((a.put (some d) (.pointer (some ⟨w.heap.size, 0, none⟩))).put none undef) (w.alloc (.cells (U s).toArray 26))) :
    wpList Try.prog ops Q (⟨some d, .alloc 26, T, pos, af, none⟩ :: ⟨none, .store 26 (.tmp d) y, T', pos', af', none⟩ :: rest) a w := by
  refine wpList_plain rfl fun KK hK => ?_
  unfold Oper.wp
  rw [run_alloc_sec]
  refine hK _ _ ?_
  have X := Box.new w (U K.zero).toArray 26
  have ht := X.there
  have e64 : (U K.zero).toArray.size = 64 := by rw [List.size_toArray, U_length, zero_len]
  rw [e64] at ht
  refine sec_store w.heap.size 0 s hs ht rfl (.tmp d) y rfl hd _ hy rfl ?_
  rw [new_setCells, laid_all (by rw [U_length, U_length, hs, zero_len])]
  exact h
end Go.Proofs.Ytijpmjedohjikaa
