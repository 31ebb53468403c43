/- Rows of elements of several cells each, whatever the element (no program). -/
import Derived.Test.YtillnjhmdgmgeaaDoorWords
namespace Go.Proofs.YtillnjhmdgmgeaaDoor
set_option linter.unusedVariables false
open Go.RowKit

section
variable {α : Type} {f : α → List Value} {k : Nat}
/-- a row's cells -/
def FC (f : α → List Value) (l : List α) : List Value := l.flatMap f
theorem FC_nil : FC f [] = [] := rfl
theorem FC_cons (x : α) (l : List α) : FC f (x :: l) = f x ++ FC f l := rfl
theorem FC_append (l m : List α) : FC f (l ++ m) = FC f l ++ FC f m := List.flatMap_append
theorem FC_one (x : α) : FC f [x] = f x := by simp [FC]
theorem FC_length (hf : ∀ x, (f x).length = k) (l : List α) : (FC f l).length = l.length * k := by
  induction l with
  | nil => simp [FC]
  | cons x r ih => rw [FC_cons, List.length_append, ih, hf, List.length_cons, Nat.add_mul]; omega
theorem FC_drop (hf : ∀ x, (f x).length = k) (l : List α) (i : Nat) : (FC f l).drop (i * k) = FC f (l.drop i) := by
  induction i generalizing l with
  | zero => simp
  | succ i ih =>
    cases l with
    | nil => simp [FC]
    | cons x r =>
      rw [FC_cons, List.drop_succ_cons, ← ih, Nat.add_mul, Nat.one_mul, Nat.add_comm (i * k) k, ← List.drop_drop, ← hf x, List.drop_left]
theorem FC_take (hf : ∀ x, (f x).length = k) (l : List α) (i : Nat) : (FC f l).take (i * k) = FC f (l.take i) := by
  induction i generalizing l with
  | zero => simp [FC]
  | succ i ih =>
    cases l with
    | nil => simp [FC]
    | cons x r =>
      rw [List.take_succ_cons, FC_cons, FC_cons, ← ih, Nat.add_mul, Nat.one_mul, Nat.add_comm (i * k) k, ← hf x, List.take_length_add_append]
theorem FC_at (hf : ∀ x, (f x).length = k) {l : List α} {i : Nat} {x : α} (h : l[i]? = some x) (j : Nat) (hj : j < k) : (FC f l)[i * k + j]? = (f x)[j]? := by
  have h1 : (FC f l)[i * k + j]? = ((FC f l).drop (i * k))[j]? := by rw [List.getElem?_drop]
  rw [h1, FC_drop hf, drop_more h, FC_cons, List.getElem?_append_left (by rw [hf]; exact hj)]
theorem FC_mem {l : List α} {u : Value} (h : u ∈ FC f l) : ∃ x ∈ l, u ∈ f x := by
  obtain ⟨x, hx, hu⟩ := List.mem_flatMap.1 h
  exact ⟨x, hx, hu⟩
theorem Rd.lenF (hk : 0 < k) (hf : ∀ x, (f x).length = k) {w : World} {B n : Nat} {A : Option Addr} {l : List α} (h : Rd w B k A n (FC f l)) : l.length = n := by
  have h1 := h.1
  rw [FC_length hf] at h1
  exact Nat.eq_of_mul_eq_mul_right hk h1
/-- an element that is read -/
theorem Rd.atF (hk : 0 < k) (hf : ∀ x, (f x).length = k) {w : World} {B n : Nat} {A : Option Addr} {l : List α} (h : Rd w B k A n (FC f l)) {i : Nat} (hi : i < n) :
    ∃ b o x, A = some ⟨b, o, none⟩ ∧ b < B ∧ l[i]? = some x ∧ ∀ j v, (f x)[j]? = some v → w.cell? ⟨b, o + (i * k + j), none⟩ = some v := by
  obtain ⟨b, o, e, hb, hc⟩ := h.2 (by omega)
  have hn := h.lenF hk hf
  have hx : l[i]? = some (l[i]'(by omega)) := List.getElem?_eq_getElem _
  refine ⟨b, o, _, e, hb, hx, fun j v hv => ?_⟩
  have hj : j < k := by have := (List.getElem?_eq_some_iff.1 hv).1; rwa [hf] at this
  have hlt : i * k + j < (FC f l).length := by
    rw [FC_length hf, hn]
    have : (i + 1) * k ≤ n * k := Nat.mul_le_mul_right k hi
    rw [Nat.add_mul] at this
    omega
  rw [hc _ hlt, FC_at hf hx j hj, hv]
end
end Go.Proofs.YtillnjhmdgmgeaaDoor
