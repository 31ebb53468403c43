/- LRt (merged). -/
import Derived.Test.YtkabkpeamggnnaaJMath
import Derived.Test.YtkabkpeamggnnaaJLRef
namespace Go.Proofs.Ytkabkpeamggnnaa
set_option linter.unusedVariables false
set_option linter.unusedSimpArgs false
open Go.RowKit

theorem riseL_snoc {l : List Dl} {z : Dl} : L.rising (l ++ [z]) ↔ L.rising l ∧ ∀ y ∈ l, y.node < z.node := by
  induction l with
  | nil => simp [L.rising]
  | cons x r ih =>
    rw [List.cons_append, L.rising, L.rising, ih]
    constructor
    · rintro ⟨h1, h2, h3⟩
      refine ⟨⟨fun y hy => h1 y (by simp [hy]), h2⟩, fun y hy => ?_⟩
      rcases List.mem_cons.1 hy with rfl | hy
      · exact h1 z (by simp)
      · exact h3 y hy
    · rintro ⟨⟨h1, h2⟩, h3⟩
      refine ⟨fun y hy => ?_, h2, fun y hy => h3 y (by simp [hy])⟩
      rcases List.mem_append.1 hy with hy | hy
      · exact h1 y hy
      · obtain rfl : y = z := by simpa using hy
        exact h3 x (by simp)
theorem aboves_all {l : List Ent} {v : Int} : (E.aboves l v).length = l.length ↔ ∀ e ∈ l, v < e.ver := by
  unfold E.aboves
  rw [List.length_filter_eq_length_iff]
  simp
theorem take_map (l : List Lv) (k : Nat) : (l.take k).map Lv.dl = (l.map Lv.dl).take k := List.map_take
theorem sright_call (x : Lv) (w : World) (h : SRd w x.v) (hn : x.v.n ≤ 4000) : Calls Try.prog 35 #[sv x.v] w fun e w' => e = .returned (.bool (srightB x.v.s)) ∧ Below w.heap.size w w' := rsright_any x.v w h (by omega)
noncomputable def lrightB (l : List Dl) : Bool := open Classical in decide (L.right l)
theorem lrightB_iff {l : List Dl} {b : Bool} (h : b = true ↔ L.right l) : b = lrightB l := by
  unfold lrightB
  by_cases hr : L.right l
  · rw [h.2 hr]; simp [hr]
  · cases b
    · simp [hr]
    · exact absurd (h.1 rfl) hr
theorem lrightB_no {l : List Dl} (h : ¬ L.right l) : lrightB l = false := (lrightB_iff (b := false) ⟨(fun e => by cases e), fun hr => absurd hr h⟩).symm
theorem lrightB_yes {l : List Dl} (h : L.right l) : lrightB l = true := (lrightB_iff (b := true) ⟨fun _ => h, fun _ => rfl⟩).symm
theorem lrightB_out {l : List Dl} (h : lrightB l = true) : L.right l := by
  by_cases hr : L.right l
  · exact hr
  · rw [lrightB_no hr] at h; cases h
theorem riseL_at {l : List Dl} (h : L.rising l) {i j : Nat} {x y : Dl} (hij : i < j) (hx : l[i]? = some x) (hy : l[j]? = some y) : x.node < y.node := by
  induction l generalizing i j with
  | nil => simp at hx
  | cons z r ih =>
    cases j with
    | zero => omega
    | succ j =>
      rw [List.getElem?_cons_succ] at hy
      cases i with
      | zero =>
        obtain rfl : z = x := by simpa using hx
        exact h.1 y (List.mem_of_getElem? hy)
      | succ i =>
        rw [List.getElem?_cons_succ] at hx
        exact ih h.2 (by omega) hx hy
theorem rightL_snoc {l : List Dl} {x : Dl} (h : L.right l) (hm : L.may x) (hlt : ∀ y ∈ l, y.node < x.node) : L.right (l ++ [x]) := by
  refine ⟨fun y hy => ?_, riseL_snoc.2 ⟨h.2, hlt⟩⟩
  rcases List.mem_append.1 hy with hy | hy
  · exact h.1 y hy
  · obtain rfl : y = x := by simpa using hy
    exact hm
theorem below_lastL {l : List Dl} {k : Nat} {z x : Dl} (hr : L.rising (l.take k)) (hz : l[k - 1]? = some z) (hzx : z.node < x.node) (hk : 0 < k) : ∀ y ∈ l.take k, y.node < x.node := by
  intro y hy
  obtain ⟨i, hi, rfl⟩ := List.mem_iff_getElem.1 hy
  have hil : i < k := by rw [List.length_take] at hi; omega
  have hz2 : (l.take k)[k - 1]? = some z := by rw [List.getElem?_take, if_pos (by omega)]; exact hz
  by_cases h : i = k - 1
  · subst h
    rw [List.getElem?_eq_getElem hi] at hz2
    injection hz2 with hz2
    rw [hz2]; exact hzx
  · have h1 := riseL_at hr (show i < k - 1 by omega) (List.getElem?_eq_getElem hi) hz2
    omega

end Go.Proofs.Ytkabkpeamggnnaa

