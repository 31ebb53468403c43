/- The reference's Join on views. -/
import Derived.Test.YtoemefoppkgfaaaVRef4
namespace Go.Proofs.Ytoemefoppkgfaaa
set_option linter.unusedVariables false
set_option linter.unusedSimpArgs false
open Go.RowKit

theorem rise_bound : ∀ {l : List Ent} {a b : Int}, E.rising l → (∀ x ∈ l, a ≤ x.key ∧ x.key < b) → a ≤ b → (l.length : Int) ≤ b - a := by
  intro l
  induction l with
  | nil => intro a b _ _ h; simp; omega
  | cons x r ih =>
    intro a b hr hb hab
    have h1 := hb x (by simp)
    have h2 := ih (a := x.key + 1) (b := b) hr.2 (fun y hy => ⟨by have := hr.1 y hy; omega, (hb y (by simp [hy])).2⟩) (by omega)
    simp only [List.length_cons]
    omega
theorem right_len {l : List Ent} (h : E.right l) : l.length ≤ 12 := by
  have := rise_bound (a := 0) (b := 12) h.2 (fun x hx => ⟨(h.1 x hx).1, (h.1 x hx).2.1⟩) (by omega)
  omega
theorem riseV_bound : ∀ {l : List Nm} {a b : Int}, V.rising l → (∀ x ∈ l, a ≤ x.node ∧ x.node < b) → a ≤ b → (l.length : Int) ≤ b - a := by
  intro l
  induction l with
  | nil => intro a b _ _ h; simp; omega
  | cons x r ih =>
    intro a b hr hb hab
    have h1 := hb x (by simp)
    have h2 := ih (a := x.node + 1) (b := b) hr.2 (fun y hy => ⟨by have := hr.1 y hy; omega, (hb y (by simp [hy])).2⟩) (by omega)
    simp only [List.length_cons]
    omega
theorem rightV_len {l : List Nm} (h : V.right l) : l.length ≤ 8 := by
  have := riseV_bound (a := 0) (b := 8) h.2 (fun x hx => ⟨(h.1 x hx).1, (h.1 x hx).2.1⟩) (by omega)
  omega
theorem right_n {w : World} {U : Vw} (h : VRd w U) (hr : V.right U.view) : U.n ≤ 8 := by have := rightV_len hr; rw [h.viewlen] at this; exact this
/-- a view that may be has short tables (where they read) -/
def VTab (U : Vw) : Prop := ∀ x ∈ U.l, x.v.s.apps.length = x.v.n
theorem riseV_take {l : List Nm} (h : V.rising l) (k : Nat) : V.rising (l.take k) := by
  induction l generalizing k with
  | nil => simp [V.rising]
  | cons x r ih =>
    cases k with
    | zero => simp [V.rising]
    | succ k =>
      rw [List.take_succ_cons]
      exact ⟨fun y hy => h.1 y (List.mem_of_mem_take hy), ih h.2 k⟩
theorem right_takeV {l : List Nm} (h : V.right l) (k : Nat) : V.right (l.take k) := ⟨fun x hx => h.1 x (List.mem_of_mem_take hx), riseV_take h.2 k⟩
theorem right_fitR {w : World} {U : Vw} (h : VRd w U) (hr : V.right U.view) : VFit U := fun x hx => by
  have h1 := (hr.1 x.nm (List.mem_map.2 ⟨x, hx, rfl⟩)).2.2.2.2.2.2
  have h2 := right_len h1
  have h3 := (h.2 x hx).len
  have h4 : x.v.s.apps.length ≤ 12 := h2
  omega

end Go.Proofs.Ytoemefoppkgfaaa
