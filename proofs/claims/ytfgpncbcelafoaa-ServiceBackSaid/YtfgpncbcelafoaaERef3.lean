/- The reference's Same and Right. -/
import Derived.Test.YtfgpncbcelafoaaERef2
import Derived.Laws.StructEq
import Derived.Deep.RegionHeld3
namespace Go.Proofs.Ytfgpncbcelafoaa
set_option linter.unusedVariables false
set_option linter.unusedSimpArgs false
open Go.RowKit

def eqB (x y : Ent) : Bool := decide (x = y)
theorem eq_ent (x y : Ent) (w : World) : (Op.equalIn 10000 40 (.agg #[.int .i64 x.key, .int .i64 x.ver, .string (strB x.val)]) (.agg #[.int .i64 y.key, .int .i64 y.ver, .string (strB y.val)])).run Try.prog w = .ok (eqB x y) w := by
  have h0 := Try.underlying40
  simp [go_sem, run_equalIn_agg]
  obtain ⟨k, v, s⟩ := x
  obtain ⟨k', v', s'⟩ := y
  unfold eqB
  by_cases e1 : k = k'
  · by_cases e2 : v = v'
    · by_cases e3 : s = s'
      · simp [e1, e2, e3]
      · simp [e1, e2, e3]
    · simp [e1, e2]
  · simp [e1]
theorem guard_ent : Try.prog.eqGuardType Try.prog.depth 40 = false := by kernel_rfl

theorem right_snoc {l : List Ent} {x : Ent} : E.right (l ++ [x]) ↔ E.right l ∧ E.may x ∧ ∀ y ∈ l, y.key < x.key := by
  unfold E.right
  rw [E.rising_snoc]
  constructor
  · rintro ⟨h1, h2, h3⟩
    exact ⟨⟨fun y hy => h1 y (by simp [hy]), h2⟩, h1 x (by simp), h3⟩
  · rintro ⟨⟨h1, h2⟩, h3, h4⟩
    refine ⟨fun y hy => ?_, h2, h4⟩
    rcases List.mem_append.1 hy with hy | hy
    · exact h1 y hy
    · obtain rfl : y = x := by simpa using hy
      exact h3
theorem right_take {l : List Ent} (h : E.right l) (k : Nat) : E.right (l.take k) := ⟨fun y hy => h.1 y (List.mem_of_mem_take hy), E.rising_take h.2 k⟩
theorem below_last {l : List Ent} (hr : E.rising l) {k : Nat} {y x : Ent} (hl : k + 1 = l.length) (hy : l[k]? = some y) (hx : y.key < x.key) : ∀ z ∈ l, z.key < x.key := by
  intro z hz
  obtain ⟨i, hi, rfl⟩ := List.mem_iff_getElem.1 hz
  by_cases h : i = k
  · subst h
    rw [List.getElem?_eq_getElem hi] at hy
    injection hy with hy; rw [hy]; exact hx
  · have := E.rising_at hr (show i < k by omega) (List.getElem?_eq_getElem hi) hy
    omega
end Go.Proofs.Ytfgpncbcelafoaa
