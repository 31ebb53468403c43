/- The reference's Join and Over. -/
import Derived.Test.YtfgpncbcelafoaaERef5
namespace Go.Proofs.Ytfgpncbcelafoaa
set_option linter.unusedVariables false
set_option linter.unusedSimpArgs false
open Go.RowKit

theorem own_below {w w' : World} {base e size n : Nat} {v : Value} {xs : List Value} (h : w.ownsRow base e size v n xs) (hb : Below w.heap.size w w') : w'.ownsRow base e size v n xs := by
  refine ⟨h.1, ?_⟩
  rcases h.2 with h0 | ⟨g, cap, cur, hv, hbg, hg, rest⟩
  · exact .inl h0
  · exact .inr ⟨g, cap, cur, hv, hbg, (hb.block g (lt_of_block hg)).trans hg, rest⟩

theorem cells_alloc {w : World} {o : Obj} {b a0 a1 a2 : Nat} {v0 v1 v2 : Value} (hb : b < w.heap.size) (e0 : w.cell? ⟨b, a0, none⟩ = some v0) (e1 : w.cell? ⟨b, a1, none⟩ = some v1) (e2 : w.cell? ⟨b, a2, none⟩ = some v2) :
    (w.alloc o).cell? ⟨b, a0, none⟩ = some v0 ∧ (w.alloc o).cell? ⟨b, a1, none⟩ = some v1 ∧ (w.alloc o).cell? ⟨b, a2, none⟩ = some v2 :=
  ⟨(World.cell?_alloc_lt w o ⟨b, a0, none⟩ hb).trans e0, (World.cell?_alloc_lt w o ⟨b, a1, none⟩ hb).trans e1, (World.cell?_alloc_lt w o ⟨b, a2, none⟩ hb).trans e2⟩
/-- a step of Join, when nothing is there, or what is above -/
theorem step_put {O : List Ent} {y : Ent} (h : E.get O y.key = none ∨ ∃ x, E.get O y.key = some x ∧ E.above y x = true) : E.step O y = E.put O y := by
  unfold E.step
  rcases h with h | ⟨x, h, h2⟩
  · rw [h]
  · rw [h]; simp [h2]
theorem step_stay {O : List Ent} {x y : Ent} (h : E.get O y.key = some x) (h2 : E.above y x = false) : E.step O y = O := by
  unfold E.step
  rw [h]; simp [h2]
theorem join_more (l : List Ent) {r : List Ent} {k : Nat} {y : Ent} (h : r[k]? = some y) : E.join l (r.take (k + 1)) = E.step (E.join l (r.take k)) y := by rw [take_more h, E.join_snoc]

noncomputable def rightB (l : List Ent) : Bool := open Classical in decide (E.right l)
theorem rightB_iff {l : List Ent} {b : Bool} (h : b = true ↔ E.right l) : b = rightB l := by
  unfold rightB
  by_cases hr : E.right l
  · rw [h.2 hr]; simp [hr]
  · cases b
    · simp [hr]
    · exact absurd (h.1 rfl) hr
theorem rightB_no {l : List Ent} (h : ¬ E.right l) : rightB l = false := (rightB_iff (b := false) ⟨(fun e => by cases e), fun hr => absurd hr h⟩).symm
theorem rightB_yes {l : List Ent} (h : E.right l) : rightB l = true := (rightB_iff (b := true) ⟨fun _ => h, fun _ => rfl⟩).symm
theorem rightB_out {l : List Ent} (h : rightB l = true) : E.right l := by
  by_cases hr : E.right l
  · exact hr
  · rw [rightB_no hr] at h; cases h
theorem rright_any (l : List Ent) (A : Option Addr) (n c B : Nat) (w : World) (h : Rd w B 3 A n (EC l)) (hB : B ≤ w.heap.size) (hn : n * 32 ≤ 140737488351232) :
    Calls Try.prog 16 #[.slice A n c] w fun e w' => e = .returned (.bool (rightB l)) ∧ Below w.heap.size w w' :=
  (rright_t l A n c B w h hB hn).mono fun e w' ⟨⟨b, he, hb⟩, hw⟩ => ⟨by rw [he, rightB_iff hb], hw⟩

def overB (l r : List Ent) : Bool := decide (E.join l r = l)
end Go.Proofs.Ytfgpncbcelafoaa
