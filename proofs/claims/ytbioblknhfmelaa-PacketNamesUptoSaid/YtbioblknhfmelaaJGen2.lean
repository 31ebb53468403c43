/- Gen2 (merged). -/
import Derived.Test.YtbioblknhfmelaaJGen
namespace Go.Proofs.Ytbioblknhfmelaa
set_option linter.unusedVariables false
open Go.RowKit

/-- a slice's cells don't lie in the row of one's own -/
def Off (v : Value) (A : Option Addr) (n : Nat) : Prop := n ≠ 0 → ∀ b o, A = some ⟨b, o, none⟩ → v.ownBlock ≠ some b
theorem Rd.grownX {w w' : World} {size n : Nat} {A : Option Addr} {xs : List Value} {v : Value} (h : Rd w w.heap.size size A n xs) (hg : w.grownBy w' v.ownBlock) (ho : Off v A n) : Rd w' w'.heap.size size A n xs := by
  refine ⟨h.1, fun hn => ?_⟩
  obtain ⟨b, o, e, hb, hc⟩ := h.2 hn
  refine ⟨b, o, e, Nat.lt_of_lt_of_le hb hg.size, fun j hj => (World.cell?_of_block (a := ⟨b, o + j, none⟩) (hg.block b hb fun hne => ho hn b o e hne.symm)).trans (hc j hj)⟩
/-- behind an append it is apart from the new row, too -/
theorem Off.app {w : World} {size n : Nat} {A : Option Addr} {xs : List Value} {v v' : Value} (ho : Off v A n) (h : Rd w w.heap.size size A n xs) (hl : v'.ownBlock = v.ownBlock ∨ v'.ownBlock = some w.heap.size) : Off v' A n := fun hn b o e hb => by
  rcases hl with hl | hl
  · exact ho hn b o e (hl ▸ hb)
  · obtain ⟨b', o', e', hlt, _⟩ := h.2 hn
    rw [e] at e'
    injection e' with e'
    injection e' with e' _
    rw [hl] at hb
    injection hb with hb
    omega

section
variable {α : Type} {f : α → List Value} {k : Nat}
/-- what a push keeps: each slice that reads, and lies apart from the row -/
def Keeps (w w' : World) (v v' : Value) : Prop := ∀ {size n : Nat} {A : Option Addr} {xs : List Value}, Rd w w.heap.size size A n xs → Off v A n → Rd w' w'.heap.size size A n xs ∧ Off v' A n
/-- an element behind a row of the call's own: its cells were laid in a block ahead -/
theorem pushF_law {P : Program} {t e : TypeId} {z : Value} {bytes : Nat} {w : World} {ops : Array Oper} {rest : List Oper} {o : Oper} {a : Act} {Q : Exit → Act → World → Prop} (T : SlT P t e z k bytes) (hf : ∀ x, (f x).length = k) (h1 : ∀ x, ∀ u ∈ f x, u.oneCell' = true)
    (hgd : o.guard = none) (s x : Operand) (ho : o.op = .call { callee := .builtin .append, args := #[s, x], argTypes := #[t, t] })
    (base : Nat) {A : Option Addr} {m c : Nat} {O : List α} {y : α} {cs : Array Value} {ty : TypeId} (hcs : cs.toList = f y) (hs : a.eval s = .slice A m c) (hx : a.eval x = .slice (some ⟨w.heap.size, 0, none⟩) 1 1)
    (hown : w.ownsRow base e k (.slice A m c) m (FC f O)) (hb : (m + 1) * bytes ≤ 140737488355328) (hm : m + 1 ≤ 140737488355328) (hbase : base ≤ w.heap.size)
    (h : ∀ A' c' w', w'.ownsRow base e k (.slice A' (m + 1) c') (m + 1) (FC f (O ++ [y])) → Below base w w' → Keeps w w' (.slice A m c) (.slice A' (m + 1) c') → wpList P ops Q rest (a.put o.dst (.slice A' (m + 1) c')) w') :
    wpList P ops Q (o :: rest) a (w.alloc (.cells cs ty)) := by
  have hsz : cs.size = 1 * k := by rw [← Array.length_toList, hcs, hf]; omega
  refine app_law T hgd s x ho base hs (hown.alloc _) hx (Rd.lit w cs ty k 1 hsz) (by rw [hcs]; exact h1 y) hb hm (by simp; omega) fun A2 c2 w2 ap => ?_
  have hown2 := ap.own
  rw [hcs, show FC f O ++ f y = FC f (O ++ [y]) by rw [FC_append, FC_one]] at hown2
  refine h A2 c2 w2 hown2 (below_app ((Below.refl _ _).alloc hbase _) (hown.alloc _) ap.grown (Nat.le_refl _) (by simp; omega)) ?_
  intro size n A0 xs hr hoff
  have hr2 : Rd (w.alloc (.cells cs ty)) (w.alloc (.cells cs ty)).heap.size size A0 n xs := (hr.alloc (Nat.le_refl _) _).more (by simp)
  exact ⟨hr2.grownX ap.grown hoff, hoff.app hr2 ap.loc⟩
theorem Keeps.trans {w w' w'' : World} {u v v' : Value} (h1 : Keeps w w' u v) (h2 : Keeps w' w'' v v') : Keeps w w'' u v' := fun hr ho => by
  obtain ⟨h3, h4⟩ := h1 hr ho
  exact h2 h3 h4
end
end Go.Proofs.Ytbioblknhfmelaa

