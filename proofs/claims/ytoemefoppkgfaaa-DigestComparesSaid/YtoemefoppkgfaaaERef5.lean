/- The reference's Put. -/
import Derived.Test.YtoemefoppkgfaaaERef4
namespace Go.Proofs.Ytoemefoppkgfaaa
set_option linter.unusedVariables false
set_option linter.unusedSimpArgs false
open Go.RowKit

/-- how far Put has come: x is not put yet, or it is -/
def Putting (l : List Ent) (x : Ent) (k : Nat) (p : Bool) (O : List Ent) : Prop :=
  (p = false ∧ O = l.take k ∧ ∀ y ∈ l.take k, y.key < x.key) ∨ (p = true ∧ O = E.put (l.take k) x ∧ ∃ y ∈ l.take k, x.key ≤ y.key)
theorem Putting.start (l : List Ent) (x : Ent) : Putting l x 0 false [] := Or.inl ⟨rfl, rfl, by simp⟩
theorem Putting.len {l O : List Ent} {x : Ent} {k : Nat} (h : Putting l x k false O) : O.length ≤ k := by
  rcases h with ⟨_, rfl, _⟩ | ⟨e, _⟩
  · rw [List.length_take]; omega
  · cases e
theorem Putting.lower {l O : List Ent} {x y : Ent} {k : Nat} (h : Putting l x k false O) (hy : l[k]? = some y) (hlt : y.key < x.key) : Putting l x (k + 1) false (O ++ [y]) := by
  rcases h with ⟨_, rfl, ha⟩ | ⟨e, _⟩
  · refine Or.inl ⟨rfl, (take_more hy).symm, fun z hz => ?_⟩
    rw [take_more hy] at hz
    rcases List.mem_append.1 hz with hz | hz
    · exact ha z hz
    · obtain rfl : z = y := by simpa using hz
      exact hlt
  · cases e
theorem Putting.same {l O : List Ent} {x y : Ent} {k : Nat} (h : Putting l x k false O) (hy : l[k]? = some y) (he : y.key = x.key) : Putting l x (k + 1) true (O ++ [x]) := by
  rcases h with ⟨_, rfl, ha⟩ | ⟨e, _⟩
  · refine Or.inr ⟨rfl, ?_, y, by rw [take_more hy]; simp, by omega⟩
    rw [take_more hy, E.put_at ha [] (by omega), if_pos he]
  · cases e
theorem Putting.upper {l O : List Ent} {x y : Ent} {k : Nat} (h : Putting l x k false O) (hy : l[k]? = some y) (hlt : x.key < y.key) : Putting l x (k + 1) true (O ++ [x] ++ [y]) := by
  rcases h with ⟨_, rfl, ha⟩ | ⟨e, _⟩
  · refine Or.inr ⟨rfl, ?_, y, by rw [take_more hy]; simp, by omega⟩
    rw [take_more hy, E.put_at ha [] (by omega), if_neg (by omega)]
    simp
  · cases e
theorem Putting.more {l O : List Ent} {x y : Ent} {k : Nat} (h : Putting l x k true O) (hy : l[k]? = some y) : Putting l x (k + 1) true (O ++ [y]) := by
  rcases h with ⟨e, _⟩ | ⟨_, rfl, z, hz, hzx⟩
  · cases e
  · refine Or.inr ⟨rfl, ?_, z, by rw [take_more hy]; simp [hz], hzx⟩
    rw [take_more hy, E.put_snoc ⟨z, hz, hzx⟩]
theorem Putting.great {l O : List Ent} {x y : Ent} {k : Nat} (h : Putting l x k true O) (hr : E.rising l) (hy : l[k]? = some y) : x.key < y.key := by
  rcases h with ⟨e, _⟩ | ⟨_, rfl, z, hz, hzx⟩
  · cases e
  · obtain ⟨i, hi, rfl⟩ := List.mem_iff_getElem.1 hz
    have hi2 : i < k := by rw [List.length_take] at hi; omega
    have := E.rising_at hr hi2 (x := (l.take k)[i]) (by rw [List.getElem_take]; exact List.getElem?_eq_getElem _) hy
    omega
theorem Putting.endF {l O : List Ent} {x : Ent} {k : Nat} (h : Putting l x k false O) (hk : l.length ≤ k) : O ++ [x] = E.put l x := by
  rcases h with ⟨_, rfl, ha⟩ | ⟨e, _⟩
  · rw [List.take_of_length_le hk] at *
    rw [E.put_lt ha]
  · cases e
theorem Putting.endT {l O : List Ent} {x : Ent} {k : Nat} (h : Putting l x k true O) (hk : l.length ≤ k) : O = E.put l x := by
  rcases h with ⟨e, _⟩ | ⟨_, rfl, _⟩
  · cases e
  · rw [List.take_of_length_le hk]

theorem below_dn {B : Nat} {a w : World} (h : Below B a w) (q : Nat) : Below B a (w.drewN q) := ⟨h.os, h.tape, h.output, h.size, h.block⟩
theorem own_dn {w : World} {base e size n : Nat} {v : Value} {xs : List Value} (h : w.ownsRow base e size v n xs) (q : Nat) : (w.drewN q).ownsRow base e size v n xs := h
/-- an entry behind a row of the call's own -/
theorem push_law {w : World} {ops : Array Oper} {rest : List Oper} {o : Oper} {a : Act} {Q : Exit → Act → World → Prop} (hgd : o.guard = none) (s x : Operand)
    (ho : o.op = .call { callee := .builtin .append, args := #[s, x], argTypes := #[35, 35] })
    (base : Nat) {A : Option Addr} {m c : Nat} {O : List Ent} {y : Ent} (hs : a.eval s = .slice A m c) (hx : a.eval x = .slice (some ⟨w.heap.size, 0, none⟩) 1 1)
    (hown : w.ownsRow base 57 3 (.slice A m c) m (EC O)) (hm : m ≤ 4000000) (hbase : base ≤ w.heap.size)
    (h : ∀ A' c' w', w'.ownsRow base 57 3 (.slice A' (m + 1) c') (m + 1) (EC (O ++ [y])) → Below base w w' → wpList Try.prog ops Q rest (a.put o.dst (.slice A' (m + 1) c')) w') :
    wpList Try.prog ops Q (o :: rest) a (w.alloc (.cells #[.int .i64 y.key, .int .i64 y.ver, .string (strB y.val)] 57)) := by
  refine app_law enT hgd s x ho base hs (hown.alloc _) hx (Rd.lit w _ _ 3 1 rfl) (by simp [Value.oneCell']) (by omega) (by omega) (by simp; omega) fun A2 c2 w2 ap => ?_
  refine h A2 c2 w2 ?_ (below_app ((Below.refl _ _).alloc hbase _) (hown.alloc _) ap.grown (Nat.le_refl _) (by simp; omega))
  rw [EC_append]
  exact ap.own

/-- a table that was made: what Put, Join, Above answer -/
def Made (W : World) (l : List Ent) (e : Ending) (w' : World) : Prop :=
  ∃ A' n' c', e = .returned (.slice A' n' c') ∧ n' = l.length ∧ w'.ownsRow W.heap.size 57 3 (.slice A' n' c') n' (EC l) ∧ Below W.heap.size W w'

end Go.Proofs.Ytoemefoppkgfaaa
