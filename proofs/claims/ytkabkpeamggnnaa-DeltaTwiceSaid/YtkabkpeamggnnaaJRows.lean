/- VRows DRows LRows (merged). -/
import Derived.Test.YtkabkpeamggnnaaChecked
import Derived.Lib.SmallJoins
import Derived.Test.YtkabkpeamggnnaaJMem
namespace Go.Proofs.Ytkabkpeamggnnaa
open Go.RowKit Go.ChangeShapes Go.WideShapes Go.Joins
theorem weights_le {H : Type} {P : Program} {ts : List TypeId} {ds : List (DataW H)} (hsz : (DataW.weightsEach P ts ds).all (· ≤ reachBytes) = true) {j : Nat} {t : TypeId} {d : DataW H} (ht : ts[j]? = some t) (hd : ds[j]? = some d) :
    ∀ n ∈ d.weights P t, n ≤ 140737488351232 := fun n hn => by
  have := List.all_eq_true.1 hsz n (DataW.weights_mem_each ht hd n hn)
  have h2 := of_decide_eq_true this
  unfold reachBytes at h2
  exact h2

theorem opens_Nameds {H : Type} {enc : TypeId × Value → H} {W : World} {base b0 : Nat} {held : Bool} {r : Reach} {v : Value} {d : DataW H} {p : List MemPlace} (hv : Value.okWide Try.prog W r b0 22 v)
    (h : DataW.Trod enc Try.prog W base (fun _ => true) held 22 v d p) (hw : ∀ n ∈ d.weights Try.prog 22, n ≤ 140737488351232) : ∃ U : Vw, v = vval U ∧ VIn W U := by
  obtain ⟨a, len, cap, rfl⟩ := okWide_slice Try.underlying22 hv
  obtain ⟨fuel, hf⟩ := h
  obtain ⟨a', len', cap', l, e, hr, h1, h2, h3, h4⟩ := rows_of (f := ncl) (k := 4) (by_ := 48) (R := fun x => SIn W x.v ∧ (Lit.int .i64 x.node).wf = true) (by omega) ncl_len Try.underlying22 (by kernel_rfl) (by kernel_rfl) (by omega)
    (fun cs y fl hl ht hwy => nv_of Try.underlying49 rfl (by kernel_rfl) rfl (by kernel_rfl) Try.underlying3 rfl
      (fun cs y fl hl hwy ht => state_of Try.underlying40 (by kernel_rfl) Try.underlying3 Try.underlying3 rfl Try.underlying38 Try.underlying58 (by kernel_rfl) (by kernel_rfl) Try.underlying3 Try.underlying3 Try.underlying9 (by kernel_rfl) hl hwy ht) hl hwy ht)
    hw (v := .slice a len cap) hf
  obtain ⟨rfl, rfl, rfl⟩ : a = a' ∧ len = len' ∧ cap = cap' := by simpa using e
  exact ⟨⟨l, a, len, cap⟩, rfl, ⟨hr, fun x hx => (h4 x hx).1.1⟩, h1, h3, fun x hx => ⟨⟨(h4 x hx).1.2.1, (h4 x hx).1.2.2.1⟩, (h4 x hx).2⟩⟩
end Go.Proofs.Ytkabkpeamggnnaa

namespace Go.Proofs.Ytkabkpeamggnnaa
open Go.RowKit Go.ChangeShapes Go.WideShapes Go.Joins

theorem opens_Digests {H : Type} {enc : TypeId × Value → H} {W : World} {base b0 : Nat} {held : Bool} {r : Reach} {v : Value} {d : DataW H} {p : List MemPlace} (hv : Value.okWide Try.prog W r b0 23 v)
    (h : DataW.Trod enc Try.prog W base (fun _ => true) held 23 v d p) (hw : ∀ n ∈ d.weights Try.prog 23, n ≤ 140737488351232) : ∃ A n c l, v = .slice A n c ∧ DIn W A n c l := by
  obtain ⟨a, len, cap, rfl⟩ := okWide_slice Try.underlying23 hv
  obtain ⟨fuel, hf⟩ := h
  obtain ⟨a', len', cap', l, e, hr, h1, h2, h3, h4⟩ := rows_of (f := dcl) (k := 3) (by_ := 24) (R := fun _ => True) (by omega) dcl_len Try.underlying23 (by kernel_rfl) (by kernel_rfl) (by omega)
    (fun cs y fl hl ht hwy => dg_of Try.underlying60 (by kernel_rfl) Try.underlying3 Try.underlying3 Try.underlying3 hl ht)
    hw (v := .slice a len cap) hf
  obtain ⟨rfl, rfl, rfl⟩ : a = a' ∧ len = len' ∧ cap = cap' := by simpa using e
  exact ⟨a, len, cap, l, rfl, hr, h1, h3⟩
end Go.Proofs.Ytkabkpeamggnnaa

namespace Go.Proofs.Ytkabkpeamggnnaa
open Go.RowKit Go.ChangeShapes Go.WideShapes Go.Joins

theorem opens_Deltas {H : Type} {enc : TypeId × Value → H} {W : World} {base b0 : Nat} {held : Bool} {r : Reach} {v : Value} {d : DataW H} {p : List MemPlace} (hv : Value.okWide Try.prog W r b0 27 v)
    (h : DataW.Trod enc Try.prog W base (fun _ => true) held 27 v d p) (hw : ∀ n ∈ d.weights Try.prog 27, n ≤ 140737488351232) : ∃ U : Lw, v = lval U ∧ LIn W U := by
  obtain ⟨a, len, cap, rfl⟩ := okWide_slice Try.underlying27 hv
  obtain ⟨fuel, hf⟩ := h
  obtain ⟨a', len', cap', l, e, hr, h1, h2, h3, h4⟩ := rows_of (f := lcl) (k := 5) (by_ := 56) (R := fun x => SIn W x.v) (by omega) lcl_len Try.underlying27 (by kernel_rfl) (by kernel_rfl) (by omega)
    (fun cs y fl hl ht hwy => lv_of Try.underlying42 rfl (by kernel_rfl) rfl (by kernel_rfl) rfl (by kernel_rfl) Try.underlying3 Try.underlying3 rfl
      (fun cs y fl hl hwy ht => state_of Try.underlying40 (by kernel_rfl) Try.underlying3 Try.underlying3 rfl Try.underlying38 Try.underlying58 (by kernel_rfl) (by kernel_rfl) Try.underlying3 Try.underlying3 Try.underlying9 (by kernel_rfl) hl hwy ht) hl hwy ht)
    hw (v := .slice a len cap) hf
  obtain ⟨rfl, rfl, rfl⟩ : a = a' ∧ len = len' ∧ cap = cap' := by simpa using e
  exact ⟨⟨l, a, len, cap⟩, rfl, ⟨hr, fun x hx => (h4 x hx).1⟩, h1, h3, fun x hx => ⟨(h4 x hx).2.1, (h4 x hx).2.2.1⟩⟩
end Go.Proofs.Ytkabkpeamggnnaa

