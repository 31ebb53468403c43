/- A table of four sectors in one block, and rows of writes (for block's law on torn writes). -/
import Derived.Test.YtijpmjedohjikaaKAlive
import Derived.Test.YtijpmjedohjikaaKLen
import Derived.Test.YtijpmjedohjikaaKOpen
import Derived.Test.YtijpmjedohjikaaChecked
namespace Go.Proofs.Ytijpmjedohjikaa
set_option linter.unusedVariables false
set_option linter.unusedSimpArgs false
open Go.RowKit Go.ChangeShapes Go.WideShapes Go.Joins Go.Deep
theorem boxS_store {w : World} {b : Nat} {T : TypeId} {l : List (List UInt8)} (h : Box w b T (S l).toArray) (hl : ∀ s ∈ l, s.length = 64) {k : Nat} {s : List UInt8} (hs : s.length = 64) (hk : k < l.length) : Box (w.setCells b (k * 64) (U s)) b T (S (l.set k s)).toArray := by
  rw [← S_laid hl hs hk]
  exact Box.setCells (w := w) _ _ _ _ h
theorem boxS_byte {w : World} {b : Nat} {T : TypeId} {l : List (List UInt8)} (h : Box w b T (S l).toArray) (hl : ∀ s ∈ l, s.length = 64) {k j : Nat} {s : List UInt8} (hs : l[k]? = some s) (hj : j < 64) (x : UInt8) : Box (w.setCell ⟨b, k * 64 + j, none⟩ (.int .u8 (x.toNat : Int))) b T (S (l.set k (s.set j x))).toArray := by
  rw [← S_byte hl hs hj x]
  have h1 := h.set (k * 64 + j) (.int .u8 (x.toNat : Int))
  rwa [List.setIfInBounds_toArray] at h1
theorem boxS_range {w : World} {b : Nat} {T : TypeId} {l : List (List UInt8)} (h : Box w b T (S l).toArray) (hl : ∀ s ∈ l, s.length = 64) {k : Nat} {s : List UInt8} (hs : l[k]? = some s) : w.rangeAt b (k * 64) (U s) := fun j v hv => by
  have hj : j < 64 := by
    have h1 := (List.getElem?_eq_some_iff.1 hv).1
    rwa [U_length, hl s (List.mem_of_getElem? hs)] at h1
  exact h.at _ (by rw [List.getElem?_toArray, S_at l hl hs j hj, hv])
theorem boxS_there {w : World} {b : Nat} {T : TypeId} {l : List (List UInt8)} (h : Box w b T (S l).toArray) (hl : ∀ s ∈ l, s.length = 64) {k : Nat} (hk : k < l.length) : w.there b (k * 64) 64 := fun j hj => by
  refine ⟨?_, h.cold _⟩
  have h1 := S_length l hl
  have h2 : (S l).toArray[k * 64 + j]? = some ((S l)[k * 64 + j]'(by omega)) := by rw [List.getElem?_toArray]; exact List.getElem?_eq_getElem _
  rw [h.at _ h2]
  rfl
theorem KRd.cells {u : Kv} {b : Nat} (hb : ∀ bk ok, u.A = some ⟨bk, ok, none⟩ → bk ≠ b) : ∀ {w : World} (h : KRd w u) (vs : List Value) (o : Nat), KRd (w.setCells b o vs) u
  | _, h, [], _ => h
  | _, h, v :: vs, o => KRd.cells hb (h.other hb v) vs (o + 1)
def zeros4 : List (List UInt8) := List.replicate 4 K.zero
theorem run_alloc_want (w : World) (ρ : Operand → Value) (d : Option Nat) (T : TypeId) (pos : String) (af : Array Edge) (g : Option (Nat × Bool)) : (execOp ρ ⟨d, .alloc 43, T, pos, af, g⟩).run Try.prog w = .ok (.value (.pointer (some ⟨w.heap.size, 0, none⟩))) (w.alloc (.cells (S zeros4).toArray 43)) := by kernel_rfl
theorem want_new {ops : Array Oper} {rest : List Oper} {T : TypeId} {pos : String} {af : Array Edge} {a : Act} {w : World} {Q : Exit → Act → World → Prop} (d : Nat)
    (h : wpList Try.prog ops Q rest (a.put (some d) (.pointer (some ⟨w.heap.size, 0, none⟩))) (w.alloc (.cells (S zeros4).toArray 43))) :
    wpList Try.prog ops Q (⟨some d, .alloc 43, T, pos, af, none⟩ :: rest) a w := by
  refine wpList_plain rfl fun KK hK => ?_
  unfold Oper.wp
  rw [run_alloc_want]
  exact hK _ _ h
theorem sec_lay {ops : Array Oper} {rest : List Oper} {T : TypeId} {pos : String} {af : Array Edge} {x y : Operand} {a : Act} {w : World} {Q : Exit → Act → World → Prop} (b o : Nat) (s : List UInt8) (hs : s.length = 64) (ht : w.there b o 64)
    (hx : a.eval x = .pointer (some ⟨b, o, none⟩)) (hy : a.eval y = .agg (U s).toArray)
    (h : wpList Try.prog ops Q rest (a.put none undef) (w.setCells b o (U s))) : wpList Try.prog ops Q (⟨none, .store 26 x y, T, pos, af, none⟩ :: rest) a w :=
  sec_store b o s hs ht rfl x y rfl hx _ hy rfl h

/-! ### Writes -/
/-- a write: where, which bytes -/
def Wt : Type := { p : Int × List UInt8 // (0 ≤ p.1 ∧ p.1 ≤ 255) ∧ p.2.length = 64 }
def wc (t : Wt) : List Value := .int .u8 t.1.1 :: U t.1.2
theorem wc_len (t : Wt) : (wc t).length = 65 := by unfold wc; rw [List.length_cons, U_length, t.2.2]
/-- writes in memory -/
def WrRd (w : World) (A : Option Addr) (n c : Nat) (l : List Wt) : Prop := Rd w w.heap.size 65 A n (FC wc l) ∧ n ≤ c ∧ c ≤ 9223372036854775807
theorem WrRd.belowH {w w' : World} {A : Option Addr} {n c : Nat} {l : List Wt} (h : WrRd w A n c l) (hb : Below w.heap.size w w') : WrRd w' A n c l := ⟨h.1.belowH hb, h.2⟩
theorem WrRd.at {w : World} {A : Option Addr} {n c : Nat} {l : List Wt} (h : WrRd w A n c l) {k : Nat} (hk : k < n) :
    ∃ b o t, A = some ⟨b, o, none⟩ ∧ b < w.heap.size ∧ l[k]? = some t ∧ w.cell? ⟨b, o + k * 65, none⟩ = some (.int .u8 t.1.1) ∧ w.rangeAt b (o + k * 65 + 1) (U t.1.2) := by
  have hlen : l.length = n := by have h1 := h.1.1; rw [FC_length wc_len] at h1; omega
  obtain ⟨b, o, e, hb, hc⟩ := h.1.2 (by omega)
  obtain ⟨t, ht⟩ : ∃ t, l[k]? = some t := ⟨_, List.getElem?_eq_getElem (by omega)⟩
  have hF : (FC wc l).length = n * 65 := by rw [FC_length wc_len, hlen]
  refine ⟨b, o, t, e, hb, ht, ?_, fun j v hv => ?_⟩
  · have h0 := hc (k * 65 + 0) (by omega)
    rw [FC_at wc_len ht 0 (by omega)] at h0
    exact h0
  · have hj : j < 64 := by
      have h1 := (List.getElem?_eq_some_iff.1 hv).1
      rwa [U_length, t.2.2] at h1
    have h0 := hc (k * 65 + (j + 1)) (by omega)
    rw [FC_at wc_len ht (j + 1) (by omega)] at h0
    rw [show o + k * 65 + 1 + j = o + (k * 65 + (j + 1)) by omega, h0]
    exact hv
theorem opens_Writes {H : Type} {enc : TypeId × Value → H} {W : World} {base b0 : Nat} {held : Bool} {r : Reach} {v : Value} {d : DataW H} {p : List MemPlace} (hv : Value.okWide Try.prog W r b0 41 v)
    (h : DataW.Trod enc Try.prog W base (fun _ => true) held 41 v d p) : ∃ A n c l, v = .slice A n c ∧ WrRd W A n c l := by
  obtain ⟨a, len, cap, rfl⟩ := okWide_slice Try.underlying41 hv
  obtain ⟨fuel, hf⟩ := h
  obtain ⟨a', len', cap', l, e, hr, h3, h4, _⟩ := rows_free (f := wc) (k := 65) (by omega) wc_len Try.underlying41 (by kernel_rfl)
    (fun cs y fl hl ht => by
      obtain ⟨y0, y1, m, _, _, g0, g1⟩ := trod_struct2 Try.underlying45 ht
      match cs, hl with
      | c0 :: rest, hl =>
        have g0' := g0
        have e1 : Try.prog.cellsOf 5 = 1 := by kernel_rfl
        have e64 : Try.prog.cellsOf 26 = 64 := by kernel_rfl
        have hr : rest.length = 64 := by simpa using hl
        simp only [e1, e64, List.drop_zero, List.drop_succ_cons, List.take_succ_cons, List.take_zero] at g0 g1
        rw [List.take_of_length_le (by omega)] at g1
        obtain ⟨z, ez, _, wz⟩ := DataW.trod_int Try.underlying5 g0
        obtain ⟨s, hs, es⟩ := bytes_cells Try.underlying26 Try.underlying5 (by kernel_rfl) hr g1
        obtain rfl : c0 = .int .u8 z := by simpa using ez
        exact ⟨⟨(z, s), wf_bounds_u8 wz, hs⟩, by rw [es]; rfl⟩) (v := .slice a len cap) hf
  obtain ⟨rfl, rfl, rfl⟩ : a = a' ∧ len = len' ∧ cap = cap' := by simpa using e
  exact ⟨a, len, cap, l, rfl, hr, h3, h4⟩
end Go.Proofs.Ytijpmjedohjikaa
