/- JTurn (merged). -/
import Derived.Test.YtipccalbhlhljaaChecked
import Derived.Test.YtipccalbhlhljaaJJA
import Derived.Test.YtipccalbhlhljaaJJRows
import Derived.Test.YtipccalbhlhljaaJJMath3
namespace Go.Proofs.Ytipccalbhlhljaa
set_option linter.unusedVariables false
set_option linter.unusedSimpArgs false
open Go.RowKit Go.ChangeShapes Go.WideShapes Go.Joins Go.Deep
/-- a turn: a generation more or a note, after how many bytes the power goes, the note -/
def Tn : Type := { p : Bool × Int × List UInt8 // (0 ≤ p.2.1 ∧ p.2.1 ≤ 255) ∧ p.2.2.length ≤ 9223372036854775807 }
def tc (t : Tn) : List Value := [.bool t.1.1, .int .u8 t.1.2.1, .string (strB t.1.2.2)]
theorem tc_len (t : Tn) : (tc t).length = 3 := rfl
def TnRd (w : World) (A : Option Addr) (n c : Nat) (l : List Tn) : Prop := Rd w w.heap.size 3 A n (FC tc l) ∧ n ≤ c ∧ c ≤ 9223372036854775807
theorem TnRd.belowH {w w' : World} {A : Option Addr} {n c : Nat} {l : List Tn} (h : TnRd w A n c l) (hb : Below w.heap.size w w') : TnRd w' A n c l := ⟨h.1.belowH hb, h.2⟩
theorem TnRd.at {w : World} {A : Option Addr} {n c : Nat} {l : List Tn} (h : TnRd w A n c l) {k : Nat} (hk : k < n) :
    ∃ b o t, A = some ⟨b, o, none⟩ ∧ b < w.heap.size ∧ w.cell? ⟨b, o + k * 3, none⟩ = some (.bool t.1.1) ∧ w.cell? ⟨b, o + k * 3 + 1, none⟩ = some (.int .u8 t.1.2.1) ∧ w.cell? ⟨b, o + k * 3 + 2, none⟩ = some (.string (strB (Subtype.val t).2.2)) ∧ (0 ≤ t.1.2.1 ∧ t.1.2.1 ≤ 255) ∧ (Subtype.val (p := fun p : Bool × Int × List UInt8 => (0 ≤ p.2.1 ∧ p.2.1 ≤ 255) ∧ p.2.2.length ≤ 9223372036854775807) t).2.2.length ≤ 9223372036854775807 := by
  have hlen : l.length = n := by have h1 := h.1.1; rw [FC_length tc_len] at h1; omega
  obtain ⟨b, o, e, hb, hc⟩ := h.1.2 (by omega)
  obtain ⟨t, ht⟩ : ∃ t, l[k]? = some t := ⟨_, List.getElem?_eq_getElem (by omega)⟩
  have hF : (FC tc l).length = n * 3 := by rw [FC_length tc_len, hlen]
  have h0 := hc (k * 3 + 0) (by omega)
  have h1 := hc (k * 3 + 1) (by omega)
  have h2 := hc (k * 3 + 2) (by omega)
  rw [FC_at tc_len ht 0 (by omega)] at h0
  rw [FC_at tc_len ht 1 (by omega)] at h1
  rw [FC_at tc_len ht 2 (by omega)] at h2
  exact ⟨b, o, t, e, hb, h0, h1, h2, t.2.1, t.2.2⟩
theorem opens_Turns {H : Type} {enc : TypeId × Value → H} {W : World} {base b0 : Nat} {held : Bool} {r : Reach} {v : Value} {d : DataW H} {p : List MemPlace} (hv : Value.okWide Try.prog W r b0 42 v)
    (h : DataW.Trod enc Try.prog W base (fun _ => true) held 42 v d p) : ∃ A n c l, v = .slice A n c ∧ TnRd W A n c l := by
  obtain ⟨a, len, cap, rfl⟩ := okWide_slice Try.underlying42 hv
  obtain ⟨fuel, hf⟩ := h
  obtain ⟨a', len', cap', l, e, hr, h3, h4, _⟩ := rows_free (f := tc) (k := 3) (by omega) tc_len Try.underlying42 (by kernel_rfl)
    (fun cs y fl hl ht => by
      obtain ⟨y0, y1, y2, m, _, _, g0, g1, g2⟩ := trod_struct3 Try.underlying46 ht
      match cs, hl with
      | [c0, c1, c2], _ =>
        have e1 : Try.prog.cellsOf 4 = 1 := by kernel_rfl
        have e2 : Try.prog.cellsOf 5 = 1 := by kernel_rfl
        have e3 : Try.prog.cellsOf 9 = 1 := by kernel_rfl
        simp only [e1, e2, e3, List.drop_zero, List.drop_succ_cons, List.take_succ_cons, List.take_zero] at g0 g1 g2
        obtain ⟨b, eb, _⟩ := DataW.trod_bool Try.underlying4 g0
        obtain ⟨z, ez, _, wz⟩ := DataW.trod_int Try.underlying5 g1
        obtain ⟨s, es, _, hm⟩ := DataW.trod_string Try.underlying9 g2
        obtain rfl : c0 = .bool b := by simpa using eb
        obtain rfl : c1 = .int .u8 z := by simpa using ez
        obtain rfl : c2 = .string s := by simpa using es
        have hb : strB s.data.toList = s := by unfold strB; rw [Array.toArray_toList]
        have hl : s.data.toList.length ≤ 9223372036854775807 := by
          have e : s.data.toList.length = s.size := by rw [Array.length_toList]; rfl
          rw [e]
          unfold maxLen at hm
          omega
        exact ⟨⟨(b, z, s.data.toList), wf_bounds_u8 wz, hl⟩, by show _ = [Value.bool b, Value.int .u8 z, Value.string (strB s.data.toList)]; rw [hb]⟩) (v := .slice a len cap) hf
  obtain ⟨rfl, rfl, rfl⟩ : a = a' ∧ len = len' ∧ cap = cap' := by simpa using e
  exact ⟨a, len, cap, l, rfl, hr, h3, h4⟩
end Go.Proofs.Ytipccalbhlhljaa

