/- ZMem (merged). -/
import Derived.Laws.StructEq
import Derived.Test.YtbioblknhfmelaaJPlain
import Derived.Test.YtbioblknhfmelaaJBMem
import Derived.Test.YtbioblknhfmelaaJGen
namespace Go.Proofs.Ytbioblknhfmelaa
set_option linter.unusedVariables false
set_option linter.unusedSimpArgs false
open Go.RowKit
def qc (q : Qst) : List Value := [.string (strB q.name), .int .i64 q.typ, .int .i64 q.cls]
def rc (r : Rrc) : List Value := [.string (strB r.name), .int .i64 r.typ, .int .i64 r.cls, .int .i64 r.ttl, .string (strB r.data)]
def QC (l : List Qst) : List Value := FC qc l
def RC (l : List Rrc) : List Value := FC rc l
theorem qc_len (q : Qst) : (qc q).length = 3 := rfl
theorem rc_len (r : Rrc) : (rc r).length = 5 := rfl
theorem QC_len (l : List Qst) : (QC l).length = l.length * 3 := FC_length qc_len l
theorem RC_len (l : List Rrc) : (RC l).length = l.length * 5 := FC_length rc_len l
section
variable {w : World} {B n k : Nat} {A : Option Addr}
theorem Rd.lenQ {l : List Qst} (h : Rd w B 3 A n (QC l)) : l.length = n := by have h1 := h.1; rw [QC_len] at h1; omega
theorem Rd.lenR {l : List Rrc} (h : Rd w B 5 A n (RC l)) : l.length = n := by have h1 := h.1; rw [RC_len] at h1; omega
theorem Rd.atQ {l : List Qst} (h : Rd w B 3 A n (QC l)) (hk : k < n) :
    ∃ b o q, A = some ⟨b, o, none⟩ ∧ b < B ∧ l[k]? = some q ∧ w.cell? ⟨b, o + k * 3, none⟩ = some (.string (strB q.name)) ∧ w.cell? ⟨b, o + k * 3 + 1, none⟩ = some (.int .i64 q.typ) ∧ w.cell? ⟨b, o + k * 3 + 2, none⟩ = some (.int .i64 q.cls) := by
  have hl := h.lenQ
  obtain ⟨b, o, e, hb, hc⟩ := h.2 (by omega)
  obtain ⟨q, hq⟩ : ∃ q, l[k]? = some q := ⟨_, List.getElem?_eq_getElem (by omega)⟩
  have g : ∀ j, j < 3 → w.cell? ⟨b, o + k * 3 + j, none⟩ = (qc q)[j]? := fun j hj => by
    rw [← FC_at qc_len hq j hj, Nat.add_assoc]
    exact hc _ (by rw [QC_len]; omega)
  exact ⟨b, o, q, e, hb, hq, g 0 (by omega), g 1 (by omega), g 2 (by omega)⟩
theorem Rd.atR {l : List Rrc} (h : Rd w B 5 A n (RC l)) (hk : k < n) :
    ∃ b o r, A = some ⟨b, o, none⟩ ∧ b < B ∧ l[k]? = some r ∧ w.cell? ⟨b, o + k * 5, none⟩ = some (.string (strB r.name)) ∧ w.cell? ⟨b, o + k * 5 + 1, none⟩ = some (.int .i64 r.typ) ∧ w.cell? ⟨b, o + k * 5 + 2, none⟩ = some (.int .i64 r.cls) ∧ w.cell? ⟨b, o + k * 5 + 3, none⟩ = some (.int .i64 r.ttl) ∧ w.cell? ⟨b, o + k * 5 + 4, none⟩ = some (.string (strB r.data)) := by
  have hl := h.lenR
  obtain ⟨b, o, e, hb, hc⟩ := h.2 (by omega)
  obtain ⟨r, hr⟩ : ∃ r, l[k]? = some r := ⟨_, List.getElem?_eq_getElem (by omega)⟩
  have g : ∀ j, j < 5 → w.cell? ⟨b, o + k * 5 + j, none⟩ = (rc r)[j]? := fun j hj => by
    rw [← FC_at rc_len hr j hj, Nat.add_assoc]
    exact hc _ (by rw [RC_len]; omega)
  exact ⟨b, o, r, e, hb, hr, g 0 (by omega), g 1 (by omega), g 2 (by omega), g 3 (by omega), g 4 (by omega)⟩
end
/-- a packet with its lists' places -/
structure Pv where
  x : Pck
  A1 : Option Addr
  n1 : Nat
  c1 : Nat
  A2 : Option Addr
  n2 : Nat
  c2 : Nat
  A3 : Option Addr
  n3 : Nat
  c3 : Nat
  A4 : Option Addr
  n4 : Nat
  c4 : Nat
def pval (u : Pv) : Value := .agg #[.int .i64 u.x.id, .int .i64 u.x.flags, .slice u.A1 u.n1 u.c1, .slice u.A2 u.n2 u.c2, .slice u.A3 u.n3 u.c3, .slice u.A4 u.n4 u.c4]
/-- a packet reads -/
def PRd (w : World) (u : Pv) : Prop := Rd w w.heap.size 3 u.A1 u.n1 (QC u.x.qs) ∧ Rd w w.heap.size 5 u.A2 u.n2 (RC u.x.an) ∧ Rd w w.heap.size 5 u.A3 u.n3 (RC u.x.au) ∧ Rd w w.heap.size 5 u.A4 u.n4 (RC u.x.mo)
theorem PRd.belowH {w w' : World} {u : Pv} (h : PRd w u) (hb : Below w.heap.size w w') : PRd w' u := ⟨h.1.belowH hb, h.2.1.belowH hb, h.2.2.1.belowH hb, h.2.2.2.belowH hb⟩
/-- how great a packet is that memory holds -/
def PSz (u : Pv) : Prop := u.n1 * 32 ≤ 140737488351232 ∧ u.n2 * 56 ≤ 140737488351232 ∧ u.n3 * 56 ≤ 140737488351232 ∧ u.n4 * 56 ≤ 140737488351232 ∧ u.n1 ≤ u.c1 ∧ u.c1 ≤ 9223372036854775807 ∧ u.n2 ≤ u.c2 ∧ u.c2 ≤ 9223372036854775807 ∧ u.n3 ≤ u.c3 ∧ u.c3 ≤ 9223372036854775807 ∧ u.n4 ≤ u.c4 ∧ u.c4 ≤ 9223372036854775807 ∧
  (∀ q ∈ u.x.qs, q.name.length ≤ 140737488351232) ∧ (∀ r ∈ Pk.all u.x, r.name.length ≤ 140737488351232 ∧ r.data.length ≤ 140737488351232)
end Go.Proofs.Ytbioblknhfmelaa

