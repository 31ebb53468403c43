/- Services in memory: their cells, rows of them, what calls answer. -/
import Derived.Test.YtfgpncbcelafoaaYRef3
import Derived.Test.YtfgpncbcelafoaaYMath2
import Derived.Test.YtfgpncbcelafoaaEMem
import Derived.Laws.StructEq
namespace Go.Proofs.Ytfgpncbcelafoaa
set_option linter.unusedVariables false
set_option linter.unusedSimpArgs false
open Go.RowKit
/-- a service's cells -/
def yc (x : Svc) : List Value := [.string (strB x.name), .string (strB x.proto), .int .i64 x.port, .int .i64 x.prio, .int .i64 x.wt, .bool x.well]
def YC (l : List Svc) : List Value := l.flatMap yc
theorem yc_len (x : Svc) : (yc x).length = 6 := rfl
theorem YC_len : ∀ l : List Svc, (YC l).length = l.length * 6
  | [] => rfl
  | x :: r => by
    show (yc x ++ YC r).length = _
    rw [List.length_append, YC_len r, yc_len, List.length_cons]
    omega
theorem YC_append (l m : List Svc) : YC (l ++ m) = YC l ++ YC m := List.flatMap_append
theorem YC_at : ∀ {l : List Svc} {i : Nat} {x : Svc}, l[i]? = some x → ∀ j, j < 6 → (YC l)[i * 6 + j]? = (yc x)[j]?
  | y :: r, 0, x, h, j, hj => by
    obtain rfl : y = x := by simpa using h
    show (yc y ++ YC r)[0 * 6 + j]? = _
    rw [List.getElem?_append_left (by rw [yc_len]; omega), Nat.zero_mul, Nat.zero_add]
  | y :: r, i + 1, x, h, j, hj => by
    show (yc y ++ YC r)[(i + 1) * 6 + j]? = _
    rw [List.getElem?_append_right (by rw [yc_len]; omega), yc_len, show (i + 1) * 6 + j - 6 = i * 6 + j by omega]
    exact YC_at (by simpa using h) j hj
/-- a key, and whether there is one -/
def KeyR (z : Int × Bool) (w : World) (e : Ending) (w' : World) : Prop := e = .returned (.tuple #[.int .i64 z.1, .bool z.2]) ∧ Below w.heap.size w w'
/-- services that are answered -/
def MadeY (l : List Svc) (w : World) (e : Ending) (w' : World) : Prop := (∃ A n c, e = .returned (.slice A n c) ∧ n = l.length ∧ Rd w' w'.heap.size 6 A n (YC l) ∧ n ≤ c ∧ c ≤ 9223372036854775807) ∧ Below w.heap.size w w'
/-- the cells of the service at a place -/
theorem Rd.atY {w : World} {B : Nat} {A : Option Addr} {n : Nat} {l : List Svc} (h : Rd w B 6 A n (YC l)) {k : Nat} (hk : k < n) :
    ∃ b o x, A = some ⟨b, o, none⟩ ∧ b < B ∧ l[k]? = some x ∧ w.cell? ⟨b, o + k * 6, none⟩ = some (.string (strB x.name)) ∧ w.cell? ⟨b, o + k * 6 + 1, none⟩ = some (.string (strB x.proto)) ∧ w.cell? ⟨b, o + k * 6 + 2, none⟩ = some (.int .i64 x.port) ∧ w.cell? ⟨b, o + k * 6 + 3, none⟩ = some (.int .i64 x.prio) ∧ w.cell? ⟨b, o + k * 6 + 4, none⟩ = some (.int .i64 x.wt) ∧ w.cell? ⟨b, o + k * 6 + 5, none⟩ = some (.bool x.well) := by
  have hlen := h.1
  rw [YC_len] at hlen
  have hl : l.length = n := by omega
  obtain ⟨b, o, e, hb, hc⟩ := h.2 (by omega)
  obtain ⟨x, hx⟩ : ∃ x, l[k]? = some x := ⟨_, List.getElem?_eq_getElem (by omega)⟩
  have g : ∀ j, j < 6 → w.cell? ⟨b, o + k * 6 + j, none⟩ = (yc x)[j]? := fun j hj => by
    rw [← YC_at hx j hj, Nat.add_assoc]
    exact hc _ (by rw [YC_len]; omega)
  exact ⟨b, o, x, e, hb, hx, g 0 (by omega), g 1 (by omega), g 2 (by omega), g 3 (by omega), g 4 (by omega), g 5 (by omega)⟩
def svB (x y : Svc) : Bool := decide (x = y)
theorem svB_self (x : Svc) : svB x x = true := decide_eq_true rfl
theorem eq_svc (x y : Svc) (w : World) : (Op.equalIn 10000 23 (.agg #[.string (strB x.name), .string (strB x.proto), .int .i64 x.port, .int .i64 x.prio, .int .i64 x.wt, .bool x.well]) (.agg #[.string (strB y.name), .string (strB y.proto), .int .i64 y.port, .int .i64 y.prio, .int .i64 y.wt, .bool y.well])).run Try.prog w = .ok (svB x y) w := by
  have h0 := Try.underlying23
  simp [go_sem, run_equalIn_agg]
  obtain ⟨a, b, c, d, e, f⟩ := x
  obtain ⟨a', b', c', d', e', f'⟩ := y
  unfold svB
  by_cases e1 : a = a'
  · by_cases e2 : b = b'
    · by_cases e3 : c = c'
      · by_cases e4 : d = d'
        · by_cases e5 : e = e'
          · by_cases e6 : f = f'
            · simp [e1, e2, e3, e4, e5, e6]
            · simp [e1, e2, e3, e4, e5, e6]
          · simp [e1, e2, e3, e4, e5]
        · simp [e1, e2, e3, e4]
      · simp [e1, e2, e3]
    · simp [e1, e2]
  · simp [e1]
theorem guard_svc : Try.prog.eqGuardType Try.prog.depth 23 = false := by kernel_rfl
end Go.Proofs.Ytfgpncbcelafoaa
