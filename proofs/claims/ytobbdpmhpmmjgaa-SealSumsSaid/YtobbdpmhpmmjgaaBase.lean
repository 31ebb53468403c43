/- What all stages' texts stand on: bytes' slices, and bellwetherref01.Same. -/
import Derived.Test.YtobbdpmhpmmjgaaChecked
import Derived.Test.YtobbdpmhpmmjgaaMem
import Derived.Lib.SlBytesConst
namespace Go.Proofs.Ytobbdpmhpmmjgaa
open Go.RowKit
theorem ret_int {k : IntKind} {a b : Int} (h : a = b) : Ending.returned (.int k a) = .returned (.int k b) := by rw [h]
theorem ret_bool {a b : Bool} (h : a = b) : Ending.returned (.bool a) = .returned (.bool b) := by rw [h]

theorem u8T : SlT Try.prog 22 5 (.int .u8 0) 1 1 := ⟨Try.underlying22, by kernel_rfl, rfl, by omega⟩

theorem same_any (A A' : Option Addr) (n n' c c' B B' : Nat) (l l' : List UInt8) (w : World) (h : Rd w B 1 A n (U l)) (h' : Rd w B' 1 A' n' (U l')) :
    Calls Try.prog 12 #[.slice A n c, .slice A' n' c'] w fun e w' => e = .returned (.bool (decide (l = l'))) ∧ w = w' := by
  have e1 := run_str (P := Try.prog) (c := c) 22 9 5 Try.underlying22 Try.underlying5 Try.underlying9 h
  have e2 := run_str (P := Try.prog) (c := c') 22 9 5 Try.underlying22 Try.underlying5 Try.underlying9 h'
  clear h h'
  go_enter Try.func12, Try.ntmps12
  go_wp2
  go_ret
  exact ⟨ret_bool (by by_cases e : l = l' <;> simp [e]), rfl⟩

/-- what '[]byte("..")' of a constant leaves: its row, with the mark behind it -/
def litO (l : List UInt8) : Obj := .cells (U l).toArray 5 (l.length, l.length + 1)
theorem Rd.mark (w : World) (l : List UInt8) {n : Nat} (h : l.length = n) : Rd (w.alloc (litO l)) (w.heap.size + 1) 1 (some ⟨w.heap.size, 0, none⟩) n (U l) := by
  refine ⟨by simp [U, h], fun _ => ⟨_, _, rfl, by omega, fun j _ => ?_⟩⟩
  rw [Nat.zero_add, litO, World.cell?_alloc_mark]
  simp
theorem run_mark (w : World) (l : List UInt8) (n : Nat) : (convert 22 22 (.slice (some ⟨w.heap.size, 0, none⟩) n n)).run Try.prog (w.alloc (.cells (U l).toArray 5)) = .ok (.slice (some ⟨w.heap.size, 0, none⟩) n n) (w.alloc (litO l)) := by
  have := Lib.run_convert_bytes_const (P := Try.prog) w 22 5 (U l).toArray n n Try.underlying22 Try.underlying5
  simpa [litO, U_length] using this

/-- make of n elements of one cell each -/
theorem makeN_law {P : Program} {t e : TypeId} {z : Value} {bytes : Nat} {w : World} {ops : Array Oper} {rest : List Oper} {o : Oper} {a : Act} {Q : Exit → Act → World → Prop} (T : SlT P t e z 1 bytes) (hz1 : z.cells = #[z])
    (hg : o.guard = none) (l c : Operand) (hop : o.op = Op.makeSlice t l c) (base : Nat) {kl kc : IntKind} {L C : Int} (n : Nat) (hl : a.eval l = .int kl L) (hc : a.eval c = .int kc C) (hL : L = n) (hC : C = n)
    (hb : bytes * n ≤ 281474976710656) (hm : n ≤ 281474976710656) (hbase : base ≤ w.heap.size)
    (h : ∀ w', w'.ownsRow base e 1 (.slice (some ⟨w.heap.size, 0, none⟩) n n) n (List.replicate n z) → w.grownBy w' none → wpList P ops Q rest (a.put o.dst (.slice (some ⟨w.heap.size, 0, none⟩) n n)) w') : wpList P ops Q (o :: rest) a w := by
  obtain ⟨i, hi, hz, hsz, hby⟩ := T.parts
  refine wpList_make_full w hg l c t hop base e i z 1 T.ht hi hz hsz kl kc L C n hl hc hL hC (by rw [hby]; exact hb) (by unfold maxLen; omega) hbase fun w' h2 h3 => h w' ?_ h3
  rw [Nat.mul_one, hz1, toList_madeCells_one] at h2
  exact h2
end Go.Proofs.Ytobbdpmhpmmjgaa
