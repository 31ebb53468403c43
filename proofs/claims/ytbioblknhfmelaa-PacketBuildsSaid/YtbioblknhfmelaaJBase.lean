/- Base (merged). -/
import Derived.Test.YtbioblknhfmelaaChecked
import Derived.Lib.SlBytesConst
import Derived.Laws.IdiomStrings
import Derived.Test.YtbioblknhfmelaaJWords
namespace Go.Proofs.Ytbioblknhfmelaa
open Go.RowKit
theorem u8T : SlT Try.prog 28 5 (.int .u8 0) 1 1 := ⟨Try.underlying28, by kernel_rfl, rfl, by omega⟩

theorem same_any (A A' : Option Addr) (n n' c c' B B' : Nat) (l l' : List UInt8) (w : World) (h : Rd w B 1 A n (U l)) (h' : Rd w B' 1 A' n' (U l')) :
    Calls Try.prog 11 #[.slice A n c, .slice A' n' c'] w fun e w' => e = .returned (.bool (decide (l = l'))) ∧ w = w' := by
  have e1 := run_str (P := Try.prog) (c := c) 28 9 5 Try.underlying28 Try.underlying5 Try.underlying9 h
  have e2 := run_str (P := Try.prog) (c := c') 28 9 5 Try.underlying28 Try.underlying5 Try.underlying9 h'
  clear h h'
  go_enter Try.func11, Try.ntmps11
  go_wp2
  go_ret
  exact ⟨ret_bool (by by_cases e : l = l' <;> simp [e]), rfl⟩

/-! ### '[]byte(s)' -/
def strC (w : World) (s : ByteArray) : Nat := grownCap w s.size 0 5
def strO (w : World) (s : ByteArray) : Obj := .cells (bytesRow s (strC w s)) 5 ((bytesRow s (strC w s)).size, (bytesRow s (strC w s)).size + 1)
theorem run_bytes (w : World) (s : ByteArray) : (convert 9 28 (.string s)).run Try.prog w = .ok (.slice (some ⟨w.heap.size, 0, none⟩) s.size (strC w s)) (w.drew.alloc (strO w s)) :=
  run_bytes_of_string w 9 28 5 s Try.underlying9 Try.underlying28 Try.underlying5
theorem strC_ge (w : World) (s : ByteArray) : s.size ≤ strC w s := grownCap_ge w s.size 0 5
theorem strC_le (w : World) (s : ByteArray) (h : s.size ≤ maxLen) : strC w s ≤ maxLen := grownCap_le_maxLen w s.size 0 5 h
theorem Rd.bytes (w : World) (l : List UInt8) : Rd (w.drew.alloc (strO w (strB l))) (w.heap.size + 1) 1 (some ⟨w.heap.size, 0, none⟩) l.length (U l) := by
  refine ⟨by simp [U_length], fun _ => ⟨_, _, rfl, by omega, fun j hj => ?_⟩⟩
  rw [U_length] at hj
  have h1 := cell_of_row (w.drew.alloc (strO w (strB l))) w.heap.size j _ _ _ (heap_alloc_new w.drew _)
  have h2 := bytesRow_at (strB l) (strC w (strB l)) j (by simpa [strB] using hj)
  rw [Nat.zero_add, h1, h2, U_get, List.getElem?_eq_getElem hj]
  simp [strB]
end Go.Proofs.Ytbioblknhfmelaa

