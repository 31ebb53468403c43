/- Bytes' slices, and bellwetherref01.Same. -/
import Derived.Test.YtillnjhmdgmgeaaDoorChecked
import Derived.Test.YtillnjhmdgmgeaaDoorWords
import Derived.Lib.SlBytesConst
import Derived.Laws.IdiomStrings
namespace Go.Proofs.YtillnjhmdgmgeaaDoor
open Go.RowKit
theorem u8T : SlT Tryd.prog 44 5 (.int .u8 0) 1 1 := ⟨Tryd.underlying44, by kernel_rfl, rfl, by omega⟩

/-- what '[]byte("..")' of a constant leaves: its row, with the mark behind it -/
def litO (l : List UInt8) : Obj := .cells (U l).toArray 5 (l.length, l.length + 1)
theorem Rd.mark (w : World) (l : List UInt8) {n : Nat} (h : l.length = n) : Rd (w.alloc (litO l)) (w.heap.size + 1) 1 (some ⟨w.heap.size, 0, none⟩) n (U l) := by
  refine ⟨by simp [U, h], fun _ => ⟨_, _, rfl, by omega, fun j _ => ?_⟩⟩
  rw [Nat.zero_add, litO, World.cell?_alloc_mark]
  simp
theorem run_mark (w : World) (l : List UInt8) (n : Nat) : (convert 44 44 (.slice (some ⟨w.heap.size, 0, none⟩) n n)).run Tryd.prog (w.alloc (.cells (U l).toArray 5)) = .ok (.slice (some ⟨w.heap.size, 0, none⟩) n n) (w.alloc (litO l)) := by
  have := Lib.run_convert_bytes_const (P := Tryd.prog) w 44 5 (U l).toArray n n Tryd.underlying44 Tryd.underlying5
  simpa [litO, U_length] using this

/-! ### '[]byte(s)' -/
def strC (w : World) (s : ByteArray) : Nat := grownCap w s.size 0 5
def strO (w : World) (s : ByteArray) : Obj := .cells (bytesRow s (strC w s)) 5 ((bytesRow s (strC w s)).size, (bytesRow s (strC w s)).size + 1)
theorem run_bytes (w : World) (s : ByteArray) : (convert 9 44 (.string s)).run Tryd.prog w = .ok (.slice (some ⟨w.heap.size, 0, none⟩) s.size (strC w s)) (w.drew.alloc (strO w s)) :=
  run_bytes_of_string w 9 44 5 s Tryd.underlying9 Tryd.underlying44 Tryd.underlying5
theorem strC_ge (w : World) (s : ByteArray) : s.size ≤ strC w s := grownCap_ge w s.size 0 5
theorem strC_le (w : World) (s : ByteArray) (h : s.size ≤ maxLen) : strC w s ≤ maxLen := grownCap_le_maxLen w s.size 0 5 h
theorem Rd.bytes (w : World) (l : List UInt8) : Rd (w.drew.alloc (strO w (strB l))) (w.heap.size + 1) 1 (some ⟨w.heap.size, 0, none⟩) l.length (U l) := by
  refine ⟨by simp [U_length], fun _ => ⟨_, _, rfl, by omega, fun j hj => ?_⟩⟩
  rw [U_length] at hj
  have h1 := cell_of_row (w.drew.alloc (strO w (strB l))) w.heap.size j _ _ _ (heap_alloc_new w.drew _)
  have h2 := bytesRow_at (strB l) (strC w (strB l)) j (by simpa [strB] using hj)
  rw [Nat.zero_add, h1, h2, U_get, List.getElem?_eq_getElem hj]
  simp [strB]
end Go.Proofs.YtillnjhmdgmgeaaDoor
