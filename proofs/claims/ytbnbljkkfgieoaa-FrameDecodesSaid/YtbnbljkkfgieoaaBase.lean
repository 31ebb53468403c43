/- What all stages' texts stand on: bytes' slices, and bellwetherref01.Same. -/
import Derived.Test.YtbnbljkkfgieoaaChecked
import Derived.Test.YtbnbljkkfgieoaaMem
import Derived.Lib.SlBytesConst
import Derived.Laws.IdiomStrings
import Derived.Lib.SmallJoins
import Derived.Laws.Rows
namespace Go.Proofs.Ytbnbljkkfgieoaa
open Go.RowKit
theorem ret_int {k : IntKind} {a b : Int} (h : a = b) : Ending.returned (.int k a) = .returned (.int k b) := by rw [h]
theorem ret_bool {a b : Bool} (h : a = b) : Ending.returned (.bool a) = .returned (.bool b) := by rw [h]

theorem u8T : SlT Try.prog 22 5 (.int .u8 0) 1 1 := ⟨Try.underlying22, by kernel_rfl, rfl, by omega⟩

theorem same_any (A A' : Option Addr) (n n' c c' B B' : Nat) (l l' : List UInt8) (w : World) (h : Rd w B 1 A n (U l)) (h' : Rd w B' 1 A' n' (U l')) :
    Calls Try.prog 11 #[.slice A n c, .slice A' n' c'] w fun e w' => e = .returned (.bool (decide (l = l'))) ∧ w = w' := by
  have e1 := run_str (P := Try.prog) (c := c) 22 9 5 Try.underlying22 Try.underlying5 Try.underlying9 h
  have e2 := run_str (P := Try.prog) (c := c') 22 9 5 Try.underlying22 Try.underlying5 Try.underlying9 h'
  clear h h'
  go_enter Try.func11, Try.ntmps11
  go_wp2
  go_ret
  exact ⟨ret_bool (by by_cases e : l = l' <;> simp [e]), rfl⟩

/-- what '[]byte("..")' of a constant leaves: its row, with the mark behind it -/
def litO (l : List UInt8) : Obj := .cells (U l).toArray 5 (l.length, l.length + 1)
theorem Rd.mark (w : World) (l : List UInt8) {n : Nat} (h : l.length = n) : Rd (w.alloc (litO l)) (w.heap.size + 1) 1 (some ⟨w.heap.size, 0, none⟩) n (U l) := by
  refine ⟨by simp [U, h], fun _ => ⟨_, _, rfl, by omega, fun j _ => ?_⟩⟩
  rw [Nat.zero_add, litO, World.cell?_alloc_mark]
  simp
theorem run_mark (w : World) (l : List UInt8) (n : Nat) : (convert 22 22 (.slice (some ⟨w.heap.size, 0, none⟩) n n)).run Try.prog (w.alloc (.cells (U l).toArray 5)) = .ok (.slice (some ⟨w.heap.size, 0, none⟩) n n) (w.alloc (litO l)) := by
  have := Lib.run_convert_bytes_const (P := Try.prog) w 22 5 (U l).toArray n n Try.underlying22 Try.underlying5
  simpa [litO, U_length] using this

/-- make of n elements of one cell each -/
theorem makeN_law {P : Program} {t e : TypeId} {z : Value} {bytes : Nat} {w : World} {ops : Array Oper} {rest : List Oper} {o : Oper} {a : Act} {Q : Exit → Act → World → Prop} (T : SlT P t e z 1 bytes) (hz1 : z.cells = #[z])
    (hg : o.guard = none) (l c : Operand) (hop : o.op = Op.makeSlice t l c) (base : Nat) {kl kc : IntKind} {L C : Int} (n : Nat) (hl : a.eval l = .int kl L) (hc : a.eval c = .int kc C) (hL : L = n) (hC : C = n)
    (hb : bytes * n ≤ 281474976710656) (hm : n ≤ 281474976710656) (hbase : base ≤ w.heap.size)
    (h : ∀ w', w'.ownsRow base e 1 (.slice (some ⟨w.heap.size, 0, none⟩) n n) n (List.replicate n z) → w.grownBy w' none → wpList P ops Q rest (a.put o.dst (.slice (some ⟨w.heap.size, 0, none⟩) n n)) w') : wpList P ops Q (o :: rest) a w := by
  obtain ⟨i, hi, hz, hsz, hby⟩ := T.parts
  refine wpList_make_full w hg l c t hop base e i z 1 T.ht hi hz hsz kl kc L C n hl hc hL hC (by rw [hby]; exact hb) (by unfold maxLen; omega) hbase fun w' h2 h3 => h w' ?_ h3
  rw [Nat.mul_one, hz1, toList_madeCells_one] at h2
  exact h2
/-- a block's cells -/
def Cells (w : World) (b : Nat) (xs : List Value) : Prop := b < w.heap.size ∧ ∀ j, j < xs.length → w.cell? ⟨b, j, none⟩ = xs[j]?
theorem Cells.new (w : World) (cs : Array Value) (T : TypeId) : Cells (w.alloc (.cells cs T)) w.heap.size cs.toList :=
  ⟨by simp, fun j _ => by rw [cell_of_row (w.alloc (.cells cs T)) w.heap.size j cs T (0, 0) (heap_alloc_new w _)]; simp⟩
theorem Cells.below {w w' : World} {b B : Nat} {xs : List Value} (h : Cells w b xs) (hb : Below B w w') (hB : b < B) : Cells w' b xs :=
  ⟨Nat.lt_of_lt_of_le h.1 hb.size, fun j hj => (hb.cell (p := ⟨b, j, none⟩) hB).trans (h.2 j hj)⟩
theorem Cells.belowH {w w' : World} {b : Nat} {xs : List Value} (h : Cells w b xs) (hb : Below w.heap.size w w') : Cells w' b xs := h.below hb h.1
theorem Cells.alloc {w : World} {b : Nat} {xs : List Value} (h : Cells w b xs) (o : Obj) : Cells (w.alloc o) b xs :=
  h.belowH ((Below.refl _ _).alloc (Nat.le_refl _) _)
theorem Cells.drew {w : World} {b : Nat} {xs : List Value} (h : Cells w b xs) : Cells w.drew b xs := h
theorem Cells.drewN {w : World} {b : Nat} {xs : List Value} (h : Cells w b xs) (q : Nat) : Cells (w.drewN q) b xs := h
theorem Cells.at {w : World} {b : Nat} {xs : List Value} (h : Cells w b xs) (j : Nat) {v : Value} (hv : xs[j]? = some v) : w.cell? ⟨b, j, none⟩ = some v := by
  rw [h.2 j (List.getElem?_eq_some_iff.1 hv).1, hv]
/-! ### '[]byte(s)' -/
def strC (w : World) (s : ByteArray) : Nat := grownCap w s.size 0 5
def strO (w : World) (s : ByteArray) : Obj := .cells (bytesRow s (strC w s)) 5 ((bytesRow s (strC w s)).size, (bytesRow s (strC w s)).size + 1)
theorem run_bytes (w : World) (s : ByteArray) : (convert 9 22 (.string s)).run Try.prog w = .ok (.slice (some ⟨w.heap.size, 0, none⟩) s.size (strC w s)) (w.drew.alloc (strO w s)) :=
  run_bytes_of_string w 9 22 5 s Try.underlying9 Try.underlying22 Try.underlying5
theorem strC_ge (w : World) (s : ByteArray) : s.size ≤ strC w s := grownCap_ge w s.size 0 5
theorem strC_le (w : World) (s : ByteArray) (h : s.size ≤ maxLen) : strC w s ≤ maxLen := grownCap_le_maxLen w s.size 0 5 h
theorem Rd.bytes (w : World) (l : List UInt8) : Rd (w.drew.alloc (strO w (strB l))) (w.heap.size + 1) 1 (some ⟨w.heap.size, 0, none⟩) l.length (U l) := by
  refine ⟨by simp [U_length], fun _ => ⟨_, _, rfl, by omega, fun j hj => ?_⟩⟩
  rw [U_length] at hj
  have h1 := cell_of_row (w.drew.alloc (strO w (strB l))) w.heap.size j _ _ _ (heap_alloc_new w.drew _)
  have h2 := bytesRow_at (strB l) (strC w (strB l)) j (by simpa [strB] using hj)
  rw [Nat.zero_add, h1, h2, U_get, List.getElem?_eq_getElem hj]
  simp [strB]
/-- what reads below a bound read there before, too -/
theorem Rd.back {w w' : World} {B B' size n : Nat} {A : Option Addr} {xs : List Value} (h : Rd w' B size A n xs) (hb : Below B' w w') (hB : B ≤ B') : Rd w B size A n xs :=
  h.keep (Nat.le_refl _) fun b o hlt => (hb.cell (p := ⟨b, o, none⟩) (by show b < B'; omega)).symm
theorem below_set {B : Nat} {a w : World} {b o : Nat} (h : Below B a w) (hb : B ≤ b) (u : Value) : Below B a (w.setCell ⟨b, o, none⟩ u) := h.setCell (p := ⟨b, o, none⟩) hb u

/-! ### A block known whole -/
def Box (w : World) (b : Nat) (T : TypeId) (cs : Array Value) : Prop := w.heap[b]? = some (.cells cs T)
section
variable {w w' : World} {b B : Nat} {T : TypeId} {cs : Array Value}
theorem Box.new (w : World) (cs : Array Value) (T : TypeId) : Box (w.alloc (.cells cs T)) w.heap.size T cs := heap_alloc_new w _
theorem Box.lt (h : Box w b T cs) : b < w.heap.size := lt_of_block h
theorem Box.at (h : Box w b T cs) (j : Nat) {v : Value} (hv : cs[j]? = some v) : w.cell? ⟨b, j, none⟩ = some v := by
  rw [cell_of_row w b j cs T (0, 0) h, hv]
theorem Box.cold (h : Box w b T cs) (o : Nat) : w.frozen? ⟨b, o, none⟩ = false := by
  unfold World.frozen?; unfold Box at h; simp [h]
theorem Box.set (h : Box w b T cs) (j : Nat) (v : Value) : Box (w.setCell ⟨b, j, none⟩ v) b T (cs.setIfInBounds j v) := Joins.block_setCell h v
theorem Box.below (h : Box w b T cs) (hb : Below B w w') (hB : b < B) : Box w' b T cs := (hb.block b hB).trans h
theorem Box.belowH (h : Box w b T cs) (hb : Below w.heap.size w w') : Box w' b T cs := h.below hb h.lt
theorem Box.alloc (h : Box w b T cs) (o : Obj) : Box (w.alloc o) b T cs := h.belowH ((Below.refl _ _).alloc (Nat.le_refl _) _)
theorem Box.drew (h : Box w b T cs) : Box w.drew b T cs := h
theorem Box.drewN (h : Box w b T cs) (q : Nat) : Box (w.drewN q) b T cs := h
theorem Box.other (h : Box w b T cs) {b' o : Nat} (hne : b ≠ b') (v : Value) : Box (w.setCell ⟨b', o, none⟩ v) b T cs := (heap_setCell_other w ⟨b', o, none⟩ b v hne).trans h
theorem Rd.other {size n : Nat} {A : Option Addr} {xs : List Value} (h : Rd w B size A n xs) {b' o : Nat} (hne : ∀ b o, A = some ⟨b, o, none⟩ → b ≠ b') (v : Value) : Rd (w.setCell ⟨b', o, none⟩ v) B size A n xs := by
  refine ⟨h.1, fun hn => ?_⟩
  obtain ⟨b, o', e, hb, hc⟩ := h.2 hn
  refine ⟨b, o', e, hb, fun j hj => ?_⟩
  rw [World.cell?_of_block (a := ⟨b, o' + j, none⟩) (heap_setCell_other w ⟨b', o, none⟩ b v (hne _ _ e))]
  exact hc j hj
end
end Go.Proofs.Ytbnbljkkfgieoaa
