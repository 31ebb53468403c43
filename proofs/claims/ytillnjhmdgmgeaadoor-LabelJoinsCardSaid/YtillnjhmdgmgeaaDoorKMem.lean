/- Disks in memory. -/
import Derived.Test.YtillnjhmdgmgeaaDoorKMath
namespace Go.Proofs.YtillnjhmdgmgeaaDoor
set_option linter.unusedVariables false
set_option linter.unusedSimpArgs false
open Go.RowKit
/-- a disk, and where its sectors lie -/
structure Kv where
  x : Dk
  A : Option Addr
  n : Nat
  c : Nat
def kval (u : Kv) : Value := .agg #[.slice u.A u.n u.c, .int .i64 u.x.fuse, .bool u.x.down]
def KRd (w : World) (u : Kv) : Prop := Rd w w.heap.size 64 u.A u.n (S u.x.secs) ∧ K.wf u.x ∧ u.n ≤ u.c ∧ u.c ≤ 9223372036854775807
theorem KRd.len {w : World} {u : Kv} (h : KRd w u) : u.x.secs.length = u.n := by
  have h1 := h.1.1
  rw [S_length _ h.2.1] at h1
  omega
theorem KRd.belowH {w w' : World} {u : Kv} (h : KRd w u) (hb : Below w.heap.size w w') : KRd w' u := ⟨h.1.belowH hb, h.2⟩
theorem KRd.drew {w : World} {u : Kv} (h : KRd w u) : KRd w.drew u := h
theorem KRd.alloc {w : World} {u : Kv} (h : KRd w u) (o : Obj) : KRd (w.alloc o) u := h.belowH ((Below.refl _ _).alloc (Nat.le_refl _) _)
/-- a disk that came in -/
def KIn (W : World) (u : Kv) : Prop := KRd W u ∧ (-9223372036854775808 ≤ u.x.fuse ∧ u.x.fuse ≤ 9223372036854775807 ∧ u.n * 64 ≤ 140737488351232)
/-- a disk as a result, beside an error: new memory where 'new' says so -/
def DiskN (x : Dk) (er : Int) (new : Prop) (w : World) (e : Ending) (w' : World) : Prop := (∃ (A : Option Addr) (n c : Nat), e = .returned (.tuple #[.agg #[.slice A n c, .int .i64 x.fuse, .bool x.down], .int .i64 er]) ∧ KRd w' ⟨x, A, n, c⟩ ∧ (new → ∀ bk o, A = some ⟨bk, o, none⟩ → w.heap.size ≤ bk)) ∧ Below w.heap.size w w'
/-- the same, new memory where there is no error -/
def DiskR (x : Dk) (er : Int) (w : World) (e : Ending) (w' : World) : Prop := DiskN x er (er = 0) w e w'
end Go.Proofs.YtillnjhmdgmgeaaDoor
