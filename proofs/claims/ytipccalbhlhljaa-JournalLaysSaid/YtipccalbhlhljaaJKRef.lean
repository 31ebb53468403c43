/- KRef (merged). -/
import Derived.Deep.QuietTactic
import Derived.BigQuiet
import Derived.Deep.MidRow
import Derived.Stop.BytesEq
import Derived.Test.YtipccalbhlhljaaJMem
import Derived.Test.YtipccalbhlhljaaJKMem
namespace Go.Proofs.Ytipccalbhlhljaa
set_option linter.unusedVariables false
set_option linter.unusedSimpArgs false
open Go.RowKit
def BoolK (b : Bool) (w : World) (e : Ending) (w' : World) : Prop := e = .returned (.bool b) ∧ Below w.heap.size w w'
def IntK (x : Int) (w : World) (e : Ending) (w' : World) : Prop := e = .returned (.int .i64 x) ∧ Below w.heap.size w w'

set_option maxHeartbeats 1000000 in
theorem rkright_any (u : Kv) (w : World) (h : KRd w u) :
    Calls Try.prog 43 #[kval u] w (BoolK (decide (K.right u.x)) w) := by
  have hlen := h.len
  obtain ⟨⟨l, f, o⟩, A, n, c⟩ := u
  simp only at hlen
  simp only [kval]
  have X := Box.new w #[.slice A n c, .int .i64 f, .bool o] 34
  have b := (Below.refl w.heap.size w).alloc (Nat.le_refl _) (.cells #[.slice A n c, .int .i64 f, .bool o] 34)
  have IFF : Hid (K.right ⟨l, f, o⟩ ↔ n ≤ 64 ∧ -1 ≤ f) := Lib.hid (by unfold K.right; simp only [hlen])
  clear h hlen
  go_enter Try.func43, Try.ntmps43
  have hh : ∀ v : Bool, (n ≤ 64 ∧ -1 ≤ f ↔ v = true) → BoolK (decide (K.right ⟨l, f, o⟩)) w (.returned (.bool v)) (w.alloc (.cells #[.slice A n c, .int .i64 f, .bool o] 34)) := fun v hv => by
    refine ⟨ret_bool ?_, b⟩
    have h := IFF.out.trans hv
    cases v
    · exact (decide_eq_false fun hr => by simpa using h.1 hr).symm
    · exact (decide_eq_true (h.2 rfl)).symm
  have HH := Lib.hid hh
  clear hh
  go_wp2
  all_goals go_ret
  all_goals exact HH.out _ (by simp; omega)

/-- the box of a disk that came in -/
def kcells (u : Kv) : Array Value := #[.slice u.A u.n u.c, .int .i64 u.x.fuse, .bool u.x.down]
set_option maxHeartbeats 2000000 in
theorem rkasked_any (u : Kv) (i : Int) (w : World) (h : KRd w u) :
    Calls Try.prog 60 #[kval u, .int .i64 i] w (IntK (K.asked u.x i) w) := by
  have hlen := h.len
  have hR := rkright_any u (w.alloc (.cells (kcells u) 34)) (h.alloc _)
  obtain ⟨⟨l, f, o⟩, A, n, c⟩ := u
  simp only at hlen
  simp only [kval, kcells] at hR ⊢
  have X := Box.new w #[.slice A n c, .int .i64 f, .bool o] 34
  have b := (Below.refl w.heap.size w).alloc (Nat.le_refl _) (.cells #[.slice A n c, .int .i64 f, .bool o] 34)
  have HL := Lib.hid hlen
  clear h hlen
  go_enter Try.func60, Try.ntmps60
  go_wp2_with fail
  refine hR.mono ?_
  rintro _ w2 ⟨rfl, b2⟩
  have Y := X.below b2 (by simp)
  replace b := b.trans (b2.mono b.size)
  clear hR X b2
  have y0 := Y.at 0 rfl
  have y1 := Y.at 1 rfl
  have y2 := Y.at 2 rfl
  have ans : ∀ v : Int, K.asked ⟨l, f, o⟩ i = v → IntK (K.asked ⟨l, f, o⟩ i) w (.returned (.int .i64 v)) w2 := fun v hv => ⟨ret_int hv.symm, b⟩
  have ANS := Lib.hid ans
  clear ans
  have D : Hid (K.asked ⟨l, f, o⟩ i = if ¬ K.right ⟨l, f, o⟩ then 1 else if o then 9 else if i < 0 ∨ (n : Int) ≤ i then 1 else 0) := Lib.hid (by unfold K.asked; simp only [HL.out])
  by_cases r : K.right ⟨l, f, o⟩
  · have r' := decide_eq_true r
    have Rr := Lib.hid r
    clear r
    rw [r']
    clear r'
    cases o
    · by_cases i0 : i < 0
      · go_wp2
        go_ret
        exact ANS.out _ (by rw [D.out, if_neg (Classical.not_not.2 Rr.out)]; simp [i0])
      · by_cases i1 : (n : Int) ≤ i
        all_goals go_wp2
        all_goals go_ret
        · exact ANS.out _ (by rw [D.out, if_neg (Classical.not_not.2 Rr.out)]; simp; omega)
        · exact ANS.out _ (by rw [D.out, if_neg (Classical.not_not.2 Rr.out)]; simp; omega)
    · go_wp2
      go_ret
      exact ANS.out _ (by rw [D.out, if_neg (Classical.not_not.2 Rr.out)]; simp)
  · have r' := decide_eq_false r
    have Rr := Lib.hid r
    clear r
    rw [r']
    clear r'
    go_wp2
    go_ret
    exact ANS.out _ (by rw [D.out, if_pos Rr.out])
end Go.Proofs.Ytipccalbhlhljaa

