/- The reference's Same, Copy, Above, Great on states. -/
import Derived.Test.YtoemefoppkgfaaaTRef
namespace Go.Proofs.Ytoemefoppkgfaaa
set_option linter.unusedVariables false
set_option linter.unusedSimpArgs false
open Go.RowKit

theorem below2 (w : World) (o o' : Obj) : Below w.heap.size w ((w.alloc o).alloc o') := ((Below.refl _ _).alloc (Nat.le_refl _) _).alloc (by simp) _
theorem rsgreat_any (v : Sv) (w : World) (h : SRd w v) (hn : v.n * 32 ≤ 140737488351232) (hv : ∀ x ∈ v.s.apps, x.val.length ≤ 140737488351232) :
    Calls Try.prog 18 #[sv v] w fun e w' => e = .returned (.bool (E.great v.s.apps)) ∧ Below w.heap.size w w' := by
  obtain ⟨⟨g, t, l⟩, A, n, c⟩ := v
  simp only [sv]
  have h1 := h.alloc (.cells #[.int .i64 g, .int .i64 t, .slice A n c] 37)
  have b1 : Below w.heap.size w (w.alloc (.cells #[.int .i64 g, .int .i64 t, .slice A n c] 37)) := (Below.refl _ _).alloc (Nat.le_refl _) _
  unfold SRd at h1
  simp only at h1 hn
  clear h
  have HV := Lib.hid hv
  clear hv
  go_enter Try.func18, Try.ntmps18
  go_wp2_with fail
  refine (rgreat_any l A n c _ _ h1 (by omega) HV.out).mono ?_
  rintro e w2 ⟨rfl, rfl⟩
  go_wp2
  go_ret
  exact ⟨rfl, b1⟩


set_option maxHeartbeats 1000000 in
theorem rscopy_any (v : Sv) (w : World) (h : SRd w v) (hn : v.n ≤ 1000000) :
    Calls Try.prog 28 #[sv v] w (MadeS w v.s) := by
  obtain ⟨⟨g, t, l⟩, A, n, c⟩ := v
  simp only [sv]
  have hl := h.len
  have HL := Lib.hid hl
  have X := (Box.new w #[.int .i64 g, .int .i64 t, .slice A n c] 37).alloc (.cells #[.int .i64 0, .int .i64 0, .slice none 0 0] 37)
  have Z := Box.new (w.alloc (.cells #[.int .i64 g, .int .i64 t, .slice A n c] 37)) #[.int .i64 0, .int .i64 0, .slice none 0 0] 37
  rw [show (w.alloc (.cells #[.int .i64 g, .int .i64 t, .slice A n c] 37)).heap.size = w.heap.size + 1 by simp] at Z
  have hb := below2 w (.cells #[.int .i64 g, .int .i64 t, .slice A n c] 37) (.cells #[.int .i64 0, .int .i64 0, .slice none 0 0] 37)
  have h1 := (h.alloc (.cells #[.int .i64 g, .int .i64 t, .slice A n c] 37)).alloc (.cells #[.int .i64 0, .int .i64 0, .slice none 0 0] 37)
  have hs : ((w.alloc (.cells #[.int .i64 g, .int .i64 t, .slice A n c] 37)).alloc (.cells #[.int .i64 0, .int .i64 0, .slice none 0 0] 37)).heap.size = w.heap.size + 2 := by simp
  have HS := Lib.hid hs
  unfold SRd at h1
  simp only at h1 hn
  clear h hs hl
  go_enter Try.func28, Try.ntmps28
  generalize hw1 : (w.alloc (.cells #[.int .i64 g, .int .i64 t, .slice A n c] 37)).alloc (.cells #[.int .i64 0, .int .i64 0, .slice none 0 0] 37) = w1 at X Z hb h1 HS
  have HW1 := Lib.hid hw1
  clear hw1
  have X1 := X.alloc (.cells #[] 57)
  have x2 := X1.at 2 rfl
  have hlit : (w1.alloc (.cells #[] 57)).ownsRow w1.heap.size 57 3 (.slice (some ⟨w.heap.size + 1 + 1, 0, none⟩) 0 0) 0 [] := by
    rw [show w.heap.size + 1 + 1 = w1.heap.size from HS.out.symm]; exact lit_own w1
  have HLIT := Lib.hid hlit
  clear hlit
  go_wp2_with (at_builtin; rw [HW1.out]; refine app_law0 enT rfl (.tmp 3) (.tmp 5) rfl w1.heap.size rfl HLIT.out rfl (h1.alloc (Nat.le_refl _) _) (EC_one l) (by omega) (by omega) (by simp) ?_; rintro A2 c2 w2 ⟨hown, hg2, _, _⟩; have hb2 : Below w1.heap.size w1 w2 := below_app ((Below.refl _ _).alloc (Nat.le_refl _) _) HLIT.out hg2 (Nat.le_refl _) (by simp); have X2 := X.below hb2 (by have := HS.out; omega); have Z2 := Z.below hb2 (by have := HS.out; omega); have y0 := X2.at 0 rfl; have y1 := X2.at 1 rfl; have y2 := X2.at 2 rfl; have yf := X2.cold; have z0 := Z2.at 0 rfl; have z1 := Z2.at 1 rfl; have z2 := Z2.at 2 rfl; have zf := Z2.cold; have z := Z2.lt; have hb3 := hb.trans (hb2.mono hb.size); clear hg2 hb2 x2)
  refine bodyPost_ret (v := sv ⟨⟨g, t, l⟩, A2, n, c2⟩) (by simp [results, Try.results28, go_sem, y0, y1, y2, z0, z1, z2, z, sv]; try rfl) rfl ?_
  refine ⟨⟨⟨g, t, l⟩, A2, n, c2⟩, rfl, rfl, ?_, ?_⟩
  · show World.ownsRow _ _ _ 3 (.slice A2 n c2) n (EC l)
    refine own_mono (base := w1.heap.size) ?_ (by have := HS.out; omega)
    have hs2 := HS.out
    rw [List.nil_append] at hown
    repeat (first | (with_reducible exact hown) | (with_reducible refine own_set ?_ (by omega) _))
  · repeat (first | (with_reducible exact hb3) | (with_reducible refine below_set ?_ (by omega) _))
end Go.Proofs.Ytoemefoppkgfaaa
