/- The code's words on states: Right, Top, Same. -/
import Derived.Test.YtpfkgddcoancnaaTRef3
import Derived.Test.YtpfkgddcoancnaaECode7
namespace Go.Proofs.Ytpfkgddcoancnaa
set_option linter.unusedVariables false
set_option linter.unusedSimpArgs false
open Go.RowKit

set_option maxHeartbeats 1000000 in
theorem sright_any (v : Sv) (w : World) (h : SRd w v) (hn : v.n * 32 ≤ 140737488351232) :
    Calls Try.prog 52 #[sv v] w fun e w' => e = .returned (.bool (srightB v.s)) ∧ Below w.heap.size w w' := by
  obtain ⟨⟨g, t, l⟩, A, n, c⟩ := v
  simp only [sv]
  have h1 := (h.alloc (.cells #[.int .i64 g, .int .i64 t, .slice A n c] 27))
  have b1 : Below w.heap.size w (w.alloc (.cells #[.int .i64 g, .int .i64 t, .slice A n c] 27)) := (Below.refl _ _).alloc (Nat.le_refl _) _
  unfold SRd at h1
  simp only at h1 hn
  have HF : ∀ {p : Prop}, ¬ p → (srightB ⟨g, t, l⟩ = false ∨ True) := fun _ => Or.inr trivial
  clear HF h
  by_cases e1 : 1 ≤ g
  · by_cases e2 : g ≤ 1099511627776
    · by_cases e3 : 0 ≤ t
      · by_cases e4 : t ≤ 1099511627776
        · have hs : srightB ⟨g, t, l⟩ = rightB l := by unfold srightB; simp [e1, e2, e3, e4]
          have HS := Lib.hid hs
          clear hs
          go_enter Try.func52, Try.ntmps52
          go_wp2_with fail
          refine (right_any l A n c _ _ h1 (Nat.le_refl _) hn).mono ?_
          rintro e w2 ⟨rfl, hb⟩
          go_wp2
          go_ret
          exact ⟨ret_bool HS.out.symm, b1.trans (hb.mono b1.size)⟩
        · have hs : srightB ⟨g, t, l⟩ = false := srightB_no fun h => e4 h.2.2.2.1
          have HS := Lib.hid hs
          clear hs
          go_enter Try.func52, Try.ntmps52
          go_wp2
          go_ret
          exact ⟨ret_bool HS.out.symm, b1⟩
      · have hs : srightB ⟨g, t, l⟩ = false := srightB_no fun h => e3 h.2.2.1
        have HS := Lib.hid hs
        clear hs
        go_enter Try.func52, Try.ntmps52
        go_wp2
        go_ret
        exact ⟨ret_bool HS.out.symm, b1⟩
    · have hs : srightB ⟨g, t, l⟩ = false := srightB_no fun h => e2 h.2.1
      have HS := Lib.hid hs
      clear hs
      go_enter Try.func52, Try.ntmps52
      go_wp2
      go_ret
      exact ⟨ret_bool HS.out.symm, b1⟩
  · have hs : srightB ⟨g, t, l⟩ = false := srightB_no fun h => e1 h.1
    have HS := Lib.hid hs
    clear hs
    go_enter Try.func52, Try.ntmps52
    go_wp2
    go_ret
    exact ⟨ret_bool HS.out.symm, b1⟩

set_option maxHeartbeats 1000000 in
theorem ssame_any (v v' : Sv) (w : World) (h : SRd w v) (h' : SRd w v') (hn : v.n * 32 ≤ 140737488351232) (hn' : v'.n * 32 ≤ 140737488351232) :
    Calls Try.prog 41 #[sv v, sv v'] w fun e w' => e = .returned (.bool (sameB v.s v'.s)) ∧ Below w.heap.size w w' := by
  obtain ⟨⟨g, t, l⟩, A, n, c⟩ := v
  obtain ⟨⟨g', t', l'⟩, A', n', c'⟩ := v'
  simp only [sv]
  have hb := below2 w (.cells #[.int .i64 g, .int .i64 t, .slice A n c] 27) (.cells #[.int .i64 g', .int .i64 t', .slice A' n' c'] 27)
  have h1 := (h.alloc (.cells #[.int .i64 g, .int .i64 t, .slice A n c] 27)).alloc (.cells #[.int .i64 g', .int .i64 t', .slice A' n' c'] 27)
  have h2 := (h'.alloc (.cells #[.int .i64 g, .int .i64 t, .slice A n c] 27)).alloc (.cells #[.int .i64 g', .int .i64 t', .slice A' n' c'] 27)
  unfold SRd at h1 h2
  simp only at h1 h2 hn hn'
  clear h h'
  have hs := sameB_eq ⟨g, t, l⟩ ⟨g', t', l'⟩
  by_cases e1 : g = g'
  · by_cases e2 : t = t'
    · subst e1 e2
      have hs2 : sameB ⟨g, t, l⟩ ⟨g, t, l'⟩ = decide (l = l') := by rw [hs]; simp
      have HS := Lib.hid hs2
      clear hs hs2
      go_enter Try.func41, Try.ntmps41
      go_wp2_with fail
      refine (same_any l l' A A' n n' c c' _ _ _ h1 h2 hn hn').mono ?_
      rintro e w2 ⟨rfl, q, hq⟩
      have hb2 := below_of_drew hq
      clear hq
      go_wp2
      go_ret
      exact ⟨ret_bool HS.out.symm, hb.trans (hb2.mono hb.size)⟩
    · subst e1
      have hs2 : sameB ⟨g, t, l⟩ ⟨g, t', l'⟩ = false := by rw [hs]; simp [e2]
      have HS := Lib.hid hs2
      have t2 : (t == t') = false := beq_eq_false_iff_ne.2 e2
      clear hs hs2 e2
      go_enter Try.func41, Try.ntmps41
      go_wp2
      go_ret
      exact ⟨ret_bool HS.out.symm, hb⟩
  · have hs2 : sameB ⟨g, t, l⟩ ⟨g', t', l'⟩ = false := by rw [hs]; simp [e1]
    have HS := Lib.hid hs2
    have t2 : (g == g') = false := beq_eq_false_iff_ne.2 e1
    clear hs hs2 e1
    go_enter Try.func41, Try.ntmps41
    go_wp2
    go_ret
    exact ⟨ret_bool HS.out.symm, hb⟩

end Go.Proofs.Ytpfkgddcoancnaa
