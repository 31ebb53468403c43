/- The reference's words on states: Right, Top, Same, Copy, Above. -/
import Derived.Test.YtpfkgddcoancnaaEHelp
import Derived.Test.YtpfkgddcoancnaaTMem
namespace Go.Proofs.Ytpfkgddcoancnaa
set_option linter.unusedVariables false
set_option linter.unusedSimpArgs false
open Go.RowKit

noncomputable def srightB (s : St) : Bool := decide (1 ≤ s.gen) && decide (s.gen ≤ 1099511627776) && decide (0 ≤ s.beat) && decide (s.beat ≤ 1099511627776) && rightB s.apps
theorem srightB_out {s : St} (h : srightB s = true) : S.right s := by
  unfold srightB at h
  simp only [Bool.and_eq_true, decide_eq_true_eq] at h
  obtain ⟨⟨⟨⟨h1, h2⟩, h3⟩, h4⟩, h5⟩ := h
  exact ⟨h1, h2, h3, h4, rightB_out h5⟩
theorem srightB_yes {s : St} (h : S.right s) : srightB s = true := by
  obtain ⟨h1, h2, h3, h4, h5⟩ := h
  unfold srightB
  simp [h1, h2, h3, h4, rightB_yes h5]
theorem srightB_no {s : St} (h : ¬ S.right s) : srightB s = false := by
  rcases h2 : srightB s
  · rfl
  · exact absurd (srightB_out h2) h

theorem own_set {w : World} {base b o : Nat} {e : TypeId} {size n : Nat} {v : Value} {xs : List Value} (h : w.ownsRow base e size v n xs) (hb : b < base) (u : Value) : (w.setCell ⟨b, o, none⟩ u).ownsRow base e size v n xs := ownsRow_setCell_below h hb u
/-- its table is the call's own -/
def SOwn (base : Nat) (w : World) (v : Sv) : Prop := w.ownsRow base 59 3 (.slice v.A v.n v.c) v.n (EC v.s.apps)
theorem SOwn.srd {base : Nat} {w : World} {v : Sv} (h : SOwn base w v) : SRd w v := Rd.of_own h
/-- a state that was made -/
def MadeS (W : World) (s : St) (e : Ending) (w' : World) : Prop :=
  ∃ v : Sv, e = .returned (sv v) ∧ v.s = s ∧ SOwn W.heap.size w' v ∧ Below W.heap.size W w'
def sameB (a b : St) : Bool := decide (a = b)
theorem sameB_eq (a b : St) : sameB a b = (decide (a.gen = b.gen) && decide (a.beat = b.beat) && decide (a.apps = b.apps)) := by
  obtain ⟨g, t, l⟩ := a
  obtain ⟨g', t', l'⟩ := b
  unfold sameB
  rw [Bool.eq_iff_iff]
  simp [and_assoc]

set_option maxHeartbeats 1000000 in
theorem rsright_any (v : Sv) (w : World) (h : SRd w v) (hn : v.n * 32 ≤ 140737488351232) :
    Calls Try.prog 24 #[sv v] w fun e w' => e = .returned (.bool (srightB v.s)) ∧ Below w.heap.size w w' := by
  obtain ⟨⟨g, t, l⟩, A, n, c⟩ := v
  simp only [sv]
  have h1 := (h.alloc (.cells #[.int .i64 g, .int .i64 t, .slice A n c] 27))
  have b1 : Below w.heap.size w (w.alloc (.cells #[.int .i64 g, .int .i64 t, .slice A n c] 27)) := (Below.refl _ _).alloc (Nat.le_refl _) _
  unfold SRd at h1
  simp only at h1 hn
  have HF : ∀ {p : Prop}, ¬ p → (srightB ⟨g, t, l⟩ = false ∨ True) := fun _ => Or.inr trivial
  clear HF h
  by_cases e1 : 1 ≤ g
  · by_cases e2 : g ≤ 1099511627776
    · by_cases e3 : 0 ≤ t
      · by_cases e4 : t ≤ 1099511627776
        · have hs : srightB ⟨g, t, l⟩ = rightB l := by unfold srightB; simp [e1, e2, e3, e4]
          have HS := Lib.hid hs
          clear hs
          go_enter Try.func24, Try.ntmps24
          go_wp2_with fail
          refine (rright_any l A n c _ _ h1 (Nat.le_refl _) hn).mono ?_
          rintro e w2 ⟨rfl, hb⟩
          go_wp2
          go_ret
          exact ⟨ret_bool HS.out.symm, b1.trans (hb.mono b1.size)⟩
        · have hs : srightB ⟨g, t, l⟩ = false := srightB_no fun h => e4 h.2.2.2.1
          have HS := Lib.hid hs
          clear hs
          go_enter Try.func24, Try.ntmps24
          go_wp2
          go_ret
          exact ⟨ret_bool HS.out.symm, b1⟩
      · have hs : srightB ⟨g, t, l⟩ = false := srightB_no fun h => e3 h.2.2.1
        have HS := Lib.hid hs
        clear hs
        go_enter Try.func24, Try.ntmps24
        go_wp2
        go_ret
        exact ⟨ret_bool HS.out.symm, b1⟩
    · have hs : srightB ⟨g, t, l⟩ = false := srightB_no fun h => e2 h.2.1
      have HS := Lib.hid hs
      clear hs
      go_enter Try.func24, Try.ntmps24
      go_wp2
      go_ret
      exact ⟨ret_bool HS.out.symm, b1⟩
  · have hs : srightB ⟨g, t, l⟩ = false := srightB_no fun h => e1 h.1
    have HS := Lib.hid hs
    clear hs
    go_enter Try.func24, Try.ntmps24
    go_wp2
    go_ret
    exact ⟨ret_bool HS.out.symm, b1⟩

/-- the cells of a boxed state -/
theorem box_cells {w : World} {b : Nat} {T : TypeId} {g t : Int} {x : Value} (h : Box w b T #[.int .i64 g, .int .i64 t, x]) :
    w.cell? ⟨b, 0, none⟩ = some (.int .i64 g) ∧ w.cell? ⟨b, 1, none⟩ = some (.int .i64 t) ∧ w.cell? ⟨b, 2, none⟩ = some x := ⟨h.at 0 rfl, h.at 1 rfl, h.at 2 rfl⟩
theorem stop_lt {g t : Int} {l : List Ent} (h : t < E.top l) : S.top ⟨g, t, l⟩ = E.top l := by show max t (E.top l) = _; omega
theorem stop_ge {g t : Int} {l : List Ent} (h : ¬ t < E.top l) : S.top ⟨g, t, l⟩ = t := by show max t (E.top l) = _; omega

end Go.Proofs.Ytpfkgddcoancnaa
