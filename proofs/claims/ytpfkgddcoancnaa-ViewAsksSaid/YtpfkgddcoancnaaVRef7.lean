/- The reference's Ints and Nodes. -/
import Derived.Test.YtpfkgddcoancnaaVRef6
namespace Go.Proofs.Ytpfkgddcoancnaa
set_option linter.unusedVariables false
set_option linter.unusedSimpArgs false
open Go.RowKit

theorem i64T : SlT Try.prog 33 3 (.int .i64 0) 1 8 := ⟨Try.underlying33, by kernel_rfl, rfl, by omega⟩

set_option maxHeartbeats 1000000 in
theorem rints_any (l l' : List Int) (A A' : Option Addr) (n n' c c' B B' : Nat) (w : World) (h : Rd w B 1 A n (I l)) (h' : Rd w B' 1 A' n' (I l')) (hn : n ≤ 1000) :
    Calls Try.prog 15 #[.slice A n c, .slice A' n' c'] w fun e w' => e = .returned (.bool (decide (l = l'))) ∧ ∃ q, w' = w.drewN q := by
  have hl : l.length = n := by have := h.len1; rwa [I_length] at this
  have hl' : l'.length = n' := by have := h'.len1; rwa [I_length] at this
  have HL := Lib.hid hl
  have HL' := Lib.hid hl'
  clear hl hl'
  by_cases hnn : n = n'
  · subst hnn
    go_enter Try.func15, Try.ntmps15
    go_wp2
    go_loopw [5] (fun i wr => ∃ k q : Nat, k ≤ n ∧ i = .int .i64 k ∧ l.take k = l'.take k ∧ wr = w.drewN q) (fun i _ => n - (intOf i).toNat)
    case atStart => exact ⟨0, 0, by omega, rfl, rfl, rfl⟩
    case round =>
      obtain ⟨k, q, hk, rfl, hno, rfl⟩ := hrel
      have HN := Lib.hid hno
      clear hno
      by_cases hlt : k < n
      · obtain ⟨b, o, x, e1, hb, hx, c0⟩ := h.atI hlt
        obtain ⟨b', o', y, e2, hb', hy, d0⟩ := h'.atI hlt
        subst e1 e2
        have HX := Lib.hid hx
        have HY := Lib.hid hy
        clear hx hy
        have hk0 : (0 : Int) ≤ (k : Int) := by omega
        by_cases hxy : x = y
        · subst hxy
          go_wp2
          go_quiet (fail)
          go_wp2
          go_roundw
          case rel => exact ⟨k + 1, q + nq, by omega, by go_num, by rw [take_more HX.out, take_more HY.out, HN.out], by simp⟩
          case measure => simp [intOf]; omega
        · have hne : l ≠ l' := fun e => by
            have h1 := HX.out
            rw [e, HY.out] at h1
            injection h1 with h1
            exact hxy h1.symm
          have HNE := Lib.hid hne
          have t1 : (x != y) = true := bne_iff_ne.2 hxy
          clear hne hxy
          go_wp2
          go_quiet (fail)
          go_wp2
          go_ret
          exact ⟨ret_bool (decide_eq_false HNE.out).symm, q + nq, by simp⟩
      · have he : l = l' := by
          have h1 := HN.out
          rwa [List.take_of_length_le (by have := HL.out; omega), List.take_of_length_le (by have := HL'.out; omega)] at h1
        have HE := Lib.hid he
        clear he
        go_wp2
        go_ret
        exact ⟨ret_bool (decide_eq_true HE.out).symm, q, rfl⟩
  · have t1 : ((n : Int) != (n' : Int)) = true := by rw [bne_iff_ne]; omega
    have hne : l ≠ l' := fun e => by
      have h1 := HL.out
      rw [e, HL'.out] at h1
      exact hnn h1.symm
    have HNE := Lib.hid hne
    clear hne hnn
    go_enter Try.func15, Try.ntmps15
    go_wp2
    go_ret
    exact ⟨ret_bool (decide_eq_false HNE.out).symm, 0, rfl⟩

set_option maxHeartbeats 1000000 in
theorem rnodes_any (U : Vw) (w : World) (h : VRd w U) (hn : U.n ≤ 1000) :
    Calls Try.prog 17 #[vval U] w fun e w' => ∃ A' c', e = .returned (.slice A' U.n c') ∧ w'.ownsRow w.heap.size 3 1 (.slice A' U.n c') U.n (I (U.l.map Nv.node)) ∧ Below w.heap.size w w' := by
  obtain ⟨l, A, n, c⟩ := U
  have hl := h.len
  simp only at hn hl
  have HL := Lib.hid hl
  clear hl
  simp only [vval]
  go_enter Try.func17, Try.ntmps17
  go_wp2
  go_loopw [3, 4] (fun v i wr => ∃ k A1 c1, k ≤ n ∧ v = .slice A1 k c1 ∧ i = .int .i64 k ∧ wr.ownsRow w.heap.size 3 1 (.slice A1 k c1) k (I ((l.take k).map Nv.node)) ∧ Below w.heap.size w wr) (fun _ i _ => n - (intOf i).toNat)
  case atStart => exact ⟨0, none, 0, by omega, rfl, rfl, World.ownsRow_nil _ _ _ _, Below.refl _ _⟩
  case round =>
    obtain ⟨k, A1, c1, hk, rfl, rfl, hown, hbel⟩ := hrel
    have hbs := hbel.size
    by_cases hlt : k < n
    · obtain ⟨b, o, x, e1, hb, hx, hsx, c0, c1', c2, c3⟩ := (h.belowH hbel).at hlt
      have hk0 : (0 : Int) ≤ (k : Int) := by omega
      have htk : (l.take (k + 1)).map Nv.node = (l.take k).map Nv.node ++ [x.node] := by
        simp only at hx
        rw [take_more hx, List.map_append]; rfl
      have HTK := Lib.hid htk
      simp only at e1
      subst e1
      clear htk hx hsx c1' c2 c3
      go_wp2_with (at_builtin; refine app_law i64T rfl (.tmp 11) (.tmp 17) rfl w.heap.size rfl (hown.alloc _) rfl (Rd.one _ _ _) (one_int _ _) (by omega) (by omega) (by simp; omega) ?_; rintro A2 c2 w2 ⟨hown2, hg2, _, holdw2⟩)
      go_roundw
      case rel =>
        refine ⟨k + 1, A2, c2, by omega, rfl, by go_num, ?_, below_app (hbel.alloc (by omega) _) (hown.alloc _) hg2 (Nat.le_refl _) (by simp; omega)⟩
        rw [HTK.out]
        simpa [I] using hown2
      case measure => simp [intOf]; omega
    · obtain rfl : k = n := by omega
      have htk : l.take k = l := List.take_of_length_le (by have := HL.out; omega)
      rw [htk] at hown
      have HO := Lib.hid hown
      clear htk hown
      go_wp2
      go_ret
      exact ⟨A1, c1, rfl, HO.out, hbel⟩
end Go.Proofs.Ytpfkgddcoancnaa
