/- The reference's Same, Great on views. -/
import Derived.Test.YtoemefoppkgfaaaVRef3
namespace Go.Proofs.Ytoemefoppkgfaaa
set_option linter.unusedVariables false
set_option linter.unusedSimpArgs false
open Go.RowKit

def vgreatB (l : List Nv) : Bool := ((l.take 41).any fun x => E.great x.v.s.apps) || decide (40 < l.length)
set_option maxHeartbeats 2000000 in
theorem rvgreat_any (U : Vw) (w : World) (h : VRd w U) (hn : U.n * 48 ≤ 140737488351232) (hf : ∀ x ∈ U.l, x.v.n * 32 ≤ 140737488351232 ∧ ∀ y ∈ x.v.s.apps, y.val.length ≤ 140737488351232) :
    Calls Try.prog 7 #[vval U] w fun e w' => e = .returned (.bool (vgreatB U.l)) ∧ Below w.heap.size w w' := by
  obtain ⟨l, A, n, c⟩ := U
  have hl := h.len
  simp only at hn hl hf
  have HL := Lib.hid hl
  have HF := Lib.hid hf
  clear hl hf
  simp only [vval]
  go_enter Try.func7, Try.ntmps7
  go_wp2
  go_loopw [3] (fun i wr => ∃ k : Nat, k ≤ n ∧ k ≤ 41 ∧ i = .int .i64 k ∧ ((l.take k).any fun x => E.great x.v.s.apps) = false ∧ Below w.heap.size w wr) (fun i _ => n - (intOf i).toNat)
  case atStart => exact ⟨0, by omega, by omega, rfl, rfl, Below.refl _ _⟩
  case round =>
    obtain ⟨k, hk, hk41, rfl, hno, hbel⟩ := hrel
    have HN := Lib.hid hno
    have hbs := hbel.size
    clear hno
    by_cases hlt : k < n
    · by_cases h41 : k < 41
      · obtain ⟨b, o, x, e1, hb, hx, hsx, c0, c1', c2, c3⟩ := (h.belowH hbel).at hlt
        simp only at e1 hx
        subst e1
        have hk0 : (0 : Int) ≤ (k : Int) := by omega
        have hfx := HF.out x (List.mem_of_getElem? hx)
        have HX := Lib.hid hx
        clear hx
        go_wp2_with fail
        refine (rsgreat_any x.v _ hsx hfx.1 hfx.2).mono ?_
        rintro e w2 ⟨rfl, hb2⟩
        have hbel2 := hbel.trans (hb2.mono hbs)
        clear hb2 c0 c1' c2 c3 hfx hsx
        rcases hg : E.great x.v.s.apps
        · have HG := Lib.hid hg
          clear hg
          go_wp2
          go_roundw
          case rel => exact ⟨k + 1, by omega, by omega, by go_num, by rw [take_more HX.out, List.any_append, HN.out]; simp [HG.out], hbel2⟩
          case measure => simp [intOf]; omega
        · have hall : vgreatB l = true := by
            unfold vgreatB
            have hmem : x ∈ l.take 41 := List.mem_of_getElem? (i := k) (by rw [List.getElem?_take, if_pos h41]; exact HX.out)
            rw [List.any_eq_true.2 ⟨x, hmem, hg⟩]; rfl
          have HA := Lib.hid hall
          clear hg hall
          go_wp2
          go_ret
          exact ⟨ret_bool HA.out.symm, hbel2⟩
      · have hk' : k = 41 := by omega
        have hg : vgreatB l = decide (40 < n) := by unfold vgreatB; rw [← hk', HN.out, HL.out]; rfl
        have HG := Lib.hid hg
        clear hg hk'
        go_wp2
        go_ret
        exact ⟨ret_bool (by rw [HG.out]; exact decide_eq_decide.2 (by omega)), hbel⟩
    · have hg : vgreatB l = decide (40 < n) := by
        unfold vgreatB
        have h1 := HN.out
        have h2 := HL.out
        rw [List.take_of_length_le (by omega)] at h1
        rw [List.take_of_length_le (by omega), h1, h2]; rfl
      have HG := Lib.hid hg
      clear hg
      go_wp2
      go_ret
      exact ⟨ret_bool (by rw [HG.out]; exact decide_eq_decide.2 (by omega)), hbel⟩
end Go.Proofs.Ytoemefoppkgfaaa
