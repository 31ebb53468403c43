/- ORef5 ORef6 ORef7 ORef8 VRef3 VRef4 (merged). -/
import Derived.Deep.DeepCutAuto
import Derived.Test.YtmbfldcmiabccaaDoorJF05
import Derived.Test.YtmbfldcmiabccaaDoorJF10
namespace Go.Proofs.YtmbfldcmiabccaaDoor
set_option linter.unusedVariables false
set_option linter.unusedSimpArgs false
open Go.RowKit
theorem filter_no {α : Type} {p : α → Bool} {x : α} (h : p x = false) : [x].filter p = [] := by simp [h]
theorem filter_yes {α : Type} {p : α → Bool} {x : α} (h : p x = true) : [x].filter p = [x] := by simp [h]
theorem apps_of {v : List Nm} {n : Int} {o : Option St} (h : V.get v n = o) : (o.getD ⟨0, 0, []⟩).apps = Zo.apps v n := by unfold Zo.apps; rw [h]; cases o <;> rfl
end Go.Proofs.YtmbfldcmiabccaaDoor

namespace Go.Proofs.YtmbfldcmiabccaaDoor
set_option linter.unusedVariables false
set_option linter.unusedSimpArgs false
open Go.RowKit
theorem offered_few (s : Scn) (n : Int) (name : List UInt8) : (Zo.offered s n name).length ≤ (Zo.apps s.view n).length := by
  have h1 : ∀ q : List Ent, (Y.all q).length ≤ q.length := fun q => by
    induction q with
    | nil => simp [Y.all]
    | cons a q ih =>
      show (if Y.tells a then (Y.dec a.val).1 :: Y.all q else Y.all q).length ≤ _
      split <;> simp <;> omega
  unfold Zo.offered
  exact Nat.le_trans (List.length_filter_le _ _) (h1 _)
/-- a scene that is looked at -/
structure SnOk (s : Sn) : Prop where
  fit : SnFit s
  val : ∀ x ∈ s.v.view, ∀ y ∈ x.st.apps, y.val.length ≤ 140737488351232
  dom : s.dom.length ≤ 1000
end Go.Proofs.YtmbfldcmiabccaaDoor

namespace Go.Proofs.YtmbfldcmiabccaaDoor
set_option linter.unusedVariables false
set_option linter.unusedSimpArgs false
open Go.RowKit
end Go.Proofs.YtmbfldcmiabccaaDoor

namespace Go.Proofs.YtmbfldcmiabccaaDoor
set_option linter.unusedVariables false
set_option linter.unusedSimpArgs false
open Go.RowKit
end Go.Proofs.YtmbfldcmiabccaaDoor

namespace Go.Proofs.YtmbfldcmiabccaaDoor
set_option linter.unusedVariables false
set_option linter.unusedSimpArgs false
open Go.RowKit

namespace V
theorem put_at {l : List Nm} {k : Int} {s : St} {z : Nm} (h : ∀ y ∈ l, y.node < k) (hz : k < z.node) : put (l ++ [z]) k s = l ++ [⟨k, s⟩] ++ [z] := by
  induction l with
  | nil =>
    simp only [List.nil_append, put]
    rw [if_neg (by omega), if_neg (by omega)]; rfl
  | cons y r ih =>
    simp only [List.cons_append, put]
    rw [if_pos (h y (by simp)), ih (fun w hw => h w (by simp [hw]))]
theorem put_snoc {l : List Nm} {k : Int} {s : St} {z : Nm} (h : ∃ y ∈ l, k < y.node) : put (l ++ [z]) k s = put l k s ++ [z] := by
  induction l with
  | nil => obtain ⟨y, hy, _⟩ := h; cases hy
  | cons w r ih =>
    simp only [List.cons_append, put]
    split
    · rename_i hlt
      rw [List.cons_append, ih]
      obtain ⟨y, hy, h2⟩ := h
      rcases List.mem_cons.1 hy with rfl | hy
      · omega
      · exact ⟨y, hy, h2⟩
    · split <;> rfl
end V
/-- how far Put has come over what is left without the endpoint -/
def VPutting (l : List Nm) (node : Int) (s : St) (k : Nat) (p : Bool) (O : List Nm) : Prop :=
  (p = false ∧ O = l.take k ∧ ∀ y ∈ l.take k, y.node < node) ∨ (p = true ∧ O = V.put (l.take k) node s ∧ ∃ y ∈ l.take k, node < y.node)
section
variable {l O : List Nm} {node : Int} {s : St} {k : Nat} {y : Nm}
theorem VPutting.start (l : List Nm) (node : Int) (s : St) : VPutting l node s 0 false [] := Or.inl ⟨rfl, rfl, by simp⟩
theorem VPutting.lower (h : VPutting l node s k false O) (hy : l[k]? = some y) (hlt : y.node < node) : VPutting l node s (k + 1) false (O ++ [y]) := by
  rcases h with ⟨_, rfl, ha⟩ | ⟨e, _⟩
  · refine Or.inl ⟨rfl, (take_more hy).symm, fun z hz => ?_⟩
    rw [take_more hy] at hz
    rcases List.mem_append.1 hz with hz | hz
    · exact ha z hz
    · obtain rfl : z = y := by simpa using hz
      exact hlt
  · cases e
theorem VPutting.more (h : VPutting l node s k true O) (hy : l[k]? = some y) : VPutting l node s (k + 1) true (O ++ [y]) := by
  rcases h with ⟨e, _⟩ | ⟨_, rfl, z, hz, hzx⟩
  · cases e
  · refine Or.inr ⟨rfl, ?_, z, by rw [take_more hy]; simp [hz], hzx⟩
    rw [take_more hy, V.put_snoc ⟨z, hz, hzx⟩]
theorem VPutting.len (h : VPutting l node s k false O) : O.length ≤ k := by
  rcases h with ⟨_, rfl, _⟩ | ⟨e, _⟩
  · rw [List.length_take]; omega
  · cases e
end
theorem nm_at {l : List Nv} {k : Nat} {x : Nv} (h : l[k]? = some x) : (l.map Nv.nm)[k]? = some x.nm := by rw [List.getElem?_map, h]; rfl

end Go.Proofs.YtmbfldcmiabccaaDoor

namespace Go.Proofs.YtmbfldcmiabccaaDoor
set_option linter.unusedVariables false
set_option linter.unusedSimpArgs false
open Go.RowKit

def vgreatB (l : List Nv) : Bool := ((l.take 41).any fun x => E.great x.v.s.apps) || decide (40 < l.length)
set_option maxHeartbeats 2000000 in
theorem rvgreat_any (U : Vw) (w : World) (h : VRd w U) (hn : U.n * 48 ≤ 140737488351232) (hf : ∀ x ∈ U.l, x.v.n * 32 ≤ 140737488351232 ∧ ∀ y ∈ x.v.s.apps, y.val.length ≤ 140737488351232) :
    Calls Tryd.prog 25 #[vval U] w fun e w' => e = .returned (.bool (vgreatB U.l)) ∧ Below w.heap.size w w' := by
  obtain ⟨l, A, n, c⟩ := U
  have hl := h.len
  simp only at hn hl hf
  have HL := Lib.hid hl
  have HF := Lib.hid hf
  clear hl hf
  simp only [vval]
  go_enter Tryd.func25, Tryd.ntmps25
  go_wp2
  go_loopw [3] (fun i wr => ∃ k : Nat, k ≤ n ∧ k ≤ 41 ∧ i = .int .i64 k ∧ ((l.take k).any fun x => E.great x.v.s.apps) = false ∧ Below w.heap.size w wr) (fun i _ => n - (intOf i).toNat)
  case atStart => exact ⟨0, by omega, by omega, rfl, rfl, Below.refl _ _⟩
  case round =>
    obtain ⟨k, hk, hk41, rfl, hno, hbel⟩ := hrel
    have HN := Lib.hid hno
    have hbs := hbel.size
    clear hno
    by_cases hlt : k < n
    · by_cases h41 : k < 41
      · obtain ⟨b, o, x, e1, hb, hx, hsx, c0, c1', c2, c3⟩ := (h.belowH hbel).at hlt
        simp only at e1 hx
        subst e1
        have hk0 : (0 : Int) ≤ (k : Int) := by omega
        have hfx := HF.out x (List.mem_of_getElem? hx)
        have HX := Lib.hid hx
        clear hx
        go_wp2_with fail
        refine (rsgreat_any x.v _ hsx hfx.1 hfx.2).mono ?_
        rintro e w2 ⟨rfl, hb2⟩
        have hbel2 := hbel.trans (hb2.mono hbs)
        clear hb2 c0 c1' c2 c3 hfx hsx
        rcases hg : E.great x.v.s.apps
        · have HG := Lib.hid hg
          clear hg
          go_wp2
          go_roundw
          case rel => exact ⟨k + 1, by omega, by omega, by go_num, by rw [take_more HX.out, List.any_append, HN.out]; simp [HG.out], hbel2⟩
          case measure => simp [intOf]; omega
        · have hall : vgreatB l = true := by
            unfold vgreatB
            have hmem : x ∈ l.take 41 := List.mem_of_getElem? (i := k) (by rw [List.getElem?_take, if_pos h41]; exact HX.out)
            rw [List.any_eq_true.2 ⟨x, hmem, hg⟩]; rfl
          have HA := Lib.hid hall
          clear hg hall
          go_wp2
          go_ret
          exact ⟨ret_bool HA.out.symm, hbel2⟩
      · have hk' : k = 41 := by omega
        have hg : vgreatB l = decide (40 < n) := by unfold vgreatB; rw [← hk', HN.out, HL.out]; rfl
        have HG := Lib.hid hg
        clear hg hk'
        go_wp2
        go_ret
        exact ⟨ret_bool (by rw [HG.out]; exact decide_eq_decide.2 (by omega)), hbel⟩
    · have hg : vgreatB l = decide (40 < n) := by
        unfold vgreatB
        have h1 := HN.out
        have h2 := HL.out
        rw [List.take_of_length_le (by omega)] at h1
        rw [List.take_of_length_le (by omega), h1, h2]; rfl
      have HG := Lib.hid hg
      clear hg
      go_wp2
      go_ret
      exact ⟨ret_bool (by rw [HG.out]; exact decide_eq_decide.2 (by omega)), hbel⟩
end Go.Proofs.YtmbfldcmiabccaaDoor

