/- Plain mathematics of digests: what one who knows a list lacks of another one. -/
import Derived.Test.YtoemefoppkgfaaaDMath
namespace Go.Proofs.Ytoemefoppkgfaaa
set_option linter.unusedSimpArgs false
set_option linter.unusedVariables false
namespace D
/-- an endpoint's digest, or one below all -/
def known (l : List Dg) (k : Int) : Dg := (find l k).getD ⟨0, 0, 0⟩
/-- what is lacked of one endpoint -/
def lack (a : List Dg) (y : Dg) : List Dg := if (known a y.node).gen < y.gen then [⟨y.node, y.gen, 0⟩] else if y.gen = (known a y.node).gen ∧ (known a y.node).ver < y.ver then [⟨y.node, y.gen, (known a y.node).ver⟩] else []
def lacks (a b : List Dg) : List Dg := b.flatMap (lack a)
theorem lacks_more {a b : List Dg} {k : Nat} {y : Dg} (h : b[k]? = some y) : lacks a (b.take (k + 1)) = lacks a (b.take k) ++ lack a y := by
  have h2 : b.take (k + 1) = b.take k ++ [y] := by
    have h3 : k < b.length := (List.getElem?_eq_some_iff.1 h).1
    rw [List.take_add_one, h]; rfl
  unfold lacks
  rw [h2, List.flatMap_append]; simp
/-- of each endpoint in turn -/
def each (b : List Dg) (g : Dg → List Dg) (k : Int) : List Dg := match find b k with
  | none => []
  | some d => g d
theorem flat_range (b : List Dg) (g : Dg → List Dg) (n m : Nat) (hr : rising b) (hlo : ∀ y ∈ b, (m : Int) ≤ y.node) (hhi : ∀ y ∈ b, y.node < (m + n : Nat)) : b.flatMap g = (List.range' m n).flatMap fun k : Nat => each b g k := by
  induction n generalizing m b with
  | zero =>
    cases b with
    | nil => rfl
    | cons x r =>
      have h1 := hlo x (by simp)
      have h2 := hhi x (by simp)
      omega
  | succ n ih =>
    rw [List.range'_succ, List.flatMap_cons]
    cases b with
    | nil =>
      have := ih [] (m + 1) trivial (by simp) (by simp)
      rw [← this]
      simp [each, find_nil]
    | cons x r =>
      by_cases hx : x.node = m
      · have h1 : each (x :: r) g m = g x := by unfold each; rw [find_cons, if_pos hx]
        have h2 := ih r (m + 1) hr.2 (fun y hy => by have := hr.1 y hy; push_cast; omega) (fun y hy => by have := hhi y (by simp [hy]); push_cast at this ⊢; omega)
        rw [h1, List.flatMap_cons, h2]
        congr 1
        rw [List.flatMap_def, List.flatMap_def]
        congr 1
        refine List.map_congr_left fun k hk => ?_
        have hk2 := List.mem_range'.1 hk
        obtain ⟨i, _, rfl⟩ := hk2
        unfold each
        rw [find_cons, if_neg (by push_cast; omega)]
      · have hlo2 : ∀ y ∈ x :: r, ((m + 1 : Nat) : Int) ≤ y.node := by
          intro y hy
          have h0 := hlo x (by simp)
          rcases List.mem_cons.1 hy with rfl | hy
          · push_cast; omega
          · have := hr.1 y hy; push_cast; omega
        have h1 : each (x :: r) g m = [] := by
          unfold each
          rw [find_low fun y hy => by have := hlo2 y hy; push_cast at this; omega]
        rw [h1, List.nil_append]
        exact ih (x :: r) (m + 1) hr hlo2 (fun y hy => by have := hhi y hy; push_cast at this ⊢; omega)
theorem flat8 {b : List Dg} (h : right b) (g : Dg → List Dg) : b.flatMap g = (List.range 8).flatMap fun k : Nat => each b g k := by
  rw [List.range_eq_range']
  exact flat_range b g 8 0 h.2 (fun y hy => by have := (h.1 y hy).1; simpa using this) (fun y hy => by have := (h.1 y hy).2.1; simpa using this)
theorem lacks_wants {v : List Nm} {l : List Dg} (hl : right l) : lacks (of v) l = wants v l 8 := by
  unfold lacks wants
  rw [flat8 hl]
  congr 1
  funext k
  unfold each
  rcases hf : find l (k : Int) with _ | d
  · cases V.get v (k : Int) <;> rfl
  · obtain ⟨hm, hn⟩ := find_mem hf
    have hg := (hl.1 d hm).2.2.1
    simp only [lack, known, hn, find_of]
    rcases V.get v (k : Int) with _ | s
    · simp only [Option.map_none, Option.getD_none, want]
      rw [if_pos (by omega)]
    · simp only [Option.map_some, Option.getD_some, want]
      by_cases h1 : s.gen < d.gen
      · rw [if_pos h1, if_pos h1]
      · rw [if_neg h1, if_neg h1]
        by_cases h2 : d.gen < s.gen
        · rw [if_pos h2, if_neg (by omega)]
        · rw [if_neg h2]
          have h3 : d.gen = s.gen := by omega
          by_cases h4 : S.top s < d.ver
          · rw [if_pos h4, if_pos ⟨h3, h4⟩, h3]
          · rw [if_neg h4, if_neg (fun h => h4 h.2)]
theorem lacks_gives {v : List Nm} {l : List Dg} (hv : V.right v) (hl : right l) : lacks l (of v) = gives v l 8 := by
  unfold lacks gives
  rw [flat8 (of_right hv)]
  congr 1
  funext k
  unfold each
  rw [find_of]
  rcases hs : V.get v (k : Int) with _ | s
  · rfl
  · have hg : 1 ≤ s.gen := (hv.1 _ (V.get_mem hs)).2.2.1
    rcases hf : find l (k : Int) with _ | d
    · simp only [Option.map_some, lack, known, hf, Option.getD_none, give]
      rw [if_pos (by omega)]
    · simp only [Option.map_some, lack, known, hf, Option.getD_some, give]
      by_cases h1 : s.gen < d.gen
      · rw [if_neg (by omega), if_neg (by omega), if_pos h1]
      · rw [if_neg h1]
        by_cases h2 : d.gen < s.gen
        · rw [if_pos h2, if_pos h2]
        · rw [if_neg h2, if_neg h2]
          have h3 : s.gen = d.gen := by omega
          by_cases h4 : d.ver < S.top s
          · rw [if_pos ⟨h3, h4⟩, if_neg (by omega), if_pos h4]
          · rw [if_neg (fun h => h4 h.2)]
            by_cases h5 : S.top s < d.ver
            · rw [if_pos h5]
            · rw [if_neg h5, if_neg h4]
theorem right_len {l : List Dg} (h : right l) : l.length ≤ 8 := by
  have h1 := range_len (f := fun k : Nat => (find l k).toList) (fun k => by cases find l k <;> simp) 8
  rwa [range_all h] at h1
end D
end Go.Proofs.Ytoemefoppkgfaaa
