/- Names as texts, plainly (no program). -/
import Derived.Test.YtillnjhmdgmgeaaDoorBMath
namespace Go.Proofs.YtillnjhmdgmgeaaDoor
set_option linter.unusedVariables false
set_option linter.unusedSimpArgs false
namespace Lab
/-- one byte more of a text that is parted by dots -/
def step (l : List (List UInt8)) (c : UInt8) : List (List UInt8) := if c = 46 then l ++ [[]] else l.dropLast ++ [(l.getLast?.getD []) ++ [c]]
def parts (t : List UInt8) : List (List UInt8) := t.foldl step [[]]
def trim (t : List UInt8) : List UInt8 := if t.getLast? = some 46 then t.dropLast else t
def of (t : List UInt8) : List UInt8 × Int := if t = [] ∨ t = [46] then ([0], 0) else join (parts (trim t))
def dot (s : List UInt8) : List UInt8 := s ++ [46]
def dots (l : List (List UInt8)) : List UInt8 := l.flatMap dot
def bad (l : List (List UInt8)) : Bool := l.any fun s => decide (46 ∈ s)
def shown (l : List (List UInt8)) : List UInt8 := if l = [] then [46] else dots l
def text (s : List UInt8) : List UInt8 × Int := match cut s with
  | none => ([], 1)
  | some l => if bad l = true then ([], 3) else (shown l, 0)
theorem step_snoc (acc : List (List UInt8)) (p : List UInt8) (c : UInt8) : step (acc ++ [p]) c = if c = 46 then acc ++ [p] ++ [[]] else acc ++ [p ++ [c]] := by
  unfold step
  split
  · rfl
  · simp
theorem fold_plain : ∀ (s : List UInt8) (acc : List (List UInt8)) (p : List UInt8), ¬ 46 ∈ s → s.foldl step (acc ++ [p]) = acc ++ [p ++ s]
  | [], acc, p, _ => by simp
  | c :: s, acc, p, h => by
    have hc : ¬ c = 46 := fun e => h (by simp [e])
    rw [List.foldl_cons, step_snoc, if_neg hc, fold_plain s acc (p ++ [c]) (fun hm => h (by simp [hm]))]
    simp
theorem fold_dot (s : List UInt8) (acc : List (List UInt8)) (h : ¬ 46 ∈ s) : (dot s).foldl step (acc ++ [[]]) = acc ++ [s] ++ [[]] := by
  unfold dot
  rw [List.foldl_append, fold_plain s acc [] h, List.foldl_cons, List.foldl_nil, step_snoc, if_pos rfl]
  simp
theorem fold_dots : ∀ (l acc : List (List UInt8)) (s : List UInt8), (∀ x ∈ l, ¬ 46 ∈ x) → ¬ 46 ∈ s → (dots l ++ s).foldl step (acc ++ [[]]) = acc ++ l ++ [s]
  | [], acc, s, _, h => by
    show s.foldl step (acc ++ [[]]) = _
    rw [fold_plain s acc [] h]
    simp
  | x :: l, acc, s, hl, h => by
    show (dot x ++ dots l ++ s).foldl step (acc ++ [[]]) = _
    rw [List.append_assoc, List.foldl_append, fold_dot x acc (hl x (by simp)), fold_dots l (acc ++ [x]) s (fun y hy => hl y (by simp [hy])) h]
    simp
theorem parts_dots {l : List (List UInt8)} {s : List UInt8} (hl : ∀ x ∈ l, ¬ 46 ∈ x) (h : ¬ 46 ∈ s) : parts (dots l ++ s) = l ++ [s] := by
  have := fold_dots l [] s hl h
  simpa [parts] using this
theorem dots_app (l m : List (List UInt8)) : dots (l ++ m) = dots l ++ dots m := List.flatMap_append
theorem bad_no {l : List (List UInt8)} (h : ¬ bad l = true) : ∀ x ∈ l, ¬ 46 ∈ x := fun x hx hm => h (List.any_eq_true.2 ⟨x, hx, by simpa using hm⟩)
/-- a name's text is that name's -/
theorem of_shown {l : List (List UInt8)} (h : ok l) (hb : ¬ bad l = true) : of (shown l) = (names l, 0) := by
  rcases List.eq_nil_or_concat l with rfl | ⟨m, s, rfl⟩
  · rfl
  · rw [List.concat_eq_append] at h hb ⊢
    have hn := bad_no hb
    have hs : okL s := h.1 s (by simp)
    have e : shown (m ++ [s]) = (dots m ++ s) ++ [46] := by
      unfold shown
      rw [if_neg (by simp), dots_app]
      show dots m ++ (dot s ++ []) = _
      simp [dot]
    have hl : 1 ≤ s.length := hs.1
    rw [e]
    unfold of
    rw [if_neg (by
      rintro (h1 | h1)
      · have h2 := congrArg List.length h1
        simp at h2
      · have h2 := congrArg List.length h1
        rw [List.length_append, List.length_append] at h2
        simp only [List.length_cons, List.length_nil] at h2
        omega)]
    have ht : trim (dots m ++ s ++ [46]) = dots m ++ s := by
      unfold trim
      rw [List.getLast?_concat, if_pos rfl, List.dropLast_concat]
    rw [ht, parts_dots (fun x hx => hn x (by simp [hx])) (hn s (by simp)), join_ok h]
theorem text_is {s : List UInt8} (h : (text s).2 = 0) : ∃ l, ok l ∧ names l = s ∧ ¬ bad l = true ∧ (text s).1 = shown l := by
  unfold text at h ⊢
  cases hc : cut s with
  | none => rw [hc] at h; cases h
  | some l =>
    rw [hc] at h
    simp only at h ⊢
    obtain ⟨h1, h2⟩ := cut_some hc
    split at h
    · cases h
    · rename_i hb
      exact ⟨l, h1, h2, hb, by rw [if_neg hb]⟩
theorem text_err {s : List UInt8} (h : (text s).2 ≠ 0) : (text s).1 = [] := by
  unfold text at h ⊢
  cases hc : cut s with
  | none => rfl
  | some l =>
    rw [hc] at h
    simp only at h ⊢
    split
    · rfl
    · rename_i hb; rw [if_neg hb] at h; exact absurd rfl h
theorem dots_len : ∀ l : List (List UInt8), (dots l).length = (wires l).length
  | [] => rfl
  | x :: l => by
    show (dot x ++ dots l).length = (wire x ++ wires l).length
    rw [List.length_append, List.length_append, dots_len l]
    simp [dot, wire]
theorem shown_len {l : List (List UInt8)} (h : ok l) : (shown l).length ≤ 255 := by
  unfold shown
  split
  · decide
  · rw [dots_len]; have := h.2; rw [names_len] at this; omega
end Lab
end Go.Proofs.YtillnjhmdgmgeaaDoor
