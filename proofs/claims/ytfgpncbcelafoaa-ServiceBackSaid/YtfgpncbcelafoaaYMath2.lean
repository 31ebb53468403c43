/- Services in tables, plainly: all, a key, a place (no program). -/
import Derived.Test.YtfgpncbcelafoaaYMath
import Derived.Test.YtfgpncbcelafoaaEMath2
namespace Go.Proofs.Ytfgpncbcelafoaa
set_option linter.unusedVariables false
set_option linter.unusedSimpArgs false
namespace Y
/-- does an entry tell of a service -/
def tells (x : Ent) : Prop := 3 ≤ x.key ∧ (dec x.val).2 = 0
instance (x : Ent) : Decidable (tells x) := by unfold tells; infer_instance
def all : List Ent → List Svc
  | [] => []
  | x :: r => if tells x then (dec x.val).1 :: all r else all r
def isIt (n p : List UInt8) (x : Ent) : Prop := tells x ∧ (dec x.val).1.name = n ∧ (dec x.val).1.proto = p
instance (n p : List UInt8) (x : Ent) : Decidable (isIt n p x) := by unfold isIt; infer_instance
def key (n p : List UInt8) : List Ent → Int × Bool
  | [] => (0, false)
  | x :: r => if isIt n p x then (x.key, true) else key n p r
/-- the value of a key, nothing where there is none -/
def valOf (l : List Ent) (k : Int) : List UInt8 := match E.get l k with | some x => x.val | Option.none => []
def there (l : List Ent) (k : Int) : Bool := (E.get l k).isSome
def gap (l : List Ent) : Nat → Int → Int × Bool
  | 0, _ => (0, false)
  | f + 1, k => if there l k = false then (k, true) else gap l f (k + 1)
def blank (l : List Ent) : Nat → Int → Int × Bool
  | 0, _ => (0, false)
  | f + 1, k => if valOf l k = [] then (k, true) else blank l f (k + 1)
def place (l : List Ent) : Int × Bool := if (gap l 9 3).2 = true then gap l 9 3 else blank l 9 3
def up (l : List Ent) : Bool := there l 0 && decide (valOf l 0 = [117, 112])
theorem dec_nil : (dec []).2 ≠ 0 := by decide
theorem key_no {n p : List UInt8} : ∀ {l : List Ent}, (key n p l).2 = false → key n p l = (0, false)
  | [], _ => rfl
  | x :: r, h => by
    unfold key at h ⊢
    split
    · rename_i hx; rw [if_pos hx] at h; cases h
    · rename_i hx; rw [if_neg hx] at h; exact key_no h
theorem gap_yes {l : List Ent} : ∀ (f : Nat) (k : Int), (gap l f k).2 = true → k ≤ (gap l f k).1 ∧ (gap l f k).1 < k + f ∧ there l (gap l f k).1 = false
  | 0, _, h => by cases h
  | f + 1, k, h => by
    unfold gap at h ⊢
    split
    · rename_i hx; exact ⟨Int.le_refl _, by show k < _; omega, hx⟩
    · rename_i hx
      rw [if_neg hx] at h
      obtain ⟨h1, h2, h3⟩ := gap_yes f (k + 1) h
      exact ⟨by omega, by omega, h3⟩
theorem gap_no {l : List Ent} : ∀ (f : Nat) (k : Int), (gap l f k).2 = false → ∀ j, k ≤ j → j < k + f → there l j = true
  | 0, k, _, j, h1, h2 => by omega
  | f + 1, k, h, j, h1, h2 => by
    unfold gap at h
    split at h
    · cases h
    · rename_i hx
      by_cases e : j = k
      · subst e; simpa using hx
      · exact gap_no f (k + 1) h j (by omega) (by omega)
theorem blank_yes {l : List Ent} : ∀ (f : Nat) (k : Int), (blank l f k).2 = true → k ≤ (blank l f k).1 ∧ (blank l f k).1 < k + f ∧ valOf l (blank l f k).1 = []
  | 0, _, h => by cases h
  | f + 1, k, h => by
    unfold blank at h ⊢
    split
    · rename_i hx; exact ⟨Int.le_refl _, by show k < _; omega, hx⟩
    · rename_i hx
      rw [if_neg hx] at h
      obtain ⟨h1, h2, h3⟩ := blank_yes f (k + 1) h
      exact ⟨by omega, by omega, h3⟩
theorem val_none {l : List Ent} {k : Int} (h : there l k = false) : valOf l k = [] := by
  unfold there at h
  unfold valOf
  cases hg : E.get l k with
  | none => rfl
  | some x => rw [hg] at h; cases h
theorem place_yes {l : List Ent} (h : (place l).2 = true) : 3 ≤ (place l).1 ∧ (place l).1 < 12 ∧ valOf l (place l).1 = [] := by
  unfold place at h ⊢
  split
  · rename_i hg
    obtain ⟨h1, h2, h3⟩ := gap_yes 9 3 hg
    exact ⟨h1, by omega, val_none h3⟩
  · rename_i hg
    rw [if_neg hg] at h
    obtain ⟨h1, h2, h3⟩ := blank_yes 9 3 h
    exact ⟨h1, by omega, h3⟩
theorem many {l : List Ent} : ∀ (f : Nat) (a : Int), E.rising l → (∀ j, a ≤ j → j < a + f → there l j = true) → f ≤ l.length := by
  induction l with
  | nil =>
    intro f a _ h
    rcases Nat.eq_zero_or_pos f with rfl | hf
    · exact Nat.le_refl _
    · have := h a (Int.le_refl _) (by omega)
      cases this
  | cons x r ih =>
    intro f a hr h
    rcases Nat.eq_zero_or_pos f with rfl | hf
    · exact Nat.zero_le _
    have far : ∀ j, j ≠ x.key → there (x :: r) j = there r j := fun j hj => by
      unfold there
      rw [E.get_cons, if_neg (fun e => hj e.symm)]
    by_cases h1 : x.key < a
    · have := ih f a hr.2 fun j h2 h3 => by rw [← far j (by omega)]; exact h j h2 h3
      simp only [List.length_cons]; omega
    · by_cases h2 : x.key = a
      · have := ih (f - 1) (a + 1) hr.2 fun j h3 h4 => by rw [← far j (by omega)]; exact h j (by omega) (by omega)
        simp only [List.length_cons]; omega
      · have h3 := h a (Int.le_refl _) (by omega)
        rw [far a (fun e => h2 e.symm)] at h3
        unfold there at h3
        rw [E.get_low (fun y hy => by have := hr.1 y hy; omega)] at h3
        cases h3
theorem place_no {l : List Ent} (hr : E.rising l) (h : (place l).2 = false) : 9 ≤ l.length := by
  unfold place at h
  split at h
  · rename_i hg; rw [hg] at h; cases h
  · rename_i hg
    exact many 9 3 hr (gap_no 9 3 (by simpa using hg))
/-- put in its place, it is found there, and told -/
theorem put_it {s : Svc} (hs : right s) {k v : Int} (hk : 3 ≤ k) : ∀ {l : List Ent}, E.rising l → valOf l k = [] → (key s.name s.proto l).2 = false →
    key s.name s.proto (E.put l ⟨k, v, val s⟩) = (k, true) ∧ (all (E.put l ⟨k, v, val s⟩)).length = (all l).length + 1 ∧ s ∈ all (E.put l ⟨k, v, val s⟩) := by
  have hd : dec (val s) = (s, 0) := dec_val hs
  have ht : tells ⟨k, v, val s⟩ := ⟨hk, by show (dec (val s)).2 = 0; rw [hd]⟩
  have hi : isIt s.name s.proto ⟨k, v, val s⟩ := ⟨ht, by show (dec (val s)).1.name = _; rw [hd], by show (dec (val s)).1.proto = _; rw [hd]⟩
  have head : ∀ r, all ((⟨k, v, val s⟩ : Ent) :: r) = s :: all r := fun r => by
    show (if tells ⟨k, v, val s⟩ then (dec (val s)).1 :: all r else all r) = _
    rw [if_pos ht, hd]
  have kh : ∀ r, key s.name s.proto ((⟨k, v, val s⟩ : Ent) :: r) = (k, true) := fun r => if_pos hi
  intro l
  induction l with
  | nil =>
    intro _ _ _
    refine ⟨kh _, ?_, ?_⟩
    · show (all [_]).length = _; rw [head]; rfl
    · show s ∈ all [_]; rw [head]; exact List.mem_cons_self ..
  | cons y r ih =>
    intro hr hv hn
    have hn2 : ¬ isIt s.name s.proto y ∧ (key s.name s.proto r).2 = false := by
      unfold key at hn
      split at hn
      · cases hn
      · rename_i h; exact ⟨h, hn⟩
    simp only [E.put]
    split
    · rename_i hlt
      have hv2 : valOf r k = [] := by
        unfold valOf at hv ⊢
        rwa [E.get_cons, if_neg (by omega)] at hv
      obtain ⟨h1, h2, h3⟩ := ih hr.2 hv2 hn2.2
      refine ⟨?_, ?_, ?_⟩
      · show (if isIt s.name s.proto y then _ else key s.name s.proto (E.put r _)) = _
        rw [if_neg hn2.1, h1]
      · show (if tells y then _ :: all (E.put r _) else all (E.put r _)).length = (if tells y then _ :: all r else all r).length + 1
        split
        · simp only [List.length_cons]; rw [h2]
        · exact h2
      · show s ∈ (if tells y then _ :: all (E.put r _) else all (E.put r _))
        split
        · exact List.mem_cons_of_mem _ h3
        · exact h3
    · split
      · rename_i hne he
        have hy : y.val = [] := by
          unfold valOf at hv
          rwa [E.get_cons, if_pos he] at hv
        have hty : ¬ tells y := fun h => by
          have := h.2
          rw [hy] at this
          exact dec_nil this
        refine ⟨kh _, ?_, ?_⟩
        · rw [head]
          show (all r).length + 1 = (if tells y then _ :: all r else all r).length + 1
          rw [if_neg hty]
        · rw [head]; exact List.mem_cons_self ..
      · refine ⟨kh _, ?_, ?_⟩
        · rw [head]; rfl
        · rw [head]; exact List.mem_cons_self ..
end Y
end Go.Proofs.Ytfgpncbcelafoaa
