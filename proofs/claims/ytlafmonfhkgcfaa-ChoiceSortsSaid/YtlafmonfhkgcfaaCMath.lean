/- Whom to ask, plainly. -/
import Derived.Test.YtlafmonfhkgcfaaWords
namespace Go.Proofs.Ytlafmonfhkgcfaa
set_option linter.unusedVariables false
set_option linter.unusedSimpArgs false
namespace Ch
def one (l : List Int) (d : Nat) : Int := l.getD (d % l.length) 0
def add (l : List Int) (n : Int) : List Int := if n ∈ l then l else l ++ [n]
/-- behind the first draw -/
def o1 (al : List Int) (p : Nat) : List Int := if al = [] then [] else [one al p]
/-- behind the second -/
def o2 (al dn : List Int) (q : Nat) (out : List Int) : List Int := if dn ≠ [] ∧ q % (al.length + 1) < dn.length then add out (one dn q) else out
/-- behind the third -/
def o3 (al sd : List Int) (p r : Nat) (out : List Int) : List Int := if sd ≠ [] ∧ (al = [] ∨ one al p ∉ sd ∨ al.length < sd.length) then add out (one sd r) else out
def round (al dn sd : List Int) (p q r : Nat) : List Int := o3 al sd p r (o2 al dn q (o1 al p))
def without (l : List Int) (n : Int) : List Int := l.filter fun x => decide (x ≠ n)
/-- where a number goes -/
def spot (out : List Int) (x : Int) : Nat := (out.takeWhile fun y => decide (y < x)).length
def ins (out : List Int) (x : Int) : List Int := if out[spot out x]? = some x then out else out.take (spot out x) ++ [x] ++ out.drop (spot out x)
def rising (l : List Int) : List Int := l.foldl ins []
theorem one_mem {l : List Int} (h : l ≠ []) (d : Nat) : one l d ∈ l := by
  have hl : 0 < l.length := List.length_pos_iff.2 h
  have hd : d % l.length < l.length := Nat.mod_lt _ hl
  unfold one
  rw [List.getD_eq_getElem?_getD, List.getElem?_eq_getElem hd]
  exact List.getElem_mem hd
theorem add_mem {l : List Int} {n x : Int} : x ∈ add l n ↔ x ∈ l ∨ x = n := by
  unfold add
  split
  · rename_i h
    exact ⟨Or.inl, fun h' => h'.elim id (fun e => e ▸ h)⟩
  · simp
theorem add_nodup {l : List Int} (h : l.Nodup) (n : Int) : (add l n).Nodup := by
  unfold add
  split
  · exact h
  · rename_i hn
    rw [List.nodup_append]
    exact ⟨h, by simp, fun a ha b hb => by simp at hb; rintro rfl; subst hb; exact hn ha⟩
theorem add_len (l : List Int) (n : Int) : (add l n).length ≤ l.length + 1 := by
  unfold add
  split <;> simp
theorem add_len' (l : List Int) (n : Int) : l.length ≤ (add l n).length := by
  unfold add
  split <;> simp
theorem o1_len (al : List Int) (p : Nat) : (o1 al p).length ≤ 1 := by unfold o1; split <;> simp
theorem o2_len (al dn : List Int) (q : Nat) (out : List Int) : (o2 al dn q out).length ≤ out.length + 1 := by
  unfold o2
  split
  · exact add_len _ _
  · omega
theorem o3_len (al sd : List Int) (p r : Nat) (out : List Int) : (o3 al sd p r out).length ≤ out.length + 1 := by
  unfold o3
  split
  · exact add_len _ _
  · omega
theorem round_len (al dn sd : List Int) (p q r : Nat) : (round al dn sd p q r).length ≤ 3 := by
  have h1 := o1_len al p
  have h2 := o2_len al dn q (o1 al p)
  have h3 := o3_len al sd p r (o2 al dn q (o1 al p))
  unfold round
  omega
theorem round_nodup (al dn sd : List Int) (p q r : Nat) : (round al dn sd p q r).Nodup := by
  have h1 : (o1 al p).Nodup := by unfold o1; split <;> simp
  have h2 : (o2 al dn q (o1 al p)).Nodup := by
    unfold o2
    split
    · exact add_nodup h1 _
    · exact h1
  unfold round o3
  split
  · exact add_nodup h2 _
  · exact h2
theorem o1_mem {al : List Int} {p : Nat} {x : Int} (h : x ∈ o1 al p) : x ∈ al := by
  unfold o1 at h
  split at h
  · simp at h
  · rename_i h1
    obtain rfl : x = one al p := by simpa using h
    exact one_mem h1 p
theorem o2_mem {al dn out : List Int} {q : Nat} {x : Int} (h : x ∈ o2 al dn q out) : x ∈ out ∨ x ∈ dn := by
  unfold o2 at h
  split at h
  · rename_i h1
    rcases add_mem.1 h with h | rfl
    · exact Or.inl h
    · exact Or.inr (one_mem h1.1 q)
  · exact Or.inl h
theorem o3_mem {al sd out : List Int} {p r : Nat} {x : Int} (h : x ∈ o3 al sd p r out) : x ∈ out ∨ x ∈ sd := by
  unfold o3 at h
  split at h
  · rename_i h1
    rcases add_mem.1 h with h | rfl
    · exact Or.inl h
    · exact Or.inr (one_mem h1.1 r)
  · exact Or.inl h
theorem round_mem {al dn sd : List Int} {p q r : Nat} {x : Int} (h : x ∈ round al dn sd p q r) : x ∈ al ∨ x ∈ dn ∨ x ∈ sd := by
  rcases o3_mem h with h | h
  · rcases o2_mem h with h | h
    · exact Or.inl (o1_mem h)
    · exact Or.inr (Or.inl h)
  · exact Or.inr (Or.inr h)
theorem o2_len' (al dn : List Int) (q : Nat) (out : List Int) : out.length ≤ (o2 al dn q out).length := by
  unfold o2
  split
  · exact add_len' _ _
  · omega
theorem o3_len' (al sd : List Int) (p r : Nat) (out : List Int) : out.length ≤ (o3 al sd p r out).length := by
  unfold o3
  split
  · exact add_len' _ _
  · omega
theorem round_some {al dn sd : List Int} {p q r : Nat} (h : (round al dn sd p q r).length = 0) : al = [] ∧ sd = [] := by
  have h2 := o2_len' al dn q (o1 al p)
  have h3 := o3_len' al sd p r (o2 al dn q (o1 al p))
  unfold round at h
  have ha : al = [] := by
    by_cases ha : al = []
    · exact ha
    · have : (o1 al p).length = 1 := by unfold o1; rw [if_neg ha]; rfl
      omega
  refine ⟨ha, ?_⟩
  by_cases hs : sd = []
  · exact hs
  · unfold o3 at h
    rw [if_pos ⟨hs, Or.inl ha⟩] at h
    have hm : one sd r ∈ add (o2 al dn q (o1 al p)) (one sd r) := add_mem.2 (Or.inr rfl)
    rw [List.eq_nil_of_length_eq_zero h] at hm
    simp at hm
/-! ### what goes -/
theorem without_mem {l : List Int} {n x : Int} : x ∈ without l n ↔ x ∈ l ∧ x ≠ n := by simp [without]
theorem without_le (l : List Int) (n : Int) : (without l n).length ≤ l.length := List.length_filter_le _ _
theorem without_lt (l : List Int) (n : Int) : n ∈ l ↔ (without l n).length < l.length := by
  induction l with
  | nil => simp [without]
  | cons x l ih =>
    unfold without at *
    by_cases h : x = n
    · subst h
      have h1 := List.length_filter_le (fun y => decide (y ≠ x)) l
      rw [List.filter_cons_of_neg (by simp), List.length_cons]
      exact ⟨fun _ => Nat.lt_succ_of_le h1, fun _ => List.mem_cons_self⟩
    · have h' : n ≠ x := fun e => h e.symm
      rw [List.filter_cons_of_pos (by simpa using h), List.mem_cons, List.length_cons, List.length_cons]
      simp only [h', false_or]
      rw [ih]
      exact (Nat.add_lt_add_iff_right).symm
theorem without_take {l : List Int} {k : Nat} {x n : Int} (h : l[k]? = some x) : without (l.take (k + 1)) n = if x = n then without (l.take k) n else without (l.take k) n ++ [x] := by
  rw [take_more h]
  unfold without
  rw [List.filter_append]
  by_cases e : x = n <;> simp [e]
/-! ### rising -/
def Up (l : List Int) : Prop := l.Pairwise (· < ·)
theorem spot_le (out : List Int) (x : Int) : spot out x ≤ out.length := (List.takeWhile_prefix _).length_le
theorem take_yes {p : Int → Bool} {y : Int} : ∀ {l : List Int}, y ∈ l.takeWhile p → p y = true
  | [], h => by simp at h
  | z :: l, h => by
    rw [List.takeWhile_cons] at h
    split at h
    · rename_i hz
      rcases List.mem_cons.1 h with rfl | h
      · exact hz
      · exact take_yes h
    · simp at h
theorem take_spot (out : List Int) (x : Int) : out.take (spot out x) = out.takeWhile fun y => decide (y < x) := by
  unfold spot
  induction out with
  | nil => rfl
  | cons y l ih =>
    rw [List.takeWhile_cons]
    split
    · rw [List.length_cons, List.take_succ_cons, ih]
    · rfl
theorem before_spot {out : List Int} {x y : Int} (h : y ∈ out.take (spot out x)) : y < x := by
  rw [take_spot] at h
  exact of_decide_eq_true (take_yes h)
theorem at_spot {out : List Int} {x y : Int} (h : out[spot out x]? = some y) : x ≤ y := by
  unfold spot at h
  induction out with
  | nil => simp at h
  | cons z l ih =>
    rw [List.takeWhile_cons] at h
    split at h
    · rw [List.length_cons, List.getElem?_cons_succ] at h
      exact ih h
    · rename_i hz
      have : z = y := by simpa using h
      subst this
      have : ¬ z < x := by simpa using hz
      omega
theorem behind_spot {out : List Int} (hu : Up out) {x y : Int} (h : y ∈ out.drop (spot out x)) : x ≤ y := by
  rcases hd : out.drop (spot out x) with _ | ⟨z, r⟩
  · rw [hd] at h; simp at h
  · have hz : out[spot out x]? = some z := by
      have : (out.drop (spot out x))[0]? = some z := by rw [hd]; rfl
      rwa [List.getElem?_drop] at this
    have h1 := at_spot hz
    have h2 : (out.drop (spot out x)).Pairwise (· < ·) := hu.sublist (List.drop_sublist _ _)
    rw [hd] at h2 h
    rcases List.mem_cons.1 h with rfl | h
    · exact h1
    · have := List.rel_of_pairwise_cons h2 h
      omega
/-- the walk's own test: where it stands -/
theorem spot_is {out : List Int} {x : Int} {k : Nat} (hk : k ≤ out.length) (h1 : ∀ y ∈ out.take k, y < x) (h2 : ∀ y, out[k]? = some y → ¬ y < x) : spot out x = k := by
  unfold spot
  induction out generalizing k with
  | nil => simp at hk; simp [hk]
  | cons z l ih =>
    rcases k with _ | k
    · have := h2 z rfl
      rw [List.takeWhile_cons, if_neg (by simpa using this)]
      rfl
    · have := h1 z (by simp)
      rw [List.takeWhile_cons, if_pos (by simpa using this), List.length_cons, ih (k := k) (by simpa using hk) (fun y hy => h1 y (by simp [hy])) (fun y hy => h2 y (by simpa using hy))]
theorem ins_mem {out : List Int} {x y : Int} : y ∈ ins out x ↔ y ∈ out ∨ y = x := by
  unfold ins
  split
  · rename_i h
    exact ⟨Or.inl, fun h' => h'.elim id fun e => e ▸ List.mem_of_getElem? h⟩
  · have := List.take_append_drop (spot out x) out
    constructor
    · intro h
      rcases List.mem_append.1 h with h | h
      · rcases List.mem_append.1 h with h | h
        · exact Or.inl (List.mem_of_mem_take h)
        · exact Or.inr (by simpa using h)
      · exact Or.inl (List.mem_of_mem_drop h)
    · rintro (h | rfl)
      · rw [← this] at h
        rcases List.mem_append.1 h with h | h
        · exact List.mem_append_left _ (List.mem_append_left _ h)
        · exact List.mem_append_right _ h
      · exact List.mem_append_left _ (List.mem_append_right _ (by simp))
theorem ins_up {out : List Int} (hu : Up out) (x : Int) : Up (ins out x) := by
  unfold ins
  split
  · exact hu
  · rename_i h
    unfold Up at *
    rw [List.append_assoc, List.pairwise_append]
    refine ⟨hu.sublist (List.take_sublist _ _), ?_, ?_⟩
    · rw [List.singleton_append, List.pairwise_cons]
      refine ⟨fun y hy => ?_, hu.sublist (List.drop_sublist _ _)⟩
      have h1 := behind_spot hu hy
      rcases Int.lt_or_eq_of_le h1 with h1 | h1
      · exact h1
      · exfalso
        subst h1
        rcases hd : out.drop (spot out x) with _ | ⟨z, r⟩
        · rw [hd] at hy; simp at hy
        · have hz : out[spot out x]? = some z := by
            have : (out.drop (spot out x))[0]? = some z := by rw [hd]; rfl
            rwa [List.getElem?_drop] at this
          have h3 := at_spot hz
          have h2 : (out.drop (spot out x)).Pairwise (· < ·) := hu.sublist (List.drop_sublist _ _)
          rw [hd] at h2 hy
          rcases List.mem_cons.1 hy with rfl | hy
          · exact h hz
          · have := List.rel_of_pairwise_cons h2 hy
            omega
    · intro a ha b hb
      have h1 := before_spot ha
      rcases List.mem_append.1 hb with hb | hb
      · obtain rfl : b = x := by simpa using hb
        exact h1
      · have := behind_spot hu hb
        omega
theorem ins_len (out : List Int) (x : Int) : (ins out x).length ≤ out.length + 1 := by
  unfold ins
  split
  · omega
  · have := spot_le out x
    simp; omega
theorem fold_up (l : List Int) : ∀ out, Up out → Up (l.foldl ins out) ∧ ∀ y, y ∈ l.foldl ins out ↔ y ∈ out ∨ y ∈ l := by
  induction l with
  | nil => exact fun out h => ⟨h, by simp⟩
  | cons x l ih =>
    intro out h
    obtain ⟨h1, h2⟩ := ih (ins out x) (ins_up h x)
    refine ⟨h1, fun y => ?_⟩
    rw [List.foldl_cons, h2, ins_mem, List.mem_cons]
    constructor
    · rintro ((h | h) | h)
      · exact Or.inl h
      · exact Or.inr (Or.inl h)
      · exact Or.inr (Or.inr h)
    · rintro (h | h | h)
      · exact Or.inl (Or.inl h)
      · exact Or.inl (Or.inr h)
      · exact Or.inr h
theorem rising_up (l : List Int) : Up (rising l) := (fold_up l [] List.Pairwise.nil).1
theorem rising_mem {l : List Int} {y : Int} : y ∈ rising l ↔ y ∈ l := by have := (fold_up l [] List.Pairwise.nil).2 y; simpa [rising] using this
theorem rising_take {l : List Int} {k : Nat} {x : Int} (h : l[k]? = some x) : rising (l.take (k + 1)) = ins (rising (l.take k)) x := by
  rw [take_more h]
  unfold rising
  rw [List.foldl_append]
  rfl
theorem fold_len (l : List Int) : ∀ out : List Int, (l.foldl ins out).length ≤ out.length + l.length := by
  induction l with
  | nil => intro out; simp
  | cons x l ih =>
    intro out
    have h1 := ih (ins out x)
    have h2 := ins_len out x
    rw [List.foldl_cons, List.length_cons]
    omega
theorem rising_len (l : List Int) : (rising l).length ≤ l.length := by have := fold_len l []; simpa [rising] using this
/-- two that rise, and have the same -/
theorem up_ext : ∀ {a b : List Int}, Up a → Up b → (∀ y, y ∈ a ↔ y ∈ b) → a = b
  | [], [], _, _, _ => rfl
  | [], y :: b, _, _, h => by have := (h y).2 (by simp); simp at this
  | x :: a, [], _, _, h => by have := (h x).1 (by simp); simp at this
  | x :: a, y :: b, ha, hb, h => by
    have ha' := List.pairwise_cons.1 ha
    have hb' := List.pairwise_cons.1 hb
    have e : x = y := by
      have h1 := (h x).1 (by simp)
      have h2 := (h y).2 (by simp)
      rcases List.mem_cons.1 h1 with h1 | h1
      · exact h1
      · rcases List.mem_cons.1 h2 with h2 | h2
        · exact h2.symm
        · have := hb'.1 x h1
          have := ha'.1 y h2
          omega
    subst e
    congr 1
    refine up_ext ha'.2 hb'.2 fun z => ?_
    constructor
    · intro hz
      rcases List.mem_cons.1 ((h z).1 (List.mem_cons_of_mem _ hz)) with rfl | h3
      · exact absurd (ha'.1 z hz) (by omega)
      · exact h3
    · intro hz
      rcases List.mem_cons.1 ((h z).2 (List.mem_cons_of_mem _ hz)) with rfl | h3
      · exact absurd (hb'.1 z hz) (by omega)
      · exact h3
theorem rising_of {l : List Int} (h : Up l) : rising l = l := up_ext (rising_up l) h fun _ => rising_mem
theorem up_at {l : List Int} (h : Up l) {i : Nat} {x y : Int} (hx : l[i]? = some x) (hy : l[i + 1]? = some y) : x < y := by
  obtain ⟨h1, rfl⟩ := List.getElem?_eq_some_iff.1 hx
  obtain ⟨h2, rfl⟩ := List.getElem?_eq_some_iff.1 hy
  exact List.pairwise_iff_getElem.1 h i (i + 1) h1 h2 (by omega)
theorem nodup_at {l : List Int} (h : l.Nodup) {i : Nat} {x : Int} (hx : l[i]? = some x) : x ∉ l.take i := by
  intro hm
  obtain ⟨h1, rfl⟩ := List.getElem?_eq_some_iff.1 hx
  obtain ⟨j, hj, e⟩ := List.mem_iff_getElem.1 hm
  rw [List.length_take] at hj
  rw [List.getElem_take] at e
  exact absurd (List.getElem_inj h |>.1 e) (by omega)
end Ch
end Go.Proofs.Ytlafmonfhkgcfaa
