/- Tables, more: what loops over them keep. -/
import Derived.Test.YtfgpncbcelafoaaEMath
namespace Go.Proofs.Ytfgpncbcelafoaa
namespace E

theorem rising_snoc {l : List Ent} {z : Ent} : rising (l ++ [z]) ↔ rising l ∧ ∀ y ∈ l, y.key < z.key := by
  induction l with
  | nil => simp [rising]
  | cons x r ih =>
    rw [List.cons_append, rising, rising, ih]
    constructor
    · rintro ⟨h1, h2, h3⟩
      refine ⟨⟨fun y hy => h1 y (by simp [hy]), h2⟩, fun y hy => ?_⟩
      rcases List.mem_cons.1 hy with rfl | hy
      · exact h1 z (by simp)
      · exact h3 y hy
    · rintro ⟨⟨h1, h2⟩, h3⟩
      refine ⟨fun y hy => ?_, h2, fun y hy => h3 y (by simp [hy])⟩
      rcases List.mem_append.1 hy with hy | hy
      · exact h1 y hy
      · obtain rfl : y = z := by simpa using hy
        exact h3 x (by simp)
theorem rising_two {l : List Ent} {y z : Ent} (h : rising (l ++ [y])) : rising (l ++ [y] ++ [z]) ↔ y.key < z.key := by
  rw [rising_snoc]
  constructor
  · exact fun h2 => h2.2 y (by simp)
  · intro h2
    refine ⟨h, fun x hx => ?_⟩
    rcases List.mem_append.1 hx with hx | hx
    · have := (rising_snoc.1 h).2 x hx; omega
    · obtain rfl : x = y := by simpa using hx
      exact h2
theorem rising_take {l : List Ent} (h : rising l) (k : Nat) : rising (l.take k) := by
  induction l generalizing k with
  | nil => simp [rising]
  | cons x r ih =>
    cases k with
    | zero => simp [rising]
    | succ k =>
      rw [List.take_succ_cons]
      exact ⟨fun y hy => h.1 y (List.mem_of_mem_take hy), ih h.2 k⟩
theorem rising_at {l : List Ent} (h : rising l) {i j : Nat} {x y : Ent} (hij : i < j) (hx : l[i]? = some x) (hy : l[j]? = some y) : x.key < y.key := by
  induction l generalizing i j with
  | nil => simp at hx
  | cons z r ih =>
    cases j with
    | zero => omega
    | succ j =>
      rw [List.getElem?_cons_succ] at hy
      cases i with
      | zero =>
        obtain rfl : z = x := by simpa using hx
        exact h.1 y (List.mem_of_getElem? hy)
      | succ i =>
        rw [List.getElem?_cons_succ] at hx
        exact ih h.2 (by omega) hx hy
theorem put_lt {l : List Ent} {x : Ent} (h : ∀ y ∈ l, y.key < x.key) : put l x = l ++ [x] := by
  induction l with
  | nil => rfl
  | cons z r ih =>
    simp only [put]
    rw [if_pos (h z (by simp)), ih (fun y hy => h y (by simp [hy]))]; rfl
theorem put_at {l : List Ent} {x z : Ent} (h : ∀ y ∈ l, y.key < x.key) (r : List Ent) (hz : x.key ≤ z.key) : put (l ++ z :: r) x = l ++ (if z.key = x.key then x :: r else x :: z :: r) := by
  induction l with
  | nil =>
    simp only [List.nil_append, put]
    rw [if_neg (by omega)]
  | cons y s ih =>
    simp only [List.cons_append, put]
    rw [if_pos (h y (by simp)), ih (fun w hw => h w (by simp [hw]))]
theorem put_snoc {l : List Ent} {x z : Ent} (h : ∃ y ∈ l, x.key ≤ y.key) : put (l ++ [z]) x = put l x ++ [z] := by
  induction l with
  | nil => obtain ⟨y, hy, _⟩ := h; cases hy
  | cons w s ih =>
    simp only [List.cons_append, put]
    split
    · rename_i hlt
      rw [List.cons_append, ih]
      obtain ⟨y, hy, h2⟩ := h
      rcases List.mem_cons.1 hy with rfl | hy
      · omega
      · exact ⟨y, hy, h2⟩
    · split <;> rfl
theorem put_length (l : List Ent) (x : Ent) : (put l x).length ≤ l.length + 1 := by
  induction l with
  | nil => simp [put]
  | cons z r ih =>
    simp only [put]
    split
    · simp only [List.length_cons]; omega
    · split <;> simp only [List.length_cons] <;> omega
theorem step_length (l : List Ent) (x : Ent) : (step l x).length ≤ l.length + 1 := by
  unfold step
  split
  · exact put_length l x
  · split
    · exact put_length l x
    · omega
theorem join_length (a b : List Ent) : (join a b).length ≤ a.length + b.length := by
  unfold join
  induction b generalizing a with
  | nil => simp
  | cons y s ih =>
    have h1 := ih (step a y)
    have h2 := step_length a y
    simp only [List.foldl_cons, List.length_cons]
    omega
theorem join_snoc (a b : List Ent) (y : Ent) : join a (b ++ [y]) = step (join a b) y := by simp [join]
theorem aboves_snoc (l : List Ent) (x : Ent) (v : Int) : aboves (l ++ [x]) v = if v < x.ver then aboves l v ++ [x] else aboves l v := by
  unfold aboves
  rw [List.filter_append]
  by_cases h : v < x.ver <;> simp [h]
theorem aboves_length (l : List Ent) (v : Int) : (aboves l v).length ≤ l.length := List.length_filter_le _ _
theorem top_snoc (l : List Ent) (x : Ent) : top (l ++ [x]) = max (top l) x.ver := by simp [top]
/-- what is above, at its place -/
theorem aboves_at {l : List Ent} {i : Nat} {x : Ent} {v : Int} (h : l[i]? = some x) (hv : v < x.ver) : (aboves l v)[(aboves (l.take i) v).length]? = some x := by
  have hi : i < l.length := (List.getElem?_eq_some_iff.1 h).1
  have e : l = l.take i ++ x :: l.drop (i + 1) := by
    have h1 : l.drop i = x :: l.drop (i + 1) := by
      rw [List.drop_eq_getElem_cons hi]
      rw [List.getElem?_eq_getElem hi] at h
      injection h with h; rw [h]
    rw [← h1, List.take_append_drop]
  have e2 : aboves l v = aboves (l.take i) v ++ x :: aboves (l.drop (i + 1)) v := by
    conv => lhs; rw [e]
    unfold aboves
    rw [List.filter_append, List.filter_cons]
    simp [hv]
  rw [e2]
  simp
theorem get_snoc (l : List Ent) (x : Ent) (k : Int) : get (l ++ [x]) k = match get l k with | some y => some y | none => if x.key = k then some x else none := by
  have e : get (l ++ [x]) k = (get l k).or (get [x] k) := by unfold get; rw [List.find?_append]
  rw [e, get_cons, get_nil]
  rcases get l k with _ | y <;> rfl
theorem get_rising_none {l : List Ent} {k : Int} (h : ∀ y ∈ l, y.key ≠ k) : get l k = none := by
  unfold get
  rw [List.find?_eq_none]
  intro y hy
  simp [h y hy]
theorem get_at {l : List Ent} {i : Nat} {x : Ent} {k : Int} (h : l[i]? = some x) (hk : x.key = k) (hno : ∀ y ∈ l.take i, y.key ≠ k) : get l k = some x := by
  have hi : i < l.length := (List.getElem?_eq_some_iff.1 h).1
  have e : l = l.take i ++ x :: l.drop (i + 1) := by
    have h1 : l.drop i = x :: l.drop (i + 1) := by
      rw [List.drop_eq_getElem_cons hi]
      rw [List.getElem?_eq_getElem hi] at h
      injection h with h; rw [h]
    rw [← h1, List.take_append_drop]
  rw [e]
  unfold get
  rw [List.find?_append]
  have : (l.take i).find? (fun x => x.key == k) = none := by
    rw [List.find?_eq_none]
    intro y hy
    simp [hno y hy]
  rw [this]
  simp [hk]

/-- how much there is of a table -/
def sumLen (l : List Ent) : Nat := (l.map fun x => x.val.length).sum
theorem sumLen_snoc (l : List Ent) (x : Ent) : sumLen (l ++ [x]) = sumLen l + x.val.length := by simp [sumLen]
theorem sumLen_take (l : List Ent) (k : Nat) : sumLen (l.take k) ≤ sumLen l := by
  have : sumLen l = sumLen (l.take k) + sumLen (l.drop k) := by
    conv => lhs; rw [← List.take_append_drop k l]
    simp only [sumLen, List.map_append, List.sum_append]
  omega
/-- is it a greater one than is looked at? -/
def great (l : List Ent) : Bool := decide (4000 < l.length + sumLen l)
end E
end Go.Proofs.Ytfgpncbcelafoaa
