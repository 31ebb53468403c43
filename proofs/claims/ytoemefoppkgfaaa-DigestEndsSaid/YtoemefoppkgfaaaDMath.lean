/- Plain mathematics of digests: what a view wants, and gives. -/
import Derived.Test.YtoemefoppkgfaaaVMath
namespace Go.Proofs.Ytoemefoppkgfaaa
set_option linter.unusedSimpArgs false
set_option linter.unusedVariables false

/-- a digest -/
structure Dg where
  node : Int
  gen : Int
  ver : Int
deriving DecidableEq

namespace D
def rising : List Dg → Prop
  | [] => True
  | x :: r => (∀ y ∈ r, x.node < y.node) ∧ rising r
def may (x : Dg) : Prop := 0 ≤ x.node ∧ x.node < 8 ∧ 1 ≤ x.gen ∧ x.gen ≤ 1099511627776 ∧ 0 ≤ x.ver ∧ x.ver ≤ 1099511627776
def right (l : List Dg) : Prop := (∀ x ∈ l, may x) ∧ rising l
def dg (x : Nm) : Dg := ⟨x.node, x.st.gen, S.top x.st⟩
def of (l : List Nm) : List Dg := l.map dg
def find (l : List Dg) (k : Int) : Option Dg := l.find? fun x => x.node == k
/-- what is wanted, and given, of one endpoint -/
def want (k : Int) : Option St → Option Dg → List Dg
  | none, none => []
  | none, some d => [⟨k, d.gen, 0⟩]
  | some _, none => []
  | some s, some d => if s.gen < d.gen then [⟨k, d.gen, 0⟩] else if d.gen < s.gen then [] else if S.top s < d.ver then [⟨k, s.gen, S.top s⟩] else []
def give (k : Int) : Option St → Option Dg → List Dg
  | none, _ => []
  | some s, none => [⟨k, s.gen, 0⟩]
  | some s, some d => if s.gen < d.gen then [] else if d.gen < s.gen then [⟨k, s.gen, 0⟩] else if S.top s < d.ver then [] else if d.ver < S.top s then [⟨k, s.gen, d.ver⟩] else []
def wants (v : List Nm) (l : List Dg) (n : Nat) : List Dg := (List.range n).flatMap fun k : Nat => want k (V.get v k) (find l k)
def gives (v : List Nm) (l : List Dg) (n : Nat) : List Dg := (List.range n).flatMap fun k : Nat => give k (V.get v k) (find l k)

theorem wants_succ (v : List Nm) (l : List Dg) (n : Nat) : wants v l (n + 1) = wants v l n ++ want n (V.get v n) (find l n) := by
  unfold wants; rw [List.range_succ, List.flatMap_append]; simp
theorem gives_succ (v : List Nm) (l : List Dg) (n : Nat) : gives v l (n + 1) = gives v l n ++ give n (V.get v n) (find l n) := by
  unfold gives; rw [List.range_succ, List.flatMap_append]; simp
theorem find_nil (k : Int) : find [] k = none := rfl
theorem find_cons (x : Dg) (r : List Dg) (k : Int) : find (x :: r) k = if x.node = k then some x else find r k := by
  unfold find
  rw [List.find?_cons]
  by_cases h : x.node = k
  · simp [h]
  · have hb : (x.node == k) = false := beq_eq_false_iff_ne.2 h
    rw [hb, if_neg h]
theorem find_mem {l : List Dg} {k : Int} {d : Dg} (h : find l k = some d) : d ∈ l ∧ d.node = k := by
  induction l with
  | nil => cases h
  | cons x r ih =>
    rw [find_cons] at h
    by_cases hk : x.node = k
    · rw [if_pos hk] at h
      injection h with h
      subst h
      exact ⟨List.mem_cons_self .., hk⟩
    · rw [if_neg hk] at h
      exact ⟨List.mem_cons_of_mem _ (ih h).1, (ih h).2⟩
theorem find_low {l : List Dg} {k : Int} (h : ∀ y ∈ l, k < y.node) : find l k = none := by
  unfold find
  rw [List.find?_eq_none.2]
  intro y hy
  have := h y hy
  simp; omega
theorem find_of (l : List Nm) (k : Int) : find (of l) k = (V.get l k).map fun s => ⟨k, s.gen, S.top s⟩ := by
  induction l with
  | nil => rfl
  | cons x r ih =>
    show find (dg x :: of r) k = _
    rw [find_cons, V.get_cons]
    by_cases h : x.node = k
    · rw [if_pos h, if_pos (show (dg x).node = k from h)]
      show some (dg x) = some _
      unfold dg
      rw [h]
    · rw [if_neg h, if_neg (show ¬ (dg x).node = k from h), ih]
/-- turned round -/
theorem turned (k : Int) (s t : Option St) : want k s (t.map fun x => ⟨k, x.gen, S.top x⟩) = give k t (s.map fun x => ⟨k, x.gen, S.top x⟩) := by
  rcases s with _ | s
  · rcases t with _ | t <;> rfl
  · rcases t with _ | t
    · rfl
    · simp only [want, give, Option.map_some]
      by_cases h1 : s.gen < t.gen
      · have h2 : ¬ t.gen < s.gen := by omega
        simp [h1, h2]
      · by_cases h2 : t.gen < s.gen
        · simp [h1, h2]
        · have h3 : s.gen = t.gen := by omega
          by_cases h4 : S.top s < S.top t
          · have h5 : ¬ S.top t < S.top s := by omega
            simp [h1, h2, h4, h5, h3]
          · simp [h1, h2, h4]
theorem wants_turned (a b : List Nm) (n : Nat) : wants a (of b) n = gives b (of a) n := by
  unfold wants gives
  congr 1
  funext k
  rw [find_of, find_of]
  exact turned _ _ _
theorem gives_turned (a b : List Nm) (n : Nat) : gives a (of b) n = wants b (of a) n := (wants_turned b a n).symm
theorem want_self (k : Int) (s : Option St) : want k s (s.map fun x => ⟨k, x.gen, S.top x⟩) = [] := by
  rcases s with _ | s
  · rfl
  · simp [want]
theorem give_self (k : Int) (s : Option St) : give k s (s.map fun x => ⟨k, x.gen, S.top x⟩) = [] := by
  rcases s with _ | s
  · rfl
  · simp [give]
theorem wants_self (a : List Nm) (n : Nat) : wants a (of a) n = [] := by
  induction n with
  | zero => rfl
  | succ n ih => rw [wants_succ, ih, find_of, want_self]; rfl
theorem gives_self (a : List Nm) (n : Nat) : gives a (of a) n = [] := by
  induction n with
  | zero => rfl
  | succ n ih => rw [gives_succ, ih, find_of, give_self]; rfl

/-! ### What may be -/
theorem of_rising {l : List Nm} (h : V.rising l) : rising (of l) := by
  induction l with
  | nil => trivial
  | cons x r ih =>
    refine ⟨fun y hy => ?_, ih h.2⟩
    obtain ⟨z, hz, rfl⟩ := List.mem_map.1 hy
    exact h.1 z hz
theorem of_right {l : List Nm} (h : V.right l) : right (of l) := by
  refine ⟨fun y hy => ?_, of_rising h.2⟩
  obtain ⟨z, hz, rfl⟩ := List.mem_map.1 hy
  have hm := h.1 z hz
  have hs := hm.2.2
  exact ⟨hm.1, hm.2.1, hs.1, hs.2.1, S.top_nonneg _, S.top_right hs⟩
theorem rising_snoc {l : List Dg} {z : Dg} : rising (l ++ [z]) ↔ rising l ∧ ∀ y ∈ l, y.node < z.node := by
  induction l with
  | nil => simp [rising]
  | cons x r ih =>
    rw [List.cons_append, rising, rising, ih]
    constructor
    · rintro ⟨h1, h2, h3⟩
      refine ⟨⟨fun y hy => h1 y (by simp [hy]), h2⟩, fun y hy => ?_⟩
      rcases List.mem_cons.1 hy with rfl | hy
      · exact h1 z (by simp)
      · exact h3 y hy
    · rintro ⟨⟨h1, h2⟩, h3⟩
      refine ⟨fun y hy => ?_, h2, fun y hy => h3 y (by simp [hy])⟩
      rcases List.mem_append.1 hy with hy | hy
      · exact h1 y hy
      · obtain rfl : y = z := by simpa using hy
        exact h3 x (by simp)
/-- of each endpoint one digest at most, and one that may be: the whole may be -/
theorem right_range {f : Nat → List Dg} (hf : ∀ k, k < 8 → f k = [] ∨ ∃ d, f k = [d] ∧ d.node = k ∧ may d) (n : Nat) (hn : n ≤ 8) : right ((List.range n).flatMap f) ∧ ∀ y ∈ (List.range n).flatMap f, y.node < n := by
  induction n with
  | zero => exact ⟨⟨by simp, trivial⟩, by simp⟩
  | succ n ih =>
    obtain ⟨⟨h1, h2⟩, h3⟩ := ih (by omega)
    rw [List.range_succ, List.flatMap_append]
    rcases hf n (by omega) with he | ⟨d, he, hd, hm⟩
    · have : [n].flatMap f = [] := by simp [he]
      rw [this, List.append_nil]
      exact ⟨⟨h1, h2⟩, fun y hy => by have := h3 y hy; push_cast; omega⟩
    · have : [n].flatMap f = [d] := by simp [he]
      rw [this]
      refine ⟨⟨fun y hy => ?_, rising_snoc.2 ⟨h2, fun y hy => by have := h3 y hy; omega⟩⟩, fun y hy => ?_⟩
      · rcases List.mem_append.1 hy with hy | hy
        · exact h1 y hy
        · obtain rfl : y = d := by simpa using hy
          exact hm
      · rcases List.mem_append.1 hy with hy | hy
        · have := h3 y hy; push_cast; omega
        · obtain rfl : y = d := by simpa using hy
          push_cast; omega
theorem want_one {v : List Nm} {l : List Dg} (hv : V.right v) (hl : right l) (k : Nat) (hk : k < 8) : want k (V.get v k) (find l k) = [] ∨ ∃ d, want k (V.get v k) (find l k) = [d] ∧ d.node = k ∧ may d := by
  have hs : ∀ s, V.get v k = some s → S.right s := fun s h => (hv.1 _ (V.get_mem h)).2.2
  have hd : ∀ d, find l k = some d → may d := fun d h => hl.1 d (find_mem h).1
  rcases hg : V.get v k with _ | s <;> rcases hf : find l k with _ | d
  · exact Or.inl rfl
  · have := hd d hf
    exact Or.inr ⟨_, rfl, rfl, by show 0 ≤ (k : Int); omega, by show (k : Int) < 8; omega, this.2.2.1, this.2.2.2.1, by show (0 : Int) ≤ 0; omega, by show (0 : Int) ≤ _; omega⟩
  · exact Or.inl rfl
  · have h1 := hd d hf
    have h2 := hs s hg
    have h3 := S.top_nonneg s
    have h4 := S.top_right h2
    simp only [want]
    split
    · exact Or.inr ⟨_, rfl, rfl, by show 0 ≤ (k : Int); omega, by show (k : Int) < 8; omega, h1.2.2.1, h1.2.2.2.1, by show (0 : Int) ≤ 0; omega, by show (0 : Int) ≤ _; omega⟩
    · split
      · exact Or.inl rfl
      · split
        · exact Or.inr ⟨_, rfl, rfl, by show 0 ≤ (k : Int); omega, by show (k : Int) < 8; omega, h2.1, h2.2.1, h3, h4⟩
        · exact Or.inl rfl
theorem give_one {v : List Nm} {l : List Dg} (hv : V.right v) (hl : right l) (k : Nat) (hk : k < 8) : give k (V.get v k) (find l k) = [] ∨ ∃ d, give k (V.get v k) (find l k) = [d] ∧ d.node = k ∧ may d := by
  have hs : ∀ s, V.get v k = some s → S.right s := fun s h => (hv.1 _ (V.get_mem h)).2.2
  have hd : ∀ d, find l k = some d → may d := fun d h => hl.1 d (find_mem h).1
  rcases hg : V.get v k with _ | s
  · exact Or.inl rfl
  · have h2 := hs s hg
    rcases hf : find l k with _ | d
    · exact Or.inr ⟨_, rfl, rfl, by show 0 ≤ (k : Int); omega, by show (k : Int) < 8; omega, h2.1, h2.2.1, by show (0 : Int) ≤ 0; omega, by show (0 : Int) ≤ _; omega⟩
    · have h1 := hd d hf
      simp only [give]
      split
      · exact Or.inl rfl
      · split
        · exact Or.inr ⟨_, rfl, rfl, by show 0 ≤ (k : Int); omega, by show (k : Int) < 8; omega, h2.1, h2.2.1, by show (0 : Int) ≤ 0; omega, by show (0 : Int) ≤ _; omega⟩
        · split
          · exact Or.inl rfl
          · split
            · exact Or.inr ⟨_, rfl, rfl, by show 0 ≤ (k : Int); omega, by show (k : Int) < 8; omega, h2.1, h2.2.1, h1.2.2.2.2.1, h1.2.2.2.2.2⟩
            · exact Or.inl rfl
theorem wants_right {v : List Nm} {l : List Dg} (hv : V.right v) (hl : right l) {n : Nat} (hn : n ≤ 8) : right (wants v l n) := (right_range (fun k hk => want_one hv hl k hk) n hn).1
theorem gives_right {v : List Nm} {l : List Dg} (hv : V.right v) (hl : right l) {n : Nat} (hn : n ≤ 8) : right (gives v l n) := (right_range (fun k hk => give_one hv hl k hk) n hn).1
theorem range_len {f : Nat → List Dg} (hf : ∀ k, (f k).length ≤ 1) (n : Nat) : ((List.range n).flatMap f).length ≤ n := by
  induction n with
  | zero => simp
  | succ n ih =>
    rw [List.range_succ, List.flatMap_append, List.length_append, show [n].flatMap f = f n by simp]
    have := hf n
    omega
theorem want_len (k : Int) (s : Option St) (d : Option Dg) : (want k s d).length ≤ 1 := by
  rcases s with _ | s <;> rcases d with _ | d <;> simp only [want] <;> (repeat' split) <;> simp
theorem give_len (k : Int) (s : Option St) (d : Option Dg) : (give k s d).length ≤ 1 := by
  rcases s with _ | s <;> rcases d with _ | d <;> simp only [give] <;> (repeat' split) <;> simp
theorem wants_len (v : List Nm) (l : List Dg) (n : Nat) : (wants v l n).length ≤ n := range_len (fun k => want_len _ _ _) n
theorem gives_len (v : List Nm) (l : List Dg) (n : Nat) : (gives v l n).length ≤ n := range_len (fun k => give_len _ _ _) n

/-! ### The ends: nothing known, nothing told -/
/-- a rising list of keys from lo to below n, gone through by keys, is itself -/
theorem range_find {l : List Dg} (hr : rising l) (hb : ∀ x ∈ l, 0 ≤ x.node) (n : Nat) : (List.range n).flatMap (fun k : Nat => (find l k).toList) = l.filter (fun x => decide (x.node < (n : Int))) := by
  induction n with
  | zero =>
    symm
    simp only [List.range_zero, List.flatMap_nil]
    rw [List.filter_eq_nil_iff]
    intro x hx
    have := hb x hx
    simp; omega
  | succ n ih =>
    rw [List.range_succ, List.flatMap_append, ih]
    clear ih
    simp only [List.flatMap_cons, List.flatMap_nil, List.append_nil]
    induction l with
    | nil => rfl
    | cons x r ih2 =>
      have hr2 := ih2 hr.2 (fun y hy => hb y (by simp [hy]))
      rw [List.filter_cons, List.filter_cons, find_cons]
      by_cases h1 : x.node < (n : Int)
      · have h2 : x.node < ((n + 1 : Nat) : Int) := by push_cast; omega
        have h3 : ¬ x.node = (n : Int) := by omega
        rw [if_pos (show decide (x.node < (n : Int)) = true from decide_eq_true h1), if_pos (show decide (x.node < ((n + 1 : Nat) : Int)) = true from decide_eq_true h2), if_neg h3, List.cons_append, hr2]
      · have none_lt : r.filter (fun y => decide (y.node < (n : Int))) = [] := List.filter_eq_nil_iff.2 fun y hy => by have := hr.1 y hy; simp; omega
        by_cases h3 : x.node = (n : Int)
        · have h2 : x.node < ((n + 1 : Nat) : Int) := by push_cast; omega
          have none_lt2 : r.filter (fun y => decide (y.node < ((n + 1 : Nat) : Int))) = [] := List.filter_eq_nil_iff.2 fun y hy => by have := hr.1 y hy; simp; omega
          rw [if_neg (show ¬ decide (x.node < (n : Int)) = true by simpa using h1), if_pos (show decide (x.node < ((n + 1 : Nat) : Int)) = true from decide_eq_true h2), if_pos h3, none_lt, none_lt2]; rfl
        · have h2 : ¬ x.node < ((n + 1 : Nat) : Int) := by push_cast; omega
          rw [if_neg (show ¬ decide (x.node < (n : Int)) = true from fun h => h1 (of_decide_eq_true h)), if_neg (show ¬ decide (x.node < ((n + 1 : Nat) : Int)) = true from fun h => h2 (of_decide_eq_true h)), if_neg h3, hr2]
theorem range_all {l : List Dg} (h : right l) : (List.range 8).flatMap (fun k : Nat => (find l k).toList) = l := by
  rw [range_find h.2 (fun x hx => (h.1 x hx).1)]
  exact List.filter_eq_self.2 fun x hx => by have := (h.1 x hx).2.1; simp; omega
theorem wants_none {l : List Dg} (h : right l) : wants [] l 8 = l.map fun d => ⟨d.node, d.gen, 0⟩ := by
  have h1 : wants [] l 8 = ((List.range 8).flatMap (fun k : Nat => (find l k).toList)).map fun d => (⟨d.node, d.gen, 0⟩ : Dg) := by
    unfold wants
    rw [List.map_flatMap]
    congr 1
    funext k
    rw [V.get_nil]
    rcases hf : find l k with _ | d
    · rfl
    · simp [want, (find_mem hf).2]
  rw [h1, range_all h]
theorem gives_none (l : List Dg) (n : Nat) : gives [] l n = [] := by
  induction n with
  | zero => rfl
  | succ n ih => rw [gives_succ, ih, V.get_nil]; rfl
theorem wants_told (v : List Nm) (n : Nat) : wants v [] n = [] := by
  induction n with
  | zero => rfl
  | succ n ih =>
    rw [wants_succ, ih, find_nil]
    rcases V.get v n with _ | s <;> rfl
theorem gives_told {v : List Nm} (h : V.right v) : gives v [] 8 = v.map fun x => ⟨x.node, x.st.gen, 0⟩ := by
  have h1 : gives v [] 8 = ((List.range 8).flatMap (fun k : Nat => (find (of v) k).toList)).map fun d => (⟨d.node, d.gen, 0⟩ : Dg) := by
    unfold gives
    rw [List.map_flatMap]
    congr 1
    funext k
    rw [find_nil, find_of]
    rcases V.get v k with _ | s <;> rfl
  rw [h1, range_all (of_right h)]
  unfold of
  rw [List.map_map]
  rfl
end D
end Go.Proofs.Ytoemefoppkgfaaa
