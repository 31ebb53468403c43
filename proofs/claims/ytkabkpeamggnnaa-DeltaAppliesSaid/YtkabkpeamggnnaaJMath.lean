/- EMath EMath2 TMath VMath DMath LMath (merged). -/
import Derived.Below
import GoSem.Op.String
namespace Go.Proofs.Ytkabkpeamggnnaa
set_option linter.unusedSimpArgs false

/-- an entry's parts -/
structure Ent where
  key : Int
  ver : Int
  val : List UInt8
deriving DecidableEq

namespace E

/-! ### Bytes in order -/
def lt (a b : List UInt8) : Bool := Op.bytesLess a b
theorem lt_irrefl : ∀ a, lt a a = false := by
  intro a
  unfold lt
  induction a with
  | nil => rfl
  | cons x r ih => simp [Op.bytesLess, ih]
theorem lt_trans : ∀ a b c, lt a b = true → lt b c = true → lt a c = true := by
  intro a
  unfold lt
  induction a with
  | nil => intro b c h1 h2; cases c with
    | nil => cases b <;> simp [Op.bytesLess] at h2
    | cons z t => rfl
  | cons x r ih =>
    intro b c h1 h2
    cases b with
    | nil => simp [Op.bytesLess] at h1
    | cons y s =>
      cases c with
      | nil => simp [Op.bytesLess] at h2
      | cons z t =>
        simp only [Op.bytesLess, Bool.or_eq_true, decide_eq_true_eq, Bool.and_eq_true, beq_iff_eq] at h1 h2 ⊢
        rcases h1 with h1 | ⟨rfl, h1⟩
        · rcases h2 with h2 | ⟨rfl, h2⟩
          · exact Or.inl (UInt8.lt_trans h1 h2)
          · exact Or.inl h1
        · rcases h2 with h2 | ⟨rfl, h2⟩
          · exact Or.inl h2
          · exact Or.inr ⟨rfl, ih _ _ h1 h2⟩
theorem lt_conn : ∀ a b, lt a b = false → lt b a = false → a = b := by
  intro a
  unfold lt
  induction a with
  | nil => intro b h1 h2; cases b with
    | nil => rfl
    | cons y s => simp [Op.bytesLess] at h1
  | cons x r ih =>
    intro b h1 h2
    cases b with
    | nil => simp [Op.bytesLess] at h2
    | cons y s =>
      simp only [Op.bytesLess, Bool.or_eq_false_iff, decide_eq_false_iff_not, Bool.and_eq_false_iff, beq_eq_false_iff_ne, ne_eq] at h1 h2
      have hxy : x = y := by
        have h3 := h1.1
        have h4 := h2.1
        rw [UInt8.lt_iff_toNat_lt] at h3 h4
        exact UInt8.toNat_inj.1 (by omega)
      subst hxy
      rw [ih s (by simpa using h1.2) (by simpa using h2.2)]
theorem lt_asymm (a b : List UInt8) (h : lt a b = true) : lt b a = false := by
  rcases h2 : lt b a
  · rfl
  · have := lt_trans _ _ _ h h2
    rw [lt_irrefl] at this; cases this

theorem gt_eq (a b : List UInt8) : lt b a = !(lt a b || a == b) := by
  rcases h : lt a b
  · by_cases e : a = b
    · subst e; simp [lt_irrefl]
    · have : lt b a = true := by
        rcases h2 : lt b a
        · exact absurd (lt_conn _ _ h h2) e
        · rfl
      simp [this, e]
  · simp [lt_asymm _ _ h]

/-! ### Entries in order -/
/-- above, of one key -/
def above (a b : Ent) : Bool := decide (b.ver < a.ver) || (decide (a.ver = b.ver) && lt b.val a.val)
theorem above_irrefl (a : Ent) : above a a = false := by simp [above, lt_irrefl]
theorem above_iff (a b : Ent) : above a b = true ↔ b.ver < a.ver ∨ a.ver = b.ver ∧ lt b.val a.val = true := by simp [above]
theorem above_trans {a b c : Ent} (h1 : above a b = true) (h2 : above b c = true) : above a c = true := by
  rw [above_iff] at *
  rcases h1 with h1 | ⟨e1, h1⟩
  · rcases h2 with h2 | ⟨e2, h2⟩
    · left; omega
    · left; omega
  · rcases h2 with h2 | ⟨e2, h2⟩
    · left; omega
    · right; exact ⟨by omega, lt_trans _ _ _ h2 h1⟩
theorem above_asymm {a b : Ent} (h : above a b = true) : above b a = false := by
  rcases h2 : above b a
  · rfl
  · have := above_trans h h2
    rw [above_irrefl] at this; cases this
theorem above_conn {a b : Ent} (hk : a.key = b.key) (h1 : above a b = false) (h2 : above b a = false) : a = b := by
  obtain ⟨k, v, x⟩ := a
  obtain ⟨k', v', x'⟩ := b
  have e1 : ¬ (v' < v ∨ v = v' ∧ lt x' x = true) := fun h => by rw [(above_iff _ _).2 h] at h1; cases h1
  have e2 : ¬ (v < v' ∨ v' = v ∧ lt x x' = true) := fun h => by rw [(above_iff _ _).2 h] at h2; cases h2
  have ev : v = v' := by omega
  subst ev
  have l1 : lt x' x = false := by
    rcases h : lt x' x
    · rfl
    · exact absurd (Or.inr ⟨rfl, h⟩) e1
  have l2 : lt x x' = false := by
    rcases h : lt x x'
    · rfl
    · exact absurd (Or.inr ⟨rfl, h⟩) e2
  have := lt_conn _ _ l2 l1
  subst this
  have : k = k' := hk
  subst this
  rfl

/-! ### Tables -/
def may (x : Ent) : Prop := 0 ≤ x.key ∧ x.key < 12 ∧ 1 ≤ x.ver ∧ x.ver ≤ 1099511627776 ∧ x.val.length ≤ 200
instance (x : Ent) : Decidable (may x) := by unfold may; exact inferInstance
def rising : List Ent → Prop
  | [] => True
  | x :: r => (∀ y ∈ r, x.key < y.key) ∧ rising r
def right (l : List Ent) : Prop := (∀ x ∈ l, may x) ∧ rising l
def get (l : List Ent) (k : Int) : Option Ent := l.find? fun x => x.key == k
def put : List Ent → Ent → List Ent
  | [], x => [x]
  | y :: r, x => if y.key < x.key then y :: put r x else if y.key = x.key then x :: r else x :: y :: r
/-- the better one of two of one key -/
def best : Option Ent → Option Ent → Option Ent
  | none, y => y
  | some x, none => some x
  | some x, some y => if above y x then some y else some x
def step (l : List Ent) (y : Ent) : List Ent :=
  match get l y.key with
  | none => put l y
  | some x => if above y x then put l y else l
def join (a b : List Ent) : List Ent := b.foldl step a
def over (a b : List Ent) : Prop := join a b = a
def aboves (l : List Ent) (v : Int) : List Ent := l.filter fun x => decide (v < x.ver)
def top (l : List Ent) : Int := l.foldl (fun n x => max n x.ver) 0

theorem get_nil (k : Int) : get [] k = none := rfl
theorem get_cons (x : Ent) (r : List Ent) (k : Int) : get (x :: r) k = if x.key = k then some x else get r k := by
  unfold get
  rw [List.find?_cons]
  by_cases h : x.key = k
  · simp [h]
  · have hb : (x.key == k) = false := beq_eq_false_iff_ne.2 h
    rw [hb, if_neg h]
theorem get_key {l : List Ent} {k : Int} {x : Ent} (h : get l k = some x) : x.key = k ∧ x ∈ l := by
  unfold get at h
  exact ⟨by simpa using List.find?_some h, List.mem_of_find?_eq_some h⟩
theorem get_low {l : List Ent} {k : Int} (h : ∀ y ∈ l, k < y.key) : get l k = none := by
  unfold get
  rw [List.find?_eq_none]
  intro y hy
  have := h y hy
  simp; omega
/-- tables that may be are the same if they hold the same -/
theorem rising_ext : ∀ {l m : List Ent}, rising l → rising m → (∀ k, get l k = get m k) → l = m := by
  intro l
  induction l with
  | nil =>
    intro m _ hm h
    cases m with
    | nil => rfl
    | cons y s =>
      have := h y.key
      rw [get_cons, if_pos rfl] at this
      cases this
  | cons x r ih =>
    intro m hl hm h
    cases m with
    | nil =>
      have := h x.key
      rw [get_cons, if_pos rfl] at this
      cases this
    | cons y s =>
      have h1 := h x.key
      have h2 := h y.key
      rw [get_cons, get_cons, if_pos rfl] at h1
      rw [get_cons, get_cons, if_pos rfl] at h2
      have hxy : x = y := by
        by_cases hk : y.key = x.key
        · rw [if_pos hk] at h1; injection h1
        · rw [if_neg hk] at h1
          rw [if_neg (fun e => hk e.symm)] at h2
          have a1 := (get_key h1.symm).2
          have a2 := (get_key h2).2
          have b1 := hm.1 _ a1
          have b2 := hl.1 _ a2
          omega
      subst hxy
      rw [ih hl.2 hm.2]
      intro k
      have := h k
      rw [get_cons, get_cons] at this
      by_cases hk : x.key = k
      · subst hk
        rw [get_low hl.1, get_low hm.1]
      · rwa [if_neg hk, if_neg hk] at this
theorem put_mem {l : List Ent} {x y : Ent} (h : y ∈ put l x) : y = x ∨ y ∈ l := by
  induction l with
  | nil => simp [put] at h; exact Or.inl h
  | cons z r ih =>
    simp only [put] at h
    split at h
    · rcases List.mem_cons.1 h with rfl | h
      · simp
      · rcases ih h with h | h
        · exact Or.inl h
        · exact Or.inr (List.mem_cons_of_mem _ h)
    · split at h
      · rcases List.mem_cons.1 h with rfl | h
        · exact Or.inl rfl
        · exact Or.inr (List.mem_cons_of_mem _ h)
      · rcases List.mem_cons.1 h with rfl | h
        · exact Or.inl rfl
        · exact Or.inr h
theorem put_rising {l : List Ent} (h : rising l) (x : Ent) : rising (put l x) := by
  induction l with
  | nil => simp [put, rising]
  | cons z r ih =>
    simp only [put]
    split
    · rename_i hlt
      refine ⟨fun y hy => ?_, ih h.2⟩
      rcases put_mem hy with rfl | hy
      · exact hlt
      · exact h.1 y hy
    · split
      · rename_i _ he
        exact ⟨fun y hy => by have := h.1 y hy; omega, h.2⟩
      · refine ⟨fun y hy => ?_, h⟩
        rcases List.mem_cons.1 hy with rfl | hy
        · omega
        · have := h.1 y hy; omega
theorem put_right {l : List Ent} (h : right l) {x : Ent} (hx : may x) : right (put l x) := by
  refine ⟨fun y hy => ?_, put_rising h.2 x⟩
  rcases put_mem hy with rfl | hy
  · exact hx
  · exact h.1 y hy
theorem get_put {l : List Ent} (h : rising l) (x : Ent) (k : Int) : get (put l x) k = if x.key = k then some x else get l k := by
  induction l with
  | nil => simp only [put]; rw [get_cons, get_nil]
  | cons z r ih =>
    simp only [put]
    split
    · rename_i hlt
      rw [get_cons, get_cons, ih h.2]
      by_cases hz : z.key = k
      · rw [if_pos hz, if_pos hz, if_neg (by omega)]
      · rw [if_neg hz, if_neg hz]
    · split
      · rename_i _ he
        rw [get_cons, get_cons]
        by_cases hx : x.key = k
        · rw [if_pos hx, if_pos hx]
        · rw [if_neg hx, if_neg hx, if_neg (by omega)]
      · rw [get_cons]
theorem step_rising {l : List Ent} (h : rising l) (y : Ent) : rising (step l y) := by
  unfold step
  split
  · exact put_rising h y
  · split
    · exact put_rising h y
    · exact h
theorem step_right {l : List Ent} (h : right l) {y : Ent} (hy : may y) : right (step l y) := by
  unfold step
  split
  · exact put_right h hy
  · split
    · exact put_right h hy
    · exact h
theorem get_step {l : List Ent} (h : rising l) (y : Ent) (k : Int) : get (step l y) k = if y.key = k then best (get l k) (some y) else get l k := by
  unfold step
  by_cases hk : y.key = k
  · subst hk
    rw [if_pos rfl]
    rcases hg : get l y.key with _ | x
    · dsimp only
      rw [get_put h, if_pos rfl]; rfl
    · dsimp only [best]
      split
      · rw [get_put h, if_pos rfl]
      · exact hg
  · rw [if_neg hk]
    split
    · rw [get_put h, if_neg hk]
    · split
      · rw [get_put h, if_neg hk]
      · rfl
theorem best_none (x : Option Ent) : best x none = x := by cases x <;> rfl
theorem join_rising {a : List Ent} (ha : rising a) (b : List Ent) : rising (join a b) := by
  unfold join
  induction b generalizing a with
  | nil => exact ha
  | cons y s ih => exact ih (step_rising ha y)
theorem join_right {a b : List Ent} (ha : right a) (hb : right b) : right (join a b) := by
  replace hb := hb.1
  unfold join
  induction b generalizing a with
  | nil => exact ha
  | cons y s ih => exact ih (step_right ha (hb y (by simp))) (fun z hz => hb z (by simp [hz]))
theorem get_join {a b : List Ent} (ha : rising a) (hb : rising b) (k : Int) : get (join a b) k = best (get a k) (get b k) := by
  unfold join
  induction b generalizing a with
  | nil => rw [get_nil, best_none]; rfl
  | cons y s ih =>
    rw [List.foldl_cons, ih (step_rising ha y) hb.2, get_step ha, get_cons]
    by_cases hk : y.key = k
    · subst hk
      rw [if_pos rfl, if_pos rfl, get_low hb.1, best_none]
    · rw [if_neg hk, if_neg hk]

/-! ### The lattice -/
/-- entries of one key, if any -/
def alike (x y : Option Ent) : Prop := ∀ a b, x = some a → y = some b → a.key = b.key
theorem alike_get (a b : List Ent) (k : Int) : alike (get a k) (get b k) := fun x y hx hy => by rw [(get_key hx).1, (get_key hy).1]
theorem best_comm {x y : Option Ent} (h : alike x y) : best x y = best y x := by
  rcases x with _ | x
  · rw [best_none]; rfl
  · rcases y with _ | y
    · rfl
    · have hk := h x y rfl rfl
      simp only [best]
      rcases h1 : above y x
      · rcases h2 : above x y
        · simp [above_conn hk h2 h1]
        · simp
      · rw [above_asymm h1]; simp
theorem best_self (x : Option Ent) : best x x = x := by
  rcases x with _ | x
  · rfl
  · simp [best]
theorem best_assoc {x y z : Option Ent} (h1 : alike x y) (h2 : alike y z) : best (best x y) z = best x (best y z) := by
  rcases x with _ | x
  · rfl
  · rcases y with _ | y
    · rfl
    · rcases z with _ | z
      · rw [best_none, best_none]
      · have k1 := h1 x y rfl rfl
        have k2 := h2 y z rfl rfl
        simp only [best]
        rcases a1 : above y x
        · rcases a2 : above z y
          · simp only [Bool.false_eq_true, if_false, best, a1]
            rcases a3 : above z x
            · rfl
            · -- z above x, y not above x, z not above y: y = x or x above y
              exfalso
              rcases a4 : above x y
              · have := above_conn k1 a4 a1
                subst this
                rw [a3] at a2; cases a2
              · rw [above_trans a3 a4] at a2; cases a2
          · simp only [Bool.false_eq_true, if_false, if_true, best]
        · rcases a2 : above z y
          · simp only [Bool.false_eq_true, if_false, if_true, best, a1, a2]
          · simp only [if_true, best, a2, above_trans a2 a1]
theorem join_comm {a b : List Ent} (ha : rising a) (hb : rising b) : join a b = join b a :=
  rising_ext (join_rising ha b) (join_rising hb a) fun k => by rw [get_join ha hb, get_join hb ha, best_comm (alike_get a b k)]
theorem join_assoc {a b c : List Ent} (ha : rising a) (hb : rising b) (hc : rising c) : join (join a b) c = join a (join b c) :=
  rising_ext (join_rising (join_rising ha b) c) (join_rising ha _) fun k => by
    rw [get_join (join_rising ha b) hc, get_join ha hb, get_join ha (join_rising hb c), get_join hb hc, best_assoc (alike_get a b k) (alike_get b c k)]
theorem join_self {a : List Ent} (ha : rising a) : join a a = a :=
  rising_ext (join_rising ha a) ha fun k => by rw [get_join ha ha, best_self]
/-! ### The greatest version -/
theorem fold_ge (l : List Ent) (n : Int) : n ≤ l.foldl (fun n x => max n x.ver) n := by
  induction l generalizing n with
  | nil => exact Int.le_refl _
  | cons x r ih => exact Int.le_trans (Int.le_max_left _ _) (ih _)
theorem fold_le {l : List Ent} {m : Int} (h : ∀ x ∈ l, x.ver ≤ m) {n : Int} (hn : n ≤ m) : l.foldl (fun n x => max n x.ver) n ≤ m := by
  induction l generalizing n with
  | nil => exact hn
  | cons y r ih => exact ih (fun x hx => h x (by simp [hx])) (Int.max_le.2 ⟨hn, h y (by simp)⟩)
theorem top_nonneg (l : List Ent) : 0 ≤ top l := fold_ge l 0
theorem top_le {l : List Ent} {m : Int} (h0 : 0 ≤ m) (h : ∀ x ∈ l, x.ver ≤ m) : top l ≤ m := fold_le h h0
end E
end Go.Proofs.Ytkabkpeamggnnaa

namespace Go.Proofs.Ytkabkpeamggnnaa
namespace E

theorem rising_snoc {l : List Ent} {z : Ent} : rising (l ++ [z]) ↔ rising l ∧ ∀ y ∈ l, y.key < z.key := by
  induction l with
  | nil => simp [rising]
  | cons x r ih =>
    rw [List.cons_append, rising, rising, ih]
    constructor
    · rintro ⟨h1, h2, h3⟩
      refine ⟨⟨fun y hy => h1 y (by simp [hy]), h2⟩, fun y hy => ?_⟩
      rcases List.mem_cons.1 hy with rfl | hy
      · exact h1 z (by simp)
      · exact h3 y hy
    · rintro ⟨⟨h1, h2⟩, h3⟩
      refine ⟨fun y hy => ?_, h2, fun y hy => h3 y (by simp [hy])⟩
      rcases List.mem_append.1 hy with hy | hy
      · exact h1 y hy
      · obtain rfl : y = z := by simpa using hy
        exact h3 x (by simp)
theorem rising_take {l : List Ent} (h : rising l) (k : Nat) : rising (l.take k) := by
  induction l generalizing k with
  | nil => simp [rising]
  | cons x r ih =>
    cases k with
    | zero => simp [rising]
    | succ k =>
      rw [List.take_succ_cons]
      exact ⟨fun y hy => h.1 y (List.mem_of_mem_take hy), ih h.2 k⟩
theorem rising_at {l : List Ent} (h : rising l) {i j : Nat} {x y : Ent} (hij : i < j) (hx : l[i]? = some x) (hy : l[j]? = some y) : x.key < y.key := by
  induction l generalizing i j with
  | nil => simp at hx
  | cons z r ih =>
    cases j with
    | zero => omega
    | succ j =>
      rw [List.getElem?_cons_succ] at hy
      cases i with
      | zero =>
        obtain rfl : z = x := by simpa using hx
        exact h.1 y (List.mem_of_getElem? hy)
      | succ i =>
        rw [List.getElem?_cons_succ] at hx
        exact ih h.2 (by omega) hx hy
theorem put_lt {l : List Ent} {x : Ent} (h : ∀ y ∈ l, y.key < x.key) : put l x = l ++ [x] := by
  induction l with
  | nil => rfl
  | cons z r ih =>
    simp only [put]
    rw [if_pos (h z (by simp)), ih (fun y hy => h y (by simp [hy]))]; rfl
theorem put_at {l : List Ent} {x z : Ent} (h : ∀ y ∈ l, y.key < x.key) (r : List Ent) (hz : x.key ≤ z.key) : put (l ++ z :: r) x = l ++ (if z.key = x.key then x :: r else x :: z :: r) := by
  induction l with
  | nil =>
    simp only [List.nil_append, put]
    rw [if_neg (by omega)]
  | cons y s ih =>
    simp only [List.cons_append, put]
    rw [if_pos (h y (by simp)), ih (fun w hw => h w (by simp [hw]))]
theorem put_snoc {l : List Ent} {x z : Ent} (h : ∃ y ∈ l, x.key ≤ y.key) : put (l ++ [z]) x = put l x ++ [z] := by
  induction l with
  | nil => obtain ⟨y, hy, _⟩ := h; cases hy
  | cons w s ih =>
    simp only [List.cons_append, put]
    split
    · rename_i hlt
      rw [List.cons_append, ih]
      obtain ⟨y, hy, h2⟩ := h
      rcases List.mem_cons.1 hy with rfl | hy
      · omega
      · exact ⟨y, hy, h2⟩
    · split <;> rfl
theorem put_length (l : List Ent) (x : Ent) : (put l x).length ≤ l.length + 1 := by
  induction l with
  | nil => simp [put]
  | cons z r ih =>
    simp only [put]
    split
    · simp only [List.length_cons]; omega
    · split <;> simp only [List.length_cons] <;> omega
theorem step_length (l : List Ent) (x : Ent) : (step l x).length ≤ l.length + 1 := by
  unfold step
  split
  · exact put_length l x
  · split
    · exact put_length l x
    · omega
theorem join_length (a b : List Ent) : (join a b).length ≤ a.length + b.length := by
  unfold join
  induction b generalizing a with
  | nil => simp
  | cons y s ih =>
    have h1 := ih (step a y)
    have h2 := step_length a y
    simp only [List.foldl_cons, List.length_cons]
    omega
theorem join_snoc (a b : List Ent) (y : Ent) : join a (b ++ [y]) = step (join a b) y := by simp [join]
theorem aboves_snoc (l : List Ent) (x : Ent) (v : Int) : aboves (l ++ [x]) v = if v < x.ver then aboves l v ++ [x] else aboves l v := by
  unfold aboves
  rw [List.filter_append]
  by_cases h : v < x.ver <;> simp [h]
theorem top_snoc (l : List Ent) (x : Ent) : top (l ++ [x]) = max (top l) x.ver := by simp [top]
theorem get_rising_none {l : List Ent} {k : Int} (h : ∀ y ∈ l, y.key ≠ k) : get l k = none := by
  unfold get
  rw [List.find?_eq_none]
  intro y hy
  simp [h y hy]
theorem get_at {l : List Ent} {i : Nat} {x : Ent} {k : Int} (h : l[i]? = some x) (hk : x.key = k) (hno : ∀ y ∈ l.take i, y.key ≠ k) : get l k = some x := by
  have hi : i < l.length := (List.getElem?_eq_some_iff.1 h).1
  have e : l = l.take i ++ x :: l.drop (i + 1) := by
    have h1 : l.drop i = x :: l.drop (i + 1) := by
      rw [List.drop_eq_getElem_cons hi]
      rw [List.getElem?_eq_getElem hi] at h
      injection h with h; rw [h]
    rw [← h1, List.take_append_drop]
  rw [e]
  unfold get
  rw [List.find?_append]
  have : (l.take i).find? (fun x => x.key == k) = none := by
    rw [List.find?_eq_none]
    intro y hy
    simp [hno y hy]
  rw [this]
  simp [hk]

/-- how much there is of a table -/
def sumLen (l : List Ent) : Nat := (l.map fun x => x.val.length).sum
theorem sumLen_snoc (l : List Ent) (x : Ent) : sumLen (l ++ [x]) = sumLen l + x.val.length := by simp [sumLen]
theorem sumLen_take (l : List Ent) (k : Nat) : sumLen (l.take k) ≤ sumLen l := by
  have : sumLen l = sumLen (l.take k) + sumLen (l.drop k) := by
    conv => lhs; rw [← List.take_append_drop k l]
    simp only [sumLen, List.map_append, List.sum_append]
  omega
/-- is it a greater one than is looked at? -/
def great (l : List Ent) : Bool := decide (4000 < l.length + sumLen l)
end E
end Go.Proofs.Ytkabkpeamggnnaa

namespace Go.Proofs.Ytkabkpeamggnnaa
set_option linter.unusedSimpArgs false

/-- a state's parts -/
structure St where
  gen : Int
  beat : Int
  apps : List Ent
deriving DecidableEq

namespace S
def right (s : St) : Prop := 1 ≤ s.gen ∧ s.gen ≤ 1099511627776 ∧ 0 ≤ s.beat ∧ s.beat ≤ 1099511627776 ∧ E.right s.apps
def top (s : St) : Int := max s.beat (E.top s.apps)
def join (a b : St) : St := if b.gen < a.gen then a else if a.gen < b.gen then b else ⟨a.gen, max a.beat b.beat, E.join a.apps b.apps⟩
def over (a b : St) : Prop := join a b = a
def above (s : St) (v : Int) : St := ⟨s.gen, s.beat, E.aboves s.apps v⟩
/-- its table is of rising keys -/
def rise (s : St) : Prop := E.rising s.apps

theorem St.ext {a b : St} (h1 : a.gen = b.gen) (h2 : a.beat = b.beat) (h3 : a.apps = b.apps) : a = b := by
  obtain ⟨g, t, l⟩ := a
  obtain ⟨g', t', l'⟩ := b
  simp only at h1 h2 h3
  rw [h1, h2, h3]
theorem join_gt {a b : St} (h : b.gen < a.gen) : join a b = a := by unfold join; rw [if_pos h]
theorem join_lt {a b : St} (h : a.gen < b.gen) : join a b = b := by unfold join; rw [if_neg (by omega), if_pos h]
theorem join_eq {a b : St} (h : a.gen = b.gen) : join a b = ⟨a.gen, max a.beat b.beat, E.join a.apps b.apps⟩ := by unfold join; rw [if_neg (by omega), if_neg (by omega)]
theorem join_gen (a b : St) : (join a b).gen = max a.gen b.gen := by
  rcases Int.lt_trichotomy a.gen b.gen with h | h | h
  · rw [join_lt h]; omega
  · rw [join_eq h]; show a.gen = _; omega
  · rw [join_gt h]; omega
theorem join_right {a b : St} (ha : right a) (hb : right b) : right (join a b) := by
  rcases Int.lt_trichotomy a.gen b.gen with h | h | h
  · rw [join_lt h]; exact hb
  · rw [join_eq h]
    obtain ⟨h1, h2, h3, h4, h5⟩ := ha
    obtain ⟨g1, g2, g3, g4, g5⟩ := hb
    exact ⟨h1, h2, by show 0 ≤ max a.beat b.beat; omega, by show max a.beat b.beat ≤ _; omega, E.join_right h5 g5⟩
  · rw [join_gt h]; exact ha
theorem right_rise {a : St} (h : right a) : rise a := h.2.2.2.2.2
theorem join_comm {a b : St} (ha : rise a) (hb : rise b) : join a b = join b a := by
  rcases Int.lt_trichotomy a.gen b.gen with h | h | h
  · rw [join_lt h, join_gt h]
  · rw [join_eq h, join_eq h.symm, E.join_comm ha hb, h, Int.max_comm]
  · rw [join_gt h, join_lt h]
theorem join_self {a : St} (ha : rise a) : join a a = a := by
  rw [join_eq rfl, E.join_self ha]
  exact St.ext rfl (by show max a.beat a.beat = _; omega) rfl
theorem join_assoc {a b c : St} (ha : rise a) (hb : rise b) (hc : rise c) : join (join a b) c = join a (join b c) := by
  rcases Int.lt_trichotomy a.gen b.gen with h | h | h
  · rw [join_lt h, join_lt (show a.gen < (join b c).gen by rw [join_gen]; omega)]
  · rcases Int.lt_trichotomy b.gen c.gen with k | k | k
    · rw [join_lt k, join_lt (show (join a b).gen < c.gen by rw [join_gen]; omega), join_lt (show a.gen < c.gen by omega)]
    · have e1 : (join a b).gen = c.gen := by rw [join_gen]; omega
      have e2 : a.gen = (join b c).gen := by rw [join_gen]; omega
      rw [join_eq e1, join_eq e2, join_eq h, join_eq k]
      exact St.ext rfl (by show max (max a.beat b.beat) c.beat = max a.beat (max b.beat c.beat); omega) (E.join_assoc ha hb hc)
    · rw [join_gt k, join_gt (show c.gen < (join a b).gen by rw [join_gen]; omega)]
  · rw [join_gt h]
    rcases Int.lt_trichotomy a.gen c.gen with k | k | k
    · rw [join_lt k, join_lt (show b.gen < c.gen by omega), join_lt k]
    · rw [join_lt (show b.gen < c.gen by omega)]
    · rw [join_gt k, join_gt (show (join b c).gen < a.gen by rw [join_gen]; omega)]
/-! ### Tops -/
theorem top_nonneg (s : St) : 0 ≤ top s := by have := E.top_nonneg s.apps; unfold top; omega
theorem top_right {s : St} (h : right s) : top s ≤ 1099511627776 := by
  have := E.top_le (l := s.apps) (m := 1099511627776) (by omega) (fun x hx => (h.2.2.2.2.1 x hx).2.2.2.1)
  have := h.2.2.2.1
  unfold top
  omega
/-! ### What is set, what beats -/
def put (s : St) (x : Ent) : St := ⟨s.gen, s.beat, E.put s.apps x⟩
theorem put_right {s : St} (h : right s) {x : Ent} (hx : E.may x) : right (put s x) := ⟨h.1, h.2.1, h.2.2.1, h.2.2.2.1, E.put_right h.2.2.2.2 hx⟩
/-! ### Parts -/
theorem filter_rising {l : List Ent} (h : E.rising l) (p : Ent → Bool) : E.rising (l.filter p) := by
  induction l with
  | nil => exact h
  | cons x r ih =>
    rw [List.filter_cons]
    split
    · exact ⟨fun y hy => h.1 y (List.mem_filter.1 hy).1, ih h.2⟩
    · exact ih h.2
theorem get_filter {l : List Ent} (h : E.rising l) (p : Ent → Bool) (k : Int) : E.get (l.filter p) k = match E.get l k with | some x => if p x then some x else none | none => none := by
  induction l with
  | nil => rfl
  | cons x r ih =>
    rw [List.filter_cons, E.get_cons]
    by_cases hk : x.key = k
    · rw [if_pos hk]
      by_cases hp : p x
      · rw [if_pos hp, E.get_cons, if_pos hk]; simp [hp]
      · rw [if_neg hp]
        simp only [hp]
        rw [ih h.2, E.get_low (fun y hy => by have := h.1 y hy; omega)]
        rfl
    · rw [if_neg hk]
      by_cases hp : p x
      · rw [if_pos hp, E.get_cons, if_neg hk, ih h.2]
      · rw [if_neg hp, ih h.2]
end S
end Go.Proofs.Ytkabkpeamggnnaa

namespace Go.Proofs.Ytkabkpeamggnnaa
set_option linter.unusedSimpArgs false

/-- an endpoint's state -/
structure Nm where
  node : Int
  st : St
deriving DecidableEq

namespace V
def rising : List Nm → Prop
  | [] => True
  | x :: r => (∀ y ∈ r, x.node < y.node) ∧ rising r
/-- every state's table is of rising keys -/
def fine (l : List Nm) : Prop := ∀ x ∈ l, S.rise x.st
def may (x : Nm) : Prop := 0 ≤ x.node ∧ x.node < 8 ∧ S.right x.st
def right (l : List Nm) : Prop := (∀ x ∈ l, may x) ∧ rising l
def get (l : List Nm) (k : Int) : Option St := (l.find? fun x => x.node == k).map Nm.st
def without (l : List Nm) (k : Int) : List Nm := l.filter fun x => !(x.node == k)
def put : List Nm → Int → St → List Nm
  | [], k, s => [⟨k, s⟩]
  | y :: r, k, s => if y.node < k then y :: put r k s else if y.node = k then ⟨k, s⟩ :: r else ⟨k, s⟩ :: y :: r
def comb : Option St → Option St → Option St
  | none, y => y
  | some x, none => some x
  | some x, some y => some (S.join x y)
def step (l : List Nm) (y : Nm) : List Nm :=
  match get l y.node with
  | none => put l y.node y.st
  | some x => put l y.node (S.join x y.st)
def join (a b : List Nm) : List Nm := b.foldl step a
def over (a b : List Nm) : Prop := join a b = a
theorem get_nil (k : Int) : get [] k = none := rfl
theorem get_cons (x : Nm) (r : List Nm) (k : Int) : get (x :: r) k = if x.node = k then some x.st else get r k := by
  unfold get
  rw [List.find?_cons]
  by_cases h : x.node = k
  · simp [h]
  · have hb : (x.node == k) = false := beq_eq_false_iff_ne.2 h
    rw [hb, if_neg h]
theorem get_mem {l : List Nm} {k : Int} {s : St} (h : get l k = some s) : ⟨k, s⟩ ∈ l := by
  induction l with
  | nil => cases h
  | cons x r ih =>
    rw [get_cons] at h
    by_cases hk : x.node = k
    · rw [if_pos hk] at h
      injection h with h
      obtain ⟨n, t⟩ := x
      simp only at hk h
      subst hk h
      exact List.mem_cons_self ..
    · rw [if_neg hk] at h
      exact List.mem_cons_of_mem _ (ih h)
theorem get_low {l : List Nm} {k : Int} (h : ∀ y ∈ l, k < y.node) : get l k = none := by
  unfold get
  rw [List.find?_eq_none.2]
  · rfl
  · intro y hy
    have := h y hy
    simp; omega
theorem rising_ext : ∀ {l m : List Nm}, rising l → rising m → (∀ k, get l k = get m k) → l = m := by
  intro l
  induction l with
  | nil =>
    intro m _ hm h
    cases m with
    | nil => rfl
    | cons y s =>
      have := h y.node
      rw [get_cons, if_pos rfl] at this
      cases this
  | cons x r ih =>
    intro m hl hm h
    cases m with
    | nil =>
      have := h x.node
      rw [get_cons, if_pos rfl] at this
      cases this
    | cons y s =>
      have h1 := h x.node
      have h2 := h y.node
      rw [get_cons, get_cons, if_pos rfl] at h1
      rw [get_cons, get_cons, if_pos rfl] at h2
      have hxy : x = y := by
        by_cases hk : y.node = x.node
        · rw [if_pos hk] at h1
          injection h1 with h1
          obtain ⟨a, b⟩ := x
          obtain ⟨c, d⟩ := y
          simp only at hk h1
          rw [hk, h1]
        · rw [if_neg hk] at h1
          rw [if_neg (fun e => hk e.symm)] at h2
          have a1 := hm.1 _ (get_mem h1.symm)
          have a2 := hl.1 _ (get_mem h2)
          simp only at a1 a2
          omega
      subst hxy
      rw [ih hl.2 hm.2]
      intro k
      have := h k
      rw [get_cons, get_cons] at this
      by_cases hk : x.node = k
      · subst hk
        rw [get_low hl.1, get_low hm.1]
      · rwa [if_neg hk, if_neg hk] at this
theorem put_mem {l : List Nm} {k : Int} {s : St} {y : Nm} (h : y ∈ put l k s) : y = ⟨k, s⟩ ∨ y ∈ l := by
  induction l with
  | nil => simp [put] at h; exact Or.inl h
  | cons z r ih =>
    simp only [put] at h
    split at h
    · rcases List.mem_cons.1 h with rfl | h
      · simp
      · rcases ih h with h | h
        · exact Or.inl h
        · exact Or.inr (List.mem_cons_of_mem _ h)
    · split at h
      · rcases List.mem_cons.1 h with rfl | h
        · exact Or.inl rfl
        · exact Or.inr (List.mem_cons_of_mem _ h)
      · rcases List.mem_cons.1 h with rfl | h
        · exact Or.inl rfl
        · exact Or.inr h
theorem put_rising {l : List Nm} (h : rising l) (k : Int) (s : St) : rising (put l k s) := by
  induction l with
  | nil => simp [put, rising]
  | cons z r ih =>
    simp only [put]
    split
    · rename_i hlt
      refine ⟨fun y hy => ?_, ih h.2⟩
      rcases put_mem hy with rfl | hy
      · exact hlt
      · exact h.1 y hy
    · split
      · rename_i _ he
        exact ⟨fun y hy => by have := h.1 y hy; simp only; omega, h.2⟩
      · refine ⟨fun y hy => ?_, h⟩
        rcases List.mem_cons.1 hy with rfl | hy
        · simp only; omega
        · have := h.1 y hy; simp only; omega
theorem put_right {l : List Nm} (h : right l) {k : Int} {s : St} (hs : may ⟨k, s⟩) : right (put l k s) := by
  refine ⟨fun y hy => ?_, put_rising h.2 k s⟩
  rcases put_mem hy with rfl | hy
  · exact hs
  · exact h.1 y hy
theorem get_put {l : List Nm} (h : rising l) (n : Int) (s : St) (k : Int) : get (put l n s) k = if n = k then some s else get l k := by
  induction l with
  | nil => simp only [put]; rw [get_cons, get_nil]
  | cons z r ih =>
    simp only [put]
    split
    · rename_i hlt
      rw [get_cons, get_cons, ih h.2]
      by_cases hz : z.node = k
      · rw [if_pos hz, if_pos hz, if_neg (by omega)]
      · rw [if_neg hz, if_neg hz]
    · split
      · rename_i _ he
        rw [get_cons, get_cons]
        by_cases hx : n = k
        · rw [if_pos hx, if_pos hx]
        · rw [if_neg hx, if_neg hx, if_neg (by omega)]
      · rw [get_cons]
theorem right_fine {l : List Nm} (h : right l) : fine l := fun x hx => S.right_rise (h.1 x hx).2.2
theorem get_fine {l : List Nm} (h : fine l) {k : Int} {s : St} (hg : get l k = some s) : S.rise s := h _ (get_mem hg)
theorem step_rising {l : List Nm} (h : rising l) (y : Nm) : rising (step l y) := by
  unfold step
  split <;> exact put_rising h _ _
theorem step_right {l : List Nm} (h : right l) {y : Nm} (hy : may y) : right (step l y) := by
  unfold step
  split
  · exact put_right h hy
  · rename_i x hx
    have := h.1 _ (get_mem hx)
    exact put_right h ⟨hy.1, hy.2.1, S.join_right this.2.2 hy.2.2⟩
theorem get_step {l : List Nm} (h : rising l) (y : Nm) (k : Int) : get (step l y) k = if y.node = k then comb (get l k) (some y.st) else get l k := by
  unfold step
  by_cases hk : y.node = k
  · subst hk
    rw [if_pos rfl]
    rcases hg : get l y.node with _ | x
    · dsimp only
      rw [get_put h, if_pos rfl]; rfl
    · dsimp only [comb]
      rw [get_put h, if_pos rfl]
  · rw [if_neg hk]
    split <;> rw [get_put h, if_neg hk]
theorem comb_none (x : Option St) : comb x none = x := by cases x <;> rfl
theorem join_rising {a : List Nm} (ha : rising a) (b : List Nm) : rising (join a b) := by
  unfold join
  induction b generalizing a with
  | nil => exact ha
  | cons y s ih => exact ih (step_rising ha y)
theorem join_right {a b : List Nm} (ha : right a) (hb : right b) : right (join a b) := by
  replace hb := hb.1
  unfold join
  induction b generalizing a with
  | nil => exact ha
  | cons y s ih => exact ih (step_right ha (hb y (by simp))) (fun z hz => hb z (by simp [hz]))
theorem get_join {a b : List Nm} (ha : rising a) (hb : rising b) (k : Int) : get (join a b) k = comb (get a k) (get b k) := by
  unfold join
  induction b generalizing a with
  | nil => rw [get_nil, comb_none]; rfl
  | cons y s ih =>
    rw [List.foldl_cons, ih (step_rising ha y) hb.2, get_step ha, get_cons]
    by_cases hk : y.node = k
    · subst hk
      rw [if_pos rfl, if_pos rfl, get_low hb.1, comb_none]
    · rw [if_neg hk, if_neg hk]

/-! ### The lattice -/
def ok (x : Option St) : Prop := ∀ s, x = some s → S.rise s
theorem ok_get {l : List Nm} (h : fine l) (k : Int) : ok (get l k) := fun _ hs => get_fine h hs
theorem comb_comm {x y : Option St} (hx : ok x) (hy : ok y) : comb x y = comb y x := by
  rcases x with _ | x
  · rw [comb_none]; rfl
  · rcases y with _ | y
    · rfl
    · simp only [comb]; rw [S.join_comm (hx x rfl) (hy y rfl)]
theorem comb_self {x : Option St} (hx : ok x) : comb x x = x := by
  rcases x with _ | x
  · rfl
  · simp only [comb]; rw [S.join_self (hx x rfl)]
theorem comb_assoc {x y z : Option St} (hx : ok x) (hy : ok y) (hz : ok z) : comb (comb x y) z = comb x (comb y z) := by
  rcases x with _ | x
  · rfl
  · rcases y with _ | y
    · rfl
    · rcases z with _ | z
      · rw [comb_none, comb_none]
      · simp only [comb]; rw [S.join_assoc (hx x rfl) (hy y rfl) (hz z rfl)]
/-- a view that may be reckoned with: of rising endpoints, each state's table of rising keys -/
def good (l : List Nm) : Prop := rising l ∧ fine l
theorem right_good {l : List Nm} (h : right l) : good l := ⟨h.2, right_fine h⟩
theorem join_comm {a b : List Nm} (ha : good a) (hb : good b) : join a b = join b a :=
  rising_ext (join_rising ha.1 b) (join_rising hb.1 a) fun k => by rw [get_join ha.1 hb.1, get_join hb.1 ha.1, comb_comm (ok_get ha.2 k) (ok_get hb.2 k)]
theorem join_assoc {a b c : List Nm} (ha : good a) (hb : good b) (hc : good c) : join (join a b) c = join a (join b c) :=
  rising_ext (join_rising (join_rising ha.1 b) c) (join_rising ha.1 _) fun k => by
    rw [get_join (join_rising ha.1 b) hc.1, get_join ha.1 hb.1, get_join ha.1 (join_rising hb.1 c), get_join hb.1 hc.1, comb_assoc (ok_get ha.2 k) (ok_get hb.2 k) (ok_get hc.2 k)]
theorem join_self {a : List Nm} (ha : good a) : join a a = a :=
  rising_ext (join_rising ha.1 a) ha.1 fun k => by rw [get_join ha.1 ha.1, comb_self (ok_get ha.2 k)]
/-! ### Without -/
theorem without_rising {l : List Nm} (h : rising l) (k : Int) : rising (without l k) := by
  unfold without
  induction l with
  | nil => exact h
  | cons x r ih =>
    rw [List.filter_cons]
    split
    · exact ⟨fun y hy => h.1 y (List.mem_filter.1 hy).1, ih h.2⟩
    · exact ih h.2
theorem get_without (l : List Nm) (n k : Int) : get (without l n) k = if n = k then none else get l k := by
  induction l with
  | nil => simp [without, get]
  | cons x r ih =>
    unfold without at *
    rw [List.filter_cons]
    by_cases hn : x.node = n
    · have : (!(x.node == n)) = false := by simp [hn]
      rw [this]
      simp only [Bool.false_eq_true, if_false]
      rw [ih, get_cons]
      by_cases hk : n = k
      · rw [if_pos hk, if_pos hk]
      · rw [if_neg hk, if_neg hk, if_neg (by omega)]
    · have : (!(x.node == n)) = true := by simp [hn]
      rw [this]
      simp only [if_true]
      rw [get_cons, get_cons, ih]
      by_cases hk : x.node = k
      · rw [if_pos hk, if_pos hk, if_neg (by omega)]
      · rw [if_neg hk, if_neg hk]
theorem join_snoc (a b : List Nm) (y : Nm) : join a (b ++ [y]) = step (join a b) y := by simp [join]
end V
end Go.Proofs.Ytkabkpeamggnnaa

namespace Go.Proofs.Ytkabkpeamggnnaa
set_option linter.unusedSimpArgs false
set_option linter.unusedVariables false

/-- a digest -/
structure Dg where
  node : Int
  gen : Int
  ver : Int
deriving DecidableEq

namespace D
def rising : List Dg → Prop
  | [] => True
  | x :: r => (∀ y ∈ r, x.node < y.node) ∧ rising r
def may (x : Dg) : Prop := 0 ≤ x.node ∧ x.node < 8 ∧ 1 ≤ x.gen ∧ x.gen ≤ 1099511627776 ∧ 0 ≤ x.ver ∧ x.ver ≤ 1099511627776
def right (l : List Dg) : Prop := (∀ x ∈ l, may x) ∧ rising l
def dg (x : Nm) : Dg := ⟨x.node, x.st.gen, S.top x.st⟩
def of (l : List Nm) : List Dg := l.map dg
def find (l : List Dg) (k : Int) : Option Dg := l.find? fun x => x.node == k
/-- what is wanted, and given, of one endpoint -/
def want (k : Int) : Option St → Option Dg → List Dg
  | none, none => []
  | none, some d => [⟨k, d.gen, 0⟩]
  | some _, none => []
  | some s, some d => if s.gen < d.gen then [⟨k, d.gen, 0⟩] else if d.gen < s.gen then [] else if S.top s < d.ver then [⟨k, s.gen, S.top s⟩] else []
def give (k : Int) : Option St → Option Dg → List Dg
  | none, _ => []
  | some s, none => [⟨k, s.gen, 0⟩]
  | some s, some d => if s.gen < d.gen then [] else if d.gen < s.gen then [⟨k, s.gen, 0⟩] else if S.top s < d.ver then [] else if d.ver < S.top s then [⟨k, s.gen, d.ver⟩] else []
def wants (v : List Nm) (l : List Dg) (n : Nat) : List Dg := (List.range n).flatMap fun k : Nat => want k (V.get v k) (find l k)
def gives (v : List Nm) (l : List Dg) (n : Nat) : List Dg := (List.range n).flatMap fun k : Nat => give k (V.get v k) (find l k)

theorem wants_succ (v : List Nm) (l : List Dg) (n : Nat) : wants v l (n + 1) = wants v l n ++ want n (V.get v n) (find l n) := by
  unfold wants; rw [List.range_succ, List.flatMap_append]; simp
theorem gives_succ (v : List Nm) (l : List Dg) (n : Nat) : gives v l (n + 1) = gives v l n ++ give n (V.get v n) (find l n) := by
  unfold gives; rw [List.range_succ, List.flatMap_append]; simp
theorem find_cons (x : Dg) (r : List Dg) (k : Int) : find (x :: r) k = if x.node = k then some x else find r k := by
  unfold find
  rw [List.find?_cons]
  by_cases h : x.node = k
  · simp [h]
  · have hb : (x.node == k) = false := beq_eq_false_iff_ne.2 h
    rw [hb, if_neg h]
theorem find_mem {l : List Dg} {k : Int} {d : Dg} (h : find l k = some d) : d ∈ l ∧ d.node = k := by
  induction l with
  | nil => cases h
  | cons x r ih =>
    rw [find_cons] at h
    by_cases hk : x.node = k
    · rw [if_pos hk] at h
      injection h with h
      subst h
      exact ⟨List.mem_cons_self .., hk⟩
    · rw [if_neg hk] at h
      exact ⟨List.mem_cons_of_mem _ (ih h).1, (ih h).2⟩
theorem find_low {l : List Dg} {k : Int} (h : ∀ y ∈ l, k < y.node) : find l k = none := by
  unfold find
  rw [List.find?_eq_none.2]
  intro y hy
  have := h y hy
  simp; omega
theorem find_of (l : List Nm) (k : Int) : find (of l) k = (V.get l k).map fun s => ⟨k, s.gen, S.top s⟩ := by
  induction l with
  | nil => rfl
  | cons x r ih =>
    show find (dg x :: of r) k = _
    rw [find_cons, V.get_cons]
    by_cases h : x.node = k
    · rw [if_pos h, if_pos (show (dg x).node = k from h)]
      show some (dg x) = some _
      unfold dg
      rw [h]
    · rw [if_neg h, if_neg (show ¬ (dg x).node = k from h), ih]
/-- turned round -/
theorem turned (k : Int) (s t : Option St) : want k s (t.map fun x => ⟨k, x.gen, S.top x⟩) = give k t (s.map fun x => ⟨k, x.gen, S.top x⟩) := by
  rcases s with _ | s
  · rcases t with _ | t <;> rfl
  · rcases t with _ | t
    · rfl
    · simp only [want, give, Option.map_some]
      by_cases h1 : s.gen < t.gen
      · have h2 : ¬ t.gen < s.gen := by omega
        simp [h1, h2]
      · by_cases h2 : t.gen < s.gen
        · simp [h1, h2]
        · have h3 : s.gen = t.gen := by omega
          by_cases h4 : S.top s < S.top t
          · have h5 : ¬ S.top t < S.top s := by omega
            simp [h1, h2, h4, h5, h3]
          · simp [h1, h2, h4]
theorem wants_turned (a b : List Nm) (n : Nat) : wants a (of b) n = gives b (of a) n := by
  unfold wants gives
  congr 1
  funext k
  rw [find_of, find_of]
  exact turned _ _ _
theorem gives_turned (a b : List Nm) (n : Nat) : gives a (of b) n = wants b (of a) n := (wants_turned b a n).symm
/-! ### What may be -/
theorem of_rising {l : List Nm} (h : V.rising l) : rising (of l) := by
  induction l with
  | nil => trivial
  | cons x r ih =>
    refine ⟨fun y hy => ?_, ih h.2⟩
    obtain ⟨z, hz, rfl⟩ := List.mem_map.1 hy
    exact h.1 z hz
theorem of_right {l : List Nm} (h : V.right l) : right (of l) := by
  refine ⟨fun y hy => ?_, of_rising h.2⟩
  obtain ⟨z, hz, rfl⟩ := List.mem_map.1 hy
  have hm := h.1 z hz
  have hs := hm.2.2
  exact ⟨hm.1, hm.2.1, hs.1, hs.2.1, S.top_nonneg _, S.top_right hs⟩
theorem rising_snoc {l : List Dg} {z : Dg} : rising (l ++ [z]) ↔ rising l ∧ ∀ y ∈ l, y.node < z.node := by
  induction l with
  | nil => simp [rising]
  | cons x r ih =>
    rw [List.cons_append, rising, rising, ih]
    constructor
    · rintro ⟨h1, h2, h3⟩
      refine ⟨⟨fun y hy => h1 y (by simp [hy]), h2⟩, fun y hy => ?_⟩
      rcases List.mem_cons.1 hy with rfl | hy
      · exact h1 z (by simp)
      · exact h3 y hy
    · rintro ⟨⟨h1, h2⟩, h3⟩
      refine ⟨fun y hy => ?_, h2, fun y hy => h3 y (by simp [hy])⟩
      rcases List.mem_append.1 hy with hy | hy
      · exact h1 y hy
      · obtain rfl : y = z := by simpa using hy
        exact h3 x (by simp)
/-- of each endpoint one digest at most, and one that may be: the whole may be -/
theorem right_range {f : Nat → List Dg} (hf : ∀ k, k < 8 → f k = [] ∨ ∃ d, f k = [d] ∧ d.node = k ∧ may d) (n : Nat) (hn : n ≤ 8) : right ((List.range n).flatMap f) ∧ ∀ y ∈ (List.range n).flatMap f, y.node < n := by
  induction n with
  | zero => exact ⟨⟨by simp, trivial⟩, by simp⟩
  | succ n ih =>
    obtain ⟨⟨h1, h2⟩, h3⟩ := ih (by omega)
    rw [List.range_succ, List.flatMap_append]
    rcases hf n (by omega) with he | ⟨d, he, hd, hm⟩
    · have : [n].flatMap f = [] := by simp [he]
      rw [this, List.append_nil]
      exact ⟨⟨h1, h2⟩, fun y hy => by have := h3 y hy; push_cast; omega⟩
    · have : [n].flatMap f = [d] := by simp [he]
      rw [this]
      refine ⟨⟨fun y hy => ?_, rising_snoc.2 ⟨h2, fun y hy => by have := h3 y hy; omega⟩⟩, fun y hy => ?_⟩
      · rcases List.mem_append.1 hy with hy | hy
        · exact h1 y hy
        · obtain rfl : y = d := by simpa using hy
          exact hm
      · rcases List.mem_append.1 hy with hy | hy
        · have := h3 y hy; push_cast; omega
        · obtain rfl : y = d := by simpa using hy
          push_cast; omega
theorem want_one {v : List Nm} {l : List Dg} (hv : V.right v) (hl : right l) (k : Nat) (hk : k < 8) : want k (V.get v k) (find l k) = [] ∨ ∃ d, want k (V.get v k) (find l k) = [d] ∧ d.node = k ∧ may d := by
  have hs : ∀ s, V.get v k = some s → S.right s := fun s h => (hv.1 _ (V.get_mem h)).2.2
  have hd : ∀ d, find l k = some d → may d := fun d h => hl.1 d (find_mem h).1
  rcases hg : V.get v k with _ | s <;> rcases hf : find l k with _ | d
  · exact Or.inl rfl
  · have := hd d hf
    exact Or.inr ⟨_, rfl, rfl, by show 0 ≤ (k : Int); omega, by show (k : Int) < 8; omega, this.2.2.1, this.2.2.2.1, by show (0 : Int) ≤ 0; omega, by show (0 : Int) ≤ _; omega⟩
  · exact Or.inl rfl
  · have h1 := hd d hf
    have h2 := hs s hg
    have h3 := S.top_nonneg s
    have h4 := S.top_right h2
    simp only [want]
    split
    · exact Or.inr ⟨_, rfl, rfl, by show 0 ≤ (k : Int); omega, by show (k : Int) < 8; omega, h1.2.2.1, h1.2.2.2.1, by show (0 : Int) ≤ 0; omega, by show (0 : Int) ≤ _; omega⟩
    · split
      · exact Or.inl rfl
      · split
        · exact Or.inr ⟨_, rfl, rfl, by show 0 ≤ (k : Int); omega, by show (k : Int) < 8; omega, h2.1, h2.2.1, h3, h4⟩
        · exact Or.inl rfl
theorem give_one {v : List Nm} {l : List Dg} (hv : V.right v) (hl : right l) (k : Nat) (hk : k < 8) : give k (V.get v k) (find l k) = [] ∨ ∃ d, give k (V.get v k) (find l k) = [d] ∧ d.node = k ∧ may d := by
  have hs : ∀ s, V.get v k = some s → S.right s := fun s h => (hv.1 _ (V.get_mem h)).2.2
  have hd : ∀ d, find l k = some d → may d := fun d h => hl.1 d (find_mem h).1
  rcases hg : V.get v k with _ | s
  · exact Or.inl rfl
  · have h2 := hs s hg
    rcases hf : find l k with _ | d
    · exact Or.inr ⟨_, rfl, rfl, by show 0 ≤ (k : Int); omega, by show (k : Int) < 8; omega, h2.1, h2.2.1, by show (0 : Int) ≤ 0; omega, by show (0 : Int) ≤ _; omega⟩
    · have h1 := hd d hf
      simp only [give]
      split
      · exact Or.inl rfl
      · split
        · exact Or.inr ⟨_, rfl, rfl, by show 0 ≤ (k : Int); omega, by show (k : Int) < 8; omega, h2.1, h2.2.1, by show (0 : Int) ≤ 0; omega, by show (0 : Int) ≤ _; omega⟩
        · split
          · exact Or.inl rfl
          · split
            · exact Or.inr ⟨_, rfl, rfl, by show 0 ≤ (k : Int); omega, by show (k : Int) < 8; omega, h2.1, h2.2.1, h1.2.2.2.2.1, h1.2.2.2.2.2⟩
            · exact Or.inl rfl
theorem wants_right {v : List Nm} {l : List Dg} (hv : V.right v) (hl : right l) {n : Nat} (hn : n ≤ 8) : right (wants v l n) := (right_range (fun k hk => want_one hv hl k hk) n hn).1
theorem gives_right {v : List Nm} {l : List Dg} (hv : V.right v) (hl : right l) {n : Nat} (hn : n ≤ 8) : right (gives v l n) := (right_range (fun k hk => give_one hv hl k hk) n hn).1
theorem range_len {f : Nat → List Dg} (hf : ∀ k, (f k).length ≤ 1) (n : Nat) : ((List.range n).flatMap f).length ≤ n := by
  induction n with
  | zero => simp
  | succ n ih =>
    rw [List.range_succ, List.flatMap_append, List.length_append, show [n].flatMap f = f n by simp]
    have := hf n
    omega
theorem want_len (k : Int) (s : Option St) (d : Option Dg) : (want k s d).length ≤ 1 := by
  rcases s with _ | s <;> rcases d with _ | d <;> simp only [want] <;> (repeat' split) <;> simp
theorem give_len (k : Int) (s : Option St) (d : Option Dg) : (give k s d).length ≤ 1 := by
  rcases s with _ | s <;> rcases d with _ | d <;> simp only [give] <;> (repeat' split) <;> simp
theorem wants_len (v : List Nm) (l : List Dg) (n : Nat) : (wants v l n).length ≤ n := range_len (fun k => want_len _ _ _) n
theorem gives_len (v : List Nm) (l : List Dg) (n : Nat) : (gives v l n).length ≤ n := range_len (fun k => give_len _ _ _) n

/-! ### The ends: nothing known, nothing told -/
end D
end Go.Proofs.Ytkabkpeamggnnaa

namespace Go.Proofs.Ytkabkpeamggnnaa
set_option linter.unusedSimpArgs false
set_option linter.unusedVariables false

/-- a delta -/
structure Dl where
  node : Int
  frm : Int
  st : St
deriving DecidableEq

namespace L
def rising : List Dl → Prop
  | [] => True
  | x :: r => (∀ y ∈ r, x.node < y.node) ∧ rising r
def may (d : Dl) : Prop := 0 ≤ d.node ∧ d.node < 8 ∧ 0 ≤ d.frm ∧ d.frm ≤ 1099511627776 ∧ S.right d.st ∧ ∀ e ∈ d.st.apps, d.frm < e.ver
def right (l : List Dl) : Prop := (∀ x ∈ l, may x) ∧ rising l
def pick1 (o : Option St) (a : Dg) : List Dl :=
  match o with
  | none => []
  | some s => if s.gen < a.gen then [] else if a.gen < s.gen then [⟨a.node, 0, s⟩] else [⟨a.node, a.ver, S.above s a.ver⟩]
def pick (v : List Nm) (asks : List Dg) : List Dl := asks.flatMap fun a => pick1 (V.get v a.node) a
/-- does a delta fit what is known of its endpoint? -/
def fits1 (o : Option St) (d : Dl) : Bool := decide (d.frm = 0) || (match o with | none => false | some s => decide (s.gen = d.st.gen) && decide (d.frm ≤ S.top s))
def fits (v : List Nm) (d : Dl) : Bool := fits1 (V.get v d.node) d
def step (p : List Nm × List Int) (d : Dl) : List Nm × List Int := if fits p.1 d then (V.join p.1 [⟨d.node, d.st⟩], p.2 ++ [d.node]) else p
def apply (v : List Nm) (l : List Dl) : List Nm × List Int := l.foldl step (v, [])
def full (v : List Nm) : List Dl := v.map fun x => ⟨x.node, 0, x.st⟩
def find (l : List Dl) (k : Int) : Option Dl := l.find? fun x => x.node == k
/-- what is known of an endpoint, behind a delta of it -/
def apply1 (o : Option St) (d : Dl) : Option St := if fits1 o d then V.comb o (some d.st) else o

theorem find_cons (x : Dl) (r : List Dl) (k : Int) : find (x :: r) k = if x.node = k then some x else find r k := by
  unfold find
  rw [List.find?_cons]
  by_cases h : x.node = k
  · simp [h]
  · have hb : (x.node == k) = false := beq_eq_false_iff_ne.2 h
    rw [hb, if_neg h]
theorem find_mem {l : List Dl} {k : Int} {d : Dl} (h : find l k = some d) : d ∈ l ∧ d.node = k := by
  induction l with
  | nil => cases h
  | cons x r ih =>
    rw [find_cons] at h
    by_cases hk : x.node = k
    · rw [if_pos hk] at h
      injection h with h
      subst h
      exact ⟨List.mem_cons_self .., hk⟩
    · rw [if_neg hk] at h
      exact ⟨List.mem_cons_of_mem _ (ih h).1, (ih h).2⟩
theorem find_low {l : List Dl} {k : Int} (h : ∀ y ∈ l, k < y.node) : find l k = none := by
  unfold find
  rw [List.find?_eq_none.2]
  intro y hy
  have := h y hy
  simp; omega
theorem step_rising {p : List Nm × List Int} (h : V.rising p.1) (d : Dl) : V.rising (step p d).1 := by
  unfold step
  split
  · exact V.join_rising h _
  · exact h
theorem fold_rising {p : List Nm × List Int} (h : V.rising p.1) (l : List Dl) : V.rising (l.foldl step p).1 := by
  induction l generalizing p with
  | nil => exact h
  | cons d r ih => exact ih (step_rising h d)
theorem apply_rising {v : List Nm} (h : V.rising v) (l : List Dl) : V.rising (apply v l).1 := fold_rising h l
theorem step_right {p : List Nm × List Int} (h : V.right p.1) {d : Dl} (hd : may d) : V.right (step p d).1 := by
  unfold step
  split
  · exact V.step_right h ⟨hd.1, hd.2.1, hd.2.2.2.2.1⟩
  · exact h
theorem fold_right {p : List Nm × List Int} (h : V.right p.1) {l : List Dl} (hl : ∀ d ∈ l, may d) : V.right (l.foldl step p).1 := by
  induction l generalizing p with
  | nil => exact h
  | cons d r ih => exact ih (step_right h (hl d (by simp))) (fun x hx => hl x (by simp [hx]))
theorem apply_right {v : List Nm} (h : V.right v) {l : List Dl} (hl : right l) : V.right (apply v l).1 := fold_right h hl.1
theorem get_step {p : List Nm × List Int} (h : V.rising p.1) (d : Dl) (k : Int) : V.get (step p d).1 k = if d.node = k then apply1 (V.get p.1 k) d else V.get p.1 k := by
  unfold step
  by_cases hf : fits p.1 d = true
  · rw [if_pos hf]
    show V.get (V.step p.1 ⟨d.node, d.st⟩) k = _
    rw [V.get_step h]
    by_cases hk : d.node = k
    · subst hk
      rw [if_pos (show (Nm.mk d.node d.st).node = d.node from rfl), if_pos rfl]
      unfold apply1
      rw [if_pos (show fits1 (V.get p.1 d.node) d = true from hf)]
    · rw [if_neg (show ¬ (Nm.mk d.node d.st).node = k from hk), if_neg hk]
  · rw [if_neg hf]
    by_cases hk : d.node = k
    · subst hk
      rw [if_pos rfl]
      unfold apply1
      rw [if_neg (show ¬ fits1 (V.get p.1 d.node) d = true from hf)]
    · rw [if_neg hk]
theorem get_fold {p : List Nm × List Int} (h : V.rising p.1) {l : List Dl} (hl : rising l) (k : Int) : V.get (l.foldl step p).1 k = match find l k with | none => V.get p.1 k | some d => apply1 (V.get p.1 k) d := by
  induction l generalizing p with
  | nil => rfl
  | cons d r ih =>
    rw [List.foldl_cons, ih (step_rising h d) hl.2, get_step h, find_cons]
    by_cases hk : d.node = k
    · subst hk
      rw [if_pos rfl, if_pos rfl, find_low hl.1]
    · rw [if_neg hk, if_neg hk]
theorem get_apply {v : List Nm} (h : V.rising v) {l : List Dl} (hl : rising l) (k : Int) : V.get (apply v l).1 k = match find l k with | none => V.get v k | some d => apply1 (V.get v k) d := get_fold (p := (v, [])) h hl k

/-! ### Applied: over what it was; twice is once -/
theorem comb_over {x y : Option St} (hx : V.ok x) (hy : V.ok y) : V.comb (V.comb x y) x = V.comb x y := by
  rw [V.comb_comm hx hy, V.comb_assoc hy hx hx, V.comb_self hx]
theorem comb_more {x y : Option St} (hx : V.ok x) (hy : V.ok y) : V.comb (V.comb x y) y = V.comb x y := by
  rw [V.comb_assoc hx hy hy, V.comb_self hy]
theorem ok_some {s : St} (h : S.rise s) : V.ok (some s) := fun t ht => by injection ht with ht; rw [← ht]; exact h
theorem apply1_over {o : Option St} (ho : V.ok o) {d : Dl} (hd : S.rise d.st) : V.comb (apply1 o d) o = apply1 o d := by
  unfold apply1
  split
  · exact comb_over ho (ok_some hd)
  · exact V.comb_self ho
theorem apply1_twice {o : Option St} (ho : V.ok o) {d : Dl} (hd : S.rise d.st) : apply1 (apply1 o d) d = apply1 o d := by
  by_cases hf : fits1 o d = true
  · have h1 : apply1 o d = V.comb o (some d.st) := by unfold apply1; rw [if_pos hf]
    rw [h1]
    unfold apply1
    split
    · exact comb_more ho (ok_some hd)
    · rfl
  · have h1 : apply1 o d = o := by unfold apply1; rw [if_neg hf]
    rw [h1, h1]
theorem apply_over {v : List Nm} (h : V.good v) {l : List Dl} (hl : right l) : V.over (apply v l).1 v := by
  have hr := apply_rising h.1 l
  refine V.rising_ext (V.join_rising hr _) hr fun k => ?_
  rw [V.get_join hr h.1, get_apply h.1 hl.2]
  rcases hf : find l k with _ | d
  · exact V.comb_self (V.ok_get h.2 k)
  · exact apply1_over (V.ok_get h.2 k) (S.right_rise (hl.1 d (find_mem hf).1).2.2.2.2.1)
theorem apply_twice {v : List Nm} (h : V.good v) {l : List Dl} (hl : right l) : (apply (apply v l).1 l).1 = (apply v l).1 := by
  have hr := apply_rising h.1 l
  refine V.rising_ext (apply_rising hr l) hr fun k => ?_
  rw [get_apply hr hl.2, get_apply h.1 hl.2]
  rcases hf : find l k with _ | d
  · rfl
  · exact apply1_twice (V.ok_get h.2 k) (S.right_rise (hl.1 d (find_mem hf).1).2.2.2.2.1)

/-! ### All of a view -/
theorem full_rising {w : List Nm} (h : V.rising w) : rising (full w) := by
  induction w with
  | nil => trivial
  | cons x r ih =>
    refine ⟨fun y hy => ?_, ih h.2⟩
    obtain ⟨z, hz, rfl⟩ := List.mem_map.1 hy
    exact h.1 z hz
theorem full_right {w : List Nm} (h : V.right w) : right (full w) := by
  refine ⟨fun y hy => ?_, full_rising h.2⟩
  obtain ⟨z, hz, rfl⟩ := List.mem_map.1 hy
  have hm := h.1 z hz
  refine ⟨hm.1, hm.2.1, by show (0 : Int) ≤ 0; omega, by show (0 : Int) ≤ _; omega, hm.2.2, fun e he => ?_⟩
  have := (hm.2.2.2.2.2.2.1 e he).2.2.1
  show (0 : Int) < e.ver
  omega
theorem find_full (w : List Nm) (k : Int) : find (full w) k = (V.get w k).map fun s => ⟨k, 0, s⟩ := by
  induction w with
  | nil => rfl
  | cons x r ih =>
    show find (⟨x.node, 0, x.st⟩ :: full r) k = _
    rw [find_cons, V.get_cons]
    by_cases h : x.node = k
    · rw [if_pos h, if_pos (show (Dl.mk x.node 0 x.st).node = k from h), h]; rfl
    · rw [if_neg h, if_neg (show ¬ (Dl.mk x.node 0 x.st).node = k from h), ih]
theorem apply_full {v w : List Nm} (hv : V.good v) (hw : V.good w) : (apply v (full w)).1 = V.join v w := by
  refine V.rising_ext (apply_rising hv.1 _) (V.join_rising hv.1 _) fun k => ?_
  rw [get_apply hv.1 (full_rising hw.1), V.get_join hv.1 hw.1, find_full]
  rcases V.get w k with _ | s
  · exact (V.comb_none _).symm
  · show apply1 (V.get v k) ⟨k, 0, s⟩ = _
    unfold apply1 fits1
    simp
theorem step_zero (p : List Nm × List Int) (d : Dl) (h : d.frm = 0) : (step p d).2 = p.2 ++ [d.node] := by
  unfold step fits fits1
  simp [h]
theorem fold_zero (l : List Dl) (p : List Nm × List Int) (h : ∀ d ∈ l, d.frm = 0) : (l.foldl step p).2 = p.2 ++ l.map Dl.node := by
  induction l generalizing p with
  | nil => simp
  | cons d r ih =>
    rw [List.foldl_cons, ih _ (fun x hx => h x (by simp [hx])), step_zero p d (h d (by simp))]
    simp
theorem nodes_full (v w : List Nm) : (apply v (full w)).2 = w.map Nm.node := by
  unfold apply
  rw [fold_zero _ _ (fun d hd => by obtain ⟨x, _, rfl⟩ := List.mem_map.1 hd; rfl)]
  unfold full
  rw [List.map_map]; rfl

/-! ### What is picked -/
theorem above_right {s : St} (h : S.right s) (k : Int) : S.right (S.above s k) := ⟨h.1, h.2.1, h.2.2.1, h.2.2.2.1, fun x hx => h.2.2.2.2.1 x (List.mem_filter.1 hx).1, S.filter_rising h.2.2.2.2.2 _⟩
theorem above_zero {s : St} (h : S.right s) : S.above s 0 = s := by
  unfold S.above E.aboves
  rw [List.filter_eq_self.2]
  intro x hx
  have := (h.2.2.2.2.1 x hx).2.2.1
  simp; omega
theorem pick1_may {o : Option St} (ho : ∀ s, o = some s → S.right s) {a : Dg} (ha : D.may a) : ∀ d ∈ pick1 o a, may d ∧ d.node = a.node := by
  rcases o with _ | s
  · intro d hd; cases hd
  · have hs := ho s rfl
    intro d hd
    simp only [pick1] at hd
    split at hd
    · cases hd
    · split at hd
      · obtain rfl : d = ⟨a.node, 0, s⟩ := by simpa using hd
        refine ⟨⟨ha.1, ha.2.1, by show (0 : Int) ≤ 0; omega, by show (0 : Int) ≤ _; omega, hs, fun e he => ?_⟩, rfl⟩
        have := (hs.2.2.2.2.1 e he).2.2.1
        show (0 : Int) < e.ver
        omega
      · obtain rfl : d = ⟨a.node, a.ver, S.above s a.ver⟩ := by simpa using hd
        exact ⟨⟨ha.1, ha.2.1, ha.2.2.2.2.1, ha.2.2.2.2.2, above_right hs _, fun e he => of_decide_eq_true (List.mem_filter.1 he).2⟩, rfl⟩
theorem pick1_len (o : Option St) (a : Dg) : (pick1 o a).length ≤ 1 := by
  rcases o with _ | s <;> simp only [pick1] <;> (repeat' split) <;> simp
theorem pick_right {v : List Nm} (hv : V.right v) {asks : List Dg} (ha : D.right asks) : right (pick v asks) := by
  have hg : ∀ k s, V.get v k = some s → S.right s := fun k s h => (hv.1 _ (V.get_mem h)).2.2
  obtain ⟨h1, h2⟩ := ha
  induction asks with
  | nil => exact ⟨fun x hx => (by cases hx), trivial⟩
  | cons a r ih =>
    have hm := pick1_may (hg a.node) (h1 a (by simp))
    obtain ⟨i1, i2⟩ := ih (fun x hx => h1 x (by simp [hx])) h2.2
    have hr : ∀ d ∈ pick v r, a.node < d.node := fun d hd => by
      obtain ⟨b, hb, hd2⟩ := List.mem_flatMap.1 hd
      rw [(pick1_may (hg b.node) (h1 b (by simp [hb])) d hd2).2]
      exact h2.1 b hb
    show right (pick1 (V.get v a.node) a ++ pick v r)
    refine ⟨fun d hd => ?_, ?_⟩
    · rcases List.mem_append.1 hd with hd | hd
      · exact (hm d hd).1
      · exact i1 d hd
    · have hl := pick1_len (V.get v a.node) a
      match hp : pick1 (V.get v a.node) a, hl with
      | [], _ => exact i2
      | [d], _ =>
        refine ⟨fun y hy => ?_, i2⟩
        have := (hm d (by rw [hp]; simp)).2
        have := hr y hy
        omega
theorem find_pick {v : List Nm} (hv : V.right v) {asks : List Dg} (ha : D.right asks) (k : Int) : find (pick v asks) k = match D.find asks k with | none => none | some a => (pick1 (V.get v k) a).head? := by
  have hg : ∀ k s, V.get v k = some s → S.right s := fun k s h => (hv.1 _ (V.get_mem h)).2.2
  obtain ⟨h1, h2⟩ := ha
  induction asks with
  | nil => rfl
  | cons a r ih =>
    have hm := pick1_may (hg a.node) (h1 a (by simp))
    have ih2 := ih (fun x hx => h1 x (by simp [hx])) h2.2
    show find (pick1 (V.get v a.node) a ++ pick v r) k = _
    rw [D.find_cons]
    have hl := pick1_len (V.get v a.node) a
    by_cases hk : a.node = k
    · subst hk
      rw [if_pos rfl]
      match hp : pick1 (V.get v a.node) a, hl with
      | [], _ =>
        rw [List.nil_append, ih2, D.find_low h2.1]
        show _ = (pick1 (V.get v a.node) a).head?
        rw [hp]; rfl
      | [d], _ =>
        show find (d :: pick v r) a.node = (pick1 (V.get v a.node) a).head?
        rw [find_cons, if_pos (hm d (by rw [hp]; simp)).2, hp]; rfl
    · rw [if_neg hk, ← ih2]
      match hp : pick1 (V.get v a.node) a, hl with
      | [], _ => rfl
      | [d], _ =>
        show find (d :: pick v r) k = _
        rw [find_cons, if_neg (by rw [(hm d (by rw [hp]; simp)).2]; exact hk)]

/-! ### Nothing lacks -/
/-- of one life the lower one is what the other one was then -/
def part (x y : St) : Prop := x.gen ≠ y.gen ∨ (if S.top y < S.top x then (∀ e ∈ x.apps, e.ver ≤ S.top y → E.get y.apps e.key = some e) ∧ S.over x y else if S.top x = S.top y then x = y else (∀ e ∈ y.apps, e.ver ≤ S.top x → E.get x.apps e.key = some e) ∧ S.over y x)
/-- what is above the lower one's top is just what it lacks -/
theorem join_above {x y : St} (hx : S.rise x) (hy : S.rise y) (hg : x.gen = y.gen) (h : ∀ e ∈ y.apps, e.ver ≤ S.top x → E.get x.apps e.key = some e) : S.join x (S.above y (S.top x)) = S.join x y := by
  rw [S.join_eq (show x.gen = (S.above y (S.top x)).gen from hg), S.join_eq hg]
  refine S.St.ext rfl rfl ?_
  have ha : E.rising (S.above y (S.top x)).apps := S.filter_rising hy _
  show E.join x.apps (S.above y (S.top x)).apps = E.join x.apps y.apps
  refine E.rising_ext (E.join_rising hx _) (E.join_rising hx _) fun k => ?_
  rw [E.get_join hx ha, E.get_join hx hy]
  have hf : E.get (S.above y (S.top x)).apps k = match E.get y.apps k with | some e => if decide (S.top x < e.ver) = true then some e else none | none => none := S.get_filter hy _ k
  rw [hf]
  rcases hk : E.get y.apps k with _ | e
  · rfl
  · dsimp only
    by_cases hv : S.top x < e.ver
    · rw [if_pos (decide_eq_true hv)]
    · have he := E.get_key hk
      have h1 := h e he.2 (by omega)
      rw [if_neg (by simpa using hv), ← he.1, h1, E.best_none, E.best_self]
/-- what one wants, and the other one picks, makes the two joined, of each endpoint -/
theorem whole1 (k : Int) {s t : Option St} (hs : ∀ x, s = some x → S.right x) (ht : ∀ x, t = some x → S.right x) (hp : ∀ x y, s = some x → t = some y → part x y) :
    (match (D.want k s (t.map fun x => ⟨k, x.gen, S.top x⟩)).head? with | none => s | some a => match (pick1 t a).head? with | none => s | some d => apply1 s d) = V.comb s t := by
  rcases t with _ | y
  · rcases s with _ | x <;> rfl
  · have hy := ht y rfl
    rcases s with _ | x
    · simp only [Option.map_some, D.want, List.head?_cons, pick1, Int.lt_irrefl, if_false, above_zero hy, apply1, fits1, decide_true, Bool.true_or, if_true, V.comb]
    · have hx := hs x rfl
      have hpp := hp x y rfl rfl
      simp only [Option.map_some, D.want]
      by_cases h1 : x.gen < y.gen
      · simp only [h1, if_true, List.head?_cons, pick1, Int.lt_irrefl, if_false, above_zero hy, apply1, fits1, decide_true, Bool.true_or, V.comb]
      · by_cases h2 : y.gen < x.gen
        · simp only [h1, h2, if_false, if_true, List.head?_nil, V.comb]
          rw [S.join_gt h2]
        · have hg : x.gen = y.gen := by omega
          have hq : (if S.top y < S.top x then (∀ e ∈ x.apps, e.ver ≤ S.top y → E.get y.apps e.key = some e) ∧ S.over x y else if S.top x = S.top y then x = y else (∀ e ∈ y.apps, e.ver ≤ S.top x → E.get x.apps e.key = some e) ∧ S.over y x) := by
            rcases hpp with h | h
            · exact absurd hg h
            · exact h
          by_cases h3 : S.top x < S.top y
          · have h4 : ¬ S.top y < S.top x := by omega
            have h5 : ¬ S.top x = S.top y := by omega
            rw [if_neg h4, if_neg h5] at hq
            have hj := join_above (S.right_rise hx) (S.right_rise hy) hg hq.1
            have hgg : ¬ y.gen < x.gen := by omega
            simp only [h1, h2, h3, if_false, if_true, List.head?_cons, pick1, hg, Int.lt_irrefl, apply1, fits1]
            simp only [S.above, decide_true, Bool.true_and, Int.le_refl, Bool.or_true, if_true, V.comb]
            exact congrArg some hj
          · simp only [h1, h2, h3, if_false, List.head?_nil, V.comb]
            by_cases h4 : S.top y < S.top x
            · rw [if_pos h4] at hq
              exact congrArg some hq.2.symm
            · rw [if_neg h4, if_pos (by omega)] at hq
              rw [← hq, S.join_self (S.right_rise hx)]
theorem part_symm {x y : St} (h : part x y) : part y x := by
  rcases h with h | h
  · exact Or.inl (fun e => h e.symm)
  · right
    by_cases h1 : S.top y < S.top x
    · have h2 : ¬ S.top x < S.top y := by omega
      have h3 : ¬ S.top y = S.top x := by omega
      rw [if_pos h1] at h
      rw [if_neg h2, if_neg h3]; exact h
    · rw [if_neg h1] at h
      by_cases h2 : S.top x = S.top y
      · rw [if_pos h2] at h
        subst h
        rw [if_neg h1, if_pos rfl]
      · rw [if_neg h2] at h
        rw [if_pos (by omega)]; exact h
theorem wants_find {v : List Nm} {l : List Dg} (hv : V.right v) (hl : D.right l) {k : Int} (h0 : 0 ≤ k) (h8 : k < 8) : D.find (D.wants v l 8) k = (D.want k (V.get v k) (D.find l k)).head? := by
  obtain ⟨m, rfl⟩ : ∃ m : Nat, k = m := ⟨k.toNat, by omega⟩
  have hm : m < 8 := by omega
  have key : ∀ n : Nat, n ≤ 8 → D.find (D.wants v l n) m = if m < n then (D.want m (V.get v m) (D.find l m)).head? else none := by
    intro n
    induction n with
    | zero => intro _; rw [if_neg (by omega)]; rfl
    | succ n ih =>
      intro hn
      rw [D.wants_succ]
      have hfa : ∀ (a b : List Dg) (j : Int), D.find (a ++ b) j = match D.find a j with | some d => some d | none => D.find b j := by
        intro a b j
        unfold D.find
        rw [List.find?_append]
        cases List.find? (fun x => x.node == j) a <;> rfl
      rw [hfa, ih (by omega)]
      have hone := D.want_one hv hl n (by omega)
      by_cases h1 : m < n
      · rw [if_pos h1, if_pos (by omega)]
        have h2 : D.find (D.want (n : Int) (V.get v n) (D.find l n)) m = none := by
          rcases hone with he | ⟨d, he, hd, _⟩
          · rw [he]; rfl
          · rw [he, D.find_cons, if_neg (by omega)]; rfl
        rw [h2]
        cases (D.want (m : Int) (V.get v m) (D.find l m)).head? <;> rfl
      · rw [if_neg h1]
        dsimp only
        by_cases h2 : m = n
        · subst h2
          rw [if_pos (by omega)]
          rcases hone with he | ⟨d, he, hd, _⟩
          · rw [he]; rfl
          · rw [he, D.find_cons, if_pos hd]; rfl
        · rw [if_neg (by omega)]
          rcases hone with he | ⟨d, he, hd, _⟩
          · rw [he]; rfl
          · rw [he, D.find_cons, if_neg (by omega)]; rfl
  rw [key 8 (by omega), if_pos hm]
theorem get_out {v : List Nm} (h : V.right v) {k : Int} (hk : ¬ (0 ≤ k ∧ k < 8)) : V.get v k = none := by
  rcases hg : V.get v k with _ | s
  · rfl
  · have := h.1 _ (V.get_mem hg)
    exact absurd ⟨this.1, this.2.1⟩ hk
theorem find_out {l : List Dl} (h : right l) {k : Int} (hk : ¬ (0 ≤ k ∧ k < 8)) : find l k = none := by
  rcases hg : find l k with _ | d
  · rfl
  · have h1 := find_mem hg
    have h2 := h.1 d h1.1
    rw [← h1.2] at hk
    exact absurd ⟨h2.1, h2.2.1⟩ hk
theorem whole {a b : List Nm} (ha : V.right a) (hb : V.right b) (hp : ∀ k x y, V.get a k = some x → V.get b k = some y → part x y) : (apply a (pick b (D.wants a (D.of b) 8))).1 = V.join a b := by
  have hw := D.wants_right ha (D.of_right hb) (Nat.le_refl 8)
  have hpk := pick_right hb hw
  refine V.rising_ext (apply_rising ha.2 _) (V.join_rising ha.2 _) fun k => ?_
  rw [get_apply ha.2 hpk.2, V.get_join ha.2 hb.2]
  by_cases hk : 0 ≤ k ∧ k < 8
  · rw [find_pick hb hw, wants_find ha (D.of_right hb) hk.1 hk.2, D.find_of]
    rw [← whole1 k (fun x hx => (ha.1 _ (V.get_mem hx)).2.2) (fun x hx => (hb.1 _ (V.get_mem hx)).2.2) (fun x y hx hy => hp k x y hx hy)]
    have e : ∀ q : Option Dg, (match (match q with | none => none | some c => (pick1 (V.get b k) c).head?) with | none => V.get a k | some d => apply1 (V.get a k) d) = (match q with | none => V.get a k | some c => match (pick1 (V.get b k) c).head? with | none => V.get a k | some d => apply1 (V.get a k) d) := fun q => by cases q <;> rfl
    exact e _
  · rw [find_out hpk hk, get_out ha hk, get_out hb hk]; rfl
theorem whole2 {a b : List Nm} (ha : V.right a) (hb : V.right b) (hp : ∀ k x y, V.get a k = some x → V.get b k = some y → part x y) : (apply b (pick a (D.gives a (D.of b) 8))).1 = V.join a b := by
  rw [D.gives_turned, whole hb ha (fun k x y hx hy => part_symm (hp k y x hy hx)), V.join_comm (V.right_good hb) (V.right_good ha)]
end L
end Go.Proofs.Ytkabkpeamggnnaa

