/- Plain mathematics of tables of entries: what they hold, put, joined, above, the lattice. -/
import Derived.Below
import GoSem.Op.String
namespace Go.Proofs.Ytfgpncbcelafoaa
set_option linter.unusedSimpArgs false

/-- an entry's parts -/
structure Ent where
  key : Int
  ver : Int
  val : List UInt8
deriving DecidableEq

namespace E

/-! ### Bytes in order -/
def lt (a b : List UInt8) : Bool := Op.bytesLess a b
theorem lt_irrefl : ∀ a, lt a a = false := by
  intro a
  unfold lt
  induction a with
  | nil => rfl
  | cons x r ih => simp [Op.bytesLess, ih]
theorem lt_trans : ∀ a b c, lt a b = true → lt b c = true → lt a c = true := by
  intro a
  unfold lt
  induction a with
  | nil => intro b c h1 h2; cases c with
    | nil => cases b <;> simp [Op.bytesLess] at h2
    | cons z t => rfl
  | cons x r ih =>
    intro b c h1 h2
    cases b with
    | nil => simp [Op.bytesLess] at h1
    | cons y s =>
      cases c with
      | nil => simp [Op.bytesLess] at h2
      | cons z t =>
        simp only [Op.bytesLess, Bool.or_eq_true, decide_eq_true_eq, Bool.and_eq_true, beq_iff_eq] at h1 h2 ⊢
        rcases h1 with h1 | ⟨rfl, h1⟩
        · rcases h2 with h2 | ⟨rfl, h2⟩
          · exact Or.inl (UInt8.lt_trans h1 h2)
          · exact Or.inl h1
        · rcases h2 with h2 | ⟨rfl, h2⟩
          · exact Or.inl h2
          · exact Or.inr ⟨rfl, ih _ _ h1 h2⟩
theorem lt_conn : ∀ a b, lt a b = false → lt b a = false → a = b := by
  intro a
  unfold lt
  induction a with
  | nil => intro b h1 h2; cases b with
    | nil => rfl
    | cons y s => simp [Op.bytesLess] at h1
  | cons x r ih =>
    intro b h1 h2
    cases b with
    | nil => simp [Op.bytesLess] at h2
    | cons y s =>
      simp only [Op.bytesLess, Bool.or_eq_false_iff, decide_eq_false_iff_not, Bool.and_eq_false_iff, beq_eq_false_iff_ne, ne_eq] at h1 h2
      have hxy : x = y := by
        have h3 := h1.1
        have h4 := h2.1
        rw [UInt8.lt_iff_toNat_lt] at h3 h4
        exact UInt8.toNat_inj.1 (by omega)
      subst hxy
      rw [ih s (by simpa using h1.2) (by simpa using h2.2)]
theorem lt_asymm (a b : List UInt8) (h : lt a b = true) : lt b a = false := by
  rcases h2 : lt b a
  · rfl
  · have := lt_trans _ _ _ h h2
    rw [lt_irrefl] at this; cases this

theorem gt_eq (a b : List UInt8) : lt b a = !(lt a b || a == b) := by
  rcases h : lt a b
  · by_cases e : a = b
    · subst e; simp [lt_irrefl]
    · have : lt b a = true := by
        rcases h2 : lt b a
        · exact absurd (lt_conn _ _ h h2) e
        · rfl
      simp [this, e]
  · simp [lt_asymm _ _ h]

/-! ### Entries in order -/
/-- above, of one key -/
def above (a b : Ent) : Bool := decide (b.ver < a.ver) || (decide (a.ver = b.ver) && lt b.val a.val)
theorem above_irrefl (a : Ent) : above a a = false := by simp [above, lt_irrefl]
theorem above_iff (a b : Ent) : above a b = true ↔ b.ver < a.ver ∨ a.ver = b.ver ∧ lt b.val a.val = true := by simp [above]
theorem above_trans {a b c : Ent} (h1 : above a b = true) (h2 : above b c = true) : above a c = true := by
  rw [above_iff] at *
  rcases h1 with h1 | ⟨e1, h1⟩
  · rcases h2 with h2 | ⟨e2, h2⟩
    · left; omega
    · left; omega
  · rcases h2 with h2 | ⟨e2, h2⟩
    · left; omega
    · right; exact ⟨by omega, lt_trans _ _ _ h2 h1⟩
theorem above_asymm {a b : Ent} (h : above a b = true) : above b a = false := by
  rcases h2 : above b a
  · rfl
  · have := above_trans h h2
    rw [above_irrefl] at this; cases this
theorem above_conn {a b : Ent} (hk : a.key = b.key) (h1 : above a b = false) (h2 : above b a = false) : a = b := by
  obtain ⟨k, v, x⟩ := a
  obtain ⟨k', v', x'⟩ := b
  have e1 : ¬ (v' < v ∨ v = v' ∧ lt x' x = true) := fun h => by rw [(above_iff _ _).2 h] at h1; cases h1
  have e2 : ¬ (v < v' ∨ v' = v ∧ lt x x' = true) := fun h => by rw [(above_iff _ _).2 h] at h2; cases h2
  have ev : v = v' := by omega
  subst ev
  have l1 : lt x' x = false := by
    rcases h : lt x' x
    · rfl
    · exact absurd (Or.inr ⟨rfl, h⟩) e1
  have l2 : lt x x' = false := by
    rcases h : lt x x'
    · rfl
    · exact absurd (Or.inr ⟨rfl, h⟩) e2
  have := lt_conn _ _ l2 l1
  subst this
  have : k = k' := hk
  subst this
  rfl

/-! ### Tables -/
def may (x : Ent) : Prop := 0 ≤ x.key ∧ x.key < 12 ∧ 1 ≤ x.ver ∧ x.ver ≤ 1099511627776 ∧ x.val.length ≤ 200
instance (x : Ent) : Decidable (may x) := by unfold may; exact inferInstance
def rising : List Ent → Prop
  | [] => True
  | x :: r => (∀ y ∈ r, x.key < y.key) ∧ rising r
def right (l : List Ent) : Prop := (∀ x ∈ l, may x) ∧ rising l
def get (l : List Ent) (k : Int) : Option Ent := l.find? fun x => x.key == k
def put : List Ent → Ent → List Ent
  | [], x => [x]
  | y :: r, x => if y.key < x.key then y :: put r x else if y.key = x.key then x :: r else x :: y :: r
/-- the better one of two of one key -/
def best : Option Ent → Option Ent → Option Ent
  | none, y => y
  | some x, none => some x
  | some x, some y => if above y x then some y else some x
def step (l : List Ent) (y : Ent) : List Ent :=
  match get l y.key with
  | none => put l y
  | some x => if above y x then put l y else l
def join (a b : List Ent) : List Ent := b.foldl step a
def over (a b : List Ent) : Prop := join a b = a
def aboves (l : List Ent) (v : Int) : List Ent := l.filter fun x => decide (v < x.ver)
def top (l : List Ent) : Int := l.foldl (fun n x => max n x.ver) 0

theorem get_nil (k : Int) : get [] k = none := rfl
theorem get_cons (x : Ent) (r : List Ent) (k : Int) : get (x :: r) k = if x.key = k then some x else get r k := by
  unfold get
  rw [List.find?_cons]
  by_cases h : x.key = k
  · simp [h]
  · have hb : (x.key == k) = false := beq_eq_false_iff_ne.2 h
    rw [hb, if_neg h]
theorem get_key {l : List Ent} {k : Int} {x : Ent} (h : get l k = some x) : x.key = k ∧ x ∈ l := by
  unfold get at h
  exact ⟨by simpa using List.find?_some h, List.mem_of_find?_eq_some h⟩
theorem get_low {l : List Ent} {k : Int} (h : ∀ y ∈ l, k < y.key) : get l k = none := by
  unfold get
  rw [List.find?_eq_none]
  intro y hy
  have := h y hy
  simp; omega
theorem get_of_mem {l : List Ent} (hr : rising l) {x : Ent} (hx : x ∈ l) : get l x.key = some x := by
  induction l with
  | nil => cases hx
  | cons y r ih =>
    rw [get_cons]
    rcases List.mem_cons.1 hx with rfl | hx
    · rw [if_pos rfl]
    · have := hr.1 x hx
      rw [if_neg (by omega)]
      exact ih hr.2 hx
/-- tables that may be are the same if they hold the same -/
theorem rising_ext : ∀ {l m : List Ent}, rising l → rising m → (∀ k, get l k = get m k) → l = m := by
  intro l
  induction l with
  | nil =>
    intro m _ hm h
    cases m with
    | nil => rfl
    | cons y s =>
      have := h y.key
      rw [get_cons, if_pos rfl] at this
      cases this
  | cons x r ih =>
    intro m hl hm h
    cases m with
    | nil =>
      have := h x.key
      rw [get_cons, if_pos rfl] at this
      cases this
    | cons y s =>
      have h1 := h x.key
      have h2 := h y.key
      rw [get_cons, get_cons, if_pos rfl] at h1
      rw [get_cons, get_cons, if_pos rfl] at h2
      have hxy : x = y := by
        by_cases hk : y.key = x.key
        · rw [if_pos hk] at h1; injection h1
        · rw [if_neg hk] at h1
          rw [if_neg (fun e => hk e.symm)] at h2
          have a1 := (get_key h1.symm).2
          have a2 := (get_key h2).2
          have b1 := hm.1 _ a1
          have b2 := hl.1 _ a2
          omega
      subst hxy
      rw [ih hl.2 hm.2]
      intro k
      have := h k
      rw [get_cons, get_cons] at this
      by_cases hk : x.key = k
      · subst hk
        rw [get_low hl.1, get_low hm.1]
      · rwa [if_neg hk, if_neg hk] at this
theorem put_mem {l : List Ent} {x y : Ent} (h : y ∈ put l x) : y = x ∨ y ∈ l := by
  induction l with
  | nil => simp [put] at h; exact Or.inl h
  | cons z r ih =>
    simp only [put] at h
    split at h
    · rcases List.mem_cons.1 h with rfl | h
      · simp
      · rcases ih h with h | h
        · exact Or.inl h
        · exact Or.inr (List.mem_cons_of_mem _ h)
    · split at h
      · rcases List.mem_cons.1 h with rfl | h
        · exact Or.inl rfl
        · exact Or.inr (List.mem_cons_of_mem _ h)
      · rcases List.mem_cons.1 h with rfl | h
        · exact Or.inl rfl
        · exact Or.inr h
theorem put_rising {l : List Ent} (h : rising l) (x : Ent) : rising (put l x) := by
  induction l with
  | nil => simp [put, rising]
  | cons z r ih =>
    simp only [put]
    split
    · rename_i hlt
      refine ⟨fun y hy => ?_, ih h.2⟩
      rcases put_mem hy with rfl | hy
      · exact hlt
      · exact h.1 y hy
    · split
      · rename_i _ he
        exact ⟨fun y hy => by have := h.1 y hy; omega, h.2⟩
      · refine ⟨fun y hy => ?_, h⟩
        rcases List.mem_cons.1 hy with rfl | hy
        · omega
        · have := h.1 y hy; omega
theorem put_right {l : List Ent} (h : right l) {x : Ent} (hx : may x) : right (put l x) := by
  refine ⟨fun y hy => ?_, put_rising h.2 x⟩
  rcases put_mem hy with rfl | hy
  · exact hx
  · exact h.1 y hy
theorem get_put {l : List Ent} (h : rising l) (x : Ent) (k : Int) : get (put l x) k = if x.key = k then some x else get l k := by
  induction l with
  | nil => simp only [put]; rw [get_cons, get_nil]
  | cons z r ih =>
    simp only [put]
    split
    · rename_i hlt
      rw [get_cons, get_cons, ih h.2]
      by_cases hz : z.key = k
      · rw [if_pos hz, if_pos hz, if_neg (by omega)]
      · rw [if_neg hz, if_neg hz]
    · split
      · rename_i _ he
        rw [get_cons, get_cons]
        by_cases hx : x.key = k
        · rw [if_pos hx, if_pos hx]
        · rw [if_neg hx, if_neg hx, if_neg (by omega)]
      · rw [get_cons]
theorem step_rising {l : List Ent} (h : rising l) (y : Ent) : rising (step l y) := by
  unfold step
  split
  · exact put_rising h y
  · split
    · exact put_rising h y
    · exact h
theorem step_right {l : List Ent} (h : right l) {y : Ent} (hy : may y) : right (step l y) := by
  unfold step
  split
  · exact put_right h hy
  · split
    · exact put_right h hy
    · exact h
theorem get_step {l : List Ent} (h : rising l) (y : Ent) (k : Int) : get (step l y) k = if y.key = k then best (get l k) (some y) else get l k := by
  unfold step
  by_cases hk : y.key = k
  · subst hk
    rw [if_pos rfl]
    rcases hg : get l y.key with _ | x
    · dsimp only
      rw [get_put h, if_pos rfl]; rfl
    · dsimp only [best]
      split
      · rw [get_put h, if_pos rfl]
      · exact hg
  · rw [if_neg hk]
    split
    · rw [get_put h, if_neg hk]
    · split
      · rw [get_put h, if_neg hk]
      · rfl
theorem best_none (x : Option Ent) : best x none = x := by cases x <;> rfl
theorem join_rising {a : List Ent} (ha : rising a) (b : List Ent) : rising (join a b) := by
  unfold join
  induction b generalizing a with
  | nil => exact ha
  | cons y s ih => exact ih (step_rising ha y)
theorem join_right {a b : List Ent} (ha : right a) (hb : right b) : right (join a b) := by
  replace hb := hb.1
  unfold join
  induction b generalizing a with
  | nil => exact ha
  | cons y s ih => exact ih (step_right ha (hb y (by simp))) (fun z hz => hb z (by simp [hz]))
theorem get_join {a b : List Ent} (ha : rising a) (hb : rising b) (k : Int) : get (join a b) k = best (get a k) (get b k) := by
  unfold join
  induction b generalizing a with
  | nil => rw [get_nil, best_none]; rfl
  | cons y s ih =>
    rw [List.foldl_cons, ih (step_rising ha y) hb.2, get_step ha, get_cons]
    by_cases hk : y.key = k
    · subst hk
      rw [if_pos rfl, if_pos rfl, get_low hb.1, best_none]
    · rw [if_neg hk, if_neg hk]

/-! ### The lattice -/
/-- entries of one key, if any -/
def alike (x y : Option Ent) : Prop := ∀ a b, x = some a → y = some b → a.key = b.key
theorem alike_get (a b : List Ent) (k : Int) : alike (get a k) (get b k) := fun x y hx hy => by rw [(get_key hx).1, (get_key hy).1]
theorem best_comm {x y : Option Ent} (h : alike x y) : best x y = best y x := by
  rcases x with _ | x
  · rw [best_none]; rfl
  · rcases y with _ | y
    · rfl
    · have hk := h x y rfl rfl
      simp only [best]
      rcases h1 : above y x
      · rcases h2 : above x y
        · simp [above_conn hk h2 h1]
        · simp
      · rw [above_asymm h1]; simp
theorem best_self (x : Option Ent) : best x x = x := by
  rcases x with _ | x
  · rfl
  · simp [best]
theorem best_assoc {x y z : Option Ent} (h1 : alike x y) (h2 : alike y z) : best (best x y) z = best x (best y z) := by
  rcases x with _ | x
  · rfl
  · rcases y with _ | y
    · rfl
    · rcases z with _ | z
      · rw [best_none, best_none]
      · have k1 := h1 x y rfl rfl
        have k2 := h2 y z rfl rfl
        simp only [best]
        rcases a1 : above y x
        · rcases a2 : above z y
          · simp only [Bool.false_eq_true, if_false, best, a1]
            rcases a3 : above z x
            · rfl
            · -- z above x, y not above x, z not above y: y = x or x above y
              exfalso
              rcases a4 : above x y
              · have := above_conn k1 a4 a1
                subst this
                rw [a3] at a2; cases a2
              · rw [above_trans a3 a4] at a2; cases a2
          · simp only [Bool.false_eq_true, if_false, if_true, best]
        · rcases a2 : above z y
          · simp only [Bool.false_eq_true, if_false, if_true, best, a1, a2]
          · simp only [if_true, best, a2, above_trans a2 a1]
theorem alike_best {x y z : Option Ent} (h1 : alike x z) (h2 : alike y z) : alike (best x y) z := by
  intro a c ha hc
  rcases x with _ | x
  · exact h2 a c ha hc
  · rcases y with _ | y
    · exact h1 a c ha hc
    · simp only [best] at ha
      split at ha
      · exact h2 a c ha hc
      · exact h1 a c ha hc

theorem join_comm {a b : List Ent} (ha : rising a) (hb : rising b) : join a b = join b a :=
  rising_ext (join_rising ha b) (join_rising hb a) fun k => by rw [get_join ha hb, get_join hb ha, best_comm (alike_get a b k)]
theorem join_assoc {a b c : List Ent} (ha : rising a) (hb : rising b) (hc : rising c) : join (join a b) c = join a (join b c) :=
  rising_ext (join_rising (join_rising ha b) c) (join_rising ha _) fun k => by
    rw [get_join (join_rising ha b) hc, get_join ha hb, get_join ha (join_rising hb c), get_join hb hc, best_assoc (alike_get a b k) (alike_get b c k)]
theorem join_self {a : List Ent} (ha : rising a) : join a a = a :=
  rising_ext (join_rising ha a) ha fun k => by rw [get_join ha ha, best_self]
theorem over_join {a b : List Ent} (ha : rising a) (hb : rising b) : over (join a b) a := by
  unfold over
  rw [join_comm (join_rising ha b) ha, ← join_assoc ha ha hb, join_self ha]
theorem over_join2 {a b : List Ent} (ha : rising a) (hb : rising b) : over (join a b) b := by
  unfold over
  rw [join_assoc ha hb hb, join_self hb]
theorem over_least {a b c : List Ent} (ha : rising a) (hb : rising b) (hc : rising c) (h1 : over c a) (h2 : over c b) : over c (join a b) := by
  unfold over at *
  rw [← join_assoc hc ha hb, h1, h2]
theorem over_self {a : List Ent} (ha : rising a) : over a a := join_self ha
theorem over_nil (a : List Ent) : over a [] := rfl
theorem over_antisymm {a b : List Ent} (ha : rising a) (hb : rising b) (h1 : over a b) (h2 : over b a) : a = b := by
  unfold over at *
  rw [← h1, join_comm ha hb, h2]
theorem over_get {a b : List Ent} (ha : rising a) (hb : rising b) (h : over a b) {y : Ent} (hy : y ∈ b) : ∃ x, get a y.key = some x ∧ y.ver ≤ x.ver := by
  have h1 := get_join ha hb y.key
  rw [show join a b = a from h, get_of_mem hb hy] at h1
  rcases hg : get a y.key with _ | x
  · rw [hg] at h1; simp [best] at h1
  · refine ⟨x, rfl, ?_⟩
    rw [hg] at h1
    simp only [best] at h1
    rcases h2 : above y x
    · have : ¬ (x.ver < y.ver ∨ y.ver = x.ver ∧ lt x.val y.val = true) := fun h => by rw [(above_iff _ _).2 h] at h2; cases h2
      omega
    · rw [h2] at h1
      simp at h1
      rw [h1]; exact Int.le_refl _

/-! ### The greatest version -/
theorem fold_ge (l : List Ent) (n : Int) : n ≤ l.foldl (fun n x => max n x.ver) n := by
  induction l generalizing n with
  | nil => exact Int.le_refl _
  | cons x r ih => exact Int.le_trans (Int.le_max_left _ _) (ih _)
theorem fold_mem {l : List Ent} {x : Ent} (hx : x ∈ l) (n : Int) : x.ver ≤ l.foldl (fun n x => max n x.ver) n := by
  induction l generalizing n with
  | nil => cases hx
  | cons y r ih =>
    rcases List.mem_cons.1 hx with rfl | hx
    · exact Int.le_trans (Int.le_max_right _ _) (fold_ge r _)
    · exact ih hx _
theorem fold_le {l : List Ent} {m : Int} (h : ∀ x ∈ l, x.ver ≤ m) {n : Int} (hn : n ≤ m) : l.foldl (fun n x => max n x.ver) n ≤ m := by
  induction l generalizing n with
  | nil => exact hn
  | cons y r ih => exact ih (fun x hx => h x (by simp [hx])) (Int.max_le.2 ⟨hn, h y (by simp)⟩)
theorem top_ge {l : List Ent} {x : Ent} (hx : x ∈ l) : x.ver ≤ top l := fold_mem hx 0
theorem top_nonneg (l : List Ent) : 0 ≤ top l := fold_ge l 0
theorem top_le {l : List Ent} {m : Int} (h0 : 0 ≤ m) (h : ∀ x ∈ l, x.ver ≤ m) : top l ≤ m := fold_le h h0
theorem mem_of_get {l : List Ent} {k : Int} {x : Ent} (h : get l k = some x) : x ∈ l := (get_key h).2
theorem top_join {a b : List Ent} (ha : rising a) (hb : rising b) : top (join a b) = max (top a) (top b) := by
  apply Int.le_antisymm
  · refine top_le (Int.le_trans (top_nonneg a) (Int.le_max_left _ _)) fun x hx => ?_
    have h1 := get_of_mem (join_rising ha b) hx
    rw [get_join ha hb] at h1
    rcases hga : get a x.key with _ | y
    · rw [hga] at h1
      exact Int.le_trans (top_ge (mem_of_get (show get b x.key = some x from h1))) (Int.le_max_right _ _)
    · rcases hgb : get b x.key with _ | z
      · rw [hga, hgb] at h1
        injection h1 with h1; subst h1
        exact Int.le_trans (top_ge (mem_of_get hga)) (Int.le_max_left _ _)
      · rw [hga, hgb] at h1
        simp only [best] at h1
        split at h1
        · injection h1 with h1; subst h1
          exact Int.le_trans (top_ge (mem_of_get hgb)) (Int.le_max_right _ _)
        · injection h1 with h1; subst h1
          exact Int.le_trans (top_ge (mem_of_get hga)) (Int.le_max_left _ _)
  · refine Int.max_le.2 ⟨top_le (top_nonneg _) fun x hx => ?_, top_le (top_nonneg _) fun x hx => ?_⟩
    · obtain ⟨y, hy, h2⟩ := over_get (join_rising ha b) ha (over_join ha hb) hx
      exact Int.le_trans h2 (top_ge (mem_of_get hy))
    · obtain ⟨y, hy, h2⟩ := over_get (join_rising ha b) hb (over_join2 ha hb) hx
      exact Int.le_trans h2 (top_ge (mem_of_get hy))
end E
end Go.Proofs.Ytfgpncbcelafoaa
